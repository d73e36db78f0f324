/- Own texts joined: FoJ, SdB, OpsT, LesI, OpsM, PutV, L5fo, QGr. -/
import Derived.Test.YtnfafchajjclaaaGreatDoorJa
import Derived.Test.YtnfafchajjclaaaGreatDoorJb
import Derived.Test.YtnfafchajjclaaaGreatDoorJc
import Derived.Test.YtnfafchajjclaaaGreatDoorJd
import Derived.Test.YtnfafchajjclaaaGreatDoorJe
import Derived.Test.YtnfafchajjclaaaGreatDoorJf
import Derived.Test.YtnfafchajjclaaaGreatDoorJg
import Derived.Test.YtnfafchajjclaaaGreatDoorJh
import Derived.Test.YtnfafchajjclaaaGreatDoorJi
import Derived.Deep.RegionHeld3
import Derived.BigQuiet

/- The forest's addKids. -/
namespace Go.Proofs.YtnfafchajjclaaaGreatDoor
open Go.RowKit Go.Maps
set_option linter.unusedVariables false
set_option maxRecDepth 100000

def AddSaid (n : Nat) : Prop := ∀ (w0 : World) (B : Nat) (w : World) (g mb : Nat) (a : Option Addr) (c : Nat) (l : List PlV) (F : List Nat) (iN iR : Int) (ks : List (Tr n)) (a4 : Option Addr) (c4 : Nat), w0.heap.size ≤ B → Below w0.heap.size w0 w → FoS B w g mb a c l F → RdKids n w0 (.slice a4 ks.length c4) ks → okI (iN, iR) → SeedIds l → (seedK n (iN, iR) ks l).length ≤ 100000 → (∀ x ∈ ks, szT n x ≤ 2097152) →
    Calls Tryz.prog 63 #[.pointer (some ⟨g, 0, none⟩), .agg #[.int .i64 iN, .int .i64 iR], .slice a4 ks.length c4] w fun e w' => e = .returned (.tuple #[]) ∧ FoT B w g mb (seedK n (iN, iR) ks l) F w'
def Aj4 (w3 : World) (g kb : Nat) (a_ : Option Addr) (c_ : Nat) (m : List PlV) {n : Nat} (x : Nd (Tr n)) (ad1 ad2 ad3 ad4 : Option Addr) (cp1 cp2 cp3 cp4 : Nat) (s1 s2 s3 s4 s5 s6 s9 s10 s11 s12 s13 s14 s15 s24 s25 s26 s27 s28 s29 s30 s31 s32 s33 s34 s35 s36 s37 s38 s39 : Value) (L : Array Bool) (a : Act) (w : World) : Prop :=
  ∀ C : Prop, (∀ (b0 b1 b2 b3 b4 b5 b6 b7 b8 b9 : Bool) (x8 x16 x17 x18 x19 x20 x21 x22 x23 : Value), L = #[b0, b1, b2, b3, b4, b5, b6, b7, b8, b9] → a = { tmps := #[.pointer (some ⟨g, 0, none⟩), s1, s2, s3, s4, s5, s6, .pointer (some ⟨kb, 0, none⟩), x8, s9, s10, s11, s12, s13, s14, s15, x16, x17, x18, x19, x20, x21, x22, x23, s24, s25, s26, s27, s28, s29, s30, s31, s32, s33, s34, s35, s36, s37, s38, s39], defers := [] } → Below w3.heap.size w3 w → (b0 = true → x16 = .pointer (some ⟨g, 0, none⟩)) → (b1 = true → x17 = .pointer (some ⟨g, 0, none⟩)) → (b2 = true → x18 = .pointer (some ⟨g, 0, none⟩)) → (b3 = true → x19 = .slice a_ m.length c_) → (b4 = true → x20 = .int .i64 (m.length : Int)) → (b5 = true → x21 = .agg #[.int .i64 0, .int .i64 (m.length : Int)]) → (b6 = true → x22 = .agg #[.int .i64 x.kind, .slice ad1 x.name.length cp1, .slice ad2 x.text.length cp2, .slice ad3 x.attrs.length cp3, .slice ad4 x.kids.length cp4]) → (b7 = true → ∃ p2 k2 p3 k3 p4 k4 Fa, x23 = .agg #[.int .i64 0, .int .i64 (m.length : Int), .int .i64 0, .int .i64 0, .slice none 0 0, .int .i64 x.kind, .slice p2 x.name.length k2, .slice p3 x.text.length k3, .slice p4 x.attrs.length k4] ∧ Own w 0 (.slice p2 x.name.length k2) x.name ∧ Own w 0 (.slice p3 x.text.length k3) x.text ∧ OwAttrs w (.slice p4 x.attrs.length k4) x.attrs Fa ∧ (FB (.slice p2 x.name.length k2) ++ FB (.slice p3 x.text.length k3) ++ Fa).Nodup ∧ (∀ q ∈ FB (.slice p2 x.name.length k2) ++ FB (.slice p3 x.text.length k3) ++ Fa, w3.heap.size ≤ q)) → (b8 = true → ∃ pb, x8 = .pointer (some ⟨pb, 0, none⟩) ∧ w3.heap.size ≤ pb ∧ (b9 = false → Loc w pb #[.int .i64 0, .int .i64 0, .int .i64 0, .int .i64 0, .slice none 0 0, .int .i64 0, .slice none 0 0, .slice none 0 0, .slice none 0 0] 107)) → (b9 = true → b8 = true ∧ ∃ pb p2 k2 p3 k3 p4 k4 Fa, x8 = .pointer (some ⟨pb, 0, none⟩) ∧ Loc w pb #[.int .i64 0, .int .i64 (m.length : Int), .int .i64 0, .int .i64 0, .slice none 0 0, .int .i64 x.kind, .slice p2 x.name.length k2, .slice p3 x.text.length k3, .slice p4 x.attrs.length k4] 107 ∧ Own w 0 (.slice p2 x.name.length k2) x.name ∧ Own w 0 (.slice p3 x.text.length k3) x.text ∧ OwAttrs w (.slice p4 x.attrs.length k4) x.attrs Fa ∧ (FB (.slice p2 x.name.length k2) ++ FB (.slice p3 x.text.length k3) ++ Fa).Nodup ∧ (∀ q ∈ FB (.slice p2 x.name.length k2) ++ FB (.slice p3 x.text.length k3) ++ Fa, w3.heap.size ≤ q)) → C) → C
theorem Aj4_cases {i : Nat} (h : i < 10) : i = 0 ∨ i = 1 ∨ i = 2 ∨ i = 3 ∨ i = 4 ∨ i = 5 ∨ i = 6 ∨ i = 7 ∨ i = 8 ∨ i = 9 := by omega
set_option maxHeartbeats 25600000 in
theorem addKids_core (n : Nat) (hI : AddSaid n) : AddSaid (n + 1) := by
  intro w0 B w g mb a c l F iN iR ks a4 c4 hB0 hw0 h hK hi hS hN hZ
  refine calls_via ?_
  intro Q HQ
  have HI := hide hI
  have hA : Below w.heap.size w (w.alloc (.cells #[.int .i64 iN, .int .i64 iR] 66)) := (Below.refl _ _).alloc (Nat.le_refl _) _
  have l0 := Loc.made w #[.int .i64 iN, .int .i64 iR] 66
  have LL := hide (And.intro hA (And.intro l0 (And.intro (h.keep hA) (show (w.alloc (.cells #[.int .i64 iN, .int .i64 iR] 66)).heap.size = w.heap.size + 1 by simp))))
  obtain ⟨R, hR⟩ : ∃ R, R = seedK (n + 1) (iN, iR) ks l := ⟨_, rfl⟩
  rw [← hR] at HQ
  have HR := hide hR
  have hjl : ∀ j, (seedJ n (iN, iR) ks l j).length ≤ 100000 := fun j => Nat.le_trans (seedJ_le n (iN, iR) ks l j) hN
  have hK63 : ks.length ≤ maxLen := hK.1
  unfold maxLen at hK63
  have HGF := hide (show g < w.heap.size ∧ mb < w.heap.size ∧ (∀ q ∈ F, q < w.heap.size) ∧ (∀ q ∈ g :: mb :: F, B ≤ q) from ⟨h.set.lt, h.map.lt, OwPlsM.lt h.row, fun q hq => by rcases List.mem_cons.1 hq with rfl | hq; (exact h.geg); (rcases List.mem_cons.1 hq with rfl | hq; (exact h.gem); (exact h.ge q hq))⟩)
  have HK := hide (And.intro hK (And.intro hi (And.intro hS (And.intro hjl (And.intro hZ (And.intro hB0 hw0))))))
  clear hA l0 hR hK hI hjl hN h hi hS hZ hB0 hw0
  go_enter Tryz.func63, Tryz.ntmps63
  go_wp2_with fail
  obtain ⟨hA, l0, h1, hsz1⟩ := unhide LL
  clear LL
  generalize (w.alloc (.cells #[.int .i64 iN, .int .i64 iR] 66)) = w1 at *
  go_loopw [11] (fun xv wr => ∃ (j : Nat) (a' : Option Addr) (c' : Nat) (F' : List Nat), j ≤ ks.length ∧ xv = .int .i64 (j : Int) ∧ FoS B wr g mb a' c' (seedJ n (iN, iR) ks l j) F' ∧ Frm w wr (g :: mb :: F) ∧ (∀ q ∈ F', q ∈ F ∨ w.heap.size + 1 ≤ q) ∧ Loc wr w.heap.size #[.int .i64 iN, .int .i64 iR] 66) (fun xv _ => ((ks.length : Int) - intOf xv).toNat)
  case atStart => exact ⟨0, a, c, F, Nat.zero_le _, rfl, h1, Frm.ofBelow hA _, fun q hq => .inl hq, l0⟩
  case round =>
    clear l0 h1 hA
    obtain ⟨j, a', c', F', hj, rfl, hs, hf, hF', l0⟩ := hrel
    by_cases hlt : j < ks.length
    · have hlt' : (j : Int) < (ks.length : Int) := by omega
      have hj0 : (0 : Int) ≤ (j : Int) := by omega
      obtain ⟨bk, off, rfl, hb9, _, _, C, hC, hcell, hrd⟩ := Elems.at (unhide HK).1 hlt
      obtain ⟨x, hx⟩ : ∃ x : Nd (Tr n), x = ks[j] := ⟨_, rfl⟩
      have hnext : seedJ n (iN, iR) ks l (j + 1) = seedF n (iN, iR) (seedJ n (iN, iR) ks l j) (x, j) := by rw [hx]; exact seedJ_succ n (iN, iR) ks l hlt
      have hsx : szT (n + 1) x ≤ 2097152 := (unhide HK).2.2.2.2.1 x (by rw [hx]; exact List.getElem_mem hlt)
      replace hrd : RdNode (n + 1) w0 C x := by rw [hx]; exact hrd
      have hrd0 := hrd
      obtain ⟨_, _, _, _, eC, _, _, q1, q2, q3, q4⟩ := hrd
      obtain ⟨ad1, cp1, rfl, _⟩ := q1.shape
      obtain ⟨ad2, cp2, rfl, _⟩ := q2.shape
      obtain ⟨ad3, cp3, rfl, _⟩ := Elems.shape q3
      obtain ⟨ad4, cp4, rfl, _⟩ := Elems.shape q4
      have h06 : Below w0.heap.size w0 wr := (unhide HK).2.2.2.2.2.2.trans (hf.below (unhide HK).2.2.2.2.2.2.size (fun q hq => Nat.le_trans (unhide HK).2.2.2.2.2.1 ((unhide HGF).2.2.2 q hq)))
      have v0_ : wr.cell? ⟨bk, off + j * 5, none⟩ = some (.int .i64 x.kind) := by have h7 := hcell 0 (by decide); rw [eC] at h7; simp only [List.getElem?_cons_zero, Nat.add_zero] at h7; exact (h06.cell (p := ⟨bk, off + j * 5, none⟩) hb9).trans h7
      have v1_ : wr.cell? ⟨bk, off + j * 5 + 1, none⟩ = some (.slice ad1 x.name.length cp1) := by have h7 := hcell 1 (by decide); rw [eC] at h7; simp only [List.getElem?_cons_zero, List.getElem?_cons_succ] at h7; exact (h06.cell (p := ⟨bk, off + j * 5 + 1, none⟩) hb9).trans h7
      have v2_ : wr.cell? ⟨bk, off + j * 5 + 2, none⟩ = some (.slice ad2 x.text.length cp2) := by have h7 := hcell 2 (by decide); rw [eC] at h7; simp only [List.getElem?_cons_zero, List.getElem?_cons_succ] at h7; exact (h06.cell (p := ⟨bk, off + j * 5 + 2, none⟩) hb9).trans h7
      have v3_ : wr.cell? ⟨bk, off + j * 5 + 3, none⟩ = some (.slice ad3 x.attrs.length cp3) := by have h7 := hcell 3 (by decide); rw [eC] at h7; simp only [List.getElem?_cons_zero, List.getElem?_cons_succ] at h7; exact (h06.cell (p := ⟨bk, off + j * 5 + 3, none⟩) hb9).trans h7
      have v4_ : wr.cell? ⟨bk, off + j * 5 + 4, none⟩ = some (.slice ad4 x.kids.length cp4) := by have h7 := hcell 4 (by decide); rw [eC] at h7; simp only [List.getElem?_cons_zero, List.getElem?_cons_succ] at h7; exact (h06.cell (p := ⟨bk, off + j * 5 + 4, none⟩) hb9).trans h7
      have hAa : Below wr.heap.size wr (wr.alloc (.cells #[.int .i64 x.kind, .slice ad1 x.name.length cp1, .slice ad2 x.text.length cp2, .slice ad3 x.attrs.length cp3, .slice ad4 x.kids.length cp4] 38)) := (Below.refl _ _).alloc (Nat.le_refl _) _
      rw [eC] at hrd0
      have LL := hide (And.intro (Loc.made wr #[.int .i64 x.kind, .slice ad1 x.name.length cp1, .slice ad2 x.text.length cp2, .slice ad3 x.attrs.length cp3, .slice ad4 x.kids.length cp4] 38) (And.intro (hs.keep hAa) (And.intro (hf.moreS (Frm.ofBelow hAa []) (fun q hq => by cases hq)) (And.intro (l0.all hAa) (And.intro (hrd0.keep (bstep h06 hAa)) (And.intro (bstep h06 hAa) (show wr.heap.size < (wr.alloc (.cells #[.int .i64 x.kind, .slice ad1 x.name.length cp1, .slice ad2 x.text.length cp2, .slice ad3 x.attrs.length cp3, .slice ad4 x.kids.length cp4] 38)).heap.size by simp)))))))
      have HN := hide hnext
      have HQ4 := hide q4
      have HFK := hide (show ∀ q ∈ F', q < wr.heap.size from fun q hq => OwPlsM.lt hs.row q hq)
      have LW := hide (show w.heap.size + 1 ≤ wr.heap.size from l0.lt)
      have HSJ := hide (SeedIds.J n (iN, iR) ks l j (unhide HK).2.2.1)
      have hml := (unhide HK).2.2.2.1 j
      clear hs hf l0 hAa hnext q1 q2 q3 q4 eC hcell hx h06 hrd0
      generalize hml' : seedJ n (iN, iR) ks l j = m at *
      go_upto_region 4 with fail
      obtain ⟨lk, hs, hf, l0, hrd3, h03, hw3⟩ := unhide LL
      clear LL v0_ v1_ v2_ v3_ v4_
      have hkb0 := unhide LW
      clear LW
      generalize wr.alloc (.cells #[.int .i64 x.kind, .slice ad1 x.name.length cp1, .slice ad2 x.text.length cp2, .slice ad3 x.attrs.length cp3, .slice ad4 x.kids.length cp4] 38) = w3 at *
      generalize wr.heap.size = kb at *
      have hFk : ∀ q ∈ F', q < kb := unhide HFK
      clear HFK
      obtain ⟨cs3, lg3, hc3, _⟩ := hs.set.loc
      have y0 : w3.cell? ⟨g, 0, none⟩ = some (.slice a' m.length c') := (lg3.cell 0).trans hc3
      have k0_0 := lk.cell 0
      have k1_0 := lk.cell 1
      have k2_0 := lk.cell 2
      have k3_0 := lk.cell 3
      have k4_0 := lk.cell 4
      have gz3 := hs.set.lt
      have kb3 := lk.lt
      have HX := hide (And.intro lk (And.intro hs (And.intro hf (And.intro l0 h03))))
      clear lk hs hf l0 lg3 hc3 h03
      refine region_inv (by kernel_rfl) (Aj4 w3 g kb a' c' m x ad1 ad2 ad3 ad4 cp1 cp2 cp3 cp4 (.agg #[.int .i64 iN, .int .i64 iR]) (.slice (some ⟨bk, off, none⟩) ks.length c4) (undef) (.pointer (some ⟨w.heap.size, 0, none⟩)) (undef) (.int .i64 (j : Int)) (.slice (some ⟨bk, off, none⟩) ks.length c4) (.int .i64 (ks.length : Int)) (.int .i64 (j : Int)) (.bool true) (.int .i64 (j : Int)) (.pointer (some ⟨bk, off + j * 5, none⟩)) (.agg #[.int .i64 x.kind, .slice ad1 x.name.length cp1, .slice ad2 x.text.length cp2, .slice ad3 x.attrs.length cp3, .slice ad4 x.kids.length cp4]) (u24) (u25) (u26) (u27) (u28) (u29) (u30) (u31) (u32) (u33) (u34) (u35) (u36) (u37) (u38) (u39)) ?sz ?h0 ?stp ?dn
      case sz =>
        intro L a w hI
        refine hI _ ?_
        intro b0 b1 b2 b3 b4 b5 b6 b7 b8 b9 x8 x16 x17 x18 x19 x20 x21 x22 x23 eL eA h0 f0 f1 f2 f3 f4 f5 f6 f7 f8 f9
        subst eL
        rfl
      case h0 =>
        exact fun _ k_ => k_ false false false false false false false false false false _ _ _ _ _ _ _ _ _ rfl rfl ((Below.refl _ _).drew) (fun h => by cases h) (fun h => by cases h) (fun h => by cases h) (fun h => by cases h) (fun h => by cases h) (fun h => by cases h) (fun h => by cases h) (fun h => by cases h) (fun h => by cases h) (fun h => by cases h)
      case stp =>
        intro L a_9 w9_ i_ o_ hI hi ho
        refine hI _ ?_
        clear hI
        intro b0 b1 b2 b3 b4 b5 b6 b7 b8 b9 x8 x16 x17 x18 x19 x20 x21 x22 x23 eL eA h0 f0 f1 f2 f3 f4 f5 f6 f7 f8 f9
        subst eL eA
        rcases Aj4_cases (ready_lt hi) with rfl | rfl | rfl | rfl | rfl | rfl | rfl | rfl | rfl | rfl
        · obtain rfl := Option.some.inj ho
          go_simp
          exact fun _ k_ => k_ true b1 b2 b3 b4 b5 b6 b7 b8 b9 x8 _ x17 x18 x19 x20 x21 x22 x23 rfl rfl h0 (fun _ => rfl) f1 f2 f3 f4 f5 f6 f7 f8 f9
        · have g0 := ready_pred hi ho 0
          obtain rfl := Option.some.inj ho
          have e0 := f0 (g0 (by kernel_rfl))
          subst e0
          go_simp
          exact fun _ k_ => k_ b0 true b2 b3 b4 b5 b6 b7 b8 b9 x8 _ _ x18 x19 x20 x21 x22 x23 rfl rfl h0 f0 (fun _ => rfl) f2 f3 f4 f5 f6 f7 f8 f9
        · have g1 := ready_pred hi ho 1
          obtain rfl := Option.some.inj ho
          have e1 := f1 (g1 (by kernel_rfl))
          subst e1
          go_simp
          exact fun _ k_ => k_ b0 b1 true b3 b4 b5 b6 b7 b8 b9 x8 x16 _ _ x19 x20 x21 x22 x23 rfl rfl h0 f0 f1 (fun _ => rfl) f3 f4 f5 f6 f7 f8 f9
        · have g2 := ready_pred hi ho 2
          obtain rfl := Option.some.inj ho
          have e2 := f2 (g2 (by kernel_rfl))
          subst e2
          have y0_ := (h0.cell (p := ⟨g, 0, none⟩) gz3).trans y0
          go_simp
          exact fun _ k_ => k_ b0 b1 b2 true b4 b5 b6 b7 b8 b9 x8 x16 x17 _ _ x20 x21 x22 x23 rfl rfl h0 f0 f1 f2 (fun _ => rfl) f4 f5 f6 f7 f8 f9
        · have g3 := ready_pred hi ho 3
          obtain rfl := Option.some.inj ho
          have e3 := f3 (g3 (by kernel_rfl))
          subst e3
          go_simp
          exact fun _ k_ => k_ b0 b1 b2 b3 true b5 b6 b7 b8 b9 x8 x16 x17 x18 _ _ x21 x22 x23 rfl rfl h0 f0 f1 f2 f3 (fun _ => rfl) f5 f6 f7 f8 f9
        · have g4 := ready_pred hi ho 4
          obtain rfl := Option.some.inj ho
          have e4 := f4 (g4 (by kernel_rfl))
          subst e4
          go_simp
          exact fun _ k_ => k_ b0 b1 b2 b3 b4 true b6 b7 b8 b9 x8 x16 x17 x18 x19 _ _ x22 x23 rfl rfl h0 f0 f1 f2 f3 f4 (fun _ => rfl) f6 f7 f8 f9
        · obtain rfl := Option.some.inj ho
          have k0_ := (h0.cell (p := ⟨kb, 0, none⟩) kb3).trans k0_0
          have k1_ := (h0.cell (p := ⟨kb, 1, none⟩) kb3).trans k1_0
          have k2_ := (h0.cell (p := ⟨kb, 2, none⟩) kb3).trans k2_0
          have k3_ := (h0.cell (p := ⟨kb, 3, none⟩) kb3).trans k3_0
          have k4_ := (h0.cell (p := ⟨kb, 4, none⟩) kb3).trans k4_0
          go_simp
          exact fun _ k_ => k_ b0 b1 b2 b3 b4 b5 true b7 b8 b9 x8 x16 x17 x18 x19 x20 x21 _ x23 rfl rfl h0 f0 f1 f2 f3 f4 f5 (fun _ => rfl) f7 f8 f9
        · have g5 := ready_pred hi ho 5
          have g6 := ready_pred hi ho 6
          obtain rfl := Option.some.inj ho
          have e5 := f5 (g5 (by kernel_rfl))
          have e6 := f6 (g6 (by kernel_rfl))
          subst e5 e6
          have HC := hide (placeOf_any n w9_ (0, (m.length : Int)) x _ _ _ _ (RdNode.keep (n := n + 1) hrd3 h0) hsx)
          unfold idVal at HC
          have hw39 := h0.size
          go_simp
          refine (unhide HC).mono ?_
          rintro e w8 ⟨p2, k2, p3, k3, p4, k4, Fa, rfl, o1, o2, o3, o4, o5, hb9⟩
          exact fun _ k_ => k_ b0 b1 b2 b3 b4 b5 b6 true b8 b9 x8 x16 x17 x18 x19 x20 _ _ _ rfl rfl (bstep h0 hb9) f0 f1 f2 f3 f4 (fun _ => rfl) (fun _ => rfl) (fun _ => ⟨p2, k2, p3, k3, p4, k4, Fa, rfl, o1, o2, o3, o4, fun q hq => Nat.le_trans hw39 (o5 q hq)⟩) (fun h => by obtain ⟨pb, e, hz, t⟩ := f8 h; exact ⟨pb, e, hz, fun h => (t h).all hb9⟩) (fun h => by obtain ⟨z, pb, p2, k2, p3, k3, p4, k4, Fa, e, l9, o1, o2, o3, o4, o5⟩ := f9 h; exact ⟨z, pb, p2, k2, p3, k3, p4, k4, Fa, e, l9.all hb9, o1.keep hb9, o2.keep hb9, OwAttrs.frm o3 (Frm.ofBelow hb9 []) (fun _ _ => by simp), o4, o5⟩)
        · have hbz : b8 = false := by simpa using ready_off rfl hi
          obtain rfl := Option.some.inj ho
          have hb9 : Below w9_.heap.size w9_ (w9_.alloc (.cells #[.int .i64 0, .int .i64 0, .int .i64 0, .int .i64 0, .slice none 0 0, .int .i64 0, .slice none 0 0, .slice none 0 0, .slice none 0 0] 107)) := (Below.refl _ _).alloc (Nat.le_refl _) _
          have lm9 := Loc.made w9_ #[.int .i64 0, .int .i64 0, .int .i64 0, .int .i64 0, .slice none 0 0, .int .i64 0, .slice none 0 0, .slice none 0 0, .slice none 0 0] 107
          have hw9 := h0.size
          have HBZ := hide hbz
          clear hbz
          go_simp
          exact fun _ k_ => k_ b0 b1 b2 b3 b4 b5 b6 b7 true b9 _ x16 x17 x18 x19 x20 x21 x22 x23 rfl rfl (bstep h0 hb9) f0 f1 f2 f3 f4 f5 f6 (fun h => by obtain ⟨p2, k2, p3, k3, p4, k4, Fa, e, o1, o2, o3, o4, o5⟩ := f7 h; exact ⟨p2, k2, p3, k3, p4, k4, Fa, e, o1.keep hb9, o2.keep hb9, OwAttrs.frm o3 (Frm.ofBelow hb9 []) (fun _ _ => by simp), o4, o5⟩) (fun _ => ⟨w9_.heap.size, rfl, hw9, fun _ => lm9⟩) (fun h => by have := (f9 h).1; rw [unhide HBZ] at this; cases this)
        · have g7 := ready_pred hi ho 7
          have g8 := ready_pred hi ho 8
          have hbz : b9 = false := by simpa using ready_off rfl hi
          obtain rfl := Option.some.inj ho
          have t8 : b8 = true := g8 (by kernel_rfl)
          obtain ⟨p2, k2, p3, k3, p4, k4, Fa, en, o1, o2, o3, o4, o5⟩ := f7 (g7 (by kernel_rfl))
          obtain ⟨pb, ep, hp, lp0⟩ := f8 t8
          have lp := lp0 hbz
          obtain ⟨lpn, fpn⟩ := store9 lp (.int .i64 0) (.int .i64 (m.length : Int)) (.int .i64 0) (.int .i64 0) (.slice none 0 0) (.int .i64 x.kind) (.slice p2 x.name.length k2) (.slice p3 x.text.length k3) (.slice p4 x.attrs.length k4)
          have hB9 := h0.trans (fpn.below h0.size (fun q hq => by simp at hq; omega))
          have q1 := o1.frm fpn (fun q hq hq' => own_loc o1.2 lp (by decide) (by have e9 : q = pb := (by simpa using hq'); rw [← e9]; exact hq))
          have q2 := o2.frm fpn (fun q hq hq' => own_loc o2.2 lp (by decide) (by have e9 : q = pb := (by simpa using hq'); rw [← e9]; exact hq))
          have q3 := OwAttrs.frm o3 fpn (fun q hq hq' => attrs_notL o3 lp (by have e9 : q = pb := (by simpa using hq'); rw [← e9]; exact hq))
          have fz0 := lp.frozen 0
          have fz1 := lp.frozen 1
          have fz2 := lp.frozen 2
          have fz3 := lp.frozen 3
          have fz4 := lp.frozen 4
          have fz5 := lp.frozen 5
          have fz6 := lp.frozen 6
          have fz7 := lp.frozen 7
          have fz8 := lp.frozen 8
          have cz0 := lp.cell 0
          have cz1 := lp.cell 1
          have cz2 := lp.cell 2
          have cz3 := lp.cell 3
          have cz4 := lp.cell 4
          have cz5 := lp.cell 5
          have cz6 := lp.cell 6
          have cz7 := lp.cell 7
          have cz8 := lp.cell 8
          have HW := hide (And.intro t8 (And.intro lpn (And.intro hB9 (And.intro q1 (And.intro q2 q3)))))
          clear t8 lpn fpn hB9 hbz lp lp0 q1 q2 q3 o1 o2 o3
          subst ep en
          go_simp
          exact fun _ k_ => k_ b0 b1 b2 b3 b4 b5 b6 b7 b8 true _ x16 x17 x18 x19 x20 x21 x22 _ rfl rfl ((unhide HW).2.2.1) f0 f1 f2 f3 f4 f5 f6 (fun _ => ⟨p2, k2, p3, k3, p4, k4, Fa, rfl, (unhide HW).2.2.2.1, (unhide HW).2.2.2.2.1, (unhide HW).2.2.2.2.2, o4, o5⟩) (fun _ => ⟨pb, rfl, hp, fun h => by cases h⟩) (fun _ => ⟨(unhide HW).1, pb, p2, k2, p3, k3, p4, k4, Fa, rfl, (unhide HW).2.1, (unhide HW).2.2.2.1, (unhide HW).2.2.2.2.1, (unhide HW).2.2.2.2.2, o4, o5⟩)
      case dn =>
        intro L a_9 w9_ hI hre
        have hall := ready_all (L := L) (by refine hI _ ?_; intro b0 b1 b2 b3 b4 b5 b6 b7 b8 b9 x8 x16 x17 x18 x19 x20 x21 x22 x23 eL eA h0 f0 f1 f2 f3 f4 f5 f6 f7 f8 f9; subst eL; rfl) (by kernel_rfl) hre 10
        refine hI _ ?_
        clear hI
        intro b0 b1 b2 b3 b4 b5 b6 b7 b8 b9 x8 x16 x17 x18 x19 x20 x21 x22 x23 eL eA h0 f0 f1 f2 f3 f4 f5 f6 f7 f8 f9
        subst eL eA
        have t9 : b9 = true := hall 9 (by omega) (by decide)
        obtain ⟨t8, pb9, p2, k2, p3, k3, p4, k4, Fa, ep, lp5, o1, o2, o3, o4, o5⟩ := f9 t9
        obtain ⟨pb', ep9, hp9, _⟩ := f8 t8
        have EP := ep9.symm.trans ep
        injection EP with y1
        injection y1 with y1
        injection y1 with y1 _ _
        subst y1
        clear ep9
        subst ep
        obtain ⟨lk, hs, hf, l0, h03⟩ := unhide HX
        clear HX hall hre t9 t8 f0 f1 f2 f3 f4 f5 f6 f7 f8 f9 y0 k0_0 k1_0 k2_0 k3_0 k4_0 hrd3
        replace lk := lk.all h0
        replace l0 := l0.all h0
        have hgz := hs.set.lt
        have hmz := hs.map.lt
        replace hs := hs.keep h0
        replace hf := hf.moreS (Frm.ofBelow h0 []) (fun q hq => by cases hq)
        replace h03 := h03.trans (h0.mono h03.size)
        have hw35 := h0.size
        clear h0
        obtain ⟨w5, hw5⟩ : ∃ w5, w5 = w9_ := ⟨_, rfl⟩
        rw [← hw5] at lp5 lk l0 hs hf o1 o2 o3 hw35 h03 ⊢
        clear hw5
        obtain ⟨pb, hpb⟩ : ∃ pb, pb = pb' := ⟨_, rfl⟩
        rw [← hpb] at lp5 hp9 ⊢
        clear hpb
        have hwr : IntKind.i64.wrap ((j : Int) + 1) = (j : Int) + 1 := by rw [IntKind.wrap_i64]; have := hK63; omega
        have i0 := l0.cell 0
        have i1 := l0.cell 1
        have hb6 : Below w5.heap.size w5 (w5.alloc (.cells #[.int .i64 ((j : Int) + 1)] 3)) := (Below.refl _ _).alloc (Nat.le_refl _) _
        have lz := Loc.made w5 #[.int .i64 ((j : Int) + 1)] 3
        have lp6 := lp5.all hb6
        have z0 : (w5.alloc (.cells #[.int .i64 ((j : Int) + 1)] 3)).cell? ⟨pb, 2, none⟩ = _ := lp6.cell 2
        have z1 : (w5.alloc (.cells #[.int .i64 ((j : Int) + 1)] 3)).cell? ⟨pb, 3, none⟩ = _ := lp6.cell 3
        have z2 : (w5.alloc (.cells #[.int .i64 ((j : Int) + 1)] 3)).cell? ⟨pb, 4, none⟩ = _ := lp6.cell 4
        have i0' : (w5.alloc (.cells #[.int .i64 ((j : Int) + 1)] 3)).cell? ⟨w.heap.size, 0, none⟩ = _ := (l0.all hb6).cell 0
        have i1' : (w5.alloc (.cells #[.int .i64 ((j : Int) + 1)] 3)).cell? ⟨w.heap.size, 1, none⟩ = _ := (l0.all hb6).cell 1
        have zf0 := lp6.frozen 2
        have zf1 := lp6.frozen 3
        have zf2 := lp6.frozen 4
        have lp7 := ((lp6.set 2 (.int .i64 iN)).set 3 (.int .i64 iR)).set 4 (.slice (some ⟨w5.heap.size, 0, none⟩) 1 1)
        have f7 : Frm (w5.alloc (.cells #[.int .i64 ((j : Int) + 1)] 3)) ((((w5.alloc (.cells #[.int .i64 ((j : Int) + 1)] 3)).setCell ⟨pb, 2, none⟩ (.int .i64 iN)).setCell ⟨pb, 3, none⟩ (.int .i64 iR)).setCell ⟨pb, 4, none⟩ (.slice (some ⟨w5.heap.size, 0, none⟩) 1 1)) [pb] := ((set_frm _ pb 2 _).trans (set_frm _ pb 3 _)).trans (set_frm _ pb 4 _)
        have HS := hide (And.intro lp7 (And.intro f7 (And.intro hb6 (And.intro lz (And.intro lp5 (And.intro lk (And.intro l0 (And.intro hs (And.intro hf (And.intro o1 (And.intro o2 o3)))))))))))
        clear lp7 f7 hb6 lz lp5 lp6 lk l0 hs hf o1 o2 o3
        go_upto_region 6 with fail
        obtain ⟨lp7, f7, hb6, lz, lp5, lk, l0, hs, hf, o1, o2, o3⟩ := unhide HS
        have hs6 : (w5.alloc (.cells #[.int .i64 ((j : Int) + 1)] 3)).heap.size = w5.heap.size + 1 := by simp
        have hpz := lp5.lt
        have hw6 : (((((w5.alloc (.cells #[.int .i64 ((j : Int) + 1)] 3)).setCell ⟨pb, 2, none⟩ (.int .i64 iN)).setCell ⟨pb, 3, none⟩ (.int .i64 iR)).setCell ⟨pb, 4, none⟩ (.slice (some ⟨w5.heap.size, 0, none⟩) 1 1))).heap.size = w5.heap.size + 1 := by simp
        clear HS z0 z1 z2 zf0 zf1 zf2 i0 i1 i0' i1'
        generalize hWW : (((((w5.alloc (.cells #[.int .i64 ((j : Int) + 1)] 3)).setCell ⟨pb, 2, none⟩ (.int .i64 iN)).setCell ⟨pb, 3, none⟩ (.int .i64 iR)).setCell ⟨pb, 4, none⟩ (.slice (some ⟨w5.heap.size, 0, none⟩) 1 1))) = w7 at *
        have hnpb : ∀ q, q < kb → q ∉ [pb] := fun q hq e => by have e9 : q = pb := (by simpa using e); omega
        have hs7 := (hs.keep hb6).frm f7 (hnpb g (by have := hFk; have := (unhide HGF).1; omega)) (hnpb mb (by have := (unhide HGF).2.1; omega)) (fun q hq => hnpb q (hFk q hq)) (fun q hq => by have e9 : q = pb := (by simpa using hq); rw [e9]; exact Cells.ofL (lp5.all hb6))
        have lk7 := (lk.all hb6).frm f7 (by simp; omega)
        have l07 := (l0.all hb6).frm f7 (by simp; omega)
        have lz7 := lz.frm f7 (by simp; omega)
        have o17 := (o1.keep hb6).frm f7 (fun q hq e => by have e9 : q = pb := (by simpa using e); exact own_loc o1.2 lp5 (by decide) (by rw [← e9]; exact hq))
        have o27 := (o2.keep hb6).frm f7 (fun q hq e => by have e9 : q = pb := (by simpa using e); exact own_loc o2.2 lp5 (by decide) (by rw [← e9]; exact hq))
        have o37 := OwAttrs.frm (OwAttrs.frm o3 (Frm.ofBelow hb6 []) (fun _ _ => by simp)) f7 (fun q hq e => by have e9 : q = pb := (by simpa using e); exact attrs_notL o3 lp5 (by rw [← e9]; exact hq))
        have hoz : OwnZ w7 0 (.slice (some ⟨w5.heap.size, 0, none⟩) 1 1) [(j : Int) + 1] := ⟨fun q hq => by simp at hq; omega, ⟨rfl, .inr ⟨w5.heap.size, 1, _, rfl, Nat.zero_le _, lz7, Nat.le_refl _, by decide, rfl, rfl⟩⟩⟩
        obtain ⟨y, hy⟩ : ∃ y, y = seedP m.length (iN, iR) x j := ⟨_, rfl⟩
        have hlt5 : ∀ q ∈ FB (.slice p2 x.name.length k2) ++ FB (.slice p3 x.text.length k3) ++ Fa, q < w5.heap.size := fun q hq => by
          rcases List.mem_append.1 hq with hq | hq
          · rcases List.mem_append.1 hq with hq | hq
            · exact (o1.lt q (by simpa [FB] using hq)).2
            · exact (o2.lt q (by simpa [FB] using hq)).2
          · exact OwAttrs.lt o3 q hq
        have hPc : OwPlM w7 [.int .i64 0, .int .i64 (m.length : Int), .int .i64 iN, .int .i64 iR, .slice (some ⟨w5.heap.size, 0, none⟩) 1 1, .int .i64 x.kind, .slice p2 x.name.length k2, .slice p3 x.text.length k3, .slice p4 x.attrs.length k4] y (FB (.slice (some ⟨w5.heap.size, 0, none⟩) 1 1) ++ FB (.slice p2 x.name.length k2) ++ FB (.slice p3 x.text.length k3) ++ Fa) := by
          rw [hy]
          exact ⟨_, _, _, _, Fa, rfl, hoz, o17.rowm, o27, o37, rfl⟩
        have hGz : FB (.slice (some ⟨w5.heap.size, 0, none⟩) 1 1) = [w5.heap.size] := rfl
        have hGm : ∀ q, q ∈ FB (.slice (some ⟨w5.heap.size, 0, none⟩) 1 1) ++ FB (.slice p2 x.name.length k2) ++ FB (.slice p3 x.text.length k3) ++ Fa → q = w5.heap.size ∨ q ∈ FB (.slice p2 x.name.length k2) ++ FB (.slice p3 x.text.length k3) ++ Fa := fun q hq => by
          rw [hGz, List.append_assoc, List.append_assoc] at hq
          rcases List.mem_append.1 hq with hq | hq
          · exact .inl (by simpa using hq)
          · exact .inr (by rw [List.append_assoc]; exact hq)
        have hGn : (FB (.slice (some ⟨w5.heap.size, 0, none⟩) 1 1) ++ FB (.slice p2 x.name.length k2) ++ FB (.slice p3 x.text.length k3) ++ Fa).Nodup := by
          rw [hGz, List.append_assoc, List.append_assoc]
          rw [List.append_assoc] at o4 hlt5
          exact List.nodup_append.2 ⟨by simp, o4, fun q hq q' hq' e => by
            have e9 : q = w5.heap.size := by simpa using hq
            have := hlt5 q' hq'
            omega⟩
        have hG3 : ∀ q ∈ FB (.slice (some ⟨w5.heap.size, 0, none⟩) 1 1) ++ FB (.slice p2 x.name.length k2) ++ FB (.slice p3 x.text.length k3) ++ Fa, w3.heap.size ≤ q := fun q hq => by
          rcases hGm q hq with e | e
          · omega
          · exact o5 q e
        have hgB := hs.geg
        have hidy : okI y.id := by rw [hy]; exact okI_len hml
        have hpary : okI y.par := by rw [hy]; exact (unhide HK).2.1
        have hNX := unhide HN
        have hm5 : m.length + 1 ≤ 100000 := by
          have h7 := (unhide HK).2.2.2.1 (j + 1)
          rw [hNX] at h7
          exact Nat.le_trans (seedF_le n (iN, iR) m (x, j)) h7
        have HNX := hide (show seedJ n (iN, iR) ks l (j + 1) = seedK n (0, (m.length : Int)) x.kids (m ++ [y]) from hNX.trans (by rw [hy]; rfl))
        have hkey : y.key.length = 1 := by rw [hy]; rfl
        have hlens : y.name = x.name ∧ y.text = x.text ∧ y.attrs = x.attrs ∧ y.kind = x.kind ∧ y.idN = 0 ∧ y.idR = (m.length : Int) ∧ y.parN = iN ∧ y.parR = iR := by rw [hy]; exact ⟨rfl, rfl, rfl, rfl, rfl, rfl, rfl, rfl⟩
        obtain ⟨e1, e2, e3, e4, e5, e6, e7, e8⟩ := hlens
        have HC := add_any hs7 y (some ⟨w5.heap.size, 0, none⟩) p2 p3 p4 1 k2 k3 k4 _ (by rw [e1, e2, e3, e4, e5, e6, e7, e8, hkey]; exact hPc) hGn (fun q hq => Nat.le_trans (Nat.le_trans hgB (Nat.le_of_lt hgz)) (hG3 q hq)) (fun q hq hq' => by have := hG3 q hq'; have := hFk q hq; omega) hidy hpary (by show posP m (y.idN, y.idR) = none; rw [e5, e6]; exact (unhide HSJ).new) hm5
        rw [e1, e2, e3, e4, e5, e6, e7, e8, hkey] at HC
        have HC := hide HC
        have c0 := lp7.cell 0
        have c1 := lp7.cell 1
        have c2 := lp7.cell 2
        have c3 := lp7.cell 3
        have c4 := lp7.cell 4
        have c5 := lp7.cell 5
        have c6 := lp7.cell 6
        have c7 := lp7.cell 7
        have c8 := lp7.cell 8
        have HZ := hide (And.intro lp7 (And.intro lk7 (And.intro l07 (And.intro (hf.moreS (Frm.ofBelow hb6 []) (fun q hq => by cases hq)) (And.intro f7 hG3)))))
        clear hy hNX hPc hoz hGn hGm hlt5 o1 o2 o3 o17 o27 o37 lz lz7 hs hs7 lp7 lk7 l07 lp5 lk l0 hf f7 hb6
        go_upto_region 7 with (go_at_call 61; refine (unhide HC).mono ?_; rintro e w8 ⟨rfl, a8, c8_, F8, hs8, hf8, hF8⟩)
        obtain ⟨lp7, lk7, l07, hf, f7, hG3⟩ := unhide HZ
        have hN8 : ∀ q, q < kb ∨ (kb ≤ q ∧ q < w3.heap.size) ∨ q = pb → q ∉ F' → q ≠ g → q ≠ mb → q ∉ g :: mb :: F' := fun q _ h1 h2 h3 e => by
          rcases List.mem_cons.1 e with e | e
          · exact h2 e
          · rcases List.mem_cons.1 e with e | e
            · exact h3 e
            · exact h1 e
        have hgw := (unhide HGF).1
        have hmw := (unhide HGF).2.1
        have lk8 := lk7.frm hf8 (hN8 kb (.inr (.inl ⟨Nat.le_refl _, kb3⟩)) (fun e => by have := hFk kb e; omega) (by omega) (by omega))
        have lp8 := lp7.frm hf8 (hN8 pb (.inr (.inr rfl)) (fun e => by have := hFk pb e; omega) (by omega) (by omega))
        have l08 := l07.frm hf8 (hN8 w.heap.size (.inl (by omega)) (fun e => by rcases hF' _ e with e | e; (have := (unhide HGF).2.2.1 _ e; omega); omega) (by omega) (by omega))
        have hsub8 : ∀ q ∈ g :: mb :: F', q ∈ g :: mb :: F ∨ w.heap.size ≤ q := fun q hq => by
          rcases List.mem_cons.1 hq with rfl | hq
          · exact .inl (List.mem_cons_self ..)
          · rcases List.mem_cons.1 hq with rfl | hq
            · exact .inl (List.mem_cons_of_mem _ (List.mem_cons_self ..))
            · rcases hF' q hq with e | e
              · exact .inl (List.mem_cons_of_mem _ (List.mem_cons_of_mem _ e))
              · right; omega
        have hf8w := (hf.moreS f7 (fun q hq => by have e9 : q = pb := (by simpa using hq); right; omega)).moreS hf8 hsub8
        have hF8w : ∀ q ∈ F8, q ∈ F ∨ w.heap.size + 1 ≤ q := fun q hq => by
          rcases hF8 q hq with e | e | e
          · exact hF' q e
          · have := hG3 q e; right; omega
          · right; omega
        have hge8 : ∀ q ∈ g :: mb :: F, w0.heap.size ≤ q := fun q hq => Nat.le_trans (unhide HK).2.2.2.2.2.1 ((unhide HGF).2.2.2 q hq)
        have hw08 : Below w0.heap.size w0 w8 := (unhide HK).2.2.2.2.2.2.trans (hf8w.below (unhide HK).2.2.2.2.2.2.size hge8)
        have hlen9 : (seedK n (0, (m.length : Int)) x.kids (m ++ [y])).length ≤ 100000 := by rw [← unhide HNX]; exact (unhide HK).2.2.2.1 (j + 1)
        have HC2 := hide (unhide HI w0 B w8 g mb a8 c8_ (m ++ [y]) F8 0 (m.length : Int) x.kids ad4 cp4 (unhide HK).2.2.2.2.2.1 hw08 hs8 (unhide HQ4) (okI_len hml) ((unhide HSJ).snoc e5 e6) hlen9 (fun z hz => Nat.le_trans (szT_kid hz) hsx))
        have k0 := lk8.cell 4
        have d0 := lp8.cell 0
        have d1 := lp8.cell 1
        have HY := hide (And.intro l08 (And.intro hf8w hF8w))
        clear lk8 lp8 l08 hf8w hF8w hs8 hf8 hF8 hf f7 hG3 lp7 lk7 l07 HZ HC c0 c1 c2 c3 c4 c5 c6 c7 c8 hw08 hge8 hsub8 hN8
        go_wp2_with fail
        refine (unhide HC2).mono ?_
        rintro e w9 ⟨rfl, a9, c9, F9, hs9, hf9, hF9⟩
        obtain ⟨l08, hf8w, hF8w⟩ := unhide HY
        have hs89 := hf8w.size
        have hl8 := l08.lt
        have l09 := l08.frm hf9 (fun e => by
          rcases List.mem_cons.1 e with e | e
          · omega
          · rcases List.mem_cons.1 e with e | e
            · omega
            · rcases hF8w _ e with e | e
              · have := (unhide HGF).2.2.1 _ e; omega
              · omega)
        have hf9w := hf8w.moreS hf9 (fun q hq => by
          rcases List.mem_cons.1 hq with rfl | hq
          · exact .inl (List.mem_cons_self ..)
          · rcases List.mem_cons.1 hq with rfl | hq
            · exact .inl (List.mem_cons_of_mem _ (List.mem_cons_self ..))
            · rcases hF8w q hq with e | e
              · exact .inl (List.mem_cons_of_mem _ (List.mem_cons_of_mem _ e))
              · right; omega)
        have hF9w : ∀ q ∈ F9, q ∈ F ∨ w.heap.size + 1 ≤ q := fun q hq => by
          rcases hF9 q hq with e | e
          · exact hF8w q e
          · right; omega
        have HE := hide (And.intro (show FoS B w9 g mb a9 c9 (seedJ n (iN, iR) ks l (j + 1)) F9 by rw [unhide HNX]; exact hs9) (And.intro hf9w (And.intro hF9w l09)))
        clear hs9 hf9 hF9 hf9w hF9w l09 l08 hf8w hF8w HY HC2 k0 d0 d1
        go_wp2_with fail
        go_roundw
        case rel => exact ⟨j + 1, a9, c9, F9, by omega, by go_num, (unhide HE).1, (unhide HE).2.1, (unhide HE).2.2.1, (unhide HE).2.2.2⟩
        case measure => simp [intOf]; omega
    · have hlt' : ¬ (j : Int) < (ks.length : Int) := by omega
      have HE := hide (unhide HQ (.returned (.tuple #[])) wr ⟨rfl, a', c', F', by rw [unhide HR, ← seedJ_all n (iN, iR) ks l (show ks.length ≤ j by omega)]; exact hs, hf, fun q hq => (hF' q hq).imp id (fun h => by omega)⟩)
      clear hs hf l0 hF' HQ
      go_wp2_with fail
      go_end0
      exact unhide HE
theorem addKids_zero : AddSaid 0 := by
  intro w0 B w g mb a c l F iN iR ks a4 c4 hB0 hw0 h hK hi hS hN hZ
  refine calls_via ?_
  intro Q HQ
  obtain rfl : ks = [] := by
    cases ks with
    | nil => rfl
    | cons x r => exact x.elim
  have hA : Below w.heap.size w (w.alloc (.cells #[.int .i64 iN, .int .i64 iR] 66)) := (Below.refl _ _).alloc (Nat.le_refl _) _
  have HE := hide (unhide HQ (.returned (.tuple #[])) _ ⟨rfl, a, c, F, h.keep hA, Frm.ofBelow hA _, fun q hq => .inl hq⟩)
  clear hA h hK hN HQ
  go_enter Tryz.func63, Tryz.ntmps63
  go_wp2_with fail
  go_loopw [11] (fun xv wr => xv = .int .i64 0 ∧ wr = (w.alloc (.cells #[.int .i64 iN, .int .i64 iR] 66))) (fun _ _ => 0)
  case atStart => exact ⟨rfl, rfl⟩
  case round =>
    obtain ⟨rfl, rfl⟩ := hrel
    go_wp2_with fail
    go_end0
    exact unhide HE
theorem addKids_any : ∀ n, AddSaid n
  | 0 => addKids_zero
  | n + 1 => addKids_core n (addKids_any n)
end Go.Proofs.YtnfafchajjclaaaGreatDoor

/- How many places a tree that may be has, and how many attributes each. Mathematics. No function of the program. -/
namespace Go.Proofs.YtnfafchajjclaaaGreatDoor
open Go.RowKit
set_option linter.unusedVariables false
set_option maxRecDepth 100000

theorem okT_parts {n : Nat} {deep : Int} {t : Tr (n + 1)} {left : Int} (h : (okT (n + 1) deep t left).1 = true) :
    t.attrs.length ≤ 4 ∧ 0 ≤ left - 1 ∧ (okK (okT n (deep + 1)) t.kids (left - 1)).1 = true ∧ (okT (n + 1) deep t left).2 = (okK (okT n (deep + 1)) t.kids (left - 1)).2 := by
  rw [okT_succ] at h ⊢
  by_cases h1 : left - 1 < 0 ∨ 20 < deep
  · rw [if_pos h1] at h; cases h
  · rw [if_neg h1] at h ⊢
    by_cases h2 : t.kind = 1
    · rw [if_pos h2] at h ⊢
      have h3 : leafB t = true := h
      unfold leafB at h3
      simp only [Bool.and_eq_true, decide_eq_true_eq] at h3
      have hk : t.kids = [] := List.eq_nil_of_length_eq_zero h3.1.2
      rw [hk]
      exact ⟨by omega, by omega, rfl, rfl⟩
    · rw [if_neg h2] at h ⊢
      by_cases h3 : elemB t = true
      · rw [if_pos h3] at h ⊢
        refine ⟨?_, by omega, h, rfl⟩
        unfold elemB at h3
        simp only [Bool.and_eq_true] at h3
        have h4 := h3.1.2
        unfold attrsB at h4
        rw [Bool.and_eq_true, decide_eq_true_eq] at h4
        exact h4.1
      · rw [if_neg h3] at h; cases h
theorem seed_ok : ∀ (n : Nat) (deep : Int) (ks : List (Tr n)) (left : Int) (i : IdV) (acc : List PlV), 0 ≤ left → (okK (okT n deep) ks left).1 = true →
    ((seedK n i ks acc).length : Int) + (okK (okT n deep) ks left).2 = acc.length + left ∧ ∀ p ∈ seedK n i ks acc, p ∈ acc ∨ p.attrs.length ≤ 4
  | 0, deep, ks, left, i, acc, h0, h => by
    obtain rfl : ks = [] := by
      cases ks with
      | nil => rfl
      | cons x r => exact x.elim
    exact ⟨rfl, fun p hp => .inl hp⟩
  | n + 1, deep, ks, left, i, acc, h0, h => by
    have key : ∀ (f : Nd (Tr n) → Int → Bool × Int), (∀ x left, f x left = okT (n + 1) deep x left) → ∀ (ks : List (Nd (Tr n))) (k : Nat) (acc : List PlV) (left : Int), 0 ≤ left → (okK f ks left).1 = true →
        (((ks.zipIdx k).foldl (seedF n i) acc).length : Int) + (okK f ks left).2 = acc.length + left ∧ ∀ p ∈ (ks.zipIdx k).foldl (seedF n i) acc, p ∈ acc ∨ p.attrs.length ≤ 4 := by
      intro f hf ks
      induction ks with
      | nil => intro k acc left _ _; exact ⟨rfl, fun p hp => .inl hp⟩
      | cons x r ih =>
        intro k acc left h0 h
        have h1' : (f x left).1 = true := by
          cases hb : (f x left).1 with
          | true => rfl
          | false => simp [okK, hb] at h
        have e1 : okK f (x :: r) left = okK f r (f x left).2 := by simp [okK, h1']
        rw [e1] at h ⊢
        have h1 : (okT (n + 1) deep x left).1 = true := by rw [← hf]; exact h1'
        have e3 := hf x left
        rw [e3] at h ⊢
        have hb := okT_bound (n + 1) deep x left h0
        obtain ⟨p1, p2, p3, p4⟩ := okT_parts h1
        have hk := seed_ok n (deep + 1) x.kids (left - 1) (0, (acc.length : Int)) (acc ++ [seedP acc.length i x k]) p2 p3
        have hr := ih (k + 1) (seedF n i acc (x, k)) _ (hb.2.2 h1) h
        rw [List.zipIdx_cons, List.foldl_cons]
        have e2 : seedF n i acc (x, k) = seedK n (0, (acc.length : Int)) x.kids (acc ++ [seedP acc.length i x k]) := rfl
        rw [e2] at hr ⊢
        refine ⟨?_, fun p hp => ?_⟩
        · have h5 := hk.1
          have h6 := hr.1
          rw [← p4] at h5
          simp only [List.length_append, List.length_cons, List.length_nil] at h5
          omega
        · rcases hr.2 p hp with h7 | h7
          · rcases hk.2 p h7 with h8 | h8
            · rcases List.mem_append.1 h8 with h9 | h9
              · exact .inl h9
              · simp at h9
                subst h9
                exact .inr p1
            · exact .inr h8
          · exact .inr h7
    exact key (okT (n + 1) deep) (fun _ _ => rfl) ks 0 acc left h0 h
/-- An accepted tree has at most 121 places, each of at most four attributes. -/
theorem seed_bd {n : Nat} {t : Tr (n + 1)} (h : okN n t = true) (acc : List PlV) (hacc : ∀ p ∈ acc, p.attrs.length ≤ 4) : (seedK n (0, 0) t.kids acc).length ≤ acc.length + 119 ∧ ∀ p ∈ seedK n (0, 0) t.kids acc, p.attrs.length ≤ 4 := by
  unfold okN at h
  rw [Bool.and_eq_true] at h
  obtain ⟨p1, p2, p3, p4⟩ := okT_parts h.2
  have hk := seed_ok n 2 t.kids (120 - 1) (0, 0) acc p2 p3
  have hb := okT_bound (n + 1) 1 t 120 (by decide)
  have h0 := hb.2.2 h.2
  rw [p4] at h0
  have e : ((1 : Int) + 1) = 2 := rfl
  rw [e] at h0
  refine ⟨by have := hk.1; omega, fun p hp => (hk.2 p hp).elim (hacc p) id⟩
end Go.Proofs.YtnfafchajjclaaaGreatDoor

/- Rows of operations: what it is for one to be readable in memory. -/
namespace Go.Proofs.YtnfafchajjclaaaGreatDoor
open Go.RowKit
set_option linter.unusedVariables false

/-- The twelve cells of an operation. -/
def RdOpC (w : World) (C : List Value) (o : OpV) : Prop := ∃ k n t, C = [.int .i64 o.kind, .int .i64 o.atN, .int .i64 o.atR, .int .i64 o.nodeN, .int .i64 o.nodeR, .int .i64 o.parN, .int .i64 o.parR, k, .int .i64 o.elem, n, t, .bool o.gone] ∧ Ints w k o.key ∧ Byt w n o.name ∧ Byt w t o.text
def RdOps (w : World) (v : Value) (l : List OpV) : Prop := Elems w 12 v l (RdOpC w)
theorem RdOps.keep {w w' : World} {v : Value} {l : List OpV} (h : RdOps w v l) (hb : Below w.heap.size w w') : RdOps w' v l :=
  Elems.keep h hb (fun C x _ ⟨k, n, t, e, h1, h2, h3⟩ => ⟨k, n, t, e, h1.keep hb, h2.keep hb, h3.keep hb⟩)

/-- An element, cell by cell, its rows by their parts. -/
theorem opc_at {w W : World} {b off i : Nat} {o : OpV} (hW : Below w.heap.size w W) (hb : b < w.heap.size) (h : ∃ C : List Value, C.length = 12 ∧ (∀ j, j < 12 → w.cell? ⟨b, off + i * 12 + j, none⟩ = C[j]?) ∧ RdOpC w C o) :
    ∃ a1 c1 a2 c2 a3 c3, W.cell? ⟨b, off + i * 12, none⟩ = some (.int .i64 o.kind) ∧ W.cell? ⟨b, off + i * 12 + 1, none⟩ = some (.int .i64 o.atN) ∧ W.cell? ⟨b, off + i * 12 + 2, none⟩ = some (.int .i64 o.atR) ∧ W.cell? ⟨b, off + i * 12 + 3, none⟩ = some (.int .i64 o.nodeN) ∧ W.cell? ⟨b, off + i * 12 + 4, none⟩ = some (.int .i64 o.nodeR) ∧ W.cell? ⟨b, off + i * 12 + 5, none⟩ = some (.int .i64 o.parN) ∧ W.cell? ⟨b, off + i * 12 + 6, none⟩ = some (.int .i64 o.parR) ∧ W.cell? ⟨b, off + i * 12 + 7, none⟩ = some (.slice a1 o.key.length c1) ∧ W.cell? ⟨b, off + i * 12 + 8, none⟩ = some (.int .i64 o.elem) ∧ W.cell? ⟨b, off + i * 12 + 9, none⟩ = some (.slice a2 o.name.length c2) ∧ W.cell? ⟨b, off + i * 12 + 10, none⟩ = some (.slice a3 o.text.length c3) ∧ W.cell? ⟨b, off + i * 12 + 11, none⟩ = some (.bool o.gone) ∧
      RdOp W (opVal o (.slice a1 o.key.length c1) (.slice a2 o.name.length c2) (.slice a3 o.text.length c3)) o := by
  obtain ⟨C, _, hc, k, n, t, rfl, hk, hn, ht⟩ := h
  obtain ⟨a1, c1, rfl, _, _⟩ := hk.shape
  obtain ⟨a2, c2, rfl, _, _⟩ := hn.shape
  obtain ⟨a3, c3, rfl, _, _⟩ := ht.shape
  have cc : ∀ j, j < 12 → W.cell? ⟨b, off + i * 12 + j, none⟩ = w.cell? ⟨b, off + i * 12 + j, none⟩ := fun j hj => hW.cell (p := ⟨b, off + i * 12 + j, none⟩) hb
  exact ⟨a1, c1, a2, c2, a3, c3, (cc 0 (by omega)).trans (hc 0 (by omega)), (cc 1 (by omega)).trans (hc 1 (by omega)), (cc 2 (by omega)).trans (hc 2 (by omega)), (cc 3 (by omega)).trans (hc 3 (by omega)), (cc 4 (by omega)).trans (hc 4 (by omega)), (cc 5 (by omega)).trans (hc 5 (by omega)), (cc 6 (by omega)).trans (hc 6 (by omega)), (cc 7 (by omega)).trans (hc 7 (by omega)), (cc 8 (by omega)).trans (hc 8 (by omega)), (cc 9 (by omega)).trans (hc 9 (by omega)), (cc 10 (by omega)).trans (hc 10 (by omega)), (cc 11 (by omega)).trans (hc 11 (by omega)), _, _, _, rfl, hk.keep hW, hn.keep hW, ht.keep hW⟩

/-- How great. -/
def szO (o : OpV) : Nat := o.key.length + o.name.length + o.text.length
def szOs (l : List OpV) : Nat := l.length + (l.map szO).sum
def sumO (l : List OpV) (k : Nat) : Nat := ((l.take k).map szO).sum
theorem sumO_step (l : List OpV) (k : Nat) (h : k < l.length) : sumO l (k + 1) = sumO l k + szO l[k] := by
  unfold sumO
  rw [List.take_succ_eq_append_getElem h]
  simp only [List.map_append, List.sum_append, List.map_cons, List.map_nil, List.sum_cons, List.sum_nil, Nat.add_zero]
theorem sumO_all (l : List OpV) : sumO l l.length = (l.map szO).sum := by simp [sumO]
theorem sumO_le (l : List OpV) (k : Nat) : sumO l k ≤ (l.map szO).sum := by
  have h : (l.map szO).sum = sumO l k + ((l.drop k).map szO).sum := by
    unfold sumO
    rw [← List.sum_append, ← List.map_append, List.take_append_drop]
  omega
theorem szO_le (l : List OpV) (i : Nat) (h : i < l.length) : szO l[i] ≤ (l.map szO).sum := by
  have h1 := sumO_step l i h
  have h2 := sumO_le l (i + 1)
  omega
end Go.Proofs.YtnfafchajjclaaaGreatDoor

/- spec.Less and impl.Less answer what the plain order says; the law on Less. -/
namespace Go.Proofs.YtnfafchajjclaaaGreatDoor
open Go.RowKit
set_option linter.unusedVariables false
set_option maxRecDepth 100000

def lessB (n r n' r' : Int) : Bool := decide (n < n') || (n == n' && decide (r < r'))

theorem lessB_cases (n r n' r' : Int) :
    (lessB n r n' r' = true ∧ decide (n < n') = true ∧ (n == n') = false ∧ n ≠ n') ∨
    (lessB n r n' r' = false ∧ decide (n < n') = false ∧ (n == n') = false ∧ n ≠ n') ∨
    (n = n' ∧ lessB n r n' r' = true ∧ decide (n < n') = false ∧ decide (r < r') = true ∧ r ≠ r') ∨
    (n = n' ∧ lessB n r n' r' = false ∧ decide (n < n') = false ∧ decide (r < r') = false) := by
  unfold lessB
  simp only [Bool.or_eq_true, Bool.or_eq_false_iff, Bool.and_eq_true, Bool.and_eq_false_iff, beq_iff_eq, beq_eq_false_iff_ne, decide_eq_true_eq, decide_eq_false_iff_not]
  omega

set_option maxHeartbeats 1600000 in
theorem lessS_any (w : World) (n r n' r' : Int) :
    Calls Tryz.prog 48 #[.agg #[.int .i64 n, .int .i64 r], .agg #[.int .i64 n', .int .i64 r']] w fun e w' => e = .returned (.bool (lessB n r n' r')) ∧ Below w.heap.size w w' := by
  have HB := hide (((Below.refl w.heap.size w).alloc (Nat.le_refl _) (.cells #[.int .i64 n, .int .i64 r] 66)).alloc (by simp) (.cells #[.int .i64 n', .int .i64 r'] 66))
  rcases lessB_cases n r n' r' with ⟨h, q1, q2, q3⟩ | ⟨h, q1, q2, q3⟩ | ⟨rfl, h, q1, q2, q3⟩ | ⟨rfl, h, q1, q2⟩
  all_goals
    have HE := hide h
    clear h
    go_enter Tryz.func48, Tryz.ntmps48
    go_wp2
    go_ret
    exact ⟨by rw [unhide HE]; rfl, unhide HB⟩

theorem Loc.two {w : World} {g : Nat} {v0 v1 : Value} {T : TypeId} (h : Loc w g #[v0, v1] T) : w.cell? ⟨g, 0, none⟩ = some v0 ∧ w.cell? ⟨g, 1, none⟩ = some v1 := ⟨h.cell 0, h.cell 1⟩

/-- Below 0, 0 or above 0. -/
def ordI (n r n' r' : Int) : Int := if n = n' ∧ r = r' then 0 else if lessB n r n' r' then -1 else 1
theorem ordI_lt (n r n' r' : Int) : decide (ordI n r n' r' < 0) = lessB n r n' r' := by
  unfold ordI
  split
  · rename_i h
    obtain ⟨rfl, rfl⟩ := h
    unfold lessB
    simp
  · split <;> simp [*]

set_option maxHeartbeats 1600000 in
theorem orderI_any (w : World) (n r n' r' : Int) :
    Calls Tryz.prog 94 #[.agg #[.int .i64 n, .int .i64 r], .agg #[.int .i64 n', .int .i64 r']] w fun e w' => e = .returned (.int .i64 (ordI n r n' r')) ∧ Below w.heap.size w w' := by
  have HB := hide (((Below.refl w.heap.size w).alloc (Nat.le_refl _) (.cells #[.int .i64 n, .int .i64 r] 66)).alloc (by simp) (.cells #[.int .i64 n', .int .i64 r'] 66))
  rcases lessB_cases n r n' r' with ⟨h, q1, q2, q3⟩ | ⟨h, q1, q2, q3⟩ | ⟨rfl, h, q1, q2, q3⟩ | ⟨rfl, h, q1, q2⟩
  · have HE := hide (show ordI n r n' r' = -1 by unfold ordI; rw [if_neg (fun k => q3 k.1), h]; rfl)
    clear h
    go_enter Tryz.func94, Tryz.ntmps94
    go_wp2
    go_ret
    exact ⟨by rw [unhide HE]; rfl, unhide HB⟩
  · have HE := hide (show ordI n r n' r' = 1 by unfold ordI; rw [if_neg (fun k => q3 k.1), h]; rfl)
    clear h
    go_enter Tryz.func94, Tryz.ntmps94
    go_wp2
    go_ret
    exact ⟨by rw [unhide HE]; rfl, unhide HB⟩
  · have HE := hide (show ordI n r n r' = -1 by unfold ordI; rw [if_neg (fun k => q3 k.2), h]; rfl)
    have q4 : (r == r') = false := by simpa using q3
    clear h
    go_enter Tryz.func94, Tryz.ntmps94
    go_wp2
    go_ret
    exact ⟨by rw [unhide HE]; rfl, unhide HB⟩
  · by_cases h2 : r = r'
    · subst h2
      have HE := hide (show ordI n r n r = 0 by unfold ordI; rw [if_pos ⟨rfl, rfl⟩])
      clear h
      go_enter Tryz.func94, Tryz.ntmps94
      go_wp2
      go_ret
      exact ⟨by rw [unhide HE]; rfl, unhide HB⟩
    · have HE := hide (show ordI n r n r' = 1 by unfold ordI; rw [if_neg (fun k => h2 k.2), h]; rfl)
      have q4 : (r == r') = false := by simpa using h2
      clear h
      go_enter Tryz.func94, Tryz.ntmps94
      go_wp2
      go_ret
      exact ⟨by rw [unhide HE]; rfl, unhide HB⟩

set_option maxHeartbeats 1600000 in
theorem lessI_any (w : World) (n r n' r' : Int) :
    Calls Tryz.prog 59 #[.agg #[.int .i64 n, .int .i64 r], .agg #[.int .i64 n', .int .i64 r']] w fun e w' => e = .returned (.bool (lessB n r n' r')) ∧ Below w.heap.size w w' := by
  have hB := (((Below.refl w.heap.size w).alloc (Nat.le_refl _) (.cells #[.int .i64 n, .int .i64 r] 66)).alloc (by simp) (.cells #[.int .i64 n', .int .i64 r'] 66))
  go_enter Tryz.func59, Tryz.ntmps59
  go_wp2_with fail
  refine (orderI_any _ n r n' r').mono ?_
  rintro e w1 ⟨rfl, hB1⟩
  have hB2 := bstep hB hB1
  have hl := ordI_lt n r n' r'
  generalize ordI n r n' r' = z at *
  go_wp2
  go_ret
  exact ⟨by rw [← hl]; rfl, hB2⟩

end Go.Proofs.YtnfafchajjclaaaGreatDoor

/- Rows of operations: empty, or in a block. -/
namespace Go.Proofs.YtnfafchajjclaaaGreatDoor
open Go.RowKit
set_option linter.unusedVariables false
set_option maxRecDepth 100000

theorem RdOps.cases {w : World} {v : Value} {l : List OpV} (h : RdOps w v l) : (l = [] ∧ ∃ a cap, v = .slice a 0 cap) ∨ (∃ b off cap, v = .slice (some ⟨b, off, none⟩) l.length cap ∧ l ≠ [] ∧ b < w.heap.size ∧ ∀ i (hi : i < l.length), ∃ C : List Value, C.length = 12 ∧ (∀ j, j < 12 → w.cell? ⟨b, off + i * 12 + j, none⟩ = C[j]?) ∧ RdOpC w C l[i]) := by
  obtain ⟨_, ⟨rfl, rfl⟩ | ⟨x, cap, rfl, hc, rfl⟩ | ⟨b, off, cap, rfl, g1, g2, g3, g4, g5⟩⟩ := h
  · exact .inl ⟨rfl, _, _, rfl⟩
  · exact .inl ⟨rfl, _, _, rfl⟩
  · exact .inr ⟨b, off, cap, rfl, g3, g4, g5⟩
/-- An operation of a row is one, and behind the one ahead of it. -/
def okAt (l : List OpV) (i : Nat) : Bool := if h : i < l.length then opB l[i] && (decide (i = 0) || lessB (l[i - 1]'(by omega)).atN (l[i - 1]'(by omega)).atR l[i].atN l[i].atR) else true
def opsB (l : List OpV) : Bool := decide (l.length ≤ 150) && (List.range l.length).all (okAt l)
theorem opsB_long {l : List OpV} (h : 150 < l.length) : opsB l = false := by unfold opsB; rw [decide_eq_false (by omega)]; rfl
theorem opsB_bad {l : List OpV} {k : Nat} (hk : k < l.length) (h : okAt l k = false) : opsB l = false := by
  unfold opsB
  rw [Bool.and_eq_false_iff]
  right
  rw [List.all_eq_false]
  exact ⟨k, by simpa using hk, by simp [h]⟩
theorem opsB_good {l : List OpV} (hn : l.length ≤ 150) (h : ∀ j, j < l.length → okAt l j = true) : opsB l = true := by
  unfold opsB
  rw [decide_eq_true hn, Bool.true_and, List.all_eq_true]
  intro j hj
  exact h j (by simpa using hj)
theorem okAt_no {l : List OpV} {k : Nat} (hk : k < l.length) (h : opB l[k] = false) : okAt l k = false := by unfold okAt; rw [dif_pos hk, h]; rfl
theorem okAt_0 {l : List OpV} (hk : 0 < l.length) (h : opB l[0] = true) : okAt l 0 = true := by unfold okAt; rw [dif_pos hk, h]; rfl
theorem okAt_s {l : List OpV} {j : Nat} (hk : j + 1 < l.length) (h : opB l[j + 1] = true) : okAt l (j + 1) = lessB (l[j]'(by omega)).atN (l[j]'(by omega)).atR l[j + 1].atN l[j + 1].atR := by
  unfold okAt
  rw [dif_pos hk, h, Bool.true_and]
  rw [decide_eq_false (by omega), Bool.false_or]
  rfl
end Go.Proofs.YtnfafchajjclaaaGreatDoor

/- Where an operation's place is among sorted ones. Plain mathematics. -/
namespace Go.Proofs.YtnfafchajjclaaaGreatDoor
open Go.RowKit
set_option linter.unusedVariables false

theorem less_trans {a b c d e f : Int} (h : lessB a b c d = true) (k : lessB c d e f = true) : lessB a b e f = true := by
  unfold lessB at *
  simp only [Bool.or_eq_true, decide_eq_true_eq, Bool.and_eq_true, beq_iff_eq] at *
  omega
theorem less_irr (a b : Int) : lessB a b a b = false := by unfold lessB; simp
/-- Ahead of the stamp (n, r). -/
def ahead (n r : Int) (p : OpV) : Bool := lessB p.atN p.atR n r
def posO (l : List OpV) (n r : Int) : Nat := (l.takeWhile (ahead n r)).length
theorem opsB_parts {l : List OpV} (h : opsB l = true) : l.length ≤ 150 ∧ ∀ j, j < l.length → okAt l j = true := by
  unfold opsB at h
  rw [Bool.and_eq_true, decide_eq_true_eq, List.all_eq_true] at h
  exact ⟨h.1, fun j hj => h.2 j (by simpa using hj)⟩
theorem opsB_each {l : List OpV} (h : opsB l = true) {j : Nat} (hj : j < l.length) : opB l[j] = true := by
  have := (opsB_parts h).2 j hj
  unfold okAt at this
  rw [dif_pos hj, Bool.and_eq_true] at this
  exact this.1
theorem opsB_next {l : List OpV} (h : opsB l = true) {j : Nat} (hj : j + 1 < l.length) : lessB l[j].atN l[j].atR l[j + 1].atN l[j + 1].atR = true := by
  have h1 := (opsB_parts h).2 (j + 1) hj
  rw [okAt_s hj (opsB_each h hj)] at h1
  exact h1
theorem opsB_sorted {l : List OpV} (h : opsB l = true) {i j : Nat} (hij : i < j) (hj : j < l.length) : lessB l[i].atN l[i].atR l[j].atN l[j].atR = true := by
  obtain ⟨d, rfl⟩ : ∃ d, j = i + 1 + d := ⟨j - i - 1, by omega⟩
  induction d with
  | zero => exact opsB_next h hj
  | succ d ih => exact less_trans (ih (by omega) (by omega)) (opsB_next h (j := i + 1 + d) hj)
/-- An operation with this stamp stands at its place. -/
def there (l : List OpV) (n r : Int) : Bool := if h : posO l n r < l.length then decide (l[posO l n r].atN = n ∧ l[posO l n r].atR = r) else false
end Go.Proofs.YtnfafchajjclaaaGreatDoor

/- spec.l5fold: all operations over the first tree. -/
namespace Go.Proofs.YtnfafchajjclaaaGreatDoor
open Go.RowKit
set_option linter.unusedVariables false
set_option maxRecDepth 100000

theorem l4root_any (w : World) : Calls Tryz.prog 49 #[] w fun e w' => e = .returned (.agg #[.int .i64 0, .int .i64 0]) ∧ Below w.heap.size w w' := by
  have hA := (Below.refl w.heap.size w).alloc (Nat.le_refl _) (.cells #[.int .i64 0, .int .i64 0] 66)
  have e0 := (Loc.made w #[.int .i64 0, .int .i64 0] 66).cell 0
  have e1 := (Loc.made w #[.int .i64 0, .int .i64 0] 66).cell 1
  go_enter Tryz.func49, Tryz.ntmps49
  go_wp2
  exact bodyPost_ret (v := .agg #[.int .i64 0, .int .i64 0]) (by simp [results, Tryz.results49, go_sem, e0, e1]) rfl ⟨rfl, hA⟩
theorem l4trash_any (w : World) : Calls Tryz.prog 50 #[] w fun e w' => e = .returned (.agg #[.int .i64 0, .int .i64 1]) ∧ Below w.heap.size w w' := by
  have hA := (Below.refl w.heap.size w).alloc (Nat.le_refl _) (.cells #[.int .i64 0, .int .i64 1] 66)
  have e0 := (Loc.made w #[.int .i64 0, .int .i64 1] 66).cell 0
  have e1 := (Loc.made w #[.int .i64 0, .int .i64 1] 66).cell 1
  go_enter Tryz.func50, Tryz.ntmps50
  go_wp2
  exact bodyPost_ret (v := .agg #[.int .i64 0, .int .i64 1]) (by simp [results, Tryz.results50, go_sem, e0, e1]) rfl ⟨rfl, hA⟩
theorem mark_row (w : World) (p : Nat) (h : Loc w p #[.int .u8 116, .int .u8 114, .int .u8 97, .int .u8 115, .int .u8 104] 5) : ∃ w', (convert 22 22 (.slice (some ⟨p, 0, none⟩) 5 5)).run Tryz.prog w = .ok (.slice (some ⟨p, 0, none⟩) 5 5) w' ∧ Frm w w' [p] ∧ w'.heap.size = w.heap.size ∧ RowM w' 0 (.slice (some ⟨p, 0, none⟩) 5 5) trashN := by
  have hsh : w.shape? p = some (5, 5) := by unfold World.shape?; unfold Loc at h; rw [h]; rfl
  refine ⟨w.freeze ⟨p, 5, none⟩ 1, ?_, ?_, ?_, ?_⟩
  · simp [convert, run_underlying Tryz.underlying22, run_underlying Tryz.underlying5, markStringish, hsh]
  · unfold World.freeze
    rw [if_neg (by decide)]
    refine ⟨rfl, rfl, rfl, by simp, fun k hk hn => ?_⟩
    simp only [List.mem_singleton] at hn
    show (w.heap.modify p _)[k]? = w.heap[k]?
    rw [Array.getElem?_modify, if_neg (fun e => hn e.symm)]
  · unfold World.freeze
    rw [if_neg (by decide)]
    simp
  · refine ⟨fun x hx => by simp [trashN] at hx; omega, .inr ⟨p, 5, #[.int .u8 116, .int .u8 114, .int .u8 97, .int .u8 115, .int .u8 104], (5, 6), rfl, Nat.zero_le _, ?_, fun j hj => by simp; omega, by decide, by decide, rfl, rfl⟩⟩
    unfold World.freeze
    rw [if_neg (by decide)]
    show (w.heap.modify p _)[p]? = _
    unfold Loc at h
    rw [Array.getElem?_modify, if_pos rfl, h]
    rfl
theorem doV_len (l : List PlV) (o : OpV) : (doV l o).length ≤ l.length + 1 := by
  unfold doV
  split
  · split <;> simp
  · split
    · simp
    · split
      · simp
      · split
        · split <;> simp
        · split
          · split <;> simp
          · split <;> simp
theorem set_at {l : List PlV} {k : Nat} {p : PlV} (h : ∀ q ∈ l, q.attrs.length ≤ 100) (hp : p.attrs.length ≤ 100) : ∀ q ∈ l.set k p, q.attrs.length ≤ 100 := fun q hq => (List.mem_or_eq_of_mem_set hq).elim (h q) (fun e => e ▸ hp)
theorem doV_at {l : List PlV} (h : ∀ p ∈ l, p.attrs.length ≤ 100) (o : OpV) : ∀ p ∈ doV l o, p.attrs.length ≤ 100 := by
  unfold doV
  split
  · split
    · intro p hp
      rcases List.mem_append.1 hp with hp | hp
      · exact h p hp
      · simp at hp; subst hp; simp [newP]
    · exact h
  · split
    · exact h
    · split
      · exact h
      · rename_i p hk
        have hp := h p (List.mem_of_getElem? hk)
        split
        · split
          · exact set_at h hp
          · exact h
        · split
          · split
            · exact set_at h hp
            · exact h
          · split
            · refine set_at h ?_
              unfold attrP setAttrs
              split
              · simp only; omega
              · exact hp
            · exact h
theorem AfS.keep {w0 w3 w w' : World} {sb : Nat} {a : Option Addr} {c : Nat} {m : List PlV} {y : PlV} {F : List Nat} {gq cq : Nat} (h : AfS w0 w3 w sb a c m y F gq cq) (hb : Below w.heap.size w w') : AfS w0 w3 w' sb a c m y F gq cq := by
  obtain ⟨F', h1, h2, h3, h4, h5, h6, h7⟩ := h
  exact ⟨F', h1.all hb, h2.frm (Frm.ofBelow hb []) (fun _ _ => by simp), h3, fun q hq => ⟨(h4 q hq).1, Nat.lt_of_lt_of_le (h4 q hq).2.1 hb.size, (h4 q hq).2.2⟩, h5, bstep h6 hb, h7⟩
theorem SdE.keep {w0 w3 w w' : World} {sb : Nat} {m : List PlV} {F : List Nat} (h : SdE w0 w3 sb m F w) (hb : Below w.heap.size w w') : SdE w0 w3 sb m F w' := by
  obtain ⟨a, c, F', h1, h2⟩ := h
  exact ⟨a, c, F', h1.keep hb, h2⟩
def Fo2 (w0 w5 : World) (sb fb : Nat) (y : PlV) {n : Nat} (t : Nd (Tr n)) (a1 a3 : Option Addr) (c1 c3 : Nat) (s0 s1 s3 s4 s6 s18 s19 s20 s21 s22 s23 s24 s25 s26 s27 s28 s29 s30 s31 s32 s33 s34 s35 s36 s37 s38 s39 s40 s41 : Value) (L : Array Bool) (a : Act) (w : World) : Prop :=
  ∀ C : Prop, (∀ (b0 b1 b2 b3 b4 b5 b6 b7 b8 b9 b10 b11 : Bool) (x7 x8 x9 x10 x11 x12 x13 x14 x15 x16 x17 : Value), L = #[b0, b1, b2, b3, b4, b5, b6, b7, b8, b9, b10, b11] → a = { tmps := #[s0, s1, .pointer (some ⟨fb, 0, none⟩), s3, s4, .pointer (some ⟨sb, 0, none⟩), s6, x7, x8, x9, x10, x11, x12, x13, x14, x15, x16, x17, s18, s19, s20, s21, s22, s23, s24, s25, s26, s27, s28, s29, s30, s31, s32, s33, s34, s35, s36, s37, s38, s39, s40, s41], defers := [] } → Frm w5 w [sb] → (b9 = false → StB w0 w sb none 0 [] []) → (b0 = true → x7 = .pointer (some ⟨sb, 0, none⟩)) → (b1 = true → x8 = .slice none 0 0) → (b2 = true → x9 = .agg #[.int .i64 0, .int .i64 0]) → (b3 = true → x10 = .pointer (some ⟨fb, 1, none⟩)) → (b4 = true → x11 = .slice a1 t.name.length c1) → (b5 = true → x12 = .pointer (some ⟨fb, 3, none⟩)) → (b6 = true → x13 = .slice a3 t.attrs.length c3) → (b7 = true → x14 = .agg #[.int .i64 0, .int .i64 0, .int .i64 0, .int .i64 0, .slice none 0 0, .int .i64 0, .slice a1 t.name.length c1, .slice none 0 0, .slice a3 t.attrs.length c3]) → (b8 = true → ∃ z2, x15 = .slice (some ⟨z2, 0, none⟩) 1 1 ∧ w5.heap.size ≤ z2 ∧ (b9 = false → Loc w z2 #[.int .i64 0, .int .i64 0, .int .i64 0, .int .i64 0, .slice none 0 0, .int .i64 0, .slice a1 t.name.length c1, .slice none 0 0, .slice a3 t.attrs.length c3] 107)) → (b9 = true → b1 = true ∧ b8 = true ∧ ∃ gq cq, x16 = .slice (some ⟨gq, 0, none⟩) 1 cq ∧ (b11 = false → AfS w0 w5 w sb none 0 [] y [] gq cq)) → (b10 = true → x17 = .pointer (some ⟨sb, 0, none⟩)) → (b11 = true → b9 = true ∧ SdE w0 w5 sb [y] [] w) → C) → C
theorem Fo2_cases {i : Nat} (h : i < 12) : i = 0 ∨ i = 1 ∨ i = 2 ∨ i = 3 ∨ i = 4 ∨ i = 5 ∨ i = 6 ∨ i = 7 ∨ i = 8 ∨ i = 9 ∨ i = 10 ∨ i = 11 := by omega
def Fo3 (w0 w5 : World) (sb : Nat) (a_ : Option Addr) (c_ : Nat) (y : PlV) (F_ : List Nat) (s0 s1 s2 s3 s4 s6 s7 s8 s9 s10 s11 s12 s13 s14 s15 s16 s17 s27 s28 s29 s30 s31 s32 s33 s34 s35 s36 s37 s38 s39 s40 s41 : Value) (L : Array Bool) (a : Act) (w : World) : Prop :=
  ∀ C : Prop, (∀ (b0 b1 b2 b3 b4 b5 b6 b7 b8 b9 : Bool) (x18 x19 x20 x21 x22 x23 x24 x25 x26 : Value), L = #[b0, b1, b2, b3, b4, b5, b6, b7, b8, b9] → a = { tmps := #[s0, s1, s2, s3, s4, .pointer (some ⟨sb, 0, none⟩), s6, s7, s8, s9, s10, s11, s12, s13, s14, s15, s16, s17, x18, x19, x20, x21, x22, x23, x24, x25, x26, s27, s28, s29, s30, s31, s32, s33, s34, s35, s36, s37, s38, s39, s40, s41], defers := [] } → Frm w5 w (sb :: F_) → (b7 = false → StB w0 w sb a_ c_ [y] F_) → (b0 = true → x18 = .pointer (some ⟨sb, 0, none⟩)) → (b1 = true → x19 = .slice a_ 1 c_) → (b2 = true → x20 = .agg #[.int .i64 0, .int .i64 1]) → (b3 = true → ∃ p, x21 = .slice (some ⟨p, 0, none⟩) 5 5 ∧ w5.heap.size ≤ p ∧ (b4 = false → Loc w p #[.int .u8 116, .int .u8 114, .int .u8 97, .int .u8 115, .int .u8 104] 5)) → (b4 = true → b3 = true ∧ ∃ p, x22 = .slice (some ⟨p, 0, none⟩) 5 5 ∧ w5.heap.size ≤ p ∧ (b7 = false → RowM w 0 (.slice (some ⟨p, 0, none⟩) 5 5) trashN)) → (b5 = true → b4 = true ∧ ∃ p, x22 = .slice (some ⟨p, 0, none⟩) 5 5 ∧ x23 = .agg #[.int .i64 0, .int .i64 1, .int .i64 0, .int .i64 0, .slice none 0 0, .int .i64 0, .slice (some ⟨p, 0, none⟩) 5 5, .slice none 0 0, .slice none 0 0]) → (b6 = true → b4 = true ∧ ∃ p z2, x22 = .slice (some ⟨p, 0, none⟩) 5 5 ∧ x24 = .slice (some ⟨z2, 0, none⟩) 1 1 ∧ w5.heap.size ≤ z2 ∧ (b7 = false → Loc w z2 #[.int .i64 0, .int .i64 1, .int .i64 0, .int .i64 0, .slice none 0 0, .int .i64 0, .slice (some ⟨p, 0, none⟩) 5 5, .slice none 0 0, .slice none 0 0] 107)) → (b7 = true → b1 = true ∧ b6 = true ∧ ∃ gq cq, x25 = .slice (some ⟨gq, 0, none⟩) 2 cq ∧ (b9 = false → AfS w0 w5 w sb a_ c_ [y] trashP F_ gq cq)) → (b8 = true → x26 = .pointer (some ⟨sb, 0, none⟩)) → (b9 = true → b7 = true ∧ SdE w0 w5 sb [y, trashP] F_ w) → C) → C
theorem Fo3_cases {i : Nat} (h : i < 10) : i = 0 ∨ i = 1 ∨ i = 2 ∨ i = 3 ∨ i = 4 ∨ i = 5 ∨ i = 6 ∨ i = 7 ∨ i = 8 ∨ i = 9 := by omega
def Fo4 (w0 w7 : World) (sb fb : Nat) (a_ : Option Addr) (c_ : Nat) (m : List PlV) (F_ : List Nat) {n : Nat} (t : Nd (Tr n)) (a1 a2 a3 a4 : Option Addr) (c1 c2 c3 c4 : Nat) (s0 s1 s3 s4 s6 s7 s8 s9 s10 s11 s12 s13 s14 s15 s16 s17 s18 s19 s20 s21 s22 s23 s24 s25 s26 s30 s31 s32 s33 s34 s35 s36 s37 s38 s39 s40 s41 : Value) (L : Array Bool) (a : Act) (w : World) : Prop :=
  ∀ C : Prop, (∀ (b0 b1 b2 : Bool) (x27 x28 x29 : Value), L = #[b0, b1, b2] → a = { tmps := #[s0, s1, .pointer (some ⟨fb, 0, none⟩), s3, s4, .pointer (some ⟨sb, 0, none⟩), s6, s7, s8, s9, s10, s11, s12, s13, s14, s15, s16, s17, s18, s19, s20, s21, s22, s23, s24, s25, s26, x27, x28, x29, s30, s31, s32, s33, s34, s35, s36, s37, s38, s39, s40, s41], defers := [] } → Frm w7 w (sb :: F_) → (b2 = false → StB w0 w sb a_ c_ m F_) → (b0 = true → x27 = .agg #[.int .i64 t.kind, .slice a1 t.name.length c1, .slice a2 t.text.length c2, .slice a3 t.attrs.length c3, .slice a4 t.kids.length c4]) → (b1 = true → x28 = .agg #[.int .i64 0, .int .i64 0]) → (b2 = true → SdE w0 w7 sb (seedK n (0, 0) t.kids m) F_ w) → C) → C
theorem Fo4_cases {i : Nat} (h : i < 3) : i = 0 ∨ i = 1 ∨ i = 2 := by omega
def foldW {n : Nat} (t : Nd (Tr n)) (ops : List OpV) : List PlV := ops.foldl doV (seedK n (0, 0) t.kids [⟨0, 0, 0, 0, [], 0, t.name, [], t.attrs⟩, trashP])
set_option maxHeartbeats 12800000 in
theorem l5fold_any (n : Nat) (w : World) (t : Nd (Tr n)) (a1 a2 a3 a4 a5 : Option Addr) (c1 c2 c3 c4 c5 : Nat) (ops : List OpV) (h1_ : Byt w (.slice a1 t.name.length c1) t.name) (h3_ : RdAttrs w (.slice a3 t.attrs.length c3) t.attrs) (h4_ : RdKids n w (.slice a4 t.kids.length c4) t.kids) (h5_ : RdOps w (.slice a5 ops.length c5) ops) (hseed : (seedK n (0, 0) t.kids [⟨0, 0, 0, 0, [], 0, t.name, [], t.attrs⟩, trashP]).length + ops.length ≤ 99999) (hat : ∀ p ∈ seedK n (0, 0) t.kids [⟨0, 0, 0, 0, [], 0, t.name, [], t.attrs⟩, trashP], p.attrs.length ≤ 100) :
    Calls Tryz.prog 25 #[.agg #[.int .i64 t.kind, .slice a1 t.name.length c1, .slice a2 t.text.length c2, .slice a3 t.attrs.length c3, .slice a4 t.kids.length c4], .slice a5 ops.length c5] w fun e w' => ∃ a c, e = .returned (.agg #[.slice a (foldW t ops).length c]) ∧ RdPls w' (.slice a (foldW t ops).length c) (foldW t ops) ∧ Below w.heap.size w w' := by
  obtain ⟨w0, hw0⟩ : ∃ w0, w0 = w := ⟨_, rfl⟩
  obtain ⟨w5, hw5⟩ : ∃ w5, w5 = (((w.alloc (.cells #[.int .i64 t.kind, .slice a1 t.name.length c1, .slice a2 t.text.length c2, .slice a3 t.attrs.length c3, .slice a4 t.kids.length c4] 38)).alloc (.cells #[.slice none 0 0] 32)).alloc (.cells #[.slice none 0 0] 32)) := ⟨_, rfl⟩
  have hA : Below w0.heap.size w0 w5 := by rw [hw0, hw5]; exact bstep (bstep ((Below.refl _ _).alloc (Nat.le_refl _) _) ((Below.refl _ _).alloc (Nat.le_refl _) _)) ((Below.refl _ _).alloc (Nat.le_refl _) _)
  have lf5 : Loc w5 w.heap.size #[.int .i64 t.kind, .slice a1 t.name.length c1, .slice a2 t.text.length c2, .slice a3 t.attrs.length c3, .slice a4 t.kids.length c4] 38 := by rw [hw5]; exact ((Loc.made w _ _).all ((Below.refl _ _).alloc (Nat.le_refl _) _)).all ((Below.refl _ _).alloc (Nat.le_refl _) _)
  have lr5 : Loc w5 (w.heap.size + 1) #[.slice none 0 0] 32 := by
    have h := (Loc.made (w.alloc (.cells #[.int .i64 t.kind, .slice a1 t.name.length c1, .slice a2 t.text.length c2, .slice a3 t.attrs.length c3, .slice a4 t.kids.length c4] 38)) #[.slice none 0 0] 32).all ((Below.refl _ _).alloc (Nat.le_refl _) (.cells #[.slice none 0 0] 32))
    rw [hw5]; simpa only [World.size_alloc] using h
  have ls5 : Loc w5 (w.heap.size + 1 + 1) #[.slice none 0 0] 32 := by
    have h := Loc.made ((w.alloc (.cells #[.int .i64 t.kind, .slice a1 t.name.length c1, .slice a2 t.text.length c2, .slice a3 t.attrs.length c3, .slice a4 t.kids.length c4] 38)).alloc (.cells #[.slice none 0 0] 32)) #[.slice none 0 0] 32
    rw [hw5]; simpa only [World.size_alloc] using h
  have hs0 : w0.heap.size = w.heap.size := by rw [hw0]
  have h5s : w5.heap.size = w.heap.size + 1 + 1 + 1 := by rw [hw5]; simp
  rw [← hw0] at h1_ h3_ h4_ h5_
  have HH := hide (And.intro hA (And.intro lf5 (And.intro lr5 (And.intro ls5 (And.intro h5s hs0)))))
  have HW := hide hw5
  have HW0 := hide hw0
  clear hA lf5 lr5 ls5 hw5 hw0 hs0 h5s
  go_enter Tryz.func25, Tryz.ntmps25
  go_wp2_with fail
  rw [← unhide HW]
  obtain ⟨hA, lf5, lr5, ls5, h5s, hs0⟩ := unhide HH
  clear HH HW
  generalize hfb : w.heap.size = fb at *
  generalize hrb : fb + 1 = rb at *
  generalize hsb : rb + 1 = sb at *
  have nfb : fb ∉ [sb] := by simp; omega
  have hst0 : StB w0 w5 sb none 0 [] [] := ⟨ls5, ⟨[], [], rfl, rfl, fun i hi => (by cases hi), World.ownsRow_nil _ _ _ _, rfl⟩, List.nodup_nil, fun q hq => (by cases hq), by omega, hA⟩
  have nrb : rb ∉ [sb] := by simp; omega
  have HN := hide (And.intro hfb (And.intro hrb (And.intro hsb (And.intro hs0 h5s))))
  clear hfb hrb hsb hs0 h5s
  obtain ⟨y, hy⟩ : ∃ y : PlV, y = ⟨0, 0, 0, 0, [], 0, t.name, [], t.attrs⟩ := ⟨_, rfl⟩
  have hplf : ∀ w', PlF w0 w' [.int .i64 0, .int .i64 0, .int .i64 0, .int .i64 0, .slice none 0 0, .int .i64 0, .slice a1 t.name.length c1, .slice none 0 0, .slice a3 t.attrs.length c3] y [] := fun w' => by
    rw [hy]
    exact ⟨_, _, _, _, [], [], [], rfl, .inl ⟨⟨okZ_nil, by simp [maxLen], .inl ⟨rfl, rfl⟩⟩, rfl⟩, .inl ⟨h1_, rfl⟩, ⟨okB_nil, by simp [maxLen], .inl ⟨rfl, rfl⟩⟩, .inl ⟨h3_, rfl⟩, rfl⟩
  obtain ⟨i0', hi0', hz0', hz1', hz2'⟩ := info_parts pl_info
  rw [← hy] at hseed hat
  have HSD := hide hseed
  have HAT := hide hat
  replace hseed : (seedK n (0, 0) t.kids [y, trashP]).length ≤ 100000 := by omega
  clear hat
  have HY := hide hy
  have HS := hide hst0
  have HL := hide lr5
  clear hy hst0 hA ls5 lr5
  refine region_inv (by kernel_rfl) (Fo2 w0 w5 sb fb y t a1 a3 c1 c3 (.agg #[.int .i64 t.kind, .slice a1 t.name.length c1, .slice a2 t.text.length c2, .slice a3 t.attrs.length c3, .slice a4 t.kids.length c4]) (.slice a5 ops.length c5) (undef) (.pointer (some ⟨rb, 0, none⟩)) (undef) (undef) (undef) (undef) (undef) (undef) (undef) (undef) (undef) (undef) (undef) (undef) (undef) (undef) (undef) (undef) (undef) (undef) (undef) (undef) (undef) (undef) (undef) (undef) (undef)) ?sz ?h0 ?stp ?dn
  case sz =>
    intro L a w hI
    refine hI _ ?_
    intro b0 b1 b2 b3 b4 b5 b6 b7 b8 b9 b10 b11 x7 x8 x9 x10 x11 x12 x13 x14 x15 x16 x17 eL eA h0 h1 f0 f1 f2 f3 f4 f5 f6 f7 f8 f9 f10 f11
    subst eL
    rfl
  case h0 =>
    exact fun _ k_ => k_ false false false false false false false false false false false false _ _ _ _ _ _ _ _ _ _ _ rfl rfl (Frm.ofBelow ((Below.refl _ _).drew) _) (fun _ => (unhide HS).keep ((Below.refl _ _).drew)) (fun h => by cases h) (fun h => by cases h) (fun h => by cases h) (fun h => by cases h) (fun h => by cases h) (fun h => by cases h) (fun h => by cases h) (fun h => by cases h) (fun h => by cases h) (fun h => by cases h) (fun h => by cases h) (fun h => by cases h)
  case stp =>
    intro L a_9 w9_ i_ o_ hI hi ho
    refine hI _ ?_
    clear hI
    intro b0 b1 b2 b3 b4 b5 b6 b7 b8 b9 b10 b11 x7 x8 x9 x10 x11 x12 x13 x14 x15 x16 x17 eL eA h0 h1 f0 f1 f2 f3 f4 f5 f6 f7 f8 f9 f10 f11
    subst eL eA
    rcases Fo2_cases (ready_lt hi) with rfl | rfl | rfl | rfl | rfl | rfl | rfl | rfl | rfl | rfl | rfl | rfl
    · obtain rfl := Option.some.inj ho
      go_simp
      exact fun _ k_ => k_ true b1 b2 b3 b4 b5 b6 b7 b8 b9 b10 b11 _ x8 x9 x10 x11 x12 x13 x14 x15 x16 x17 rfl rfl h0 h1 (fun _ => rfl) f1 f2 f3 f4 f5 f6 f7 f8 f9 f10 f11
    · have g0 := ready_pred hi ho 0
      obtain rfl := Option.some.inj ho
      have e0 := f0 (g0 (by kernel_rfl))
      subst e0
      have hbz : b1 = false := by simpa using ready_off rfl hi
      have cs := (h1 (by cases hb : b9 with
        | false => rfl
        | true => have := (f9 hb).1; rw [hbz] at this; cases this)).1.cell 0
      clear hbz
      go_simp
      exact fun _ k_ => k_ b0 true b2 b3 b4 b5 b6 b7 b8 b9 b10 b11 _ _ x9 x10 x11 x12 x13 x14 x15 x16 x17 rfl rfl h0 h1 f0 (fun _ => rfl) f2 f3 f4 f5 f6 f7 f8 (fun h => ⟨rfl, (f9 h).2⟩) f10 f11
    · obtain rfl := Option.some.inj ho
      go_simp
      refine (l4root_any w9_).mono ?_
      rintro e w8 ⟨rfl, hb9⟩
      exact fun _ k_ => k_ b0 b1 true b3 b4 b5 b6 b7 b8 b9 b10 b11 x7 x8 _ x10 x11 x12 x13 x14 x15 x16 x17 rfl rfl (h0.moreS (Frm.ofBelow hb9 []) (fun q hq => by cases hq)) (fun h => (h1 h).keep hb9) f0 f1 (fun _ => rfl) f3 f4 f5 f6 f7 (fun h => by obtain ⟨z2, e, hz, t⟩ := f8 h; exact ⟨z2, e, hz, fun h => (t h).all hb9⟩) (fun h => by obtain ⟨p1, p2, gq, cq, e, t⟩ := f9 h; exact ⟨p1, p2, gq, cq, e, fun h => (t h).keep hb9⟩) f10 (fun h => ⟨(f11 h).1, (f11 h).2.keep hb9⟩)
    · obtain rfl := Option.some.inj ho
      go_simp
      exact fun _ k_ => k_ b0 b1 b2 true b4 b5 b6 b7 b8 b9 b10 b11 x7 x8 x9 _ x11 x12 x13 x14 x15 x16 x17 rfl rfl h0 h1 f0 f1 f2 (fun _ => rfl) f4 f5 f6 f7 f8 f9 f10 f11
    · have g3 := ready_pred hi ho 3
      obtain rfl := Option.some.inj ho
      have e3 := f3 (g3 (by kernel_rfl))
      subst e3
      have lf_ := lf5.frm h0 nfb
      have cq := lf_.cell 1
      clear lf_
      go_simp
      exact fun _ k_ => k_ b0 b1 b2 b3 true b5 b6 b7 b8 b9 b10 b11 x7 x8 x9 _ _ x12 x13 x14 x15 x16 x17 rfl rfl h0 h1 f0 f1 f2 f3 (fun _ => rfl) f5 f6 f7 f8 f9 f10 f11
    · obtain rfl := Option.some.inj ho
      go_simp
      exact fun _ k_ => k_ b0 b1 b2 b3 b4 true b6 b7 b8 b9 b10 b11 x7 x8 x9 x10 x11 _ x13 x14 x15 x16 x17 rfl rfl h0 h1 f0 f1 f2 f3 f4 (fun _ => rfl) f6 f7 f8 f9 f10 f11
    · have g5 := ready_pred hi ho 5
      obtain rfl := Option.some.inj ho
      have e5 := f5 (g5 (by kernel_rfl))
      subst e5
      have lf_ := lf5.frm h0 nfb
      have cq := lf_.cell 3
      clear lf_
      go_simp
      exact fun _ k_ => k_ b0 b1 b2 b3 b4 b5 true b7 b8 b9 b10 b11 x7 x8 x9 x10 x11 _ _ x14 x15 x16 x17 rfl rfl h0 h1 f0 f1 f2 f3 f4 f5 (fun _ => rfl) f7 f8 f9 f10 f11
    · have g2 := ready_pred hi ho 2
      have g4 := ready_pred hi ho 4
      have g6 := ready_pred hi ho 6
      obtain rfl := Option.some.inj ho
      have e2 := f2 (g2 (by kernel_rfl))
      subst e2
      have e4 := f4 (g4 (by kernel_rfl))
      subst e4
      have e6 := f6 (g6 (by kernel_rfl))
      subst e6
      go_simp
      exact fun _ k_ => k_ b0 b1 b2 b3 b4 b5 b6 true b8 b9 b10 b11 x7 x8 _ x10 _ x12 _ _ x15 x16 x17 rfl rfl h0 h1 f0 f1 f2 f3 f4 f5 f6 (fun _ => rfl) f8 f9 f10 f11
    · have g7 := ready_pred hi ho 7
      have hbz : b8 = false := by simpa using ready_off rfl hi
      obtain rfl := Option.some.inj ho
      have e7 := f7 (g7 (by kernel_rfl))
      subst e7
      have h7 : b9 = false := by
        cases hb : b9 with
        | false => rfl
        | true => have := (f9 hb).2.1; rw [hbz] at this; cases this
      have hb9 : Below w9_.heap.size w9_ (w9_.alloc (.cells #[.int .i64 0, .int .i64 0, .int .i64 0, .int .i64 0, .slice none 0 0, .int .i64 0, .slice a1 t.name.length c1, .slice none 0 0, .slice a3 t.attrs.length c3] 107)) := (Below.refl _ _).alloc (Nat.le_refl _) _
      have lm9 := Loc.made w9_ #[.int .i64 0, .int .i64 0, .int .i64 0, .int .i64 0, .slice none 0 0, .int .i64 0, .slice a1 t.name.length c1, .slice none 0 0, .slice a3 t.attrs.length c3] 107
      have hw9 := h0.size
      have H7 := hide h7
      clear h7 hbz
      go_simp
      exact fun _ k_ => k_ b0 b1 b2 b3 b4 b5 b6 b7 true b9 b10 b11 x7 x8 x9 x10 x11 x12 x13 _ _ x16 x17 rfl rfl (h0.moreS (Frm.ofBelow hb9 []) (fun q hq => by cases hq)) (fun h => (h1 h).keep hb9) f0 f1 f2 f3 f4 f5 f6 (fun _ => rfl) (fun _ => ⟨w9_.heap.size, rfl, hw9, fun _ => lm9⟩) (fun h => by rw [unhide H7] at h; cases h) f10 (fun h => by have := (f11 h).1; rw [unhide H7] at this; cases this)
    · have g1 := ready_pred hi ho 1
      have g8 := ready_pred hi ho 8
      have hbz : b9 = false := by simpa using ready_off rfl hi
      obtain rfl := Option.some.inj ho
      have t1 : b1 = true := g1 (by kernel_rfl)
      have t8 : b8 = true := g8 (by kernel_rfl)
      have e1 := f1 t1
      obtain ⟨z2, ez, hz2, lz0⟩ := f8 t8
      have lz := lz0 hbz
      have hs := h1 hbz
      subst e1 ez
      refine step_push (R := PlF w0) (fun h f d => PlF.frm h f d) (by rfl) (.tmp 8) (.tmp 15) 30 (by rfl) 107 i0' (.agg #[.int .i64 0, .int .i64 0, .int .i64 0, .int .i64 0, .slice none 0 0, .int .i64 0, .slice none 0 0, .slice none 0 0, .slice none 0 0]) 9 136 Tryz.underlying30 hi0' hz0' hz1' hz2' rfl (by decide) _ ([] : List PlV) [] (by rfl) hs.2.1 hs.2.2.1 ⟨z2, 0, none⟩ 1 [.int .i64 0, .int .i64 0, .int .i64 0, .int .i64 0, .slice none 0 0, .int .i64 0, .slice a1 t.name.length c1, .slice none 0 0, .slice a3 t.attrs.length c3] y [] (by rfl) rfl (fun i u hu => World.news_of_block lz i u (by simpa using hu)) (by intro y hy; simp at hy; rcases hy with rfl | rfl | rfl | rfl | rfl | rfl | rfl | rfl | rfl <;> rfl) (hplf w9_) (by simp) (fun g hg hg' => by cases hg) (fun q hq => by rcases hq with hq | hq <;> cases hq) (by decide) (by decide) ?_
      intro g9 cap9 w9 F9 hF9 hN9 hM9 hf9 hg9
      have hF9l := OwElems.lt hF9 (fun C x G h => PlF.lt h)
      have hw95 := h0.size
      have hAf : AfS w0 w5 w9 sb none 0 [] y [] g9 cap9 := ⟨F9, hs.1.frm hf9 (fun e => by cases e), hF9, hN9, fun q hq => ⟨by
          rcases hM9 q hq with h | h | h
          · cases h
          · cases h
          · have := hs.2.2.2.2.2.size; omega, hF9l q hq, by
          rcases hM9 q hq with h | h | h
          · cases h
          · cases h
          · have := hs.1.lt; omega⟩, hs.2.2.2.2.1, hs.2.2.2.2.2.trans (hf9.below hs.2.2.2.2.2.size (fun q hq => by cases hq)), fun q hq => by
          rcases hM9 q hq with h | h | h
          · cases h
          · cases h
          · right; omega⟩
      exact fun _ k_ => k_ b0 b1 b2 b3 b4 b5 b6 b7 b8 true b10 b11 x7 _ x9 x10 x11 x12 x13 x14 _ _ x17 rfl rfl (h0.moreS hf9 (fun q hq => by cases hq)) (fun h => by cases h) f0 (fun _ => rfl) f2 f3 f4 f5 f6 f7 (fun _ => ⟨z2, rfl, hz2, fun h => by cases h⟩) (fun _ => ⟨t1, t8, g9, cap9, rfl, fun _ => hAf⟩) f10 (fun h => by have := (f11 h).1; rw [hbz] at this; cases this)
    · obtain rfl := Option.some.inj ho
      go_simp
      exact fun _ k_ => k_ b0 b1 b2 b3 b4 b5 b6 b7 b8 b9 true b11 x7 x8 x9 x10 x11 x12 x13 x14 x15 x16 _ rfl rfl h0 h1 f0 f1 f2 f3 f4 f5 f6 f7 f8 f9 (fun _ => rfl) f11
    · have g9 := ready_pred hi ho 9
      have g10 := ready_pred hi ho 10
      have hbz : b11 = false := by simpa using ready_off rfl hi
      obtain rfl := Option.some.inj ho
      have t9 : b9 = true := g9 (by kernel_rfl)
      have e10 := f10 (g10 (by kernel_rfl))
      obtain ⟨t1, t8, gq, cq, ex, hAf0⟩ := f9 t9
      have hAf := hAf0 hbz
      subst e10 ex
      have cs := hAf.choose_spec.1.cell 0
      have fz := hAf.choose_spec.1.frozen 0
      have hD := hAf.done
      have hf := h0.moreS (set_frm w9_ sb 0 (.slice (some ⟨gq, 0, none⟩) 1 cq)) (fun q hq => by simp at hq; left; simp [hq])
      have EB := hide (And.intro t9 (And.intro t1 (And.intro t8 (And.intro hD hf))))
      clear t9 t1 t8 hD hf hbz hAf hAf0 f9
      go_simp
      exact fun _ k_ => k_ b0 b1 b2 b3 b4 b5 b6 b7 b8 b9 b10 true x7 x8 x9 x10 x11 x12 x13 x14 x15 _ _ rfl rfl ((unhide EB).2.2.2.2) (fun h => by rw [(unhide EB).1] at h; cases h) f0 f1 f2 f3 f4 f5 f6 f7 (fun h => by obtain ⟨z2, e, hz, _⟩ := f8 h; exact ⟨z2, e, hz, fun ha => by rw [(unhide EB).1] at ha; cases ha⟩) (fun _ => ⟨(unhide EB).2.1, (unhide EB).2.2.1, gq, cq, rfl, fun h => by cases h⟩) (fun _ => rfl) (fun _ => ⟨(unhide EB).1, (unhide EB).2.2.2.1⟩)
  case dn =>
    intro L a_9 w9_ hI hre
    have hall := ready_all (L := L) (by refine hI _ ?_; intro b0 b1 b2 b3 b4 b5 b6 b7 b8 b9 b10 b11 x7 x8 x9 x10 x11 x12 x13 x14 x15 x16 x17 eL eA h0 h1 f0 f1 f2 f3 f4 f5 f6 f7 f8 f9 f10 f11; subst eL; rfl) (by kernel_rfl) hre 12
    refine hI _ ?_
    clear hI
    intro b0 b1 b2 b3 b4 b5 b6 b7 b8 b9 b10 b11 x7 x8 x9 x10 x11 x12 x13 x14 x15 x16 x17 eL eA h0 h1 f0 f1 f2 f3 f4 f5 f6 f7 f8 f9 f10 f11
    subst eL eA
    have t11 : b11 = true := hall 11 (by omega) (by decide)
    obtain ⟨a6, c6, F6, hs6, hF6⟩ := (f11 t11).2
    obtain ⟨w6, hw6⟩ : ∃ w6, w6 = w9_ := ⟨_, rfl⟩
    rw [← hw6] at hs6 ⊢
    have nF6 : ∀ q, q = fb ∨ q = rb → q ∉ sb :: F6 := fun q hq e => by
      obtain ⟨_, _, _, _, _⟩ := unhide HN
      rcases List.mem_cons.1 e with e | e
      · rcases hq with h | h <;> omega
      · rcases hF6 q e with h | h
        · cases h
        · rcases hq with h | h <;> omega
    have h56 := h0.size
    have lf6 := lf5.frm h0 nfb
    have lr6 := (unhide HL).frm h0 nrb
    rw [← hw6] at lf6 lr6 h56
    have HL6 := hide (And.intro lf6 lr6)
    clear hw6 hall hre t11 f0 f1 f2 f3 f4 f5 f6 f7 f8 f9 f10 f11 h0 h1 hplf lf5 lf6 lr6 HL nfb nrb
    have hF6l : ∀ q ∈ F6, q < w6.heap.size := fun q hq => (hs6.2.2.2.1 q hq).2.1
    have hsb6 := hs6.1.lt
    have hw06 := hs6.2.2.2.2.2.size
    have HS := hide hs6
    have HF6 := hide (And.intro nF6 (And.intro hF6 h56))
    clear hs6 hF6 nF6 h56
    go_upto_region 3 with fail
    refine region_inv (by kernel_rfl) (Fo3 w0 w6 sb a6 c6 y F6 (.agg #[.int .i64 t.kind, .slice a1 t.name.length c1, .slice a2 t.text.length c2, .slice a3 t.attrs.length c3, .slice a4 t.kids.length c4]) (.slice a5 ops.length c5) (.pointer (some ⟨fb, 0, none⟩)) (undef) (.pointer (some ⟨rb, 0, none⟩)) (undef) (x7) (x8) (x9) (x10) (x11) (x12) (x13) (x14) (x15) (x16) (x17) (undef) (undef) (undef) (undef) (undef) (undef) (undef) (undef) (undef) (undef) (undef) (undef) (undef) (undef) (undef)) ?sz ?h0 ?stp ?dn
    case sz =>
      intro L a w hI
      refine hI _ ?_
      intro b0 b1 b2 b3 b4 b5 b6 b7 b8 b9 x18 x19 x20 x21 x22 x23 x24 x25 x26 eL eA h0 h1 f0 f1 f2 f3 f4 f5 f6 f7 f8 f9
      subst eL
      rfl
    case h0 =>
      exact fun _ k_ => k_ false false false false false false false false false false _ _ _ _ _ _ _ _ _ rfl rfl (Frm.ofBelow ((Below.refl _ _).drew) _) (fun _ => (unhide HS).keep ((Below.refl _ _).drew)) (fun h => by cases h) (fun h => by cases h) (fun h => by cases h) (fun h => by cases h) (fun h => by cases h) (fun h => by cases h) (fun h => by cases h) (fun h => by cases h) (fun h => by cases h) (fun h => by cases h)
    case stp =>
      intro L a_9 w9_ i_ o_ hI hi ho
      refine hI _ ?_
      clear hI
      intro b0 b1 b2 b3 b4 b5 b6 b7 b8 b9 x18 x19 x20 x21 x22 x23 x24 x25 x26 eL eA h0 h1 f0 f1 f2 f3 f4 f5 f6 f7 f8 f9
      subst eL eA
      rcases Fo3_cases (ready_lt hi) with rfl | rfl | rfl | rfl | rfl | rfl | rfl | rfl | rfl | rfl
      · obtain rfl := Option.some.inj ho
        go_simp
        exact fun _ k_ => k_ true b1 b2 b3 b4 b5 b6 b7 b8 b9 _ x19 x20 x21 x22 x23 x24 x25 x26 rfl rfl h0 h1 (fun _ => rfl) f1 f2 f3 f4 f5 f6 f7 f8 f9
      · have g0 := ready_pred hi ho 0
        obtain rfl := Option.some.inj ho
        have e0 := f0 (g0 (by kernel_rfl))
        subst e0
        have hbz : b1 = false := by simpa using ready_off rfl hi
        have cs := (h1 (by cases hb : b7 with
          | false => rfl
          | true => have := (f7 hb).1; rw [hbz] at this; cases this)).1.cell 0
        clear hbz
        go_simp
        exact fun _ k_ => k_ b0 true b2 b3 b4 b5 b6 b7 b8 b9 _ _ x20 x21 x22 x23 x24 x25 x26 rfl rfl h0 h1 f0 (fun _ => rfl) f2 f3 f4 f5 f6 (fun h => ⟨rfl, (f7 h).2⟩) f8 f9
      · obtain rfl := Option.some.inj ho
        go_simp
        refine (l4trash_any w9_).mono ?_
        rintro e w8 ⟨rfl, hb9⟩
        exact fun _ k_ => k_ b0 b1 true b3 b4 b5 b6 b7 b8 b9 x18 x19 _ x21 x22 x23 x24 x25 x26 rfl rfl (h0.moreS (Frm.ofBelow hb9 []) (fun q hq => by cases hq)) (fun h => (h1 h).keep hb9) f0 f1 (fun _ => rfl) (fun h => by obtain ⟨p, e, hz, t⟩ := f3 h; exact ⟨p, e, hz, fun h => (t h).all hb9⟩) (fun h => by obtain ⟨p1, p, e, hz, t⟩ := f4 h; exact ⟨p1, p, e, hz, fun h => (t h).keep hb9⟩) f5 (fun h => by obtain ⟨p1, p, z2, e, e2, hz, t⟩ := f6 h; exact ⟨p1, p, z2, e, e2, hz, fun h => (t h).all hb9⟩) (fun h => by obtain ⟨p1, p2, gq, cq, e, t⟩ := f7 h; exact ⟨p1, p2, gq, cq, e, fun h => (t h).keep hb9⟩) f8 (fun h => ⟨(f9 h).1, (f9 h).2.keep hb9⟩)
      · have hbz : b3 = false := by simpa using ready_off rfl hi
        obtain rfl := Option.some.inj ho
        have h4 : b4 = false := by
          cases hb : b4 with
          | false => rfl
          | true => have := (f4 hb).1; rw [hbz] at this; cases this
        have hb9 : Below w9_.heap.size w9_ (w9_.alloc (.cells #[.int .u8 116, .int .u8 114, .int .u8 97, .int .u8 115, .int .u8 104] 5)) := (Below.refl _ _).alloc (Nat.le_refl _) _
        have lm9 := Loc.made w9_ #[.int .u8 116, .int .u8 114, .int .u8 97, .int .u8 115, .int .u8 104] 5
        have hw9 := h0.size
        have H4 := hide h4
        clear h4 hbz
        go_simp
        exact fun _ k_ => k_ b0 b1 b2 true b4 b5 b6 b7 b8 b9 x18 x19 x20 _ x22 x23 x24 x25 x26 rfl rfl (h0.moreS (Frm.ofBelow hb9 []) (fun q hq => by cases hq)) (fun h => (h1 h).keep hb9) f0 f1 f2 (fun _ => ⟨w9_.heap.size, rfl, hw9, fun _ => lm9⟩) (fun h => by rw [unhide H4] at h; cases h) f5 (fun h => by obtain ⟨p1, p, z2, e, e2, hz, t⟩ := f6 h; exact ⟨p1, p, z2, e, e2, hz, fun h => (t h).all hb9⟩) (fun h => by obtain ⟨p1, p2, gq, cq, e, t⟩ := f7 h; exact ⟨p1, p2, gq, cq, e, fun h => (t h).keep hb9⟩) f8 (fun h => ⟨(f9 h).1, (f9 h).2.keep hb9⟩)
      · have g3 := ready_pred hi ho 3
        have hbz : b4 = false := by simpa using ready_off rfl hi
        obtain rfl := Option.some.inj ho
        have t3 : b3 = true := g3 (by kernel_rfl)
        obtain ⟨p, ex, hp, lp0⟩ := f3 t3
        have lp := lp0 hbz
        subst ex
        obtain ⟨w9, hrun, hf, hsz9, hrow⟩ := mark_row w9_ p lp
        have h5 : b5 = false := by
          cases hb : b5 with
          | false => rfl
          | true => have := (f5 hb).1; rw [hbz] at this; cases this
        have h6 : b6 = false := by
          cases hb : b6 with
          | false => rfl
          | true => have := (f6 hb).1; rw [hbz] at this; cases this
        have h7 : b7 = false := by
          cases hb : b7 with
          | false => rfl
          | true => have := (f7 hb).2.1; rw [h6] at this; cases this
        have hs9 : StB w0 w9 sb _ _ _ _ := (h1 h7).frm hf (fun g hg e => by simp at e; subst e; have := hF6l g hg; omega) (by have := hsb6; simp; omega) (fun q hq => by simp at hq; have := hw06; omega)
        have H5 := hide (And.intro h5 (And.intro h6 (And.intro h7 t3)))
        clear h5 h6 h7 t3 hbz lp lp0
        go_simp
        exact fun _ k_ => k_ b0 b1 b2 b3 true b5 b6 b7 b8 b9 x18 x19 x20 _ _ x23 x24 x25 x26 rfl rfl (h0.moreS hf (fun q hq => by simp at hq; right; omega)) (fun _ => hs9) f0 f1 f2 (fun _ => ⟨p, rfl, hp, fun h => by cases h⟩) (fun _ => ⟨(unhide H5).2.2.2, p, rfl, hp, fun _ => hrow⟩) (fun h => by rw [(unhide H5).1] at h; cases h) (fun h => by rw [(unhide H5).2.1] at h; cases h) (fun h => by rw [(unhide H5).2.2.1] at h; cases h) f8 (fun h => by have := (f9 h).1; rw [(unhide H5).2.2.1] at this; cases this)
      · have g2 := ready_pred hi ho 2
        have g4 := ready_pred hi ho 4
        obtain rfl := Option.some.inj ho
        have e2 := f2 (g2 (by kernel_rfl))
        have t4 : b4 = true := g4 (by kernel_rfl)
        obtain ⟨t3, p, ex, hp, hr⟩ := f4 t4
        subst e2 ex
        have T4 := hide (And.intro t4 t3)
        clear t4 t3
        go_simp
        exact fun _ k_ => k_ b0 b1 b2 b3 b4 true b6 b7 b8 b9 x18 x19 _ x21 _ _ x24 x25 x26 rfl rfl h0 h1 f0 f1 (fun _ => rfl) f3 (fun _ => ⟨(unhide T4).2, p, rfl, hp, hr⟩) (fun _ => ⟨(unhide T4).1, p, rfl, rfl⟩) f6 f7 f8 f9
      · have g5 := ready_pred hi ho 5
        have hbz : b6 = false := by simpa using ready_off rfl hi
        obtain rfl := Option.some.inj ho
        obtain ⟨t4, p, ex, en⟩ := f5 (g5 (by kernel_rfl))
        obtain ⟨t3, p4, ex4, hp4, hr4⟩ := f4 t4
        have EP := ex4.symm.trans ex
        injection EP with y1 _ _
        injection y1 with y1
        injection y1 with y1 _ _
        subst y1
        clear ex4
        subst ex en
        have h7 : b7 = false := by
          cases hb : b7 with
          | false => rfl
          | true => have := (f7 hb).2.1; rw [hbz] at this; cases this
        have hb9 : Below w9_.heap.size w9_ (w9_.alloc (.cells #[.int .i64 0, .int .i64 1, .int .i64 0, .int .i64 0, .slice none 0 0, .int .i64 0, .slice (some ⟨p4, 0, none⟩) 5 5, .slice none 0 0, .slice none 0 0] 107)) := (Below.refl _ _).alloc (Nat.le_refl _) _
        have lm9 := Loc.made w9_ #[.int .i64 0, .int .i64 1, .int .i64 0, .int .i64 0, .slice none 0 0, .int .i64 0, .slice (some ⟨p4, 0, none⟩) 5 5, .slice none 0 0, .slice none 0 0] 107
        have hw9 := h0.size
        have H7 := hide (And.intro h7 (And.intro t4 t3))
        clear h7 hbz t4 t3
        go_simp
        exact fun _ k_ => k_ b0 b1 b2 b3 b4 b5 true b7 b8 b9 x18 x19 x20 x21 _ _ _ x25 x26 rfl rfl (h0.moreS (Frm.ofBelow hb9 []) (fun q hq => by cases hq)) (fun h => (h1 h).keep hb9) f0 f1 f2 (fun h => by obtain ⟨p, e, hz, t⟩ := f3 h; exact ⟨p, e, hz, fun h => (t h).all hb9⟩) (fun _ => ⟨(unhide H7).2.2, p4, rfl, hp4, fun h => (hr4 h).keep hb9⟩) (fun _ => ⟨(unhide H7).2.1, p4, rfl, rfl⟩) (fun _ => ⟨(unhide H7).2.1, p4, w9_.heap.size, rfl, rfl, hw9, fun _ => lm9⟩) (fun h => by rw [(unhide H7).1] at h; cases h) f8 (fun h => by have := (f9 h).1; rw [(unhide H7).1] at this; cases this)
      · have g1 := ready_pred hi ho 1
        have g6 := ready_pred hi ho 6
        have hbz : b7 = false := by simpa using ready_off rfl hi
        obtain rfl := Option.some.inj ho
        have t1 : b1 = true := g1 (by kernel_rfl)
        have t6 : b6 = true := g6 (by kernel_rfl)
        have e1 := f1 t1
        obtain ⟨t4, p, z2, ep, ez, hz2, lz0⟩ := f6 t6
        obtain ⟨t3, p4, ex4, hp4, hr4⟩ := f4 t4
        have EP := ex4.symm.trans ep
        injection EP with y1 _ _
        injection y1 with y1
        injection y1 with y1 _ _
        subst y1
        have lz := lz0 hbz
        have hs := h1 hbz
        have hrow := hr4 hbz
        subst e1 ez
        clear ex4
        subst ep
        have hzl : p4 < w9_.heap.size := (hrow.lt p4 rfl).2
        have hpF : p4 ∉ F6 := fun h => by have := hF6l p4 h; omega
        have hpl : PlF w0 w9_ [.int .i64 0, .int .i64 1, .int .i64 0, .int .i64 0, .slice none 0 0, .int .i64 0, .slice (some ⟨p4, 0, none⟩) 5 5, .slice none 0 0, .slice none 0 0] trashP [p4] := ⟨_, _, _, _, [], [p4], [], rfl, .inl ⟨⟨okZ_nil, by simp [trashP, maxLen], .inl ⟨rfl, rfl⟩⟩, rfl⟩, .inr ⟨hrow, by simp [FB, Value.ownBlock]⟩, ⟨okB_nil, by simp [trashP, maxLen], .inl ⟨rfl, rfl⟩⟩, .inl ⟨⟨by simp [trashP, maxLen], .inl ⟨rfl, rfl⟩⟩, rfl⟩, rfl⟩
        refine step_push (R := PlF w0) (fun h f d => PlF.frm h f d) (by rfl) (.tmp 19) (.tmp 24) 30 (by rfl) 107 i0' (.agg #[.int .i64 0, .int .i64 0, .int .i64 0, .int .i64 0, .slice none 0 0, .int .i64 0, .slice none 0 0, .slice none 0 0, .slice none 0 0]) 9 136 Tryz.underlying30 hi0' hz0' hz1' hz2' rfl (by decide) _ [y] F6 (by rfl) hs.2.1 hs.2.2.1 ⟨z2, 0, none⟩ 1 [.int .i64 0, .int .i64 1, .int .i64 0, .int .i64 0, .slice none 0 0, .int .i64 0, .slice (some ⟨p4, 0, none⟩) 5 5, .slice none 0 0, .slice none 0 0] trashP [p4] (by rfl) rfl (fun i u hu => World.news_of_block lz i u (by simpa using hu)) (by intro y hy; simp at hy; rcases hy with rfl | rfl | rfl | rfl | rfl | rfl | rfl | rfl | rfl <;> rfl) hpl (by simp) (fun g hg hg' => by simp at hg'; subst hg'; exact hpF hg) (fun q hq => by rcases hq with hq | hq; exact (hs.2.2.2.1 q hq).2.1; (simp at hq; subst hq; exact hzl)) (by unfold maxLen; simp) (by simp) ?_
        intro g9 cap9 w9 F9 hF9 hN9 hM9 hf9 hg9
        have hvF : ∀ q ∈ FB (.slice a6 [y].length c6), q ∈ F6 := fun q hq => PlsF.head hs.2.1 q hq
        have hF9l := OwElems.lt hF9 (fun C x G h => PlF.lt h)
        have hw95 := h0.size
        have hAf : AfS w0 w6 w9 sb a6 c6 [y] trashP F6 g9 cap9 := ⟨F9, hs.1.frm hf9 (fun e => (hs.2.2.2.1 sb (hvF sb e)).2.2 rfl), hF9, hN9, fun q hq => ⟨by
            rcases hM9 q hq with h | h | h
            · exact (hs.2.2.2.1 q h).1
            · simp at h; have := hw06; omega
            · have := hs.2.2.2.2.2.size; omega, hF9l q hq, by
            rcases hM9 q hq with h | h | h
            · exact (hs.2.2.2.1 q h).2.2
            · simp at h; have := hsb6; omega
            · have := hs.1.lt; omega⟩, hs.2.2.2.2.1, hs.2.2.2.2.2.trans (hf9.below hs.2.2.2.2.2.size (fun q hq => (hs.2.2.2.1 q (hvF q hq)).1)), fun q hq => by
            rcases hM9 q hq with h | h | h
            · exact .inl h
            · simp at h; right; omega
            · right; omega⟩
        have H7 := hide (And.intro t4 t3)
        clear t4 t3
        exact fun _ k_ => k_ b0 b1 b2 b3 b4 b5 b6 true b8 b9 x18 _ x20 x21 _ x23 _ _ x26 rfl rfl (h0.moreS hf9 (fun q hq => .inl (List.mem_cons_of_mem _ (hvF q hq)))) (fun h => by cases h) f0 (fun _ => rfl) f2 (fun h => by obtain ⟨p, e, hz, _⟩ := f3 h; exact ⟨p, e, hz, fun h => by rw [(unhide H7).1] at h; cases h⟩) (fun _ => ⟨(unhide H7).2, p4, rfl, hp4, fun h => by cases h⟩) f5 (fun _ => ⟨(unhide H7).1, p4, z2, rfl, rfl, hz2, fun h => by cases h⟩) (fun _ => ⟨t1, t6, g9, cap9, rfl, fun _ => hAf⟩) f8 (fun h => by have := (f9 h).1; rw [hbz] at this; cases this)
      · obtain rfl := Option.some.inj ho
        go_simp
        exact fun _ k_ => k_ b0 b1 b2 b3 b4 b5 b6 b7 true b9 x18 x19 x20 x21 x22 x23 x24 x25 _ rfl rfl h0 h1 f0 f1 f2 f3 f4 f5 f6 f7 (fun _ => rfl) f9
      · have g7 := ready_pred hi ho 7
        have g8 := ready_pred hi ho 8
        have g4 := ready_pred hi ho 4
        have hbz : b9 = false := by simpa using ready_off rfl hi
        obtain rfl := Option.some.inj ho
        have t7 : b7 = true := g7 (by kernel_rfl)
        have t4 : b4 = true := g4 (by kernel_rfl)
        have e8 := f8 (g8 (by kernel_rfl))
        obtain ⟨t1, t6, gq, cq, ex, hAf0⟩ := f7 t7
        have hAf := hAf0 hbz
        subst e8 ex
        have cs := hAf.choose_spec.1.cell 0
        have fz := hAf.choose_spec.1.frozen 0
        have hD := hAf.done
        have hf := h0.moreS (set_frm w9_ sb 0 (.slice (some ⟨gq, 0, none⟩) 2 cq)) (fun q hq => by simp at hq; left; simp [hq])
        have EB := hide (And.intro t7 (And.intro t1 (And.intro t6 (And.intro hD (And.intro hf t4)))))
        clear t7 t1 t6 hD hf hbz hAf hAf0 f7 t4
        go_simp
        exact fun _ k_ => k_ b0 b1 b2 b3 b4 b5 b6 b7 b8 true x18 x19 x20 x21 x22 x23 x24 _ _ rfl rfl ((unhide EB).2.2.2.2.1) (fun h => by rw [(unhide EB).1] at h; cases h) f0 f1 f2 (fun h => by obtain ⟨p, e, hz, _⟩ := f3 h; exact ⟨p, e, hz, fun h => by rw [(unhide EB).2.2.2.2.2] at h; cases h⟩) (fun h => by obtain ⟨t3, p, e, hz, _⟩ := f4 h; exact ⟨t3, p, e, hz, fun ha => by rw [(unhide EB).1] at ha; cases ha⟩) f5 (fun h => by obtain ⟨t4, p, z2, e, e2, hz, _⟩ := f6 h; exact ⟨t4, p, z2, e, e2, hz, fun ha => by rw [(unhide EB).1] at ha; cases ha⟩) (fun _ => ⟨(unhide EB).2.1, (unhide EB).2.2.1, gq, cq, rfl, fun h => by cases h⟩) (fun _ => rfl) (fun _ => ⟨(unhide EB).1, (unhide EB).2.2.2.1⟩)
    case dn =>
      intro L a_9 w9_ hI hre
      have hall := ready_all (L := L) (by refine hI _ ?_; intro b0 b1 b2 b3 b4 b5 b6 b7 b8 b9 x18 x19 x20 x21 x22 x23 x24 x25 x26 eL eA h0 h1 f0 f1 f2 f3 f4 f5 f6 f7 f8 f9; subst eL; rfl) (by kernel_rfl) hre 10
      refine hI _ ?_
      clear hI
      intro b0 b1 b2 b3 b4 b5 b6 b7 b8 b9 x18 x19 x20 x21 x22 x23 x24 x25 x26 eL eA h0 h1 f0 f1 f2 f3 f4 f5 f6 f7 f8 f9
      subst eL eA
      have t9 : b9 = true := hall 9 (by omega) (by decide)
      obtain ⟨a7, c7, F7, hs7, hF7⟩ := (f9 t9).2
      obtain ⟨w7, hw7⟩ : ∃ w7, w7 = w9_ := ⟨_, rfl⟩
      rw [← hw7] at hs7 ⊢
      obtain ⟨nF6, hF6, h56⟩ := unhide HF6
      have nF7 : ∀ q, q = fb ∨ q = rb → q ∉ sb :: F7 := fun q hq e => by
        obtain ⟨_, _, _, _, _⟩ := unhide HN
        have h67 := h0.size
        rcases List.mem_cons.1 e with e | e
        · rcases hq with h | h <;> omega
        · rcases hF7 q e with h | h
          · exact nF6 q hq (List.mem_cons_of_mem _ h)
          · rcases hq with h | h <;> omega
      have lf7 := (unhide HL6).1.frm h0 (nF6 _ (.inl rfl))
      have lr7 := (unhide HL6).2.frm h0 (nF6 _ (.inr rfl))
      rw [← hw7] at lf7 lr7
      have nfb7 := nF7 _ (.inl rfl)
      have nrb7 := nF7 _ (.inr rfl)
      have h67 := h0.size
      rw [← hw7] at h67
      have HL7 := hide (And.intro lr7 (show ∀ q ∈ F7, sb < q by
        intro q hq
        obtain ⟨_, _, _, _, _⟩ := unhide HN
        rcases hF7 q hq with h | h
        · rcases hF6 q h with h | h
          · cases h
          · omega
        · omega))
      clear hw7 hall hre t9 f0 f1 f2 f3 f4 f5 f6 f7 f8 f9 h0 h1 HS hF6l hsb6 hw06 HF6 nF6 hF6 nF7 lr7 HL6 h56 h67
      have HS := hide hs7
      clear hs7 hF7
      go_upto_region 4 with fail
      refine region_inv (by kernel_rfl) (Fo4 w0 w7 sb fb a7 c7 [y, trashP] F7 t a1 a2 a3 a4 c1 c2 c3 c4 (.agg #[.int .i64 t.kind, .slice a1 t.name.length c1, .slice a2 t.text.length c2, .slice a3 t.attrs.length c3, .slice a4 t.kids.length c4]) (.slice a5 ops.length c5) (undef) (.pointer (some ⟨rb, 0, none⟩)) (undef) (x7) (x8) (x9) (x10) (x11) (x12) (x13) (x14) (x15) (x16) (x17) (x18) (x19) (x20) (x21) (x22) (x23) (x24) (x25) (x26) (undef) (undef) (undef) (undef) (undef) (undef) (undef) (undef) (undef) (undef) (undef) (undef)) ?sz ?h0 ?stp ?dn
      case sz =>
        intro L a w hI
        refine hI _ ?_
        intro b0 b1 b2 x27 x28 x29 eL eA h0 h1 f0 f1 f2
        subst eL
        rfl
      case h0 =>
        exact fun _ k_ => k_ false false false _ _ _ rfl rfl (Frm.ofBelow ((Below.refl _ _).drew) _) (fun _ => (unhide HS).keep ((Below.refl _ _).drew)) (fun h => by cases h) (fun h => by cases h) (fun h => by cases h)
      case stp =>
        intro L a_9 w9_ i_ o_ hI hi ho
        refine hI _ ?_
        clear hI
        intro b0 b1 b2 x27 x28 x29 eL eA h0 h1 f0 f1 f2
        subst eL eA
        rcases Fo4_cases (ready_lt hi) with rfl | rfl | rfl
        · obtain rfl := Option.some.inj ho
          have lf_ := lf7.frm h0 nfb7
          have cq0 := lf_.cell 0
          have cq1 := lf_.cell 1
          have cq2 := lf_.cell 2
          have cq3 := lf_.cell 3
          have cq4 := lf_.cell 4
          clear lf_
          go_simp
          exact fun _ k_ => k_ true b1 b2 _ x28 x29 rfl rfl h0 h1 (fun _ => rfl) f1 f2
        · obtain rfl := Option.some.inj ho
          go_simp
          refine (l4root_any w9_).mono ?_
          rintro e w8 ⟨rfl, hb9⟩
          exact fun _ k_ => k_ b0 true b2 x27 _ x29 rfl rfl (h0.moreS (Frm.ofBelow hb9 []) (fun q hq => by cases hq)) (fun h => (h1 h).keep hb9) f0 (fun _ => rfl) (fun h => (f2 h).keep hb9)
        · have g0 := ready_pred hi ho 0
          have g1 := ready_pred hi ho 1
          have hbz : b2 = false := by simpa using ready_off rfl hi
          obtain rfl := Option.some.inj ho
          have e0 := f0 (g0 (by kernel_rfl))
          have e1 := f1 (g1 (by kernel_rfl))
          have hs := h1 hbz
          subst e0 e1
          clear hbz
          have HC := hide (l5seed_any n w0 w9_ sb a7 c7 [y, trashP] F7 t.kids 0 0 t.kind a1 a2 a3 a4 t.name.length c1 t.text.length c2 t.attrs.length c3 c4 hs h4_ hseed)
          have hw79 := h0.size
          clear hs
          go_simp
          refine (unhide HC).mono ?_
          rintro e w8 ⟨⟨v, rfl⟩, a8, c8, F8, hs8, hf8, hF8⟩
          exact fun _ k_ => k_ b0 b1 true _ _ _ rfl rfl (h0.moreS hf8 (fun q hq => .inl hq)) (fun h => by cases h) (fun _ => rfl) (fun _ => rfl) (fun _ => ⟨a8, c8, F8, hs8, fun q hq => (hF8 q hq).imp id (fun h => by omega)⟩)
      case dn =>
        intro L a_9 w9_ hI hre
        have hall := ready_all (L := L) (by refine hI _ ?_; intro b0 b1 b2 x27 x28 x29 eL eA h0 h1 f0 f1 f2; subst eL; rfl) (by kernel_rfl) hre 3
        refine hI _ ?_
        clear hI
        intro b0 b1 b2 x27 x28 x29 eL eA h0 h1 f0 f1 f2
        subst eL eA
        have t2 : b2 = true := hall 2 (by omega) (by decide)
        obtain ⟨a8, c8, F8, hs8, hF8⟩ := f2 t2
        obtain ⟨w8, hw8⟩ : ∃ w8, w8 = w9_ := ⟨_, rfl⟩
        rw [← hw8] at hs8 ⊢
        have lr8 := (unhide HL7).1.frm h0 nrb7
        have h78 := h0.size
        rw [← hw8] at lr8 h78
        have hF88 : ∀ q ∈ F8, sb < q := fun q hq => by
          rcases hF8 q hq with h | h
          · exact (unhide HL7).2 q h
          · have h9 := (unhide HS).1.lt; omega
        clear hw8 hall hre t2 f0 f1 f2 h0 h1 HS lf7 nfb7 nrb7 hF8 HL7 h78
        obtain ⟨hfb, hrb, hsb, hws, _⟩ := unhide HN
        subst hfb hrb hsb
        clear HN
        have HS := hide hs8
        clear hs8
        go_wp2_with fail
        obtain ⟨S, hS⟩ : ∃ S, S = seedK n (0, 0) t.kids [y, trashP] := ⟨_, rfl⟩
        rw [← hS] at HS HSD HAT
        have HSS := hide hS
        clear hS hseed
        have hSl := unhide HSD
        have hw8 := lr8.lt
        go_loopw [6] (fun xv wr => ∃ (j : Nat) (a' : Option Addr) (c' : Nat) (F' : List Nat) (m : List PlV), j ≤ ops.length ∧ xv = .int .i64 (j : Int) ∧ m = (ops.take j).foldl doV S ∧ StB w0 wr (w.heap.size + 1 + 1) a' c' m F' ∧ m.length ≤ S.length + j ∧ (∀ p ∈ m, p.attrs.length ≤ 100) ∧ Loc wr (w.heap.size + 1) #[.slice none 0 0] 32 ∧ (∀ q ∈ F', w.heap.size + 1 + 1 < q)) (fun xv _ => ops.length - (intOf xv).toNat)
        case atStart => exact ⟨0, a8, c8, F8, S, Nat.zero_le _, rfl, rfl, unhide HS, Nat.le_refl _, unhide HAT, lr8, hF88⟩
        case round =>
          clear HS lr8 hF88
          obtain ⟨j, a9, c9, F9, m, hj, rfl, hm, hs, hml, hma, lr, hF9⟩ := hrel
          have hsb9 := hs.1.lt
          by_cases hlt : j < ops.length
          · have hlt' : (j : Int) < (ops.length : Int) := by omega
            have hj0 : (0 : Int) ≤ (j : Int) := by omega
            obtain ⟨bk, off, rfl, hbk, _, _, C, hC, hcell, k, nm, tx, eC, q1, q2, q3⟩ := Elems.at h5_ hlt
            obtain ⟨o, ho⟩ : ∃ o, o = ops[j] := ⟨_, rfl⟩
            have hnext : (ops.take (j + 1)).foldl doV S = doV m o := by rw [List.take_succ_eq_append_getElem hlt, List.foldl_append, ← hm, ← ho]; rfl
            rw [← ho] at eC q1 q2 q3
            obtain ⟨k1, d1, rfl, _⟩ := q1.shape
            obtain ⟨k2, d2, rfl, _⟩ := q2.shape
            obtain ⟨k3, d3, rfl, _⟩ := q3.shape
            have h06 := hs.2.2.2.2.2
            have z0 : wr.cell? ⟨bk, off + j * 12, none⟩ = some (.int .i64 o.kind) := by have h7 := hcell 0 (by decide); rw [eC] at h7; simp only [List.getElem?_cons_zero, Nat.add_zero] at h7; exact (h06.cell (p := ⟨bk, off + j * 12, none⟩) hbk).trans h7
            have z1 : wr.cell? ⟨bk, off + j * 12 + 1, none⟩ = some (.int .i64 o.atN) := by have h7 := hcell 1 (by decide); rw [eC] at h7; simp only [List.getElem?_cons_zero, List.getElem?_cons_succ] at h7; exact (h06.cell (p := ⟨bk, off + j * 12 + 1, none⟩) hbk).trans h7
            have z2 : wr.cell? ⟨bk, off + j * 12 + 2, none⟩ = some (.int .i64 o.atR) := by have h7 := hcell 2 (by decide); rw [eC] at h7; simp only [List.getElem?_cons_zero, List.getElem?_cons_succ] at h7; exact (h06.cell (p := ⟨bk, off + j * 12 + 2, none⟩) hbk).trans h7
            have z3 : wr.cell? ⟨bk, off + j * 12 + 3, none⟩ = some (.int .i64 o.nodeN) := by have h7 := hcell 3 (by decide); rw [eC] at h7; simp only [List.getElem?_cons_zero, List.getElem?_cons_succ] at h7; exact (h06.cell (p := ⟨bk, off + j * 12 + 3, none⟩) hbk).trans h7
            have z4 : wr.cell? ⟨bk, off + j * 12 + 4, none⟩ = some (.int .i64 o.nodeR) := by have h7 := hcell 4 (by decide); rw [eC] at h7; simp only [List.getElem?_cons_zero, List.getElem?_cons_succ] at h7; exact (h06.cell (p := ⟨bk, off + j * 12 + 4, none⟩) hbk).trans h7
            have z5 : wr.cell? ⟨bk, off + j * 12 + 5, none⟩ = some (.int .i64 o.parN) := by have h7 := hcell 5 (by decide); rw [eC] at h7; simp only [List.getElem?_cons_zero, List.getElem?_cons_succ] at h7; exact (h06.cell (p := ⟨bk, off + j * 12 + 5, none⟩) hbk).trans h7
            have z6 : wr.cell? ⟨bk, off + j * 12 + 6, none⟩ = some (.int .i64 o.parR) := by have h7 := hcell 6 (by decide); rw [eC] at h7; simp only [List.getElem?_cons_zero, List.getElem?_cons_succ] at h7; exact (h06.cell (p := ⟨bk, off + j * 12 + 6, none⟩) hbk).trans h7
            have z7 : wr.cell? ⟨bk, off + j * 12 + 7, none⟩ = some (.slice k1 o.key.length d1) := by have h7 := hcell 7 (by decide); rw [eC] at h7; simp only [List.getElem?_cons_zero, List.getElem?_cons_succ] at h7; exact (h06.cell (p := ⟨bk, off + j * 12 + 7, none⟩) hbk).trans h7
            have z8 : wr.cell? ⟨bk, off + j * 12 + 8, none⟩ = some (.int .i64 o.elem) := by have h7 := hcell 8 (by decide); rw [eC] at h7; simp only [List.getElem?_cons_zero, List.getElem?_cons_succ] at h7; exact (h06.cell (p := ⟨bk, off + j * 12 + 8, none⟩) hbk).trans h7
            have z9 : wr.cell? ⟨bk, off + j * 12 + 9, none⟩ = some (.slice k2 o.name.length d2) := by have h7 := hcell 9 (by decide); rw [eC] at h7; simp only [List.getElem?_cons_zero, List.getElem?_cons_succ] at h7; exact (h06.cell (p := ⟨bk, off + j * 12 + 9, none⟩) hbk).trans h7
            have z10 : wr.cell? ⟨bk, off + j * 12 + 10, none⟩ = some (.slice k3 o.text.length d3) := by have h7 := hcell 10 (by decide); rw [eC] at h7; simp only [List.getElem?_cons_zero, List.getElem?_cons_succ] at h7; exact (h06.cell (p := ⟨bk, off + j * 12 + 10, none⟩) hbk).trans h7
            have z11 : wr.cell? ⟨bk, off + j * 12 + 11, none⟩ = some (.bool o.gone) := by have h7 := hcell 11 (by decide); rw [eC] at h7; simp only [List.getElem?_cons_zero, List.getElem?_cons_succ] at h7; exact (h06.cell (p := ⟨bk, off + j * 12 + 11, none⟩) hbk).trans h7
            have HC := hide (l5do_any w0 wr (w.heap.size + 1 + 1) a9 c9 m F9 hs (by omega) hma o k1 k2 k3 d1 d2 d3 q1 q2 q3)
            have HX := hide (And.intro hnext (And.intro (doV_at hma o) (And.intro (doV_len m o) (And.intro lr hF9))))
            clear hs hma lr hF9 hnext hcell eC q1 q2 q3 hm ho h06
            go_wp2_with fail
            refine (unhide HC).mono ?_
            rintro e w9 ⟨⟨v, rfl⟩, a10, c10, F10, hs10, hf10, hF10⟩
            obtain ⟨hnext, hma, hln, lr, hF9⟩ := unhide HX
            have HE := hide (show StB w0 w9 (w.heap.size + 1 + 1) a10 c10 ((ops.take (j + 1)).foldl doV S) F10 ∧ (doV m o).length ≤ S.length + (j + 1) ∧ (∀ p ∈ (ops.take (j + 1)).foldl doV S, p.attrs.length ≤ 100) ∧ Loc w9 (w.heap.size + 1) #[.slice none 0 0] 32 ∧ (∀ q ∈ F10, w.heap.size + 1 + 1 < q) from
              ⟨by rw [hnext]; exact hs10, by omega, by rw [hnext]; exact hma, lr.frm hf10 (by simp; intro h; have := hF9 _ h; omega), fun q hq => (hF10 q hq).elim (hF9 q) (fun h => by omega)⟩)
            have HQ := hide hnext
            clear HC HX hnext hma hln lr hF9 hs10 hf10 hF10 z0 z1 z2 z3 z4 z5 z6 z7 z8 z9 z10 z11
            go_wp2_with fail
            go_roundw
            case rel => exact ⟨j + 1, a10, c10, F10, _, by omega, by go_num, rfl, (unhide HE).1, by rw [unhide HQ]; exact (unhide HE).2.1, (unhide HE).2.2.1, (unhide HE).2.2.2.1, (unhide HE).2.2.2.2⟩
            case measure => simp [intOf]; omega
          · have hlt' : ¬ (j : Int) < (ops.length : Int) := by omega
            have hme : m = ops.foldl doV S := by rw [hm, List.take_of_length_le (by omega)]
            have y0 : wr.cell? ⟨w.heap.size + 1 + 1, 0, none⟩ = some (.slice a9 m.length c9) := hs.1.cell 0
            have r0 := lr.cell 0
            have rf := lr.frozen 0
            have lrX := lr.set 0 (.slice a9 m.length c9)
            have fX := set_frm wr (w.heap.size + 1) 0 (.slice a9 m.length c9)
            have hsX : StB w0 (wr.setCell ⟨w.heap.size + 1, 0, none⟩ (.slice a9 m.length c9)) (w.heap.size + 1 + 1) a9 c9 m F9 := hs.frm fX (fun g hg e => by simp at e; have := hF9 g hg; omega) (by simp) (fun q hq => by simp at hq; omega)
            have eX := lrX.cell 0
            have hrd := hsX.2.1.rd hsX.2.2.2.2.2
            have hbX := hsX.2.2.2.2.2
            have HE := hide (And.intro hme (And.intro hrd (And.intro hbX eX)))
            clear hs lr lrX fX hsX hme hrd hbX hm hma hF9 eX
            go_wp2_with fail
            obtain ⟨hme, hrd, hbX, eX⟩ := unhide HE
            have hmF : foldW t ops = m := by rw [hme, unhide HSS, unhide HY]; rfl
            have hbX' : Below w.heap.size w (wr.setCell ⟨w.heap.size + 1, 0, none⟩ (.slice a9 m.length c9)) := by have h9 := unhide HW0; rw [h9] at hbX; exact hbX
            exact bodyPost_ret (v := .agg #[.slice a9 m.length c9]) (by simp [results, Tryz.results25, go_sem, eX]) rfl (by rw [hmF]; exact ⟨a9, c9, rfl, hrd, hbX'⟩)
end Go.Proofs.YtnfafchajjclaaaGreatDoor

/- A region that draws its order, whose operations only read and whose callees leave what was there as it was: one walk, in the order of the text. No program. -/
namespace Go.Proofs.YtnfafchajjclaaaGreatDoor
open Go.RowKit
set_option linter.unusedVariables false

/-- A world in which all that was there in w is as it was. -/
structure Gr (w : World) where
  W : World
  h : Below w.heap.size w W
theorem wp_region_gr {P : Program} {id : Nat} {Q : Exit → Act → World → Prop} {a : Act} {w : World} {l : List Oper} (hm : P.follows .mixedOrders = true) (hB : Region.lexB .any l.toArray = true)
    (h : wpQuiet P l.toArray (fun w' => ∃ p : Gr w, w' = p.W) (fun a' => ∀ w', (∃ p : Gr w, w' = p.W) → Q .normal a' w') l a) : (Code.region id l.toArray true).wp P Q a w :=
  wp_region_quiet (C := fun w' => ∃ p : Gr w, w' = p.W) hm hB ⟨⟨w.drew, (Below.refl _ _).drew⟩, rfl⟩ (by simpa using h)
theorem Gr.cell {w : World} {a : Addr} {v : Value} (hb : a.block < w.heap.size) (h : w.cell? a = some v) (p : Gr w) : p.W.cell? a = some v := (p.h.cell hb).trans h
/-- A callee's contract, met in such a world. -/
theorem calls_gr {P : Program} {f : FuncId} {args : Array Value} {w : World} {p : Gr w} {v : Value} (h : Calls P f args p.W fun e w' => e = .returned v ∧ Below p.W.heap.size p.W w') : Calls P f args p.W fun e w'' => e = .returned v ∧ ∃ q : Gr w, w'' = q.W :=
  h.mono fun _ _ ⟨he, hB⟩ => ⟨he, ⟨⟨_, bstep p.h hB⟩, rfl⟩⟩
end Go.Proofs.YtnfafchajjclaaaGreatDoor
