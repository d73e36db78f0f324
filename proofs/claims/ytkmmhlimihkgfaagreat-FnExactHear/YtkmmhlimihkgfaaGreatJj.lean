/- Own texts joined: CopyR, OpsS, SPut, PutOI, IdJ, IdI, OpN, KeyI, OpI. -/
import Derived.Test.YtkmmhlimihkgfaaGreatJa
import Derived.Test.YtkmmhlimihkgfaaGreatJb
import Derived.Test.YtkmmhlimihkgfaaGreatJc
import Derived.Test.YtkmmhlimihkgfaaGreatJd
import Derived.Test.YtkmmhlimihkgfaaGreatJe
import Derived.Test.YtkmmhlimihkgfaaGreatJf
import Derived.Test.YtkmmhlimihkgfaaGreatJg
import Derived.Test.YtkmmhlimihkgfaaGreatJh
import Derived.Test.YtkmmhlimihkgfaaGreatJi
import Derived.Test.YtkmmhlimihkgfaaGreatChecked

/- impl.copyReplica: a replica in memory of its own. -/
namespace Go.Proofs.YtkmmhlimihkgfaaGreat
open Go.RowKit
set_option linter.unusedVariables false
set_option maxRecDepth 100000

def Cr1 (n : Nat) (w1 : World) (bn pr : Nat) (T0 A0 A1 A2 A3 A4 vo vu : Value) (id clk : Int) (lost : Bool) (t : Tr (n + 1)) (l : List OpV) (m : List (Int × Int)) (L : Array Bool) (a : Act) (w : World) : Prop :=
  ∃ b0 b1 b2 b3 b4 b5 b6 b7 b8 b9 b10 b11 b12 b13 b14 x3 x4 x5 x6 x7 x8 x9 x10 x11 x12 x13 x14 y0 y1 y2 y3 y4 F1 F2, L = #[b0, b1, b2, b3, b4, b5, b6, b7, b8, b9, b10, b11, b12, b13, b14] ∧ a = { tmps := #[T0, .pointer (some ⟨bn, 0, none⟩), .pointer (some ⟨pr, 0, none⟩), x3, x4, x5, x6, x7, x8, x9, x10, x11, x12, x13, x14, undef], defers := [] } ∧ Frm w1 w [bn] ∧ Loc w bn #[.int .i64 id, .int .i64 clk, if b10 = true then y0 else A0, if b10 = true then y1 else A1, if b10 = true then y2 else A2, if b10 = true then y3 else A3, if b10 = true then y4 else A4, if b12 = true then x8 else vo, if b14 = true then x11 else vu, .bool lost] 64 ∧ Loc w pr #[.int .i64 0, .int .i64 0, .int .i64 0, .slice none 0 0, .slice none 0 0, .slice none 0 0, .slice none 0 0, .slice none 0 0, .slice none 0 0, .bool false] 64 ∧ (b0 = true → x3 = .pointer (some ⟨bn, 2, none⟩)) ∧ (b1 = true → x4 = .agg #[A0, A1, A2, A3, A4]) ∧ (b2 = true → x5 = .agg #[y0, y1, y2, y3, y4] ∧ OwNode (n + 1) w [y0, y1, y2, y3, y4] t F1 ∧ F1.Nodup ∧ Rng F1 w1.heap.size w.heap.size) ∧ (b3 = true → x6 = .pointer (some ⟨bn, 7, none⟩)) ∧ (b4 = true → x7 = vo) ∧ (b5 = true → b2 = true ∧ OwOps w x8 l F2 ∧ F2.Nodup ∧ Rng F2 w1.heap.size w.heap.size ∧ ∀ q ∈ F2, q ∉ F1) ∧ (b6 = true → x9 = .pointer (some ⟨bn, 8, none⟩)) ∧ (b7 = true → x10 = vu) ∧ (b8 = true → b5 = true ∧ OwIds w x11 m (FB x11) ∧ Rng (FB x11) w1.heap.size w.heap.size ∧ ∀ q ∈ FB x11, q ∉ F1 ∧ q ∉ F2) ∧ (b9 = true → x12 = .pointer (some ⟨bn, 2, none⟩)) ∧ (b10 = true → b8 = true ∧ b1 = true ∧ b4 = true ∧ b7 = true) ∧ (b11 = true → x13 = .pointer (some ⟨bn, 7, none⟩)) ∧ (b12 = true → b10 = true) ∧ (b13 = true → x14 = .pointer (some ⟨bn, 8, none⟩)) ∧ (b14 = true → b12 = true)
theorem Cr1_cases {i : Nat} (h : i < 15) : i = 0 ∨ i = 1 ∨ i = 2 ∨ i = 3 ∨ i = 4 ∨ i = 5 ∨ i = 6 ∨ i = 7 ∨ i = 8 ∨ i = 9 ∨ i = 10 ∨ i = 11 ∨ i = 12 ∨ i = 13 ∨ i = 14 := by omega

set_option maxHeartbeats 12800000 in
theorem copyRep_any (n : Nat) (w0 : World) (a b c d e vo vu : Value) (r : RepV n) (hrd : RdRep n w0 a b c d e vo vu r) (hsz : szT (n + 1) r.first ≤ 2097152) (hl : r.ops.length ≤ 4194304) (hx : ∀ x ∈ r.ops, szO x ≤ 4000000) (hm : r.und.length ≤ 4194304) :
    Calls Tryz.prog 66 #[repVal r a b c d e vo vu] w0 fun e w' => ∃ (zk : Int) (pk : Option Addr) (npk cpk : Nat) (qk : Option Addr) (nqk cqk : Nat) (rk : Option Addr) (nrk crk : Nat) (uk : Option Addr) (nuk cuk : Nat) (ok : Option Addr) (kk : Nat) (ik : Option Addr) (jk : Nat), e = .returned (.agg #[.int .i64 r.id, .int .i64 r.clock, .int .i64 zk, .slice pk npk cpk, .slice qk nqk cqk, .slice rk nrk crk, .slice uk nuk cuk, .slice ok r.ops.length kk, .slice ik r.und.length jk, .bool r.lost]) ∧ ∃ F, OwRep n w' (.int .i64 zk) (.slice pk npk cpk) (.slice qk nqk cqk) (.slice rk nrk crk) (.slice uk nuk cuk) (.slice ok r.ops.length kk) (.slice ik r.und.length jk) r F ∧ F.Nodup ∧ Rng F w0.heap.size w'.heap.size ∧ Below w0.heap.size w0 w' := by
  obtain ⟨za, pa, npa, cpa, qa, nqa, cqa, ra, nra, cra, ua, nua, cua, rfl, rfl, rfl, rfl, rfl⟩ := rd5 hrd.1
  obtain ⟨oa, oc, rfl, _, _⟩ := Elems.shape hrd.2.1
  obtain ⟨ia, ic, rfl, _, _⟩ := Elems.shape hrd.2.2
  obtain ⟨l0, l1, hB1⟩ := two w0 #[.int .i64 r.id, .int .i64 r.clock, .int .i64 za, .slice pa npa cpa, .slice qa nqa cqa, .slice ra nra cra, .slice ua nua cua, .slice oa r.ops.length oc, .slice ia r.und.length ic, .bool r.lost] #[.int .i64 0, .int .i64 0, .int .i64 0, .slice none 0 0, .slice none 0 0, .slice none 0 0, .slice none 0 0, .slice none 0 0, .slice none 0 0, .bool false] 64 64
  have HX := hide hx
  clear hx
  unfold repVal
  go_enter Tryz.func66, Tryz.ntmps66
  go_wp2_with fail
  generalize hW1 : (w0.alloc (.cells #[.int .i64 r.id, .int .i64 r.clock, .int .i64 za, .slice pa npa cpa, .slice qa nqa cqa, .slice ra nra cra, .slice ua nua cua, .slice oa r.ops.length oc, .slice ia r.und.length ic, .bool r.lost] 64)).alloc (.cells #[.int .i64 0, .int .i64 0, .int .i64 0, .slice none 0 0, .slice none 0 0, .slice none 0 0, .slice none 0 0, .slice none 0 0, .slice none 0 0, .bool false] 64) = w1 at *
  have hs1 : w0.heap.size + 2 ≤ w1.heap.size := by rw [← hW1]; simp
  clear hW1
  have hbp : w0.heap.size + 1 ∉ [w0.heap.size] := by simp
  have hBw : ∀ {w : World}, Frm w1 w [w0.heap.size] → Below w0.heap.size w0 w := fun f => hB1.trans (f.below hB1.size (fun q hq => by simp at hq; omega))
  refine region_inv (by kernel_rfl) (Cr1 n w1 w0.heap.size (w0.heap.size + 1) (.agg #[.int .i64 r.id, .int .i64 r.clock, .int .i64 za, .slice pa npa cpa, .slice qa nqa cqa, .slice ra nra cra, .slice ua nua cua, .slice oa r.ops.length oc, .slice ia r.und.length ic, .bool r.lost]) (.int .i64 za) (.slice pa npa cpa) (.slice qa nqa cqa) (.slice ra nra cra) (.slice ua nua cua) (.slice oa r.ops.length oc) (.slice ia r.und.length ic) r.id r.clock r.lost r.first r.ops r.und) ?sz ?h0 ?step ?dn
  case sz =>
      rintro L a w ⟨b0, b1, b2, b3, b4, b5, b6, b7, b8, b9, b10, b11, b12, b13, b14, x3, x4, x5, x6, x7, x8, x9, x10, x11, x12, x13, x14, y0, y1, y2, y3, y4, F1, F2, rfl, _⟩
      rfl
  case h0 =>
      refine ⟨false, false, false, false, false, false, false, false, false, false, false, false, false, false, false, undef, undef, undef, undef, undef, undef, undef, undef, undef, undef, undef, undef, undef, undef, undef, undef, undef, [], [], rfl, rfl, Frm.ofBelow ((Below.refl _ _).drew) _, l0.all ((Below.refl _ _).drew), l1.all ((Below.refl _ _).drew), ?_⟩
      simp
  case step =>
      intro L a w i o hI hi ho
      obtain ⟨b0, b1, b2, b3, b4, b5, b6, b7, b8, b9, b10, b11, b12, b13, b14, x3, x4, x5, x6, x7, x8, x9, x10, x11, x12, x13, x14, y0, y1, y2, y3, y4, F1, F2, rfl, rfl, h0, h1, h2, f0, f1, f2, f3, f4, f5, f6, f7, f8, f9, f10, f11, f12, f13, f14⟩ := hI
      rcases Cr1_cases (ready_lt hi) with rfl | rfl | rfl | rfl | rfl | rfl | rfl | rfl | rfl | rfl | rfl | rfl | rfl | rfl | rfl
      · obtain rfl := Option.some.inj ho
        go_simp
        exact ⟨true, b1, b2, b3, b4, b5, b6, b7, b8, b9, b10, b11, b12, b13, b14, _, x4, x5, x6, x7, x8, x9, x10, x11, x12, x13, x14, y0, y1, y2, y3, y4, F1, F2, rfl, rfl, h0, h1, h2, (fun _ => rfl), f1, f2, f3, f4, f5, f6, f7, f8, f9, f10, f11, f12, f13, f14⟩
      · have g0 := ready_pred hi ho 0
        have hb1 : b1 = false := by simpa using ready_off rfl hi
        obtain rfl := Option.some.inj ho
        have e0 := f0 (g0 (by kernel_rfl))
        have hb10 : b10 = false := by
          cases b10 with
          | false => rfl
          | true => have := (f10 rfl).2.1; rw [hb1] at this; cases this
        have hb12 : b12 = false := by
          cases b12 with
          | false => rfl
          | true => have := f12 rfl; rw [hb10] at this; cases this
        have hb14 : b14 = false := by
          cases b14 with
          | false => rfl
          | true => have := f14 rfl; rw [hb12] at this; cases this
        subst e0 hb10 hb12 hb14
        have c2 : w.cell? ⟨w0.heap.size, 2, none⟩ = some (.int .i64 za) := h1.cell 2
        have c3 : w.cell? ⟨w0.heap.size, 3, none⟩ = some (.slice pa npa cpa) := h1.cell 3
        have c4 : w.cell? ⟨w0.heap.size, 4, none⟩ = some (.slice qa nqa cqa) := h1.cell 4
        have c5 : w.cell? ⟨w0.heap.size, 5, none⟩ = some (.slice ra nra cra) := h1.cell 5
        have c6 : w.cell? ⟨w0.heap.size, 6, none⟩ = some (.slice ua nua cua) := h1.cell 6
        go_simp
        exact ⟨b0, true, b2, b3, b4, b5, b6, b7, b8, b9, false, b11, false, b13, false, _, _, x5, x6, x7, x8, x9, x10, x11, x12, x13, x14, y0, y1, y2, y3, y4, F1, F2, rfl, rfl, h0, h1, h2, f0, (fun _ => rfl), f2, f3, f4, f5, f6, f7, f8, f9, (fun h => by cases h), f11, (fun h => by cases h), f13, (fun h => by cases h)⟩
      · have g1 := ready_pred hi ho 1
        have hb2 : b2 = false := by simpa using ready_off rfl hi
        obtain rfl := Option.some.inj ho
        have e1 := f1 (g1 (by kernel_rfl))
        have hb5 : b5 = false := by
          cases b5 with
          | false => rfl
          | true => have := (f5 rfl).1; rw [hb2] at this; cases this
        have hb8 : b8 = false := by
          cases b8 with
          | false => rfl
          | true => have := (f8 rfl).1; rw [hb5] at this; cases this
        have hb10 : b10 = false := by
          cases b10 with
          | false => rfl
          | true => have := (f10 rfl).1; rw [hb8] at this; cases this
        have hb12 : b12 = false := by
          cases b12 with
          | false => rfl
          | true => have := f12 rfl; rw [hb10] at this; cases this
        have hb14 : b14 = false := by
          cases b14 with
          | false => rfl
          | true => have := f14 rfl; rw [hb12] at this; cases this
        subst e1 hb5 hb8 hb10 hb12 hb14
        go_simp
        refine (cn_all (n + 1) r.first w _ _ _ _ _ (hrd.1.keep (hBw h0)) hsz).mono ?_
        rintro e w' ⟨zk, pk, npk, cpk, qk, nqk, cqk, rk, nrk, crk, uk, nuk, cuk, rfl, F, ho', nd', rg', hb'⟩
        exact ⟨b0, b1, true, b3, b4, false, b6, b7, false, b9, false, b11, false, b13, false, x3, _, _, x6, x7, x8, x9, x10, x11, x12, x13, x14, (.int .i64 zk), (.slice pk npk cpk), (.slice qk nqk cqk), (.slice rk nrk crk), (.slice uk nuk cuk), F, F2, rfl, rfl, h0.trans (Frm.ofBelow hb' _), h1.all hb', h2.all hb', f0, f1, (fun _ => ⟨rfl, ho', nd', rg'.mono h0.size (Nat.le_refl _)⟩), f3, f4, (fun h => by cases h), f6, f7, (fun h => by cases h), f9, (fun h => by cases h), f11, (fun h => by cases h), f13, (fun h => by cases h)⟩
      · obtain rfl := Option.some.inj ho
        go_simp
        exact ⟨b0, b1, b2, true, b4, b5, b6, b7, b8, b9, b10, b11, b12, b13, b14, x3, x4, x5, _, x7, x8, x9, x10, x11, x12, x13, x14, y0, y1, y2, y3, y4, F1, F2, rfl, rfl, h0, h1, h2, f0, f1, f2, (fun _ => rfl), f4, f5, f6, f7, f8, f9, f10, f11, f12, f13, f14⟩
      · have g3 := ready_pred hi ho 3
        have hb4 : b4 = false := by simpa using ready_off rfl hi
        obtain rfl := Option.some.inj ho
        have e3 := f3 (g3 (by kernel_rfl))
        have hb10 : b10 = false := by
          cases b10 with
          | false => rfl
          | true => have := (f10 rfl).2.2.1; rw [hb4] at this; cases this
        have hb12 : b12 = false := by
          cases b12 with
          | false => rfl
          | true => have := f12 rfl; rw [hb10] at this; cases this
        have hb14 : b14 = false := by
          cases b14 with
          | false => rfl
          | true => have := f14 rfl; rw [hb12] at this; cases this
        subst e3 hb10 hb12 hb14
        have c7 : w.cell? ⟨w0.heap.size, 7, none⟩ = some (.slice oa r.ops.length oc) := h1.cell 7
        go_simp
        exact ⟨b0, b1, b2, b3, true, b5, b6, b7, b8, b9, false, b11, false, b13, false, x3, x4, x5, _, _, x8, x9, x10, x11, x12, x13, x14, y0, y1, y2, y3, y4, F1, F2, rfl, rfl, h0, h1, h2, f0, f1, f2, f3, (fun _ => rfl), f5, f6, f7, f8, f9, (fun h => by cases h), f11, (fun h => by cases h), f13, (fun h => by cases h)⟩
      · have g4 := ready_pred hi ho 4
        have g2 := ready_pred hi ho 2
        have hb5 : b5 = false := by simpa using ready_off rfl hi
        obtain rfl := Option.some.inj ho
        have e4 := f4 (g4 (by kernel_rfl))
        have e2 : b2 = true := g2 (by kernel_rfl)
        have hb8 : b8 = false := by
          cases b8 with
          | false => rfl
          | true => have := (f8 rfl).1; rw [hb5] at this; cases this
        have hb10 : b10 = false := by
          cases b10 with
          | false => rfl
          | true => have := (f10 rfl).1; rw [hb8] at this; cases this
        have hb12 : b12 = false := by
          cases b12 with
          | false => rfl
          | true => have := f12 rfl; rw [hb10] at this; cases this
        have hb14 : b14 = false := by
          cases b14 with
          | false => rfl
          | true => have := f14 rfl; rw [hb12] at this; cases this
        subst e4 e2 hb8 hb10 hb12 hb14
        obtain ⟨ex, o1, nd1, rg1⟩ := f2 rfl
        subst ex
        go_simp
        refine (copyOps_any w _ r.ops (hrd.2.1.keep (hBw h0)) hl (unhide HX)).mono ?_
        rintro e w' ⟨u, rfl, F, ho', nd', rg', hb'⟩
        exact ⟨b0, b1, true, b3, b4, true, b6, b7, false, b9, false, b11, false, b13, false, x3, x4, _, x6, _, u, x9, x10, x11, x12, x13, x14, y0, y1, y2, y3, y4, F1, F, rfl, rfl, h0.trans (Frm.ofBelow hb' _), h1.all hb', h2.all hb', f0, f1, (fun _ => ⟨rfl, o1.keep hb', nd1, rg1.mono (Nat.le_refl _) hb'.size⟩), f3, f4, (fun _ => ⟨rfl, ho', nd', rg'.mono h0.size (Nat.le_refl _), fun q hq hq' => by have := (rg' q hq).1; have := (rg1 q hq').2; omega⟩), f6, f7, (fun h => by cases h), f9, (fun h => by cases h), f11, (fun h => by cases h), f13, (fun h => by cases h)⟩
      · obtain rfl := Option.some.inj ho
        go_simp
        exact ⟨b0, b1, b2, b3, b4, b5, true, b7, b8, b9, b10, b11, b12, b13, b14, x3, x4, x5, x6, x7, x8, _, x10, x11, x12, x13, x14, y0, y1, y2, y3, y4, F1, F2, rfl, rfl, h0, h1, h2, f0, f1, f2, f3, f4, f5, (fun _ => rfl), f7, f8, f9, f10, f11, f12, f13, f14⟩
      · have g6 := ready_pred hi ho 6
        have hb7 : b7 = false := by simpa using ready_off rfl hi
        obtain rfl := Option.some.inj ho
        have e6 := f6 (g6 (by kernel_rfl))
        have hb10 : b10 = false := by
          cases b10 with
          | false => rfl
          | true => have := (f10 rfl).2.2.2; rw [hb7] at this; cases this
        have hb12 : b12 = false := by
          cases b12 with
          | false => rfl
          | true => have := f12 rfl; rw [hb10] at this; cases this
        have hb14 : b14 = false := by
          cases b14 with
          | false => rfl
          | true => have := f14 rfl; rw [hb12] at this; cases this
        subst e6 hb10 hb12 hb14
        have c8 : w.cell? ⟨w0.heap.size, 8, none⟩ = some (.slice ia r.und.length ic) := h1.cell 8
        go_simp
        exact ⟨b0, b1, b2, b3, b4, b5, b6, true, b8, b9, false, b11, false, b13, false, x3, x4, x5, x6, x7, x8, _, _, x11, x12, x13, x14, y0, y1, y2, y3, y4, F1, F2, rfl, rfl, h0, h1, h2, f0, f1, f2, f3, f4, f5, f6, (fun _ => rfl), f8, f9, (fun h => by cases h), f11, (fun h => by cases h), f13, (fun h => by cases h)⟩
      · have g7 := ready_pred hi ho 7
        have g5 := ready_pred hi ho 5
        have hb8 : b8 = false := by simpa using ready_off rfl hi
        obtain rfl := Option.some.inj ho
        have e7 := f7 (g7 (by kernel_rfl))
        have e5 : b5 = true := g5 (by kernel_rfl)
        have e2 := (f5 e5).1
        have hb10 : b10 = false := by
          cases b10 with
          | false => rfl
          | true => have := (f10 rfl).1; rw [hb8] at this; cases this
        have hb12 : b12 = false := by
          cases b12 with
          | false => rfl
          | true => have := f12 rfl; rw [hb10] at this; cases this
        have hb14 : b14 = false := by
          cases b14 with
          | false => rfl
          | true => have := f14 rfl; rw [hb12] at this; cases this
        subst e7 e5 e2 hb10 hb12 hb14
        refine step_appIs rfl (.const (.slice none 0 0)) (.tmp 10) rfl (.slice none 0 0) rfl ⟨rfl, .inl ⟨rfl, rfl⟩⟩ _ r.und rfl (hrd.2.2.keep (hBw h0)) hm ?_
        intro v' w' ho' hg hwh
        have hb' : Below w.heap.size w w' := (Frm.ofGrown hg).below (Nat.le_refl _) (fun q hq => by simp [Value.ownBlock] at hq)
        have hnew : ∀ q ∈ FB v', q = w.heap.size := fun q hq => by
          have hq' : v'.ownBlock = some q := by simpa [FB] using hq
          rcases hwh with h | h
          · rw [hq'] at h; simp [Value.ownBlock] at h
          · rw [hq'] at h; exact Option.some.inj h
        exact ⟨b0, b1, true, b3, b4, true, b6, b7, true, b9, false, b11, false, b13, false, x3, x4, x5, x6, x7, x8, x9, _, v', x12, x13, x14, y0, y1, y2, y3, y4, F1, F2, rfl, rfl, h0.trans (Frm.ofBelow hb' _), h1.all hb', h2.all hb', f0, f1, (fun h => ⟨(f2 h).1, (f2 h).2.1.keep hb', (f2 h).2.2.1, (f2 h).2.2.2.mono (Nat.le_refl _) hb'.size⟩), f3, f4, (fun h => ⟨(f5 h).1, OwOps.frm (f5 h).2.1 (Frm.ofBelow hb' []) (fun _ _ => by simp), (f5 h).2.2.1, (f5 h).2.2.2.1.mono (Nat.le_refl _) hb'.size, (f5 h).2.2.2.2⟩), f6, f7, (fun _ => ⟨rfl, ho', fun q hq => ⟨by rw [hnew q hq]; exact h0.size, ho'.lt q hq⟩, fun q hq => ⟨fun hq' => by have := hnew q hq; have := ((f2 rfl).2.2.2 q hq').2; omega, fun hq' => by have := hnew q hq; have := ((f5 rfl).2.2.2.1 q hq').2; omega⟩⟩), f9, (fun h => by cases h), f11, (fun h => by cases h), f13, (fun h => by cases h)⟩
      · obtain rfl := Option.some.inj ho
        go_simp
        exact ⟨b0, b1, b2, b3, b4, b5, b6, b7, b8, true, b10, b11, b12, b13, b14, x3, x4, x5, x6, x7, x8, x9, x10, x11, _, x13, x14, y0, y1, y2, y3, y4, F1, F2, rfl, rfl, h0, h1, h2, f0, f1, f2, f3, f4, f5, f6, f7, f8, (fun _ => rfl), f10, f11, f12, f13, f14⟩
      · have g9 := ready_pred hi ho 9
        have gp := ready_pred hi ho 8
        have hb10 : b10 = false := by simpa using ready_off rfl hi
        have ga := ready_pred hi ho 1
        have gb := ready_pred hi ho 4
        have gc := ready_pred hi ho 7
        obtain rfl := Option.some.inj ho
        have e9 := f9 (g9 (by kernel_rfl))
        have ep : b8 = true := gp (by kernel_rfl)
        have e8 := ep
        have ea : b1 = true := ga (by kernel_rfl)
        have eb : b4 = true := gb (by kernel_rfl)
        have ec : b7 = true := gc (by kernel_rfl)
        have k4 := f1 ea
        have k7 := f4 eb
        have k10 := f7 ec
        subst k4 k7 k10
        have e5 := (f8 e8).1
        have e2 := (f5 e5).1
        subst ea eb ec
        have hb12 : b12 = false := by
          cases b12 with
          | false => rfl
          | true => have := f12 rfl; rw [hb10] at this; cases this
        have hb14 : b14 = false := by
          cases b14 with
          | false => rfl
          | true => have := f14 rfl; rw [hb12] at this; cases this
        subst e9 e2 e5 e8   hb10 hb12 hb14
        replace h1 : Loc w w0.heap.size #[.int .i64 r.id, .int .i64 r.clock, .int .i64 za, .slice pa npa cpa, .slice qa nqa cqa, .slice ra nra cra, .slice ua nua cua, .slice oa r.ops.length oc, .slice ia r.und.length ic, .bool r.lost] 64 := h1
        obtain ⟨ex, o1, nd1, rg1⟩ := f2 rfl
        obtain ⟨_, o2, nd2, rg2, dj2⟩ := f5 rfl
        obtain ⟨_, o3, rg3, dj3⟩ := f8 rfl
        obtain ⟨zk, pk, npk, cpk, qk, nqk, cqk, rk, nrk, crk, uk, nuk, cuk, hy0, hy1, hy2, hy3, hy4⟩ := rd5 o1.rd
        obtain ⟨ok, kk, hx8, _, _⟩ := Elems.shape o2.rd
        obtain ⟨ik, jk, hx11, _, _⟩ := Elems.shape o3.rd
        subst ex hy0 hy1 hy2 hy3 hy4 hx8 hx11
        obtain ⟨c0, c1, c2, c3, c4, c5, c6, c7, c8, c9⟩ := h1.ten
        have u2 := h1.frozen 2
        have u3 := h1.frozen 3
        have u4 := h1.frozen 4
        have u5 := h1.frozen 5
        have u6 := h1.frozen 6
        obtain ⟨s1, s2⟩ := store5at2 h1 (.int .i64 zk) (.slice pk npk cpk) (.slice qk nqk cqk) (.slice rk nrk crk) (.slice uk nuk cuk)
        have hin : ∀ {F : List Nat}, Rng F w1.heap.size w.heap.size → ∀ g ∈ F, g ∉ [w0.heap.size] := fun hr g hg hg' => by have := (hr g hg).1; simp at hg'; omega
        have s3 := h0.trans s2
        have s4 := o1.frm s2 (hin rg1)
        have s5 := OwOps.frm o2 s2 (hin rg2)
        have s6 := OwIds.frm o3 s2 (hin rg3)
        have s7 := h2.frm s2 hbp
        go_simp
        exact ⟨b0, true, true, b3, true, true, b6, true, true, b9, true, b11, false, b13, false, x3, _, _, x6, _, _, x9, _, _, _, x13, x14, _, _, _, _, _, F1, F2, rfl, rfl, s3, s1, s7, f0, (fun _ => rfl), (fun _ => ⟨rfl, s4, nd1, rg1.mono (Nat.le_refl _) s2.size⟩), f3, (fun _ => rfl), (fun _ => ⟨rfl, s5, nd2, rg2.mono (Nat.le_refl _) s2.size, dj2⟩), f6, (fun _ => rfl), (fun _ => ⟨rfl, s6, rg3.mono (Nat.le_refl _) s2.size, dj3⟩), f9, (fun _ => ⟨rfl, rfl, rfl, rfl⟩), f11, (fun h => by cases h), f13, (fun h => by cases h)⟩
      · obtain rfl := Option.some.inj ho
        go_simp
        exact ⟨b0, b1, b2, b3, b4, b5, b6, b7, b8, b9, b10, true, b12, b13, b14, x3, x4, x5, x6, x7, x8, x9, x10, x11, x12, _, x14, y0, y1, y2, y3, y4, F1, F2, rfl, rfl, h0, h1, h2, f0, f1, f2, f3, f4, f5, f6, f7, f8, f9, f10, (fun _ => rfl), f12, f13, f14⟩
      · have g11 := ready_pred hi ho 11
        have gp := ready_pred hi ho 10
        have hb12 : b12 = false := by simpa using ready_off rfl hi
        obtain rfl := Option.some.inj ho
        have e11 := f11 (g11 (by kernel_rfl))
        have ep : b10 = true := gp (by kernel_rfl)
        have e10 := ep
        have e8 := (f10 e10).1
        have e5 := (f8 e8).1
        have e2 := (f5 e5).1
        obtain ⟨_, ea, eb, ec⟩ := f10 e10
        have k4 := f1 ea
        have k7 := f4 eb
        have k10 := f7 ec
        subst k4 k7 k10
        subst ea eb ec
        have hb14 : b14 = false := by
          cases b14 with
          | false => rfl
          | true => have := f14 rfl; rw [hb12] at this; cases this
        subst e11 e2 e5 e8 e10  hb12 hb14
        replace h1 : Loc w w0.heap.size #[.int .i64 r.id, .int .i64 r.clock, y0, y1, y2, y3, y4, .slice oa r.ops.length oc, .slice ia r.und.length ic, .bool r.lost] 64 := h1
        obtain ⟨ex, o1, nd1, rg1⟩ := f2 rfl
        obtain ⟨_, o2, nd2, rg2, dj2⟩ := f5 rfl
        obtain ⟨_, o3, rg3, dj3⟩ := f8 rfl
        obtain ⟨zk, pk, npk, cpk, qk, nqk, cqk, rk, nrk, crk, uk, nuk, cuk, hy0, hy1, hy2, hy3, hy4⟩ := rd5 o1.rd
        obtain ⟨ok, kk, hx8, _, _⟩ := Elems.shape o2.rd
        obtain ⟨ik, jk, hx11, _, _⟩ := Elems.shape o3.rd
        subst ex hy0 hy1 hy2 hy3 hy4 hx8 hx11
        obtain ⟨c0, c1, c2, c3, c4, c5, c6, c7, c8, c9⟩ := h1.ten
        have u7 := h1.frozen 7
        have s1 := h1.set 7 (.slice ok r.ops.length kk)
        have s2 := set_frm w w0.heap.size 7 (.slice ok r.ops.length kk)
        have hin : ∀ {F : List Nat}, Rng F w1.heap.size w.heap.size → ∀ g ∈ F, g ∉ [w0.heap.size] := fun hr g hg hg' => by have := (hr g hg).1; simp at hg'; omega
        have s3 := h0.trans s2
        have s4 := o1.frm s2 (hin rg1)
        have s5 := OwOps.frm o2 s2 (hin rg2)
        have s6 := OwIds.frm o3 s2 (hin rg3)
        have s7 := h2.frm s2 hbp
        go_simp
        exact ⟨b0, true, true, b3, true, true, b6, true, true, b9, true, b11, true, b13, false, x3, _, _, x6, _, _, x9, _, _, x12, _, x14, _, _, _, _, _, F1, F2, rfl, rfl, s3, s1, s7, f0, (fun _ => rfl), (fun _ => ⟨rfl, s4, nd1, rg1.mono (Nat.le_refl _) s2.size⟩), f3, (fun _ => rfl), (fun _ => ⟨rfl, s5, nd2, rg2.mono (Nat.le_refl _) s2.size, dj2⟩), f6, (fun _ => rfl), (fun _ => ⟨rfl, s6, rg3.mono (Nat.le_refl _) s2.size, dj3⟩), f9, (fun _ => ⟨rfl, rfl, rfl, rfl⟩), f11, (fun _ => rfl), f13, (fun h => by cases h)⟩
      · obtain rfl := Option.some.inj ho
        go_simp
        exact ⟨b0, b1, b2, b3, b4, b5, b6, b7, b8, b9, b10, b11, b12, true, b14, x3, x4, x5, x6, x7, x8, x9, x10, x11, x12, x13, _, y0, y1, y2, y3, y4, F1, F2, rfl, rfl, h0, h1, h2, f0, f1, f2, f3, f4, f5, f6, f7, f8, f9, f10, f11, f12, (fun _ => rfl), f14⟩
      · have g13 := ready_pred hi ho 13
        have gp := ready_pred hi ho 12
        have hb14 : b14 = false := by simpa using ready_off rfl hi
        obtain rfl := Option.some.inj ho
        have e13 := f13 (g13 (by kernel_rfl))
        have ep : b12 = true := gp (by kernel_rfl)
        have e12 := ep
        have e10 := f12 e12
        have e8 := (f10 e10).1
        have e5 := (f8 e8).1
        have e2 := (f5 e5).1
        obtain ⟨_, ea, eb, ec⟩ := f10 e10
        have k4 := f1 ea
        have k7 := f4 eb
        have k10 := f7 ec
        subst k4 k7 k10
        subst ea eb ec
        subst e13 e2 e5 e8 e10 e12 hb14 
        replace h1 : Loc w w0.heap.size #[.int .i64 r.id, .int .i64 r.clock, y0, y1, y2, y3, y4, x8, .slice ia r.und.length ic, .bool r.lost] 64 := h1
        obtain ⟨ex, o1, nd1, rg1⟩ := f2 rfl
        obtain ⟨_, o2, nd2, rg2, dj2⟩ := f5 rfl
        obtain ⟨_, o3, rg3, dj3⟩ := f8 rfl
        obtain ⟨zk, pk, npk, cpk, qk, nqk, cqk, rk, nrk, crk, uk, nuk, cuk, hy0, hy1, hy2, hy3, hy4⟩ := rd5 o1.rd
        obtain ⟨ok, kk, hx8, _, _⟩ := Elems.shape o2.rd
        obtain ⟨ik, jk, hx11, _, _⟩ := Elems.shape o3.rd
        subst ex hy0 hy1 hy2 hy3 hy4 hx8 hx11
        obtain ⟨c0, c1, c2, c3, c4, c5, c6, c7, c8, c9⟩ := h1.ten
        have u8 := h1.frozen 8
        have s1 := h1.set 8 (.slice ik r.und.length jk)
        have s2 := set_frm w w0.heap.size 8 (.slice ik r.und.length jk)
        have hin : ∀ {F : List Nat}, Rng F w1.heap.size w.heap.size → ∀ g ∈ F, g ∉ [w0.heap.size] := fun hr g hg hg' => by have := (hr g hg).1; simp at hg'; omega
        have s3 := h0.trans s2
        have s4 := o1.frm s2 (hin rg1)
        have s5 := OwOps.frm o2 s2 (hin rg2)
        have s6 := OwIds.frm o3 s2 (hin rg3)
        have s7 := h2.frm s2 hbp
        go_simp
        exact ⟨b0, true, true, b3, true, true, b6, true, true, b9, true, b11, true, b13, true, x3, _, _, x6, _, _, x9, _, _, x12, x13, _, _, _, _, _, _, F1, F2, rfl, rfl, s3, s1, s7, f0, (fun _ => rfl), (fun _ => ⟨rfl, s4, nd1, rg1.mono (Nat.le_refl _) s2.size⟩), f3, (fun _ => rfl), (fun _ => ⟨rfl, s5, nd2, rg2.mono (Nat.le_refl _) s2.size, dj2⟩), f6, (fun _ => rfl), (fun _ => ⟨rfl, s6, rg3.mono (Nat.le_refl _) s2.size, dj3⟩), f9, (fun _ => ⟨rfl, rfl, rfl, rfl⟩), f11, f12, f13, (fun _ => rfl)⟩
  case dn =>
    intro L a w2 hI hre
    have hall := ready_all (L := L) (by obtain ⟨b0, b1, b2, b3, b4, b5, b6, b7, b8, b9, b10, b11, b12, b13, b14, x3, x4, x5, x6, x7, x8, x9, x10, x11, x12, x13, x14, y0, y1, y2, y3, y4, F1, F2, rfl, _⟩ := hI; rfl) (by kernel_rfl) hre 15
    obtain ⟨b0, b1, b2, b3, b4, b5, b6, b7, b8, b9, b10, b11, b12, b13, b14, x3, x4, x5, x6, x7, x8, x9, x10, x11, x12, x13, x14, y0, y1, y2, y3, y4, F1, F2, rfl, rfl, h0, h1, h2, f0, f1, f2, f3, f4, f5, f6, f7, f8, f9, f10, f11, f12, f13, f14⟩ := hI
    have s14 : b14 = true := hall 14 (by omega) (by decide)
    have e12 := f14 s14
    have e10 := f12 e12
    have e8 := (f10 e10).1
    have e5 := (f8 e8).1
    have e2 := (f5 e5).1
    subst s14 e12 e10 e8 e5 e2
    replace h1 : Loc w2 w0.heap.size #[.int .i64 r.id, .int .i64 r.clock, y0, y1, y2, y3, y4, x8, x11, .bool r.lost] 64 := h1
    obtain ⟨ex, o1, nd1, rg1⟩ := f2 rfl
    obtain ⟨_, o2, nd2, rg2, dj2⟩ := f5 rfl
    obtain ⟨_, o3, rg3, dj3⟩ := f8 rfl
    obtain ⟨zk, pk, npk, cpk, qk, nqk, cqk, rk, nrk, crk, uk, nuk, cuk, hy0, hy1, hy2, hy3, hy4⟩ := rd5 o1.rd
    obtain ⟨ok, kk, hx8, _, _⟩ := Elems.shape o2.rd
    obtain ⟨ik, jk, hx11, _, _⟩ := Elems.shape o3.rd
    subst ex hy0 hy1 hy2 hy3 hy4 hx8 hx11
    have hB2 := hBw h0
    clear hall f0 f1 f2 f3 f4 f5 f6 f7 f8 f9 f10 f11 f12 f13 f14 hre
    obtain ⟨c0, c1, c2, c3, c4, c5, c6, c7, c8, c9⟩ := h1.ten
    obtain ⟨d0, d1, d2, d3, d4, d5, d6, d7, d8, d9⟩ := h2.ten
    have i0 := h2.frozen 0
    have i1 := h2.frozen 1
    have i2 := h2.frozen 2
    have i3 := h2.frozen 3
    have i4 := h2.frozen 4
    have i5 := h2.frozen 5
    have i6 := h2.frozen 6
    have i7 := h2.frozen 7
    have i8 := h2.frozen 8
    have i9 := h2.frozen 9
    obtain ⟨lX, fX⟩ := store10r h2 (.int .i64 r.id) (.int .i64 r.clock) (.int .i64 zk) (.slice pk npk cpk) (.slice qk nqk cqk) (.slice rk nrk crk) (.slice uk nuk cuk) (.slice ok r.ops.length kk) (.slice ik r.und.length jk) (.bool r.lost)
    have hin : ∀ {F : List Nat}, Rng F w1.heap.size w2.heap.size → ∀ g ∈ F, g ∉ [w0.heap.size + 1] := fun hr g hg hg' => by have := (hr g hg).1; simp at hg'; omega
    have q1 := o1.frm fX (hin rg1)
    have q2 := OwOps.frm o2 fX (hin rg2)
    have q3 := OwIds.frm o3 fX (hin rg3)
    have nd : (F1 ++ F2 ++ FB (.slice ik r.und.length jk)).Nodup := by
      refine List.nodup_append.2 ⟨List.nodup_append.2 ⟨nd1, nd2, fun a ha b hb e => dj2 b hb (e ▸ ha)⟩, FB_nodup _, fun a ha b hb e => ?_⟩
      subst e
      rcases List.mem_append.1 ha with ha | ha
      · exact (dj3 a hb).1 ha
      · exact (dj3 a hb).2 ha
    have rg := ((rg1.app rg2).app rg3).mono (lo' := w0.heap.size) (by omega) fX.size
    have bX := hB2.trans (fX.below (Nat.le_trans (by omega) (Nat.le_trans hs1 h0.size)) (fun g hg => by simp at hg; omega))
    have HF := hide (And.intro q1 (And.intro q2 (And.intro q3 (And.intro nd (And.intro rg bX)))))
    obtain ⟨g0, g1, g2, g3, g4, g5, g6, g7, g8, g9⟩ := lX.ten
    clear o1 o2 o3 q1 q2 q3 nd rg bX lX fX h0 h1 h2 nd1 nd2 rg1 rg2 rg3 dj2 dj3 hin hB2 hB1 hrd
    go_wp2_with fail
    obtain ⟨q1, q2, q3, nd, rg, bX⟩ := unhide HF
    exact bodyPost_ret (v := .agg #[.int .i64 r.id, .int .i64 r.clock, .int .i64 zk, .slice pk npk cpk, .slice qk nqk cqk, .slice rk nrk crk, .slice uk nuk cuk, .slice ok r.ops.length kk, .slice ik r.und.length jk, .bool r.lost]) (by simp [results, Tryz.results66, go_sem, g0, g1, g2, g3, g4, g5, g6, g7, g8, g9]) rfl ⟨zk, pk, npk, cpk, qk, nqk, cqk, rk, nrk, crk, uk, nuk, cuk, ok, kk, ik, jk, rfl, _, ⟨_, _, _, q1, q2, q3, rfl⟩, nd, rg, bX⟩
end Go.Proofs.YtkmmhlimihkgfaaGreat

/- spec.OpsOk answers what the plain test of a row says. -/
namespace Go.Proofs.YtkmmhlimihkgfaaGreat
open Go.RowKit
set_option linter.unusedVariables false
set_option maxRecDepth 100000

set_option maxHeartbeats 6400000 in
theorem opsS_any (w : World) (v : Value) (l : List OpV) (h : RdOps w v l) :
    Calls Tryz.prog 7 #[v] w fun e w' => e = .returned (.bool (opsB l)) ∧ Below w.heap.size w w' := by
  have hm := h.1
  unfold maxLen at hm
  by_cases hlong : 150 < l.length
  · obtain ⟨a, cap, rfl, _, _⟩ := Elems.shape h
    have hd : (150 : Int) < (l.length : Int) := by omega
    rw [opsB_long hlong]
    go_enter Tryz.func7, Tryz.ntmps7
    go_wp2_with fail
    go_ret
    exact ⟨rfl, Below.refl _ _⟩
  have hd : ¬ (150 : Int) < (l.length : Int) := by omega
  obtain ⟨rfl, a, cap, rfl⟩ | ⟨b, off, cap, rfl, hnil, g4, g5⟩ := h.cases
  · go_enter Tryz.func7, Tryz.ntmps7
    go_wp2_with fail
    refine wp_loop_rounds 1 ?_
    rw [rounds_succ]
    go_wp2_with fail
    go_ret
    exact ⟨rfl, Below.refl _ _⟩
  have HG := hide (fun hh => opsB_good (l := l) (by omega) hh)
  have HN := hide (fun k hk hh => opsB_bad (l := l) (k := k) hk hh)
  generalize opsB l = res at *
  go_enter Tryz.func7, Tryz.ntmps7
  go_wp2_with fail
  go_loopw [3] (fun i wr => ∃ k : Nat, k ≤ l.length ∧ i = .int .i64 k ∧ (∀ j, j < k → okAt l j = true) ∧ Below w.heap.size w wr) (fun i _ => l.length - (intOf i).toNat)
  case atStart => exact ⟨0, Nat.zero_le _, rfl, fun j hj => by omega, Below.refl _ _⟩
  case round =>
    obtain ⟨k, hk, rfl, hok, hB⟩ := hrel
    by_cases hlt : k < l.length
    · have HX := hide (fun W u (hu : RdOp W u l[k]) => opS_any W u l[k] hu)
      have HL := hide (fun W n r n' r' => lessS_any W n r n' r')
      have H0 := hide (fun (h : opB l[k] = false) => okAt_no hlt h)
      have HZ := hide (fun (h : opB l[k] = true) (e : k = 0) => (show okAt l k = true by subst e; exact okAt_0 hlt h))
      have HS := hide (fun j (e : k = j + 1) (h : opB l[k] = true) => (show okAt l k = lessB (l[j]'(by omega)).atN (l[j]'(by omega)).atR l[k].atN l[k].atR by subst e; exact okAt_s hlt h))
      have HP := hide (fun j (e : k = j + 1) => opc_at hB g4 (g5 j (by omega)))
      have HJ := hide (fun j (hj : j < k + 1) (h : okAt l k = true) => (show okAt l j = true by rcases Nat.lt_succ_iff_lt_or_eq.1 hj with h1 | rfl; exact hok j h1; exact h))
      have HNK := hide (fun (h : okAt l k = false) => unhide HN k hlt h)
      obtain ⟨a1, c1, a2, c2, a3, c3, e0, e1, e2, e3, e4, e5, e6, e7, e8, e9, e10, e11, hr⟩ := opc_at hB g4 (g5 k hlt)
      have hlt' : (k : Int) < (l.length : Int) := by omega
      have hk0 : (0 : Int) ≤ (k : Int) := by omega
      have HR := hide hr
      unfold opVal at HR
      generalize hoo : l[k] = o at *
      generalize o.key.length = nK at *
      generalize o.name.length = nN at *
      generalize o.text.length = nT at *
      clear g5 hr hnil hoo HG HN hok
      generalize okAt l k = okk at *
      have g4' : b < wr.heap.size := Nat.lt_of_lt_of_le g4 hB.size
      have hNE : Nonempty (Gr wr) := ⟨⟨wr, Below.refl _ _⟩⟩
      replace e0 := Gr.cell g4' e0
      replace e1 := Gr.cell g4' e1
      replace e2 := Gr.cell g4' e2
      replace e3 := Gr.cell g4' e3
      replace e4 := Gr.cell g4' e4
      replace e5 := Gr.cell g4' e5
      replace e6 := Gr.cell g4' e6
      replace e7 := Gr.cell g4' e7
      replace e8 := Gr.cell g4' e8
      replace e9 := Gr.cell g4' e9
      replace e10 := Gr.cell g4' e10
      replace e11 := Gr.cell g4' e11
      by_cases hq : opB o = true
      · rw [hq] at HX
        rcases Nat.eq_zero_or_pos k with hz | hpos
        · have HY := hide (unhide HZ hq hz)
          have dz3 : ¬ 0 < k := by omega
          have dz4 : decide (0 < k) = false := by simp; omega
          clear H0 HZ HS HP hq HL hz
          go_wp2_with fail
          refine wp_region_gr (by kernel_rfl) (by kernel_rfl) ?_
          repeat (go_big_quiet_step ((rename_i p; exact calls_gr (unhide HX _ _ ((unhide HR).keep p.h)))))
          refine wpQuiet_nil ?_
          rintro _ ⟨p, rfl⟩
          have hB3 := bstep hB p.h
          clear e0 e1 e2 e3 e4 e5 e6 e7 e8 e9 e10 e11 HR
          go_wp2_with fail
          go_roundw
          case rel => exact ⟨k + 1, by omega, by go_num, fun j hj => unhide HJ j hj (unhide HY), hB3⟩
          case measure => simp [intOf]; omega
        · obtain ⟨j, ej⟩ : ∃ j, k = j + 1 := ⟨k - 1, by omega⟩
          have dz3 : 0 < k := hpos
          have dz4 : decide (0 < k) = true := by simp; omega
          have hj1 : (k : Int) - 1 = (j : Int) := by omega
          have hj0 : (0 : Int) ≤ (j : Int) := by omega
          have hjl : (j : Int) < (l.length : Int) := by omega
          obtain ⟨pn, pr, i1, i2, HE⟩ : ∃ pn pr, wr.cell? ⟨b, off + j * 12 + 1, none⟩ = some (.int .i64 pn) ∧ wr.cell? ⟨b, off + j * 12 + 2, none⟩ = some (.int .i64 pr) ∧ okk = lessB pn pr o.atN o.atR := by
            obtain ⟨_, _, _, _, _, _, _, i1, i2, _⟩ := unhide HP j ej
            exact ⟨_, _, i1, i2, unhide HS j ej hq⟩
          replace i1 := Gr.cell g4' i1
          replace i2 := Gr.cell g4' i2
          clear H0 HZ HS HP hq hpos
          have HLL := hide (fun W => unhide HL W pn pr o.atN o.atR)
          generalize lessB pn pr o.atN o.atR = lb at *
          subst HE
          clear HL ej
          go_wp2_with fail
          refine wp_region_gr (by kernel_rfl) (by kernel_rfl) ?_
          repeat (go_big_quiet_step ((rename_i p; first | exact calls_gr (unhide HX _ _ ((unhide HR).keep p.h)) | exact calls_gr (unhide HLL _))))
          refine wpQuiet_nil ?_
          rintro _ ⟨p, rfl⟩
          have hB3 := bstep hB p.h
          clear e0 e1 e2 e3 e4 e5 e6 e7 e8 e9 e10 e11 HR i1 i2
          cases okk with
          | true =>
            go_wp2_with fail
            go_roundw
            case rel => exact ⟨k + 1, by omega, by go_num, fun j hj => unhide HJ j hj rfl, hB3⟩
            case measure => simp [intOf]; omega
          | false =>
            have HF := hide (unhide HNK rfl)
            clear HNK
            go_wp2_with fail
            go_ret
            exact ⟨by rw [unhide HF]; rfl, hB3⟩
      · have hq' : opB o = false := by simpa using hq
        rw [hq'] at HX
        have HY := hide (unhide HNK (unhide H0 hq'))
        clear H0 HZ HS HP hq hq' HL HNK
        go_wp2_with fail
        refine wp_region_gr (by kernel_rfl) (by kernel_rfl) ?_
        repeat (go_big_quiet_step ((rename_i p; exact calls_gr (unhide HX _ _ ((unhide HR).keep p.h)))))
        refine wpQuiet_nil ?_
        rintro _ ⟨p, rfl⟩
        have hB3 := bstep hB p.h
        clear e0 e1 e2 e3 e4 e5 e6 e7 e8 e9 e10 e11 HR
        go_wp2_with fail
        go_ret
        exact ⟨by rw [unhide HY]; rfl, hB3⟩
    · have HY := hide (unhide HG (fun j hj => hok j (by omega)))
      clear g5
      go_wp2_with fail
      go_ret
      exact ⟨by rw [unhide HY]; rfl, hB⟩
end Go.Proofs.YtkmmhlimihkgfaaGreat

/- spec.Put. -/
namespace Go.Proofs.YtkmmhlimihkgfaaGreat
open Go.RowKit
set_option linter.unusedVariables false
set_option maxRecDepth 100000

def putV (l : List OpV) (o : OpV) : List OpV := if opsB l && opB o then putL l o else []
def putAns (l : List OpV) (o : OpV) : Bool := opsB l && opB o && putOk l o
theorem opsB_len {l : List OpV} (h : opsB l = true) : l.length ≤ 150 := by
  unfold opsB at h
  rw [Bool.and_eq_true, decide_eq_true_eq] at h
  exact h.1
theorem putL_mem {l : List OpV} {o x : OpV} (h : x ∈ putL l o) : x = o ∨ x ∈ l := by
  unfold putL at h
  split at h
  · split at h
    · exact (List.mem_or_eq_of_mem_set h).symm
    · exact .inr h
  · split at h
    · exact .inr h
    · rcases List.mem_append.mp h with h | h
      · rcases List.mem_append.mp h with h | h
        · exact .inr (List.mem_of_mem_take h)
        · exact .inl (by simpa using h)
      · exact .inr (List.mem_of_mem_drop h)
theorem putL_len (l : List OpV) (o : OpV) : (putL l o).length ≤ l.length + 1 := by
  unfold putL
  split
  · split
    · rw [List.length_set]; omega
    · omega
  · split
    · omega
    · simp only [List.length_append, List.length_take, List.length_drop, List.length_cons, List.length_nil]; omega
theorem owOps_none (w : World) : OwOps w (.slice none 0 0) [] [] := by
  refine ⟨[], [], rfl, rfl, fun i hi => by simp at hi, ?_, rfl⟩
  exact ⟨rfl, .inl ⟨rfl, rfl⟩⟩

set_option maxHeartbeats 20000000 in
theorem sput_any (w : World) (v vo : Value) (l : List OpV) (o : OpV) (h : RdOps w v l) (ho : RdOp w vo o) (hs : szO o ≤ 2097152) (hls : ∀ x ∈ l, szO x ≤ 2097152) :
    Calls Tryz.prog 14 #[v, vo] w fun e w' => ∃ u, e = .returned (.tuple #[u, .bool (putAns l o)]) ∧ ∃ F, OwOps w' u (putV l o) F ∧ F.Nodup ∧ Rng F w.heap.size w'.heap.size ∧ Below w.heap.size w w' := by
  have HO := hide (fun (W : World) (hW : Below w.heap.size w W) => opS_any W vo o (ho.keep hW))
  have HS := hide (fun (W : World) (hW : Below w.heap.size w W) => opsS_any W v l (h.keep hW))
  have HP := hide (fun (hl : l.length ≤ 150) (W : World) (hW : Below w.heap.size w W) => l5put_any W v vo l o (h.keep hW) (ho.keep hW) hl (by unfold szO at hs; omega) (fun x hx => by have := hls x hx; unfold szO at this; omega))
  have HZ := hide (show ∀ x ∈ putL l o, szO x ≤ 4000000 from fun x hx => by
    rcases putL_mem hx with rfl | hx
    · omega
    · have := hls x hx; omega)
  obtain ⟨k, n, t, rfl, hk, hn, ht⟩ := ho
  obtain ⟨a1, c1, rfl, _, _⟩ := hk.shape
  obtain ⟨a2, c2, rfl, _, _⟩ := hn.shape
  obtain ⟨a3, c3, rfl, _, _⟩ := ht.shape
  obtain ⟨av, cv, rfl, _, _⟩ := Elems.shape h
  clear hk hn ht h hs hls
  have hA0 := (Below.refl w.heap.size w).alloc (Nat.le_refl _) (.cells #[.int .i64 o.kind, .int .i64 o.atN, .int .i64 o.atR, .int .i64 o.nodeN, .int .i64 o.nodeR, .int .i64 o.parN, .int .i64 o.parR, .slice a1 o.key.length c1, .int .i64 o.elem, .slice a2 o.name.length c2, .slice a3 o.text.length c3, .bool o.gone] 28)
  have l0 := Loc.made w #[.int .i64 o.kind, .int .i64 o.atN, .int .i64 o.atR, .int .i64 o.nodeN, .int .i64 o.nodeR, .int .i64 o.parN, .int .i64 o.parR, .slice a1 o.key.length c1, .int .i64 o.elem, .slice a2 o.name.length c2, .slice a3 o.text.length c3, .bool o.gone] 28
  unfold opVal at HO HP
  unfold putV putAns
  refine calls_via ?_
  intro Q HQ
  unfold opVal
  cases hb : opsB l with
  | false =>
    rw [hb] at HS HQ
    go_enter Tryz.func14, Tryz.ntmps14
    go_wp2_with fail
    refine (unhide HS _ hA0).mono ?_
    rintro e w1 ⟨rfl, hB⟩
    have hB1 := bstep hA0 hB
    have KK := hide (unhide HQ (.returned (.tuple #[.slice none 0 0, .bool false])) w1 ⟨.slice none 0 0, rfl, [], owOps_none _, List.nodup_nil, Rng.nil _ _, hB1⟩)
    clear hA0 hB HO HP HS HQ HZ l0 hb hB1
    go_wp2_with fail
    exact unhide KK
  | true =>
    rw [hb] at HS
    have hl := opsB_len hb
    cases hc : opB o with
    | false =>
      rw [hb, hc] at HQ
      rw [hc] at HO
      go_enter Tryz.func14, Tryz.ntmps14
      go_wp2_with fail
      refine (unhide HS _ hA0).mono ?_
      rintro e w1 ⟨rfl, hB⟩
      have hB1 := bstep hA0 hB
      have l1 := l0.all hB
      clear hA0 hB HS l0 hb
      obtain ⟨x0, x1, x2, x3, x4, x5, x6, x7, x8, x9, x10, x11⟩ := l1.twelve
      go_wp2_with fail
      clear x0 x1 x2 x3 x4 x5 x6 x7 x8 x9 x10 x11
      refine (unhide HO _ hB1).mono ?_
      rintro e w2 ⟨rfl, hB⟩
      have hB2 := bstep hB1 hB
      have KK := hide (unhide HQ (.returned (.tuple #[.slice none 0 0, .bool false])) w2 ⟨.slice none 0 0, rfl, [], owOps_none _, List.nodup_nil, Rng.nil _ _, hB2⟩)
      clear hB1 hB HO HP HQ HZ l1 hB2 hc
      go_wp2_with fail
      exact unhide KK
    | true =>
      rw [hb, hc] at HQ
      rw [hc] at HO
      have HQ2 := hide (fun u w9 (z : ∃ F, OwOps w9 u (putL l o) F ∧ F.Nodup ∧ Rng F w.heap.size w9.heap.size ∧ Below w.heap.size w w9) => unhide HQ (.returned (.tuple #[u, .bool (putOk l o)])) w9 ⟨u, rfl, z⟩)
      clear HQ
      have hln := putL_len l o
      generalize putOk l o = kk at *
      generalize putL l o = pl at *
      go_enter Tryz.func14, Tryz.ntmps14
      go_wp2_with fail
      refine (unhide HS _ hA0).mono ?_
      rintro e w1 ⟨rfl, hB⟩
      have hB1 := bstep hA0 hB
      have l1 := l0.all hB
      clear hA0 hB HS l0 hb
      obtain ⟨x0, x1, x2, x3, x4, x5, x6, x7, x8, x9, x10, x11⟩ := l1.twelve
      go_wp2_with fail
      clear x0 x1 x2 x3 x4 x5 x6 x7 x8 x9 x10 x11
      refine (unhide HO _ hB1).mono ?_
      rintro e w2 ⟨rfl, hB⟩
      have hB2 := bstep hB1 hB
      have l2 := l1.all hB
      clear hB1 hB HO l1 hc
      obtain ⟨x0, x1, x2, x3, x4, x5, x6, x7, x8, x9, x10, x11⟩ := l2.twelve
      go_wp2_with fail
      clear x0 x1 x2 x3 x4 x5 x6 x7 x8 x9 x10 x11 l2
      refine (unhide HP hl _ hB2).mono ?_
      rintro e w3 ⟨u, rfl, hru, hB⟩
      have hB3 := bstep hB2 hB
      have HR := hide (ownOps_any w3 u pl hru (by omega) (unhide HZ))
      clear hB2 hB HP hru HZ
      go_wp2_with fail
      refine (unhide HR).mono ?_
      rintro e w4 ⟨u4, rfl, F, hF1, hF2, hF3, hB⟩
      have hB4 := bstep hB3 hB
      have KK := hide (unhide HQ2 u4 w4 ⟨F, hF1, hF2, hF3.mono hB3.size (Nat.le_refl _), hB4⟩)
      clear HQ2 HR hF1 hF2 hF3 hB hB3 hB4
      go_wp2_with fail
      exact unhide KK
end Go.Proofs.YtkmmhlimihkgfaaGreat

/- impl.putNums, impl.putIds, impl.putKey and impl.putValue, by their contracts. -/
namespace Go.Proofs.YtkmmhlimihkgfaaGreat
open Go.RowKit
set_option linter.unusedVariables false
set_option maxRecDepth 100000

theorem own_nil' (w : World) (base : Nat) : Own w base (.slice none 0 0) [] := ⟨okB_nil, rfl, .inl ⟨rfl, rfl⟩⟩
theorem putI_own (w : World) (v : Value) (l : List Int) (n : Int) (h : Byt w v l) (hl : l.length ≤ 60000000) :
    Calls Tryz.prog 152 #[v, .int .i64 n] w fun e w' => ∃ a c, e = .returned (.slice a (putAll l n).length c) ∧ Own w' w.heap.size (.slice a (putAll l n).length c) (putAll l n) ∧ Below w.heap.size w w' := by
  refine (putI_any w v l n h (by omega)).mono ?_
  rintro e w' ⟨v', rfl, ho, hB⟩
  obtain ⟨a, c, rfl, _, _⟩ := ho.byt.shape
  exact ⟨a, c, rfl, ho, hB⟩

set_option maxHeartbeats 3200000 in
theorem putNums_any (w : World) (base : Nat) (v u : Value) (l k : List Int) (h : Own w base v l) (hb : base ≤ w.heap.size) (hu : Ints w u k) (hl : l.length ≤ 20000000) (hk : k.length ≤ 2097152) :
    Calls Tryz.prog 141 #[v, u] w fun e w' => ∃ a c, e = .returned (.slice a (putNs l k).length c) ∧ Own w' base (.slice a (putNs l k).length c) (putNs l k) ∧ Below w.heap.size w w' := by
  have HU := hide hu
  obtain ⟨a1, c1, rfl, _, _⟩ := h.byt.shape
  obtain ⟨a', c', rfl, _, _⟩ := hu.shape
  clear hu
  go_enter Tryz.func141, Tryz.ntmps141
  go_wp2_with fail
  go_loopw [0, 9] (fun b i wr => ∃ (j : Nat) (a2 : Option Addr) (c2 : Nat), j ≤ k.length ∧ i = .int .i64 j ∧ b = .slice a2 (putNs l (k.take j)).length c2 ∧ Own wr base (.slice a2 (putNs l (k.take j)).length c2) (putNs l (k.take j)) ∧ Below w.heap.size w wr) (fun _ i _ => k.length - (intOf i).toNat)
  case atStart => exact ⟨0, a1, c1, Nat.zero_le _, rfl, rfl, h, Below.refl _ _⟩
  case round =>
    obtain ⟨j, a2, c2, hj, rfl, rfl, ho, hB⟩ := hrel
    clear h
    by_cases hlt : j < k.length
    · have HS := hide (putNs_step l k j hlt)
      have hq := putNs_len l (k.take j)
      rw [List.length_take, Nat.min_eq_left hj] at hq
      generalize hpt : putNs l (k.take j) = lj at *
      clear hpt
      have hlt' : (j : Int) < (k.length : Int) := by omega
      obtain ⟨x, hx⟩ : ∃ x, x = k.getD j 0 := ⟨_, rfl⟩
      rw [← hx] at HS
      obtain ⟨hok, hm, ⟨_, e⟩ | ⟨_, _, _, _, e⟩ | ⟨b, off, cap, e, h1, h2, h3, h4, h5⟩⟩ := (unhide HU).keep hB
      · rw [e] at hlt; simp at hlt
      · rw [e] at hlt; simp at hlt
      have e1 : a' = some ⟨b, off, none⟩ := by injection e
      have hcx := h5 j hlt
      rw [← hx] at hcx
      clear hx h5 e HU
      subst e1
      go_wp2_with fail
      refine (putI_own wr _ lj x ho.byt (by omega)).mono ?_
      rintro e w2 ⟨a3, c3, rfl, ho3, hB3⟩
      rw [← unhide HS] at ho3 ⊢
      go_wp2_with fail
      go_roundw
      case rel => exact ⟨j + 1, a3, c3, by omega, by go_num, rfl, ho3.mono (by have := hB.size; omega), bstep hB hB3⟩
      case measure => simp [intOf]; omega
    · obtain rfl : j = k.length := by omega
      have HE := hide (show putNs l (k.take k.length) = putNs l k by rw [List.take_of_length_le (Nat.le_refl _)])
      rw [unhide HE] at ho ⊢
      clear HE
      go_wp2_with fail
      go_ret
      exact ⟨a2, c2, rfl, ho, hB⟩

/-- Ids, one behind the other. -/
def putIdL (l : List Int) : List (Int × Int) → List Int
  | [] => l
  | x :: t => putIdL (putId l x.1 x.2) t
theorem putIdL_step (l : List Int) (t : List (Int × Int)) (j : Nat) (h : j < t.length) : putIdL l (t.take (j + 1)) = putId (putIdL l (t.take j)) (t[j]).1 (t[j]).2 := by
  induction t generalizing l j with
  | nil => simp at h
  | cons x t ih =>
    cases j with
    | zero => simp [putIdL]
    | succ j =>
      rw [List.take_succ_cons, List.take_succ_cons, putIdL, putIdL, ih _ j (by simpa using h)]
      simp
theorem putIdL_len (l : List Int) (t : List (Int × Int)) : (putIdL l t).length ≤ l.length + 10 * t.length := by
  induction t generalizing l with
  | nil => simp [putIdL]
  | cons x t ih =>
    rw [putIdL, List.length_cons]
    have := ih (putId l x.1 x.2)
    have := putId_len l x.1 x.2
    omega
theorem putId_two (l : List Int) (n r : Int) : putNs l [n, r] = putId l n r := rfl
theorem ints_two (w : World) (n r : Int) (h : okZ [n, r]) : Ints (w.alloc (.cells #[.int .i64 n, .int .i64 r] 3)) (.slice (some ⟨w.heap.size, 0, none⟩) 2 2) [n, r] := by
  refine ⟨h, by simp [maxLen], .inr (.inr ⟨w.heap.size, 0, 2, rfl, by simp, by simp [maxLen], by simp, by simp, fun i hi => ?_⟩)⟩
  have : i = 0 ∨ i = 1 := by simp at hi; omega
  rcases this with rfl | rfl <;> simp

set_option maxHeartbeats 3200000 in
theorem putIds_any (w : World) (base : Nat) (v : Value) (l : List Int) (t : List (Int × Int)) (b off cap : Nat) (h : Own w base v l) (hb : base ≤ w.heap.size) (hl : l.length ≤ 10000000) (hk : t.length ≤ 1000)
    (hw : b < w.heap.size) (hz : ∀ x ∈ t, okZ [x.1, x.2]) (h0 : ∀ j (hj : j < t.length), w.cell? ⟨b, off + j * 2, none⟩ = some (.int .i64 (t[j]).1)) (h1 : ∀ j (hj : j < t.length), w.cell? ⟨b, off + j * 2 + 1, none⟩ = some (.int .i64 (t[j]).2)) :
    Calls Tryz.prog 140 #[v, .slice (some ⟨b, off, none⟩) t.length cap] w fun e w' => ∃ a c, e = .returned (.slice a (putIdL l t).length c) ∧ Own w' base (.slice a (putIdL l t).length c) (putIdL l t) ∧ Below w.heap.size w w' := by
  obtain ⟨a1, c1, rfl, _, _⟩ := h.byt.shape
  go_enter Tryz.func140, Tryz.ntmps140
  go_wp2_with fail
  go_loopw [0, 9] (fun b i wr => ∃ (j : Nat) (a2 : Option Addr) (c2 : Nat), j ≤ t.length ∧ i = .int .i64 j ∧ b = .slice a2 (putIdL l (t.take j)).length c2 ∧ Own wr base (.slice a2 (putIdL l (t.take j)).length c2) (putIdL l (t.take j)) ∧ Below w.heap.size w wr) (fun _ i _ => t.length - (intOf i).toNat)
  case atStart => exact ⟨0, a1, c1, Nat.zero_le _, rfl, rfl, h, Below.refl _ _⟩
  case round =>
    obtain ⟨j, a2, c2, hj, rfl, rfl, ho, hB⟩ := hrel
    clear h
    by_cases hlt : j < t.length
    · have HS := hide (putIdL_step l t j hlt)
      have hq := putIdL_len l (t.take j)
      rw [List.length_take, Nat.min_eq_left hj] at hq
      generalize hpt : putIdL l (t.take j) = lj at *
      clear hpt
      have hlt' : (j : Int) < (t.length : Int) := by omega
      have hzj := hz _ (List.getElem_mem hlt)
      have x0 : wr.cell? ⟨b, off + j * 2, none⟩ = some (.int .i64 (t[j]).1) := (hB.cell (p := ⟨b, off + j * 2, none⟩) hw).trans (h0 j hlt)
      have x1 : wr.cell? ⟨b, off + j * 2 + 1, none⟩ = some (.int .i64 (t[j]).2) := (hB.cell (p := ⟨b, off + j * 2 + 1, none⟩) hw).trans (h1 j hlt)
      generalize (t[j]).1 = n at *
      generalize (t[j]).2 = r at *
      clear h0 h1 hz
      go_wp2_with fail
      have hi : Ints ((wr.alloc (.cells #[.int .i64 n, .int .i64 r] 25)).alloc (.cells #[.int .i64 n, .int .i64 r] 3)) (.slice (some ⟨wr.heap.size + 1, 0, none⟩) 2 2) [n, r] := by
        have h := ints_two (wr.alloc (.cells #[.int .i64 n, .int .i64 r] 25)) n r hzj
        rw [show (wr.alloc (.cells #[.int .i64 n, .int .i64 r] 25)).heap.size = wr.heap.size + 1 by simp] at h
        exact h
      have hB2 := ((Below.refl wr.heap.size wr).alloc (Nat.le_refl _) (.cells #[.int .i64 n, .int .i64 r] 25)).alloc (by simp) (.cells #[.int .i64 n, .int .i64 r] 3)
      refine (putNums_any _ base _ _ lj [n, r] (ho.keep hB2) (by have := hB.size; have := hB2.size; omega) hi (by omega) (by simp)).mono ?_
      rintro e w2 ⟨a3, c3, rfl, ho3, hB3⟩
      have hB4 := bstep hB2 hB3
      clear hB2 hB3 hi
      rw [putId_two, ← unhide HS] at ho3 ⊢
      go_wp2_with fail
      go_roundw
      case rel => exact ⟨j + 1, a3, c3, by omega, by go_num, rfl, ho3, bstep hB hB4⟩
      case measure => simp [intOf]; omega
    · obtain rfl : j = t.length := by omega
      have HE := hide (show putIdL l (t.take t.length) = putIdL l t by rw [List.take_of_length_le (Nat.le_refl _)])
      rw [unhide HE] at ho ⊢
      clear HE
      go_wp2_with fail
      go_ret
      exact ⟨a2, c2, rfl, ho, hB⟩

theorem ints_one (w : World) (n : Int) (h : okZ [n]) : Ints (w.alloc (.cells #[.int .i64 n] 3)) (.slice (some ⟨w.heap.size, 0, none⟩) 1 1) [n] := by
  refine ⟨h, by simp [maxLen], .inr (.inr ⟨w.heap.size, 0, 1, rfl, by simp, by simp [maxLen], by simp, by simp, fun i hi => ?_⟩)⟩
  have : i = 0 := by simpa using hi
  subst this
  simp
theorem okZ_in {n : Int} (h : inR n) : okZ [n] := okZ.one (by have := h.1; omega) (by have := h.2; omega)
theorem okZ_in2 {n r : Int} (h : inR n) (k : inR r) : okZ [n, r] := (okZ_in h).app (okZ_in k)

/-- One number more. -/
theorem putNum1 (w : World) (base : Nat) (v : Value) (l : List Int) (n : Int) (h : Own w base v l) (hb : base ≤ w.heap.size) (hn : inR n) (hl : l.length ≤ 20000000) :
    Calls Tryz.prog 141 #[v, .slice (some ⟨w.heap.size, 0, none⟩) 1 1] (w.alloc (.cells #[.int .i64 n] 3)) fun e w' => ∃ a c, e = .returned (.slice a (putAll l n).length c) ∧ Own w' base (.slice a (putAll l n).length c) (putAll l n) ∧ Below w.heap.size w w' := by
  have hB2 := (Below.refl w.heap.size w).alloc (Nat.le_refl _) (.cells #[.int .i64 n] 3)
  refine (putNums_any _ base _ _ l [n] (h.keep hB2) (by have := hB2.size; omega) (ints_one w n (okZ_in hn)) hl (by simp)).mono ?_
  rintro e w' ⟨a, c, rfl, ho, hB⟩
  exact ⟨a, c, rfl, ho, bstep hB2 hB⟩

set_option maxHeartbeats 3200000 in
theorem putKey_any (w : World) (base : Nat) (v u : Value) (l k : List Int) (h : Own w base v l) (hb : base ≤ w.heap.size) (hu : Ints w u k) (hl : l.length ≤ 10000000) (hk : k.length ≤ 2097152) :
    Calls Tryz.prog 142 #[v, u] w fun e w' => ∃ a c, e = .returned (.slice a (putKey l k).length c) ∧ Own w' base (.slice a (putKey l k).length c) (putKey l k) ∧ Below w.heap.size w w' := by
  have hp := putAll_len l (k.length : Int)
  have H1 := hide (putNum1 w base v l (k.length : Int) h hb ⟨by omega, by omega⟩ (by omega))
  have HU := hide hu
  obtain ⟨a1, c1, rfl, _, _⟩ := h.byt.shape
  obtain ⟨a', c', rfl, _, _⟩ := hu.shape
  clear h hu
  unfold putKey
  generalize putAll l (k.length : Int) = lp at *
  go_enter Tryz.func142, Tryz.ntmps142
  go_wp2_with fail
  refine (unhide H1).mono ?_
  clear H1
  rintro e w1 ⟨a2, c2, rfl, ho, hB⟩
  go_wp2_with fail
  refine (putNums_any w1 base _ _ lp k ho (by have := hB.size; omega) ((unhide HU).keep hB) (by omega) hk).mono ?_
  rintro e w2 ⟨a3, c3, rfl, ho3, hB3⟩
  have hB4 := bstep hB hB3
  clear ho hB hB3
  go_wp2_with fail
  go_ret
  exact ⟨a3, c3, rfl, ho3, hB4⟩

theorem putTI_own (w : World) (v u : Value) (l t : List Int) (h : Byt w v l) (hu : Byt w u t) (hl : l.length ≤ 60000000) :
    Calls Tryz.prog 143 #[v, u] w fun e w' => ∃ a c, e = .returned (.slice a (putT l t).length c) ∧ Own w' w.heap.size (.slice a (putT l t).length c) (putT l t) ∧ Below w.heap.size w w' := by
  refine (putTI_any w v u l t h hu hl).mono ?_
  rintro e w' ⟨v', rfl, ho, hB⟩
  obtain ⟨a, c, rfl, _, _⟩ := ho.byt.shape
  exact ⟨a, c, rfl, ho, hB⟩
theorem putTS_own (w : World) (v u : Value) (l t : List Int) (h : Byt w v l) (hu : Byt w u t) (hl : l.length ≤ 60000000) :
    Calls Tryz.prog 131 #[v, u] w fun e w' => ∃ a c, e = .returned (.slice a (putT l t).length c) ∧ Own w' w.heap.size (.slice a (putT l t).length c) (putT l t) ∧ Below w.heap.size w w' := by
  refine (putTS_any w v u l t h hu hl).mono ?_
  rintro e w' ⟨v', rfl, ho, hB⟩
  obtain ⟨a, c, rfl, _, _⟩ := ho.byt.shape
  exact ⟨a, c, rfl, ho, hB⟩

def putVal (l t : List Int) (gone : Bool) : List Int := if gone then putAll l 1 else putT (putAll l 0) t
set_option maxHeartbeats 3200000 in
theorem putVal_any (w : World) (base : Nat) (v u : Value) (l t : List Int) (gone : Bool) (h : Own w base v l) (hb : base ≤ w.heap.size) (hu : Byt w u t) (hl : l.length ≤ 10000000) :
    Calls Tryz.prog 144 #[v, u, .bool gone] w fun e w' => ∃ a c, e = .returned (.slice a (putVal l t gone).length c) ∧ Own w' base (.slice a (putVal l t gone).length c) (putVal l t gone) ∧ Below w.heap.size w w' := by
  have H1 := hide (fun n hn => putNum1 w base v l n h hb hn (by omega))
  have HU := hide hu
  obtain ⟨a1, c1, rfl, _, _⟩ := h.byt.shape
  obtain ⟨a', c', rfl, _, _⟩ := hu.shape
  clear h hu
  cases gone
  · have hp := putAll_len l 0
    unfold putVal
    rw [if_neg (by decide)]
    have H2 := hide (unhide H1 0 ⟨by decide, by decide⟩)
    clear H1
    generalize putAll l 0 = lp at *
    go_enter Tryz.func144, Tryz.ntmps144
    go_wp2_with fail
    refine (unhide H2).mono ?_
    clear H2
    rintro e w1 ⟨a2, c2, rfl, ho, hB⟩
    go_wp2_with fail
    refine (putTI_own w1 _ _ lp t ho.byt ((unhide HU).keep hB) (by omega)).mono ?_
    rintro e w2 ⟨a3, c3, rfl, ho3, hB3⟩
    have hB4 := bstep hB hB3
    have ho4 := ho3.mono (base' := base) (by have := hB.size; omega)
    clear ho hB hB3 ho3
    go_wp2_with fail
    go_ret
    exact ⟨a3, c3, rfl, ho4, hB4⟩
  · unfold putVal
    rw [if_pos rfl]
    have H2 := hide (unhide H1 1 ⟨by decide, by decide⟩)
    clear H1
    generalize putAll l 1 = lp at *
    go_enter Tryz.func144, Tryz.ntmps144
    go_wp2_with fail
    refine (unhide H2).mono ?_
    clear H2
    rintro e w1 ⟨a2, c2, rfl, ho, hB⟩
    go_wp2_with fail
    go_ret
    exact ⟨a2, c2, rfl, ho, hB⟩
end Go.Proofs.YtkmmhlimihkgfaaGreat

/- impl.stampOk, impl.idOk, impl.NameOk, impl.textOk, impl.valueOk, impl.loneOk answer what the plain tests say. -/
namespace Go.Proofs.YtkmmhlimihkgfaaGreat
open Go.RowKit
set_option linter.unusedVariables false
set_option maxRecDepth 100000

def stampB (n r : Int) : Bool := decide (1 ≤ n) && (decide (n ≤ 1000000) && (decide (0 ≤ r) && decide (r < 8)))
theorem stampB_cases (n r : Int) :
    (stampB n r = false ∧ decide (1 ≤ n) = false) ∨
    (stampB n r = false ∧ decide (1 ≤ n) = true ∧ decide (n ≤ 1000000) = false) ∨
    (stampB n r = false ∧ decide (1 ≤ n) = true ∧ decide (n ≤ 1000000) = true ∧ decide (0 ≤ r) = false) ∨
    (stampB n r = true ∧ decide (1 ≤ n) = true ∧ decide (n ≤ 1000000) = true ∧ decide (0 ≤ r) = true ∧ decide (r < 8) = true) ∨
    (stampB n r = false ∧ decide (1 ≤ n) = true ∧ decide (n ≤ 1000000) = true ∧ decide (0 ≤ r) = true ∧ decide (r < 8) = false) := by
  unfold stampB
  cases decide (1 ≤ n) <;> cases decide (n ≤ 1000000) <;> cases decide (0 ≤ r) <;> cases decide (r < 8) <;> simp

set_option maxHeartbeats 1600000 in
theorem stampI_any (w : World) (n r : Int) :
    Calls Tryz.prog 85 #[.agg #[.int .i64 n, .int .i64 r]] w fun e w' => e = .returned (.bool (stampB n r)) ∧ w' = w.alloc (.cells #[.int .i64 n, .int .i64 r] 25) := by
  rcases stampB_cases n r with ⟨h, q1⟩ | ⟨h, q1, q2⟩ | ⟨h, q1, q2, q3⟩ | ⟨h, q1, q2, q3, q4⟩ | ⟨h, q1, q2, q3, q4⟩
  all_goals
    have HE := hide h
    clear h
    go_enter Tryz.func85, Tryz.ntmps85
    go_wp2
    go_ret
    exact ⟨by rw [unhide HE]; rfl, rfl⟩

theorem idB_stamp (n r : Int) :
    (stampB n r = true ∧ idB n r = true) ∨
    (stampB n r = false ∧ idB n r = false ∧ (n == 0) = false) ∨
    (stampB n r = false ∧ idB n r = false ∧ n = 0 ∧ (n == 0) = true ∧ decide (0 ≤ r) = false) ∨
    (stampB n r = false ∧ idB n r = decide (r ≤ 121) ∧ n = 0 ∧ (n == 0) = true ∧ decide (0 ≤ r) = true) := by
  unfold stampB idB
  by_cases a : n = 0
  · subst a
    by_cases b : 0 ≤ r
    · right; right; right
      refine ⟨by simp, ?_, rfl, rfl, by simpa using b⟩
      rw [Bool.eq_iff_iff]
      simp
      omega
    · right; right; left
      refine ⟨by simp, ?_, rfl, rfl, by simpa using b⟩
      rw [Bool.eq_false_iff]
      simp only [ne_eq, Bool.and_eq_true, Bool.or_eq_true, decide_eq_true_eq]
      omega
  · by_cases c : 1 ≤ n ∧ n ≤ 1000000 ∧ 0 ≤ r ∧ r < 8
    · left
      simp only [Bool.and_eq_true, Bool.or_eq_true, decide_eq_true_eq]
      omega
    · right; left
      refine ⟨?_, ?_, by simpa using a⟩
      · rw [Bool.eq_false_iff]
        simp only [ne_eq, Bool.and_eq_true, decide_eq_true_eq]
        omega
      · rw [Bool.eq_false_iff]
        simp only [ne_eq, Bool.and_eq_true, Bool.or_eq_true, decide_eq_true_eq]
        omega

set_option maxHeartbeats 1600000 in
theorem idI_any (w : World) (n r : Int) :
    Calls Tryz.prog 79 #[.agg #[.int .i64 n, .int .i64 r]] w fun e w' => e = .returned (.bool (idB n r)) ∧ w' = (w.alloc (.cells #[.int .i64 n, .int .i64 r] 25)).alloc (.cells #[.int .i64 n, .int .i64 r] 25) := by
  have HS := hide (stampI_any (w.alloc (.cells #[.int .i64 n, .int .i64 r] 25)) n r)
  rcases idB_stamp n r with ⟨h, k⟩ | ⟨h, k, q1⟩ | ⟨h, k, rfl, q1, q2⟩ | ⟨h, k, rfl, q1, q2⟩
  all_goals
    rw [h] at HS
    have HE := hide k
    clear h k
    go_enter Tryz.func79, Tryz.ntmps79
    go_wp2_with fail
    refine (unhide HS).mono ?_
    rintro e w1 ⟨rfl, rfl⟩
    go_wp2
    go_ret
    exact ⟨by rw [unhide HE]; rfl, rfl⟩

theorem nameI_b (w : World) (v : Value) (l : List Int) (h : Byt w v l) : Calls Tryz.prog 83 #[v] w fun e w' => e = .returned (.bool (nameB l)) ∧ w' = w := by
  by_cases hn : NameOk l
  · rw [(nameB_iff l).2 hn]; exact nameI_yes w v l h hn
  · rw [Bool.eq_false_iff.2 (fun k => hn ((nameB_iff l).1 k))]; exact nameI_no w v l h hn
theorem textI_b (w : World) (v : Value) (l : List Int) (h : Byt w v l) : Calls Tryz.prog 82 #[v] w fun e w' => e = .returned (.bool (textB l)) ∧ w' = w := by
  by_cases hn : TextOk l
  · rw [(textB_iff l).2 hn]; exact textI_yes w v l h hn
  · rw [Bool.eq_false_iff.2 (fun k => hn ((textB_iff l).1 k))]; exact textI_no w v l h hn

def valB (t : List Int) (gone : Bool) : Bool := if gone then (t.length : Int) == 0 else textB t
set_option maxHeartbeats 1600000 in
theorem valI_any (w : World) (v : Value) (t : List Int) (gone : Bool) (h : Byt w v t) :
    Calls Tryz.prog 84 #[v, .bool gone] w fun e w' => e = .returned (.bool (valB t gone)) ∧ w' = w := by
  have HT := hide (textI_b w v t h)
  obtain ⟨a, c, rfl, _, _⟩ := h.shape
  clear h
  cases gone
  · go_enter Tryz.func84, Tryz.ntmps84
    go_wp2_with fail
    refine (unhide HT).mono ?_
    rintro e w1 ⟨rfl, rfl⟩
    go_wp2
    go_ret
    exact ⟨rfl, rfl⟩
  · go_enter Tryz.func84, Tryz.ntmps84
    go_wp2_with fail
    go_ret
    exact ⟨rfl, rfl⟩

/-- Elem, Name and Text of a node without Kids. -/
def loneB (k : Int) (n t : List Int) : Bool := if k = 0 then nameB n && (t.length : Int) == 0 else if k = 1 then (n.length : Int) == 0 && textB t else false

theorem attrsI_none (w : World) : Calls Tryz.prog 138 #[.slice none 0 0] w fun e w' => e = .returned (.bool true) ∧ w' = w := by
  go_enter Tryz.func138, Tryz.ntmps138
  go_wp2
  refine wp_loop_rounds 1 ?_
  rw [rounds_succ]
  go_wp2
  go_ret
  exact ⟨rfl, rfl⟩

set_option maxHeartbeats 3200000 in
theorem partI_lone (w : World) (k : Int) (vn vt : Value) (n t : List Int) (g : Nat) (hn : Byt w vn n) (ht : Byt w vt t) :
    Calls Tryz.prog 117 #[.agg #[.int .i64 k, vn, vt, .slice none 0 0, .slice none 0 0], .pointer (some ⟨g, 0, none⟩)] w fun e w' => e = .returned (.bool (loneB k n t)) ∧ w' = w.alloc (.cells #[.int .i64 k, vn, vt, .slice none 0 0, .slice none 0 0] 61) := by
  have HA := hide ((Below.refl w.heap.size w).alloc (Nat.le_refl _) (.cells #[.int .i64 k, vn, vt, .slice none 0 0, .slice none 0 0] 61))
  have HN := hide (nameI_b _ vn n (hn.keep (unhide HA)))
  have HT := hide (textI_b _ vt t (ht.keep (unhide HA)))
  obtain ⟨a1, c1, rfl, _, _⟩ := hn.shape
  obtain ⟨a2, c2, rfl, _, _⟩ := ht.shape
  clear hn ht
  by_cases k0 : k = 0
  · subst k0
    have HE := hide (show loneB 0 n t = (nameB n && (t.length : Int) == 0) from rfl)
    generalize nameB n = x at *
    generalize n.length = ln at *
    generalize t.length = lt at *
    cases x
    · go_enter Tryz.func117, Tryz.ntmps117
      go_wp2_with fail
      refine (unhide HN).mono ?_
      rintro e w1 ⟨rfl, rfl⟩
      go_wp2_with fail
      go_ret
      exact ⟨by rw [unhide HE]; rfl, rfl⟩
    · by_cases h0 : lt = 0
      · subst h0
        go_enter Tryz.func117, Tryz.ntmps117
        go_wp2_with fail
        refine (unhide HN).mono ?_
        rintro e w1 ⟨rfl, rfl⟩
        go_wp2_with fail
        refine (attrsI_none _).mono ?_
        rintro e w1 ⟨rfl, rfl⟩
        go_wp2_with fail
        go_ret
        exact ⟨by rw [unhide HE]; rfl, rfl⟩
      · have h0' : ((lt : Int) == 0) = false := by simpa using h0
        go_enter Tryz.func117, Tryz.ntmps117
        go_wp2_with fail
        refine (unhide HN).mono ?_
        rintro e w1 ⟨rfl, rfl⟩
        go_wp2_with fail
        go_ret
        exact ⟨by rw [unhide HE, h0']; rfl, rfl⟩
  · by_cases k1 : k = 1
    · subst k1
      have HE := hide (show loneB 1 n t = ((n.length : Int) == 0 && textB t) from rfl)
      generalize textB t = x at *
      generalize n.length = ln at *
      generalize t.length = lt at *
      by_cases h0 : ln = 0
      · subst h0
        cases x
        · go_enter Tryz.func117, Tryz.ntmps117
          go_wp2_with fail
          refine (unhide HT).mono ?_
          rintro e w1 ⟨rfl, rfl⟩
          go_wp2_with fail
          go_ret
          exact ⟨by rw [unhide HE]; rfl, rfl⟩
        · go_enter Tryz.func117, Tryz.ntmps117
          go_wp2_with fail
          refine (unhide HT).mono ?_
          rintro e w1 ⟨rfl, rfl⟩
          go_wp2_with fail
          go_ret
          exact ⟨by rw [unhide HE]; rfl, rfl⟩
      · have h0' : ((ln : Int) == 0) = false := by simpa using h0
        go_enter Tryz.func117, Tryz.ntmps117
        go_wp2_with fail
        go_ret
        exact ⟨by rw [unhide HE, h0']; rfl, rfl⟩
    · have HE := hide (show loneB k n t = false by unfold loneB; rw [if_neg k0, if_neg k1])
      have q0 : (k == 0) = false := by simpa using k0
      have q1 : (k == 1) = false := by simpa using k1
      go_enter Tryz.func117, Tryz.ntmps117
      go_wp2_with fail
      go_ret
      exact ⟨by rw [unhide HE]; rfl, rfl⟩

set_option maxHeartbeats 3200000 in
theorem loneI_any (w : World) (k : Int) (vn vt : Value) (n t : List Int) (hn : Byt w vn n) (ht : Byt w vt t) :
    Calls Tryz.prog 81 #[.agg #[.int .i64 k, vn, vt, .slice none 0 0, .slice none 0 0]] w fun e w' => e = .returned (.bool (loneB k n t)) ∧ w' = ((w.alloc (.cells #[.int .i64 k, vn, vt, .slice none 0 0, .slice none 0 0] 61)).alloc (.cells #[.int .u32 0, .int .i32 0, .int .u32 0, .map none] 141)).alloc (.cells #[.int .i64 k, vn, vt, .slice none 0 0, .slice none 0 0] 61) := by
  have HN := hide (fun W (h : Below w.heap.size w W) => hn.keep h)
  have HT := hide (fun W (h : Below w.heap.size w W) => ht.keep h)
  obtain ⟨a1, c1, rfl, _, _⟩ := hn.shape
  obtain ⟨a2, c2, rfl, _, _⟩ := ht.shape
  clear hn ht
  go_enter Tryz.func81, Tryz.ntmps81
  go_wp2_with fail
  have HB := hide (((Below.refl w.heap.size w).alloc (Nat.le_refl _) (.cells #[.int .i64 k, .slice a1 n.length c1, .slice a2 t.length c2, .slice none 0 0, .slice none 0 0] 61)).alloc (by simp) (.cells #[.int .u32 0, .int .i32 0, .int .u32 0, .map none] 141))
  refine (partI_lone _ k _ _ n t _ (unhide HN _ (unhide HB)) (unhide HT _ (unhide HB))).mono ?_
  rintro e w1 ⟨rfl, rfl⟩
  go_wp2
  go_ret
  exact ⟨rfl, rfl⟩

end Go.Proofs.YtkmmhlimihkgfaaGreat

/- impl.isZeroOp answers what the plain test says. -/
namespace Go.Proofs.YtkmmhlimihkgfaaGreat
open Go.RowKit
set_option linter.unusedVariables false
set_option maxRecDepth 100000

def zeroOpB (o : OpV) : Bool := (o.kind == 0) && (zeroB o.atN o.atR && (zeroB o.nodeN o.nodeR && (zeroB o.parN o.parR && ((o.key.length : Int) == 0 && ((o.elem == 0) && ((o.name.length : Int) == 0 && ((o.text.length : Int) == 0 && !o.gone)))))))

set_option maxHeartbeats 3200000 in
theorem zeroI_any (w : World) (o : OpV) (a1 a2 a3 : Option Addr) (c1 c2 c3 : Nat) :
    Calls Tryz.prog 86 #[opVal o (.slice a1 o.key.length c1) (.slice a2 o.name.length c2) (.slice a3 o.text.length c3)] w fun e w' => e = .returned (.bool (zeroOpB o)) ∧ Below w.heap.size w w' := by
  unfold opVal
  go_enter Tryz.func86, Tryz.ntmps86
  go_wp2_with fail
  all_goals
    go_ret
    exact ⟨by simp [zeroOpB, zeroB, *], (Below.refl w.heap.size w).alloc (Nat.le_refl _) _⟩
end Go.Proofs.YtkmmhlimihkgfaaGreat

/- The test of an operation, the two ways round, in plain mathematics. -/
namespace Go.Proofs.YtkmmhlimihkgfaaGreat
set_option linter.unusedVariables false

theorem headB_eq (o : OpV) : opHeadB o = (decide (o.kind < 0) || (decide (3 < o.kind) || (!stampB o.atN o.atR || !textB o.text))) := by
  unfold opHeadB stampB
  have e1 : decide (1 ≤ o.atN) = !decide (o.atN < 1) := by rw [Bool.eq_iff_iff]; simp
  have e2 : decide (o.atN ≤ 1000000) = !decide (1000000 < o.atN) := by rw [Bool.eq_iff_iff]; simp
  have e3 : decide (0 ≤ o.atR) = !decide (o.atR < 0) := by rw [Bool.eq_iff_iff]; simp
  have e4 : decide (o.atR < 8) = !decide (8 ≤ o.atR) := by rw [Bool.eq_iff_iff]; simp
  rw [e1, e2, e3, e4]
  cases decide (o.kind < 0) <;> cases decide (3 < o.kind) <;> cases decide (o.atN < 1) <;> cases decide (1000000 < o.atN) <;> cases decide (o.atR < 0) <;> cases decide (8 ≤ o.atR) <;> rfl
theorem text_none {t : List Int} (h : ((t.length : Int) == 0) = true) : textB t = true := by
  have : t = [] := by simpa using h
  subst this
  rfl
theorem len_nil : ((([] : List Int).length : Int) == 0) = true := rfl
theorem zero_zero : zeroB 0 0 = true := rfl

def rest0 (o : OpV) : OpV := ⟨0, 0, 0, o.nodeN, o.nodeR, 0, 0, [], 0, [], [], o.gone⟩
def rest1 (o : OpV) : OpV := ⟨0, 0, 0, 0, 0, 0, 0, [], o.elem, o.name, o.text, o.gone⟩
def rest2 (o : OpV) : OpV := ⟨0, 0, 0, 0, 0, o.parN, o.parR, o.key, o.elem, o.name, [], o.gone⟩
def rest3 (o : OpV) : OpV := ⟨0, 0, 0, 0, 0, o.parN, o.parR, o.key, o.elem, [], [], false⟩

theorem opB_0 {o : OpV} (h : o.kind = 0) : opB o = (stampB o.atN o.atR && ((idB o.parN o.parR && (keyB o.key && loneB o.elem o.name o.text)) && zeroOpB (rest0 o))) := by
  unfold opB
  rw [headB_eq, h]
  simp only [Int.lt_irrefl, decide_false, Bool.false_or, beq_self_eq_true, if_true, show decide ((3 : Int) < 0) = false from rfl]
  unfold opNewB zeroOpB rest0
  simp only [zero_zero, len_nil, beq_self_eq_true, Bool.true_and]
  unfold loneB
  cases hs : stampB o.atN o.atR
  · simp
  cases idB o.parN o.parR
  · simp
  cases keyB o.key
  · simp
  cases zeroB o.nodeN o.nodeR
  · simp
  cases o.gone
  · by_cases e1 : o.elem = 1
    · rw [e1]
      cases textB o.text <;> simp
    · by_cases e0 : o.elem = 0
      · rw [e0]
        cases ht : textB o.text
        · cases hl : ((o.text.length : Int) == 0)
          · simp
          · rw [text_none hl] at ht; cases ht
        · simp
      · simp [e0, e1]
  · simp

theorem opB_1 {o : OpV} (h : o.kind = 1) : opB o = (stampB o.atN o.atR && ((idB o.nodeN o.nodeR && (idB o.parN o.parR && keyB o.key)) && zeroOpB (rest1 o))) := by
  unfold opB
  rw [headB_eq, h]
  simp only [show decide ((1 : Int) < 0) = false from rfl, Bool.false_or, show ((1 : Int) == 0) = false from rfl, show ((1 : Int) == 1) = true from rfl, show decide ((3 : Int) < 1) = false from rfl, if_true]
  unfold opMoveB zeroOpB rest1
  simp only [zero_zero, len_nil, beq_self_eq_true, Bool.true_and]
  cases hs : stampB o.atN o.atR
  · simp
  cases idB o.nodeN o.nodeR
  · simp
  cases idB o.parN o.parR
  · simp
  cases keyB o.key
  · simp
  cases hl : ((o.text.length : Int) == 0)
  · simp
  · rw [text_none hl]; simp

theorem opB_2 {o : OpV} (h : o.kind = 2) : opB o = (stampB o.atN o.atR && ((idB o.nodeN o.nodeR && textB o.text) && zeroOpB (rest2 o))) := by
  unfold opB
  rw [headB_eq, h]
  simp only [show decide ((2 : Int) < 0) = false from rfl, Bool.false_or, show ((2 : Int) == 0) = false from rfl, show ((2 : Int) == 1) = false from rfl, show decide ((3 : Int) < 2) = false from rfl]
  unfold opRestB zeroOpB rest2
  rw [h]
  simp only [zero_zero, len_nil, beq_self_eq_true, Bool.true_and, if_true]
  have ek : decide (0 < (o.key.length : Int)) = !((o.key.length : Int) == 0) := by rw [Bool.eq_iff_iff]; simp [Nat.pos_iff_ne_zero]
  rw [ek]
  cases hs : stampB o.atN o.atR
  · simp
  cases idB o.nodeN o.nodeR
  · simp
  cases textB o.text
  · simp
  cases zeroB o.parN o.parR
  · simp
  cases ((o.key.length : Int) == 0)
  · simp
  cases (o.elem == 0)
  · simp
  simp

theorem opB_3 {o : OpV} (h : o.kind = 3) : opB o = (stampB o.atN o.atR && ((idB o.nodeN o.nodeR && (nameB o.name && valB o.text o.gone)) && zeroOpB (rest3 o))) := by
  unfold opB
  rw [headB_eq, h]
  simp only [show decide ((3 : Int) < 0) = false from rfl, Bool.false_or, show ((3 : Int) == 0) = false from rfl, show ((3 : Int) == 1) = false from rfl, show decide ((3 : Int) < 3) = false from rfl]
  unfold opRestB zeroOpB rest3 valB
  rw [h]
  simp only [zero_zero, len_nil, beq_self_eq_true, Bool.true_and, show ((3 : Int) == 2) = false from rfl]
  have ek : decide (0 < (o.key.length : Int)) = !((o.key.length : Int) == 0) := by rw [Bool.eq_iff_iff]; simp [Nat.pos_iff_ne_zero]
  rw [ek]
  cases hs : stampB o.atN o.atR
  · simp
  cases idB o.nodeN o.nodeR
  · simp
  cases zeroB o.parN o.parR
  · simp
  cases ((o.key.length : Int) == 0)
  · simp
  cases (o.elem == 0)
  · simp
  cases nameB o.name
  · simp
  cases o.gone
  · cases textB o.text <;> simp
  · cases hl : ((o.text.length : Int) == 0)
    · simp
    · rw [text_none hl]; simp

theorem opB_4 {o : OpV} (h0 : o.kind ≠ 0) (h1 : o.kind ≠ 1) (h2 : o.kind ≠ 2) (h3 : o.kind ≠ 3) : opB o = false := by
  have : (decide (o.kind < 0) || decide (3 < o.kind)) = true := by
    simp only [Bool.or_eq_true, decide_eq_true_eq]
    omega
  unfold opB
  rw [headB_eq, ← Bool.or_assoc, this]
  rfl
end Go.Proofs.YtkmmhlimihkgfaaGreat

/- impl.keyOk answers what the plain test says. -/
namespace Go.Proofs.YtkmmhlimihkgfaaGreat
open Go.RowKit
set_option linter.unusedVariables false
set_option maxRecDepth 100000

theorem keyI_short (w : World) (a : Option Addr) (n cap : Nat) (h : n < 1 ∨ 12 < n) :
    Calls Tryz.prog 80 #[.slice a n cap] w fun e w' => e = .returned (.bool false) ∧ w' = w := by
  by_cases h1 : n < 1
  · have h1' : (n : Int) < 1 := by omega
    go_enter Tryz.func80, Tryz.ntmps80
    go_wp2
    go_ret
    exact ⟨rfl, rfl⟩
  · have h1' : decide ((n : Int) < 1) = false := by simp; omega
    have h2 : (12 : Int) < (n : Int) := by omega
    go_enter Tryz.func80, Tryz.ntmps80
    go_wp2
    go_ret
    exact ⟨rfl, rfl⟩

open Classical in
set_option maxHeartbeats 1600000 in
theorem keyI_row (w : World) (b off cap : Nat) (l : List Int) (hok : okZ l) (h1 : 1 ≤ l.length) (h8 : l.length ≤ 12)
    (hc : ∀ i, i < l.length → w.cell? ⟨b, off + i, none⟩ = some (.int .i64 (l.getD i 0))) :
    Calls Tryz.prog 80 #[.slice (some ⟨b, off, none⟩) l.length cap] w fun e w' => e = .returned (.bool (decide (KeyOk l))) ∧ w' = w := by
  have d1 : decide ((l.length : Int) < 1) = false := by simp; omega
  have d2 : decide ((12 : Int) < (l.length : Int)) = false := by simp; omega
  obtain ⟨n, hn⟩ : ∃ n, l.length = n + 1 := ⟨l.length - 1, by omega⟩
  obtain ⟨z, hz⟩ : ∃ z, z = l.getD n 0 := ⟨_, rfl⟩
  have hcz : w.cell? ⟨b, off + n, none⟩ = some (.int .i64 z) := by rw [hz]; exact hc _ (by omega)
  have HZ := hide hz
  have HC := hide hc
  have HN := hide hn
  have e1 : (l.length : Int) - 1 = (n : Int) := by omega
  have hlt0 : n < l.length := by omega
  clear hc hz hn
  go_enter Tryz.func80, Tryz.ntmps80
  go_wp2
  go_loop [15] (fun i => ∃ k : Nat, k ≤ l.length ∧ i = .int .i64 k ∧ allTo keyCh l k) (fun i => l.length - (intOf i).toNat)
  case atStart => exact ⟨0, Nat.zero_le _, rfl, fun i hi => by omega⟩
  case round =>
    obtain ⟨k, hk, rfl, ha⟩ := hrel
    have HA := hide ha
    clear ha
    by_cases hlt : k < l.length
    · obtain ⟨x, hx⟩ : ∃ x, x = l.getD k 0 := ⟨_, rfl⟩
      have hcx : w.cell? ⟨b, off + k, none⟩ = some (.int .i64 x) := by rw [hx]; exact unhide HC _ hlt
      have HX := hide hx
      have hlt' : (k : Int) < (l.length : Int) := by omega
      clear hx hcz
      by_cases hn : keyCh k x
      · have HN := hide hn
        have q1 : decide (x < 0) = false := by unfold keyCh at hn; simp; omega
        have q2 : decide (999 < x) = false := by unfold keyCh at hn; simp; omega
        clear hn
        go_wp2
        go_round
        case rel => exact ⟨k + 1, by omega, by go_num, allTo_step (unhide HA) (by rw [← unhide HX]; exact unhide HN)⟩
        case measure => simp [intOf]; omega
      · have HF := hide (show decide (KeyOk l) = false by
          simp only [decide_eq_false_iff_not]
          rintro ⟨_, _, _, h⟩
          exact hn (by rw [unhide HX]; exact h k hlt))
        have hcase : decide (x < 0) = true ∨ (decide (x < 0) = false ∧ decide (999 < x) = true) := by
          unfold keyCh at hn; simp; omega
        clear hn
        rcases hcase with q1 | ⟨q1, q2⟩
        all_goals
          go_wp2
          go_ret
          exact ⟨by rw [unhide HF]; rfl, rfl⟩
    · have e : k = l.length := by omega
      subst e
      by_cases hz0 : z = 0
      · have HF := hide (show decide (KeyOk l) = false by
          simp only [decide_eq_false_iff_not]
          rintro ⟨_, _, h, _⟩
          rw [unhide HN, Nat.add_sub_cancel, ← unhide HZ] at h
          exact h hz0)
        have dz : (z != 0) = false := by simp [hz0]
        clear hz0
        go_wp2
        go_ret
        exact ⟨by rw [unhide HF]; rfl, rfl⟩
      · have HF := hide (show decide (KeyOk l) = true by
          simp only [decide_eq_true_eq]
          exact ⟨h1, h8, by rw [unhide HN, Nat.add_sub_cancel, ← unhide HZ]; exact hz0, unhide HA⟩)
        have dz : (z != 0) = true := by simp [hz0]
        clear hz0
        go_wp2
        go_ret
        exact ⟨by rw [unhide HF]; rfl, rfl⟩

open Classical in
theorem keyI_any (w : World) (v : Value) (l : List Int) (h : Ints w v l) :
    Calls Tryz.prog 80 #[v] w fun e w' => e = .returned (.bool (decide (KeyOk l))) ∧ w' = w := by
  by_cases hl : l.length < 1 ∨ 12 < l.length
  · obtain ⟨a, cap, rfl, _⟩ := h.shape
    have hd : decide (KeyOk l) = false := by simp only [decide_eq_false_iff_not]; rintro ⟨_, _, _⟩; omega
    rw [hd]
    exact keyI_short w a _ cap hl
  · obtain ⟨hok, hm, ⟨rfl, rfl⟩ | ⟨x, cap, rfl, hc, rfl⟩ | ⟨b, off, cap, rfl, _, _, _, _, h5⟩⟩ := h
    · simp at hl
    · simp at hl
    · exact keyI_row w b off cap l hok (by omega) (by omega) h5
theorem keyI_b (w : World) (v : Value) (l : List Int) (h : Ints w v l) : Calls Tryz.prog 80 #[v] w fun e w' => e = .returned (.bool (keyB l)) ∧ w' = w := by
  refine (keyI_any w v l h).mono ?_
  rintro e w' ⟨rfl, h⟩
  refine ⟨?_, h⟩
  by_cases hn : KeyOk l
  · rw [(keyB_iff l).2 hn]; simp [hn]
  · rw [Bool.eq_false_iff.2 (fun k => hn ((keyB_iff l).1 k))]; simp [hn]
end Go.Proofs.YtkmmhlimihkgfaaGreat

/- impl.OpOk answers what the plain test says. -/
namespace Go.Proofs.YtkmmhlimihkgfaaGreat
open Go.RowKit
set_option linter.unusedVariables false
set_option maxRecDepth 100000

theorem balloc {w w' : World} {o : Obj} (h : Below w.heap.size w w') : Below w.heap.size w (w'.alloc o) := h.alloc h.size o

set_option maxHeartbeats 6400000 in
theorem opI_0 (w : World) (o : OpV) (a1 a2 a3 : Option Addr) (c1 c2 c3 : Nat) (hk : Ints w (.slice a1 o.key.length c1) o.key) (hn : Byt w (.slice a2 o.name.length c2) o.name) (ht : Byt w (.slice a3 o.text.length c3) o.text) (k0 : o.kind = 0) :
    Calls Tryz.prog 38 #[opVal o (.slice a1 o.key.length c1) (.slice a2 o.name.length c2) (.slice a3 o.text.length c3)] w fun e w' => e = .returned (.bool (opB o)) ∧ Below w.heap.size w w' := by
  have hE := opB_0 k0
  have HK := hide hk
  have HM := hide hn
  have HX := hide ht
  clear hk hn ht
  unfold opVal
  rw [k0]
  go_enter Tryz.func38, Tryz.ntmps38
  go_wp2_with fail
  refine (idI_any _ o.parN o.parR).mono ?_
  rintro e w1 ⟨rfl, ew⟩
  obtain rfl := ew
  cases hx : idB o.parN o.parR
  · rw [hx] at hE
    clear hx
    go_wp2_with fail
    refine (stampI_any _ o.atN o.atR).mono ?_
    rintro e w1 ⟨rfl, rfl⟩
    cases hs : stampB o.atN o.atR
    · have HF := hide (show opB o = false by rw [hE, hs]; rfl)
      clear hE hs
      go_wp2_with fail
      go_ret
      exact ⟨by rw [unhide HF]; rfl, (by repeat (first | exact Below.refl _ _ | refine balloc ?_))⟩
    · have HF := hide (show opB o = false by rw [hE, hs]; rfl)
      clear hE hs
      go_wp2_with fail
      go_ret
      exact ⟨by rw [unhide HF]; rfl, (by repeat (first | exact Below.refl _ _ | refine balloc ?_))⟩
  rw [hx] at hE
  clear hx
  go_wp2_with fail
  refine (keyI_b _ _ o.key ((unhide HK).keep (by repeat (first | exact Below.refl _ _ | refine balloc ?_)))).mono ?_
  rintro e w1 ⟨rfl, ew⟩
  obtain rfl := ew
  cases hx : keyB o.key
  · rw [hx] at hE
    clear hx
    go_wp2_with fail
    refine (stampI_any _ o.atN o.atR).mono ?_
    rintro e w1 ⟨rfl, rfl⟩
    cases hs : stampB o.atN o.atR
    · have HF := hide (show opB o = false by rw [hE, hs]; rfl)
      clear hE hs
      go_wp2_with fail
      go_ret
      exact ⟨by rw [unhide HF]; rfl, (by repeat (first | exact Below.refl _ _ | refine balloc ?_))⟩
    · have HF := hide (show opB o = false by rw [hE, hs]; rfl)
      clear hE hs
      go_wp2_with fail
      go_ret
      exact ⟨by rw [unhide HF]; rfl, (by repeat (first | exact Below.refl _ _ | refine balloc ?_))⟩
  rw [hx] at hE
  clear hx
  go_wp2_with fail
  refine (loneI_any _ o.elem _ _ o.name o.text ((unhide HM).keep (by repeat (first | exact Below.refl _ _ | refine balloc ?_))) ((unhide HX).keep (by repeat (first | exact Below.refl _ _ | refine balloc ?_)))).mono ?_
  rintro e w1 ⟨rfl, ew⟩
  obtain rfl := ew
  cases hx : loneB o.elem o.name o.text
  · rw [hx] at hE
    clear hx
    go_wp2_with fail
    refine (stampI_any _ o.atN o.atR).mono ?_
    rintro e w1 ⟨rfl, rfl⟩
    cases hs : stampB o.atN o.atR
    · have HF := hide (show opB o = false by rw [hE, hs]; rfl)
      clear hE hs
      go_wp2_with fail
      go_ret
      exact ⟨by rw [unhide HF]; rfl, (by repeat (first | exact Below.refl _ _ | refine balloc ?_))⟩
    · have HF := hide (show opB o = false by rw [hE, hs]; rfl)
      clear hE hs
      go_wp2_with fail
      go_ret
      exact ⟨by rw [unhide HF]; rfl, (by repeat (first | exact Below.refl _ _ | refine balloc ?_))⟩
  rw [hx] at hE
  clear hx
  go_wp2_with fail
  refine (stampI_any _ o.atN o.atR).mono ?_
  rintro e w1 ⟨rfl, rfl⟩
  cases hs : stampB o.atN o.atR
  · have HF := hide (show opB o = false by rw [hE, hs]; rfl)
    clear hE hs
    go_wp2_with fail
    go_ret
    exact ⟨by rw [unhide HF]; rfl, (by repeat (first | exact Below.refl _ _ | refine balloc ?_))⟩
  · rw [hs] at hE
    have HF := hide (show opB o = zeroOpB (rest0 o) by rw [hE]; rfl)
    clear hE hs
    go_wp2_with fail
    refine (zeroI_any _ (rest0 o) none none none 0 0 0).mono ?_
    rintro e w1 ⟨rfl, hB1⟩
    have hA := bstep (a := w) (by repeat (first | exact Below.refl _ _ | refine balloc ?_)) hB1
    clear hB1
    go_wp2_with fail
    go_ret
    exact ⟨by rw [unhide HF]; rfl, hA⟩

set_option maxHeartbeats 6400000 in
theorem opI_1 (w : World) (o : OpV) (a1 a2 a3 : Option Addr) (c1 c2 c3 : Nat) (hk : Ints w (.slice a1 o.key.length c1) o.key) (hn : Byt w (.slice a2 o.name.length c2) o.name) (ht : Byt w (.slice a3 o.text.length c3) o.text) (k0 : o.kind = 1) :
    Calls Tryz.prog 38 #[opVal o (.slice a1 o.key.length c1) (.slice a2 o.name.length c2) (.slice a3 o.text.length c3)] w fun e w' => e = .returned (.bool (opB o)) ∧ Below w.heap.size w w' := by
  have hE := opB_1 k0
  have HK := hide hk
  have HM := hide hn
  have HX := hide ht
  clear hk hn ht
  unfold opVal
  rw [k0]
  go_enter Tryz.func38, Tryz.ntmps38
  go_wp2_with fail
  refine (idI_any _ o.nodeN o.nodeR).mono ?_
  rintro e w1 ⟨rfl, ew⟩
  obtain rfl := ew
  cases hx : idB o.nodeN o.nodeR
  · rw [hx] at hE
    clear hx
    go_wp2_with fail
    refine (stampI_any _ o.atN o.atR).mono ?_
    rintro e w1 ⟨rfl, rfl⟩
    cases hs : stampB o.atN o.atR
    · have HF := hide (show opB o = false by rw [hE, hs]; rfl)
      clear hE hs
      go_wp2_with fail
      go_ret
      exact ⟨by rw [unhide HF]; rfl, (by repeat (first | exact Below.refl _ _ | refine balloc ?_))⟩
    · have HF := hide (show opB o = false by rw [hE, hs]; rfl)
      clear hE hs
      go_wp2_with fail
      go_ret
      exact ⟨by rw [unhide HF]; rfl, (by repeat (first | exact Below.refl _ _ | refine balloc ?_))⟩
  rw [hx] at hE
  clear hx
  go_wp2_with fail
  refine (idI_any _ o.parN o.parR).mono ?_
  rintro e w1 ⟨rfl, ew⟩
  obtain rfl := ew
  cases hx : idB o.parN o.parR
  · rw [hx] at hE
    clear hx
    go_wp2_with fail
    refine (stampI_any _ o.atN o.atR).mono ?_
    rintro e w1 ⟨rfl, rfl⟩
    cases hs : stampB o.atN o.atR
    · have HF := hide (show opB o = false by rw [hE, hs]; rfl)
      clear hE hs
      go_wp2_with fail
      go_ret
      exact ⟨by rw [unhide HF]; rfl, (by repeat (first | exact Below.refl _ _ | refine balloc ?_))⟩
    · have HF := hide (show opB o = false by rw [hE, hs]; rfl)
      clear hE hs
      go_wp2_with fail
      go_ret
      exact ⟨by rw [unhide HF]; rfl, (by repeat (first | exact Below.refl _ _ | refine balloc ?_))⟩
  rw [hx] at hE
  clear hx
  go_wp2_with fail
  refine (keyI_b _ _ o.key ((unhide HK).keep (by repeat (first | exact Below.refl _ _ | refine balloc ?_)))).mono ?_
  rintro e w1 ⟨rfl, ew⟩
  obtain rfl := ew
  cases hx : keyB o.key
  · rw [hx] at hE
    clear hx
    go_wp2_with fail
    refine (stampI_any _ o.atN o.atR).mono ?_
    rintro e w1 ⟨rfl, rfl⟩
    cases hs : stampB o.atN o.atR
    · have HF := hide (show opB o = false by rw [hE, hs]; rfl)
      clear hE hs
      go_wp2_with fail
      go_ret
      exact ⟨by rw [unhide HF]; rfl, (by repeat (first | exact Below.refl _ _ | refine balloc ?_))⟩
    · have HF := hide (show opB o = false by rw [hE, hs]; rfl)
      clear hE hs
      go_wp2_with fail
      go_ret
      exact ⟨by rw [unhide HF]; rfl, (by repeat (first | exact Below.refl _ _ | refine balloc ?_))⟩
  rw [hx] at hE
  clear hx
  go_wp2_with fail
  refine (stampI_any _ o.atN o.atR).mono ?_
  rintro e w1 ⟨rfl, rfl⟩
  cases hs : stampB o.atN o.atR
  · have HF := hide (show opB o = false by rw [hE, hs]; rfl)
    clear hE hs
    go_wp2_with fail
    go_ret
    exact ⟨by rw [unhide HF]; rfl, (by repeat (first | exact Below.refl _ _ | refine balloc ?_))⟩
  · rw [hs] at hE
    have HF := hide (show opB o = zeroOpB (rest1 o) by rw [hE]; rfl)
    clear hE hs
    go_wp2_with fail
    refine (zeroI_any _ (rest1 o) none a2 a3 0 c2 c3).mono ?_
    rintro e w1 ⟨rfl, hB1⟩
    have hA := bstep (a := w) (by repeat (first | exact Below.refl _ _ | refine balloc ?_)) hB1
    clear hB1
    go_wp2_with fail
    go_ret
    exact ⟨by rw [unhide HF]; rfl, hA⟩

set_option maxHeartbeats 6400000 in
theorem opI_2 (w : World) (o : OpV) (a1 a2 a3 : Option Addr) (c1 c2 c3 : Nat) (hk : Ints w (.slice a1 o.key.length c1) o.key) (hn : Byt w (.slice a2 o.name.length c2) o.name) (ht : Byt w (.slice a3 o.text.length c3) o.text) (k0 : o.kind = 2) :
    Calls Tryz.prog 38 #[opVal o (.slice a1 o.key.length c1) (.slice a2 o.name.length c2) (.slice a3 o.text.length c3)] w fun e w' => e = .returned (.bool (opB o)) ∧ Below w.heap.size w w' := by
  have hE := opB_2 k0
  have HK := hide hk
  have HM := hide hn
  have HX := hide ht
  clear hk hn ht
  unfold opVal
  rw [k0]
  go_enter Tryz.func38, Tryz.ntmps38
  go_wp2_with fail
  refine (idI_any _ o.nodeN o.nodeR).mono ?_
  rintro e w1 ⟨rfl, ew⟩
  obtain rfl := ew
  cases hx : idB o.nodeN o.nodeR
  · rw [hx] at hE
    clear hx
    go_wp2_with fail
    refine (stampI_any _ o.atN o.atR).mono ?_
    rintro e w1 ⟨rfl, rfl⟩
    cases hs : stampB o.atN o.atR
    · have HF := hide (show opB o = false by rw [hE, hs]; rfl)
      clear hE hs
      go_wp2_with fail
      go_ret
      exact ⟨by rw [unhide HF]; rfl, (by repeat (first | exact Below.refl _ _ | refine balloc ?_))⟩
    · have HF := hide (show opB o = false by rw [hE, hs]; rfl)
      clear hE hs
      go_wp2_with fail
      go_ret
      exact ⟨by rw [unhide HF]; rfl, (by repeat (first | exact Below.refl _ _ | refine balloc ?_))⟩
  rw [hx] at hE
  clear hx
  go_wp2_with fail
  refine (textI_b _ _ o.text ((unhide HX).keep (by repeat (first | exact Below.refl _ _ | refine balloc ?_)))).mono ?_
  rintro e w1 ⟨rfl, ew⟩
  obtain rfl := ew
  cases hx : textB o.text
  · rw [hx] at hE
    clear hx
    go_wp2_with fail
    refine (stampI_any _ o.atN o.atR).mono ?_
    rintro e w1 ⟨rfl, rfl⟩
    cases hs : stampB o.atN o.atR
    · have HF := hide (show opB o = false by rw [hE, hs]; rfl)
      clear hE hs
      go_wp2_with fail
      go_ret
      exact ⟨by rw [unhide HF]; rfl, (by repeat (first | exact Below.refl _ _ | refine balloc ?_))⟩
    · have HF := hide (show opB o = false by rw [hE, hs]; rfl)
      clear hE hs
      go_wp2_with fail
      go_ret
      exact ⟨by rw [unhide HF]; rfl, (by repeat (first | exact Below.refl _ _ | refine balloc ?_))⟩
  rw [hx] at hE
  clear hx
  go_wp2_with fail
  refine (stampI_any _ o.atN o.atR).mono ?_
  rintro e w1 ⟨rfl, rfl⟩
  cases hs : stampB o.atN o.atR
  · have HF := hide (show opB o = false by rw [hE, hs]; rfl)
    clear hE hs
    go_wp2_with fail
    go_ret
    exact ⟨by rw [unhide HF]; rfl, (by repeat (first | exact Below.refl _ _ | refine balloc ?_))⟩
  · rw [hs] at hE
    have HF := hide (show opB o = zeroOpB (rest2 o) by rw [hE]; rfl)
    clear hE hs
    go_wp2_with fail
    refine (zeroI_any _ (rest2 o) a1 a2 none c1 c2 0).mono ?_
    rintro e w1 ⟨rfl, hB1⟩
    have hA := bstep (a := w) (by repeat (first | exact Below.refl _ _ | refine balloc ?_)) hB1
    clear hB1
    go_wp2_with fail
    go_ret
    exact ⟨by rw [unhide HF]; rfl, hA⟩

set_option maxHeartbeats 6400000 in
theorem opI_3 (w : World) (o : OpV) (a1 a2 a3 : Option Addr) (c1 c2 c3 : Nat) (hk : Ints w (.slice a1 o.key.length c1) o.key) (hn : Byt w (.slice a2 o.name.length c2) o.name) (ht : Byt w (.slice a3 o.text.length c3) o.text) (k0 : o.kind = 3) :
    Calls Tryz.prog 38 #[opVal o (.slice a1 o.key.length c1) (.slice a2 o.name.length c2) (.slice a3 o.text.length c3)] w fun e w' => e = .returned (.bool (opB o)) ∧ Below w.heap.size w w' := by
  have hE := opB_3 k0
  have HK := hide hk
  have HM := hide hn
  have HX := hide ht
  clear hk hn ht
  unfold opVal
  rw [k0]
  go_enter Tryz.func38, Tryz.ntmps38
  go_wp2_with fail
  refine (idI_any _ o.nodeN o.nodeR).mono ?_
  rintro e w1 ⟨rfl, ew⟩
  obtain rfl := ew
  cases hx : idB o.nodeN o.nodeR
  · rw [hx] at hE
    clear hx
    go_wp2_with fail
    refine (stampI_any _ o.atN o.atR).mono ?_
    rintro e w1 ⟨rfl, rfl⟩
    cases hs : stampB o.atN o.atR
    · have HF := hide (show opB o = false by rw [hE, hs]; rfl)
      clear hE hs
      go_wp2_with fail
      go_ret
      exact ⟨by rw [unhide HF]; rfl, (by repeat (first | exact Below.refl _ _ | refine balloc ?_))⟩
    · have HF := hide (show opB o = false by rw [hE, hs]; rfl)
      clear hE hs
      go_wp2_with fail
      go_ret
      exact ⟨by rw [unhide HF]; rfl, (by repeat (first | exact Below.refl _ _ | refine balloc ?_))⟩
  rw [hx] at hE
  clear hx
  go_wp2_with fail
  refine (nameI_b _ _ o.name ((unhide HM).keep (by repeat (first | exact Below.refl _ _ | refine balloc ?_)))).mono ?_
  rintro e w1 ⟨rfl, ew⟩
  obtain rfl := ew
  cases hx : nameB o.name
  · rw [hx] at hE
    clear hx
    go_wp2_with fail
    refine (stampI_any _ o.atN o.atR).mono ?_
    rintro e w1 ⟨rfl, rfl⟩
    cases hs : stampB o.atN o.atR
    · have HF := hide (show opB o = false by rw [hE, hs]; rfl)
      clear hE hs
      go_wp2_with fail
      go_ret
      exact ⟨by rw [unhide HF]; rfl, (by repeat (first | exact Below.refl _ _ | refine balloc ?_))⟩
    · have HF := hide (show opB o = false by rw [hE, hs]; rfl)
      clear hE hs
      go_wp2_with fail
      go_ret
      exact ⟨by rw [unhide HF]; rfl, (by repeat (first | exact Below.refl _ _ | refine balloc ?_))⟩
  rw [hx] at hE
  clear hx
  go_wp2_with fail
  refine (valI_any _ _ o.text o.gone ((unhide HX).keep (by repeat (first | exact Below.refl _ _ | refine balloc ?_)))).mono ?_
  rintro e w1 ⟨rfl, ew⟩
  obtain rfl := ew
  cases hx : valB o.text o.gone
  · rw [hx] at hE
    clear hx
    go_wp2_with fail
    refine (stampI_any _ o.atN o.atR).mono ?_
    rintro e w1 ⟨rfl, rfl⟩
    cases hs : stampB o.atN o.atR
    · have HF := hide (show opB o = false by rw [hE, hs]; rfl)
      clear hE hs
      go_wp2_with fail
      go_ret
      exact ⟨by rw [unhide HF]; rfl, (by repeat (first | exact Below.refl _ _ | refine balloc ?_))⟩
    · have HF := hide (show opB o = false by rw [hE, hs]; rfl)
      clear hE hs
      go_wp2_with fail
      go_ret
      exact ⟨by rw [unhide HF]; rfl, (by repeat (first | exact Below.refl _ _ | refine balloc ?_))⟩
  rw [hx] at hE
  clear hx
  go_wp2_with fail
  refine (stampI_any _ o.atN o.atR).mono ?_
  rintro e w1 ⟨rfl, rfl⟩
  cases hs : stampB o.atN o.atR
  · have HF := hide (show opB o = false by rw [hE, hs]; rfl)
    clear hE hs
    go_wp2_with fail
    go_ret
    exact ⟨by rw [unhide HF]; rfl, (by repeat (first | exact Below.refl _ _ | refine balloc ?_))⟩
  · rw [hs] at hE
    have HF := hide (show opB o = zeroOpB (rest3 o) by rw [hE]; rfl)
    clear hE hs
    go_wp2_with fail
    refine (zeroI_any _ (rest3 o) a1 none none c1 0 0).mono ?_
    rintro e w1 ⟨rfl, hB1⟩
    have hA := bstep (a := w) (by repeat (first | exact Below.refl _ _ | refine balloc ?_)) hB1
    clear hB1
    go_wp2_with fail
    go_ret
    exact ⟨by rw [unhide HF]; rfl, hA⟩

set_option maxHeartbeats 6400000 in
theorem opI_4 (w : World) (o : OpV) (a1 a2 a3 : Option Addr) (c1 c2 c3 : Nat) (h0 : o.kind ≠ 0) (h1 : o.kind ≠ 1) (h2 : o.kind ≠ 2) (h3 : o.kind ≠ 3) :
    Calls Tryz.prog 38 #[opVal o (.slice a1 o.key.length c1) (.slice a2 o.name.length c2) (.slice a3 o.text.length c3)] w fun e w' => e = .returned (.bool (opB o)) ∧ Below w.heap.size w w' := by
  have HF := hide (opB_4 h0 h1 h2 h3)
  have q0 : (o.kind == 0) = false := by simpa using h0
  have q1 : (o.kind == 1) = false := by simpa using h1
  have q2 : (o.kind == 2) = false := by simpa using h2
  have q3 : (o.kind == 3) = false := by simpa using h3
  clear h0 h1 h2 h3
  unfold opVal
  go_enter Tryz.func38, Tryz.ntmps38
  go_wp2_with fail
  refine (stampI_any _ o.atN o.atR).mono ?_
  rintro e w1 ⟨rfl, rfl⟩
  cases hs : stampB o.atN o.atR
  all_goals
    clear hs
    go_wp2_with fail
    go_ret
    exact ⟨by rw [unhide HF]; rfl, (by repeat (first | exact Below.refl _ _ | refine balloc ?_))⟩

/-- impl.OpOk, whatever it is asked. -/
theorem opI_any (w : World) (v : Value) (o : OpV) (h : RdOp w v o) :
    Calls Tryz.prog 38 #[v] w fun e w' => e = .returned (.bool (opB o)) ∧ Below w.heap.size w w' := by
  obtain ⟨k, n, t, rfl, hk, hn, ht⟩ := h
  obtain ⟨a1, c1, rfl, _, _⟩ := hk.shape
  obtain ⟨a2, c2, rfl, _, _⟩ := hn.shape
  obtain ⟨a3, c3, rfl, _, _⟩ := ht.shape
  by_cases k0 : o.kind = 0
  · exact opI_0 w o a1 a2 a3 c1 c2 c3 hk hn ht k0
  by_cases k1 : o.kind = 1
  · exact opI_1 w o a1 a2 a3 c1 c2 c3 hk hn ht k1
  by_cases k2 : o.kind = 2
  · exact opI_2 w o a1 a2 a3 c1 c2 c3 hk hn ht k2
  by_cases k3 : o.kind = 3
  · exact opI_3 w o a1 a2 a3 c1 c2 c3 hk hn ht k3
  exact opI_4 w o a1 a2 a3 c1 c2 c3 k0 k1 k2 k3
theorem opI_said : OpISaid := fun w o base k n t h _ => opI_any w _ o h.rd
end Go.Proofs.YtkmmhlimihkgfaaGreat
