/- Own texts joined: ToOs, LPut, OpenO, OpenP, OpenE, OpenQ. -/
import Derived.Test.YtfhekoipnlmhoaaGreatJa
import Derived.Test.YtfhekoipnlmhoaaGreatJb
import Derived.Test.YtfhekoipnlmhoaaGreatJc
import Derived.Test.YtfhekoipnlmhoaaGreatJd
import Derived.Test.YtfhekoipnlmhoaaGreatJe
import Derived.Test.YtfhekoipnlmhoaaGreatJf
import Derived.Test.YtfhekoipnlmhoaaGreatJg
import Derived.Deep.RegionHeld3
import Derived.Test.YtfhekoipnlmhoaaGreatProg
import Derived.ChangeArms
import Derived.ChangeSlices
import Derived.WideShapes

/- The laws' own copy of a row of operations. -/
namespace Go.Proofs.YtfhekoipnlmhoaaGreat
open Go.RowKit
set_option linter.unusedVariables false
set_option maxRecDepth 100000

set_option maxHeartbeats 12800000 in
theorem toOps_any (w : World) (v : Value) (l : List OpV) (h : RdOps w v l) (hs : szOs l ≤ 2097152) :
    Calls Tryz.prog 16 #[v] w fun e w' => ∃ a c, e = .returned (.slice a l.length c) ∧ ∃ F, OwOps w' (.slice a l.length c) l F ∧ F.Nodup ∧ Rng F w.heap.size w'.heap.size ∧ Below w.heap.size w w' := by
  obtain ⟨i0, hi, hz0, hz1, hz2⟩ := info_parts Tryz.info28
  have hm := h.1
  have hlen : l.length ≤ 2097152 := by unfold szOs at hs; omega
  by_cases h0 : l = []
  · obtain ⟨a, cap, rfl, _⟩ := Elems.shape h
    subst h0
    go_enter Tryz.func16, Tryz.ntmps16
    go_wp2_with (at_make; refine wpList_make_full _ rfl _ _ 23 rfl w.heap.size 28 i0 _ 12 Tryz.underlying23 hi hz0 hz1 .i64 .i64 _ _ 0 rfl rfl rfl rfl ?c1 ?c2 ?c3 ?_)
    case c1 => rw [hz2]; omega
    case c2 => exact Nat.zero_le _
    case c3 => exact Nat.le_refl _
    intro w1 hown hgrow
    have hB1 := Below.ofGrown hgrow
    have hH := (Half.start (α := OpV) (l := []) (R := OwOpC w1) (w.heap.size + 1) (ownsRow_base hown 0 (Nat.zero_le _))).whole rfl (by omega)
    have HH := hide hH
    clear hown hgrow hH
    go_wp2_with fail
    refine wp_loop_rounds 1 ?_
    rw [rounds_succ]
    go_wp2_with fail
    go_ret
    obtain ⟨F, hF, hnd, hr⟩ := unhide HH
    exact ⟨_, _, rfl, F, hF, hnd, hr, hB1⟩
  obtain ⟨_, ⟨_, e⟩ | ⟨_, _, _, _, e⟩ | ⟨b, off, cap, rfl, g1, g2, g3, g4, g5⟩⟩ := h
  · exact absurd e h0
  · exact absurd e h0
  have hone : ∀ i (hi : i < l.length), szO l[i] ≤ 2097152 := fun i hi => by have := szO_le l i hi; unfold szOs at hs; omega
  go_enter Tryz.func16, Tryz.ntmps16
  go_wp2_with (at_make; refine wpList_make_full _ rfl _ _ 23 rfl w.heap.size 28 i0 _ 12 Tryz.underlying23 hi hz0 hz1 .i64 .i64 _ _ l.length rfl rfl rfl rfl ?c1 ?c2 ?c3 ?_)
  case c1 => rw [hz2]; omega
  case c2 => exact hm
  case c3 => exact Nat.le_refl _
  intro w1 hown hgrow
  have hB1 := Below.ofGrown hgrow
  have hH := Half.start (α := OpV) (l := l) (R := OwOpC w1) (w.heap.size + 1) (ownsRow_base hown 0 (Nat.zero_le _))
  have hlt1 := (hown.lt w.heap.size rfl).2
  clear hown hgrow
  go_wp2_with fail
  go_loopw [4] (fun i wr => ∃ k : Nat, k ≤ l.length ∧ i = .int .i64 k ∧ Half wr 28 12 w.heap.size l.length l (OwOpC wr) (w.heap.size + 1) k ∧ Below w.heap.size w wr ∧ w.heap.size + 1 ≤ wr.heap.size) (fun i _ => l.length - (intOf i).toNat)
  case atStart => exact ⟨0, Nat.zero_le _, rfl, hH, hB1, by omega⟩
  case round =>
    obtain ⟨k, hk, rfl, hr, hB, hsz⟩ := hrel
    clear hH hB1 hlt1
    by_cases hlt : k < l.length
    · obtain ⟨p1, u1, p2, u2, p3, u3, e0, e1, e2, e3, e4, e5, e6, e7, e8, e9, e10, e11, hro⟩ := opc_at hB g4 (g5 k hlt)
      have hlt' : (k : Int) < (l.length : Int) := by omega
      have HT := hide (toOp_own wr _ l[k] hro (by have := hone k hlt; unfold szO at this; exact this))
      have HR0 := hide hr
      have HRW := hide (fun (w2 : World) (hB2 : Below wr.heap.size wr w2) => (show ∃ xs : List Value, w2.ownsRow 0 28 12 (.slice (some ⟨w.heap.size, 0, none⟩) l.length l.length) l.length xs by
        obtain ⟨_, _, xs, _, _, _, h4, _⟩ := hr.laid
        exact ⟨xs, ownsRow_frm h4 (Frm.ofBelow hB2 []) (fun _ _ => by simp)⟩))
      unfold opVal at HT
      generalize hoo : l[k] = o at *
      have HOO := hide hoo.symm
      clear g5 hoo hr hro hone
      go_wp2_with fail
      clear e0 e1 e2 e3 e4 e5 e6 e7 e8 e9 e10 e11
      refine (unhide HT).mono ?_
      rintro e w2 ⟨a1, c1, a2, c2, a3, c3, rfl, hO, hB2⟩
      obtain ⟨hO1, hO2, hO3, hO4⟩ := hO
      have rK : ∀ g ∈ FB (.slice a1 o.key.length c1), wr.heap.size ≤ g ∧ g < w2.heap.size := fun g hg => hO1.lt g (by simpa [FB] using hg)
      have rN := hO2.rng
      have rT := hO3.rng
      have o1 := hO1.mono (base' := 0) (Nat.zero_le _)
      have o2 := hO2.mono (base' := 0) (Nat.zero_le _)
      have o3 := hO3.mono (base' := 0) (Nat.zero_le _)
      clear hO1 hO2 hO3
      generalize hnK : o.key.length = nK at *
      generalize hnN : o.name.length = nN at *
      generalize hnT : o.text.length = nT at *
      clear hnK hnN hnT
      obtain ⟨xs, hx⟩ := unhide HRW w2 hB2
      have hxl := hx.1
      have hcell : ∀ j, j < 12 → ∃ y, w2.cell? ⟨w.heap.size, k * 12 + j, none⟩ = some y := fun j hj => ⟨xs[k * 12 + j]'(by omega), by rw [hx.cellAt (k * 12 + j) (by omega), List.getElem?_eq_getElem (by omega)]⟩
      obtain ⟨y0, q0⟩ := hcell 0 (by omega)
      obtain ⟨y1, q1⟩ := hcell 1 (by omega)
      obtain ⟨y2, q2⟩ := hcell 2 (by omega)
      obtain ⟨y3, q3⟩ := hcell 3 (by omega)
      obtain ⟨y4, q4⟩ := hcell 4 (by omega)
      obtain ⟨y5, q5⟩ := hcell 5 (by omega)
      obtain ⟨y6, q6⟩ := hcell 6 (by omega)
      obtain ⟨y7, q7⟩ := hcell 7 (by omega)
      obtain ⟨y8, q8⟩ := hcell 8 (by omega)
      obtain ⟨y9, q9⟩ := hcell 9 (by omega)
      obtain ⟨y10, q10⟩ := hcell 10 (by omega)
      obtain ⟨y11, q11⟩ := hcell 11 (by omega)
      rw [Nat.add_zero] at q0
      have f0 := hx.frozenAt (k * 12)
      have f1 := hx.frozenAt (k * 12 + 1)
      have f2 := hx.frozenAt (k * 12 + 2)
      have f3 := hx.frozenAt (k * 12 + 3)
      have f4 := hx.frozenAt (k * 12 + 4)
      have f5 := hx.frozenAt (k * 12 + 5)
      have f6 := hx.frozenAt (k * 12 + 6)
      have f7 := hx.frozenAt (k * 12 + 7)
      have f8 := hx.frozenAt (k * 12 + 8)
      have f9 := hx.frozenAt (k * 12 + 9)
      have f10 := hx.frozenAt (k * 12 + 10)
      have f11 := hx.frozenAt (k * 12 + 11)
      obtain ⟨W, hW⟩ : ∃ W, W = ((((((((((((w2.setCell ⟨w.heap.size, k * 12, none⟩ (.int .i64 o.kind)).setCell ⟨w.heap.size, k * 12 + 1, none⟩ (.int .i64 o.atN)).setCell ⟨w.heap.size, k * 12 + 2, none⟩ (.int .i64 o.atR)).setCell ⟨w.heap.size, k * 12 + 3, none⟩ (.int .i64 o.nodeN)).setCell ⟨w.heap.size, k * 12 + 4, none⟩ (.int .i64 o.nodeR)).setCell ⟨w.heap.size, k * 12 + 5, none⟩ (.int .i64 o.parN)).setCell ⟨w.heap.size, k * 12 + 6, none⟩ (.int .i64 o.parR)).setCell ⟨w.heap.size, k * 12 + 7, none⟩ (.slice a1 nK c1)).setCell ⟨w.heap.size, k * 12 + 8, none⟩ (.int .i64 o.elem)).setCell ⟨w.heap.size, k * 12 + 9, none⟩ (.slice a2 nN c2)).setCell ⟨w.heap.size, k * 12 + 10, none⟩ (.slice a3 nT c3)).setCell ⟨w.heap.size, k * 12 + 11, none⟩ (.bool o.gone)) := ⟨_, rfl⟩
      have hf : Frm w2 W [w.heap.size] := by rw [hW]; exact ((((((((((((set_frm w2 _ _ _).trans (set_frm _ _ _ _)).trans (set_frm _ _ _ _)).trans (set_frm _ _ _ _)).trans (set_frm _ _ _ _)).trans (set_frm _ _ _ _)).trans (set_frm _ _ _ _)).trans (set_frm _ _ _ _)).trans (set_frm _ _ _ _)).trans (set_frm _ _ _ _)).trans (set_frm _ _ _ _)).trans (set_frm _ _ _ _))
      have hrg : Rng (FB (.slice a1 nK c1) ++ FB (.slice a2 nN c2) ++ FB (.slice a3 nT c3)) wr.heap.size w2.heap.size := (Rng.app (Rng.app rK rN) rT)
      have hstep : Half W 28 12 w.heap.size l.length l (OwOpC W) (w.heap.size + 1) (k + 1) := by
        refine (unhide HR0).step hlt (by omega) hsz hB2 [.int .i64 o.kind, .int .i64 o.atN, .int .i64 o.atR, .int .i64 o.nodeN, .int .i64 o.nodeR, .int .i64 o.parN, .int .i64 o.parR, .slice a1 nK c1, .int .i64 o.elem, .slice a2 nN c2, .slice a3 nT c3, .bool o.gone] (FB (.slice a1 nK c1) ++ FB (.slice a2 nN c2) ++ FB (.slice a3 nT c3)) rfl ?_ hO4 hrg ?_ hf ?_
        · rw [← unhide HOO]
          exact OwOpC.frm (w := w2) ⟨_, _, _, rfl, o1, o2, o3, rfl⟩ hf (fun g hg => by have := hrg g hg; simp; omega)
        · intro C x G' hx' hne
          exact OwOpC.frm hx' ((Frm.ofBelow hB2 [w.heap.size]).trans hf) (fun g hg => by have := hne g hg; simp; omega)
        · intro zs hz
          have hzl := hz.1
          have t0 := (hz.stored (k * 12) (.int .i64 o.kind)).1
          have t1 := (t0.stored (k * 12 + 1) (.int .i64 o.atN)).1
          have t2 := (t1.stored (k * 12 + 2) (.int .i64 o.atR)).1
          have t3 := (t2.stored (k * 12 + 3) (.int .i64 o.nodeN)).1
          have t4 := (t3.stored (k * 12 + 4) (.int .i64 o.nodeR)).1
          have t5 := (t4.stored (k * 12 + 5) (.int .i64 o.parN)).1
          have t6 := (t5.stored (k * 12 + 6) (.int .i64 o.parR)).1
          have t7 := (t6.stored (k * 12 + 7) (.slice a1 nK c1)).1
          have t8 := (t7.stored (k * 12 + 8) (.int .i64 o.elem)).1
          have t9 := (t8.stored (k * 12 + 9) (.slice a2 nN c2)).1
          have t10 := (t9.stored (k * 12 + 10) (.slice a3 nT c3)).1
          have t11 := (t10.stored (k * 12 + 11) (.bool o.gone)).1
          rw [hW]
          exact ⟨_, t11, take_twelve zs (k * 12) _ _ _ _ _ _ _ _ _ _ _ _ (by omega)⟩
      have HB0 := hB.trans ((hB2.mono hB.size).trans (hf.below (by have := hB2.size; have := hB.size; omega) (fun g hg => by simp at hg; omega)))
      have hs2 : w.heap.size + 1 ≤ W.heap.size := by have := hf.size; have := hB2.size; omega
      subst hW
      have HS := hide hstep
      have HB := hide HB0
      have HS2 := hide hs2
      clear hstep hf hx o1 o2 o3 hO4 hB2 hB HB0 hs2 hrg hcell rK rN rT HT HR0 HRW HOO
      go_wp2_with fail
      go_roundw
      case rel => exact ⟨k + 1, by omega, by go_num, unhide HS, unhide HB, unhide HS2⟩
      case measure => simp [intOf]; omega
    · have e : k = l.length := by omega
      subst e
      have HW := hide (hr.whole rfl (by omega))
      clear hr g5 hone
      go_wp2_with fail
      go_ret
      obtain ⟨F, hF, hnd, hrg⟩ := unhide HW
      exact ⟨_, _, rfl, F, hF, hnd, hrg, hB⟩
end Go.Proofs.YtfhekoipnlmhoaaGreat

/- The law on Put, walked by its callees' contracts. -/
namespace Go.Proofs.YtfhekoipnlmhoaaGreat
open Go.RowKit
set_option linter.unusedVariables false
set_option maxRecDepth 100000

theorem OwOps.keep {w w' : World} {v : Value} {l : List OpV} {F : List Nat} (h : OwOps w v l F) (hb : Below w.heap.size w w') : OwOps w' v l F := OwOps.frm h (Frm.ofBelow hb []) (fun _ _ => by simp)
theorem OwOp.frmP {w w' : World} {base : Nat} {o : OpV} {k n t : Value} {S : List Nat} (h : OwOp w base o k n t) (f : Frm w w' S) (hd : ∀ g ∈ FB k ++ FB n ++ FB t, g ∉ S) : OwOp w' base o k n t :=
  ⟨⟨h.1.1, ownsRow_frm h.1.2 f (fun g hg => hd g (by simp [hg]))⟩, h.2.1.frm f (fun g hg => hd g (by simp [hg])), h.2.2.1.frm f (fun g hg => hd g (by simp [hg])), h.2.2.2⟩
theorem opB_sz {o : OpV} (h : opB o = true) : szO o ≤ 72 := by
  obtain ⟨_, ht, hh⟩ := opB_facts h
  unfold szO
  rcases hh with hh | hh | hh | hh
  · have := hh.2.2.2.1.1; have := hh.2.2.2.2.2.1; omega
  · have := hh.2.2.2.1.1; have e : o.name.length = 0 := by rw [hh.2.2.2.2.2.1]; rfl
    omega
  · have e : o.name.length = 0 := by rw [hh.2.2.2.2.2.1]; rfl
    have e2 : o.key.length = 0 := by rw [hh.2.2.2.1]; rfl
    omega
  · have e1 : o.key.length ≤ 12 := by simp [hh]
    have e2 : o.name.length ≤ 30 := by simp [hh]
    omega
theorem cntOs_bd {m : Nat} : ∀ {l : List OpV}, (∀ x ∈ l, szO x ≤ m) → cntOs l ≤ (9 + m) * l.length
  | [], _ => by simp [cntOs]
  | x :: r, h => by
    have h1 := h x (by simp)
    have h2 := cntOs_bd (fun y hy => h y (List.mem_cons_of_mem _ hy))
    rw [cntOs, List.length_cons, Nat.mul_succ]
    omega
theorem cntOs_sz : ∀ (l : List OpV), cntOs l ≤ 9 * szOs l
  | [] => by simp [cntOs]
  | x :: r => by
    have h2 := cntOs_sz r
    unfold szOs at h2 ⊢
    simp only [cntOs, List.length_cons, List.map_cons, List.sum_cons]
    omega
theorem putV_cnt (l : List OpV) (o : OpV) : cntOs (putV l o) ≤ 16777216 ∧ (putV l o).length ≤ 151 := by
  unfold putV
  cases hb : opsB l && opB o with
  | false => simp [cntOs]
  | true =>
    rw [Bool.and_eq_true] at hb
    have hl := opsB_len hb.1
    have hp := putL_len l o
    rw [if_pos rfl]
    refine ⟨?_, by omega⟩
    have := cntOs_bd (m := 72) (l := putL l o) (fun x hx => by
      rcases putL_mem hx with rfl | hx
      · exact opB_sz hb.2
      · obtain ⟨i, hi, rfl⟩ := List.getElem_of_mem hx
        exact opB_sz (opsB_each hb.1 hi))
    have h3 : (9 + 72) * (putL l o).length ≤ (9 + 72) * 151 := Nat.mul_le_mul_left _ (by omega)
    omega
/-- What both Put tell. -/
def PutSaid (f : FuncId) (l : List OpV) (o : OpV) (pv : List OpV) (ok : Bool) : Prop := ∀ (W : World) (u vo : Value), RdOps W u l → RdOp W vo o → Calls Tryz.prog f #[u, vo] W fun e w' => ∃ r, e = .returned (.tuple #[r, .bool ok]) ∧ ∃ F, OwOps w' r pv F ∧ F.Nodup ∧ Rng F W.heap.size w'.heap.size ∧ Below W.heap.size W w'
theorem sumO_each {l : List OpV} {m : Nat} (h : szOs l ≤ m) : ∀ x ∈ l, szO x ≤ m := fun x hx => by
  obtain ⟨i, hi, rfl⟩ := List.getElem_of_mem hx
  have := szO_le l i hi
  unfold szOs at h
  omega

set_option maxHeartbeats 40000000 in
theorem law_put (w : World) (v vo : Value) (l : List OpV) (o : OpV) (h : RdOps w v l) (ho : RdOp w vo o) :
    Calls Tryz.prog 4 #[v, vo] w fun e w' => e = .returned (.bool true) ∧ Below w.heap.size w w' := by
  have HZ := hide (fun W (hW : Below w.heap.size w W) => szOps_any W v l 1048576 (h.keep hW) (by omega) (by omega))
  have HZ2 := hide (fun W (hW : Below w.heap.size w W) left h0 h1 => szOp_any W vo o left (ho.keep hW) h0 h1)
  have HT := hide (fun W (hW : Below w.heap.size w W) hs => toOps_any W v l (h.keep hW) hs)
  have HTO := hide (fun W (hW : Below w.heap.size w W) hs => toOp_own W vo o (ho.keep hW) hs)
  obtain ⟨k, n, t, rfl, hk, hn, ht⟩ := ho
  obtain ⟨a0, c0, rfl, _, _⟩ := hk.shape
  obtain ⟨b0, d0, rfl, _, _⟩ := hn.shape
  obtain ⟨e0, f0, rfl, _, _⟩ := ht.shape
  obtain ⟨av, cv, rfl, _, _⟩ := Elems.shape h
  clear hk hn ht h
  have HM := hide (fun w base a1 a2 a3 c1 c2 c3 z h hs h0 h1 => markOp_any w base o a1 a2 a3 c1 c2 c3 z h hs h0 h1)
  have HSS := hide (fun (hz : szOs l ≤ 2097152) (hz2 : szO o ≤ 2097152) => And.intro (show PutSaid 15 l o (putV l o) (putAns l o) from fun W u vo hu hv => sput_any W u vo l o hu hv hz2 (sumO_each hz)) (show PutSaid 10 l o (putV l o) (putAns l o) from fun W u vo hu hv => iput_any W u vo l o hu hv hz2 (sumO_each hz)))
  obtain ⟨hpc, hpl⟩ := putV_cnt l o
  have hcl := cntOs_sz l
  generalize putV l o = pv at *
  generalize putAns l o = ok at *
  unfold szO at HSS
  obtain ⟨nK, hnK⟩ : ∃ x, x = o.key.length := ⟨_, rfl⟩
  obtain ⟨nN, hnN⟩ : ∃ x, x = o.name.length := ⟨_, rfl⟩
  obtain ⟨nT, hnT⟩ : ∃ x, x = o.text.length := ⟨_, rfl⟩
  rw [← hnK, ← hnN, ← hnT] at HZ2 HTO HM HSS ⊢
  clear hnK hnN hnT
  unfold opVal at HZ2 HTO HM ⊢
  have hA0 := (Below.refl w.heap.size w).alloc (Nat.le_refl _) (.cells #[.int .i64 o.kind, .int .i64 o.atN, .int .i64 o.atR, .int .i64 o.nodeN, .int .i64 o.nodeR, .int .i64 o.parN, .int .i64 o.parR, .slice a0 nK c0, .int .i64 o.elem, .slice b0 nN d0, .slice e0 nT f0, .bool o.gone] 41)
  have l0 := Loc.made w #[.int .i64 o.kind, .int .i64 o.atN, .int .i64 o.atR, .int .i64 o.nodeN, .int .i64 o.nodeR, .int .i64 o.parN, .int .i64 o.parR, .slice a0 nK c0, .int .i64 o.elem, .slice b0 nN d0, .slice e0 nT f0, .bool o.gone] 41
  go_enter Tryz.func4, Tryz.ntmps4
  go_wp2_with fail
  generalize (w.alloc (.cells #[.int .i64 o.kind, .int .i64 o.atN, .int .i64 o.atR, .int .i64 o.nodeN, .int .i64 o.nodeR, .int .i64 o.parN, .int .i64 o.parR, .slice a0 nK c0, .int .i64 o.elem, .slice b0 nN d0, .slice e0 nT f0, .bool o.gone] 41)) = wa at *
  generalize hSS : w.heap.size = S at *
  have BS := hide (show ∀ (b c : World), Below S w b → Below b.heap.size b c → Below S w c from fun b c h k => h.trans (k.mono (by have := h.size; omega)))
  have q0 := l0.lt
  refine (unhide HZ _ hA0).mono ?_
  rintro e w1 ⟨rfl, hB⟩
  have hA1 := unhide BS _ _ hA0 hB
  have l1 := l0.all hB
  have z1 := hB.size
  clear hA0 l0 hB HZ
  by_cases hbig : ((szOs l : Nat) : Int) ≤ 1048576
  case neg =>
    rw [rest_out hbig]
    go_wp2_with fail
    go_ret
    exact ⟨rfl, by rw [hSS]; exact hA1⟩
  rw [rest_in hbig]
  have hd0 : ¬ 1048576 - ((szOs l : Nat) : Int) < 0 := by omega
  obtain ⟨x0, x1, x2, x3, x4, x5, x6, x7, x8, x9, x10, x11⟩ := l1.twelve
  go_wp2_with fail
  refine (unhide HZ2 _ hA1 _ (by omega) (by omega)).mono ?_
  rintro e w2 ⟨rfl, hB⟩
  have hA2 := unhide BS _ _ hA1 hB
  have l2 := l1.all hB
  have z2 := hB.size
  clear hA1 l1 hB HZ2 x0 x1 x2 x3 x4 x5 x6 x7 x8 x9 x10 x11
  by_cases hbig2 : ((nK + nN + nT : Nat) : Int) ≤ 1048576 - ((szOs l : Nat) : Int)
  case neg =>
    rw [left4_out hbig2]
    go_wp2_with fail
    go_ret
    exact ⟨rfl, by rw [hSS]; exact hA2⟩
  rw [left4_in hbig2]
  have hd1 : ¬ 1048576 - ((szOs l : Nat) : Int) - ((nK + nN + nT : Nat) : Int) < 0 := by omega
  have hs1 : szOs l ≤ 2097152 := by omega
  have hs2 : nK + nN + nT ≤ 2097152 := by omega
  have hcl2 : cntOs l ≤ 16777216 := by omega
  obtain ⟨HS, HI⟩ := unhide HSS hs1 hs2
  replace HS := hide HS
  replace HI := hide HI
  replace HT := hide (fun W hW => unhide HT W hW hs1)
  replace HTO := hide (fun W hW => unhide HTO W hW hs2)
  clear HSS hbig hbig2 hcl
  have hne : (ok != ok) = false := by simp
  have heq : (ok == ok) = true := by simp
  obtain ⟨x0, x1, x2, x3, x4, x5, x6, x7, x8, x9, x10, x11⟩ := l2.twelve
  go_wp2_with fail
  go_region_held3 (fun w' => w'.cell? ⟨S, 0, none⟩ = some (.int .i64 o.kind) ∧ w'.cell? ⟨S, 1, none⟩ = some (.int .i64 o.atN) ∧ w'.cell? ⟨S, 2, none⟩ = some (.int .i64 o.atR) ∧ w'.cell? ⟨S, 3, none⟩ = some (.int .i64 o.nodeN) ∧ w'.cell? ⟨S, 4, none⟩ = some (.int .i64 o.nodeR) ∧ w'.cell? ⟨S, 5, none⟩ = some (.int .i64 o.parN) ∧ w'.cell? ⟨S, 6, none⟩ = some (.int .i64 o.parR) ∧ w'.cell? ⟨S, 7, none⟩ = some (.slice a0 nK c0) ∧ w'.cell? ⟨S, 8, none⟩ = some (.int .i64 o.elem) ∧ w'.cell? ⟨S, 9, none⟩ = some (.slice b0 nN d0) ∧ w'.cell? ⟨S, 10, none⟩ = some (.slice e0 nT f0) ∧ w'.cell? ⟨S, 11, none⟩ = some (.bool o.gone))
    (first | exact ⟨by assumption, by assumption, by assumption, by assumption, by assumption, by assumption, by assumption, by assumption, by assumption, by assumption, by assumption, by assumption⟩ | simp [*])
    (first
      | (go_at_call 16; refine (unhide HT _ hA2.drew).mono ?_; rintro e w4 ⟨p4, u4, rfl, F4, hO4, hN4, hR4, hB4⟩; have hE4 := bstep ((Below.refl w2.heap.size w2).drew) hB4; have hD4 := unhide BS _ _ hA2 hE4; obtain ⟨x0, x1, x2, x3, x4, x5, x6, x7, x8, x9, x10, x11⟩ := (l2.all hE4).twelve)
      | (go_at_call 17; refine (unhide HTO _ hD4).mono ?_; rintro e w5 ⟨a5, c5, b5, d5, e5, f5, rfl, ho5, hB5⟩; have hE5 := bstep hE4 hB5; have hD5 := unhide BS _ _ hA2 hE5; obtain ⟨x0, x1, x2, x3, x4, x5, x6, x7, x8, x9, x10, x11⟩ := (l2.all hE5).twelve)
      | (go_at_call 15; refine (unhide HS _ _ _ (hO4.rd.keep hB5) ho5.rd).mono ?_; rintro e w6 ⟨r6, rfl, F6, hO6, hN6, hR6, hB6⟩; have hE6 := bstep hE5 hB6; have hD6 := unhide BS _ _ hA2 hE6; obtain ⟨x0, x1, x2, x3, x4, x5, x6, x7, x8, x9, x10, x11⟩ := (l2.all hE6).twelve))
  have l6 := l2.all hE6
  have z5 := hE5.size
  have z6 := hB6.size
  clear hO4 hN4 hR4 hB4 hE4 hD4 ho5 hB5 hE5 hD5 hN6 hB6 hE6 l2 hA2 x0 x1 x2 x3 x4 x5 x6 x7 x8 x9 x10 x11 HS
  go_wp2_with fail
  refine (unhide HT _ hD6).mono ?_
  rintro e w7 ⟨p7, u7, rfl, F7, hO7, hN7, hR7, hB⟩
  have hD7 := unhide BS _ _ hD6 hB
  replace l6 := l6.all hB
  replace hO6 := hO6.keep hB
  have z7 := hB.size
  clear hB hD6
  obtain ⟨x0, x1, x2, x3, x4, x5, x6, x7, x8, x9, x10, x11⟩ := l6.twelve
  go_wp2_with fail
  refine (unhide HTO _ hD7).mono ?_
  rintro e w8 ⟨a8, c8, b8, d8, e8, f8, rfl, ho8, hB⟩
  have hD8 := unhide BS _ _ hD7 hB
  replace l6 := l6.all hB
  replace hO6 := hO6.keep hB
  replace hO7 := hO7.keep hB
  have z8 := hB.size
  have R8 : ∀ g ∈ FB (.slice a8 nK c8) ++ FB (.slice b8 nN d8) ++ FB (.slice e8 nT f8), w7.heap.size ≤ g ∧ g < w8.heap.size := fun g hg => ho8.rng g hg
  clear hB hD7 x0 x1 x2 x3 x4 x5 x6 x7 x8 x9 x10 x11
  have hB : Below w8.heap.size w8 (w8.alloc (.cells #[.int .i64 o.kind, .int .i64 o.atN, .int .i64 o.atR, .int .i64 o.nodeN, .int .i64 o.nodeR, .int .i64 o.parN, .int .i64 o.parR, .slice a8 nK c8, .int .i64 o.elem, .slice b8 nN d8, .slice e8 nT f8, .bool o.gone] 28)) := (Below.refl _ _).alloc (Nat.le_refl _) _
  have l9 := Loc.made w8 #[.int .i64 o.kind, .int .i64 o.atN, .int .i64 o.atR, .int .i64 o.nodeN, .int .i64 o.nodeR, .int .i64 o.parN, .int .i64 o.parR, .slice a8 nK c8, .int .i64 o.elem, .slice b8 nN d8, .slice e8 nT f8, .bool o.gone] 28
  have LL := hide (And.intro (unhide BS _ _ hD8 hB) (And.intro (l6.all hB) (And.intro (hO6.keep hB) (And.intro (hO7.keep hB) (And.intro l9 (And.intro (ho8.keep hB) hB.size))))))
  clear hD8 hB l6 hO6 hO7 ho8 l9
  go_wp2_with fail
  obtain ⟨hD9, l6, hO6, hO7, l9, ho8, z9⟩ := unhide LL
  clear LL
  generalize (w8.alloc (.cells #[.int .i64 o.kind, .int .i64 o.atN, .int .i64 o.atR, .int .i64 o.nodeN, .int .i64 o.nodeR, .int .i64 o.parN, .int .i64 o.parR, .slice a8 nK c8, .int .i64 o.elem, .slice b8 nN d8, .slice e8 nT f8, .bool o.gone] 28)) = w9 at *
  generalize hS9 : w8.heap.size = S9 at *
  have q9 := l9.lt
  have HP := hide (unhide HI w9 _ _ hO7.rd ho8.rd)
  unfold opVal at HP
  refine (unhide HP).mono ?_
  rintro e w10 ⟨r10, rfl, F10, hO10, hN10, hR10, hB⟩
  have hD10 := unhide BS _ _ hD9 hB
  replace l6 := l6.all hB
  replace hO6 := hO6.keep hB
  replace hO7 := hO7.keep hB
  replace l9 := l9.all hB
  replace ho8 := ho8.keep hB
  have z10 := hB.size
  clear hB hD9 HP
  go_wp2_with fail
  refine (eqOps_same w10 _ _ pv hO10.rd hO6.rd).mono ?_
  rintro e w11 ⟨rfl, hB⟩
  have hD11 := unhide BS _ _ hD10 hB
  have hC := hB
  clear hB hD10
  go_wp2_with fail
  refine (unhide HT _ hD11).mono ?_
  rintro e w12 ⟨p12, u12, rfl, F12, hO12, _, _, hB⟩
  have hD12 := unhide BS _ _ hD11 hB
  replace hC := bstep hC hB
  clear hB hD11
  go_wp2_with fail
  refine (eqOps_same w12 _ _ l (hO7.keep hC).rd hO12.rd).mono ?_
  rintro e w13 ⟨rfl, hB⟩
  have hD13 := unhide BS _ _ hD12 hB
  replace hC := bstep hC hB
  clear hB hD12 hO12
  replace l6 := l6.all hC
  replace hO6 := hO6.keep hC
  replace hO7 := hO7.keep hC
  replace l9 := l9.all hC
  replace ho8 := ho8.keep hC
  replace hO10 := hO10.keep hC
  have z13 := hC.size
  clear hC
  obtain ⟨x0, x1, x2, x3, x4, x5, x6, x7, x8, x9, x10, x11⟩ := l6.twelve
  obtain ⟨y0, y1, y2, y3, y4, y5, y6, y7, y8, y9, y10, y11⟩ := l9.twelve
  go_wp2_with fail
  go_region_held3 (fun w' => w'.cell? ⟨S, 0, none⟩ = some (.int .i64 o.kind) ∧ w'.cell? ⟨S, 1, none⟩ = some (.int .i64 o.atN) ∧ w'.cell? ⟨S, 2, none⟩ = some (.int .i64 o.atR) ∧ w'.cell? ⟨S, 3, none⟩ = some (.int .i64 o.nodeN) ∧ w'.cell? ⟨S, 4, none⟩ = some (.int .i64 o.nodeR) ∧ w'.cell? ⟨S, 5, none⟩ = some (.int .i64 o.parN) ∧ w'.cell? ⟨S, 6, none⟩ = some (.int .i64 o.parR) ∧ w'.cell? ⟨S, 7, none⟩ = some (.slice a0 nK c0) ∧ w'.cell? ⟨S, 8, none⟩ = some (.int .i64 o.elem) ∧ w'.cell? ⟨S, 9, none⟩ = some (.slice b0 nN d0) ∧ w'.cell? ⟨S, 10, none⟩ = some (.slice e0 nT f0) ∧ w'.cell? ⟨S, 11, none⟩ = some (.bool o.gone) ∧ w'.cell? ⟨S9, 0, none⟩ = some (.int .i64 o.kind) ∧ w'.cell? ⟨S9, 1, none⟩ = some (.int .i64 o.atN) ∧ w'.cell? ⟨S9, 2, none⟩ = some (.int .i64 o.atR) ∧ w'.cell? ⟨S9, 3, none⟩ = some (.int .i64 o.nodeN) ∧ w'.cell? ⟨S9, 4, none⟩ = some (.int .i64 o.nodeR) ∧ w'.cell? ⟨S9, 5, none⟩ = some (.int .i64 o.parN) ∧ w'.cell? ⟨S9, 6, none⟩ = some (.int .i64 o.parR) ∧ w'.cell? ⟨S9, 7, none⟩ = some (.slice a8 nK c8) ∧ w'.cell? ⟨S9, 8, none⟩ = some (.int .i64 o.elem) ∧ w'.cell? ⟨S9, 9, none⟩ = some (.slice b8 nN d8) ∧ w'.cell? ⟨S9, 10, none⟩ = some (.slice e8 nT f8) ∧ w'.cell? ⟨S9, 11, none⟩ = some (.bool o.gone))
    (first | exact ⟨by assumption, by assumption, by assumption, by assumption, by assumption, by assumption, by assumption, by assumption, by assumption, by assumption, by assumption, by assumption, by assumption, by assumption, by assumption, by assumption, by assumption, by assumption, by assumption, by assumption, by assumption, by assumption, by assumption, by assumption⟩ | simp [*])
    (first
      | (go_at_call 17; refine (unhide HTO _ hD13.drew).mono ?_; rintro e w14 ⟨a14, c14, b14, d14, e14, f14, rfl, ho14, hB14⟩; have hE14 := bstep ((Below.refl w13.heap.size w13).drew) hB14; have hD14 := unhide BS _ _ hD13 hE14; obtain ⟨x0, x1, x2, x3, x4, x5, x6, x7, x8, x9, x10, x11⟩ := (l6.all hE14).twelve; obtain ⟨y0, y1, y2, y3, y4, y5, y6, y7, y8, y9, y10, y11⟩ := (l9.all hE14).twelve)
      | (go_at_call 19; refine (eqOp_same _ _ _ o (ho8.keep hE14).rd ho14.rd).mono ?_; rintro e w15 ⟨rfl, hB15⟩; have hE15 := bstep hE14 hB15; have hD15 := unhide BS _ _ hD13 hE15; obtain ⟨x0, x1, x2, x3, x4, x5, x6, x7, x8, x9, x10, x11⟩ := (l6.all hE15).twelve; obtain ⟨y0, y1, y2, y3, y4, y5, y6, y7, y8, y9, y10, y11⟩ := (l9.all hE15).twelve))
  replace l6 := l6.all hE15
  replace hO6 := hO6.keep hE15
  replace hO7 := hO7.keep hE15
  replace l9 := l9.all hE15
  replace ho8 := ho8.keep hE15
  replace hO10 := hO10.keep hE15
  have z15 := hE15.size
  clear ho14 hB14 hE14 hD14 hB15 hE15 hD13 x0 x1 x2 x3 x4 x5 x6 x7 x8 x9 x10 x11 y0 y1 y2 y3 y4 y5 y6 y7 y8 y9 y10 y11
  go_wp2_with fail
  refine (markOs_any w15 _ l F7 1 hO7 hN7 hcl2 (by omega) (by omega)).mono ?_
  rintro e w16 ⟨rfl, _, hF⟩
  have hD16 : Below S w w16 := hD15.trans (hF.below (by have := hD15.size; omega) (fun q hq => by have := (hR7 q hq).1; omega))
  replace l6 := l6.frm hF (fun hm => by have := hR7 _ hm; omega)
  replace hO6 := OwOps.frm hO6 hF (fun g hg hm => by have := hR7 _ hm; have := hR6 _ hg; omega)
  replace l9 := l9.frm hF (fun hm => by have := hR7 _ hm; omega)
  replace ho8 := ho8.frmP hF (fun g hg hm => by have := hR7 _ hm; have := R8 _ hg; omega)
  replace hO10 := OwOps.frm hO10 hF (fun g hg hm => by have := hR7 _ hm; have := hR10 _ hg; omega)
  have z16 := hF.size
  clear hF hO7 hD15 hN7
  have hk1 : (0 : Int) ≤ 1 + ((cntOs l : Nat) : Int) := by omega
  have hk2 : 1 + ((cntOs l : Nat) : Int) ≤ 900000000 := by omega
  generalize 1 + ((cntOs l : Nat) : Int) = K at *
  obtain ⟨y0, y1, y2, y3, y4, y5, y6, y7, y8, y9, y10, y11⟩ := l9.twelve
  go_wp2_with fail
  clear y0 y1 y2 y3 y4 y5 y6 y7 y8 y9 y10 y11
  have HQ := hide (unhide HM w16 _ _ _ _ _ _ _ K ho8 hs2 hk1 hk2)
  refine (unhide HQ).mono ?_
  rintro e w17 ⟨rfl, _, hF⟩
  have hD17 : Below S w w17 := hD16.trans (hF.below (by have := hD16.size; omega) (fun q hq => by have := (R8 q hq).1; omega))
  replace l6 := l6.frm hF (fun hm => by have := R8 _ hm; omega)
  replace hO6 := OwOps.frm hO6 hF (fun g hg hm => by have := R8 _ hm; have := hR6 _ hg; omega)
  replace hO10 := OwOps.frm hO10 hF (fun g hg hm => by have := R8 _ hm; have := hR10 _ hg; omega)
  have z17 := hF.size
  clear hF ho8 hD16 HM HQ l9
  have hk3 : decide (K + (nK : Int) + (nN : Int) + (nT : Int) < 0) = false := by simp; omega
  go_wp2_with fail
  refine (eqOps_same w17 _ _ pv hO10.rd hO6.rd).mono ?_
  rintro e w18 ⟨rfl, hB⟩
  have hD18 := unhide BS _ _ hD17 hB
  replace l6 := l6.all hB
  replace hO6 := hO6.keep hB
  replace hO10 := hO10.keep hB
  have z18 := hB.size
  clear hB hD17
  go_wp2_with fail
  refine (markOs_any w18 _ pv F10 1 hO10 hN10 hpc (by omega) (by omega)).mono ?_
  rintro e w19 ⟨rfl, hO19, hF⟩
  have hD19 : Below S w w19 := hD18.trans (hF.below (by have := hD18.size; omega) (fun q hq => by have := (hR10 q hq).1; omega))
  replace l6 := l6.frm hF (fun hm => by have := hR10 _ hm; omega)
  replace hO6 := OwOps.frm hO6 hF (fun g hg hm => by have := hR10 _ hm; have := hR6 _ hg; omega)
  clear hF hO10 hD18
  have HH := hide (fun W (hW : Below w19.heap.size w19 W) => heldOs_any W _ pv 1 (hO19.rd.keep hW) hpc (by omega) (by omega))
  have hm1 : decide (1 + ((cntOs pv : Nat) : Int) < 0) = false := by simp; omega
  generalize 1 + ((cntOs pv : Nat) : Int) = M at *
  have hm2 : (M != M) = false := by simp
  have hm3 : (M == M) = true := by simp
  clear hO19
  go_wp2_with fail
  refine (unhide HH w19 (Below.refl _ _)).mono ?_
  rintro e w19 ⟨rfl, rfl⟩
  obtain ⟨x0, x1, x2, x3, x4, x5, x6, x7, x8, x9, x10, x11⟩ := l6.twelve
  go_wp2_with fail
  go_region_held3 (fun w' => w'.cell? ⟨S, 0, none⟩ = some (.int .i64 o.kind) ∧ w'.cell? ⟨S, 1, none⟩ = some (.int .i64 o.atN) ∧ w'.cell? ⟨S, 2, none⟩ = some (.int .i64 o.atR) ∧ w'.cell? ⟨S, 3, none⟩ = some (.int .i64 o.nodeN) ∧ w'.cell? ⟨S, 4, none⟩ = some (.int .i64 o.nodeR) ∧ w'.cell? ⟨S, 5, none⟩ = some (.int .i64 o.parN) ∧ w'.cell? ⟨S, 6, none⟩ = some (.int .i64 o.parR) ∧ w'.cell? ⟨S, 7, none⟩ = some (.slice a0 nK c0) ∧ w'.cell? ⟨S, 8, none⟩ = some (.int .i64 o.elem) ∧ w'.cell? ⟨S, 9, none⟩ = some (.slice b0 nN d0) ∧ w'.cell? ⟨S, 10, none⟩ = some (.slice e0 nT f0) ∧ w'.cell? ⟨S, 11, none⟩ = some (.bool o.gone))
    (first | exact ⟨by assumption, by assumption, by assumption, by assumption, by assumption, by assumption, by assumption, by assumption, by assumption, by assumption, by assumption, by assumption⟩ | simp [*])
    (first
      | (go_at_call 16; refine (unhide HT _ hD19.drew).mono ?_; rintro e w20 ⟨p20, u20, rfl, F20, hO20, _, _, hB20⟩; have hE20 := bstep ((Below.refl w19.heap.size w19).drew) hB20; have hD20 := unhide BS _ _ hD19 hE20; obtain ⟨x0, x1, x2, x3, x4, x5, x6, x7, x8, x9, x10, x11⟩ := (l6.all hE20).twelve)
      | (go_at_call 17; refine (unhide HTO _ hD20).mono ?_; rintro e w21 ⟨a21, c21, b21, d21, e21, f21, rfl, ho21, hB21⟩; have hE21 := bstep hE20 hB21; have hD21 := unhide BS _ _ hD19 hE21; obtain ⟨x0, x1, x2, x3, x4, x5, x6, x7, x8, x9, x10, x11⟩ := (l6.all hE21).twelve)
      | (go_at_call 10; refine (unhide HI _ _ _ (hO20.rd.keep hB21) ho21.rd).mono ?_; rintro e w22 ⟨r22, rfl, F22, hO22, _, _, hB22⟩; have hE22 := bstep hE21 hB22; have hD22 := unhide BS _ _ hD19 hE22; obtain ⟨x0, x1, x2, x3, x4, x5, x6, x7, x8, x9, x10, x11⟩ := (l6.all hE22).twelve))
  replace hO6 := hO6.keep hE22
  clear hO20 hB20 hE20 hD20 ho21 hB21 hE21 hD21 hB22 l6 x0 x1 x2 x3 x4 x5 x6 x7 x8 x9 x10 x11 HI HT HTO hD19
  go_wp2_with fail
  refine (eqOps_same w22 _ _ pv hO22.rd hO6.rd).mono ?_
  rintro e w23 ⟨rfl, hB⟩
  have hD23 := unhide BS _ _ hD22 hB
  replace hE22 := bstep hE22 hB
  clear hB hD22 hO22 hO6
  go_wp2_with fail
  refine (unhide HH w23 hE22).mono ?_
  rintro e w24 ⟨rfl, rfl⟩
  go_wp2_with fail
  go_ret
  exact ⟨rfl, by rw [hSS]; exact hD23⟩
end Go.Proofs.YtfhekoipnlmhoaaGreat

/- An argument of a law that can be read as data is a row of numbers, a stamp, an operation: what the data's readings open to. No condition. -/
namespace Go.Proofs.YtfhekoipnlmhoaaGreat
open Go.RowKit Go.ChangeShapes
set_option linter.unusedVariables false
set_option maxRecDepth 100000

variable {H : Type} {enc : TypeId × Value → H} {W : World} {held : Bool}

theorem open_bytesO {fuel : Nat} {cs : List Value} {x : DataW H × List MemPlace} (h : DataW.trod enc Tryz.prog W 0 (fun _ => true) held fuel 22 cs = some x) :
    ∃ v l, cs = [v] ∧ Byt W v l := by
  rcases open_ints Tryz.underlying22 Tryz.underlying5 (by kernel_rfl) h with ⟨hcs, _⟩ | ⟨a, len, cap, zs, hcs, _, hl, hm, hz, _, hcell, hwz⟩
  · exact ⟨_, _, hcs, byt_of_row (zs := []) (.inl ⟨rfl, rfl, rfl, rfl⟩)⟩
  · exact ⟨_, _, hcs, byt_of_row (.inr ⟨_, rfl, hl, hm, by simpa using hz, hcell, hwz⟩)⟩
theorem open_intsO {fuel : Nat} {cs : List Value} {x : DataW H × List MemPlace} (h : DataW.trod enc Tryz.prog W 0 (fun _ => true) held fuel 26 cs = some x) :
    ∃ v l, cs = [v] ∧ Ints W v l := by
  rcases open_ints Tryz.underlying26 Tryz.underlying3 (by kernel_rfl) h with ⟨hcs, _⟩ | ⟨a, len, cap, zs, hcs, _, hl, hm, hz, _, hcell, hwz⟩
  · exact ⟨_, _, hcs, ints_of_row (zs := []) (.inl ⟨rfl, rfl, rfl, rfl⟩)⟩
  · exact ⟨_, _, hcs, ints_of_row (.inr ⟨_, rfl, hl, hm, by simpa using hz, hcell, hwz⟩)⟩

theorem some_atO {α : Type} {l : List α} {n i : Nat} (h : l.length = n) (hi : i < n) : ∃ y, l[i]? = some y := ⟨l[i]'(by omega), List.getElem?_eq_getElem (by omega)⟩

/-- An argument that is a row of bytes. -/
theorem arg_bytesO {r : Reach} {base : Nat} {v : Value} {d : DataW H} {p : List MemPlace} (hv : Value.okWide Tryz.prog W r base 22 v) (h : DataW.Trod enc Tryz.prog W 0 (fun _ => true) held 22 v d p) : ∃ l, Byt W v l := by
  obtain ⟨a, len, cap, rfl⟩ := WideShapes.okWide_slice Tryz.underlying22 hv
  obtain ⟨fuel, hf⟩ := h
  obtain ⟨u, l, hu, hb⟩ := open_bytesO hf
  simp [Value.cells] at hu
  subst hu
  exact ⟨l, hb⟩
/-- An argument that is a row of numbers. -/
theorem arg_ints {r : Reach} {base : Nat} {v : Value} {d : DataW H} {p : List MemPlace} (hv : Value.okWide Tryz.prog W r base 26 v) (h : DataW.Trod enc Tryz.prog W 0 (fun _ => true) held 26 v d p) : ∃ l, Ints W v l := by
  obtain ⟨a, len, cap, rfl⟩ := WideShapes.okWide_slice Tryz.underlying26 hv
  obtain ⟨fuel, hf⟩ := h
  obtain ⟨u, l, hu, hb⟩ := open_intsO hf
  simp [Value.cells] at hu
  subst hu
  exact ⟨l, hb⟩

theorem open_id {fuel : Nat} {cs : List Value} {x : DataW H × List MemPlace} (h : DataW.trod enc Tryz.prog W 0 (fun _ => true) held fuel 39 cs = some x) : ∃ n r : Int, cs = [.int .i64 n, .int .i64 r] := by
  obtain ⟨xs, n, _, _, hlen, hxs, hf⟩ := DataW.trod_struct Tryz.underlying39 h
  have hlen2 : cs.length = 2 := hlen.trans (by kernel_rfl)
  match cs, hlen2 with
  | [c0, c1], _ =>
    obtain ⟨y0, e0⟩ := some_atO (i := 0) hxs (by simp)
    obtain ⟨y1, e1⟩ := some_atO (i := 1) hxs (by simp)
    have h0 : DataW.trod enc Tryz.prog W 0 (fun _ => true) held n 3 (([c0, c1].drop 0).take (Tryz.prog.cellsOf 3)) = some y0 := (hf 0 _ rfl).trans e0
    have h1 : DataW.trod enc Tryz.prog W 0 (fun _ => true) held n 3 (([c0, c1].drop 1).take (Tryz.prog.cellsOf 3)) = some y1 := (hf 1 _ rfl).trans e1
    have k1 : Tryz.prog.cellsOf 3 = 1 := by kernel_rfl
    simp only [k1, List.drop, List.take] at h0 h1
    obtain ⟨z0, g0, _, _⟩ := DataW.trod_int Tryz.underlying3 h0
    obtain ⟨z1, g1, _, _⟩ := DataW.trod_int Tryz.underlying3 h1
    simp at g0 g1
    subst g0; subst g1
    exact ⟨z0, z1, rfl⟩
/-- An argument that is a stamp. -/
theorem arg_id {r : Reach} {base : Nat} {v : Value} {x : DataW H} {p : List MemPlace} (hv : Value.okWide Tryz.prog W r base 39 v) (h : DataW.Trod enc Tryz.prog W 0 (fun _ => true) held 39 v x p) :
    ∃ n m : Int, v = .agg #[.int .i64 n, .int .i64 m] := by
  obtain ⟨cs, rfl, hsz⟩ := WideShapes.okWide_struct Tryz.underlying39 hv
  obtain ⟨fuel, hf⟩ := h
  obtain ⟨n, m, e⟩ := open_id hf
  refine ⟨n, m, ?_⟩
  obtain ⟨l⟩ := cs
  have e' : l = [.int .i64 n, .int .i64 m] := e
  rw [e']
end Go.Proofs.YtfhekoipnlmhoaaGreat

/- An argument of a law that can be read as data is an operation: what the data's reading opens to. No condition. -/
namespace Go.Proofs.YtfhekoipnlmhoaaGreat
open Go.RowKit Go.ChangeShapes
set_option linter.unusedVariables false
set_option maxRecDepth 100000

variable {H : Type} {enc : TypeId × Value → H} {W : World} {held : Bool}

theorem open_op {fuel : Nat} {cs : List Value} {x : DataW H × List MemPlace} (h : DataW.trod enc Tryz.prog W 0 (fun _ => true) held fuel 41 cs = some x) : ∃ o, RdOp W (.agg cs.toArray) o := by
  obtain ⟨xs, n, _, _, hlen, hxs, hf⟩ := DataW.trod_struct Tryz.underlying41 h
  have hlen2 : cs.length = 12 := hlen.trans (by kernel_rfl)
  match cs, hlen2 with
  | [c0, c1, c2, c3, c4, c5, c6, c7, c8, c9, c10, c11], _ =>
    obtain ⟨y0, e0⟩ := some_atO (i := 0) hxs (by simp)
    obtain ⟨y1, e1⟩ := some_atO (i := 1) hxs (by simp)
    obtain ⟨y2, e2⟩ := some_atO (i := 2) hxs (by simp)
    obtain ⟨y3, e3⟩ := some_atO (i := 3) hxs (by simp)
    obtain ⟨y4, e4⟩ := some_atO (i := 4) hxs (by simp)
    obtain ⟨y5, e5⟩ := some_atO (i := 5) hxs (by simp)
    obtain ⟨y6, e6⟩ := some_atO (i := 6) hxs (by simp)
    obtain ⟨y7, e7⟩ := some_atO (i := 7) hxs (by simp)
    obtain ⟨y8, e8⟩ := some_atO (i := 8) hxs (by simp)
    have h0 : DataW.trod enc Tryz.prog W 0 (fun _ => true) held n 3 (([c0, c1, c2, c3, c4, c5, c6, c7, c8, c9, c10, c11].drop 0).take (Tryz.prog.cellsOf 3)) = some y0 := (hf 0 _ rfl).trans e0
    have h1 : DataW.trod enc Tryz.prog W 0 (fun _ => true) held n 39 (([c0, c1, c2, c3, c4, c5, c6, c7, c8, c9, c10, c11].drop 1).take (Tryz.prog.cellsOf 39)) = some y1 := (hf 1 _ rfl).trans e1
    have h2 : DataW.trod enc Tryz.prog W 0 (fun _ => true) held n 39 (([c0, c1, c2, c3, c4, c5, c6, c7, c8, c9, c10, c11].drop 3).take (Tryz.prog.cellsOf 39)) = some y2 := (hf 2 _ rfl).trans e2
    have h3 : DataW.trod enc Tryz.prog W 0 (fun _ => true) held n 39 (([c0, c1, c2, c3, c4, c5, c6, c7, c8, c9, c10, c11].drop 5).take (Tryz.prog.cellsOf 39)) = some y3 := (hf 3 _ rfl).trans e3
    have h4 : DataW.trod enc Tryz.prog W 0 (fun _ => true) held n 26 (([c0, c1, c2, c3, c4, c5, c6, c7, c8, c9, c10, c11].drop 7).take (Tryz.prog.cellsOf 26)) = some y4 := (hf 4 _ rfl).trans e4
    have h5 : DataW.trod enc Tryz.prog W 0 (fun _ => true) held n 3 (([c0, c1, c2, c3, c4, c5, c6, c7, c8, c9, c10, c11].drop 8).take (Tryz.prog.cellsOf 3)) = some y5 := (hf 5 _ rfl).trans e5
    have h6 : DataW.trod enc Tryz.prog W 0 (fun _ => true) held n 22 (([c0, c1, c2, c3, c4, c5, c6, c7, c8, c9, c10, c11].drop 9).take (Tryz.prog.cellsOf 22)) = some y6 := (hf 6 _ rfl).trans e6
    have h7 : DataW.trod enc Tryz.prog W 0 (fun _ => true) held n 22 (([c0, c1, c2, c3, c4, c5, c6, c7, c8, c9, c10, c11].drop 10).take (Tryz.prog.cellsOf 22)) = some y7 := (hf 7 _ rfl).trans e7
    have h8 : DataW.trod enc Tryz.prog W 0 (fun _ => true) held n 4 (([c0, c1, c2, c3, c4, c5, c6, c7, c8, c9, c10, c11].drop 11).take (Tryz.prog.cellsOf 4)) = some y8 := (hf 8 _ rfl).trans e8
    have ki : Tryz.prog.cellsOf 3 = 1 := by kernel_rfl
    have k1 : Tryz.prog.cellsOf 22 = 1 := by kernel_rfl
    have k2 : Tryz.prog.cellsOf 26 = 1 := by kernel_rfl
    have k3 : Tryz.prog.cellsOf 39 = 2 := by kernel_rfl
    have k4 : Tryz.prog.cellsOf 4 = 1 := by kernel_rfl
    simp only [ki, k1, k2, k3, k4, List.drop, List.take] at h0 h1 h2 h3 h4 h5 h6 h7 h8
    obtain ⟨z0, g0, _, _⟩ := DataW.trod_int Tryz.underlying3 h0
    obtain ⟨z1, z2, g1⟩ := open_id h1
    obtain ⟨z3, z4, g2⟩ := open_id h2
    obtain ⟨z5, z6, g3⟩ := open_id h3
    obtain ⟨v7, l7, g4, b7⟩ := open_intsO h4
    obtain ⟨z8, g5, _, _⟩ := DataW.trod_int Tryz.underlying3 h5
    obtain ⟨v9, l9, g6, b9⟩ := open_bytesO h6
    obtain ⟨v10, l10, g7, b10⟩ := open_bytesO h7
    obtain ⟨z11, g8, _⟩ := DataW.trod_bool Tryz.underlying4 h8
    simp at g0 g1 g2 g3 g4 g5 g6 g7 g8
    obtain ⟨rfl, rfl⟩ := g1
    obtain ⟨rfl, rfl⟩ := g2
    obtain ⟨rfl, rfl⟩ := g3
    subst g0; subst g4; subst g5; subst g6; subst g7; subst g8
    exact ⟨⟨z0, z1, z2, z3, z4, z5, z6, l7, z8, l9, l10, z11⟩, _, _, _, rfl, b7, b9, b10⟩
/-- An argument that is an operation. -/
theorem arg_op {r : Reach} {base : Nat} {v : Value} {x : DataW H} {p : List MemPlace} (hv : Value.okWide Tryz.prog W r base 41 v) (h : DataW.Trod enc Tryz.prog W 0 (fun _ => true) held 41 v x p) :
    ∃ o, RdOp W v o := by
  obtain ⟨cs, rfl, hsz⟩ := WideShapes.okWide_struct Tryz.underlying41 hv
  obtain ⟨fuel, hf⟩ := h
  obtain ⟨l⟩ := cs
  exact open_op hf
end Go.Proofs.YtfhekoipnlmhoaaGreat

/- A row of data that can be read: its elements one by one. No condition. -/
namespace Go.Proofs.YtfhekoipnlmhoaaGreat
open Go.RowKit Go.ChangeShapes
set_option linter.unusedVariables false
set_option maxRecDepth 100000

variable {H : Type} {enc : TypeId × Value → H} {W : World} {held : Bool}

theorem list_of {α : Type} {Q : Nat → α → Prop} : ∀ n : Nat, (∀ i, i < n → ∃ a, Q i a) → ∃ l : List α, l.length = n ∧ ∀ i (hi : i < l.length), Q i l[i]
  | 0, _ => ⟨[], rfl, fun i hi => by cases hi⟩
  | n + 1, h => by
    obtain ⟨l, hl, hq⟩ := list_of n (fun i hi => h i (by omega))
    obtain ⟨a, ha⟩ := h n (by omega)
    refine ⟨l ++ [a], by simp [hl], fun i hi => ?_⟩
    by_cases hi' : i < l.length
    · rw [List.getElem_append_left hi']; exact hq i hi'
    · have : i = l.length := by simp at hi; omega
      subst this
      simp only [List.getElem_append_right (Nat.le_refl _), Nat.sub_self, List.getElem_cons_zero]
      rw [hl]; exact ha

theorem open_elems {α : Type} {t e : TypeId} {sz fuel : Nat} {cs : List Value} {x : DataW H × List MemPlace} {R : List Value → α → Prop} (ht : Tryz.prog.underlying t = some (.slice e)) (hc : Tryz.prog.cellsOf e = sz) (hs : 0 < sz)
    (hR : ∀ n C y, fuel = n + 1 → DataW.trod enc Tryz.prog W 0 (fun _ => true) held n e C = some y → ∃ a : α, R C a)
    (h : DataW.trod enc Tryz.prog W 0 (fun _ => true) held fuel t cs = some x) : ∃ v l, cs = [v] ∧ Elems W sz v l R := by
  rcases DataW.trod_slice ht h with ⟨rfl, _⟩ | ⟨a, len, cap, elems, rest, n, hf, rfl, _, _, hl, hm, hlen, hel, _, _⟩
  · exact ⟨_, [], rfl, by simp [maxLen], .inl ⟨rfl, rfl⟩⟩
  rw [hc] at hel
  have hall : ∀ i, i < len → ∃ b : α, ∃ C : List Value, C.length = sz ∧ (∀ j, j < sz → W.cell? ((a.add (i * sz)).add j) = C[j]?) ∧ R C b := by
    intro i hi
    have h1 := hel i hi
    rw [List.getElem?_eq_getElem (by omega)] at h1
    obtain ⟨C, hC, hy⟩ := Option.bind_eq_some_iff.1 h1
    obtain ⟨_, hCl, hcell⟩ := World.cells?_some hC
    obtain ⟨b, hb⟩ := hR n C _ hf hy
    exact ⟨b, C, hCl, hcell, hb⟩
  obtain ⟨l, hll, hq⟩ := list_of (Q := fun i b => ∃ C : List Value, C.length = sz ∧ (∀ j, j < sz → W.cell? ((a.add (i * sz)).add j) = C[j]?) ∧ R C b) len hall
  refine ⟨_, l, rfl, by omega, ?_⟩
  by_cases h0 : len = 0
  · have hl0 : l = [] := List.eq_nil_of_length_eq_zero (by omega)
    subst h0
    exact .inr (.inl ⟨a, cap, rfl, hm, hl0⟩)
  · obtain ⟨b, off, spot⟩ := a
    obtain ⟨C, hCl, hcell, _⟩ := hq 0 (by omega)
    have hc0 := hcell 0 hs
    rw [List.getElem?_eq_getElem (by omega)] at hc0
    have hspot : spot = none := by simpa [Addr.add] using World.cell?_spot hc0
    subst hspot
    refine .inr (.inr ⟨b, off, cap, by rw [hll], by omega, hm, fun h => by subst h; simp at hll; omega, ?_, fun i hi => ?_⟩)
    · have := lt_of_cell hc0; simpa [Addr.add] using this
    · obtain ⟨C, hCl, hcell, hr⟩ := hq i hi
      refine ⟨C, hCl, fun j hj => ?_, hr⟩
      have := hcell j hj
      rw [add_plain, add_plain] at this
      exact this

end Go.Proofs.YtfhekoipnlmhoaaGreat

/- An argument of a law that can be read as data is a row of operations. No condition. -/
namespace Go.Proofs.YtfhekoipnlmhoaaGreat
open Go.RowKit Go.ChangeShapes
set_option linter.unusedVariables false
set_option maxRecDepth 100000

variable {H : Type} {enc : TypeId × Value → H} {W : World} {held : Bool}

theorem opc_of {C : List Value} {o : OpV} (h : RdOp W (.agg C.toArray) o) : RdOpC W C o := by
  obtain ⟨k, n, t, e, h1, h2, h3⟩ := h
  refine ⟨k, n, t, ?_, h1, h2, h3⟩
  unfold opVal at e
  have e1 := Value.agg.inj e
  have e2 := congrArg Array.toList e1
  simpa using e2
/-- An argument that is a row of operations. -/
theorem arg_ops {r : Reach} {base : Nat} {v : Value} {d : DataW H} {p : List MemPlace} (hv : Value.okWide Tryz.prog W r base 38 v) (h : DataW.Trod enc Tryz.prog W 0 (fun _ => true) held 38 v d p) : ∃ l, RdOps W v l := by
  obtain ⟨a, len, cap, rfl⟩ := WideShapes.okWide_slice Tryz.underlying38 hv
  obtain ⟨fuel, hf⟩ := h
  obtain ⟨u, l, hu, hb⟩ := open_elems (sz := 12) (R := RdOpC W) Tryz.underlying38 (by kernel_rfl) (by omega) (fun n C y _ hy => (open_op hy).imp fun o ho => opc_of ho) hf
  simp [Value.cells] at hu
  subst hu
  exact ⟨l, hb⟩
end Go.Proofs.YtfhekoipnlmhoaaGreat
