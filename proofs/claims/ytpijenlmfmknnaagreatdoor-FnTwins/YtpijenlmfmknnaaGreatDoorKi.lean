/- Own texts joined: TwC, TwP, TwA, TwEh, TwEi, TwEj, FoWg, TwB, TwF, TwZ, TwN, AtB, Same, LTwins, BaseZ, OpenO. -/
import Derived.Test.YtpijenlmfmknnaaGreatDoorKa
import Derived.Test.YtpijenlmfmknnaaGreatDoorKb
import Derived.Test.YtpijenlmfmknnaaGreatDoorKc
import Derived.Test.YtpijenlmfmknnaaGreatDoorKd
import Derived.Test.YtpijenlmfmknnaaGreatDoorKe
import Derived.Test.YtpijenlmfmknnaaGreatDoorKf
import Derived.Test.YtpijenlmfmknnaaGreatDoorKg
import Derived.Test.YtpijenlmfmknnaaGreatDoorKh
import Derived.Laws.EntriesVeiled
import Derived.StillTailTactics
import Derived.Deep.Cut
import Derived.WalkMore
import Derived.Test.YtpijenlmfmknnaaGreatDoorChecked
import Derived.Deep.RegionHeld3
import Derived.Test.YtpijenlmfmknnaaGreatDoorProg
import Derived.ChangeArms
import Derived.ChangeSlices
import Derived.WideShapes

/- A call that the reckoner knows, as a contract. -/
namespace Go.Proofs.YtpijenlmfmknnaaGreatDoor
open Go.RowKit
set_option linter.unusedVariables false
set_option maxRecDepth 100000

theorem go_step {k k' : List (Nat × Obj)} {f : Nat} {vs : List Value} {T : List (Nat × Nat)} {u : Value} (h : StepOk k f vs T k' u) {fn : Func} {c : Code} (hf : Tryz.prog.funcs[f]? = some fn) (hb : fn.body = some c) {w0 w : World} {B : Nat} {W R : Value} {vs' : List Value}
    (H : St k w0 B W R w) (hvs : ∀ ρ, VL ρ (.pointer (some ⟨20, 0, none⟩)) W → LR (VL ρ) vs vs') : Calls Tryz.prog f ⟨vs'⟩ w fun e w' => ∃ v, e = .returned v ∧ St k' w0 B W R w' ∧ ∃ ρ, VL ρ u v := by
  have hw := step_st rk_ok h H hvs
  rw [enter_run noGo hf hb] at hw
  exact hw
theorem St.below {k : List (Nat × Obj)} {w0 w : World} {B : Nat} {W R : Value} (H : St k w0 B W R w) : Below B w0 w := by
  obtain ⟨ρ, H, _⟩ := H
  exact H.below
theorem St.ptr {k : List (Nat × Obj)} {w0 w : World} {B : Nat} {W R : Value} (H : St k w0 B W R w) : ∃ a, W = .pointer (some a) := by
  obtain ⟨ρ, _, h, _, _⟩ := H
  obtain ⟨_, p, _, e⟩ := VL.ptr.1 h
  exact ⟨_, e⟩
theorem acts_is {ρ : Rn} {f g : Nat} {v : Value} (h : VL ρ (.agg ⟨[.func (.func f) ⟨[]⟩ ⟨[]⟩, .func (.func g) ⟨[]⟩ ⟨[]⟩]⟩) v) : v = .agg #[.func (.func f) #[] #[], .func (.func g) #[] #[]] := by
  obtain ⟨l', rfl, x, t, rfl, hx, y, t2, rfl, hy, ht⟩ := VL.agg.1 h
  obtain ⟨_, a, b, rfl, ha, hb⟩ := VL.func.1 hx
  obtain ⟨_, a2, b2, rfl, ha2, hb2⟩ := VL.func.1 hy
  have ha : a = [] := ha
  have hb : b = [] := hb
  have ha2 : a2 = [] := ha2
  have hb2 : b2 = [] := hb2
  have ht : t2 = [] := ht
  subst ha hb ha2 hb2 ht
  rfl
/-- A call that needs nothing of memory. -/
def rnE : Rn := fun g => if g < 16 then some ⟨g, 0, 2, 1, 0⟩ else none
def hpE : Hp := ⟨tmk13 none, 16, 0, 0⟩
theorem empty_hr (w : World) : HR w w.heap.size rnE hpE.f w := by
  have hn : ∀ id, hpE.f id = none := fun id => by
    unfold Hp.f
    split
    · exact tget13_mk _ _
    · rfl
  exact ⟨.refl _ _, Nat.le_refl _, (fun id o h => by rw [hn] at h; cases h), (fun i j oi oj pi pj hij hi hj ei ej => by rw [hn] at hi; cases hi), (fun id o p h h16 => by rw [hn] at h; cases h), fun g hg => ⟨_, if_pos hg, rfl, rfl⟩⟩
def ClosedOk (f : Nat) (vs : List Value) (u : Value) : Prop := (match call Tryz.prog hooks2 hookB 3000 f vs hpE with
  | some (v, s) => eqV 3 v u && Nat.ble 16 s.n
  | none => false) = true
theorem go_closed {f : Nat} {vs vs' : List Value} {u : Value} (h : ClosedOk f vs u) {fn : Func} {c : Code} (hf : Tryz.prog.funcs[f]? = some fn) (hb : fn.body = some c) (w : World) (hvs : LR (VL rnE) vs vs') : Calls Tryz.prog f ⟨vs'⟩ w fun e w' => ∃ v, e = .returned v ∧ Below w.heap.size w w' ∧ ∃ ρ, VL ρ u v := by
  unfold ClosedOk at h
  split at h
  · rename_i v s heq
    rw [Bool.and_eq_true] at h
    have h1 := eqV_eq _ _ _ h.1
    subst h1
    have hw := rk_ok f vs hpE s v heq w w.heap.size rnE w vs' (empty_hr w) hvs (fun id h1 h2 => by
      have h1 : 16 ≤ id := h1
      unfold rnE
      rw [if_neg (by omega)])
    rw [enter_run noGo hf hb] at hw
    have hw : Calls Tryz.prog f ⟨vs'⟩ w _ := hw
    refine Calls.mono hw ?_
    rintro e w' ⟨v', rfl, ρ', H', hE, hv⟩
    exact ⟨v', rfl, H'.below, ρ', hv⟩
  · cases h
end Go.Proofs.YtpijenlmfmknnaaGreatDoor

/- An action of the twins' net is played: one of the states comes out of one of them. -/
namespace Go.Proofs.YtpijenlmfmknnaaGreatDoor
open Go.RowKit
set_option linter.unusedVariables false
set_option maxRecDepth 100000

theorem actOf1 (w : World) : Calls Tryz.prog 32 #[.int .i64 1] w fun e w' => e = .returned (.agg #[.func (.func 46) #[] #[], .func (.func 47) #[] #[]]) ∧ Below w.heap.size w w' := by
  have h : ClosedOk 32 [.int .i64 (.ofNat 1)] (.agg ⟨[.func (.func 46) ⟨[]⟩ ⟨[]⟩, .func (.func 47) ⟨[]⟩ ⟨[]⟩]⟩) := by
    unfold ClosedOk
    kernel_rfl
  refine Calls.mono (go_closed h Tryz.func32 rfl w ⟨_, [], rfl, VL.int.2 rfl, rfl⟩) ?_
  rintro e w' ⟨v, rfl, hB, ρ, hv⟩
  exact ⟨by rw [acts_is hv], hB⟩
theorem actOf2 (w : World) : Calls Tryz.prog 32 #[.int .i64 2] w fun e w' => e = .returned (.agg #[.func (.func 46) #[] #[], .func (.func 48) #[] #[]]) ∧ Below w.heap.size w w' := by
  have h : ClosedOk 32 [.int .i64 (.ofNat 2)] (.agg ⟨[.func (.func 46) ⟨[]⟩ ⟨[]⟩, .func (.func 48) ⟨[]⟩ ⟨[]⟩]⟩) := by
    unfold ClosedOk
    kernel_rfl
  refine Calls.mono (go_closed h Tryz.func32 rfl w ⟨_, [], rfl, VL.int.2 rfl, rfl⟩) ?_
  rintro e w' ⟨v, rfl, hB, ρ, hv⟩
  exact ⟨by rw [acts_is hv], hB⟩
theorem actOf3 (w : World) : Calls Tryz.prog 32 #[.int .i64 3] w fun e w' => e = .returned (.agg #[.func (.func 46) #[] #[], .func (.func 49) #[] #[]]) ∧ Below w.heap.size w w' := by
  have h : ClosedOk 32 [.int .i64 (.ofNat 3)] (.agg ⟨[.func (.func 46) ⟨[]⟩ ⟨[]⟩, .func (.func 49) ⟨[]⟩ ⟨[]⟩]⟩) := by
    unfold ClosedOk
    kernel_rfl
  refine Calls.mono (go_closed h Tryz.func32 rfl w ⟨_, [], rfl, VL.int.2 rfl, rfl⟩) ?_
  rintro e w' ⟨v, rfl, hB, ρ, hv⟩
  exact ⟨by rw [acts_is hv], hB⟩
theorem count_any (w : World) (b o : Nat) (a : Option Addr) (n c : Nat) (hc : w.cell? ⟨b, o + 2, none⟩ = some (.slice a n c)) : Calls Tryz.prog 46 #[.pointer (some ⟨b, o, none⟩)] w fun e w' => e = .returned (.int .i64 n) ∧ w' = w := by
  go_enter Tryz.func46, Tryz.ntmps46
  go_wp2
  go_ret
  exact ⟨rfl, rfl⟩
theorem st_net {x : List (Nat × Obj) × Nat} (hx : x ∈ twS) {w0 w : World} {B : Nat} {W R : Value} (H : St x.1 w0 B W R w) : ∃ b o a c, W = .pointer (some ⟨b, o, none⟩) ∧ w.cell? ⟨b, o + 2, none⟩ = some (.slice a x.2 c) := by
  have hn := List.all_eq_true.1 net_all x hx
  obtain ⟨ρ, H, hW, _, _⟩ := H
  unfold netOk at hn
  split at hn
  · rename_i l T fl h20
    split at hn
    · rename_i n' a' c' hl
      have hn := Nat.eq_of_beq_eq_true hn
      subst hn
      have hf : (hpS x.1).f 20 = some (.cells ⟨l⟩ T fl) := by
        unfold Hp.f
        rw [if_pos (by omega)]
        exact h20
      obtain ⟨p, h1, h2, h3, h4, c2, el', fz, h5, h6, h7, h8⟩ := H.obj _ _ hf
      obtain ⟨v', e1, e2⟩ := h8 2 _ (by simpa using hl)
      obtain ⟨_, p', q1, q2⟩ := VL.ptr.1 hW
      rw [h1] at q1
      cases q1
      obtain ⟨_, _, p2, _, a2, c3, rfl, _⟩ := VL.slice.1 e2
      refine ⟨p.blk, p.off, some a2, c3, ?_, ?_⟩
      · rw [q2]; rfl
      · rw [cell_at h5]; exact e1
    · cases hn
  · cases hn
theorem St.size {k : List (Nat × Obj)} {w0 w : World} {B : Nat} {W R : Value} (H : St k w0 B W R w) : B ≤ w.heap.size := by
  obtain ⟨ρ, H, _⟩ := H
  exact Nat.le_trans H.base H.below.size
theorem St.grow {k : List (Nat × Obj)} {w0 w w' : World} {B : Nat} {W R : Value} (H : St k w0 B W R w) (hB : Below w.heap.size w w') : St k w0 B W R w' := H.later (H.below.trans (hB.mono H.size)) hB.block
theorem ac_rel {ρ : Rn} (K A : Int) : VL ρ (acV K A) (acV K A) := by
  unfold acV
  exact (plain1_iff rfl).2 rfl
theorem tw_few : ∀ x ∈ twS, x.2 = 0 ∨ x.2 = 1 ∨ x.2 = 2 := by
  have h : (twS.all fun x => Nat.ble x.2 2) = true := by kernel_rfl
  intro x hx
  have := Nat.le_of_ble_eq_true (List.all_eq_true.1 h x hx)
  omega
theorem do_deliver {x : List (Nat × Obj) × Nat} (hx : x ∈ twS) {w0 w : World} {B : Nat} {W R : Value} (K A : Int) (i : Nat) (hi : i < x.2) (H : St x.1 w0 B W R w) : Calls Tryz.prog 47 #[W, .int .i64 i, acV K A] w fun e w' => (∃ v, e = .returned v) ∧ ∃ y ∈ twS, St y.1 w0 B W R w' := by
  obtain ⟨T, y, hy, hs⟩ := tw_go47 K A x hx i hi
  refine Calls.mono (go_step hs Tryz.func47 rfl H fun ρ hW => ⟨W, _, rfl, hW, _, _, rfl, VL.int.2 rfl, _, [], rfl, ac_rel K A, rfl⟩) ?_
  rintro e w' ⟨v, rfl, H', _⟩
  exact ⟨⟨v, rfl⟩, y, hy, H'⟩
set_option maxHeartbeats 1600000 in
theorem play_1 {x : List (Nat × Obj) × Nat} (hx : x ∈ twS) (w0 w : World) (B : Nat) (W R : Value) (A : Int) (hA : 0 ≤ A) (hA2 : A ≤ 255) (H : St x.1 w0 B W R w) : Calls Tryz.prog 23 #[W, acV 1 A] w fun e w' => (∃ v, e = .returned v) ∧ ∃ y ∈ twS, St y.1 w0 B W R w' := by
  obtain ⟨b, o, a, c, rfl, hc⟩ := st_net hx H
  have hb := lt_of_cell hc
  have HS := hide H
  clear H
  unfold acV
  go_enter Tryz.func23, Tryz.ntmps23
  go_wp2_with fail
  refine (actOf1 _).mono ?_
  rintro e w2 ⟨rfl, hB2⟩
  have hbs : (w.alloc (.cells (⟨[.int .i64 1, .int .i64 A, .int .i64 0, .int .i64 0, .int .i64 0, .int .i64 0, .int .i64 0, .int .i64 0, .int .i64 0, .int .i64 0, .slice none 0 0, .slice none 0 0, .bool false]⟩ : Array Value) 36)).heap.size = w.heap.size + 1 := by simp
  have hB1 : Below w.heap.size w w2 := ((Below.refl w.heap.size w).alloc (Nat.le_refl _) _).trans (hB2.mono (by omega))
  have hbox : ∀ j, w2.cell? ⟨w.heap.size, j, none⟩ = (⟨[.int .i64 1, .int .i64 A, .int .i64 0, .int .i64 0, .int .i64 0, .int .i64 0, .int .i64 0, .int .i64 0, .int .i64 0, .int .i64 0, .slice none 0 0, .slice none 0 0, .bool false]⟩ : Array Value)[j]? := fun j => by
    rw [hB2.cell (p := ⟨w.heap.size, j, none⟩) (by rw [hbs]; exact Nat.lt_succ_self _)]
    simp
  have hlt : w.heap.size < w2.heap.size := by have := hB2.size; omega
  have hc2 := (hB1.cell (p := ⟨b, o + 2, none⟩) hb).trans hc
  have hb2 : b < w2.heap.size := by omega
  have HS2 := hide ((unhide HS).grow hB1)
  clear hB2 HS hc hbs hB1 hb
  go_wp2_with fail
  refine (count_any _ b o a x.2 c ?_).mono ?_
  · rw [World.cell?_of_block (w := w2) (Below.heap_alloc w2 _ b hb2)]; exact hc2
  rintro e w3 ⟨rfl, rfl⟩
  have hm := tw_few x hx
  have f1 : (w2.alloc (.cells #[.func (.func 46) #[] #[], .func (.func 47) #[] #[]] 102)).drew.cell? ⟨w2.heap.size, 1, none⟩ = some (.func (.func 47) #[] #[]) := by simp
  have f2 : ∀ j v, (⟨[.int .i64 1, .int .i64 A, .int .i64 0, .int .i64 0, .int .i64 0, .int .i64 0, .int .i64 0, .int .i64 0, .int .i64 0, .int .i64 0, .slice none 0 0, .slice none 0 0, .bool false]⟩ : Array Value)[j]? = some v → (w2.alloc (.cells #[.func (.func 46) #[] #[], .func (.func 47) #[] #[]] 102)).drew.cell? ⟨w.heap.size, j, none⟩ = some v := fun j v hj => by
    show World.cell? (w2.alloc _) ⟨w.heap.size, j, none⟩ = _
    rw [World.cell?_of_block (w := w2) (Below.heap_alloc w2 _ w.heap.size hlt), hbox j, hj]
  have HS3 := hide ((unhide HS2).grow ((Below.refl w2.heap.size w2).alloc (Nat.le_refl _) (.cells #[.func (.func 46) #[] #[], .func (.func 47) #[] #[]] 102)))
  generalize (w2.alloc (.cells #[.func (.func 46) #[] #[], .func (.func 47) #[] #[]] 102)) = w4 at *
  have HS4 := hide ((unhide HS3).grow (Below.refl w4.heap.size w4).drew)
  have g0 := f2 0 _ rfl
  have g1 := f2 1 _ rfl
  have g2 := f2 2 _ rfl
  have g3 := f2 3 _ rfl
  have g4 := f2 4 _ rfl
  have g5 := f2 5 _ rfl
  have g6 := f2 6 _ rfl
  have g7 := f2 7 _ rfl
  have g8 := f2 8 _ rfl
  have g9 := f2 9 _ rfl
  have g10 := f2 10 _ rfl
  have g11 := f2 11 _ rfl
  have g12 := f2 12 _ rfl
  clear f2 hbox hc2 HS2
  rcases hm with hm | hm | hm
  · rw [hm]
    go_wp2_with fail
    go_end0
    exact ⟨⟨_, rfl⟩, x, hx, unhide HS3⟩
  · have HD := hide (do_deliver hx 1 A 0 (by omega) (unhide HS4))
    unfold acV at HD
    clear HS3 HS4
    rw [hm]
    go_upto_region 4 with fail
    go_still_tail 8, rfl
    go_wp2_with fail
    refine (unhide HD).mono ?_
    rintro e w5 ⟨⟨v, rfl⟩, HY⟩
    clear HD
    go_wp2_with fail
    go_end0
    exact ⟨⟨_, rfl⟩, HY⟩
  · have HD := hide (do_deliver hx 1 A (A % 2).toNat (by omega) (unhide HS4))
    unfold acV at HD
    rw [show (((A % 2).toNat : Nat) : Int) = A % 2 by omega] at HD
    clear HS3 HS4
    rw [hm]
    go_upto_region 4 with fail
    go_still_tail 8, rfl
    go_wp2_with fail
    refine (unhide HD).mono ?_
    rintro e w5 ⟨⟨v, rfl⟩, HY⟩
    clear HD
    go_wp2_with fail
    go_end0
    exact ⟨⟨_, rfl⟩, HY⟩
theorem do_double {x : List (Nat × Obj) × Nat} (hx : x ∈ twS) {w0 w : World} {B : Nat} {W R : Value} (K A : Int) (i : Nat) (hi : i < x.2) (H : St x.1 w0 B W R w) : Calls Tryz.prog 48 #[W, .int .i64 i, acV K A] w fun e w' => (∃ v, e = .returned v) ∧ ∃ y ∈ twS, St y.1 w0 B W R w' := by
  obtain ⟨T, y, hy, hs⟩ := tw_go48 K A x hx i hi
  refine Calls.mono (go_step hs Tryz.func48 rfl H fun ρ hW => ⟨W, _, rfl, hW, _, _, rfl, VL.int.2 rfl, _, [], rfl, ac_rel K A, rfl⟩) ?_
  rintro e w' ⟨v, rfl, H', _⟩
  exact ⟨⟨v, rfl⟩, y, hy, H'⟩
set_option maxHeartbeats 1600000 in
theorem play_2 {x : List (Nat × Obj) × Nat} (hx : x ∈ twS) (w0 w : World) (B : Nat) (W R : Value) (A : Int) (hA : 0 ≤ A) (hA2 : A ≤ 255) (H : St x.1 w0 B W R w) : Calls Tryz.prog 23 #[W, acV 2 A] w fun e w' => (∃ v, e = .returned v) ∧ ∃ y ∈ twS, St y.1 w0 B W R w' := by
  obtain ⟨b, o, a, c, rfl, hc⟩ := st_net hx H
  have hb := lt_of_cell hc
  have HS := hide H
  clear H
  unfold acV
  go_enter Tryz.func23, Tryz.ntmps23
  go_wp2_with fail
  refine (actOf2 _).mono ?_
  rintro e w2 ⟨rfl, hB2⟩
  have hbs : (w.alloc (.cells (⟨[.int .i64 2, .int .i64 A, .int .i64 0, .int .i64 0, .int .i64 0, .int .i64 0, .int .i64 0, .int .i64 0, .int .i64 0, .int .i64 0, .slice none 0 0, .slice none 0 0, .bool false]⟩ : Array Value) 36)).heap.size = w.heap.size + 1 := by simp
  have hB1 : Below w.heap.size w w2 := ((Below.refl w.heap.size w).alloc (Nat.le_refl _) _).trans (hB2.mono (by omega))
  have hbox : ∀ j, w2.cell? ⟨w.heap.size, j, none⟩ = (⟨[.int .i64 2, .int .i64 A, .int .i64 0, .int .i64 0, .int .i64 0, .int .i64 0, .int .i64 0, .int .i64 0, .int .i64 0, .int .i64 0, .slice none 0 0, .slice none 0 0, .bool false]⟩ : Array Value)[j]? := fun j => by
    rw [hB2.cell (p := ⟨w.heap.size, j, none⟩) (by rw [hbs]; exact Nat.lt_succ_self _)]
    simp
  have hlt : w.heap.size < w2.heap.size := by have := hB2.size; omega
  have hc2 := (hB1.cell (p := ⟨b, o + 2, none⟩) hb).trans hc
  have hb2 : b < w2.heap.size := by omega
  have HS2 := hide ((unhide HS).grow hB1)
  clear hB2 HS hc hbs hB1 hb
  go_wp2_with fail
  refine (count_any _ b o a x.2 c ?_).mono ?_
  · rw [World.cell?_of_block (w := w2) (Below.heap_alloc w2 _ b hb2)]; exact hc2
  rintro e w3 ⟨rfl, rfl⟩
  have hm := tw_few x hx
  have f1 : (w2.alloc (.cells #[.func (.func 46) #[] #[], .func (.func 48) #[] #[]] 102)).drew.cell? ⟨w2.heap.size, 1, none⟩ = some (.func (.func 48) #[] #[]) := by simp
  have f2 : ∀ j v, (⟨[.int .i64 2, .int .i64 A, .int .i64 0, .int .i64 0, .int .i64 0, .int .i64 0, .int .i64 0, .int .i64 0, .int .i64 0, .int .i64 0, .slice none 0 0, .slice none 0 0, .bool false]⟩ : Array Value)[j]? = some v → (w2.alloc (.cells #[.func (.func 46) #[] #[], .func (.func 48) #[] #[]] 102)).drew.cell? ⟨w.heap.size, j, none⟩ = some v := fun j v hj => by
    show World.cell? (w2.alloc _) ⟨w.heap.size, j, none⟩ = _
    rw [World.cell?_of_block (w := w2) (Below.heap_alloc w2 _ w.heap.size hlt), hbox j, hj]
  have HS3 := hide ((unhide HS2).grow ((Below.refl w2.heap.size w2).alloc (Nat.le_refl _) (.cells #[.func (.func 46) #[] #[], .func (.func 48) #[] #[]] 102)))
  generalize (w2.alloc (.cells #[.func (.func 46) #[] #[], .func (.func 48) #[] #[]] 102)) = w4 at *
  have HS4 := hide ((unhide HS3).grow (Below.refl w4.heap.size w4).drew)
  have g0 := f2 0 _ rfl
  have g1 := f2 1 _ rfl
  have g2 := f2 2 _ rfl
  have g3 := f2 3 _ rfl
  have g4 := f2 4 _ rfl
  have g5 := f2 5 _ rfl
  have g6 := f2 6 _ rfl
  have g7 := f2 7 _ rfl
  have g8 := f2 8 _ rfl
  have g9 := f2 9 _ rfl
  have g10 := f2 10 _ rfl
  have g11 := f2 11 _ rfl
  have g12 := f2 12 _ rfl
  clear f2 hbox hc2 HS2
  rcases hm with hm | hm | hm
  · rw [hm]
    go_wp2_with fail
    go_end0
    exact ⟨⟨_, rfl⟩, x, hx, unhide HS3⟩
  · have HD := hide (do_double hx 2 A 0 (by omega) (unhide HS4))
    unfold acV at HD
    clear HS3 HS4
    rw [hm]
    go_upto_region 4 with fail
    go_still_tail 8, rfl
    go_wp2_with fail
    refine (unhide HD).mono ?_
    rintro e w5 ⟨⟨v, rfl⟩, HY⟩
    clear HD
    go_wp2_with fail
    go_end0
    exact ⟨⟨_, rfl⟩, HY⟩
  · have HD := hide (do_double hx 2 A (A % 2).toNat (by omega) (unhide HS4))
    unfold acV at HD
    rw [show (((A % 2).toNat : Nat) : Int) = A % 2 by omega] at HD
    clear HS3 HS4
    rw [hm]
    go_upto_region 4 with fail
    go_still_tail 8, rfl
    go_wp2_with fail
    refine (unhide HD).mono ?_
    rintro e w5 ⟨⟨v, rfl⟩, HY⟩
    clear HD
    go_wp2_with fail
    go_end0
    exact ⟨⟨_, rfl⟩, HY⟩
theorem do_drop {x : List (Nat × Obj) × Nat} (hx : x ∈ twS) {w0 w : World} {B : Nat} {W R : Value} (K A : Int) (i : Nat) (hi : i < x.2) (H : St x.1 w0 B W R w) : Calls Tryz.prog 49 #[W, .int .i64 i, acV K A] w fun e w' => (∃ v, e = .returned v) ∧ ∃ y ∈ twS, St y.1 w0 B W R w' := by
  obtain ⟨T, y, hy, hs⟩ := tw_go49 K A x hx i hi
  refine Calls.mono (go_step hs Tryz.func49 rfl H fun ρ hW => ⟨W, _, rfl, hW, _, _, rfl, VL.int.2 rfl, _, [], rfl, ac_rel K A, rfl⟩) ?_
  rintro e w' ⟨v, rfl, H', _⟩
  exact ⟨⟨v, rfl⟩, y, hy, H'⟩
set_option maxHeartbeats 1600000 in
theorem play_3 {x : List (Nat × Obj) × Nat} (hx : x ∈ twS) (w0 w : World) (B : Nat) (W R : Value) (A : Int) (hA : 0 ≤ A) (hA2 : A ≤ 255) (H : St x.1 w0 B W R w) : Calls Tryz.prog 23 #[W, acV 3 A] w fun e w' => (∃ v, e = .returned v) ∧ ∃ y ∈ twS, St y.1 w0 B W R w' := by
  obtain ⟨b, o, a, c, rfl, hc⟩ := st_net hx H
  have hb := lt_of_cell hc
  have HS := hide H
  clear H
  unfold acV
  go_enter Tryz.func23, Tryz.ntmps23
  go_wp2_with fail
  refine (actOf3 _).mono ?_
  rintro e w2 ⟨rfl, hB2⟩
  have hbs : (w.alloc (.cells (⟨[.int .i64 3, .int .i64 A, .int .i64 0, .int .i64 0, .int .i64 0, .int .i64 0, .int .i64 0, .int .i64 0, .int .i64 0, .int .i64 0, .slice none 0 0, .slice none 0 0, .bool false]⟩ : Array Value) 36)).heap.size = w.heap.size + 1 := by simp
  have hB1 : Below w.heap.size w w2 := ((Below.refl w.heap.size w).alloc (Nat.le_refl _) _).trans (hB2.mono (by omega))
  have hbox : ∀ j, w2.cell? ⟨w.heap.size, j, none⟩ = (⟨[.int .i64 3, .int .i64 A, .int .i64 0, .int .i64 0, .int .i64 0, .int .i64 0, .int .i64 0, .int .i64 0, .int .i64 0, .int .i64 0, .slice none 0 0, .slice none 0 0, .bool false]⟩ : Array Value)[j]? := fun j => by
    rw [hB2.cell (p := ⟨w.heap.size, j, none⟩) (by rw [hbs]; exact Nat.lt_succ_self _)]
    simp
  have hlt : w.heap.size < w2.heap.size := by have := hB2.size; omega
  have hc2 := (hB1.cell (p := ⟨b, o + 2, none⟩) hb).trans hc
  have hb2 : b < w2.heap.size := by omega
  have HS2 := hide ((unhide HS).grow hB1)
  clear hB2 HS hc hbs hB1 hb
  go_wp2_with fail
  refine (count_any _ b o a x.2 c ?_).mono ?_
  · rw [World.cell?_of_block (w := w2) (Below.heap_alloc w2 _ b hb2)]; exact hc2
  rintro e w3 ⟨rfl, rfl⟩
  have hm := tw_few x hx
  have f1 : (w2.alloc (.cells #[.func (.func 46) #[] #[], .func (.func 49) #[] #[]] 102)).drew.cell? ⟨w2.heap.size, 1, none⟩ = some (.func (.func 49) #[] #[]) := by simp
  have f2 : ∀ j v, (⟨[.int .i64 3, .int .i64 A, .int .i64 0, .int .i64 0, .int .i64 0, .int .i64 0, .int .i64 0, .int .i64 0, .int .i64 0, .int .i64 0, .slice none 0 0, .slice none 0 0, .bool false]⟩ : Array Value)[j]? = some v → (w2.alloc (.cells #[.func (.func 46) #[] #[], .func (.func 49) #[] #[]] 102)).drew.cell? ⟨w.heap.size, j, none⟩ = some v := fun j v hj => by
    show World.cell? (w2.alloc _) ⟨w.heap.size, j, none⟩ = _
    rw [World.cell?_of_block (w := w2) (Below.heap_alloc w2 _ w.heap.size hlt), hbox j, hj]
  have HS3 := hide ((unhide HS2).grow ((Below.refl w2.heap.size w2).alloc (Nat.le_refl _) (.cells #[.func (.func 46) #[] #[], .func (.func 49) #[] #[]] 102)))
  generalize (w2.alloc (.cells #[.func (.func 46) #[] #[], .func (.func 49) #[] #[]] 102)) = w4 at *
  have HS4 := hide ((unhide HS3).grow (Below.refl w4.heap.size w4).drew)
  have g0 := f2 0 _ rfl
  have g1 := f2 1 _ rfl
  have g2 := f2 2 _ rfl
  have g3 := f2 3 _ rfl
  have g4 := f2 4 _ rfl
  have g5 := f2 5 _ rfl
  have g6 := f2 6 _ rfl
  have g7 := f2 7 _ rfl
  have g8 := f2 8 _ rfl
  have g9 := f2 9 _ rfl
  have g10 := f2 10 _ rfl
  have g11 := f2 11 _ rfl
  have g12 := f2 12 _ rfl
  clear f2 hbox hc2 HS2
  rcases hm with hm | hm | hm
  · rw [hm]
    go_wp2_with fail
    go_end0
    exact ⟨⟨_, rfl⟩, x, hx, unhide HS3⟩
  · have HD := hide (do_drop hx 3 A 0 (by omega) (unhide HS4))
    unfold acV at HD
    clear HS3 HS4
    rw [hm]
    go_upto_region 4 with fail
    go_still_tail 8, rfl
    go_wp2_with fail
    refine (unhide HD).mono ?_
    rintro e w5 ⟨⟨v, rfl⟩, HY⟩
    clear HD
    go_wp2_with fail
    go_end0
    exact ⟨⟨_, rfl⟩, HY⟩
  · have HD := hide (do_drop hx 3 A (A % 2).toNat (by omega) (unhide HS4))
    unfold acV at HD
    rw [show (((A % 2).toNat : Nat) : Int) = A % 2 by omega] at HD
    clear HS3 HS4
    rw [hm]
    go_upto_region 4 with fail
    go_still_tail 8, rfl
    go_wp2_with fail
    refine (unhide HD).mono ?_
    rintro e w5 ⟨⟨v, rfl⟩, HY⟩
    clear HD
    go_wp2_with fail
    go_end0
    exact ⟨⟨_, rfl⟩, HY⟩
end Go.Proofs.YtpijenlmfmknnaaGreatDoor

/- The twins' script may be: impl.ActionOk, impl.scriptOk at it. -/
namespace Go.Proofs.YtpijenlmfmknnaaGreatDoor
open Go.RowKit
set_option linter.unusedVariables false
set_option maxRecDepth 100000

/-- An action of ten numbers. -/
def acW (k : Nat → Int) : Value := .agg #[.int .i64 (k 0), .int .i64 (k 1), .int .i64 (k 2), .int .i64 (k 3), .int .i64 (k 4), .int .i64 (k 5), .int .i64 (k 6), .int .i64 (k 7), .int .i64 (k 8), .int .i64 (k 9), .slice none 0 0, .slice none 0 0, .bool false]
/-- n actions lie at the head of block g. -/
def Scr (w : World) (g n : Nat) (F : Nat → Nat → Int) : Prop := ∀ j, j < n → (∀ i, i < 10 → w.cell? ⟨g, j * 13 + i, none⟩ = some (.int .i64 (F j i))) ∧ w.cell? ⟨g, j * 13 + 10, none⟩ = some (.slice none 0 0) ∧ w.cell? ⟨g, j * 13 + 11, none⟩ = some (.slice none 0 0) ∧ w.cell? ⟨g, j * 13 + 12, none⟩ = some (.bool false)
theorem Scr.keep {w w' : World} {g n : Nat} {F : Nat → Nat → Int} (h : Scr w g n F) {B : Nat} (hB : Below B w w') (hg : g < B) : Scr w' g n F := fun j hj => by
  obtain ⟨h1, h2, h3, h4⟩ := h j hj
  exact ⟨fun i hi => (hB.cell hg).trans (h1 i hi), (hB.cell hg).trans h2, (hB.cell hg).trans h3, (hB.cell hg).trans h4⟩
/-- An action that may be. -/
def OkA (k : Nat → Int) : Prop := ∀ w : World, Calls Tryz.prog 30 #[acW k] w fun e w' => e = .returned (.bool true) ∧ Below w.heap.size w w'
def edA (a x y : Int) : Nat → Int := fun i => match i with
  | 1 => a
  | 3 => 1
  | 5 => x
  | 7 => y
  | _ => 0
def drA (K A : Int) : Nat → Int := fun i => match i with
  | 0 => K
  | 1 => A
  | _ => 0
theorem ok_closed {vs : Value} (h : ClosedOk 30 [vs] (.bool true)) (hp : ∀ ρ, VL ρ vs vs) (w : World) : Calls Tryz.prog 30 #[vs] w fun e w' => e = .returned (.bool true) ∧ Below w.heap.size w w' := by
  refine Calls.mono (go_closed h Tryz.func30 rfl w ⟨_, [], rfl, hp _, rfl⟩) ?_
  rintro e w' ⟨v, rfl, hB, ρ, hv⟩
  exact ⟨by rw [VL.bool.1 hv], hB⟩
theorem ok_ed0 : OkA (edA 0 2 3) := fun w => by
  refine ok_closed (vs := acW (edA 0 2 3)) ?_ (fun ρ => (plain1_iff rfl).2 rfl) w
  unfold ClosedOk
  kernel_rfl
theorem ok_ed1 : OkA (edA 1 3 2) := fun w => by
  refine ok_closed (vs := acW (edA 1 3 2)) ?_ (fun ρ => (plain1_iff rfl).2 rfl) w
  unfold ClosedOk
  kernel_rfl
set_option maxHeartbeats 1600000 in
theorem ok_dr (K A : Int) (hK : K = 1 ∨ K = 2 ∨ K = 3) (hA : 0 ≤ A) (hA2 : A ≤ 255) : OkA (drA K A) := fun w => by
  have hA' : (A < 0) = False := by simp; omega
  have HB := hide (Below.refl w.heap.size w)
  unfold acW drA
  rcases hK with rfl | rfl | rfl
  all_goals
    go_enter Tryz.func30, Tryz.ntmps30
    go_wp2
    go_ret
    exact ⟨rfl, ((Below.refl _ _).alloc (Nat.le_refl _) _).alloc (by simp) _⟩
set_option maxHeartbeats 3200000 in
theorem script_ok (w : World) (g c : Nat) (F : Nat → Nat → Int) (h : Scr w g 8 F) (hc : 8 ≤ c) (hc2 : c ≤ maxLen) (hok : ∀ j, j < 8 → OkA (F j)) :
    Calls Tryz.prog 21 #[.slice (some ⟨g, 0, none⟩) 8 c] w fun e w' => e = .returned (.bool true) ∧ Below w.heap.size w w' := by
  have hg : g < w.heap.size := lt_of_cell ((h 0 (by omega)).2.1)
  unfold maxLen at hc2
  go_enter Tryz.func21, Tryz.ntmps21
  go_wp2_with fail
  go_loopw [4, 10] (fun _ i wr => ∃ k : Nat, k ≤ 8 ∧ i = .int .i64 k ∧ Below w.heap.size w wr) (fun _ i _ => 8 - (intOf i).toNat)
  case atStart => exact ⟨0, Nat.zero_le _, rfl, Below.refl _ _⟩
  case round =>
    obtain ⟨k, hk, rfl, hB⟩ := hrel
    by_cases hlt : k < 8
    · obtain ⟨h1, c10, c11, c12⟩ := h.keep hB hg k hlt
      have c0 : wr.cell? ⟨g, k * 13, none⟩ = _ := h1 0 (by omega)
      have c1 := h1 1 (by omega)
      have c2 := h1 2 (by omega)
      have c3 := h1 3 (by omega)
      have c4 := h1 4 (by omega)
      have c5 := h1 5 (by omega)
      have c6 := h1 6 (by omega)
      have c7 := h1 7 (by omega)
      have c8 := h1 8 (by omega)
      have c9 := h1 9 (by omega)
      have hlt' : (k : Int) < 8 := by omega
      have hk0 : (0 : Int) ≤ (k : Int) := by omega
      have HO := hide (hok k hlt)
      unfold OkA acW at HO
      have HB := hide hB
      have hs : w.heap.size ≤ wr.heap.size := hB.size
      generalize F k 0 = k0 at *
      generalize F k 1 = k1 at *
      generalize F k 2 = k2 at *
      generalize F k 3 = k3 at *
      generalize F k 4 = k4 at *
      generalize F k 5 = k5 at *
      generalize F k 6 = k6 at *
      generalize F k 7 = k7 at *
      generalize F k 8 = k8 at *
      generalize F k 9 = k9 at *
      clear h1 h hok hB
      go_wp2_with fail
      refine (unhide HO _).mono ?_
      rintro e w3 ⟨rfl, hB3⟩
      have HB3 := hide (((unhide HB).alloc hs _).trans (hB3.mono (by simp; omega)))
      clear HB hB3 HO
      go_wp2_with fail
      go_roundw
      case rel => exact ⟨k + 1, by omega, by go_num, unhide HB3⟩
      case measure => simp [intOf]; omega
    · have hlt' : ¬ ((k : Int) < 8) := by omega
      clear h hok
      go_wp2_with fail
      go_ret
      exact ⟨rfl, hB⟩
end Go.Proofs.YtpijenlmfmknnaaGreatDoor

/- The two moves. -/
namespace Go.Proofs.YtpijenlmfmknnaaGreatDoor
open Go.RowKit
set_option linter.unusedVariables false
set_option maxRecDepth 1000000
theorem tsE0 : StepOk tsA 23 [wP, .agg ⟨[.int .i64 (.ofNat 0), .int .i64 (.ofNat 0), .int .i64 (.ofNat 0), .int .i64 (.ofNat 1), .int .i64 (.ofNat 0), .int .i64 (.ofNat 2), .int .i64 (.ofNat 0), .int .i64 (.ofNat 3), .int .i64 (.ofNat 0), .int .i64 (.ofNat 0), .slice none 0 0, .slice none 0 0, .bool false]⟩] [(22, 614), (23, 555), (24, 434), (25, 455), (26, 544), (27, 24), (28, 25), (29, 611), (30, 442), (31, 452), (32, 542), (33, 28), (34, 29)] tsB unV := by
  unfold StepOk
  kernel_rfl
theorem tsE1 : StepOk tsB 23 [wP, .agg ⟨[.int .i64 (.ofNat 0), .int .i64 (.ofNat 1), .int .i64 (.ofNat 0), .int .i64 (.ofNat 1), .int .i64 (.ofNat 0), .int .i64 (.ofNat 3), .int .i64 (.ofNat 0), .int .i64 (.ofNat 2), .int .i64 (.ofNat 0), .int .i64 (.ofNat 0), .slice none 0 0, .slice none 0 0, .bool false]⟩] [(22, 614), (23, 555), (27, 434), (28, 455), (29, 544), (30, 29), (31, 611), (32, 30), (33, 31), (34, 32), (35, 442), (36, 452), (37, 542)] ts0 unV := by
  unfold StepOk
  kernel_rfl
end Go.Proofs.YtpijenlmfmknnaaGreatDoor

/- The text becomes a tree, and the tree a world. -/
namespace Go.Proofs.YtpijenlmfmknnaaGreatDoor
open Go.RowKit
set_option linter.unusedVariables false
set_option maxRecDepth 1000000
def tbA : List (Nat × Nat) := [(20, 436), (21, 510), (22, 449), (23, 470), (24, 486), (25, 507), (26, 457), (27, 467), (28, 494), (29, 504)]
def hpT : Hp := ⟨storeT [(0, .cells ⟨[.int .i64 (.ofNat 0), .int .i64 (.ofNat 0)]⟩ 0 (0, 0)), (1, .cells ⟨[.int .i64 (.ofNat 0), .int .i64 (.ofNat 1)]⟩ 0 (0, 0)), (390, .cells ⟨[.bool false, .slice none 0 0, .slice none 0 0, .slice none 0 0, .int .i64 (.ofNat 0)]⟩ 42 (0, 0)), (20, .cells ⟨[.int .u8 (.ofNat 60), .int .u8 (.ofNat 112), .int .u8 (.ofNat 62), .int .u8 (.ofNat 60), .int .u8 (.ofNat 47), .int .u8 (.ofNat 112), .int .u8 (.ofNat 62), .int .u8 (.ofNat 60), .int .u8 (.ofNat 98), .int .u8 (.ofNat 62), .int .u8 (.ofNat 60), .int .u8 (.ofNat 47), .int .u8 (.ofNat 98), .int .u8 (.ofNat 62)]⟩ 5 (0, 0))] (tmk13 none), 400, 0, 0⟩
/-- A tree of two elements, and that there is one. -/
def isFirst (v : Value) : Bool := match v with
  | .tuple ⟨[.agg ⟨[.int .i64 (.ofNat 0), .slice (some _) 4 _, .slice none 0 0, .slice none 0 0, .slice (some _) 2 _]⟩, .bool true]⟩ => true
  | _ => false
def firstOf (v : Value) : Value := match v with
  | .tuple ⟨[x, _]⟩ => x
  | _ => unV
def startOk (E : Callee') : Bool := match E 20 [.slice (some ⟨20, 0, none⟩) 14 14] hpT with
  | some (v, s1) => isFirst v && (match E 22 [.int .i64 (.ofNat 2), firstOf v] s1 with
    | some (u, s2) => ((eqV 3 u (.pointer (some ⟨436, 0, none⟩)) && (Nat.ble 400 s1.n && Nat.ble s1.n s2.n)) && goesTo tbA tsA s2)
    | none => false)
  | none => false
theorem start_run : startOk (call Tryz.prog hooks2 hookB 3000) = true := by decide +kernel
end Go.Proofs.YtpijenlmfmknnaaGreatDoor

/- What the world comes to. -/
namespace Go.Proofs.YtpijenlmfmknnaaGreatDoor
open Go.RowKit
set_option linter.unusedVariables false
set_option maxRecDepth 1000000
def endL : List (Nat × Obj) := [(1013, .cells ⟨[.slice (some ⟨705, 0, none⟩) 27 27, .slice (some ⟨1011, 0, none⟩) 27 27]⟩ 22 (1, 1)),
  (705, .cells ⟨[.int .u8 (.ofNat 60), .int .u8 (.ofNat 98), .int .u8 (.ofNat 111), .int .u8 (.ofNat 100), .int .u8 (.ofNat 121), .int .u8 (.ofNat 62), .int .u8 (.ofNat 60), .int .u8 (.ofNat 98), .int .u8 (.ofNat 62), .int .u8 (.ofNat 60), .int .u8 (.ofNat 112), .int .u8 (.ofNat 62), .int .u8 (.ofNat 60), .int .u8 (.ofNat 47), .int .u8 (.ofNat 112), .int .u8 (.ofNat 62), .int .u8 (.ofNat 60), .int .u8 (.ofNat 47), .int .u8 (.ofNat 98), .int .u8 (.ofNat 62), .int .u8 (.ofNat 60), .int .u8 (.ofNat 47), .int .u8 (.ofNat 98), .int .u8 (.ofNat 111), .int .u8 (.ofNat 100), .int .u8 (.ofNat 121), .int .u8 (.ofNat 62)]⟩ 5 (1, 1)),
  (1011, .cells ⟨[.int .u8 (.ofNat 60), .int .u8 (.ofNat 98), .int .u8 (.ofNat 111), .int .u8 (.ofNat 100), .int .u8 (.ofNat 121), .int .u8 (.ofNat 62), .int .u8 (.ofNat 60), .int .u8 (.ofNat 98), .int .u8 (.ofNat 62), .int .u8 (.ofNat 60), .int .u8 (.ofNat 112), .int .u8 (.ofNat 62), .int .u8 (.ofNat 60), .int .u8 (.ofNat 47), .int .u8 (.ofNat 112), .int .u8 (.ofNat 62), .int .u8 (.ofNat 60), .int .u8 (.ofNat 47), .int .u8 (.ofNat 98), .int .u8 (.ofNat 62), .int .u8 (.ofNat 60), .int .u8 (.ofNat 47), .int .u8 (.ofNat 98), .int .u8 (.ofNat 111), .int .u8 (.ofNat 100), .int .u8 (.ofNat 121), .int .u8 (.ofNat 62)]⟩ 5 (1, 1)),
  (390, .cells ⟨[.bool false, .slice none 0 0, .slice none 0 0, .slice none 0 0, .int .i64 (.ofNat 0)]⟩ 42 (0, 0))]
def endOk (E : Callee') : Bool := match E 25 [wP] (hpS tsF) with
  | some (v, s) => eqV 3 v (.agg ⟨[.bool true, .slice (some ⟨23, 0, none⟩) 2 2, .slice (some ⟨21, 0, none⟩) 2 2, .slice (some ⟨1013, 0, none⟩) 2 2, .int .i64 (.ofNat 0)]⟩) && preOk s endL
  | none => false
theorem end_run : endOk (call Tryz.prog hooks2 hookB 3000) = true := by decide +kernel
end Go.Proofs.YtpijenlmfmknnaaGreatDoor

/- The two package variables. -/
namespace Go.Proofs.YtpijenlmfmknnaaGreatDoor
open Go.RowKit
set_option linter.unusedVariables false

/-- The two package variables. -/
def Glo (w : World) : Prop := w.cell? ⟨0, 0, none⟩ = some (.int .i64 0) ∧ w.cell? ⟨0, 1, none⟩ = some (.int .i64 0) ∧ w.cell? ⟨1, 0, none⟩ = some (.int .i64 0) ∧ w.cell? ⟨1, 1, none⟩ = some (.int .i64 1)
theorem Glo.frm {w w' : World} {S : List Nat} (h : Glo w) (f : Frm w w' S) (hS : ∀ q ∈ S, 2 ≤ q) : Glo w' := by
  have hc : ∀ b j v, b < 2 → w.cell? ⟨b, j, none⟩ = some v → w'.cell? ⟨b, j, none⟩ = some v := fun b j v hb hv => (World.cell?_of_block (f.block b (lt_of_cell hv) (fun e => by have := hS b e; omega))).trans hv
  exact ⟨hc 0 0 _ (by omega) h.1, hc 0 1 _ (by omega) h.2.1, hc 1 0 _ (by omega) h.2.2.1, hc 1 1 _ (by omega) h.2.2.2⟩
theorem Glo.keep {w w' : World} (h : Glo w) (hb : Below w.heap.size w w') : Glo w' := h.frm (Frm.ofBelow hb []) (fun q hq => by cases hq)
end Go.Proofs.YtpijenlmfmknnaaGreatDoor

/- How the twins' net begins and ends: the text becomes a tree, the tree a world; the world settled becomes documents. -/
namespace Go.Proofs.YtpijenlmfmknnaaGreatDoor
open Go.RowKit
set_option linter.unusedVariables false
set_option maxRecDepth 100000

/-- A tree is told, of which the reckoner makes a world. -/
def Bd (v : Value) (w0 : World) (B : Nat) (R : Value) (w : World) : Prop := ∃ ρ s1 s2 f0, HR w0 B ρ s1.f w ∧ VL ρ f0 v ∧ VL ρ (.pointer (some ⟨390, 0, none⟩)) R ∧ (∀ id, s1.n ≤ id → ρ id = none) ∧ call Tryz.prog hooks2 hookB 3000 22 [.int .i64 (.ofNat 2), f0] s1 = some (.pointer (some ⟨gS tbA 20, 0, none⟩), s2) ∧ s1.n ≤ s2.n ∧ goesTo tbA tsA s2 = true
theorem Bd.later {v : Value} {w0 w w' : World} {B : Nat} {R : Value} (H : Bd v w0 B R w) (hb : Below B w0 w') (hs : ∀ b, b < w.heap.size → w'.heap[b]? = w.heap[b]?) : Bd v w0 B R w' := by
  obtain ⟨ρ, s1, s2, f0, H, h⟩ := H
  exact ⟨ρ, s1, s2, f0, H.later hb hs, h⟩
theorem Bd.grow {v : Value} {w0 w w' : World} {B : Nat} {R : Value} (H : Bd v w0 B R w) (hB : Below w.heap.size w w') : Bd v w0 B R w' := by
  obtain ⟨ρ, s1, s2, f0, H1, h⟩ := H
  exact ⟨ρ, s1, s2, f0, H1.later (H1.below.trans (hB.mono (Nat.le_trans H1.base H1.below.size))) hB.block, h⟩
theorem tbA_20 : gS tbA 20 = 436 := by kernel_rfl
theorem isFirst_is {v : Value} (h : isFirst v = true) : ∃ p c q d, v = .tuple ⟨[.agg ⟨[.int .i64 (.ofNat 0), .slice (some p) 4 c, .slice none 0 0, .slice none 0 0, .slice (some q) 2 d]⟩, .bool true]⟩ := by
  unfold isFirst at h
  split at h
  · exact ⟨_, _, _, _, rfl⟩
  · cases h
theorem build_tw {w0 w : World} {B : Nat} {ρ : Rn} {R t' : Value} (H : HR w0 B ρ hpT.f w) (hfr : ∀ id, 400 ≤ id → ρ id = none) (hR : VL ρ (.pointer (some ⟨390, 0, none⟩)) R) (ht : VL ρ (.slice (some ⟨20, 0, none⟩) 14 14) t') :
    Calls Tryz.prog 20 #[t'] w fun e w' => ∃ p c q d, e = .returned (.tuple #[.agg #[.int .i64 0, .slice (some p) 4 c, .slice none 0 0, .slice none 0 0, .slice (some q) 2 d], .bool true]) ∧ Bd (.agg #[.int .i64 0, .slice (some p) 4 c, .slice none 0 0, .slice none 0 0, .slice (some q) 2 d]) w0 B R w' := by
  have h := start_run
  unfold startOk at h
  split at h
  · rename_i v s1 heq
    rw [Bool.and_eq_true] at h
    obtain ⟨h1, h2⟩ := h
    obtain ⟨p, c, q, d, rfl⟩ := isFirst_is h1
    split at h2
    · rename_i u s2 heq2
      simp only [Bool.and_eq_true] at h2
      obtain ⟨⟨k1, k2, k3⟩, k4⟩ := h2
      have k1 := eqV_eq _ _ _ k1
      have k2 := Nat.le_of_ble_eq_true k2
      have k3 := Nat.le_of_ble_eq_true k3
      subst k1
      have hw := rk_ok _ _ hpT s1 _ heq w0 B ρ w [t'] H ⟨_, [], rfl, ht, rfl⟩ (fun id h1 h2 => hfr id h1)
      rw [enter_run noGo Tryz.func20 rfl] at hw
      have hw : Calls Tryz.prog 20 ⟨[t']⟩ w _ := hw
      refine Calls.mono hw ?_
      rintro e w' ⟨v', rfl, ρ', H', hE, hv⟩
      obtain ⟨l', rfl, x, l2, rfl, hx, y, l3, rfl, hy, hl⟩ := VL.tuple.1 hv
      have hl : l3 = [] := hl
      subst hl
      obtain ⟨l', rfl, x0, m1, rfl, e0, x1, m2, rfl, e1, x2, m3, rfl, e2, x3, m4, rfl, e3, x4, m5, rfl, e4, hm⟩ := VL.agg.1 hx
      have hm : m5 = [] := hm
      subst hm
      have hx0 := VL.int.1 e0
      have hx2 := (VL.nils.1 e2).2.2
      have hx3 := (VL.nils.1 e3).2.2
      have hy0 := VL.bool.1 hy
      obtain ⟨_, _, _, _, a1, c1, hx1, _⟩ := VL.slice.1 e1
      obtain ⟨_, _, _, _, a4, c4, hx4, _⟩ := VL.slice.1 e4
      subst hx0 hx1 hx2 hx3 hx4 hy0
      refine ⟨a1, c1, a4, c4, rfl, ρ', s1, s2, _, H', hx, hR.grow hE.le, fun id hid => ?_, by rw [tbA_20]; exact heq2, k3, k4⟩
      have k2' : (400 : Nat) ≤ s1.n := k2
      rw [hE.out id (by show ¬ (400 ≤ id ∧ id < s1.n); omega)]
      exact hfr id (by omega)
    · cases h2
  · cases h
theorem world_tw {v : Value} {w0 w : World} {B : Nat} {R : Value} (H : Bd v w0 B R w) : Calls Tryz.prog 22 #[.int .i64 2, v] w fun e w' => ∃ a, e = .returned (.pointer (some a)) ∧ St tsA w0 B (.pointer (some a)) R w' := by
  obtain ⟨ρ, s1, s2, f0, H, hv, hR, hfr, heq, hn, hgo⟩ := H
  have hw := rk_ok _ _ s1 s2 _ heq w0 B ρ w [.int .i64 2, v] H ⟨_, _, rfl, VL.int.2 rfl, _, [], rfl, hv, rfl⟩ (fun id h1 h2 => hfr id h1)
  rw [enter_run noGo Tryz.func22 rfl] at hw
  have hw : Calls Tryz.prog 22 ⟨[.int .i64 2, v]⟩ w _ := hw
  refine Calls.mono hw ?_
  rintro e w' ⟨v', rfl, ρ', H', hE, hv'⟩
  obtain ⟨H2, hfr2⟩ := H'.into (fun id hid => by
    rw [hE.out id (by omega)]
    exact hfr id (by omega)) hgo
  obtain ⟨_, p, e1, rfl⟩ := VL.ptr.1 hv'
  refine ⟨_, rfl, _, H2, ptr_there hv' (fun p hp => hp), ptr_there (hR.grow hE.le) (fun p hp => ?_), hfr2⟩
  show ρ' (gS tbA 390) = _
  rw [show gS tbA 390 = 390 by kernel_rfl]
  exact hp
end Go.Proofs.YtpijenlmfmknnaaGreatDoor

/- The store that the twins' net begins with, and what it ends with, in memory. -/
namespace Go.Proofs.YtpijenlmfmknnaaGreatDoor
open Go.RowKit
set_option linter.unusedVariables false
set_option maxRecDepth 100000

def txtC : List Value := [.int .u8 60, .int .u8 112, .int .u8 62, .int .u8 60, .int .u8 47, .int .u8 112, .int .u8 62, .int .u8 60, .int .u8 98, .int .u8 62, .int .u8 60, .int .u8 47, .int .u8 98, .int .u8 62]
def resC : List Value := [.bool false, .slice none 0 0, .slice none 0 0, .slice none 0 0, .int .i64 0]
def docL : List Int := [60, 98, 111, 100, 121, 62, 60, 98, 62, 60, 112, 62, 60, 47, 112, 62, 60, 47, 98, 62, 60, 47, 98, 111, 100, 121, 62]
def rnT (t r : Nat) : Rn := fun id => if id < 16 then some ⟨id, 0, 2, 1, 0⟩ else if id = 20 then some ⟨t, 0, 14, 1, 0⟩ else if id = 390 then some ⟨r, 0, 5, 1, 0⟩ else none
theorem two_glo {w : World} {g : Nat} {a b : Value} (h0 : w.cell? ⟨g, 0, none⟩ = some a) (h1 : w.cell? ⟨g, 1, none⟩ = some b) : ∃ c' el' fz, w.heap[g]? = some (.cells c' el' fz) ∧ c'[0]? = some a ∧ c'[1]? = some b := by
  cases hg : w.heap[g]? with
  | none => simp [World.cell?, hg] at h0
  | some o =>
    cases o with
    | cells c' el' fz =>
      rw [cell_at hg] at h0 h1
      exact ⟨c', el', fz, rfl, h0, h1⟩
    | _ => simp [World.cell?, hg] at h0
theorem glo_T {w : World} {t r g : Nat} {a b : Value} (hg : g < 16) (h0 : w.cell? ⟨g, 0, none⟩ = some a) (h1 : w.cell? ⟨g, 1, none⟩ = some b) (ha : plain0 a = true) (hb : plain0 b = true) : ObjR (rnT t r) w g (.cells ⟨[a, b]⟩ 0 (0, 0)) := by
  obtain ⟨c', el', fz, e1, e2, e3⟩ := two_glo h0 h1
  refine ⟨⟨g, 0, 2, 1, 0⟩, if_pos hg, rfl, (fun _ => rfl), (fun h => absurd rfl h), c', el', fz, e1, ?_, (fun h => by omega), fun k v hk => ?_⟩
  · have : 1 < c'.size := by
      rcases Nat.lt_or_ge 1 c'.size with h | h
      · exact h
      · rw [Array.getElem?_eq_none h] at e3; cases e3
    show 0 + 2 + 0 * 1 ≤ c'.size
    omega
  · match k, hk with
    | 0, hk => cases hk; exact ⟨_, by simpa using e2, (plain0_iff ha).2 rfl⟩
    | 1, hk => cases hk; exact ⟨_, by simpa using e3, (plain0_iff hb).2 rfl⟩
    | k + 2, hk => simp at hk
theorem obj_row {ρ : Rn} {w : World} {id : Nat} {p : Pl} {l : List Value} {T : TypeId} {fz : Nat × Nat} (hρ : ρ id = some p) (hp : p = ⟨p.blk, 0, l.length, 1, 0⟩) (hl : plainL l = true) (hT : T ≠ 121) (hh : w.heap[p.blk]? = some (.cells ⟨l⟩ T fz)) (hz : Fz l.length fz) : ObjR ρ w id (.cells ⟨l⟩ T (0, 0)) := by
  obtain ⟨blk, off, sz, es, sl⟩ := p
  simp only [Pl.mk.injEq, true_and] at hp
  obtain ⟨rfl, rfl, rfl, rfl⟩ := hp
  refine ⟨_, hρ, by simp, (fun _ => rfl), (fun h => absurd rfl h), ⟨l⟩, T, fz, hh, by simp, (fun _ => ⟨by simpa using hz, fun h => absurd h hT⟩), fun k v hk => ⟨v, by simpa using hk, ?_⟩⟩
  have hk : l[k]? = some v := by simpa using hk
  have := (plainL_iff (ρ := ρ) hl).2 rfl
  obtain ⟨v', e1, e2⟩ := this.at hk
  rw [hk] at e1
  cases e1
  exact e2
theorem hpT_in {id : Nat} {o : Obj} (h : hpT.f id = some o) : (id = 0 ∧ o = .cells ⟨[.int .i64 0, .int .i64 0]⟩ 0 (0, 0)) ∨ (id = 1 ∧ o = .cells ⟨[.int .i64 0, .int .i64 1]⟩ 0 (0, 0)) ∨ (id = 390 ∧ o = .cells ⟨resC⟩ 42 (0, 0)) ∨ (id = 20 ∧ o = .cells ⟨txtC⟩ 5 (0, 0)) := by
  unfold Hp.f at h
  split at h
  · rename_i hle
    unfold hpT at h
    rcases store_in (by
      intro x hx
      simp only [List.mem_cons, List.not_mem_nil, or_false] at hx
      rcases hx with rfl | rfl | rfl | rfl <;> simp only [] <;> omega) hle h with h | h
    · simp only [List.mem_cons, List.not_mem_nil, or_false, Prod.mk.injEq] at h
      exact h
    · rw [tget13_mk] at h; cases h
  · cases h
theorem start_tw {w : World} {t : Nat} (hG : Glo w) (h2 : 2 ≤ t) (ht : t < w.heap.size) (hT : w.heap[t]? = some (.cells ⟨txtC⟩ 5 (14, 15))) : HR w t (rnT t w.heap.size) hpT.f (w.alloc (.cells ⟨resC⟩ 42)) := by
  have hB : Below w.heap.size w (w.alloc (.cells ⟨resC⟩ 42)) := (Below.refl _ _).alloc (Nat.le_refl _) _
  have hG2 := hG.keep hB
  have hr0 : rnT t w.heap.size 20 = some ⟨t, 0, 14, 1, 0⟩ := rfl
  have hr1 : rnT t w.heap.size 390 = some ⟨w.heap.size, 0, 5, 1, 0⟩ := rfl
  have hpl : ∀ i o p, hpT.f i = some o → rnT t w.heap.size i = some p → (i = 0 ∧ p.blk = 0) ∨ (i = 1 ∧ p.blk = 1) ∨ (i = 390 ∧ p.blk = w.heap.size) ∨ (i = 20 ∧ p.blk = t) := fun i o p h hp => by
    rcases hpT_in h with ⟨rfl, _⟩ | ⟨rfl, _⟩ | ⟨rfl, _⟩ | ⟨rfl, _⟩
    · cases hp; exact .inl ⟨rfl, rfl⟩
    · cases hp; exact .inr (.inl ⟨rfl, rfl⟩)
    · rw [hr1] at hp; cases hp; exact .inr (.inr (.inl ⟨rfl, rfl⟩))
    · rw [hr0] at hp; cases hp; exact .inr (.inr (.inr ⟨rfl, rfl⟩))
  refine ⟨hB.mono (by omega), by omega, fun id o h => ?_, fun i j oi oj pi pj hij hi hj ei ej => ?_, fun id o p h h16 hp => ?_, fun g hg => ⟨_, if_pos hg, rfl, rfl⟩⟩
  · rcases hpT_in h with ⟨rfl, rfl⟩ | ⟨rfl, rfl⟩ | ⟨rfl, rfl⟩ | ⟨rfl, rfl⟩
    · exact glo_T (by omega) hG2.1 hG2.2.1 rfl rfl
    · exact glo_T (by omega) hG2.2.2.1 hG2.2.2.2 rfl rfl
    · exact obj_row hr1 rfl rfl (by decide) (fz := (0, 0)) (by show (w.heap.push _)[w.heap.size]? = _; simp) (.inl rfl)
    · exact obj_row hr0 rfl rfl (by decide) (fz := (14, 15)) ((hB.block t ht).trans hT) (.inr (by decide))
  · have h1 := hpl i oi pi hi ei
    have h2 := hpl j oj pj hj ej
    omega
  · have h1 := hpl id o p h hp
    omega
end Go.Proofs.YtpijenlmfmknnaaGreatDoor

/- What the settled world comes to, in memory: two documents, the same. -/
namespace Go.Proofs.YtpijenlmfmknnaaGreatDoor
open Go.RowKit
set_option linter.unusedVariables false
set_option maxRecDepth 100000

/-- Two documents in a row. -/
def DocsOf (w : World) (b o : Nat) : Prop := ∃ d0 d1, w.cell? ⟨b, o, none⟩ = some d0 ∧ w.cell? ⟨b, o + 1, none⟩ = some d1 ∧ Byt w d0 docL ∧ Byt w d1 docL
/-- A row of bytes in the store is one in memory, and stays where other blocks turn. -/
theorem byt_of {ρ : Rn} {w w' : World} {id c r : Nat} {fl : Nat × Nat} {T : TypeId} {d : Value} (ho : ObjR ρ w id (.cells ⟨vals docL⟩ T fl)) (hd : VL ρ (.slice (some ⟨id, 0, none⟩) 27 27) d) (hne : ∀ p, ρ id = some p → p.blk ≠ r) (hs : ∀ b, b ≠ r → w'.heap[b]? = w.heap[b]?) : Byt w' d docL := by
  obtain ⟨p, h1, h2, h3, h4, c', el', fz, h5, h6, h7, h8⟩ := ho
  obtain ⟨_, _, p', q1, a', c2, rfl, e1, e2, e3⟩ := VL.slice.1 hd
  rw [h1] at q1
  cases q1
  have hc2 : 27 ≤ c2 := by rw [e1]; exact Nat.le_add_right _ _
  have ha := e2 (by omega)
  subst ha
  have h5' : w'.heap[p.blk]? = some (.cells c' el' fz) := (hs _ (hne p h1)).trans h5
  refine ⟨by unfold okB docL; decide, by unfold docL maxLen; simp, .inr (.inr ⟨p.blk, p.off + 0, c2, rfl, hc2, by unfold maxLen; omega, by unfold docL; simp, ?_, fun i hi => ?_⟩)⟩
  · rcases Nat.lt_or_ge p.blk w'.heap.size with h | h
    · exact h
    · rw [Array.getElem?_eq_none h] at h5'; cases h5'
  · rw [cell_at h5']
    obtain ⟨v', k1, k2⟩ := h8 i (.int .u8 (docL.getD i 0)) (by
      have : (vals docL)[i]? = some (.int .u8 (docL.getD i 0)) := by
        unfold vals
        rw [List.getElem?_map]
        simp [hi]
      simpa using this)
    rw [VL.int.1 k2] at k1
    exact k1
theorem end_tw {w0 w : World} {B : Nat} {W : Value} {r : Nat} (H : St tsF w0 B W (.pointer (some ⟨r, 0, none⟩)) w) : Calls Tryz.prog 25 #[W] w fun e w' => ∃ p c q d b o cc, e = .returned (.agg #[.bool true, .slice (some p) 2 c, .slice (some q) 2 d, .slice (some ⟨b, o, none⟩) 2 cc, .int .i64 0]) ∧
    2 ≤ cc ∧ cc ≤ 9223372036854775807 ∧ (∀ w'', (∀ k, k ≠ r → w''.heap[k]? = w'.heap[k]?) → DocsOf w'' b o) ∧ (∀ i, i < 5 → (∃ v, w'.cell? ⟨r, i, none⟩ = some v) ∧ w'.frozen? ⟨r, i, none⟩ = false) ∧ Below B w0 w' ∧ B ≤ r := by
  obtain ⟨ρ, H, hW, hR, hfr⟩ := H
  have h := end_run
  unfold endOk at h
  split at h
  · rename_i v s heq
    rw [Bool.and_eq_true] at h
    have h1 := eqV_eq _ _ _ h.1
    subst h1
    have hpre := pre_all h.2 (by decide)
    have hw := rk_ok _ _ (hpS tsF) s _ heq w0 B ρ w [W] H ⟨_, [], rfl, hW, rfl⟩ (fun id h1 h2 => hfr id h1)
    rw [enter_run noGo Tryz.func25 rfl] at hw
    have hw : Calls Tryz.prog 25 ⟨[W]⟩ w _ := hw
    refine Calls.mono hw ?_
    rintro e w' ⟨v', rfl, ρ', H', hE, hv⟩
    obtain ⟨l', rfl, x0, m1, rfl, e0, x1, m2, rfl, e1, x2, m3, rfl, e2, x3, m4, rfl, e3, x4, m5, rfl, e4, hm⟩ := VL.agg.1 hv
    have hm : m5 = [] := hm
    subst hm
    have hx0 := VL.bool.1 e0
    have hx4 := VL.int.1 e4
    obtain ⟨_, _, _, _, a1, c1, hx1, _⟩ := VL.slice.1 e1
    obtain ⟨_, _, _, _, a2, c2, hx2, _⟩ := VL.slice.1 e2
    obtain ⟨_, _, p3, hp3, a3, c3, hx3, y1, y2, y3⟩ := VL.slice.1 e3
    subst hx0 hx1 hx2 hx3 hx4
    have hc3 : 2 ≤ c3 := by rw [y1]; exact Nat.le_add_right _ _
    have ha3 := y2 (by omega)
    subst ha3
    have b1 := hpre _ (show _ ∈ endL from List.mem_cons_self)
    have b2 := hpre _ (show _ ∈ endL from List.mem_cons_of_mem _ List.mem_cons_self)
    have b3 := hpre _ (show _ ∈ endL from List.mem_cons_of_mem _ (List.mem_cons_of_mem _ List.mem_cons_self))
    have b4 := hpre _ (show _ ∈ endL from List.mem_cons_of_mem _ (List.mem_cons_of_mem _ (List.mem_cons_of_mem _ List.mem_cons_self)))
    have hR' := hR.grow hE.le
    obtain ⟨_, pr, hpr, er⟩ := VL.ptr.1 hR'
    have er : (⟨r, 0, none⟩ : Addr) = ⟨pr.blk, pr.off + 0, none⟩ := by
      have := er
      simp only [Value.pointer.injEq, Option.some.injEq] at this
      exact this
    have hrb : r = pr.blk := congrArg Addr.block er
    have hro : 0 = pr.off := by simpa using congrArg Addr.off er
    obtain ⟨p1, q1, q2, q3, q4, cc1, el1, fz1, q5, q6, q7, q8⟩ := H'.obj _ _ b1
    rw [hp3] at q1
    cases q1
    obtain ⟨d0, k0, l0⟩ := q8 0 _ rfl
    obtain ⟨d1, k1, l1⟩ := q8 1 _ rfl
    have hne : ∀ i o, s.f i = some o → i ≠ 390 → ∀ p, ρ' i = some p → p.blk ≠ r := fun i o ho hi p hp => by
      rw [hrb]
      exact H'.sep i 390 _ _ p pr hi ho b4 hp hpr
    have n1 := hne _ _ b1 (by decide) p3 hp3
    refine ⟨_, _, _, _, _, _, _, rfl, hc3, y3, fun w'' hs => ⟨d0, d1, ?_, ?_, ?_, ?_⟩, fun i hi => ?_, H'.below, ?_⟩
    · rw [cell_at ((hs _ n1).trans q5)]; exact k0
    · rw [cell_at ((hs _ n1).trans q5)]; exact k1
    · exact byt_of (c := 0) (H'.obj _ _ b2) l0 (fun p hp => hne _ _ b2 (by decide) p hp) hs
    · exact byt_of (c := 0) (H'.obj _ _ b3) l1 (fun p hp => hne _ _ b3 (by decide) p hp) hs
    · obtain ⟨p4, z1, z2, z3, z4, cc4, el4, fz4, z5, z6, z7, z8⟩ := H'.obj _ _ b4
      have z1 : ρ' 390 = some p4 := z1
      rw [hpr] at z1
      cases z1
      have hsz : pr.sz = 5 := z2
      have hlt : i < cc4.size := by omega
      refine ⟨⟨cc4[i], ?_⟩, ?_⟩
      · rw [hrb, cell_at z5]; exact Array.getElem?_eq_getElem hlt
      · have hz := (z7 (by decide)).no i hlt
        rw [hrb]
        simp only [World.frozen?, z5]
        simp
        omega
    · rw [hrb]; exact H'.own _ _ pr b4 (by decide) hpr
  · cases h
end Go.Proofs.YtpijenlmfmknnaaGreatDoor

/- impl.Run at the twins' script. -/
namespace Go.Proofs.YtpijenlmfmknnaaGreatDoor
open Go.RowKit
set_option linter.unusedVariables false
set_option maxRecDepth 100000

/-- The world after k actions. -/
def StJ (k : Nat) (w0 : World) (B : Nat) (W R : Value) (w : World) : Prop := (k = 0 ∧ St tsA w0 B W R w) ∨ (k = 1 ∧ St tsB w0 B W R w) ∨ (2 ≤ k ∧ ∃ x ∈ twS, St x.1 w0 B W R w)
theorem StJ.grow {k : Nat} {w0 w w' : World} {B : Nat} {W R : Value} (H : StJ k w0 B W R w) (hB : Below w.heap.size w w') : StJ k w0 B W R w' := by
  rcases H with ⟨h, H⟩ | ⟨h, H⟩ | ⟨h, x, hx, H⟩
  · exact .inl ⟨h, H.grow hB⟩
  · exact .inr (.inl ⟨h, H.grow hB⟩)
  · exact .inr (.inr ⟨h, x, hx, H.grow hB⟩)
theorem StJ.below {k : Nat} {w0 w : World} {B : Nat} {W R : Value} (H : StJ k w0 B W R w) : Below B w0 w := by
  rcases H with ⟨h, H⟩ | ⟨h, H⟩ | ⟨h, x, hx, H⟩ <;> exact H.below
theorem Bd.below {v : Value} {w0 w : World} {B : Nat} {R : Value} (H : Bd v w0 B R w) : Below B w0 w := by
  obtain ⟨ρ, s1, s2, f0, H1, h⟩ := H
  exact H1.below
/-- The twins' script. -/
structure Twn (F : Nat → Nat → Int) : Prop where
  one : F 0 = edA 0 2 3
  two : F 1 = edA 1 3 2
  more : ∀ j, 2 ≤ j → j < 8 → ∃ K A, F j = drA K A ∧ (K = 1 ∨ K = 2 ∨ K = 3) ∧ 0 ≤ A ∧ A ≤ 255
theorem Twn.ok {F : Nat → Nat → Int} (h : Twn F) (j : Nat) (hj : j < 8) : OkA (F j) := by
  match j, hj with
  | 0, _ => rw [h.one]; exact ok_ed0
  | 1, _ => rw [h.two]; exact ok_ed1
  | j + 2, hj =>
    obtain ⟨K, A, e, hK, hA, hA2⟩ := h.more (j + 2) (by omega) hj
    rw [e]; exact ok_dr K A hK hA hA2
theorem play_j {F : Nat → Nat → Int} (h : Twn F) (j : Nat) (hj : j < 8) {w0 w : World} {B : Nat} {W R : Value} (H : StJ j w0 B W R w) : Calls Tryz.prog 23 #[W, acW (F j)] w fun e w' => (∃ v, e = .returned v) ∧ StJ (j + 1) w0 B W R w' := by
  rcases H with ⟨rfl, H⟩ | ⟨rfl, H⟩ | ⟨h2, x, hx, H⟩
  · rw [h.one]
    refine Calls.mono (go_step tsE0 Tryz.func23 rfl H fun ρ hW => ⟨W, _, rfl, hW, _, [], rfl, (plain1_iff rfl).2 rfl, rfl⟩) ?_
    rintro e w' ⟨v, rfl, H', _⟩
    exact ⟨⟨v, rfl⟩, .inr (.inl ⟨rfl, H'⟩)⟩
  · rw [h.two]
    refine Calls.mono (go_step tsE1 Tryz.func23 rfl H fun ρ hW => ⟨W, _, rfl, hW, _, [], rfl, (plain1_iff rfl).2 rfl, rfl⟩) ?_
    rintro e w' ⟨v, rfl, H', _⟩
    exact ⟨⟨v, rfl⟩, .inr (.inr ⟨Nat.le_refl _, (ts0, 2), List.mem_cons_self, H'⟩)⟩
  · obtain ⟨K, A, e, hK, hA, hA2⟩ := h.more j h2 hj
    rw [e]
    rcases hK with rfl | rfl | rfl
    · exact Calls.mono (play_1 hx w0 w B W R A hA hA2 H) fun e w' ⟨he, y, hy, H'⟩ => ⟨he, .inr (.inr ⟨by omega, y, hy, H'⟩)⟩
    · exact Calls.mono (play_2 hx w0 w B W R A hA hA2 H) fun e w' ⟨he, y, hy, H'⟩ => ⟨he, .inr (.inr ⟨by omega, y, hy, H'⟩)⟩
    · exact Calls.mono (play_3 hx w0 w B W R A hA hA2 H) fun e w' ⟨he, y, hy, H'⟩ => ⟨he, .inr (.inr ⟨by omega, y, hy, H'⟩)⟩
theorem settle_tw {w0 w : World} {B : Nat} {W R : Value} (H : StJ 8 w0 B W R w) : Calls Tryz.prog 24 #[W] w fun e w' => (∃ v, e = .returned v) ∧ St tsF w0 B W R w' := by
  rcases H with ⟨h, H⟩ | ⟨h, H⟩ | ⟨h, x, hx, H⟩
  · omega
  · omega
  obtain ⟨T, hs⟩ := tw_set x hx
  refine Calls.mono (go_step hs Tryz.func24 rfl H fun ρ hW => ⟨W, [], rfl, hW, rfl⟩) ?_
  rintro e w' ⟨v, rfl, H', _⟩
  exact ⟨⟨v, rfl⟩, H'⟩
set_option maxHeartbeats 6400000 in
theorem run_tw (w : World) (g t c : Nat) (F : Nat → Nat → Int) (hF : Twn F) (hS : Scr w g 8 F) (hgt : g < t) (h2 : 2 ≤ t) (ht : t < w.heap.size) (hT : w.heap[t]? = some (.cells ⟨txtC⟩ 5 (14, 15))) (hG : Glo w) (hc : 8 ≤ c) (hc2 : c ≤ maxLen) :
    Calls Tryz.prog 10 #[.int .i64 2, .slice (some ⟨t, 0, none⟩) 14 14, .slice (some ⟨g, 0, none⟩) 8 c, .bool true] w fun e w' => ∃ p c q d b o cc, e = .returned (.agg #[.bool true, .slice (some p) 2 c, .slice (some q) 2 d, .slice (some ⟨b, o, none⟩) 2 cc, .int .i64 0]) ∧ 2 ≤ cc ∧ cc ≤ maxLen ∧ DocsOf w' b o ∧ Below t w w' := by
  have H0 : HR w t (rnT t w.heap.size) hpT.f (w.alloc (.cells #[.bool false, .slice none 0 0, .slice none 0 0, .slice none 0 0, .int .i64 0] 42)) := start_tw hG h2 ht hT
  have HBu := hide (build_tw (R := .pointer (some ⟨w.heap.size, 0, none⟩)) (t' := .slice (some ⟨t, 0, none⟩) 14 14) H0 (fun id hid => by unfold rnT; rw [if_neg (by omega), if_neg (by omega), if_neg (by omega)]) (VL.ptr.2 ⟨rfl, _, rfl, rfl⟩) (VL.slice.2 ⟨rfl, by omega, _, rfl, _, _, rfl, rfl, fun _ => rfl, by decide⟩))
  clear H0 hG hT
  have HC := hide (And.intro hc hc2)
  unfold maxLen at hc2
  go_enter Tryz.func10, Tryz.ntmps10
  go_wp2_with fail
  refine (unhide HBu).mono ?_
  rintro e w2 ⟨p, c1, q, d, rfl, hBd⟩
  have hB2 := hBd.below
  clear HBu
  have HSc := hide (script_ok (w2.alloc (.cells #[.int .i64 0, .slice (some p) 4 c1, .slice none 0 0, .slice none 0 0, .slice (some q) 2 d] 55)) g c F (hS.keep (hB2.alloc (by have := hB2.size; omega) _) hgt) hc (unhide HC).2 hF.ok)
  have HBd := hide hBd
  clear hBd
  go_wp2_with fail
  refine (unhide HSc).mono ?_
  rintro e w4 ⟨rfl, hB4⟩
  clear HSc
  have hz : (w2.alloc (.cells #[.int .i64 0, .slice (some p) 4 c1, .slice none 0 0, .slice none 0 0, .slice (some q) 2 d] 55)).heap.size = w2.heap.size + 1 := by simp
  have hbox : ∀ j, w4.cell? ⟨w2.heap.size, j, none⟩ = (#[.int .i64 0, .slice (some p) 4 c1, .slice none 0 0, .slice none 0 0, .slice (some q) 2 d] : Array Value)[j]? := fun j => by
    rw [hB4.cell (p := ⟨w2.heap.size, j, none⟩) (by rw [hz]; exact Nat.lt_succ_self _)]
    simp
  have n0 : w4.cell? ⟨w2.heap.size, 0, none⟩ = some (.int .i64 0) := hbox 0
  have n1 : w4.cell? ⟨w2.heap.size, 1, none⟩ = some (.slice (some p) 4 c1) := hbox 1
  have n2 : w4.cell? ⟨w2.heap.size, 2, none⟩ = some (.slice none 0 0) := hbox 2
  have n3 : w4.cell? ⟨w2.heap.size, 3, none⟩ = some (.slice none 0 0) := hbox 3
  have n4 : w4.cell? ⟨w2.heap.size, 4, none⟩ = some (.slice (some q) 2 d) := hbox 4
  have HW := hide (world_tw (((unhide HBd).grow ((Below.refl _ _).alloc (Nat.le_refl _) (.cells #[.int .i64 0, .slice (some p) 4 c1, .slice none 0 0, .slice none 0 0, .slice (some q) 2 d] 55))).grow hB4))
  clear hbox HBd hB4 hz hB2
  go_wp2_with fail
  refine (unhide HW).mono ?_
  rintro e w5 ⟨a, rfl, HSt⟩
  clear HW n0 n1 n2 n3 n4
  go_wp2_with fail
  go_loopw [13, 40] (fun _ i wr => ∃ k : Nat, k ≤ 8 ∧ i = .int .i64 k ∧ StJ k w t (.pointer (some a)) (.pointer (some ⟨w.heap.size, 0, none⟩)) wr) (fun _ i _ => 8 - (intOf i).toNat)
  case atStart => exact ⟨0, Nat.zero_le _, rfl, .inl ⟨rfl, HSt⟩⟩
  case round =>
    obtain ⟨k, hk, rfl, HJ⟩ := hrel
    by_cases hlt : k < 8
    · obtain ⟨h1, c10, c11, c12⟩ := hS.keep HJ.below hgt k hlt
      have c0 : wr.cell? ⟨g, k * 13, none⟩ = _ := h1 0 (by omega)
      have c1 := h1 1 (by omega)
      have c2 := h1 2 (by omega)
      have c3 := h1 3 (by omega)
      have c4 := h1 4 (by omega)
      have c5 := h1 5 (by omega)
      have c6 := h1 6 (by omega)
      have c7 := h1 7 (by omega)
      have c8 := h1 8 (by omega)
      have c9 := h1 9 (by omega)
      have hlt' : (k : Int) < 8 := by omega
      have hk0 : (0 : Int) ≤ (k : Int) := by omega
      have HP := hide (fun (o : Obj) => play_j hF k hlt (HJ.grow ((Below.refl _ _).alloc (Nat.le_refl _) o)))
      unfold acW at HP
      generalize F k 0 = k0 at *
      generalize F k 1 = k1 at *
      generalize F k 2 = k2 at *
      generalize F k 3 = k3 at *
      generalize F k 4 = k4 at *
      generalize F k 5 = k5 at *
      generalize F k 6 = k6 at *
      generalize F k 7 = k7 at *
      generalize F k 8 = k8 at *
      generalize F k 9 = k9 at *
      clear h1 hS hF HJ HSt
      go_wp2_with fail
      refine (unhide HP _).mono ?_
      rintro e w3 ⟨⟨v, rfl⟩, HJ3⟩
      have HJ4 := hide HJ3
      clear HP HJ3
      go_wp2_with fail
      go_roundw
      case rel => exact ⟨k + 1, by omega, by go_num, unhide HJ4⟩
      case measure => simp [intOf]; omega
    · have hk8 : k = 8 := by omega
      subst hk8
      have HSe := hide (settle_tw HJ)
      clear hlt HJ hS hF HSt
      go_wp2_with fail
      refine (unhide HSe).mono ?_
      rintro e w6 ⟨⟨v, rfl⟩, HS6⟩
      have HE := hide (end_tw HS6)
      clear HSe HS6
      go_wp2_with fail
      refine (unhide HE).mono ?_
      rintro e w7 ⟨p1, c1, q1, d1, b, o, cc, rfl, hcc, hcc2, hdoc, hcell, hB7, hBr⟩
      obtain ⟨⟨y0, z0⟩, f0⟩ := hcell 0 (by omega)
      obtain ⟨⟨y1, z1⟩, f1⟩ := hcell 1 (by omega)
      obtain ⟨⟨y2, z2⟩, f2⟩ := hcell 2 (by omega)
      obtain ⟨⟨y3, z3⟩, f3⟩ := hcell 3 (by omega)
      obtain ⟨⟨y4, z4⟩, f4⟩ := hcell 4 (by omega)
      have HD := hide hdoc
      clear HE hcell hdoc
      go_wp2_with fail
      refine bodyPost_ret (v := .agg #[.bool true, .slice (some p1) 2 c1, .slice (some q1) 2 d1, .slice (some ⟨b, o, none⟩) 2 cc, .int .i64 0]) (by simp [results, Tryz.results10, go_sem, z0, z1, z2, z3, z4]) rfl ?_
      refine ⟨p1, c1, q1, d1, b, o, cc, rfl, hcc, by unfold maxLen; omega, unhide HD _ fun k hk => ?_, ((((hB7.setCell (by exact hBr) _).setCell (by exact hBr) _).setCell (by exact hBr) _).setCell (by exact hBr) _).setCell (by exact hBr) _⟩
      rw [Below.heap_setCell _ _ _ _ hk, Below.heap_setCell _ _ _ _ hk, Below.heap_setCell _ _ _ _ hk, Below.heap_setCell _ _ _ _ hk, Below.heap_setCell _ _ _ _ hk]
end Go.Proofs.YtpijenlmfmknnaaGreatDoor

/- laws.at tells some number of a byte. -/
namespace Go.Proofs.YtpijenlmfmknnaaGreatDoor
open Go.RowKit
set_option linter.unusedVariables false
set_option maxRecDepth 100000

set_option maxHeartbeats 1600000 in
theorem at_any (w : World) (v : Value) (l : List Int) (i : Nat) (hi : i ≤ 1000000) (h : Byt w v l) :
    Calls Tryz.prog 9 #[v, .int .i64 i] w fun e w' => ∃ x : Int, 0 ≤ x ∧ x ≤ 255 ∧ e = .returned (.int .i64 x) ∧ w' = w := by
  by_cases hl : l.length = 0
  · obtain ⟨a, c, rfl, _, _⟩ := h.shape
    rw [hl]
    go_enter Tryz.func9, Tryz.ntmps9
    go_wp2_with fail
    go_ret
    exact ⟨0, by omega, by omega, rfl, rfl⟩
  · obtain ⟨hok, hm, ⟨rfl, rfl⟩ | ⟨y, cap, rfl, hc, rfl⟩ | ⟨b, off, cap, rfl, h1, h2, h3, h4, h5⟩⟩ := h
    · simp at hl
    · simp at hl
    · have hmod : i % l.length < l.length := Nat.mod_lt _ (by omega)
      have ecell := h5 (i % l.length) hmod
      have hx := hok _ (List.getElem_mem hmod)
      have e0 : ((l.length : Int) == 0) = false := by simpa using hl
      have et : (i : Int).tmod (l.length : Int) = ((i % l.length : Nat) : Int) := by rw [Int.tmod_eq_emod_of_nonneg (by omega)]; rfl
      have hz : ¬ (l.length : Int) = 0 := by omega
      have hj : ((i % l.length : Nat) : Int) < (l.length : Int) := by omega
      go_enter Tryz.func9, Tryz.ntmps9
      go_wp2_with fail
      go_ret
      exact ⟨l[i % l.length], (hok _ (List.getElem_mem hmod)).1, (hok _ (List.getElem_mem hmod)).2, rfl, rfl⟩
end Go.Proofs.YtpijenlmfmknnaaGreatDoor

/- laws.sameBytes: two rows of bytes as strings, by its contract. -/
namespace Go.Proofs.YtpijenlmfmknnaaGreatDoor
open Go.RowKit
set_option linter.unusedVariables false

set_option maxHeartbeats 1600000 in
theorem same_any (w : World) (u v : Value) (a b : List Int) (hu : Byt w u a) (hv : Byt w v b) :
    Calls Tryz.prog 11 #[u, v] w fun e w' => e = .returned (.bool (decide (a = b))) ∧ w' = w := by
  have c1 := conv_any w u a hu
  have c2 := conv_any w v b hv
  have HE := hide (str_beq hu.1 hv.1)
  obtain ⟨a1, k1, rfl, _⟩ := hu.shape
  obtain ⟨a2, k2, rfl, _⟩ := hv.shape
  generalize str a = s at *
  generalize str b = t at *
  go_enter Tryz.func11, Tryz.ntmps11
  go_wp2
  go_ret
  exact ⟨by rw [← unhide HE]; rfl, rfl⟩
end Go.Proofs.YtpijenlmfmknnaaGreatDoor

/- The law on the twins, walked by its callees' contracts. -/
namespace Go.Proofs.YtpijenlmfmknnaaGreatDoor
open Go.RowKit
set_option linter.unusedVariables false
set_option maxRecDepth 100000

def actL (k : Nat → Int) : List Value := [.int .i64 (k 0), .int .i64 (k 1), .int .i64 (k 2), .int .i64 (k 3), .int .i64 (k 4), .int .i64 (k 5), .int .i64 (k 6), .int .i64 (k 7), .int .i64 (k 8), .int .i64 (k 9), .slice none 0 0, .slice none 0 0, .bool false]
def scrL : List (Nat → Int) → List Value
  | [] => []
  | k :: l => actL k ++ scrL l
theorem scr_app : ∀ l k, scrL (l ++ [k]) = scrL l ++ actL k
  | [], k => by simp [scrL]
  | x :: l, k => by rw [List.cons_append, scrL, scr_app l k, scrL, List.append_assoc]
theorem scr_at : ∀ (l : List (Nat → Int)) (j i : Nat), j < l.length → i < 13 → (scrL l)[j * 13 + i]? = (actL (l.getD j fun _ => 0))[i]?
  | [], j, i, hj, _ => by simp at hj
  | k :: l, 0, i, _, hi => by
    rw [scrL, Nat.zero_mul, Nat.zero_add, List.getElem?_append_left (by rw [show (actL k).length = 13 from rfl]; exact hi)]
    rfl
  | k :: l, j + 1, i, hj, hi => by
    rw [scrL, List.getElem?_append_right (by rw [show (actL k).length = 13 from rfl]; omega), show (actL k).length = 13 from rfl, show (j + 1) * 13 + i - 13 = j * 13 + i by omega]
    exact scr_at l j i (by simpa using hj) hi
theorem own_scr {w : World} {base : Nat} {v : Value} {l : List (Nat → Int)} (h : w.ownsRow base 36 13 v l.length (scrL l)) (h0 : 0 < l.length) : ∃ g c, v = .slice (some ⟨g, 0, none⟩) l.length c ∧ l.length ≤ c ∧ c ≤ maxLen ∧ base ≤ g ∧ g < w.heap.size ∧ Scr w g l.length (fun j => l.getD j fun _ => 0) := by
  obtain ⟨_, ⟨_, h⟩ | ⟨g, cap, cur, rfl, h1, h2, h3, h4, h5, h6⟩⟩ := h
  · omega
  have hc : ∀ j i, j < l.length → i < 13 → w.cell? ⟨g, j * 13 + i, none⟩ = (actL (l.getD j fun _ => 0))[i]? := fun j i hj hi => by
    rw [cell_at h2, ← scr_at l j i hj hi, ← h6, List.getElem?_take, if_pos (by omega)]
    simp
  refine ⟨g, cap, rfl, h3, h4, h1, ?_, fun j hj => ⟨fun i hi => ?_, (hc j 10 hj (by omega)).trans rfl, (hc j 11 hj (by omega)).trans rfl, (hc j 12 hj (by omega)).trans rfl⟩⟩
  · rcases Nat.lt_or_ge g w.heap.size with h | h
    · exact h
    · rw [Array.getElem?_eq_none h] at h2; cases h2
  · rw [hc j i hj (by omega)]
    match i, hi with
    | 0, _ => rfl
    | 1, _ => rfl
    | 2, _ => rfl
    | 3, _ => rfl
    | 4, _ => rfl
    | 5, _ => rfl
    | 6, _ => rfl
    | 7, _ => rfl
    | 8, _ => rfl
    | 9, _ => rfl
theorem act_info : (Tryz.prog.info? 36).map (fun i => (i.zero, i.size, i.bytes)) = some (some (.agg ⟨actL fun _ => 0⟩), 13, 136) := by kernel_rfl
theorem own_al {w : World} {base : Nat} {e : TypeId} {size : Nat} {v : Value} {n : Nat} {xs : List Value} (h : w.ownsRow base e size v n xs) (o : Obj) : (w.alloc o).ownsRow base e size v n xs := by
  obtain ⟨h1, h2⟩ := h
  refine ⟨h1, ?_⟩
  rcases h2 with h2 | ⟨g, cap, cur, hv, hg, hh, r⟩
  · exact .inl h2
  · exact .inr ⟨g, cap, cur, hv, hg, (heap_alloc_old w o (by
      rcases Nat.lt_or_ge g w.heap.size with h | h
      · exact h
      · rw [Array.getElem?_eq_none h] at hh; cases hh)).trans hh, r⟩
theorem act_lies (w : World) (K A : Int) (j : Nat) (u : Value) (h : (actL (drA K A))[j]? = some u) : (w.alloc (.cells #[.int .i64 K, .int .i64 A, .int .i64 0, .int .i64 0, .int .i64 0, .int .i64 0, .int .i64 0, .int .i64 0, .int .i64 0, .int .i64 0, .slice none 0 0, .slice none 0 0, .bool false] 36)).cell? ((⟨w.heap.size, 0, none⟩ : Addr).add j) = some u := by
  rw [add_at, cell_at (heap_alloc_new w _), Nat.zero_add, ← h]
  simp [actL, drA]
theorem act_one (K A : Int) : ∀ u ∈ actL (drA K A), u.oneCell' = true := by
  intro u hu
  simp only [actL, drA, List.mem_cons, List.not_mem_nil, or_false] at hu
  rcases hu with rfl | rfl | rfl | rfl | rfl | rfl | rfl | rfl | rfl | rfl | rfl | rfl | rfl <;> rfl
theorem own_blk {w : World} {base : Nat} {e : TypeId} {size : Nat} {v : Value} {n : Nat} {xs : List Value} (h : w.ownsRow base e size v n xs) (g : Nat) (hg : v.ownBlock = some g) : base ≤ g := by
  obtain ⟨_, ⟨rfl, _⟩ | ⟨g', cap, cur, rfl, h1, _⟩⟩ := h
  · cases hg
  · cases hg; exact h1
/-- The text's row is laid and gets its mark. -/
theorem mark_tw (w : World) : ∃ w', (convert 22 22 (.slice (some ⟨w.heap.size, 0, none⟩) 14 14)).run Tryz.prog (w.alloc (.cells #[.int .u8 60, .int .u8 112, .int .u8 62, .int .u8 60, .int .u8 47, .int .u8 112, .int .u8 62, .int .u8 60, .int .u8 98, .int .u8 62, .int .u8 60, .int .u8 47, .int .u8 98, .int .u8 62] 5)) = .ok (.slice (some ⟨w.heap.size, 0, none⟩) 14 14) w' ∧ Below w.heap.size w w' ∧ w.heap.size < w'.heap.size ∧ w'.heap[w.heap.size]? = some (.cells ⟨txtC⟩ 5 (14, 15)) := by
  have h := Loc.made w ⟨txtC⟩ 5
  have hsh : (w.alloc (.cells ⟨txtC⟩ 5)).shape? w.heap.size = some (5, 14) := by unfold World.shape?; unfold Loc at h; rw [h]; rfl
  have hsz : ((w.alloc (.cells ⟨txtC⟩ 5)).freeze ⟨w.heap.size, 14, none⟩ 1).heap.size = w.heap.size + 1 := by
    unfold World.freeze
    rw [if_neg (by decide)]
    simp
  refine ⟨(w.alloc (.cells ⟨txtC⟩ 5)).freeze ⟨w.heap.size, 14, none⟩ 1, ?_, ?_, by omega, ?_⟩
  · show (convert 22 22 (.slice (some ⟨w.heap.size, 0, none⟩) 14 14)).run Tryz.prog (w.alloc (.cells ⟨txtC⟩ 5)) = _
    simp [convert, run_underlying Tryz.underlying22, run_underlying Tryz.underlying5, markStringish, hsh]
  · refine ⟨?_, ?_, ?_, by omega, fun k hk => ?_⟩
    · unfold World.freeze
      rw [if_neg (by decide)]
      rfl
    · unfold World.freeze
      rw [if_neg (by decide)]
      rfl
    · unfold World.freeze
      rw [if_neg (by decide)]
      rfl
    · unfold World.freeze
      rw [if_neg (by decide)]
      show (Array.modify _ w.heap.size _)[k]? = _
      rw [Array.getElem?_modify, if_neg (by omega)]
      exact heap_alloc_old w _ hk
  · unfold World.freeze
    rw [if_neg (by decide)]
    show (Array.modify _ w.heap.size _)[w.heap.size]? = _
    unfold Loc at h
    rw [Array.getElem?_modify, if_pos rfl, h]
    rfl
/-- A drawn action. -/
def Drw (k : Nat → Int) : Prop := ∃ K A, k = drA K A ∧ (K = 1 ∨ K = 2 ∨ K = 3) ∧ 0 ≤ A ∧ A ≤ 255
set_option maxHeartbeats 6400000 in
theorem law_twins (w : World) (code : Value) (l : List Int) (h : Byt w code l) (hG : Glo w) :
    Calls Tryz.prog 4 #[code] w fun e w' => e = .returned (.bool true) ∧ Below w.heap.size w w' := by
  have HA := hide (fun wr (hB : Below w.heap.size w wr) i hi => at_any wr code l i hi (h.keep hB))
  obtain ⟨a0, c0, rfl, _, _⟩ := h.shape
  clear h
  go_enter Tryz.func4, Tryz.ntmps4
  go_wp2_with fail
  go_loopw [3, 4] (fun v i wr => ∃ (k : Nat) (L : List (Nat → Int)), k ≤ 6 ∧ i = .int .i64 k ∧ L.length = 2 + k ∧ L[0]? = some (edA 0 2 3) ∧ L[1]? = some (edA 1 3 2) ∧ (∀ j x, 2 ≤ j → L[j]? = some x → Drw x) ∧ wr.ownsRow w.heap.size 36 13 v L.length (scrL L) ∧ Below w.heap.size w wr) (fun _ i _ => 6 - (intOf i).toNat)
  case atStart => exact ⟨0, [edA 0 2 3, edA 1 3 2], Nat.zero_le _, rfl, rfl, rfl, rfl, (fun j x hj hx => by match j, hj, hx with | j + 2, _, hx => simp at hx), ⟨rfl, .inr ⟨w.heap.size, 2, _, rfl, Nat.le_refl _, heap_alloc_new w _, Nat.le_refl _, by decide, rfl, rfl⟩⟩, (Below.refl _ _).alloc (Nat.le_refl _) _⟩
  case round =>
    obtain ⟨k, L, hk, rfl, hL, h0, h1, hd, hown, hB⟩ := hrel
    by_cases hlt : k < 6
    · have HA1 := hide (unhide HA wr hB k (by omega))
      have HA2 := hide (unhide HA wr hB (k + 9) (by omega))
      rw [show ((k + 9 : Nat) : Int) = (k : Int) + 9 by omega] at HA2
      have HO := hide (And.intro hown (And.intro hd (And.intro h0 h1)))
      clear HA hown hd h0 h1
      go_wp2_with fail
      refine (unhide HA1).mono ?_
      rintro e w1 ⟨x, hx0, hx1, rfl, hw⟩
      replace hw := hw.symm
      subst hw
      clear HA1
      go_wp2_with fail
      refine (unhide HA2).mono ?_
      rintro e w1 ⟨y, hy0, hy1, rfl, hw⟩
      replace hw := hw.symm
      subst hw
      clear HA2
      obtain ⟨i0, hi, hz0, hz1, hz2⟩ := info_parts act_info
      have hs : w.heap.size ≤ wr.heap.size := hB.size
      have HL := hide hL
      have HB := hide hB
      clear hL hB
      go_wp2_with (at_builtin; refine wpList_append_own _ rfl _ _ 37 rfl w.heap.size 36 i0 (.agg ⟨actL fun _ => 0⟩) 13 136 Tryz.underlying37 hi hz0 hz1 hz2 rfl (by decide) _ L.length (scrL L) rfl (own_al (unhide HO).1 _) ⟨wr.heap.size, 0, none⟩ 1 1 (actL (drA (1 + x % 3) y)) rfl rfl (fun j u hu => act_lies wr _ _ j u hu) (act_one _ _) (by rw [unhide HL]; unfold maxLen; omega) (by rw [unhide HL]; omega) (by simp; omega) ?_)
      intro v' w5 ho5 hg5 _
      have hB5 := ((unhide HB).alloc hs _).grown hg5 (by simp; omega) (fun g hg => own_blk (unhide HO).1 g hg)
      have hk6 : (K : Int) → K = x % 3 → (1 + K = 1 ∨ 1 + K = 2 ∨ 1 + K = 3) := fun K e => by omega
      have HJ := hide (show ∃ (k' : Nat) (L' : List (Nat → Int)), k' ≤ 6 ∧ Value.int .i64 ((k : Int) + 1) = .int .i64 k' ∧ L'.length = 2 + k' ∧ L'[0]? = some (edA 0 2 3) ∧ L'[1]? = some (edA 1 3 2) ∧ (∀ j x, 2 ≤ j → L'[j]? = some x → Drw x) ∧ w5.ownsRow w.heap.size 36 13 v' L'.length (scrL L') ∧ Below w.heap.size w w5 from by
        obtain ⟨_, hd, h0, h1⟩ := unhide HO
        have hL := unhide HL
        refine ⟨k + 1, L ++ [drA (1 + x % 3) y], by omega, rfl, by simp; omega, by rw [List.getElem?_append_left (by omega)]; exact h0, by rw [List.getElem?_append_left (by omega)]; exact h1, fun j z hj hz => ?_, by rw [scr_app, List.length_append]; exact ho5, hB5⟩
        rcases Nat.lt_or_ge j L.length with hjl | hjl
        · rw [List.getElem?_append_left hjl] at hz; exact hd j z hj hz
        · rw [List.getElem?_append_right hjl] at hz
          have hj0 : j - L.length = 0 := by
            rcases Nat.eq_zero_or_pos (j - L.length) with h | h
            · exact h
            · rw [List.getElem?_eq_none (by simp; omega)] at hz; cases hz
          rw [hj0] at hz
          cases hz
          exact ⟨_, _, rfl, hk6 _ rfl, hy0, hy1⟩)
      clear ho5 hg5 hB5 HO HL HB
      go_wp2_with fail
      go_roundw
      case rel => exact unhide HJ
      case measure => simp [intOf]; omega
    · have hk6 : k = 6 := by omega
      subst hk6
      have hL8 : L.length = 8 := hL
      obtain ⟨g, c, rfl, hc1, hc2, hg1, hg2, hscr⟩ := own_scr hown (by omega)
      rw [hL8] at hscr hc1
      have hTw : Twn (fun j => L.getD j fun _ => 0) := by
        refine ⟨by simp [List.getD_eq_getElem?_getD, h0], by simp [List.getD_eq_getElem?_getD, h1], fun j hj hj8 => ?_⟩
        obtain ⟨K, A, e, h⟩ := hd j L[j] hj (List.getElem?_eq_getElem (by omega))
        exact ⟨K, A, by simp only [List.getD_eq_getElem?_getD, List.getElem?_eq_getElem (show j < L.length by omega)]; exact e, h⟩
      obtain ⟨w6, hm, hB6, hs6, ht6⟩ := mark_tw wr
      have hG6 := (hG.keep hB).keep hB6
      have hge : 2 ≤ wr.heap.size := by
        have : 1 < wr.heap.size := lt_of_cell (hG.keep hB).2.2.1
        omega
      have HR := hide (run_tw w6 g wr.heap.size c _ hTw (hscr.keep hB6 hg2) hg2 hge hs6 ht6 hG6 hc1 hc2)
      have hA6 := bstep hB hB6
      have hsz := hB.size
      have HA6 := hide (And.intro hA6 hsz)
      rw [hL8]
      clear HA hd h0 h1 hown hscr hTw hL hL8 hG hG6 ht6 hB hB6 hA6
      go_wp2_with fail
      refine (unhide HR).mono ?_
      rintro e w7 ⟨p, c2, q, d, b, o, cc, rfl, hcc, hcc2, hdoc, hB7⟩
      obtain ⟨hA6, hsz⟩ := unhide HA6
      have hB8 := (hA6.trans (hB7.mono hsz)).alloc (by have := hA6.size; have := hB7.size; omega) (.cells #[.bool true, .slice (some p) 2 c2, .slice (some q) 2 d, .slice (some ⟨b, o, none⟩) 2 cc, .int .i64 0] 42)
      obtain ⟨d0, d1, e0, e1, b0, b1⟩ := hdoc
      have hb := lt_of_cell e0
      have hal : Below w7.heap.size w7 (w7.alloc (.cells #[.bool true, .slice (some p) 2 c2, .slice (some q) 2 d, .slice (some ⟨b, o, none⟩) 2 cc, .int .i64 0] 42)) := (Below.refl _ _).alloc (Nat.le_refl _) _
      have e0 := (hal.drew.cell (p := ⟨b, o, none⟩) hb).trans e0
      have e1 := (hal.drew.cell (p := ⟨b, o + 1, none⟩) hb).trans e1
      have b0 := b0.keep hal.drew
      have b1 := b1.keep hal.drew
      have r0 : (w7.alloc (.cells #[.bool true, .slice (some p) 2 c2, .slice (some q) 2 d, .slice (some ⟨b, o, none⟩) 2 cc, .int .i64 0] 42)).drew.cell? ⟨w7.heap.size, 0, none⟩ = some (.bool true) := by simp
      have r3 : (w7.alloc (.cells #[.bool true, .slice (some p) 2 c2, .slice (some q) 2 d, .slice (some ⟨b, o, none⟩) 2 cc, .int .i64 0] 42)).drew.cell? ⟨w7.heap.size, 3, none⟩ = some (.slice (some ⟨b, o, none⟩) 2 cc) := by simp
      have cv := conv_any _ d0 docL b0
      rw [show str docL = ⟨#[60, 98, 111, 100, 121, 62, 60, 98, 62, 60, 112, 62, 60, 47, 112, 62, 60, 47, 98, 62, 60, 47, 98, 111, 100, 121, 62]⟩ from rfl] at cv
      have HSm := hide (same_any _ d0 d1 docL docL b0 b1)
      rw [show decide (docL = docL) = true from decide_eq_true rfl] at HSm
      obtain ⟨a0', k0, rfl, _⟩ := b0.shape
      obtain ⟨a1', k1, rfl, _⟩ := b1.shape
      have HB8 := hide hB8.drew
      unfold maxLen at hcc2
      clear HA6 HR hA6 hsz hB7 hB8 b0 b1 hal hm hc1 hc2 hs6 hge hg1 hg2
      go_upto_region 7 with fail
      generalize (w7.alloc (.cells #[.bool true, .slice (some p) 2 c2, .slice (some q) 2 d, .slice (some ⟨b, o, none⟩) 2 cc, .int .i64 0] 42)) = w8 at *
      go_region_held3 (fun x => x.cell? ⟨w7.heap.size, 0, none⟩ = some (.bool true) ∧ x.cell? ⟨w7.heap.size, 3, none⟩ = some (.slice (some ⟨b, o, none⟩) 2 cc) ∧ x.cell? ⟨b, o, none⟩ = some (.slice a0' docL.length k0) ∧ x.cell? ⟨b, o + 1, none⟩ = some (.slice a1' docL.length k1) ∧ (convert 22 9 (.slice a0' docL.length k0)).run Tryz.prog x = .ok (.string ⟨#[60, 98, 111, 100, 121, 62, 60, 98, 62, 60, 112, 62, 60, 47, 112, 62, 60, 47, 98, 62, 60, 47, 98, 111, 100, 121, 62]⟩) x) (exact ⟨r0, r3, e0, e1, cv⟩) (first | (go_at_call 11; refine (unhide HSm).mono ?_; rintro e w9 ⟨rfl, hw9⟩; replace hw9 := hw9.symm; subst hw9))
      all_goals
        go_wp2
        go_ret
        exact ⟨rfl, unhide HB8⟩
end Go.Proofs.YtpijenlmfmknnaaGreatDoor

/- Rows of ints in memory: what may be read, what is owned. -/
namespace Go.Proofs.YtpijenlmfmknnaaGreatDoor
open Go.RowKit
set_option linter.unusedVariables false

/-- Each number is a byte. -/
def okZ (l : List Int) : Prop := ∀ x ∈ l, -9223372036854775808 ≤ x ∧ x ≤ 9223372036854775807

/-- The cells of a row of bytes. -/
def valz (l : List Int) : List Value := l.map (Value.int .i64)

/-- The value v is a slice whose elements can be read in w: the bytes l. -/
def Ints (w : World) (v : Value) (l : List Int) : Prop :=
  okZ l ∧ l.length ≤ maxLen ∧
  ((v = .slice none 0 0 ∧ l = []) ∨
   (∃ x cap, v = .slice (some x) 0 cap ∧ cap ≤ maxLen ∧ l = []) ∨
   (∃ b off cap, v = .slice (some ⟨b, off, none⟩) l.length cap ∧ l.length ≤ cap ∧ cap ≤ maxLen ∧ l ≠ [] ∧ b < w.heap.size ∧
      ∀ i, i < l.length → w.cell? ⟨b, off + i, none⟩ = some (.int .i64 (l.getD i 0))))

/-- The value v is a slice at the head of a block of the call's own, from 'base' on: the bytes l. -/
def OwnZ (w : World) (base : Nat) (v : Value) (l : List Int) : Prop := okZ l ∧ w.ownsRow base 3 1 v l.length (valz l)

theorem okZ.app {a b : List Int} (h : okZ a) (k : okZ b) : okZ (a ++ b) := fun x hx => by
  rcases List.mem_append.1 hx with h' | h'
  · exact h x h'
  · exact k x h'
theorem okZ.take {a : List Int} (h : okZ a) (n : Nat) : okZ (a.take n) := fun x hx => h x (List.mem_of_mem_take hx)
theorem okZ.drop {a : List Int} (h : okZ a) (n : Nat) : okZ (a.drop n) := fun x hx => h x (List.mem_of_mem_drop hx)
theorem okZ.at {a : List Int} (h : okZ a) (i : Nat) : -9223372036854775808 ≤ a[i]?.getD 0 ∧ a[i]?.getD 0 ≤ 9223372036854775807 := by
  by_cases hi : i < a.length
  · rw [List.getElem?_eq_getElem hi]; exact h _ (List.getElem_mem hi)
  · rw [List.getElem?_eq_none (by omega)]; decide
theorem okZ.one {x : Int} (h0 : -9223372036854775808 ≤ x) (h1 : x ≤ 9223372036854775807) : okZ [x] := fun y hy => by simp at hy; subst hy; exact ⟨h0, h1⟩

/-- What is owned lies in a block between 'base' and the heap's end. -/
theorem OwnZ.lt {w : World} {base : Nat} {v : Value} {l : List Int} (h : OwnZ w base v l) : ∀ k, v.ownBlock = some k → base ≤ k ∧ k < w.heap.size := h.2.lt

theorem OwnZ.mono {w : World} {base base' : Nat} {v : Value} {l : List Int} (h : OwnZ w base v l) (hb : base' ≤ base) : OwnZ w base' v l := by
  refine ⟨h.1, h.2.1, ?_⟩
  rcases h.2.2 with h' | ⟨g, cap, cur, h1, h2, h3⟩
  · exact .inl h'
  · exact .inr ⟨g, cap, cur, h1, by omega, h3⟩

/-- The length that a readable value bears. -/
theorem Ints.shape {w : World} {v : Value} {l : List Int} (h : Ints w v l) : ∃ a cap, v = .slice a l.length cap ∧ l.length ≤ cap ∧ cap ≤ maxLen := by
  obtain ⟨_, hm, ⟨rfl, rfl⟩ | ⟨x, cap, rfl, hc, rfl⟩ | ⟨b, off, cap, rfl, h1, h2, _⟩⟩ := h
  · exact ⟨none, 0, rfl, Nat.le_refl _, hm⟩
  · exact ⟨some x, cap, rfl, Nat.zero_le _, hc⟩
  · exact ⟨_, cap, rfl, h1, h2⟩

/-- A world in which all blocks that were there stand as they stood. -/
theorem Ints.keep {w w' : World} {v : Value} {l : List Int} (h : Ints w v l) (hb : Below w.heap.size w w') : Ints w' v l := by
  obtain ⟨hok, hm, h1 | h2 | ⟨b, off, cap, rfl, h1, h2, h3, h4, h5⟩⟩ := h
  · exact ⟨hok, hm, .inl h1⟩
  · exact ⟨hok, hm, .inr (.inl h2)⟩
  · exact ⟨hok, hm, .inr (.inr ⟨b, off, cap, rfl, h1, h2, h3, Nat.lt_of_lt_of_le h4 hb.size, fun i hi => by rw [hb.cell (p := ⟨b, off + i, none⟩) h4]; exact h5 i hi⟩)⟩

theorem OwnZ.keep {w w' : World} {base : Nat} {v : Value} {l : List Int} (h : OwnZ w base v l) (hb : Below w.heap.size w w') : OwnZ w' base v l :=
  ⟨h.1, h.2.kept (row := none) ⟨hb.os, hb.tape, hb.output, hb.size, fun k hk _ => hb.block k hk⟩ (by cases hv : v.ownBlock <;> simp)⟩

end Go.Proofs.YtpijenlmfmknnaaGreatDoor

/- An argument of a law that can be read as data is a row of numbers, a stamp, an operation: what the data's readings open to. No condition. -/
namespace Go.Proofs.YtpijenlmfmknnaaGreatDoor
open Go.RowKit Go.ChangeShapes
set_option linter.unusedVariables false
set_option maxRecDepth 100000

variable {H : Type} {enc : TypeId × Value → H} {W : World} {held : Bool}

theorem open_bytesO {fuel : Nat} {cs : List Value} {x : DataW H × List MemPlace} (h : DataW.trod enc Tryz.prog W 0 (fun _ => true) held fuel 22 cs = some x) :
    ∃ v l, cs = [v] ∧ Byt W v l := by
  rcases open_ints Tryz.underlying22 Tryz.underlying5 (by kernel_rfl) h with ⟨hcs, _⟩ | ⟨a, len, cap, zs, hcs, _, hl, hm, hz, _, hcell, hwz⟩
  · exact ⟨_, _, hcs, byt_of_row (zs := []) (.inl ⟨rfl, rfl, rfl, rfl⟩)⟩
  · exact ⟨_, _, hcs, byt_of_row (.inr ⟨_, rfl, hl, hm, by simpa using hz, hcell, hwz⟩)⟩
/-- An argument that is a row of bytes. -/
theorem arg_bytesO {r : Reach} {base : Nat} {v : Value} {d : DataW H} {p : List MemPlace} (hv : Value.okWide Tryz.prog W r base 22 v) (h : DataW.Trod enc Tryz.prog W 0 (fun _ => true) held 22 v d p) : ∃ l, Byt W v l := by
  obtain ⟨a, len, cap, rfl⟩ := WideShapes.okWide_slice Tryz.underlying22 hv
  obtain ⟨fuel, hf⟩ := h
  obtain ⟨u, l, hu, hb⟩ := open_bytesO hf
  simp [Value.cells] at hu
  subst hu
  exact ⟨l, hb⟩
end Go.Proofs.YtpijenlmfmknnaaGreatDoor
