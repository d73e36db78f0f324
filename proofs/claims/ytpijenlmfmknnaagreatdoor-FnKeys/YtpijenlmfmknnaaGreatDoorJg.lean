/- Own texts joined: AttrI, OnceI, OnceJ, HasI, NodeS, Tool, PartI, OpenE, OpenT, Pre, WalkI, NodeI, EvXn. -/
import Derived.Test.YtpijenlmfmknnaaGreatDoorJa
import Derived.Test.YtpijenlmfmknnaaGreatDoorJb
import Derived.Test.YtpijenlmfmknnaaGreatDoorJc
import Derived.Test.YtpijenlmfmknnaaGreatDoorJd
import Derived.Test.YtpijenlmfmknnaaGreatDoorJe
import Derived.Test.YtpijenlmfmknnaaGreatDoorJf
import Derived.Test.YtpijenlmfmknnaaGreatDoorChecked
import Derived.WideMake
import Derived.Defers
import Derived.Laws.LoneSync
import Derived.Laws.Pointers
import Derived.RegionTactic
import Derived.RegionCalls
import Derived.Test.YtpijenlmfmknnaaGreatDoorProg
import Derived.ChangeArms
import Derived.ChangeSlices
import Derived.WideShapes

/- impl.attrsOk answers what the plain test says. -/
namespace Go.Proofs.YtpijenlmfmknnaaGreatDoor
open Go.RowKit
set_option linter.unusedVariables false
set_option maxRecDepth 100000

open Classical in
set_option maxHeartbeats 3200000 in
theorem attrsI_any (w : World) (v : Value) (l : List (List Int × List Int)) (h : RdAttrs w v l) :
    Calls Tryz.prog 141 #[v] w fun e w' => e = .returned (.bool (decide (AttrsOk l))) ∧ Below w.heap.size w w' := by
  by_cases hl : 4 < l.length
  · obtain ⟨a, cap, rfl, _⟩ := Elems.shape h
    have HD := hide (show decide (AttrsOk l) = false by simp only [decide_eq_false_iff_not]; rintro ⟨_, _⟩; omega)
    have d2 : (4 : Int) < (l.length : Int) := by omega
    go_enter Tryz.func141, Tryz.ntmps141
    go_wp2_with fail
    go_ret
    exact ⟨by rw [unhide HD]; rfl, Below.refl _ _⟩
  have d2 : ¬ (4 : Int) < (l.length : Int) := by omega
  by_cases h0 : l = []
  · obtain ⟨a, cap, rfl, _⟩ := Elems.shape h
    subst h0
    have HD := hide (show decide (AttrsOk []) = true by simp only [decide_eq_true_eq]; exact ⟨by simp, fun i hi => by simp at hi⟩)
    go_enter Tryz.func141, Tryz.ntmps141
    go_wp2_with fail
    refine wp_loop_rounds 1 ?_
    rw [rounds_succ]
    go_wp2_with fail
    go_ret
    exact ⟨by rw [unhide HD]; rfl, Below.refl _ _⟩
  obtain ⟨_, ⟨_, e⟩ | ⟨_, _, _, _, e⟩ | ⟨b, off, cap, rfl, g1, g2, g3, g4, g5⟩⟩ := h
  · exact absurd e h0
  · exact absurd e h0
  go_enter Tryz.func141, Tryz.ntmps141
  go_wp2_with fail
  go_loopw [10] (fun i wr => ∃ k : Nat, k ≤ l.length ∧ i = .int .i64 k ∧ (∀ i, i < k → attrAt l i) ∧ Below w.heap.size w wr) (fun i _ => l.length - (intOf i).toNat)
  case atStart => exact ⟨0, Nat.zero_le _, rfl, fun i hi => by omega, Below.refl _ _⟩
  case round =>
    obtain ⟨k, hk, rfl, ha, hB⟩ := hrel
    have HA := hide ha
    clear ha
    by_cases hlt : k < l.length
    · obtain ⟨c0, c1, e0, e1, hc⟩ := two_of (g5 k hlt)
      obtain ⟨_, _, ee, hc0, hc1⟩ := hc
      simp only [List.cons.injEq, and_true] at ee
      obtain ⟨rfl, rfl⟩ := ee
      replace e0 := (hB.cell (p := ⟨b, off + k * 2, none⟩) g4).trans e0
      replace e1 := (hB.cell (p := ⟨b, off + k * 2 + 1, none⟩) g4).trans e1
      replace hc0 := hc0.keep hB
      replace hc1 := hc1.keep hB
      have hlt' : (k : Int) < (l.length : Int) := by omega
      have hk0 : (0 : Int) ≤ (k : Int) := by omega
      obtain ⟨x, hx⟩ : ∃ x, x = l[k] := ⟨_, rfl⟩
      rw [← hx] at hc0 hc1
      have hgd : l.getD k ([], []) = x := by rw [hx]; simp [hlt]
      obtain ⟨a0, n0, hv0, _, _⟩ := hc0.shape
      obtain ⟨a1, n1, hv1, _, _⟩ := hc1.shape
      subst hv0 hv1
      have HGD := hide hgd
      have HX := hide hx
      clear hgd hx
      have hB1 : Below wr.heap.size wr (wr.alloc (.cells #[.slice a0 x.1.length n0, .slice a1 x.2.length n1] 209)) := (Below.refl _ _).alloc (Nat.le_refl _) _
      have l1 := Loc.made wr #[.slice a0 x.1.length n0, .slice a1 x.2.length n1] 209
      have hcell : ∀ j, j < l.length → ∃ y : Value, y ∈ [y] ∧ wr.cell? ⟨b, off + j * 2, none⟩ = some y ∧ Byt wr y (l.getD j ([], [])).1 := by
        intro j hj
        obtain ⟨p0, p1, u0, u1, hp⟩ := two_of (g5 j hj)
        obtain ⟨_, _, ee, hp0, hp1⟩ := hp
        simp only [List.cons.injEq, and_true] at ee
        obtain ⟨rfl, rfl⟩ := ee
        exact ⟨_, by simp, (hB.cell (p := ⟨b, off + j * 2, none⟩) g4).trans u0, by rw [show l.getD j ([], []) = l[j] by simp [hj]]; exact hp0.keep hB⟩
      have HC := hide hcell
      clear hcell g5
      have hbs : b < wr.heap.size := Nat.lt_of_lt_of_le g4 hB.size
      generalize hn0 : x.1.length = m0 at *
      generalize hn1 : x.2.length = m1 at *
      clear hn0 hn1
      go_wp2_with fail
      generalize wr.alloc (.cells #[.slice a0 m0 n0, .slice a1 m1 n1] 209) = w1 at *
      have c0 : w1.cell? ⟨wr.heap.size, 0, none⟩ = some (.slice a0 m0 n0) := l1.cell 0
      have c1 : w1.cell? ⟨wr.heap.size, 1, none⟩ = some (.slice a1 m1 n1) := l1.cell 1
      have hA1 := bstep hB hB1
      have HB1 := hide hB1
      clear hB1 e0 e1
      refine (nameI_any w1 _ x.1 (hc0.keep (unhide HB1))).mono ?_
      rintro e w1 ⟨rfl, rfl⟩
      by_cases hn : NameOk x.1
      · rw [show decide (NameOk x.1) = true by simpa using hn]
        go_wp2_with fail
        refine (textI_any w1 _ x.2 (hc1.keep (unhide HB1))).mono ?_
        rintro e w1 ⟨rfl, rfl⟩
        by_cases ht : TextOk x.2
        · rw [show decide (TextOk x.2) = true by simpa using ht]
          by_cases hkz : k = 0
          · have HT := hide (show attrAt l k from ⟨by rw [unhide HGD]; exact hn, by rw [unhide HGD]; exact ht, fun h => by omega⟩)
            subst hkz
            clear hn ht HC HX HGD hc0 hc1 HB1
            go_wp2_with fail
            go_quiet (fail)
            go_wp2_with fail
            go_roundw
            case rel => exact ⟨1, by omega, by go_num, fun i hi => by obtain rfl : i = 0 := (by omega); exact unhide HT, below_drewN hA1 _⟩
            case measure => simp [intOf]; omega
          · obtain ⟨y, _, u0, hp0⟩ := unhide HC (k - 1) (by omega)
            have hB1 := unhide HB1
            replace u0 := (hB1.cell (p := ⟨b, off + (k - 1) * 2, none⟩) hbs).trans u0
            replace hp0 := hp0.keep hB1
            have hx0 := hc0.keep hB1
            generalize hy : (l.getD (k - 1) ([], [])).1 = yl at *
            obtain ⟨a2, n2, hv2, _, _⟩ := hp0.shape
            subst hv2
            generalize yl.length = m2 at *
            have hkp : 0 < k := by omega
            have hkd : decide (0 < k) = true := by simp; omega
            have hk1 : (0 : Int) ≤ (k : Int) - 1 := by omega
            have hk2 : (k : Int) - 1 < (l.length : Int) := by omega
            have hk3 : ((k : Int) - 1).toNat = k - 1 := by omega
            have hcq : ∀ q, Calls Tryz.prog 180 #[.slice a2 m2 n2, .slice a0 m0 n0] (w1.drewN q) fun e w' => e = .returned (.int .i64 (cmpB yl x.1)) ∧ w' = w1.drewN q := fun q => cmpI_any _ _ _ _ _ (hp0.keep (below_drewN (Below.refl _ _) q)) (hx0.keep (below_drewN (Below.refl _ _) q))
            have HQ := hide hcq
            have hlc := lessB_cmp yl x.1
            by_cases hl2 : lessT yl x.1 = true
            · have HT := hide (show attrAt l k from ⟨by rw [unhide HGD]; exact hn, by rw [unhide HGD]; exact ht, fun _ => by rw [unhide HGD, hy]; exact hl2⟩)
              have hcz : decide (0 ≤ cmpB yl x.1) = false := by rw [hlc] at hl2; simp at hl2 ⊢; omega
              have hcz' : ¬ 0 ≤ cmpB yl x.1 := by simpa using hcz
              clear hn ht HX HGD hc0 hc1 HB1 HC hcq hlc hl2 hy hp0 hx0 hB1
              generalize cmpB yl x.1 = cm at *
              go_wp2_with fail
              go_quiet ((go_at_call 180; exact Calls.quiet_of_same (unhide HQ _)))
              go_wp2_with fail
              go_roundw
              case rel => exact ⟨k + 1, by omega, by go_num, fun i hi => step_all (unhide HA) (unhide HT) i hi, below_drewN hA1 _⟩
              case measure => simp [intOf]; omega
            · have HF := hide (show decide (AttrsOk l) = false by
                simp only [decide_eq_false_iff_not]
                rintro ⟨_, h⟩
                exact hl2 (by have := (h k hlt).2.2 (by omega); rwa [unhide HGD, hy] at this))
              have hcz : decide (0 ≤ cmpB yl x.1) = true := by rw [hlc] at hl2; simp at hl2 ⊢; omega
              have hcz' : 0 ≤ cmpB yl x.1 := by simpa using hcz
              clear hn ht HX HGD hc0 hc1 HB1 HC hcq hlc hl2 hy hp0 hx0 hB1
              generalize cmpB yl x.1 = cm at *
              go_wp2_with fail
              go_quiet ((go_at_call 180; exact Calls.quiet_of_same (unhide HQ _)))
              go_wp2_with fail
              go_ret
              exact ⟨by rw [unhide HF]; rfl, below_drewN hA1 _⟩
        · rw [show decide (TextOk x.2) = false by simpa using ht]
          have HF := hide (show decide (AttrsOk l) = false by
            simp only [decide_eq_false_iff_not]
            rintro ⟨_, h⟩
            exact ht (by have := (h k hlt).2.1; rwa [unhide HGD] at this))
          clear hn ht
          go_wp2_with fail
          go_ret
          exact ⟨by rw [unhide HF]; rfl, hA1⟩
      · have hd : decide (NameOk x.1) = false := by simpa using hn
        rw [hd]
        have HF := hide (show decide (AttrsOk l) = false by
          simp only [decide_eq_false_iff_not]
          rintro ⟨_, h⟩
          exact hn (by have := (h k hlt).1; rwa [unhide HGD] at this))
        clear hn hd
        go_wp2_with fail
        go_ret
        exact ⟨by rw [unhide HF]; rfl, hA1⟩
    · have e : k = l.length := by omega
      subst e
      have HF := hide (show decide (AttrsOk l) = true by simp only [decide_eq_true_eq]; exact ⟨by omega, unhide HA⟩)
      clear g5
      go_wp2_with fail
      go_ret
      exact ⟨by rw [unhide HF]; rfl, hB⟩
end Go.Proofs.YtpijenlmfmknnaaGreatDoor

/- The set of void names: the map that fill makes, and sync.Once over it, by contracts: the lock, the two deferred calls, doSlow. -/
namespace Go.Proofs.YtpijenlmfmknnaaGreatDoor
open Go.RowKit
set_option linter.unusedVariables false
set_option maxRecDepth 100000

/-- The map of br and hr, as it is made. -/
def voidMap : Obj := .map #[{ key := .string ⟨#[98, 114]⟩, val := .agg #[], born := 0 }, { key := .string ⟨#[104, 114]⟩, val := .agg #[], born := 1 }] 2

theorem alloc_put (W : World) (o o' : Obj) : ({ (W.alloc o) with heap := (W.alloc o).heap.setIfInBounds W.heap.size o' } : World) = W.alloc o' := by
  have e : (W.heap.push o).setIfInBounds W.heap.size o' = W.heap.push o' := by
    apply Array.ext'
    rw [Array.toList_setIfInBounds, Array.toList_push, Array.toList_push]
    rw [List.set_append_right _ _ (by simp)]
    simp
  show ({ W with heap := (W.heap.push o).setIfInBounds W.heap.size o' } : World) = { W with heap := W.heap.push o' }
  rw [e]

theorem br_in (W : World) : (Instr.mapUpdate 82 (.map (some W.heap.size)) (.string ⟨#[98, 114]⟩) (.agg #[])).run Tryz.prog (W.alloc (.map #[] 0)) = .ok () (W.alloc (.map #[{ key := .string ⟨#[98, 114]⟩, val := .agg #[], born := 0 }] 1)) := by
  rw [run_mapUpdate_first (P := Tryz.prog) (W.alloc (.map #[] 0)) 82 9 70 W.heap.size 0 ⟨#[98, 114]⟩ (.agg #[]) Tryz.underlying82 Tryz.underlying9 (heap_alloc_new W _), alloc_put]
theorem hr_in (W : World) : (Instr.mapUpdate 82 (.map (some W.heap.size)) (.string ⟨#[104, 114]⟩) (.agg #[])).run Tryz.prog (W.alloc (.map #[{ key := .string ⟨#[98, 114]⟩, val := .agg #[], born := 0 }] 1)) = .ok () (W.alloc voidMap) := by
  have hb := heap_alloc_new W (.map #[{ key := .string ⟨#[98, 114]⟩, val := .agg #[], born := 0 }] 1)
  have hf : Instr.findNow .string (.string ⟨#[104, 114]⟩) ([{ key := .string ⟨#[98, 114]⟩, val := .agg #[], born := 0 }] : List MapEntry) 0 = some none := rfl
  have hc : (Instr.checkKey false 10000 9 (.string ⟨#[104, 114]⟩)).run Tryz.prog (W.alloc (.map #[{ key := .string ⟨#[98, 114]⟩, val := .agg #[], born := 0 }] 1)) = .ok () (W.alloc (.map #[{ key := .string ⟨#[98, 114]⟩, val := .agg #[], born := 0 }] 1)) := MapKept.run_checkKey (k := .string ⟨#[104, 114]⟩) Tryz.underlying9 (by simp [MapKept.IsKey]) false 9999
  simp [Instr.mapUpdate, run_underlying Tryz.underlying82, MapKept.run_getObj_map hb, hc, MapKept.run_findKey Tryz.underlying9 hf, MapKept.run_setObj_map _ hb, Result.andThen]
  exact alloc_put W _ _

theorem fill_any (g : Nat) (w : World) (cs : Array Value) (hl : Loc w g cs 84) (c3 : Value) (h3 : w.cell? ⟨g, 3, none⟩ = some c3) :
    Calls Tryz.prog 143 #[.pointer (some ⟨g, 0, none⟩)] w fun e w' => e = .returned (.tuple #[]) ∧ w' = (w.setCell ⟨g, 3, none⟩ (.map (some w.heap.size))).alloc voidMap := by
  have hmm := @run_makeMap Tryz.prog
  have h1 := br_in w
  have h2 := hr_in w
  have hg := hl.lt
  have f3 := hl.frozen 3
  go_enter Tryz.func143, Tryz.ntmps143
  go_wp2
  go_end0
  exact ⟨rfl, rfl⟩

theorem disable (w : World) : (callFunc 258 #[]).run Tryz.prog w = .ok (.value (.tuple #[])) w := run_call_mark0 Tryz.func258 (by kernel_rfl) (by kernel_rfl) (by kernel_rfl) .disable (by kernel_rfl) w
theorem enable (w : World) : (callFunc 260 #[]).run Tryz.prog w = .ok (.value (.tuple #[])) w := run_call_mark0 Tryz.func260 (by kernel_rfl) (by kernel_rfl) (by kernel_rfl) .enable (by kernel_rfl) w
theorem acquire (a : Addr) (w : World) : (callFunc 261 #[.pointer (some a)]).run Tryz.prog w = .ok (.value (.tuple #[])) w := run_call_marked Tryz.func261 (by kernel_rfl) (by kernel_rfl) (by kernel_rfl) .acquire (by kernel_rfl) a w
theorem releaseMerge (a : Addr) (w : World) : (callFunc 263 #[.pointer (some a)]).run Tryz.prog w = .ok (.value (.tuple #[])) w := run_call_marked Tryz.func263 (by kernel_rfl) (by kernel_rfl) (by kernel_rfl) .releaseMerge (by kernel_rfl) a w

theorem store_deferred (a : Addr) (x : Value) (u : FrameMode) (w : World) (hc : w.cell? a = some x) (hz : w.frozen? a = false) :
    CallsD Tryz.prog 210 #[.pointer (some a), .bool true] u w fun e u' w' => u' = u ∧ (e = .returned (.tuple #[]) ∧ w' = w.drew.setCell a (.int .u32 1)) := by
  have hc' : w.drew.cell? a = some x := by go_simp
  have hz' : w.drew.frozen? a = false := by go_simp
  have hst := run_call_store (P := Tryz.prog) Tryz.func238 (by kernel_rfl) (by kernel_rfl) (by kernel_rfl) (by kernel_rfl) (k := .u32) (y := 1) hc' hz'
  go_enter_d Tryz.func210, Tryz.ntmps210
  go_wp2
  go_region_calls
  all_goals (go_end0; exact ⟨rfl, rfl⟩)

theorem unlock_deferred (a : Addr) (u : FrameMode) (w : World) (hc : w.cell? a = some (.int .i32 1)) (hz : w.frozen? a = false) :
    CallsD Tryz.prog 209 #[.pointer (some a)] u w fun e u' w' => u' = u ∧ (e = .returned (.tuple #[]) ∧ w' = w.setCell a (.int .i32 0)) := by
  have hd := disable
  have he := enable
  have hr := releaseMerge
  have hadd := run_call_add (P := Tryz.prog) Tryz.func264 (by kernel_rfl) (by kernel_rfl) (by kernel_rfl) .i32 (by kernel_rfl) (y := -1) (s := 0) hc hz (by simp [go_sem]; rfl)
  have hcv := run_convert_to_unsafe (P := Tryz.prog) (src := 359) (dst := 223) Tryz.underlying359 Tryz.underlying223 (by kernel_rfl) hc
  go_enter_d Tryz.func209, Tryz.ntmps209
  go_wp2
  go_end0
  go_wp2
  go_end0
  exact ⟨rfl, rfl⟩

theorem lock_free (a : Addr) (w : World) (hc : w.cell? a = some (.int .i32 0)) (hz : w.frozen? a = false) :
    Calls Tryz.prog 208 #[.pointer (some a)] w fun e w' => e = .returned (.tuple #[]) ∧ w' = w.setCell a (.int .i32 1) := by
  have hd := disable
  have he := enable
  have ha := acquire
  have hcas := run_call_cas_hit (P := Tryz.prog) Tryz.func259 (by kernel_rfl) (by kernel_rfl) (by kernel_rfl) .i32 (by kernel_rfl) (y := 1) hc hz
  have hc' : (w.setCell a (.int .i32 1)).cell? a = some (.int .i32 1) := World.cell?_setCell_same w a _ hc
  have hcv := run_convert_to_unsafe (P := Tryz.prog) (src := 359) (dst := 223) Tryz.underlying359 Tryz.underlying223 (by kernel_rfl) hc'
  go_enter Tryz.func208, Tryz.ntmps208
  go_wp2
  first | go_end0 | (simp only [Exit.inBlock, Exit.then]; refine bodyPost_ret (results_none rfl _ _ _) rfl ?_) | refine bodyPost_ret (results_none rfl _ _ _) rfl ?_
  go_wp2
  go_end0
  exact ⟨rfl, rfl⟩

end Go.Proofs.YtpijenlmfmknnaaGreatDoor

/- sync.Once over the set of void names: doSlow and Do, the first time and later; has. -/
namespace Go.Proofs.YtpijenlmfmknnaaGreatDoor
open Go.RowKit
set_option linter.unusedVariables false
set_option maxRecDepth 100000

/-- A set that is not yet made; that is made. -/
def vs0 : Array Value := #[.int .u32 0, .int .i32 0, .int .u32 0, .map none]
def vs1 (m : Nat) : Array Value := #[.int .u32 1, .int .i32 0, .int .u32 0, .map (some m)]

theorem load_any (a : Addr) (x : Int) (w : World) (hc : w.cell? a = some (.int .u32 x)) (b : Bool) (hb : (x != 0) = b) :
    Calls Tryz.prog 181 #[.pointer (some a)] w fun e w' => e = .returned (.bool b) ∧ w' = w := by
  have hlo := run_call_load (P := Tryz.prog) Tryz.func207 (by kernel_rfl) (by kernel_rfl) (by kernel_rfl) .u32 (by kernel_rfl) hc
  go_enter Tryz.func181, Tryz.ntmps181
  go_wp2
  go_ret
  exact ⟨rfl, rfl⟩

theorem Frm.drew (w : World) (S : List Nat) : Frm w w.drew S := Frm.ofBelow ((Below.refl _ _).drew) S
theorem setCell_os (w : World) (a : Addr) (v : Value) : (w.setCell a v).os = w.os := by unfold World.setCell; repeat (first | rfl | split)
theorem setCell_tape (w : World) (a : Addr) (v : Value) : (w.setCell a v).tape = w.tape := by unfold World.setCell; repeat (first | rfl | split)
theorem setCell_output (w : World) (a : Addr) (v : Value) : (w.setCell a v).output = w.output := by unfold World.setCell; repeat (first | rfl | split)
theorem Frm.set (w : World) (g j : Nat) (v : Value) : Frm w (w.setCell ⟨g, j, none⟩ v) [g] :=
  ⟨setCell_os w _ v, setCell_tape w _ v, setCell_output w _ v, by simp, fun i _ hn => heap_setCell_other w ⟨g, j, none⟩ i v (fun e => hn (by simp; exact e))⟩
theorem Frm.alloc (w : World) (o : Obj) (S : List Nat) : Frm w (w.alloc o) S := Frm.ofBelow ((Below.refl _ _).alloc (Nat.le_refl _) _) S

set_option maxHeartbeats 1600000 in
theorem slow_any (g : Nat) (w : World) (hl : Loc w g vs0 84) :
    Calls Tryz.prog 182 #[.pointer (some ⟨g, 0, none⟩), .func (.func 143) #[.pointer (some ⟨g, 0, none⟩)] #[]] w fun e w' => e = .returned (.tuple #[]) ∧ ∃ m, w.heap.size ≤ m ∧ Loc w' g (vs1 m) 84 ∧ w'.heap[m]? = some voidMap ∧ Frm w w' [g] := by
  have h1 : w.cell? ⟨g, 1, none⟩ = some (.int .i32 0) := hl.cell 1
  have f1 := hl.frozen 1
  have l1 : Loc (w.setCell ⟨g, 1, none⟩ (.int .i32 1)) g #[.int .u32 0, .int .i32 1, .int .u32 0, .map none] 84 := hl.set 1 (.int .i32 1)
  have F1 := Frm.set w g 1 (.int .i32 1)
  have hnot : ∀ (x : Bool) (w : World), (Op.unary .not (.bool x)).run Tryz.prog w = .ok (.bool (!x)) w := fun _ _ => rfl
  go_enter_defers Tryz.func182, Tryz.ntmps182
  go_wp2_with (go_at_call 208; refine (lock_free ⟨g, 1, none⟩ _ (by go_simp) (by go_simp)).mono ?_; rintro e w' ⟨rfl, rfl⟩)
  generalize w.setCell ⟨g, 1, none⟩ (.int .i32 1) = w1 at *
  refine (load_any ⟨g, 0, none⟩ 0 w1 (l1.cell 0) false (by simp)).mono ?_
  rintro e w1 ⟨rfl, rfl⟩
  go_wp2_with fail
  refine (fill_any g w1 _ l1 _ (l1.cell 3)).mono ?_
  rintro e w2 ⟨rfl, hw2⟩
  have l2 : Loc w2 g #[.int .u32 0, .int .i32 1, .int .u32 0, .map (some w1.heap.size)] 84 := by rw [hw2]; exact (l1.set 3 (.map (some w1.heap.size))).alloc _
  have m2 : w2.heap[w1.heap.size]? = some voidMap := by rw [hw2]; have := heap_alloc_new (w1.setCell ⟨g, 3, none⟩ (.map (some w1.heap.size))) voidMap; rwa [show (w1.setCell ⟨g, 3, none⟩ (.map (some w1.heap.size))).heap.size = w1.heap.size by simp] at this
  have F2 : Frm w1 w2 [g] := by rw [hw2]; exact (Frm.set w1 g 3 _).trans (Frm.alloc _ _ _)
  have hne : w1.heap.size ≠ g := by have := l1.lt; omega
  have F12 := F1.trans F2
  have hmm := F1.size
  clear hw2
  generalize w1.heap.size = m at *
  go_wp2_with fail
  refine leaves_cons (f := 210) (args := #[.pointer (some ⟨g, 0, none⟩), .bool true]) (by simp) (by simp [go_sem]) ?_
  refine (store_deferred ⟨g, 0, none⟩ (.int .u32 0) .returning _ (l2.cell 0) (l2.frozen 0)).mono ?_
  rintro e u' w3 ⟨rfl, rfl, hw3⟩
  have ld : Loc w2.drew g #[.int .u32 0, .int .i32 1, .int .u32 0, .map (some m)] 84 := l2.frm (Frm.drew w2 []) (by simp)
  have l3 : Loc w3 g #[.int .u32 1, .int .i32 1, .int .u32 0, .map (some m)] 84 := by rw [hw3]; exact ld.set 0 (.int .u32 1)
  have F3 : Frm w2 w3 [g] := by rw [hw3]; exact (Frm.drew w2 _).trans (Frm.set _ g 0 _)
  clear hw3
  refine leaves_cons (f := 209) (args := #[.pointer (some ⟨g, 1, none⟩)]) (by simp [settle]) (by simp [go_sem]) ?_
  refine (unlock_deferred ⟨g, 1, none⟩ _ _ (l3.cell 1) (l3.frozen 1)).mono ?_
  rintro e u' w4 ⟨rfl, rfl, hw4⟩
  have l4 : Loc w4 g (vs1 m) 84 := by rw [hw4]; exact l3.set 1 (.int .i32 0)
  have F4 : Frm w3 w4 [g] := by rw [hw4]; exact Frm.set _ g 1 _
  have hm : m < w2.heap.size := by
    by_cases h : m < w2.heap.size
    · exact h
    · rw [Array.getElem?_eq_none (by omega)] at m2; cases m2
  have F34 := F3.trans F4
  have m4 : w4.heap[m]? = some voidMap := (F34.block m hm (by simpa using hne)).trans m2
  simp [Leaves, settle, results, Tryz.results182]
  exact ⟨m, hmm, l4, m4, F12.trans F34⟩
end Go.Proofs.YtpijenlmfmknnaaGreatDoor

/- sync.Once.Do over the set of void names, and the set asked: has. -/
namespace Go.Proofs.YtpijenlmfmknnaaGreatDoor
open Go.RowKit
set_option linter.unusedVariables false
set_option maxRecDepth 100000

/-- The set lies in block g, made or not yet. -/
def VMade (B : Nat) (w : World) (g : Nat) : Prop := ∃ m, B ≤ m ∧ Loc w g (vs1 m) 84 ∧ w.heap[m]? = some voidMap
def VSet (B : Nat) (w : World) (g : Nat) : Prop := Loc w g vs0 84 ∨ VMade B w g

theorem do_any (B g : Nat) (w : World) (h : VSet B w g) (hB : B ≤ w.heap.size) :
    Calls Tryz.prog 142 #[.pointer (some ⟨g, 0, none⟩), .func (.func 143) #[.pointer (some ⟨g, 0, none⟩)] #[]] w fun e w' => e = .returned (.tuple #[]) ∧ VMade B w' g ∧ Frm w w' [g] := by
  have hnot : ∀ (x : Bool) (w : World), (Op.unary .not (.bool x)).run Tryz.prog w = .ok (.bool (!x)) w := fun _ _ => rfl
  rcases h with hl | ⟨m, hbm, hl, hm⟩
  · have h0 : w.cell? ⟨g, 0, none⟩ = some (.int .u32 0) := hl.cell 0
    go_enter Tryz.func142, Tryz.ntmps142
    go_wp2_with fail
    refine (load_any ⟨g, 0, none⟩ 0 w h0 false (by simp)).mono ?_
    rintro e w ⟨rfl, rfl⟩
    go_wp2_with fail
    refine (slow_any g w hl).mono ?_
    rintro e w' ⟨rfl, m, hbm, l', m', F'⟩
    go_wp2_with fail
    go_end0
    exact ⟨rfl, ⟨m, Nat.le_trans hB hbm, l', m'⟩, F'⟩
  · have h0 : w.cell? ⟨g, 0, none⟩ = some (.int .u32 1) := hl.cell 0
    go_enter Tryz.func142, Tryz.ntmps142
    go_wp2_with fail
    refine (load_any ⟨g, 0, none⟩ 1 w h0 true (by simp)).mono ?_
    rintro e w ⟨rfl, rfl⟩
    go_wp2_with fail
    go_end0
    exact ⟨rfl, ⟨m, hbm, hl, hm⟩, Frm.refl _ _⟩

def voidS (s : ByteArray) : Bool := s == ⟨#[98, 114]⟩ || s == ⟨#[104, 114]⟩
theorem look_void (w : World) (m : Nat) (s : ByteArray) (hm : w.heap[m]? = some voidMap) :
    (Instr.lookup 82 (.map (some m)) (.string s) true).run Tryz.prog w = .ok (.tuple #[.agg #[], .bool (voidS s)]) w := by
  have hc : (Instr.checkKey false 10000 9 (.string s)).run Tryz.prog w = .ok () w := MapKept.run_checkKey (k := .string s) Tryz.underlying9 (by simp [MapKept.IsKey]) false 9999
  have hz : (zeroValue 70).run Tryz.prog w = .ok (.agg #[]) w := by kernel_rfl
  have hb : w.heap[m]? = some (.map #[{ key := .string ⟨#[98, 114]⟩, val := .agg #[], born := 0 }, { key := .string ⟨#[104, 114]⟩, val := .agg #[], born := 1 }] 2) := hm
  by_cases h1 : (s == ⟨#[98, 114]⟩) = true
  · have hf : Instr.findNow .string (.string s) ([{ key := .string ⟨#[98, 114]⟩, val := .agg #[], born := 0 }, { key := .string ⟨#[104, 114]⟩, val := .agg #[], born := 1 }] : List MapEntry) 0 = some (some (0, .agg #[])) := by simp [Instr.findNow, Instr.sameNow, h1]
    simp [Instr.lookup, run_underlying Tryz.underlying82, MapKept.run_getObj_map hb, hc, MapKept.run_findKey Tryz.underlying9 hf, Result.andThen, voidS, h1]
  · have h1' : (s == ⟨#[98, 114]⟩) = false := by simpa using h1
    by_cases h2 : (s == ⟨#[104, 114]⟩) = true
    · have hf : Instr.findNow .string (.string s) ([{ key := .string ⟨#[98, 114]⟩, val := .agg #[], born := 0 }, { key := .string ⟨#[104, 114]⟩, val := .agg #[], born := 1 }] : List MapEntry) 0 = some (some (1, .agg #[])) := by simp [Instr.findNow, Instr.sameNow, h1', h2]
      simp [Instr.lookup, run_underlying Tryz.underlying82, MapKept.run_getObj_map hb, hc, MapKept.run_findKey Tryz.underlying9 hf, Result.andThen, voidS, h1', h2]
    · have h2' : (s == ⟨#[104, 114]⟩) = false := by simpa using h2
      have hf : Instr.findNow .string (.string s) ([{ key := .string ⟨#[98, 114]⟩, val := .agg #[], born := 0 }, { key := .string ⟨#[104, 114]⟩, val := .agg #[], born := 1 }] : List MapEntry) 0 = some none := by simp [Instr.findNow, Instr.sameNow, h1', h2']
      simp [Instr.lookup, run_underlying Tryz.underlying82, MapKept.run_getObj_map hb, hc, MapKept.run_findKey Tryz.underlying9 hf, hz, Result.andThen, voidS, h1', h2']

theorem str_mk (l : List Int) (b : ByteArray) (h : b.data.toList = l.map (fun n => UInt8.ofNat n.toNat)) : str l = b :=
  ByteArray.ext (Array.ext' (by rw [str_list, h]))
open Classical in
theorem voidS_str (l : List Int) (hl : okB l) : voidS (str l) = decide (Void l) := by
  have e1 : (⟨#[98, 114]⟩ : ByteArray) = str [98, 114] := (str_mk _ _ rfl).symm
  have e2 : (⟨#[104, 114]⟩ : ByteArray) = str [104, 114] := (str_mk _ _ rfl).symm
  have hb : ∀ k, okB k → (str l == str k) = decide (l = k) := fun k hk => by
    by_cases h : l = k
    · subst h; rw [(MapKept.bytes_beq _ _).2 rfl]; simp
    · rw [decide_eq_false h, ← Bool.not_eq_true, MapKept.bytes_beq]
      intro e
      exact h (str_inj hl hk (by rw [e]))
  unfold voidS
  rw [e1, e2, hb _ okB_br, hb _ okB_hr]
  unfold Void
  rw [Bool.eq_iff_iff]
  simp

open Classical in
set_option maxHeartbeats 1600000 in
theorem has_any (B g : Nat) (w : World) (v : Value) (l : List Int) (h : VSet B w g) (hBB : B ≤ w.heap.size) (hv : ∀ w', Frm w w' [g] → Byt w' v l) :
    Calls Tryz.prog 107 #[.pointer (some ⟨g, 0, none⟩), v] w fun e w' => e = .returned (.bool (decide (Void l))) ∧ VMade B w' g ∧ Frm w w' [g] := by
  have hmf : ∀ (fn : Fn) (first cap : Array Value) (w : World), (Instr.makeFunc fn first cap).run Tryz.prog w = .ok (.func fn first cap) w := fun _ _ _ _ => rfl
  have hg : g < w.heap.size := by
    rcases h with h | ⟨m, _, h, _⟩
    · exact h.lt
    · exact h.lt
  obtain ⟨a1, k1, rfl, _⟩ := (hv w (Frm.refl _ _)).shape
  have HV := hide hv
  clear hv
  go_enter Tryz.func107, Tryz.ntmps107
  go_wp2_with fail
  refine (do_any B g w h hBB).mono ?_
  rintro e w1 ⟨rfl, ⟨m, hbm, l1, m1⟩, F1⟩
  have h3 : w1.cell? ⟨g, 3, none⟩ = some (.map (some m)) := l1.cell 3
  have h3d : w1.drew.cell? ⟨g, 3, none⟩ = some (.map (some m)) := l1.cell 3
  have h3a : (w1.alloc (.cells #[] 70)).cell? ⟨g, 3, none⟩ = some (.map (some m)) := (l1.alloc _).cell 3
  have hlt : m < w1.heap.size := by
    by_cases h : m < w1.heap.size
    · exact h
    · rw [Array.getElem?_eq_none (by omega)] at m1; cases m1
  have hb1 : Byt w1 _ l := unhide HV w1 F1
  have c1 := conv_any w1.drew _ l (hb1.keep ((Below.refl _ _).drew))
  have c2 := conv_any (w1.alloc (.cells #[] 70)).drew _ l (hb1.keep (((Below.refl _ _).alloc (Nat.le_refl _) _).drew))
  have q1 := fun s => look_void w1.drew m s m1
  have q2 := fun s => look_void (w1.alloc (.cells #[] 70)).drew m s ((heap_alloc_old w1 _ hlt).trans m1)
  have HS := hide (voidS_str l hb1.1)
  generalize str l = s at *
  generalize l.length = n at *
  go_wp2_with fail
  go_region
  all_goals
    go_wp2_with fail
    go_ret
    exact ⟨by rw [← unhide HS]; rfl, ⟨m, hbm, (l1.alloc _).all ((Below.refl _ _).drew), (heap_alloc_old w1 _ hlt).trans m1⟩, F1.trans ((Frm.alloc w1 _ _).trans (Frm.drew _ _))⟩
end Go.Proofs.YtpijenlmfmknnaaGreatDoor

/- spec.l2node and spec.NodeOk answer what the plain test says. -/
namespace Go.Proofs.YtpijenlmfmknnaaGreatDoor
open Go.RowKit
set_option linter.unusedVariables false

/-- The test of one, of all members, each with what the one before left. -/
def okK {α : Type} (f : α → Int → Bool × Int) : List α → Int → Bool × Int
  | [], left => (true, left)
  | x :: r, left => if (f x left).1 = true then okK f r (f x left).2 else (false, (f x left).2)

def voidB (l : List Int) : Bool := decide (l = [98, 114]) || decide (l = [104, 114])
theorem voidB_iff (l : List Int) : voidB l = true ↔ Void l := by unfold voidB Void; rw [Bool.or_eq_true, decide_eq_true_eq, decide_eq_true_eq]
def attrB (l : List (List Int × List Int)) (i : Nat) : Bool := nameB (l.getD i ([], [])).1 && textB (l.getD i ([], [])).2 && (decide (i = 0) || lessT (l.getD (i - 1) ([], [])).1 (l.getD i ([], [])).1)
theorem attrB_iff (l : List (List Int × List Int)) (i : Nat) : attrB l i = true ↔ attrAt l i := by
  unfold attrB attrAt
  rw [Bool.and_eq_true, Bool.and_eq_true, nameB_iff, textB_iff, Bool.or_eq_true, decide_eq_true_eq, and_assoc]
  constructor
  · rintro ⟨h1, h2, h3⟩
    exact ⟨h1, h2, fun h => h3.resolve_left (by omega)⟩
  · rintro ⟨h1, h2, h3⟩
    refine ⟨h1, h2, ?_⟩
    by_cases h : i = 0
    · exact .inl h
    · exact .inr (h3 (by omega))
def attrsB (l : List (List Int × List Int)) : Bool := decide (l.length ≤ 4) && (List.range l.length).all (attrB l)
theorem attrsB_iff (l : List (List Int × List Int)) : attrsB l = true ↔ AttrsOk l := by
  unfold attrsB AttrsOk
  rw [Bool.and_eq_true, decide_eq_true_eq, List.all_eq_true]
  constructor
  · rintro ⟨h1, h2⟩; exact ⟨h1, fun i hi => (attrB_iff l i).1 (h2 i (List.mem_range.2 hi))⟩
  · rintro ⟨h1, h2⟩; exact ⟨h1, fun i hi => (attrB_iff l i).2 (h2 i (List.mem_range.1 hi))⟩

/-- A text alone. -/
def LeafOk {α : Type} (t : Nd α) : Prop := t.name.length = 0 ∧ t.attrs.length = 0 ∧ t.kids.length = 0 ∧ TextOk t.text
def leafB {α : Type} (t : Nd α) : Bool := decide (t.name.length = 0) && decide (t.attrs.length = 0) && decide (t.kids.length = 0) && textB t.text
theorem leafB_iff {α : Type} (t : Nd α) : leafB t = true ↔ LeafOk t := by
  unfold leafB LeafOk
  rw [Bool.and_eq_true, Bool.and_eq_true, Bool.and_eq_true, textB_iff, decide_eq_true_eq, decide_eq_true_eq, decide_eq_true_eq, and_assoc, and_assoc]
/-- An element, its kids aside. -/
def ElemOk {α : Type} (t : Nd α) : Prop := t.kind = 0 ∧ NameOk t.name ∧ t.text.length = 0 ∧ AttrsOk t.attrs ∧ ¬ (Void t.name ∧ 0 < t.kids.length)
def elemB {α : Type} (t : Nd α) : Bool := decide (t.kind = 0) && nameB t.name && decide (t.text.length = 0) && attrsB t.attrs && !(voidB t.name && decide (0 < t.kids.length))
theorem elemB_iff {α : Type} (t : Nd α) : elemB t = true ↔ ElemOk t := by
  unfold elemB ElemOk
  rw [Bool.and_eq_true, Bool.and_eq_true, Bool.and_eq_true, Bool.and_eq_true, nameB_iff, attrsB_iff, decide_eq_true_eq, decide_eq_true_eq, Bool.not_eq_true', ← Bool.not_eq_true, Bool.and_eq_true, voidB_iff, decide_eq_true_eq, and_assoc, and_assoc, and_assoc]

/-- May the tree be, 'deep' deep, where 'left' nodes are left? And how many are left then. -/
def okT : (n : Nat) → Int → Tr n → Int → Bool × Int
  | 0 => fun _ t _ => t.elim
  | n + 1 => fun deep t left => if left - 1 < 0 ∨ 20 < deep then (false, left - 1) else if t.kind = 1 then (leafB t, left - 1) else if elemB t = true then okK (okT n (deep + 1)) t.kids (left - 1) else (false, left - 1)

theorem okT_succ (n : Nat) (deep : Int) (t : Tr (n + 1)) (left : Int) : okT (n + 1) deep t left = if left - 1 < 0 ∨ 20 < deep then (false, left - 1) else if t.kind = 1 then (leafB t, left - 1) else if elemB t = true then okK (okT n (deep + 1)) t.kids (left - 1) else (false, left - 1) := rfl
/-- May the tree be. -/
def okN (n : Nat) (t : Tr (n + 1)) : Bool := decide (t.kind = 0) && (okT (n + 1) 1 t 120).1

end Go.Proofs.YtpijenlmfmknnaaGreatDoor

/- Small tools: locals made one behind the other, an element at a place, the five cells of a node's local. -/
namespace Go.Proofs.YtpijenlmfmknnaaGreatDoor
open Go.RowKit
set_option linter.unusedVariables false
set_option maxRecDepth 100000

/-- Two locals of their own, made one behind the other. -/
theorem two (w : World) (A Z : Array Value) (TA T : TypeId) : Loc ((w.alloc (.cells A TA)).alloc (.cells Z T)) w.heap.size A TA ∧ Loc ((w.alloc (.cells A TA)).alloc (.cells Z T)) (w.heap.size + 1) Z T ∧ Below w.heap.size w ((w.alloc (.cells A TA)).alloc (.cells Z T)) := by
  refine ⟨(Loc.made w A TA).alloc _, ?_, ((Below.refl _ _).alloc (Nat.le_refl _) _).alloc (by simp) _⟩
  have := Loc.made (w.alloc (.cells A TA)) Z T
  simp only [World.size_alloc] at this
  exact this

/-- The element at a place, where there is one. -/
theorem Elems.at {α : Type} {w : World} {size m : Nat} {a : Option Addr} {cap k : Nat} {l : List α} {R : List Value → α → Prop} (h : Elems w size (.slice a m cap) l R) (hk : k < l.length) :
    ∃ b off, a = some ⟨b, off, none⟩ ∧ b < w.heap.size ∧ m = l.length ∧ m ≤ cap ∧ ∃ C : List Value, C.length = size ∧ (∀ j, j < size → w.cell? ⟨b, off + k * size + j, none⟩ = C[j]?) ∧ R C l[k] := by
  obtain ⟨_, ⟨_, e⟩ | ⟨_, _, _, _, e⟩ | ⟨b, off, c, e, g1, g2, g3, g4, g5⟩⟩ := h
  · subst e; simp at hk
  · subst e; simp at hk
  · injection e with e1 e2 e3
    subst e1 e2 e3
    exact ⟨b, off, rfl, g4, rfl, g1, g5 k hk⟩

/-- The five cells of a local of its own. -/
theorem Loc.five {w : World} {g : Nat} {a b c d e : Value} {T : TypeId} (h : Loc w g #[a, b, c, d, e] T) :
    w.cell? ⟨g, 0, none⟩ = some a ∧ w.cell? ⟨g, 1, none⟩ = some b ∧ w.cell? ⟨g, 2, none⟩ = some c ∧ w.cell? ⟨g, 3, none⟩ = some d ∧ w.cell? ⟨g, 4, none⟩ = some e :=
  ⟨h.cell 0, h.cell 1, h.cell 2, h.cell 3, h.cell 4⟩

end Go.Proofs.YtpijenlmfmknnaaGreatDoor

/- impl.partOk answers what the plain test of one node says. -/
namespace Go.Proofs.YtpijenlmfmknnaaGreatDoor
open Go.RowKit
set_option linter.unusedVariables false
set_option maxRecDepth 100000

/-- May the node be, its kids aside? -/
def partB {α : Type} (t : Nd α) : Bool := if t.kind = 1 then leafB t else elemB t
theorem partB_leaf {α : Type} {t : Nd α} (h : t.kind = 1) : partB t = leafB t := by rw [partB, if_pos h]
theorem partB_elem {α : Type} {t : Nd α} (h : t.kind ≠ 1) : partB t = elemB t := by rw [partB, if_neg h]
theorem elemB_no {α : Type} {t : Nd α} (h : ¬ ElemOk t) : elemB t = false := by rw [← Bool.not_eq_true, elemB_iff]; exact h
theorem leafB_no {α : Type} {t : Nd α} (h : ¬ LeafOk t) : leafB t = false := by rw [← Bool.not_eq_true, leafB_iff]; exact h

theorem VMade.keep {B : Nat} {w w' : World} {g : Nat} (h : VMade B w g) (hb : Below w.heap.size w w') : VMade B w' g := by
  obtain ⟨m, hbm, hl, hm⟩ := h
  have hlt : m < w.heap.size := by
    by_cases h : m < w.heap.size
    · exact h
    · rw [Array.getElem?_eq_none (by omega)] at hm; cases hm
  exact ⟨m, hbm, hl.all hb, (hb.block m hlt).trans hm⟩
theorem VSet.keep {B : Nat} {w w' : World} {g : Nat} (h : VSet B w g) (hb : Below w.heap.size w w') : VSet B w' g := by
  rcases h with h | h
  · exact .inl (h.all hb)
  · exact .inr (h.keep hb)
theorem VSet.lt {B : Nat} {w : World} {g : Nat} (h : VSet B w g) : g < w.heap.size := by
  rcases h with h | ⟨m, _, h, _⟩
  · exact h.lt
  · exact h.lt

open Classical in
set_option maxHeartbeats 3200000 in
theorem partI_elem (B n : Nat) (w0 w : World) (a b c d e : Value) (t : Tr (n + 1)) (g : Nat) (h : RdNode (n + 1) w0 [a, b, c, d, e] t) (hB : Below w0.heap.size w0 w) (hg : w0.heap.size ≤ g) (hV : VSet B w g) (hBB : B ≤ w.heap.size) (hz : t.kind = 0) :
    Calls Tryz.prog 104 #[.agg #[a, b, c, d, e], .pointer (some ⟨g, 0, none⟩)] w fun e w' => e = .returned (.bool (partB t)) ∧ VSet B w' g ∧ Frm w w' [g] := by
  obtain ⟨_, _, _, _, e0, k1, k2, hb, hc, hd, he⟩ := h
  simp only [List.cons.injEq, and_true] at e0
  obtain ⟨rfl, rfl, rfl, rfl, rfl⟩ := e0
  have HP := hide (show partB t = elemB t from partB_elem (by rw [hz]; decide))
  obtain ⟨ab, cb, rfl, _, _⟩ := hb.shape
  obtain ⟨ac, cc, rfl, _, _⟩ := hc.shape
  obtain ⟨ad, cd, rfl, _, _⟩ := Elems.shape hd
  obtain ⟨ae, ce, rfl, _, _⟩ := Elems.shape he
  have hB1 : Below w.heap.size w (w.alloc (.cells #[.int .i64 t.kind, .slice ab t.name.length cb, .slice ac t.text.length cc, .slice ad t.attrs.length cd, .slice ae t.kids.length ce] 55)) := (Below.refl _ _).alloc (Nat.le_refl _) _
  have l1 := Loc.made w #[.int .i64 t.kind, .slice ab t.name.length cb, .slice ac t.text.length cc, .slice ad t.attrs.length cd, .slice ae t.kids.length ce] 55
  have HX : Hid ((t.text.length ≠ 0 → elemB t = false) ∧ (¬ NameOk t.name → elemB t = false) ∧ (¬ AttrsOk t.attrs → elemB t = false) ∧ (NameOk t.name → t.text.length = 0 → AttrsOk t.attrs → t.kids.length = 0 → elemB t = true) ∧ (NameOk t.name → t.text.length = 0 → AttrsOk t.attrs → t.kids.length ≠ 0 → elemB t = !decide (Void t.name))) := by
    refine ⟨fun h => elemB_no (fun k => h k.2.2.1), fun h => elemB_no (fun k => h k.2.1), fun h => elemB_no (fun k => h k.2.2.2.1), fun h1 h2 h3 h4 => (elemB_iff t).2 ⟨hz, h1, h2, h3, fun k => by omega⟩, fun h1 h2 h3 h4 => ?_⟩
    by_cases hv : Void t.name
    · rw [elemB_no (fun k => k.2.2.2.2 ⟨hv, by omega⟩)]; simp [hv]
    · rw [(elemB_iff t).2 ⟨hz, h1, h2, h3, fun k => hv k.1⟩]; simp [hv]
  rw [hz] at *
  have ha : Below w0.heap.size w0 (w.alloc (.cells #[.int .i64 0, .slice ab t.name.length cb, .slice ac t.text.length cc, .slice ad t.attrs.length cd, .slice ae t.kids.length ce] 55)) := hB.trans (hB1.mono hB.size)
  have hV1 := hV.keep hB1
  have F1 := Frm.ofBelow hB1 [g]
  clear hB1 k1 k2 hB
  go_enter Tryz.func104, Tryz.ntmps104
  go_wp2_with fail
  generalize (w.alloc (.cells #[.int .i64 0, .slice ab t.name.length cb, .slice ac t.text.length cc, .slice ad t.attrs.length cd, .slice ae t.kids.length ce] 55)) = w1 at *
  have hBB1 := Nat.le_trans hBB F1.size
  generalize hS : w.heap.size = S at *
  clear hS
  generalize t.name.length = nb at *
  generalize t.text.length = nc at *
  generalize t.attrs.length = nd at *
  generalize t.kids.length = ne at *
  have hbb := hb.keep ha
  have hdd := hd.keep ha
  refine (nameI_any w1 _ t.name hbb).mono ?_
  rintro e w1 ⟨rfl, rfl⟩
  obtain ⟨x0, x1, x2, x3, x4⟩ := l1.five
  by_cases hn : NameOk t.name
  · rw [show decide (NameOk t.name) = true by simpa using hn]
    by_cases htx : nc = 0
    · have dtx : ((nc : Int) == 0) = true := by simpa using htx
      go_wp2_with fail
      refine (attrsI_any w1 _ t.attrs hdd).mono ?_
      rintro e w2 ⟨rfl, hB2⟩
      have hV2 := hV1.keep hB2
      have F2 := F1.trans (Frm.ofBelow hB2 [g])
      have ha2 := ha.trans (hB2.mono ha.size)
      have l2 := l1.all hB2
      clear x0 x1 x2 x3 x4
      obtain ⟨x0, x1, x2, x3, x4⟩ := l2.five
      by_cases hat : AttrsOk t.attrs
      · rw [show decide (AttrsOk t.attrs) = true by simpa using hat]
        by_cases hk : ne = 0
        · have dk : ((ne : Int) == 0) = true := by simpa using hk
          have HE := hide ((unhide HX).2.2.2.1 hn htx hat hk)
          clear hn htx hat hk HX
          go_wp2_with fail
          go_ret
          exact ⟨by rw [unhide HP, unhide HE]; rfl, hV2, F2⟩
        · have dk : ((ne : Int) == 0) = false := by simpa using hk
          have HE := hide ((unhide HX).2.2.2.2 hn htx hat hk)
          clear hn htx hat hk HX
          go_wp2_with fail
          refine (has_any B g w2 _ t.name hV2 (Nat.le_trans hBB1 hB2.size) (fun w' f => hb.keep (ha2.trans (f.below ha2.size (fun q hq => by simp at hq; omega))))).mono ?_
          rintro e w3 ⟨rfl, hV3, F3⟩
          generalize decide (Void t.name) = vb at *
          go_wp2_with fail
          go_ret
          exact ⟨by rw [unhide HP, unhide HE]; rfl, .inr hV3, F2.trans F3⟩
      · rw [show decide (AttrsOk t.attrs) = false by simpa using hat]
        have HE := hide ((unhide HX).2.2.1 hat)
        clear hn htx hat HX
        go_wp2_with fail
        go_ret
        exact ⟨by rw [unhide HP, unhide HE]; rfl, hV2, F2⟩
    · have dtx : ((nc : Int) == 0) = false := by simpa using htx
      have HE := hide ((unhide HX).1 htx)
      clear hn htx HX
      go_wp2_with fail
      go_ret
      exact ⟨by rw [unhide HP, unhide HE]; rfl, hV1, F1⟩
  · rw [show decide (NameOk t.name) = false by simpa using hn]
    have HE := hide ((unhide HX).2.1 hn)
    clear hn HX
    go_wp2_with fail
    go_ret
    exact ⟨by rw [unhide HP, unhide HE]; rfl, hV1, F1⟩

open Classical in
set_option maxHeartbeats 3200000 in
theorem partI_leaf (B n : Nat) (w0 w : World) (a b c d e : Value) (t : Tr (n + 1)) (g : Nat) (h : RdNode (n + 1) w0 [a, b, c, d, e] t) (hB : Below w0.heap.size w0 w) (hg : w0.heap.size ≤ g) (hV : VSet B w g) (hBB : B ≤ w.heap.size) (hz : t.kind = 1) :
    Calls Tryz.prog 104 #[.agg #[a, b, c, d, e], .pointer (some ⟨g, 0, none⟩)] w fun e w' => e = .returned (.bool (partB t)) ∧ VSet B w' g ∧ Frm w w' [g] := by
  obtain ⟨_, _, _, _, e0, k1, k2, hb, hc, hd, he⟩ := h
  simp only [List.cons.injEq, and_true] at e0
  obtain ⟨rfl, rfl, rfl, rfl, rfl⟩ := e0
  have HP := hide (show partB t = leafB t from partB_leaf hz)
  obtain ⟨ab, cb, rfl, _, _⟩ := hb.shape
  obtain ⟨ac, cc, rfl, _, _⟩ := hc.shape
  obtain ⟨ad, cd, rfl, _, _⟩ := Elems.shape hd
  obtain ⟨ae, ce, rfl, _, _⟩ := Elems.shape he
  have hB1 : Below w.heap.size w (w.alloc (.cells #[.int .i64 t.kind, .slice ab t.name.length cb, .slice ac t.text.length cc, .slice ad t.attrs.length cd, .slice ae t.kids.length ce] 55)) := (Below.refl _ _).alloc (Nat.le_refl _) _
  have l1 := Loc.made w #[.int .i64 t.kind, .slice ab t.name.length cb, .slice ac t.text.length cc, .slice ad t.attrs.length cd, .slice ae t.kids.length ce] 55
  have HX : Hid ((t.name.length ≠ 0 → leafB t = false) ∧ (¬ TextOk t.text → leafB t = false) ∧ (t.attrs.length ≠ 0 → leafB t = false) ∧ (t.kids.length ≠ 0 → leafB t = false) ∧ (t.name.length = 0 → TextOk t.text → t.attrs.length = 0 → t.kids.length = 0 → leafB t = true)) := by
    exact ⟨fun h => leafB_no (fun k => h k.1), fun h => leafB_no (fun k => h k.2.2.2), fun h => leafB_no (fun k => h k.2.1), fun h => leafB_no (fun k => h k.2.2.1), fun h1 h2 h3 h4 => (leafB_iff t).2 ⟨h1, h3, h4, h2⟩⟩
  rw [hz] at *
  have ha : Below w0.heap.size w0 (w.alloc (.cells #[.int .i64 1, .slice ab t.name.length cb, .slice ac t.text.length cc, .slice ad t.attrs.length cd, .slice ae t.kids.length ce] 55)) := hB.trans (hB1.mono hB.size)
  have hV1 := hV.keep hB1
  have F1 := Frm.ofBelow hB1 [g]
  clear hB1 k1 k2 hB
  go_enter Tryz.func104, Tryz.ntmps104
  by_cases hnn : t.name.length = 0
  · have dn : ((t.name.length : Int) == 0) = true := by simpa using hnn
    have HN := hide hnn
    clear hnn
    go_wp2_with fail
    generalize (w.alloc (.cells #[.int .i64 1, .slice ab t.name.length cb, .slice ac t.text.length cc, .slice ad t.attrs.length cd, .slice ae t.kids.length ce] 55)) = w1 at *
    generalize hS : w.heap.size = S at *
    clear hS
    generalize t.name.length = nb at *
    generalize t.text.length = nc at *
    generalize t.attrs.length = nd at *
    generalize t.kids.length = ne at *
    refine (textI_any w1 _ t.text (hc.keep ha)).mono ?_
    rintro e w1 ⟨rfl, rfl⟩
    obtain ⟨x0, x1, x2, x3, x4⟩ := l1.five
    by_cases ht : TextOk t.text
    · rw [show decide (TextOk t.text) = true by simpa using ht]
      by_cases hat : nd = 0
      · have dat : ((nd : Int) == 0) = true := by simpa using hat
        by_cases hk : ne = 0
        · have dk : ((ne : Int) == 0) = true := by simpa using hk
          have HE := hide ((unhide HX).2.2.2.2 (unhide HN) ht hat hk)
          clear ht hat hk HX HN
          go_wp2_with fail
          go_ret
          exact ⟨by rw [unhide HP, unhide HE]; rfl, hV1, F1⟩
        · have dk : ((ne : Int) == 0) = false := by simpa using hk
          have HE := hide ((unhide HX).2.2.2.1 hk)
          clear ht hat hk HX HN
          go_wp2_with fail
          go_ret
          exact ⟨by rw [unhide HP, unhide HE]; rfl, hV1, F1⟩
      · have dat : ((nd : Int) == 0) = false := by simpa using hat
        have HE := hide ((unhide HX).2.2.1 hat)
        clear ht hat HX HN
        go_wp2_with fail
        go_ret
        exact ⟨by rw [unhide HP, unhide HE]; rfl, hV1, F1⟩
    · rw [show decide (TextOk t.text) = false by simpa using ht]
      have HE := hide ((unhide HX).2.1 ht)
      clear ht HX HN
      go_wp2_with fail
      go_ret
      exact ⟨by rw [unhide HP, unhide HE]; rfl, hV1, F1⟩
  · have dn : ((t.name.length : Int) == 0) = false := by simpa using hnn
    have HE := hide ((unhide HX).1 hnn)
    clear hnn HX
    go_wp2_with fail
    go_ret
    exact ⟨by rw [unhide HP, unhide HE]; rfl, hV1, F1⟩

set_option maxHeartbeats 3200000 in
theorem partI_none (B n : Nat) (w0 w : World) (a b c d e : Value) (t : Tr (n + 1)) (g : Nat) (h : RdNode (n + 1) w0 [a, b, c, d, e] t) (hV : VSet B w g) (hBB : B ≤ w.heap.size) (hz : t.kind ≠ 0) (hz1 : t.kind ≠ 1) :
    Calls Tryz.prog 104 #[.agg #[a, b, c, d, e], .pointer (some ⟨g, 0, none⟩)] w fun e w' => e = .returned (.bool (partB t)) ∧ VSet B w' g ∧ Frm w w' [g] := by
  obtain ⟨_, _, _, _, e0, k1, k2, hb, hc, hd, he⟩ := h
  simp only [List.cons.injEq, and_true] at e0
  obtain ⟨rfl, rfl, rfl, rfl, rfl⟩ := e0
  have HP := hide (show partB t = false by rw [partB_elem hz1]; exact elemB_no (fun k => hz k.1))
  obtain ⟨ab, cb, rfl, _, _⟩ := hb.shape
  obtain ⟨ac, cc, rfl, _, _⟩ := hc.shape
  obtain ⟨ad, cd, rfl, _, _⟩ := Elems.shape hd
  obtain ⟨ae, ce, rfl, _, _⟩ := Elems.shape he
  have hB1 : Below w.heap.size w (w.alloc (.cells #[.int .i64 t.kind, .slice ab t.name.length cb, .slice ac t.text.length cc, .slice ad t.attrs.length cd, .slice ae t.kids.length ce] 55)) := (Below.refl _ _).alloc (Nat.le_refl _) _
  have hV1 := hV.keep hB1
  have F1 := Frm.ofBelow hB1 [g]
  have d0 : (t.kind == 0) = false := by simpa using hz
  have d1 : (t.kind == 1) = false := by simpa using hz1
  clear hB1 k1 k2 hz hz1 hb hc hd he
  generalize t.kind = z at *
  go_enter Tryz.func104, Tryz.ntmps104
  go_wp2_with fail
  go_ret
  exact ⟨by rw [unhide HP]; rfl, hV1, F1⟩

theorem partI_any (B n : Nat) (w0 w : World) (a b c d e : Value) (t : Tr (n + 1)) (g : Nat) (h : RdNode (n + 1) w0 [a, b, c, d, e] t) (hB : Below w0.heap.size w0 w) (hg : w0.heap.size ≤ g) (hV : VSet B w g) (hBB : B ≤ w.heap.size) :
    Calls Tryz.prog 104 #[.agg #[a, b, c, d, e], .pointer (some ⟨g, 0, none⟩)] w fun e w' => e = .returned (.bool (partB t)) ∧ VSet B w' g ∧ Frm w w' [g] := by
  by_cases hz : t.kind = 0
  · exact partI_elem B n w0 w a b c d e t g h hB hg hV hBB hz
  · by_cases hz1 : t.kind = 1
    · exact partI_leaf B n w0 w a b c d e t g h hB hg hV hBB hz1
    · exact partI_none B n w0 w a b c d e t g h hV hBB hz hz1
end Go.Proofs.YtpijenlmfmknnaaGreatDoor

/- A row of data that can be read: its elements one by one. No condition. -/
namespace Go.Proofs.YtpijenlmfmknnaaGreatDoor
open Go.RowKit Go.ChangeShapes
set_option linter.unusedVariables false
set_option maxRecDepth 100000

variable {H : Type} {enc : TypeId × Value → H} {W : World} {held : Bool}

theorem list_of {α : Type} {Q : Nat → α → Prop} : ∀ n : Nat, (∀ i, i < n → ∃ a, Q i a) → ∃ l : List α, l.length = n ∧ ∀ i (hi : i < l.length), Q i l[i]
  | 0, _ => ⟨[], rfl, fun i hi => by cases hi⟩
  | n + 1, h => by
    obtain ⟨l, hl, hq⟩ := list_of n (fun i hi => h i (by omega))
    obtain ⟨a, ha⟩ := h n (by omega)
    refine ⟨l ++ [a], by simp [hl], fun i hi => ?_⟩
    by_cases hi' : i < l.length
    · rw [List.getElem_append_left hi']; exact hq i hi'
    · have : i = l.length := by simp at hi; omega
      subst this
      simp only [List.getElem_append_right (Nat.le_refl _), Nat.sub_self, List.getElem_cons_zero]
      rw [hl]; exact ha

end Go.Proofs.YtpijenlmfmknnaaGreatDoor

/- An argument of a law that can be read as data is bytes, attributes, a tree: what the data's readings open to. No condition. -/
namespace Go.Proofs.YtpijenlmfmknnaaGreatDoor
open Go.RowKit Go.ChangeShapes
set_option linter.unusedVariables false
set_option maxRecDepth 100000

variable {H : Type} {enc : TypeId × Value → H} {W : World} {held : Bool}

end Go.Proofs.YtpijenlmfmknnaaGreatDoor

/- The nodes of a tree in the markup's order, as they lie in memory: what impl.walk hands on. -/
namespace Go.Proofs.YtpijenlmfmknnaaGreatDoor
open Go.RowKit
set_option linter.unusedVariables false
set_option maxRecDepth 100000

/-- A node as it is handed on: its depth, its five values, the tree that they read as. -/
structure It (w0 : World) where
  deep : Int
  a : Value
  b : Value
  c : Value
  d : Value
  e : Value
  m : Nat
  t : Tr (m + 1)
  rd : RdNode (m + 1) w0 [a, b, c, d, e] t
def encIt {w0 : World} (x : It w0) : Array Value := #[.int .i64 x.deep, .agg #[x.a, x.b, x.c, x.d, x.e]]

/-- xs are the nodes of the tree t, whose cells are C, in the markup's order. -/
def Pre (w0 : World) : (n : Nat) → Int → List Value → Tr n → List (It w0) → Prop
  | 0 => fun _ _ _ _ => False
  | n + 1 => fun deep C t xs => ∃ (a b c d e : Value) (rd : RdNode (n + 1) w0 [a, b, c, d, e] t) (ks : List (Tr n × List (It w0))), C = [a, b, c, d, e] ∧ xs = ⟨deep, a, b, c, d, e, n, t, rd⟩ :: (ks.map (·.2)).flatten ∧ ks.map (·.1) = t.kids ∧
      Elems w0 5 e ks (fun D k => Pre w0 n (deep + 1) D k.1 k.2)

theorem elems_pair {α β : Type} {w : World} {size : Nat} {v : Value} {l : List α} {R : List Value → α → Prop} {R' : List Value → α × β → Prop} (h : Elems w size v l R) (hR : ∀ C x, R C x → ∃ y, R' C (x, y)) :
    ∃ ks : List (α × β), ks.map (·.1) = l ∧ Elems w size v ks R' := by
  obtain ⟨hm, ⟨rfl, rfl⟩ | ⟨x, cap, rfl, hc, rfl⟩ | ⟨b, off, cap, rfl, h1, h2, h3, h4, h5⟩⟩ := h
  · exact ⟨[], rfl, hm, .inl ⟨rfl, rfl⟩⟩
  · exact ⟨[], rfl, hm, .inr (.inl ⟨x, cap, rfl, hc, rfl⟩)⟩
  · obtain ⟨ks, hl, hk⟩ := list_of (Q := fun i (k : α × β) => ∃ hi : i < l.length, k.1 = l[i] ∧ ∃ C : List Value, C.length = size ∧ (∀ j, j < size → w.cell? ⟨b, off + i * size + j, none⟩ = C[j]?) ∧ R' C k) l.length (fun i hi => by
      obtain ⟨C, hC, hc, hr⟩ := h5 i hi
      obtain ⟨y, hy⟩ := hR C _ hr
      exact ⟨(l[i], y), hi, rfl, C, hC, hc, hy⟩)
    refine ⟨ks, ?_, by omega, .inr (.inr ⟨b, off, cap, by rw [hl], by omega, h2, ?_, h4, fun i hi => ?_⟩)⟩
    · apply List.ext_getElem
      · simp [hl]
      · intro i h1' h2'
        simp only [List.getElem_map]
        exact (hk i (by simpa using h1')).2.1
    · intro e; rw [e] at hl; exact h3 (List.eq_nil_of_length_eq_zero hl.symm)
    · exact (hk i hi).2.2

theorem pre_ex (w0 : World) : ∀ (n : Nat) (deep : Int) (C : List Value) (t : Tr n), RdNode n w0 C t → ∃ xs, Pre w0 n deep C t xs
  | 0, _, _, t, _ => t.elim
  | n + 1, deep, C, t, h => by
    have h' := h
    obtain ⟨a, b, c, d, rfl, k1, k2, hb, hc, hd, he⟩ := h
    obtain ⟨ks, hks, hel⟩ := elems_pair (R' := fun D k => Pre w0 n (deep + 1) D k.1 k.2) he (fun D x hx => pre_ex w0 n (deep + 1) D x hx)
    exact ⟨_, _, _, _, _, _, h', ks, rfl, rfl, hks, hel⟩

/-- Depth and the test of each. -/
def tst {w0 : World} (x : It w0) : Int × Bool := (x.deep, partB x.t)
def pn : (n : Nat) → Int → Tr n → List (Int × Bool)
  | 0 => fun _ _ => []
  | n + 1 => fun deep t => (deep, partB t) :: (t.kids.map (pn n (deep + 1))).flatten

theorem pn_succ (n : Nat) (deep : Int) (t : Tr (n + 1)) : pn (n + 1) deep t = (deep, partB t) :: (t.kids.map (pn n (deep + 1))).flatten := rfl
theorem Elems.mem {α : Type} {w : World} {size : Nat} {v : Value} {l : List α} {R : List Value → α → Prop} (h : Elems w size v l R) : ∀ x ∈ l, ∃ C, R C x := by
  intro x hx
  obtain ⟨i, hi, rfl⟩ := List.getElem_of_mem hx
  obtain ⟨hm, ⟨rfl, rfl⟩ | ⟨_, cap, rfl, hc, rfl⟩ | ⟨b, off, cap, rfl, h1, h2, h3, h4, h5⟩⟩ := h
  · simp at hi
  · simp at hi
  · obtain ⟨C, _, _, hr⟩ := h5 i hi
    exact ⟨C, hr⟩
theorem pre_pn (w0 : World) : ∀ (n : Nat) (deep : Int) (C : List Value) (t : Tr n) (xs : List (It w0)), Pre w0 n deep C t xs → xs.map tst = pn n deep t
  | 0, _, _, t, _, _ => t.elim
  | n + 1, deep, C, t, xs, ⟨a, b, c, d, e, rd, ks, _, hxs, hks, hel⟩ => by
    subst hxs
    rw [List.map_cons, pn_succ, ← hks, List.map_flatten, List.map_map, List.map_map]
    congr 2
    apply List.map_congr_left
    intro k hk
    obtain ⟨D, hD⟩ := hel.mem k hk
    exact pre_pn w0 n (deep + 1) D k.1 k.2 hD

/-- The tests, one behind the other, where 'left' nodes are left. -/
def scan : List (Int × Bool) → Int → Bool × Int
  | [], left => (true, left)
  | x :: r, left => if left - 1 < 0 ∨ 20 < x.1 ∨ x.2 = false then (false, left - 1) else scan r (left - 1)
theorem scan_app (a b : List (Int × Bool)) (left : Int) : scan (a ++ b) left = if (scan a left).1 = true then scan b (scan a left).2 else (false, (scan a left).2) := by
  induction a generalizing left with
  | nil => simp [scan]
  | cons x r ih =>
    rw [List.cons_append, scan, scan]
    by_cases h : left - 1 < 0 ∨ 20 < x.1 ∨ x.2 = false
    · rw [if_pos h, if_pos h]; simp
    · rw [if_neg h, if_neg h, ih]
theorem scan_no {a b : List (Int × Bool)} {left : Int} (h : (scan a left).1 = false) (hp : a <+: b) : (scan b left).1 = false := by
  obtain ⟨r, rfl⟩ := hp
  rw [scan_app, h]
  simp
theorem okK_scan {α : Type} {f : α → Int → Bool × Int} {p : α → List (Int × Bool)} (h : ∀ x left, f x left = scan (p x) left) : ∀ (l : List α) (left : Int), okK f l left = scan (l.map p).flatten left
  | [], left => rfl
  | x :: r, left => by
    rw [okK, List.map_cons, List.flatten_cons, scan_app, h, okK_scan h r]
theorem okT_scan : ∀ (n : Nat) (deep : Int) (t : Tr n) (left : Int), okT n deep t left = scan (pn n deep t) left
  | 0, _, t, _ => t.elim
  | n + 1, deep, t, left => by
    rw [okT_succ, pn_succ, scan]
    by_cases h1 : left - 1 < 0 ∨ 20 < deep
    · rw [if_pos h1, if_pos (by rcases h1 with h | h <;> simp [h])]
    · rw [if_neg h1]
      by_cases h2 : t.kind = 1
      · rw [if_pos h2]
        have hp : partB t = leafB t := partB_leaf h2
        by_cases h3 : leafB t = true
        · have hk : t.kids = [] := List.eq_nil_of_length_eq_zero ((leafB_iff t).1 h3).2.2.1
          rw [if_neg (by simp only [hp, h3]; simp; omega), hk, h3]; rfl
        · have h3' : leafB t = false := by simpa using h3
          rw [if_pos (by simp only [hp, h3']; simp), h3']
      · rw [if_neg h2]
        have hp : partB t = elemB t := partB_elem h2
        by_cases h3 : elemB t = true
        · rw [if_pos h3, if_neg (by simp only [hp, h3]; simp; omega)]
          exact okK_scan (okT_scan n (deep + 1)) t.kids (left - 1)
        · have h3' : elemB t = false := by simpa using h3
          rw [if_neg h3, if_pos (by simp only [hp, h3']; simp)]
end Go.Proofs.YtpijenlmfmknnaaGreatDoor

/- impl.walk hands on the nodes in the markup's order. -/
namespace Go.Proofs.YtpijenlmfmknnaaGreatDoor
open Go.RowKit Go.Shelf
set_option linter.unusedVariables false
set_option maxRecDepth 100000
attribute [local go_sem] Oper.semAt_some

/-- The boxes that impl.walk lays. -/
def BxN (o : Obj) : Prop := ∃ cs, o = .cells cs 55 (0, 0)
theorem below_grown {W W' : World} (h : Below W.heap.size W W') : W.grownBy W' none := ⟨h.os, h.tape, h.output, h.size, fun k hk _ => h.block k hk⟩

theorem rd_shape {n : Nat} {w : World} {C : List Value} {t : Tr n} (h : RdNode n w C t) : ∃ z ab nb cb ac nc cc ad nd cd ae ne ce, C = [.int .i64 z, .slice ab nb cb, .slice ac nc cc, .slice ad nd cd, .slice ae ne ce] := by
  cases n with
  | zero => exact t.elim
  | succ n =>
    obtain ⟨a, b, c, d, rfl, _, _, hb, hc, hd, he⟩ := h
    obtain ⟨ab, cb, rfl, _, _⟩ := hb.shape
    obtain ⟨ac, cc, rfl, _, _⟩ := hc.shape
    obtain ⟨ad, cd, rfl, _, _⟩ := Elems.shape hd
    obtain ⟨ae, ce, rfl, _, _⟩ := Elems.shape he
    exact ⟨_, _, _, _, _, _, _, _, _, _, _, _, _, rfl⟩
theorem pre_rd {w0 : World} {n : Nat} {deep : Int} {C : List Value} {t : Tr n} {xs : List (It w0)} (h : Pre w0 n deep C t xs) : RdNode n w0 C t := by
  cases n with
  | zero => exact t.elim
  | succ n =>
    obtain ⟨a, b, c, d, e, rd, ks, rfl, _⟩ := h
    exact rd
theorem sum_mem {l : List Nat} {x : Nat} (h : x ∈ l) : x ≤ l.sum := by
  induction l with
  | nil => cases h
  | cons y l ih =>
    rw [List.sum_cons]
    rcases List.mem_cons.1 h with rfl | h'
    · omega
    · have := ih h'; omega
theorem sz_kid {n : Nat} {t : Tr (n + 1)} {u : Tr n} (h : u ∈ t.kids) : szT n u + 1 ≤ szT (n + 1) t := by
  have h1 : szT n u ≤ (t.kids.map (szT n)).sum := sum_mem (List.mem_map.2 ⟨u, h, rfl⟩)
  have h2 : 0 < t.kids.length := List.length_pos_of_mem h
  have h3 : szT (n + 1) t = t.name.length + t.text.length + szA t.attrs + (t.kids.length + (t.kids.map (szT n)).sum) := rfl
  omega
theorem flat_take {α β : Type} (ks : List (α × List β)) (j : Nat) (h : j < ks.length) : ((ks.take (j + 1)).map (·.2)).flatten = ((ks.take j).map (·.2)).flatten ++ ks[j].2 := by
  rw [List.take_succ_eq_append_getElem h, List.map_append, List.flatten_append]
  simp only [List.map_cons, List.map_nil, List.flatten_cons, List.flatten_nil, List.append_nil]
theorem flat_pre {α β : Type} (ks : List (α × List β)) (j : Nat) : ((ks.take j).map (·.2)).flatten <+: (ks.map (·.2)).flatten := by
  refine ⟨((ks.drop j).map (·.2)).flatten, ?_⟩
  rw [← List.flatten_append, ← List.map_append, List.take_append_drop]

/-- What is asked of impl.walk at a tree of depth below k. -/
def WalkSaid (w0 : World) (l : Nat) (Mt : Nat → Obj → Prop) (J Jx : List (It w0) → World → Prop) (XS : List (It w0)) (k : Nat) : Prop :=
  ∀ (deep : Int) (a b c d e : Value) (t : Tr k) (xs : List (It w0)), Pre w0 k deep [a, b, c, d, e] t xs → ∀ (n : Nat) (pre : List (It w0)) (W : World), Below w0.heap.size w0 W → (∀ q o, W.heap.size ≤ q → BxN o → ¬ Mt q o) → J pre W → pre ++ xs <+: XS → 0 ≤ deep → deep + szT k t ≤ 1000000000 →
    CallsIn Fence.wide n Tryz.prog 173 #[.agg #[a, b, c, d, e], .int .i64 deep, .func (.yield l) #[] #[]] W fun e W' =>
      (e = .returned (.bool true) ∧ J (pre ++ xs) W' ∧ Frp Mt W W') ∨ (e = .returned (.bool false) ∧ ∃ q, q <+: xs ∧ Jx (pre ++ q) W')

set_option maxHeartbeats 3200000 in
theorem walk_succ (w0 : World) (l : Nat) (Mt : Nat → Obj → Prop) (hG0 : ∀ i o, i < w0.heap.size → ¬ Mt i o) (J Jx : List (It w0) → World → Prop) (XS : List (It w0)) (hJ : ∀ s W W', J s W → W.grownBy W' none → J s W')
    (hY : ∀ m pre x W, J pre W → pre ++ [x] <+: XS → YieldAt Fence.wide m Tryz.prog l (encIt x) W fun e W' =>
      (e = .returned (.bool true) ∧ J (pre ++ [x]) W' ∧ Frp Mt W W') ∨ (e = .returned (.bool false) ∧ Jx (pre ++ [x]) W')) (k : Nat) (H : WalkSaid w0 l Mt J Jx XS k) : WalkSaid w0 l Mt J Jx XS (k + 1) := by
  intro deep a b c d e t xs hP n pre W hW hGW hj hpx hd0 hd1
  obtain ⟨_, _, _, _, _, rd, ks, hC, hxs, hks, hel⟩ := hP
  simp only [List.cons.injEq, and_true] at hC
  obtain ⟨rfl, rfl, rfl, rfl, rfl⟩ := hC
  have rd' := rd
  obtain ⟨_, _, _, _, e0, k1, k2, hb, hc, hd, he⟩ := rd'
  simp only [List.cons.injEq, and_true] at e0
  obtain ⟨rfl, rfl, rfl, rfl, rfl⟩ := e0
  obtain ⟨ab, cb, rfl, _, _⟩ := hb.shape
  obtain ⟨ac, cc, rfl, _, _⟩ := hc.shape
  obtain ⟨ad, cd, rfl, _, _⟩ := Elems.shape hd
  obtain ⟨ae, ce, rfl, hce, hcm⟩ := Elems.shape he
  obtain ⟨x, hx⟩ : ∃ x : It w0, x = ⟨deep, .int .i64 t.kind, .slice ab t.name.length cb, .slice ac t.text.length cc, .slice ad t.attrs.length cd, .slice ae t.kids.length ce, k, t, rd⟩ := ⟨_, rfl⟩
  have hB1 : Below W.heap.size W (W.alloc (.cells #[.int .i64 t.kind, .slice ab t.name.length cb, .slice ac t.text.length cc, .slice ad t.attrs.length cd, .slice ae t.kids.length ce] 55)) := (Below.refl _ _).alloc (Nat.le_refl _) _
  have l1 := Loc.made W #[.int .i64 t.kind, .slice ab t.name.length cb, .slice ac t.text.length cc, .slice ad t.attrs.length cd, .slice ae t.kids.length ce] 55
  have hy := hY (n - 1) pre x _ (hJ pre W _ hj (below_grown hB1)) (by
    refine List.IsPrefix.trans ?_ hpx
    rw [hxs, ← hx]
    exact ⟨(ks.map (·.2)).flatten, by simp⟩)
  rw [hx] at hy
  simp only [encIt] at hy
  rw [← hx] at hy hxs
  obtain ⟨fn, tmps, assign, body, hy1, hR⟩ := hy
  refine callsIn_of_wp Tryz.func173 rfl trivial ?_ rfl
  simp only [Tryz.ntmps173, List.size_toArray, List.length_cons, List.length_nil, Nat.reduceAdd, Nat.reduceSub, Array.replicate_succ, Array.replicate_zero, List.push_toArray, List.append_toArray, List.nil_append, List.cons_append]
  gi_wp2_with fail
  refine ⟨(fun h => (by cases h)), ?_⟩
  generalize (W.alloc (.cells #[.int .i64 t.kind, .slice ab t.name.length cb, .slice ac t.text.length cc, .slice ad t.attrs.length cd, .slice ae t.kids.length ce] 55)) = W1 at *
  refine hR.mono ?_
  clear hR
  rintro e W2 (⟨rfl, hJ2, hF2⟩ | ⟨rfl, hx2⟩)
  · have l2 := l1.frp hF2 (hGW _ _ (Nat.le_refl _) ⟨_, rfl⟩)
    have hGW2 : ∀ q o, W2.heap.size ≤ q → BxN o → ¬ Mt q o := fun q o h hb => hGW q o (by have := hB1.size; have := hF2.size; omega) hb
    have hW2 : Below w0.heap.size w0 W2 := hW.trans ((hB1.mono hW.size).trans (hF2.below (Nat.le_trans hW.size hB1.size) hG0))
    have F2 : Frp Mt W W2 := (Frp.ofBelow hB1 Mt).trans hF2
    have hlen : ks.length = t.kids.length := by rw [← hks]; simp
    have HX := hide hxs
    have HK := hide hks
    have HE := hide hx
    unfold maxLen at hcm
    have hm' : (t.kids.length : Int) ≤ 9223372036854775807 := by omega
    have HZ : Hid (∀ u ∈ t.kids, deep + 1 + szT k u ≤ 1000000000) := fun u hu => by have := sz_kid hu; omega
    have hdp : deep ≤ 1000000000 := by omega
    clear hxs hks hx hB1 hF2 hy1 hY hd1
    obtain ⟨x0, x1, x2, x3, x4⟩ := l2.five
    generalize hnk : t.kids.length = nk at *
    gi_wp2_with fail
    gi_loopw [17] (fun i wr => ∃ j : Nat, j ≤ nk ∧ i = .int .i64 j ∧ J (pre ++ x :: ((ks.take j).map (·.2)).flatten) wr ∧ Frp Mt W2 wr) (fun i _ => nk - (intOf i).toNat)
    case atStart => exact ⟨0, Nat.zero_le _, rfl, by simpa using hJ2, Frp.refl _ _⟩
    case round =>
      obtain ⟨j, hj1, rfl, hJr, hFr⟩ := hrel
      have hWr : Below w0.heap.size w0 wr := hW2.trans (hFr.below hW2.size hG0)
      have hGr : ∀ q o, wr.heap.size ≤ q → BxN o → ¬ Mt q o := fun q o h hb => hGW2 q o (Nat.le_trans hFr.size h) hb
      by_cases hlt : j < nk
      · have hjk : j < ks.length := by omega
        obtain ⟨kb, koff, rfl, hkb, hun, _, C, hC5, hcell, hPk⟩ := hel.at hjk
        clear hun
        obtain ⟨z, ab', nb', cb', ac', nc', cc', ad', nd', cd', ae', ne', ce', rfl⟩ := rd_shape (pre_rd hPk)
        have y0 := (hWr.cell (p := ⟨kb, koff + j * 5, none⟩) hkb).trans (hcell 0 (by omega))
        have y1 := (hWr.cell (p := ⟨kb, koff + j * 5 + 1, none⟩) hkb).trans (hcell 1 (by omega))
        have y2 := (hWr.cell (p := ⟨kb, koff + j * 5 + 2, none⟩) hkb).trans (hcell 2 (by omega))
        have y3 := (hWr.cell (p := ⟨kb, koff + j * 5 + 3, none⟩) hkb).trans (hcell 3 (by omega))
        have y4 := (hWr.cell (p := ⟨kb, koff + j * 5 + 4, none⟩) hkb).trans (hcell 4 (by omega))
        simp only [List.getElem?_cons_zero, List.getElem?_cons_succ] at y0 y1 y2 y3 y4
        have hB3 : Below wr.heap.size wr (wr.alloc (.cells #[.int .i64 z, .slice ab' nb' cb', .slice ac' nc' cc', .slice ad' nd' cd', .slice ae' ne' ce'] 55)) := (Below.refl _ _).alloc (Nat.le_refl _) _
        have hmem : ks[j].1 ∈ t.kids := by rw [← unhide HK]; exact List.mem_map.2 ⟨ks[j], List.getElem_mem hjk, rfl⟩
        have hpre : (pre ++ x :: ((ks.take j).map (·.2)).flatten) ++ ks[j].2 <+: XS := by
          refine List.IsPrefix.trans ?_ hpx
          rw [unhide HX]
          obtain ⟨r, hr⟩ := flat_pre ks (j + 1)
          rw [flat_take ks j hjk] at hr
          exact ⟨r, by simp only [List.append_assoc, List.cons_append] at hr ⊢; rw [hr]⟩
        have hcall := H (deep + 1) _ _ _ _ _ ks[j].1 ks[j].2 hPk (n - 1) (pre ++ x :: ((ks.take j).map (·.2)).flatten) _ (hWr.trans (hB3.mono hWr.size)) (fun q o h hb => hGr q o (Nat.le_trans hB3.size h) hb) (hJ _ _ _ hJr (below_grown hB3)) hpre (by omega) (unhide HZ _ hmem)
        have HC := hide hcall
        have F3 := hFr.trans (Frp.ofBelow hB3 Mt)
        have hlt' : (j : Int) < (nk : Int) := by omega
        clear hcall hel hcell hPk hmem hpre hB3 hJr hJ2
        have HL := hide hlen
        have HNK := hide hnk
        clear hlen hnk
        gi_wp2
        refine ⟨trivial, (fun h => (by cases h)), ?_⟩
        refine (unhide HC).mono ?_
        rintro e W3 (⟨rfl, hJ3, hF3⟩ | ⟨rfl, q, hq, hx3⟩)
        · gi_wp2
          go_roundw
          case rel => exact ⟨j + 1, by omega, by go_num, by rw [flat_take ks j hjk, ← List.cons_append, ← List.append_assoc]; exact hJ3, F3.trans hF3⟩
          case measure => simp [intOf]; omega
        · gi_wp2
          go_ret
          refine .inr ⟨rfl, x :: ((ks.take j).map (·.2)).flatten ++ q, ?_, by rw [← List.append_assoc]; exact hx3⟩
          obtain ⟨r, hr⟩ := flat_pre ks (j + 1)
          obtain ⟨r', hr'⟩ := hq
          rw [flat_take ks j hjk, ← hr'] at hr
          exact ⟨r' ++ r, by rw [unhide HX, ← hr]; simp⟩
      · have e : j = nk := by omega
        subst e
        have HL := hide hlen
        clear hlen hel
        gi_wp2
        go_ret
        refine .inl ⟨rfl, ?_, F2.trans hFr⟩
        rw [unhide HX]
        rw [List.take_of_length_le (by have := unhide HL; omega)] at hJr
        exact hJr
  · gi_wp2_with fail
    go_ret
    exact .inr ⟨rfl, [x], by rw [hxs]; exact ⟨_, rfl⟩, hx2⟩

theorem walk_any (w0 : World) (l : Nat) (Mt : Nat → Obj → Prop) (hG0 : ∀ i o, i < w0.heap.size → ¬ Mt i o) (J Jx : List (It w0) → World → Prop) (XS : List (It w0)) (hJ : ∀ s W W', J s W → W.grownBy W' none → J s W')
    (hY : ∀ m pre x W, J pre W → pre ++ [x] <+: XS → YieldAt Fence.wide m Tryz.prog l (encIt x) W fun e W' =>
      (e = .returned (.bool true) ∧ J (pre ++ [x]) W' ∧ Frp Mt W W') ∨ (e = .returned (.bool false) ∧ Jx (pre ++ [x]) W')) (k : Nat) : WalkSaid w0 l Mt J Jx XS k := by
  induction k with
  | zero => exact fun _ _ _ _ _ _ t => t.elim
  | succ k ih => exact walk_succ w0 l Mt hG0 J Jx XS hJ hY k ih

set_option maxHeartbeats 1600000 in
/-- The function that nodesOf hands back: it hands on all nodes. q: the block of what it holds. -/
theorem nodes_hand (w0 w : World) (l q k : Nat) (Mt : Nat → Obj → Prop) (hG0 : ∀ i o, i < w0.heap.size → ¬ Mt i o) (a b c d e : Value) (t : Tr (k + 1)) (xs : List (It w0)) (hP : Pre w0 (k + 1) 1 [a, b, c, d, e] t xs) (hsz : szT (k + 1) t ≤ 2097152)
    (hw : Below w0.heap.size w0 w) (hl : Loc w q #[a, b, c, d, e] 55) : Hands Tryz.prog 172 #[.pointer (some ⟨q, 0, none⟩)] encIt BxN Mt xs l w := by
  intro J Jx hJ hY n W hW hGW h0
  have l1 := hl.all hW
  obtain ⟨z, ab, nb, cb, ac, nc, cc, ad, nd, cd, ae, ne, ce, hC⟩ := rd_shape (pre_rd hP)
  simp only [List.cons.injEq, and_true] at hC
  obtain ⟨rfl, rfl, rfl, rfl, rfl⟩ := hC
  have hc := walk_any w0 l Mt hG0 J Jx xs hJ hY (k + 1) 1 _ _ _ _ _ t xs hP (n - 1) [] W (hw.trans (hW.mono hw.size)) hGW h0 (by simp) (by omega) (by omega)
  obtain ⟨x0, x1, x2, x3, x4⟩ := l1.five
  have HC := hide hc
  clear hc hY hJ hP
  refine callsIn_of_wp Tryz.func172 rfl trivial ?_ rfl
  simp only [Tryz.ntmps172, List.size_toArray, List.length_cons, List.length_nil, Nat.reduceAdd, Nat.reduceSub, Array.replicate_succ, Array.replicate_zero, List.push_toArray, List.append_toArray, List.nil_append, List.cons_append]
  gi_wp2
  refine ⟨trivial, (fun h => (by cases h)), ?_⟩
  refine (unhide HC).mono ?_
  rintro e W3 (⟨rfl, hJ3, hF3⟩ | ⟨rfl, q, hq, hx3⟩)
  · gi_wp2
    go_end0
    exact ⟨⟨_, rfl⟩, .inl (by simpa using hJ3)⟩
  · gi_wp2
    go_end0
    exact ⟨⟨_, rfl⟩, .inr ⟨q, hq, by simpa using hx3⟩⟩

/-- impl.nodesOf: what it is given is boxed, and held by the function that it hands back. -/
theorem nodesOf_any (w : World) (z : Int) (ab ac ad ae : Option Addr) (nb cb nc cc nd cd ne ce : Nat) :
    Calls Tryz.prog 128 #[.agg #[.int .i64 z, .slice ab nb cb, .slice ac nc cc, .slice ad nd cd, .slice ae ne ce]] w fun e w' => e = .returned (.func (.func 172) #[] #[.pointer (some ⟨w.heap.size, 0, none⟩)]) ∧
      w' = w.alloc (.cells #[.int .i64 z, .slice ab nb cb, .slice ac nc cc, .slice ad nd cd, .slice ae ne ce] 55) := by
  have hmf : ∀ (fn : Fn) (first cap : Array Value) (w : World), (Instr.makeFunc fn first cap).run Tryz.prog w = .ok (.func fn first cap) w := fun _ _ _ _ => rfl
  go_enter Tryz.func128, Tryz.ntmps128
  go_wp2
  go_ret
  exact ⟨rfl, rfl⟩
end Go.Proofs.YtpijenlmfmknnaaGreatDoor

/- impl.NodeOk answers what the plain test says. -/
namespace Go.Proofs.YtpijenlmfmknnaaGreatDoor
open Go.RowKit Go.Shelf
set_option linter.unusedVariables false
set_option maxRecDepth 100000
attribute [local go_sem] Oper.semAt_some

theorem Loc.stay {W W' : World} {g D : Nat} {cs : Array Value} {T : TypeId} {row : Option Nat} (h : Loc W g cs T) (hg : W.grownBy W' row) (hr : ∀ r, row = some r → r = D ∨ r = D + 1) (h0 : g ≠ D) (h1 : g ≠ D + 1) : Loc W' g cs T :=
  (hg.block g h.lt (fun e => by rcases hr g e.symm with h | h; exact h0 h; exact h1 h)).trans h
theorem VSet.stay {W W' : World} {g D : Nat} {row : Option Nat} (h : VSet (D + 2) W g) (hg : W.grownBy W' row) (hr : ∀ r, row = some r → r = D ∨ r = D + 1) (h0 : g ≠ D) (h1 : g ≠ D + 1) : VSet (D + 2) W' g := by
  rcases h with h | ⟨m, hm, hl, hv⟩
  · exact .inl (h.stay hg hr h0 h1)
  · have hlt : m < W.heap.size := by
      by_cases h : m < W.heap.size
      · exact h
      · rw [Array.getElem?_eq_none (by omega)] at hv; cases hv
    exact .inr ⟨m, hm, hl.stay hg hr h0 h1, (hg.block m hlt (fun e => by rcases hr m e.symm with h | h <;> omega)).trans hv⟩
theorem below_stay {w W W' : World} {s D : Nat} {row : Option Nat} (h : Below s w W) (hs : s ≤ D) (hg : W.grownBy W' row) (hr : ∀ r, row = some r → r = D ∨ r = D + 1) (hsz : s ≤ W.heap.size) : Below s w W' :=
  h.grown hg hsz (fun r e => by rcases hr r e with h | h <;> omega)

theorem VSet.set {B : Nat} {V : World} {g p : Nat} {cs : Array Value} {T : TypeId} (h : VSet B V g) (hl : Loc V p cs T) (hne : g ≠ p) (j : Nat) (v : Value) : VSet B (V.setCell ⟨p, j, none⟩ v) g := by
  rcases h with h | ⟨m, hm, hg, hv⟩
  · exact .inl (h.other p j v hne)
  · have hmp : m ≠ p := fun e => by subst e; unfold Loc at hl; rw [hv] at hl; cases hl
    exact .inr ⟨m, hm, hg.other p j v hne, (heap_setCell_other V ⟨p, j, none⟩ m v hmp).trans hv⟩
theorem books_set (D : Nat) (V : World) (p j : Nat) (v : Value) (h0 : D ≠ p) (h1 : D + 1 ≠ p) : BooksSame D V (V.setCell ⟨p, j, none⟩ v) := ⟨heap_setCell_other V ⟨p, j, none⟩ D v h0, heap_setCell_other V ⟨p, j, none⟩ (D + 1) v h1⟩
theorem books_frm {D : Nat} {V V' : World} {S : List Nat} (f : Frm V V' S) (hl : D + 2 ≤ V.heap.size) (h0 : D ∉ S) (h1 : D + 1 ∉ S) : BooksSame D V V' := ⟨f.block D (by omega) h0, f.block (D + 1) (by omega) h1⟩
theorem BooksSame.trans {D : Nat} {A B C : World} (h : BooksSame D A B) (k : BooksSame D B C) : BooksSame D A C := ⟨k.1.trans h.1, k.2.trans h.2⟩
theorem scan_len {a : List (Int × Bool)} {left : Int} (h : (scan a left).1 = true) (h0 : 0 ≤ left) : (a.length : Int) ≤ left := by
  induction a generalizing left with
  | nil => simpa using h0
  | cons x r ih =>
    rw [scan] at h
    by_cases hc : left - 1 < 0 ∨ 20 < x.1 ∨ x.2 = false
    · rw [if_pos hc] at h; cases h
    · rw [if_neg hc] at h
      have := ih h (by omega)
      simp only [List.length_cons]
      omega
/-- A test more. -/
theorem scan_snoc {a : List (Int × Bool)} {x : Int × Bool} {n : Nat} (h : scan a 120 = (true, (120 : Int) - n)) : scan (a ++ [x]) 120 = if 120 < (n : Int) + 1 ∨ 20 < x.1 ∨ x.2 = false then (false, (120 : Int) - n - 1) else (true, (120 : Int) - n - 1) := by
  rw [scan_app, h]
  simp only [if_true, scan]
  have e : ((120 : Int) - n - 1 < 0 ∨ 20 < x.1 ∨ x.2 = false) ↔ (120 < (n : Int) + 1 ∨ 20 < x.1 ∨ x.2 = false) := by
    constructor
    · rintro (h | h)
      · exact .inl (by omega)
      · exact .inr h
    · rintro (h | h)
      · exact .inl (by omega)
      · exact .inr h
  simp only [e]

/-- Five new blocks, one behind the other. -/
theorem five_new (w : World) (A1 A2 A3 A4 A5 : Array Value) (T1 T2 T3 T4 T5 : TypeId) (W : World) (hW : W = ((((w.alloc (.cells A1 T1)).alloc (.cells A2 T2)).alloc (.cells A3 T3)).alloc (.cells A4 T4)).alloc (.cells A5 T5)) :
    Loc W (w.heap.size + 1) A2 T2 ∧ Loc W (w.heap.size + 1 + 1) A3 T3 ∧ Loc W (w.heap.size + 1 + 1 + 1) A4 T4 ∧ Loc W (w.heap.size + 1 + 1 + 1 + 1) A5 T5 ∧ W.heap.size = w.heap.size + 1 + 1 + 1 + 1 + 1 ∧ Below w.heap.size w W := by
  subst hW
  have m2 := Loc.made (w.alloc (.cells A1 T1)) A2 T2
  have m3 := Loc.made ((w.alloc (.cells A1 T1)).alloc (.cells A2 T2)) A3 T3
  have m4 := Loc.made (((w.alloc (.cells A1 T1)).alloc (.cells A2 T2)).alloc (.cells A3 T3)) A4 T4
  have m5 := Loc.made ((((w.alloc (.cells A1 T1)).alloc (.cells A2 T2)).alloc (.cells A3 T3)).alloc (.cells A4 T4)) A5 T5
  simp only [World.size_alloc] at m2 m3 m4 m5
  exact ⟨((m2.alloc _).alloc _).alloc _, (m3.alloc _).alloc _, m4.alloc _, m5, by simp, (((((Below.refl _ w).alloc (Nat.le_refl _) _).alloc (by simp) _).alloc (by simp; omega) _).alloc (by simp; omega) _).alloc (by simp; omega) _⟩

set_option maxHeartbeats 3200000 in
theorem nodeI_elem (k : Nat) (w : World) (a b c d e : Value) (t : Tr (k + 1)) (h : RdNode (k + 1) w [a, b, c, d, e] t) (hsz : szT (k + 1) t ≤ 2097152) (hz : t.kind = 0) :
    Calls Tryz.prog 91 #[.agg #[a, b, c, d, e]] w fun e w' => e = .returned (.bool (okN k t)) ∧ Below w.heap.size w w' := by
  have HO := hide (show okN k t = (scan (pn (k + 1) 1 t) 120).1 by unfold okN; rw [okT_scan]; simp [hz])
  obtain ⟨xs, hP⟩ := pre_ex w (k + 1) 1 [a, b, c, d, e] t h
  have HM := hide (pre_pn w (k + 1) 1 _ t xs hP)
  have hC : ∃ ab nb cb ac nc cc ad nd cd ae ne ce, [a, b, c, d, e] = [Value.int .i64 0, .slice ab nb cb, .slice ac nc cc, .slice ad nd cd, .slice ae ne ce] := by
    obtain ⟨_, _, _, _, e0, k1, k2, hb, hc, hd, he⟩ := h
    simp only [List.cons.injEq, and_true] at e0
    obtain ⟨rfl, rfl, rfl, rfl, rfl⟩ := e0
    obtain ⟨ab, cb, rfl, _, _⟩ := hb.shape
    obtain ⟨ac, cc, rfl, _, _⟩ := hc.shape
    obtain ⟨ad, cd, rfl, _, _⟩ := Elems.shape hd
    obtain ⟨ae, ce, rfl, _, _⟩ := Elems.shape he
    rw [hz]
    exact ⟨_, _, _, _, _, _, _, _, _, _, _, _, rfl⟩
  obtain ⟨ab, nb, cb, ac, nc, cc, ad, nd, cd, ae, ne, ce, hC⟩ := hC
  simp only [List.cons.injEq, and_true] at hC
  obtain ⟨rfl, rfl, rfl, rfl, rfl⟩ := hC
  have HP := hide hP
  have HH := hide h
  clear hP h hz
  refine (callsIn_wide (n := 5)).1 ?_
  refine callsIn_of_wp_marks Tryz.func91 rfl trivial ?_ rfl
  simp only [Tryz.ntmps91, List.size_toArray, List.length_cons, List.length_nil, Nat.reduceAdd, Nat.reduceSub, Array.replicate_succ, Array.replicate_zero, List.push_toArray, List.append_toArray, List.nil_append, List.cons_append]
  gi_wp2_with fail
  refine ⟨trivial, ?_⟩
  refine (callsIn_wide.2 (nodesOf_any _ _ _ _ _ _ _ _ _ _ _ _ _ _)).mono ?_
  rintro e W ⟨rfl, hW⟩
  obtain ⟨l1, l2, l3, l4, hsW, hBW⟩ := five_new w _ _ _ _ _ _ _ _ _ _ W hW
  clear hW
  simp only [World.size_alloc]
  obtain ⟨q1, q2, q3, q4, q5⟩ : w.heap.size < w.heap.size + 1 ∧ w.heap.size + 1 < w.heap.size + 1 + 1 ∧ w.heap.size + 1 + 1 < w.heap.size + 1 + 1 + 1 ∧ w.heap.size + 1 + 1 + 1 < w.heap.size + 1 + 1 + 1 + 1 ∧ w.heap.size + 1 + 1 + 1 + 1 < W.heap.size := by omega
  clear hsW
  generalize w.heap.size + 1 + 1 + 1 + 1 = p4 at *
  generalize w.heap.size + 1 + 1 + 1 = p3 at *
  generalize w.heap.size + 1 + 1 = p2 at *
  generalize w.heap.size + 1 = p1 at *
  gi_wp2_with fail
  refine range_law (gf := 172) (lb := #[.pointer (some ⟨p4, 0, none⟩)]) (Bx := BxN) (Mt := fun i _ => i ∈ [p1, p2, p3, W.heap.size + 1]) (xs := xs) (encs := encIt) rfl (enters_of Tryz.func172 (by kernel_rfl) rfl) (fun _ => by simp) (fun q o hq _ hm => by simp at hm; omega)
    (nodes_hand w W _ p4 k _ (fun i o hi hm => by simp at hm; omega) _ _ _ _ _ t xs (unhide HP) hsz hBW l4) (fun _ => rfl)
    (fun pre V => Loc V p3 #[.int .i64 (pre.length : Nat)] 3 ∧ Loc V p1 #[.bool false] 4 ∧ VSet (W.heap.size + 2) V p2 ∧ Below w.heap.size w V ∧ scan (pre.map tst) 120 = (true, (120 : Int) - (pre.length : Nat)))
    (fun pre V => Loc V p1 #[.bool false] 4 ∧ Below w.heap.size w V ∧ (scan (pre.map tst) 120).1 = false)
    (fun pre A B row hs hg hr => ⟨hs.1.stay hg hr (by omega) (by omega), hs.2.1.stay hg hr (by omega) (by omega), hs.2.2.1.stay hg hr (by omega) (by omega), below_stay hs.2.2.2.1 (by omega) hg hr hs.2.2.2.1.size, hs.2.2.2.2⟩)
    (fun pre A B row hs hg hr => ⟨hs.1.stay hg hr (by omega) (by omega), below_stay hs.2.1 (by omega) hg hr hs.2.1.size, hs.2.2⟩)
    ⟨l3, l1, .inl l2, hBW, rfl⟩
    (fun x a' V => ∃ q, W.heap.size + 1 < q ∧ Loc V q #[x.a, x.b, x.c, x.d, x.e] 55 ∧ a' = { tmps := #[.agg #[.int .i64 0, .slice ab nb cb, .slice ac nc cc, .slice ad nd cd, .slice ae ne ce], .pointer (some ⟨w.heap.size, 0, none⟩), .pointer (some ⟨p1, 0, none⟩), .pointer (some ⟨p2, 0, none⟩), .pointer (some ⟨p3, 0, none⟩), .int .i64 x.deep, .pointer (some ⟨q, 0, none⟩), .pointer (some ⟨w.heap.size, 0, none⟩), .int .i64 0, .bool false, .agg #[.int .i64 0, .slice ab nb cb, .slice ac nc cc, .slice ad nd cd, .slice ae ne ce], .func (.func 172) #[] #[.pointer (some ⟨p4, 0, none⟩)], .int .i64 x.deep, .agg #[x.a, x.b, x.c, x.d, x.e], undef, undef, undef, undef, undef, undef, undef, undef, undef, undef, undef, undef, undef], defers := [] })
    (fun x a' u A B row hs hg hr => by obtain ⟨q, h1, h2, h3⟩ := hs; exact ⟨q, h1, h2.stay hg hr (by omega) (by omega), h3⟩)
    ?assign ?body ?done ?stop
  case assign =>
    intro pre x V K hi hV2 hK
    obtain ⟨deep, a, b, c, d, e, m, u, rd⟩ := x
    obtain ⟨z, ab', nb', cb', ac', nc', cc', ad', nd', cd', ae', ne', ce', hC⟩ := rd_shape rd
    simp only [List.cons.injEq, and_true] at hC
    obtain ⟨rfl, rfl, rfl, rfl, rfl⟩ := hC
    simp only [encIt] at hK ⊢
    gi_wp2
    exact hK _ _ ((Below.refl _ _).alloc (Nat.le_refl _) _) ⟨V.heap.size, by omega, Loc.made V _ _, rfl⟩
  case body =>
    rintro pre x a' V ⟨i3, i1, iV, iB, iS⟩ ⟨q, hq, lq, rfl⟩ hpx hsz2
    obtain ⟨deep, a, b, c, d, e, m, u, rd⟩ := x
    have HI := hide (And.intro i3 (And.intro i1 (And.intro iV (And.intro iB iS))))
    have HR := hide rd
    obtain ⟨z, ab', nb', cb', ac', nc', cc', ad', nd', cd', ae', ne', ce', hC⟩ := rd_shape rd
    simp only [List.cons.injEq, and_true] at hC
    obtain ⟨rfl, rfl, rfl, rfl, rfl⟩ := hC
    have hlen : pre.length ≤ 120 := by
      have := scan_len (a := pre.map tst) (left := 120) (by rw [iS]) (by omega)
      simp at this
      omega
    have c3 : V.cell? ⟨p3, 0, none⟩ = some (.int .i64 (pre.length : Nat)) := i3.cell 0
    have f3 := i3.frozen 0
    have c1 : V.cell? ⟨p1, 0, none⟩ = some (.bool false) := i1.cell 0
    have f1 := i1.frozen 0
    simp only at lq
    obtain ⟨x0, x1, x2, x3, x4⟩ := lq.five
    have hsn := scan_snoc (x := tst (⟨deep, .int .i64 z, .slice ab' nb' cb', .slice ac' nc' cc', .slice ad' nd' cd', .slice ae' ne' ce', m, u, rd⟩ : It w)) iS
    have HS := hide hsn
    clear hsn iS i3 i1 iV iB
    generalize hn : pre.length = n at *
    have HN := hide hn
    clear hn
    have hn1 : 0 ≤ (n : Int) + 1 := by omega
    have hBk : BooksSame W.heap.size V ((V.setCell ⟨p3, 0, none⟩ (.int .i64 ((n : Int) + 1))).setCell ⟨p1, 0, none⟩ (.bool false)) := (books_set W.heap.size V p3 0 _ (by omega) (by omega)).trans (books_set W.heap.size _ p1 0 _ (by omega) (by omega))
    by_cases h1 : 120 < (n : Int) + 1
    · gi_wp2
      refine ⟨trivial, ?_⟩
      gi_wp2
      obtain ⟨i3, i1, iV, iB, iS⟩ := unhide HI
      refine ⟨hBk, (i1.other p3 0 _ (by omega)).set 0 (.bool false), (iB.setCell (p := ⟨p3, 0, none⟩) (by show w.heap.size ≤ p3; omega) _).setCell (p := ⟨p1, 0, none⟩) (by show w.heap.size ≤ p1; omega) _, ?_⟩
      rw [List.map_append, List.map_cons, List.map_nil, unhide HS, if_pos (.inl h1)]
    · by_cases h2 : 20 < deep
      · gi_wp2
        refine ⟨trivial, ?_⟩
        gi_wp2
        obtain ⟨i3, i1, iV, iB, iS⟩ := unhide HI
        refine ⟨hBk, (i1.other p3 0 _ (by omega)).set 0 (.bool false), (iB.setCell (p := ⟨p3, 0, none⟩) (by show w.heap.size ≤ p3; omega) _).setCell (p := ⟨p1, 0, none⟩) (by show w.heap.size ≤ p1; omega) _, ?_⟩
        rw [List.map_append, List.map_cons, List.map_nil, unhide HS, if_pos (.inr (.inl h2))]
      · have hcall : Calls Tryz.prog 104 #[.agg #[.int .i64 z, .slice ab' nb' cb', .slice ac' nc' cc', .slice ad' nd' cd', .slice ae' ne' ce'], .pointer (some ⟨p2, 0, none⟩)] (V.setCell ⟨p3, 0, none⟩ (.int .i64 ((n : Int) + 1))) fun e w' => e = .returned (.bool (partB u)) ∧ VSet (W.heap.size + 2) w' p2 ∧ Frm (V.setCell ⟨p3, 0, none⟩ (.int .i64 ((n : Int) + 1))) w' [p2] := by
          obtain ⟨i3, i1, iV, iB, iS⟩ := unhide HI
          exact partI_any (W.heap.size + 2) m w _ _ _ _ _ _ u p2 (unhide HR) (iB.setCell (p := ⟨p3, 0, none⟩) (by show w.heap.size ≤ p3; omega) _) (by omega) (iV.set i3 (by omega) 0 _) (by simpa using hsz2)
        have HC := hide hcall
        clear hcall
        gi_wp2
        refine ⟨trivial, ?_⟩
        refine (CallsIn.inRound (F := Fence.wide) (W.heap.size + 1) (callsIn_wide.2 (unhide HC))).mono ?_
        rintro e V2 ⟨rfl, hV2, F2⟩
        have HA : Hid (Loc V2 p3 #[.int .i64 ((n : Int) + 1)] 3 ∧ Loc V2 p1 #[.bool false] 4 ∧ Below w.heap.size w V2 ∧ BooksSame W.heap.size V V2 ∧ Frm V V2 [p1, p2, p3, W.heap.size + 1]) := by
          obtain ⟨i3, i1, iV, iB, iS⟩ := unhide HI
          have iB1 := iB.setCell (p := ⟨p3, 0, none⟩) (by show w.heap.size ≤ p3; omega) (.int .i64 ((n : Int) + 1))
          refine ⟨(i3.set 0 _).frm F2 (by simp; omega), (i1.other p3 0 _ (by omega)).frm F2 (by simp; omega), iB1.trans (F2.below iB1.size (fun g hg => by simp at hg; omega)), (books_set W.heap.size V p3 0 _ (by omega) (by omega)).trans (books_frm F2 (by simpa using hsz2) (by simp; omega) (by simp; omega)), ?_⟩
          exact ((Frm.set V p3 0 _).mono (fun g hg => by simp at hg; simp [hg])).trans (F2.mono (fun g hg => by simp at hg; simp [hg]))
        have c1 : V2.cell? ⟨p1, 0, none⟩ = some (.bool false) := (unhide HA).2.1.cell 0
        have f1 := (unhide HA).2.1.frozen 0
        clear x0 x1 x2 x3 x4 c3 f3
        by_cases hb : partB u = true
        · rw [hb]
          gi_wp2
          obtain ⟨a3, a1, aB, aK, aF⟩ := unhide HA
          refine ⟨aK, Frp.ofFrm aF (fun g hg _ _ => hg), ?_, a1, hV2, aB, ?_⟩
          · have e : ((pre ++ [(⟨deep, .int .i64 z, .slice ab' nb' cb', .slice ac' nc' cc', .slice ad' nd' cd', .slice ae' ne' ce', m, u, rd⟩ : It w)]).length : Int) = (n : Int) + 1 := by rw [List.length_append, unhide HN]; simp
            rw [e]; exact a3
          · rw [List.map_append, List.map_cons, List.map_nil, unhide HS, if_neg (by simp only [tst, hb]; simp; omega)]
            rw [List.length_append, unhide HN]
            simp
            omega
        · have hb' : partB u = false := by simpa using hb
          rw [hb']
          gi_wp2
          obtain ⟨a3, a1, aB, aK, aF⟩ := unhide HA
          refine ⟨aK.trans (books_set W.heap.size _ p1 0 _ (by omega) (by omega)), a1.set 0 (.bool false), aB.setCell (p := ⟨p1, 0, none⟩) (by show w.heap.size ≤ p1; omega) _, ?_⟩
          rw [List.map_append, List.map_cons, List.map_nil, unhide HS, if_pos (.inr (.inr hb'))]
  case done =>
    rintro V ⟨i3, i1, iV, iB, iS⟩ hD
    have c1 : V.cell? ⟨p1, 0, none⟩ = some (.bool false) := i1.cell 0
    have f1 := i1.frozen 0
    have HF := hide (show okN k t = true by rw [unhide HO, ← unhide HM, iS])
    clear iS
    gi_wp2
    have hD' : (V.setCell ⟨p1, 0, none⟩ (.bool true)).heap[W.heap.size]? = some (.deferred (some [])) := (heap_setCell_other V ⟨p1, 0, none⟩ _ _ (by show W.heap.size ≠ p1; omega)).trans hD
    refine ⟨by simp, .inl ⟨_, _, rfl, run_takeDeferred hD', ?_⟩⟩
    have lE : Loc ((V.setCell ⟨p1, 0, none⟩ (.bool true)).putObj W.heap.size (.deferred none)) p1 #[.bool true] 4 := (i1.set 0 (.bool true)).stay (grownBy_putObj' _ _ _) (fun r e => by cases e; exact .inl rfl) (by omega) (by omega)
    have c5 : ((V.setCell ⟨p1, 0, none⟩ (.bool true)).putObj W.heap.size (.deferred none)).cell? ⟨p1, 0, none⟩ = some (.bool true) := lE.cell 0
    refine ⟨.bool true, ?_, by rw [unhide HF], below_stay (iB.setCell (p := ⟨p1, 0, none⟩) (by show w.heap.size ≤ p1; omega) _) (D := W.heap.size) (by omega) (grownBy_putObj' _ _ _) (fun r e => by cases e; exact .inl rfl) (by simpa using iB.size)⟩
    simp [results, Tryz.f91, go_sem, c5]
  case stop =>
    rintro pre V hpre ⟨i1, iB, iS⟩ hD
    have HF := hide (show okN k t = false by rw [unhide HO, ← unhide HM]; exact scan_no iS (hpre.map _))
    clear iS
    gi_wp2
    refine ⟨by simp, .inl ⟨_, _, rfl, run_takeDeferred hD, ?_⟩⟩
    have lE : Loc (V.putObj W.heap.size (.deferred none)) p1 #[.bool false] 4 := i1.stay (grownBy_putObj' _ _ _) (fun r e => by cases e; exact .inl rfl) (by omega) (by omega)
    have c5 : (V.putObj W.heap.size (.deferred none)).cell? ⟨p1, 0, none⟩ = some (.bool false) := lE.cell 0
    refine ⟨.bool false, ?_, by rw [unhide HF], below_stay iB (D := W.heap.size) (by omega) (grownBy_putObj' _ _ _) (fun r e => by cases e; exact .inl rfl) iB.size⟩
    simp [results, Tryz.f91, go_sem, c5]

theorem nodeI_none (k : Nat) (w : World) (a b c d e : Value) (t : Tr (k + 1)) (h : RdNode (k + 1) w [a, b, c, d, e] t) (hz : t.kind ≠ 0) :
    Calls Tryz.prog 91 #[.agg #[a, b, c, d, e]] w fun e w' => e = .returned (.bool (okN k t)) ∧ Below w.heap.size w w' := by
  have HO := hide (show okN k t = false by unfold okN; simp [hz])
  obtain ⟨_, _, _, _, e0, k1, k2, hb, hc, hd, he⟩ := h
  simp only [List.cons.injEq, and_true] at e0
  obtain ⟨rfl, rfl, rfl, rfl, rfl⟩ := e0
  obtain ⟨ab, cb, rfl, _, _⟩ := hb.shape
  obtain ⟨ac, cc, rfl, _, _⟩ := hc.shape
  obtain ⟨ad, cd, rfl, _, _⟩ := Elems.shape hd
  obtain ⟨ae, ce, rfl, _, _⟩ := Elems.shape he
  have d0 : (t.kind != 0) = true := by simpa using hz
  clear hb hc hd he
  generalize t.kind = z at *
  generalize t.name.length = nb at *
  generalize t.text.length = nc at *
  generalize t.attrs.length = nd at *
  generalize t.kids.length = ne at *
  go_enter Tryz.func91, Tryz.ntmps91
  go_wp2_with fail
  refine bodyPost_ret (v := .bool false) (by simp [results, Tryz.results91, go_sem]) rfl ⟨by rw [unhide HO], ?_⟩
  exact ((Below.refl _ _).alloc (Nat.le_refl _) _).alloc (by simp) _

/-- impl.NodeOk. -/
theorem nodeI_any (k : Nat) (w : World) (a b c d e : Value) (t : Tr (k + 1)) (h : RdNode (k + 1) w [a, b, c, d, e] t) (hsz : szT (k + 1) t ≤ 2097152) :
    Calls Tryz.prog 91 #[.agg #[a, b, c, d, e]] w fun e w' => e = .returned (.bool (okN k t)) ∧ Below w.heap.size w w' := by
  by_cases hz : t.kind = 0
  · exact nodeI_elem k w a b c d e t h hsz hz
  · exact nodeI_none k w a b c d e t h hz
end Go.Proofs.YtpijenlmfmknnaaGreatDoor

/- The reckoner's hook for NodeOk: the tree is read out of the store; the contract of NodeOk tells the rest. -/
namespace Go.Proofs.YtpijenlmfmknnaaGreatDoor
open Go.RowKit
set_option linter.unusedVariables false

theorem HR.still {w0 w w' : World} {B : Nat} {ρ : Rn} {h : Hf} (H : HR w0 B ρ h w) (hb : Below w.heap.size w w') : HR w0 B ρ h w' := by
  have hB : B ≤ w.heap.size := Nat.le_trans H.base H.below.size
  refine ⟨H.below.trans (hb.mono hB), H.base, fun id o e => (H.obj id o e).same fun p hp => ?_, H.sep, H.own, H.glo⟩
  obtain ⟨q, hq, hlt⟩ := (H.obj id o e).place
  rw [hp] at hq; cases hq
  exact hb.block _ hlt

/-- Bytes as numbers. -/
def intsOf : List Value → Option (List Int)
  | [] => some []
  | .int .u8 n :: l => match decide (0 ≤ n ∧ n ≤ 255), intsOf l with
    | true, some k => some (n :: k)
    | _, _ => none
  | _ => none
def bytesK (v : Value) : M (List Int) := match v with
  | .slice none 0 0 => mpure []
  | .slice (some a) n _ => match Nat.beq n 0 with
    | true => mpure []
    | false => match Nat.ble n 4096 with
      | true => mbind (mload a n) fun vs => match intsOf vs with
        | some l => mpure l
        | none => mfail
      | false => mfail
  | _ => mfail
def emptyK (v : Value) : Bool := match v with
  | .slice none 0 0 => true
  | .slice (some _) 0 _ => true
  | _ => false
/-- The cells of n elements of five cells. -/
def fives : Nat → List Value → List (List Value)
  | 0, _ => []
  | n + 1, l => l.take 5 :: fives n (l.drop 5)
def allK {α : Type} (F : List Value → M α) : List (List Value) → M (List α)
  | [] => mpure []
  | C :: l => mbind (F C) fun t => mbind (allK F l) fun ts => mpure (t :: ts)
def kidsK {α : Type} (F : List Value → M α) (v : Value) : M (List α) := match v with
  | .slice none 0 0 => mpure []
  | .slice (some a) n _ => match Nat.beq n 0 with
    | true => mpure []
    | false => match Nat.ble n 4096 with
      | true => mbind (mload a (n * 5)) fun vs => allK F (fives n vs)
      | false => mfail
  | _ => mfail
def treeK : (k : Nat) → List Value → M (Tr k)
  | 0, _ => mfail
  | k + 1, C => match C with
    | [.int .i64 kd, a, b, c, d] => match decide (-9223372036854775808 ≤ kd ∧ kd ≤ 9223372036854775807) && emptyK c with
      | true => mbind (bytesK a) fun nm => mbind (bytesK b) fun tx => mbind (kidsK (treeK k) d) fun ks => mpure ({ kind := kd, name := nm, text := tx, attrs := [], kids := ks } : Nd (Tr k))
      | false => mfail
    | _ => mfail
def nodeK (C : List Value) : M Value := mbind (treeK 5 C) fun t => match Nat.ble (szT 5 t) 2097152 with
  | true => forceB (okN 4 t) fun b => mpure (.bool b)
  | false => mfail
def hookN : Hook := fun f args => match f, args with
  | 91, [.agg ⟨C⟩] => some (asCall (nodeK C))
  | _, _ => none

theorem good_bytesK (v : Value) : Good (bytesK v) := by
  unfold bytesK
  repeat' (first | exact good_pure _ | exact good_fail | (refine good_bind (good_mload _ _) fun _ => ?_) | split)
theorem good_allK {α : Type} {F : List Value → M α} (hF : ∀ C, Good (F C)) : ∀ l, Good (allK F l)
  | [] => good_pure _
  | C :: l => good_bind (hF C) fun _ => good_bind (good_allK hF l) fun _ => good_pure _
theorem good_kidsK {α : Type} {F : List Value → M α} (hF : ∀ C, Good (F C)) (v : Value) : Good (kidsK F v) := by
  unfold kidsK
  repeat' (first | exact good_pure _ | exact good_fail | exact good_allK hF _ | (refine good_bind (good_mload _ _) fun _ => ?_) | split)
theorem good_treeK : ∀ k C, Good (treeK k C)
  | 0, C => by unfold treeK; exact good_fail
  | k + 1, C => by
    unfold treeK
    split
    · split
      · exact good_bind (good_bytesK _) fun _ => good_bind (good_bytesK _) fun _ => good_bind (good_kidsK (good_treeK k) _) fun _ => good_pure _
      · exact good_fail
    · exact good_fail
theorem good_nodeK (C : List Value) : Good (nodeK C) := by
  refine good_bind (good_treeK 5 C) fun t => ?_
  split
  · rw [forceB_eq]; exact good_pure _
  · exact good_fail

section
variable {w0 w : World} {B : Nat} {ρ : Rn}
theorem intsOf_rel : ∀ (vs : List Value) (l : List Int) (vs' : List Value), intsOf vs = some l → LR (VL ρ) vs vs' → okB l ∧ vs' = vals l ∧ l.length = vs.length
  | [], l, vs', h, hl => by
    cases h
    have : vs' = [] := hl
    exact ⟨okB_nil, this, rfl⟩
  | v :: vs, l, _, h, ⟨v', t, e, hv, ht⟩ => by
    unfold intsOf at h
    split at h
    · rename_i heq; cases heq
    · rename_i n r heq
      cases heq
      split at h
      · rename_i k hd hk
        cases h
        obtain ⟨h1, h2, h3⟩ := intsOf_rel _ k t hk ht
        have hd := of_decide_eq_true hd
        refine ⟨fun x hx => ?_, ?_, by simp [h3]⟩
        · cases hx with
          | head => exact hd
          | tail _ hx => exact h1 x hx
        · rw [e, VL.int.1 hv, h2]; rfl
      · cases h
    · cases h
/-- A row that was looked at. -/
theorem row_seen {a : Addr} {m n c : Nat} {v' : Value} {vs : List Value} {s s' : Hp} (H : HR w0 B ρ s.f w) (hv : VL ρ (.slice (some a) m c) v') (hm : m ≠ 0) (ht : Tells (mload a n) s vs s') :
    ∃ b off c', v' = .slice (some ⟨b, off, none⟩) m c' ∧ m ≤ c' ∧ c' ≤ 9223372036854775807 ∧ b < w.heap.size ∧ vs.length = n ∧ s'.f = s.f ∧ s'.n = s.n ∧
      ∃ vs', LR (VL ρ) vs vs' ∧ ∀ (i : Nat) x', vs'[i]? = some x' → w.cell? ⟨b, off + i, none⟩ = some x' := by
  obtain ⟨hsp, hlc, p, hp, a', c', e1, e2, e3, e4⟩ := VL.slice.1 hv
  obtain ⟨b, off, cs, t, fl, rfl, f1, f2, f3, g1, g2⟩ := tells_load ht
  have ha := e3 (by omega)
  obtain ⟨q, hq, q2, q3, q4, c2, el2, fz2, q5, q6, q7, q8⟩ := H.obj b _ f1
  rw [show (ρ b = some p) from hp] at hq
  cases hq
  have hsz : p.sz = cs.length := q2
  have hvl : vs.length = n := by rw [f3, List.length_take, List.length_drop]; omega
  refine ⟨p.blk, p.off + off, c', by rw [e1, ha], by omega, e4, ?_, hvl, g1, g2, (c2.toList.drop (p.off + off)).take n, LR.of ?_ fun i x x' hx hx' => ?_, fun i x' hx' => ?_⟩
  · rcases Nat.lt_or_ge p.blk w.heap.size with h | h
    · exact h
    · rw [Array.getElem?_eq_none h] at q5; cases q5
  · rw [List.length_take, List.length_drop, Array.length_toList, hvl]; omega
  · rw [List.getElem?_take] at hx'
    split at hx'
    · rename_i hi
      rw [List.getElem?_drop, Array.getElem?_toList] at hx'
      have hx2 : cs[off + i]? = some x := by
        rw [← hx, f3, List.getElem?_take, if_pos hi, List.getElem?_drop]
      obtain ⟨y, h1, h2⟩ := q8 (off + i) _ (by simpa using hx2)
      rw [show p.off + (off + i) = p.off + off + i by omega, hx'] at h1
      cases h1; exact h2
    · cases hx'
  · rw [List.getElem?_take] at hx'
    split at hx'
    · rw [List.getElem?_drop, Array.getElem?_toList] at hx'
      rw [cell_at q5]; exact hx'
    · cases hx'
theorem max_le {c : Nat} (h : c ≤ 9223372036854775807) : c ≤ maxLen := Nat.le_trans h (by decide)
theorem bytes_rel {v v' : Value} {l : List Int} {s s' : Hp} (H : HR w0 B ρ s.f w) (hv : VL ρ v v') (ht : Tells (bytesK v) s l s') : Byt w v' l ∧ s'.f = s.f ∧ s'.n = s.n := by
  unfold bytesK at ht
  split at ht
  · obtain ⟨rfl, rfl⟩ := tells_pure ht
    obtain ⟨_, _, e⟩ := VL.nils.1 hv
    exact ⟨⟨okB_nil, by simp, .inl ⟨e, rfl⟩⟩, rfl, rfl⟩
  · rename_i a n c
    split at ht
    · rename_i hn
      have hn := Nat.eq_of_beq_eq_true hn
      subst hn
      obtain ⟨rfl, rfl⟩ := tells_pure ht
      obtain ⟨hsp, hlc, p, hp, a', c', e1, e2, e3, e4⟩ := VL.slice.1 hv
      exact ⟨⟨okB_nil, by simp, .inr (.inl ⟨a', c', e1, max_le e4, rfl⟩)⟩, rfl, rfl⟩
    · rename_i hn
      have hn : n ≠ 0 := fun h => by subst h; cases hn
      split at ht
      · rename_i hle
        have hle := Nat.le_of_ble_eq_true hle
        obtain ⟨vs, s1, k1, k2, _⟩ := tells_bind (good_mload _ _) ht
        obtain ⟨b, off, c', e1, e2, e3, e4, hvl, g1, g2, vs', hr1, hr2⟩ := row_seen H hv hn k1
        split at k2
        · rename_i k hk
          obtain ⟨rfl, rfl⟩ := tells_pure k2
          obtain ⟨h1, h2, h3⟩ := intsOf_rel vs l vs' hk hr1
          have hln : l.length = n := by omega
          refine ⟨⟨h1, max_le (by omega), .inr (.inr ⟨b, off, c', by rw [e1, hln], by omega, max_le e3, fun h0 => ?_, e4, fun i hi => ?_⟩)⟩, g1, g2⟩
          · rw [h0] at hln; exact hn hln.symm
          · exact hr2 i _ (by rw [h2]; exact vals_at hi)
        · exact (tells_fail k2).elim
      · exact (tells_fail ht).elim
  · exact (tells_fail ht).elim
/-- Elements, one by one. -/
theorem all_rel {α : Type} {F : List Value → M α} {R : List Value → α → Prop} (hF : ∀ C, Good (F C)) (hR : ∀ C C' t (s s' : Hp), HR w0 B ρ s.f w → LR (VL ρ) C C' → Tells (F C) s t s' → R C' t ∧ s'.f = s.f ∧ s'.n = s.n) :
    ∀ (n : Nat) (vs vs' : List Value) (ts : List α) (s s' : Hp), HR w0 B ρ s.f w → LR (VL ρ) vs vs' → Tells (allK F (fives n vs)) s ts s' → ts.length = n ∧ s'.f = s.f ∧ s'.n = s.n ∧ ∀ i (hi : i < ts.length), R ((vs'.drop (5 * i)).take 5) ts[i]
  | 0, vs, vs', ts, s, s', H, hv, ht => by
    unfold fives allK at ht
    obtain ⟨rfl, rfl⟩ := tells_pure ht
    exact ⟨rfl, rfl, rfl, fun i hi => by simp at hi⟩
  | n + 1, vs, vs', ts, s, s', H, hv, ht => by
    unfold fives allK at ht
    obtain ⟨t, s1, k1, k2, _⟩ := tells_bind (hF _) ht
    obtain ⟨us, s2, k3, k4, _⟩ := tells_bind (good_allK hF _) k2
    obtain ⟨rfl, rfl⟩ := tells_pure k4
    obtain ⟨r1, r2, r3⟩ := hR _ _ t s s1 H (hv.take 5) k1
    obtain ⟨q1, q2, q3, q4⟩ := all_rel hF hR n _ _ us s1 _ (by rw [r2]; exact H) (hv.drop 5) k3
    refine ⟨by simp [q1], q2.trans r2, q3.trans r3, fun i hi => ?_⟩
    cases i with
    | zero => simpa using r1
    | succ i =>
      have := q4 i (by simpa using hi)
      rw [List.drop_drop] at this
      simp only [List.getElem_cons_succ]
      rw [show 5 * (i + 1) = 5 + 5 * i by omega]
      exact this
theorem tree_rel : ∀ (k : Nat) (C C' : List Value) (t : Tr k) (s s' : Hp), HR w0 B ρ s.f w → LR (VL ρ) C C' → Tells (treeK k C) s t s' → RdNode k w C' t ∧ s'.f = s.f ∧ s'.n = s.n
  | 0, C, C', t, s, s', H, hl, ht => t.elim
  | k + 1, C, C', t, s, s', H, hl, ht => by
    unfold treeK at ht
    split at ht
    · rename_i kd a b c d
      split at ht
      · rename_i hc
        rw [Bool.and_eq_true] at hc
        have hkd := of_decide_eq_true hc.1
        obtain ⟨x0, t0, e0, h0, a', t1, e1, ha, b', t2, e2, hb, c', t3, e3, hcc, d', t4, e4, hd, e5⟩ := hl
        have e5 : t4 = [] := e5
        subst e5 e4 e3 e2 e1 e0
        rw [VL.int.1 h0]
        obtain ⟨nm, s1, k1, k2, _⟩ := tells_bind (good_bytesK _) ht
        obtain ⟨tx, s2, k3, k4, _⟩ := tells_bind (good_bytesK _) k2
        obtain ⟨ks, s3, k5, k6, _⟩ := tells_bind (good_kidsK (good_treeK k) _) k4
        obtain ⟨rfl, rfl⟩ := tells_pure k6
        obtain ⟨n1, n2, n3⟩ := bytes_rel H ha k1
        have H1 : HR w0 B ρ s1.f w := by rw [n2]; exact H
        obtain ⟨x1, x2, x3⟩ := bytes_rel H1 hb k3
        have H2 : HR w0 B ρ s2.f w := by rw [x2]; exact H1
        have hat : RdAttrs w c' [] := by
          have hc2 := hc.2
          unfold emptyK at hc2
          split at hc2
          · obtain ⟨_, _, e⟩ := VL.nils.1 hcc
            exact ⟨by simp, .inl ⟨e, rfl⟩⟩
          · obtain ⟨_, _, p, _, a2, c2, e, _, _, e4⟩ := VL.slice.1 hcc
            exact ⟨by simp, .inr (.inl ⟨a2, c2, e, max_le e4, rfl⟩)⟩
          · cases hc2
        have hkid : Elems w 5 d' ks (RdNode k w) ∧ s'.f = s2.f ∧ s'.n = s2.n := by
          unfold kidsK at k5
          split at k5
          · obtain ⟨rfl, rfl⟩ := tells_pure k5
            obtain ⟨_, _, e⟩ := VL.nils.1 hd
            exact ⟨⟨by simp, .inl ⟨e, rfl⟩⟩, rfl, rfl⟩
          · rename_i da n dc
            split at k5
            · rename_i hn
              have hn := Nat.eq_of_beq_eq_true hn
              subst hn
              obtain ⟨rfl, rfl⟩ := tells_pure k5
              obtain ⟨_, _, p, _, a2, c2, e, _, _, e4⟩ := VL.slice.1 hd
              exact ⟨⟨by simp, .inr (.inl ⟨a2, c2, e, max_le e4, rfl⟩)⟩, rfl, rfl⟩
            · rename_i hn
              have hn : n ≠ 0 := fun h => by subst h; cases hn
              split at k5
              · rename_i hle
                have hle := Nat.le_of_ble_eq_true hle
                obtain ⟨vs, s4, j1, j2, _⟩ := tells_bind (good_mload _ _) k5
                obtain ⟨bb, off, c2, e1, e2, e3, e4, hvl, g1, g2, vs', hr1, hr2⟩ := row_seen H2 hd hn j1
                obtain ⟨q1, q2, q3, q4⟩ := all_rel (w := w) (w0 := w0) (B := B) (ρ := ρ) (R := RdNode k w) (good_treeK k) (fun C C' t s s' H hl ht => tree_rel k C C' t s s' H hl ht) n vs vs' ks s4 s' (by rw [g1]; exact H2) hr1 j2
                have hlen' : vs'.length = n * 5 := by rw [hr1.len, hvl]
                refine ⟨⟨max_le (by omega), .inr (.inr ⟨bb, off, c2, by rw [e1, q1], by omega, max_le e3, fun h0 => ?_, e4, fun i hi => ⟨(vs'.drop (5 * i)).take 5, ?_, fun j hj => ?_, q4 i hi⟩⟩)⟩, q2.trans g1, q3.trans g2⟩
                · rw [h0] at q1; exact hn q1.symm
                · rw [List.length_take, List.length_drop]; omega
                · have hx : vs'[5 * i + j]? = some vs'[5 * i + j] := List.getElem?_eq_getElem (by omega)
                  rw [List.getElem?_take, if_pos hj, List.getElem?_drop, hx]
                  have := hr2 (5 * i + j) _ hx
                  rw [← this]
                  congr 2
                  omega
              · exact (tells_fail k5).elim
          · exact (tells_fail k5).elim
        exact ⟨⟨a', b', c', d', rfl, hkd.1, hkd.2, n1, x1, hat, hkid.1⟩, by rw [hkid.2.1, x2, n2], by rw [hkid.2.2, x3, n3]⟩
      · exact (tells_fail ht).elim
    · exact (tells_fail ht).elim
end
theorem hookN_good : GoodH hookN := by
  intro f vs F h
  unfold hookN at h
  split at h
  · cases h; exact good_asCall (good_nodeK _)
  · cases h
theorem one_agg {ρ : Rn} {C vs' : List Value} (hvs : LR (VL ρ) [.agg ⟨C⟩] vs') : ∃ C', vs' = [.agg ⟨C'⟩] ∧ LR (VL ρ) C C' := by
  obtain ⟨x', t1, rfl, hx, e2⟩ := hvs
  have e2 : t1 = [] := e2
  subst e2
  obtain ⟨C', rfl, hC⟩ := VL.agg.1 hx
  exact ⟨C', rfl, hC⟩
set_option maxRecDepth 20000 in
theorem hookN_ok : HookOk Tryz.prog hookN := by
  intro f vs F h s s' v e w0 B ρ w vs' H hvs hfr
  unfold hookN at h
  split at h
  · rename_i C
    cases h
    obtain ⟨C', e0, hC⟩ := one_agg hvs
    rw [e0]
    have ht := tells_asCall (good_nodeK C) e
    obtain ⟨t, s1, k1, k2, _⟩ := tells_bind (good_treeK 5 C) ht
    obtain ⟨r1, r2, r3⟩ := tree_rel 5 C C' t s s1 H hC k1
    split at k2
    · rename_i hsz
      have hsz := Nat.le_of_ble_eq_true hsz
      rw [forceB_eq] at k2
      obtain ⟨rfl, rfl⟩ := tells_pure k2
      obtain ⟨a, b, c, d, e5, _⟩ := id r1
      subst e5
      have hcall := nodeI_any 4 w _ a b c d t r1 hsz
      have hent : (callFunc 91 ⟨[.agg ⟨[.int .i64 t.kind, a, b, c, d]⟩]⟩).run Tryz.prog w = .ok (.enter 91 ⟨[.agg ⟨[.int .i64 t.kind, a, b, c, d]⟩]⟩) w := by
        have hname : (Tryz.f91.name == "runtime.NumGoroutine") = false := by kernel_rfl
        have hbody : Tryz.f91.body.isNone = false := by kernel_rfl
        simp only [callFunc, Sem.run_bind, run_program, Result.andThen, Tryz.func91, hname, hbody, Bool.false_eq_true, if_false, Sem.run_pure]
      rw [hent]
      show Calls Tryz.prog 91 _ w _
      refine Calls.mono hcall fun e w' he => ?_
      obtain ⟨rfl, hb⟩ := he
      exact ⟨_, rfl, ρ, (H.still hb).congr fun id => by rw [r2], by rw [r3]; exact .rfl, VL.bool.2 rfl⟩
    · exact (tells_fail k2).elim
  · cases h
end Go.Proofs.YtpijenlmfmknnaaGreatDoor
