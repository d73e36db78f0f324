/- Own texts joined: OnceF, Eq, EqZ, EqJ, EqP, ToZ, ToO, PlT, App, AppAt, AppZ, FrpT, Mark, OwnE, MarkA, MarkM, MarkN, MarkT, Rng, NameI. -/
import Derived.Test.YthgopknjppflhaaGreatDoorJa
import Derived.Test.YthgopknjppflhaaGreatDoorJb
import Derived.Test.YthgopknjppflhaaGreatDoorChecked
import Derived.Deep.QuietTactic
import Derived.BigQuiet
import Derived.Maps.AppendAt
import Derived.Laws.AppendOwnNone
import Derived.Deep.RegionLaw
import Derived.RangeFuncNested
import Derived.RangeFuncBound
import Derived.RangeFuncCalls
import Derived.RangeFuncLeaves
import Derived.Shelf.Abstract
import Derived.WalkKit
import Derived.OwnWalkIn
import Derived.TacticsInMore
import Derived.LoopNIn
import Derived.LoopIn

/- The set of void names within the forest: sync.Once over it, and the set asked. -/
namespace Go.Proofs.YthgopknjppflhaaGreatDoor
open Go.RowKit
set_option linter.unusedVariables false
set_option maxRecDepth 100000

/-- The forest's block: its places, its map, and the set that is not yet made; that is made. -/
def fs0 (o p : Value) : Array Value := #[o, p, .int .u32 0, .int .i32 0, .int .u32 0, .map none]
def fs1 (o p : Value) (m : Nat) : Array Value := #[o, p, .int .u32 1, .int .i32 0, .int .u32 0, .map (some m)]
def FMade (B : Nat) (o p : Value) (w : World) (g : Nat) : Prop := ∃ m, B ≤ m ∧ Loc w g (fs1 o p m) 105 ∧ w.heap[m]? = some voidMap
def FSet (B : Nat) (o p : Value) (w : World) (g : Nat) : Prop := Loc w g (fs0 o p) 105 ∨ FMade B o p w g

theorem fillF_any (o p : Value) (g : Nat) (w : World) (cs : Array Value) (hl : Loc w g cs 105) (c3 : Value) (h3 : w.cell? ⟨g, 5, none⟩ = some c3) :
    Calls Tryz.prog 92 #[.pointer (some ⟨g, 2, none⟩)] w fun e w' => e = .returned (.tuple #[]) ∧ w' = (w.setCell ⟨g, 5, none⟩ (.map (some w.heap.size))).alloc voidMap := by
  have hmm := @run_makeMap Tryz.prog
  have h1 := br_in w
  have h2 := hr_in w
  have hg := hl.lt
  have f3 := hl.frozen 5
  go_enter Tryz.func92, Tryz.ntmps92
  go_wp2
  go_end0
  exact ⟨rfl, rfl⟩

set_option maxHeartbeats 1600000 in
theorem slowF_any (o p : Value) (g : Nat) (w : World) (hl : Loc w g (fs0 o p) 105) :
    Calls Tryz.prog 101 #[.pointer (some ⟨g, 2, none⟩), .func (.func 92) #[.pointer (some ⟨g, 2, none⟩)] #[]] w fun e w' => e = .returned (.tuple #[]) ∧ ∃ m, w.heap.size ≤ m ∧ Loc w' g (fs1 o p m) 105 ∧ w'.heap[m]? = some voidMap ∧ Frm w w' [g] := by
  have h1 : w.cell? ⟨g, 3, none⟩ = some (.int .i32 0) := hl.cell 3
  have f1 := hl.frozen 3
  have l1 : Loc (w.setCell ⟨g, 3, none⟩ (.int .i32 1)) g #[o, p, .int .u32 0, .int .i32 1, .int .u32 0, .map none] 105 := hl.set 3 (.int .i32 1)
  have F1 := Frm.set w g 3 (.int .i32 1)
  have hnot : ∀ (x : Bool) (w : World), (Op.unary .not (.bool x)).run Tryz.prog w = .ok (.bool (!x)) w := fun _ _ => rfl
  go_enter_defers Tryz.func101, Tryz.ntmps101
  go_wp2_with (go_at_call 114; refine (lock_free ⟨g, 3, none⟩ _ (by go_simp) (by go_simp)).mono ?_; rintro e w' ⟨rfl, rfl⟩)
  generalize w.setCell ⟨g, 3, none⟩ (.int .i32 1) = w1 at *
  refine (load_any ⟨g, 2, none⟩ 0 w1 (l1.cell 2) false (by simp)).mono ?_
  rintro e w1 ⟨rfl, rfl⟩
  go_wp2_with fail
  refine (fillF_any o p g w1 _ l1 _ (l1.cell 5)).mono ?_
  rintro e w2 ⟨rfl, hw2⟩
  have l2 : Loc w2 g #[o, p, .int .u32 0, .int .i32 1, .int .u32 0, .map (some w1.heap.size)] 105 := by rw [hw2]; exact (l1.set 5 (.map (some w1.heap.size))).alloc _
  have m2 : w2.heap[w1.heap.size]? = some voidMap := by rw [hw2]; have := heap_alloc_new (w1.setCell ⟨g, 5, none⟩ (.map (some w1.heap.size))) voidMap; rwa [show (w1.setCell ⟨g, 5, none⟩ (.map (some w1.heap.size))).heap.size = w1.heap.size by simp] at this
  have F2 : Frm w1 w2 [g] := by rw [hw2]; exact (Frm.set w1 g 5 _).trans (Frm.alloc _ _ _)
  have hne : w1.heap.size ≠ g := by have := l1.lt; omega
  have F12 := F1.trans F2
  have hmm := F1.size
  clear hw2
  generalize w1.heap.size = m at *
  go_wp2_with fail
  refine leaves_cons (f := 116) (args := #[.pointer (some ⟨g, 2, none⟩), .bool true]) (by simp) (by simp [go_sem]) ?_
  refine (store_deferred ⟨g, 2, none⟩ (.int .u32 0) .returning _ (l2.cell 2) (l2.frozen 2)).mono ?_
  rintro e u' w3 ⟨rfl, rfl, hw3⟩
  have ld : Loc w2.drew g #[o, p, .int .u32 0, .int .i32 1, .int .u32 0, .map (some m)] 105 := l2.frm (Frm.drew w2 []) (by simp)
  have l3 : Loc w3 g #[o, p, .int .u32 1, .int .i32 1, .int .u32 0, .map (some m)] 105 := by rw [hw3]; exact ld.set 2 (.int .u32 1)
  have F3 : Frm w2 w3 [g] := by rw [hw3]; exact (Frm.drew w2 _).trans (Frm.set _ g 2 _)
  clear hw3
  refine leaves_cons (f := 115) (args := #[.pointer (some ⟨g, 3, none⟩)]) (by simp [settle]) (by simp [go_sem]) ?_
  refine (unlock_deferred ⟨g, 3, none⟩ _ _ (l3.cell 3) (l3.frozen 3)).mono ?_
  rintro e u' w4 ⟨rfl, rfl, hw4⟩
  have l4 : Loc w4 g (fs1 o p m) 105 := by rw [hw4]; exact l3.set 3 (.int .i32 0)
  have F4 : Frm w3 w4 [g] := by rw [hw4]; exact Frm.set _ g 3 _
  have hm : m < w2.heap.size := by
    by_cases h : m < w2.heap.size
    · exact h
    · rw [Array.getElem?_eq_none (by omega)] at m2; cases m2
  have F34 := F3.trans F4
  have m4 : w4.heap[m]? = some voidMap := (F34.block m hm (by simpa using hne)).trans m2
  simp [Leaves, settle, results, Tryz.results101]
  exact ⟨m, hmm, l4, m4, F12.trans F34⟩
theorem doF_any (B : Nat) (o p : Value) (g : Nat) (w : World) (h : FSet B o p w g) (hB : B ≤ w.heap.size) :
    Calls Tryz.prog 91 #[.pointer (some ⟨g, 2, none⟩), .func (.func 92) #[.pointer (some ⟨g, 2, none⟩)] #[]] w fun e w' => e = .returned (.tuple #[]) ∧ FMade B o p w' g ∧ Frm w w' [g] := by
  have hnot : ∀ (x : Bool) (w : World), (Op.unary .not (.bool x)).run Tryz.prog w = .ok (.bool (!x)) w := fun _ _ => rfl
  rcases h with hl | ⟨m, hbm, hl, hm⟩
  · have h0 : w.cell? ⟨g, 2, none⟩ = some (.int .u32 0) := hl.cell 2
    go_enter Tryz.func91, Tryz.ntmps91
    go_wp2_with fail
    refine (load_any ⟨g, 2, none⟩ 0 w h0 false (by simp)).mono ?_
    rintro e w ⟨rfl, rfl⟩
    go_wp2_with fail
    refine (slowF_any o p g w hl).mono ?_
    rintro e w' ⟨rfl, m, hbm, l', m', F'⟩
    go_wp2_with fail
    go_end0
    exact ⟨rfl, ⟨m, Nat.le_trans hB hbm, l', m'⟩, F'⟩
  · have h0 : w.cell? ⟨g, 2, none⟩ = some (.int .u32 1) := hl.cell 2
    go_enter Tryz.func91, Tryz.ntmps91
    go_wp2_with fail
    refine (load_any ⟨g, 2, none⟩ 1 w h0 true (by simp)).mono ?_
    rintro e w ⟨rfl, rfl⟩
    go_wp2_with fail
    go_end0
    exact ⟨rfl, ⟨m, hbm, hl, hm⟩, Frm.refl _ _⟩

open Classical in
set_option maxHeartbeats 1600000 in
theorem hasF_any (B : Nat) (o p : Value) (g : Nat) (w : World) (v : Value) (l : List Int) (h : FSet B o p w g) (hBB : B ≤ w.heap.size) (hv : ∀ w', Frm w w' [g] → Byt w' v l) :
    Calls Tryz.prog 74 #[.pointer (some ⟨g, 2, none⟩), v] w fun e w' => e = .returned (.bool (decide (Void l))) ∧ FMade B o p w' g ∧ Frm w w' [g] := by
  have hmf : ∀ (fn : Fn) (first cap : Array Value) (w : World), (Instr.makeFunc fn first cap).run Tryz.prog w = .ok (.func fn first cap) w := fun _ _ _ _ => rfl
  have hg : g < w.heap.size := by
    rcases h with h | ⟨m, _, h, _⟩
    · exact h.lt
    · exact h.lt
  obtain ⟨a1, k1, rfl, _⟩ := (hv w (Frm.refl _ _)).shape
  have HV := hide hv
  clear hv
  go_enter Tryz.func74, Tryz.ntmps74
  go_wp2_with fail
  refine (doF_any B o p g w h hBB).mono ?_
  rintro e w1 ⟨rfl, ⟨m, hbm, l1, m1⟩, F1⟩
  have h3 : w1.cell? ⟨g, 5, none⟩ = some (.map (some m)) := l1.cell 5
  have h3d : w1.drew.cell? ⟨g, 5, none⟩ = some (.map (some m)) := l1.cell 5
  have h3a : (w1.alloc (.cells #[] 89)).cell? ⟨g, 5, none⟩ = some (.map (some m)) := (l1.alloc _).cell 5
  have hlt : m < w1.heap.size := by
    by_cases h : m < w1.heap.size
    · exact h
    · rw [Array.getElem?_eq_none (by omega)] at m1; cases m1
  have hb1 : Byt w1 _ l := unhide HV w1 F1
  have c1 := conv_any w1.drew _ l (hb1.keep ((Below.refl _ _).drew))
  have c2 := conv_any (w1.alloc (.cells #[] 89)).drew _ l (hb1.keep (((Below.refl _ _).alloc (Nat.le_refl _) _).drew))
  have q1 := fun s => look_void w1.drew m s m1
  have q2 := fun s => look_void (w1.alloc (.cells #[] 89)).drew m s ((heap_alloc_old w1 _ hlt).trans m1)
  have HS := hide (voidS_str l hb1.1)
  generalize str l = s at *
  generalize l.length = n at *
  go_wp2_with fail
  go_region
  all_goals
    go_wp2_with fail
    go_ret
    exact ⟨by rw [← unhide HS]; rfl, ⟨m, hbm, (l1.alloc _).all ((Below.refl _ _).drew), (heap_alloc_old w1 _ hlt).trans m1⟩, F1.trans ((Frm.alloc w1 _ _).trans (Frm.drew _ _))⟩
end Go.Proofs.YthgopknjppflhaaGreatDoor

/- The law's own helper that holds two rows of bytes against each other, by its contract. -/
namespace Go.Proofs.YthgopknjppflhaaGreatDoor
open Go.RowKit
set_option linter.unusedVariables false

theorem take_eq_step {a b : List Int} {k : Nat} (h : a.take k = b.take k) (ha : k < a.length) (hb : k < b.length) (e : a[k] = b[k]) : a.take (k + 1) = b.take (k + 1) := by
  rw [List.take_succ_eq_append_getElem ha, List.take_succ_eq_append_getElem hb, h, e]
theorem decide_ne {a b : List Int} {k : Nat} (ha : k < a.length) (hb : k < b.length) (e : a[k] ≠ b[k]) : decide (a = b) = false := by
  simp only [decide_eq_false_iff_not]
  intro h; subst h; exact e rfl

set_option maxHeartbeats 1600000 in
set_option maxRecDepth 1000000 in
theorem eqB_any (w : World) (u v : Value) (a b : List Int) (hu : Byt w u a) (hv : Byt w v b) :
    Calls Tryz.prog 27 #[u, v] w fun e w' => e = .returned (.bool (decide (a = b))) ∧ Below w.heap.size w w' := by
  have hma := hu.2.1
  have hmb := hv.2.1
  unfold maxLen at hma hmb
  by_cases hl : a.length = b.length
  · by_cases h0 : a.length = 0
    · have ha : a = [] := List.eq_nil_of_length_eq_zero h0
      have hb : b = [] := List.eq_nil_of_length_eq_zero (by omega)
      subst ha hb
      obtain ⟨a1, c1, rfl, _⟩ := hu.shape
      obtain ⟨a2, c2, rfl, _⟩ := hv.shape
      go_enter Tryz.func27, Tryz.ntmps27
      go_wp2
      refine wp_loop_rounds 1 ?_
      rw [rounds_succ]
      go_wp2
      go_ret
      exact ⟨rfl, Below.refl _ _⟩
    · obtain ⟨hoka, _, ⟨rfl, rfl⟩ | ⟨x, cap, rfl, hc, rfl⟩ | ⟨p, off, cap, rfl, h1, h2, h3, h4, h5⟩⟩ := hu
      · simp at h0
      · simp at h0
      obtain ⟨hokb, _, ⟨rfl, rfl⟩ | ⟨x, cap, rfl, hc, rfl⟩ | ⟨q, off', cap', rfl, g1, g2, g3, g4, g5⟩⟩ := hv
      · simp at hl; simp [hl] at h0
      · simp at hl; simp [hl] at h0
      generalize hA : a.length = n at *
      have HL := hide hl
      clear hl
      rw [← unhide HL]
      go_enter Tryz.func27, Tryz.ntmps27
      go_wp2
      go_loopw [5] (fun i wr => ∃ k : Nat, k ≤ n ∧ i = .int .i64 k ∧ Hid (a.take k = b.take k) ∧ Below w.heap.size w wr) (fun i _ => n - (intOf i).toNat)
      case atStart => exact ⟨0, Nat.zero_le _, rfl, hide rfl, Below.refl _ _⟩
      case round =>
        obtain ⟨k, hk, rfl, ht, hB⟩ := hrel
        by_cases hlt : k < n
        · obtain ⟨x, hx⟩ : ∃ x, x = a.getD k 0 := ⟨_, rfl⟩
          obtain ⟨y, hy⟩ : ∃ y, y = b.getD k 0 := ⟨_, rfl⟩
          have c1 : wr.cell? ⟨p, off + k, none⟩ = some (.int .u8 x) := by rw [hx]; exact (hB.cell (p := ⟨p, off + k, none⟩) h4).trans (h5 k hlt)
          have c2 : wr.cell? ⟨q, off' + k, none⟩ = some (.int .u8 y) := by rw [hy]; exact (hB.cell (p := ⟨q, off' + k, none⟩) g4).trans (g5 k (by have := unhide HL; omega))
          have hka : k < a.length := by omega
          have hkb : k < b.length := by have := unhide HL; omega
          rw [getD_at hka] at hx
          rw [getD_at hkb] at hy
          have HX := hide hx
          have HY := hide hy
          have hlt' : (k : Int) < (n : Int) := by omega
          clear hx hy h5 g5
          by_cases hxy : x = y
          · have hne : (x != y) = false := by simp [hxy]
            clear hxy
            go_wp2
            go_quiet (fail)
            go_wp2
            go_roundw
            case rel => exact ⟨k + 1, by omega, by go_num, hide (take_eq_step (unhide ht) hka hkb (by rw [← unhide HX, ← unhide HY]; simpa using hne)), below_drewN hB _⟩
            case measure => simp [intOf]; omega
          · have hne : (x != y) = true := by simp [hxy]
            have hd : decide (a = b) = false := decide_ne hka hkb (by rw [← unhide HX, ← unhide HY]; exact hxy)
            have HD := hide hd
            clear hxy hd
            go_wp2
            go_quiet (fail)
            go_wp2
            go_ret
            exact ⟨by rw [unhide HD]; rfl, below_drewN hB _⟩
        · have e : k = n := by omega
          have hd : decide (a = b) = true := by
            have h := unhide ht
            rw [List.take_of_length_le (by omega), List.take_of_length_le (by have := unhide HL; omega)] at h
            simpa using h
          have HD := hide hd
          clear hd ht
          subst e
          go_wp2
          go_ret
          exact ⟨by rw [unhide HD]; rfl, hB⟩
  · have hd : decide (a = b) = false := by
      simp only [decide_eq_false_iff_not]
      intro h; subst h; exact hl rfl
    have hne : ((a.length : Int) != (b.length : Int)) = true := by simp; omega
    have HD := hide hd
    clear hd
    obtain ⟨a1, c1, rfl, _⟩ := hu.shape
    obtain ⟨a2, c2, rfl, _⟩ := hv.shape
    go_enter Tryz.func27, Tryz.ntmps27
    go_wp2
    go_ret
    exact ⟨by rw [unhide HD]; rfl, Below.refl _ _⟩
end Go.Proofs.YthgopknjppflhaaGreatDoor

/- The law's own helper that holds two rows of bytes against each other, by its contract. -/
namespace Go.Proofs.YthgopknjppflhaaGreatDoor
open Go.RowKit
set_option linter.unusedVariables false

set_option maxHeartbeats 1600000 in
set_option maxRecDepth 1000000 in
theorem eqZ_any (w : World) (u v : Value) (a b : List Int) (hu : Ints w u a) (hv : Ints w v b) :
    Calls Tryz.prog 84 #[u, v] w fun e w' => e = .returned (.bool (decide (a = b))) ∧ Below w.heap.size w w' := by
  have hma := hu.2.1
  have hmb := hv.2.1
  unfold maxLen at hma hmb
  by_cases hl : a.length = b.length
  · by_cases h0 : a.length = 0
    · have ha : a = [] := List.eq_nil_of_length_eq_zero h0
      have hb : b = [] := List.eq_nil_of_length_eq_zero (by omega)
      subst ha hb
      obtain ⟨a1, c1, rfl, _⟩ := hu.shape
      obtain ⟨a2, c2, rfl, _⟩ := hv.shape
      go_enter Tryz.func84, Tryz.ntmps84
      go_wp2
      refine wp_loop_rounds 1 ?_
      rw [rounds_succ]
      go_wp2
      go_ret
      exact ⟨rfl, Below.refl _ _⟩
    · obtain ⟨hoka, _, ⟨rfl, rfl⟩ | ⟨x, cap, rfl, hc, rfl⟩ | ⟨p, off, cap, rfl, h1, h2, h3, h4, h5⟩⟩ := hu
      · simp at h0
      · simp at h0
      obtain ⟨hokb, _, ⟨rfl, rfl⟩ | ⟨x, cap, rfl, hc, rfl⟩ | ⟨q, off', cap', rfl, g1, g2, g3, g4, g5⟩⟩ := hv
      · simp at hl; simp [hl] at h0
      · simp at hl; simp [hl] at h0
      generalize hA : a.length = n at *
      have HL := hide hl
      clear hl
      rw [← unhide HL]
      go_enter Tryz.func84, Tryz.ntmps84
      go_wp2
      go_loopw [5] (fun i wr => ∃ k : Nat, k ≤ n ∧ i = .int .i64 k ∧ Hid (a.take k = b.take k) ∧ Below w.heap.size w wr) (fun i _ => n - (intOf i).toNat)
      case atStart => exact ⟨0, Nat.zero_le _, rfl, hide rfl, Below.refl _ _⟩
      case round =>
        obtain ⟨k, hk, rfl, ht, hB⟩ := hrel
        by_cases hlt : k < n
        · obtain ⟨x, hx⟩ : ∃ x, x = a.getD k 0 := ⟨_, rfl⟩
          obtain ⟨y, hy⟩ : ∃ y, y = b.getD k 0 := ⟨_, rfl⟩
          have c1 : wr.cell? ⟨p, off + k, none⟩ = some (.int .i64 x) := by rw [hx]; exact (hB.cell (p := ⟨p, off + k, none⟩) h4).trans (h5 k hlt)
          have c2 : wr.cell? ⟨q, off' + k, none⟩ = some (.int .i64 y) := by rw [hy]; exact (hB.cell (p := ⟨q, off' + k, none⟩) g4).trans (g5 k (by have := unhide HL; omega))
          have hka : k < a.length := by omega
          have hkb : k < b.length := by have := unhide HL; omega
          rw [getD_at hka] at hx
          rw [getD_at hkb] at hy
          have HX := hide hx
          have HY := hide hy
          have hlt' : (k : Int) < (n : Int) := by omega
          clear hx hy h5 g5
          by_cases hxy : x = y
          · have hne : (x != y) = false := by simp [hxy]
            clear hxy
            go_wp2
            go_quiet (fail)
            go_wp2
            go_roundw
            case rel => exact ⟨k + 1, by omega, by go_num, hide (take_eq_step (unhide ht) hka hkb (by rw [← unhide HX, ← unhide HY]; simpa using hne)), below_drewN hB _⟩
            case measure => simp [intOf]; omega
          · have hne : (x != y) = true := by simp [hxy]
            have hd : decide (a = b) = false := decide_ne hka hkb (by rw [← unhide HX, ← unhide HY]; exact hxy)
            have HD := hide hd
            clear hxy hd
            go_wp2
            go_quiet (fail)
            go_wp2
            go_ret
            exact ⟨by rw [unhide HD]; rfl, below_drewN hB _⟩
        · have e : k = n := by omega
          have hd : decide (a = b) = true := by
            have h := unhide ht
            rw [List.take_of_length_le (by omega), List.take_of_length_le (by have := unhide HL; omega)] at h
            simpa using h
          have HD := hide hd
          clear hd ht
          subst e
          go_wp2
          go_ret
          exact ⟨by rw [unhide HD]; rfl, hB⟩
  · have hd : decide (a = b) = false := by
      simp only [decide_eq_false_iff_not]
      intro h; subst h; exact hl rfl
    have hne : ((a.length : Int) != (b.length : Int)) = true := by simp; omega
    have HD := hide hd
    clear hd
    obtain ⟨a1, c1, rfl, _⟩ := hu.shape
    obtain ⟨a2, c2, rfl, _⟩ := hv.shape
    go_enter Tryz.func84, Tryz.ntmps84
    go_wp2
    go_ret
    exact ⟨by rw [unhide HD]; rfl, Below.refl _ _⟩
end Go.Proofs.YthgopknjppflhaaGreatDoor

/- laws.eqByteS, laws.eqId of two that read the same. -/
namespace Go.Proofs.YthgopknjppflhaaGreatDoor
open Go.RowKit
set_option linter.unusedVariables false
set_option maxRecDepth 100000

theorem eqB4_true (w : World) (u v : Value) (a : List Int) (hu : Byt w u a) (hv : Byt w v a) : Calls Tryz.prog 27 #[u, v] w fun e w' => e = .returned (.bool true) ∧ Below w.heap.size w w' := by
  refine (eqB_any w u v a a hu hv).mono ?_
  rintro e w' ⟨rfl, h⟩
  exact ⟨by simp, h⟩
theorem eqId_true (w : World) (n r : Int) : Calls Tryz.prog 83 #[.agg #[.int .i64 n, .int .i64 r], .agg #[.int .i64 n, .int .i64 r]] w fun e w' => e = .returned (.bool true) ∧ Below w.heap.size w w' := by
  refine (eqId_any w n r n r).mono ?_
  rintro e w' ⟨rfl, h⟩
  exact ⟨by simp [idEqB], h⟩

end Go.Proofs.YthgopknjppflhaaGreatDoor

/- laws.eqOp of two operations that read the same. -/
namespace Go.Proofs.YthgopknjppflhaaGreatDoor
open Go.RowKit
set_option linter.unusedVariables false
set_option maxRecDepth 100000

theorem eqZ4_true (w : World) (u v : Value) (a : List Int) (hu : Ints w u a) (hv : Ints w v a) : Calls Tryz.prog 84 #[u, v] w fun e w' => e = .returned (.bool true) ∧ Below w.heap.size w w' := by
  refine (eqZ_any w u v a a hu hv).mono ?_
  rintro e w' ⟨rfl, h⟩
  exact ⟨by simp, h⟩
end Go.Proofs.YthgopknjppflhaaGreatDoor

/- The law's own helpers over ints: a copy of a row, by its contract. -/
namespace Go.Proofs.YthgopknjppflhaaGreatDoor
open Go.RowKit
set_option linter.unusedVariables false

theorem Tryz.info3 : (Tryz.prog.info? 3).map (fun i => (i.zero, i.size, i.bytes)) = some (some (.int .i64 0), 1, 8) := by kernel_rfl

/-- Behind k rounds of the copying loop: the first k bytes of l, then zeros. -/
def halfz (l : List Int) (k : Nat) : List Int := l.take k ++ List.replicate (l.length - k) 0
theorem halfz_len (l : List Int) (k : Nat) (h : k ≤ l.length) : (halfz l k).length = l.length := by simp [halfz]; omega
theorem halfz_zero (l : List Int) : valz (halfz l 0) = (madeCells #[Value.int .i64 0] l.length).toList := by
  rw [toList_madeCells_one]
  simp [halfz, valz]
theorem halfz_all (l : List Int) : halfz l l.length = l := by simp [halfz]
theorem halfz_at (l : List Int) (k i : Nat) (hk : k ≤ l.length) : (halfz l k)[i]? = if i < k then l[i]? else if i < l.length then some 0 else none := by
  have hm : min k l.length = k := by omega
  unfold halfz
  rw [List.getElem?_append, List.length_take, hm]
  by_cases h : i < k
  · simp [h]
  · rw [if_neg h, if_neg h, List.getElem?_replicate]
    by_cases h2 : i < l.length
    · rw [if_pos h2, if_pos (by omega)]
    · rw [if_neg h2, if_neg (by omega)]
theorem halfz_step (l : List Int) (k : Nat) (h : k < l.length) : (valz (halfz l k)).set k (.int .i64 (l.getD k 0)) = valz (halfz l (k + 1)) := by
  apply List.ext_getElem?
  intro i
  unfold valz
  rw [List.getElem?_set, List.getElem?_map, List.getElem?_map, halfz_at l k i (by omega), halfz_at l (k + 1) i (by omega), List.length_map, halfz_len l k (by omega)]
  by_cases hk : k = i
  · subst hk; rw [if_pos rfl, if_pos h, if_pos (by omega)]; simp [h]
  · rw [if_neg hk]
    by_cases h2 : i < k
    · rw [if_pos h2, if_pos (by omega)]
    · rw [if_neg h2, if_neg (show ¬ i < k + 1 by omega)]

set_option maxHeartbeats 1600000 in
set_option maxRecDepth 1000000 in
theorem toZ_any (w : World) (v : Value) (l : List Int) (h : Ints w v l) (hs : l.length ≤ 2097152) :
    Calls Tryz.prog 69 #[v] w fun e w' => ∃ v', e = .returned v' ∧ OwnZ w' w.heap.size v' l ∧ v' ≠ .slice none 0 0 ∧ Below w.heap.size w w' := by
  obtain ⟨i0, hi, hz0, hz1, hz2⟩ := info_parts Tryz.info3
  obtain ⟨hok, hm, ⟨rfl, rfl⟩ | ⟨x, cap, rfl, hc, rfl⟩ | ⟨b, off, cap, rfl, h1, h2, h3, h4, h5⟩⟩ := h
  · go_enter Tryz.func69, Tryz.ntmps69
    go_wp2_with (at_make; refine wpList_make_full _ rfl _ _ 52 rfl w.heap.size 3 i0 (.int .i64 0) 1 Tryz.underlying52 hi hz0 hz1 .i64 .i64 _ _ 0 rfl rfl rfl rfl ?c1 ?c2 ?c3 ?_)
    case c1 => omega
    case c2 => exact hm
    case c3 => exact Nat.le_refl _
    intro w1 hown hgrow
    have hB1 := Below.ofGrown hgrow
    have hown1 : w1.ownsRow w.heap.size 3 1 (.slice (some ⟨w.heap.size, 0, none⟩) 0 0) 0 (valz []) := by have e := halfz_zero []; rw [show halfz [] 0 = [] from rfl] at e; rw [e]; exact hown
    clear hown hgrow
    go_wp2
    refine wp_loop_rounds 1 ?_
    rw [rounds_succ]
    go_wp2
    go_ret
    exact ⟨_, rfl, ⟨okZ_nil, hown1⟩, by simp, hB1⟩
  · go_enter Tryz.func69, Tryz.ntmps69
    go_wp2_with (at_make; refine wpList_make_full _ rfl _ _ 52 rfl w.heap.size 3 i0 (.int .i64 0) 1 Tryz.underlying52 hi hz0 hz1 .i64 .i64 _ _ 0 rfl rfl rfl rfl ?c1 ?c2 ?c3 ?_)
    case c1 => omega
    case c2 => exact hm
    case c3 => exact Nat.le_refl _
    intro w1 hown hgrow
    have hB1 := Below.ofGrown hgrow
    have hown1 : w1.ownsRow w.heap.size 3 1 (.slice (some ⟨w.heap.size, 0, none⟩) 0 0) 0 (valz []) := by have e := halfz_zero []; rw [show halfz [] 0 = [] from rfl] at e; rw [e]; exact hown
    clear hown hgrow
    go_wp2
    refine wp_loop_rounds 1 ?_
    rw [rounds_succ]
    go_wp2
    go_ret
    exact ⟨_, rfl, ⟨okZ_nil, hown1⟩, by simp, hB1⟩
  · go_enter Tryz.func69, Tryz.ntmps69
    go_wp2_with (at_make; refine wpList_make_full _ rfl _ _ 52 rfl w.heap.size 3 i0 (.int .i64 0) 1 Tryz.underlying52 hi hz0 hz1 .i64 .i64 _ _ l.length rfl rfl rfl rfl ?c1 ?c2 ?c3 ?_)
    case c1 => rw [hz2]; omega
    case c2 => exact hm
    case c3 => exact Nat.le_refl _
    intro w1 hown hgrow
    have hB1 := Below.ofGrown hgrow
    have hown1 : w1.ownsRow w.heap.size 3 1 (.slice (some ⟨w.heap.size, 0, none⟩) l.length l.length) l.length (valz (halfz l 0)) := by rw [halfz_zero]; exact hown
    clear hown hgrow
    go_wp2
    go_loopw [4] (fun i wr => ∃ k : Nat, k ≤ l.length ∧ i = .int .i64 k ∧ wr.ownsRow w.heap.size 3 1 (.slice (some ⟨w.heap.size, 0, none⟩) l.length l.length) l.length (valz (halfz l k)) ∧ Below w.heap.size w wr) (fun i _ => l.length - (intOf i).toNat)
    case atStart => exact ⟨0, Nat.zero_le _, rfl, hown1, hB1⟩
    case round =>
      obtain ⟨k, hk, rfl, hw, hB⟩ := hrel
      clear hown1 hB1
      have hcx : k < l.length → wr.cell? ⟨b, off + k, none⟩ = some (.int .i64 (l.getD k 0)) := fun hlt => (hB.cell (p := ⟨b, off + k, none⟩) h4).trans (h5 k hlt)
      have hcy : k < l.length → wr.cell? ⟨w.heap.size, k, none⟩ = some (.int .i64 ((halfz l k).getD k 0)) := fun hlt => by
        rw [hw.cellAt k (by omega), valz_at (by rw [halfz_len l k hk]; exact hlt)]
      have hfr := hw.frozenAt k
      have hst := hw.stored k (.int .i64 (l.getD k 0))
      have R : k < l.length → (wr.setCell ⟨w.heap.size, k, none⟩ (.int .i64 (l.getD k 0))).ownsRow w.heap.size 3 1 (.slice (some ⟨w.heap.size, 0, none⟩) l.length l.length) l.length (valz (halfz l (k + 1))) ∧ Below w.heap.size w (wr.setCell ⟨w.heap.size, k, none⟩ (.int .i64 (l.getD k 0))) := fun hlt => by
        rw [← halfz_step l k hlt]
        exact ⟨hst.1, hB.setCell (p := ⟨w.heap.size, k, none⟩) (Nat.le_refl _) _⟩
      have HR := hide R
      clear R hst
      go_wp2
      · have hlt : k < l.length := by assumption
        have R := unhide HR hlt
        rw [getD_at hlt] at R
        go_roundw
        case rel => exact ⟨k + 1, by omega, by go_num, R.1, R.2⟩
        case measure => simp [intOf]; omega
      · have e : k = l.length := by omega
        subst e
        go_ret
        rw [halfz_all] at hw
        exact ⟨_, rfl, ⟨hok, hw⟩, by simp, hB⟩
end Go.Proofs.YthgopknjppflhaaGreatDoor

/- laws.toOp: the copy reads the same, in blocks of its own. -/
namespace Go.Proofs.YthgopknjppflhaaGreatDoor
open Go.RowKit
set_option linter.unusedVariables false
set_option maxRecDepth 100000

theorem OwnZ.frm {w w' : World} {base : Nat} {v : Value} {l : List Int} {S : List Nat} (h : OwnZ w base v l) (f : Frm w w' S) (hd : ∀ g ∈ FB v, g ∉ S) : OwnZ w' base v l := ⟨h.1, ownsRow_frm h.2 f hd⟩
theorem OwnZ.rng {w : World} {base : Nat} {v : Value} {l : List Int} (h : OwnZ w base v l) : Rng (FB v) base w.heap.size := fun g hg => h.lt g (by simpa [FB] using hg)
theorem Loc.be {w : World} {g : Nat} {cs ds : Array Value} {T : TypeId} (h : Loc w g cs T) (e : cs = ds) : Loc w g ds T := e ▸ h

end Go.Proofs.YthgopknjppflhaaGreatDoor

/- Places: their parts; what it is for one, and for a row of them, to be readable, to be owned. No function of the program. -/
namespace Go.Proofs.YthgopknjppflhaaGreatDoor
open Go.RowKit
set_option linter.unusedVariables false
set_option maxRecDepth 100000

def plVal (p : PlV) (k n t a : Value) : Value := .agg #[.int .i64 p.idN, .int .i64 p.idR, .int .i64 p.parN, .int .i64 p.parR, k, .int .i64 p.kind, n, t, a]
/-- The nine cells of a place. -/
def RdPlC (w : World) (C : List Value) (p : PlV) : Prop := ∃ k n t a, C = [.int .i64 p.idN, .int .i64 p.idR, .int .i64 p.parN, .int .i64 p.parR, k, .int .i64 p.kind, n, t, a] ∧ Ints w k p.key ∧ Byt w n p.name ∧ Byt w t p.text ∧ RdAttrs w a p.attrs
def RdPl (w : World) (v : Value) (p : PlV) : Prop := ∃ k n t a, v = plVal p k n t a ∧ Ints w k p.key ∧ Byt w n p.name ∧ Byt w t p.text ∧ RdAttrs w a p.attrs
def RdPls (w : World) (v : Value) (l : List PlV) : Prop := Elems w 9 v l (RdPlC w)
theorem RdPlC.keep {w w' : World} {C : List Value} {p : PlV} (h : RdPlC w C p) (hb : Below w.heap.size w w') : RdPlC w' C p := by
  obtain ⟨k, n, t, a, e, h1, h2, h3, h4⟩ := h
  exact ⟨k, n, t, a, e, h1.keep hb, h2.keep hb, h3.keep hb, h4.keep hb⟩
theorem RdPl.keep {w w' : World} {v : Value} {p : PlV} (h : RdPl w v p) (hb : Below w.heap.size w w') : RdPl w' v p := by
  obtain ⟨k, n, t, a, e, h1, h2, h3, h4⟩ := h
  exact ⟨k, n, t, a, e, h1.keep hb, h2.keep hb, h3.keep hb, h4.keep hb⟩
theorem RdPls.keep {w w' : World} {v : Value} {l : List PlV} (h : RdPls w v l) (hb : Below w.heap.size w w') : RdPls w' v l := Elems.keep h hb (fun C x _ hr => hr.keep hb)
/-- It is empty, or its cells lie in a block. -/
theorem RdPls.cases {w : World} {v : Value} {l : List PlV} (h : RdPls w v l) : (l = [] ∧ ∃ a cap, v = .slice a 0 cap) ∨ ∃ b off cap, v = .slice (some ⟨b, off, none⟩) l.length cap ∧ l ≠ [] ∧ b < w.heap.size ∧ ∀ i (hi : i < l.length), ∃ C : List Value, C.length = 9 ∧ (∀ j, j < 9 → w.cell? ⟨b, off + i * 9 + j, none⟩ = C[j]?) ∧ RdPlC w C l[i] := by
  obtain ⟨_, ⟨rfl, rfl⟩ | ⟨x, cap, rfl, hc, rfl⟩ | ⟨b, off, cap, rfl, g1, g2, g3, g4, g5⟩⟩ := h
  · exact .inl ⟨rfl, none, 0, rfl⟩
  · exact .inl ⟨rfl, _, _, rfl⟩
  · exact .inr ⟨b, off, cap, rfl, g3, g4, g5⟩
/-- An element, cell by cell, its rows by their parts. -/
theorem plc_at {w W : World} {b off i : Nat} {p : PlV} (hW : Below w.heap.size w W) (hb : b < w.heap.size) (h : ∃ C : List Value, C.length = 9 ∧ (∀ j, j < 9 → w.cell? ⟨b, off + i * 9 + j, none⟩ = C[j]?) ∧ RdPlC w C p) :
    ∃ k ck n cn t ct a ca, W.cell? ⟨b, off + i * 9, none⟩ = some (.int .i64 p.idN) ∧ W.cell? ⟨b, off + i * 9 + 1, none⟩ = some (.int .i64 p.idR) ∧ W.cell? ⟨b, off + i * 9 + 2, none⟩ = some (.int .i64 p.parN) ∧ W.cell? ⟨b, off + i * 9 + 3, none⟩ = some (.int .i64 p.parR) ∧ W.cell? ⟨b, off + i * 9 + 4, none⟩ = some (.slice k p.key.length ck) ∧ W.cell? ⟨b, off + i * 9 + 5, none⟩ = some (.int .i64 p.kind) ∧ W.cell? ⟨b, off + i * 9 + 6, none⟩ = some (.slice n p.name.length cn) ∧ W.cell? ⟨b, off + i * 9 + 7, none⟩ = some (.slice t p.text.length ct) ∧ W.cell? ⟨b, off + i * 9 + 8, none⟩ = some (.slice a p.attrs.length ca) ∧ RdPl W (plVal p (.slice k p.key.length ck) (.slice n p.name.length cn) (.slice t p.text.length ct) (.slice a p.attrs.length ca)) p := by
  obtain ⟨C, _, hc, k, n, t, a, rfl, hk, hn, ht, ha⟩ := h
  obtain ⟨a1, c1, rfl, _, _⟩ := hk.shape
  obtain ⟨a2, c2, rfl, _, _⟩ := hn.shape
  obtain ⟨a3, c3, rfl, _, _⟩ := ht.shape
  obtain ⟨a4, c4, rfl, _, _⟩ := Elems.shape ha
  have cc : ∀ j, j < 9 → W.cell? ⟨b, off + i * 9 + j, none⟩ = w.cell? ⟨b, off + i * 9 + j, none⟩ := fun j hj => hW.cell (p := ⟨b, off + i * 9 + j, none⟩) hb
  exact ⟨a1, c1, a2, c2, a3, c3, a4, c4, (cc 0 (by omega)).trans (hc 0 (by omega)), (cc 1 (by omega)).trans (hc 1 (by omega)), (cc 2 (by omega)).trans (hc 2 (by omega)), (cc 3 (by omega)).trans (hc 3 (by omega)), (cc 4 (by omega)).trans (hc 4 (by omega)), (cc 5 (by omega)).trans (hc 5 (by omega)), (cc 6 (by omega)).trans (hc 6 (by omega)), (cc 7 (by omega)).trans (hc 7 (by omega)), (cc 8 (by omega)).trans (hc 8 (by omega)), _, _, _, _, rfl, hk.keep hW, hn.keep hW, ht.keep hW, ha.keep hW⟩
/-- A place in blocks of its own. -/
def OwPlC (w : World) (C : List Value) (p : PlV) (F : List Nat) : Prop := ∃ k n t a Fa, C = [.int .i64 p.idN, .int .i64 p.idR, .int .i64 p.parN, .int .i64 p.parR, k, .int .i64 p.kind, n, t, a] ∧ OwnZ w 0 k p.key ∧ Own w 0 n p.name ∧ Own w 0 t p.text ∧ OwAttrs w a p.attrs Fa ∧ F = FB k ++ FB n ++ FB t ++ Fa
def OwPls (w : World) (v : Value) (l : List PlV) (F : List Nat) : Prop := OwElems w 54 9 v l (OwPlC w) F
theorem OwPlC.frm {w w' : World} {C : List Value} {p : PlV} {F S : List Nat} (h : OwPlC w C p F) (f : Frm w w' S) (hd : ∀ g ∈ F, g ∉ S) : OwPlC w' C p F := by
  obtain ⟨k, n, t, a, Fa, e, h1, h2, h3, h4, rfl⟩ := h
  exact ⟨k, n, t, a, Fa, e, ⟨h1.1, ownsRow_frm h1.2 f (fun g hg => hd g (by simp [hg]))⟩, h2.frm f (fun g hg => hd g (by simp [hg])), h3.frm f (fun g hg => hd g (by simp [hg])), OwAttrs.frm h4 f (fun g hg => hd g (by simp [hg])), rfl⟩
theorem OwPls.frm {w w' : World} {v : Value} {l : List PlV} {F S : List Nat} (h : OwPls w v l F) (f : Frm w w' S) (hd : ∀ g ∈ F, g ∉ S) : OwPls w' v l F := OwElems.frm h f hd (fun C x G hr hG => hr.frm f hG)
theorem OwPlC.rd {w : World} {C : List Value} {p : PlV} {F : List Nat} (h : OwPlC w C p F) : RdPlC w C p := by
  obtain ⟨k, n, t, a, Fa, e, h1, h2, h3, h4, _⟩ := h
  exact ⟨k, n, t, a, e, h1.ints, h2.byt, h3.byt, h4.rd⟩
theorem OwPls.rd {w : World} {v : Value} {l : List PlV} {F : List Nat} (h : OwPls w v l F) : RdPls w v l := OwElems.rd h (OwElems.len h) (fun C x G hr => hr.rd)
def szPl (p : PlV) : Nat := p.key.length + p.name.length + p.text.length + szA p.attrs
def szPls (l : List PlV) : Nat := l.length + (l.map szPl).sum
end Go.Proofs.YthgopknjppflhaaGreatDoor

/- An append of a readable row of bytes to an owned one, as one law for the walk. -/
namespace Go.Proofs.YthgopknjppflhaaGreatDoor
open Go.RowKit
set_option linter.unusedVariables false

/-- 'append(out, src...)': out owned, src readable: what comes is owned, and no block but out's own has been written. -/
theorem wpList_app {w : World} {ops : Array Oper} {rest : List Oper} {o : Oper} {a : Act} {Q : Exit → Act → World → Prop} (hgd : o.guard = none) (s x : Operand)
    (ho : o.op = .call { callee := .builtin .append, args := #[s, x], argTypes := #[26, 26] })
    (base : Nat) (v : Value) (l : List Int) (hs : a.eval s = v) (hown : Own w base v l) (u : Value) (m : List Int) (hx : a.eval x = u) (hu : Byt w u m)
    (hlen : l.length + m.length ≤ 134217728) (hbase : base ≤ w.heap.size)
    (h : ∀ v' w', Own w' base v' (l ++ m) → w.grownBy w' v.ownBlock → wpList Tryz.prog ops Q rest (a.put o.dst v') w') : wpList Tryz.prog ops Q (o :: rest) a w := by
  obtain ⟨i0, hi, hz0, hz1, hz2⟩ := info_parts Tryz.info5
  have hfull : ∀ (ad : Addr) (c : Nat), a.eval x = .slice (some ad) m.length c → (∀ j, j < m.length → w.cell? (ad.add j) = some (.int .u8 (m.getD j 0))) → wpList Tryz.prog ops Q (o :: rest) a w := by
    intro ad c hx' hc
    refine wpList_append_own _ hgd s x 26 ho base 5 i0 (.int .u8 0) 1 1 Tryz.underlying26 hi hz0 hz1 hz2 rfl (by decide) v l.length (vals l) hs hown.2 ad m.length c (vals m) hx' (by rw [vals_len]; omega) ?_ (vals_one m) (by unfold maxLen; omega) (by omega) hbase ?_
    · intro j y hj
      have hlt : j < m.length := by
        by_cases hlt : j < m.length
        · exact hlt
        · rw [List.getElem?_eq_none (by rw [vals_len]; omega)] at hj; cases hj
      rw [vals_at hlt] at hj
      rw [hc j hlt]; exact hj
    · intro v' w' h1 h2 _
      refine h v' w' ⟨hown.1.app hu.1, ?_⟩ h2
      rw [vals_app, List.length_append]; exact h1
  obtain ⟨hok, hm, ⟨rfl, rfl⟩ | ⟨y, cap, rfl, hc, rfl⟩ | ⟨b, off, cap, rfl, h1, h2, h3, h4, h5⟩⟩ := hu
  · refine wpList_append_own_none hgd s x 26 ho base 5 i0 1 Tryz.underlying26 hi v l.length (vals l) hs hown.2 hx ?_
    exact h v w (by rw [List.append_nil]; exact hown) (World.grownBy.refl _ _)
  · exact hfull y cap hx (fun j hj => by simp at hj)
  · exact hfull ⟨b, off, none⟩ cap hx (fun j hj => by rw [add_plain]; exact h5 j hj)

/-- A new block of none. -/
theorem own_none (w : World) : Own (w.alloc (.cells #[] 5)) w.heap.size (.slice (some ⟨w.heap.size, 0, none⟩) 0 0) [] :=
  ⟨okB_nil, World.ownsRow_lit w #[] 0 (Nat.le_refl _) (Nat.zero_le _) rfl⟩
theorem Own.alloc {w : World} {base : Nat} {v : Value} {l : List Int} (h : Own w base v l) (o : Obj) : Own (w.alloc o) base v l := ⟨h.1, h.2.alloc o⟩
theorem Byt.alloc {w : World} {v : Value} {l : List Int} (h : Byt w v l) (o : Obj) : Byt (w.alloc o) v l := h.keep ((Below.refl _ _).alloc (Nat.le_refl _) o)
end Go.Proofs.YthgopknjppflhaaGreatDoor

/- An append of a readable row of bytes to an owned one: what comes lies where the row lay, or in a new block. -/
namespace Go.Proofs.YthgopknjppflhaaGreatDoor
open Go.RowKit
set_option linter.unusedVariables false

theorem run_appAt {w : World} (ty : TypeId) (base : Nat) (v : Value) (l : List Int) (hown : Own w base v l) (u : Value) (m : List Int) (hu : Byt w u m) (hlen : l.length + m.length ≤ 134217728) (hbase : base ≤ w.heap.size) :
    ∃ v' w', (Builtin.append_ #[26, 26] ty #[v, u]).run Tryz.prog w = .ok v' w' ∧ Own w' base v' (l ++ m) ∧ w.grownBy w' v.ownBlock ∧ (v'.ownBlock = v.ownBlock ∨ v'.ownBlock = some w.heap.size) := by
  obtain ⟨i0, hi, hz0, hz1, hz2⟩ := info_parts Tryz.info5
  have hfull : ∀ (ad : Addr) (c : Nat), u = .slice (some ad) m.length c → (∀ j, j < m.length → w.cell? (ad.add j) = some (.int .u8 (m.getD j 0))) → ∃ v' w', (Builtin.append_ #[26, 26] ty #[v, u]).run Tryz.prog w = .ok v' w' ∧ Own w' base v' (l ++ m) ∧ w.grownBy w' v.ownBlock ∧ (v'.ownBlock = v.ownBlock ∨ v'.ownBlock = some w.heap.size) := by
    intro ad c hx' hc
    obtain ⟨v', w', hr, h2, h3, _, h5⟩ := run_append_own_at (P := Tryz.prog) w base 26 ty 5 i0 (.int .u8 0) 1 1 Tryz.underlying26 hi hz0 hz1 hz2 rfl (by decide) v l.length (vals l) hown.2 ad m.length c (vals m) (by rw [vals_len]; omega) (by
      intro j y hj
      have hlt : j < m.length := by
        by_cases hlt : j < m.length
        · exact hlt
        · rw [List.getElem?_eq_none (by rw [vals_len]; omega)] at hj; cases hj
      rw [vals_at hlt] at hj
      rw [hc j hlt]; exact hj) (vals_one m) (by unfold maxLen; omega) (by omega) hbase
    subst hx'
    refine ⟨v', w', hr, ⟨hown.1.app hu.1, ?_⟩, h3, h5⟩
    rw [vals_app, List.length_append]; exact h2
  obtain ⟨hok, hm, ⟨rfl, rfl⟩ | ⟨y, cap, rfl, hc, rfl⟩ | ⟨b, off, cap, rfl, h1, h2, h3, h4, h5⟩⟩ := id hu
  · exact ⟨v, w, run_append_owned_none (P := Tryz.prog) (w := w) base 26 ty 5 i0 1 Tryz.underlying26 hi v l.length (vals l) hown.2, by rw [List.append_nil]; exact hown, World.grownBy.refl _ _, .inl rfl⟩
  · exact hfull y cap rfl (fun j hj => by simp at hj)
  · exact hfull ⟨b, off, none⟩ cap rfl (fun j hj => by rw [add_plain]; exact h5 j hj)

theorem step_appAt {w : World} {ops : Array Oper} {o : Oper} {a : Act} {K : Act → World → Prop} {Q : Exit → Act → World → Prop} {E : Prop} (hgd : o.guard = none) (s x : Operand)
    (ho : o.op = .call { callee := .builtin .append, args := #[s, x], argTypes := #[26, 26] })
    (base : Nat) (v : Value) (l : List Int) (hs : a.eval s = v) (hown : Own w base v l) (u : Value) (m : List Int) (hx : a.eval x = u) (hu : Byt w u m)
    (hlen : l.length + m.length ≤ 134217728) (hbase : base ≤ w.heap.size)
    (h : ∀ v' w', Own w' base v' (l ++ m) → w.grownBy w' v.ownBlock → (v'.ownBlock = v.ownBlock ∨ v'.ownBlock = some w.heap.size) → K (a.put o.dst v') w') : if Region.wanted o (yielded ops a.tmps) = true then Oper.wp Tryz.prog o a w K Q else E := by
  have hw : Region.wanted o (yielded ops a.tmps) = true := by simp [Region.wanted, hgd]
  rw [if_pos hw]
  obtain ⟨v', w', hr, h1, h2, h3⟩ := run_appAt o.type base v l hown u m hu hlen hbase
  unfold Oper.wp execOp
  simp only [ho, resolve, invoke, builtin, Sem.run_bind, Sem.run_pure, Result.andThen_ok, List.map_toArray, List.map_cons, List.map_nil, hs, hx, hr]
  exact h v' w' h1 h2 h3

end Go.Proofs.YthgopknjppflhaaGreatDoor

/- An append of a readable row of ints to an owned one, as one law for the walk. -/
namespace Go.Proofs.YthgopknjppflhaaGreatDoor
open Go.RowKit
set_option linter.unusedVariables false

/-- 'append(out, src...)': out owned, src readable: what comes is owned, and no block but out's own has been written. -/
theorem wpList_appZ {w : World} {ops : Array Oper} {rest : List Oper} {o : Oper} {a : Act} {Q : Exit → Act → World → Prop} (hgd : o.guard = none) (s x : Operand)
    (ho : o.op = .call { callee := .builtin .append, args := #[s, x], argTypes := #[52, 52] })
    (base : Nat) (v : Value) (l : List Int) (hs : a.eval s = v) (hown : OwnZ w base v l) (u : Value) (m : List Int) (hx : a.eval x = u) (hu : Ints w u m)
    (hlen : l.length + m.length ≤ 134217728) (hbase : base ≤ w.heap.size)
    (h : ∀ v' w', OwnZ w' base v' (l ++ m) → w.grownBy w' v.ownBlock → wpList Tryz.prog ops Q rest (a.put o.dst v') w') : wpList Tryz.prog ops Q (o :: rest) a w := by
  obtain ⟨i0, hi, hz0, hz1, hz2⟩ := info_parts Tryz.info3
  have hfull : ∀ (ad : Addr) (c : Nat), a.eval x = .slice (some ad) m.length c → (∀ j, j < m.length → w.cell? (ad.add j) = some (.int .i64 (m.getD j 0))) → wpList Tryz.prog ops Q (o :: rest) a w := by
    intro ad c hx' hc
    refine wpList_append_own _ hgd s x 52 ho base 3 i0 (.int .i64 0) 1 8 Tryz.underlying52 hi hz0 hz1 hz2 rfl (by decide) v l.length (valz l) hs hown.2 ad m.length c (valz m) hx' (by rw [valz_len]; omega) ?_ (valz_one m) (by unfold maxLen; omega) (by omega) hbase ?_
    · intro j y hj
      have hlt : j < m.length := by
        by_cases hlt : j < m.length
        · exact hlt
        · rw [List.getElem?_eq_none (by rw [valz_len]; omega)] at hj; cases hj
      rw [valz_at hlt] at hj
      rw [hc j hlt]; exact hj
    · intro v' w' h1 h2 _
      refine h v' w' ⟨hown.1.app hu.1, ?_⟩ h2
      rw [valz_app, List.length_append]; exact h1
  obtain ⟨hok, hm, ⟨rfl, rfl⟩ | ⟨y, cap, rfl, hc, rfl⟩ | ⟨b, off, cap, rfl, h1, h2, h3, h4, h5⟩⟩ := hu
  · refine wpList_append_own_none hgd s x 52 ho base 3 i0 1 Tryz.underlying52 hi v l.length (valz l) hs hown.2 hx ?_
    exact h v w (by rw [List.append_nil]; exact hown) (World.grownBy.refl _ _)
  · exact hfull y cap hx (fun j hj => by simp at hj)
  · exact hfull ⟨b, off, none⟩ cap hx (fun j hj => by rw [add_plain]; exact h5 j hj)

/-- A new block of one int. -/
theorem int_one (w : World) (x : Int) (h0 : -9223372036854775808 ≤ x) (h1 : x ≤ 9223372036854775807) : Ints (w.alloc (.cells #[.int .i64 x] 3)) (.slice (some ⟨w.heap.size, 0, none⟩) 1 1) [x] := by
  refine ⟨okZ.one h0 h1, by simp [maxLen], .inr (.inr ⟨w.heap.size, 0, 1, rfl, by simp, by simp [maxLen], by simp, by simp, fun i hi => ?_⟩)⟩
  have e : i = 0 := by simpa using hi
  subst e
  simp
/-- No row at all. -/
theorem ownz_nil (w : World) (base : Nat) : OwnZ w base (.slice none 0 0) [] := ⟨okZ_nil, rfl, .inl ⟨rfl, rfl⟩⟩
theorem OwnZ.alloc {w : World} {base : Nat} {v : Value} {l : List Int} (h : OwnZ w base v l) (o : Obj) : OwnZ (w.alloc o) base v l := ⟨h.1, h.2.alloc o⟩
theorem Ints.alloc {w : World} {v : Value} {l : List Int} (h : Ints w v l) (o : Obj) : Ints (w.alloc o) v l := h.keep ((Below.refl _ _).alloc (Nat.le_refl _) o)
end Go.Proofs.YthgopknjppflhaaGreatDoor

/- A frame by what may turn: blocks by their number and what lies in them. -/
namespace Go.Proofs.YthgopknjppflhaaGreatDoor
open Go.RowKit
set_option linter.unusedVariables false

/-- All blocks but those that may turn (Mt) lie as they lay. -/
structure Frp (Mt : Nat → Obj → Prop) (a b : World) : Prop where
  os : b.os = a.os
  tape : b.tape = a.tape
  output : b.output = a.output
  size : a.heap.size ≤ b.heap.size
  block : ∀ i o, a.heap[i]? = some o → ¬ Mt i o → b.heap[i]? = some o
theorem Frp.refl (Mt : Nat → Obj → Prop) (a : World) : Frp Mt a a := ⟨rfl, rfl, rfl, Nat.le_refl _, fun _ _ h _ => h⟩
theorem Frp.trans {Mt : Nat → Obj → Prop} {a b c : World} (h : Frp Mt a b) (k : Frp Mt b c) : Frp Mt a c :=
  ⟨k.os.trans h.os, k.tape.trans h.tape, k.output.trans h.output, Nat.le_trans h.size k.size, fun i o hi hm => k.block i o (h.block i o hi hm) hm⟩
theorem Frp.ofBelow {a b : World} (h : Below a.heap.size a b) (Mt : Nat → Obj → Prop) : Frp Mt a b :=
  ⟨h.os, h.tape, h.output, h.size, fun i o hi _ => (h.block i (Array.getElem?_eq_some_iff.1 hi).1).trans hi⟩
theorem Frp.below {Mt : Nat → Obj → Prop} {a b : World} {B : Nat} (h : Frp Mt a b) (hB : B ≤ a.heap.size) (hm : ∀ i o, i < B → ¬ Mt i o) : Below B a b :=
  ⟨h.os, h.tape, h.output, h.size, fun i hi => by
    have hlt : i < a.heap.size := by omega
    have := h.block i _ (Array.getElem?_eq_getElem hlt) (hm i _ hi)
    rw [this, Array.getElem?_eq_getElem hlt]⟩

theorem own_obj {w : World} {base : Nat} {e : TypeId} {size n : Nat} {v : Value} {xs : List Value} (h : w.ownsRow base e size v n xs) {g : Nat} (hg : v.ownBlock = some g) : ∃ cur, w.heap[g]? = some (.cells cur e (0, 0)) := by
  rcases h.2 with ⟨rfl, _⟩ | ⟨g', cap, cur, rfl, _, ho, _⟩
  · cases hg
  · cases hg; exact ⟨cur, ho⟩
end Go.Proofs.YthgopknjppflhaaGreatDoor

/- The law's own helpers that write a count into a row of bytes and look for it again, by their contracts. -/
namespace Go.Proofs.YthgopknjppflhaaGreatDoor
open Go.RowKit
set_option linter.unusedVariables false

/-- n bytes that count on from k. -/
def marks (k : Int) (n : Nat) : List Int := (List.range n).map fun i : Nat => (k + (i : Int)) % 256
theorem marks_len (k : Int) (n : Nat) : (marks k n).length = n := by simp [marks]
theorem marks_ok (k : Int) (n : Nat) : okB (marks k n) := fun x hx => by
  obtain ⟨i, _, rfl⟩ := List.mem_map.1 hx
  omega
theorem marks_at (k : Int) (n i : Nat) (h : i < n) : (marks k n).getD i 0 = (k + (i : Int)) % 256 := by simp [marks, h]
theorem marks_step (k : Int) (l : List Int) (j : Nat) (h : j < l.length) : (vals (marks k j ++ l.drop j)).set j (.int .u8 ((k + (j : Int)) % 256)) = vals (marks k (j + 1) ++ l.drop (j + 1)) := by
  have e : marks k (j + 1) = marks k j ++ [(k + (j : Int)) % 256] := by simp [marks, List.range_succ]
  have hl : (vals (marks k j)).length = j := by simp [vals, marks_len]
  rw [vals_app, List.set_append_right _ _ (by omega), hl, Nat.sub_self, e, List.drop_eq_getElem_cons h, vals_app, vals_app, List.append_assoc]
  rfl

theorem markB_nil (w : World) (a : Option Addr) (cap : Nat) (k : Int) :
    Calls Tryz.prog 32 #[.slice a 0 cap, .int .i64 k] w fun e w' => e = .returned (.int .i64 k) ∧ w' = w := by
  go_enter Tryz.func32, Tryz.ntmps32
  go_wp2
  refine wp_loop_rounds 1 ?_
  rw [rounds_succ]
  go_wp2
  go_ret
  exact ⟨rfl, rfl⟩

set_option maxHeartbeats 1600000 in
set_option maxRecDepth 1000000 in
theorem markB_row (w : World) (base g cap : Nat) (l : List Int) (k : Int) (hw : w.ownsRow base 5 1 (.slice (some ⟨g, 0, none⟩) l.length cap) l.length (vals l)) (hs : l.length ≤ 16777216) (h0 : 0 ≤ k) (h1 : k ≤ 1000000000) :
    Calls Tryz.prog 32 #[.slice (some ⟨g, 0, none⟩) l.length cap, .int .i64 k] w fun e w' => e = .returned (.int .i64 (k + l.length)) ∧
      w'.ownsRow base 5 1 (.slice (some ⟨g, 0, none⟩) l.length cap) l.length (vals (marks k l.length)) ∧ w.grownBy w' (some g) := by
  generalize hn : l.length = n at *
  have HN := hide hn
  clear hn
  go_enter Tryz.func32, Tryz.ntmps32
  go_wp2
  go_loopw [1, 5] (fun c i wr => ∃ j : Nat, j ≤ n ∧ i = .int .i64 j ∧ c = .int .i64 (k + (j : Int)) ∧ wr.ownsRow base 5 1 (.slice (some ⟨g, 0, none⟩) n cap) n (vals (marks k j ++ l.drop j)) ∧ w.grownBy wr (some g)) (fun _ i _ => n - (intOf i).toNat)
  case atStart => exact ⟨0, Nat.zero_le _, rfl, by simp, by simpa [marks] using hw, World.grownBy.refl _ _⟩
  case round =>
    obtain ⟨j, hj, rfl, rfl, hr, hg⟩ := hrel
    by_cases hlt : j < n
    · have hlen := unhide HN
      have hjl : j < l.length := by omega
      obtain ⟨y, hy⟩ : ∃ y, wr.cell? ⟨g, j, none⟩ = some (.int .u8 y) := ⟨(marks k j ++ l.drop j).getD j 0, by rw [hr.cellAt j (by omega), vals_at (by simp [marks_len]; omega)]⟩
      have hfr := hr.frozenAt j
      have hst := hr.stored j (.int .u8 ((k + (j : Int)) % 256))
      rw [marks_step k l j hjl] at hst
      have HS := hide hst
      clear hst hr hlen
      have hlt' : (j : Int) < (n : Int) := by omega
      go_wp2
      have R := unhide HS
      go_roundw
      case rel => exact ⟨j + 1, by omega, by go_num, by go_num, R.1, grown_trans hg R.2⟩
      case measure => simp [intOf]; omega
    · have e : j = n := by omega
      subst e
      have hr' : wr.ownsRow base 5 1 (.slice (some ⟨g, 0, none⟩) j cap) j (vals (marks k j)) := by
        have := unhide HN
        rw [List.drop_of_length_le (by omega), List.append_nil] at hr
        exact hr
      clear hr
      go_wp2
      go_ret
      exact ⟨rfl, hr', hg⟩

theorem markB_any (w : World) (base : Nat) (v : Value) (l : List Int) (k : Int) (h : Own w base v l) (hs : l.length ≤ 16777216) (h0 : 0 ≤ k) (h1 : k ≤ 1000000000) :
    Calls Tryz.prog 32 #[v, .int .i64 k] w fun e w' => e = .returned (.int .i64 (k + l.length)) ∧ Own w' base v (marks k l.length) ∧ w.grownBy w' v.ownBlock := by
  obtain ⟨hok, hlen, ⟨rfl, hz⟩ | ⟨g, cap, cur, rfl, hr⟩⟩ := h
  · have e : l = [] := List.eq_nil_of_length_eq_zero hz
    subst e
    refine (markB_nil w none 0 k).mono ?_
    rintro e w' ⟨rfl, rfl⟩
    exact ⟨by simp, ⟨marks_ok _ _, World.ownsRow_nil _ _ _ _⟩, World.grownBy.refl _ _⟩
  · refine (markB_row w base g cap l k ⟨hlen, .inr ⟨g, cap, cur, rfl, hr⟩⟩ hs h0 h1).mono ?_
    rintro e w' ⟨rfl, ho, hg⟩
    refine ⟨rfl, ⟨marks_ok _ _, ?_⟩, hg⟩
    rw [marks_len]
    exact ho

theorem heldB_nil (w : World) (a : Option Addr) (cap : Nat) (k : Int) :
    Calls Tryz.prog 35 #[.slice a 0 cap, .int .i64 k] w fun e w' => e = .returned (.int .i64 k) ∧ w' = w := by
  go_enter Tryz.func35, Tryz.ntmps35
  go_wp2
  refine wp_loop_rounds 1 ?_
  rw [rounds_succ]
  go_wp2
  go_ret
  exact ⟨rfl, rfl⟩

set_option maxHeartbeats 1600000 in
set_option maxRecDepth 1000000 in
theorem heldB_row (w : World) (b off cap n : Nat) (k : Int) (hc : ∀ i, i < n → w.cell? ⟨b, off + i, none⟩ = some (.int .u8 ((marks k n).getD i 0))) (hs : n ≤ 16777216) (h0 : 0 ≤ k) (h1 : k ≤ 1000000000) :
    Calls Tryz.prog 35 #[.slice (some ⟨b, off, none⟩) n cap, .int .i64 k] w fun e w' => e = .returned (.int .i64 (k + n)) ∧ w' = w := by
  go_enter Tryz.func35, Tryz.ntmps35
  go_wp2
  go_loop [1, 5] (fun c i => ∃ j : Nat, j ≤ n ∧ i = .int .i64 j ∧ c = .int .i64 (k + (j : Int))) (fun _ i => n - (intOf i).toNat)
  case atStart => exact ⟨0, Nat.zero_le _, rfl, by simp⟩
  case round =>
    obtain ⟨j, hj, rfl, rfl⟩ := hrel
    by_cases hlt : j < n
    · have c1 := hc j hlt
      rw [marks_at k n j hlt] at c1
      clear hc
      have hlt' : (j : Int) < (n : Int) := by omega
      go_wp2
      go_round
      case rel => exact ⟨j + 1, by omega, by go_num, by go_num⟩
      case measure => simp [intOf]; omega
    · have e : j = n := by omega
      subst e
      clear hc
      go_wp2
      go_ret
      exact ⟨rfl, rfl⟩

theorem heldB_any (w : World) (v : Value) (n : Nat) (k : Int) (h : Byt w v (marks k n)) (hs : n ≤ 16777216) (h0 : 0 ≤ k) (h1 : k ≤ 1000000000) :
    Calls Tryz.prog 35 #[v, .int .i64 k] w fun e w' => e = .returned (.int .i64 (k + n)) ∧ w' = w := by
  obtain ⟨_, _, ⟨rfl, hn⟩ | ⟨x, cap, rfl, hc, hn⟩ | ⟨b, off, cap, rfl, _, _, _, _, h5⟩⟩ := h
  · have e : n = 0 := by have := congrArg List.length hn; rw [marks_len] at this; exact this
    subst e
    refine (heldB_nil w none 0 k).mono ?_
    rintro e w' ⟨rfl, rfl⟩
    exact ⟨by simp, rfl⟩
  · have e : n = 0 := by have := congrArg List.length hn; rw [marks_len] at this; exact this
    subst e
    refine (heldB_nil w (some x) cap k).mono ?_
    rintro e w' ⟨rfl, rfl⟩
    exact ⟨by simp, rfl⟩
  · rw [marks_len] at h5 ⊢
    exact heldB_row w b off cap n k h5 hs h0 h1

end Go.Proofs.YthgopknjppflhaaGreatDoor

/- Rows of elements of a call's own: a cell of one, its blocks apart. No program. -/
namespace Go.Proofs.YthgopknjppflhaaGreatDoor
open Go.RowKit
set_option linter.unusedVariables false

/-- A cell of a row of elements. -/
theorem own_cellAt {w : World} {base g n cap size : Nat} {e : TypeId} {Cs : List (List Value)} (h : w.ownsRow base e size (.slice (some ⟨g, 0, none⟩) n cap) n Cs.flatten) (hC : ∀ i, i < Cs.length → (Cs.getD i []).length = size) (hl : Cs.length = n) (i j : Nat) (hi : i < n) (hj : j < size) :
    w.cell? ⟨g, i * size + j, none⟩ = (Cs.getD i [])[j]? := by
  have hlt : i * size + j < n * size := by
    have : (i + 1) * size ≤ n * size := Nat.mul_le_mul_right _ hi
    rw [Nat.succ_mul] at this; omega
  rw [h.cellAt (i * size + j) hlt]
  exact flat_at Cs size hC i j (by omega) hj
theorem nodup_part {a b : List Nat} (h : (a ++ b).Nodup) : ∀ g ∈ a, g ∉ b := fun g ha hb => by
  rw [List.nodup_append] at h
  exact h.2.2 g ha g hb rfl
theorem nodup_flat : ∀ {Fs : List (List Nat)} {i j : Nat}, Fs.flatten.Nodup → i ≠ j → ∀ g ∈ Fs.getD i [], g ∉ Fs.getD j []
  | [], i, j, _, _, g, hg, _ => by simp at hg
  | F :: Fs, i, j, h, hij, g, hg, hg' => by
    rw [List.flatten_cons] at h
    have h2 := List.nodup_append.1 h
    cases i with
    | zero =>
      cases j with
      | zero => exact hij rfl
      | succ j =>
        simp only [List.getD_cons_zero] at hg
        simp only [List.getD_cons_succ] at hg'
        exact h2.2.2 g hg g (mem_flat hg') rfl
    | succ i =>
      cases j with
      | zero =>
        simp only [List.getD_cons_zero] at hg'
        simp only [List.getD_cons_succ] at hg
        exact h2.2.2 g hg' g (mem_flat hg) rfl
      | succ j =>
        simp only [List.getD_cons_succ] at hg hg'
        exact nodup_flat (i := i) (j := j) h2.2.1 (by omega) g hg hg'
theorem nodup_at : ∀ {Fs : List (List Nat)} {i : Nat}, Fs.flatten.Nodup → (Fs.getD i []).Nodup
  | [], i, _ => by simp
  | F :: Fs, i, h => by
    rw [List.flatten_cons] at h
    have h2 := List.nodup_append.1 h
    cases i with
    | zero => simpa using h2.1
    | succ i => simpa using nodup_at (i := i) h2.2.1
theorem own_grown_frm {w w' : World} {v : Value} (h : w.grownBy w' v.ownBlock) : Frm w w' (FB v) := Frm.ofGrown h

theorem own_nil_shape {w : World} {base : Nat} {e : TypeId} {size n : Nat} {v : Value} {xs : List Value} (h : w.ownsRow base e size v n xs) : ∃ a cap, v = .slice a n cap := by
  rcases h.2 with ⟨rfl, rfl⟩ | ⟨g, cap, cur, rfl, _⟩
  · exact ⟨_, _, rfl⟩
  · exact ⟨_, _, rfl⟩

theorem flat_put (size : Nat) (D : List Value) (hD : D.length = size) (i : Nat) (hi : i < size) (v : Value) : ∀ (Ds : List (List Value)) (j : Nat), (∀ i, i < Ds.length → (Ds.getD i []).length = size) → j < Ds.length → (Ds.set j (D.set i v)).flatten = (Ds.set j D).flatten.set (j * size + i) v
  | [], j, _, hj => by simp at hj
  | C :: Ds, 0, _, _ => by
    simp only [List.set_cons_zero, List.flatten_cons, Nat.zero_mul, Nat.zero_add]
    rw [List.set_append_left _ _ (by omega)]
  | C :: Ds, j + 1, h, hj => by
    have h0 : C.length = size := by simpa using h 0 (by simp)
    have e : (j + 1) * size + i = C.length + (j * size + i) := by rw [h0, Nat.succ_mul]; omega
    rw [List.set_cons_succ, List.set_cons_succ, List.flatten_cons, List.flatten_cons, e, List.set_append_right _ _ (by omega), Nat.add_sub_cancel_left]
    rw [flat_put size D hD i hi v Ds j (fun k hk => by simpa using h (k + 1) (by simpa using hk)) (by simpa using hj)]

/-- A row of elements of the call's own whose j-th is D. -/
structure RowJ (w : World) (T : TypeId) (size g n cap : Nat) (Ds : List (List Value)) (j : Nat) (D : List Value) : Prop where
  lenD : D.length = size
  lenDs : Ds.length = n
  lens : ∀ i, i < Ds.length → (Ds.getD i []).length = size
  lt : j < n
  row : w.ownsRow 0 T size (.slice (some ⟨g, 0, none⟩) n cap) n (Ds.set j D).flatten
theorem getD_set_at {α : Type} (Ds : List (List α)) (j : Nat) (D : List α) (h : j < Ds.length) : (Ds.set j D).getD j [] = D := by
  simp [List.getD_eq_getElem?_getD, h]
theorem getD_set_ne {α : Type} (Ds : List (List α)) (i j : Nat) (D : List α) (h : i ≠ j) : (Ds.set j D).getD i [] = Ds.getD i [] := by
  simp [List.getD_eq_getElem?_getD, Ne.symm h]
theorem RowJ.lens' {w : World} {T : TypeId} {size g n cap : Nat} {Ds : List (List Value)} {j : Nat} {D : List Value} (h : RowJ w T size g n cap Ds j D) : ∀ i, i < (Ds.set j D).length → ((Ds.set j D).getD i []).length = size := fun i hi => by
  by_cases e : i = j
  · subst e; rw [getD_set_at _ _ _ (by rw [h.lenDs]; exact h.lt)]; exact h.lenD
  · rw [getD_set_ne _ _ _ _ e]; exact h.lens i (by simpa using hi)
theorem RowJ.cell {w : World} {T : TypeId} {size g n cap : Nat} {Ds : List (List Value)} {j : Nat} {D : List Value} (h : RowJ w T size g n cap Ds j D) (i : Nat) (hi : i < size) : w.cell? ⟨g, j * size + i, none⟩ = D[i]? := by
  have := own_cellAt h.row h.lens' (by simp [h.lenDs]) j i h.lt hi
  rw [getD_set_at _ _ _ (by rw [h.lenDs]; exact h.lt)] at this
  exact this
theorem RowJ.put {w : World} {T : TypeId} {size g n cap : Nat} {Ds : List (List Value)} {j : Nat} {D : List Value} (h : RowJ w T size g n cap Ds j D) (i : Nat) (hi : i < size) (v : Value) : RowJ (w.setCell ⟨g, j * size + i, none⟩ v) T size g n cap Ds j (D.set i v) :=
  ⟨by rw [List.length_set]; exact h.lenD, h.lenDs, h.lens, h.lt, by
    rw [flat_put size D h.lenD i hi v Ds j h.lens (by rw [h.lenDs]; exact h.lt)]
    exact (h.row.stored (j * size + i) v).1⟩
theorem RowJ.frozen {w : World} {T : TypeId} {size g n cap : Nat} {Ds : List (List Value)} {j : Nat} {D : List Value} (h : RowJ w T size g n cap Ds j D) (i : Nat) : w.frozen? ⟨g, i, none⟩ = false := h.row.frozenAt i
theorem RowJ.frm {w w' : World} {T : TypeId} {size g n cap : Nat} {Ds : List (List Value)} {j : Nat} {D : List Value} {S : List Nat} (h : RowJ w T size g n cap Ds j D) (f : Frm w w' S) (hg : g ∉ S) : RowJ w' T size g n cap Ds j D :=
  ⟨h.lenD, h.lenDs, h.lens, h.lt, ownsRow_frm h.row f (fun p hp => by
    have : p = g := by simpa [FB, Value.ownBlock] using hp
    rw [this]; exact hg)⟩
theorem RowJ.start {w : World} {T : TypeId} {size g n cap : Nat} {Ds : List (List Value)} (hl : Ds.length = n) (h : ∀ i, i < Ds.length → (Ds.getD i []).length = size) (j : Nat) (hj : j < n) (hr : w.ownsRow 0 T size (.slice (some ⟨g, 0, none⟩) n cap) n Ds.flatten) : RowJ w T size g n cap Ds j (Ds.getD j []) :=
  ⟨h j (by omega), hl, h, hj, by
    have e : Ds.set j (Ds.getD j []) = Ds := by
      apply List.ext_getElem?
      intro i
      rw [List.getElem?_set]
      split
      · rename_i e; subst e
        rw [if_pos (by omega), List.getD_eq_getElem?_getD, List.getElem?_eq_getElem (by omega)]; rfl
      · rfl
    rw [e]; exact hr⟩
end Go.Proofs.YthgopknjppflhaaGreatDoor

/- The laws' own helpers that write a count into attributes and look for it again, by their contracts. -/
namespace Go.Proofs.YthgopknjppflhaaGreatDoor
open Go.RowKit
set_option linter.unusedVariables false
set_option maxRecDepth 100000

/-- How many bytes attributes have. -/
def cntA : List (List Int × List Int) → Nat
  | [] => 0
  | x :: r => x.1.length + x.2.length + cntA r
/-- Attributes with a count in them, from k on. -/
def mkA : List (List Int × List Int) → Int → List (List Int × List Int)
  | [], _ => []
  | x :: r, k => (marks k x.1.length, marks (k + (x.1.length : Nat)) x.2.length) :: mkA r (k + ((x.1.length + x.2.length : Nat) : Int))
theorem mkA_len : ∀ (l : List (List Int × List Int)) (k : Int), (mkA l k).length = l.length
  | [], _ => rfl
  | x :: r, k => by simp [mkA, mkA_len r]
theorem mkA_app : ∀ (a b : List (List Int × List Int)) (k : Int), mkA (a ++ b) k = mkA a k ++ mkA b (k + (cntA a : Nat))
  | [], b, k => by simp [mkA, cntA]
  | x :: r, b, k => by
    simp only [List.cons_append, mkA, mkA_app r b, cntA, List.cons.injEq, true_and]
    congr 2
    omega
theorem cntA_app : ∀ (a b : List (List Int × List Int)), cntA (a ++ b) = cntA a + cntA b
  | [], b => by simp [cntA]
  | x :: r, b => by simp only [List.cons_append, cntA, cntA_app r b]; omega
theorem cntA_take (l : List (List Int × List Int)) (j : Nat) (h : j < l.length) : cntA (l.take (j + 1)) = cntA (l.take j) + (l[j].1.length + l[j].2.length) := by
  rw [List.take_succ_eq_append_getElem h, cntA_app]
  simp [cntA]
theorem cntA_le (l : List (List Int × List Int)) (j : Nat) : cntA (l.take j) ≤ cntA l := by
  have := cntA_app (l.take j) (l.drop j)
  rw [List.take_append_drop] at this
  omega
theorem mkA_at (l : List (List Int × List Int)) (k : Int) (j : Nat) (h : j < l.length) (h' : j < (mkA l k).length) : (mkA l k)[j] = (marks (k + (cntA (l.take j) : Nat)) l[j].1.length, marks (k + (cntA (l.take j) : Nat) + (l[j].1.length : Nat)) l[j].2.length) := by
  have e : mkA l k = mkA (l.take j) k ++ mkA (l.drop j) (k + (cntA (l.take j) : Nat)) := by rw [← mkA_app, List.take_append_drop]
  have e2 : l.drop j = l[j] :: l.drop (j + 1) := List.drop_eq_getElem_cons h
  have hl : (mkA (l.take j) k).length = j := by rw [mkA_len]; simp; omega
  have : (mkA l k)[j]? = some (marks (k + (cntA (l.take j) : Nat)) l[j].1.length, marks (k + (cntA (l.take j) : Nat) + (l[j].1.length : Nat)) l[j].2.length) := by
    rw [e, List.getElem?_append_right (by omega), hl, Nat.sub_self, e2, mkA]
    rfl
  rw [List.getElem?_eq_getElem h'] at this
  exact Option.some.inj this

theorem OwAttr.frm {w w' : World} {C : List Value} {x : List Int × List Int} {G S : List Nat} (h : OwAttr w C x G) (f : Frm w w' S) (hd : ∀ g ∈ G, g ∉ S) : OwAttr w' C x G := by
  obtain ⟨a, b, e, h1, h2, rfl⟩ := h
  exact ⟨a, b, e, h1.frm f (fun g hg => hd g (by simp [hg])), h2.frm f (fun g hg => hd g (by simp [hg])), rfl⟩
set_option maxHeartbeats 3200000 in
theorem markA_any (w : World) (v : Value) (l : List (List Int × List Int)) (F : List Nat) (k : Int) (h : OwAttrs w v l F) (hF : F.Nodup) (hs : cntA l ≤ 4194304) (h0 : 0 ≤ k) (h1 : k ≤ 900000000) :
    Calls Tryz.prog 33 #[v, .int .i64 k] w fun e w' => e = .returned (.int .i64 (k + (cntA l : Nat))) ∧ OwAttrs w' v (mkA l k) F ∧ Frm w w' F := by
  have hml := OwElems.len h
  unfold maxLen at hml
  obtain ⟨Cs, Fs, hCl, hFl, hR, hrow, rfl⟩ := h
  have hFv := nodup_part hF
  have hFn := (List.nodup_append.1 hF).2.1
  have hC : ∀ i, i < Cs.length → (Cs.getD i []).length = 2 := fun i hi => (hR i (by omega)).1
  by_cases hl0 : l = []
  · subst hl0
    have hshape : ∃ a cap, v = .slice a 0 cap := by
      rcases hrow.2 with ⟨rfl, _⟩ | ⟨g, cap, cur, rfl, _⟩
      · exact ⟨_, _, rfl⟩
      · exact ⟨_, _, rfl⟩
    obtain ⟨a, cap, rfl⟩ := hshape
    have HW := hide (show OwAttrs w (.slice a 0 cap) (mkA [] k) _ from ⟨Cs, Fs, hCl, hFl, hR, hrow, rfl⟩)
    clear hrow hR
    go_enter Tryz.func33, Tryz.ntmps33
    go_wp2_with fail
    refine wp_loop_rounds 1 ?_
    rw [rounds_succ]
    go_wp2_with fail
    go_ret
    exact ⟨by simp [cntA], unhide HW, Frm.refl _ _⟩
  have hv : ∃ g cap, v = .slice (some ⟨g, 0, none⟩) l.length cap := by
    rcases hrow.2 with ⟨_, h⟩ | ⟨g, cap, cur, rfl, _⟩
    · exact absurd (List.eq_nil_of_length_eq_zero h) hl0
    · exact ⟨g, cap, rfl⟩
  obtain ⟨g, cap, rfl⟩ := hv
  have hgF : ∀ i, g ∉ Fs.getD i [] := fun i hi => hFv g (by simp [FB, Value.ownBlock]) (mem_flat hi)
  have HR := hide hR
  have HROW := hide hrow
  have hm' : (l.length : Int) ≤ 9223372036854775807 := by omega
  clear hR hrow
  go_enter Tryz.func33, Tryz.ntmps33
  go_wp2_with fail
  go_loopw [1, 5] (fun c i wr => ∃ j : Nat, j ≤ l.length ∧ i = .int .i64 j ∧ c = .int .i64 (k + (cntA (l.take j) : Nat)) ∧ wr.ownsRow 0 85 2 (.slice (some ⟨g, 0, none⟩) l.length cap) l.length Cs.flatten ∧
      (∀ i (hi : i < (mkA l k).length), i < j → OwAttr wr (Cs.getD i []) (mkA l k)[i] (Fs.getD i [])) ∧ (∀ i (hi : i < l.length), j ≤ i → OwAttr wr (Cs.getD i []) l[i] (Fs.getD i [])) ∧ Frm w wr (FB (.slice (some ⟨g, 0, none⟩) l.length cap) ++ Fs.flatten)) (fun _ i _ => l.length - (intOf i).toNat)
  case atStart => exact ⟨0, Nat.zero_le _, rfl, by simp [cntA], unhide HROW, fun i hi hj => by omega, fun i hi _ => (unhide HR i hi).2, Frm.refl _ _⟩
  case round =>
    obtain ⟨j, hj, rfl, rfl, hr, hdone, htodo, hf⟩ := hrel
    by_cases hjl : j < l.length
    · obtain ⟨a, b, hab, ha, hb, hFj⟩ := htodo j hjl (Nat.le_refl _)
      have e0 := own_cellAt hr hC hCl j 0 hjl (by omega)
      have e1 := own_cellAt hr hC hCl j 1 hjl (by omega)
      rw [hab] at e0 e1
      simp only [List.getElem?_cons_zero, List.getElem?_cons_succ, Nat.add_zero] at e0 e1
      have hct := cntA_take l j hjl
      have hcl := cntA_le l (j + 1)
      have hFjn := nodup_at (i := j) hFn
      rw [hFj] at hFjn
      obtain ⟨pa, ca, rfl, _, _⟩ := ha.byt.shape
      obtain ⟨pb, cb, rfl, _, _⟩ := hb.byt.shape
      have hat := mkA_at l k j hjl (by rw [mkA_len]; exact hjl)
      obtain ⟨x, hx⟩ : ∃ x, x = l[j] := ⟨_, rfl⟩
      rw [← hx] at ha hb hct hat e0 e1 hab hFj hFjn
      obtain ⟨q, hq⟩ : ∃ q : Int, q = k + (cntA (l.take j) : Nat) := ⟨_, rfl⟩
      rw [← hq] at hat ⊢
      have hq0 : 0 ≤ q := by omega
      have hq1 : q ≤ 904194304 := by omega
      have HQ := hide hq
      have HX := hide hx
      have HT := hide hat
      have HCT := hide hct
      have HAB := hide hab
      have HFJ := hide hFj
      have hx1 : x.1.length ≤ 4194304 := by omega
      have hx2 : x.2.length ≤ 4194304 := by omega
      have HDN := hide hdone
      have HTD := hide htodo
      clear hq hx hat hct hab hFj hdone htodo hcl
      have hjl' : (j : Int) < (l.length : Int) := by omega
      have hj0 : (0 : Int) ≤ (j : Int) := by omega
      go_wp2_with fail
      refine (markB_any wr 0 _ x.1 q ha (Nat.le_trans hx1 (by decide)) hq0 (by omega)).mono ?_
      rintro e w1 ⟨rfl, ha1, hg1⟩
      have F1 := own_grown_frm hg1
      have hgj : ∀ p ∈ FB (.slice (some ⟨g, 0, none⟩) l.length cap), p ∉ Fs.getD j [] := fun p hp => by
        have : p = g := by simpa [FB, Value.ownBlock] using hp
        rw [this]; exact hgF j
      have r1 := ownsRow_frm hr F1 (fun p hp hp' => hgj p hp (by rw [unhide HFJ]; exact List.mem_append_left _ hp'))
      have hb1 := hb.frm F1 (fun p hp hp' => nodup_part hFjn p hp' hp)
      have e1' := own_cellAt r1 hC hCl j 1 hjl (by omega)
      rw [unhide HAB] at e1'
      simp only [List.getElem?_cons_zero, List.getElem?_cons_succ] at e1'
      clear e0 e1
      go_wp2_with fail
      refine (markB_any w1 0 _ x.2 (q + (x.1.length : Nat)) hb1 (Nat.le_trans hx2 (by decide)) (by omega) (by omega)).mono ?_
      rintro e w2 ⟨rfl, hb2, hg2⟩
      have F2 := own_grown_frm hg2
      have r2 := ownsRow_frm r1 F2 (fun p hp hp' => hgj p hp (by rw [unhide HFJ]; exact List.mem_append_right _ hp'))
      have ha2 := ha1.frm F2 (fun p hp hp' => nodup_part hFjn p hp hp')
      have F12 : Frm wr w2 (Fs.getD j []) := (F1.mono (fun p hp => by rw [unhide HFJ]; exact List.mem_append_left _ hp)).trans (F2.mono (fun p hp => by rw [unhide HFJ]; exact List.mem_append_right _ hp))
      clear e1'
      go_wp2_with fail
      go_roundw
      case rel =>
        refine ⟨j + 1, by omega, by go_num, ?_, r2, fun i hi hij => ?_, fun i hi hij => ?_, hf.trans (F12.mono (fun p hp => List.mem_append_right _ (mem_flat hp)))⟩
        · rw [unhide HCT, unhide HQ]; go_num
        · by_cases e : i = j
          · subst e
            rw [unhide HT]
            exact ⟨_, _, unhide HAB, ha2, hb2, unhide HFJ⟩
          · exact (unhide HDN i hi (by omega)).frm F12 (nodup_flat hFn e)
        · exact (unhide HTD i hi (by omega)).frm F12 (nodup_flat hFn (by omega))
      case measure => simp [intOf]; omega
    · have e : j = l.length := by omega
      subst e
      have HW := hide (show OwAttrs wr (.slice (some ⟨g, 0, none⟩) l.length cap) (mkA l k) (FB (.slice (some ⟨g, 0, none⟩) l.length cap) ++ Fs.flatten) from
        ⟨Cs, Fs, by rw [mkA_len]; exact hCl, by rw [mkA_len]; exact hFl, fun i hi => ⟨hC i (by rw [mkA_len] at hi; omega), hdone i hi (by rw [mkA_len] at hi; exact hi)⟩, by rw [mkA_len]; exact hr, rfl⟩)
      clear hdone htodo hr
      go_wp2_with fail
      go_ret
      exact ⟨by rw [List.take_length]; rfl, unhide HW, hf⟩
end Go.Proofs.YthgopknjppflhaaGreatDoor

/- Trees with a count in them: plain mathematics. -/
namespace Go.Proofs.YthgopknjppflhaaGreatDoor
open Go.RowKit
set_option linter.unusedVariables false

/-- How much is counted of a row of members: one for each, and what f says. -/
def cntL {α : Type} (f : α → Nat) : List α → Nat
  | [] => 0
  | x :: r => 1 + f x + cntL f r
theorem cntL_app {α : Type} (f : α → Nat) : ∀ a b : List α, cntL f (a ++ b) = cntL f a + cntL f b
  | [], b => by simp [cntL]
  | x :: r, b => by simp only [List.cons_append, cntL, cntL_app f r b]; omega
theorem cntL_take {α : Type} (f : α → Nat) (l : List α) (j : Nat) (h : j < l.length) : cntL f (l.take (j + 1)) = cntL f (l.take j) + (1 + f l[j]) := by
  rw [List.take_succ_eq_append_getElem h, cntL_app]
  simp [cntL]
theorem cntL_le {α : Type} (f : α → Nat) (l : List α) (j : Nat) : cntL f (l.take j) ≤ cntL f l := by
  have := cntL_app f (l.take j) (l.drop j)
  rw [List.take_append_drop] at this
  omega
def mkL {α : Type} (c : α → Nat) (f : α → Int → α) : List α → Int → List α
  | [], _ => []
  | x :: r, k => f x k :: mkL c f r (k + ((1 + c x : Nat) : Int))
theorem mkL_len {α : Type} (c : α → Nat) (f : α → Int → α) : ∀ (l : List α) (k : Int), (mkL c f l k).length = l.length
  | [], _ => rfl
  | x :: r, k => by simp [mkL, mkL_len c f r]
theorem mkL_app {α : Type} (c : α → Nat) (f : α → Int → α) : ∀ (a b : List α) (k : Int), mkL c f (a ++ b) k = mkL c f a k ++ mkL c f b (k + (cntL c a : Nat))
  | [], b, k => by simp [mkL, cntL]
  | x :: r, b, k => by
    simp only [List.cons_append, mkL, mkL_app c f r b, cntL, List.cons.injEq, true_and]
    congr 2
    omega
theorem mkL_at {α : Type} (c : α → Nat) (f : α → Int → α) (l : List α) (k : Int) (j : Nat) (h : j < l.length) (h' : j < (mkL c f l k).length) : (mkL c f l k)[j] = f l[j] (k + (cntL c (l.take j) : Nat)) := by
  have e : mkL c f l k = mkL c f (l.take j) k ++ mkL c f (l.drop j) (k + (cntL c (l.take j) : Nat)) := by rw [← mkL_app, List.take_append_drop]
  have e2 : l.drop j = l[j] :: l.drop (j + 1) := List.drop_eq_getElem_cons h
  have hl : (mkL c f (l.take j) k).length = j := by rw [mkL_len]; simp; omega
  have : (mkL c f l k)[j]? = some (f l[j] (k + (cntL c (l.take j) : Nat))) := by
    rw [e, List.getElem?_append_right (by omega), hl, Nat.sub_self, e2, mkL]
    rfl
  rw [List.getElem?_eq_getElem h'] at this
  exact Option.some.inj this

/-- How much is counted of a tree, its own kind aside. -/
def cntT : (n : Nat) → Tr n → Nat
  | 0 => fun _ => 0
  | n + 1 => fun t => t.name.length + t.text.length + cntA t.attrs + cntL (cntT n) t.kids
theorem cntT_succ (n : Nat) (t : Tr (n + 1)) : cntT (n + 1) t = t.name.length + t.text.length + cntA t.attrs + cntL (cntT n) t.kids := rfl
/-- Another kind. -/
def skT : (n : Nat) → Tr n → Int → Tr n
  | 0 => fun t _ => t
  | n + 1 => fun t z => (⟨z, t.name, t.text, t.attrs, t.kids⟩ : Nd (Tr n))
/-- A tree with a count in it, from k on, its own kind aside. -/
def mkT' : (n : Nat) → Tr n → Int → Tr n
  | 0 => fun t _ => t
  | n + 1 => fun t k => (⟨t.kind, marks k t.name.length, marks (k + (t.name.length : Nat)) t.text.length, mkA t.attrs (k + (t.name.length : Nat) + (t.text.length : Nat)), mkL (cntT n) (fun x k => skT n (mkT' n x (k + 1)) k) t.kids (k + (t.name.length : Nat) + (t.text.length : Nat) + (cntA t.attrs : Nat))⟩ : Nd (Tr n))
/-- A member of a row, its kind too. -/
def mkN (n : Nat) (x : Tr n) (k : Int) : Tr n := skT n (mkT' n x (k + 1)) k
def mkK (n : Nat) (l : List (Tr n)) (k : Int) : List (Tr n) := mkL (cntT n) (mkN n) l k
theorem mkK_len (n : Nat) (l : List (Tr n)) (k : Int) : (mkK n l k).length = l.length := mkL_len _ _ l k
theorem mkK_at (n : Nat) (l : List (Tr n)) (k : Int) (j : Nat) (h : j < l.length) (h' : j < (mkK n l k).length) : (mkK n l k)[j] = mkN n l[j] (k + (cntL (cntT n) (l.take j) : Nat)) := mkL_at _ _ l k j h h'

theorem flat_set (Cs : List (List Value)) (size : Nat) (hs : 0 < size) (h : ∀ i, i < Cs.length → (Cs.getD i []).length = size) (j : Nat) (hj : j < Cs.length) (v : Value) : (Cs.set j ((Cs.getD j []).set 0 v)).flatten = Cs.flatten.set (j * size) v := by
  induction Cs generalizing j with
  | nil => simp at hj
  | cons C Cs ih =>
    have h0 : C.length = size := by simpa using h 0 (by simp)
    cases j with
    | zero =>
      simp only [List.set_cons_zero, List.getD_cons_zero, List.flatten_cons, Nat.zero_mul]
      rw [List.set_append_left _ _ (by omega)]
    | succ j =>
      have e : (j + 1) * size = C.length + j * size := by rw [h0, Nat.succ_mul]; omega
      rw [List.set_cons_succ, List.flatten_cons, List.flatten_cons, List.getD_cons_succ, e, List.set_append_right _ _ (by omega), Nat.add_sub_cancel_left]
      rw [ih (fun k hk => by simpa using h (k + 1) (by simpa using hk)) j (by simpa using hj)]
end Go.Proofs.YthgopknjppflhaaGreatDoor

/- The laws' own helpers that write a count into trees, by their contracts. -/
namespace Go.Proofs.YthgopknjppflhaaGreatDoor
open Go.RowKit
set_option linter.unusedVariables false
set_option maxRecDepth 100000

def MarkKSaid (n : Nat) : Prop := ∀ (w : World) (v : Value) (l : List (Tr n)) (F : List Nat) (k : Int), OwKids n w v l F → F.Nodup → cntL (cntT n) l ≤ 4194304 → 0 ≤ k → k + (cntL (cntT n) l : Nat) ≤ 800000000 →
    Calls Tryz.prog 34 #[v, .int .i64 k] w fun e w' => e = .returned (.int .i64 (k + (cntL (cntT n) l : Nat))) ∧ OwKids n w' v (mkK n l k) F ∧ Frm w w' F

theorem markK_nil (w : World) (a : Option Addr) (cap : Nat) (k : Int) :
    Calls Tryz.prog 34 #[.slice a 0 cap, .int .i64 k] w fun e w' => e = .returned (.int .i64 k) ∧ w' = w := by
  go_enter Tryz.func34, Tryz.ntmps34
  go_wp2_with fail
  refine wp_loop_rounds 1 ?_
  rw [rounds_succ]
  go_wp2_with fail
  go_ret
  exact ⟨rfl, rfl⟩
theorem markK_empty (n : Nat) (w : World) (v : Value) (F : List Nat) (k : Int) (h : OwKids n w v [] F) :
    Calls Tryz.prog 34 #[v, .int .i64 k] w fun e w' => e = .returned (.int .i64 (k + (cntL (cntT n) [] : Nat))) ∧ OwKids n w' v (mkK n [] k) F ∧ Frm w w' F := by
  obtain ⟨Cs, Fs, hCl, hFl, hR, hrow, hF⟩ := h
  obtain ⟨a, cap, rfl⟩ := own_nil_shape hrow
  refine (markK_nil w a cap k).mono ?_
  rintro e w' ⟨rfl, rfl⟩
  exact ⟨by simp [cntL], ⟨Cs, Fs, hCl, hFl, hR, hrow, hF⟩, Frm.refl _ _⟩

theorem OwKids.cellsLen {n : Nat} {w : World} {C : List Value} {t : Tr n} {F : List Nat} (h : OwNode n w C t F) : C.length = 5 := by
  cases n with
  | zero => exact t.elim
  | succ n => obtain ⟨a, b, c, d, Fc, Fd, rfl, _⟩ := h; rfl
theorem nodup4 {a b c d : List Nat} (h : (a ++ b ++ c ++ d).Nodup) : (∀ g ∈ a, g ∉ b ∧ g ∉ c ∧ g ∉ d) ∧ (∀ g ∈ b, g ∉ c ∧ g ∉ d) ∧ (∀ g ∈ c, g ∉ d) ∧ c.Nodup ∧ d.Nodup := by
  have h1 := List.nodup_append.1 h
  have h2 := List.nodup_append.1 h1.1
  have h3 := List.nodup_append.1 h2.1
  refine ⟨fun g ha => ⟨fun hb => h3.2.2 g ha g hb rfl, fun hc => h2.2.2 g (List.mem_append_left _ ha) g hc rfl, fun hd => h1.2.2 g (List.mem_append_left _ (List.mem_append_left _ ha)) g hd rfl⟩,
    fun g hb => ⟨fun hc => h2.2.2 g (List.mem_append_right _ hb) g hc rfl, fun hd => h1.2.2 g (List.mem_append_left _ (List.mem_append_right _ hb)) g hd rfl⟩,
    fun g hc hd => h1.2.2 g (List.mem_append_right _ hc) g hd rfl, h2.2.1, h1.2.1⟩

set_option maxHeartbeats 6400000 in
theorem markK_succ (n : Nat) (H : MarkKSaid n) : MarkKSaid (n + 1) := by
  intro w v l F k h hF hs h0 h1
  have hml := OwElems.len h
  unfold maxLen at hml
  by_cases hl0 : l = []
  · subst hl0; exact markK_empty (n + 1) w v F k h
  obtain ⟨Cs, Fs, hCl, hFl, hR, hrow, rfl⟩ := h
  have hFv := nodup_part hF
  have hFn := (List.nodup_append.1 hF).2.1
  have hv : ∃ g cap, v = .slice (some ⟨g, 0, none⟩) l.length cap := by
    rcases hrow.2 with ⟨_, h⟩ | ⟨g, cap, cur, rfl, _⟩
    · exact absurd (List.eq_nil_of_length_eq_zero h) hl0
    · exact ⟨g, cap, rfl⟩
  obtain ⟨g, cap, rfl⟩ := hv
  have hgF : ∀ i, g ∉ Fs.getD i [] := fun i hi => hFv g (by simp [FB, Value.ownBlock]) (mem_flat hi)
  have hFB : FB (.slice (some ⟨g, 0, none⟩) l.length cap) = [g] := rfl
  rw [hFB] at hF hFv ⊢
  have HR := hide hR
  have HROW := hide hrow
  have hm' : (l.length : Int) ≤ 9223372036854775807 := by omega
  clear hR hrow hFB
  go_enter Tryz.func34, Tryz.ntmps34
  go_wp2_with fail
  go_loopw [1, 5] (fun c i wr => ∃ j : Nat, j ≤ l.length ∧ i = .int .i64 j ∧ c = .int .i64 (k + (cntL (cntT (n + 1)) (l.take j) : Nat)) ∧ ∃ Ds : List (List Value), Ds.length = l.length ∧ wr.ownsRow 0 30 5 (.slice (some ⟨g, 0, none⟩) l.length cap) l.length Ds.flatten ∧
      (∀ i (hi : i < (mkK (n + 1) l k).length), i < j → OwNode (n + 1) wr (Ds.getD i []) (mkK (n + 1) l k)[i] (Fs.getD i [])) ∧ (∀ i (hi : i < l.length), j ≤ i → OwNode (n + 1) wr (Ds.getD i []) l[i] (Fs.getD i [])) ∧ Frm w wr ([g] ++ Fs.flatten)) (fun _ i _ => l.length - (intOf i).toNat)
  case atStart => exact ⟨0, Nat.zero_le _, rfl, by simp [cntL], Cs, hCl, unhide HROW, fun i hi hj => by omega, fun i hi _ => (unhide HR i hi).2, Frm.refl _ _⟩
  case round =>
    obtain ⟨j, hj, rfl, rfl, Ds, hDl, hr, hdone, htodo, hf⟩ := hrel
    have hD : ∀ i, i < Ds.length → (Ds.getD i []).length = 5 := fun i hi => by
      by_cases hij : i < j
      · exact OwKids.cellsLen (hdone i (by rw [mkK_len]; omega) hij)
      · exact OwKids.cellsLen (htodo i (by omega) (by omega))
    by_cases hjl : j < l.length
    · obtain ⟨a, b, c, d, Fc, Fd, hab, hk1, hk2, ha, hb, hc, hd, hFj⟩ := htodo j hjl (Nat.le_refl _)
      have hct := cntL_take (cntT (n + 1)) l j hjl
      have hcl := cntL_le (cntT (n + 1)) l (j + 1)
      have hcs := cntT_succ n l[j]
      have hat := mkK_at (n + 1) l k j hjl (by rw [mkK_len]; exact hjl)
      obtain ⟨x, hx⟩ : ∃ x, x = l[j] := ⟨_, rfl⟩
      rw [← hx] at ha hb hc hd hct hcs hat hab hk1 hk2
      obtain ⟨q, hq⟩ : ∃ q : Int, q = k + (cntL (cntT (n + 1)) (l.take j) : Nat) := ⟨_, rfl⟩
      rw [← hq] at hat ⊢
      have hq0 : 0 ≤ q := by omega
      have hq1 : q + (1 + cntT (n + 1) x : Nat) ≤ 800000000 := by omega
      rw [hcs] at hq1
      obtain ⟨pa, ca, rfl, _, _⟩ := ha.byt.shape
      obtain ⟨pb, cb, rfl, _, _⟩ := hb.byt.shape
      obtain ⟨pc, cc, rfl, _, _⟩ := Elems.shape (OwAttrs.rd hc)
      obtain ⟨pd, cd, rfl, _, _⟩ := Elems.shape (OwKids.rd hd)
      have hFjn := nodup_at (i := j) hFn
      rw [hFj] at hFjn
      obtain ⟨na, nb', nc', hFcn, hFdn⟩ := nodup4 hFjn
      have e0 := own_cellAt hr hD hDl j 0 hjl (by omega)
      rw [hab] at e0
      simp only [List.getElem?_cons_zero, Nat.add_zero] at e0
      have f0 := hr.frozenAt (j * 5)
      have hst := hr.stored (j * 5) (.int .i64 q)
      rw [← flat_set Ds 5 (by omega) hD j (by omega)] at hst
      rw [hab, List.set_cons_zero] at hst
      obtain ⟨Es, hEs⟩ : ∃ Es, Es = Ds.set j [.int .i64 q, .slice pa x.name.length ca, .slice pb x.text.length cb, .slice pc x.attrs.length cc, .slice pd x.kids.length cd] := ⟨_, rfl⟩
      rw [← hEs] at hst
      have hEl : Es.length = l.length := by rw [hEs]; simpa using hDl
      have hEj : Es.getD j [] = [.int .i64 q, .slice pa x.name.length ca, .slice pb x.text.length cb, .slice pc x.attrs.length cc, .slice pd x.kids.length cd] := by rw [hEs]; simp [List.getD_eq_getElem?_getD, show j < Ds.length by omega]
      have hEo : ∀ i, i ≠ j → Es.getD i [] = Ds.getD i [] := fun i hi => by rw [hEs]; simp [List.getD_eq_getElem?_getD, Ne.symm hi]
      have hE : ∀ i, i < Es.length → (Es.getD i []).length = 5 := fun i hi => by
        by_cases e : i = j
        · rw [e, hEj]; rfl
        · rw [hEo i e]; exact hD i (by omega)
      obtain ⟨r1, hg1⟩ := hst
      have F1 : Frm wr (wr.setCell ⟨g, j * 5, none⟩ (.int .i64 q)) [g] := Frm.ofGrown hg1
      have c1 := own_cellAt r1 hE hEl j 1 hjl (by omega)
      rw [hEj] at c1
      simp only [List.getElem?_cons_zero, List.getElem?_cons_succ] at c1
      have HX := hide hx
      have HQ := hide hq
      have HT := hide hat
      have HCT := hide hct
      have HCS := hide hcs
      have HFJ := hide hFj
      have HDN := hide hdone
      have HTD := hide htodo
      have HEJ := hide hEj
      have hx1 : x.name.length ≤ 4194304 := by omega
      have hx2 : x.text.length ≤ 4194304 := by omega
      have hx3 : cntA x.attrs ≤ 4194304 := by omega
      have hx4 : cntL (cntT n) x.kids ≤ 4194304 := by omega
      have hxs : x.name.length + x.text.length + cntA x.attrs + cntL (cntT n) x.kids ≤ 4194304 := by omega
      have hjl' : (j : Int) < (l.length : Int) := by omega
      have hgj : ∀ p ∈ FB (.slice (some ⟨g, 0, none⟩) l.length cap), p ∉ Fs.getD j [] := fun p hp => by
        have : p = g := by simpa [FB, Value.ownBlock] using hp
        rw [this]; exact hgF j
      have hgn : g ∉ Fs.getD j [] := hgF j
      rw [unhide HFJ] at hgn hgj
      simp only [List.mem_append, not_or] at hgn hgj
      obtain ⟨⟨⟨hga, hgb⟩, hgc⟩, hgd⟩ := hgn
      have ha1 := ha.frm F1 (fun p hp hp' => by simp at hp'; subst hp'; exact hga hp)
      have hb1 := hb.frm F1 (fun p hp hp' => by simp at hp'; subst hp'; exact hgb hp)
      have hc1 := OwAttrs.frm hc F1 (fun p hp hp' => by simp at hp'; subst hp'; exact hgc hp)
      have hd1 := OwKids.frm hd F1 (fun p hp hp' => by simp at hp'; subst hp'; exact hgd hp)
      clear hx hq hat hct hcs hFj hdone htodo hcl hr hEj hEs hab ha hb hc hd hFjn
      go_wp2_with fail
      generalize wr.setCell ⟨g, j * 5, none⟩ (.int .i64 q) = w1 at *
      clear e0 f0 c1 hg1
      refine (markB_any w1 0 _ x.name (q + 1) ha1 (Nat.le_trans hx1 (by decide)) (by omega) (by omega)).mono ?_
      rintro e w2 ⟨rfl, ha2, hg2⟩
      have F2 := own_grown_frm hg2
      have r2 := ownsRow_frm r1 F2 (fun p hp hp' => (hgj p hp).1.1.1 hp')
      have hb2 := hb1.frm F2 (fun p hp hp' => (na p hp').1 hp)
      have hc2 := OwAttrs.frm hc1 F2 (fun p hp hp' => (na p hp').2.1 hp)
      have hd2 := OwKids.frm hd1 F2 (fun p hp hp' => (na p hp').2.2 hp)
      have c2 := own_cellAt r2 hE hEl j 2 hjl (by omega)
      rw [unhide HEJ] at c2
      simp only [List.getElem?_cons_zero, List.getElem?_cons_succ] at c2
      clear ha1 hb1 hc1 hd1 hg2
      go_wp2_with fail
      clear c2
      refine (markB_any w2 0 _ x.text (q + 1 + (x.name.length : Nat)) hb2 (Nat.le_trans hx2 (by decide)) (by omega) (by omega)).mono ?_
      rintro e w3 ⟨rfl, hb3, hg3⟩
      have F3 := own_grown_frm hg3
      have r3 := ownsRow_frm r2 F3 (fun p hp hp' => (hgj p hp).1.1.2 hp')
      have ha3 := ha2.frm F3 (fun p hp hp' => (na p hp).1 hp')
      have hc3 := OwAttrs.frm hc2 F3 (fun p hp hp' => (nb' p hp').1 hp)
      have hd3 := OwKids.frm hd2 F3 (fun p hp hp' => (nb' p hp').2 hp)
      have c3 := own_cellAt r3 hE hEl j 3 hjl (by omega)
      rw [unhide HEJ] at c3
      simp only [List.getElem?_cons_zero, List.getElem?_cons_succ] at c3
      clear ha2 hb2 hc2 hd2 hg3
      go_wp2_with fail
      clear c3
      refine (markA_any w3 _ x.attrs Fc (q + 1 + (x.name.length : Nat) + (x.text.length : Nat)) hc3 hFcn hx3 (by omega) (by omega)).mono ?_
      rintro e w4 ⟨rfl, hc4, F4⟩
      have r4 := ownsRow_frm r3 F4 (fun p hp hp' => (hgj p hp).1.2 hp')
      have ha4 := ha3.frm F4 (fun p hp hp' => (na p hp).2.1 hp')
      have hb4 := hb3.frm F4 (fun p hp hp' => (nb' p hp).1 hp')
      have hd4 := OwKids.frm hd3 F4 (fun p hp hp' => nc' p hp' hp)
      have c4 := own_cellAt r4 hE hEl j 4 hjl (by omega)
      rw [unhide HEJ] at c4
      simp only [List.getElem?_cons_zero, List.getElem?_cons_succ] at c4
      clear ha3 hb3 hc3 hd3
      go_wp2_with fail
      clear c4
      refine (H w4 _ x.kids Fd (q + 1 + (x.name.length : Nat) + (x.text.length : Nat) + (cntA x.attrs : Nat)) hd4 hFdn hx4 (by omega) (by omega)).mono ?_
      rintro e w5 ⟨rfl, hd5, F5⟩
      have r5 := ownsRow_frm r4 F5 (fun p hp hp' => (hgj p hp).2 hp')
      have ha5 := ha4.frm F5 (fun p hp hp' => (na p hp).2.2 hp')
      have hb5 := hb4.frm F5 (fun p hp hp' => (nb' p hp).2 hp')
      have hc5 := OwAttrs.frm hc4 F5 (fun p hp hp' => nc' p hp hp')
      have FJ : Frm wr w5 ([g] ++ Fs.getD j []) := by
        have m1 : ∀ p, p ∈ FB (Value.slice pa x.name.length ca) → p ∈ [g] ++ Fs.getD j [] := fun p hp => by rw [unhide HFJ]; simp [hp]
        have m2 : ∀ p, p ∈ FB (Value.slice pb x.text.length cb) → p ∈ [g] ++ Fs.getD j [] := fun p hp => by rw [unhide HFJ]; simp [hp]
        have m3 : ∀ p, p ∈ Fc → p ∈ [g] ++ Fs.getD j [] := fun p hp => by rw [unhide HFJ]; simp [hp]
        have m4 : ∀ p, p ∈ Fd → p ∈ [g] ++ Fs.getD j [] := fun p hp => by rw [unhide HFJ]; simp [hp]
        exact ((((F1.mono (fun p hp => List.mem_append_left _ hp)).trans (F2.mono m1)).trans (F3.mono m2)).trans (F4.mono m3)).trans (F5.mono m4)
      clear ha4 hb4 hc4 hd4 F1 F2 F3 F4 F5 r1 r2 r3 r4
      go_wp2_with fail
      go_roundw
      case rel =>
        refine ⟨j + 1, by omega, by go_num, ?_, Es, hEl, r5, fun i hi hij => ?_, fun i hi hij => ?_, hf.trans (FJ.mono (fun p hp => ?_))⟩
        · rw [unhide HCT, unhide HCS, unhide HQ]; go_num
        · by_cases e : i = j
          · subst e
            rw [unhide HT, unhide HEJ]
            have hl2 : (mkK n x.kids (q + 1 + (x.name.length : Nat) + (x.text.length : Nat) + (cntA x.attrs : Nat))).length = x.kids.length := mkK_len _ _ _
            exact ⟨_, _, _, _, Fc, Fd, rfl, by show (-9223372036854775808 : Int) ≤ q; omega, by show q ≤ (9223372036854775807 : Int); omega, ha5, hb5, hc5, hd5, unhide HFJ⟩
          · rw [hEo i e]
            exact (unhide HDN i hi (by omega)).frm FJ (fun p hp hp' => by
              rcases List.mem_append.1 hp' with h | h
              · simp at h; subst h; exact hgF i hp
              · exact nodup_flat hFn e p hp h)
        · rw [hEo i (by omega)]
          exact (unhide HTD i hi (by omega)).frm FJ (fun p hp hp' => by
            rcases List.mem_append.1 hp' with h | h
            · simp at h; subst h; exact hgF i hp
            · exact nodup_flat hFn (by omega) p hp h)
        · rcases List.mem_append.1 hp with h | h
          · exact List.mem_append_left _ h
          · exact List.mem_append_right _ (mem_flat h)
      case measure => simp [intOf]; omega
    · have e : j = l.length := by omega
      subst e
      have HW := hide (show OwKids (n + 1) wr (.slice (some ⟨g, 0, none⟩) l.length cap) (mkK (n + 1) l k) ([g] ++ Fs.flatten) from
        ⟨Ds, Fs, by rw [mkK_len]; exact hDl, by rw [mkK_len]; exact hFl, fun i hi => ⟨hD i (by rw [mkK_len] at hi; omega), hdone i hi (by rw [mkK_len] at hi; exact hi)⟩, by rw [mkK_len]; exact hr, rfl⟩)
      clear hdone htodo hr hD
      go_wp2_with fail
      go_ret
      exact ⟨by first | rfl | (rw [List.take_length]; rfl), unhide HW, hf⟩
theorem markK_any (n : Nat) : MarkKSaid n := by
  induction n with
  | zero =>
    intro w v l F k h hF _ _ _
    cases l with
    | nil => exact markK_empty 0 w v F k h
    | cons x r => exact x.elim
  | succ n ih => exact markK_succ n ih
end Go.Proofs.YthgopknjppflhaaGreatDoor

/- markNode, by its contract. -/
namespace Go.Proofs.YthgopknjppflhaaGreatDoor
open Go.RowKit
set_option linter.unusedVariables false
set_option maxRecDepth 100000

/-- What is owned lies below the heap's end. -/
theorem OwElems.lt {α : Type} {w : World} {e : TypeId} {size : Nat} {v : Value} {l : List α} {R : List Value → α → List Nat → Prop} {F : List Nat} (h : OwElems w e size v l R F) (hR : ∀ C x G, R C x G → ∀ g ∈ G, g < w.heap.size) : ∀ g ∈ F, g < w.heap.size := by
  obtain ⟨Cs, Fs, h1, h2, h3, h4, rfl⟩ := h
  intro g hg
  rcases List.mem_append.1 hg with h | h
  · exact (h4.lt g (by simpa [FB] using h)).2
  · obtain ⟨G, hG, hgG⟩ := List.mem_flatten.1 h
    obtain ⟨i, hi, rfl⟩ := List.getElem_of_mem hG
    have := (h3 i (by omega)).2
    rw [show Fs.getD i [] = Fs[i] by simp [hi]] at this
    exact hR _ _ _ this g hgG
theorem OwAttr.lt {w : World} {C : List Value} {x : List Int × List Int} {G : List Nat} (h : OwAttr w C x G) : ∀ g ∈ G, g < w.heap.size := by
  obtain ⟨a, b, _, h1, h2, rfl⟩ := h
  intro g hg
  rcases List.mem_append.1 hg with h | h
  · exact (h1.lt g (by simpa [FB] using h)).2
  · exact (h2.lt g (by simpa [FB] using h)).2
theorem OwAttrs.lt {w : World} {v : Value} {l : List (List Int × List Int)} {F : List Nat} (h : OwAttrs w v l F) : ∀ g ∈ F, g < w.heap.size := OwElems.lt h (fun _ _ _ hr => hr.lt)
theorem OwNode.lt : ∀ {n : Nat} {w : World} {C : List Value} {t : Tr n} {F : List Nat}, OwNode n w C t F → ∀ g ∈ F, g < w.heap.size
  | 0, _, _, t, _, _ => t.elim
  | n + 1, w, C, t, F, ⟨a, b, c, d, Fc, Fd, _, _, _, ha, hb, hc, hd, hF⟩ => by
    subst hF
    intro g hg
    rcases List.mem_append.1 hg with h | h
    · rcases List.mem_append.1 h with h | h
      · rcases List.mem_append.1 h with h | h
        · exact (ha.lt g (by simpa [FB] using h)).2
        · exact (hb.lt g (by simpa [FB] using h)).2
      · exact hc.lt g h
    · exact OwElems.lt hd (fun _ _ _ hr => OwNode.lt hr) g h

set_option maxHeartbeats 3200000 in
/-- markNode. -/
theorem markN_any (n : Nat) (w : World) (a0 a b c d : Value) (t : Tr (n + 1)) (F : List Nat) (k : Int) (h : OwNode (n + 1) w [a0, a, b, c, d] t F) (hF : F.Nodup) (hs : cntT (n + 1) t ≤ 4194304) (h0 : 0 ≤ k) (h1 : k + (cntT (n + 1) t : Nat) ≤ 800000000) :
    Calls Tryz.prog 11 #[.agg #[a0, a, b, c, d], .int .i64 k] w fun e w' => e = .returned (.int .i64 (k + (cntT (n + 1) t : Nat))) ∧ OwNode (n + 1) w' [a0, a, b, c, d] (mkT' (n + 1) t k) F ∧ Frm w w' F := by
  obtain ⟨_, _, _, _, Fc, Fd, e0, hk1, hk2, ha, hb, hc, hd, rfl⟩ := h
  simp only [List.cons.injEq, and_true] at e0
  obtain ⟨rfl, rfl, rfl, rfl, rfl⟩ := e0
  have hcs := cntT_succ n t
  rw [hcs] at hs h1 ⊢
  obtain ⟨na, nb', nc', hFcn, hFdn⟩ := nodup4 hF
  obtain ⟨pa, ca, rfl, _, _⟩ := ha.byt.shape
  obtain ⟨pb, cb, rfl, _, _⟩ := hb.byt.shape
  obtain ⟨pc, cc, rfl, _, _⟩ := Elems.shape (OwAttrs.rd hc)
  obtain ⟨pd, cd, rfl, _, _⟩ := Elems.shape (OwKids.rd hd)
  have hB1 : Below w.heap.size w (w.alloc (.cells #[.int .i64 t.kind, .slice pa t.name.length ca, .slice pb t.text.length cb, .slice pc t.attrs.length cc, .slice pd t.kids.length cd] 30)) := (Below.refl _ _).alloc (Nat.le_refl _) _
  have l1 := Loc.made w #[.int .i64 t.kind, .slice pa t.name.length ca, .slice pb t.text.length cb, .slice pc t.attrs.length cc, .slice pd t.kids.length cd] 30
  have F1 := fun S => Frm.ofBelow hB1 S
  have ha1 := ha.keep hB1
  have hb1 := hb.keep hB1
  have hc1 := OwAttrs.frm hc (F1 []) (fun _ _ => by simp)
  have hd1 := OwKids.frm hd (F1 []) (fun _ _ => by simp)
  have hqa : ∀ p ∈ FB (.slice pa t.name.length ca), p < w.heap.size := fun p hp => (ha.lt p (by simpa [FB] using hp)).2
  have hqb : ∀ p ∈ FB (.slice pb t.text.length cb), p < w.heap.size := fun p hp => (hb.lt p (by simpa [FB] using hp)).2
  have hx1 : t.name.length ≤ 4194304 := by omega
  have hx2 : t.text.length ≤ 4194304 := by omega
  have hx3 : cntA t.attrs ≤ 4194304 := by omega
  have hx4 : cntL (cntT n) t.kids ≤ 4194304 := by omega
  have hqc := hc.lt
  clear ha hb hc hd hF hcs
  go_enter Tryz.func11, Tryz.ntmps11
  go_wp2_with fail
  generalize (w.alloc (.cells #[.int .i64 t.kind, .slice pa t.name.length ca, .slice pb t.text.length cb, .slice pc t.attrs.length cc, .slice pd t.kids.length cd] 30)) = w1 at *
  refine (markB_any w1 0 _ t.name k ha1 (Nat.le_trans hx1 (by decide)) h0 (by omega)).mono ?_
  rintro e w2 ⟨rfl, ha2, hg2⟩
  have F2 := own_grown_frm hg2
  have l2 := l1.frm F2 (fun hp => by have := hqa _ hp; omega)
  have hb2 := hb1.frm F2 (fun p hp hp' => (na p hp').1 hp)
  have hc2 := OwAttrs.frm hc1 F2 (fun p hp hp' => (na p hp').2.1 hp)
  have hd2 := OwKids.frm hd1 F2 (fun p hp hp' => (na p hp').2.2 hp)
  obtain ⟨x0, x1, x2, x3, x4⟩ := l2.five
  go_wp2_with fail
  refine (markB_any w2 0 _ t.text (k + (t.name.length : Nat)) hb2 (Nat.le_trans hx2 (by decide)) (by omega) (by omega)).mono ?_
  rintro e w3 ⟨rfl, hb3, hg3⟩
  have F3 := own_grown_frm hg3
  have l3 := l2.frm F3 (fun hp => by have := hqb _ hp; omega)
  have ha3 := ha2.frm F3 (fun p hp hp' => (na p hp).1 hp')
  have hc3 := OwAttrs.frm hc2 F3 (fun p hp hp' => (nb' p hp').1 hp)
  have hd3 := OwKids.frm hd2 F3 (fun p hp hp' => (nb' p hp').2 hp)
  clear x0 x1 x2 x3 x4
  obtain ⟨x0, x1, x2, x3, x4⟩ := l3.five
  go_wp2_with fail
  refine (markA_any w3 _ t.attrs Fc (k + (t.name.length : Nat) + (t.text.length : Nat)) hc3 hFcn hx3 (by omega) (by omega)).mono ?_
  rintro e w4 ⟨rfl, hc4, F4⟩
  have l4 := l3.frm F4 (fun hp => by have := hqc _ hp; omega)
  have ha4 := ha3.frm F4 (fun p hp hp' => (na p hp).2.1 hp')
  have hb4 := hb3.frm F4 (fun p hp hp' => (nb' p hp).1 hp')
  have hd4 := OwKids.frm hd3 F4 (fun p hp hp' => nc' p hp' hp)
  clear x0 x1 x2 x3 x4
  obtain ⟨x0, x1, x2, x3, x4⟩ := l4.five
  go_wp2_with fail
  refine (markK_any n w4 _ t.kids Fd (k + (t.name.length : Nat) + (t.text.length : Nat) + (cntA t.attrs : Nat)) hd4 hFdn hx4 (by omega) (by omega)).mono ?_
  rintro e w5 ⟨rfl, hd5, F5⟩
  have ha5 := ha4.frm F5 (fun p hp hp' => (na p hp).2.2 hp')
  have hb5 := hb4.frm F5 (fun p hp hp' => (nb' p hp).2 hp')
  have hc5 := OwAttrs.frm hc4 F5 (fun p hp hp' => nc' p hp hp')
  go_wp2_with fail
  go_ret
  refine ⟨?_, ⟨_, _, _, _, Fc, Fd, rfl, hk1, hk2, ha5, hb5, hc5, hd5, rfl⟩, ?_⟩
  · refine ret_i64 ?_; omega
  · exact ((((F1 _).trans (F2.mono (fun p hp => by simp [hp]))).trans (F3.mono (fun p hp => by simp [hp]))).trans (F4.mono (fun p hp => by simp [hp]))).trans (F5.mono (fun p hp => by simp [hp]))
end Go.Proofs.YthgopknjppflhaaGreatDoor

/- A loop over a function, in our own words: what the caller owes where its rounds may make maps, box what they are handed, and return; the function that is ranged over by what it hands on, one by one. No program. -/
namespace Go.Proofs.YthgopknjppflhaaGreatDoor
open Go.RowKit Go.Shelf
set_option linter.unusedVariables false

variable {P : Program}

end Go.Proofs.YthgopknjppflhaaGreatDoor

/- impl.isSmall, impl.isDigit, impl.NameOk and impl.textOk answer what the plain tests say. -/
namespace Go.Proofs.YthgopknjppflhaaGreatDoor
open Go.RowKit
set_option linter.unusedVariables false

def smallB (x : Int) : Bool := decide (97 ≤ x ∧ x ≤ 122)
def digB (x : Int) : Bool := decide (48 ≤ x ∧ x ≤ 57)
theorem smallB_yes {x : Int} (h : 97 ≤ x ∧ x ≤ 122) : smallB x = true := by unfold smallB; simpa using h
theorem smallB_no {x : Int} (h : ¬ (97 ≤ x ∧ x ≤ 122)) : smallB x = false := by unfold smallB; simpa using h
theorem digB_yes {x : Int} (h : 48 ≤ x ∧ x ≤ 57) : digB x = true := by unfold digB; simpa using h
theorem digB_no {x : Int} (h : ¬ (48 ≤ x ∧ x ≤ 57)) : digB x = false := by unfold digB; simpa using h

theorem small_any (x : Int) (w : World) : Calls Tryz.prog 88 #[.int .u8 x] w fun e w' => e = .returned (.bool (smallB x)) ∧ w' = w := by
  by_cases h1 : 97 ≤ x
  · by_cases h2 : x ≤ 122
    · have HD := hide (smallB_yes ⟨h1, h2⟩)
      go_enter Tryz.func88, Tryz.ntmps88
      go_wp2
      go_ret
      exact ⟨by rw [unhide HD]; rfl, rfl⟩
    · have HD := hide (smallB_no (x := x) (by omega))
      go_enter Tryz.func88, Tryz.ntmps88
      go_wp2
      go_ret
      exact ⟨by rw [unhide HD]; rfl, rfl⟩
  · have HD := hide (smallB_no (x := x) (by omega))
    have d1 : decide (97 ≤ x) = false := by simpa using h1
    go_enter Tryz.func88, Tryz.ntmps88
    go_wp2
    go_ret
    exact ⟨by rw [unhide HD]; rfl, rfl⟩
theorem dig_any (x : Int) (w : World) : Calls Tryz.prog 89 #[.int .u8 x] w fun e w' => e = .returned (.bool (digB x)) ∧ w' = w := by
  by_cases h1 : 48 ≤ x
  · by_cases h2 : x ≤ 57
    · have HD := hide (digB_yes ⟨h1, h2⟩)
      go_enter Tryz.func89, Tryz.ntmps89
      go_wp2
      go_ret
      exact ⟨by rw [unhide HD]; rfl, rfl⟩
    · have HD := hide (digB_no (x := x) (by omega))
      go_enter Tryz.func89, Tryz.ntmps89
      go_wp2
      go_ret
      exact ⟨by rw [unhide HD]; rfl, rfl⟩
  · have HD := hide (digB_no (x := x) (by omega))
    have d1 : decide (48 ≤ x) = false := by simpa using h1
    go_enter Tryz.func89, Tryz.ntmps89
    go_wp2
    go_ret
    exact ⟨by rw [unhide HD]; rfl, rfl⟩

def standB (x : Int) : Bool := decide (32 ≤ x ∧ x ≤ 126)
theorem standB_yes {x : Int} (h : 32 ≤ x ∧ x ≤ 126) : standB x = true := by unfold standB; simpa using h
theorem standB_no {x : Int} (h : ¬ (32 ≤ x ∧ x ≤ 126)) : standB x = false := by unfold standB; simpa using h
theorem stand_any (x : Int) (w : World) : Calls Tryz.prog 93 #[.int .u8 x] w fun e w' => e = .returned (.bool (standB x)) ∧ w' = w := by
  by_cases h1 : 32 ≤ x
  · by_cases h2 : x ≤ 126
    · have HD := hide (standB_yes ⟨h1, h2⟩)
      go_enter Tryz.func93, Tryz.ntmps93
      go_wp2
      go_ret
      exact ⟨by rw [unhide HD]; rfl, rfl⟩
    · have HD := hide (standB_no (x := x) (by omega))
      go_enter Tryz.func93, Tryz.ntmps93
      go_wp2
      go_ret
      exact ⟨by rw [unhide HD]; rfl, rfl⟩
  · have HD := hide (standB_no (x := x) (by omega))
    have d1 : decide (32 ≤ x) = false := by simpa using h1
    go_enter Tryz.func93, Tryz.ntmps93
    go_wp2
    go_ret
    exact ⟨by rw [unhide HD]; rfl, rfl⟩

theorem nameI_short (w : World) (a : Option Addr) (n cap : Nat) (h : n < 1 ∨ 8 < n) :
    Calls Tryz.prog 72 #[.slice a n cap] w fun e w' => e = .returned (.bool false) ∧ w' = w := by
  by_cases h1 : n < 1
  · have h1' : (n : Int) < 1 := by omega
    go_enter Tryz.func72, Tryz.ntmps72
    go_wp2_with fail
    go_ret
    exact ⟨rfl, rfl⟩
  · have h1' : decide ((n : Int) < 1) = false := by simp; omega
    have h2 : (8 : Int) < (n : Int) := by omega
    go_enter Tryz.func72, Tryz.ntmps72
    go_wp2_with fail
    go_ret
    exact ⟨rfl, rfl⟩

open Classical in
set_option maxHeartbeats 1600000 in
theorem nameI_row (w : World) (b off cap : Nat) (l : List Int) (hok : okB l) (h1 : 1 ≤ l.length) (h8 : l.length ≤ 8)
    (hc : ∀ i, i < l.length → w.cell? ⟨b, off + i, none⟩ = some (.int .u8 (l.getD i 0))) :
    Calls Tryz.prog 72 #[.slice (some ⟨b, off, none⟩) l.length cap] w fun e w' => e = .returned (.bool (decide (NameOk l))) ∧ w' = w := by
  have d1 : decide ((l.length : Int) < 1) = false := by simp; omega
  have d2 : decide ((8 : Int) < (l.length : Int)) = false := by simp; omega
  have hl0 : (0 : Int) < (l.length : Int) := by omega
  obtain ⟨y, hy⟩ : ∃ y, y = l.getD 0 0 := ⟨_, rfl⟩
  have hcy : w.cell? ⟨b, off, none⟩ = some (.int .u8 y) := by rw [hy]; exact hc 0 (by omega)
  have HY := hide hy
  clear hy
  by_cases hs : 97 ≤ y ∧ y ≤ 122
  · have sy := smallB_yes hs
    go_enter Tryz.func72, Tryz.ntmps72
    go_wp2_with (go_at_call 88; refine (small_any y w).mono ?_; rintro e w' ⟨rfl, rfl⟩)
    go_loop [22] (fun i => ∃ k : Nat, k ≤ l.length ∧ i = .int .i64 k ∧ allTo nameCh l k) (fun i => l.length - (intOf i).toNat)
    case atStart => exact ⟨0, Nat.zero_le _, rfl, fun i hi => by omega⟩
    case round =>
      obtain ⟨k, hk, rfl, ha⟩ := hrel
      have HA := hide ha
      clear ha
      by_cases hlt : k < l.length
      · obtain ⟨x, hx⟩ : ∃ x, x = l.getD k 0 := ⟨_, rfl⟩
        have hcx : w'.cell? ⟨b, off + k, none⟩ = some (.int .u8 x) := by rw [hx]; exact hc _ hlt
        have HX := hide hx
        have hlt' : (k : Int) < (l.length : Int) := by omega
        clear hc hcy sy hx
        by_cases hn : 97 ≤ x ∧ x ≤ 122
        · have HN := hide (show nameCh k x from .inl hn)
          have sx := smallB_yes hn
          clear hn
          go_wp2_with (go_at_call 88; refine (small_any x _).mono ?_; rintro e w' ⟨rfl, rfl⟩)
          go_round
          case rel => exact ⟨k + 1, by omega, by go_num, allTo_step (unhide HA) (by rw [← unhide HX]; exact unhide HN)⟩
          case measure => simp [intOf]; omega
        · have sx := smallB_no hn
          by_cases hd : 48 ≤ x ∧ x ≤ 57
          · have hk0 : 0 < k := by
              by_cases e : k = 0
              · subst e; exact absurd hs (by rw [unhide HY, ← unhide HX]; exact hn)
              · omega
            have HN := hide (show nameCh k x from .inr ⟨hk0, hd⟩)
            have sd := digB_yes hd
            clear hn hd
            go_wp2_with (first | (go_at_call 88; refine (small_any x _).mono ?_; rintro e w' ⟨rfl, rfl⟩) | (go_at_call 89; refine (dig_any x _).mono ?_; rintro e w' ⟨rfl, rfl⟩))
            go_round
            case rel => exact ⟨k + 1, by omega, by go_num, allTo_step (unhide HA) (by rw [← unhide HX]; exact unhide HN)⟩
            case measure => simp [intOf]; omega
          · have sd := digB_no hd
            have HF := hide (show decide (NameOk l) = false by
              simp only [decide_eq_false_iff_not]
              rintro ⟨_, _, h⟩
              have := h k hlt
              rw [← unhide HX] at this
              rcases this with h | ⟨_, h⟩
              · exact hn h
              · exact hd h)
            clear hn hd
            go_wp2_with (first | (go_at_call 88; refine (small_any x _).mono ?_; rintro e w' ⟨rfl, rfl⟩) | (go_at_call 89; refine (dig_any x _).mono ?_; rintro e w' ⟨rfl, rfl⟩))
            go_ret
            exact ⟨by rw [unhide HF]; rfl, rfl⟩
      · have e : k = l.length := by omega
        subst e
        have HF := hide (show decide (NameOk l) = true by simp only [decide_eq_true_eq]; exact ⟨h1, h8, unhide HA⟩)
        clear hc
        go_wp2_with fail
        go_ret
        exact ⟨by rw [unhide HF]; rfl, rfl⟩
  · have sy := smallB_no hs
    have HF := hide (show decide (NameOk l) = false by
      simp only [decide_eq_false_iff_not]
      rintro ⟨_, _, h⟩
      have := h 0 (by omega)
      rw [← unhide HY] at this
      rcases this with h | ⟨h, _⟩
      · exact hs h
      · omega)
    clear hc hs
    go_enter Tryz.func72, Tryz.ntmps72
    go_wp2_with (go_at_call 88; refine (small_any y w).mono ?_; rintro e w' ⟨rfl, rfl⟩)
    go_ret
    exact ⟨by rw [unhide HF]; rfl, rfl⟩

open Classical in
theorem nameI_any (w : World) (v : Value) (l : List Int) (h : Byt w v l) :
    Calls Tryz.prog 72 #[v] w fun e w' => e = .returned (.bool (decide (NameOk l))) ∧ w' = w := by
  by_cases hl : l.length < 1 ∨ 8 < l.length
  · obtain ⟨a, cap, rfl, _⟩ := h.shape
    have hd : decide (NameOk l) = false := by simp only [decide_eq_false_iff_not]; rintro ⟨_, _, _⟩; omega
    rw [hd]
    exact nameI_short w a _ cap hl
  · obtain ⟨hok, hm, ⟨rfl, rfl⟩ | ⟨x, cap, rfl, hc, rfl⟩ | ⟨b, off, cap, rfl, _, _, _, _, h5⟩⟩ := h
    · simp at hl
    · simp at hl
    · exact nameI_row w b off cap l hok (by omega) (by omega) h5

open Classical in
set_option maxHeartbeats 1600000 in
theorem textI_any (w : World) (v : Value) (l : List Int) (h : Byt w v l) :
    Calls Tryz.prog 75 #[v] w fun e w' => e = .returned (.bool (decide (TextOk l))) ∧ w' = w := by
  by_cases hl : 30 < l.length
  · obtain ⟨a, cap, rfl, _⟩ := h.shape
    have HD := hide (show decide (TextOk l) = false by simp only [decide_eq_false_iff_not]; rintro ⟨_, _⟩; omega)
    have d2 : (30 : Int) < (l.length : Int) := by omega
    go_enter Tryz.func75, Tryz.ntmps75
    go_wp2
    go_ret
    exact ⟨by rw [unhide HD]; rfl, rfl⟩
  have d2 : ¬ (30 : Int) < (l.length : Int) := by omega
  by_cases h0 : l = []
  · obtain ⟨a, cap, rfl, _⟩ := h.shape
    subst h0
    have HD := hide (show decide (TextOk []) = true by simp only [decide_eq_true_eq]; exact ⟨by simp, fun i hi => by simp at hi⟩)
    go_enter Tryz.func75, Tryz.ntmps75
    go_wp2
    refine wp_loop_rounds 1 ?_
    rw [rounds_succ]
    go_wp2
    go_ret
    exact ⟨by rw [unhide HD]; rfl, rfl⟩
  obtain ⟨hok, hm, ⟨_, e⟩ | ⟨_, _, _, _, e⟩ | ⟨b, off, cap, rfl, _, _, _, _, hc⟩⟩ := h
  · exact absurd e h0
  · exact absurd e h0
  go_enter Tryz.func75, Tryz.ntmps75
  go_wp2
  go_loop [10] (fun i => ∃ k : Nat, k ≤ l.length ∧ i = .int .i64 k ∧ allTo textCh l k) (fun i => l.length - (intOf i).toNat)
  case atStart => exact ⟨0, Nat.zero_le _, rfl, fun i hi => by omega⟩
  case round =>
    obtain ⟨k, hk, rfl, ha⟩ := hrel
    have HA := hide ha
    clear ha
    by_cases hlt : k < l.length
    · obtain ⟨x, hx⟩ : ∃ x, x = l.getD k 0 := ⟨_, rfl⟩
      have hcx : w.cell? ⟨b, off + k, none⟩ = some (.int .u8 x) := by rw [hx]; exact hc _ hlt
      have HX := hide hx
      have hlt' : (k : Int) < (l.length : Int) := by omega
      clear hc hx
      by_cases hn : textCh k x
      · have HN := hide hn
        have sx := standB_yes (x := x) (by unfold textCh at hn; omega)
        clear hn
        go_wp2_with (go_at_call 93; refine (stand_any x _).mono ?_; rintro e w' ⟨rfl, rfl⟩)
        go_round
        case rel => exact ⟨k + 1, by omega, by go_num, allTo_step (unhide HA) (by rw [← unhide HX]; exact unhide HN)⟩
        case measure => simp [intOf]; omega
      · have HF := hide (show decide (TextOk l) = false by
          simp only [decide_eq_false_iff_not]
          rintro ⟨_, h⟩
          exact hn (by rw [unhide HX]; exact h k hlt))
        have sx := standB_no (x := x) (by unfold textCh at hn; omega)
        clear hn
        go_wp2_with (go_at_call 93; refine (stand_any x _).mono ?_; rintro e w' ⟨rfl, rfl⟩)
        go_ret
        exact ⟨by rw [unhide HF]; rfl, rfl⟩
    · have e : k = l.length := by omega
      subst e
      have HF := hide (show decide (TextOk l) = true by simp only [decide_eq_true_eq]; exact ⟨by omega, unhide HA⟩)
      clear hc
      go_wp2
      go_ret
      exact ⟨by rw [unhide HF]; rfl, rfl⟩

end Go.Proofs.YthgopknjppflhaaGreatDoor
