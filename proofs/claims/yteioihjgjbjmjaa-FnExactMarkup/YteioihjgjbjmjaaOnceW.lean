/- The set of void names within the writer: sync.Once over it, and the set asked. -/
import Derived.Test.YteioihjgjbjmjaaHasI
namespace Go.Proofs.Yteioihjgjbjmjaa
open Go.RowKit
set_option linter.unusedVariables false
set_option maxRecDepth 100000

/-- The writer's block: out, and the set that is not yet made; that is made. -/
def ws0 (o : Value) : Array Value := #[o, .int .u32 0, .int .i32 0, .int .u32 0, .map none]
def ws1 (o : Value) (m : Nat) : Array Value := #[o, .int .u32 1, .int .i32 0, .int .u32 0, .map (some m)]
def WMade (B : Nat) (o : Value) (w : World) (g : Nat) : Prop := ∃ m, B ≤ m ∧ Loc w g (ws1 o m) 81 ∧ w.heap[m]? = some voidMap
def WSet (B : Nat) (o : Value) (w : World) (g : Nat) : Prop := Loc w g (ws0 o) 81 ∨ WMade B o w g

theorem fillW_any (o : Value) (g : Nat) (w : World) (cs : Array Value) (hl : Loc w g cs 81) (c3 : Value) (h3 : w.cell? ⟨g, 4, none⟩ = some c3) :
    Calls Try.prog 74 #[.pointer (some ⟨g, 1, none⟩)] w fun e w' => e = .returned (.tuple #[]) ∧ w' = (w.setCell ⟨g, 4, none⟩ (.map (some w.heap.size))).alloc voidMap := by
  have hmm := @run_makeMap Try.prog
  have h1 := br_in w
  have h2 := hr_in w
  have hg := hl.lt
  have f3 := hl.frozen 4
  go_enter Try.func74, Try.ntmps74
  go_wp2
  go_end0
  exact ⟨rfl, rfl⟩

set_option maxHeartbeats 1600000 in
theorem slowW_any (o : Value) (g : Nat) (w : World) (hl : Loc w g (ws0 o) 81) :
    Calls Try.prog 79 #[.pointer (some ⟨g, 1, none⟩), .func (.func 74) #[.pointer (some ⟨g, 1, none⟩)] #[]] w fun e w' => e = .returned (.tuple #[]) ∧ ∃ m, w.heap.size ≤ m ∧ Loc w' g (ws1 o m) 81 ∧ w'.heap[m]? = some voidMap ∧ Frm w w' [g] := by
  have h1 : w.cell? ⟨g, 2, none⟩ = some (.int .i32 0) := hl.cell 2
  have f1 := hl.frozen 2
  have l1 : Loc (w.setCell ⟨g, 2, none⟩ (.int .i32 1)) g #[o, .int .u32 0, .int .i32 1, .int .u32 0, .map none] 81 := hl.set 2 (.int .i32 1)
  have F1 := Frm.set w g 2 (.int .i32 1)
  have hnot : ∀ (x : Bool) (w : World), (Op.unary .not (.bool x)).run Try.prog w = .ok (.bool (!x)) w := fun _ _ => rfl
  go_enter_defers Try.func79, Try.ntmps79
  go_wp2_with (go_at_call 82; refine (lock_free ⟨g, 2, none⟩ _ (by go_simp) (by go_simp)).mono ?_; rintro e w' ⟨rfl, rfl⟩)
  generalize w.setCell ⟨g, 2, none⟩ (.int .i32 1) = w1 at *
  refine (load_any ⟨g, 1, none⟩ 0 w1 (l1.cell 1) false (by simp)).mono ?_
  rintro e w1 ⟨rfl, rfl⟩
  go_wp2_with fail
  refine (fillW_any o g w1 _ l1 _ (l1.cell 4)).mono ?_
  rintro e w2 ⟨rfl, hw2⟩
  have l2 : Loc w2 g #[o, .int .u32 0, .int .i32 1, .int .u32 0, .map (some w1.heap.size)] 81 := by rw [hw2]; exact (l1.set 4 (.map (some w1.heap.size))).alloc _
  have m2 : w2.heap[w1.heap.size]? = some voidMap := by rw [hw2]; have := heap_alloc_new (w1.setCell ⟨g, 4, none⟩ (.map (some w1.heap.size))) voidMap; rwa [show (w1.setCell ⟨g, 4, none⟩ (.map (some w1.heap.size))).heap.size = w1.heap.size by simp] at this
  have F2 : Frm w1 w2 [g] := by rw [hw2]; exact (Frm.set w1 g 4 _).trans (Frm.alloc _ _ _)
  have hne : w1.heap.size ≠ g := by have := l1.lt; omega
  have F12 := F1.trans F2
  have hmm := F1.size
  clear hw2
  generalize w1.heap.size = m at *
  go_wp2_with fail
  refine leaves_cons (f := 84) (args := #[.pointer (some ⟨g, 1, none⟩), .bool true]) (by simp) (by simp [go_sem]) ?_
  refine (store_deferred ⟨g, 1, none⟩ (.int .u32 0) .returning _ (l2.cell 1) (l2.frozen 1)).mono ?_
  rintro e u' w3 ⟨rfl, rfl, hw3⟩
  have ld : Loc w2.drew g #[o, .int .u32 0, .int .i32 1, .int .u32 0, .map (some m)] 81 := l2.frm (Frm.drew w2 []) (by simp)
  have l3 : Loc w3 g #[o, .int .u32 1, .int .i32 1, .int .u32 0, .map (some m)] 81 := by rw [hw3]; exact ld.set 1 (.int .u32 1)
  have F3 : Frm w2 w3 [g] := by rw [hw3]; exact (Frm.drew w2 _).trans (Frm.set _ g 1 _)
  clear hw3
  refine leaves_cons (f := 83) (args := #[.pointer (some ⟨g, 2, none⟩)]) (by simp [settle]) (by simp [go_sem]) ?_
  refine (unlock_deferred ⟨g, 2, none⟩ _ _ (l3.cell 2) (l3.frozen 2)).mono ?_
  rintro e u' w4 ⟨rfl, rfl, hw4⟩
  have l4 : Loc w4 g (ws1 o m) 81 := by rw [hw4]; exact l3.set 2 (.int .i32 0)
  have F4 : Frm w3 w4 [g] := by rw [hw4]; exact Frm.set _ g 2 _
  have hm : m < w2.heap.size := by
    by_cases h : m < w2.heap.size
    · exact h
    · rw [Array.getElem?_eq_none (by omega)] at m2; cases m2
  have F34 := F3.trans F4
  have m4 : w4.heap[m]? = some voidMap := (F34.block m hm (by simpa using hne)).trans m2
  simp [Leaves, settle, results, Try.results79]
  exact ⟨m, hmm, l4, m4, F12.trans F34⟩
theorem doW_any (B : Nat) (o : Value) (g : Nat) (w : World) (h : WSet B o w g) (hB : B ≤ w.heap.size) :
    Calls Try.prog 73 #[.pointer (some ⟨g, 1, none⟩), .func (.func 74) #[.pointer (some ⟨g, 1, none⟩)] #[]] w fun e w' => e = .returned (.tuple #[]) ∧ WMade B o w' g ∧ Frm w w' [g] := by
  have hnot : ∀ (x : Bool) (w : World), (Op.unary .not (.bool x)).run Try.prog w = .ok (.bool (!x)) w := fun _ _ => rfl
  rcases h with hl | ⟨m, hbm, hl, hm⟩
  · have h0 : w.cell? ⟨g, 1, none⟩ = some (.int .u32 0) := hl.cell 1
    go_enter Try.func73, Try.ntmps73
    go_wp2_with fail
    refine (load_any ⟨g, 1, none⟩ 0 w h0 false (by simp)).mono ?_
    rintro e w ⟨rfl, rfl⟩
    go_wp2_with fail
    refine (slowW_any o g w hl).mono ?_
    rintro e w' ⟨rfl, m, hbm, l', m', F'⟩
    go_wp2_with fail
    go_end0
    exact ⟨rfl, ⟨m, Nat.le_trans hB hbm, l', m'⟩, F'⟩
  · have h0 : w.cell? ⟨g, 1, none⟩ = some (.int .u32 1) := hl.cell 1
    go_enter Try.func73, Try.ntmps73
    go_wp2_with fail
    refine (load_any ⟨g, 1, none⟩ 1 w h0 true (by simp)).mono ?_
    rintro e w ⟨rfl, rfl⟩
    go_wp2_with fail
    go_end0
    exact ⟨rfl, ⟨m, hbm, hl, hm⟩, Frm.refl _ _⟩

open Classical in
set_option maxHeartbeats 1600000 in
theorem hasW_any (B : Nat) (o : Value) (g : Nat) (w : World) (v : Value) (l : List Int) (h : WSet B o w g) (hBB : B ≤ w.heap.size) (hv : ∀ w', Frm w w' [g] → Byt w' v l) :
    Calls Try.prog 56 #[.pointer (some ⟨g, 1, none⟩), v] w fun e w' => e = .returned (.bool (decide (Void l))) ∧ WMade B o w' g ∧ Frm w w' [g] := by
  have hmf : ∀ (fn : Fn) (first cap : Array Value) (w : World), (Instr.makeFunc fn first cap).run Try.prog w = .ok (.func fn first cap) w := fun _ _ _ _ => rfl
  have hg : g < w.heap.size := by
    rcases h with h | ⟨m, _, h, _⟩
    · exact h.lt
    · exact h.lt
  obtain ⟨a1, k1, rfl, _⟩ := (hv w (Frm.refl _ _)).shape
  have HV := hide hv
  clear hv
  go_enter Try.func56, Try.ntmps56
  go_wp2_with fail
  refine (doW_any B o g w h hBB).mono ?_
  rintro e w1 ⟨rfl, ⟨m, hbm, l1, m1⟩, F1⟩
  have h3 : w1.cell? ⟨g, 4, none⟩ = some (.map (some m)) := l1.cell 4
  have h3d : w1.drew.cell? ⟨g, 4, none⟩ = some (.map (some m)) := l1.cell 4
  have h3a : (w1.alloc (.cells #[] 49)).cell? ⟨g, 4, none⟩ = some (.map (some m)) := (l1.alloc _).cell 4
  have hlt : m < w1.heap.size := by
    by_cases h : m < w1.heap.size
    · exact h
    · rw [Array.getElem?_eq_none (by omega)] at m1; cases m1
  have hb1 : Byt w1 _ l := unhide HV w1 F1
  have c1 := conv_any w1.drew _ l (hb1.keep ((Below.refl _ _).drew))
  have c2 := conv_any (w1.alloc (.cells #[] 49)).drew _ l (hb1.keep (((Below.refl _ _).alloc (Nat.le_refl _) _).drew))
  have q1 := fun s => look_void w1.drew m s m1
  have q2 := fun s => look_void (w1.alloc (.cells #[] 49)).drew m s ((heap_alloc_old w1 _ hlt).trans m1)
  have HS := hide (voidS_str l hb1.1)
  generalize str l = s at *
  generalize l.length = n at *
  go_wp2_with fail
  go_region
  all_goals
    go_wp2_with fail
    go_ret
    exact ⟨by rw [← unhide HS]; rfl, ⟨m, hbm, (l1.alloc _).all ((Below.refl _ _).drew), (heap_alloc_old w1 _ hlt).trans m1⟩, F1.trans ((Frm.alloc w1 _ _).trans (Frm.drew _ _))⟩
end Go.Proofs.Yteioihjgjbjmjaa
