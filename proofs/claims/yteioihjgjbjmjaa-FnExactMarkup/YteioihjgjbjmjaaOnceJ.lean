/- sync.Once over the set of void names: doSlow and Do, the first time and later; has. -/
import Derived.Test.YteioihjgjbjmjaaOnceI
import Derived.Test.YteioihjgjbjmjaaAttrS
namespace Go.Proofs.Yteioihjgjbjmjaa
open Go.RowKit
set_option linter.unusedVariables false
set_option maxRecDepth 100000

/-- A set that is not yet made; that is made. -/
def vs0 : Array Value := #[.int .u32 0, .int .i32 0, .int .u32 0, .map none]
def vs1 (m : Nat) : Array Value := #[.int .u32 1, .int .i32 0, .int .u32 0, .map (some m)]

theorem load_any (a : Addr) (x : Int) (w : World) (hc : w.cell? a = some (.int .u32 x)) (b : Bool) (hb : (x != 0) = b) :
    Calls Try.prog 78 #[.pointer (some a)] w fun e w' => e = .returned (.bool b) ∧ w' = w := by
  have hlo := run_call_load (P := Try.prog) Try.func81 (by kernel_rfl) (by kernel_rfl) (by kernel_rfl) .u32 (by kernel_rfl) hc
  go_enter Try.func78, Try.ntmps78
  go_wp2
  go_ret
  exact ⟨rfl, rfl⟩

theorem Frm.drew (w : World) (S : List Nat) : Frm w w.drew S := Frm.ofBelow ((Below.refl _ _).drew) S
theorem setCell_os (w : World) (a : Addr) (v : Value) : (w.setCell a v).os = w.os := by unfold World.setCell; repeat (first | rfl | split)
theorem setCell_tape (w : World) (a : Addr) (v : Value) : (w.setCell a v).tape = w.tape := by unfold World.setCell; repeat (first | rfl | split)
theorem setCell_output (w : World) (a : Addr) (v : Value) : (w.setCell a v).output = w.output := by unfold World.setCell; repeat (first | rfl | split)
theorem Frm.set (w : World) (g j : Nat) (v : Value) : Frm w (w.setCell ⟨g, j, none⟩ v) [g] :=
  ⟨setCell_os w _ v, setCell_tape w _ v, setCell_output w _ v, by simp, fun i _ hn => heap_setCell_other w ⟨g, j, none⟩ i v (fun e => hn (by simp; exact e))⟩
theorem Frm.alloc (w : World) (o : Obj) (S : List Nat) : Frm w (w.alloc o) S := Frm.ofBelow ((Below.refl _ _).alloc (Nat.le_refl _) _) S

set_option maxHeartbeats 1600000 in
theorem slow_any (g : Nat) (w : World) (hl : Loc w g vs0 63) :
    Calls Try.prog 79 #[.pointer (some ⟨g, 0, none⟩), .func (.func 74) #[.pointer (some ⟨g, 0, none⟩)] #[]] w fun e w' => e = .returned (.tuple #[]) ∧ ∃ m, w.heap.size ≤ m ∧ Loc w' g (vs1 m) 63 ∧ w'.heap[m]? = some voidMap ∧ Frm w w' [g] := by
  have h1 : w.cell? ⟨g, 1, none⟩ = some (.int .i32 0) := hl.cell 1
  have f1 := hl.frozen 1
  have l1 : Loc (w.setCell ⟨g, 1, none⟩ (.int .i32 1)) g #[.int .u32 0, .int .i32 1, .int .u32 0, .map none] 63 := hl.set 1 (.int .i32 1)
  have F1 := Frm.set w g 1 (.int .i32 1)
  have hnot : ∀ (x : Bool) (w : World), (Op.unary .not (.bool x)).run Try.prog w = .ok (.bool (!x)) w := fun _ _ => rfl
  go_enter_defers Try.func79, Try.ntmps79
  go_wp2_with (go_at_call 82; refine (lock_free ⟨g, 1, none⟩ _ (by go_simp) (by go_simp)).mono ?_; rintro e w' ⟨rfl, rfl⟩)
  generalize w.setCell ⟨g, 1, none⟩ (.int .i32 1) = w1 at *
  refine (load_any ⟨g, 0, none⟩ 0 w1 (l1.cell 0) false (by simp)).mono ?_
  rintro e w1 ⟨rfl, rfl⟩
  go_wp2_with fail
  refine (fill_any g w1 _ l1 _ (l1.cell 3)).mono ?_
  rintro e w2 ⟨rfl, hw2⟩
  have l2 : Loc w2 g #[.int .u32 0, .int .i32 1, .int .u32 0, .map (some w1.heap.size)] 63 := by rw [hw2]; exact (l1.set 3 (.map (some w1.heap.size))).alloc _
  have m2 : w2.heap[w1.heap.size]? = some voidMap := by rw [hw2]; have := heap_alloc_new (w1.setCell ⟨g, 3, none⟩ (.map (some w1.heap.size))) voidMap; rwa [show (w1.setCell ⟨g, 3, none⟩ (.map (some w1.heap.size))).heap.size = w1.heap.size by simp] at this
  have F2 : Frm w1 w2 [g] := by rw [hw2]; exact (Frm.set w1 g 3 _).trans (Frm.alloc _ _ _)
  have hne : w1.heap.size ≠ g := by have := l1.lt; omega
  have F12 := F1.trans F2
  have hmm := F1.size
  clear hw2
  generalize w1.heap.size = m at *
  go_wp2_with fail
  refine leaves_cons (f := 84) (args := #[.pointer (some ⟨g, 0, none⟩), .bool true]) (by simp) (by simp [go_sem]) ?_
  refine (store_deferred ⟨g, 0, none⟩ (.int .u32 0) .returning _ (l2.cell 0) (l2.frozen 0)).mono ?_
  rintro e u' w3 ⟨rfl, rfl, hw3⟩
  have ld : Loc w2.drew g #[.int .u32 0, .int .i32 1, .int .u32 0, .map (some m)] 63 := l2.frm (Frm.drew w2 []) (by simp)
  have l3 : Loc w3 g #[.int .u32 1, .int .i32 1, .int .u32 0, .map (some m)] 63 := by rw [hw3]; exact ld.set 0 (.int .u32 1)
  have F3 : Frm w2 w3 [g] := by rw [hw3]; exact (Frm.drew w2 _).trans (Frm.set _ g 0 _)
  clear hw3
  refine leaves_cons (f := 83) (args := #[.pointer (some ⟨g, 1, none⟩)]) (by simp [settle]) (by simp [go_sem]) ?_
  refine (unlock_deferred ⟨g, 1, none⟩ _ _ (l3.cell 1) (l3.frozen 1)).mono ?_
  rintro e u' w4 ⟨rfl, rfl, hw4⟩
  have l4 : Loc w4 g (vs1 m) 63 := by rw [hw4]; exact l3.set 1 (.int .i32 0)
  have F4 : Frm w3 w4 [g] := by rw [hw4]; exact Frm.set _ g 1 _
  have hm : m < w2.heap.size := by
    by_cases h : m < w2.heap.size
    · exact h
    · rw [Array.getElem?_eq_none (by omega)] at m2; cases m2
  have F34 := F3.trans F4
  have m4 : w4.heap[m]? = some voidMap := (F34.block m hm (by simpa using hne)).trans m2
  simp [Leaves, settle, results, Try.results79]
  exact ⟨m, hmm, l4, m4, F12.trans F34⟩
end Go.Proofs.Yteioihjgjbjmjaa
