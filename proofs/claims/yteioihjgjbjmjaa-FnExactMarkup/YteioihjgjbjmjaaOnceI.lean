/- The set of void names: the map that fill makes, and sync.Once over it, by contracts: the lock, the two deferred calls, doSlow. -/
import Derived.Test.YteioihjgjbjmjaaChecked
import Derived.Test.YteioihjgjbjmjaaToT
import Derived.WideMake
import Derived.Defers
import Derived.Laws.LoneSync
import Derived.Laws.Pointers
import Derived.RegionTactic
import Derived.RegionCalls
namespace Go.Proofs.Yteioihjgjbjmjaa
open Go.RowKit
set_option linter.unusedVariables false
set_option maxRecDepth 100000

/-- The map of br and hr, as it is made. -/
def voidMap : Obj := .map #[{ key := .string ⟨#[98, 114]⟩, val := .agg #[], born := 0 }, { key := .string ⟨#[104, 114]⟩, val := .agg #[], born := 1 }] 2

theorem alloc_put (W : World) (o o' : Obj) : ({ (W.alloc o) with heap := (W.alloc o).heap.setIfInBounds W.heap.size o' } : World) = W.alloc o' := by
  have e : (W.heap.push o).setIfInBounds W.heap.size o' = W.heap.push o' := by
    apply Array.ext'
    rw [Array.toList_setIfInBounds, Array.toList_push, Array.toList_push]
    rw [List.set_append_right _ _ (by simp)]
    simp
  show ({ W with heap := (W.heap.push o).setIfInBounds W.heap.size o' } : World) = { W with heap := W.heap.push o' }
  rw [e]

theorem br_in (W : World) : (Instr.mapUpdate 61 (.map (some W.heap.size)) (.string ⟨#[98, 114]⟩) (.agg #[])).run Try.prog (W.alloc (.map #[] 0)) = .ok () (W.alloc (.map #[{ key := .string ⟨#[98, 114]⟩, val := .agg #[], born := 0 }] 1)) := by
  rw [run_mapUpdate_first (P := Try.prog) (W.alloc (.map #[] 0)) 61 9 49 W.heap.size 0 ⟨#[98, 114]⟩ (.agg #[]) Try.underlying61 Try.underlying9 (heap_alloc_new W _), alloc_put]
theorem hr_in (W : World) : (Instr.mapUpdate 61 (.map (some W.heap.size)) (.string ⟨#[104, 114]⟩) (.agg #[])).run Try.prog (W.alloc (.map #[{ key := .string ⟨#[98, 114]⟩, val := .agg #[], born := 0 }] 1)) = .ok () (W.alloc voidMap) := by
  have hb := heap_alloc_new W (.map #[{ key := .string ⟨#[98, 114]⟩, val := .agg #[], born := 0 }] 1)
  have hf : Instr.findNow .string (.string ⟨#[104, 114]⟩) ([{ key := .string ⟨#[98, 114]⟩, val := .agg #[], born := 0 }] : List MapEntry) 0 = some none := rfl
  have hc : (Instr.checkKey false 10000 9 (.string ⟨#[104, 114]⟩)).run Try.prog (W.alloc (.map #[{ key := .string ⟨#[98, 114]⟩, val := .agg #[], born := 0 }] 1)) = .ok () (W.alloc (.map #[{ key := .string ⟨#[98, 114]⟩, val := .agg #[], born := 0 }] 1)) := MapKept.run_checkKey (k := .string ⟨#[104, 114]⟩) Try.underlying9 (by simp [MapKept.IsKey]) false 9999
  simp [Instr.mapUpdate, run_underlying Try.underlying61, MapKept.run_getObj_map hb, hc, MapKept.run_findKey Try.underlying9 hf, MapKept.run_setObj_map _ hb, Result.andThen]
  exact alloc_put W _ _

theorem fill_any (g : Nat) (w : World) (cs : Array Value) (hl : Loc w g cs 63) (c3 : Value) (h3 : w.cell? ⟨g, 3, none⟩ = some c3) :
    Calls Try.prog 74 #[.pointer (some ⟨g, 0, none⟩)] w fun e w' => e = .returned (.tuple #[]) ∧ w' = (w.setCell ⟨g, 3, none⟩ (.map (some w.heap.size))).alloc voidMap := by
  have hmm := @run_makeMap Try.prog
  have h1 := br_in w
  have h2 := hr_in w
  have hg := hl.lt
  have f3 := hl.frozen 3
  go_enter Try.func74, Try.ntmps74
  go_wp2
  go_end0
  exact ⟨rfl, rfl⟩

theorem disable (w : World) : (callFunc 89 #[]).run Try.prog w = .ok (.value (.tuple #[])) w := run_call_mark0 Try.func89 (by kernel_rfl) (by kernel_rfl) (by kernel_rfl) .disable (by kernel_rfl) w
theorem enable (w : World) : (callFunc 91 #[]).run Try.prog w = .ok (.value (.tuple #[])) w := run_call_mark0 Try.func91 (by kernel_rfl) (by kernel_rfl) (by kernel_rfl) .enable (by kernel_rfl) w
theorem acquire (a : Addr) (w : World) : (callFunc 92 #[.pointer (some a)]).run Try.prog w = .ok (.value (.tuple #[])) w := run_call_marked Try.func92 (by kernel_rfl) (by kernel_rfl) (by kernel_rfl) .acquire (by kernel_rfl) a w
theorem releaseMerge (a : Addr) (w : World) : (callFunc 94 #[.pointer (some a)]).run Try.prog w = .ok (.value (.tuple #[])) w := run_call_marked Try.func94 (by kernel_rfl) (by kernel_rfl) (by kernel_rfl) .releaseMerge (by kernel_rfl) a w

theorem store_deferred (a : Addr) (x : Value) (u : FrameMode) (w : World) (hc : w.cell? a = some x) (hz : w.frozen? a = false) :
    CallsD Try.prog 84 #[.pointer (some a), .bool true] u w fun e u' w' => u' = u ∧ (e = .returned (.tuple #[]) ∧ w' = w.drew.setCell a (.int .u32 1)) := by
  have hc' : w.drew.cell? a = some x := by go_simp
  have hz' : w.drew.frozen? a = false := by go_simp
  have hst := run_call_store (P := Try.prog) Try.func87 (by kernel_rfl) (by kernel_rfl) (by kernel_rfl) (by kernel_rfl) (k := .u32) (y := 1) hc' hz'
  go_enter_d Try.func84, Try.ntmps84
  go_wp2
  go_region_calls
  all_goals (go_end0; exact ⟨rfl, rfl⟩)

theorem unlock_deferred (a : Addr) (u : FrameMode) (w : World) (hc : w.cell? a = some (.int .i32 1)) (hz : w.frozen? a = false) :
    CallsD Try.prog 83 #[.pointer (some a)] u w fun e u' w' => u' = u ∧ (e = .returned (.tuple #[]) ∧ w' = w.setCell a (.int .i32 0)) := by
  have hd := disable
  have he := enable
  have hr := releaseMerge
  have hadd := run_call_add (P := Try.prog) Try.func95 (by kernel_rfl) (by kernel_rfl) (by kernel_rfl) .i32 (by kernel_rfl) (y := -1) (s := 0) hc hz (by simp [go_sem]; rfl)
  have hcv := run_convert_to_unsafe (P := Try.prog) (src := 117) (dst := 121) Try.underlying117 Try.underlying121 (by kernel_rfl) hc
  go_enter_d Try.func83, Try.ntmps83
  go_wp2
  go_end0
  go_wp2
  go_end0
  exact ⟨rfl, rfl⟩

theorem lock_free (a : Addr) (w : World) (hc : w.cell? a = some (.int .i32 0)) (hz : w.frozen? a = false) :
    Calls Try.prog 82 #[.pointer (some a)] w fun e w' => e = .returned (.tuple #[]) ∧ w' = w.setCell a (.int .i32 1) := by
  have hd := disable
  have he := enable
  have ha := acquire
  have hcas := run_call_cas_hit (P := Try.prog) Try.func90 (by kernel_rfl) (by kernel_rfl) (by kernel_rfl) .i32 (by kernel_rfl) (y := 1) hc hz
  have hc' : (w.setCell a (.int .i32 1)).cell? a = some (.int .i32 1) := World.cell?_setCell_same w a _ hc
  have hcv := run_convert_to_unsafe (P := Try.prog) (src := 117) (dst := 121) Try.underlying117 Try.underlying121 (by kernel_rfl) hc'
  go_enter Try.func82, Try.ntmps82
  go_wp2
  first | go_end0 | (simp only [Exit.inBlock, Exit.then]; refine bodyPost_ret (results_none rfl _ _ _) rfl ?_) | refine bodyPost_ret (results_none rfl _ _ _) rfl ?_
  go_wp2
  go_end0
  exact ⟨rfl, rfl⟩

end Go.Proofs.Yteioihjgjbjmjaa
