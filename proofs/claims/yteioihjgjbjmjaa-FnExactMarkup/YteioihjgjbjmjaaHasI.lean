/- sync.Once.Do over the set of void names, and the set asked: has. -/
import Derived.Test.YteioihjgjbjmjaaOnceJ
import Derived.RegionTactic
namespace Go.Proofs.Yteioihjgjbjmjaa
open Go.RowKit
set_option linter.unusedVariables false
set_option maxRecDepth 100000

/-- The set lies in block g, made or not yet. -/
def VMade (B : Nat) (w : World) (g : Nat) : Prop := ∃ m, B ≤ m ∧ Loc w g (vs1 m) 63 ∧ w.heap[m]? = some voidMap
def VSet (B : Nat) (w : World) (g : Nat) : Prop := Loc w g vs0 63 ∨ VMade B w g

theorem do_any (B g : Nat) (w : World) (h : VSet B w g) (hB : B ≤ w.heap.size) :
    Calls Try.prog 73 #[.pointer (some ⟨g, 0, none⟩), .func (.func 74) #[.pointer (some ⟨g, 0, none⟩)] #[]] w fun e w' => e = .returned (.tuple #[]) ∧ VMade B w' g ∧ Frm w w' [g] := by
  have hnot : ∀ (x : Bool) (w : World), (Op.unary .not (.bool x)).run Try.prog w = .ok (.bool (!x)) w := fun _ _ => rfl
  rcases h with hl | ⟨m, hbm, hl, hm⟩
  · have h0 : w.cell? ⟨g, 0, none⟩ = some (.int .u32 0) := hl.cell 0
    go_enter Try.func73, Try.ntmps73
    go_wp2_with fail
    refine (load_any ⟨g, 0, none⟩ 0 w h0 false (by simp)).mono ?_
    rintro e w ⟨rfl, rfl⟩
    go_wp2_with fail
    refine (slow_any g w hl).mono ?_
    rintro e w' ⟨rfl, m, hbm, l', m', F'⟩
    go_wp2_with fail
    go_end0
    exact ⟨rfl, ⟨m, Nat.le_trans hB hbm, l', m'⟩, F'⟩
  · have h0 : w.cell? ⟨g, 0, none⟩ = some (.int .u32 1) := hl.cell 0
    go_enter Try.func73, Try.ntmps73
    go_wp2_with fail
    refine (load_any ⟨g, 0, none⟩ 1 w h0 true (by simp)).mono ?_
    rintro e w ⟨rfl, rfl⟩
    go_wp2_with fail
    go_end0
    exact ⟨rfl, ⟨m, hbm, hl, hm⟩, Frm.refl _ _⟩

def voidS (s : ByteArray) : Bool := s == ⟨#[98, 114]⟩ || s == ⟨#[104, 114]⟩
theorem look_void (w : World) (m : Nat) (s : ByteArray) (hm : w.heap[m]? = some voidMap) :
    (Instr.lookup 61 (.map (some m)) (.string s) true).run Try.prog w = .ok (.tuple #[.agg #[], .bool (voidS s)]) w := by
  have hc : (Instr.checkKey false 10000 9 (.string s)).run Try.prog w = .ok () w := MapKept.run_checkKey (k := .string s) Try.underlying9 (by simp [MapKept.IsKey]) false 9999
  have hz : (zeroValue 49).run Try.prog w = .ok (.agg #[]) w := by kernel_rfl
  have hb : w.heap[m]? = some (.map #[{ key := .string ⟨#[98, 114]⟩, val := .agg #[], born := 0 }, { key := .string ⟨#[104, 114]⟩, val := .agg #[], born := 1 }] 2) := hm
  by_cases h1 : (s == ⟨#[98, 114]⟩) = true
  · have hf : Instr.findNow .string (.string s) ([{ key := .string ⟨#[98, 114]⟩, val := .agg #[], born := 0 }, { key := .string ⟨#[104, 114]⟩, val := .agg #[], born := 1 }] : List MapEntry) 0 = some (some (0, .agg #[])) := by simp [Instr.findNow, Instr.sameNow, h1]
    simp [Instr.lookup, run_underlying Try.underlying61, MapKept.run_getObj_map hb, hc, MapKept.run_findKey Try.underlying9 hf, Result.andThen, voidS, h1]
  · have h1' : (s == ⟨#[98, 114]⟩) = false := by simpa using h1
    by_cases h2 : (s == ⟨#[104, 114]⟩) = true
    · have hf : Instr.findNow .string (.string s) ([{ key := .string ⟨#[98, 114]⟩, val := .agg #[], born := 0 }, { key := .string ⟨#[104, 114]⟩, val := .agg #[], born := 1 }] : List MapEntry) 0 = some (some (1, .agg #[])) := by simp [Instr.findNow, Instr.sameNow, h1', h2]
      simp [Instr.lookup, run_underlying Try.underlying61, MapKept.run_getObj_map hb, hc, MapKept.run_findKey Try.underlying9 hf, Result.andThen, voidS, h1', h2]
    · have h2' : (s == ⟨#[104, 114]⟩) = false := by simpa using h2
      have hf : Instr.findNow .string (.string s) ([{ key := .string ⟨#[98, 114]⟩, val := .agg #[], born := 0 }, { key := .string ⟨#[104, 114]⟩, val := .agg #[], born := 1 }] : List MapEntry) 0 = some none := by simp [Instr.findNow, Instr.sameNow, h1', h2']
      simp [Instr.lookup, run_underlying Try.underlying61, MapKept.run_getObj_map hb, hc, MapKept.run_findKey Try.underlying9 hf, hz, Result.andThen, voidS, h1', h2']

theorem str_mk (l : List Int) (b : ByteArray) (h : b.data.toList = l.map (fun n => UInt8.ofNat n.toNat)) : str l = b :=
  ByteArray.ext (Array.ext' (by rw [str_list, h]))
open Classical in
theorem voidS_str (l : List Int) (hl : okB l) : voidS (str l) = decide (Void l) := by
  have e1 : (⟨#[98, 114]⟩ : ByteArray) = str [98, 114] := (str_mk _ _ rfl).symm
  have e2 : (⟨#[104, 114]⟩ : ByteArray) = str [104, 114] := (str_mk _ _ rfl).symm
  have hb : ∀ k, okB k → (str l == str k) = decide (l = k) := fun k hk => by
    by_cases h : l = k
    · subst h; rw [(MapKept.bytes_beq _ _).2 rfl]; simp
    · rw [decide_eq_false h, ← Bool.not_eq_true, MapKept.bytes_beq]
      intro e
      exact h (str_inj hl hk (by rw [e]))
  unfold voidS
  rw [e1, e2, hb _ okB_br, hb _ okB_hr]
  unfold Void
  rw [Bool.eq_iff_iff]
  simp

theorem hasmap_drew {w : World} {m : Nat} (h : w.heap[m]? = some voidMap) : w.drew.heap[m]? = some voidMap := h

open Classical in
set_option maxHeartbeats 1600000 in
theorem has_any (B g : Nat) (w : World) (v : Value) (l : List Int) (h : VSet B w g) (hBB : B ≤ w.heap.size) (hv : ∀ w', Frm w w' [g] → Byt w' v l) :
    Calls Try.prog 56 #[.pointer (some ⟨g, 0, none⟩), v] w fun e w' => e = .returned (.bool (decide (Void l))) ∧ VMade B w' g ∧ Frm w w' [g] := by
  have hmf : ∀ (fn : Fn) (first cap : Array Value) (w : World), (Instr.makeFunc fn first cap).run Try.prog w = .ok (.func fn first cap) w := fun _ _ _ _ => rfl
  have hg : g < w.heap.size := by
    rcases h with h | ⟨m, _, h, _⟩
    · exact h.lt
    · exact h.lt
  obtain ⟨a1, k1, rfl, _⟩ := (hv w (Frm.refl _ _)).shape
  have HV := hide hv
  clear hv
  go_enter Try.func56, Try.ntmps56
  go_wp2_with fail
  refine (do_any B g w h hBB).mono ?_
  rintro e w1 ⟨rfl, ⟨m, hbm, l1, m1⟩, F1⟩
  have h3 : w1.cell? ⟨g, 3, none⟩ = some (.map (some m)) := l1.cell 3
  have h3d : w1.drew.cell? ⟨g, 3, none⟩ = some (.map (some m)) := l1.cell 3
  have h3a : (w1.alloc (.cells #[] 49)).cell? ⟨g, 3, none⟩ = some (.map (some m)) := (l1.alloc _).cell 3
  have hlt : m < w1.heap.size := by
    by_cases h : m < w1.heap.size
    · exact h
    · rw [Array.getElem?_eq_none (by omega)] at m1; cases m1
  have hb1 : Byt w1 _ l := unhide HV w1 F1
  have c1 := conv_any w1.drew _ l (hb1.keep ((Below.refl _ _).drew))
  have c2 := conv_any (w1.alloc (.cells #[] 49)).drew _ l (hb1.keep (((Below.refl _ _).alloc (Nat.le_refl _) _).drew))
  have q1 := fun s => look_void w1.drew m s m1
  have q2 := fun s => look_void (w1.alloc (.cells #[] 49)).drew m s ((heap_alloc_old w1 _ hlt).trans m1)
  have HS := hide (voidS_str l hb1.1)
  generalize str l = s at *
  generalize l.length = n at *
  go_wp2_with fail
  go_region
  all_goals
    go_wp2_with fail
    go_ret
    exact ⟨by rw [← unhide HS]; rfl, ⟨m, hbm, (l1.alloc _).all ((Below.refl _ _).drew), (heap_alloc_old w1 _ hlt).trans m1⟩, F1.trans ((Frm.alloc w1 _ _).trans (Frm.drew _ _))⟩
end Go.Proofs.Yteioihjgjbjmjaa
