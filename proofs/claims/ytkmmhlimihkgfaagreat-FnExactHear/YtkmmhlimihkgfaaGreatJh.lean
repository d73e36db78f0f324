/- Own texts joined: HasI, PartI, OpenE, OpenT, Pre, WalkI, OutT, Push, CloneI, ToT2, ToT3, Apart, CopyI. -/
import Derived.Test.YtkmmhlimihkgfaaGreatJa
import Derived.Test.YtkmmhlimihkgfaaGreatJb
import Derived.Test.YtkmmhlimihkgfaaGreatJc
import Derived.Test.YtkmmhlimihkgfaaGreatJd
import Derived.Test.YtkmmhlimihkgfaaGreatJe
import Derived.Test.YtkmmhlimihkgfaaGreatJf
import Derived.Test.YtkmmhlimihkgfaaGreatJg
import Derived.RegionTactic
import Derived.Test.YtkmmhlimihkgfaaGreatProg
import Derived.ChangeArms
import Derived.ChangeSlices
import Derived.WideShapes
import Derived.Deep.AppendLies
import Derived.Lib.BufferMore
import Derived.Deep.RegionLaw
import Derived.Deep.RegionHeld3

/- sync.Once.Do over the set of void names, and the set asked: has. -/
namespace Go.Proofs.YtkmmhlimihkgfaaGreat
open Go.RowKit
set_option linter.unusedVariables false
set_option maxRecDepth 100000

/-- The set lies in block g, made or not yet. -/
def VMade (B : Nat) (w : World) (g : Nat) : Prop := ∃ m, B ≤ m ∧ Loc w g (vs1 m) 141 ∧ w.heap[m]? = some voidMap
def VSet (B : Nat) (w : World) (g : Nat) : Prop := Loc w g vs0 141 ∨ VMade B w g

theorem do_any (B g : Nat) (w : World) (h : VSet B w g) (hB : B ≤ w.heap.size) :
    Calls Tryz.prog 150 #[.pointer (some ⟨g, 0, none⟩), .func (.func 151) #[.pointer (some ⟨g, 0, none⟩)] #[]] w fun e w' => e = .returned (.tuple #[]) ∧ VMade B w' g ∧ Frm w w' [g] := by
  have hnot : ∀ (x : Bool) (w : World), (Op.unary .not (.bool x)).run Tryz.prog w = .ok (.bool (!x)) w := fun _ _ => rfl
  rcases h with hl | ⟨m, hbm, hl, hm⟩
  · have h0 : w.cell? ⟨g, 0, none⟩ = some (.int .u32 0) := hl.cell 0
    go_enter Tryz.func150, Tryz.ntmps150
    go_wp2_with fail
    refine (load_any ⟨g, 0, none⟩ 0 w h0 false (by simp)).mono ?_
    rintro e w ⟨rfl, rfl⟩
    go_wp2_with fail
    refine (slow_any g w hl).mono ?_
    rintro e w' ⟨rfl, m, hbm, l', m', F'⟩
    go_wp2_with fail
    go_end0
    exact ⟨rfl, ⟨m, Nat.le_trans hB hbm, l', m'⟩, F'⟩
  · have h0 : w.cell? ⟨g, 0, none⟩ = some (.int .u32 1) := hl.cell 0
    go_enter Tryz.func150, Tryz.ntmps150
    go_wp2_with fail
    refine (load_any ⟨g, 0, none⟩ 1 w h0 true (by simp)).mono ?_
    rintro e w ⟨rfl, rfl⟩
    go_wp2_with fail
    go_end0
    exact ⟨rfl, ⟨m, hbm, hl, hm⟩, Frm.refl _ _⟩

def voidS (s : ByteArray) : Bool := s == ⟨#[98, 114]⟩ || s == ⟨#[104, 114]⟩
theorem look_void (w : World) (m : Nat) (s : ByteArray) (hm : w.heap[m]? = some voidMap) :
    (Instr.lookup 139 (.map (some m)) (.string s) true).run Tryz.prog w = .ok (.tuple #[.agg #[], .bool (voidS s)]) w := by
  have hc : (Instr.checkKey false 10000 9 (.string s)).run Tryz.prog w = .ok () w := MapKept.run_checkKey (k := .string s) Tryz.underlying9 (by simp [MapKept.IsKey]) false 9999
  have hz : (zeroValue 127).run Tryz.prog w = .ok (.agg #[]) w := by kernel_rfl
  have hb : w.heap[m]? = some (.map #[{ key := .string ⟨#[98, 114]⟩, val := .agg #[], born := 0 }, { key := .string ⟨#[104, 114]⟩, val := .agg #[], born := 1 }] 2) := hm
  by_cases h1 : (s == ⟨#[98, 114]⟩) = true
  · have hf : Instr.findNow .string (.string s) ([{ key := .string ⟨#[98, 114]⟩, val := .agg #[], born := 0 }, { key := .string ⟨#[104, 114]⟩, val := .agg #[], born := 1 }] : List MapEntry) 0 = some (some (0, .agg #[])) := by simp [Instr.findNow, Instr.sameNow, h1]
    simp [Instr.lookup, run_underlying Tryz.underlying139, MapKept.run_getObj_map hb, hc, MapKept.run_findKey Tryz.underlying9 hf, Result.andThen, voidS, h1]
  · have h1' : (s == ⟨#[98, 114]⟩) = false := by simpa using h1
    by_cases h2 : (s == ⟨#[104, 114]⟩) = true
    · have hf : Instr.findNow .string (.string s) ([{ key := .string ⟨#[98, 114]⟩, val := .agg #[], born := 0 }, { key := .string ⟨#[104, 114]⟩, val := .agg #[], born := 1 }] : List MapEntry) 0 = some (some (1, .agg #[])) := by simp [Instr.findNow, Instr.sameNow, h1', h2]
      simp [Instr.lookup, run_underlying Tryz.underlying139, MapKept.run_getObj_map hb, hc, MapKept.run_findKey Tryz.underlying9 hf, Result.andThen, voidS, h1', h2]
    · have h2' : (s == ⟨#[104, 114]⟩) = false := by simpa using h2
      have hf : Instr.findNow .string (.string s) ([{ key := .string ⟨#[98, 114]⟩, val := .agg #[], born := 0 }, { key := .string ⟨#[104, 114]⟩, val := .agg #[], born := 1 }] : List MapEntry) 0 = some none := by simp [Instr.findNow, Instr.sameNow, h1', h2']
      simp [Instr.lookup, run_underlying Tryz.underlying139, MapKept.run_getObj_map hb, hc, MapKept.run_findKey Tryz.underlying9 hf, hz, Result.andThen, voidS, h1', h2']

theorem str_mk (l : List Int) (b : ByteArray) (h : b.data.toList = l.map (fun n => UInt8.ofNat n.toNat)) : str l = b :=
  ByteArray.ext (Array.ext' (by rw [str_list, h]))
open Classical in
theorem voidS_str (l : List Int) (hl : okB l) : voidS (str l) = decide (Void l) := by
  have e1 : (⟨#[98, 114]⟩ : ByteArray) = str [98, 114] := (str_mk _ _ rfl).symm
  have e2 : (⟨#[104, 114]⟩ : ByteArray) = str [104, 114] := (str_mk _ _ rfl).symm
  have hb : ∀ k, okB k → (str l == str k) = decide (l = k) := fun k hk => by
    by_cases h : l = k
    · subst h; rw [(MapKept.bytes_beq _ _).2 rfl]; simp
    · rw [decide_eq_false h, ← Bool.not_eq_true, MapKept.bytes_beq]
      intro e
      exact h (str_inj hl hk (by rw [e]))
  unfold voidS
  rw [e1, e2, hb _ okB_br, hb _ okB_hr]
  unfold Void
  rw [Bool.eq_iff_iff]
  simp

theorem hasmap_drew {w : World} {m : Nat} (h : w.heap[m]? = some voidMap) : w.drew.heap[m]? = some voidMap := h

open Classical in
set_option maxHeartbeats 1600000 in
theorem has_any (B g : Nat) (w : World) (v : Value) (l : List Int) (h : VSet B w g) (hBB : B ≤ w.heap.size) (hv : ∀ w', Frm w w' [g] → Byt w' v l) :
    Calls Tryz.prog 139 #[.pointer (some ⟨g, 0, none⟩), v] w fun e w' => e = .returned (.bool (decide (Void l))) ∧ VMade B w' g ∧ Frm w w' [g] := by
  have hmf : ∀ (fn : Fn) (first cap : Array Value) (w : World), (Instr.makeFunc fn first cap).run Tryz.prog w = .ok (.func fn first cap) w := fun _ _ _ _ => rfl
  have hg : g < w.heap.size := by
    rcases h with h | ⟨m, _, h, _⟩
    · exact h.lt
    · exact h.lt
  obtain ⟨a1, k1, rfl, _⟩ := (hv w (Frm.refl _ _)).shape
  have HV := hide hv
  clear hv
  go_enter Tryz.func139, Tryz.ntmps139
  go_wp2_with fail
  refine (do_any B g w h hBB).mono ?_
  rintro e w1 ⟨rfl, ⟨m, hbm, l1, m1⟩, F1⟩
  have h3 : w1.cell? ⟨g, 3, none⟩ = some (.map (some m)) := l1.cell 3
  have h3d : w1.drew.cell? ⟨g, 3, none⟩ = some (.map (some m)) := l1.cell 3
  have h3a : (w1.alloc (.cells #[] 127)).cell? ⟨g, 3, none⟩ = some (.map (some m)) := (l1.alloc _).cell 3
  have hlt : m < w1.heap.size := by
    by_cases h : m < w1.heap.size
    · exact h
    · rw [Array.getElem?_eq_none (by omega)] at m1; cases m1
  have hb1 : Byt w1 _ l := unhide HV w1 F1
  have c1 := conv_any w1.drew _ l (hb1.keep ((Below.refl _ _).drew))
  have c2 := conv_any (w1.alloc (.cells #[] 127)).drew _ l (hb1.keep (((Below.refl _ _).alloc (Nat.le_refl _) _).drew))
  have q1 := fun s => look_void w1.drew m s m1
  have q2 := fun s => look_void (w1.alloc (.cells #[] 127)).drew m s ((heap_alloc_old w1 _ hlt).trans m1)
  have HS := hide (voidS_str l hb1.1)
  generalize str l = s at *
  generalize l.length = n at *
  go_wp2_with fail
  go_region
  all_goals
    go_wp2_with fail
    go_ret
    exact ⟨by rw [← unhide HS]; rfl, ⟨m, hbm, (l1.alloc _).all ((Below.refl _ _).drew), (heap_alloc_old w1 _ hlt).trans m1⟩, F1.trans ((Frm.alloc w1 _ _).trans (Frm.drew _ _))⟩
end Go.Proofs.YtkmmhlimihkgfaaGreat

/- impl.partOk answers what the plain test of one node says. -/
namespace Go.Proofs.YtkmmhlimihkgfaaGreat
open Go.RowKit
set_option linter.unusedVariables false
set_option maxRecDepth 100000

/-- May the node be, its kids aside? -/
def partB {α : Type} (t : Nd α) : Bool := if t.kind = 1 then leafB t else elemB t
theorem partB_leaf {α : Type} {t : Nd α} (h : t.kind = 1) : partB t = leafB t := by rw [partB, if_pos h]
theorem partB_elem {α : Type} {t : Nd α} (h : t.kind ≠ 1) : partB t = elemB t := by rw [partB, if_neg h]
theorem elemB_no {α : Type} {t : Nd α} (h : ¬ ElemOk t) : elemB t = false := by rw [← Bool.not_eq_true, elemB_iff]; exact h
theorem leafB_no {α : Type} {t : Nd α} (h : ¬ LeafOk t) : leafB t = false := by rw [← Bool.not_eq_true, leafB_iff]; exact h

theorem VMade.keep {B : Nat} {w w' : World} {g : Nat} (h : VMade B w g) (hb : Below w.heap.size w w') : VMade B w' g := by
  obtain ⟨m, hbm, hl, hm⟩ := h
  have hlt : m < w.heap.size := by
    by_cases h : m < w.heap.size
    · exact h
    · rw [Array.getElem?_eq_none (by omega)] at hm; cases hm
  exact ⟨m, hbm, hl.all hb, (hb.block m hlt).trans hm⟩
theorem VSet.keep {B : Nat} {w w' : World} {g : Nat} (h : VSet B w g) (hb : Below w.heap.size w w') : VSet B w' g := by
  rcases h with h | h
  · exact .inl (h.all hb)
  · exact .inr (h.keep hb)
theorem VSet.lt {B : Nat} {w : World} {g : Nat} (h : VSet B w g) : g < w.heap.size := by
  rcases h with h | ⟨m, _, h, _⟩
  · exact h.lt
  · exact h.lt

open Classical in
set_option maxHeartbeats 3200000 in
theorem partI_elem (B n : Nat) (w0 w : World) (a b c d e : Value) (t : Tr (n + 1)) (g : Nat) (h : RdNode (n + 1) w0 [a, b, c, d, e] t) (hB : Below w0.heap.size w0 w) (hg : w0.heap.size ≤ g) (hV : VSet B w g) (hBB : B ≤ w.heap.size) (hz : t.kind = 0) :
    Calls Tryz.prog 117 #[.agg #[a, b, c, d, e], .pointer (some ⟨g, 0, none⟩)] w fun e w' => e = .returned (.bool (partB t)) ∧ VSet B w' g ∧ Frm w w' [g] := by
  obtain ⟨_, _, _, _, e0, k1, k2, hb, hc, hd, he⟩ := h
  simp only [List.cons.injEq, and_true] at e0
  obtain ⟨rfl, rfl, rfl, rfl, rfl⟩ := e0
  have HP := hide (show partB t = elemB t from partB_elem (by rw [hz]; decide))
  obtain ⟨ab, cb, rfl, _, _⟩ := hb.shape
  obtain ⟨ac, cc, rfl, _, _⟩ := hc.shape
  obtain ⟨ad, cd, rfl, _, _⟩ := Elems.shape hd
  obtain ⟨ae, ce, rfl, _, _⟩ := Elems.shape he
  have hB1 : Below w.heap.size w (w.alloc (.cells #[.int .i64 t.kind, .slice ab t.name.length cb, .slice ac t.text.length cc, .slice ad t.attrs.length cd, .slice ae t.kids.length ce] 61)) := (Below.refl _ _).alloc (Nat.le_refl _) _
  have l1 := Loc.made w #[.int .i64 t.kind, .slice ab t.name.length cb, .slice ac t.text.length cc, .slice ad t.attrs.length cd, .slice ae t.kids.length ce] 61
  have HX : Hid ((t.text.length ≠ 0 → elemB t = false) ∧ (¬ NameOk t.name → elemB t = false) ∧ (¬ AttrsOk t.attrs → elemB t = false) ∧ (NameOk t.name → t.text.length = 0 → AttrsOk t.attrs → t.kids.length = 0 → elemB t = true) ∧ (NameOk t.name → t.text.length = 0 → AttrsOk t.attrs → t.kids.length ≠ 0 → elemB t = !decide (Void t.name))) := by
    refine ⟨fun h => elemB_no (fun k => h k.2.2.1), fun h => elemB_no (fun k => h k.2.1), fun h => elemB_no (fun k => h k.2.2.2.1), fun h1 h2 h3 h4 => (elemB_iff t).2 ⟨hz, h1, h2, h3, fun k => by omega⟩, fun h1 h2 h3 h4 => ?_⟩
    by_cases hv : Void t.name
    · rw [elemB_no (fun k => k.2.2.2.2 ⟨hv, by omega⟩)]; simp [hv]
    · rw [(elemB_iff t).2 ⟨hz, h1, h2, h3, fun k => hv k.1⟩]; simp [hv]
  rw [hz] at *
  have ha : Below w0.heap.size w0 (w.alloc (.cells #[.int .i64 0, .slice ab t.name.length cb, .slice ac t.text.length cc, .slice ad t.attrs.length cd, .slice ae t.kids.length ce] 61)) := hB.trans (hB1.mono hB.size)
  have hV1 := hV.keep hB1
  have F1 := Frm.ofBelow hB1 [g]
  clear hB1 k1 k2 hB
  go_enter Tryz.func117, Tryz.ntmps117
  go_wp2_with fail
  generalize (w.alloc (.cells #[.int .i64 0, .slice ab t.name.length cb, .slice ac t.text.length cc, .slice ad t.attrs.length cd, .slice ae t.kids.length ce] 61)) = w1 at *
  have hBB1 := Nat.le_trans hBB F1.size
  generalize hS : w.heap.size = S at *
  clear hS
  generalize t.name.length = nb at *
  generalize t.text.length = nc at *
  generalize t.attrs.length = nd at *
  generalize t.kids.length = ne at *
  have hbb := hb.keep ha
  have hdd := hd.keep ha
  refine (nameI_any w1 _ t.name hbb).mono ?_
  rintro e w1 ⟨rfl, rfl⟩
  obtain ⟨x0, x1, x2, x3, x4⟩ := l1.five
  by_cases hn : NameOk t.name
  · rw [show decide (NameOk t.name) = true by simpa using hn]
    by_cases htx : nc = 0
    · have dtx : ((nc : Int) == 0) = true := by simpa using htx
      go_wp2_with fail
      refine (attrsI_any w1 _ t.attrs hdd).mono ?_
      rintro e w2 ⟨rfl, hB2⟩
      have hV2 := hV1.keep hB2
      have F2 := F1.trans (Frm.ofBelow hB2 [g])
      have ha2 := ha.trans (hB2.mono ha.size)
      have l2 := l1.all hB2
      clear x0 x1 x2 x3 x4
      obtain ⟨x0, x1, x2, x3, x4⟩ := l2.five
      by_cases hat : AttrsOk t.attrs
      · rw [show decide (AttrsOk t.attrs) = true by simpa using hat]
        by_cases hk : ne = 0
        · have dk : ((ne : Int) == 0) = true := by simpa using hk
          have HE := hide ((unhide HX).2.2.2.1 hn htx hat hk)
          clear hn htx hat hk HX
          go_wp2_with fail
          go_ret
          exact ⟨by rw [unhide HP, unhide HE]; rfl, hV2, F2⟩
        · have dk : ((ne : Int) == 0) = false := by simpa using hk
          have HE := hide ((unhide HX).2.2.2.2 hn htx hat hk)
          clear hn htx hat hk HX
          go_wp2_with fail
          refine (has_any B g w2 _ t.name hV2 (Nat.le_trans hBB1 hB2.size) (fun w' f => hb.keep (ha2.trans (f.below ha2.size (fun q hq => by simp at hq; omega))))).mono ?_
          rintro e w3 ⟨rfl, hV3, F3⟩
          generalize decide (Void t.name) = vb at *
          go_wp2_with fail
          go_ret
          exact ⟨by rw [unhide HP, unhide HE]; rfl, .inr hV3, F2.trans F3⟩
      · rw [show decide (AttrsOk t.attrs) = false by simpa using hat]
        have HE := hide ((unhide HX).2.2.1 hat)
        clear hn htx hat HX
        go_wp2_with fail
        go_ret
        exact ⟨by rw [unhide HP, unhide HE]; rfl, hV2, F2⟩
    · have dtx : ((nc : Int) == 0) = false := by simpa using htx
      have HE := hide ((unhide HX).1 htx)
      clear hn htx HX
      go_wp2_with fail
      go_ret
      exact ⟨by rw [unhide HP, unhide HE]; rfl, hV1, F1⟩
  · rw [show decide (NameOk t.name) = false by simpa using hn]
    have HE := hide ((unhide HX).2.1 hn)
    clear hn HX
    go_wp2_with fail
    go_ret
    exact ⟨by rw [unhide HP, unhide HE]; rfl, hV1, F1⟩

open Classical in
set_option maxHeartbeats 3200000 in
theorem partI_leaf (B n : Nat) (w0 w : World) (a b c d e : Value) (t : Tr (n + 1)) (g : Nat) (h : RdNode (n + 1) w0 [a, b, c, d, e] t) (hB : Below w0.heap.size w0 w) (hg : w0.heap.size ≤ g) (hV : VSet B w g) (hBB : B ≤ w.heap.size) (hz : t.kind = 1) :
    Calls Tryz.prog 117 #[.agg #[a, b, c, d, e], .pointer (some ⟨g, 0, none⟩)] w fun e w' => e = .returned (.bool (partB t)) ∧ VSet B w' g ∧ Frm w w' [g] := by
  obtain ⟨_, _, _, _, e0, k1, k2, hb, hc, hd, he⟩ := h
  simp only [List.cons.injEq, and_true] at e0
  obtain ⟨rfl, rfl, rfl, rfl, rfl⟩ := e0
  have HP := hide (show partB t = leafB t from partB_leaf hz)
  obtain ⟨ab, cb, rfl, _, _⟩ := hb.shape
  obtain ⟨ac, cc, rfl, _, _⟩ := hc.shape
  obtain ⟨ad, cd, rfl, _, _⟩ := Elems.shape hd
  obtain ⟨ae, ce, rfl, _, _⟩ := Elems.shape he
  have hB1 : Below w.heap.size w (w.alloc (.cells #[.int .i64 t.kind, .slice ab t.name.length cb, .slice ac t.text.length cc, .slice ad t.attrs.length cd, .slice ae t.kids.length ce] 61)) := (Below.refl _ _).alloc (Nat.le_refl _) _
  have l1 := Loc.made w #[.int .i64 t.kind, .slice ab t.name.length cb, .slice ac t.text.length cc, .slice ad t.attrs.length cd, .slice ae t.kids.length ce] 61
  have HX : Hid ((t.name.length ≠ 0 → leafB t = false) ∧ (¬ TextOk t.text → leafB t = false) ∧ (t.attrs.length ≠ 0 → leafB t = false) ∧ (t.kids.length ≠ 0 → leafB t = false) ∧ (t.name.length = 0 → TextOk t.text → t.attrs.length = 0 → t.kids.length = 0 → leafB t = true)) := by
    exact ⟨fun h => leafB_no (fun k => h k.1), fun h => leafB_no (fun k => h k.2.2.2), fun h => leafB_no (fun k => h k.2.1), fun h => leafB_no (fun k => h k.2.2.1), fun h1 h2 h3 h4 => (leafB_iff t).2 ⟨h1, h3, h4, h2⟩⟩
  rw [hz] at *
  have ha : Below w0.heap.size w0 (w.alloc (.cells #[.int .i64 1, .slice ab t.name.length cb, .slice ac t.text.length cc, .slice ad t.attrs.length cd, .slice ae t.kids.length ce] 61)) := hB.trans (hB1.mono hB.size)
  have hV1 := hV.keep hB1
  have F1 := Frm.ofBelow hB1 [g]
  clear hB1 k1 k2 hB
  go_enter Tryz.func117, Tryz.ntmps117
  by_cases hnn : t.name.length = 0
  · have dn : ((t.name.length : Int) == 0) = true := by simpa using hnn
    have HN := hide hnn
    clear hnn
    go_wp2_with fail
    generalize (w.alloc (.cells #[.int .i64 1, .slice ab t.name.length cb, .slice ac t.text.length cc, .slice ad t.attrs.length cd, .slice ae t.kids.length ce] 61)) = w1 at *
    generalize hS : w.heap.size = S at *
    clear hS
    generalize t.name.length = nb at *
    generalize t.text.length = nc at *
    generalize t.attrs.length = nd at *
    generalize t.kids.length = ne at *
    refine (textI_any w1 _ t.text (hc.keep ha)).mono ?_
    rintro e w1 ⟨rfl, rfl⟩
    obtain ⟨x0, x1, x2, x3, x4⟩ := l1.five
    by_cases ht : TextOk t.text
    · rw [show decide (TextOk t.text) = true by simpa using ht]
      by_cases hat : nd = 0
      · have dat : ((nd : Int) == 0) = true := by simpa using hat
        by_cases hk : ne = 0
        · have dk : ((ne : Int) == 0) = true := by simpa using hk
          have HE := hide ((unhide HX).2.2.2.2 (unhide HN) ht hat hk)
          clear ht hat hk HX HN
          go_wp2_with fail
          go_ret
          exact ⟨by rw [unhide HP, unhide HE]; rfl, hV1, F1⟩
        · have dk : ((ne : Int) == 0) = false := by simpa using hk
          have HE := hide ((unhide HX).2.2.2.1 hk)
          clear ht hat hk HX HN
          go_wp2_with fail
          go_ret
          exact ⟨by rw [unhide HP, unhide HE]; rfl, hV1, F1⟩
      · have dat : ((nd : Int) == 0) = false := by simpa using hat
        have HE := hide ((unhide HX).2.2.1 hat)
        clear ht hat HX HN
        go_wp2_with fail
        go_ret
        exact ⟨by rw [unhide HP, unhide HE]; rfl, hV1, F1⟩
    · rw [show decide (TextOk t.text) = false by simpa using ht]
      have HE := hide ((unhide HX).2.1 ht)
      clear ht HX HN
      go_wp2_with fail
      go_ret
      exact ⟨by rw [unhide HP, unhide HE]; rfl, hV1, F1⟩
  · have dn : ((t.name.length : Int) == 0) = false := by simpa using hnn
    have HE := hide ((unhide HX).1 hnn)
    clear hnn HX
    go_wp2_with fail
    go_ret
    exact ⟨by rw [unhide HP, unhide HE]; rfl, hV1, F1⟩

set_option maxHeartbeats 3200000 in
theorem partI_none (B n : Nat) (w0 w : World) (a b c d e : Value) (t : Tr (n + 1)) (g : Nat) (h : RdNode (n + 1) w0 [a, b, c, d, e] t) (hV : VSet B w g) (hBB : B ≤ w.heap.size) (hz : t.kind ≠ 0) (hz1 : t.kind ≠ 1) :
    Calls Tryz.prog 117 #[.agg #[a, b, c, d, e], .pointer (some ⟨g, 0, none⟩)] w fun e w' => e = .returned (.bool (partB t)) ∧ VSet B w' g ∧ Frm w w' [g] := by
  obtain ⟨_, _, _, _, e0, k1, k2, hb, hc, hd, he⟩ := h
  simp only [List.cons.injEq, and_true] at e0
  obtain ⟨rfl, rfl, rfl, rfl, rfl⟩ := e0
  have HP := hide (show partB t = false by rw [partB_elem hz1]; exact elemB_no (fun k => hz k.1))
  obtain ⟨ab, cb, rfl, _, _⟩ := hb.shape
  obtain ⟨ac, cc, rfl, _, _⟩ := hc.shape
  obtain ⟨ad, cd, rfl, _, _⟩ := Elems.shape hd
  obtain ⟨ae, ce, rfl, _, _⟩ := Elems.shape he
  have hB1 : Below w.heap.size w (w.alloc (.cells #[.int .i64 t.kind, .slice ab t.name.length cb, .slice ac t.text.length cc, .slice ad t.attrs.length cd, .slice ae t.kids.length ce] 61)) := (Below.refl _ _).alloc (Nat.le_refl _) _
  have hV1 := hV.keep hB1
  have F1 := Frm.ofBelow hB1 [g]
  have d0 : (t.kind == 0) = false := by simpa using hz
  have d1 : (t.kind == 1) = false := by simpa using hz1
  clear hB1 k1 k2 hz hz1 hb hc hd he
  generalize t.kind = z at *
  go_enter Tryz.func117, Tryz.ntmps117
  go_wp2_with fail
  go_ret
  exact ⟨by rw [unhide HP]; rfl, hV1, F1⟩

theorem partI_any (B n : Nat) (w0 w : World) (a b c d e : Value) (t : Tr (n + 1)) (g : Nat) (h : RdNode (n + 1) w0 [a, b, c, d, e] t) (hB : Below w0.heap.size w0 w) (hg : w0.heap.size ≤ g) (hV : VSet B w g) (hBB : B ≤ w.heap.size) :
    Calls Tryz.prog 117 #[.agg #[a, b, c, d, e], .pointer (some ⟨g, 0, none⟩)] w fun e w' => e = .returned (.bool (partB t)) ∧ VSet B w' g ∧ Frm w w' [g] := by
  by_cases hz : t.kind = 0
  · exact partI_elem B n w0 w a b c d e t g h hB hg hV hBB hz
  · by_cases hz1 : t.kind = 1
    · exact partI_leaf B n w0 w a b c d e t g h hB hg hV hBB hz1
    · exact partI_none B n w0 w a b c d e t g h hV hBB hz hz1
end Go.Proofs.YtkmmhlimihkgfaaGreat

/- A row of data that can be read: its elements one by one. No condition. -/
namespace Go.Proofs.YtkmmhlimihkgfaaGreat
open Go.RowKit Go.ChangeShapes
set_option linter.unusedVariables false
set_option maxRecDepth 100000

variable {H : Type} {enc : TypeId × Value → H} {W : World} {held : Bool}

theorem list_of {α : Type} {Q : Nat → α → Prop} : ∀ n : Nat, (∀ i, i < n → ∃ a, Q i a) → ∃ l : List α, l.length = n ∧ ∀ i (hi : i < l.length), Q i l[i]
  | 0, _ => ⟨[], rfl, fun i hi => by cases hi⟩
  | n + 1, h => by
    obtain ⟨l, hl, hq⟩ := list_of n (fun i hi => h i (by omega))
    obtain ⟨a, ha⟩ := h n (by omega)
    refine ⟨l ++ [a], by simp [hl], fun i hi => ?_⟩
    by_cases hi' : i < l.length
    · rw [List.getElem_append_left hi']; exact hq i hi'
    · have : i = l.length := by simp at hi; omega
      subst this
      simp only [List.getElem_append_right (Nat.le_refl _), Nat.sub_self, List.getElem_cons_zero]
      rw [hl]; exact ha

theorem open_elems {α : Type} {t e : TypeId} {sz fuel : Nat} {cs : List Value} {x : DataW H × List MemPlace} {R : List Value → α → Prop} (ht : Tryz.prog.underlying t = some (.slice e)) (hc : Tryz.prog.cellsOf e = sz) (hs : 0 < sz)
    (hR : ∀ n C y, fuel = n + 1 → DataW.trod enc Tryz.prog W 0 (fun _ => true) held n e C = some y → ∃ a : α, R C a)
    (h : DataW.trod enc Tryz.prog W 0 (fun _ => true) held fuel t cs = some x) : ∃ v l, cs = [v] ∧ Elems W sz v l R := by
  rcases DataW.trod_slice ht h with ⟨rfl, _⟩ | ⟨a, len, cap, elems, rest, n, hf, rfl, _, _, hl, hm, hlen, hel, _, _⟩
  · exact ⟨_, [], rfl, by simp [maxLen], .inl ⟨rfl, rfl⟩⟩
  rw [hc] at hel
  have hall : ∀ i, i < len → ∃ b : α, ∃ C : List Value, C.length = sz ∧ (∀ j, j < sz → W.cell? ((a.add (i * sz)).add j) = C[j]?) ∧ R C b := by
    intro i hi
    have h1 := hel i hi
    rw [List.getElem?_eq_getElem (by omega)] at h1
    obtain ⟨C, hC, hy⟩ := Option.bind_eq_some_iff.1 h1
    obtain ⟨_, hCl, hcell⟩ := World.cells?_some hC
    obtain ⟨b, hb⟩ := hR n C _ hf hy
    exact ⟨b, C, hCl, hcell, hb⟩
  obtain ⟨l, hll, hq⟩ := list_of (Q := fun i b => ∃ C : List Value, C.length = sz ∧ (∀ j, j < sz → W.cell? ((a.add (i * sz)).add j) = C[j]?) ∧ R C b) len hall
  refine ⟨_, l, rfl, by omega, ?_⟩
  by_cases h0 : len = 0
  · have hl0 : l = [] := List.eq_nil_of_length_eq_zero (by omega)
    subst h0
    exact .inr (.inl ⟨a, cap, rfl, hm, hl0⟩)
  · obtain ⟨b, off, spot⟩ := a
    obtain ⟨C, hCl, hcell, _⟩ := hq 0 (by omega)
    have hc0 := hcell 0 hs
    rw [List.getElem?_eq_getElem (by omega)] at hc0
    have hspot : spot = none := by simpa [Addr.add] using World.cell?_spot hc0
    subst hspot
    refine .inr (.inr ⟨b, off, cap, by rw [hll], by omega, hm, fun h => by subst h; simp at hll; omega, ?_, fun i hi => ?_⟩)
    · have := lt_of_cell hc0; simpa [Addr.add] using this
    · obtain ⟨C, hCl, hcell, hr⟩ := hq i hi
      refine ⟨C, hCl, fun j hj => ?_, hr⟩
      have := hcell j hj
      rw [add_plain, add_plain] at this
      exact this

end Go.Proofs.YtkmmhlimihkgfaaGreat

/- An argument of a law that can be read as data is bytes, attributes, a tree: what the data's readings open to. No condition. -/
namespace Go.Proofs.YtkmmhlimihkgfaaGreat
open Go.RowKit Go.ChangeShapes
set_option linter.unusedVariables false
set_option maxRecDepth 100000

variable {H : Type} {enc : TypeId × Value → H} {W : World} {held : Bool}

theorem open_bytes {fuel : Nat} {cs : List Value} {x : DataW H × List MemPlace} (h : DataW.trod enc Tryz.prog W 0 (fun _ => true) held fuel 22 cs = some x) :
    ∃ v l, cs = [v] ∧ Byt W v l := by
  rcases open_ints Tryz.underlying22 Tryz.underlying5 (by kernel_rfl) h with ⟨hcs, _⟩ | ⟨a, len, cap, zs, hcs, _, hl, hm, hz, _, hcell, hwz⟩
  · exact ⟨_, _, hcs, byt_of_row (zs := []) (.inl ⟨rfl, rfl, rfl, rfl⟩)⟩
  · exact ⟨_, _, hcs, byt_of_row (.inr ⟨_, rfl, hl, hm, by simpa using hz, hcell, hwz⟩)⟩

theorem some_at {α : Type} {l : List α} {n i : Nat} (h : l.length = n) (hi : i < n) : ∃ y, l[i]? = some y := ⟨l[i]'(by omega), List.getElem?_eq_getElem (by omega)⟩

theorem open_attr {fuel : Nat} {cs : List Value} {x : DataW H × List MemPlace} (h : DataW.trod enc Tryz.prog W 0 (fun _ => true) held fuel 154 cs = some x) : ∃ a, RdAttr W cs a := by
  obtain ⟨xs, n, _, _, hlen, hxs, hf⟩ := DataW.trod_struct Tryz.underlying154 h
  have hlen2 : cs.length = 2 := hlen.trans (by kernel_rfl)
  match cs, hlen2 with
  | [c0, c1], _ =>
    obtain ⟨y0, e0⟩ := some_at (i := 0) hxs (by simp)
    obtain ⟨y1, e1⟩ := some_at (i := 1) hxs (by simp)
    have h0 : DataW.trod enc Tryz.prog W 0 (fun _ => true) held n 22 (([c0, c1].drop 0).take (Tryz.prog.cellsOf 22)) = some y0 := (hf 0 _ rfl).trans e0
    have h1 : DataW.trod enc Tryz.prog W 0 (fun _ => true) held n 22 (([c0, c1].drop 1).take (Tryz.prog.cellsOf 22)) = some y1 := (hf 1 _ rfl).trans e1
    have k1 : Tryz.prog.cellsOf 22 = 1 := by kernel_rfl
    simp only [k1, List.drop, List.take] at h0 h1
    obtain ⟨v0, l0, g0, b0⟩ := open_bytes h0
    obtain ⟨v1, l1, g1, b1⟩ := open_bytes h1
    simp at g0 g1
    subst g0; subst g1
    exact ⟨(l0, l1), _, _, rfl, b0, b1⟩

theorem open_node : ∀ (m : Nat) {fuel : Nat} {cs : List Value} {x : DataW H × List MemPlace}, fuel ≤ 2 * m → DataW.trod enc Tryz.prog W 0 (fun _ => true) held fuel 53 cs = some x → ∃ t, RdNode m W cs t
  | 0, fuel, cs, x, hm, h => by
    obtain rfl : fuel = 0 := by omega
    simp [DataW.trod] at h
  | m + 1, fuel, cs, x, hm, h => by
    obtain ⟨xs, n, hn, _, hlen, hxs, hf⟩ := DataW.trod_struct Tryz.underlying53 h
    have hlen5 : cs.length = 5 := hlen.trans (by kernel_rfl)
    match cs, hlen5 with
    | [c0, c1, c2, c3, c4], _ =>
      obtain ⟨y0, e0⟩ := some_at (i := 0) hxs (by simp)
      obtain ⟨y1, e1⟩ := some_at (i := 1) hxs (by simp)
      obtain ⟨y2, e2⟩ := some_at (i := 2) hxs (by simp)
      obtain ⟨y3, e3⟩ := some_at (i := 3) hxs (by simp)
      obtain ⟨y4, e4⟩ := some_at (i := 4) hxs (by simp)
      have h0 : DataW.trod enc Tryz.prog W 0 (fun _ => true) held n 3 (([c0, c1, c2, c3, c4].drop 0).take (Tryz.prog.cellsOf 3)) = some y0 := (hf 0 _ rfl).trans e0
      have h1 : DataW.trod enc Tryz.prog W 0 (fun _ => true) held n 22 (([c0, c1, c2, c3, c4].drop 1).take (Tryz.prog.cellsOf 22)) = some y1 := (hf 1 _ rfl).trans e1
      have h2 : DataW.trod enc Tryz.prog W 0 (fun _ => true) held n 22 (([c0, c1, c2, c3, c4].drop 2).take (Tryz.prog.cellsOf 22)) = some y2 := (hf 2 _ rfl).trans e2
      have h3 : DataW.trod enc Tryz.prog W 0 (fun _ => true) held n 50 (([c0, c1, c2, c3, c4].drop 3).take (Tryz.prog.cellsOf 50)) = some y3 := (hf 3 _ rfl).trans e3
      have h4 : DataW.trod enc Tryz.prog W 0 (fun _ => true) held n 51 (([c0, c1, c2, c3, c4].drop 4).take (Tryz.prog.cellsOf 51)) = some y4 := (hf 4 _ rfl).trans e4
      have ki : Tryz.prog.cellsOf 3 = 1 := by kernel_rfl
      have k1 : Tryz.prog.cellsOf 22 = 1 := by kernel_rfl
      have k2 : Tryz.prog.cellsOf 50 = 1 := by kernel_rfl
      have k3 : Tryz.prog.cellsOf 51 = 1 := by kernel_rfl
      simp only [ki, k1, k2, k3, List.drop, List.take] at h0 h1 h2 h3 h4
      obtain ⟨k, g0, _, hk⟩ := DataW.trod_int Tryz.underlying3 h0
      obtain ⟨v1, l1, g1, b1⟩ := open_bytes h1
      obtain ⟨v2, l2, g2, b2⟩ := open_bytes h2
      obtain ⟨v3, l3, g3, b3⟩ := open_elems (sz := 2) Tryz.underlying50 (by kernel_rfl) (by omega) (fun n C y _ hy => open_attr hy) h3
      obtain ⟨v4, l4, g4, b4⟩ := open_elems (sz := 5) Tryz.underlying51 (by kernel_rfl) (by omega) (fun n' C y hn' hy => open_node m (by omega) hy) h4
      simp at g0 g1 g2 g3 g4
      subst g0; subst g1; subst g2; subst g3; subst g4
      obtain ⟨q1, q2⟩ := bounds_i64 hk
      exact ⟨(⟨k, l1, l2, l3, l4⟩ : Nd (Tr m)), _, _, _, _, rfl, q1, q2, b1, b2, b3, b4⟩

/-- An argument that is a row of bytes. -/
theorem arg_bytes {r : Reach} {base : Nat} {v : Value} {d : DataW H} {p : List MemPlace} (hv : Value.okWide Tryz.prog W r base 22 v) (h : DataW.Trod enc Tryz.prog W 0 (fun _ => true) held 22 v d p) : ∃ l, Byt W v l := by
  obtain ⟨a, len, cap, rfl⟩ := WideShapes.okWide_slice Tryz.underlying22 hv
  obtain ⟨fuel, hf⟩ := h
  obtain ⟨u, l, hu, hb⟩ := open_bytes hf
  simp [Value.cells] at hu
  subst hu
  exact ⟨l, hb⟩

/-- An argument that is a node. -/
theorem arg_node {r : Reach} {base : Nat} {v : Value} {x : DataW H} {p : List MemPlace} (hv : Value.okWide Tryz.prog W r base 53 v) (h : DataW.Trod enc Tryz.prog W 0 (fun _ => true) held 53 v x p) :
    ∃ (a b c d e : Value) (m : Nat) (t : Tr (m + 1)), v = .agg #[a, b, c, d, e] ∧ RdNode (m + 1) W [a, b, c, d, e] t := by
  obtain ⟨cs, rfl, hsz⟩ := WideShapes.okWide_struct Tryz.underlying53 hv
  obtain ⟨fuel, hf⟩ := h
  have h5 : Tryz.prog.cellsOf 53 = 5 := by kernel_rfl
  rw [h5] at hsz
  obtain ⟨t, ht⟩ := open_node (fuel + 1) (by omega) hf
  obtain ⟨l⟩ := cs
  match l, hsz with
  | [a, b, c, d, e], _ => exact ⟨a, b, c, d, e, fuel, t, rfl, ht⟩
/-- An argument that is a node: a tree at every depth from some depth on. -/
theorem arg_nodeM {r : Reach} {base : Nat} {v : Value} {x : DataW H} {p : List MemPlace} (hv : Value.okWide Tryz.prog W r base 53 v) (h : DataW.Trod enc Tryz.prog W 0 (fun _ => true) held 53 v x p) :
    ∃ (a b c d e : Value) (M : Nat), v = .agg #[a, b, c, d, e] ∧ ∀ m, M ≤ m → ∃ t : Tr (m + 1), RdNode (m + 1) W [a, b, c, d, e] t := by
  obtain ⟨cs, rfl, hsz⟩ := WideShapes.okWide_struct Tryz.underlying53 hv
  obtain ⟨fuel, hf⟩ := h
  have h5 : Tryz.prog.cellsOf 53 = 5 := by kernel_rfl
  rw [h5] at hsz
  obtain ⟨l⟩ := cs
  match l, hsz with
  | [a, b, c, d, e], _ => exact ⟨a, b, c, d, e, fuel, rfl, fun m hm => open_node (m + 1) (by omega) hf⟩
end Go.Proofs.YtkmmhlimihkgfaaGreat

/- The nodes of a tree in the markup's order, as they lie in memory: what impl.walk hands on. -/
namespace Go.Proofs.YtkmmhlimihkgfaaGreat
open Go.RowKit
set_option linter.unusedVariables false
set_option maxRecDepth 100000

/-- A node as it is handed on: its depth, its five values, the tree that they read as. -/
structure It (w0 : World) where
  deep : Int
  a : Value
  b : Value
  c : Value
  d : Value
  e : Value
  m : Nat
  t : Tr (m + 1)
  rd : RdNode (m + 1) w0 [a, b, c, d, e] t
def encIt {w0 : World} (x : It w0) : Array Value := #[.int .i64 x.deep, .agg #[x.a, x.b, x.c, x.d, x.e]]

/-- xs are the nodes of the tree t, whose cells are C, in the markup's order. -/
def Pre (w0 : World) : (n : Nat) → Int → List Value → Tr n → List (It w0) → Prop
  | 0 => fun _ _ _ _ => False
  | n + 1 => fun deep C t xs => ∃ (a b c d e : Value) (rd : RdNode (n + 1) w0 [a, b, c, d, e] t) (ks : List (Tr n × List (It w0))), C = [a, b, c, d, e] ∧ xs = ⟨deep, a, b, c, d, e, n, t, rd⟩ :: (ks.map (·.2)).flatten ∧ ks.map (·.1) = t.kids ∧
      Elems w0 5 e ks (fun D k => Pre w0 n (deep + 1) D k.1 k.2)

theorem elems_pair {α β : Type} {w : World} {size : Nat} {v : Value} {l : List α} {R : List Value → α → Prop} {R' : List Value → α × β → Prop} (h : Elems w size v l R) (hR : ∀ C x, R C x → ∃ y, R' C (x, y)) :
    ∃ ks : List (α × β), ks.map (·.1) = l ∧ Elems w size v ks R' := by
  obtain ⟨hm, ⟨rfl, rfl⟩ | ⟨x, cap, rfl, hc, rfl⟩ | ⟨b, off, cap, rfl, h1, h2, h3, h4, h5⟩⟩ := h
  · exact ⟨[], rfl, hm, .inl ⟨rfl, rfl⟩⟩
  · exact ⟨[], rfl, hm, .inr (.inl ⟨x, cap, rfl, hc, rfl⟩)⟩
  · obtain ⟨ks, hl, hk⟩ := list_of (Q := fun i (k : α × β) => ∃ hi : i < l.length, k.1 = l[i] ∧ ∃ C : List Value, C.length = size ∧ (∀ j, j < size → w.cell? ⟨b, off + i * size + j, none⟩ = C[j]?) ∧ R' C k) l.length (fun i hi => by
      obtain ⟨C, hC, hc, hr⟩ := h5 i hi
      obtain ⟨y, hy⟩ := hR C _ hr
      exact ⟨(l[i], y), hi, rfl, C, hC, hc, hy⟩)
    refine ⟨ks, ?_, by omega, .inr (.inr ⟨b, off, cap, by rw [hl], by omega, h2, ?_, h4, fun i hi => ?_⟩)⟩
    · apply List.ext_getElem
      · simp [hl]
      · intro i h1' h2'
        simp only [List.getElem_map]
        exact (hk i (by simpa using h1')).2.1
    · intro e; rw [e] at hl; exact h3 (List.eq_nil_of_length_eq_zero hl.symm)
    · exact (hk i hi).2.2

theorem pre_ex (w0 : World) : ∀ (n : Nat) (deep : Int) (C : List Value) (t : Tr n), RdNode n w0 C t → ∃ xs, Pre w0 n deep C t xs
  | 0, _, _, t, _ => t.elim
  | n + 1, deep, C, t, h => by
    have h' := h
    obtain ⟨a, b, c, d, rfl, k1, k2, hb, hc, hd, he⟩ := h
    obtain ⟨ks, hks, hel⟩ := elems_pair (R' := fun D k => Pre w0 n (deep + 1) D k.1 k.2) he (fun D x hx => pre_ex w0 n (deep + 1) D x hx)
    exact ⟨_, _, _, _, _, _, h', ks, rfl, rfl, hks, hel⟩

/-- Depth and the test of each. -/
def tst {w0 : World} (x : It w0) : Int × Bool := (x.deep, partB x.t)
def pn : (n : Nat) → Int → Tr n → List (Int × Bool)
  | 0 => fun _ _ => []
  | n + 1 => fun deep t => (deep, partB t) :: (t.kids.map (pn n (deep + 1))).flatten

theorem pn_succ (n : Nat) (deep : Int) (t : Tr (n + 1)) : pn (n + 1) deep t = (deep, partB t) :: (t.kids.map (pn n (deep + 1))).flatten := rfl
theorem Elems.mem {α : Type} {w : World} {size : Nat} {v : Value} {l : List α} {R : List Value → α → Prop} (h : Elems w size v l R) : ∀ x ∈ l, ∃ C, R C x := by
  intro x hx
  obtain ⟨i, hi, rfl⟩ := List.getElem_of_mem hx
  obtain ⟨hm, ⟨rfl, rfl⟩ | ⟨_, cap, rfl, hc, rfl⟩ | ⟨b, off, cap, rfl, h1, h2, h3, h4, h5⟩⟩ := h
  · simp at hi
  · simp at hi
  · obtain ⟨C, _, _, hr⟩ := h5 i hi
    exact ⟨C, hr⟩
theorem pre_pn (w0 : World) : ∀ (n : Nat) (deep : Int) (C : List Value) (t : Tr n) (xs : List (It w0)), Pre w0 n deep C t xs → xs.map tst = pn n deep t
  | 0, _, _, t, _, _ => t.elim
  | n + 1, deep, C, t, xs, ⟨a, b, c, d, e, rd, ks, _, hxs, hks, hel⟩ => by
    subst hxs
    rw [List.map_cons, pn_succ, ← hks, List.map_flatten, List.map_map, List.map_map]
    congr 2
    apply List.map_congr_left
    intro k hk
    obtain ⟨D, hD⟩ := hel.mem k hk
    exact pre_pn w0 n (deep + 1) D k.1 k.2 hD

/-- The tests, one behind the other, where 'left' nodes are left. -/
def scan : List (Int × Bool) → Int → Bool × Int
  | [], left => (true, left)
  | x :: r, left => if left - 1 < 0 ∨ 20 < x.1 ∨ x.2 = false then (false, left - 1) else scan r (left - 1)
theorem scan_app (a b : List (Int × Bool)) (left : Int) : scan (a ++ b) left = if (scan a left).1 = true then scan b (scan a left).2 else (false, (scan a left).2) := by
  induction a generalizing left with
  | nil => simp [scan]
  | cons x r ih =>
    rw [List.cons_append, scan, scan]
    by_cases h : left - 1 < 0 ∨ 20 < x.1 ∨ x.2 = false
    · rw [if_pos h, if_pos h]; simp
    · rw [if_neg h, if_neg h, ih]
theorem scan_no {a b : List (Int × Bool)} {left : Int} (h : (scan a left).1 = false) (hp : a <+: b) : (scan b left).1 = false := by
  obtain ⟨r, rfl⟩ := hp
  rw [scan_app, h]
  simp
theorem scan_yes {a : List (Int × Bool)} {left : Int} (h : (scan a left).1 = true) : (scan a left).2 = left - a.length := by
  induction a generalizing left with
  | nil => simp [scan]
  | cons x r ih =>
    rw [scan] at h ⊢
    by_cases hc : left - 1 < 0 ∨ 20 < x.1 ∨ x.2 = false
    · rw [if_pos hc] at h; cases h
    · rw [if_neg hc] at h ⊢; rw [ih h]; simp; omega
theorem okK_scan {α : Type} {f : α → Int → Bool × Int} {p : α → List (Int × Bool)} (h : ∀ x left, f x left = scan (p x) left) : ∀ (l : List α) (left : Int), okK f l left = scan (l.map p).flatten left
  | [], left => rfl
  | x :: r, left => by
    rw [okK, List.map_cons, List.flatten_cons, scan_app, h, okK_scan h r]
theorem okT_scan : ∀ (n : Nat) (deep : Int) (t : Tr n) (left : Int), okT n deep t left = scan (pn n deep t) left
  | 0, _, t, _ => t.elim
  | n + 1, deep, t, left => by
    rw [okT_succ, pn_succ, scan]
    by_cases h1 : left - 1 < 0 ∨ 20 < deep
    · rw [if_pos h1, if_pos (by rcases h1 with h | h <;> simp [h])]
    · rw [if_neg h1]
      by_cases h2 : t.kind = 1
      · rw [if_pos h2]
        have hp : partB t = leafB t := partB_leaf h2
        by_cases h3 : leafB t = true
        · have hk : t.kids = [] := List.eq_nil_of_length_eq_zero ((leafB_iff t).1 h3).2.2.1
          rw [if_neg (by simp only [hp, h3]; simp; omega), hk, h3]; rfl
        · have h3' : leafB t = false := by simpa using h3
          rw [if_pos (by simp only [hp, h3']; simp), h3']
      · rw [if_neg h2]
        have hp : partB t = elemB t := partB_elem h2
        by_cases h3 : elemB t = true
        · rw [if_pos h3, if_neg (by simp only [hp, h3]; simp; omega)]
          exact okK_scan (okT_scan n (deep + 1)) t.kids (left - 1)
        · have h3' : elemB t = false := by simpa using h3
          rw [if_neg h3, if_pos (by simp only [hp, h3']; simp)]
end Go.Proofs.YtkmmhlimihkgfaaGreat

/- impl.walk hands on the nodes in the markup's order. -/
namespace Go.Proofs.YtkmmhlimihkgfaaGreat
open Go.RowKit Go.Shelf
set_option linter.unusedVariables false
set_option maxRecDepth 100000
attribute [local go_sem] Oper.semAt_some

/-- The boxes that impl.walk lays. -/
def BxN (o : Obj) : Prop := ∃ cs, o = .cells cs 61 (0, 0)
theorem below_grown {W W' : World} (h : Below W.heap.size W W') : W.grownBy W' none := ⟨h.os, h.tape, h.output, h.size, fun k hk _ => h.block k hk⟩

theorem rd_shape {n : Nat} {w : World} {C : List Value} {t : Tr n} (h : RdNode n w C t) : ∃ z ab nb cb ac nc cc ad nd cd ae ne ce, C = [.int .i64 z, .slice ab nb cb, .slice ac nc cc, .slice ad nd cd, .slice ae ne ce] := by
  cases n with
  | zero => exact t.elim
  | succ n =>
    obtain ⟨a, b, c, d, rfl, _, _, hb, hc, hd, he⟩ := h
    obtain ⟨ab, cb, rfl, _, _⟩ := hb.shape
    obtain ⟨ac, cc, rfl, _, _⟩ := hc.shape
    obtain ⟨ad, cd, rfl, _, _⟩ := Elems.shape hd
    obtain ⟨ae, ce, rfl, _, _⟩ := Elems.shape he
    exact ⟨_, _, _, _, _, _, _, _, _, _, _, _, _, rfl⟩
theorem pre_rd {w0 : World} {n : Nat} {deep : Int} {C : List Value} {t : Tr n} {xs : List (It w0)} (h : Pre w0 n deep C t xs) : RdNode n w0 C t := by
  cases n with
  | zero => exact t.elim
  | succ n =>
    obtain ⟨a, b, c, d, e, rd, ks, rfl, _⟩ := h
    exact rd
theorem sum_mem {l : List Nat} {x : Nat} (h : x ∈ l) : x ≤ l.sum := by
  induction l with
  | nil => cases h
  | cons y l ih =>
    rw [List.sum_cons]
    rcases List.mem_cons.1 h with rfl | h'
    · omega
    · have := ih h'; omega
theorem sz_kid {n : Nat} {t : Tr (n + 1)} {u : Tr n} (h : u ∈ t.kids) : szT n u + 1 ≤ szT (n + 1) t := by
  have h1 : szT n u ≤ (t.kids.map (szT n)).sum := sum_mem (List.mem_map.2 ⟨u, h, rfl⟩)
  have h2 : 0 < t.kids.length := List.length_pos_of_mem h
  have h3 : szT (n + 1) t = t.name.length + t.text.length + szA t.attrs + (t.kids.length + (t.kids.map (szT n)).sum) := rfl
  omega
theorem flat_take {α β : Type} (ks : List (α × List β)) (j : Nat) (h : j < ks.length) : ((ks.take (j + 1)).map (·.2)).flatten = ((ks.take j).map (·.2)).flatten ++ ks[j].2 := by
  rw [List.take_succ_eq_append_getElem h, List.map_append, List.flatten_append]
  simp only [List.map_cons, List.map_nil, List.flatten_cons, List.flatten_nil, List.append_nil]
theorem flat_pre {α β : Type} (ks : List (α × List β)) (j : Nat) : ((ks.take j).map (·.2)).flatten <+: (ks.map (·.2)).flatten := by
  refine ⟨((ks.drop j).map (·.2)).flatten, ?_⟩
  rw [← List.flatten_append, ← List.map_append, List.take_append_drop]

/-- What is asked of impl.walk at a tree of depth below k. -/
def WalkSaid (w0 : World) (l : Nat) (Mt : Nat → Obj → Prop) (J Jx : List (It w0) → World → Prop) (XS : List (It w0)) (k : Nat) : Prop :=
  ∀ (deep : Int) (a b c d e : Value) (t : Tr k) (xs : List (It w0)), Pre w0 k deep [a, b, c, d, e] t xs → ∀ (n : Nat) (pre : List (It w0)) (W : World), Below w0.heap.size w0 W → (∀ q o, W.heap.size ≤ q → BxN o → ¬ Mt q o) → J pre W → pre ++ xs <+: XS → 0 ≤ deep → deep + szT k t ≤ 1000000000 →
    CallsIn Fence.wide n Tryz.prog 162 #[.agg #[a, b, c, d, e], .int .i64 deep, .func (.yield l) #[] #[]] W fun e W' =>
      (e = .returned (.bool true) ∧ J (pre ++ xs) W' ∧ Frp Mt W W') ∨ (e = .returned (.bool false) ∧ ∃ q, q <+: xs ∧ Jx (pre ++ q) W')

set_option maxHeartbeats 3200000 in
theorem walk_succ (w0 : World) (l : Nat) (Mt : Nat → Obj → Prop) (hG0 : ∀ i o, i < w0.heap.size → ¬ Mt i o) (J Jx : List (It w0) → World → Prop) (XS : List (It w0)) (hJ : ∀ s W W', J s W → W.grownBy W' none → J s W')
    (hY : ∀ m pre x W, J pre W → pre ++ [x] <+: XS → YieldAt Fence.wide m Tryz.prog l (encIt x) W fun e W' =>
      (e = .returned (.bool true) ∧ J (pre ++ [x]) W' ∧ Frp Mt W W') ∨ (e = .returned (.bool false) ∧ Jx (pre ++ [x]) W')) (k : Nat) (H : WalkSaid w0 l Mt J Jx XS k) : WalkSaid w0 l Mt J Jx XS (k + 1) := by
  intro deep a b c d e t xs hP n pre W hW hGW hj hpx hd0 hd1
  obtain ⟨_, _, _, _, _, rd, ks, hC, hxs, hks, hel⟩ := hP
  simp only [List.cons.injEq, and_true] at hC
  obtain ⟨rfl, rfl, rfl, rfl, rfl⟩ := hC
  have rd' := rd
  obtain ⟨_, _, _, _, e0, k1, k2, hb, hc, hd, he⟩ := rd'
  simp only [List.cons.injEq, and_true] at e0
  obtain ⟨rfl, rfl, rfl, rfl, rfl⟩ := e0
  obtain ⟨ab, cb, rfl, _, _⟩ := hb.shape
  obtain ⟨ac, cc, rfl, _, _⟩ := hc.shape
  obtain ⟨ad, cd, rfl, _, _⟩ := Elems.shape hd
  obtain ⟨ae, ce, rfl, hce, hcm⟩ := Elems.shape he
  obtain ⟨x, hx⟩ : ∃ x : It w0, x = ⟨deep, .int .i64 t.kind, .slice ab t.name.length cb, .slice ac t.text.length cc, .slice ad t.attrs.length cd, .slice ae t.kids.length ce, k, t, rd⟩ := ⟨_, rfl⟩
  have hB1 : Below W.heap.size W (W.alloc (.cells #[.int .i64 t.kind, .slice ab t.name.length cb, .slice ac t.text.length cc, .slice ad t.attrs.length cd, .slice ae t.kids.length ce] 61)) := (Below.refl _ _).alloc (Nat.le_refl _) _
  have l1 := Loc.made W #[.int .i64 t.kind, .slice ab t.name.length cb, .slice ac t.text.length cc, .slice ad t.attrs.length cd, .slice ae t.kids.length ce] 61
  have hy := hY (n - 1) pre x _ (hJ pre W _ hj (below_grown hB1)) (by
    refine List.IsPrefix.trans ?_ hpx
    rw [hxs, ← hx]
    exact ⟨(ks.map (·.2)).flatten, by simp⟩)
  rw [hx] at hy
  simp only [encIt] at hy
  rw [← hx] at hy hxs
  obtain ⟨fn, tmps, assign, body, hy1, hR⟩ := hy
  refine callsIn_of_wp Tryz.func162 rfl trivial ?_ rfl
  simp only [Tryz.ntmps162, List.size_toArray, List.length_cons, List.length_nil, Nat.reduceAdd, Nat.reduceSub, Array.replicate_succ, Array.replicate_zero, List.push_toArray, List.append_toArray, List.nil_append, List.cons_append]
  gi_wp2_with fail
  refine ⟨(fun h => (by cases h)), ?_⟩
  generalize (W.alloc (.cells #[.int .i64 t.kind, .slice ab t.name.length cb, .slice ac t.text.length cc, .slice ad t.attrs.length cd, .slice ae t.kids.length ce] 61)) = W1 at *
  refine hR.mono ?_
  clear hR
  rintro e W2 (⟨rfl, hJ2, hF2⟩ | ⟨rfl, hx2⟩)
  · have l2 := l1.frp hF2 (hGW _ _ (Nat.le_refl _) ⟨_, rfl⟩)
    have hGW2 : ∀ q o, W2.heap.size ≤ q → BxN o → ¬ Mt q o := fun q o h hb => hGW q o (by have := hB1.size; have := hF2.size; omega) hb
    have hW2 : Below w0.heap.size w0 W2 := hW.trans ((hB1.mono hW.size).trans (hF2.below (Nat.le_trans hW.size hB1.size) hG0))
    have F2 : Frp Mt W W2 := (Frp.ofBelow hB1 Mt).trans hF2
    have hlen : ks.length = t.kids.length := by rw [← hks]; simp
    have HX := hide hxs
    have HK := hide hks
    have HE := hide hx
    unfold maxLen at hcm
    have hm' : (t.kids.length : Int) ≤ 9223372036854775807 := by omega
    have HZ : Hid (∀ u ∈ t.kids, deep + 1 + szT k u ≤ 1000000000) := fun u hu => by have := sz_kid hu; omega
    have hdp : deep ≤ 1000000000 := by omega
    clear hxs hks hx hB1 hF2 hy1 hY hd1
    obtain ⟨x0, x1, x2, x3, x4⟩ := l2.five
    generalize hnk : t.kids.length = nk at *
    gi_wp2_with fail
    gi_loopw [17] (fun i wr => ∃ j : Nat, j ≤ nk ∧ i = .int .i64 j ∧ J (pre ++ x :: ((ks.take j).map (·.2)).flatten) wr ∧ Frp Mt W2 wr) (fun i _ => nk - (intOf i).toNat)
    case atStart => exact ⟨0, Nat.zero_le _, rfl, by simpa using hJ2, Frp.refl _ _⟩
    case round =>
      obtain ⟨j, hj1, rfl, hJr, hFr⟩ := hrel
      have hWr : Below w0.heap.size w0 wr := hW2.trans (hFr.below hW2.size hG0)
      have hGr : ∀ q o, wr.heap.size ≤ q → BxN o → ¬ Mt q o := fun q o h hb => hGW2 q o (Nat.le_trans hFr.size h) hb
      by_cases hlt : j < nk
      · have hjk : j < ks.length := by omega
        obtain ⟨kb, koff, rfl, hkb, hun, _, C, hC5, hcell, hPk⟩ := hel.at hjk
        clear hun
        obtain ⟨z, ab', nb', cb', ac', nc', cc', ad', nd', cd', ae', ne', ce', rfl⟩ := rd_shape (pre_rd hPk)
        have y0 := (hWr.cell (p := ⟨kb, koff + j * 5, none⟩) hkb).trans (hcell 0 (by omega))
        have y1 := (hWr.cell (p := ⟨kb, koff + j * 5 + 1, none⟩) hkb).trans (hcell 1 (by omega))
        have y2 := (hWr.cell (p := ⟨kb, koff + j * 5 + 2, none⟩) hkb).trans (hcell 2 (by omega))
        have y3 := (hWr.cell (p := ⟨kb, koff + j * 5 + 3, none⟩) hkb).trans (hcell 3 (by omega))
        have y4 := (hWr.cell (p := ⟨kb, koff + j * 5 + 4, none⟩) hkb).trans (hcell 4 (by omega))
        simp only [List.getElem?_cons_zero, List.getElem?_cons_succ] at y0 y1 y2 y3 y4
        have hB3 : Below wr.heap.size wr (wr.alloc (.cells #[.int .i64 z, .slice ab' nb' cb', .slice ac' nc' cc', .slice ad' nd' cd', .slice ae' ne' ce'] 61)) := (Below.refl _ _).alloc (Nat.le_refl _) _
        have hmem : ks[j].1 ∈ t.kids := by rw [← unhide HK]; exact List.mem_map.2 ⟨ks[j], List.getElem_mem hjk, rfl⟩
        have hpre : (pre ++ x :: ((ks.take j).map (·.2)).flatten) ++ ks[j].2 <+: XS := by
          refine List.IsPrefix.trans ?_ hpx
          rw [unhide HX]
          obtain ⟨r, hr⟩ := flat_pre ks (j + 1)
          rw [flat_take ks j hjk] at hr
          exact ⟨r, by simp only [List.append_assoc, List.cons_append] at hr ⊢; rw [hr]⟩
        have hcall := H (deep + 1) _ _ _ _ _ ks[j].1 ks[j].2 hPk (n - 1) (pre ++ x :: ((ks.take j).map (·.2)).flatten) _ (hWr.trans (hB3.mono hWr.size)) (fun q o h hb => hGr q o (Nat.le_trans hB3.size h) hb) (hJ _ _ _ hJr (below_grown hB3)) hpre (by omega) (unhide HZ _ hmem)
        have HC := hide hcall
        have F3 := hFr.trans (Frp.ofBelow hB3 Mt)
        have hlt' : (j : Int) < (nk : Int) := by omega
        clear hcall hel hcell hPk hmem hpre hB3 hJr hJ2
        have HL := hide hlen
        have HNK := hide hnk
        clear hlen hnk
        gi_wp2
        refine ⟨trivial, (fun h => (by cases h)), ?_⟩
        refine (unhide HC).mono ?_
        rintro e W3 (⟨rfl, hJ3, hF3⟩ | ⟨rfl, q, hq, hx3⟩)
        · gi_wp2
          go_roundw
          case rel => exact ⟨j + 1, by omega, by go_num, by rw [flat_take ks j hjk, ← List.cons_append, ← List.append_assoc]; exact hJ3, F3.trans hF3⟩
          case measure => simp [intOf]; omega
        · gi_wp2
          go_ret
          refine .inr ⟨rfl, x :: ((ks.take j).map (·.2)).flatten ++ q, ?_, by rw [← List.append_assoc]; exact hx3⟩
          obtain ⟨r, hr⟩ := flat_pre ks (j + 1)
          obtain ⟨r', hr'⟩ := hq
          rw [flat_take ks j hjk, ← hr'] at hr
          exact ⟨r' ++ r, by rw [unhide HX, ← hr]; simp⟩
      · have e : j = nk := by omega
        subst e
        have HL := hide hlen
        clear hlen hel
        gi_wp2
        go_ret
        refine .inl ⟨rfl, ?_, F2.trans hFr⟩
        rw [unhide HX]
        rw [List.take_of_length_le (by have := unhide HL; omega)] at hJr
        exact hJr
  · gi_wp2_with fail
    go_ret
    exact .inr ⟨rfl, [x], by rw [hxs]; exact ⟨_, rfl⟩, hx2⟩

theorem walk_any (w0 : World) (l : Nat) (Mt : Nat → Obj → Prop) (hG0 : ∀ i o, i < w0.heap.size → ¬ Mt i o) (J Jx : List (It w0) → World → Prop) (XS : List (It w0)) (hJ : ∀ s W W', J s W → W.grownBy W' none → J s W')
    (hY : ∀ m pre x W, J pre W → pre ++ [x] <+: XS → YieldAt Fence.wide m Tryz.prog l (encIt x) W fun e W' =>
      (e = .returned (.bool true) ∧ J (pre ++ [x]) W' ∧ Frp Mt W W') ∨ (e = .returned (.bool false) ∧ Jx (pre ++ [x]) W')) (k : Nat) : WalkSaid w0 l Mt J Jx XS k := by
  induction k with
  | zero => exact fun _ _ _ _ _ _ t => t.elim
  | succ k ih => exact walk_succ w0 l Mt hG0 J Jx XS hJ hY k ih

set_option maxHeartbeats 1600000 in
/-- The function that nodesOf hands back: it hands on all nodes. q: the block of what it holds. -/
theorem nodes_hand (w0 w : World) (l q k : Nat) (Mt : Nat → Obj → Prop) (hG0 : ∀ i o, i < w0.heap.size → ¬ Mt i o) (a b c d e : Value) (t : Tr (k + 1)) (xs : List (It w0)) (hP : Pre w0 (k + 1) 1 [a, b, c, d, e] t xs) (hsz : szT (k + 1) t ≤ 2097152)
    (hw : Below w0.heap.size w0 w) (hl : Loc w q #[a, b, c, d, e] 61) : Hands Tryz.prog 161 #[.pointer (some ⟨q, 0, none⟩)] encIt BxN Mt xs l w := by
  intro J Jx hJ hY n W hW hGW h0
  have l1 := hl.all hW
  obtain ⟨z, ab, nb, cb, ac, nc, cc, ad, nd, cd, ae, ne, ce, hC⟩ := rd_shape (pre_rd hP)
  simp only [List.cons.injEq, and_true] at hC
  obtain ⟨rfl, rfl, rfl, rfl, rfl⟩ := hC
  have hc := walk_any w0 l Mt hG0 J Jx xs hJ hY (k + 1) 1 _ _ _ _ _ t xs hP (n - 1) [] W (hw.trans (hW.mono hw.size)) hGW h0 (by simp) (by omega) (by omega)
  obtain ⟨x0, x1, x2, x3, x4⟩ := l1.five
  have HC := hide hc
  clear hc hY hJ hP
  refine callsIn_of_wp Tryz.func161 rfl trivial ?_ rfl
  simp only [Tryz.ntmps161, List.size_toArray, List.length_cons, List.length_nil, Nat.reduceAdd, Nat.reduceSub, Array.replicate_succ, Array.replicate_zero, List.push_toArray, List.append_toArray, List.nil_append, List.cons_append]
  gi_wp2
  refine ⟨trivial, (fun h => (by cases h)), ?_⟩
  refine (unhide HC).mono ?_
  rintro e W3 (⟨rfl, hJ3, hF3⟩ | ⟨rfl, q, hq, hx3⟩)
  · gi_wp2
    go_end0
    exact ⟨⟨_, rfl⟩, .inl (by simpa using hJ3)⟩
  · gi_wp2
    go_end0
    exact ⟨⟨_, rfl⟩, .inr ⟨q, hq, by simpa using hx3⟩⟩

/-- impl.nodesOf: what it is given is boxed, and held by the function that it hands back. -/
theorem nodesOf_any (w : World) (z : Int) (ab ac ad ae : Option Addr) (nb cb nc cc nd cd ne ce : Nat) :
    Calls Tryz.prog 156 #[.agg #[.int .i64 z, .slice ab nb cb, .slice ac nc cc, .slice ad nd cd, .slice ae ne ce]] w fun e w' => e = .returned (.func (.func 161) #[] #[.pointer (some ⟨w.heap.size, 0, none⟩)]) ∧
      w' = w.alloc (.cells #[.int .i64 z, .slice ab nb cb, .slice ac nc cc, .slice ad nd cd, .slice ae ne ce] 61) := by
  have hmf : ∀ (fn : Fn) (first cap : Array Value) (w : World), (Instr.makeFunc fn first cap).run Tryz.prog w = .ok (.func fn first cap) w := fun _ _ _ _ => rfl
  go_enter Tryz.func156, Tryz.ntmps156
  go_wp2
  go_ret
  exact ⟨rfl, rfl⟩
end Go.Proofs.YtkmmhlimihkgfaaGreat

/- A node as it grows: its fields and their memory. -/
namespace Go.Proofs.YtkmmhlimihkgfaaGreat
open Go.RowKit
set_option linter.unusedVariables false

theorem OwElems.naught {α : Type} (w : World) (e : TypeId) (size : Nat) (R : List Value → α → List Nat → Prop) : OwElems w e size (.slice none 0 0) ([] : List α) R [] :=
  ⟨[], [], rfl, rfl, fun i hi => by simp at hi, World.ownsRow_nil _ _ _ _, rfl⟩
theorem attr_le {l : List (List Int × List Int)} {x : List Int × List Int} (h : x ∈ l) : x.1.length + x.2.length ≤ szA l := by
  unfold szA
  have : x.1.length + x.2.length ∈ l.map (fun x => x.1.length + x.2.length) := List.mem_map.2 ⟨x, h, rfl⟩
  have := sum_mem this
  omega

/-- A node as it grows, in block po: its fields, and all the memory that they own. -/
structure OutAt (n lo : Nat) (w : World) (po : Nat) (kd : Int) (nm tx at' kv : Value) (ln lt : List Int) (la : List (List Int × List Int)) (A : List (Tr (n + 1))) (Fa Fk : List Nat) : Prop where
  loc : Loc w po #[.int .i64 kd, nm, tx, at', kv] 61
  name : Own w 0 nm ln
  text : Own w 0 tx lt
  attrs : OwAttrs w at' la Fa
  kids : OwKids (n + 1) w kv A Fk
  nodup : (FB nm ++ FB tx ++ Fa ++ Fk).Nodup
  rng : ∀ q ∈ FB nm ++ FB tx ++ Fa ++ Fk, lo ≤ q ∧ q < w.heap.size ∧ q ≠ po

section
variable {n lo po : Nat} {w w' : World} {kd : Int} {nm tx at' kv : Value} {ln lt : List Int} {la : List (List Int × List Int)} {A : List (Tr (n + 1))} {Fa Fk : List Nat}

theorem OutAt.frm {S : List Nat} (h : OutAt n lo w po kd nm tx at' kv ln lt la A Fa Fk) (f : Frm w w' S) (hp : po ∉ S) (hd : ∀ q ∈ FB nm ++ FB tx ++ Fa ++ Fk, q ∉ S) : OutAt n lo w' po kd nm tx at' kv ln lt la A Fa Fk where
  loc := h.loc.frm f hp
  name := h.name.frm f (fun q hq => hd q (by simp only [List.mem_append]; exact .inl (.inl (.inl hq))))
  text := h.text.frm f (fun q hq => hd q (by simp only [List.mem_append]; exact .inl (.inl (.inr hq))))
  attrs := h.attrs.frm f (fun q hq => hd q (by simp only [List.mem_append]; exact .inl (.inr hq)))
  kids := OwKids.frm h.kids f (fun q hq => hd q (by simp only [List.mem_append]; exact .inr hq))
  nodup := h.nodup
  rng := fun q hq => ⟨(h.rng q hq).1, Nat.lt_of_lt_of_le (h.rng q hq).2.1 f.size, (h.rng q hq).2.2⟩
theorem OutAt.keep (h : OutAt n lo w po kd nm tx at' kv ln lt la A Fa Fk) (hb : Below w.heap.size w w') : OutAt n lo w' po kd nm tx at' kv ln lt la A Fa Fk := h.frm (Frm.ofBelow hb []) (by simp) (fun _ _ => by simp)
/-- The kids turned, and were stored. -/
theorem OutAt.setKids {S : List Nat} {kv' : Value} {A' : List (Tr (n + 1))} {Fk' : List Nat} (h : OutAt n lo w po kd nm tx at' kv ln lt la A Fa Fk) (f : Frm w w' S) (hp : po ∉ S) (hd : ∀ q ∈ FB nm ++ FB tx ++ Fa, q ∉ S)
    (hk : OwKids (n + 1) w' kv' A' Fk') (hN : Fk'.Nodup) (hF : ∀ q ∈ Fk', (q ∈ Fk ∨ w.heap.size ≤ q) ∧ q < w'.heap.size) (hlo : lo ≤ w.heap.size) : OutAt n lo (w'.setCell ⟨po, 4, none⟩ kv') po kd nm tx at' kv' ln lt la A' Fa Fk' := by
  have hpl := h.loc.lt
  have hpk : ∀ q ∈ Fk', q ≠ po := fun q hq e => by
    rcases (hF q hq).1 with h' | h'
    · exact (h.rng q (by simp only [List.mem_append]; exact .inr h')).2.2 e
    · omega
  have fs := Frm.set w' po 4 kv'
  have hl := h.loc.frm f hp
  have hne : ∀ q ∈ FB nm ++ FB tx ++ Fa, q ∉ [po] := fun q hq hm => (h.rng q (by simp only [List.mem_append] at hq ⊢; exact .inl hq)).2.2 (by simpa using hm)
  refine ⟨hl.set 4 kv', (h.name.frm f (fun q hq => hd q (by simp only [List.mem_append]; exact .inl (.inl hq)))).frm fs (fun q hq => hne q (by simp only [List.mem_append]; exact .inl (.inl hq))), (h.text.frm f (fun q hq => hd q (by simp only [List.mem_append]; exact .inl (.inr hq)))).frm fs (fun q hq => hne q (by simp only [List.mem_append]; exact .inl (.inr hq))), (h.attrs.frm f (fun q hq => hd q (by simp only [List.mem_append]; exact .inr hq))).frm fs (fun q hq => hne q (by simp only [List.mem_append]; exact .inr hq)), OwKids.frm hk fs (fun q hq hm => hpk q hq (by simpa using hm)), ?_, ?_⟩
  · obtain ⟨n1, n2, n3⟩ := List.nodup_append.1 h.nodup
    refine List.nodup_append.2 ⟨n1, hN, fun a ha b hb e => ?_⟩
    rcases (hF b hb).1 with h' | h'
    · exact n3 a ha b h' e
    · have := (h.rng a (List.mem_append_left _ ha)).2.1
      omega
  · intro q hq
    rcases List.mem_append.1 hq with hq | hq
    · have := h.rng q (List.mem_append_left _ hq)
      exact ⟨this.1, Nat.lt_of_lt_of_le this.2.1 (Nat.le_trans f.size fs.size), this.2.2⟩
    · refine ⟨?_, Nat.lt_of_lt_of_le (hF q hq).2 fs.size, hpk q hq⟩
      rcases (hF q hq).1 with h' | h'
      · exact (h.rng q (List.mem_append_right _ h')).1
      · omega
/-- The node is whole. -/
theorem OutAt.node (h : OutAt n lo w po kd nm tx at' kv ln lt la A Fa Fk) (k1 : -9223372036854775808 ≤ kd) (k2 : kd ≤ 9223372036854775807) : OwNode (n + 2) w [.int .i64 kd, nm, tx, at', kv] (⟨kd, ln, lt, la, A⟩ : Nd (Tr (n + 1))) (FB nm ++ FB tx ++ Fa ++ Fk) :=
  ⟨nm, tx, at', kv, Fa, Fk, rfl, k1, k2, h.name, h.text, h.attrs, h.kids, rfl⟩

end
theorem store5 {w : World} {po : Nat} {z0 z1 z2 z3 z4 : Value} {T : TypeId} (h : Loc w po #[z0, z1, z2, z3, z4] T) (a b c d e : Value) :
    Loc (((((w.setCell ⟨po, 0, none⟩ a).setCell ⟨po, 1, none⟩ b).setCell ⟨po, 2, none⟩ c).setCell ⟨po, 3, none⟩ d).setCell ⟨po, 4, none⟩ e) po #[a, b, c, d, e] T ∧ Frm w (((((w.setCell ⟨po, 0, none⟩ a).setCell ⟨po, 1, none⟩ b).setCell ⟨po, 2, none⟩ c).setCell ⟨po, 3, none⟩ d).setCell ⟨po, 4, none⟩ e) [po] :=
  ⟨((((h.set 0 a).set 1 b).set 2 c).set 3 d).set 4 e, ((((Frm.set _ _ _ _).trans (Frm.set _ _ _ _)).trans (Frm.set _ _ _ _)).trans (Frm.set _ _ _ _)).trans (Frm.set _ _ _ _)⟩
theorem own_notN {w : World} {b : Nat} {v : Value} {l : List Int} {g : Nat} {cs : Array Value} (ho : Own w b v l) (h : Loc w g cs 61) : v.ownBlock ≠ some g := by
  intro e
  obtain ⟨cur, hc⟩ := own_obj ho.2 e
  unfold Loc at h
  rw [h] at hc
  injection hc with hc
  injection hc with _ hc
  revert hc
  decide
theorem attrs_notN {w : World} {v : Value} {l : List (List Int × List Int)} {F : List Nat} {g : Nat} {cs : Array Value} (ho : OwAttrs w v l F) (h : Loc w g cs 61) : g ∉ F := by
  obtain ⟨Cs, Fs, e1, e2, e3, e4, rfl⟩ := ho
  intro hg
  rcases List.mem_append.1 hg with hg | hg
  · obtain ⟨cur, hc⟩ := own_obj e4 (g := g) (by simpa [FB] using hg)
    unfold Loc at h
    rw [h] at hc
    injection hc with hc
    injection hc with _ hc
    revert hc
    decide
  · obtain ⟨G, hG, hgG⟩ := List.mem_flatten.1 hg
    obtain ⟨i, hi, hGi⟩ := List.getElem_of_mem hG
    obtain ⟨_, a, b, _, oa, ob, hF⟩ := e3 i (by omega)
    have e : Fs.getD i [] = G := by rw [← hGi]; simp [hi]
    rw [e] at hF
    rw [hF] at hgG
    rcases List.mem_append.1 hgG with h' | h'
    · exact own_notN oa h (by simpa [FB] using h')
    · exact own_notN ob h (by simpa [FB] using h')

theorem Frm.more {a b c : World} {S S' : List Nat} (h : Frm a b S) (k : Frm b c S') (hs : ∀ q ∈ S', q ∈ S ∨ a.heap.size ≤ q) : Frm a c S :=
  ⟨k.os.trans h.os, k.tape.trans h.tape, k.output.trans h.output, Nat.le_trans h.size k.size, fun i hi hn => (k.block i (Nat.lt_of_lt_of_le hi h.size) (fun hm => by
    rcases hs i hm with h' | h'
    · exact hn h'
    · omega)).trans (h.block i hi hn)⟩
theorem five_lies (w : World) (a b c d e : Value) (T : TypeId) : ∀ (j : Nat) (u : Value), [a, b, c, d, e][j]? = some u → (w.alloc (.cells #[a, b, c, d, e] T)).cell? ((⟨w.heap.size, 0, none⟩ : Addr).add j) = some u := by
  intro j u hu
  exact World.news_of_block (heap_alloc_new w (.cells #[a, b, c, d, e] T)) j u (by simpa using hu)

theorem FB_len (a : Option Addr) (m m' c : Nat) : FB (.slice a m c) = FB (.slice a m' c) := by cases a <;> rfl

/-- The attributes turned, and were stored. -/
theorem OutAt.setAttrs {n lo po : Nat} {w w' : World} {kd : Int} {nm tx at' kv : Value} {ln lt : List Int} {la la' : List (List Int × List Int)} {A : List (Tr (n + 1))} {Fa Fk S : List Nat} {at2 : Value} {Fa' : List Nat} (h : OutAt n lo w po kd nm tx at' kv ln lt la A Fa Fk) (f : Frm w w' S) (hd : ∀ q ∈ FB nm ++ FB tx ++ Fk, q ∉ S)
    (hl : Loc w' po #[.int .i64 kd, nm, tx, at2, kv] 61) (hk : OwAttrs w' at2 la' Fa') (hN : Fa'.Nodup) (hF : ∀ q ∈ Fa', (q ∈ Fa ∨ w.heap.size ≤ q) ∧ q < w'.heap.size) (hlo : lo ≤ w.heap.size) : OutAt n lo w' po kd nm tx at2 kv ln lt la' A Fa' Fk := by
  have hpl := h.loc.lt
  refine ⟨hl, h.name.frm f (fun q hq => hd q (by simp only [List.mem_append]; exact .inl (.inl hq))), h.text.frm f (fun q hq => hd q (by simp only [List.mem_append]; exact .inl (.inr hq))), hk, OwKids.frm h.kids f (fun q hq => hd q (by simp only [List.mem_append]; exact .inr hq)), ?_, ?_⟩
  · obtain ⟨n1, n2, n3⟩ := List.nodup_append.1 h.nodup
    obtain ⟨n4, n5, n6⟩ := List.nodup_append.1 n1
    refine List.nodup_append.2 ⟨List.nodup_append.2 ⟨n4, hN, fun a ha b hb e => ?_⟩, n2, fun a ha b hb e => ?_⟩
    · rcases (hF b hb).1 with h' | h'
      · exact n6 a ha b h' e
      · have := (h.rng a (by simp only [List.mem_append] at ha ⊢; exact .inl (.inl ha))).2.1; omega
    · rcases List.mem_append.1 ha with ha | ha
      · exact n3 a (List.mem_append_left _ ha) b hb e
      · rcases (hF a ha).1 with h' | h'
        · exact n3 a (List.mem_append_right _ h') b hb e
        · have := (h.rng b (List.mem_append_right _ hb)).2.1; omega
  · intro q hq
    simp only [List.mem_append] at hq
    rcases hq with (hq | hq) | hq
    · have := h.rng q (by simp only [List.mem_append]; exact .inl (.inl hq))
      exact ⟨this.1, Nat.lt_of_lt_of_le this.2.1 f.size, this.2.2⟩
    · refine ⟨?_, (hF q hq).2, fun e => attrs_notN hk hl (e ▸ hq)⟩
      rcases (hF q hq).1 with h' | h'
      · exact (h.rng q (by simp only [List.mem_append]; exact .inl (.inr h'))).1
      · omega
    · have := h.rng q (by simp only [List.mem_append]; exact .inr hq)
      exact ⟨this.1, Nat.lt_of_lt_of_le this.2.1 f.size, this.2.2⟩

theorem no_kids {t : Tr 1} : t.kids = [] := by
  cases h : t.kids with
  | nil => rfl
  | cons k l => exact k.elim
theorem elems_nil {α β : Type} {w : World} {size : Nat} {v : Value} {R : List Value → α → Prop} {R' : List Value → β → Prop} (h : Elems w size v ([] : List α) R) : Elems w size v ([] : List β) R' := by
  obtain ⟨h1, ⟨h2, _⟩ | ⟨x, c, h2, h3, _⟩ | ⟨b, off, c, h2, h3, h4, h5, _⟩⟩ := h
  · exact ⟨h1, .inl ⟨h2, rfl⟩⟩
  · exact ⟨h1, .inr (.inl ⟨x, c, h2, h3, rfl⟩)⟩
  · exact absurd rfl h5
theorem owElems_nil {α β : Type} {w : World} {e : TypeId} {size : Nat} {v : Value} {R : List Value → α → List Nat → Prop} {R' : List Value → β → List Nat → Prop} {F : List Nat} (h : OwElems w e size v ([] : List α) R F) : OwElems w e size v ([] : List β) R' F := by
  obtain ⟨Cs, Fs, h1, h2, _, h4, h5⟩ := h
  exact ⟨Cs, Fs, h1, h2, fun i hi => by simp at hi, h4, h5⟩
/-- A node without kids, one deeper. -/
def up1 (t : Tr 1) : Tr 2 := (⟨t.kind, t.name, t.text, t.attrs, []⟩ : Nd (Tr 1))
end Go.Proofs.YtkmmhlimihkgfaaGreat

/- 'append(rows, x)': one element behind a row of elements that owns its memory. -/
namespace Go.Proofs.YtkmmhlimihkgfaaGreat
open Go.RowKit
set_option linter.unusedVariables false

/-- A row of elements with one more behind it. -/
theorem OwElems.push {α : Type} {R : World → List Value → α → List Nat → Prop} (hRf : ∀ {w w' : World} {S : List Nat} {C : List Value} {x : α} {G : List Nat}, R w C x G → Frm w w' S → (∀ g ∈ G, g ∉ S) → R w' C x G)
    {w w' : World} {e : TypeId} {size : Nat} {v : Value} {l : List α} {Cs : List (List Value)} {Fs : List (List Nat)} {C : List Value} {y : α} {G : List Nat} {g cap : Nat}
    (h1 : Cs.length = l.length) (h2 : Fs.length = l.length) (h3 : ∀ i (hi : i < l.length), (Cs.getD i []).length = size ∧ R w (Cs.getD i []) l[i] (Fs.getD i []))
    (hN : (FB v ++ Fs.flatten).Nodup) (hC : C.length = size) (hy : R w C y G) (hGN : G.Nodup) (hFG : ∀ g ∈ FB v ++ Fs.flatten, g ∉ G) (hlt : ∀ q, q ∈ FB v ++ Fs.flatten ∨ q ∈ G → q < w.heap.size)
    (k1 : w'.ownsRow 0 e size (.slice (some ⟨g, 0, none⟩) (l.length + 1) cap) (l.length + 1) (Cs.flatten ++ C)) (k2 : w.grownBy w' v.ownBlock) (k3 : v.ownBlock = some g ∨ g = w.heap.size) :
    OwElems w' e size (.slice (some ⟨g, 0, none⟩) (l.length + 1) cap) (l ++ [y]) (R w') (g :: (Fs.flatten ++ G)) ∧ (g :: (Fs.flatten ++ G)).Nodup ∧ (∀ q ∈ g :: (Fs.flatten ++ G), q ∈ FB v ++ Fs.flatten ∨ q ∈ G ∨ q = w.heap.size) := by
  have hFd : ∀ q ∈ Fs.flatten, q ∉ v.ownBlock.toList := fun q hq hv => (List.nodup_append.1 hN).2.2 q (by simpa [FB] using hv) q hq rfl
  have hGd : ∀ q ∈ G, q ∉ v.ownBlock.toList := fun q hq hv => hFG q (List.mem_append_left _ (by simpa [FB] using hv)) hq
  have hf := Frm.ofGrown k2
  refine ⟨⟨Cs ++ [C], Fs ++ [G], by simp [h1], by simp [h2], fun i hi => ?_, ?_, ?_⟩, ?_, ?_⟩
  · by_cases hil : i < l.length
    · have a := h3 i hil
      have e1 : (Cs ++ [C]).getD i [] = Cs.getD i [] := by rw [List.getD_eq_getElem?_getD, List.getD_eq_getElem?_getD, List.getElem?_append_left (by omega)]
      have e2 : (Fs ++ [G]).getD i [] = Fs.getD i [] := by rw [List.getD_eq_getElem?_getD, List.getD_eq_getElem?_getD, List.getElem?_append_left (by omega)]
      rw [e1, e2, List.getElem_append_left hil]
      exact ⟨a.1, hRf a.2 hf (fun q hq => hFd q (mem_flat hq))⟩
    · have e0 : i = l.length := by simp at hi; omega
      subst e0
      have e1 : (Cs ++ [C]).getD l.length [] = C := by rw [← h1]; simp
      have e2 : (Fs ++ [G]).getD l.length [] = G := by rw [← h2]; simp
      rw [e1, e2]
      simp only [List.getElem_concat_length]
      exact ⟨hC, hRf hy hf hGd⟩
  · simp only [List.length_append, List.length_cons, List.length_nil, List.flatten_append, List.flatten_cons, List.flatten_nil, List.append_nil]
    exact k1
  · simp [FB, Value.ownBlock]
  · rw [List.nodup_cons]
    refine ⟨fun hq => ?_, List.nodup_append.2 ⟨(List.nodup_append.1 hN).2.1, hGN, fun a ha b hb hab => hFG a (List.mem_append_right _ ha) (hab ▸ hb)⟩⟩
    rcases List.mem_append.1 hq with hq | hq
    · rcases k3 with k3 | k3
      · exact hFd g hq (by simp [k3])
      · have := hlt g (.inl (List.mem_append_right _ hq)); omega
    · rcases k3 with k3 | k3
      · exact hGd g hq (by simp [k3])
      · have := hlt g (.inr hq); omega
  · intro q hq
    rcases List.mem_cons.1 hq with rfl | hq
    · rcases k3 with k3 | k3
      · exact .inl (List.mem_append_left _ (by simp [FB, k3]))
      · exact .inr (.inr k3)
    · rcases List.mem_append.1 hq with hq | hq
      · exact .inl (List.mem_append_right _ hq)
      · exact .inr (.inl hq)

/-- 'append(rows, x)' at the list of a plain region's operations. -/
theorem wpList_push {α : Type} {R : World → List Value → α → List Nat → Prop} (hRf : ∀ {w w' : World} {S : List Nat} {C : List Value} {x : α} {G : List Nat}, R w C x G → Frm w w' S → (∀ g ∈ G, g ∉ S) → R w' C x G)
    {w : World} {ops : Array Oper} {rest : List Oper} {o : Oper} {a : Act} {Q : Exit → Act → World → Prop} (hgd : o.guard = none) (s x : Operand) (t : TypeId)
    (ho : o.op = .call { callee := .builtin .append, args := #[s, x], argTypes := #[t, t] })
    (e : TypeId) (i : TypeInfo) (z : Value) (size bytes : Nat) (ht : Tryz.prog.underlying t = some (.slice e)) (hi : Tryz.prog.info? e = some i) (hz : i.zero = some z)
    (hsize : i.size = size) (hby : i.bytes = bytes) (hzs : z.cells.size = size) (hsz : 0 < size)
    (v : Value) (l : List α) (F : List Nat) (hs : a.eval s = v) (h : OwElems w e size v l (R w) F) (hN : F.Nodup)
    (ad : Addr) (c : Nat) (C : List Value) (y : α) (G : List Nat) (hx : a.eval x = .slice (some ad) 1 c) (hC : C.length = size) (hcell : ∀ j u, C[j]? = some u → w.cell? (ad.add j) = some u) (h1 : ∀ u ∈ C, u.oneCell' = true)
    (hy : R w C y G) (hGN : G.Nodup) (hFG : ∀ g ∈ F, g ∉ G) (hlt : ∀ q, q ∈ F ∨ q ∈ G → q < w.heap.size) (h63 : l.length + 1 ≤ maxLen) (hbytes : (l.length + 1) * bytes ≤ 140737488355328)
    (hK : ∀ g cap w' F', OwElems w' e size (.slice (some ⟨g, 0, none⟩) (l.length + 1) cap) (l ++ [y]) (R w') F' → F'.Nodup → (∀ q ∈ F', q ∈ F ∨ q ∈ G ∨ q = w.heap.size) → Frm w w' (FB v) → g < w'.heap.size → wpList Tryz.prog ops Q rest (a.put o.dst (.slice (some ⟨g, 0, none⟩) (l.length + 1) cap)) w') : wpList Tryz.prog ops Q (o :: rest) a w := by
  obtain ⟨Cs, Fs, e1, e2, e3, e4, rfl⟩ := h
  refine wpList_append_lies w hgd s x t ho 0 e i z size bytes ht hi hz hsize hby hzs hsz v l.length Cs.flatten hs e4 ad 1 c C hx (by omega) hcell h1 (by omega) h63 hbytes (Nat.zero_le _) w.heap.size rfl ?_
  intro g cap w' k1 k2 k3 k4
  obtain ⟨m1, m2, m3⟩ := OwElems.push (R := R) hRf e1 e2 e3 hN hC hy hGN hFG hlt k1 k2 k3
  exact hK g cap w' _ m1 m2 m3 (Frm.ofGrown k2) k4

/-- 'append(rows, x)' as one step of a region that draws its order. -/
theorem step_push {α : Type} {R : World → List Value → α → List Nat → Prop} (hRf : ∀ {w w' : World} {S : List Nat} {C : List Value} {x : α} {G : List Nat}, R w C x G → Frm w w' S → (∀ g ∈ G, g ∉ S) → R w' C x G)
    {w : World} {ops : Array Oper} {o : Oper} {a : Act} {K : Act → World → Prop} {Q : Exit → Act → World → Prop} {E : Prop} (hgd : o.guard = none) (s x : Operand) (t : TypeId)
    (ho : o.op = .call { callee := .builtin .append, args := #[s, x], argTypes := #[t, t] })
    (e : TypeId) (i : TypeInfo) (z : Value) (size bytes : Nat) (ht : Tryz.prog.underlying t = some (.slice e)) (hi : Tryz.prog.info? e = some i) (hz : i.zero = some z)
    (hsize : i.size = size) (hby : i.bytes = bytes) (hzs : z.cells.size = size) (hsz : 0 < size)
    (v : Value) (l : List α) (F : List Nat) (hs : a.eval s = v) (h : OwElems w e size v l (R w) F) (hN : F.Nodup)
    (ad : Addr) (c : Nat) (C : List Value) (y : α) (G : List Nat) (hx : a.eval x = .slice (some ad) 1 c) (hC : C.length = size) (hcell : ∀ j u, C[j]? = some u → w.cell? (ad.add j) = some u) (h1 : ∀ u ∈ C, u.oneCell' = true)
    (hy : R w C y G) (hGN : G.Nodup) (hFG : ∀ g ∈ F, g ∉ G) (hlt : ∀ q, q ∈ F ∨ q ∈ G → q < w.heap.size) (h63 : l.length + 1 ≤ maxLen) (hbytes : (l.length + 1) * bytes ≤ 140737488355328)
    (hK : ∀ g cap w' F', OwElems w' e size (.slice (some ⟨g, 0, none⟩) (l.length + 1) cap) (l ++ [y]) (R w') F' → F'.Nodup → (∀ q ∈ F', q ∈ F ∨ q ∈ G ∨ q = w.heap.size) → Frm w w' (FB v) → g < w'.heap.size → K (a.put o.dst (.slice (some ⟨g, 0, none⟩) (l.length + 1) cap)) w') : if Region.wanted o (yielded ops a.tmps) = true then Oper.wp Tryz.prog o a w K Q else E := by
  obtain ⟨Cs, Fs, e1, e2, e3, e4, rfl⟩ := h
  refine step_append_lies w hgd s x t ho 0 e i z size bytes ht hi hz hsize hby hzs hsz v l.length Cs.flatten hs e4 ad 1 c C hx (by omega) hcell h1 (by omega) h63 hbytes (Nat.zero_le _) w.heap.size rfl ?_
  intro g cap w' k1 k2 k3 k4
  obtain ⟨m1, m2, m3⟩ := OwElems.push (R := R) hRf e1 e2 e3 hN hC hy hGN hFG hlt k1 k2 k3
  exact hK g cap w' _ m1 m2 m3 (Frm.ofGrown k2) k4
end Go.Proofs.YtkmmhlimihkgfaaGreat

/- bytes.Clone at a readable row answers the same bytes in memory of its own. -/
namespace Go.Proofs.YtkmmhlimihkgfaaGreat
open Go.RowKit
set_option linter.unusedVariables false
set_option maxRecDepth 100000

set_option maxHeartbeats 1600000 in
theorem clone_any (w : World) (v : Value) (l : List Int) (h : Byt w v l) (hl : l.length ≤ 67108864) :
    Calls Tryz.prog 125 #[v] w fun e w' => ∃ v', e = .returned v' ∧ Own w' w.heap.size v' l ∧ Below w.heap.size w w' := by
  by_cases hv : v = .slice none 0 0
  · subst hv
    have hl0 : l = [] := by
      obtain ⟨a, c, e, _⟩ := h.shape
      injection e with _ e2 _
      exact List.eq_nil_of_length_eq_zero e2.symm
    subst hl0
    have hq := Lib.run_eql_slice_nil_nil (P := Tryz.prog) w 0 0 Tryz.underlying22
    go_enter Tryz.func125, Tryz.ntmps125
    go_wp2_with fail
    go_ret
    exact ⟨_, rfl, ⟨okB_nil, World.ownsRow_nil _ _ _ _⟩, Below.refl _ _⟩
  · obtain ⟨x, c, rfl⟩ : ∃ x c, v = .slice (some x) l.length c := by
      obtain ⟨_, _, ⟨e, _⟩ | ⟨x, cap, rfl, hc, rfl⟩ | ⟨p, off, cap, rfl, _⟩⟩ := h
      · exact absurd e hv
      · exact ⟨x, cap, rfl⟩
      · exact ⟨_, cap, rfl⟩
    have hq := Lib.run_eql_slice_some_nil (P := Tryz.prog) w x l.length c Tryz.underlying22
    go_enter Tryz.func125, Tryz.ntmps125
    go_wp2_with (at_builtin; refine wpList_app rfl _ _ rfl w.heap.size _ [] rfl (own_none w) _ l rfl (h.alloc _) ?c1 ?c2 ?_)
    case c1 => first | omega | (simp; omega)
    case c2 => simp
    intro v1 w1 ho1 hg1
    have hB1 : Below w.heap.size w w1 := bstepBy ((Below.refl _ _).alloc (Nat.le_refl _) _) hg1 (fun g hg => by simp [Value.ownBlock] at hg; omega)
    clear hg1
    go_wp2
    go_ret
    exact ⟨_, rfl, ho1, hB1⟩
end Go.Proofs.YtkmmhlimihkgfaaGreat

/- What the model says of attributes and nodes: their zero, their cells. -/
namespace Go.Proofs.YtkmmhlimihkgfaaGreat
open Go.RowKit

theorem Tryz.info157 : (Tryz.prog.info? 157).map (fun i => (i.zero, i.size, i.bytes)) = some (some (.agg #[.slice none 0 0, .slice none 0 0]), 2, 48) := by kernel_rfl
theorem Tryz.info61 : (Tryz.prog.info? 61).map (fun i => (i.zero, i.size, i.bytes)) = some (some (.agg #[.int .i64 0, .slice none 0 0, .slice none 0 0, .slice none 0 0, .slice none 0 0]), 5, 104) := by kernel_rfl
end Go.Proofs.YtkmmhlimihkgfaaGreat

/- The laws' own copy of a slice of attributes, of nodes, of a whole tree: the walks. -/
namespace Go.Proofs.YtkmmhlimihkgfaaGreat
open Go.RowKit
set_option linter.unusedVariables false

theorem szA_one {l : List (List Int × List Int)} {k : Nat} (h : k < l.length) : l[k].1.length + l[k].2.length ≤ szA l := by
  have h1 := sumTo_step (fun x : List Int × List Int => x.1.length + x.2.length) l k h
  have h2 := sumTo_le (fun x : List Int × List Int => x.1.length + x.2.length) l (k + 1)
  unfold szA
  omega
theorem szK_one {n : Nat} {l : List (Tr n)} {k : Nat} (h : k < l.length) : szT n l[k] ≤ szK n l := by
  have h1 := sumTo_step (szT n) l k h
  have h2 := sumTo_le (szT n) l (k + 1)
  unfold szK
  omega

set_option maxHeartbeats 3200000 in
theorem toAttrS_any (w : World) (v : Value) (l : List (List Int × List Int)) (h : RdAttrs w v l) (hs : szA l ≤ 2097152) :
    Calls Tryz.prog 100 #[v] w fun e w' => ∃ a c, e = .returned (.slice a l.length c) ∧ ∃ F, OwAttrs w' (.slice a l.length c) l F ∧ F.Nodup ∧ Rng F w.heap.size w'.heap.size ∧ Below w.heap.size w w' := by
  obtain ⟨i0, hi, hz0, hz1, hz2⟩ := info_parts Tryz.info157
  have hm := h.1
  have hlen : l.length ≤ 2097152 := by unfold szA at hs; omega
  by_cases h0 : l = []
  · obtain ⟨a, cap, rfl, _⟩ := Elems.shape h
    subst h0
    go_enter Tryz.func100, Tryz.ntmps100
    go_wp2_with (at_make; refine wpList_make_full _ rfl _ _ 58 rfl w.heap.size 157 i0 _ 2 Tryz.underlying58 hi hz0 hz1 .i64 .i64 _ _ 0 rfl rfl rfl rfl ?c1 ?c2 ?c3 ?_)
    case c1 => rw [hz2]; omega
    case c2 => exact Nat.zero_le _
    case c3 => exact Nat.le_refl _
    intro w1 hown hgrow
    have hB1 := Below.ofGrown hgrow
    have hH := (Half.start (α := List Int × List Int) (l := []) (R := OwAttr w1) (w.heap.size + 1) (ownsRow_base hown 0 (Nat.zero_le _))).whole rfl (by omega)
    have HH := hide hH
    clear hown hgrow hH
    go_wp2_with fail
    refine wp_loop_rounds 1 ?_
    rw [rounds_succ]
    go_wp2_with fail
    go_ret
    obtain ⟨F, hF, hnd, hr⟩ := unhide HH
    exact ⟨_, _, rfl, F, hF, hnd, hr, hB1⟩
  obtain ⟨_, ⟨_, e⟩ | ⟨_, _, _, _, e⟩ | ⟨b, off, cap, rfl, g1, g2, g3, g4, g5⟩⟩ := h
  · exact absurd e h0
  · exact absurd e h0
  go_enter Tryz.func100, Tryz.ntmps100
  go_wp2_with (at_make; refine wpList_make_full _ rfl _ _ 58 rfl w.heap.size 157 i0 _ 2 Tryz.underlying58 hi hz0 hz1 .i64 .i64 _ _ l.length rfl rfl rfl rfl ?c1 ?c2 ?c3 ?_)
  case c1 => rw [hz2]; omega
  case c2 => exact hm
  case c3 => exact Nat.le_refl _
  intro w1 hown hgrow
  have hB1 := Below.ofGrown hgrow
  have hH := Half.start (α := List Int × List Int) (l := l) (R := OwAttr w1) (w.heap.size + 1) (ownsRow_base hown 0 (Nat.zero_le _))
  have hlt1 := (hown.lt w.heap.size rfl).2
  clear hown hgrow
  go_wp2_with fail
  go_loopw [4] (fun i wr => ∃ k : Nat, k ≤ l.length ∧ i = .int .i64 k ∧ Half wr 157 2 w.heap.size l.length l (OwAttr wr) (w.heap.size + 1) k ∧ Below w.heap.size w wr ∧ w.heap.size + 1 ≤ wr.heap.size) (fun i _ => l.length - (intOf i).toNat)
  case atStart => exact ⟨0, Nat.zero_le _, rfl, hH, hB1, by omega⟩
  case round =>
    obtain ⟨k, hk, rfl, hr, hB, hsz⟩ := hrel
    clear hH hB1 hlt1
    by_cases hlt : k < l.length
    · obtain ⟨c0, c1, e0, e1, hc⟩ := two_of (g5 k hlt)
      obtain ⟨_, _, ee, hc0, hc1⟩ := hc
      simp only [List.cons.injEq, and_true] at ee
      obtain ⟨rfl, rfl⟩ := ee
      replace e0 := (hB.cell (p := ⟨b, off + k * 2, none⟩) g4).trans e0
      replace e1 := (hB.cell (p := ⟨b, off + k * 2 + 1, none⟩) g4).trans e1
      have hlt' : (k : Int) < (l.length : Int) := by omega
      clear g5
      go_wp2_with fail
      refine (toAttr_any wr _ _ l[k] (hc0.keep hB) (hc1.keep hB) (by have := szA_one hlt; omega)).mono ?_
      rintro e w2 ⟨a1, k1, a2, k2, rfl, G, hO, hnd, hrg, hB2⟩
      have hrow : ∃ xs : List Value, w2.ownsRow 0 157 2 (.slice (some ⟨w.heap.size, 0, none⟩) l.length l.length) l.length xs := by
        obtain ⟨_, _, xs, _, _, _, h4, _⟩ := hr.laid
        exact ⟨xs, ownsRow_frm h4 (Frm.ofBelow hB2 []) (fun _ _ => by simp)⟩
      obtain ⟨xs, hx⟩ := hrow
      have hxl := hx.1
      have q0 : w2.cell? ⟨w.heap.size, k * 2, none⟩ = some (xs[k * 2]'(by omega)) := by rw [hx.cellAt (k * 2) (by omega), List.getElem?_eq_getElem (by omega)]
      have q1 : w2.cell? ⟨w.heap.size, k * 2 + 1, none⟩ = some (xs[k * 2 + 1]'(by omega)) := by rw [hx.cellAt (k * 2 + 1) (by omega), List.getElem?_eq_getElem (by omega)]
      have f0 := hx.frozenAt (k * 2)
      have f1 := hx.frozenAt (k * 2 + 1)
      generalize xs[k * 2]'(by omega) = y0 at q0
      generalize xs[k * 2 + 1]'(by omega) = y1 at q1
      have hf : Frm w2 ((w2.setCell ⟨w.heap.size, k * 2, none⟩ (.slice a1 l[k].1.length k1)).setCell ⟨w.heap.size, k * 2 + 1, none⟩ (.slice a2 l[k].2.length k2)) [w.heap.size] := (set_frm w2 _ _ _).trans (set_frm _ _ _ _)
      have hstep : Half ((w2.setCell ⟨w.heap.size, k * 2, none⟩ (.slice a1 l[k].1.length k1)).setCell ⟨w.heap.size, k * 2 + 1, none⟩ (.slice a2 l[k].2.length k2)) 157 2 w.heap.size l.length l (OwAttr ((w2.setCell ⟨w.heap.size, k * 2, none⟩ (.slice a1 l[k].1.length k1)).setCell ⟨w.heap.size, k * 2 + 1, none⟩ (.slice a2 l[k].2.length k2))) (w.heap.size + 1) (k + 1) := by
        refine hr.step hlt (by omega) hsz hB2 [.slice a1 l[k].1.length k1, .slice a2 l[k].2.length k2] G rfl ?_ hnd hrg ?_ hf ?_
        · obtain ⟨_, _, e, o1, o2, rfl⟩ := hO
          exact ⟨_, _, e, o1.frm hf (fun g hg => by have := hrg g (by simp [hg]); simp; omega), o2.frm hf (fun g hg => by have := hrg g (by simp [hg]); simp; omega), rfl⟩
        · rintro C x G' ⟨u1, u2, e, o1, o2, rfl⟩ hne
          have hfb := (Frm.ofBelow hB2 [w.heap.size]).trans hf
          exact ⟨_, _, e, o1.frm hfb (fun g hg => by have := hne g (by simp [hg]); simp; omega), o2.frm hfb (fun g hg => by have := hne g (by simp [hg]); simp; omega), rfl⟩
        · intro zs hz
          have hzl := hz.1
          have t1 := (hz.stored (k * 2) (.slice a1 l[k].1.length k1)).1
          have t2 := (t1.stored (k * 2 + 1) (.slice a2 l[k].2.length k2)).1
          exact ⟨_, t2, take_two zs (k * 2) _ _ (by omega)⟩
      have HS := hide hstep
      have HB := hide (hB.trans ((hB2.mono hB.size).trans (hf.below (by have := hB2.size; have := hB.size; omega) (fun g hg => by simp at hg; omega))))
      have hs2 := hB2.size
      clear hstep hf hx hO hr hB2 hB e0 e1 hc0 hc1 hrg hnd
      go_wp2_with fail
      go_roundw
      case rel => exact ⟨k + 1, by omega, by go_num, unhide HS, unhide HB, by simp; omega⟩
      case measure => simp [intOf]; omega
    · have e : k = l.length := by omega
      subst e
      have HW := hide (hr.whole rfl (by omega))
      clear hr g5
      go_wp2_with fail
      go_ret
      obtain ⟨F, hF, hnd, hrg⟩ := unhide HW
      exact ⟨_, _, rfl, F, hF, hnd, hrg, hB⟩
end Go.Proofs.YtkmmhlimihkgfaaGreat

/- Owned rows lie apart. -/
namespace Go.Proofs.YtkmmhlimihkgfaaGreat
open Go.RowKit
set_option linter.unusedVariables false

/-- Two owned rows of which one was made behind the other lie in different blocks. -/
theorem own_apart {w w' : World} {b b' : Nat} {v v' : Value} {l l' : List Int} (h : Own w b v l) (h' : Own w' b' v' l') (hs : w.heap.size ≤ b') : v.ownBlock = none ∨ v.ownBlock ≠ v'.ownBlock := by
  cases hv : v.ownBlock with
  | none => exact .inl rfl
  | some g =>
    right
    intro e
    have h1 := h.lt g hv
    have h2 := h'.lt g e.symm
    omega
theorem own_apart' {w w' : World} {b b' : Nat} {v v' : Value} {l l' : List Int} (h : Own w b v l) (h' : Own w' b' v' l') (hs : w.heap.size ≤ b') : v'.ownBlock = none ∨ v'.ownBlock ≠ v.ownBlock := by
  cases hv : v'.ownBlock with
  | none => exact .inl rfl
  | some g =>
    right
    intro e
    have h1 := h.lt g e.symm
    have h2 := h'.lt g hv
    omega
end Go.Proofs.YtkmmhlimihkgfaaGreat

/- impl.copyAttrs copies attributes into memory of its own. -/
namespace Go.Proofs.YtkmmhlimihkgfaaGreat
open Go.RowKit
set_option linter.unusedVariables false
set_option maxRecDepth 100000

theorem two_new (w : World) (x y : Value) (T : TypeId) : ∀ (j : Nat) (u : Value), [x, y][j]? = some u → (w.alloc (.cells #[x, y] T)).cell? ((⟨w.heap.size, 0, none⟩ : Addr).add j) = some u := by
  intro j u hu
  exact World.news_of_block (heap_alloc_new w (.cells #[x, y] T)) j u (by simpa using hu)
theorem fb_apart {w w' : World} {b b' : Nat} {u v : Value} {l m : List Int} (h : Own w b u l) (k : Own w' b' v m) (hs : w.heap.size ≤ b') : (FB u ++ FB v).Nodup ∧ ∀ q ∈ FB u ++ FB v, q < w'.heap.size ∨ q < w.heap.size := by
  refine ⟨List.nodup_append.2 ⟨?_, ?_, ?_⟩, ?_⟩
  · unfold FB; cases u.ownBlock <;> simp
  · unfold FB; cases v.ownBlock <;> simp
  · intro a ha c hc e
    have h1 := (h.lt a (by simpa [FB] using ha)).2
    have h2 := (k.lt c (by simpa [FB] using hc)).1
    omega
  · intro q hq
    rcases List.mem_append.1 hq with hq | hq
    · exact .inr (h.lt q (by simpa [FB] using hq)).2
    · exact .inl (k.lt q (by simpa [FB] using hq)).2

/-- Two new copies, ready to go behind a row of attributes. -/
theorem push_two {w0n : Nat} {wr w2 w3 : World} {b2 : Nat} {v v2 v3 : Value} {l : List (List Int × List Int)} {x1 x2 : List Int} {F : List Nat} (hE : Below wr.heap.size wr w3) (h2 : Own w2 b2 v2 x1) (hB3 : Below w2.heap.size w2 w3) (h3 : Own w3 w2.heap.size v3 x2) (hs : wr.heap.size < w2.heap.size)
    (hF : OwElems wr 157 2 v l (OwAttr wr) F) (hR : Rng F w0n wr.heap.size) (hb2 : wr.heap.size < b2) {A : Array Value} {T : TypeId} :
    OwElems (w3.alloc (.cells A T)) 157 2 v l (OwAttr (w3.alloc (.cells A T))) F ∧ OwAttr (w3.alloc (.cells A T)) [v2, v3] (x1, x2) (FB v2 ++ FB v3) ∧ (FB v2 ++ FB v3).Nodup ∧ (∀ g ∈ F, g ∉ FB v2 ++ FB v3) ∧ (∀ q, q ∈ F ∨ q ∈ FB v2 ++ FB v3 → q < (w3.alloc (.cells A T)).heap.size) ∧ (wr.heap.size ∉ FB v) ∧ (∀ q ∈ FB v, q ∈ F) ∧ (∀ q ∈ FB v2 ++ FB v3, wr.heap.size < q) := by
  have hE4 : Below wr.heap.size wr (w3.alloc (.cells A T)) := bstep hE ((Below.refl _ _).alloc (Nat.le_refl _) _)
  have h24 : Own (w3.alloc (.cells A T)) b2 v2 x1 := (h2.keep hB3).alloc _
  have h34 : Own (w3.alloc (.cells A T)) w2.heap.size v3 x2 := h3.alloc _
  have hFl : ∀ g ∈ F, g < wr.heap.size := fun g hg => (hR g hg).2
  obtain ⟨nd, _⟩ := fb_apart h2 h3 (Nat.le_refl _)
  have hge : ∀ q ∈ FB v2 ++ FB v3, wr.heap.size < q ∧ q < (w3.alloc (.cells A T)).heap.size := by
    intro q hq
    rcases List.mem_append.1 hq with hq | hq
    · have := h24.lt q (by simpa [FB] using hq); omega
    · have := h34.lt q (by simpa [FB] using hq); have := (h2.lt); have h5 := hs; exact ⟨by have := h24.lt; omega, by omega⟩
  refine ⟨OwAttrs.frm hF (Frm.ofBelow hE4 []) (fun _ _ => by simp), ⟨v2, v3, rfl, h24.mono (Nat.zero_le _), h34.mono (Nat.zero_le _), rfl⟩, nd, fun g hg hg' => by have := hFl g hg; have := (hge g hg').1; omega, fun q hq => ?_, fun hq => ?_, fun q hq => ?_, fun q hq => (hge q hq).1⟩
  · rcases hq with hq | hq
    · have := hFl q hq; have := hE4.size; omega
    · exact (hge q hq).2
  · obtain ⟨_, _, _, _, _, h5, rfl⟩ := hF
    have := hFl _ (List.mem_append_left _ hq)
    omega
  · obtain ⟨_, _, _, _, _, h5, rfl⟩ := hF
    exact List.mem_append_left _ hq

set_option maxHeartbeats 6400000 in
theorem copyAttrs_any (w : World) (v : Value) (l : List (List Int × List Int)) (h : RdAttrs w v l) (hl : l.length ≤ 4194304) (hx : ∀ x ∈ l, x.1.length ≤ 4194304 ∧ x.2.length ≤ 4194304) :
    Calls Tryz.prog 148 #[v] w fun e w' => ∃ u, e = .returned u ∧ ∃ F, OwAttrs w' u l F ∧ F.Nodup ∧ Rng F w.heap.size w'.heap.size ∧ Below w.heap.size w w' := by
  obtain ⟨ad, cd, rfl, _, _⟩ := Elems.shape h
  obtain ⟨i0, hi, hz0, hz1, hz2⟩ := info_parts Tryz.info157
  have hm : (l.length : Int) ≤ 9223372036854775807 := by omega
  go_enter Tryz.func148, Tryz.ntmps148
  go_wp2_with fail
  go_loopw [3, 8] (fun b i wr => ∃ j : Nat, j ≤ l.length ∧ i = .int .i64 j ∧ ∃ F, OwAttrs wr b (l.take j) F ∧ F.Nodup ∧ Rng F w.heap.size wr.heap.size ∧ Below w.heap.size w wr) (fun _ i _ => l.length - (intOf i).toNat)
  case atStart => exact ⟨0, Nat.zero_le _, rfl, [], ⟨[], [], by simp, by simp, fun i hi => by simp at hi, World.ownsRow_nil _ _ _ _, rfl⟩, List.nodup_nil, fun g hg => by simp at hg, Below.refl _ _⟩
  case round =>
    obtain ⟨j, hj, rfl, F, hF, hN, hRg, hB⟩ := hrel
    by_cases hjl : j < l.length
    · have hst : l.take (j + 1) = l.take j ++ [l[j]] := List.take_succ_eq_append_getElem hjl
      obtain ⟨pb, poff, rfl, hpl, hun, _, C, hC, hcell, hra⟩ := h.at hjl
      clear hun
      have hxl := hx l[j] (List.getElem_mem hjl)
      obtain ⟨x, hxx⟩ : ∃ x, x = l[j] := ⟨_, rfl⟩
      rw [← hxx] at hra hst hxl
      obtain ⟨y0, y1, rfl, hy0, hy1⟩ := hra
      have q0 := hcell 0 (by omega)
      have q1 := hcell 1 (by omega)
      simp only [List.getElem?_cons_zero, List.getElem?_cons_succ, Nat.add_zero] at q0 q1
      obtain ⟨s0, g0, rfl, _, _⟩ := hy0.shape
      obtain ⟨s1, g1, rfl, _, _⟩ := hy1.shape
      have u0 : wr.cell? ⟨pb, poff + j * 2, none⟩ = some (.slice s0 x.1.length g0) := (hB.cell (p := ⟨pb, poff + j * 2, none⟩) hpl).trans q0
      have u1 : wr.cell? ⟨pb, poff + j * 2 + 1, none⟩ = some (.slice s1 x.2.length g1) := (hB.cell (p := ⟨pb, poff + j * 2 + 1, none⟩) hpl).trans q1
      have hjl' : (j : Int) < (l.length : Int) := by omega
      have hB1 : Below wr.heap.size wr (wr.alloc (.cells #[.slice s0 x.1.length g0, .slice s1 x.2.length g1] 157)) := (Below.refl _ _).alloc (Nat.le_refl _) _
      have a1 := Loc.made wr #[.slice s0 x.1.length g0, .slice s1 x.2.length g1] 157
      have HF := hide (show OwElems wr 157 2 _ (l.take j) (OwAttr wr) F from hF)
      have hlj : (l.take j).length = j := by rw [List.length_take]; omega
      have HST := hide hst
      clear hF hst hxx hcell
      go_wp2_with fail
      generalize (wr.alloc (.cells #[.slice s0 x.1.length g0, .slice s1 x.2.length g1] 157)) = w1 at *
      have hW1 := bstep hB hB1
      have H1 := hide (clone_any w1.drew (.slice s0 x.1.length g0) x.1 (hy0.keep (hW1.drew)) (by omega))
      have ad0 := a1.all ((Below.refl w1.heap.size w1).drew)
      have z0 : w1.drew.cell? ⟨wr.heap.size, 0, none⟩ = some (.slice s0 x.1.length g0) := ad0.cell 0
      have z1 : w1.drew.cell? ⟨wr.heap.size, 1, none⟩ = some (.slice s1 x.2.length g1) := ad0.cell 1
      have b0 : w1.cell? ⟨wr.heap.size, 0, none⟩ = some (.slice s0 x.1.length g0) := a1.cell 0
      have b1 : w1.cell? ⟨wr.heap.size, 1, none⟩ = some (.slice s1 x.2.length g1) := a1.cell 1
      have HR := hide hRg
      have HNd := hide hN
      clear hRg hN u0 u1
      go_region_held3 (fun w' => w'.cell? ⟨wr.heap.size, 0, none⟩ = some (.slice s0 x.1.length g0) ∧ w'.cell? ⟨wr.heap.size, 1, none⟩ = some (.slice s1 x.2.length g1))
        (first | exact ⟨by assumption, by assumption⟩ | simp [*])
        (first
          | (go_at_call 125; refine (unhide H1).mono ?_; clear H1; rintro e w2 ⟨v2, rfl, ho2, hB2⟩; have a2 := ad0.all hB2; have z0 : w2.cell? ⟨wr.heap.size, 0, none⟩ = some (.slice s0 x.1.length g0) := a2.cell 0; have z1 : w2.cell? ⟨wr.heap.size, 1, none⟩ = some (.slice s1 x.2.length g1) := a2.cell 1; have hW2 := bstep hW1.drew hB2; have hE2 : Below wr.heap.size wr w2 := bstep hB1.drew hB2; obtain ⟨p2, k2, hv2, _, _⟩ := ho2.byt.shape; subst hv2)
          | (go_at_call 125; refine (clone_any w2 (.slice s1 x.2.length g1) x.2 (hy1.keep hW2) (by omega)).mono ?_; rintro e w3 ⟨v3, rfl, ho3, hB3⟩; have a3 := a2.all hB3; have z0 : w3.cell? ⟨wr.heap.size, 0, none⟩ = some (.slice s0 x.1.length g0) := a3.cell 0; have z1 : w3.cell? ⟨wr.heap.size, 1, none⟩ = some (.slice s1 x.2.length g1) := a3.cell 1; have hW3 := bstep hW2 hB3; have hE3 : Below wr.heap.size wr w3 := bstep hE2 hB3; obtain ⟨p3, k3, hv3, _, _⟩ := ho3.byt.shape; subst hv3; have z0' : (w3.alloc (.cells #[.slice p2 x.1.length k2, .slice p3 x.2.length k3] 157)).cell? ⟨wr.heap.size, 0, none⟩ = some (.slice s0 x.1.length g0) := (a3.alloc _).cell 0; have z1' : (w3.alloc (.cells #[.slice p2 x.1.length k2, .slice p3 x.2.length k3] 157)).cell? ⟨wr.heap.size, 1, none⟩ = some (.slice s1 x.2.length g1) := (a3.alloc _).cell 1; have HY := hide (push_two (A := #[.slice p2 x.1.length k2, .slice p3 x.2.length k3]) (T := 157) hE3 ho2 hB3 ho3 (Nat.lt_of_lt_of_le a1.lt hB2.size) (unhide HF) (unhide HR) a1.lt))
          | (refine step_push (R := OwAttr) (fun h f d => OwAttr.frm h f d) rfl (.tmp 12) (.tmp 20) 58 rfl 157 i0 (.agg #[.slice none 0 0, .slice none 0 0]) 2 48 Tryz.underlying58 hi hz0 hz1 hz2 rfl (by decide) _ (l.take j) F (by rfl) (unhide HY).1 (unhide HNd) ⟨w3.heap.size, 0, none⟩ 1 [.slice p2 x.1.length k2, .slice p3 x.2.length k3] x (FB (.slice p2 x.1.length k2) ++ FB (.slice p3 x.2.length k3)) (by rfl) rfl (two_new w3 _ _ _) (by intro y hy; simp at hy; rcases hy with rfl | rfl <;> rfl) (unhide HY).2.1 (unhide HY).2.2.1 (unhide HY).2.2.2.1 (unhide HY).2.2.2.2.1 (by rw [hlj]; unfold maxLen; omega) (by rw [hlj]; omega) ?_; intro g9 cap9 w9 F9 hF9 hN9 hM9 hf9 hg9; have a9 := (a3.alloc (.cells #[.slice p2 x.1.length k2, .slice p3 x.2.length k3] 157)).frm hf9 ((unhide HY).2.2.2.2.2.1); have z0 : w9.cell? ⟨wr.heap.size, 0, none⟩ = some (.slice s0 x.1.length g0) := a9.cell 0; have z1 : w9.cell? ⟨wr.heap.size, 1, none⟩ = some (.slice s1 x.2.length g1) := a9.cell 1))
      have hW4 : Below w.heap.size w (w3.alloc (.cells #[.slice p2 x.1.length k2, .slice p3 x.2.length k3] 157)) := bstep hW3 ((Below.refl _ _).alloc (Nat.le_refl _) _)
      have hW9 : Below w.heap.size w w9 := hW4.trans (hf9.below hW4.size (fun q hq => (unhide HR q ((unhide HY).2.2.2.2.2.2.1 q hq)).1))
      have HO9 := hide (show OwAttrs w9 (.slice (some ⟨g9, 0, none⟩) (j + 1) cap9) (l.take (j + 1)) F9 by
        rw [unhide HST]
        rw [hlj] at hF9
        exact hF9)
      have HR9 := hide (show Rng F9 w.heap.size w9.heap.size from fun q hq => ⟨by
        rcases hM9 q hq with k | k | k
        · exact (unhide HR q k).1
        · have := (unhide HY).2.2.2.2.2.2.2 q k; have := hB.size; omega
        · rw [k]; exact hW4.size, OwAttrs.lt (unhide HO9) q hq⟩)
      clear hF9 hM9
      go_wp2_with fail
      go_roundw
      case rel => exact ⟨j + 1, by omega, by go_num, F9, unhide HO9, hN9, unhide HR9, hW9⟩
      case measure => simp [intOf]; omega
    · have e : j = l.length := by omega
      subst e
      rw [List.take_length] at hF
      go_wp2_with fail
      go_ret
      exact ⟨_, rfl, F, hF, hN, hRg, hB⟩
end Go.Proofs.YtkmmhlimihkgfaaGreat
