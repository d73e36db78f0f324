/- Edits and actions: their parts, and the plain tests. No function of the program. -/
import Derived.Test.YtkmmhlimihkgfaaIdJ
namespace Go.Proofs.Ytkmmhlimihkgfaa
open Go.RowKit
set_option linter.unusedVariables false
set_option maxRecDepth 100000

/-- An edit's parts, read. -/
structure EdV where
  kind : Int
  nodeN : Int
  nodeR : Int
  toN : Int
  toR : Int
  i : Int
  elem : Int
  name : List Int
  text : List Int
  gone : Bool
/-- An action's parts, read. -/
structure AcV where
  kind : Int
  a : Int
  b : Int
  e : EdV
def edVal (e : EdV) (n t : Value) : Value := .agg #[.int .i64 e.kind, .int .i64 e.nodeN, .int .i64 e.nodeR, .int .i64 e.toN, .int .i64 e.toR, .int .i64 e.i, .int .i64 e.elem, n, t, .bool e.gone]
def acVal (c : AcV) (n t : Value) : Value := .agg #[.int .i64 c.kind, .int .i64 c.a, .int .i64 c.b, .int .i64 c.e.kind, .int .i64 c.e.nodeN, .int .i64 c.e.nodeR, .int .i64 c.e.toN, .int .i64 c.e.toR, .int .i64 c.e.i, .int .i64 c.e.elem, n, t, .bool c.e.gone]
def RdEd (w : World) (v : Value) (e : EdV) : Prop := ∃ n t, v = edVal e n t ∧ Byt w n e.name ∧ Byt w t e.text
def RdAc (w : World) (v : Value) (c : AcV) : Prop := ∃ n t, v = acVal c n t ∧ Byt w n c.e.name ∧ Byt w t c.e.text
theorem RdEd.keep {w w' : World} {v : Value} {e : EdV} (h : RdEd w v e) (hb : Below w.heap.size w w') : RdEd w' v e := by
  obtain ⟨n, t, rfl, h1, h2⟩ := h
  exact ⟨n, t, rfl, h1.keep hb, h2.keep hb⟩
theorem RdAc.keep {w w' : World} {v : Value} {e : AcV} (h : RdAc w v e) (hb : Below w.heap.size w w') : RdAc w' v e := by
  obtain ⟨n, t, rfl, h1, h2⟩ := h
  exact ⟨n, t, rfl, h1.keep hb, h2.keep hb⟩
theorem balloc {w w' : World} {o : Obj} (h : Below w.heap.size w w') : Below w.heap.size w (w'.alloc o) := h.alloc h.size o

def ed0 (nn nr tn tr i el : Int) (nm tx : List Int) (g : Bool) : Bool := textB tx && (idB nn nr && (!g && (zeroB tn tr && (if el == 1 then (nm.length : Int) == 0 else (el == 0 && (nameB nm && (tx.length : Int) == 0))))))
def ed1 (nn nr tn tr i el : Int) (nm tx : List Int) (g : Bool) : Bool := textB tx && (idB nn nr && (el == 0 && (!g && (idB tn tr && ((nm.length : Int) == 0 && (tx.length : Int) == 0)))))
def ed2 (nn nr tn tr i el : Int) (nm tx : List Int) (g : Bool) : Bool := textB tx && (idB nn nr && (el == 0 && (i == 0 && (!g && (zeroB tn tr && ((nm.length : Int) == 0 && (tx.length : Int) == 0))))))
def ed3 (nn nr tn tr i el : Int) (nm tx : List Int) (g : Bool) : Bool := textB tx && (idB nn nr && (el == 0 && (i == 0 && (!g && (zeroB tn tr && (nm.length : Int) == 0)))))
def ed4 (nn nr tn tr i el : Int) (nm tx : List Int) (g : Bool) : Bool := textB tx && (idB nn nr && (el == 0 && (i == 0 && (zeroB tn tr && (nameB nm && (!g || (tx.length : Int) == 0))))))
def ed5 (nn nr tn tr i el : Int) (nm tx : List Int) (g : Bool) : Bool := textB tx && (el == 0 && (i == 0 && (!g && (zeroB tn tr && (zeroB nn nr && ((nm.length : Int) == 0 && (tx.length : Int) == 0))))))
def edB (e : EdV) : Bool :=
  if e.kind = 0 then ed0 e.nodeN e.nodeR e.toN e.toR e.i e.elem e.name e.text e.gone
  else if e.kind = 1 then ed1 e.nodeN e.nodeR e.toN e.toR e.i e.elem e.name e.text e.gone
  else if e.kind = 2 then ed2 e.nodeN e.nodeR e.toN e.toR e.i e.elem e.name e.text e.gone
  else if e.kind = 3 then ed3 e.nodeN e.nodeR e.toN e.toR e.i e.elem e.name e.text e.gone
  else if e.kind = 4 then ed4 e.nodeN e.nodeR e.toN e.toR e.i e.elem e.name e.text e.gone
  else if e.kind = 5 then ed5 e.nodeN e.nodeR e.toN e.toR e.i e.elem e.name e.text e.gone
  else false
def zeB (e : EdV) : Bool := e.kind == 0 && (zeroB e.nodeN e.nodeR && (zeroB e.toN e.toR && (e.i == 0 && (e.elem == 0 && ((e.name.length : Int) == 0 && ((e.text.length : Int) == 0 && !e.gone))))))
def acHead (c : AcV) : Bool := decide (0 ≤ c.kind) && (decide (c.kind ≤ 5) && (decide (0 ≤ c.a) && (decide (c.a ≤ 2147483647) && (decide (0 ≤ c.b) && decide (c.b ≤ 2147483647)))))
def acB (c : AcV) : Bool := acHead c && (if c.kind = 0 then edB c.e else zeB c.e)

theorem text_none' {t : List Int} (h : ((t.length : Int) == 0) = true) : textB t = true := by
  have : t = [] := by simpa using h
  subst this
  rfl
theorem ed0_eq (nn nr tn tr i el : Int) (nm tx : List Int) (g : Bool) : ed0 nn nr tn tr i el nm tx g = ((idB nn nr && loneB el nm tx) && zeB ⟨0, 0, 0, tn, tr, 0, 0, [], [], g⟩) := by
  unfold ed0 zeB loneB
  simp only [show zeroB 0 0 = true from rfl, show ((([] : List Int).length : Int) == 0) = true from rfl, beq_self_eq_true, Bool.true_and]
  cases idB nn nr
  · simp
  cases zeroB tn tr
  · simp
  cases g
  · by_cases e1 : el = 1
    · rw [e1]
      cases textB tx <;> simp
    · by_cases e0 : el = 0
      · rw [e0]
        cases ht : textB tx
        · cases hl : ((tx.length : Int) == 0)
          · simp
          · rw [text_none' hl] at ht; cases ht
        · simp
      · simp [e0, e1]
  · simp
theorem ed1_eq (nn nr tn tr i el : Int) (nm tx : List Int) (g : Bool) : ed1 nn nr tn tr i el nm tx g = ((idB nn nr && idB tn tr) && zeB ⟨0, 0, 0, 0, 0, 0, el, nm, tx, g⟩) := by
  unfold ed1 zeB
  simp only [show zeroB 0 0 = true from rfl, beq_self_eq_true, Bool.true_and]
  cases idB nn nr
  · simp
  cases idB tn tr
  · simp
  cases (el == 0)
  · simp
  cases ((nm.length : Int) == 0)
  · simp
  cases hl : ((tx.length : Int) == 0)
  · simp
  · rw [text_none' hl]; simp
theorem ed2_eq (nn nr tn tr i el : Int) (nm tx : List Int) (g : Bool) : ed2 nn nr tn tr i el nm tx g = ((idB nn nr) && zeB ⟨0, 0, 0, tn, tr, i, el, nm, tx, g⟩) := by
  unfold ed2 zeB
  simp only [show zeroB 0 0 = true from rfl, beq_self_eq_true, Bool.true_and]
  cases idB nn nr
  · simp
  cases zeroB tn tr
  · simp
  cases (i == 0)
  · simp
  cases (el == 0)
  · simp
  cases ((nm.length : Int) == 0)
  · simp
  cases hl : ((tx.length : Int) == 0)
  · simp
  · rw [text_none' hl]; simp
theorem ed3_eq (nn nr tn tr i el : Int) (nm tx : List Int) (g : Bool) : ed3 nn nr tn tr i el nm tx g = ((idB nn nr && textB tx) && zeB ⟨0, 0, 0, tn, tr, i, el, nm, [], g⟩) := by
  unfold ed3 zeB
  simp only [show zeroB 0 0 = true from rfl, show ((([] : List Int).length : Int) == 0) = true from rfl, beq_self_eq_true, Bool.true_and]
  cases idB nn nr
  · simp
  cases zeroB tn tr
  · simp
  cases (i == 0)
  · simp
  cases (el == 0)
  · simp
  cases ((nm.length : Int) == 0)
  · simp
  cases textB tx <;> simp
theorem ed4_eq (nn nr tn tr i el : Int) (nm tx : List Int) (g : Bool) : ed4 nn nr tn tr i el nm tx g = ((idB nn nr && (nameB nm && valB tx g)) && zeB ⟨0, 0, 0, tn, tr, i, el, [], [], false⟩) := by
  unfold ed4 zeB valB
  simp only [show zeroB 0 0 = true from rfl, show ((([] : List Int).length : Int) == 0) = true from rfl, beq_self_eq_true, Bool.true_and]
  cases idB nn nr
  · simp
  cases zeroB tn tr
  · simp
  cases (i == 0)
  · simp
  cases (el == 0)
  · simp
  cases nameB nm
  · simp
  cases g
  · cases textB tx <;> simp
  · cases hl : ((tx.length : Int) == 0)
    · simp
    · rw [text_none' hl]; simp
theorem ed5_eq (nn nr tn tr i el : Int) (nm tx : List Int) (g : Bool) : ed5 nn nr tn tr i el nm tx g = ((zeroB nn nr) && zeB ⟨0, 0, 0, tn, tr, i, el, nm, tx, g⟩) := by
  unfold ed5 zeB
  simp only [show zeroB 0 0 = true from rfl, beq_self_eq_true, Bool.true_and]
  cases zeroB nn nr
  · simp
  cases zeroB tn tr
  · simp
  cases (i == 0)
  · simp
  cases (el == 0)
  · simp
  cases ((nm.length : Int) == 0)
  · simp
  cases hl : ((tx.length : Int) == 0)
  · simp
  · rw [text_none' hl]; simp
end Go.Proofs.Ytkmmhlimihkgfaa
