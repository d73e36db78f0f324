/- Trees with a count in them: plain mathematics. -/
import Derived.Test.YteioihjgjbjmjaaMarkA
namespace Go.Proofs.Yteioihjgjbjmjaa
open Go.RowKit
set_option linter.unusedVariables false

/-- How much is counted of a row of members: one for each, and what f says. -/
def cntL {α : Type} (f : α → Nat) : List α → Nat
  | [] => 0
  | x :: r => 1 + f x + cntL f r
theorem cntL_app {α : Type} (f : α → Nat) : ∀ a b : List α, cntL f (a ++ b) = cntL f a + cntL f b
  | [], b => by simp [cntL]
  | x :: r, b => by simp only [List.cons_append, cntL, cntL_app f r b]; omega
theorem cntL_take {α : Type} (f : α → Nat) (l : List α) (j : Nat) (h : j < l.length) : cntL f (l.take (j + 1)) = cntL f (l.take j) + (1 + f l[j]) := by
  rw [List.take_succ_eq_append_getElem h, cntL_app]
  simp [cntL]
theorem cntL_le {α : Type} (f : α → Nat) (l : List α) (j : Nat) : cntL f (l.take j) ≤ cntL f l := by
  have := cntL_app f (l.take j) (l.drop j)
  rw [List.take_append_drop] at this
  omega
def mkL {α : Type} (c : α → Nat) (f : α → Int → α) : List α → Int → List α
  | [], _ => []
  | x :: r, k => f x k :: mkL c f r (k + ((1 + c x : Nat) : Int))
theorem mkL_len {α : Type} (c : α → Nat) (f : α → Int → α) : ∀ (l : List α) (k : Int), (mkL c f l k).length = l.length
  | [], _ => rfl
  | x :: r, k => by simp [mkL, mkL_len c f r]
theorem mkL_app {α : Type} (c : α → Nat) (f : α → Int → α) : ∀ (a b : List α) (k : Int), mkL c f (a ++ b) k = mkL c f a k ++ mkL c f b (k + (cntL c a : Nat))
  | [], b, k => by simp [mkL, cntL]
  | x :: r, b, k => by
    simp only [List.cons_append, mkL, mkL_app c f r b, cntL, List.cons.injEq, true_and]
    congr 2
    omega
theorem mkL_at {α : Type} (c : α → Nat) (f : α → Int → α) (l : List α) (k : Int) (j : Nat) (h : j < l.length) (h' : j < (mkL c f l k).length) : (mkL c f l k)[j] = f l[j] (k + (cntL c (l.take j) : Nat)) := by
  have e : mkL c f l k = mkL c f (l.take j) k ++ mkL c f (l.drop j) (k + (cntL c (l.take j) : Nat)) := by rw [← mkL_app, List.take_append_drop]
  have e2 : l.drop j = l[j] :: l.drop (j + 1) := List.drop_eq_getElem_cons h
  have hl : (mkL c f (l.take j) k).length = j := by rw [mkL_len]; simp; omega
  have : (mkL c f l k)[j]? = some (f l[j] (k + (cntL c (l.take j) : Nat))) := by
    rw [e, List.getElem?_append_right (by omega), hl, Nat.sub_self, e2, mkL]
    rfl
  rw [List.getElem?_eq_getElem h'] at this
  exact Option.some.inj this

/-- How much is counted of a tree, its own kind aside. -/
def cntT : (n : Nat) → Tr n → Nat
  | 0 => fun _ => 0
  | n + 1 => fun t => t.name.length + t.text.length + cntA t.attrs + cntL (cntT n) t.kids
theorem cntT_succ (n : Nat) (t : Tr (n + 1)) : cntT (n + 1) t = t.name.length + t.text.length + cntA t.attrs + cntL (cntT n) t.kids := rfl
/-- Another kind. -/
def skT : (n : Nat) → Tr n → Int → Tr n
  | 0 => fun t _ => t
  | n + 1 => fun t z => (⟨z, t.name, t.text, t.attrs, t.kids⟩ : Nd (Tr n))
/-- A tree with a count in it, from k on, its own kind aside. -/
def mkT' : (n : Nat) → Tr n → Int → Tr n
  | 0 => fun t _ => t
  | n + 1 => fun t k => (⟨t.kind, marks k t.name.length, marks (k + (t.name.length : Nat)) t.text.length, mkA t.attrs (k + (t.name.length : Nat) + (t.text.length : Nat)), mkL (cntT n) (fun x k => skT n (mkT' n x (k + 1)) k) t.kids (k + (t.name.length : Nat) + (t.text.length : Nat) + (cntA t.attrs : Nat))⟩ : Nd (Tr n))
/-- A member of a row, its kind too. -/
def mkN (n : Nat) (x : Tr n) (k : Int) : Tr n := skT n (mkT' n x (k + 1)) k
def mkK (n : Nat) (l : List (Tr n)) (k : Int) : List (Tr n) := mkL (cntT n) (mkN n) l k
theorem mkT'_succ (n : Nat) (t : Tr (n + 1)) (k : Int) : mkT' (n + 1) t k = (⟨t.kind, marks k t.name.length, marks (k + (t.name.length : Nat)) t.text.length, mkA t.attrs (k + (t.name.length : Nat) + (t.text.length : Nat)), mkK n t.kids (k + (t.name.length : Nat) + (t.text.length : Nat) + (cntA t.attrs : Nat))⟩ : Nd (Tr n)) := rfl
theorem mkK_len (n : Nat) (l : List (Tr n)) (k : Int) : (mkK n l k).length = l.length := mkL_len _ _ l k
theorem mkK_at (n : Nat) (l : List (Tr n)) (k : Int) (j : Nat) (h : j < l.length) (h' : j < (mkK n l k).length) : (mkK n l k)[j] = mkN n l[j] (k + (cntL (cntT n) (l.take j) : Nat)) := mkL_at _ _ l k j h h'

theorem flat_set (Cs : List (List Value)) (size : Nat) (hs : 0 < size) (h : ∀ i, i < Cs.length → (Cs.getD i []).length = size) (j : Nat) (hj : j < Cs.length) (v : Value) : (Cs.set j ((Cs.getD j []).set 0 v)).flatten = Cs.flatten.set (j * size) v := by
  induction Cs generalizing j with
  | nil => simp at hj
  | cons C Cs ih =>
    have h0 : C.length = size := by simpa using h 0 (by simp)
    cases j with
    | zero =>
      simp only [List.set_cons_zero, List.getD_cons_zero, List.flatten_cons, Nat.zero_mul]
      rw [List.set_append_left _ _ (by omega)]
    | succ j =>
      have e : (j + 1) * size = C.length + j * size := by rw [h0, Nat.succ_mul]; omega
      rw [List.set_cons_succ, List.flatten_cons, List.flatten_cons, List.getD_cons_succ, e, List.set_append_right _ _ (by omega), Nat.add_sub_cancel_left]
      rw [ih (fun k hk => by simpa using h (k + 1) (by simpa using hk)) j (by simpa using hj)]
end Go.Proofs.Yteioihjgjbjmjaa
