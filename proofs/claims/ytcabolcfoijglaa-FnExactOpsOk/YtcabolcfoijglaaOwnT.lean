/- Trees that a call has made: which blocks are theirs, and what becomes of them while others are written. -/
import Derived.Test.YtcabolcfoijglaaTree
import Derived.Test.YtcabolcfoijglaaLocB
namespace Go.Proofs.Ytcabolcfoijglaa
open Go.RowKit
set_option linter.unusedVariables false

/-- Elements of 'size' cells each in a row of the call's own; each element owns what R says. -/
def OwElems {α : Type} (w : World) (e : TypeId) (size : Nat) (v : Value) (l : List α) (R : List Value → α → List Nat → Prop) (F : List Nat) : Prop :=
  ∃ (Cs : List (List Value)) (Fs : List (List Nat)), Cs.length = l.length ∧ Fs.length = l.length ∧ (∀ i (hi : i < l.length), (Cs.getD i []).length = size ∧ R (Cs.getD i []) l[i] (Fs.getD i [])) ∧
    w.ownsRow 0 e size v l.length Cs.flatten ∧ F = FB v ++ Fs.flatten

def OwAttr (w : World) (C : List Value) (x : List Int × List Int) (F : List Nat) : Prop := ∃ a b, C = [a, b] ∧ Own w 0 a x.1 ∧ Own w 0 b x.2 ∧ F = FB a ++ FB b
def OwAttrs (w : World) (v : Value) (l : List (List Int × List Int)) (F : List Nat) : Prop := OwElems w 134 2 v l (OwAttr w) F
def OwNode : (n : Nat) → World → List Value → Tr n → List Nat → Prop
  | 0 => fun _ _ _ _ => False
  | n + 1 => fun w C t F => ∃ a b c d Fc Fd, C = [.int .i64 t.kind, a, b, c, d] ∧ -9223372036854775808 ≤ t.kind ∧ t.kind ≤ 9223372036854775807 ∧ Own w 0 a t.name ∧ Own w 0 b t.text ∧
      OwAttrs w c t.attrs Fc ∧ OwElems w 62 5 d t.kids (OwNode n w) Fd ∧ F = FB a ++ FB b ++ Fc ++ Fd
def OwKids (n : Nat) (w : World) (v : Value) (l : List (Tr n)) (F : List Nat) : Prop := OwElems w 62 5 v l (OwNode n w) F

theorem mem_flat {Fs : List (List Nat)} {i g : Nat} (h : g ∈ Fs.getD i []) : g ∈ Fs.flatten := by
  by_cases hi : i < Fs.length
  · rw [List.getD_eq_getElem?_getD, List.getElem?_eq_getElem hi] at h
    exact List.mem_flatten.2 ⟨_, List.getElem_mem hi, h⟩
  · rw [List.getD_eq_getElem?_getD, List.getElem?_eq_none (by omega)] at h; simp at h

theorem OwElems.frm {α : Type} {w w' : World} {e : TypeId} {size : Nat} {v : Value} {l : List α} {R R' : List Value → α → List Nat → Prop} {F S : List Nat} (h : OwElems w e size v l R F) (f : Frm w w' S) (hd : ∀ g ∈ F, g ∉ S)
    (hR : ∀ C x G, R C x G → (∀ g ∈ G, g ∉ S) → R' C x G) : OwElems w' e size v l R' F := by
  obtain ⟨Cs, Fs, h1, h2, h3, h4, rfl⟩ := h
  refine ⟨Cs, Fs, h1, h2, fun i hi => ⟨(h3 i hi).1, hR _ _ _ (h3 i hi).2 (fun g hg => hd g (List.mem_append_right _ (mem_flat hg)))⟩, ownsRow_frm h4 f (fun g hg => hd g (List.mem_append_left _ hg)), rfl⟩
theorem OwAttrs.frm {w w' : World} {v : Value} {l : List (List Int × List Int)} {F S : List Nat} (h : OwAttrs w v l F) (f : Frm w w' S) (hd : ∀ g ∈ F, g ∉ S) : OwAttrs w' v l F :=
  OwElems.frm h f hd (fun C x G ⟨a, b, e, h1, h2, h3⟩ hG => by
    subst h3
    exact ⟨a, b, e, h1.frm f (fun g hg => hG g (by simp [hg])), h2.frm f (fun g hg => hG g (by simp [hg])), rfl⟩)
theorem OwNode.frm {n : Nat} {w w' : World} {C : List Value} {t : Tr n} {F S : List Nat} (h : OwNode n w C t F) (f : Frm w w' S) (hd : ∀ g ∈ F, g ∉ S) : OwNode n w' C t F := by
  induction n generalizing C F with
  | zero => exact h
  | succ n ih =>
    obtain ⟨a, b, c, d, Fc, Fd, e, k1, k2, h1, h2, h3, h4, rfl⟩ := h
    exact ⟨a, b, c, d, Fc, Fd, e, k1, k2, h1.frm f (fun g hg => hd g (by simp [hg])), h2.frm f (fun g hg => hd g (by simp [hg])), h3.frm f (fun g hg => hd g (by simp [hg])),
      OwElems.frm h4 f (fun g hg => hd g (by simp [hg])) (fun C x G hr hG => ih hr hG), rfl⟩
theorem OwNode.keep {n : Nat} {w w' : World} {C : List Value} {t : Tr n} {F : List Nat} (h : OwNode n w C t F) (hb : Below w.heap.size w w') : OwNode n w' C t F := h.frm (Frm.ofBelow hb []) (fun _ _ => by simp)
theorem OwKids.frm {n : Nat} {w w' : World} {v : Value} {l : List (Tr n)} {F S : List Nat} (h : OwKids n w v l F) (f : Frm w w' S) (hd : ∀ g ∈ F, g ∉ S) : OwKids n w' v l F := OwElems.frm h f hd (fun C x G hr hG => OwNode.frm hr f hG)

/-- A cell of the flat row of elements of one size. -/
theorem flat_at (Cs : List (List Value)) (size : Nat) (h : ∀ i, i < Cs.length → (Cs.getD i []).length = size) (i j : Nat) (hi : i < Cs.length) (hj : j < size) : Cs.flatten[i * size + j]? = (Cs.getD i [])[j]? := by
  induction Cs generalizing i with
  | nil => simp at hi
  | cons C Cs ih =>
    have h0 : C.length = size := by simpa using h 0 (by simp)
    cases i with
    | zero => simp [List.getElem?_append, h0, hj]
    | succ i =>
      have e : (i + 1) * size + j = C.length + (i * size + j) := by rw [h0, Nat.succ_mul]; omega
      rw [List.flatten_cons, e, List.getElem?_append_right (by omega), Nat.add_sub_cancel_left]
      have := ih (fun k hk => by simpa using h (k + 1) (by simpa using hk)) i (by simpa using hi)
      simpa using this

/-- What is owned can be read. -/
theorem OwElems.rd {α : Type} {w : World} {e : TypeId} {size : Nat} {v : Value} {l : List α} {R : List Value → α → List Nat → Prop} {R' : List Value → α → Prop} {F : List Nat} (h : OwElems w e size v l R F) (hm : l.length ≤ maxLen)
    (hR : ∀ C x G, R C x G → R' C x) : Elems w size v l R' := by
  obtain ⟨Cs, Fs, h1, h2, h3, h4, rfl⟩ := h
  have h4' := h4
  refine ⟨hm, ?_⟩
  rcases h4.2 with ⟨rfl, h0⟩ | ⟨g, cap, cur, rfl, hb, hg, hnc, hcm, hcs, htake⟩
  · exact .inl ⟨rfl, List.eq_nil_of_length_eq_zero h0⟩
  · by_cases h0 : l = []
    · subst h0
      exact .inr (.inl ⟨_, cap, rfl, hcm, rfl⟩)
    · refine .inr (.inr ⟨g, 0, cap, rfl, hnc, hcm, h0, (h4'.lt g rfl).2, fun i hi => ⟨Cs.getD i [], (h3 i hi).1, fun j hj => ?_, hR _ _ _ (h3 i hi).2⟩⟩)
      have hlt : i * size + j < l.length * size := by
        have : (i + 1) * size ≤ l.length * size := Nat.mul_le_mul_right _ hi
        rw [Nat.succ_mul] at this; omega
      rw [Nat.zero_add, h4'.cellAt (i * size + j) hlt]
      exact flat_at Cs size (fun k hk => (h3 k (by omega)).1) i j (by omega) hj
theorem OwElems.len {α : Type} {w : World} {e : TypeId} {size : Nat} {v : Value} {l : List α} {R : List Value → α → List Nat → Prop} {F : List Nat} (h : OwElems w e size v l R F) : l.length ≤ maxLen := by
  obtain ⟨Cs, Fs, h1, h2, h3, h4, rfl⟩ := h
  rcases h4.2 with ⟨_, h0⟩ | ⟨g, cap, cur, rfl, hb, hg, hnc, hcm, _⟩
  · rw [h0]; exact Nat.zero_le _
  · omega
theorem OwAttrs.rd {w : World} {v : Value} {l : List (List Int × List Int)} {F : List Nat} (h : OwAttrs w v l F) : RdAttrs w v l := OwElems.rd h (OwElems.len h) (fun C x G ⟨a, b, e, h1, h2, _⟩ => ⟨a, b, e, h1.byt, h2.byt⟩)
theorem OwNode.rd {n : Nat} {w : World} {C : List Value} {t : Tr n} {F : List Nat} (h : OwNode n w C t F) : RdNode n w C t := by
  induction n generalizing C F with
  | zero => exact h
  | succ n ih =>
    obtain ⟨a, b, c, d, Fc, Fd, e, k1, k2, h1, h2, h3, h4, rfl⟩ := h
    exact ⟨a, b, c, d, e, k1, k2, h1.byt, h2.byt, h3.rd, OwElems.rd h4 (OwElems.len h4) (fun C x G hr => ih hr)⟩
theorem OwKids.rd {n : Nat} {w : World} {v : Value} {l : List (Tr n)} {F : List Nat} (h : OwKids n w v l F) : RdKids n w v l := OwElems.rd h (OwElems.len h) (fun C x G hr => OwNode.rd hr)

end Go.Proofs.Ytcabolcfoijglaa
