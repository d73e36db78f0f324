/- Own texts joined: OpN, DoM, FoH, BsA, WtA, ChA, FoD, FoE, SdI. -/
import Derived.Test.YtnfafchajjclaaaGreatDoorJa
import Derived.Test.YtnfafchajjclaaaGreatDoorJb
import Derived.Test.YtnfafchajjclaaaGreatDoorJc
import Derived.Test.YtnfafchajjclaaaGreatDoorJd
import Derived.Test.YtnfafchajjclaaaGreatDoorJe
import Derived.Test.YtnfafchajjclaaaGreatDoorJf
import Derived.Test.YtnfafchajjclaaaGreatDoorJg
import Derived.Test.YtnfafchajjclaaaGreatDoorJh
import Derived.Deep.CutBlock
import Derived.Deep.RegionHeld3
import Derived.Deep.QuietTactic
import Derived.BigQuiet

/- The test of an operation, the two ways round, in plain mathematics. -/
namespace Go.Proofs.YtnfafchajjclaaaGreatDoor
set_option linter.unusedVariables false

theorem headB_eq (o : OpV) : opHeadB o = (decide (o.kind < 0) || (decide (3 < o.kind) || (!stampB o.atN o.atR || !textB o.text))) := by
  unfold opHeadB stampB
  have e1 : decide (1 ≤ o.atN) = !decide (o.atN < 1) := by rw [Bool.eq_iff_iff]; simp
  have e2 : decide (o.atN ≤ 1000000) = !decide (1000000 < o.atN) := by rw [Bool.eq_iff_iff]; simp
  have e3 : decide (0 ≤ o.atR) = !decide (o.atR < 0) := by rw [Bool.eq_iff_iff]; simp
  have e4 : decide (o.atR < 8) = !decide (8 ≤ o.atR) := by rw [Bool.eq_iff_iff]; simp
  rw [e1, e2, e3, e4]
  cases decide (o.kind < 0) <;> cases decide (3 < o.kind) <;> cases decide (o.atN < 1) <;> cases decide (1000000 < o.atN) <;> cases decide (o.atR < 0) <;> cases decide (8 ≤ o.atR) <;> rfl
theorem text_none {t : List Int} (h : ((t.length : Int) == 0) = true) : textB t = true := by
  have : t = [] := by simpa using h
  subst this
  rfl
theorem len_nil : ((([] : List Int).length : Int) == 0) = true := rfl
theorem zero_zero : zeroB 0 0 = true := rfl

def rest0 (o : OpV) : OpV := ⟨0, 0, 0, o.nodeN, o.nodeR, 0, 0, [], 0, [], [], o.gone⟩
def rest1 (o : OpV) : OpV := ⟨0, 0, 0, 0, 0, 0, 0, [], o.elem, o.name, o.text, o.gone⟩
def rest2 (o : OpV) : OpV := ⟨0, 0, 0, 0, 0, o.parN, o.parR, o.key, o.elem, o.name, [], o.gone⟩
def rest3 (o : OpV) : OpV := ⟨0, 0, 0, 0, 0, o.parN, o.parR, o.key, o.elem, [], [], false⟩

theorem opB_0 {o : OpV} (h : o.kind = 0) : opB o = (stampB o.atN o.atR && ((idB o.parN o.parR && (keyB o.key && loneB o.elem o.name o.text)) && zeroOpB (rest0 o))) := by
  unfold opB
  rw [headB_eq, h]
  simp only [Int.lt_irrefl, decide_false, Bool.false_or, beq_self_eq_true, if_true, show decide ((3 : Int) < 0) = false from rfl]
  unfold opNewB zeroOpB rest0
  simp only [zero_zero, len_nil, beq_self_eq_true, Bool.true_and]
  unfold loneB
  cases hs : stampB o.atN o.atR
  · simp
  cases idB o.parN o.parR
  · simp
  cases keyB o.key
  · simp
  cases zeroB o.nodeN o.nodeR
  · simp
  cases o.gone
  · by_cases e1 : o.elem = 1
    · rw [e1]
      cases textB o.text <;> simp
    · by_cases e0 : o.elem = 0
      · rw [e0]
        cases ht : textB o.text
        · cases hl : ((o.text.length : Int) == 0)
          · simp
          · rw [text_none hl] at ht; cases ht
        · simp
      · simp [e0, e1]
  · simp

theorem opB_1 {o : OpV} (h : o.kind = 1) : opB o = (stampB o.atN o.atR && ((idB o.nodeN o.nodeR && (idB o.parN o.parR && keyB o.key)) && zeroOpB (rest1 o))) := by
  unfold opB
  rw [headB_eq, h]
  simp only [show decide ((1 : Int) < 0) = false from rfl, Bool.false_or, show ((1 : Int) == 0) = false from rfl, show ((1 : Int) == 1) = true from rfl, show decide ((3 : Int) < 1) = false from rfl, if_true]
  unfold opMoveB zeroOpB rest1
  simp only [zero_zero, len_nil, beq_self_eq_true, Bool.true_and]
  cases hs : stampB o.atN o.atR
  · simp
  cases idB o.nodeN o.nodeR
  · simp
  cases idB o.parN o.parR
  · simp
  cases keyB o.key
  · simp
  cases hl : ((o.text.length : Int) == 0)
  · simp
  · rw [text_none hl]; simp

theorem opB_2 {o : OpV} (h : o.kind = 2) : opB o = (stampB o.atN o.atR && ((idB o.nodeN o.nodeR && textB o.text) && zeroOpB (rest2 o))) := by
  unfold opB
  rw [headB_eq, h]
  simp only [show decide ((2 : Int) < 0) = false from rfl, Bool.false_or, show ((2 : Int) == 0) = false from rfl, show ((2 : Int) == 1) = false from rfl, show decide ((3 : Int) < 2) = false from rfl]
  unfold opRestB zeroOpB rest2
  rw [h]
  simp only [zero_zero, len_nil, beq_self_eq_true, Bool.true_and, if_true]
  have ek : decide (0 < (o.key.length : Int)) = !((o.key.length : Int) == 0) := by rw [Bool.eq_iff_iff]; simp [Nat.pos_iff_ne_zero]
  rw [ek]
  cases hs : stampB o.atN o.atR
  · simp
  cases idB o.nodeN o.nodeR
  · simp
  cases textB o.text
  · simp
  cases zeroB o.parN o.parR
  · simp
  cases ((o.key.length : Int) == 0)
  · simp
  cases (o.elem == 0)
  · simp
  simp

theorem opB_3 {o : OpV} (h : o.kind = 3) : opB o = (stampB o.atN o.atR && ((idB o.nodeN o.nodeR && (nameB o.name && valB o.text o.gone)) && zeroOpB (rest3 o))) := by
  unfold opB
  rw [headB_eq, h]
  simp only [show decide ((3 : Int) < 0) = false from rfl, Bool.false_or, show ((3 : Int) == 0) = false from rfl, show ((3 : Int) == 1) = false from rfl, show decide ((3 : Int) < 3) = false from rfl]
  unfold opRestB zeroOpB rest3 valB
  rw [h]
  simp only [zero_zero, len_nil, beq_self_eq_true, Bool.true_and, show ((3 : Int) == 2) = false from rfl]
  have ek : decide (0 < (o.key.length : Int)) = !((o.key.length : Int) == 0) := by rw [Bool.eq_iff_iff]; simp [Nat.pos_iff_ne_zero]
  rw [ek]
  cases hs : stampB o.atN o.atR
  · simp
  cases idB o.nodeN o.nodeR
  · simp
  cases zeroB o.parN o.parR
  · simp
  cases ((o.key.length : Int) == 0)
  · simp
  cases (o.elem == 0)
  · simp
  cases nameB o.name
  · simp
  cases o.gone
  · cases textB o.text <;> simp
  · cases hl : ((o.text.length : Int) == 0)
    · simp
    · rw [text_none hl]; simp

theorem opB_4 {o : OpV} (h0 : o.kind ≠ 0) (h1 : o.kind ≠ 1) (h2 : o.kind ≠ 2) (h3 : o.kind ≠ 3) : opB o = false := by
  have : (decide (o.kind < 0) || decide (3 < o.kind)) = true := by
    simp only [Bool.or_eq_true, decide_eq_true_eq]
    omega
  unfold opB
  rw [headB_eq, ← Bool.or_assoc, this]
  rfl
end Go.Proofs.YtnfafchajjclaaaGreatDoor

/- What an operation asks and leaves of a forest, as the program asks it. Mathematics. No function of the program. -/
namespace Go.Proofs.YtnfafchajjclaaaGreatDoor
open Go.RowKit
set_option linter.unusedVariables false

/-- Attributes in order, few enough. -/
def AtI (l : List PlV) : Prop := ∀ p ∈ l, SrtA p.attrs ∧ p.attrs.length ≤ 4
/-- Root and trash are elements. -/
def Kd2 (l : List PlV) : Prop := ∀ (k : Nat) (p : PlV), k < 2 → l[k]? = some p → p.kind = 0
theorem posA_before {l : List AtV} {n : List Int} : ∀ x ∈ l.take (posA l n), klB x.1 n = true := by
  induction l with
  | nil => intro x hx; simp at hx
  | cons a r ih =>
    rw [posA_cons]
    by_cases h : klB a.1 n = true
    · rw [if_pos h, List.take_succ_cons]
      intro x hx
      rcases List.mem_cons.1 hx with rfl | hx
      · exact h
      · exact ih x hx
    · rw [if_neg h]; intro x hx; simp at hx
theorem posA_behind {l : List AtV} {n : List Int} (hs : SrtA l) (ht : thereA l n = false) : ∀ x ∈ l.drop (posA l n), klB n x.1 = true := by
  induction l with
  | nil => intro x hx; simp at hx
  | cons a r ih =>
    obtain ⟨ha, hr⟩ := List.pairwise_cons.1 hs
    rw [posA_cons]
    rw [thereA_cons] at ht
    by_cases h : klB a.1 n = true
    · rw [if_pos h] at ht ⊢
      rw [List.drop_succ_cons]
      exact ih hr ht
    · rw [if_neg h] at ht ⊢
      have hne : a.1 ≠ n := of_decide_eq_false ht
      have h1 := klB_tri a.1 n
      rw [decide_eq_false hne] at h1
      have h0 : klB a.1 n = false := by simpa using h
      rw [h0] at h1
      have hna : klB n a.1 = true := by simpa using h1
      intro x hx
      rw [List.drop_zero] at hx
      rcases List.mem_cons.1 hx with rfl | hx
      · exact hna
      · exact klB_trans hna (ha x hx)
theorem chg_srt {l : List AtV} (h : SrtA l) (o : OpV) : SrtA (chgI l o) := by
  unfold chgI
  by_cases ht : thereA l o.name = true
  · rw [if_pos ht]
    obtain ⟨hp, he⟩ := thereA_at ht
    by_cases hg : o.gone = true
    · rw [if_pos hg, ← List.eraseIdx_eq_take_drop_succ]
      exact List.Pairwise.sublist (List.eraseIdx_sublist ..) h
    · rw [if_neg hg]
      have hm : (l.set (posA l o.name) (o.name, o.text)).map (·.1) = l.map (·.1) := by
        rw [List.map_set]
        apply List.ext_getElem?
        intro j
        rw [List.getElem?_set]
        split
        · rename_i e
          subst e
          simp [hp, he]
        · rfl
      have h2 : (l.map (·.1)).Pairwise (fun a b => klB a b = true) := List.pairwise_map.2 h
      rw [← hm] at h2
      exact List.pairwise_map.1 h2
  · have ht' : thereA l o.name = false := by simpa using ht
    rw [if_neg ht]
    by_cases hg : o.gone = true
    · rw [if_pos hg]; exact h
    · rw [if_neg hg]
      by_cases h4 : l.length = 4
      · rw [if_pos h4]; exact h
      · rw [if_neg h4]
        refine List.pairwise_append.2 ⟨List.Pairwise.sublist (List.take_sublist ..) h, List.pairwise_cons.2 ⟨fun y hy => posA_behind h ht' y hy, List.Pairwise.sublist (List.drop_sublist ..) h⟩, fun x hx y hy => ?_⟩
        have hx' := posA_before x hx
        rcases List.mem_cons.1 hy with rfl | hy
        · exact hx'
        · exact klB_trans hx' (posA_behind h ht' y hy)
theorem chg_len {l : List AtV} (hl : l.length ≤ 4) (o : OpV) : (chgI l o).length ≤ 4 := by
  unfold chgI
  have := posA_le l o.name
  split
  · split
    · simp; omega
    · simpa using hl
  · split
    · exact hl
    · split
      · exact hl
      · simp; omega
theorem set_mem {l : List PlV} {k : Nat} {p q : PlV} (h : q ∈ l.set k p) : q ∈ l ∨ q = p := List.mem_or_eq_of_mem_set h
theorem AtI.do {l : List PlV} (h : AtI l) (o : OpV) : AtI (doV l o) := by
  unfold doV
  split
  · split
    · intro p hp
      rcases List.mem_append.1 hp with hp | hp
      · exact h p hp
      · have e : p = newP o := by simpa using hp
        rw [e]
        exact ⟨List.Pairwise.nil, by simp [newP]⟩
    · exact h
  · split
    · exact h
    · rename_i k hk
      split
      · exact h
      · rename_i p hp
        have hpm := h p (List.mem_of_getElem? hp)
        split
        · split
          · intro q hq
            rcases set_mem hq with hq | rfl
            · exact h q hq
            · exact hpm
          · exact h
        · split
          · split
            · intro q hq
              rcases set_mem hq with hq | rfl
              · exact h q hq
              · exact hpm
            · exact h
          · split
            · intro q hq
              rcases set_mem hq with hq | rfl
              · exact h q hq
              · show SrtA (setAttrs p.attrs o) ∧ (setAttrs p.attrs o).length ≤ 4
                rw [chg_eq hpm.1 hpm.2]
                exact ⟨chg_srt hpm.1 o, chg_len hpm.2 o⟩
            · exact h
theorem Kd2.set {l : List PlV} (h : Kd2 l) {k : Nat} {p q : PlV} (hk : l[k]? = some p) (e : q.kind = p.kind) : Kd2 (l.set k q) := fun j r hj hr => by
  rcases get_set hk hr with ⟨rfl, rfl⟩ | ⟨_, hr⟩
  · rw [e]; exact h _ p hj hk
  · exact h j r hj hr
theorem Kd2.do {l : List PlV} (h : Kd2 l) (h2 : 2 ≤ l.length) (o : OpV) : Kd2 (doV l o) := by
  unfold doV
  split
  · split
    · intro k p hk hp
      rw [List.getElem?_append_left (by omega)] at hp
      exact h k p hk hp
    · exact h
  · split
    · exact h
    · split
      · exact h
      · rename_i p hp
        split
        · split
          · exact h.set hp rfl
          · exact h
        · split
          · split
            · exact h.set hp rfl
            · exact h
          · split
            · exact h.set hp rfl
            · exact h
theorem okI_id {n r : Int} (h : idB n r = true) : okI (n, r) := by
  unfold idB at h
  simp only [Bool.and_eq_true, Bool.or_eq_true, decide_eq_true_eq] at h
  exact ⟨WalkArith.wf_i64 (by omega), WalkArith.wf_i64 (by omega)⟩
theorem okI_st {n r : Int} (h : stampB n r = true) : okI (n, r) := by
  unfold stampB at h
  simp only [Bool.and_eq_true, decide_eq_true_eq] at h
  exact ⟨WalkArith.wf_i64 (by omega), WalkArith.wf_i64 (by omega)⟩
theorem op_kind {o : OpV} (h : opB o = true) : o.kind = 0 ∨ o.kind = 1 ∨ o.kind = 2 ∨ o.kind = 3 := by
  by_cases h0 : o.kind = 0
  · exact .inl h0
  · by_cases h1 : o.kind = 1
    · exact .inr (.inl h1)
    · by_cases h2 : o.kind = 2
      · exact .inr (.inr (.inl h2))
      · by_cases h3 : o.kind = 3
        · exact .inr (.inr (.inr h3))
        · rw [opB_4 h0 h1 h2 h3] at h; cases h
/-- What an accepted operation has. -/
theorem op_new {o : OpV} (h : opB o = true) (h0 : o.kind = 0) : stampB o.atN o.atR = true ∧ okI o.at' ∧ okI o.par ∧ (o.elem = 0 ∨ o.elem = 1) := by
  rw [opB_0 h0] at h
  simp only [Bool.and_eq_true] at h
  refine ⟨h.1, okI_st h.1, okI_id h.2.1.1, ?_⟩
  have h9 := h.2.1.2.2
  unfold loneB at h9
  by_cases e0 : o.elem = 0
  · exact .inl e0
  · by_cases e1 : o.elem = 1
    · exact .inr e1
    · rw [if_neg e0, if_neg e1] at h9; cases h9
theorem op_move {o : OpV} (h : opB o = true) (h1 : o.kind = 1) : okI o.node ∧ okI o.par := by
  rw [opB_1 h1] at h
  simp only [Bool.and_eq_true] at h
  exact ⟨okI_id h.2.1.1, okI_id h.2.1.2.1⟩
theorem op_text {o : OpV} (h : opB o = true) (h1 : o.kind = 2) : okI o.node := by
  rw [opB_2 h1] at h
  simp only [Bool.and_eq_true] at h
  exact okI_id h.2.1.1
theorem op_attr {o : OpV} (h : opB o = true) (h1 : o.kind = 3) : okI o.node ∧ NameOk o.name := by
  rw [opB_3 h1] at h
  simp only [Bool.and_eq_true] at h
  exact ⟨okI_id h.2.1.1, (nameB_iff _).1 h.2.1.2.1⟩
/-- Both ask the same of a move. -/
theorem may_eq {l : List PlV} (h : Fr l) {o : OpV} {k : Nat} (hk : posP l o.node = some k) : mayMove l o k = mayI l o.node o.par := by
  unfold mayMove mayI
  have hlow := h.low hk
  have e1 : decide (2 ≤ k) = !decide (o.node = rootV ∨ o.node = trashV) := by
    by_cases h2 : k < 2
    · rw [decide_eq_true (hlow.1 h2), decide_eq_false (by omega)]; rfl
    · rw [decide_eq_false (fun e => h2 (hlow.2 e)), decide_eq_true (by omega)]; rfl
  rw [e1]
  cases ht : takesV l o.par with
  | false => simp
  | true =>
    obtain ⟨j, p, hj, _⟩ := takes_pos ht
    rw [h.under o.par o.node j hj]
end Go.Proofs.YtnfafchajjclaaaGreatDoor

/- The forest's doNew. -/
namespace Go.Proofs.YtnfafchajjclaaaGreatDoor
open Go.RowKit Go.Maps
set_option linter.unusedVariables false
set_option maxRecDepth 100000

def newT (o : OpV) : Tr 1 := (⟨o.elem, o.name, o.text, [], []⟩ : Nd (Tr 0))
theorem newT_sz (o : OpV) : szT 1 (newT o) = o.name.length + o.text.length := by
  show o.name.length + o.text.length + szA [] + (0 + 0) = _
  rfl
theorem rd_none {α : Type} (w : World) (size : Nat) (R : List Value → α → Prop) : Elems w size (.slice none 0 0) ([] : List α) R := ⟨Nat.zero_le _, .inl ⟨rfl, rfl⟩⟩
theorem owpl_nd {w : World} {a b c : Value} {x : List Int} {Fa : List Nat} {m : Nat} (hz : OwnZ w m a x) (h : (FB b ++ FB c ++ Fa).Nodup) (hlt : ∀ q ∈ FB b ++ FB c ++ Fa, q < m) : (FB a ++ FB b ++ FB c ++ Fa).Nodup := by
  rw [List.append_assoc, List.append_assoc]
  rw [List.append_assoc] at h hlt
  exact List.nodup_append.2 ⟨FB_nodup _, h, fun q hq q' hq' e => by
    have h1 := (hz.lt q (by simpa [FB] using hq)).1
    have h2 := hlt q' hq'
    omega⟩
theorem placeNew_any (w : World) (o : OpV) (k2 k3 : Option Addr) (d2 d3 : Nat) (h2 : Byt w (.slice k2 o.name.length d2) o.name) (h3 : Byt w (.slice k3 o.text.length d3) o.text) (hs2 : o.name.length ≤ 1000000) (hs3 : o.text.length ≤ 1000000) (hel : o.elem = 0 ∨ o.elem = 1) :
    Calls Tryz.prog 62 #[.agg #[.int .i64 o.atN, .int .i64 o.atR], .agg #[.int .i64 o.elem, .slice k2 o.name.length d2, .slice k3 o.text.length d3, .slice none 0 0, .slice none 0 0]] w fun e w' => ∃ p2 q2 p3 q3 p4 q4 Fa, e = .returned (.agg #[.int .i64 o.atN, .int .i64 o.atR, .int .i64 0, .int .i64 0, .slice none 0 0, .int .i64 o.elem, .slice p2 o.name.length q2, .slice p3 o.text.length q3, .slice p4 0 q4]) ∧
      Own w' 0 (.slice p2 o.name.length q2) o.name ∧ Own w' 0 (.slice p3 o.text.length q3) o.text ∧ OwAttrs w' (.slice p4 0 q4) [] Fa ∧ (FB (.slice p2 o.name.length q2) ++ FB (.slice p3 o.text.length q3) ++ Fa).Nodup ∧ (∀ q ∈ FB (.slice p2 o.name.length q2) ++ FB (.slice p3 o.text.length q3) ++ Fa, w.heap.size ≤ q) ∧ Below w.heap.size w w' := by
  have hrd : RdNode 1 w [.int .i64 o.elem, .slice k2 o.name.length d2, .slice k3 o.text.length d3, .slice none 0 0, .slice none 0 0] (newT o) :=
    ⟨_, _, _, _, rfl, by show _ ≤ o.elem; omega, by show o.elem ≤ _; omega, h2, h3, rd_none _ _ _, rd_none _ _ _⟩
  exact placeOf_any 0 w (o.atN, o.atR) (newT o) _ _ _ _ hrd (by rw [newT_sz]; omega)
set_option maxHeartbeats 12800000 in
theorem doNew_any {B : Nat} {w0 w : World} {g mb : Nat} {a : Option Addr} {c : Nat} {l : List PlV} {F : List Nat} (h : FoS B w g mb a c l F) (hB0 : w0.heap.size ≤ B) (hw0 : Below w0.heap.size w0 w) (o : OpV) (k1 k2 k3 : Option Addr) (d1 d2 d3 : Nat)
    (h1 : Ints w0 (.slice k1 o.key.length d1) o.key) (h2 : Byt w0 (.slice k2 o.name.length d2) o.name) (h3 : Byt w0 (.slice k3 o.text.length d3) o.text) (hs1 : o.key.length ≤ 1000000) (hs2 : o.name.length ≤ 1000000) (hs3 : o.text.length ≤ 1000000)
    (hat : okI o.at') (hpar : okI o.par) (hel : o.elem = 0 ∨ o.elem = 1) (hnew : posP l o.at' = none) (hlen : l.length + 1 ≤ 100000) :
    Calls Tryz.prog 96 #[.pointer (some ⟨g, 0, none⟩), .agg #[.int .i64 o.kind, .int .i64 o.atN, .int .i64 o.atR, .int .i64 o.nodeN, .int .i64 o.nodeR, .int .i64 o.parN, .int .i64 o.parR, .slice k1 o.key.length d1, .int .i64 o.elem, .slice k2 o.name.length d2, .slice k3 o.text.length d3, .bool o.gone]] w fun e w' => e = .returned (.tuple #[]) ∧ FoT B w g mb (if takesV l o.par = true then l ++ [newP o] else l) F w' := by
  refine calls_via ?_
  intro Q HQ
  have hA : Below w.heap.size w (w.alloc (.cells #[.int .i64 o.kind, .int .i64 o.atN, .int .i64 o.atR, .int .i64 o.nodeN, .int .i64 o.nodeR, .int .i64 o.parN, .int .i64 o.parR, .slice k1 o.key.length d1, .int .i64 o.elem, .slice k2 o.name.length d2, .slice k3 o.text.length d3, .bool o.gone] 68)) := (Below.refl _ _).alloc (Nat.le_refl _) _
  have lb := Loc.made w #[.int .i64 o.kind, .int .i64 o.atN, .int .i64 o.atR, .int .i64 o.nodeN, .int .i64 o.nodeR, .int .i64 o.parN, .int .i64 o.parR, .slice k1 o.key.length d1, .int .i64 o.elem, .slice k2 o.name.length d2, .slice k3 o.text.length d3, .bool o.gone] 68
  have hq1 := h.keep hA
  have HT := hide (takes_any hq1 o.par hpar)
  unfold OpV.par idVal at HT
  have b5 := lb.cell 5
  have b6 := lb.cell 6
  have hgl := h.set.lt
  have hml := h.map.lt
  have hFl := OwPlsM.lt h.row
  have hge : ∀ q ∈ g :: mb :: F, B ≤ q := fun q hq => by rcases List.mem_cons.1 hq with rfl | hq; (exact h.geg); (rcases List.mem_cons.1 hq with rfl | hq; (exact h.gem); (exact h.ge q hq))
  have LL := hide (And.intro hA (And.intro lb (And.intro hw0 (And.intro h1 (And.intro h2 h3)))))
  have HV := hide (And.intro hat (And.intro hpar (And.intro hel hnew)))
  have HGE := hide hge
  clear hA lb h hq1 hw0 h1 h2 h3 hat hpar hel hnew hge
  go_enter Tryz.func96, Tryz.ntmps96
  go_wp2_with fail
  refine (unhide HT).mono ?_
  rintro e w2 ⟨rfl, hs, hf2⟩
  obtain ⟨hA, lb, hw0, h1, h2, h3⟩ := unhide LL
  have hfa : Frm w w2 [g] := (Frm.ofBelow hA [g]).trans hf2
  have lb2 := lb.frm hf2 (by simp; omega)
  have hw2 : Below w0.heap.size w0 w2 := hw0.trans (hfa.below hw0.size (fun q hq => by have e9 : q = g := (by simpa using hq); have := unhide HGE g (by simp); omega))
  clear LL HT lb hf2 hA hw0 b5 b6
  cases ht : takesV l (o.parN, o.parR) with
  | false =>
    have ht' : takesV l o.par = false := ht
    have HE := hide (unhide HQ (.returned (.tuple #[])) w2 ⟨rfl, a, c, F, by rw [ht']; exact hs, hfa.mono (fun q hq => by have e9 : q = g := (by simpa using hq); simp [e9]), fun q hq => .inl hq⟩)
    clear HQ hs hfa lb2 hw2 h1 h2 h3 ht ht'
    go_wp2_with fail
    go_end0
    exact unhide HE
  | true =>
    have ht' : takesV l o.par = true := ht
    have HTK := hide ht'
    clear ht ht'
    obtain ⟨hat, hpar, hel, hnew⟩ := unhide HV
    have HP := hide (placeNew_any w2 o k2 k3 d2 d3 (h2.keep hw2) (h3.keep hw2) hs2 hs3 hel)
    have c1 := lb2.cell 1
    have c2 := lb2.cell 2
    have c8 := lb2.cell 8
    have c9 := lb2.cell 9
    have c10 := lb2.cell 10
    have HX := hide (And.intro hs (And.intro hfa (And.intro lb2 (And.intro hw2 h1))))
    clear hs hfa lb2 hw2 h1 h2 h3
    go_upto_region 3 with (go_at_call 62; refine (unhide HP).mono ?_; rintro e w3 ⟨p2, q2, p3, q3, p4, q4, Fa, rfl, o2, o3, o4, hnd, hrg, hb3⟩)
    obtain ⟨hs, hfa, lb2, hw2, h1⟩ := unhide HX
    have hb4 : Below w3.heap.size w3 (w3.alloc (.cells #[.int .i64 o.atN, .int .i64 o.atR, .int .i64 0, .int .i64 0, .slice none 0 0, .int .i64 o.elem, .slice p2 o.name.length q2, .slice p3 o.text.length q3, .slice p4 0 q4] 107)) := (Below.refl _ _).alloc (Nat.le_refl _) _
    have lp := Loc.made w3 #[.int .i64 o.atN, .int .i64 o.atR, .int .i64 0, .int .i64 0, .slice none 0 0, .int .i64 o.elem, .slice p2 o.name.length q2, .slice p3 o.text.length q3, .slice p4 0 q4] 107
    have hb24 := bstep hb3 hb4
    have hs4 := hs.keep hb24
    have HB24 := hide (Frm.ofBelow hb24 [])
    have lb4 := lb2.all hb24
    have hw4 := hw2.trans (hb24.mono hw2.size)
    have e2 : Own (w3.alloc (.cells #[.int .i64 o.atN, .int .i64 o.atR, .int .i64 0, .int .i64 0, .slice none 0 0, .int .i64 o.elem, .slice p2 o.name.length q2, .slice p3 o.text.length q3, .slice p4 0 q4] 107)) 0 (.slice p2 o.name.length q2) o.name := o2.keep hb4
    have e3 : Own (w3.alloc (.cells #[.int .i64 o.atN, .int .i64 o.atR, .int .i64 0, .int .i64 0, .slice none 0 0, .int .i64 o.elem, .slice p2 o.name.length q2, .slice p3 o.text.length q3, .slice p4 0 q4] 107)) 0 (.slice p3 o.text.length q3) o.text := o3.keep hb4
    have e4 : OwAttrs (w3.alloc (.cells #[.int .i64 o.atN, .int .i64 o.atR, .int .i64 0, .int .i64 0, .slice none 0 0, .int .i64 o.elem, .slice p2 o.name.length q2, .slice p3 o.text.length q3, .slice p4 0 q4] 107)) (.slice p4 0 q4) [] Fa := OwAttrs.frm o4 (Frm.ofBelow hb4 []) (fun _ _ => by simp)
    have hlt3 : ∀ q ∈ FB (.slice p2 o.name.length q2) ++ FB (.slice p3 o.text.length q3) ++ Fa, q < w3.heap.size := fun q hq => by
      rcases List.mem_append.1 hq with hq | hq
      · rcases List.mem_append.1 hq with hq | hq
        · exact (o2.lt q (by simpa [FB] using hq)).2
        · exact (o3.lt q (by simpa [FB] using hq)).2
      · exact OwAttrs.lt o4 q hq
    have hrg' : ∀ q ∈ FB (.slice p2 o.name.length q2) ++ FB (.slice p3 o.text.length q3) ++ Fa, w2.heap.size ≤ q := hrg
    have hnd' : (FB (.slice p2 o.name.length q2) ++ FB (.slice p3 o.text.length q3) ++ Fa).Nodup := hnd
    have hs24 := hb3.size
    have hbl2 := lb2.lt
    have hsz4 : (w3.alloc (.cells #[.int .i64 o.atN, .int .i64 o.atR, .int .i64 0, .int .i64 0, .slice none 0 0, .int .i64 o.elem, .slice p2 o.name.length q2, .slice p3 o.text.length q3, .slice p4 0 q4] 107)).heap.size = w3.heap.size + 1 := by simp
    clear HX HP hs hb3 hb4 hb24 lb2 hw2 o2 o3 o4 hrg hnd c1 c2 c8 c9 c10
    generalize w3.alloc (.cells #[.int .i64 o.atN, .int .i64 o.atR, .int .i64 0, .int .i64 0, .slice none 0 0, .int .i64 o.elem, .slice p2 o.name.length q2, .slice p3 o.text.length q3, .slice p4 0 q4] 107) = w4 at *
    generalize w3.heap.size = pb at *
    have hd : Below w4.heap.size w4 w4.drew := (Below.refl _ _).drew
    have HKP := hide (fun (W : World) (hW : Below w4.heap.size w4 W) => lp.all hW)
    have HC := hide (copyKey_any w4.drew _ o.key (h1.keep (hw4.trans (hd.mono hw4.size))) (by omega))
    have d5 : w4.drew.cell? ⟨w.heap.size, 5, none⟩ = some (.int .i64 o.parN) := (lb4.all hd).cell 5
    have d6 : w4.drew.cell? ⟨w.heap.size, 6, none⟩ = some (.int .i64 o.parR) := (lb4.all hd).cell 6
    have d7 : w4.drew.cell? ⟨w.heap.size, 7, none⟩ = some (.slice k1 o.key.length d1) := (lb4.all hd).cell 7
    have hnp : w.heap.size ≠ pb := by have := lb4.lt; have := hfa.size; have := hbl2; omega
    have HK := hide (fun (W : World) (hW : Below w4.heap.size w4 W) => And.intro (lb4.all hW) (lp.all hW))
    have HY := hide (And.intro hs4 (And.intro hfa (And.intro hw4 (And.intro e2 (And.intro e3 (And.intro e4 (And.intro hlt3 (And.intro hrg' hnd'))))))))
    clear hs4 hfa hw4 e2 e3 e4 hlt3 hrg' hnd' lb4 lp h1
    go_region_held3 (fun w' => w'.cell? ⟨w.heap.size, 5, none⟩ = some (.int .i64 o.parN) ∧ w'.cell? ⟨w.heap.size, 6, none⟩ = some (.int .i64 o.parR) ∧ w'.cell? ⟨w.heap.size, 7, none⟩ = some (.slice k1 o.key.length d1))
      (first | exact ⟨by assumption, by assumption, by assumption⟩ | simp [*])
      (first
        | (go_at_call 99; refine (unhide HC).mono ?_; clear HC; rintro e w5 ⟨a5, c5, rfl, ho5, hb5⟩; have hK5 := bstep hd hb5; have lb5 := (unhide HK w5 hK5).1; have lp5 := (unhide HK w5 hK5).2; have x5 := lb5.cell 5; have x6 := lb5.cell 6; have x7 := lb5.cell 7; have y2 := lp5.cell 2; have y3 := lp5.cell 3; have y4 := lp5.cell 4; have z2 := lp5.frozen 2; have z3 := lp5.frozen 3; have z4 := lp5.frozen 4; have lbS := (lb5.other pb 2 (.int .i64 o.parN) hnp).other pb 3 (.int .i64 o.parR) hnp; have lpS := (lp5.set 2 (.int .i64 o.parN)).set 3 (.int .i64 o.parR); have s5 := lbS.cell 5; have s6 := lbS.cell 6; have s7 := lbS.cell 7; have v4 := lpS.cell 4; have u4 := lpS.frozen 4; have lbT := lbS.other pb 4 (.slice a5 o.key.length c5) hnp; have t5 := lbT.cell 5; have t6 := lbT.cell 6; have t7 := lbT.cell 7; have lpT := lpS.set 4 (.slice a5 o.key.length c5); have HLL := hide (And.intro lbT lpT); clear lb5 lp5 lbS lpS lbT lpT))
    all_goals
      obtain ⟨lbT, lpT⟩ := unhide HLL
      obtain ⟨hs4, hfa, hw4, e2, e3, e4, hlt3, hrg', hnd'⟩ := unhide HY
      clear x5 x6 x7 y2 y3 y4 z2 z3 z4 s5 s6 s7 v4 u4 t5 t6 t7 HLL HY HK d5 d6 d7
      have fs : Frm w5 (((w5.setCell ⟨pb, 2, none⟩ (.int .i64 o.parN)).setCell ⟨pb, 3, none⟩ (.int .i64 o.parR)).setCell ⟨pb, 4, none⟩ (.slice a5 o.key.length c5)) [pb] := ((set_frm _ pb 2 _).trans (set_frm _ pb 3 _)).trans (set_frm _ pb 4 _)
      have hsz : (((w5.setCell ⟨pb, 2, none⟩ (.int .i64 o.parN)).setCell ⟨pb, 3, none⟩ (.int .i64 o.parR)).setCell ⟨pb, 4, none⟩ (.slice a5 o.key.length c5)).heap.size = w5.heap.size := by simp
      generalize (((w5.setCell ⟨pb, 2, none⟩ (.int .i64 o.parN)).setCell ⟨pb, 3, none⟩ (.int .i64 o.parR)).setCell ⟨pb, 4, none⟩ (.slice a5 o.key.length c5)) = w6 at *
      have hs45 := hK5.size
      have hs0 := hfa.size
      have hp5 : ∀ q, q < pb → q ∉ [pb] := fun q hq e => by have e9 : q = pb := (by simpa using e); omega
      have hFl2 : ∀ q ∈ F, q < pb := fun q hq => by have := hFl q hq; omega
      have lp5 : Loc w5 pb _ 107 := (unhide HKP w5 hK5)
      have hs6 := (hs4.keep hK5).frm fs (hp5 g (by omega)) (hp5 mb (by omega)) (fun q hq => hp5 q (hFl2 q hq)) (fun q hq => by have e9 : q = pb := (by simpa using hq); rw [e9]; exact Cells.ofL lp5)
      have o5 : OwnZ w6 w4.heap.size (.slice a5 o.key.length c5) o.key := ⟨ho5.1, ownsRow_frm ho5.2 fs (fun q hq e => by have e9 : q = pb := (by simpa using e); have h9 := (ho5.lt q (by simpa [FB] using hq)).1; have h8 : w4.heap.size ≤ q := h9; omega)⟩
      have o2 := (e2.keep hK5).frm fs (fun q hq => hp5 q (hlt3 q (by simp [hq])))
      have o3 := (e3.keep hK5).frm fs (fun q hq => hp5 q (hlt3 q (by simp [hq])))
      have o4 := OwAttrs.frm (OwAttrs.frm e4 (Frm.ofBelow hK5 []) (fun _ _ => by simp)) fs (fun q hq => hp5 q (hlt3 q (by simp [hq])))
      have hG : ∀ q ∈ FB (.slice a5 o.key.length c5) ++ FB (.slice p2 o.name.length q2) ++ FB (.slice p3 o.text.length q3) ++ Fa, w2.heap.size ≤ q := fun q hq => by
        rw [List.append_assoc, List.append_assoc] at hq
        rcases List.mem_append.1 hq with hq | hq
        · have := (o5.lt q (by simpa [FB] using hq)).1; omega
        · exact hrg' q (by rw [List.append_assoc]; exact hq)
      have hgB := hs4.geg
      have HA := hide (add_any hs6 (newP o) a5 p2 p3 p4 c5 q2 q3 q4 _ ⟨_, _, _, _, Fa, rfl, o5.mono (Nat.zero_le _), o2.rowm, o3, o4, rfl⟩ (owpl_nd o5 hnd' (fun q hq => by have := hlt3 q hq; omega)) (fun q hq => by have := hG q hq; omega) (fun q hq hq' => by have := hG q hq'; have := hFl q hq; omega) hat hpar hnew hlen)
      have c0 := lpT.cell 0
      have c1 := lpT.cell 1
      have c2 := lpT.cell 2
      have c3 := lpT.cell 3
      have c4 := lpT.cell 4
      have c5_ := lpT.cell 5
      have c6 := lpT.cell 6
      have c7 := lpT.cell 7
      have c8 := lpT.cell 8
      have HZ := hide (And.intro hfa (And.intro (Frm.ofBelow hK5 (g :: mb :: F)) (And.intro fs hG)))
      clear lbT lpT hs6 o5 o2 o3 o4 hG hs4 e2 e3 e4 hfa fs lp5 ho5
      go_wp2_with (go_at_call 61; refine (unhide HA).mono ?_; rintro e w7 ⟨rfl, a7, c7_, F7, hs7, hf7, hF7⟩)
      obtain ⟨hfa, hfk, fs, hG⟩ := unhide HZ
      have HE := hide (unhide HQ (.returned (.tuple #[])) w7 ⟨rfl, a7, c7_, F7, by rw [unhide HTK]; exact hs7, (((hfa.mono (fun q hq => by have e9 : q = g := (by simpa using hq); simp [e9])).moreS (unhide HB24) (fun q hq => by cases hq)).moreS hfk (fun q hq => .inl hq)).moreS ((fs.mono (S' := [pb]) (fun q hq => hq))) (fun q hq => by have e9 : q = pb := (by simpa using hq); right; omega) |>.moreS hf7 (fun q hq => .inl hq), fun q hq => by
        rcases hF7 q hq with e | e | e
        · exact .inl e
        · have := hG q e; right; omega
        · right; omega⟩)
      clear HQ HZ HA hs7 hf7 hF7 hfa hfk fs hG
      go_end0
      exact unhide HE
end Go.Proofs.YtnfafchajjclaaaGreatDoor

/- slices.BinarySearchFunc over attributes, by their names. -/
namespace Go.Proofs.YtnfafchajjclaaaGreatDoor
open Go.RowKit
set_option linter.unusedVariables false
set_option maxRecDepth 100000

theorem byName_any (w : World) (x : AtV) (a1 a2 a3 : Option Addr) (c1 c2 c3 : Nat) (n : List Int) (h1 : Byt w (.slice a1 x.1.length c1) x.1) (h2 : Byt w (.slice a3 n.length c3) n) :
    Calls Tryz.prog 114 #[.agg #[.slice a1 x.1.length c1, .slice a2 x.2.length c2], .slice a3 n.length c3] w fun e w' => e = .returned (.int .i64 (cmpB x.1 n)) ∧ Below w.heap.size w w' := by
  have hA := (Below.refl w.heap.size w).alloc (Nat.le_refl _) (.cells #[.slice a1 x.1.length c1, .slice a2 x.2.length c2] 108)
  have lb := Loc.made w #[.slice a1 x.1.length c1, .slice a2 x.2.length c2] 108
  have b0 := lb.cell 0
  have HC := hide (cmpI_any (w.alloc (.cells #[.slice a1 x.1.length c1, .slice a2 x.2.length c2] 108)) _ _ x.1 n (h1.keep hA) (h2.keep hA))
  have HB := hide hA
  clear hA lb h1 h2
  generalize cmpB x.1 n = z at *
  go_enter Tryz.func114, Tryz.ntmps114
  go_wp2_with fail
  refine (unhide HC).mono ?_
  rintro e w1 ⟨rfl, hw1⟩
  subst w1
  go_wp2_with fail
  go_ret
  exact ⟨rfl, unhide HB⟩

set_option maxHeartbeats 6400000 in
theorem searchA_any (w : World) (v : Value) (l : List AtV) (n : List Int) (a3 : Option Addr) (c3 : Nat) (h : RdAttrs w v l) (hn : Byt w (.slice a3 n.length c3) n) (hs : SrtA l) (hl : l.length ≤ 100000) :
    Calls Tryz.prog 113 #[v, .slice a3 n.length c3, .func (.func 114) #[] #[]] w fun e w' => e = .returned (.tuple #[.int .i64 (posA l n : Int), .bool (thereA l n)]) ∧ Below w.heap.size w w' := by
  refine calls_via ?_
  intro Q HQ
  have HS := hide hs
  have HR := hide h
  have HN := hide hn
  obtain ⟨av, cv, rfl, _, _⟩ := Elems.shape h
  clear h hs hn
  go_enter Tryz.func113, Tryz.ntmps113
  go_wp2_with fail
  go_loopw [9, 10, 11] (fun i j _ wr => ∃ a b : Nat, a ≤ b ∧ b ≤ l.length ∧ i = .int .i64 a ∧ j = .int .i64 b ∧ Hid ((∀ k (hk : k < l.length), k < a → aheadA n l[k] = true) ∧ (∀ k (hk : k < l.length), b ≤ k → aheadA n l[k] = false)) ∧ Below w.heap.size w wr) (fun i j _ _ => (intOf j).toNat - (intOf i).toNat)
  case atStart => exact ⟨0, l.length, Nat.zero_le _, Nat.le_refl _, rfl, rfl, hide ⟨fun k _ hk => by omega, fun k hk hb => by omega⟩, Below.refl _ _⟩
  case round =>
    obtain ⟨a, b, hab, hbl, rfl, rfl, HI, hB⟩ := hrel
    by_cases hlt : a < b
    · have hlt' : (a : Int) < (b : Int) := by omega
      obtain ⟨m, hm⟩ : ∃ m : Nat, m = (a + b) / 2 := ⟨_, rfl⟩
      have hml : m < l.length := by omega
      have hma : a ≤ m := by omega
      have hmb : m < b := by omega
      have hmz : ((a : Int) + (b : Int)) / 2 = (m : Int) := by omega
      have HMZ := hide (And.intro hmz (And.intro hml (And.intro hma hmb)))
      have HBB := hide hB
      clear hmz hml hma hmb hm hB
      go_upto_region 5 with fail
      obtain ⟨hmz, hml, hma, hmb⟩ := unhide HMZ
      clear HMZ
      rw [hmz]
      clear hmz
      have hm0 : (0 : Int) ≤ (m : Int) := by omega
      have hml' : (m : Int) < (l.length : Int) := by omega
      obtain ⟨pb, poff, epv, hpl, _, _, C, hCl, hcell, hxa⟩ := Elems.at (unhide HR) hml
      obtain ⟨y0, y1, eC, hx1, hx2⟩ := hxa
      obtain ⟨a1, c1, rfl, _⟩ := hx1.shape
      obtain ⟨a2, c2, rfl, _⟩ := hx2.shape
      subst epv
      have hB := unhide HBB
      have u0 : wr.cell? ⟨pb, poff + m * 2, none⟩ = some (.slice a1 l[m].1.length c1) := by have h7 := hcell 0 (by decide); rw [eC] at h7; simp only [List.getElem?_cons_zero, Nat.add_zero] at h7; exact (hB.cell (p := ⟨pb, poff + m * 2, none⟩) hpl).trans h7
      have u1 : wr.cell? ⟨pb, poff + m * 2 + 1, none⟩ = some (.slice a2 l[m].2.length c2) := by have h7 := hcell 1 (by decide); rw [eC] at h7; simp only [List.getElem?_cons_succ, List.getElem?_cons_zero] at h7; exact (hB.cell (p := ⟨pb, poff + m * 2 + 1, none⟩) hpl).trans h7
      have hn := unhide HN
      have HC := hide (byName_any wr l[m] a1 a2 a3 c1 c2 c3 n (hx1.keep hB) (hn.keep hB))
      clear hcell eC hB
      have hzz := kl_cmp hx1.1 hn.1
      have HD := hide (And.intro (fun (ha : aheadA n l[m] = true) => (show ((∀ k (hk : k < l.length), k < m + 1 → aheadA n l[k] = true) ∧ (∀ k (hk : k < l.length), b ≤ k → aheadA n l[k] = false)) from ⟨fun k hk hkm => aheadA_down (unhide HS) (by omega) hml ha, (unhide HI).2⟩)) (fun (ha : aheadA n l[m] = false) => (show ((∀ k (hk : k < l.length), k < a → aheadA n l[k] = true) ∧ (∀ k (hk : k < l.length), m ≤ k → aheadA n l[k] = false)) from ⟨(unhide HI).1, fun k hk hkm => by
        cases hak : aheadA n l[k] with
        | false => rfl
        | true => have := aheadA_down (unhide HS) hkm hk hak; rw [ha] at this; cases this⟩)))
      have hza : decide (cmpB l[m].1 n < 0) = aheadA n l[m] := hzz
      clear hzz hx1 hx2 hn
      generalize aheadA n l[m] = am at *
      generalize cmpB l[m].1 n = z at *
      generalize l[m] = o at *
      go_wp2_with fail
      refine (unhide HC).mono ?_
      rintro e w2 ⟨rfl, hb2⟩
      have hB3 := bstep (unhide HBB) hb2
      clear u0 u1 HC hb2
      cases am with
      | true =>
        have hz1 : z < 0 := by simpa using hza
        clear hza
        have HD1 := hide ((unhide HD).1 rfl)
        clear HD HI
        go_wp2_with fail
        go_roundw
        case rel => exact ⟨m + 1, b, by omega, hbl, by go_num, rfl, HD1, hB3⟩
        case measure => simp [intOf]; omega
      | false =>
        have hz1 : ¬ z < 0 := by simpa using hza
        clear hza
        have HD1 := hide ((unhide HD).2 rfl)
        clear HD HI
        go_wp2_with fail
        go_roundw
        case rel => exact ⟨a, m, hma, by omega, rfl, rfl, HD1, hB3⟩
        case measure => simp [intOf]; omega
    · have e : b = a := by omega
      subst e
      have hpos : posA l n = b := posA_of hbl (unhide HI).1 (fun hk => (unhide HI).2 b hk (Nat.le_refl _))
      have HBB := hide hB
      clear HI hB
      by_cases hbn : b < l.length
      · have hth : thereA l n = decide (l[b].1 = n) := by unfold thereA; simp only [hpos, hbn, dite_true]
        have hm0 : (0 : Int) ≤ (b : Int) := by omega
        have hml' : (b : Int) < (l.length : Int) := by omega
        have hbb : ¬ (b : Int) < (b : Int) := by omega
        have hml := hbn
        obtain ⟨pb, poff, epv, hpl, _, _, C, hCl, hcell, hxa⟩ := Elems.at (unhide HR) hml
        obtain ⟨y0, y1, eC, hx1, hx2⟩ := hxa
        obtain ⟨a1, c1, rfl, _⟩ := hx1.shape
        obtain ⟨a2, c2, rfl, _⟩ := hx2.shape
        subst epv
        have hB := unhide HBB
        have u0 : wr.cell? ⟨pb, poff + b * 2, none⟩ = some (.slice a1 l[b].1.length c1) := by have h7 := hcell 0 (by decide); rw [eC] at h7; simp only [List.getElem?_cons_zero, Nat.add_zero] at h7; exact (hB.cell (p := ⟨pb, poff + b * 2, none⟩) hpl).trans h7
        have u1 : wr.cell? ⟨pb, poff + b * 2 + 1, none⟩ = some (.slice a2 l[b].2.length c2) := by have h7 := hcell 1 (by decide); rw [eC] at h7; simp only [List.getElem?_cons_succ, List.getElem?_cons_zero] at h7; exact (hB.cell (p := ⟨pb, poff + b * 2 + 1, none⟩) hpl).trans h7
        have hn := unhide HN
        have HC := hide (byName_any wr l[b] a1 a2 a3 c1 c2 c3 n (hx1.keep hB) (hn.keep hB))
        clear hcell eC hB
        have hz0 := cmp_zero hx1.1 hn.1
        have HT := hide (And.intro hpos (hth.trans hz0.symm))
        clear hth hz0 hpos hx1 hx2 hn
        generalize cmpB l[b].1 n = z at *
        generalize l[b] = o at *
        go_wp2_with fail
        refine (unhide HC).mono ?_
        rintro e w2 ⟨rfl, hb2⟩
        have HE := hide (unhide HQ (.returned (.tuple #[.int .i64 (posA l n : Int), .bool (thereA l n)])) w2 ⟨rfl, bstep (unhide HBB) hb2⟩)
        rw [(unhide HT).1, (unhide HT).2] at HE
        clear HQ HT HBB HC hb2 u0 u1
        go_wp2_with fail
        exact unhide HE
      · have hth : thereA l n = false := by unfold thereA; simp only [hpos, hbn, dite_false]
        have hbe : b = l.length := by omega
        subst hbe
        have HE := hide (unhide HQ (.returned (.tuple #[.int .i64 (posA l n : Int), .bool (thereA l n)])) wr ⟨rfl, unhide HBB⟩)
        rw [hpos, hth] at HE
        clear hpos hth hbn HQ HBB
        have hbb : ¬ (l.length : Int) < (l.length : Int) := by omega
        go_wp2_with fail
        exact unhide HE
end Go.Proofs.YtnfafchajjclaaaGreatDoor

/- impl.withAttr. -/
namespace Go.Proofs.YtnfafchajjclaaaGreatDoor
open Go.RowKit
set_option linter.unusedVariables false
set_option maxRecDepth 100000

set_option maxHeartbeats 6400000 in
theorem withAttr_any (w : World) (av : Option Addr) (cv : Nat) (l : List AtV) (F : List Nat) (n t : List Int) (a1 a2 : Option Addr) (c1 c2 : Nat) (G : List Nat) (h : OwAttrs w (.slice av l.length cv) l F) (hN : F.Nodup) (hs : SrtA l) (hl : l.length ≤ 4)
    (hG : OwAttr w [.slice a1 n.length c1, .slice a2 t.length c2] (n, t) G) (hGN : G.Nodup) (hFG : ∀ q ∈ F, q ∉ G) (ht : thereA l n = false) (hnm : NameOk n) :
    Calls Tryz.prog 116 #[.slice av l.length cv, .agg #[.slice a1 n.length c1, .slice a2 t.length c2]] w fun e w' => ∃ u F', e = .returned u ∧ OwAttrs w' u (if l.length = 4 then l else l.take (posA l n) ++ ((n, t) :: l.drop (posA l n))) F' ∧ F'.Nodup ∧ (∀ q ∈ F', q ∈ F ∨ q ∈ G ∨ w.heap.size ≤ q) ∧ Frm w w' F := by
  refine calls_via ?_
  intro Q HQ
  have hA : Below w.heap.size w (w.alloc (.cells #[.slice a1 n.length c1, .slice a2 t.length c2] 108)) := (Below.refl _ _).alloc (Nat.le_refl _) _
  have lb := Loc.made w #[.slice a1 n.length c1, .slice a2 t.length c2] 108
  have b0 := lb.cell 0
  have b1 := lb.cell 1
  have h1 : OwAttrs (w.alloc (.cells #[.slice a1 n.length c1, .slice a2 t.length c2] 108)) _ l F := OwAttrs.frm h (Frm.ofBelow hA []) (fun _ _ => by simp)
  have hG1 : OwAttr (w.alloc (.cells #[.slice a1 n.length c1, .slice a2 t.length c2] 108)) _ (n, t) G := OwAttr.frm hG (Frm.ofBelow hA []) (fun _ _ => by simp)
  have hnb : Byt (w.alloc (.cells #[.slice a1 n.length c1, .slice a2 t.length c2] 108)) (.slice a1 n.length c1) n := by obtain ⟨x, y, e, q1, _⟩ := hG1; cases e; exact q1.byt
  have hvF : ∀ q ∈ FB (.slice av l.length cv), q ∈ F := fun q hq => by
    obtain ⟨_, _, _, _, _, _, e⟩ := h
    rw [e]
    exact List.mem_append_left _ hq
  have HS := hide (searchA_any _ _ l n a1 c1 (OwAttrs.rd h1) hnb hs (by omega))
  rw [ht] at HS
  have hlt := OwAttrs.lt h
  have hpl := posA_le l n
  have HX := hide (And.intro hA (And.intro lb (And.intro h1 (And.intro hG1 (And.intro hnb (And.intro hvF hlt))))))
  clear hA lb h1 hG1 hnb h hG ht hs hvF hlt
  go_enter Tryz.func116, Tryz.ntmps116
  go_wp2_with fail
  refine (unhide HS).mono ?_
  rintro e w2 ⟨rfl, hb2⟩
  obtain ⟨hA, lb, h1, hG1, hnb, hvF, hlt⟩ := unhide HX
  have h2 : OwAttrs w2 _ l F := OwAttrs.frm h1 (Frm.ofBelow hb2 []) (fun _ _ => by simp)
  have hG2 : OwAttr w2 _ (n, t) G := OwAttr.frm hG1 (Frm.ofBelow hb2 []) (fun _ _ => by simp)
  have lb2 := lb.all hb2
  have hnb2 := hnb.keep hb2
  have hA2 := bstep hA hb2
  clear HS HX hA lb h1 hG1 hnb hb2 b0 b1
  have b0 := lb2.cell 0
  have b1 := lb2.cell 1
  by_cases h4 : l.length = 4
  · have HE := hide (unhide HQ (.returned (.slice av l.length cv)) w2 ⟨_, F, rfl, by rw [if_pos h4]; exact h2, hN, fun q hq => .inl hq, Frm.ofBelow hA2 _⟩)
    rw [h4] at HE
    have h4' : (l.length : Int) = 4 := by omega
    clear h2 hG2 lb2 hnb2 hA2 HQ hpl
    go_wp2_with fail
    exact unhide HE
  · have h4' : ¬ (l.length : Int) = 4 := by omega
    have hA3 : Below w2.heap.size w2 (w2.alloc (.cells #[.slice a1 n.length c1, .slice a2 t.length c2] 108)) := (Below.refl _ _).alloc (Nat.le_refl _) _
    have lv := Loc.made w2 #[.slice a1 n.length c1, .slice a2 t.length c2] 108
    have h3 : OwAttrs (w2.alloc (.cells #[.slice a1 n.length c1, .slice a2 t.length c2] 108)) _ l F := OwAttrs.frm h2 (Frm.ofBelow hA3 []) (fun _ _ => by simp)
    have hG3 : OwAttr (w2.alloc (.cells #[.slice a1 n.length c1, .slice a2 t.length c2] 108)) _ (n, t) G := OwAttr.frm hG2 (Frm.ofBelow hA3 []) (fun _ _ => by simp)
    have hl2 := OwAttrs.lt h2
    have HI := hide (insA_any _ _ l F (posA l n) w2.heap.size [.slice a1 n.length c1, .slice a2 t.length c2] (n, t) G h3 hN hpl (by omega) lv hG3 hGN hFG (fun e => by have := hl2 _ e; omega))
    have HY := hide (And.intro (bstep hA2 hA3) (And.intro hnb2 (And.intro hvF (show w.heap.size ≤ (w2.alloc (.cells #[.slice a1 n.length c1, .slice a2 t.length c2] 108)).heap.size from (bstep hA2 hA3).size))))
    clear h2 hG2 lb2 hA2 hA3 lv h3 hG3 hl2 hvF hlt hnb2
    generalize hpp : posA l n = pp at *
    go_wp2_with (go_at_call 90; refine (nameI_yes w2 _ n (unhide HY).2.1 hnm).mono ?_; rintro e w9 ⟨rfl, rfl⟩)
    refine (unhide HI).mono ?_
    rintro e w4 ⟨u, F4, rfl, h4_, hN4, hM4, hf4⟩
    obtain ⟨hb3, _, hvF, hsz⟩ := unhide HY
    obtain ⟨au, cu, rfl, _⟩ := Elems.shape (OwAttrs.rd h4_)
    have HE := hide (unhide HQ (.returned (.slice au _ cu)) w4 ⟨_, F4, rfl, by rw [if_neg h4]; exact h4_, hN4, fun q hq => by rcases hM4 q hq with e | e | e; (exact .inl e); (exact .inr (.inl e)); (exact .inr (.inr (by omega))), (Frm.ofBelow hb3 F).trans (hf4.mono hvF)⟩)
    clear h4_ hN4 hM4 hf4 hb3 HI HY HQ
    generalize (l.take pp ++ ((n, t) :: l.drop pp)).length = len4 at HE ⊢
    go_wp2_with fail
    exact unhide HE
end Go.Proofs.YtnfafchajjclaaaGreatDoor

/- impl.changedAttrs. -/
namespace Go.Proofs.YtnfafchajjclaaaGreatDoor
open Go.RowKit
set_option linter.unusedVariables false
set_option maxRecDepth 100000

theorem attr_nd {a : Nat} {w3 w4 : World} {u v : Value} {l m : List Int} (h : Own w3 a u l) (k : Own w4 w3.heap.size v m) : (FB u ++ FB v).Nodup :=
  List.nodup_append.2 ⟨FB_nodup _, FB_nodup _, fun x hx b hb' e => by
    have h1 := (h.lt x (by simpa [FB] using hx)).2
    have h2 := (k.lt b (by simpa [FB] using hb')).1
    omega⟩
theorem attr_fd {a b : Nat} {w3 w4 : World} {u v : Value} {l m : List Int} {F : List Nat} (hF : ∀ q ∈ F, q < a) (h : Own w3 a u l) (k : Own w4 b v m) (hb : a ≤ b) : ∀ q ∈ F, q ∉ FB u ++ FB v := fun q hq e => by
  have h0 := hF q hq
  rcases List.mem_append.1 e with e | e
  · have := (h.lt q (by simpa [FB] using e)).1; omega
  · have := (k.lt q (by simpa [FB] using e)).1; omega
set_option maxHeartbeats 6400000 in
theorem chg_any (w : World) (av : Option Addr) (cv : Nat) (l : List AtV) (F : List Nat) (o : OpV) (k1 k2 k3 : Option Addr) (d1 d2 d3 : Nat) (h : OwAttrs w (.slice av l.length cv) l F) (hN : F.Nodup) (hs : SrtA l) (hl : l.length ≤ 4)
    (h2 : Byt w (.slice k2 o.name.length d2) o.name) (h3 : Byt w (.slice k3 o.text.length d3) o.text) (hnl : o.name.length ≤ 67108864) (htl : o.text.length ≤ 67108864) (hnm : NameOk o.name) :
    Calls Tryz.prog 101 #[.slice av l.length cv, .agg #[.int .i64 o.kind, .int .i64 o.atN, .int .i64 o.atR, .int .i64 o.nodeN, .int .i64 o.nodeR, .int .i64 o.parN, .int .i64 o.parR, .slice k1 o.key.length d1, .int .i64 o.elem, .slice k2 o.name.length d2, .slice k3 o.text.length d3, .bool o.gone]] w fun e w' => ∃ a' c' F', e = .returned (.slice a' (chgI l o).length c') ∧ OwAttrs w' (.slice a' (chgI l o).length c') (chgI l o) F' ∧ F'.Nodup ∧ (∀ q ∈ F', q ∈ F ∨ w.heap.size ≤ q) ∧ Frm w w' F := by
  refine calls_via ?_
  intro Q HQ
  have hA : Below w.heap.size w (w.alloc (.cells #[.int .i64 o.kind, .int .i64 o.atN, .int .i64 o.atR, .int .i64 o.nodeN, .int .i64 o.nodeR, .int .i64 o.parN, .int .i64 o.parR, .slice k1 o.key.length d1, .int .i64 o.elem, .slice k2 o.name.length d2, .slice k3 o.text.length d3, .bool o.gone] 68)) := (Below.refl _ _).alloc (Nat.le_refl _) _
  have lb := Loc.made w #[.int .i64 o.kind, .int .i64 o.atN, .int .i64 o.atR, .int .i64 o.nodeN, .int .i64 o.nodeR, .int .i64 o.parN, .int .i64 o.parR, .slice k1 o.key.length d1, .int .i64 o.elem, .slice k2 o.name.length d2, .slice k3 o.text.length d3, .bool o.gone] 68
  have b9 := lb.cell 9
  have h1 : OwAttrs (w.alloc (.cells #[.int .i64 o.kind, .int .i64 o.atN, .int .i64 o.atR, .int .i64 o.nodeN, .int .i64 o.nodeR, .int .i64 o.parN, .int .i64 o.parR, .slice k1 o.key.length d1, .int .i64 o.elem, .slice k2 o.name.length d2, .slice k3 o.text.length d3, .bool o.gone] 68)) _ l F := OwAttrs.frm h (Frm.ofBelow hA []) (fun _ _ => by simp)
  have hvF : ∀ q ∈ FB (.slice av l.length cv), q ∈ F := fun q hq => by
    obtain ⟨_, _, _, _, _, _, e⟩ := h
    rw [e]
    exact List.mem_append_left _ hq
  have HS := hide (searchA_any _ _ l o.name k2 d2 (OwAttrs.rd h1) (h2.keep hA) hs (by omega))
  have hlt := OwAttrs.lt h
  have HX := hide (And.intro hA (And.intro lb (And.intro h1 (And.intro (h2.keep hA) (And.intro (h3.keep hA) (And.intro hvF (And.intro hlt hs)))))))
  have hpl := posA_le l o.name
  clear hA lb h1 h h2 h3 hs hvF hlt
  go_enter Tryz.func101, Tryz.ntmps101
  go_wp2_with fail
  refine (unhide HS).mono ?_
  rintro e w2 ⟨rfl, hb2⟩
  obtain ⟨hA, lb, h1, hn1, ht1, hvF, hlt, hs⟩ := unhide HX
  have h2 : OwAttrs w2 _ l F := OwAttrs.frm h1 (Frm.ofBelow hb2 []) (fun _ _ => by simp)
  have lb2 := lb.all hb2
  have hn2 := hn1.keep hb2
  have ht2 := ht1.keep hb2
  have hA2 := bstep hA hb2
  clear HS HX hA lb h1 hn1 ht1 hb2 b9
  have b9 := lb2.cell 9
  have b10 := lb2.cell 10
  have b11 := lb2.cell 11
  cases ht : thereA l o.name with
  | true =>
    obtain ⟨hpp, hpe⟩ := thereA_at ht
    cases hg : o.gone with
    | true =>
      rw [hg] at b11
      have hch : chgI l o = l.eraseIdx (posA l o.name) := by unfold chgI; rw [ht, hg, List.eraseIdx_eq_take_drop_succ]; rfl
      have HD := hide (delA_any w2 _ l F (posA l o.name) h2 hN hpp (by omega))
      have hwr : IntKind.i64.wrap ((posA l o.name : Int) + 1) = (posA l o.name : Int) + 1 := by rw [IntKind.wrap_i64]; omega
      have HY := hide (And.intro hA2 (And.intro hvF (And.intro hch hlt)))
      clear h2 lb2 hn2 ht2 hA2 hvF hch hs ht hpe hlt
      generalize posA l o.name = pp at *
      go_wp2_with fail
      refine (unhide HD).mono ?_
      rintro e w3 ⟨u, F3, rfl, h3_, hN3, hM3, hf3⟩
      obtain ⟨hA2, hvF, hch, hlt⟩ := unhide HY
      obtain ⟨au, cu, rfl, _⟩ := Elems.shape (OwAttrs.rd h3_)
      have HE := hide (unhide HQ (.returned (.slice au (chgI l o).length cu)) w3 ⟨au, cu, F3, rfl, by rw [hch]; exact h3_, hN3, fun q hq => .inl (hM3 q hq), (Frm.ofBelow hA2 F).trans (hf3.mono hvF)⟩)
      rw [hch] at HE
      clear h3_ hN3 hM3 hf3 hA2 hvF hch hlt HD HY HQ
      generalize (l.eraseIdx pp).length = len4 at HE ⊢
      go_wp2_with fail
      exact unhide HE
    | false =>
      rw [hg] at b11
      have hch : chgI l o = l.set (posA l o.name) (o.name, o.text) := by unfold chgI; rw [ht, hg]; rfl
      obtain ⟨gr, rfl, hgrF⟩ : ∃ gr, av = some ⟨gr, 0, none⟩ ∧ gr ∈ F := by
        obtain ⟨Cs, Fs, e1, e2, e3, e4, e5⟩ := h2
        obtain ⟨g, cap, e, _, _⟩ := e4.form (by omega)
        injection e with e _ _
        subst e
        exact ⟨g, rfl, by rw [e5]; exact List.mem_append_left _ (by simp [FB, Value.ownBlock])⟩
      have HC := hide (clone_own w2 _ o.text ht2 htl)
      have hp0 : (0 : Int) ≤ (posA l o.name : Int) := by omega
      have hp1 : (posA l o.name : Int) < (l.length : Int) := by omega
      have HY := hide (And.intro hA2 (And.intro hvF (And.intro hch (And.intro hlt h2))))
      clear h2 lb2 hn2 ht2 hA2 hvF hch hs ht hlt
      go_wp2_with fail
      refine (unhide HC).mono ?_
      rintro e w3 ⟨au, cu, rfl, hou, hb3⟩
      obtain ⟨hA2, hvF, hch, hlt, h2⟩ := unhide HY
      have h3_ : OwAttrs w3 _ l F := OwAttrs.frm h2 (Frm.ofBelow hb3 []) (fun _ _ => by simp)
      have hl2 := OwAttrs.lt h2
      obtain ⟨Cs, C, G, hR, hC, hGN, hGF, hgF, hgG, hcl⟩ := OwElems.one (R := OwAttr) (fun h f d => OwAttr.frm h f d) h3_ hN (posA l o.name) hpp
      obtain ⟨x0, x1, eC, q0, q1, eG⟩ := hC
      have cc := hR.cell 1 (by omega)
      rw [eC] at cc
      obtain ⟨_, _, e1_, _⟩ := q1.byt.shape
      rw [e1_] at cc
      have cf := hR.frozen (posA l o.name * 2 + 1)
      have fs := set_frm w3 gr (posA l o.name * 2 + 1) (.slice au o.text.length cu)
      have hnew : ∀ q ∈ FB (.slice au o.text.length cu), w2.heap.size ≤ q := fun q hq => (hou.lt q (by simpa [FB] using hq)).1
      have hgl := hl2 gr hgF
      obtain ⟨F', g1, g2, g3⟩ := hcl _ [gr] [x0, .slice au o.text.length cu] (o.name, o.text) (FB x0 ++ FB (.slice au o.text.length cu)) (by have := hR.put 1 (by omega) (.slice au o.text.length cu); rw [eC] at this; exact this) fs (fun q _ _ hne => by simpa using hne)
        ⟨x0, _, rfl, by rw [show (o.name, o.text).1 = l[posA l o.name].1 from hpe.symm]; exact q0.frm fs (fun q hq e => by have e9 : q = gr := (by simpa using e); exact hgG (by rw [eG, ← e9]; exact List.mem_append_left _ hq)), (hou.mono (Nat.zero_le _)).frm fs (fun q hq e => by have e9 : q = gr := (by simpa using e); have := hnew q hq; omega), rfl⟩
        (List.nodup_append.2 ⟨FB_nodup _, FB_nodup _, fun a ha b hb e => by have := hnew b hb; have := hl2 a (hGF a (by rw [eG]; exact List.mem_append_left _ ha)); omega⟩)
        (fun q hq => by
          rcases List.mem_append.1 hq with hq | hq
          · exact .inl (by rw [eG]; exact List.mem_append_left _ hq)
          · exact .inr (fun e => by have := hnew q hq; have := hl2 q e; omega))
      have hsz2 := hA2.size
      have HE := hide (unhide HQ (.returned (.slice (some ⟨gr, 0, none⟩) (chgI l o).length cv)) _ ⟨_, _, F', rfl, by rw [hch]; exact g1, g2, fun q hq => by
        rcases g3 q hq with e | e
        · exact .inl e
        · rcases List.mem_append.1 e with e | e
          · exact .inl (hGF q (by rw [eG]; exact List.mem_append_left _ e))
          · have := hnew q e; right; omega, ((Frm.ofBelow hA2 F).trans (Frm.ofBelow hb3 F)).trans (fs.mono (fun q hq => by have e9 : q = gr := (by simpa using hq); rw [e9]; exact hgF))⟩)
      rw [hch, List.length_set] at HE
      clear h3_ h2 hR hcl q0 q1 g1 g2 g3 fs hou hb3 HC HY HQ hA2 hvF hch hlt hnew
      go_wp2_with fail
      exact unhide HE
  | false =>
    cases hg : o.gone with
    | true =>
      rw [hg] at b11
      have hch : chgI l o = l := by unfold chgI; rw [ht, hg]; rfl
      have HE := hide (unhide HQ (.returned (.slice av (chgI l o).length cv)) w2 ⟨_, _, F, rfl, by rw [hch]; exact h2, hN, fun q hq => .inl hq, Frm.ofBelow hA2 _⟩)
      rw [hch] at HE
      clear h2 lb2 hn2 ht2 hA2 hvF hch hs ht hlt HQ
      go_wp2_with fail
      exact unhide HE
    | false =>
      rw [hg] at b11
      have hch : chgI l o = if l.length = 4 then l else l.take (posA l o.name) ++ ((o.name, o.text) :: l.drop (posA l o.name)) := by unfold chgI; rw [ht, hg]; rfl
      obtain ⟨L5, hL5⟩ : ∃ L5, L5 = if l.length = 4 then l else l.take (posA l o.name) ++ ((o.name, o.text) :: l.drop (posA l o.name)) := ⟨_, rfl⟩
      rw [← hL5] at hch
      have HL5 := hide hL5
      clear hL5
      have hd : Below w2.heap.size w2 w2.drew := (Below.refl _ _).drew
      have hdA := hA2.drew
      have HC1 := hide (clone_own w2.drew _ o.name (hn2.keep hd) hnl)
      have d9 : w2.drew.cell? ⟨w.heap.size, 9, none⟩ = some (.slice k2 o.name.length d2) := (lb2.all hd).cell 9
      have d10 : w2.drew.cell? ⟨w.heap.size, 10, none⟩ = some (.slice k3 o.text.length d3) := (lb2.all hd).cell 10
      have HY := hide (And.intro hA2 (And.intro hvF (And.intro hch (And.intro hlt (And.intro h2 (And.intro lb2 (And.intro ht2 (And.intro hs ht))))))))
      have hbF : w.heap.size ∉ F := fun e => by have := hlt _ e; omega
      have HK := hide (fun (W : World) (hW : Below w2.heap.size w2 W) => lb2.all hW)
      clear h2 lb2 hn2 ht2 hA2 hvF hch hs ht hlt hdA
      go_wp2_with fail
      go_region_held3 (fun w' => w'.cell? ⟨w.heap.size, 9, none⟩ = some (.slice k2 o.name.length d2) ∧ w'.cell? ⟨w.heap.size, 10, none⟩ = some (.slice k3 o.text.length d3))
        (first | exact ⟨by assumption, by assumption⟩ | simp [*])
        (first
          | (go_at_call 100; refine (unhide HC1).mono ?_; clear HC1; rintro e w3 ⟨a5, c5, rfl, ho5, hb5⟩; have hK5 := bstep hd hb5; have e9 := (unhide HK w3 hK5).cell 9; have e10 := (unhide HK w3 hK5).cell 10)
          | (go_at_call 100; refine (clone_own w3 _ o.text ((unhide HY).2.2.2.2.2.2.1.keep hK5) htl).mono ?_; rintro e w4 ⟨a6, c6, rfl, ho6, hb6⟩; have hK6 := bstep hK5 hb6; have e9' := (unhide HK w4 hK6).cell 9; have e10' := (unhide HK w4 hK6).cell 10)
          | (go_at_call 116; refine (withAttr_any w4 av cv l F o.name o.text a5 a6 c5 c6 (FB (.slice a5 o.name.length c5) ++ FB (.slice a6 o.text.length c6)) (OwAttrs.frm (unhide HY).2.2.2.2.1 (Frm.ofBelow hK6 []) (fun _ _ => by simp)) hN (unhide HY).2.2.2.2.2.2.2.1 hl ⟨_, _, rfl, (ho5.keep hb6).mono (Nat.zero_le _), ho6.mono (Nat.zero_le _), rfl⟩ (attr_nd ho5 ho6) (attr_fd (a := w2.heap.size) (OwAttrs.lt (unhide HY).2.2.2.2.1) ho5 ho6 hK5.size) (unhide HY).2.2.2.2.2.2.2.2 hnm).mono ?_; rintro e w5 ⟨u, F5, rfl, h5_, hN5, hM5, hf5⟩; rw [← unhide HL5] at h5_; obtain ⟨au, cu, rfl, _⟩ := Elems.shape (OwAttrs.rd h5_); have e9'' := ((unhide HK w4 hK6).frm hf5 hbF).cell 9; have e10'' := ((unhide HK w4 hK6).frm hf5 hbF).cell 10))
      all_goals
        have s2 := (unhide HY).1.size
        have s5 := hK5.size
        have HE := hide (unhide HQ (.returned (.slice au (chgI l o).length cu)) w5 ⟨_, _, F5, rfl, by rw [(unhide HY).2.2.1]; exact h5_, hN5, fun q hq => by
          rcases hM5 q hq with e | e | e
          · exact .inl e
          · right
            rcases List.mem_append.1 e with e | e
            · have := (ho5.lt q (by simpa [FB] using e)).1
              have : w2.heap.size ≤ q := this
              omega
            · have := (ho6.lt q (by simpa [FB] using e)).1
              omega
          · right
            have := hK6.size
            omega, ((Frm.ofBelow (unhide HY).1 F).trans (Frm.ofBelow hK6 F)).trans hf5⟩)
        rw [(unhide HY).2.2.1] at HE
        clear h5_ hN5 hM5 hf5 ho5 ho6 HY HQ HK
        go_wp2_with fail
        exact unhide HE
end Go.Proofs.YtnfafchajjclaaaGreatDoor

/- The forest's do. -/
namespace Go.Proofs.YtnfafchajjclaaaGreatDoor
open Go.RowKit Go.Maps
set_option linter.unusedVariables false
set_option maxRecDepth 100000

set_option maxHeartbeats 3200000 in
theorem fo_new {B : Nat} {w0 w : World} {g mb : Nat} {a : Option Addr} {c : Nat} {l : List PlV} {F : List Nat} (h : FoS B w g mb a c l F) (hB0 : w0.heap.size ≤ B) (hw0 : Below w0.heap.size w0 w) (o : OpV) (k1 k2 k3 : Option Addr) (d1 d2 d3 : Nat)
    (h1 : Ints w0 (.slice k1 o.key.length d1) o.key) (h2 : Byt w0 (.slice k2 o.name.length d2) o.name) (h3 : Byt w0 (.slice k3 o.text.length d3) o.text) (hs1 : o.key.length ≤ 1000000) (hs2 : o.name.length ≤ 1000000) (hs3 : o.text.length ≤ 1000000) (ho : opB o = true) (hk : o.kind = 0) (hnew : posP l o.at' = none) (hlen : l.length + 1 ≤ 100000) :
    Calls Tryz.prog 64 #[.pointer (some ⟨g, 0, none⟩), .agg #[.int .i64 o.kind, .int .i64 o.atN, .int .i64 o.atR, .int .i64 o.nodeN, .int .i64 o.nodeR, .int .i64 o.parN, .int .i64 o.parR, .slice k1 o.key.length d1, .int .i64 o.elem, .slice k2 o.name.length d2, .slice k3 o.text.length d3, .bool o.gone]] w fun e w' => e = .returned (.tuple #[]) ∧ FoT B w g mb (doV l o) F w' := by
  refine calls_via ?_
  intro Q HQ
  have hA : Below w.heap.size w (w.alloc (.cells #[.int .i64 o.kind, .int .i64 o.atN, .int .i64 o.atR, .int .i64 o.nodeN, .int .i64 o.nodeR, .int .i64 o.parN, .int .i64 o.parR, .slice k1 o.key.length d1, .int .i64 o.elem, .slice k2 o.name.length d2, .slice k3 o.text.length d3, .bool o.gone] 68)) := (Below.refl _ _).alloc (Nat.le_refl _) _
  have lb := Loc.made w #[.int .i64 o.kind, .int .i64 o.atN, .int .i64 o.atR, .int .i64 o.nodeN, .int .i64 o.nodeR, .int .i64 o.parN, .int .i64 o.parR, .slice k1 o.key.length d1, .int .i64 o.elem, .slice k2 o.name.length d2, .slice k3 o.text.length d3, .bool o.gone] 68
  have hq1 := h.keep hA
  have b0 := lb.cell 0
  obtain ⟨_, hat, hpar, hel⟩ := op_new ho hk
  have hdo : doV l o = if takesV l o.par = true then l ++ [newP o] else l := by unfold doV; rw [if_pos hk]
  have HD := hide (doNew_any hq1 hB0 (hw0.trans (hA.mono hw0.size)) o k1 k2 k3 d1 d2 d3 h1 h2 h3 hs1 hs2 hs3 hat hpar hel hnew hlen)
  rw [hk] at b0
  have b1 := lb.cell 1
  have b2 := lb.cell 2
  have b3 := lb.cell 3
  have b4 := lb.cell 4
  have b5 := lb.cell 5
  have b6 := lb.cell 6
  have b7 := lb.cell 7
  have b8 := lb.cell 8
  have b9 := lb.cell 9
  have b10 := lb.cell 10
  have b11 := lb.cell 11
  have HX := hide (And.intro hA hdo)
  clear h hq1 hA lb hw0 h1 h2 h3 hdo ho hat hpar hnew
  go_enter Tryz.func64, Tryz.ntmps64
  rw [hk] at HD HX
  go_wp2_with fail
  refine (unhide HD).mono ?_
  rintro e w2 ⟨rfl, a', c', F', hs, hf, hF⟩
  have hsz := (unhide HX).1.size
  have HE := hide (unhide HQ (.returned (.tuple #[])) w2 ⟨rfl, a', c', F', by rw [(unhide HX).2]; exact hs, (Frm.ofBelow (unhide HX).1 _).trans hf, fun q hq => (hF q hq).imp id (fun h => by omega)⟩)
  clear HQ HD hs hf hF HX
  go_wp2_with fail
  go_end0
  exact unhide HE
theorem fo_none {B : Nat} {w0 w : World} {g mb : Nat} {a : Option Addr} {c : Nat} {l : List PlV} {F : List Nat} (h : FoS B w g mb a c l F) (hB0 : w0.heap.size ≤ B) (hw0 : Below w0.heap.size w0 w) (o : OpV) (k1 k2 k3 : Option Addr) (d1 d2 d3 : Nat)
    (h1 : Ints w0 (.slice k1 o.key.length d1) o.key) (h2 : Byt w0 (.slice k2 o.name.length d2) o.name) (h3 : Byt w0 (.slice k3 o.text.length d3) o.text) (hs1 : o.key.length ≤ 1000000) (hs2 : o.name.length ≤ 1000000) (hs3 : o.text.length ≤ 1000000) (ho : opB o = true) (hk : o.kind = 1 ∨ o.kind = 2 ∨ o.kind = 3) (hno : okI o.node) (hp : posP l o.node = none) :
    Calls Tryz.prog 64 #[.pointer (some ⟨g, 0, none⟩), .agg #[.int .i64 o.kind, .int .i64 o.atN, .int .i64 o.atR, .int .i64 o.nodeN, .int .i64 o.nodeR, .int .i64 o.parN, .int .i64 o.parR, .slice k1 o.key.length d1, .int .i64 o.elem, .slice k2 o.name.length d2, .slice k3 o.text.length d3, .bool o.gone]] w fun e w' => e = .returned (.tuple #[]) ∧ FoT B w g mb (doV l o) F w' := by
  refine calls_via ?_
  intro Q HQ
  have hA : Below w.heap.size w (w.alloc (.cells #[.int .i64 o.kind, .int .i64 o.atN, .int .i64 o.atR, .int .i64 o.nodeN, .int .i64 o.nodeR, .int .i64 o.parN, .int .i64 o.parR, .slice k1 o.key.length d1, .int .i64 o.elem, .slice k2 o.name.length d2, .slice k3 o.text.length d3, .bool o.gone] 68)) := (Below.refl _ _).alloc (Nat.le_refl _) _
  have lb := Loc.made w #[.int .i64 o.kind, .int .i64 o.atN, .int .i64 o.atR, .int .i64 o.nodeN, .int .i64 o.nodeR, .int .i64 o.parN, .int .i64 o.parR, .slice k1 o.key.length d1, .int .i64 o.elem, .slice k2 o.name.length d2, .slice k3 o.text.length d3, .bool o.gone] 68
  have hq1 := h.keep hA
  have b0 := lb.cell 0
  have b3 := lb.cell 3
  have b4 := lb.cell 4
  have HF := hide (find_any hq1 o.node hno)
  unfold OpV.node idVal at HF
  have hgl := h.set.lt
  have hml := h.map.lt
  have hFl := OwPlsM.lt h.row
  have hdo : doV l o = l := doV_none (by omega) hp
  have hk' : (o.kind == 0) = false := by simp; omega
  have hk0 : ¬ o.kind = 0 := by omega
  have HX := hide (And.intro hA (And.intro hdo (And.intro hq1 hp)))
  clear h hq1 hA lb hw0 h1 h2 h3 hdo ho hno hp hk hk'
  go_enter Tryz.func64, Tryz.ntmps64
  go_wp2_with fail
  refine (unhide HF).mono ?_
  rintro e w2 ⟨hn, _, hb2⟩
  obtain ⟨hA, hdo, hq1, hp⟩ := unhide HX
  obtain rfl := hn hp
  have HE := hide (unhide HQ (.returned (.tuple #[])) w2 ⟨rfl, a, c, F, by rw [hdo]; exact hq1.keep hb2, Frm.ofBelow (bstep hA hb2) _, fun q hq => .inl hq⟩)
  clear HQ HF hn hb2 HX hA hdo hq1 hp
  go_wp2_with fail
  go_end0
  exact unhide HE
set_option maxHeartbeats 6400000 in
theorem fo_text {B : Nat} {w0 w : World} {g mb : Nat} {a : Option Addr} {c : Nat} {l : List PlV} {F : List Nat} (h : FoS B w g mb a c l F) (hB0 : w0.heap.size ≤ B) (hw0 : Below w0.heap.size w0 w) (o : OpV) (k1 k2 k3 : Option Addr) (d1 d2 d3 : Nat)
    (h1 : Ints w0 (.slice k1 o.key.length d1) o.key) (h2 : Byt w0 (.slice k2 o.name.length d2) o.name) (h3 : Byt w0 (.slice k3 o.text.length d3) o.text) (hs1 : o.key.length ≤ 1000000) (hs2 : o.name.length ≤ 1000000) (hs3 : o.text.length ≤ 1000000) (ho : opB o = true) (hk : o.kind = 2) (hno : okI o.node) (hK2 : Kd2 l) (k : Nat) (hp : posP l o.node = some k) :
    Calls Tryz.prog 64 #[.pointer (some ⟨g, 0, none⟩), .agg #[.int .i64 o.kind, .int .i64 o.atN, .int .i64 o.atR, .int .i64 o.nodeN, .int .i64 o.nodeR, .int .i64 o.parN, .int .i64 o.parR, .slice k1 o.key.length d1, .int .i64 o.elem, .slice k2 o.name.length d2, .slice k3 o.text.length d3, .bool o.gone]] w fun e w' => e = .returned (.tuple #[]) ∧ FoT B w g mb (doV l o) F w' := by
  refine calls_via ?_
  intro Q HQ
  have hA : Below w.heap.size w (w.alloc (.cells #[.int .i64 o.kind, .int .i64 o.atN, .int .i64 o.atR, .int .i64 o.nodeN, .int .i64 o.nodeR, .int .i64 o.parN, .int .i64 o.parR, .slice k1 o.key.length d1, .int .i64 o.elem, .slice k2 o.name.length d2, .slice k3 o.text.length d3, .bool o.gone] 68)) := (Below.refl _ _).alloc (Nat.le_refl _) _
  have lb := Loc.made w #[.int .i64 o.kind, .int .i64 o.atN, .int .i64 o.atR, .int .i64 o.nodeN, .int .i64 o.nodeR, .int .i64 o.parN, .int .i64 o.parR, .slice k1 o.key.length d1, .int .i64 o.elem, .slice k2 o.name.length d2, .slice k3 o.text.length d3, .bool o.gone] 68
  have hq1 := h.keep hA
  have b0 := lb.cell 0
  have b3 := lb.cell 3
  have b4 := lb.cell 4
  have HF := hide (find_any hq1 o.node hno)
  unfold OpV.node idVal at HF
  have hgl := h.set.lt
  have hml := h.map.lt
  have hFl := OwPlsM.lt h.row
  have hkl : k < l.length := (posP_some.1 hp).1
  have hdo := doV_some (o := o) (by omega) hp hkl
  have hk0 : ¬ o.kind = 0 := by omega
  have HX := hide (And.intro hA (And.intro hdo (And.intro hq1 (And.intro hp (And.intro lb (And.intro (hw0.trans (hA.mono hw0.size)) (And.intro h1 (And.intro h2 h3))))))))
  have HKK := hide hk
  clear hk
  clear h hq1 hA lb hw0 h1 h2 h3 hdo ho hno hp
  go_enter Tryz.func64, Tryz.ntmps64
  go_wp2_with fail
  refine (unhide HF).mono ?_
  rintro e w2 ⟨_, hs2_, hb2⟩
  obtain ⟨hA, hdo, hq1, hp, lb, hw0, h1, h2, h3⟩ := unhide HX
  obtain ⟨gr, rfl, rfl⟩ := hs2_ k hp
  have hs := hq1.keep hb2
  have lb2 := lb.all hb2
  have hw2 := hw0.trans (hb2.mono hw0.size)
  have hA2 := bstep hA hb2
  have hB2_ : B ≤ w2.heap.size := by have := hs.geg; have := hs.set.lt; omega
  have hge : ∀ q ∈ g :: mb :: F, B ≤ q := fun q hq => by rcases List.mem_cons.1 hq with rfl | hq; (exact hs.geg); (rcases List.mem_cons.1 hq with rfl | hq; (exact hs.gem); (exact hs.ge q hq))
  clear HX HF hs2_ hb2 hA hq1 lb hw0 b0 b3 b4
  have b0 := lb2.cell 0
  have hk := unhide HKK
  rw [hk] at b0
  obtain ⟨Cs, C, G, hR, hC, _, _, _, _, _⟩ := hs.upd hkl
  have hc5 : w2.cell? ⟨gr, k * 9 + 5, none⟩ = some (.int .i64 l[k].kind) := by
    obtain ⟨_, _, _, _, _, eC, _⟩ := hC
    have := hR.cell 5 (by omega)
    rw [eC] at this
    exact this
  clear hR hC
  by_cases h1k : l[k].kind = 1
  · have h2k : 2 ≤ k := by
      rcases Nat.lt_or_ge k 2 with e | e
      · have := hK2 k l[k] e (by simp [hkl]); omega
      · exact e
    have hdo2 : doV l o = l.set k (textP o l[k]) := by rw [hdo, if_neg (by omega), if_pos hk, if_pos ⟨h2k, h1k⟩]
    have HC := hide (clone_own w2 _ o.text (h3.keep hw2) (by omega))
    have b10 := lb2.cell 10
    have HY := hide (And.intro hs (And.intro hA2 hdo2))
    rw [h1k] at hc5
    clear hs hA2 hdo2 hdo hw2 lb2 h1 h2 h3 h1k
    go_wp2_with fail
    refine (unhide HC).mono ?_
    rintro e w3 ⟨a5, c5, rfl, ho5, hb3⟩
    obtain ⟨hs, hA2, hdo2⟩ := unhide HY
    have hs3_ := hs.keep hb3
    obtain ⟨Cs, C, G, hR, hC, hGN, hGF, hgF, hgG, hcl⟩ := hs3_.upd hkl
    obtain ⟨K, N, T, A, Fa, eC, q1, q2, q3, q4, eG⟩ := hC
    have cc := hR.cell 7 (by omega)
    rw [eC] at cc
    obtain ⟨_, _, eT, _⟩ := q3.byt.shape
    rw [eT] at cc
    have cf := hR.frozen (k * 9 + 7)
    have fs := set_frm w3 gr (k * 9 + 7) (.slice a5 o.text.length c5)
    have hlt3 := OwPlsM.lt hs.row
    have hnew : ∀ q ∈ FB (.slice a5 o.text.length c5), w2.heap.size ≤ q := fun q hq => (ho5.lt q (by simpa [FB] using hq)).1
    have hgl3 := hlt3 gr hgF
    have hng : ∀ q ∈ G, q ∉ [gr] := fun q hq e => by have e9 : q = gr := (by simpa using e); exact hgG (by rw [← e9]; exact hq)
    obtain ⟨F', g1, g2⟩ := hcl _ [gr] _ (textP o l[k]) (FB K ++ FB N ++ FB (.slice a5 o.text.length c5) ++ Fa) (hR.put 7 (by omega) (.slice a5 o.text.length c5)) fs (fun q hq => .inl (by simpa using hq))
      (by rw [eC]; exact ⟨K, N, _, A, Fa, rfl, ⟨q1.1, ownsRow_frm q1.2 fs (fun q hq => hng q (by rw [eG]; simp [hq]))⟩, q2.frm fs (fun q hq => hng q (by rw [eG]; simp [hq])), (ho5.mono (Nat.zero_le _)).frm fs (fun q hq e => by have e9 : q = gr := (by simpa using e); have := hnew q hq; omega), OwAttrs.frm q4 fs (fun q hq => hng q (by rw [eG]; simp [hq])), rfl⟩)
      (nd_swap (by rw [← eG]; exact hGN) (FB_nodup _) (fun q hq e => by have := hnew q hq; have := hlt3 q (hGF q (by rw [eG]; exact e)); omega))
      (fun q hq => by
        rcases List.mem_append.1 hq with hq | hq
        · rcases List.mem_append.1 hq with hq | hq
          · exact .inl (by rw [eG]; exact List.mem_append_left _ (List.mem_append_left _ hq))
          · exact .inr ⟨fun e => by have := hnew q hq; have := hlt3 q e; omega, by have := hnew q hq; omega⟩
        · exact .inl (by rw [eG]; exact List.mem_append_right _ hq))
      rfl (hs.ids l[k] (List.getElem_mem hkl)).2
    have hsz2 := hA2.size
    have HE := hide (unhide HQ (.returned (.tuple #[])) _ ⟨rfl, _, _, F', by rw [hdo2]; exact g1, ((Frm.ofBelow hA2 _).trans (Frm.ofBelow hb3 _)).trans (fs.mono (fun q hq => by have e9 : q = gr := (by simpa using hq); rw [e9]; simp [hgF])), fun q hq => by
      rcases g2 q hq with e | e
      · exact .inl e
      · rcases List.mem_append.1 e with e | e
        · rcases List.mem_append.1 e with e | e
          · exact .inl (hGF q (by rw [eG]; exact List.mem_append_left _ (List.mem_append_left _ e)))
          · have := hnew q e; right; omega
        · exact .inl (hGF q (by rw [eG]; exact List.mem_append_right _ e))⟩)
    clear HQ HC HY hs hs3_ hA2 hdo2 hR hcl q1 q2 q3 q4 g1 g2 fs ho5 hb3 hnew hng hGN hGF
    go_wp2_with fail
    go_end0
    exact unhide HE
  · have hdo2 : doV l o = l := by rw [hdo, if_neg (by omega), if_pos hk, if_neg (fun e => h1k e.2)]
    have HE := hide (unhide HQ (.returned (.tuple #[])) w2 ⟨rfl, _, _, F, by rw [hdo2]; exact hs, Frm.ofBelow hA2 _, fun q hq => .inl hq⟩)
    clear hs hA2 hdo2 hdo hw2 lb2 h1 h2 h3 HQ
    go_wp2_with fail
    go_end0
    exact unhide HE
set_option maxHeartbeats 12800000 in
theorem fo_attr {B : Nat} {w0 w : World} {g mb : Nat} {a : Option Addr} {c : Nat} {l : List PlV} {F : List Nat} (h : FoS B w g mb a c l F) (hB0 : w0.heap.size ≤ B) (hw0 : Below w0.heap.size w0 w) (o : OpV) (k1 k2 k3 : Option Addr) (d1 d2 d3 : Nat)
    (h1 : Ints w0 (.slice k1 o.key.length d1) o.key) (h2 : Byt w0 (.slice k2 o.name.length d2) o.name) (h3 : Byt w0 (.slice k3 o.text.length d3) o.text) (hs1 : o.key.length ≤ 1000000) (hs2 : o.name.length ≤ 1000000) (hs3 : o.text.length ≤ 1000000) (ho : opB o = true) (hk : o.kind = 3) (hno : okI o.node) (hnm : NameOk o.name) (hFr : Fr l) (hAt : AtI l) (hG : Glo w) (k : Nat) (hp : posP l o.node = some k) :
    Calls Tryz.prog 64 #[.pointer (some ⟨g, 0, none⟩), .agg #[.int .i64 o.kind, .int .i64 o.atN, .int .i64 o.atR, .int .i64 o.nodeN, .int .i64 o.nodeR, .int .i64 o.parN, .int .i64 o.parR, .slice k1 o.key.length d1, .int .i64 o.elem, .slice k2 o.name.length d2, .slice k3 o.text.length d3, .bool o.gone]] w fun e w' => e = .returned (.tuple #[]) ∧ FoT B w g mb (doV l o) F w' := by
  refine calls_via ?_
  intro Q HQ
  have hA : Below w.heap.size w (w.alloc (.cells #[.int .i64 o.kind, .int .i64 o.atN, .int .i64 o.atR, .int .i64 o.nodeN, .int .i64 o.nodeR, .int .i64 o.parN, .int .i64 o.parR, .slice k1 o.key.length d1, .int .i64 o.elem, .slice k2 o.name.length d2, .slice k3 o.text.length d3, .bool o.gone] 68)) := (Below.refl _ _).alloc (Nat.le_refl _) _
  have lb := Loc.made w #[.int .i64 o.kind, .int .i64 o.atN, .int .i64 o.atR, .int .i64 o.nodeN, .int .i64 o.nodeR, .int .i64 o.parN, .int .i64 o.parR, .slice k1 o.key.length d1, .int .i64 o.elem, .slice k2 o.name.length d2, .slice k3 o.text.length d3, .bool o.gone] 68
  have hq1 := h.keep hA
  have b0 := lb.cell 0
  have b3 := lb.cell 3
  have b4 := lb.cell 4
  have HF := hide (find_any hq1 o.node hno)
  unfold OpV.node idVal at HF
  have hgl := h.set.lt
  have hml := h.map.lt
  have hFl := OwPlsM.lt h.row
  have hkl : k < l.length := (posP_some.1 hp).1
  have hdo := doV_some (o := o) (by omega) hp hkl
  have hk0 : ¬ o.kind = 0 := by omega
  have HX := hide (And.intro hA (And.intro hdo (And.intro hq1 (And.intro hp (And.intro lb (And.intro (hw0.trans (hA.mono hw0.size)) (And.intro h1 (And.intro h2 h3))))))))
  have HGL := hide hG
  clear hG
  have HKK := hide hk
  clear hk
  clear h hq1 hA lb hw0 h1 h2 h3 hdo ho hno hp
  go_enter Tryz.func64, Tryz.ntmps64
  go_wp2_with fail
  refine (unhide HF).mono ?_
  rintro e w2 ⟨_, hs2_, hb2⟩
  obtain ⟨hA, hdo, hq1, hp, lb, hw0, h1, h2, h3⟩ := unhide HX
  obtain ⟨gr, rfl, rfl⟩ := hs2_ k hp
  have hs := hq1.keep hb2
  have lb2 := lb.all hb2
  have hw2 := hw0.trans (hb2.mono hw0.size)
  have hA2 := bstep hA hb2
  have hB2_ : B ≤ w2.heap.size := by have := hs.geg; have := hs.set.lt; omega
  have hge : ∀ q ∈ g :: mb :: F, B ≤ q := fun q hq => by rcases List.mem_cons.1 hq with rfl | hq; (exact hs.geg); (rcases List.mem_cons.1 hq with rfl | hq; (exact hs.gem); (exact hs.ge q hq))
  clear HX HF hs2_ hb2 hA hq1 lb hw0 b0 b3 b4
  have b0 := lb2.cell 0
  have hk := unhide HKK
  rw [hk] at b0
  obtain ⟨y0, y1, y2, y3⟩ := (unhide HGL).keep hA2
  have htr : l[k].id = trashV ↔ k = 1 := by
    have hgk : l[k]? = some l[k] := by simp [hkl]
    obtain ⟨p1, hp1⟩ : ∃ p1, l[1]? = some p1 := ⟨l[1]'(by have := hFr.two; omega), by simp [show 1 < l.length by have := hFr.two; omega]⟩
    constructor
    · intro e
      have := posP_uniq hFr.uniq hgk
      rw [e, ← hFr.trash p1 hp1, posP_uniq hFr.uniq hp1] at this
      exact (Option.some.inj this).symm
    · intro e
      subst e
      exact hFr.trash _ hgk
  obtain ⟨Cs, C, G, hR, hC, _, _, _, _, _⟩ := hs.upd hkl
  obtain ⟨_, _, _, _, _, eC, _⟩ := hC
  have c0 : w2.cell? ⟨gr, k * 9, none⟩ = _ := hR.cell 0 (by omega)
  have c1 := hR.cell 1 (by omega)
  have c5 := hR.cell 5 (by omega)
  rw [eC] at c0 c1 c5
  clear hR eC
  by_cases hz : l[k].kind = 0
  · have w5_ : (l[k].kind == 0) = true := by simpa using hz
    by_cases htk : k = 1
    · have hid := htr.2 htk
      have hdo2 : doV l o = l := by rw [hdo, if_neg (by omega), if_neg (by omega), if_neg (fun e => e.1 htk)]
      have w1_ : (l[k].idN == 0) = true := by have := (Prod.mk.inj hid).1; simpa using this
      have w2_ : (l[k].idR == 1) = true := by have := (Prod.mk.inj hid).2; simpa using this
      have HE := hide (fun n_ => unhide HQ (.returned (.tuple #[])) (w2.drewN n_) ⟨rfl, _, _, F, by rw [hdo2]; exact hs.keep (below_drewN (Below.refl _ _) _), Frm.ofBelow (bstep hA2 (below_drewN (Below.refl _ _) _)) _, fun q hq => .inl hq⟩)
      clear hs hA2 hdo2 hdo hw2 lb2 h1 h2 h3 HQ hid htk hz htr
      go_wp2_with fail
      go_quiet (fail)
      go_wp2_with fail
      go_end0
      exact unhide HE _
    · have hdo2 : doV l o = l.set k (attrP o l[k]) := by rw [hdo, if_neg (by omega), if_neg (by omega), if_pos ⟨htk, hz⟩]
      have hid : l[k].id ≠ trashV := fun e => htk (htr.1 e)
      have HY := hide (And.intro hs (And.intro hA2 (And.intro hdo2 (And.intro lb2 (And.intro hw2 (And.intro h2 h3))))))
      by_cases e1 : l[k].idN = 0
      · have e2 : ¬ l[k].idR = 1 := fun e => hid (Prod.ext e1 e)
        have w1_ : (l[k].idN == 0) = true := by simpa using e1
        have w2_ : (l[k].idR == 1) = false := by simpa using e2
        clear hs hA2 hdo2 hdo hw2 lb2 h1 h2 h3 hid htk hz htr e1 e2
        go_wp2_with fail
        go_quiet (fail)
        go_upto_region 14 with fail
        generalize hWq : w2.drewN _ = wq
        obtain ⟨hs, hA2, hdo2, lb2, hw2, hn2, ht2⟩ := unhide HY
        have hbq : Below w2.heap.size w2 wq := by rw [← hWq]; exact below_drewN (Below.refl _ _) _
        clear hWq
        have hbd := hbq.drew
        have hs5 := hs.keep hbd
        have lb5 := lb2.all hbd
        have hw5 := hw2.trans (hbd.mono hw2.size)
        obtain ⟨Cs, C, G, hR, hC, hGN, hGF, hgF, hgG, hcl⟩ := hs5.upd hkl
        obtain ⟨K, N, T, A, Fa, eC, q1, q2, q3, q4, eG⟩ := hC
        obtain ⟨a1, ca, rfl, _⟩ := Elems.shape (OwAttrs.rd q4)
        have c8 := hR.cell 8 (by omega)
        rw [eC] at c8
        have hFaG : ∀ q ∈ Fa, q ∈ G := fun q hq => by rw [eG]; exact List.mem_append_right _ hq
        have hgFa : gr ∉ Fa := fun e => hgG (hFaG gr e)
        have hFaN : Fa.Nodup := by rw [eG] at hGN; exact (List.nodup_append.1 hGN).2.1
        have hat := hAt l[k] (List.getElem_mem hkl)
        have HC := hide (chg_any wq.drew a1 ca l[k].attrs Fa o k1 k2 k3 d1 d2 d3 q4 hFaN hat.1 hat.2 (hn2.keep hw5) (ht2.keep hw5) (by omega) (by omega) hnm)
        have e0 := lb5.cell 0
        have e1 := lb5.cell 1
        have e2 := lb5.cell 2
        have e3 := lb5.cell 3
        have e4 := lb5.cell 4
        have e5 := lb5.cell 5
        have e6 := lb5.cell 6
        have e7 := lb5.cell 7
        have e8 := lb5.cell 8
        have e9 := lb5.cell 9
        have e10 := lb5.cell 10
        have e11 := lb5.cell 11
        have HR := hide hR
        have HCL := hide hcl
        have HZ := hide (And.intro hs5 (And.intro hA2 (And.intro hdo2 (And.intro hbd (And.intro q1 (And.intro q2 (And.intro q3 (And.intro eG (And.intro hGN hGF)))))))))
        have hlen3 : o.kind = 3 := hk
        rw [hk] at HC e0
        clear hs hA2 hdo2 lb2 hw2 hn2 ht2 hs5 lb5 hw5 hR hcl q1 q2 q3 q4 eG hGN hGF hbd hbq HY
        go_region_with (go_at_call 101; refine (unhide HC).mono ?_; rintro e w6 ⟨a6, c6, F6, rfl, h6, hN6, hM6, hf6⟩; have hR6 := (unhide HR).frm hf6 hgFa; have cc := hR6.cell 8 (by omega); rw [eC] at cc; have cf := hR6.frozen (k * 9 + 8); have HR6 := hide hR6; clear hR6)
        all_goals
          obtain ⟨hs5, hA2, hdo2, hbd, q1, q2, q3, eG, hGN, hGF⟩ := unhide HZ
          have fs := set_frm w6 gr (k * 9 + 8) (.slice a6 (chgI l[k].attrs o).length c6)
          have hlt5 := OwPlsM.lt hs5.row
          have hFF : Frm wq.drew _ (Fa ++ [gr]) := (hf6.mono (fun q hq => List.mem_append_left _ hq)).trans (fs.mono (S' := Fa ++ [gr]) (fun q hq => List.mem_append_right _ hq))
          have hnG : ∀ q ∈ FB K ++ FB N ++ FB T, q ∉ Fa ++ [gr] := fun q hq e => by
            rcases List.mem_append.1 e with e | e
            · rw [eG] at hGN
              exact (List.nodup_append.1 hGN).2.2 q hq q e rfl
            · have e9_ : q = gr := by simpa using e
              exact hgG (by rw [eG, ← e9_]; exact List.mem_append_left _ hq)
          have hgl5 := hlt5 gr hgF
          have hB5 : B ≤ wq.drew.heap.size := by have := hs5.geg; have := hs5.set.lt; omega
          have hF6g : gr ∉ F6 := fun e => by rcases hM6 gr e with e | e; (exact hgFa e); omega
          have hat' : setAttrs l[k].attrs o = chgI l[k].attrs o := chg_eq (hAt l[k] (List.getElem_mem hkl)).1 (hAt l[k] (List.getElem_mem hkl)).2 o
          obtain ⟨F', g1, g2⟩ := (unhide HCL) _ (Fa ++ [gr]) _ (attrP o l[k]) (FB K ++ FB N ++ FB T ++ F6) ((unhide HR6).put 8 (by omega) (.slice a6 (chgI l[k].attrs o).length c6)) hFF (fun q hq => by rcases List.mem_append.1 hq with e | e; (exact .inr (hFaG q e)); (exact .inl (by simpa using e)))
            (by
              rw [eC]
              refine ⟨K, N, T, _, F6, rfl, ⟨q1.1, ownsRow_frm q1.2 hFF (fun q hq => hnG q (by simp [hq]))⟩, q2.frm hFF (fun q hq => hnG q (by simp [hq])), q3.frm hFF (fun q hq => hnG q (by simp [hq])), ?_, rfl⟩
              show OwAttrs _ _ (setAttrs l[k].attrs o) F6
              rw [hat']
              exact OwAttrs.frm h6 fs (fun q hq e => by have e9_ : q = gr := (by simpa using e); exact hF6g (by rw [← e9_]; exact hq)))
            (by
              rw [eG] at hGN
              refine List.nodup_append.2 ⟨(List.nodup_append.1 hGN).1, hN6, fun q hq q' hq' e => ?_⟩
              rcases hM6 q' hq' with e' | e'
              · exact (List.nodup_append.1 hGN).2.2 q hq q' e' e
              · have := hlt5 q (hGF q (by rw [eG]; exact List.mem_append_left _ hq)); omega)
            (fun q hq => by
              rcases List.mem_append.1 hq with hq | hq
              · exact .inl (by rw [eG]; exact List.mem_append_left _ hq)
              · rcases hM6 q hq with e | e
                · exact .inl (hFaG q e)
                · exact .inr ⟨fun e' => by have := hlt5 q e'; omega, by omega⟩)
            rfl (hs5.ids l[k] (List.getElem_mem hkl)).2
          have hsz2 := hA2.size
          have hsz5 := hbd.size
          have HE := hide (unhide HQ (.returned (.tuple #[])) _ ⟨rfl, _, _, F', by rw [hdo2]; exact g1, ((Frm.ofBelow hA2 _).trans (Frm.ofBelow hbd _)).trans (hFF.mono (fun q hq => by rcases List.mem_append.1 hq with e | e; (simp [hGF q (hFaG q e)]); (have e9_ : q = gr := (by simpa using e); rw [e9_]; simp [hgF]))), fun q hq => by
            rcases g2 q hq with e | e
            · exact .inl e
            · rcases List.mem_append.1 e with e | e
              · exact .inl (hGF q (by rw [eG]; exact List.mem_append_left _ e))
              · rcases hM6 q e with e | e
                · exact .inl (hGF q (hFaG q e))
                · right; omega⟩)
          clear HQ HC HZ HR HCL HR6 hs5 hA2 hdo2 q1 q2 q3 g1 g2 fs hFF hnG h6 hN6 hM6 hf6
          go_wp2_with fail
          go_end0
          exact unhide HE
      · have w1_ : (l[k].idN == 0) = false := by simpa using e1
        clear hs hA2 hdo2 hdo hw2 lb2 h1 h2 h3 hid htk hz htr e1
        go_wp2_with fail
        go_quiet (fail)
        go_upto_region 14 with fail
        generalize hWq : w2.drewN _ = wq
        obtain ⟨hs, hA2, hdo2, lb2, hw2, hn2, ht2⟩ := unhide HY
        have hbq : Below w2.heap.size w2 wq := by rw [← hWq]; exact below_drewN (Below.refl _ _) _
        clear hWq
        have hbd := hbq.drew
        have hs5 := hs.keep hbd
        have lb5 := lb2.all hbd
        have hw5 := hw2.trans (hbd.mono hw2.size)
        obtain ⟨Cs, C, G, hR, hC, hGN, hGF, hgF, hgG, hcl⟩ := hs5.upd hkl
        obtain ⟨K, N, T, A, Fa, eC, q1, q2, q3, q4, eG⟩ := hC
        obtain ⟨a1, ca, rfl, _⟩ := Elems.shape (OwAttrs.rd q4)
        have c8 := hR.cell 8 (by omega)
        rw [eC] at c8
        have hFaG : ∀ q ∈ Fa, q ∈ G := fun q hq => by rw [eG]; exact List.mem_append_right _ hq
        have hgFa : gr ∉ Fa := fun e => hgG (hFaG gr e)
        have hFaN : Fa.Nodup := by rw [eG] at hGN; exact (List.nodup_append.1 hGN).2.1
        have hat := hAt l[k] (List.getElem_mem hkl)
        have HC := hide (chg_any wq.drew a1 ca l[k].attrs Fa o k1 k2 k3 d1 d2 d3 q4 hFaN hat.1 hat.2 (hn2.keep hw5) (ht2.keep hw5) (by omega) (by omega) hnm)
        have e0 := lb5.cell 0
        have e1 := lb5.cell 1
        have e2 := lb5.cell 2
        have e3 := lb5.cell 3
        have e4 := lb5.cell 4
        have e5 := lb5.cell 5
        have e6 := lb5.cell 6
        have e7 := lb5.cell 7
        have e8 := lb5.cell 8
        have e9 := lb5.cell 9
        have e10 := lb5.cell 10
        have e11 := lb5.cell 11
        have HR := hide hR
        have HCL := hide hcl
        have HZ := hide (And.intro hs5 (And.intro hA2 (And.intro hdo2 (And.intro hbd (And.intro q1 (And.intro q2 (And.intro q3 (And.intro eG (And.intro hGN hGF)))))))))
        have hlen3 : o.kind = 3 := hk
        rw [hk] at HC e0
        clear hs hA2 hdo2 lb2 hw2 hn2 ht2 hs5 lb5 hw5 hR hcl q1 q2 q3 q4 eG hGN hGF hbd hbq HY
        go_region_with (go_at_call 101; refine (unhide HC).mono ?_; rintro e w6 ⟨a6, c6, F6, rfl, h6, hN6, hM6, hf6⟩; have hR6 := (unhide HR).frm hf6 hgFa; have cc := hR6.cell 8 (by omega); rw [eC] at cc; have cf := hR6.frozen (k * 9 + 8); have HR6 := hide hR6; clear hR6)
        all_goals
          obtain ⟨hs5, hA2, hdo2, hbd, q1, q2, q3, eG, hGN, hGF⟩ := unhide HZ
          have fs := set_frm w6 gr (k * 9 + 8) (.slice a6 (chgI l[k].attrs o).length c6)
          have hlt5 := OwPlsM.lt hs5.row
          have hFF : Frm wq.drew _ (Fa ++ [gr]) := (hf6.mono (fun q hq => List.mem_append_left _ hq)).trans (fs.mono (S' := Fa ++ [gr]) (fun q hq => List.mem_append_right _ hq))
          have hnG : ∀ q ∈ FB K ++ FB N ++ FB T, q ∉ Fa ++ [gr] := fun q hq e => by
            rcases List.mem_append.1 e with e | e
            · rw [eG] at hGN
              exact (List.nodup_append.1 hGN).2.2 q hq q e rfl
            · have e9_ : q = gr := by simpa using e
              exact hgG (by rw [eG, ← e9_]; exact List.mem_append_left _ hq)
          have hgl5 := hlt5 gr hgF
          have hB5 : B ≤ wq.drew.heap.size := by have := hs5.geg; have := hs5.set.lt; omega
          have hF6g : gr ∉ F6 := fun e => by rcases hM6 gr e with e | e; (exact hgFa e); omega
          have hat' : setAttrs l[k].attrs o = chgI l[k].attrs o := chg_eq (hAt l[k] (List.getElem_mem hkl)).1 (hAt l[k] (List.getElem_mem hkl)).2 o
          obtain ⟨F', g1, g2⟩ := (unhide HCL) _ (Fa ++ [gr]) _ (attrP o l[k]) (FB K ++ FB N ++ FB T ++ F6) ((unhide HR6).put 8 (by omega) (.slice a6 (chgI l[k].attrs o).length c6)) hFF (fun q hq => by rcases List.mem_append.1 hq with e | e; (exact .inr (hFaG q e)); (exact .inl (by simpa using e)))
            (by
              rw [eC]
              refine ⟨K, N, T, _, F6, rfl, ⟨q1.1, ownsRow_frm q1.2 hFF (fun q hq => hnG q (by simp [hq]))⟩, q2.frm hFF (fun q hq => hnG q (by simp [hq])), q3.frm hFF (fun q hq => hnG q (by simp [hq])), ?_, rfl⟩
              show OwAttrs _ _ (setAttrs l[k].attrs o) F6
              rw [hat']
              exact OwAttrs.frm h6 fs (fun q hq e => by have e9_ : q = gr := (by simpa using e); exact hF6g (by rw [← e9_]; exact hq)))
            (by
              rw [eG] at hGN
              refine List.nodup_append.2 ⟨(List.nodup_append.1 hGN).1, hN6, fun q hq q' hq' e => ?_⟩
              rcases hM6 q' hq' with e' | e'
              · exact (List.nodup_append.1 hGN).2.2 q hq q' e' e
              · have := hlt5 q (hGF q (by rw [eG]; exact List.mem_append_left _ hq)); omega)
            (fun q hq => by
              rcases List.mem_append.1 hq with hq | hq
              · exact .inl (by rw [eG]; exact List.mem_append_left _ hq)
              · rcases hM6 q hq with e | e
                · exact .inl (hFaG q e)
                · exact .inr ⟨fun e' => by have := hlt5 q e'; omega, by omega⟩)
            rfl (hs5.ids l[k] (List.getElem_mem hkl)).2
          have hsz2 := hA2.size
          have hsz5 := hbd.size
          have HE := hide (unhide HQ (.returned (.tuple #[])) _ ⟨rfl, _, _, F', by rw [hdo2]; exact g1, ((Frm.ofBelow hA2 _).trans (Frm.ofBelow hbd _)).trans (hFF.mono (fun q hq => by rcases List.mem_append.1 hq with e | e; (simp [hGF q (hFaG q e)]); (have e9_ : q = gr := (by simpa using e); rw [e9_]; simp [hgF]))), fun q hq => by
            rcases g2 q hq with e | e
            · exact .inl e
            · rcases List.mem_append.1 e with e | e
              · exact .inl (hGF q (by rw [eG]; exact List.mem_append_left _ e))
              · rcases hM6 q e with e | e
                · exact .inl (hGF q (hFaG q e))
                · right; omega⟩)
          clear HQ HC HZ HR HCL HR6 hs5 hA2 hdo2 q1 q2 q3 g1 g2 fs hFF hnG h6 hN6 hM6 hf6
          go_wp2_with fail
          go_end0
          exact unhide HE
  · have hdo2 : doV l o = l := by rw [hdo, if_neg (by omega), if_neg (by omega), if_neg (fun e => hz e.2)]
    have w5_ : (l[k].kind == 0) = false := by simpa using hz
    have HE := hide (fun n_ => unhide HQ (.returned (.tuple #[])) (w2.drewN n_) ⟨rfl, _, _, F, by rw [hdo2]; exact hs.keep (below_drewN (Below.refl _ _) _), Frm.ofBelow (bstep hA2 (below_drewN (Below.refl _ _) _)) _, fun q hq => .inl hq⟩)
    clear hs hA2 hdo2 hdo hw2 lb2 h1 h2 h3 HQ hz htr
    go_wp2_with fail
    go_quiet (fail)
    go_wp2_with fail
    go_end0
    exact unhide HE _
end Go.Proofs.YtnfafchajjclaaaGreatDoor

/- The forest's do: a move; whatever the operation. -/
namespace Go.Proofs.YtnfafchajjclaaaGreatDoor
open Go.RowKit Go.Maps
set_option linter.unusedVariables false
set_option maxRecDepth 100000

set_option maxHeartbeats 12800000 in
theorem fo_move {B : Nat} {w0 w : World} {g mb : Nat} {a : Option Addr} {c : Nat} {l : List PlV} {F : List Nat} (h : FoS B w g mb a c l F) (hB0 : w0.heap.size ≤ B) (hw0 : Below w0.heap.size w0 w) (o : OpV) (k1 k2 k3 : Option Addr) (d1 d2 d3 : Nat)
    (h1 : Ints w0 (.slice k1 o.key.length d1) o.key) (h2 : Byt w0 (.slice k2 o.name.length d2) o.name) (h3 : Byt w0 (.slice k3 o.text.length d3) o.text) (hs1 : o.key.length ≤ 1000000) (hs2 : o.name.length ≤ 1000000) (hs3 : o.text.length ≤ 1000000) (ho : opB o = true) (hk : o.kind = 1) (hno : okI o.node) (hpa : okI o.par) (hFr : Fr l) (hG : Glo w) (hB2 : 2 ≤ B) (k : Nat) (hp : posP l o.node = some k) :
    Calls Tryz.prog 64 #[.pointer (some ⟨g, 0, none⟩), .agg #[.int .i64 o.kind, .int .i64 o.atN, .int .i64 o.atR, .int .i64 o.nodeN, .int .i64 o.nodeR, .int .i64 o.parN, .int .i64 o.parR, .slice k1 o.key.length d1, .int .i64 o.elem, .slice k2 o.name.length d2, .slice k3 o.text.length d3, .bool o.gone]] w fun e w' => e = .returned (.tuple #[]) ∧ FoT B w g mb (doV l o) F w' := by
  refine calls_via ?_
  intro Q HQ
  have hA : Below w.heap.size w (w.alloc (.cells #[.int .i64 o.kind, .int .i64 o.atN, .int .i64 o.atR, .int .i64 o.nodeN, .int .i64 o.nodeR, .int .i64 o.parN, .int .i64 o.parR, .slice k1 o.key.length d1, .int .i64 o.elem, .slice k2 o.name.length d2, .slice k3 o.text.length d3, .bool o.gone] 68)) := (Below.refl _ _).alloc (Nat.le_refl _) _
  have lb := Loc.made w #[.int .i64 o.kind, .int .i64 o.atN, .int .i64 o.atR, .int .i64 o.nodeN, .int .i64 o.nodeR, .int .i64 o.parN, .int .i64 o.parR, .slice k1 o.key.length d1, .int .i64 o.elem, .slice k2 o.name.length d2, .slice k3 o.text.length d3, .bool o.gone] 68
  have hq1 := h.keep hA
  have b0 := lb.cell 0
  have b3 := lb.cell 3
  have b4 := lb.cell 4
  have HF := hide (find_any hq1 o.node hno)
  unfold OpV.node idVal at HF
  have hgl := h.set.lt
  have hml := h.map.lt
  have hFl := OwPlsM.lt h.row
  have hkl : k < l.length := (posP_some.1 hp).1
  have hdo := doV_some (o := o) (by omega) hp hkl
  have hk0 : ¬ o.kind = 0 := by omega
  have HX := hide (And.intro hA (And.intro hdo (And.intro hq1 (And.intro hp (And.intro lb (And.intro (hw0.trans (hA.mono hw0.size)) (And.intro h1 (And.intro h2 h3))))))))
  have HGL := hide hG
  clear hG
  have HKK := hide hk
  clear hk
  clear h hq1 hA lb hw0 h1 h2 h3 hdo ho hno hp
  go_enter Tryz.func64, Tryz.ntmps64
  go_wp2_with fail
  refine (unhide HF).mono ?_
  rintro e w2 ⟨_, hs2_, hb2⟩
  obtain ⟨hA, hdo, hq1, hp, lb, hw0, h1, h2, h3⟩ := unhide HX
  obtain ⟨gr, rfl, rfl⟩ := hs2_ k hp
  have hs := hq1.keep hb2
  have lb2 := lb.all hb2
  have hw2 := hw0.trans (hb2.mono hw0.size)
  have hA2 := bstep hA hb2
  have hB2_ : B ≤ w2.heap.size := by have := hs.geg; have := hs.set.lt; omega
  have hge : ∀ q ∈ g :: mb :: F, B ≤ q := fun q hq => by rcases List.mem_cons.1 hq with rfl | hq; (exact hs.geg); (rcases List.mem_cons.1 hq with rfl | hq; (exact hs.gem); (exact hs.ge q hq))
  clear HX HF hs2_ hb2 hA hq1 lb hw0 b0 b3 b4
  have b0 := lb2.cell 0
  have hk := unhide HKK
  rw [hk] at b0
  have b3 := lb2.cell 3
  have b4 := lb2.cell 4
  have b5 := lb2.cell 5
  have b6 := lb2.cell 6
  have hme := may_eq hFr hp
  have HM := hide (mayMove_any hs hFr ((unhide HGL).keep hA2) hB2 o.node o.par hpa)
  unfold OpV.node OpV.par idVal at HM
  have HX2 := hide (And.intro hs (And.intro hA2 (And.intro hdo (And.intro lb2 (And.intro hw2 (And.intro h1 hme))))))
  have hbx : w.heap.size < w2.heap.size := lb2.lt
  clear hs hA2 hdo lb2 hw2 h1 h2 h3 hme
  go_wp2_with fail
  refine (unhide HM).mono ?_
  rintro e w3 ⟨rfl, hs3_, hf3⟩
  obtain ⟨hs, hA2, hdo, lb2, hw2, h1, hme⟩ := unhide HX2
  have lb3 := lb2.frm hf3 (by simp; omega)
  have hfa : Frm w w3 [g] := (Frm.ofBelow hA2 [g]).trans hf3
  have hw3 : Below w0.heap.size w0 w3 := hw2.trans (hf3.below hw2.size (fun q hq => by have e9 : q = g := (by simpa using hq); have := hge g (by simp); omega))
  have hs23 := hf3.size
  clear HX2 HM hs lb2 hw2 hf3 b0 b3 b4 b5 b6
  cases hm : mayI l (o.nodeN, o.nodeR) (o.parN, o.parR) with
  | false =>
    have hdo2 : doV l o = l := by rw [hdo, if_pos hk, hme, show mayI l o.node o.par = false from hm]; rfl
    have HE := hide (unhide HQ (.returned (.tuple #[])) w3 ⟨rfl, _, _, F, by rw [hdo2]; exact hs3_, hfa.mono (fun q hq => by have e9 : q = g := (by simpa using hq); simp [e9]), fun q hq => .inl hq⟩)
    clear hs3_ hfa lb3 hw3 hdo hdo2 hme hm HQ hA2
    go_wp2_with fail
    go_end0
    exact unhide HE
  | true =>
    have hdo2 : doV l o = l.set k (moveP o l[k]) := by rw [hdo, if_pos hk, hme, show mayI l o.node o.par = true from hm]; rfl
    clear hdo hme hm
    have hd : Below w3.heap.size w3 w3.drew := (Below.refl _ _).drew
    obtain ⟨Cs, C, G, hR, hC, hGN, hGF, hgF, hgG, hcl⟩ := hs3_.upd hkl
    have hlt3 := OwPlsM.lt hs3_.row
    have hgl3 := hlt3 gr hgF
    have hFl3 := hFl gr hgF
    have hnb : w.heap.size ≠ gr := by omega
    have HC := hide (copyKey_any w3.drew _ o.key (h1.keep (hw3.trans (hd.mono hw3.size))) (by omega))
    have d5 : w3.drew.cell? ⟨w.heap.size, 5, none⟩ = some (.int .i64 o.parN) := (lb3.all hd).cell 5
    have d6 : w3.drew.cell? ⟨w.heap.size, 6, none⟩ = some (.int .i64 o.parR) := (lb3.all hd).cell 6
    have d7 : w3.drew.cell? ⟨w.heap.size, 7, none⟩ = some (.slice k1 o.key.length d1) := (lb3.all hd).cell 7
    have HK := hide (fun (W : World) (hW : Below w3.heap.size w3 W) => And.intro (lb3.all hW) (hR.frm (Frm.ofBelow hW []) (by simp)))
    obtain ⟨K, N, T, A, Fa, eC, q1, q2, q3, q4, eG⟩ := hC
    obtain ⟨_, _, eK, _⟩ := q1.ints.shape
    have HY := hide (And.intro hs3_ (And.intro hfa (And.intro hdo2 (And.intro q1 (And.intro q2 (And.intro q3 (And.intro q4 (And.intro eG (And.intro hGN (And.intro hGF hlt3))))))))))
    have HCL := hide hcl
    clear hs3_ hfa hdo2 lb3 hw3 hcl q1 q2 q3 q4 eG hGN hGF hlt3 hR h1 hA2
    go_wp2_with fail
    go_region_held3 (fun w' => w'.cell? ⟨w.heap.size, 5, none⟩ = some (.int .i64 o.parN) ∧ w'.cell? ⟨w.heap.size, 6, none⟩ = some (.int .i64 o.parR) ∧ w'.cell? ⟨w.heap.size, 7, none⟩ = some (.slice k1 o.key.length d1))
      (first | exact ⟨by assumption, by assumption, by assumption⟩ | simp [*])
      (first
        | (go_at_call 99; refine (unhide HC).mono ?_; clear HC; rintro e w5 ⟨a5, c5, rfl, ho5, hb5⟩; have hK5 := bstep hd hb5; have lb5 := (unhide HK w5 hK5).1; have hR5 := (unhide HK w5 hK5).2; have x5 := lb5.cell 5; have x6 := lb5.cell 6; have x7 := lb5.cell 7; have y2 := hR5.cell 2 (by omega); have y3 := hR5.cell 3 (by omega); have y4 := hR5.cell 4 (by omega); rw [eC] at y2 y3 y4; rw [eK] at y4; have z2 := hR5.frozen (k * 9 + 2); have z3 := hR5.frozen (k * 9 + 3); have z4 := hR5.frozen (k * 9 + 4); have lbS := (lb5.other gr (k * 9 + 2) (.int .i64 o.parN) hnb).other gr (k * 9 + 3) (.int .i64 o.parR) hnb; have hRS := (hR5.put 2 (by omega) (.int .i64 o.parN)).put 3 (by omega) (.int .i64 o.parR); have s5 := lbS.cell 5; have s6 := lbS.cell 6; have s7 := lbS.cell 7; have v4 := hRS.cell 4 (by omega); rw [eC] at v4; rw [eK] at v4; have u4 := hRS.frozen (k * 9 + 4); have lbT := lbS.other gr (k * 9 + 4) (.slice a5 o.key.length c5) hnb; have t5 := lbT.cell 5; have t6 := lbT.cell 6; have t7 := lbT.cell 7; have HRT := hide (hRS.put 4 (by omega) (.slice a5 o.key.length c5)); clear lb5 hR5 lbS hRS lbT))
    all_goals
      obtain ⟨hs3_, hfa, hdo2, q1, q2, q3, q4, eG, hGN, hGF, hlt3⟩ := unhide HY
      have hRT := unhide HRT
      clear x5 x6 x7 y2 y3 y4 z2 z3 z4 s5 s6 s7 v4 u4 t5 t6 t7 HRT HY HK d5 d6 d7
      have fs : Frm w5 (((w5.setCell ⟨gr, k * 9 + 2, none⟩ (.int .i64 o.parN)).setCell ⟨gr, k * 9 + 3, none⟩ (.int .i64 o.parR)).setCell ⟨gr, k * 9 + 4, none⟩ (.slice a5 o.key.length c5)) [gr] := ((set_frm _ gr _ _).trans (set_frm _ gr _ _)).trans (set_frm _ gr _ _)
      have hf35 := (Frm.ofBelow hK5 [gr]).trans fs
      have hnew : ∀ q ∈ FB (.slice a5 o.key.length c5), w3.heap.size ≤ q := fun q hq => (ho5.lt q (by simpa [FB] using hq)).1
      have hng : ∀ q ∈ G, q ∉ [gr] := fun q hq e => by have e9 : q = gr := (by simpa using e); exact hgG (by rw [← e9]; exact hq)
      have hB3 : B ≤ w3.heap.size := by omega
      obtain ⟨F', g1, g2⟩ := (unhide HCL) _ [gr] _ (moveP o l[k]) (FB (.slice a5 o.key.length c5) ++ FB N ++ FB T ++ Fa) hRT hf35 (fun q hq => .inl (by simpa using hq))
        (by rw [eC]; exact ⟨_, N, T, A, Fa, rfl, ⟨ho5.1, ownsRow_frm (ownsRow_base ho5.2 0 (Nat.zero_le _)) fs (fun q hq e => by have e9 : q = gr := (by simpa using e); have := hnew q hq; omega)⟩, q2.frm hf35 (fun q hq => hng q (by rw [eG]; simp [hq])), q3.frm hf35 (fun q hq => hng q (by rw [eG]; simp [hq])), OwAttrs.frm q4 hf35 (fun q hq => hng q (by rw [eG]; simp [hq])), rfl⟩)
        (by
          have h9 := nd_swap (X := []) (T := FB K) (T' := FB (.slice a5 o.key.length c5)) (Y := FB N ++ FB T ++ Fa) (by rw [List.nil_append]; rw [eG] at hGN; simpa [List.append_assoc] using hGN) (FB_nodup _) (fun q hq e => by have := hnew q hq; have := hlt3 q (hGF q (by rw [eG]; simpa [List.append_assoc] using e)); omega)
          simpa [List.append_assoc] using h9)
        (fun q hq => by
          rw [List.append_assoc, List.append_assoc] at hq
          rcases List.mem_append.1 hq with hq | hq
          · exact .inr ⟨fun e => by have := hnew q hq; have := hlt3 q e; omega, by have := hnew q hq; omega⟩
          · exact .inl (by rw [eG, List.append_assoc, List.append_assoc]; exact List.mem_append_right _ hq))
        rfl hpa
      have HE := hide (unhide HQ (.returned (.tuple #[])) _ ⟨rfl, _, _, F', by rw [hdo2]; exact g1, (hfa.mono (fun q hq => by have e9 : q = g := (by simpa using hq); simp [e9])).trans (hf35.mono (fun q hq => by have e9 : q = gr := (by simpa using hq); rw [e9]; simp [hgF])), fun q hq => by
        rcases g2 q hq with e | e
        · exact .inl e
        · rw [List.append_assoc, List.append_assoc] at e
          rcases List.mem_append.1 e with e | e
          · have := hnew q e; right; omega
          · exact .inl (hGF q (by rw [eG, List.append_assoc, List.append_assoc]; exact List.mem_append_right _ e))⟩)
      clear HQ HCL hs3_ hfa hdo2 q1 q2 q3 q4 g1 g2 fs hf35 hRT ho5
      go_wp2_with fail
      go_end0
      exact unhide HE

/-- The forest's do, whatever the operation. -/
theorem fo_any {B : Nat} {w0 w : World} {g mb : Nat} {a : Option Addr} {c : Nat} {l : List PlV} {F : List Nat} (h : FoS B w g mb a c l F) (hB0 : w0.heap.size ≤ B) (hw0 : Below w0.heap.size w0 w) (o : OpV) (k1 k2 k3 : Option Addr) (d1 d2 d3 : Nat)
    (h1 : Ints w0 (.slice k1 o.key.length d1) o.key) (h2 : Byt w0 (.slice k2 o.name.length d2) o.name) (h3 : Byt w0 (.slice k3 o.text.length d3) o.text) (hs1 : o.key.length ≤ 1000000) (hs2 : o.name.length ≤ 1000000) (hs3 : o.text.length ≤ 1000000) (ho : opB o = true) (hFr : Fr l) (hAt : AtI l) (hK2 : Kd2 l) (hG : Glo w) (hB2 : 2 ≤ B) (hnew : o.kind = 0 → posP l o.at' = none) (hlen : l.length + 1 ≤ 100000) :
    Calls Tryz.prog 64 #[.pointer (some ⟨g, 0, none⟩), .agg #[.int .i64 o.kind, .int .i64 o.atN, .int .i64 o.atR, .int .i64 o.nodeN, .int .i64 o.nodeR, .int .i64 o.parN, .int .i64 o.parR, .slice k1 o.key.length d1, .int .i64 o.elem, .slice k2 o.name.length d2, .slice k3 o.text.length d3, .bool o.gone]] w fun e w' => e = .returned (.tuple #[]) ∧ FoT B w g mb (doV l o) F w' := by
  rcases op_kind ho with hk | hk | hk | hk
  · exact fo_new h hB0 hw0 o k1 k2 k3 d1 d2 d3 h1 h2 h3 hs1 hs2 hs3 ho hk (hnew hk) hlen
  · obtain ⟨hno, hpa⟩ := op_move ho hk
    cases hp : posP l o.node with
    | none => exact fo_none h hB0 hw0 o k1 k2 k3 d1 d2 d3 h1 h2 h3 hs1 hs2 hs3 ho (.inl hk) hno hp
    | some k => exact fo_move h hB0 hw0 o k1 k2 k3 d1 d2 d3 h1 h2 h3 hs1 hs2 hs3 ho hk hno hpa hFr hG hB2 k hp
  · have hno := op_text ho hk
    cases hp : posP l o.node with
    | none => exact fo_none h hB0 hw0 o k1 k2 k3 d1 d2 d3 h1 h2 h3 hs1 hs2 hs3 ho (.inr (.inl hk)) hno hp
    | some k => exact fo_text h hB0 hw0 o k1 k2 k3 d1 d2 d3 h1 h2 h3 hs1 hs2 hs3 ho hk hno hK2 k hp
  · obtain ⟨hno, hnm⟩ := op_attr ho hk
    cases hp : posP l o.node with
    | none => exact fo_none h hB0 hw0 o k1 k2 k3 d1 d2 d3 h1 h2 h3 hs1 hs2 hs3 ho (.inr (.inr hk)) hno hp
    | some k => exact fo_attr h hB0 hw0 o k1 k2 k3 d1 d2 d3 h1 h2 h3 hs1 hs2 hs3 ho hk hno hnm hFr hAt hG k hp
end Go.Proofs.YtnfafchajjclaaaGreatDoor

/- The ids of the first tree's places; sizes. Mathematics. No function of the program. -/
namespace Go.Proofs.YtnfafchajjclaaaGreatDoor
open Go.RowKit
set_option linter.unusedVariables false
set_option maxRecDepth 100000

def SeedIds (l : List PlV) : Prop := ∀ p ∈ l, p.idN = 0 ∧ 0 ≤ p.idR ∧ p.idR < (l.length : Int)
theorem SeedIds.new {l : List PlV} (h : SeedIds l) : posP l (0, (l.length : Int)) = none := posP_none.2 (fun p hp e => by
  have := (h p hp).2.2
  have e2 : p.idR = (l.length : Int) := (Prod.mk.inj e).2
  omega)
theorem SeedIds.snoc {l : List PlV} (h : SeedIds l) {p : PlV} (h0 : p.idN = 0) (h1 : p.idR = (l.length : Int)) : SeedIds (l ++ [p]) := fun q hq => by
  rw [List.length_append, List.length_singleton]
  rcases List.mem_append.1 hq with hq | hq
  · have := h q hq
    exact ⟨this.1, this.2.1, by omega⟩
  · have e : q = p := by simpa using hq
    rw [e]
    exact ⟨h0, by omega, by omega⟩
theorem fold_inv {α β : Type} (I : β → Prop) (f : β → α → β) (hf : ∀ a x, I a → I (f a x)) : ∀ (l : List α) (a : β), I a → I (l.foldl f a)
  | [], a, h => h
  | x :: r, a, h => fold_inv I f hf r (f a x) (hf a x h)
theorem SeedIds.K : ∀ (n : Nat) (i : IdV) (ks : List (Tr n)) (acc : List PlV), SeedIds acc → SeedIds (seedK n i ks acc)
  | 0, _, _, _, h => h
  | n + 1, i, ks, acc, h => fold_inv SeedIds (seedF n i) (fun a x ha => SeedIds.K n (0, (a.length : Int)) x.1.kids (a ++ [seedP a.length i x.1 x.2]) (ha.snoc rfl rfl)) (List.zipIdx (α := Nd (Tr n)) ks) acc h
theorem SeedIds.J (n : Nat) (i : IdV) (ks : List (Nd (Tr n))) (acc : List PlV) (j : Nat) (h : SeedIds acc) : SeedIds (seedJ n i ks acc j) := fold_inv SeedIds (seedF n i) (fun a x ha => SeedIds.K n (0, (a.length : Int)) x.1.kids (a ++ [seedP a.length i x.1 x.2]) (ha.snoc rfl rfl)) _ acc h
theorem szT_kid {n : Nat} {t : Tr (n + 1)} {k : Tr n} (h : k ∈ t.kids) : szT n k ≤ szT (n + 1) t := by
  show szT n k ≤ t.name.length + t.text.length + szA t.attrs + (t.kids.length + (t.kids.map (szT n)).sum)
  have : szT n k ≤ (t.kids.map (szT n)).sum := by
    have hs : ∀ (l : List (Tr n)), k ∈ l → szT n k ≤ (l.map (szT n)).sum := fun l => by
      induction l with
      | nil => intro h; cases h
      | cons y r ih =>
        intro h
        rw [List.map_cons, List.sum_cons]
        rcases List.mem_cons.1 h with rfl | h
        · omega
        · have := ih h; omega
    exact hs _ h
  omega
theorem okI_len {m : Nat} (h : m ≤ 100000) : okI (0, (m : Int)) := ⟨WalkArith.wf_i64 (by omega), WalkArith.wf_i64 (by omega)⟩
end Go.Proofs.YtnfafchajjclaaaGreatDoor
