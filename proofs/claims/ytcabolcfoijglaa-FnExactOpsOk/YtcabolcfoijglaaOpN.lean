/- The test of an operation, the two ways round, in plain mathematics. -/
import Derived.Test.YtcabolcfoijglaaIdI
namespace Go.Proofs.Ytcabolcfoijglaa
set_option linter.unusedVariables false

theorem headB_eq (o : OpV) : opHeadB o = (decide (o.kind < 0) || (decide (3 < o.kind) || (!stampB o.atN o.atR || !textB o.text))) := by
  unfold opHeadB stampB
  have e1 : decide (1 ≤ o.atN) = !decide (o.atN < 1) := by rw [Bool.eq_iff_iff]; simp
  have e2 : decide (o.atN ≤ 1000000) = !decide (1000000 < o.atN) := by rw [Bool.eq_iff_iff]; simp
  have e3 : decide (0 ≤ o.atR) = !decide (o.atR < 0) := by rw [Bool.eq_iff_iff]; simp
  have e4 : decide (o.atR < 8) = !decide (8 ≤ o.atR) := by rw [Bool.eq_iff_iff]; simp
  rw [e1, e2, e3, e4]
  cases decide (o.kind < 0) <;> cases decide (3 < o.kind) <;> cases decide (o.atN < 1) <;> cases decide (1000000 < o.atN) <;> cases decide (o.atR < 0) <;> cases decide (8 ≤ o.atR) <;> rfl
theorem text_none {t : List Int} (h : ((t.length : Int) == 0) = true) : textB t = true := by
  have : t = [] := by simpa using h
  subst this
  rfl
theorem len_nil : ((([] : List Int).length : Int) == 0) = true := rfl
theorem zero_zero : zeroB 0 0 = true := rfl

def rest0 (o : OpV) : OpV := ⟨0, 0, 0, o.nodeN, o.nodeR, 0, 0, [], 0, [], [], o.gone⟩
def rest1 (o : OpV) : OpV := ⟨0, 0, 0, 0, 0, 0, 0, [], o.elem, o.name, o.text, o.gone⟩
def rest2 (o : OpV) : OpV := ⟨0, 0, 0, 0, 0, o.parN, o.parR, o.key, o.elem, o.name, [], o.gone⟩
def rest3 (o : OpV) : OpV := ⟨0, 0, 0, 0, 0, o.parN, o.parR, o.key, o.elem, [], [], false⟩

theorem opB_0 {o : OpV} (h : o.kind = 0) : opB o = (stampB o.atN o.atR && ((idB o.parN o.parR && (keyB o.key && loneB o.elem o.name o.text)) && zeroOpB (rest0 o))) := by
  unfold opB
  rw [headB_eq, h]
  simp only [Int.lt_irrefl, decide_false, Bool.false_or, beq_self_eq_true, if_true, show decide ((3 : Int) < 0) = false from rfl]
  unfold opNewB zeroOpB rest0
  simp only [zero_zero, len_nil, beq_self_eq_true, Bool.true_and]
  unfold loneB
  cases hs : stampB o.atN o.atR
  · simp
  cases idB o.parN o.parR
  · simp
  cases keyB o.key
  · simp
  cases zeroB o.nodeN o.nodeR
  · simp
  cases o.gone
  · by_cases e1 : o.elem = 1
    · rw [e1]
      cases textB o.text <;> simp
    · by_cases e0 : o.elem = 0
      · rw [e0]
        cases ht : textB o.text
        · cases hl : ((o.text.length : Int) == 0)
          · simp
          · rw [text_none hl] at ht; cases ht
        · simp
      · simp [e0, e1]
  · simp

theorem opB_1 {o : OpV} (h : o.kind = 1) : opB o = (stampB o.atN o.atR && ((idB o.nodeN o.nodeR && (idB o.parN o.parR && keyB o.key)) && zeroOpB (rest1 o))) := by
  unfold opB
  rw [headB_eq, h]
  simp only [show decide ((1 : Int) < 0) = false from rfl, Bool.false_or, show ((1 : Int) == 0) = false from rfl, show ((1 : Int) == 1) = true from rfl, show decide ((3 : Int) < 1) = false from rfl, if_true]
  unfold opMoveB zeroOpB rest1
  simp only [zero_zero, len_nil, beq_self_eq_true, Bool.true_and]
  cases hs : stampB o.atN o.atR
  · simp
  cases idB o.nodeN o.nodeR
  · simp
  cases idB o.parN o.parR
  · simp
  cases keyB o.key
  · simp
  cases hl : ((o.text.length : Int) == 0)
  · simp
  · rw [text_none hl]; simp

theorem opB_2 {o : OpV} (h : o.kind = 2) : opB o = (stampB o.atN o.atR && ((idB o.nodeN o.nodeR && textB o.text) && zeroOpB (rest2 o))) := by
  unfold opB
  rw [headB_eq, h]
  simp only [show decide ((2 : Int) < 0) = false from rfl, Bool.false_or, show ((2 : Int) == 0) = false from rfl, show ((2 : Int) == 1) = false from rfl, show decide ((3 : Int) < 2) = false from rfl]
  unfold opRestB zeroOpB rest2
  rw [h]
  simp only [zero_zero, len_nil, beq_self_eq_true, Bool.true_and, if_true]
  have ek : decide (0 < (o.key.length : Int)) = !((o.key.length : Int) == 0) := by rw [Bool.eq_iff_iff]; simp [Nat.pos_iff_ne_zero]
  rw [ek]
  cases hs : stampB o.atN o.atR
  · simp
  cases idB o.nodeN o.nodeR
  · simp
  cases textB o.text
  · simp
  cases zeroB o.parN o.parR
  · simp
  cases ((o.key.length : Int) == 0)
  · simp
  cases (o.elem == 0)
  · simp
  simp

theorem opB_3 {o : OpV} (h : o.kind = 3) : opB o = (stampB o.atN o.atR && ((idB o.nodeN o.nodeR && (nameB o.name && valB o.text o.gone)) && zeroOpB (rest3 o))) := by
  unfold opB
  rw [headB_eq, h]
  simp only [show decide ((3 : Int) < 0) = false from rfl, Bool.false_or, show ((3 : Int) == 0) = false from rfl, show ((3 : Int) == 1) = false from rfl, show decide ((3 : Int) < 3) = false from rfl]
  unfold opRestB zeroOpB rest3 valB
  rw [h]
  simp only [zero_zero, len_nil, beq_self_eq_true, Bool.true_and, show ((3 : Int) == 2) = false from rfl]
  have ek : decide (0 < (o.key.length : Int)) = !((o.key.length : Int) == 0) := by rw [Bool.eq_iff_iff]; simp [Nat.pos_iff_ne_zero]
  rw [ek]
  cases hs : stampB o.atN o.atR
  · simp
  cases idB o.nodeN o.nodeR
  · simp
  cases zeroB o.parN o.parR
  · simp
  cases ((o.key.length : Int) == 0)
  · simp
  cases (o.elem == 0)
  · simp
  cases nameB o.name
  · simp
  cases o.gone
  · cases textB o.text <;> simp
  · cases hl : ((o.text.length : Int) == 0)
    · simp
    · rw [text_none hl]; simp

theorem opB_4 {o : OpV} (h0 : o.kind ≠ 0) (h1 : o.kind ≠ 1) (h2 : o.kind ≠ 2) (h3 : o.kind ≠ 3) : opB o = false := by
  have : (decide (o.kind < 0) || decide (3 < o.kind)) = true := by
    simp only [Bool.or_eq_true, decide_eq_true_eq]
    omega
  unfold opB
  rw [headB_eq, ← Bool.or_assoc, this]
  rfl
end Go.Proofs.Ytcabolcfoijglaa
