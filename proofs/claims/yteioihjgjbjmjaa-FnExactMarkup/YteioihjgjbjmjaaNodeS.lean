/- spec.l2node and spec.NodeOk answer what the plain test says. -/
import Derived.Test.YteioihjgjbjmjaaAttrS
import Derived.Test.YteioihjgjbjmjaaToT
namespace Go.Proofs.Yteioihjgjbjmjaa
open Go.RowKit
set_option linter.unusedVariables false

/-- The test of one, of all members, each with what the one before left. -/
def okK {α : Type} (f : α → Int → Bool × Int) : List α → Int → Bool × Int
  | [], left => (true, left)
  | x :: r, left => if (f x left).1 = true then okK f r (f x left).2 else (false, (f x left).2)

/-- The tests as truth values. -/
def allB (f : Nat → Int → Bool) (l : List Int) : Bool := (List.range l.length).all fun i => f i (l.getD i 0)
theorem allB_iff {f : Nat → Int → Bool} {p : Nat → Int → Prop} (h : ∀ i x, f i x = true ↔ p i x) (l : List Int) : allB f l = true ↔ allTo p l l.length := by
  unfold allB allTo
  rw [List.all_eq_true]
  constructor
  · intro k i hi; exact (h _ _).1 (k i (List.mem_range.2 hi))
  · intro k i hi; exact (h _ _).2 (k i (List.mem_range.1 hi))
def nameB (l : List Int) : Bool := decide (1 ≤ l.length) && decide (l.length ≤ 8) && allB (fun i x => decide (97 ≤ x ∧ x ≤ 122) || decide (0 < i ∧ 48 ≤ x ∧ x ≤ 57)) l
theorem nameB_iff (l : List Int) : nameB l = true ↔ NameOk l := by
  unfold nameB NameOk
  rw [Bool.and_eq_true, Bool.and_eq_true, decide_eq_true_eq, decide_eq_true_eq, allB_iff (p := nameCh) (fun i x => by unfold nameCh; rw [Bool.or_eq_true, decide_eq_true_eq, decide_eq_true_eq]), and_assoc]
def textB (l : List Int) : Bool := decide (l.length ≤ 30) && allB (fun _ x => decide (32 ≤ x ∧ x ≤ 126)) l
theorem textB_iff (l : List Int) : textB l = true ↔ TextOk l := by
  unfold textB TextOk
  rw [Bool.and_eq_true, decide_eq_true_eq, allB_iff (p := textCh) (fun i x => by unfold textCh; rw [decide_eq_true_eq])]
def voidB (l : List Int) : Bool := decide (l = [98, 114]) || decide (l = [104, 114])
theorem voidB_iff (l : List Int) : voidB l = true ↔ Void l := by unfold voidB Void; rw [Bool.or_eq_true, decide_eq_true_eq, decide_eq_true_eq]
def attrB (l : List (List Int × List Int)) (i : Nat) : Bool := nameB (l.getD i ([], [])).1 && textB (l.getD i ([], [])).2 && (decide (i = 0) || lessB (l.getD (i - 1) ([], [])).1 (l.getD i ([], [])).1)
theorem attrB_iff (l : List (List Int × List Int)) (i : Nat) : attrB l i = true ↔ attrAt l i := by
  unfold attrB attrAt
  rw [Bool.and_eq_true, Bool.and_eq_true, nameB_iff, textB_iff, Bool.or_eq_true, decide_eq_true_eq, and_assoc]
  constructor
  · rintro ⟨h1, h2, h3⟩
    exact ⟨h1, h2, fun h => h3.resolve_left (by omega)⟩
  · rintro ⟨h1, h2, h3⟩
    refine ⟨h1, h2, ?_⟩
    by_cases h : i = 0
    · exact .inl h
    · exact .inr (h3 (by omega))
def attrsB (l : List (List Int × List Int)) : Bool := decide (l.length ≤ 4) && (List.range l.length).all (attrB l)
theorem attrsB_iff (l : List (List Int × List Int)) : attrsB l = true ↔ AttrsOk l := by
  unfold attrsB AttrsOk
  rw [Bool.and_eq_true, decide_eq_true_eq, List.all_eq_true]
  constructor
  · rintro ⟨h1, h2⟩; exact ⟨h1, fun i hi => (attrB_iff l i).1 (h2 i (List.mem_range.2 hi))⟩
  · rintro ⟨h1, h2⟩; exact ⟨h1, fun i hi => (attrB_iff l i).2 (h2 i (List.mem_range.1 hi))⟩

/-- A text alone. -/
def LeafOk {α : Type} (t : Nd α) : Prop := t.name.length = 0 ∧ t.attrs.length = 0 ∧ t.kids.length = 0 ∧ TextOk t.text
def leafB {α : Type} (t : Nd α) : Bool := decide (t.name.length = 0) && decide (t.attrs.length = 0) && decide (t.kids.length = 0) && textB t.text
theorem leafB_iff {α : Type} (t : Nd α) : leafB t = true ↔ LeafOk t := by
  unfold leafB LeafOk
  rw [Bool.and_eq_true, Bool.and_eq_true, Bool.and_eq_true, textB_iff, decide_eq_true_eq, decide_eq_true_eq, decide_eq_true_eq, and_assoc, and_assoc]
/-- An element, its kids aside. -/
def ElemOk {α : Type} (t : Nd α) : Prop := t.kind = 0 ∧ NameOk t.name ∧ t.text.length = 0 ∧ AttrsOk t.attrs ∧ ¬ (Void t.name ∧ 0 < t.kids.length)
def elemB {α : Type} (t : Nd α) : Bool := decide (t.kind = 0) && nameB t.name && decide (t.text.length = 0) && attrsB t.attrs && !(voidB t.name && decide (0 < t.kids.length))
theorem elemB_iff {α : Type} (t : Nd α) : elemB t = true ↔ ElemOk t := by
  unfold elemB ElemOk
  rw [Bool.and_eq_true, Bool.and_eq_true, Bool.and_eq_true, Bool.and_eq_true, nameB_iff, attrsB_iff, decide_eq_true_eq, decide_eq_true_eq, Bool.not_eq_true', ← Bool.not_eq_true, Bool.and_eq_true, voidB_iff, decide_eq_true_eq, and_assoc, and_assoc, and_assoc]

/-- May the tree be, 'deep' deep, where 'left' nodes are left? And how many are left then. -/
def okT : (n : Nat) → Int → Tr n → Int → Bool × Int
  | 0 => fun _ t _ => t.elim
  | n + 1 => fun deep t left => if left - 1 < 0 ∨ 20 < deep then (false, left - 1) else if t.kind = 1 then (leafB t, left - 1) else if elemB t = true then okK (okT n (deep + 1)) t.kids (left - 1) else (false, left - 1)

theorem okT_succ (n : Nat) (deep : Int) (t : Tr (n + 1)) (left : Int) : okT (n + 1) deep t left = if left - 1 < 0 ∨ 20 < deep then (false, left - 1) else if t.kind = 1 then (leafB t, left - 1) else if elemB t = true then okK (okT n (deep + 1)) t.kids (left - 1) else (false, left - 1) := rfl
theorem okK_drop {α : Type} {f : α → Int → Bool × Int} {l : List α} {k : Nat} {left : Int} (h : k < l.length) : okK f (l.drop k) left = if (f l[k] left).1 = true then okK f (l.drop (k + 1)) (f l[k] left).2 else (false, (f l[k] left).2) := by
  rw [List.drop_eq_getElem_cons h]; rfl
theorem okK_bound {α : Type} {f : α → Int → Bool × Int} (hf : ∀ x left, 0 ≤ left → -1 ≤ (f x left).2 ∧ (f x left).2 ≤ left ∧ ((f x left).1 = true → 0 ≤ (f x left).2)) (l : List α) (left : Int) (h0 : 0 ≤ left) : -1 ≤ (okK f l left).2 ∧ (okK f l left).2 ≤ left ∧ ((okK f l left).1 = true → 0 ≤ (okK f l left).2) := by
  induction l generalizing left with
  | nil => exact ⟨by simp [okK]; omega, by simp [okK], fun _ => by simpa [okK] using h0⟩
  | cons x r ih =>
    have h := hf x left h0
    rw [okK]
    by_cases hb : (f x left).1 = true
    · rw [if_pos hb]
      have := ih (f x left).2 (h.2.2 hb)
      exact ⟨this.1, by omega, this.2.2⟩
    · rw [if_neg hb]
      exact ⟨h.1, h.2.1, fun e => by cases e⟩
theorem okT_bound (n : Nat) (deep : Int) (t : Tr n) (left : Int) (h0 : 0 ≤ left) : -1 ≤ (okT n deep t left).2 ∧ (okT n deep t left).2 ≤ left ∧ ((okT n deep t left).1 = true → 0 ≤ (okT n deep t left).2) := by
  induction n generalizing deep left with
  | zero => exact t.elim
  | succ n ih =>
    unfold okT
    by_cases h1 : left - 1 < 0 ∨ 20 < deep
    · rw [if_pos h1]; exact ⟨by simp; omega, by simp; omega, fun e => by cases e⟩
    · rw [if_neg h1]
      by_cases h2 : t.kind = 1
      · rw [if_pos h2]; exact ⟨by simp; omega, by simp; omega, fun _ => by simp; omega⟩
      · rw [if_neg h2]
        by_cases h3 : elemB t = true
        · rw [if_pos h3]
          have := okK_bound (f := okT n (deep + 1)) (fun x l hl => ih (deep + 1) x l hl) t.kids (left - 1) (by omega)
          exact ⟨this.1, by omega, this.2.2⟩
        · rw [if_neg h3]; exact ⟨by simp; omega, by simp; omega, fun e => by cases e⟩

theorem voidS_yes (w : World) (v : Value) (l : List Int) (h : Byt w v l) (hn : Void l) : Calls Try.prog 50 #[v] w fun e w' => e = .returned (.bool true) ∧ w' = w := by
  refine (voidS_any w v l h).mono ?_
  rintro e w' ⟨rfl, h⟩
  exact ⟨by simp [hn], h⟩
theorem voidS_no (w : World) (v : Value) (l : List Int) (h : Byt w v l) (hn : ¬ Void l) : Calls Try.prog 50 #[v] w fun e w' => e = .returned (.bool false) ∧ w' = w := by
  refine (voidS_any w v l h).mono ?_
  rintro e w' ⟨rfl, h⟩
  exact ⟨by simp [hn], h⟩
theorem attrsS_yes (w : World) (v : Value) (l : List (List Int × List Int)) (h : RdAttrs w v l) (hn : AttrsOk l) : Calls Try.prog 49 #[v] w fun e w' => e = .returned (.bool true) ∧ Below w.heap.size w w' := by
  refine (attrsS_any w v l h).mono ?_
  rintro e w' ⟨rfl, h⟩
  exact ⟨by simp [hn], h⟩
theorem attrsS_no (w : World) (v : Value) (l : List (List Int × List Int)) (h : RdAttrs w v l) (hn : ¬ AttrsOk l) : Calls Try.prog 49 #[v] w fun e w' => e = .returned (.bool false) ∧ Below w.heap.size w w' := by
  refine (attrsS_any w v l h).mono ?_
  rintro e w' ⟨rfl, h⟩
  exact ⟨by simp [hn], h⟩

/-- What l2node does to a node of depth below n. -/
def L2nodeSaid (n : Nat) : Prop := ∀ (w0 w : World) (a b c d e : Value) (t : Tr n) (deep left : Int) (g : Nat), RdNode n w0 [a, b, c, d, e] t → Below w0.heap.size w0 w → w0.heap.size ≤ g → Loc w g #[.int .i64 left] 3 → 0 ≤ left → left ≤ 1000000 → 0 ≤ deep → deep ≤ 1000 →
    Calls Try.prog 26 #[.agg #[a, b, c, d, e], .int .i64 deep, .pointer (some ⟨g, 0, none⟩)] w fun e w' => e = .returned (.bool (okT n deep t left).1) ∧ Loc w' g #[.int .i64 (okT n deep t left).2] 3 ∧ Frm w w' [g]

/-- The world behind the first statement: one less left, the node in a block of its own. -/
theorem l2start (w : World) (g : Nat) (left x : Int) (A : Array Value) (T : TypeId) (h : Loc w g #[.int .i64 left] 3) : Loc ((w.setCell ⟨g, 0, none⟩ (.int .i64 x)).alloc (.cells A T)) g #[.int .i64 x] 3 ∧ Loc ((w.setCell ⟨g, 0, none⟩ (.int .i64 x)).alloc (.cells A T)) w.heap.size A T ∧ Frm w ((w.setCell ⟨g, 0, none⟩ (.int .i64 x)).alloc (.cells A T)) [g] := by
  refine ⟨(h.set 0 _).alloc _, ?_, (set_frm _ _ _ _).trans (Frm.ofBelow ((Below.refl _ _).alloc (Nat.le_refl _) _) [g])⟩
  have := Loc.made (w.setCell ⟨g, 0, none⟩ (.int .i64 x)) A T
  simpa using this

set_option maxHeartbeats 3200000 in
theorem l2node_succ (n : Nat) (H : L2nodeSaid n) : L2nodeSaid (n + 1) := by
  intro w0 w a b c d e t deep left g hr hB hg hl h0 h1 hd0 hd1
  have hr' := hr
  obtain ⟨_, _, _, _, e0, k1, k2, hb, hc, hd, he⟩ := hr
  simp only [List.cons.injEq, and_true] at e0
  obtain ⟨rfl, rfl, rfl, rfl, rfl⟩ := e0
  obtain ⟨ab, cb, rfl, _, _⟩ := hb.shape
  obtain ⟨ac, cc, rfl, _, _⟩ := hc.shape
  obtain ⟨ad, cd, rfl, _, _⟩ := Elems.shape hd
  obtain ⟨ae, ce, rfl, _, _⟩ := Elems.shape he
  obtain ⟨lg, lb, hf⟩ := l2start w g left (left - 1) #[.int .i64 t.kind, .slice ab t.name.length cb, .slice ac t.text.length cc, .slice ad t.attrs.length cd, .slice ae t.kids.length ce] 32 hl
  have hgl := hl.lt
  have hgc := hl.cell 0
  have hgf := hl.frozen 0
  simp at hgc
  have hne : w.heap.size ≠ g := by omega
  by_cases hA : left - 1 < 0
  · have HE := hide (show okT (n + 1) deep t left = (false, left - 1) by unfold okT; rw [if_pos (.inl hA)])
    have HP := hide (And.intro lg hf)
    clear lg lb hf hl
    go_enter Try.func26, Try.ntmps26
    go_wp2_with fail
    go_ret
    exact ⟨by rw [unhide HE]; rfl, by rw [unhide HE]; exact (unhide HP).1, (unhide HP).2⟩
  have hA' : decide (left - 1 < 0) = false := by simpa using hA
  by_cases hD : 20 < deep
  · have HE := hide (show okT (n + 1) deep t left = (false, left - 1) by unfold okT; rw [if_pos (.inr hD)])
    have HP := hide (And.intro lg hf)
    clear lg lb hf hl
    go_enter Try.func26, Try.ntmps26
    go_wp2_with fail
    go_ret
    exact ⟨by rw [unhide HE]; rfl, by rw [unhide HE]; exact (unhide HP).1, (unhide HP).2⟩
  have hD' : ¬ 20 < deep := hD
  have hBW := hB.trans (hf.below hB.size (fun q hq => by simp at hq; omega))
  by_cases hK : t.kind = 1
  · have hEq : okT (n + 1) deep t left = (leafB t, left - 1) := by unfold okT; rw [if_neg (by omega), if_pos hK]
    have dk : (t.kind == 1) = true := by simp [hK]
    have HP := hide (And.intro lg hf)
    have HBW := hide hBW
    clear lg lb hf hl hBW
    by_cases q1 : t.name.length = 0
    · have d1 : ((t.name.length : Int) == 0) = true := beq_iff_eq.2 (by omega)
      by_cases q2 : t.attrs.length = 0
      · have d2 : ((t.attrs.length : Int) == 0) = true := beq_iff_eq.2 (by omega)
        by_cases q3 : t.kids.length = 0
        · have d3 : ((t.kids.length : Int) == 0) = true := beq_iff_eq.2 (by omega)
          by_cases q4 : TextOk t.text
          · have HE := hide (hEq.trans (by rw [(leafB_iff t).2 ⟨q1, q2, q3, q4⟩] : (leafB t, left - 1) = (true, left - 1)))
            have HQ := hide q4
            clear hEq q1 q2 q3 q4 hK
            go_enter Try.func26, Try.ntmps26
            go_wp2_with fail
            refine (textS_yes _ _ t.text (hc.keep (unhide HBW)) (unhide HQ)).mono ?_
            rintro e w1 ⟨rfl, rfl⟩
            go_wp2_with fail
            go_ret
            exact ⟨by rw [unhide HE]; rfl, by rw [unhide HE]; exact (unhide HP).1, (unhide HP).2⟩
          · have HE := hide (hEq.trans (by rw [Bool.eq_false_iff.2 (fun h => q4 ((leafB_iff t).1 h).2.2.2)] : (leafB t, left - 1) = (false, left - 1)))
            have HQ := hide q4
            clear hEq q1 q2 q3 q4 hK
            go_enter Try.func26, Try.ntmps26
            go_wp2_with fail
            refine (textS_no _ _ t.text (hc.keep (unhide HBW)) (unhide HQ)).mono ?_
            rintro e w1 ⟨rfl, rfl⟩
            go_wp2_with fail
            go_ret
            exact ⟨by rw [unhide HE]; rfl, by rw [unhide HE]; exact (unhide HP).1, (unhide HP).2⟩
        · have d3 : ((t.kids.length : Int) == 0) = false := beq_eq_false_iff_ne.2 (by omega)
          have HE := hide (hEq.trans (by rw [Bool.eq_false_iff.2 (fun h => q3 ((leafB_iff t).1 h).2.2.1)] : (leafB t, left - 1) = (false, left - 1)))
          clear hEq q1 q2 q3 hK
          go_enter Try.func26, Try.ntmps26
          go_wp2_with fail
          go_ret
          exact ⟨by rw [unhide HE]; rfl, by rw [unhide HE]; exact (unhide HP).1, (unhide HP).2⟩
      · have d2 : ((t.attrs.length : Int) == 0) = false := beq_eq_false_iff_ne.2 (by omega)
        have HE := hide (hEq.trans (by rw [Bool.eq_false_iff.2 (fun h => q2 ((leafB_iff t).1 h).2.1)] : (leafB t, left - 1) = (false, left - 1)))
        clear hEq q1 q2 hK
        go_enter Try.func26, Try.ntmps26
        go_wp2_with fail
        go_ret
        exact ⟨by rw [unhide HE]; rfl, by rw [unhide HE]; exact (unhide HP).1, (unhide HP).2⟩
    · have d1 : ((t.name.length : Int) == 0) = false := beq_eq_false_iff_ne.2 (by omega)
      have HE := hide (hEq.trans (by rw [Bool.eq_false_iff.2 (fun h => q1 ((leafB_iff t).1 h).1)] : (leafB t, left - 1) = (false, left - 1)))
      clear hEq q1 hK
      go_enter Try.func26, Try.ntmps26
      go_wp2_with fail
      go_ret
      exact ⟨by rw [unhide HE]; rfl, by rw [unhide HE]; exact (unhide HP).1, (unhide HP).2⟩
  have dk : (t.kind == 1) = false := by simpa using hK
  have hbad : ¬ ElemOk t → okT (n + 1) deep t left = (false, left - 1) := fun h => by unfold okT; rw [if_neg (by omega), if_neg hK, if_neg (fun e => h ((elemB_iff t).1 e))]
  have hgood : ElemOk t → okT (n + 1) deep t left = okK (okT n (deep + 1)) t.kids (left - 1) := fun h => by rw [okT_succ, if_neg (by omega), if_neg hK, if_pos ((elemB_iff t).2 h)]
  have HP := hide (And.intro lg (And.intro lb hf))
  have HBW := hide hBW
  clear lg lb hf hl hBW hK
  by_cases z0 : t.kind = 0
  · have dz : (t.kind != 0) = false := by simp [z0]
    by_cases z1 : NameOk t.name
    · by_cases z2 : t.text.length = 0
      · by_cases z3 : AttrsOk t.attrs
        · have H1 := hide z1
          have H3 := hide z3
          by_cases z4 : Void t.name
          · have H4 := hide z4
            by_cases z5 : 0 < t.kids.length
            · have HE := hide (hbad (fun h => h.2.2.2.2 ⟨z4, z5⟩))
              clear hbad hgood z0 z1 z3 z4 hc hr' he
              generalize t.text.length = nT at *
              generalize t.kids.length = nK at *
              subst z2
              have hkd : decide (0 < nK) = true := by simp; omega
              go_enter Try.func26, Try.ntmps26
              go_wp2_with fail
              refine (nameS_yes _ _ t.name (hb.keep (unhide HBW)) (unhide H1)).mono ?_
              rintro e w1 ⟨rfl, rfl⟩
              go_wp2_with fail
              refine (attrsS_yes _ _ t.attrs (hd.keep (unhide HBW)) (unhide H3)).mono ?_
              rintro e w1 ⟨rfl, hB1⟩
              have lb := (unhide HP).2.1.all hB1
              have u1 := lb.cell 1
              have u4 := lb.cell 4
              simp at u1 u4
              have hBW1 := (unhide HBW).trans (hB1.mono (unhide HBW).size)
              have HQ := hide (And.intro ((unhide HP).1.all hB1) ((unhide HP).2.2.trans (Frm.ofBelow hB1 [g])))
              clear lb hB1
              go_wp2_with fail
              refine (voidS_yes _ _ t.name (hb.keep hBW1) (unhide H4)).mono ?_
              rintro e w2 ⟨rfl, rfl⟩
              go_wp2_with fail
              go_ret
              exact ⟨by rw [unhide HE]; rfl, by rw [unhide HE]; exact (unhide HQ).1, (unhide HQ).2⟩
            · have HE := hide (hgood ⟨z0, z1, z2, z3, fun h => z5 h.2⟩)
              have hk0 : t.kids.length = 0 := by omega
              have hke : t.kids = [] := List.eq_nil_of_length_eq_zero hk0
              have HK := hide (show okK (okT n (deep + 1)) t.kids (left - 1) = (true, left - 1) by rw [hke]; rfl)
              clear he z5 hke
              generalize t.kids.length = nK at *
              subst hk0
              clear hbad hgood z0 z1 z3 z4 hc hr'
              generalize t.text.length = nT at *
              subst z2
              go_enter Try.func26, Try.ntmps26
              go_wp2_with fail
              refine (nameS_yes _ _ t.name (hb.keep (unhide HBW)) (unhide H1)).mono ?_
              rintro e w1 ⟨rfl, rfl⟩
              go_wp2_with fail
              refine (attrsS_yes _ _ t.attrs (hd.keep (unhide HBW)) (unhide H3)).mono ?_
              rintro e w1 ⟨rfl, hB1⟩
              have lb := (unhide HP).2.1.all hB1
              have u1 := lb.cell 1
              have u4 := lb.cell 4
              simp at u1 u4
              have hBW1 := (unhide HBW).trans (hB1.mono (unhide HBW).size)
              have HQ := hide (And.intro ((unhide HP).1.all hB1) (And.intro lb ((unhide HP).2.2.trans (Frm.ofBelow hB1 [g]))))
              clear lb hB1
              go_wp2_with fail
              refine (voidS_yes _ _ t.name (hb.keep hBW1) (unhide H4)).mono ?_
              rintro e w2 ⟨rfl, rfl⟩
              go_wp2_with fail
              refine wp_loop_rounds 1 ?_
              rw [rounds_succ]
              go_wp2_with fail
              go_ret
              exact ⟨by rw [unhide HE, unhide HK]; rfl, by rw [unhide HE, unhide HK]; exact (unhide HQ).1, (unhide HQ).2.2⟩
          · have H4 := hide z4
            have HE := hide (hgood ⟨z0, z1, z2, z3, fun h => z4 h.1⟩)
            clear hbad hgood z0 z1 z3 z4 hc hr'
            generalize t.text.length = nT at *
            subst z2
            go_enter Try.func26, Try.ntmps26
            go_wp2_with fail
            refine (nameS_yes _ _ t.name (hb.keep (unhide HBW)) (unhide H1)).mono ?_
            rintro e w1 ⟨rfl, rfl⟩
            go_wp2_with fail
            refine (attrsS_yes _ _ t.attrs (hd.keep (unhide HBW)) (unhide H3)).mono ?_
            rintro e w1 ⟨rfl, hB1⟩
            have lb := (unhide HP).2.1.all hB1
            have u1 := lb.cell 1
            have u4 := lb.cell 4
            simp at u1 u4
            have hBW1 := (unhide HBW).trans (hB1.mono (unhide HBW).size)
            have HQ := hide (And.intro ((unhide HP).1.all hB1) (And.intro lb ((unhide HP).2.2.trans (Frm.ofBelow hB1 [g]))))
            clear lb hB1
            go_wp2_with fail
            refine (voidS_no _ _ t.name (hb.keep hBW1) (unhide H4)).mono ?_
            rintro e w2 ⟨rfl, rfl⟩
            go_wp2_with fail
            go_loopw [7] (fun i wr => ∃ (k : Nat) (lk : Int), k ≤ t.kids.length ∧ i = .int .i64 k ∧ 0 ≤ lk ∧ lk ≤ 1000000 ∧ Loc wr g #[.int .i64 lk] 3 ∧ Loc wr w.heap.size #[.int .i64 t.kind, .slice ab t.name.length cb, .slice ac 0 cc, .slice ad t.attrs.length cd, .slice ae t.kids.length ce] 32 ∧ Frm w wr [g] ∧ Hid (okK (okT n (deep + 1)) t.kids (left - 1) = okK (okT n (deep + 1)) (t.kids.drop k) lk)) (fun i _ => t.kids.length - (intOf i).toNat)
            case atStart => exact ⟨0, left - 1, Nat.zero_le _, rfl, by omega, by omega, (unhide HQ).1, (unhide HQ).2.1, (unhide HQ).2.2, hide rfl⟩
            case round =>
              obtain ⟨k, lk, hk, rfl, hl0, hl1, rg, rb, rf, HK⟩ := hrel
              have v4 := rb.cell 4
              simp at v4
              have hmk := Elems.shape he
              have hBr : Below w0.heap.size w0 wr := hB.trans (rf.below hB.size (fun q hq => by simp at hq; omega))
              by_cases hlt : k < t.kids.length
              · have hkm := he.1
                obtain ⟨_, ⟨_, e⟩ | ⟨_, _, _, _, e⟩ | ⟨b, off, cap, e, g1, g2, g3, g4, g5⟩⟩ := he
                · rw [e] at hlt; simp at hlt
                · rw [e] at hlt; simp at hlt
                simp only [Value.slice.injEq, true_and] at e
                obtain ⟨rfl, rfl⟩ := e
                obtain ⟨c0, c1, c2, c3, c4, e0, e1, e2, e3, e4, hx⟩ := five_of (g5 k hlt)
                replace e0 := (hBr.cell (p := ⟨b, off + k * 5, none⟩) g4).trans e0
                replace e1 := (hBr.cell (p := ⟨b, off + k * 5 + 1, none⟩) g4).trans e1
                replace e2 := (hBr.cell (p := ⟨b, off + k * 5 + 2, none⟩) g4).trans e2
                replace e3 := (hBr.cell (p := ⟨b, off + k * 5 + 3, none⟩) g4).trans e3
                replace e4 := (hBr.cell (p := ⟨b, off + k * 5 + 4, none⟩) g4).trans e4
                have hlt' : (k : Int) < (t.kids.length : Int) := by omega
                have hob := okT_bound n (deep + 1) t.kids[k] lk hl0
                have hkd := okK_drop (f := okT n (deep + 1)) (left := lk) hlt
                have HR := hide (And.intro rg (And.intro rb rf))
                have HKD := hide hkd
                have HOB := hide hob
                unfold maxLen at hkm
                clear g5 rg rb rf hkd hob HQ u1 u4
                go_wp2_with fail
                refine (H w0 wr c0 c1 c2 c3 c4 t.kids[k] (deep + 1) lk g hx hBr hg (unhide HR).1 hl0 hl1 (by omega) (by omega)).mono ?_
                rintro e w3 ⟨rfl, hg3, hf3⟩
                have rb3 := (unhide HR).2.1.frm hf3 (by simp; omega)
                have rf3 := (unhide HR).2.2.trans hf3
                have HR3 := hide (And.intro hg3 (And.intro rb3 rf3))
                clear hg3 hf3 rb3 rf3 e0 e1 e2 e3 e4 hx v4 HR
                generalize okT n (deep + 1) t.kids[k] lk = res at *
                obtain ⟨rb, rl⟩ := res
                cases rb with
                | true =>
                  have q1 : 0 ≤ rl := (unhide HOB).2.2 rfl
                  have q2 : rl ≤ lk := (unhide HOB).2.1
                  have HF := hide ((unhide HK).trans ((unhide HKD).trans (if_pos rfl)))
                  clear HOB HKD HK
                  go_wp2_with fail
                  go_roundw
                  case rel => exact ⟨k + 1, rl, by omega, by go_num, q1, by omega, (unhide HR3).1, (unhide HR3).2.1, (unhide HR3).2.2, HF⟩
                  case measure => simp [intOf]; omega
                | false =>
                  have HF := hide ((unhide HK).trans ((unhide HKD).trans (if_neg (by simp))))
                  go_wp2_with fail
                  go_ret
                  exact ⟨by rw [unhide HE, unhide HF]; rfl, by rw [unhide HE, unhide HF]; exact (unhide HR3).1, (unhide HR3).2.2⟩
              · have HF := hide ((unhide HK).trans (show okK (okT n (deep + 1)) (t.kids.drop k) lk = (true, lk) by rw [List.drop_of_length_le (by omega)]; rfl))
                have hlt' : ¬ (k : Int) < (t.kids.length : Int) := by omega
                have HR := hide (And.intro rg (And.intro rb rf))
                clear rg rb rf he HQ u1 u4 HK
                go_wp2_with fail
                go_ret
                exact ⟨by rw [unhide HE, unhide HF]; rfl, by rw [unhide HE, unhide HF]; exact (unhide HR).1, (unhide HR).2.2⟩
        · have HE := hide (hbad (fun h => z3 h.2.2.2.1))
          have H1 := hide z1
          have H3 := hide z3
          clear hbad hgood z0 z1 z3 hc hr'
          generalize t.text.length = nT at *
          subst z2
          go_enter Try.func26, Try.ntmps26
          go_wp2_with fail
          refine (nameS_yes _ _ t.name (hb.keep (unhide HBW)) (unhide H1)).mono ?_
          rintro e w1 ⟨rfl, rfl⟩
          go_wp2_with fail
          refine (attrsS_no _ _ t.attrs (hd.keep (unhide HBW)) (unhide H3)).mono ?_
          rintro e w1 ⟨rfl, hB1⟩
          go_wp2_with fail
          go_ret
          exact ⟨by rw [unhide HE]; rfl, by rw [unhide HE]; exact (unhide HP).1.all hB1, (unhide HP).2.2.trans (Frm.ofBelow hB1 [g])⟩
      · have HE := hide (hbad (fun h => z2 h.2.2.1))
        have H1 := hide z1
        clear hbad hgood z0 z1 hc hr'
        generalize t.text.length = nT at *
        have hkp : 0 < nT := by omega
        have hkd : decide (0 < nT) = true := by simp; omega
        clear z2
        go_enter Try.func26, Try.ntmps26
        go_wp2_with fail
        refine (nameS_yes _ _ t.name (hb.keep (unhide HBW)) (unhide H1)).mono ?_
        rintro e w1 ⟨rfl, rfl⟩
        go_wp2_with fail
        go_ret
        exact ⟨by rw [unhide HE]; rfl, by rw [unhide HE]; exact (unhide HP).1, (unhide HP).2.2⟩
    · have HE := hide (hbad (fun h => z1 h.2.1))
      have H1 := hide z1
      clear hbad hgood z0 z1
      go_enter Try.func26, Try.ntmps26
      go_wp2_with fail
      refine (nameS_no _ _ t.name (hb.keep (unhide HBW)) (unhide H1)).mono ?_
      rintro e w1 ⟨rfl, rfl⟩
      go_wp2_with fail
      go_ret
      exact ⟨by rw [unhide HE]; rfl, by rw [unhide HE]; exact (unhide HP).1, (unhide HP).2.2⟩
  · have dz : (t.kind != 0) = true := by simp [z0]
    have HE := hide (hbad (fun h => z0 h.1))
    clear hbad hgood z0
    go_enter Try.func26, Try.ntmps26
    go_wp2_with fail
    go_ret
    exact ⟨by rw [unhide HE]; rfl, by rw [unhide HE]; exact (unhide HP).1, (unhide HP).2.2⟩

theorem l2node_any (n : Nat) : L2nodeSaid n := by
  induction n with
  | zero => exact fun _ _ _ _ _ _ _ t => t.elim
  | succ n ih => exact l2node_succ n ih

/-- May the tree be. -/
def okN (n : Nat) (t : Tr (n + 1)) : Bool := decide (t.kind = 0) && (okT (n + 1) 1 t 120).1

set_option maxHeartbeats 1600000 in
/-- spec.NodeOk. -/
theorem nodeS_any (n : Nat) (w : World) (a b c d e : Value) (t : Tr (n + 1)) (h : RdNode (n + 1) w [a, b, c, d, e] t) :
    Calls Try.prog 8 #[.agg #[a, b, c, d, e]] w fun e w' => e = .returned (.bool (okN n t)) ∧ Below w.heap.size w w' := by
  have h' := h
  obtain ⟨_, _, _, _, e0, k1, k2, hb, hc, hd, he⟩ := h
  simp only [List.cons.injEq, and_true] at e0
  obtain ⟨rfl, rfl, rfl, rfl, rfl⟩ := e0
  obtain ⟨ab, cb, rfl, _, _⟩ := hb.shape
  obtain ⟨ac, cc, rfl, _, _⟩ := hc.shape
  obtain ⟨ad, cd, rfl, _, _⟩ := Elems.shape hd
  obtain ⟨ae, ce, rfl, _, _⟩ := Elems.shape he
  have hA : Below w.heap.size w ((w.alloc (.cells #[.int .i64 t.kind, .slice ab t.name.length cb, .slice ac t.text.length cc, .slice ad t.attrs.length cd, .slice ae t.kids.length ce] 32)).alloc (.cells #[.int .i64 120] 3)) := ((Below.refl _ _).alloc (Nat.le_refl _) _).alloc (by simp) _
  have lg := Loc.made (w.alloc (.cells #[.int .i64 t.kind, .slice ab t.name.length cb, .slice ac t.text.length cc, .slice ad t.attrs.length cd, .slice ae t.kids.length ce] 32)) #[.int .i64 120] 3
  simp only [World.size_alloc] at lg
  by_cases hk : t.kind = 0
  · have dk : (t.kind == 0) = true := by simp [hk]
    have HE := hide (show okN n t = (okT (n + 1) 1 t 120).1 by unfold okN; simp [hk])
    have HP := hide (And.intro hA lg)
    clear hA lg hk
    go_enter Try.func8, Try.ntmps8
    go_wp2_with fail
    refine (l2node_any (n + 1) w _ _ _ _ _ _ t 1 120 (w.heap.size + 1) h' (unhide HP).1 (by omega) (unhide HP).2 (by omega) (by omega) (by omega) (by omega)).mono ?_
    rintro e w1 ⟨rfl, hg1, hf1⟩
    have HB := hide ((unhide HP).1.trans (hf1.below (unhide HP).1.size (fun q hq => by simp at hq; omega)))
    clear hg1 hf1
    go_wp2_with fail
    go_ret
    exact ⟨by rw [unhide HE]; rfl, unhide HB⟩
  · have dk : (t.kind == 0) = false := by simpa using hk
    have HE := hide (show okN n t = false by unfold okN; simp [hk])
    have HP := hide hA
    clear hA lg hk
    go_enter Try.func8, Try.ntmps8
    go_wp2_with fail
    go_ret
    exact ⟨by rw [unhide HE]; rfl, unhide HP⟩

end Go.Proofs.Yteioihjgjbjmjaa
