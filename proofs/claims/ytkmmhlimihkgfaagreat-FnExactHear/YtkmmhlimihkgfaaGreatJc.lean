/- Own texts joined: NodeS, RootB, RepT, Mark, Tool, MarkA, MarkM, MarkN, MarkT, HeldA, HeldN, HeldT, MarkZ, MarkOsM. -/
import Derived.Test.YtkmmhlimihkgfaaGreatJa
import Derived.Test.YtkmmhlimihkgfaaGreatJb
import Derived.Test.YtkmmhlimihkgfaaGreatChecked

/- spec.l2node and spec.NodeOk answer what the plain test says. -/
namespace Go.Proofs.YtkmmhlimihkgfaaGreat
open Go.RowKit
set_option linter.unusedVariables false

/-- The test of one, of all members, each with what the one before left. -/
def okK {α : Type} (f : α → Int → Bool × Int) : List α → Int → Bool × Int
  | [], left => (true, left)
  | x :: r, left => if (f x left).1 = true then okK f r (f x left).2 else (false, (f x left).2)

def voidB (l : List Int) : Bool := decide (l = [98, 114]) || decide (l = [104, 114])
theorem voidB_iff (l : List Int) : voidB l = true ↔ Void l := by unfold voidB Void; rw [Bool.or_eq_true, decide_eq_true_eq, decide_eq_true_eq]
def attrB (l : List (List Int × List Int)) (i : Nat) : Bool := nameB (l.getD i ([], [])).1 && textB (l.getD i ([], [])).2 && (decide (i = 0) || lessT (l.getD (i - 1) ([], [])).1 (l.getD i ([], [])).1)
theorem attrB_iff (l : List (List Int × List Int)) (i : Nat) : attrB l i = true ↔ attrAt l i := by
  unfold attrB attrAt
  rw [Bool.and_eq_true, Bool.and_eq_true, nameB_iff, textB_iff, Bool.or_eq_true, decide_eq_true_eq, and_assoc]
  constructor
  · rintro ⟨h1, h2, h3⟩
    exact ⟨h1, h2, fun h => h3.resolve_left (by omega)⟩
  · rintro ⟨h1, h2, h3⟩
    refine ⟨h1, h2, ?_⟩
    by_cases h : i = 0
    · exact .inl h
    · exact .inr (h3 (by omega))
def attrsB (l : List (List Int × List Int)) : Bool := decide (l.length ≤ 4) && (List.range l.length).all (attrB l)
theorem attrsB_iff (l : List (List Int × List Int)) : attrsB l = true ↔ AttrsOk l := by
  unfold attrsB AttrsOk
  rw [Bool.and_eq_true, decide_eq_true_eq, List.all_eq_true]
  constructor
  · rintro ⟨h1, h2⟩; exact ⟨h1, fun i hi => (attrB_iff l i).1 (h2 i (List.mem_range.2 hi))⟩
  · rintro ⟨h1, h2⟩; exact ⟨h1, fun i hi => (attrB_iff l i).2 (h2 i (List.mem_range.1 hi))⟩

/-- A text alone. -/
def LeafOk {α : Type} (t : Nd α) : Prop := t.name.length = 0 ∧ t.attrs.length = 0 ∧ t.kids.length = 0 ∧ TextOk t.text
def leafB {α : Type} (t : Nd α) : Bool := decide (t.name.length = 0) && decide (t.attrs.length = 0) && decide (t.kids.length = 0) && textB t.text
theorem leafB_iff {α : Type} (t : Nd α) : leafB t = true ↔ LeafOk t := by
  unfold leafB LeafOk
  rw [Bool.and_eq_true, Bool.and_eq_true, Bool.and_eq_true, textB_iff, decide_eq_true_eq, decide_eq_true_eq, decide_eq_true_eq, and_assoc, and_assoc]
/-- An element, its kids aside. -/
def ElemOk {α : Type} (t : Nd α) : Prop := t.kind = 0 ∧ NameOk t.name ∧ t.text.length = 0 ∧ AttrsOk t.attrs ∧ ¬ (Void t.name ∧ 0 < t.kids.length)
def elemB {α : Type} (t : Nd α) : Bool := decide (t.kind = 0) && nameB t.name && decide (t.text.length = 0) && attrsB t.attrs && !(voidB t.name && decide (0 < t.kids.length))
theorem elemB_iff {α : Type} (t : Nd α) : elemB t = true ↔ ElemOk t := by
  unfold elemB ElemOk
  rw [Bool.and_eq_true, Bool.and_eq_true, Bool.and_eq_true, Bool.and_eq_true, nameB_iff, attrsB_iff, decide_eq_true_eq, decide_eq_true_eq, Bool.not_eq_true', ← Bool.not_eq_true, Bool.and_eq_true, voidB_iff, decide_eq_true_eq, and_assoc, and_assoc, and_assoc]

/-- May the tree be, 'deep' deep, where 'left' nodes are left? And how many are left then. -/
def okT : (n : Nat) → Int → Tr n → Int → Bool × Int
  | 0 => fun _ t _ => t.elim
  | n + 1 => fun deep t left => if left - 1 < 0 ∨ 20 < deep then (false, left - 1) else if t.kind = 1 then (leafB t, left - 1) else if elemB t = true then okK (okT n (deep + 1)) t.kids (left - 1) else (false, left - 1)

theorem okT_succ (n : Nat) (deep : Int) (t : Tr (n + 1)) (left : Int) : okT (n + 1) deep t left = if left - 1 < 0 ∨ 20 < deep then (false, left - 1) else if t.kind = 1 then (leafB t, left - 1) else if elemB t = true then okK (okT n (deep + 1)) t.kids (left - 1) else (false, left - 1) := rfl
theorem okK_drop {α : Type} {f : α → Int → Bool × Int} {l : List α} {k : Nat} {left : Int} (h : k < l.length) : okK f (l.drop k) left = if (f l[k] left).1 = true then okK f (l.drop (k + 1)) (f l[k] left).2 else (false, (f l[k] left).2) := by
  rw [List.drop_eq_getElem_cons h]; rfl
theorem okK_bound {α : Type} {f : α → Int → Bool × Int} (hf : ∀ x left, 0 ≤ left → -1 ≤ (f x left).2 ∧ (f x left).2 ≤ left ∧ ((f x left).1 = true → 0 ≤ (f x left).2)) (l : List α) (left : Int) (h0 : 0 ≤ left) : -1 ≤ (okK f l left).2 ∧ (okK f l left).2 ≤ left ∧ ((okK f l left).1 = true → 0 ≤ (okK f l left).2) := by
  induction l generalizing left with
  | nil => exact ⟨by simp [okK]; omega, by simp [okK], fun _ => by simpa [okK] using h0⟩
  | cons x r ih =>
    have h := hf x left h0
    rw [okK]
    by_cases hb : (f x left).1 = true
    · rw [if_pos hb]
      have := ih (f x left).2 (h.2.2 hb)
      exact ⟨this.1, by omega, this.2.2⟩
    · rw [if_neg hb]
      exact ⟨h.1, h.2.1, fun e => by cases e⟩
theorem okT_bound (n : Nat) (deep : Int) (t : Tr n) (left : Int) (h0 : 0 ≤ left) : -1 ≤ (okT n deep t left).2 ∧ (okT n deep t left).2 ≤ left ∧ ((okT n deep t left).1 = true → 0 ≤ (okT n deep t left).2) := by
  induction n generalizing deep left with
  | zero => exact t.elim
  | succ n ih =>
    unfold okT
    by_cases h1 : left - 1 < 0 ∨ 20 < deep
    · rw [if_pos h1]; exact ⟨by simp; omega, by simp; omega, fun e => by cases e⟩
    · rw [if_neg h1]
      by_cases h2 : t.kind = 1
      · rw [if_pos h2]; exact ⟨by simp; omega, by simp; omega, fun _ => by simp; omega⟩
      · rw [if_neg h2]
        by_cases h3 : elemB t = true
        · rw [if_pos h3]
          have := okK_bound (f := okT n (deep + 1)) (fun x l hl => ih (deep + 1) x l hl) t.kids (left - 1) (by omega)
          exact ⟨this.1, by omega, this.2.2⟩
        · rw [if_neg h3]; exact ⟨by simp; omega, by simp; omega, fun e => by cases e⟩

theorem voidS_yes (w : World) (v : Value) (l : List Int) (h : Byt w v l) (hn : Void l) : Calls Tryz.prog 98 #[v] w fun e w' => e = .returned (.bool true) ∧ w' = w := by
  refine (voidS_any w v l h).mono ?_
  rintro e w' ⟨rfl, h⟩
  exact ⟨by simp [hn], h⟩
theorem voidS_no (w : World) (v : Value) (l : List Int) (h : Byt w v l) (hn : ¬ Void l) : Calls Tryz.prog 98 #[v] w fun e w' => e = .returned (.bool false) ∧ w' = w := by
  refine (voidS_any w v l h).mono ?_
  rintro e w' ⟨rfl, h⟩
  exact ⟨by simp [hn], h⟩
theorem attrsS_yes (w : World) (v : Value) (l : List (List Int × List Int)) (h : RdAttrs w v l) (hn : AttrsOk l) : Calls Tryz.prog 146 #[v] w fun e w' => e = .returned (.bool true) ∧ Below w.heap.size w w' := by
  refine (attrsS_any w v l h).mono ?_
  rintro e w' ⟨rfl, h⟩
  exact ⟨by simp [hn], h⟩
theorem attrsS_no (w : World) (v : Value) (l : List (List Int × List Int)) (h : RdAttrs w v l) (hn : ¬ AttrsOk l) : Calls Tryz.prog 146 #[v] w fun e w' => e = .returned (.bool false) ∧ Below w.heap.size w w' := by
  refine (attrsS_any w v l h).mono ?_
  rintro e w' ⟨rfl, h⟩
  exact ⟨by simp [hn], h⟩

/-- What l2node does to a node of depth below n. -/
def L2nodeSaid (n : Nat) : Prop := ∀ (w0 w : World) (a b c d e : Value) (t : Tr n) (deep left : Int) (g : Nat), RdNode n w0 [a, b, c, d, e] t → Below w0.heap.size w0 w → w0.heap.size ≤ g → Loc w g #[.int .i64 left] 3 → 0 ≤ left → left ≤ 1000000 → 0 ≤ deep → deep ≤ 1000 →
    Calls Tryz.prog 133 #[.agg #[a, b, c, d, e], .int .i64 deep, .pointer (some ⟨g, 0, none⟩)] w fun e w' => e = .returned (.bool (okT n deep t left).1) ∧ Loc w' g #[.int .i64 (okT n deep t left).2] 3 ∧ Frm w w' [g]

/-- The world behind the first statement: one less left, the node in a block of its own. -/
theorem l2start (w : World) (g : Nat) (left x : Int) (A : Array Value) (T : TypeId) (h : Loc w g #[.int .i64 left] 3) : Loc ((w.setCell ⟨g, 0, none⟩ (.int .i64 x)).alloc (.cells A T)) g #[.int .i64 x] 3 ∧ Loc ((w.setCell ⟨g, 0, none⟩ (.int .i64 x)).alloc (.cells A T)) w.heap.size A T ∧ Frm w ((w.setCell ⟨g, 0, none⟩ (.int .i64 x)).alloc (.cells A T)) [g] := by
  refine ⟨(h.set 0 _).alloc _, ?_, (set_frm _ _ _ _).trans (Frm.ofBelow ((Below.refl _ _).alloc (Nat.le_refl _) _) [g])⟩
  have := Loc.made (w.setCell ⟨g, 0, none⟩ (.int .i64 x)) A T
  simpa using this

set_option maxHeartbeats 3200000 in
theorem l2node_succ (n : Nat) (H : L2nodeSaid n) : L2nodeSaid (n + 1) := by
  intro w0 w a b c d e t deep left g hr hB hg hl h0 h1 hd0 hd1
  have hr' := hr
  obtain ⟨_, _, _, _, e0, k1, k2, hb, hc, hd, he⟩ := hr
  simp only [List.cons.injEq, and_true] at e0
  obtain ⟨rfl, rfl, rfl, rfl, rfl⟩ := e0
  obtain ⟨ab, cb, rfl, _, _⟩ := hb.shape
  obtain ⟨ac, cc, rfl, _, _⟩ := hc.shape
  obtain ⟨ad, cd, rfl, _, _⟩ := Elems.shape hd
  obtain ⟨ae, ce, rfl, _, _⟩ := Elems.shape he
  obtain ⟨lg, lb, hf⟩ := l2start w g left (left - 1) #[.int .i64 t.kind, .slice ab t.name.length cb, .slice ac t.text.length cc, .slice ad t.attrs.length cd, .slice ae t.kids.length ce] 61 hl
  have hgl := hl.lt
  have hgc := hl.cell 0
  have hgf := hl.frozen 0
  simp at hgc
  have hne : w.heap.size ≠ g := by omega
  by_cases hA : left - 1 < 0
  · have HE := hide (show okT (n + 1) deep t left = (false, left - 1) by unfold okT; rw [if_pos (.inl hA)])
    have HP := hide (And.intro lg hf)
    clear lg lb hf hl
    go_enter Tryz.func133, Tryz.ntmps133
    go_wp2_with fail
    go_ret
    exact ⟨by rw [unhide HE]; rfl, by rw [unhide HE]; exact (unhide HP).1, (unhide HP).2⟩
  have hA' : decide (left - 1 < 0) = false := by simpa using hA
  by_cases hD : 20 < deep
  · have HE := hide (show okT (n + 1) deep t left = (false, left - 1) by unfold okT; rw [if_pos (.inr hD)])
    have HP := hide (And.intro lg hf)
    clear lg lb hf hl
    go_enter Tryz.func133, Tryz.ntmps133
    go_wp2_with fail
    go_ret
    exact ⟨by rw [unhide HE]; rfl, by rw [unhide HE]; exact (unhide HP).1, (unhide HP).2⟩
  have hD' : ¬ 20 < deep := hD
  have hBW := hB.trans (hf.below hB.size (fun q hq => by simp at hq; omega))
  by_cases hK : t.kind = 1
  · have hEq : okT (n + 1) deep t left = (leafB t, left - 1) := by unfold okT; rw [if_neg (by omega), if_pos hK]
    have dk : (t.kind == 1) = true := by simp [hK]
    have HP := hide (And.intro lg hf)
    have HBW := hide hBW
    clear lg lb hf hl hBW
    by_cases q1 : t.name.length = 0
    · have d1 : ((t.name.length : Int) == 0) = true := beq_iff_eq.2 (by omega)
      by_cases q2 : t.attrs.length = 0
      · have d2 : ((t.attrs.length : Int) == 0) = true := beq_iff_eq.2 (by omega)
        by_cases q3 : t.kids.length = 0
        · have d3 : ((t.kids.length : Int) == 0) = true := beq_iff_eq.2 (by omega)
          by_cases q4 : TextOk t.text
          · have HE := hide (hEq.trans (by rw [(leafB_iff t).2 ⟨q1, q2, q3, q4⟩] : (leafB t, left - 1) = (true, left - 1)))
            have HQ := hide q4
            clear hEq q1 q2 q3 q4 hK
            go_enter Tryz.func133, Tryz.ntmps133
            go_wp2_with fail
            refine (textS_yes _ _ t.text (hc.keep (unhide HBW)) (unhide HQ)).mono ?_
            rintro e w1 ⟨rfl, rfl⟩
            go_wp2_with fail
            go_ret
            exact ⟨by rw [unhide HE]; rfl, by rw [unhide HE]; exact (unhide HP).1, (unhide HP).2⟩
          · have HE := hide (hEq.trans (by rw [Bool.eq_false_iff.2 (fun h => q4 ((leafB_iff t).1 h).2.2.2)] : (leafB t, left - 1) = (false, left - 1)))
            have HQ := hide q4
            clear hEq q1 q2 q3 q4 hK
            go_enter Tryz.func133, Tryz.ntmps133
            go_wp2_with fail
            refine (textS_no _ _ t.text (hc.keep (unhide HBW)) (unhide HQ)).mono ?_
            rintro e w1 ⟨rfl, rfl⟩
            go_wp2_with fail
            go_ret
            exact ⟨by rw [unhide HE]; rfl, by rw [unhide HE]; exact (unhide HP).1, (unhide HP).2⟩
        · have d3 : ((t.kids.length : Int) == 0) = false := beq_eq_false_iff_ne.2 (by omega)
          have HE := hide (hEq.trans (by rw [Bool.eq_false_iff.2 (fun h => q3 ((leafB_iff t).1 h).2.2.1)] : (leafB t, left - 1) = (false, left - 1)))
          clear hEq q1 q2 q3 hK
          go_enter Tryz.func133, Tryz.ntmps133
          go_wp2_with fail
          go_ret
          exact ⟨by rw [unhide HE]; rfl, by rw [unhide HE]; exact (unhide HP).1, (unhide HP).2⟩
      · have d2 : ((t.attrs.length : Int) == 0) = false := beq_eq_false_iff_ne.2 (by omega)
        have HE := hide (hEq.trans (by rw [Bool.eq_false_iff.2 (fun h => q2 ((leafB_iff t).1 h).2.1)] : (leafB t, left - 1) = (false, left - 1)))
        clear hEq q1 q2 hK
        go_enter Tryz.func133, Tryz.ntmps133
        go_wp2_with fail
        go_ret
        exact ⟨by rw [unhide HE]; rfl, by rw [unhide HE]; exact (unhide HP).1, (unhide HP).2⟩
    · have d1 : ((t.name.length : Int) == 0) = false := beq_eq_false_iff_ne.2 (by omega)
      have HE := hide (hEq.trans (by rw [Bool.eq_false_iff.2 (fun h => q1 ((leafB_iff t).1 h).1)] : (leafB t, left - 1) = (false, left - 1)))
      clear hEq q1 hK
      go_enter Tryz.func133, Tryz.ntmps133
      go_wp2_with fail
      go_ret
      exact ⟨by rw [unhide HE]; rfl, by rw [unhide HE]; exact (unhide HP).1, (unhide HP).2⟩
  have dk : (t.kind == 1) = false := by simpa using hK
  have hbad : ¬ ElemOk t → okT (n + 1) deep t left = (false, left - 1) := fun h => by unfold okT; rw [if_neg (by omega), if_neg hK, if_neg (fun e => h ((elemB_iff t).1 e))]
  have hgood : ElemOk t → okT (n + 1) deep t left = okK (okT n (deep + 1)) t.kids (left - 1) := fun h => by rw [okT_succ, if_neg (by omega), if_neg hK, if_pos ((elemB_iff t).2 h)]
  have HP := hide (And.intro lg (And.intro lb hf))
  have HBW := hide hBW
  clear lg lb hf hl hBW hK
  by_cases z0 : t.kind = 0
  · have dz : (t.kind != 0) = false := by simp [z0]
    by_cases z1 : NameOk t.name
    · by_cases z2 : t.text.length = 0
      · by_cases z3 : AttrsOk t.attrs
        · have H1 := hide z1
          have H3 := hide z3
          by_cases z4 : Void t.name
          · have H4 := hide z4
            by_cases z5 : 0 < t.kids.length
            · have HE := hide (hbad (fun h => h.2.2.2.2 ⟨z4, z5⟩))
              clear hbad hgood z0 z1 z3 z4 hc hr' he
              generalize t.text.length = nT at *
              generalize t.kids.length = nK at *
              subst z2
              have hkd : decide (0 < nK) = true := by simp; omega
              go_enter Tryz.func133, Tryz.ntmps133
              go_wp2_with fail
              refine (nameS_yes _ _ t.name (hb.keep (unhide HBW)) (unhide H1)).mono ?_
              rintro e w1 ⟨rfl, rfl⟩
              go_wp2_with fail
              refine (attrsS_yes _ _ t.attrs (hd.keep (unhide HBW)) (unhide H3)).mono ?_
              rintro e w1 ⟨rfl, hB1⟩
              have lb := (unhide HP).2.1.all hB1
              have u1 := lb.cell 1
              have u4 := lb.cell 4
              simp at u1 u4
              have hBW1 := (unhide HBW).trans (hB1.mono (unhide HBW).size)
              have HQ := hide (And.intro ((unhide HP).1.all hB1) ((unhide HP).2.2.trans (Frm.ofBelow hB1 [g])))
              clear lb hB1
              go_wp2_with fail
              refine (voidS_yes _ _ t.name (hb.keep hBW1) (unhide H4)).mono ?_
              rintro e w2 ⟨rfl, rfl⟩
              go_wp2_with fail
              go_ret
              exact ⟨by rw [unhide HE]; rfl, by rw [unhide HE]; exact (unhide HQ).1, (unhide HQ).2⟩
            · have HE := hide (hgood ⟨z0, z1, z2, z3, fun h => z5 h.2⟩)
              have hk0 : t.kids.length = 0 := by omega
              have hke : t.kids = [] := List.eq_nil_of_length_eq_zero hk0
              have HK := hide (show okK (okT n (deep + 1)) t.kids (left - 1) = (true, left - 1) by rw [hke]; rfl)
              clear he z5 hke
              generalize t.kids.length = nK at *
              subst hk0
              clear hbad hgood z0 z1 z3 z4 hc hr'
              generalize t.text.length = nT at *
              subst z2
              go_enter Tryz.func133, Tryz.ntmps133
              go_wp2_with fail
              refine (nameS_yes _ _ t.name (hb.keep (unhide HBW)) (unhide H1)).mono ?_
              rintro e w1 ⟨rfl, rfl⟩
              go_wp2_with fail
              refine (attrsS_yes _ _ t.attrs (hd.keep (unhide HBW)) (unhide H3)).mono ?_
              rintro e w1 ⟨rfl, hB1⟩
              have lb := (unhide HP).2.1.all hB1
              have u1 := lb.cell 1
              have u4 := lb.cell 4
              simp at u1 u4
              have hBW1 := (unhide HBW).trans (hB1.mono (unhide HBW).size)
              have HQ := hide (And.intro ((unhide HP).1.all hB1) (And.intro lb ((unhide HP).2.2.trans (Frm.ofBelow hB1 [g]))))
              clear lb hB1
              go_wp2_with fail
              refine (voidS_yes _ _ t.name (hb.keep hBW1) (unhide H4)).mono ?_
              rintro e w2 ⟨rfl, rfl⟩
              go_wp2_with fail
              refine wp_loop_rounds 1 ?_
              rw [rounds_succ]
              go_wp2_with fail
              go_ret
              exact ⟨by rw [unhide HE, unhide HK]; rfl, by rw [unhide HE, unhide HK]; exact (unhide HQ).1, (unhide HQ).2.2⟩
          · have H4 := hide z4
            have HE := hide (hgood ⟨z0, z1, z2, z3, fun h => z4 h.1⟩)
            clear hbad hgood z0 z1 z3 z4 hc hr'
            generalize t.text.length = nT at *
            subst z2
            go_enter Tryz.func133, Tryz.ntmps133
            go_wp2_with fail
            refine (nameS_yes _ _ t.name (hb.keep (unhide HBW)) (unhide H1)).mono ?_
            rintro e w1 ⟨rfl, rfl⟩
            go_wp2_with fail
            refine (attrsS_yes _ _ t.attrs (hd.keep (unhide HBW)) (unhide H3)).mono ?_
            rintro e w1 ⟨rfl, hB1⟩
            have lb := (unhide HP).2.1.all hB1
            have u1 := lb.cell 1
            have u4 := lb.cell 4
            simp at u1 u4
            have hBW1 := (unhide HBW).trans (hB1.mono (unhide HBW).size)
            have HQ := hide (And.intro ((unhide HP).1.all hB1) (And.intro lb ((unhide HP).2.2.trans (Frm.ofBelow hB1 [g]))))
            clear lb hB1
            go_wp2_with fail
            refine (voidS_no _ _ t.name (hb.keep hBW1) (unhide H4)).mono ?_
            rintro e w2 ⟨rfl, rfl⟩
            go_wp2_with fail
            go_loopw [7] (fun i wr => ∃ (k : Nat) (lk : Int), k ≤ t.kids.length ∧ i = .int .i64 k ∧ 0 ≤ lk ∧ lk ≤ 1000000 ∧ Loc wr g #[.int .i64 lk] 3 ∧ Loc wr w.heap.size #[.int .i64 t.kind, .slice ab t.name.length cb, .slice ac 0 cc, .slice ad t.attrs.length cd, .slice ae t.kids.length ce] 61 ∧ Frm w wr [g] ∧ Hid (okK (okT n (deep + 1)) t.kids (left - 1) = okK (okT n (deep + 1)) (t.kids.drop k) lk)) (fun i _ => t.kids.length - (intOf i).toNat)
            case atStart => exact ⟨0, left - 1, Nat.zero_le _, rfl, by omega, by omega, (unhide HQ).1, (unhide HQ).2.1, (unhide HQ).2.2, hide rfl⟩
            case round =>
              obtain ⟨k, lk, hk, rfl, hl0, hl1, rg, rb, rf, HK⟩ := hrel
              have v4 := rb.cell 4
              simp at v4
              have hmk := Elems.shape he
              have hBr : Below w0.heap.size w0 wr := hB.trans (rf.below hB.size (fun q hq => by simp at hq; omega))
              by_cases hlt : k < t.kids.length
              · have hkm := he.1
                obtain ⟨_, ⟨_, e⟩ | ⟨_, _, _, _, e⟩ | ⟨b, off, cap, e, g1, g2, g3, g4, g5⟩⟩ := he
                · rw [e] at hlt; simp at hlt
                · rw [e] at hlt; simp at hlt
                simp only [Value.slice.injEq, true_and] at e
                obtain ⟨rfl, rfl⟩ := e
                obtain ⟨c0, c1, c2, c3, c4, e0, e1, e2, e3, e4, hx⟩ := five_of (g5 k hlt)
                replace e0 := (hBr.cell (p := ⟨b, off + k * 5, none⟩) g4).trans e0
                replace e1 := (hBr.cell (p := ⟨b, off + k * 5 + 1, none⟩) g4).trans e1
                replace e2 := (hBr.cell (p := ⟨b, off + k * 5 + 2, none⟩) g4).trans e2
                replace e3 := (hBr.cell (p := ⟨b, off + k * 5 + 3, none⟩) g4).trans e3
                replace e4 := (hBr.cell (p := ⟨b, off + k * 5 + 4, none⟩) g4).trans e4
                have hlt' : (k : Int) < (t.kids.length : Int) := by omega
                have hob := okT_bound n (deep + 1) t.kids[k] lk hl0
                have hkd := okK_drop (f := okT n (deep + 1)) (left := lk) hlt
                have HR := hide (And.intro rg (And.intro rb rf))
                have HKD := hide hkd
                have HOB := hide hob
                unfold maxLen at hkm
                clear g5 rg rb rf hkd hob HQ u1 u4
                go_wp2_with fail
                refine (H w0 wr c0 c1 c2 c3 c4 t.kids[k] (deep + 1) lk g hx hBr hg (unhide HR).1 hl0 hl1 (by omega) (by omega)).mono ?_
                rintro e w3 ⟨rfl, hg3, hf3⟩
                have rb3 := (unhide HR).2.1.frm hf3 (by simp; omega)
                have rf3 := (unhide HR).2.2.trans hf3
                have HR3 := hide (And.intro hg3 (And.intro rb3 rf3))
                clear hg3 hf3 rb3 rf3 e0 e1 e2 e3 e4 hx v4 HR
                generalize okT n (deep + 1) t.kids[k] lk = res at *
                obtain ⟨rb, rl⟩ := res
                cases rb with
                | true =>
                  have q1 : 0 ≤ rl := (unhide HOB).2.2 rfl
                  have q2 : rl ≤ lk := (unhide HOB).2.1
                  have HF := hide ((unhide HK).trans ((unhide HKD).trans (if_pos rfl)))
                  clear HOB HKD HK
                  go_wp2_with fail
                  go_roundw
                  case rel => exact ⟨k + 1, rl, by omega, by go_num, q1, by omega, (unhide HR3).1, (unhide HR3).2.1, (unhide HR3).2.2, HF⟩
                  case measure => simp [intOf]; omega
                | false =>
                  have HF := hide ((unhide HK).trans ((unhide HKD).trans (if_neg (by simp))))
                  go_wp2_with fail
                  go_ret
                  exact ⟨by rw [unhide HE, unhide HF]; rfl, by rw [unhide HE, unhide HF]; exact (unhide HR3).1, (unhide HR3).2.2⟩
              · have HF := hide ((unhide HK).trans (show okK (okT n (deep + 1)) (t.kids.drop k) lk = (true, lk) by rw [List.drop_of_length_le (by omega)]; rfl))
                have hlt' : ¬ (k : Int) < (t.kids.length : Int) := by omega
                have HR := hide (And.intro rg (And.intro rb rf))
                clear rg rb rf he HQ u1 u4 HK
                go_wp2_with fail
                go_ret
                exact ⟨by rw [unhide HE, unhide HF]; rfl, by rw [unhide HE, unhide HF]; exact (unhide HR).1, (unhide HR).2.2⟩
        · have HE := hide (hbad (fun h => z3 h.2.2.2.1))
          have H1 := hide z1
          have H3 := hide z3
          clear hbad hgood z0 z1 z3 hc hr'
          generalize t.text.length = nT at *
          subst z2
          go_enter Tryz.func133, Tryz.ntmps133
          go_wp2_with fail
          refine (nameS_yes _ _ t.name (hb.keep (unhide HBW)) (unhide H1)).mono ?_
          rintro e w1 ⟨rfl, rfl⟩
          go_wp2_with fail
          refine (attrsS_no _ _ t.attrs (hd.keep (unhide HBW)) (unhide H3)).mono ?_
          rintro e w1 ⟨rfl, hB1⟩
          go_wp2_with fail
          go_ret
          exact ⟨by rw [unhide HE]; rfl, by rw [unhide HE]; exact (unhide HP).1.all hB1, (unhide HP).2.2.trans (Frm.ofBelow hB1 [g])⟩
      · have HE := hide (hbad (fun h => z2 h.2.2.1))
        have H1 := hide z1
        clear hbad hgood z0 z1 hc hr'
        generalize t.text.length = nT at *
        have hkp : 0 < nT := by omega
        have hkd : decide (0 < nT) = true := by simp; omega
        clear z2
        go_enter Tryz.func133, Tryz.ntmps133
        go_wp2_with fail
        refine (nameS_yes _ _ t.name (hb.keep (unhide HBW)) (unhide H1)).mono ?_
        rintro e w1 ⟨rfl, rfl⟩
        go_wp2_with fail
        go_ret
        exact ⟨by rw [unhide HE]; rfl, by rw [unhide HE]; exact (unhide HP).1, (unhide HP).2.2⟩
    · have HE := hide (hbad (fun h => z1 h.2.1))
      have H1 := hide z1
      clear hbad hgood z0 z1
      go_enter Tryz.func133, Tryz.ntmps133
      go_wp2_with fail
      refine (nameS_no _ _ t.name (hb.keep (unhide HBW)) (unhide H1)).mono ?_
      rintro e w1 ⟨rfl, rfl⟩
      go_wp2_with fail
      go_ret
      exact ⟨by rw [unhide HE]; rfl, by rw [unhide HE]; exact (unhide HP).1, (unhide HP).2.2⟩
  · have dz : (t.kind != 0) = true := by simp [z0]
    have HE := hide (hbad (fun h => z0 h.1))
    clear hbad hgood z0
    go_enter Tryz.func133, Tryz.ntmps133
    go_wp2_with fail
    go_ret
    exact ⟨by rw [unhide HE]; rfl, by rw [unhide HE]; exact (unhide HP).1, (unhide HP).2.2⟩

theorem l2node_any (n : Nat) : L2nodeSaid n := by
  induction n with
  | zero => exact fun _ _ _ _ _ _ _ t => t.elim
  | succ n ih => exact l2node_succ n ih

/-- May the tree be. -/
def okN (n : Nat) (t : Tr (n + 1)) : Bool := decide (t.kind = 0) && (okT (n + 1) 1 t 120).1

set_option maxHeartbeats 1600000 in
/-- spec.NodeOk. -/
theorem nodeS_any (n : Nat) (w : World) (a b c d e : Value) (t : Tr (n + 1)) (h : RdNode (n + 1) w [a, b, c, d, e] t) :
    Calls Tryz.prog 97 #[.agg #[a, b, c, d, e]] w fun e w' => e = .returned (.bool (okN n t)) ∧ Below w.heap.size w w' := by
  have h' := h
  obtain ⟨_, _, _, _, e0, k1, k2, hb, hc, hd, he⟩ := h
  simp only [List.cons.injEq, and_true] at e0
  obtain ⟨rfl, rfl, rfl, rfl, rfl⟩ := e0
  obtain ⟨ab, cb, rfl, _, _⟩ := hb.shape
  obtain ⟨ac, cc, rfl, _, _⟩ := hc.shape
  obtain ⟨ad, cd, rfl, _, _⟩ := Elems.shape hd
  obtain ⟨ae, ce, rfl, _, _⟩ := Elems.shape he
  have hA : Below w.heap.size w ((w.alloc (.cells #[.int .i64 t.kind, .slice ab t.name.length cb, .slice ac t.text.length cc, .slice ad t.attrs.length cd, .slice ae t.kids.length ce] 61)).alloc (.cells #[.int .i64 120] 3)) := ((Below.refl _ _).alloc (Nat.le_refl _) _).alloc (by simp) _
  have lg := Loc.made (w.alloc (.cells #[.int .i64 t.kind, .slice ab t.name.length cb, .slice ac t.text.length cc, .slice ad t.attrs.length cd, .slice ae t.kids.length ce] 61)) #[.int .i64 120] 3
  simp only [World.size_alloc] at lg
  by_cases hk : t.kind = 0
  · have dk : (t.kind == 0) = true := by simp [hk]
    have HE := hide (show okN n t = (okT (n + 1) 1 t 120).1 by unfold okN; simp [hk])
    have HP := hide (And.intro hA lg)
    clear hA lg hk
    go_enter Tryz.func97, Tryz.ntmps97
    go_wp2_with fail
    refine (l2node_any (n + 1) w _ _ _ _ _ _ t 1 120 (w.heap.size + 1) h' (unhide HP).1 (by omega) (unhide HP).2 (by omega) (by omega) (by omega) (by omega)).mono ?_
    rintro e w1 ⟨rfl, hg1, hf1⟩
    have HB := hide ((unhide HP).1.trans (hf1.below (unhide HP).1.size (fun q hq => by simp at hq; omega)))
    clear hg1 hf1
    go_wp2_with fail
    go_ret
    exact ⟨by rw [unhide HE]; rfl, unhide HB⟩
  · have dk : (t.kind == 0) = false := by simpa using hk
    have HE := hide (show okN n t = false by unfold okN; simp [hk])
    have HP := hide hA
    clear hA lg hk
    go_enter Tryz.func97, Tryz.ntmps97
    go_wp2_with fail
    go_ret
    exact ⟨by rw [unhide HE]; rfl, unhide HP⟩

end Go.Proofs.YtkmmhlimihkgfaaGreat

/- A tree into which others may be put. -/
namespace Go.Proofs.YtkmmhlimihkgfaaGreat
open Go.RowKit
set_option linter.unusedVariables false
set_option maxRecDepth 100000

theorem rd5 {n : Nat} {w : World} {a b c d e : Value} {t : Tr (n + 1)} (h : RdNode (n + 1) w [a, b, c, d, e] t) : ∃ z ab nb cb ac nc cc ad nd cd ae ne ce, a = .int .i64 z ∧ b = .slice ab nb cb ∧ c = .slice ac nc cc ∧ d = .slice ad nd cd ∧ e = .slice ae ne ce := by
  obtain ⟨_, _, _, _, e0, _, _, hb, hc, hd, he⟩ := h
  simp only [List.cons.injEq, and_true] at e0
  obtain ⟨rfl, rfl, rfl, rfl, rfl⟩ := e0
  obtain ⟨ab, cb, rfl, _, _⟩ := hb.shape
  obtain ⟨ac, cc, rfl, _, _⟩ := hc.shape
  obtain ⟨ad, cd, rfl, _, _⟩ := Elems.shape hd
  obtain ⟨ae, ce, rfl, _, _⟩ := Elems.shape he
  exact ⟨_, _, _, _, _, _, _, _, _, _, _, _, _, rfl, rfl, rfl, rfl, rfl⟩
def rootB (n : Nat) (t : Tr (n + 1)) : Bool := okN n t && !voidB t.name
def startB (n : Nat) (id : Int) (t : Tr (n + 1)) : Bool := decide (0 ≤ id) && decide (id < 8) && rootB n t
end Go.Proofs.YtkmmhlimihkgfaaGreat

/- Replicas as data, and what it is for one to be readable, or a call's own. -/
namespace Go.Proofs.YtkmmhlimihkgfaaGreat
open Go.RowKit
set_option linter.unusedVariables false
set_option maxRecDepth 100000

structure RepV (n : Nat) where
  id : Int
  clock : Int
  first : Tr (n + 1)
  ops : List OpV
  und : List (Int × Int)
  lost : Bool
/-- The ten cells of a replica. -/
def RdRep (n : Nat) (w : World) (a b c d e vo vu : Value) (r : RepV n) : Prop := RdNode (n + 1) w [a, b, c, d, e] r.first ∧ RdOps w vo r.ops ∧ RdIds w vu r.und
def repVal {n : Nat} (r : RepV n) (a b c d e vo vu : Value) : Value := .agg #[.int .i64 r.id, .int .i64 r.clock, a, b, c, d, e, vo, vu, .bool r.lost]
theorem RdRep.keep {n : Nat} {w w' : World} {a b c d e vo vu : Value} {r : RepV n} (h : RdRep n w a b c d e vo vu r) (hb : Below w.heap.size w w') : RdRep n w' a b c d e vo vu r := ⟨h.1.keep hb, h.2.1.keep hb, h.2.2.keep hb⟩
def OwRep (n : Nat) (w : World) (a b c d e vo vu : Value) (r : RepV n) (F : List Nat) : Prop := ∃ F1 F2 F3, OwNode (n + 1) w [a, b, c, d, e] r.first F1 ∧ OwOps w vo r.ops F2 ∧ OwIds w vu r.und F3 ∧ F = F1 ++ F2 ++ F3
theorem OwRep.rd {n : Nat} {w : World} {a b c d e vo vu : Value} {r : RepV n} {F : List Nat} (h : OwRep n w a b c d e vo vu r F) : RdRep n w a b c d e vo vu r := by
  obtain ⟨F1, F2, F3, h1, h2, h3, _⟩ := h
  exact ⟨h1.rd, h2.rd, h3.rd⟩
theorem OwRep.frm {n : Nat} {w w' : World} {a b c d e vo vu : Value} {r : RepV n} {F S : List Nat} (h : OwRep n w a b c d e vo vu r F) (f : Frm w w' S) (hd : ∀ g ∈ F, g ∉ S) : OwRep n w' a b c d e vo vu r F := by
  obtain ⟨F1, F2, F3, h1, h2, h3, rfl⟩ := h
  exact ⟨F1, F2, F3, h1.frm f (fun g hg => hd g (by simp [hg])), OwOps.frm h2 f (fun g hg => hd g (by simp [hg])), OwIds.frm h3 f (fun g hg => hd g (by simp [hg])), rfl⟩
theorem OwRep.keep {n : Nat} {w w' : World} {a b c d e vo vu : Value} {r : RepV n} {F : List Nat} (h : OwRep n w a b c d e vo vu r F) (hb : Below w.heap.size w w') : OwRep n w' a b c d e vo vu r F := h.frm (Frm.ofBelow hb []) (fun _ _ => by simp)
theorem Loc.ten {w : World} {g : Nat} {v0 v1 v2 v3 v4 v5 v6 v7 v8 v9 : Value} {T : TypeId} (h : Loc w g #[v0, v1, v2, v3, v4, v5, v6, v7, v8, v9] T) : w.cell? ⟨g, 0, none⟩ = some v0 ∧ w.cell? ⟨g, 1, none⟩ = some v1 ∧ w.cell? ⟨g, 2, none⟩ = some v2 ∧ w.cell? ⟨g, 3, none⟩ = some v3 ∧ w.cell? ⟨g, 4, none⟩ = some v4 ∧ w.cell? ⟨g, 5, none⟩ = some v5 ∧ w.cell? ⟨g, 6, none⟩ = some v6 ∧ w.cell? ⟨g, 7, none⟩ = some v7 ∧ w.cell? ⟨g, 8, none⟩ = some v8 ∧ w.cell? ⟨g, 9, none⟩ = some v9 :=
  ⟨h.cell 0, h.cell 1, h.cell 2, h.cell 3, h.cell 4, h.cell 5, h.cell 6, h.cell 7, h.cell 8, h.cell 9⟩

/-- What ReplicaOk asks. -/
def stampsB (l : List OpV) (c : Int) : Bool := l.all fun o => decide (o.atN ≤ c)
def undAt (l : List (Int × Int)) (id clk : Int) (i : Nat) : Bool := if h : i < l.length then decide (l[i].2 = id) && decide (1 ≤ l[i].1) && decide (l[i].1 ≤ clk) && (decide (i = 0) || lessB (l[i - 1]'(by omega)).1 (l[i - 1]'(by omega)).2 l[i].1 l[i].2) else true
def undB (l : List (Int × Int)) (id clk : Int) : Bool := decide (l.length ≤ 150) && (List.range l.length).all (undAt l id clk)
def repB {n : Nat} (r : RepV n) : Bool := startB n r.id r.first && decide (0 ≤ r.clock) && decide (r.clock ≤ 1000000) && opsB r.ops && stampsB r.ops r.clock && undB r.und r.id r.clock
theorem stampsB_bad {l : List OpV} {c : Int} {k : Nat} (hk : k < l.length) (h : c < l[k].atN) : stampsB l c = false := by
  unfold stampsB
  rw [List.all_eq_false]
  exact ⟨l[k], List.getElem_mem hk, by simp; omega⟩
theorem stampsB_good {l : List OpV} {c : Int} (h : ∀ k (hk : k < l.length), l[k].atN ≤ c) : stampsB l c = true := by
  unfold stampsB
  rw [List.all_eq_true]
  intro x hx
  obtain ⟨i, hi, rfl⟩ := List.getElem_of_mem hx
  simpa using h i hi
theorem undB_long {l : List (Int × Int)} {id clk : Int} (h : 150 < l.length) : undB l id clk = false := by unfold undB; rw [decide_eq_false (by omega)]; rfl
theorem undB_bad {l : List (Int × Int)} {id clk : Int} {k : Nat} (hk : k < l.length) (h : undAt l id clk k = false) : undB l id clk = false := by
  unfold undB
  rw [Bool.and_eq_false_iff]
  right
  rw [List.all_eq_false]
  exact ⟨k, by simpa using hk, by simp [h]⟩
theorem undB_good {l : List (Int × Int)} {id clk : Int} (hn : l.length ≤ 150) (h : ∀ j, j < l.length → undAt l id clk j = true) : undB l id clk = true := by
  unfold undB
  rw [decide_eq_true hn, Bool.true_and, List.all_eq_true]
  intro j hj
  exact h j (by simpa using hj)
theorem undAt_eq {l : List (Int × Int)} {id clk : Int} {k : Nat} (hk : k < l.length) : undAt l id clk k = (decide (l[k].2 = id) && decide (1 ≤ l[k].1) && decide (l[k].1 ≤ clk) && (decide (k = 0) || lessB (l[k - 1]'(by omega)).1 (l[k - 1]'(by omega)).2 l[k].1 l[k].2)) := by unfold undAt; rw [dif_pos hk]
end Go.Proofs.YtkmmhlimihkgfaaGreat

/- The law's own helpers that write a count into a row of bytes and look for it again, by their contracts. -/
namespace Go.Proofs.YtkmmhlimihkgfaaGreat
open Go.RowKit
set_option linter.unusedVariables false

/-- n bytes that count on from k. -/
def marks (k : Int) (n : Nat) : List Int := (List.range n).map fun i : Nat => (k + (i : Int)) % 256
theorem marks_len (k : Int) (n : Nat) : (marks k n).length = n := by simp [marks]
theorem marks_ok (k : Int) (n : Nat) : okB (marks k n) := fun x hx => by
  obtain ⟨i, _, rfl⟩ := List.mem_map.1 hx
  omega
theorem marks_at (k : Int) (n i : Nat) (h : i < n) : (marks k n).getD i 0 = (k + (i : Int)) % 256 := by simp [marks, h]
theorem marks_step (k : Int) (l : List Int) (j : Nat) (h : j < l.length) : (vals (marks k j ++ l.drop j)).set j (.int .u8 ((k + (j : Int)) % 256)) = vals (marks k (j + 1) ++ l.drop (j + 1)) := by
  have e : marks k (j + 1) = marks k j ++ [(k + (j : Int)) % 256] := by simp [marks, List.range_succ]
  have hl : (vals (marks k j)).length = j := by simp [vals, marks_len]
  rw [vals_app, List.set_append_right _ _ (by omega), hl, Nat.sub_self, e, List.drop_eq_getElem_cons h, vals_app, vals_app, List.append_assoc]
  rfl

theorem markB_nil (w : World) (a : Option Addr) (cap : Nat) (k : Int) :
    Calls Tryz.prog 55 #[.slice a 0 cap, .int .i64 k] w fun e w' => e = .returned (.int .i64 k) ∧ w' = w := by
  go_enter Tryz.func55, Tryz.ntmps55
  go_wp2
  refine wp_loop_rounds 1 ?_
  rw [rounds_succ]
  go_wp2
  go_ret
  exact ⟨rfl, rfl⟩

set_option maxHeartbeats 1600000 in
set_option maxRecDepth 1000000 in
theorem markB_row (w : World) (base g cap : Nat) (l : List Int) (k : Int) (hw : w.ownsRow base 5 1 (.slice (some ⟨g, 0, none⟩) l.length cap) l.length (vals l)) (hs : l.length ≤ 16777216) (h0 : 0 ≤ k) (h1 : k ≤ 1000000000) :
    Calls Tryz.prog 55 #[.slice (some ⟨g, 0, none⟩) l.length cap, .int .i64 k] w fun e w' => e = .returned (.int .i64 (k + l.length)) ∧
      w'.ownsRow base 5 1 (.slice (some ⟨g, 0, none⟩) l.length cap) l.length (vals (marks k l.length)) ∧ w.grownBy w' (some g) := by
  generalize hn : l.length = n at *
  have HN := hide hn
  clear hn
  go_enter Tryz.func55, Tryz.ntmps55
  go_wp2
  go_loopw [1, 5] (fun c i wr => ∃ j : Nat, j ≤ n ∧ i = .int .i64 j ∧ c = .int .i64 (k + (j : Int)) ∧ wr.ownsRow base 5 1 (.slice (some ⟨g, 0, none⟩) n cap) n (vals (marks k j ++ l.drop j)) ∧ w.grownBy wr (some g)) (fun _ i _ => n - (intOf i).toNat)
  case atStart => exact ⟨0, Nat.zero_le _, rfl, by simp, by simpa [marks] using hw, World.grownBy.refl _ _⟩
  case round =>
    obtain ⟨j, hj, rfl, rfl, hr, hg⟩ := hrel
    by_cases hlt : j < n
    · have hlen := unhide HN
      have hjl : j < l.length := by omega
      obtain ⟨y, hy⟩ : ∃ y, wr.cell? ⟨g, j, none⟩ = some (.int .u8 y) := ⟨(marks k j ++ l.drop j).getD j 0, by rw [hr.cellAt j (by omega), vals_at (by simp [marks_len]; omega)]⟩
      have hfr := hr.frozenAt j
      have hst := hr.stored j (.int .u8 ((k + (j : Int)) % 256))
      rw [marks_step k l j hjl] at hst
      have HS := hide hst
      clear hst hr hlen
      have hlt' : (j : Int) < (n : Int) := by omega
      go_wp2
      have R := unhide HS
      go_roundw
      case rel => exact ⟨j + 1, by omega, by go_num, by go_num, R.1, grown_trans hg R.2⟩
      case measure => simp [intOf]; omega
    · have e : j = n := by omega
      subst e
      have hr' : wr.ownsRow base 5 1 (.slice (some ⟨g, 0, none⟩) j cap) j (vals (marks k j)) := by
        have := unhide HN
        rw [List.drop_of_length_le (by omega), List.append_nil] at hr
        exact hr
      clear hr
      go_wp2
      go_ret
      exact ⟨rfl, hr', hg⟩

theorem markB_any (w : World) (base : Nat) (v : Value) (l : List Int) (k : Int) (h : Own w base v l) (hs : l.length ≤ 16777216) (h0 : 0 ≤ k) (h1 : k ≤ 1000000000) :
    Calls Tryz.prog 55 #[v, .int .i64 k] w fun e w' => e = .returned (.int .i64 (k + l.length)) ∧ Own w' base v (marks k l.length) ∧ w.grownBy w' v.ownBlock := by
  obtain ⟨hok, hlen, ⟨rfl, hz⟩ | ⟨g, cap, cur, rfl, hr⟩⟩ := h
  · have e : l = [] := List.eq_nil_of_length_eq_zero hz
    subst e
    refine (markB_nil w none 0 k).mono ?_
    rintro e w' ⟨rfl, rfl⟩
    exact ⟨by simp, ⟨marks_ok _ _, World.ownsRow_nil _ _ _ _⟩, World.grownBy.refl _ _⟩
  · refine (markB_row w base g cap l k ⟨hlen, .inr ⟨g, cap, cur, rfl, hr⟩⟩ hs h0 h1).mono ?_
    rintro e w' ⟨rfl, ho, hg⟩
    refine ⟨rfl, ⟨marks_ok _ _, ?_⟩, hg⟩
    rw [marks_len]
    exact ho

theorem heldB_nil (w : World) (a : Option Addr) (cap : Nat) (k : Int) :
    Calls Tryz.prog 57 #[.slice a 0 cap, .int .i64 k] w fun e w' => e = .returned (.int .i64 k) ∧ w' = w := by
  go_enter Tryz.func57, Tryz.ntmps57
  go_wp2
  refine wp_loop_rounds 1 ?_
  rw [rounds_succ]
  go_wp2
  go_ret
  exact ⟨rfl, rfl⟩

set_option maxHeartbeats 1600000 in
set_option maxRecDepth 1000000 in
theorem heldB_row (w : World) (b off cap n : Nat) (k : Int) (hc : ∀ i, i < n → w.cell? ⟨b, off + i, none⟩ = some (.int .u8 ((marks k n).getD i 0))) (hs : n ≤ 16777216) (h0 : 0 ≤ k) (h1 : k ≤ 1000000000) :
    Calls Tryz.prog 57 #[.slice (some ⟨b, off, none⟩) n cap, .int .i64 k] w fun e w' => e = .returned (.int .i64 (k + n)) ∧ w' = w := by
  go_enter Tryz.func57, Tryz.ntmps57
  go_wp2
  go_loop [1, 5] (fun c i => ∃ j : Nat, j ≤ n ∧ i = .int .i64 j ∧ c = .int .i64 (k + (j : Int))) (fun _ i => n - (intOf i).toNat)
  case atStart => exact ⟨0, Nat.zero_le _, rfl, by simp⟩
  case round =>
    obtain ⟨j, hj, rfl, rfl⟩ := hrel
    by_cases hlt : j < n
    · have c1 := hc j hlt
      rw [marks_at k n j hlt] at c1
      clear hc
      have hlt' : (j : Int) < (n : Int) := by omega
      go_wp2
      go_round
      case rel => exact ⟨j + 1, by omega, by go_num, by go_num⟩
      case measure => simp [intOf]; omega
    · have e : j = n := by omega
      subst e
      clear hc
      go_wp2
      go_ret
      exact ⟨rfl, rfl⟩

theorem heldB_any (w : World) (v : Value) (n : Nat) (k : Int) (h : Byt w v (marks k n)) (hs : n ≤ 16777216) (h0 : 0 ≤ k) (h1 : k ≤ 1000000000) :
    Calls Tryz.prog 57 #[v, .int .i64 k] w fun e w' => e = .returned (.int .i64 (k + n)) ∧ w' = w := by
  obtain ⟨_, _, ⟨rfl, hn⟩ | ⟨x, cap, rfl, hc, hn⟩ | ⟨b, off, cap, rfl, _, _, _, _, h5⟩⟩ := h
  · have e : n = 0 := by have := congrArg List.length hn; rw [marks_len] at this; exact this
    subst e
    refine (heldB_nil w none 0 k).mono ?_
    rintro e w' ⟨rfl, rfl⟩
    exact ⟨by simp, rfl⟩
  · have e : n = 0 := by have := congrArg List.length hn; rw [marks_len] at this; exact this
    subst e
    refine (heldB_nil w (some x) cap k).mono ?_
    rintro e w' ⟨rfl, rfl⟩
    exact ⟨by simp, rfl⟩
  · rw [marks_len] at h5 ⊢
    exact heldB_row w b off cap n k h5 hs h0 h1

end Go.Proofs.YtkmmhlimihkgfaaGreat

/- Small tools: locals made one behind the other, an element at a place, the five cells of a node's local. -/
namespace Go.Proofs.YtkmmhlimihkgfaaGreat
open Go.RowKit
set_option linter.unusedVariables false
set_option maxRecDepth 100000

/-- Two locals of their own, made one behind the other. -/
theorem two (w : World) (A Z : Array Value) (TA T : TypeId) : Loc ((w.alloc (.cells A TA)).alloc (.cells Z T)) w.heap.size A TA ∧ Loc ((w.alloc (.cells A TA)).alloc (.cells Z T)) (w.heap.size + 1) Z T ∧ Below w.heap.size w ((w.alloc (.cells A TA)).alloc (.cells Z T)) := by
  refine ⟨(Loc.made w A TA).alloc _, ?_, ((Below.refl _ _).alloc (Nat.le_refl _) _).alloc (by simp) _⟩
  have := Loc.made (w.alloc (.cells A TA)) Z T
  simp only [World.size_alloc] at this
  exact this

/-- The element at a place, where there is one. -/
theorem Elems.at {α : Type} {w : World} {size m : Nat} {a : Option Addr} {cap k : Nat} {l : List α} {R : List Value → α → Prop} (h : Elems w size (.slice a m cap) l R) (hk : k < l.length) :
    ∃ b off, a = some ⟨b, off, none⟩ ∧ b < w.heap.size ∧ m = l.length ∧ m ≤ cap ∧ ∃ C : List Value, C.length = size ∧ (∀ j, j < size → w.cell? ⟨b, off + k * size + j, none⟩ = C[j]?) ∧ R C l[k] := by
  obtain ⟨_, ⟨_, e⟩ | ⟨_, _, _, _, e⟩ | ⟨b, off, c, e, g1, g2, g3, g4, g5⟩⟩ := h
  · subst e; simp at hk
  · subst e; simp at hk
  · injection e with e1 e2 e3
    subst e1 e2 e3
    exact ⟨b, off, rfl, g4, rfl, g1, g5 k hk⟩

/-- The five cells of a local of its own. -/
theorem Loc.five {w : World} {g : Nat} {a b c d e : Value} {T : TypeId} (h : Loc w g #[a, b, c, d, e] T) :
    w.cell? ⟨g, 0, none⟩ = some a ∧ w.cell? ⟨g, 1, none⟩ = some b ∧ w.cell? ⟨g, 2, none⟩ = some c ∧ w.cell? ⟨g, 3, none⟩ = some d ∧ w.cell? ⟨g, 4, none⟩ = some e :=
  ⟨h.cell 0, h.cell 1, h.cell 2, h.cell 3, h.cell 4⟩

end Go.Proofs.YtkmmhlimihkgfaaGreat

/- The laws' own helpers that write a count into attributes and look for it again, by their contracts. -/
namespace Go.Proofs.YtkmmhlimihkgfaaGreat
open Go.RowKit
set_option linter.unusedVariables false
set_option maxRecDepth 100000

/-- How many bytes attributes have. -/
def cntA : List (List Int × List Int) → Nat
  | [] => 0
  | x :: r => x.1.length + x.2.length + cntA r
/-- Attributes with a count in them, from k on. -/
def mkA : List (List Int × List Int) → Int → List (List Int × List Int)
  | [], _ => []
  | x :: r, k => (marks k x.1.length, marks (k + (x.1.length : Nat)) x.2.length) :: mkA r (k + ((x.1.length + x.2.length : Nat) : Int))
theorem mkA_len : ∀ (l : List (List Int × List Int)) (k : Int), (mkA l k).length = l.length
  | [], _ => rfl
  | x :: r, k => by simp [mkA, mkA_len r]
theorem mkA_cnt : ∀ (l : List (List Int × List Int)) (k : Int), cntA (mkA l k) = cntA l
  | [], _ => rfl
  | x :: r, k => by simp [mkA, cntA, marks_len, mkA_cnt r]
theorem mkA_app : ∀ (a b : List (List Int × List Int)) (k : Int), mkA (a ++ b) k = mkA a k ++ mkA b (k + (cntA a : Nat))
  | [], b, k => by simp [mkA, cntA]
  | x :: r, b, k => by
    simp only [List.cons_append, mkA, mkA_app r b, cntA, List.cons.injEq, true_and]
    congr 2
    omega
theorem cntA_app : ∀ (a b : List (List Int × List Int)), cntA (a ++ b) = cntA a + cntA b
  | [], b => by simp [cntA]
  | x :: r, b => by simp only [List.cons_append, cntA, cntA_app r b]; omega
theorem cntA_take (l : List (List Int × List Int)) (j : Nat) (h : j < l.length) : cntA (l.take (j + 1)) = cntA (l.take j) + (l[j].1.length + l[j].2.length) := by
  rw [List.take_succ_eq_append_getElem h, cntA_app]
  simp [cntA]
theorem cntA_le (l : List (List Int × List Int)) (j : Nat) : cntA (l.take j) ≤ cntA l := by
  have := cntA_app (l.take j) (l.drop j)
  rw [List.take_append_drop] at this
  omega
theorem mkA_at (l : List (List Int × List Int)) (k : Int) (j : Nat) (h : j < l.length) (h' : j < (mkA l k).length) : (mkA l k)[j] = (marks (k + (cntA (l.take j) : Nat)) l[j].1.length, marks (k + (cntA (l.take j) : Nat) + (l[j].1.length : Nat)) l[j].2.length) := by
  have e : mkA l k = mkA (l.take j) k ++ mkA (l.drop j) (k + (cntA (l.take j) : Nat)) := by rw [← mkA_app, List.take_append_drop]
  have e2 : l.drop j = l[j] :: l.drop (j + 1) := List.drop_eq_getElem_cons h
  have hl : (mkA (l.take j) k).length = j := by rw [mkA_len]; simp; omega
  have : (mkA l k)[j]? = some (marks (k + (cntA (l.take j) : Nat)) l[j].1.length, marks (k + (cntA (l.take j) : Nat) + (l[j].1.length : Nat)) l[j].2.length) := by
    rw [e, List.getElem?_append_right (by omega), hl, Nat.sub_self, e2, mkA]
    rfl
  rw [List.getElem?_eq_getElem h'] at this
  exact Option.some.inj this

theorem OwAttr.frm {w w' : World} {C : List Value} {x : List Int × List Int} {G S : List Nat} (h : OwAttr w C x G) (f : Frm w w' S) (hd : ∀ g ∈ G, g ∉ S) : OwAttr w' C x G := by
  obtain ⟨a, b, e, h1, h2, rfl⟩ := h
  exact ⟨a, b, e, h1.frm f (fun g hg => hd g (by simp [hg])), h2.frm f (fun g hg => hd g (by simp [hg])), rfl⟩
set_option maxHeartbeats 3200000 in
theorem markA_any (w : World) (v : Value) (l : List (List Int × List Int)) (F : List Nat) (k : Int) (h : OwAttrs w v l F) (hF : F.Nodup) (hs : cntA l ≤ 4194304) (h0 : 0 ≤ k) (h1 : k ≤ 900000000) :
    Calls Tryz.prog 108 #[v, .int .i64 k] w fun e w' => e = .returned (.int .i64 (k + (cntA l : Nat))) ∧ OwAttrs w' v (mkA l k) F ∧ Frm w w' F := by
  have hml := OwElems.len h
  unfold maxLen at hml
  obtain ⟨Cs, Fs, hCl, hFl, hR, hrow, rfl⟩ := h
  have hFv := nodup_part hF
  have hFn := (List.nodup_append.1 hF).2.1
  have hC : ∀ i, i < Cs.length → (Cs.getD i []).length = 2 := fun i hi => (hR i (by omega)).1
  by_cases hl0 : l = []
  · subst hl0
    have hshape : ∃ a cap, v = .slice a 0 cap := by
      rcases hrow.2 with ⟨rfl, _⟩ | ⟨g, cap, cur, rfl, _⟩
      · exact ⟨_, _, rfl⟩
      · exact ⟨_, _, rfl⟩
    obtain ⟨a, cap, rfl⟩ := hshape
    have HW := hide (show OwAttrs w (.slice a 0 cap) (mkA [] k) _ from ⟨Cs, Fs, hCl, hFl, hR, hrow, rfl⟩)
    clear hrow hR
    go_enter Tryz.func108, Tryz.ntmps108
    go_wp2_with fail
    refine wp_loop_rounds 1 ?_
    rw [rounds_succ]
    go_wp2_with fail
    go_ret
    exact ⟨by simp [cntA], unhide HW, Frm.refl _ _⟩
  have hv : ∃ g cap, v = .slice (some ⟨g, 0, none⟩) l.length cap := by
    rcases hrow.2 with ⟨_, h⟩ | ⟨g, cap, cur, rfl, _⟩
    · exact absurd (List.eq_nil_of_length_eq_zero h) hl0
    · exact ⟨g, cap, rfl⟩
  obtain ⟨g, cap, rfl⟩ := hv
  have hgF : ∀ i, g ∉ Fs.getD i [] := fun i hi => hFv g (by simp [FB, Value.ownBlock]) (mem_flat hi)
  have HR := hide hR
  have HROW := hide hrow
  have hm' : (l.length : Int) ≤ 9223372036854775807 := by omega
  clear hR hrow
  go_enter Tryz.func108, Tryz.ntmps108
  go_wp2_with fail
  go_loopw [1, 5] (fun c i wr => ∃ j : Nat, j ≤ l.length ∧ i = .int .i64 j ∧ c = .int .i64 (k + (cntA (l.take j) : Nat)) ∧ wr.ownsRow 0 157 2 (.slice (some ⟨g, 0, none⟩) l.length cap) l.length Cs.flatten ∧
      (∀ i (hi : i < (mkA l k).length), i < j → OwAttr wr (Cs.getD i []) (mkA l k)[i] (Fs.getD i [])) ∧ (∀ i (hi : i < l.length), j ≤ i → OwAttr wr (Cs.getD i []) l[i] (Fs.getD i [])) ∧ Frm w wr (FB (.slice (some ⟨g, 0, none⟩) l.length cap) ++ Fs.flatten)) (fun _ i _ => l.length - (intOf i).toNat)
  case atStart => exact ⟨0, Nat.zero_le _, rfl, by simp [cntA], unhide HROW, fun i hi hj => by omega, fun i hi _ => (unhide HR i hi).2, Frm.refl _ _⟩
  case round =>
    obtain ⟨j, hj, rfl, rfl, hr, hdone, htodo, hf⟩ := hrel
    by_cases hjl : j < l.length
    · obtain ⟨a, b, hab, ha, hb, hFj⟩ := htodo j hjl (Nat.le_refl _)
      have e0 := own_cellAt hr hC hCl j 0 hjl (by omega)
      have e1 := own_cellAt hr hC hCl j 1 hjl (by omega)
      rw [hab] at e0 e1
      simp only [List.getElem?_cons_zero, List.getElem?_cons_succ, Nat.add_zero] at e0 e1
      have hct := cntA_take l j hjl
      have hcl := cntA_le l (j + 1)
      have hFjn := nodup_at (i := j) hFn
      rw [hFj] at hFjn
      obtain ⟨pa, ca, rfl, _, _⟩ := ha.byt.shape
      obtain ⟨pb, cb, rfl, _, _⟩ := hb.byt.shape
      have hat := mkA_at l k j hjl (by rw [mkA_len]; exact hjl)
      obtain ⟨x, hx⟩ : ∃ x, x = l[j] := ⟨_, rfl⟩
      rw [← hx] at ha hb hct hat e0 e1 hab hFj hFjn
      obtain ⟨q, hq⟩ : ∃ q : Int, q = k + (cntA (l.take j) : Nat) := ⟨_, rfl⟩
      rw [← hq] at hat ⊢
      have hq0 : 0 ≤ q := by omega
      have hq1 : q ≤ 904194304 := by omega
      have HQ := hide hq
      have HX := hide hx
      have HT := hide hat
      have HCT := hide hct
      have HAB := hide hab
      have HFJ := hide hFj
      have hx1 : x.1.length ≤ 4194304 := by omega
      have hx2 : x.2.length ≤ 4194304 := by omega
      have HDN := hide hdone
      have HTD := hide htodo
      clear hq hx hat hct hab hFj hdone htodo hcl
      have hjl' : (j : Int) < (l.length : Int) := by omega
      have hj0 : (0 : Int) ≤ (j : Int) := by omega
      go_wp2_with fail
      refine (markB_any wr 0 _ x.1 q ha (Nat.le_trans hx1 (by decide)) hq0 (by omega)).mono ?_
      rintro e w1 ⟨rfl, ha1, hg1⟩
      have F1 := own_grown_frm hg1
      have hgj : ∀ p ∈ FB (.slice (some ⟨g, 0, none⟩) l.length cap), p ∉ Fs.getD j [] := fun p hp => by
        have : p = g := by simpa [FB, Value.ownBlock] using hp
        rw [this]; exact hgF j
      have r1 := ownsRow_frm hr F1 (fun p hp hp' => hgj p hp (by rw [unhide HFJ]; exact List.mem_append_left _ hp'))
      have hb1 := hb.frm F1 (fun p hp hp' => nodup_part hFjn p hp' hp)
      have e1' := own_cellAt r1 hC hCl j 1 hjl (by omega)
      rw [unhide HAB] at e1'
      simp only [List.getElem?_cons_zero, List.getElem?_cons_succ] at e1'
      clear e0 e1
      go_wp2_with fail
      refine (markB_any w1 0 _ x.2 (q + (x.1.length : Nat)) hb1 (Nat.le_trans hx2 (by decide)) (by omega) (by omega)).mono ?_
      rintro e w2 ⟨rfl, hb2, hg2⟩
      have F2 := own_grown_frm hg2
      have r2 := ownsRow_frm r1 F2 (fun p hp hp' => hgj p hp (by rw [unhide HFJ]; exact List.mem_append_right _ hp'))
      have ha2 := ha1.frm F2 (fun p hp hp' => nodup_part hFjn p hp hp')
      have F12 : Frm wr w2 (Fs.getD j []) := (F1.mono (fun p hp => by rw [unhide HFJ]; exact List.mem_append_left _ hp)).trans (F2.mono (fun p hp => by rw [unhide HFJ]; exact List.mem_append_right _ hp))
      clear e1'
      go_wp2_with fail
      go_roundw
      case rel =>
        refine ⟨j + 1, by omega, by go_num, ?_, r2, fun i hi hij => ?_, fun i hi hij => ?_, hf.trans (F12.mono (fun p hp => List.mem_append_right _ (mem_flat hp)))⟩
        · rw [unhide HCT, unhide HQ]; go_num
        · by_cases e : i = j
          · subst e
            rw [unhide HT]
            exact ⟨_, _, unhide HAB, ha2, hb2, unhide HFJ⟩
          · exact (unhide HDN i hi (by omega)).frm F12 (nodup_flat hFn e)
        · exact (unhide HTD i hi (by omega)).frm F12 (nodup_flat hFn (by omega))
      case measure => simp [intOf]; omega
    · have e : j = l.length := by omega
      subst e
      have HW := hide (show OwAttrs wr (.slice (some ⟨g, 0, none⟩) l.length cap) (mkA l k) (FB (.slice (some ⟨g, 0, none⟩) l.length cap) ++ Fs.flatten) from
        ⟨Cs, Fs, by rw [mkA_len]; exact hCl, by rw [mkA_len]; exact hFl, fun i hi => ⟨hC i (by rw [mkA_len] at hi; omega), hdone i hi (by rw [mkA_len] at hi; exact hi)⟩, by rw [mkA_len]; exact hr, rfl⟩)
      clear hdone htodo hr
      go_wp2_with fail
      go_ret
      exact ⟨by rw [List.take_length]; rfl, unhide HW, hf⟩
end Go.Proofs.YtkmmhlimihkgfaaGreat

/- Trees with a count in them: plain mathematics. -/
namespace Go.Proofs.YtkmmhlimihkgfaaGreat
open Go.RowKit
set_option linter.unusedVariables false

/-- How much is counted of a row of members: one for each, and what f says. -/
def cntL {α : Type} (f : α → Nat) : List α → Nat
  | [] => 0
  | x :: r => 1 + f x + cntL f r
theorem cntL_app {α : Type} (f : α → Nat) : ∀ a b : List α, cntL f (a ++ b) = cntL f a + cntL f b
  | [], b => by simp [cntL]
  | x :: r, b => by simp only [List.cons_append, cntL, cntL_app f r b]; omega
theorem cntL_take {α : Type} (f : α → Nat) (l : List α) (j : Nat) (h : j < l.length) : cntL f (l.take (j + 1)) = cntL f (l.take j) + (1 + f l[j]) := by
  rw [List.take_succ_eq_append_getElem h, cntL_app]
  simp [cntL]
theorem cntL_le {α : Type} (f : α → Nat) (l : List α) (j : Nat) : cntL f (l.take j) ≤ cntL f l := by
  have := cntL_app f (l.take j) (l.drop j)
  rw [List.take_append_drop] at this
  omega
def mkL {α : Type} (c : α → Nat) (f : α → Int → α) : List α → Int → List α
  | [], _ => []
  | x :: r, k => f x k :: mkL c f r (k + ((1 + c x : Nat) : Int))
theorem mkL_len {α : Type} (c : α → Nat) (f : α → Int → α) : ∀ (l : List α) (k : Int), (mkL c f l k).length = l.length
  | [], _ => rfl
  | x :: r, k => by simp [mkL, mkL_len c f r]
theorem mkL_app {α : Type} (c : α → Nat) (f : α → Int → α) : ∀ (a b : List α) (k : Int), mkL c f (a ++ b) k = mkL c f a k ++ mkL c f b (k + (cntL c a : Nat))
  | [], b, k => by simp [mkL, cntL]
  | x :: r, b, k => by
    simp only [List.cons_append, mkL, mkL_app c f r b, cntL, List.cons.injEq, true_and]
    congr 2
    omega
theorem mkL_at {α : Type} (c : α → Nat) (f : α → Int → α) (l : List α) (k : Int) (j : Nat) (h : j < l.length) (h' : j < (mkL c f l k).length) : (mkL c f l k)[j] = f l[j] (k + (cntL c (l.take j) : Nat)) := by
  have e : mkL c f l k = mkL c f (l.take j) k ++ mkL c f (l.drop j) (k + (cntL c (l.take j) : Nat)) := by rw [← mkL_app, List.take_append_drop]
  have e2 : l.drop j = l[j] :: l.drop (j + 1) := List.drop_eq_getElem_cons h
  have hl : (mkL c f (l.take j) k).length = j := by rw [mkL_len]; simp; omega
  have : (mkL c f l k)[j]? = some (f l[j] (k + (cntL c (l.take j) : Nat))) := by
    rw [e, List.getElem?_append_right (by omega), hl, Nat.sub_self, e2, mkL]
    rfl
  rw [List.getElem?_eq_getElem h'] at this
  exact Option.some.inj this

/-- How much is counted of a tree, its own kind aside. -/
def cntT : (n : Nat) → Tr n → Nat
  | 0 => fun _ => 0
  | n + 1 => fun t => t.name.length + t.text.length + cntA t.attrs + cntL (cntT n) t.kids
theorem cntT_succ (n : Nat) (t : Tr (n + 1)) : cntT (n + 1) t = t.name.length + t.text.length + cntA t.attrs + cntL (cntT n) t.kids := rfl
/-- Another kind. -/
def skT : (n : Nat) → Tr n → Int → Tr n
  | 0 => fun t _ => t
  | n + 1 => fun t z => (⟨z, t.name, t.text, t.attrs, t.kids⟩ : Nd (Tr n))
/-- A tree with a count in it, from k on, its own kind aside. -/
def mkT' : (n : Nat) → Tr n → Int → Tr n
  | 0 => fun t _ => t
  | n + 1 => fun t k => (⟨t.kind, marks k t.name.length, marks (k + (t.name.length : Nat)) t.text.length, mkA t.attrs (k + (t.name.length : Nat) + (t.text.length : Nat)), mkL (cntT n) (fun x k => skT n (mkT' n x (k + 1)) k) t.kids (k + (t.name.length : Nat) + (t.text.length : Nat) + (cntA t.attrs : Nat))⟩ : Nd (Tr n))
/-- A member of a row, its kind too. -/
def mkN (n : Nat) (x : Tr n) (k : Int) : Tr n := skT n (mkT' n x (k + 1)) k
def mkK (n : Nat) (l : List (Tr n)) (k : Int) : List (Tr n) := mkL (cntT n) (mkN n) l k
theorem mkT'_succ (n : Nat) (t : Tr (n + 1)) (k : Int) : mkT' (n + 1) t k = (⟨t.kind, marks k t.name.length, marks (k + (t.name.length : Nat)) t.text.length, mkA t.attrs (k + (t.name.length : Nat) + (t.text.length : Nat)), mkK n t.kids (k + (t.name.length : Nat) + (t.text.length : Nat) + (cntA t.attrs : Nat))⟩ : Nd (Tr n)) := rfl
theorem mkK_len (n : Nat) (l : List (Tr n)) (k : Int) : (mkK n l k).length = l.length := mkL_len _ _ l k
theorem mkK_at (n : Nat) (l : List (Tr n)) (k : Int) (j : Nat) (h : j < l.length) (h' : j < (mkK n l k).length) : (mkK n l k)[j] = mkN n l[j] (k + (cntL (cntT n) (l.take j) : Nat)) := mkL_at _ _ l k j h h'

theorem flat_set (Cs : List (List Value)) (size : Nat) (hs : 0 < size) (h : ∀ i, i < Cs.length → (Cs.getD i []).length = size) (j : Nat) (hj : j < Cs.length) (v : Value) : (Cs.set j ((Cs.getD j []).set 0 v)).flatten = Cs.flatten.set (j * size) v := by
  induction Cs generalizing j with
  | nil => simp at hj
  | cons C Cs ih =>
    have h0 : C.length = size := by simpa using h 0 (by simp)
    cases j with
    | zero =>
      simp only [List.set_cons_zero, List.getD_cons_zero, List.flatten_cons, Nat.zero_mul]
      rw [List.set_append_left _ _ (by omega)]
    | succ j =>
      have e : (j + 1) * size = C.length + j * size := by rw [h0, Nat.succ_mul]; omega
      rw [List.set_cons_succ, List.flatten_cons, List.flatten_cons, List.getD_cons_succ, e, List.set_append_right _ _ (by omega), Nat.add_sub_cancel_left]
      rw [ih (fun k hk => by simpa using h (k + 1) (by simpa using hk)) j (by simpa using hj)]
end Go.Proofs.YtkmmhlimihkgfaaGreat

/- The laws' own helpers that write a count into trees, by their contracts. -/
namespace Go.Proofs.YtkmmhlimihkgfaaGreat
open Go.RowKit
set_option linter.unusedVariables false
set_option maxRecDepth 100000

def MarkKSaid (n : Nat) : Prop := ∀ (w : World) (v : Value) (l : List (Tr n)) (F : List Nat) (k : Int), OwKids n w v l F → F.Nodup → cntL (cntT n) l ≤ 4194304 → 0 ≤ k → k + (cntL (cntT n) l : Nat) ≤ 800000000 →
    Calls Tryz.prog 109 #[v, .int .i64 k] w fun e w' => e = .returned (.int .i64 (k + (cntL (cntT n) l : Nat))) ∧ OwKids n w' v (mkK n l k) F ∧ Frm w w' F

theorem markK_nil (w : World) (a : Option Addr) (cap : Nat) (k : Int) :
    Calls Tryz.prog 109 #[.slice a 0 cap, .int .i64 k] w fun e w' => e = .returned (.int .i64 k) ∧ w' = w := by
  go_enter Tryz.func109, Tryz.ntmps109
  go_wp2_with fail
  refine wp_loop_rounds 1 ?_
  rw [rounds_succ]
  go_wp2_with fail
  go_ret
  exact ⟨rfl, rfl⟩
theorem markK_empty (n : Nat) (w : World) (v : Value) (F : List Nat) (k : Int) (h : OwKids n w v [] F) :
    Calls Tryz.prog 109 #[v, .int .i64 k] w fun e w' => e = .returned (.int .i64 (k + (cntL (cntT n) [] : Nat))) ∧ OwKids n w' v (mkK n [] k) F ∧ Frm w w' F := by
  obtain ⟨Cs, Fs, hCl, hFl, hR, hrow, hF⟩ := h
  obtain ⟨a, cap, rfl⟩ := own_nil_shape hrow
  refine (markK_nil w a cap k).mono ?_
  rintro e w' ⟨rfl, rfl⟩
  exact ⟨by simp [cntL], ⟨Cs, Fs, hCl, hFl, hR, hrow, hF⟩, Frm.refl _ _⟩

theorem OwKids.cellsLen {n : Nat} {w : World} {C : List Value} {t : Tr n} {F : List Nat} (h : OwNode n w C t F) : C.length = 5 := by
  cases n with
  | zero => exact t.elim
  | succ n => obtain ⟨a, b, c, d, Fc, Fd, rfl, _⟩ := h; rfl
theorem nodup4 {a b c d : List Nat} (h : (a ++ b ++ c ++ d).Nodup) : (∀ g ∈ a, g ∉ b ∧ g ∉ c ∧ g ∉ d) ∧ (∀ g ∈ b, g ∉ c ∧ g ∉ d) ∧ (∀ g ∈ c, g ∉ d) ∧ c.Nodup ∧ d.Nodup := by
  have h1 := List.nodup_append.1 h
  have h2 := List.nodup_append.1 h1.1
  have h3 := List.nodup_append.1 h2.1
  refine ⟨fun g ha => ⟨fun hb => h3.2.2 g ha g hb rfl, fun hc => h2.2.2 g (List.mem_append_left _ ha) g hc rfl, fun hd => h1.2.2 g (List.mem_append_left _ (List.mem_append_left _ ha)) g hd rfl⟩,
    fun g hb => ⟨fun hc => h2.2.2 g (List.mem_append_right _ hb) g hc rfl, fun hd => h1.2.2 g (List.mem_append_left _ (List.mem_append_right _ hb)) g hd rfl⟩,
    fun g hc hd => h1.2.2 g (List.mem_append_right _ hc) g hd rfl, h2.2.1, h1.2.1⟩

set_option maxHeartbeats 6400000 in
theorem markK_succ (n : Nat) (H : MarkKSaid n) : MarkKSaid (n + 1) := by
  intro w v l F k h hF hs h0 h1
  have hml := OwElems.len h
  unfold maxLen at hml
  by_cases hl0 : l = []
  · subst hl0; exact markK_empty (n + 1) w v F k h
  obtain ⟨Cs, Fs, hCl, hFl, hR, hrow, rfl⟩ := h
  have hFv := nodup_part hF
  have hFn := (List.nodup_append.1 hF).2.1
  have hv : ∃ g cap, v = .slice (some ⟨g, 0, none⟩) l.length cap := by
    rcases hrow.2 with ⟨_, h⟩ | ⟨g, cap, cur, rfl, _⟩
    · exact absurd (List.eq_nil_of_length_eq_zero h) hl0
    · exact ⟨g, cap, rfl⟩
  obtain ⟨g, cap, rfl⟩ := hv
  have hgF : ∀ i, g ∉ Fs.getD i [] := fun i hi => hFv g (by simp [FB, Value.ownBlock]) (mem_flat hi)
  have hFB : FB (.slice (some ⟨g, 0, none⟩) l.length cap) = [g] := rfl
  rw [hFB] at hF hFv ⊢
  have HR := hide hR
  have HROW := hide hrow
  have hm' : (l.length : Int) ≤ 9223372036854775807 := by omega
  clear hR hrow hFB
  go_enter Tryz.func109, Tryz.ntmps109
  go_wp2_with fail
  go_loopw [1, 5] (fun c i wr => ∃ j : Nat, j ≤ l.length ∧ i = .int .i64 j ∧ c = .int .i64 (k + (cntL (cntT (n + 1)) (l.take j) : Nat)) ∧ ∃ Ds : List (List Value), Ds.length = l.length ∧ wr.ownsRow 0 61 5 (.slice (some ⟨g, 0, none⟩) l.length cap) l.length Ds.flatten ∧
      (∀ i (hi : i < (mkK (n + 1) l k).length), i < j → OwNode (n + 1) wr (Ds.getD i []) (mkK (n + 1) l k)[i] (Fs.getD i [])) ∧ (∀ i (hi : i < l.length), j ≤ i → OwNode (n + 1) wr (Ds.getD i []) l[i] (Fs.getD i [])) ∧ Frm w wr ([g] ++ Fs.flatten)) (fun _ i _ => l.length - (intOf i).toNat)
  case atStart => exact ⟨0, Nat.zero_le _, rfl, by simp [cntL], Cs, hCl, unhide HROW, fun i hi hj => by omega, fun i hi _ => (unhide HR i hi).2, Frm.refl _ _⟩
  case round =>
    obtain ⟨j, hj, rfl, rfl, Ds, hDl, hr, hdone, htodo, hf⟩ := hrel
    have hD : ∀ i, i < Ds.length → (Ds.getD i []).length = 5 := fun i hi => by
      by_cases hij : i < j
      · exact OwKids.cellsLen (hdone i (by rw [mkK_len]; omega) hij)
      · exact OwKids.cellsLen (htodo i (by omega) (by omega))
    by_cases hjl : j < l.length
    · obtain ⟨a, b, c, d, Fc, Fd, hab, hk1, hk2, ha, hb, hc, hd, hFj⟩ := htodo j hjl (Nat.le_refl _)
      have hct := cntL_take (cntT (n + 1)) l j hjl
      have hcl := cntL_le (cntT (n + 1)) l (j + 1)
      have hcs := cntT_succ n l[j]
      have hat := mkK_at (n + 1) l k j hjl (by rw [mkK_len]; exact hjl)
      obtain ⟨x, hx⟩ : ∃ x, x = l[j] := ⟨_, rfl⟩
      rw [← hx] at ha hb hc hd hct hcs hat hab hk1 hk2
      obtain ⟨q, hq⟩ : ∃ q : Int, q = k + (cntL (cntT (n + 1)) (l.take j) : Nat) := ⟨_, rfl⟩
      rw [← hq] at hat ⊢
      have hq0 : 0 ≤ q := by omega
      have hq1 : q + (1 + cntT (n + 1) x : Nat) ≤ 800000000 := by omega
      rw [hcs] at hq1
      obtain ⟨pa, ca, rfl, _, _⟩ := ha.byt.shape
      obtain ⟨pb, cb, rfl, _, _⟩ := hb.byt.shape
      obtain ⟨pc, cc, rfl, _, _⟩ := Elems.shape (OwAttrs.rd hc)
      obtain ⟨pd, cd, rfl, _, _⟩ := Elems.shape (OwKids.rd hd)
      have hFjn := nodup_at (i := j) hFn
      rw [hFj] at hFjn
      obtain ⟨na, nb', nc', hFcn, hFdn⟩ := nodup4 hFjn
      have e0 := own_cellAt hr hD hDl j 0 hjl (by omega)
      rw [hab] at e0
      simp only [List.getElem?_cons_zero, Nat.add_zero] at e0
      have f0 := hr.frozenAt (j * 5)
      have hst := hr.stored (j * 5) (.int .i64 q)
      rw [← flat_set Ds 5 (by omega) hD j (by omega)] at hst
      rw [hab, List.set_cons_zero] at hst
      obtain ⟨Es, hEs⟩ : ∃ Es, Es = Ds.set j [.int .i64 q, .slice pa x.name.length ca, .slice pb x.text.length cb, .slice pc x.attrs.length cc, .slice pd x.kids.length cd] := ⟨_, rfl⟩
      rw [← hEs] at hst
      have hEl : Es.length = l.length := by rw [hEs]; simpa using hDl
      have hEj : Es.getD j [] = [.int .i64 q, .slice pa x.name.length ca, .slice pb x.text.length cb, .slice pc x.attrs.length cc, .slice pd x.kids.length cd] := by rw [hEs]; simp [List.getD_eq_getElem?_getD, show j < Ds.length by omega]
      have hEo : ∀ i, i ≠ j → Es.getD i [] = Ds.getD i [] := fun i hi => by rw [hEs]; simp [List.getD_eq_getElem?_getD, Ne.symm hi]
      have hE : ∀ i, i < Es.length → (Es.getD i []).length = 5 := fun i hi => by
        by_cases e : i = j
        · rw [e, hEj]; rfl
        · rw [hEo i e]; exact hD i (by omega)
      obtain ⟨r1, hg1⟩ := hst
      have F1 : Frm wr (wr.setCell ⟨g, j * 5, none⟩ (.int .i64 q)) [g] := Frm.ofGrown hg1
      have c1 := own_cellAt r1 hE hEl j 1 hjl (by omega)
      rw [hEj] at c1
      simp only [List.getElem?_cons_zero, List.getElem?_cons_succ] at c1
      have HX := hide hx
      have HQ := hide hq
      have HT := hide hat
      have HCT := hide hct
      have HCS := hide hcs
      have HFJ := hide hFj
      have HDN := hide hdone
      have HTD := hide htodo
      have HEJ := hide hEj
      have hx1 : x.name.length ≤ 4194304 := by omega
      have hx2 : x.text.length ≤ 4194304 := by omega
      have hx3 : cntA x.attrs ≤ 4194304 := by omega
      have hx4 : cntL (cntT n) x.kids ≤ 4194304 := by omega
      have hxs : x.name.length + x.text.length + cntA x.attrs + cntL (cntT n) x.kids ≤ 4194304 := by omega
      have hjl' : (j : Int) < (l.length : Int) := by omega
      have hgj : ∀ p ∈ FB (.slice (some ⟨g, 0, none⟩) l.length cap), p ∉ Fs.getD j [] := fun p hp => by
        have : p = g := by simpa [FB, Value.ownBlock] using hp
        rw [this]; exact hgF j
      have hgn : g ∉ Fs.getD j [] := hgF j
      rw [unhide HFJ] at hgn hgj
      simp only [List.mem_append, not_or] at hgn hgj
      obtain ⟨⟨⟨hga, hgb⟩, hgc⟩, hgd⟩ := hgn
      have ha1 := ha.frm F1 (fun p hp hp' => by simp at hp'; subst hp'; exact hga hp)
      have hb1 := hb.frm F1 (fun p hp hp' => by simp at hp'; subst hp'; exact hgb hp)
      have hc1 := OwAttrs.frm hc F1 (fun p hp hp' => by simp at hp'; subst hp'; exact hgc hp)
      have hd1 := OwKids.frm hd F1 (fun p hp hp' => by simp at hp'; subst hp'; exact hgd hp)
      clear hx hq hat hct hcs hFj hdone htodo hcl hr hEj hEs hab ha hb hc hd hFjn
      go_wp2_with fail
      generalize wr.setCell ⟨g, j * 5, none⟩ (.int .i64 q) = w1 at *
      clear e0 f0 c1 hg1
      refine (markB_any w1 0 _ x.name (q + 1) ha1 (Nat.le_trans hx1 (by decide)) (by omega) (by omega)).mono ?_
      rintro e w2 ⟨rfl, ha2, hg2⟩
      have F2 := own_grown_frm hg2
      have r2 := ownsRow_frm r1 F2 (fun p hp hp' => (hgj p hp).1.1.1 hp')
      have hb2 := hb1.frm F2 (fun p hp hp' => (na p hp').1 hp)
      have hc2 := OwAttrs.frm hc1 F2 (fun p hp hp' => (na p hp').2.1 hp)
      have hd2 := OwKids.frm hd1 F2 (fun p hp hp' => (na p hp').2.2 hp)
      have c2 := own_cellAt r2 hE hEl j 2 hjl (by omega)
      rw [unhide HEJ] at c2
      simp only [List.getElem?_cons_zero, List.getElem?_cons_succ] at c2
      clear ha1 hb1 hc1 hd1 hg2
      go_wp2_with fail
      clear c2
      refine (markB_any w2 0 _ x.text (q + 1 + (x.name.length : Nat)) hb2 (Nat.le_trans hx2 (by decide)) (by omega) (by omega)).mono ?_
      rintro e w3 ⟨rfl, hb3, hg3⟩
      have F3 := own_grown_frm hg3
      have r3 := ownsRow_frm r2 F3 (fun p hp hp' => (hgj p hp).1.1.2 hp')
      have ha3 := ha2.frm F3 (fun p hp hp' => (na p hp).1 hp')
      have hc3 := OwAttrs.frm hc2 F3 (fun p hp hp' => (nb' p hp').1 hp)
      have hd3 := OwKids.frm hd2 F3 (fun p hp hp' => (nb' p hp').2 hp)
      have c3 := own_cellAt r3 hE hEl j 3 hjl (by omega)
      rw [unhide HEJ] at c3
      simp only [List.getElem?_cons_zero, List.getElem?_cons_succ] at c3
      clear ha2 hb2 hc2 hd2 hg3
      go_wp2_with fail
      clear c3
      refine (markA_any w3 _ x.attrs Fc (q + 1 + (x.name.length : Nat) + (x.text.length : Nat)) hc3 hFcn hx3 (by omega) (by omega)).mono ?_
      rintro e w4 ⟨rfl, hc4, F4⟩
      have r4 := ownsRow_frm r3 F4 (fun p hp hp' => (hgj p hp).1.2 hp')
      have ha4 := ha3.frm F4 (fun p hp hp' => (na p hp).2.1 hp')
      have hb4 := hb3.frm F4 (fun p hp hp' => (nb' p hp).1 hp')
      have hd4 := OwKids.frm hd3 F4 (fun p hp hp' => nc' p hp' hp)
      have c4 := own_cellAt r4 hE hEl j 4 hjl (by omega)
      rw [unhide HEJ] at c4
      simp only [List.getElem?_cons_zero, List.getElem?_cons_succ] at c4
      clear ha3 hb3 hc3 hd3
      go_wp2_with fail
      clear c4
      refine (H w4 _ x.kids Fd (q + 1 + (x.name.length : Nat) + (x.text.length : Nat) + (cntA x.attrs : Nat)) hd4 hFdn hx4 (by omega) (by omega)).mono ?_
      rintro e w5 ⟨rfl, hd5, F5⟩
      have r5 := ownsRow_frm r4 F5 (fun p hp hp' => (hgj p hp).2 hp')
      have ha5 := ha4.frm F5 (fun p hp hp' => (na p hp).2.2 hp')
      have hb5 := hb4.frm F5 (fun p hp hp' => (nb' p hp).2 hp')
      have hc5 := OwAttrs.frm hc4 F5 (fun p hp hp' => nc' p hp hp')
      have FJ : Frm wr w5 ([g] ++ Fs.getD j []) := by
        have m1 : ∀ p, p ∈ FB (Value.slice pa x.name.length ca) → p ∈ [g] ++ Fs.getD j [] := fun p hp => by rw [unhide HFJ]; simp [hp]
        have m2 : ∀ p, p ∈ FB (Value.slice pb x.text.length cb) → p ∈ [g] ++ Fs.getD j [] := fun p hp => by rw [unhide HFJ]; simp [hp]
        have m3 : ∀ p, p ∈ Fc → p ∈ [g] ++ Fs.getD j [] := fun p hp => by rw [unhide HFJ]; simp [hp]
        have m4 : ∀ p, p ∈ Fd → p ∈ [g] ++ Fs.getD j [] := fun p hp => by rw [unhide HFJ]; simp [hp]
        exact ((((F1.mono (fun p hp => List.mem_append_left _ hp)).trans (F2.mono m1)).trans (F3.mono m2)).trans (F4.mono m3)).trans (F5.mono m4)
      clear ha4 hb4 hc4 hd4 F1 F2 F3 F4 F5 r1 r2 r3 r4
      go_wp2_with fail
      go_roundw
      case rel =>
        refine ⟨j + 1, by omega, by go_num, ?_, Es, hEl, r5, fun i hi hij => ?_, fun i hi hij => ?_, hf.trans (FJ.mono (fun p hp => ?_))⟩
        · rw [unhide HCT, unhide HCS, unhide HQ]; go_num
        · by_cases e : i = j
          · subst e
            rw [unhide HT, unhide HEJ]
            have hl2 : (mkK n x.kids (q + 1 + (x.name.length : Nat) + (x.text.length : Nat) + (cntA x.attrs : Nat))).length = x.kids.length := mkK_len _ _ _
            exact ⟨_, _, _, _, Fc, Fd, rfl, by show (-9223372036854775808 : Int) ≤ q; omega, by show q ≤ (9223372036854775807 : Int); omega, ha5, hb5, hc5, hd5, unhide HFJ⟩
          · rw [hEo i e]
            exact (unhide HDN i hi (by omega)).frm FJ (fun p hp hp' => by
              rcases List.mem_append.1 hp' with h | h
              · simp at h; subst h; exact hgF i hp
              · exact nodup_flat hFn e p hp h)
        · rw [hEo i (by omega)]
          exact (unhide HTD i hi (by omega)).frm FJ (fun p hp hp' => by
            rcases List.mem_append.1 hp' with h | h
            · simp at h; subst h; exact hgF i hp
            · exact nodup_flat hFn (by omega) p hp h)
        · rcases List.mem_append.1 hp with h | h
          · exact List.mem_append_left _ h
          · exact List.mem_append_right _ (mem_flat h)
      case measure => simp [intOf]; omega
    · have e : j = l.length := by omega
      subst e
      have HW := hide (show OwKids (n + 1) wr (.slice (some ⟨g, 0, none⟩) l.length cap) (mkK (n + 1) l k) ([g] ++ Fs.flatten) from
        ⟨Ds, Fs, by rw [mkK_len]; exact hDl, by rw [mkK_len]; exact hFl, fun i hi => ⟨hD i (by rw [mkK_len] at hi; omega), hdone i hi (by rw [mkK_len] at hi; exact hi)⟩, by rw [mkK_len]; exact hr, rfl⟩)
      clear hdone htodo hr hD
      go_wp2_with fail
      go_ret
      exact ⟨by first | rfl | (rw [List.take_length]; rfl), unhide HW, hf⟩
theorem markK_any (n : Nat) : MarkKSaid n := by
  induction n with
  | zero =>
    intro w v l F k h hF _ _ _
    cases l with
    | nil => exact markK_empty 0 w v F k h
    | cons x r => exact x.elim
  | succ n ih => exact markK_succ n ih
end Go.Proofs.YtkmmhlimihkgfaaGreat

/- markNode, by its contract. -/
namespace Go.Proofs.YtkmmhlimihkgfaaGreat
open Go.RowKit
set_option linter.unusedVariables false
set_option maxRecDepth 100000

/-- What is owned lies below the heap's end. -/
theorem OwElems.lt {α : Type} {w : World} {e : TypeId} {size : Nat} {v : Value} {l : List α} {R : List Value → α → List Nat → Prop} {F : List Nat} (h : OwElems w e size v l R F) (hR : ∀ C x G, R C x G → ∀ g ∈ G, g < w.heap.size) : ∀ g ∈ F, g < w.heap.size := by
  obtain ⟨Cs, Fs, h1, h2, h3, h4, rfl⟩ := h
  intro g hg
  rcases List.mem_append.1 hg with h | h
  · exact (h4.lt g (by simpa [FB] using h)).2
  · obtain ⟨G, hG, hgG⟩ := List.mem_flatten.1 h
    obtain ⟨i, hi, rfl⟩ := List.getElem_of_mem hG
    have := (h3 i (by omega)).2
    rw [show Fs.getD i [] = Fs[i] by simp [hi]] at this
    exact hR _ _ _ this g hgG
theorem OwAttr.lt {w : World} {C : List Value} {x : List Int × List Int} {G : List Nat} (h : OwAttr w C x G) : ∀ g ∈ G, g < w.heap.size := by
  obtain ⟨a, b, _, h1, h2, rfl⟩ := h
  intro g hg
  rcases List.mem_append.1 hg with h | h
  · exact (h1.lt g (by simpa [FB] using h)).2
  · exact (h2.lt g (by simpa [FB] using h)).2
theorem OwAttrs.lt {w : World} {v : Value} {l : List (List Int × List Int)} {F : List Nat} (h : OwAttrs w v l F) : ∀ g ∈ F, g < w.heap.size := OwElems.lt h (fun _ _ _ hr => hr.lt)
theorem OwNode.lt : ∀ {n : Nat} {w : World} {C : List Value} {t : Tr n} {F : List Nat}, OwNode n w C t F → ∀ g ∈ F, g < w.heap.size
  | 0, _, _, t, _, _ => t.elim
  | n + 1, w, C, t, F, ⟨a, b, c, d, Fc, Fd, _, _, _, ha, hb, hc, hd, hF⟩ => by
    subst hF
    intro g hg
    rcases List.mem_append.1 hg with h | h
    · rcases List.mem_append.1 h with h | h
      · rcases List.mem_append.1 h with h | h
        · exact (ha.lt g (by simpa [FB] using h)).2
        · exact (hb.lt g (by simpa [FB] using h)).2
      · exact hc.lt g h
    · exact OwElems.lt hd (fun _ _ _ hr => OwNode.lt hr) g h

set_option maxHeartbeats 3200000 in
/-- markNode. -/
theorem markN_any (n : Nat) (w : World) (a0 a b c d : Value) (t : Tr (n + 1)) (F : List Nat) (k : Int) (h : OwNode (n + 1) w [a0, a, b, c, d] t F) (hF : F.Nodup) (hs : cntT (n + 1) t ≤ 4194304) (h0 : 0 ≤ k) (h1 : k + (cntT (n + 1) t : Nat) ≤ 800000000) :
    Calls Tryz.prog 70 #[.agg #[a0, a, b, c, d], .int .i64 k] w fun e w' => e = .returned (.int .i64 (k + (cntT (n + 1) t : Nat))) ∧ OwNode (n + 1) w' [a0, a, b, c, d] (mkT' (n + 1) t k) F ∧ Frm w w' F := by
  obtain ⟨_, _, _, _, Fc, Fd, e0, hk1, hk2, ha, hb, hc, hd, rfl⟩ := h
  simp only [List.cons.injEq, and_true] at e0
  obtain ⟨rfl, rfl, rfl, rfl, rfl⟩ := e0
  have hcs := cntT_succ n t
  rw [hcs] at hs h1 ⊢
  obtain ⟨na, nb', nc', hFcn, hFdn⟩ := nodup4 hF
  obtain ⟨pa, ca, rfl, _, _⟩ := ha.byt.shape
  obtain ⟨pb, cb, rfl, _, _⟩ := hb.byt.shape
  obtain ⟨pc, cc, rfl, _, _⟩ := Elems.shape (OwAttrs.rd hc)
  obtain ⟨pd, cd, rfl, _, _⟩ := Elems.shape (OwKids.rd hd)
  have hB1 : Below w.heap.size w (w.alloc (.cells #[.int .i64 t.kind, .slice pa t.name.length ca, .slice pb t.text.length cb, .slice pc t.attrs.length cc, .slice pd t.kids.length cd] 61)) := (Below.refl _ _).alloc (Nat.le_refl _) _
  have l1 := Loc.made w #[.int .i64 t.kind, .slice pa t.name.length ca, .slice pb t.text.length cb, .slice pc t.attrs.length cc, .slice pd t.kids.length cd] 61
  have F1 := fun S => Frm.ofBelow hB1 S
  have ha1 := ha.keep hB1
  have hb1 := hb.keep hB1
  have hc1 := OwAttrs.frm hc (F1 []) (fun _ _ => by simp)
  have hd1 := OwKids.frm hd (F1 []) (fun _ _ => by simp)
  have hqa : ∀ p ∈ FB (.slice pa t.name.length ca), p < w.heap.size := fun p hp => (ha.lt p (by simpa [FB] using hp)).2
  have hqb : ∀ p ∈ FB (.slice pb t.text.length cb), p < w.heap.size := fun p hp => (hb.lt p (by simpa [FB] using hp)).2
  have hx1 : t.name.length ≤ 4194304 := by omega
  have hx2 : t.text.length ≤ 4194304 := by omega
  have hx3 : cntA t.attrs ≤ 4194304 := by omega
  have hx4 : cntL (cntT n) t.kids ≤ 4194304 := by omega
  have hqc := hc.lt
  clear ha hb hc hd hF hcs
  go_enter Tryz.func70, Tryz.ntmps70
  go_wp2_with fail
  generalize (w.alloc (.cells #[.int .i64 t.kind, .slice pa t.name.length ca, .slice pb t.text.length cb, .slice pc t.attrs.length cc, .slice pd t.kids.length cd] 61)) = w1 at *
  refine (markB_any w1 0 _ t.name k ha1 (Nat.le_trans hx1 (by decide)) h0 (by omega)).mono ?_
  rintro e w2 ⟨rfl, ha2, hg2⟩
  have F2 := own_grown_frm hg2
  have l2 := l1.frm F2 (fun hp => by have := hqa _ hp; omega)
  have hb2 := hb1.frm F2 (fun p hp hp' => (na p hp').1 hp)
  have hc2 := OwAttrs.frm hc1 F2 (fun p hp hp' => (na p hp').2.1 hp)
  have hd2 := OwKids.frm hd1 F2 (fun p hp hp' => (na p hp').2.2 hp)
  obtain ⟨x0, x1, x2, x3, x4⟩ := l2.five
  go_wp2_with fail
  refine (markB_any w2 0 _ t.text (k + (t.name.length : Nat)) hb2 (Nat.le_trans hx2 (by decide)) (by omega) (by omega)).mono ?_
  rintro e w3 ⟨rfl, hb3, hg3⟩
  have F3 := own_grown_frm hg3
  have l3 := l2.frm F3 (fun hp => by have := hqb _ hp; omega)
  have ha3 := ha2.frm F3 (fun p hp hp' => (na p hp).1 hp')
  have hc3 := OwAttrs.frm hc2 F3 (fun p hp hp' => (nb' p hp').1 hp)
  have hd3 := OwKids.frm hd2 F3 (fun p hp hp' => (nb' p hp').2 hp)
  clear x0 x1 x2 x3 x4
  obtain ⟨x0, x1, x2, x3, x4⟩ := l3.five
  go_wp2_with fail
  refine (markA_any w3 _ t.attrs Fc (k + (t.name.length : Nat) + (t.text.length : Nat)) hc3 hFcn hx3 (by omega) (by omega)).mono ?_
  rintro e w4 ⟨rfl, hc4, F4⟩
  have l4 := l3.frm F4 (fun hp => by have := hqc _ hp; omega)
  have ha4 := ha3.frm F4 (fun p hp hp' => (na p hp).2.1 hp')
  have hb4 := hb3.frm F4 (fun p hp hp' => (nb' p hp).1 hp')
  have hd4 := OwKids.frm hd3 F4 (fun p hp hp' => nc' p hp' hp)
  clear x0 x1 x2 x3 x4
  obtain ⟨x0, x1, x2, x3, x4⟩ := l4.five
  go_wp2_with fail
  refine (markK_any n w4 _ t.kids Fd (k + (t.name.length : Nat) + (t.text.length : Nat) + (cntA t.attrs : Nat)) hd4 hFdn hx4 (by omega) (by omega)).mono ?_
  rintro e w5 ⟨rfl, hd5, F5⟩
  have ha5 := ha4.frm F5 (fun p hp hp' => (na p hp).2.2 hp')
  have hb5 := hb4.frm F5 (fun p hp hp' => (nb' p hp).2 hp')
  have hc5 := OwAttrs.frm hc4 F5 (fun p hp hp' => nc' p hp hp')
  go_wp2_with fail
  go_ret
  refine ⟨?_, ⟨_, _, _, _, Fc, Fd, rfl, hk1, hk2, ha5, hb5, hc5, hd5, rfl⟩, ?_⟩
  · refine ret_i64 ?_; omega
  · exact ((((F1 _).trans (F2.mono (fun p hp => by simp [hp]))).trans (F3.mono (fun p hp => by simp [hp]))).trans (F4.mono (fun p hp => by simp [hp]))).trans (F5.mono (fun p hp => by simp [hp]))
end Go.Proofs.YtkmmhlimihkgfaaGreat

/- The laws' own helper that looks for a count in attributes, by its contract. -/
namespace Go.Proofs.YtkmmhlimihkgfaaGreat
open Go.RowKit
set_option linter.unusedVariables false
set_option maxRecDepth 100000

set_option maxHeartbeats 3200000 in
theorem heldA_any (w : World) (v : Value) (l : List (List Int × List Int)) (k : Int) (h : RdAttrs w v (mkA l k)) (hs : cntA l ≤ 4194304) (h0 : 0 ≤ k) (h1 : k ≤ 900000000) :
    Calls Tryz.prog 110 #[v, .int .i64 k] w fun e w' => e = .returned (.int .i64 (k + (cntA l : Nat))) ∧ w' = w := by
  have hml := h.1
  rw [mkA_len] at hml
  unfold maxLen at hml
  obtain ⟨a, cap, rfl, _, _⟩ := Elems.shape h
  rw [mkA_len] at h ⊢
  have hm' : (l.length : Int) ≤ 9223372036854775807 := by omega
  go_enter Tryz.func110, Tryz.ntmps110
  go_wp2_with fail
  go_loop [1, 5] (fun c i => ∃ j : Nat, j ≤ l.length ∧ i = .int .i64 j ∧ c = .int .i64 (k + (cntA (l.take j) : Nat))) (fun _ i => l.length - (intOf i).toNat)
  case atStart => exact ⟨0, Nat.zero_le _, rfl, by simp [cntA]⟩
  case round =>
    obtain ⟨j, hj, rfl, rfl⟩ := hrel
    by_cases hjl : j < l.length
    · have hat := mkA_at l k j hjl (by rw [mkA_len]; exact hjl)
      obtain ⟨b, off, rfl, hbl, hun, _, C, hC, hc, hr⟩ := h.at (k := j) (by rw [mkA_len]; exact hjl)
      clear hun
      rw [hat] at hr
      obtain ⟨v0, v1, rfl, hb0, hb1⟩ := hr
      have e0 := hc 0 (by omega)
      have e1 := hc 1 (by omega)
      simp only [List.getElem?_cons_zero, List.getElem?_cons_succ, Nat.add_zero] at e0 e1
      have hct := cntA_take l j hjl
      have hcl := cntA_le l (j + 1)
      obtain ⟨x, hx⟩ : ∃ x, x = l[j] := ⟨_, rfl⟩
      obtain ⟨q, hq⟩ : ∃ q : Int, q = k + (cntA (l.take j) : Nat) := ⟨_, rfl⟩
      rw [← hx] at hct hb0 hb1
      rw [← hq] at hb0 hb1 ⊢
      have hq0 : 0 ≤ q := by omega
      have hq1 : q ≤ 904194304 := by omega
      have hx1 : x.1.length ≤ 4194304 := by omega
      have hx2 : x.2.length ≤ 4194304 := by omega
      simp only at hb0 hb1
      obtain ⟨p0, k0, rfl, _, _⟩ := hb0.shape
      obtain ⟨p1, k1, rfl, _, _⟩ := hb1.shape
      rw [marks_len] at e0 e1 hb0 hb1
      have HQ := hide hq
      have HCT := hide hct
      have hjl' : (j : Int) < (l.length : Int) := by omega
      have d1 : decide (q + (x.1.length : Int) < 0) = false := by simp; omega
      have d2 : decide (q + (x.1.length : Int) + (x.2.length : Int) < 0) = false := by simp; omega
      have H0 := hide hb0
      have H1 := hide hb1
      clear hq hx hat hct hcl hb0 hb1 h hc
      go_wp2_with fail
      refine (heldB_any w _ x.1.length q (unhide H0) (Nat.le_trans hx1 (by decide)) hq0 (by omega)).mono ?_
      rintro e w ⟨rfl, rfl⟩
      go_wp2_with fail
      refine (heldB_any w _ x.2.length (q + (x.1.length : Nat)) (unhide H1) (Nat.le_trans hx2 (by decide)) (by omega) (by omega)).mono ?_
      rintro e w ⟨rfl, rfl⟩
      go_wp2_with fail
      go_round
      case rel => exact ⟨j + 1, by omega, by go_num, by rw [unhide HCT, unhide HQ]; go_num⟩
      case measure => simp [intOf]; omega
    · have e : j = l.length := by omega
      subst e
      clear h
      go_wp2_with fail
      go_ret
      exact ⟨rfl, rfl⟩
end Go.Proofs.YtkmmhlimihkgfaaGreat

/- The laws' own helpers that look for a count in trees, by their contracts; markNode and heldNode. -/
namespace Go.Proofs.YtkmmhlimihkgfaaGreat
open Go.RowKit
set_option linter.unusedVariables false
set_option maxRecDepth 100000

def HeldKSaid (n : Nat) : Prop := ∀ (w : World) (v : Value) (l : List (Tr n)) (k : Int), RdKids n w v (mkK n l k) → cntL (cntT n) l ≤ 4194304 → 0 ≤ k → k + (cntL (cntT n) l : Nat) ≤ 800000000 →
    Calls Tryz.prog 111 #[v, .int .i64 k] w fun e w' => e = .returned (.int .i64 (k + (cntL (cntT n) l : Nat))) ∧ w' = w

theorem heldK_nil (w : World) (a : Option Addr) (cap : Nat) (k : Int) :
    Calls Tryz.prog 111 #[.slice a 0 cap, .int .i64 k] w fun e w' => e = .returned (.int .i64 k) ∧ w' = w := by
  go_enter Tryz.func111, Tryz.ntmps111
  go_wp2_with fail
  refine wp_loop_rounds 1 ?_
  rw [rounds_succ]
  go_wp2_with fail
  go_ret
  exact ⟨rfl, rfl⟩
theorem heldK_empty (n : Nat) (w : World) (v : Value) (k : Int) (h : RdKids n w v (mkK n [] k)) :
    Calls Tryz.prog 111 #[v, .int .i64 k] w fun e w' => e = .returned (.int .i64 (k + (cntL (cntT n) [] : Nat))) ∧ w' = w := by
  obtain ⟨a, cap, rfl, _⟩ := Elems.shape h
  rw [mkK_len]
  refine (heldK_nil w a cap k).mono ?_
  rintro e w' ⟨rfl, rfl⟩
  exact ⟨by simp [cntL], rfl⟩

set_option maxHeartbeats 6400000 in
theorem heldK_succ (n : Nat) (H : HeldKSaid n) : HeldKSaid (n + 1) := by
  intro w v l k h hs h0 h1
  have hml := h.1
  rw [mkK_len] at hml
  unfold maxLen at hml
  obtain ⟨a, cap, rfl, _, _⟩ := Elems.shape h
  rw [mkK_len] at h ⊢
  have hm' : (l.length : Int) ≤ 9223372036854775807 := by omega
  go_enter Tryz.func111, Tryz.ntmps111
  go_wp2_with fail
  go_loop [1, 5] (fun c i => ∃ j : Nat, j ≤ l.length ∧ i = .int .i64 j ∧ c = .int .i64 (k + (cntL (cntT (n + 1)) (l.take j) : Nat))) (fun _ i => l.length - (intOf i).toNat)
  case atStart => exact ⟨0, Nat.zero_le _, rfl, by simp [cntL]⟩
  case round =>
    obtain ⟨j, hj, rfl, rfl⟩ := hrel
    by_cases hjl : j < l.length
    · have hat := mkK_at (n + 1) l k j hjl (by rw [mkK_len]; exact hjl)
      obtain ⟨b, off, rfl, hbl, hun, _, C, hC, hc, hr⟩ := h.at (k := j) (by rw [mkK_len]; exact hjl)
      clear hun
      rw [hat] at hr
      have hct := cntL_take (cntT (n + 1)) l j hjl
      have hcl := cntL_le (cntT (n + 1)) l (j + 1)
      have hcs := cntT_succ n l[j]
      obtain ⟨x, hx⟩ : ∃ x, x = l[j] := ⟨_, rfl⟩
      obtain ⟨q, hq⟩ : ∃ q : Int, q = k + (cntL (cntT (n + 1)) (l.take j) : Nat) := ⟨_, rfl⟩
      rw [← hx] at hct hcs hr
      rw [← hq] at hr ⊢
      have hq0 : 0 ≤ q := by omega
      have hq1 : q + (1 + cntT (n + 1) x : Nat) ≤ 800000000 := by omega
      rw [hcs] at hq1
      obtain ⟨v1, v2, v3, v4, rfl, _, _, hb1, hb2, hb3, hb4⟩ := hr
      replace hb1 : Byt w v1 (marks (q + 1) x.name.length) := hb1
      replace hb2 : Byt w v2 (marks (q + 1 + (x.name.length : Nat)) x.text.length) := hb2
      replace hb3 : RdAttrs w v3 (mkA x.attrs (q + 1 + (x.name.length : Nat) + (x.text.length : Nat))) := hb3
      replace hb4 : RdKids n w v4 (mkK n x.kids (q + 1 + (x.name.length : Nat) + (x.text.length : Nat) + (cntA x.attrs : Nat))) := hb4
      have c0 : w.cell? ⟨b, off + j * 5, none⟩ = some (.int .i64 q) := hc 0 (by omega)
      have c1 := hc 1 (by omega)
      have c2 := hc 2 (by omega)
      have c3 := hc 3 (by omega)
      have c4 := hc 4 (by omega)
      simp only [List.getElem?_cons_zero, List.getElem?_cons_succ] at c1 c2 c3 c4
      obtain ⟨p1, k1, hv1, _, _⟩ := hb1.shape
      obtain ⟨p2, k2, hv2, _, _⟩ := hb2.shape
      obtain ⟨p3, k3, hv3, _, _⟩ := Elems.shape hb3
      obtain ⟨p4, k4, hv4, _, _⟩ := Elems.shape hb4
      rw [marks_len] at hv1 hv2
      rw [mkA_len] at hv3
      rw [mkK_len] at hv4
      subst hv1 hv2 hv3 hv4
      have HQ := hide hq
      have HCT := hide hct
      have HCS := hide hcs
      have H1 := hide hb1
      have H2 := hide hb2
      have H3 := hide hb3
      have H4 := hide hb4
      have hx1 : x.name.length ≤ 4194304 := by omega
      have hx2 : x.text.length ≤ 4194304 := by omega
      have hx3 : cntA x.attrs ≤ 4194304 := by omega
      have hx4 : cntL (cntT n) x.kids ≤ 4194304 := by omega
      have hjl' : (j : Int) < (l.length : Int) := by omega
      have dq : (q != q) = false := by simp
      clear hq hct hcs hx hat hcl hb1 hb2 hb3 hb4 h hc
      generalize x.attrs.length = nat3 at *
      generalize x.kids.length = nk4 at *
      obtain ⟨s1, hs1⟩ : ∃ s1 : Int, s1 = q + 1 + (x.name.length : Nat) := ⟨_, rfl⟩
      obtain ⟨s2, hs2⟩ : ∃ s2 : Int, s2 = s1 + (x.text.length : Nat) := ⟨_, rfl⟩
      obtain ⟨s3, hs3⟩ : ∃ s3 : Int, s3 = s2 + (cntA x.attrs : Nat) := ⟨_, rfl⟩
      obtain ⟨s4, hs4⟩ : ∃ s4 : Int, s4 = s3 + (cntL (cntT n) x.kids : Nat) := ⟨_, rfl⟩
      rw [← hs1] at H2 H3 H4
      rw [← hs2] at H3 H4
      rw [← hs3] at H4
      have b1 : 0 ≤ s1 ∧ s1 ≤ 800000000 := by omega
      have b2 : 0 ≤ s2 ∧ s2 ≤ 800000000 := by omega
      have b3 : 0 ≤ s3 ∧ s3 + (cntL (cntT n) x.kids : Nat) ≤ 800000000 := by omega
      have b4 : 0 ≤ s4 := by omega
      have d1 : decide (s1 < 0) = false := by simp; omega
      have d2 : decide (s2 < 0) = false := by simp; omega
      have d3 : decide (s3 < 0) = false := by simp; omega
      have d4 : decide (s4 < 0) = false := by simp; omega
      have HS := hide (And.intro hs1 (And.intro hs2 (And.intro hs3 hs4)))
      clear hs1 hs2 hs3 hs4
      go_wp2_with fail
      refine (heldB_any w _ x.name.length (q + 1) (unhide H1) (Nat.le_trans hx1 (by decide)) (by omega) (by omega)).mono ?_
      rintro e w ⟨rfl, rfl⟩
      rw [← (unhide HS).1]
      go_wp2_with fail
      refine (heldB_any w _ x.text.length s1 (unhide H2) (Nat.le_trans hx2 (by decide)) b1.1 (by omega)).mono ?_
      rintro e w ⟨rfl, rfl⟩
      rw [← (unhide HS).2.1]
      go_wp2_with fail
      refine (heldA_any w _ x.attrs s2 (unhide H3) hx3 b2.1 (by omega)).mono ?_
      rintro e w ⟨rfl, rfl⟩
      rw [← (unhide HS).2.2.1]
      go_wp2_with fail
      refine (H w _ x.kids s3 (unhide H4) hx4 b3.1 b3.2).mono ?_
      rintro e w ⟨rfl, rfl⟩
      rw [← (unhide HS).2.2.2]
      go_wp2_with fail
      go_round
      case rel =>
        refine ⟨j + 1, by omega, by go_num, ?_⟩
        obtain ⟨e1, e2, e3, e4⟩ := unhide HS
        rw [unhide HCT, unhide HCS]
        have := unhide HQ
        congr 1
        omega
      case measure => simp [intOf]; omega
    · have e : j = l.length := by omega
      subst e
      clear h
      go_wp2_with fail
      go_ret
      exact ⟨rfl, rfl⟩
theorem heldK_any (n : Nat) : HeldKSaid n := by
  induction n with
  | zero =>
    intro w v l k h _ _ _
    cases l with
    | nil => exact heldK_empty 0 w v k h
    | cons x r => exact x.elim
  | succ n ih => exact heldK_succ n ih

end Go.Proofs.YtkmmhlimihkgfaaGreat

/- heldNode, by its contract. -/
namespace Go.Proofs.YtkmmhlimihkgfaaGreat
open Go.RowKit
set_option linter.unusedVariables false
set_option maxRecDepth 100000

set_option maxHeartbeats 3200000 in
/-- heldNode. -/
theorem heldN_any (n : Nat) (w : World) (a0 a b c d : Value) (t : Tr (n + 1)) (k : Int) (h : RdNode (n + 1) w [a0, a, b, c, d] (mkT' (n + 1) t k)) (hs : cntT (n + 1) t ≤ 4194304) (h0 : 0 ≤ k) (h1 : k + (cntT (n + 1) t : Nat) ≤ 800000000) :
    Calls Tryz.prog 72 #[.agg #[a0, a, b, c, d], .int .i64 k] w fun e w' => e = .returned (.int .i64 (k + (cntT (n + 1) t : Nat))) ∧ Below w.heap.size w w' := by
  obtain ⟨_, _, _, _, e0, hk1, hk2, ha, hb, hc, hd⟩ := h
  simp only [List.cons.injEq, and_true] at e0
  obtain ⟨rfl, rfl, rfl, rfl, rfl⟩ := e0
  replace ha : Byt w a (marks k t.name.length) := ha
  replace hb : Byt w b (marks (k + (t.name.length : Nat)) t.text.length) := hb
  replace hc : RdAttrs w c (mkA t.attrs (k + (t.name.length : Nat) + (t.text.length : Nat))) := hc
  replace hd : RdKids n w d (mkK n t.kids (k + (t.name.length : Nat) + (t.text.length : Nat) + (cntA t.attrs : Nat))) := hd
  obtain ⟨z, hz⟩ : ∃ z, z = (mkT' (n + 1) t k).kind := ⟨_, rfl⟩
  rw [← hz]
  clear hz hk1 hk2
  have hcs := cntT_succ n t
  rw [hcs] at hs h1 ⊢
  obtain ⟨p1, k1, hv1, _, _⟩ := ha.shape
  obtain ⟨p2, k2, hv2, _, _⟩ := hb.shape
  obtain ⟨p3, k3, hv3, _, _⟩ := Elems.shape hc
  obtain ⟨p4, k4, hv4, _, _⟩ := Elems.shape hd
  rw [marks_len] at hv1 hv2
  rw [mkA_len] at hv3
  rw [mkK_len] at hv4
  subst hv1 hv2 hv3 hv4
  have hx1 : t.name.length ≤ 4194304 := by omega
  have hx2 : t.text.length ≤ 4194304 := by omega
  have hx3 : cntA t.attrs ≤ 4194304 := by omega
  have hx4 : cntL (cntT n) t.kids ≤ 4194304 := by omega
  have hB1 : Below w.heap.size w (w.alloc (.cells #[.int .i64 z, .slice p1 t.name.length k1, .slice p2 t.text.length k2, .slice p3 t.attrs.length k3, .slice p4 t.kids.length k4] 61)) := (Below.refl _ _).alloc (Nat.le_refl _) _
  have l1 := Loc.made w #[.int .i64 z, .slice p1 t.name.length k1, .slice p2 t.text.length k2, .slice p3 t.attrs.length k3, .slice p4 t.kids.length k4] 61
  obtain ⟨s1, hs1⟩ : ∃ s1 : Int, s1 = k + (t.name.length : Nat) := ⟨_, rfl⟩
  obtain ⟨s2, hs2⟩ : ∃ s2 : Int, s2 = s1 + (t.text.length : Nat) := ⟨_, rfl⟩
  obtain ⟨s3, hs3⟩ : ∃ s3 : Int, s3 = s2 + (cntA t.attrs : Nat) := ⟨_, rfl⟩
  obtain ⟨s4, hs4⟩ : ∃ s4 : Int, s4 = s3 + (cntL (cntT n) t.kids : Nat) := ⟨_, rfl⟩
  rw [← hs1] at hb hc hd
  rw [← hs2] at hc hd
  rw [← hs3] at hd
  have b1 : 0 ≤ s1 ∧ s1 ≤ 800000000 := by omega
  have b2 : 0 ≤ s2 ∧ s2 ≤ 800000000 := by omega
  have b3 : 0 ≤ s3 ∧ s3 + (cntL (cntT n) t.kids : Nat) ≤ 800000000 := by omega
  have b4 : 0 ≤ s4 := by omega
  have d1 : decide (s1 < 0) = false := by simp; omega
  have d2 : decide (s2 < 0) = false := by simp; omega
  have d3 : decide (s3 < 0) = false := by simp; omega
  have d4 : decide (s4 < 0) = false := by simp; omega
  have hk9 : k ≤ 1000000000 := by omega
  have HS := hide (And.intro hs1 (And.intro hs2 (And.intro hs3 hs4)))
  clear hs1 hs2 hs3 hs4 hcs
  go_enter Tryz.func72, Tryz.ntmps72
  go_wp2_with fail
  generalize (w.alloc (.cells #[.int .i64 z, .slice p1 t.name.length k1, .slice p2 t.text.length k2, .slice p3 t.attrs.length k3, .slice p4 t.kids.length k4] 61)) = w1 at *
  obtain ⟨x0, x1, x2, x3, x4⟩ := l1.five
  refine (heldB_any w1 _ t.name.length k (ha.keep hB1) (Nat.le_trans hx1 (by decide)) h0 hk9).mono ?_
  rintro e w1 ⟨rfl, rfl⟩
  rw [← (unhide HS).1]
  go_wp2_with fail
  refine (heldB_any w1 _ t.text.length s1 (hb.keep hB1) (Nat.le_trans hx2 (by decide)) b1.1 (by omega)).mono ?_
  rintro e w1 ⟨rfl, rfl⟩
  rw [← (unhide HS).2.1]
  go_wp2_with fail
  refine (heldA_any w1 _ t.attrs s2 (hc.keep hB1) hx3 b2.1 (by omega)).mono ?_
  rintro e w1 ⟨rfl, rfl⟩
  rw [← (unhide HS).2.2.1]
  go_wp2_with fail
  refine (heldK_any n w1 _ t.kids s3 (RdKids.keep hd hB1) hx4 b3.1 b3.2).mono ?_
  rintro e w1 ⟨rfl, rfl⟩
  rw [← (unhide HS).2.2.2]
  go_wp2_with fail
  go_ret
  refine ⟨?_, hB1⟩
  obtain ⟨e1, e2, e3, e4⟩ := unhide HS
  refine ret_i64 ?_
  omega
end Go.Proofs.YtkmmhlimihkgfaaGreat

/- The law's own helpers that write a count into a row of bytes and look for it again, by their contracts. -/
namespace Go.Proofs.YtkmmhlimihkgfaaGreat
open Go.RowKit
set_option linter.unusedVariables false

/-- n bytes that count on from k. -/
def markz (k : Int) (n : Nat) : List Int := (List.range n).map fun i : Nat => k + (i : Int)
theorem markz_len (k : Int) (n : Nat) : (markz k n).length = n := by simp [markz]
theorem markz_ok (k : Int) (n : Nat) (h0 : 0 ≤ k) (h1 : k + (n : Int) ≤ 9223372036854775807) : okZ (markz k n) := fun x hx => by
  obtain ⟨i, hi, rfl⟩ := List.mem_map.1 hx
  have := List.mem_range.1 hi
  omega
theorem markz_at (k : Int) (n i : Nat) (h : i < n) : (markz k n).getD i 0 = k + (i : Int) := by simp [markz, h]
theorem markz_step (k : Int) (l : List Int) (j : Nat) (h : j < l.length) : (valz (markz k j ++ l.drop j)).set j (.int .i64 (k + (j : Int))) = valz (markz k (j + 1) ++ l.drop (j + 1)) := by
  have e : markz k (j + 1) = markz k j ++ [k + (j : Int)] := by simp [markz, List.range_succ]
  have hl : (valz (markz k j)).length = j := by simp [valz, markz_len]
  rw [valz_app, List.set_append_right _ _ (by omega), hl, Nat.sub_self, e, List.drop_eq_getElem_cons h, valz_app, valz_app, List.append_assoc]
  rfl

theorem markZ_nil (w : World) (a : Option Addr) (cap : Nat) (k : Int) :
    Calls Tryz.prog 54 #[.slice a 0 cap, .int .i64 k] w fun e w' => e = .returned (.int .i64 k) ∧ w' = w := by
  go_enter Tryz.func54, Tryz.ntmps54
  go_wp2
  refine wp_loop_rounds 1 ?_
  rw [rounds_succ]
  go_wp2
  go_ret
  exact ⟨rfl, rfl⟩

set_option maxHeartbeats 1600000 in
set_option maxRecDepth 1000000 in
theorem markZ_row (w : World) (base g cap : Nat) (l : List Int) (k : Int) (hw : w.ownsRow base 3 1 (.slice (some ⟨g, 0, none⟩) l.length cap) l.length (valz l)) (hs : l.length ≤ 16777216) (h0 : 0 ≤ k) (h1 : k ≤ 1000000000) :
    Calls Tryz.prog 54 #[.slice (some ⟨g, 0, none⟩) l.length cap, .int .i64 k] w fun e w' => e = .returned (.int .i64 (k + l.length)) ∧
      w'.ownsRow base 3 1 (.slice (some ⟨g, 0, none⟩) l.length cap) l.length (valz (markz k l.length)) ∧ w.grownBy w' (some g) := by
  generalize hn : l.length = n at *
  have HN := hide hn
  clear hn
  go_enter Tryz.func54, Tryz.ntmps54
  go_wp2
  go_loopw [1, 5] (fun c i wr => ∃ j : Nat, j ≤ n ∧ i = .int .i64 j ∧ c = .int .i64 (k + (j : Int)) ∧ wr.ownsRow base 3 1 (.slice (some ⟨g, 0, none⟩) n cap) n (valz (markz k j ++ l.drop j)) ∧ w.grownBy wr (some g)) (fun _ i _ => n - (intOf i).toNat)
  case atStart => exact ⟨0, Nat.zero_le _, rfl, by simp, by simpa [markz] using hw, World.grownBy.refl _ _⟩
  case round =>
    obtain ⟨j, hj, rfl, rfl, hr, hg⟩ := hrel
    by_cases hlt : j < n
    · have hlen := unhide HN
      have hjl : j < l.length := by omega
      obtain ⟨y, hy⟩ : ∃ y, wr.cell? ⟨g, j, none⟩ = some (.int .i64 y) := ⟨(markz k j ++ l.drop j).getD j 0, by rw [hr.cellAt j (by omega), valz_at (by simp [markz_len]; omega)]⟩
      have hfr := hr.frozenAt j
      have hst := hr.stored j (.int .i64 (k + (j : Int)))
      rw [markz_step k l j hjl] at hst
      have HS := hide hst
      clear hst hr hlen
      have hlt' : (j : Int) < (n : Int) := by omega
      go_wp2
      have R := unhide HS
      go_roundw
      case rel => exact ⟨j + 1, by omega, by go_num, by go_num, R.1, grown_trans hg R.2⟩
      case measure => simp [intOf]; omega
    · have e : j = n := by omega
      subst e
      have hr' : wr.ownsRow base 3 1 (.slice (some ⟨g, 0, none⟩) j cap) j (valz (markz k j)) := by
        have := unhide HN
        rw [List.drop_of_length_le (by omega), List.append_nil] at hr
        exact hr
      clear hr
      go_wp2
      go_ret
      exact ⟨rfl, hr', hg⟩

theorem markZ_any (w : World) (base : Nat) (v : Value) (l : List Int) (k : Int) (h : OwnZ w base v l) (hs : l.length ≤ 16777216) (h0 : 0 ≤ k) (h1 : k ≤ 1000000000) :
    Calls Tryz.prog 54 #[v, .int .i64 k] w fun e w' => e = .returned (.int .i64 (k + l.length)) ∧ OwnZ w' base v (markz k l.length) ∧ w.grownBy w' v.ownBlock := by
  obtain ⟨hok, hlen, ⟨rfl, hz⟩ | ⟨g, cap, cur, rfl, hr⟩⟩ := h
  · have e : l = [] := List.eq_nil_of_length_eq_zero hz
    subst e
    refine (markZ_nil w none 0 k).mono ?_
    rintro e w' ⟨rfl, rfl⟩
    exact ⟨by simp, ⟨markz_ok _ _ h0 (by first | omega | (simp; omega)), World.ownsRow_nil _ _ _ _⟩, World.grownBy.refl _ _⟩
  · refine (markZ_row w base g cap l k ⟨hlen, .inr ⟨g, cap, cur, rfl, hr⟩⟩ hs h0 h1).mono ?_
    rintro e w' ⟨rfl, ho, hg⟩
    refine ⟨rfl, ⟨markz_ok _ _ h0 (by first | omega | (simp; omega)), ?_⟩, hg⟩
    rw [markz_len]
    exact ho

theorem heldZ_nil (w : World) (a : Option Addr) (cap : Nat) (k : Int) :
    Calls Tryz.prog 56 #[.slice a 0 cap, .int .i64 k] w fun e w' => e = .returned (.int .i64 k) ∧ w' = w := by
  go_enter Tryz.func56, Tryz.ntmps56
  go_wp2
  refine wp_loop_rounds 1 ?_
  rw [rounds_succ]
  go_wp2
  go_ret
  exact ⟨rfl, rfl⟩

set_option maxHeartbeats 1600000 in
set_option maxRecDepth 1000000 in
theorem heldZ_row (w : World) (b off cap n : Nat) (k : Int) (hc : ∀ i, i < n → w.cell? ⟨b, off + i, none⟩ = some (.int .i64 ((markz k n).getD i 0))) (hs : n ≤ 16777216) (h0 : 0 ≤ k) (h1 : k ≤ 1000000000) :
    Calls Tryz.prog 56 #[.slice (some ⟨b, off, none⟩) n cap, .int .i64 k] w fun e w' => e = .returned (.int .i64 (k + n)) ∧ w' = w := by
  go_enter Tryz.func56, Tryz.ntmps56
  go_wp2
  go_loop [1, 5] (fun c i => ∃ j : Nat, j ≤ n ∧ i = .int .i64 j ∧ c = .int .i64 (k + (j : Int))) (fun _ i => n - (intOf i).toNat)
  case atStart => exact ⟨0, Nat.zero_le _, rfl, by simp⟩
  case round =>
    obtain ⟨j, hj, rfl, rfl⟩ := hrel
    by_cases hlt : j < n
    · have c1 := hc j hlt
      rw [markz_at k n j hlt] at c1
      clear hc
      have hlt' : (j : Int) < (n : Int) := by omega
      go_wp2
      go_round
      case rel => exact ⟨j + 1, by omega, by go_num, by go_num⟩
      case measure => simp [intOf]; omega
    · have e : j = n := by omega
      subst e
      clear hc
      go_wp2
      go_ret
      exact ⟨rfl, rfl⟩

theorem heldZ_any (w : World) (v : Value) (n : Nat) (k : Int) (h : Ints w v (markz k n)) (hs : n ≤ 16777216) (h0 : 0 ≤ k) (h1 : k ≤ 1000000000) :
    Calls Tryz.prog 56 #[v, .int .i64 k] w fun e w' => e = .returned (.int .i64 (k + n)) ∧ w' = w := by
  obtain ⟨_, _, ⟨rfl, hn⟩ | ⟨x, cap, rfl, hc, hn⟩ | ⟨b, off, cap, rfl, _, _, _, _, h5⟩⟩ := h
  · have e : n = 0 := by have := congrArg List.length hn; rw [markz_len] at this; exact this
    subst e
    refine (heldZ_nil w none 0 k).mono ?_
    rintro e w' ⟨rfl, rfl⟩
    exact ⟨by simp, rfl⟩
  · have e : n = 0 := by have := congrArg List.length hn; rw [markz_len] at this; exact this
    subst e
    refine (heldZ_nil w (some x) cap k).mono ?_
    rintro e w' ⟨rfl, rfl⟩
    exact ⟨by simp, rfl⟩
  · rw [markz_len] at h5 ⊢
    exact heldZ_row w b off cap n k h5 hs h0 h1

end Go.Proofs.YtkmmhlimihkgfaaGreat

/- What laws.markOpS lays: plain mathematics. -/
namespace Go.Proofs.YtkmmhlimihkgfaaGreat
open Go.RowKit
set_option linter.unusedVariables false
set_option maxRecDepth 100000

/-- An operation with a count in it, from k on. -/
def mkO (o : OpV) (k : Int) : OpV where
  kind := k
  atN := k + 1
  atR := k + 1 + 1
  nodeN := k + 1 + 1 + 1
  nodeR := k + 1 + 1 + 1 + 1
  parN := k + 1 + 1 + 1 + 1 + 1
  parR := k + 1 + 1 + 1 + 1 + 1 + 1
  key := markz (k + 1 + 1 + 1 + 1 + 1 + 1 + 1) o.key.length
  elem := k + 1 + 1 + 1 + 1 + 1 + 1 + 1 + (o.key.length : Int)
  name := marks (k + 1 + 1 + 1 + 1 + 1 + 1 + 1 + (o.key.length : Int) + 1) o.name.length
  text := marks (k + 1 + 1 + 1 + 1 + 1 + 1 + 1 + (o.key.length : Int) + 1 + (o.name.length : Int)) o.text.length
  gone := ((k + 1 + 1 + 1 + 1 + 1 + 1 + 1 + (o.key.length : Int) + 1 + (o.name.length : Int) + (o.text.length : Int)) % 3 == 0)
def cntOs : List OpV → Nat
  | [] => 0
  | x :: r => 9 + szO x + cntOs r
def mkOs : List OpV → Int → List OpV
  | [], _ => []
  | x :: r, k => mkO x k :: mkOs r (k + ((9 + szO x : Nat) : Int))
theorem mkOs_len : ∀ (l : List OpV) (k : Int), (mkOs l k).length = l.length
  | [], _ => rfl
  | x :: r, k => by simp [mkOs, mkOs_len r]
theorem mkOs_app : ∀ (a b : List OpV) (k : Int), mkOs (a ++ b) k = mkOs a k ++ mkOs b (k + (cntOs a : Nat))
  | [], b, k => by simp [mkOs, cntOs]
  | x :: r, b, k => by
    simp only [List.cons_append, mkOs, mkOs_app r b, cntOs, List.cons.injEq, true_and]
    congr 2
    omega
theorem cntOs_app : ∀ (a b : List OpV), cntOs (a ++ b) = cntOs a + cntOs b
  | [], b => by simp [cntOs]
  | x :: r, b => by simp only [List.cons_append, cntOs, cntOs_app r b]; omega
theorem cntOs_take (l : List OpV) (j : Nat) (h : j < l.length) : cntOs (l.take (j + 1)) = cntOs (l.take j) + (9 + szO l[j]) := by
  rw [List.take_succ_eq_append_getElem h, cntOs_app]
  simp [cntOs]
theorem cntOs_le (l : List OpV) (j : Nat) : cntOs (l.take j) ≤ cntOs l := by
  have := cntOs_app (l.take j) (l.drop j)
  rw [List.take_append_drop] at this
  omega
theorem mkOs_at (l : List OpV) (k : Int) (j : Nat) (h : j < l.length) (h' : j < (mkOs l k).length) : (mkOs l k)[j] = mkO l[j] (k + (cntOs (l.take j) : Nat)) := by
  have e : mkOs l k = mkOs (l.take j) k ++ mkOs (l.drop j) (k + (cntOs (l.take j) : Nat)) := by rw [← mkOs_app, List.take_append_drop]
  have e2 : l.drop j = l[j] :: l.drop (j + 1) := List.drop_eq_getElem_cons h
  have hl : (mkOs (l.take j) k).length = j := by rw [mkOs_len]; simp; omega
  have : (mkOs l k)[j]? = some (mkO l[j] (k + (cntOs (l.take j) : Nat))) := by
    rw [e, List.getElem?_append_right (by omega), hl, Nat.sub_self, e2, mkOs]
    rfl
  rw [List.getElem?_eq_getElem h'] at this
  exact Option.some.inj this
end Go.Proofs.YtkmmhlimihkgfaaGreat
