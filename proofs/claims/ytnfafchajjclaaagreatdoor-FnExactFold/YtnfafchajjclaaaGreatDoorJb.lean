/- Own texts joined: ToT, NodeS, KlM, FoM, FoN, FoK, OnceI, OnceJ, HasI, OnceF, SzB, SzO, EqI, EqO, Eq, EqZ, EqJ. -/
import Derived.Test.YtnfafchajjclaaaGreatDoorJa
import Derived.Test.YtnfafchajjclaaaGreatDoorChecked
import Derived.Maps.OwnSet
import Derived.DeepKeys4
import Derived.WideMake
import Derived.Defers
import Derived.Laws.LoneSync
import Derived.Laws.Pointers
import Derived.RegionTactic
import Derived.RegionCalls
import Derived.Deep.QuietTactic
import Derived.BigQuiet

/- The laws' own copy of a tree, by contracts: the copy is the same tree, in blocks of its own. -/
namespace Go.Proofs.YtnfafchajjclaaaGreatDoor
open Go.RowKit
set_option linter.unusedVariables false

set_option maxHeartbeats 1600000 in
theorem toAttr_any (w : World) (a b : Value) (x : List Int × List Int) (ha : Byt w a x.1) (hb : Byt w b x.2) (hs : x.1.length + x.2.length ≤ 2097152) :
    Calls Tryz.prog 53 #[.agg #[a, b]] w fun e w' => ∃ a1 c1 a2 c2, e = .returned (.agg #[.slice a1 x.1.length c1, .slice a2 x.2.length c2]) ∧ ∃ F, OwAttr w' [.slice a1 x.1.length c1, .slice a2 x.2.length c2] x F ∧ F.Nodup ∧ Rng F w.heap.size w'.heap.size ∧ Below w.heap.size w w' := by
  obtain ⟨p1, k1, rfl, _, _⟩ := ha.shape
  obtain ⟨p2, k2, rfl, _, _⟩ := hb.shape
  go_enter Tryz.func53, Tryz.ntmps53
  go_wp2_with fail
  have l0 := (((Loc.made w #[.slice p1 x.1.length k1, .slice p2 x.2.length k2] 101).alloc (.cells #[.slice none 0 0, .slice none 0 0] 108)).alloc (.cells #[.slice none 0 0, .slice none 0 0] 108))
  have l1 := (Loc.made (w.alloc (.cells #[.slice p1 x.1.length k1, .slice p2 x.2.length k2] 101)) #[.slice none 0 0, .slice none 0 0] 108).alloc (.cells #[.slice none 0 0, .slice none 0 0] 108)
  have l2 := Loc.made ((w.alloc (.cells #[.slice p1 x.1.length k1, .slice p2 x.2.length k2] 101)).alloc (.cells #[.slice none 0 0, .slice none 0 0] 108)) #[.slice none 0 0, .slice none 0 0] 108
  have hA : Below w.heap.size w (((w.alloc (.cells #[.slice p1 x.1.length k1, .slice p2 x.2.length k2] 101)).alloc (.cells #[.slice none 0 0, .slice none 0 0] 108)).alloc (.cells #[.slice none 0 0, .slice none 0 0] 108)) := (((Below.refl _ _).alloc (Nat.le_refl _) _).alloc (by simp) _).alloc (by simp; omega) _
  simp only [World.size_alloc] at l1 l2
  generalize hW : (((w.alloc (.cells #[.slice p1 x.1.length k1, .slice p2 x.2.length k2] 101)).alloc (.cells #[.slice none 0 0, .slice none 0 0] 108)).alloc (.cells #[.slice none 0 0, .slice none 0 0] 108)) = W at *
  have hWs : W.heap.size = w.heap.size + 3 := by rw [← hW]; simp
  clear hW
  have HWs := hide hWs
  clear hWs
  refine (toB_any W _ x.1 (ha.keep hA) (by omega)).mono ?_
  rintro e w1 ⟨v1, rfl, ho1, _, hB1⟩
  obtain ⟨a1, c1, hv1, _, _⟩ := ho1.byt.shape
  subst hv1
  have r1 := ho1.rng
  replace l0 := l0.all hB1
  replace l1 := l1.all hB1
  replace l2 := l2.all hB1
  have e0 := l0.cell 1
  have e2 := l2.cell 0
  have f2 := l2.frozen 0
  simp at e0 e2
  have hA1 := bstep hA hB1
  have m0 := l0.other (w.heap.size + 1 + 1) 0 (.slice a1 x.1.length c1) (by omega)
  have m1 := l1.other (w.heap.size + 1 + 1) 0 (.slice a1 x.1.length c1) (by omega)
  have m2 := l2.set 0 (.slice a1 x.1.length c1)
  have hf1 := set_frm w1 (w.heap.size + 1 + 1) 0 (.slice a1 x.1.length c1)
  have ho2 := ho1.frm hf1 (fun g hg => by have := r1 g hg; have := unhide HWs; simp; omega)
  have hA2 : Below w.heap.size w (w1.setCell ⟨w.heap.size + 1 + 1, 0, none⟩ (.slice a1 x.1.length c1)) := hA1.setCell (by simp; omega) _
  have hs1 := hB1.size
  have M := hide (And.intro m0 (And.intro m1 m2))
  have HO := hide ho2
  have HA2 := hide hA2
  clear hB1 l0 l1 l2 m0 m1 m2 hf1 ho1 ho2 hA2 hA hA1
  go_wp2_with fail
  refine (toB_any _ _ x.2 (hb.keep (unhide HA2)) (by omega)).mono ?_
  rintro e w2 ⟨v2, rfl, ho3, _, hB2⟩
  obtain ⟨a2, c2, hv2, _, _⟩ := ho3.byt.shape
  subst hv2
  have r2 := ho3.rng
  have n1 := (unhide M).2.1.all hB2
  have n2 := (unhide M).2.2.all hB2
  have hA3 := bstep (unhide HA2) hB2
  have ho4 := (unhide HO).keep hB2
  have hs2 := hB2.size
  have g0 := n1.cell 0
  have g1 := n1.cell 1
  have g2 := n2.cell 0
  have g3 := n2.cell 1
  have g4 := n1.frozen 0
  have g5 := n1.frozen 1
  have g6 := n2.frozen 1
  simp at g0 g1 g2 g3 hs2
  clear M HO HA2 hB2
  simp only [World.size_setCell] at r2 ho3
  have hsz := unhide HWs
  have hf : Frm w2 (((w2.setCell ⟨w.heap.size + 1 + 1, 1, none⟩ (.slice a2 x.2.length c2)).setCell ⟨w.heap.size + 1, 0, none⟩ (.slice a1 x.1.length c1)).setCell ⟨w.heap.size + 1, 1, none⟩ (.slice a2 x.2.length c2)) [w.heap.size + 1 + 1, w.heap.size + 1] :=
    (((set_frm w2 _ _ _).mono (by simp)).trans ((set_frm _ _ _ _).mono (by simp))).trans ((set_frm _ _ _ _).mono (by simp))
  have ho5 := (ho4.frm hf (fun g hg => by have := r1 g hg; simp; omega)).mono (Nat.zero_le _)
  have ho6 := (ho3.frm hf (fun g hg => by have := r2 g hg; simp; omega)).mono (Nat.zero_le _)
  have hA4 := hA3.trans (hf.below hA3.size (fun g hg => by simp at hg; omega))
  have hrng : Rng (FB (.slice a1 x.1.length c1) ++ FB (.slice a2 x.2.length c2)) w.heap.size w2.heap.size := (r1.mono (by omega) (by omega)).app (r2.mono (by omega) (by omega))
  have hnd := nodup_app (FB_nodup (.slice a1 x.1.length c1)) (FB_nodup (.slice a2 x.2.length c2)) r1 r2
  have HP := hide (And.intro ho5 (And.intro ho6 (And.intro hA4 (And.intro hrng hnd))))
  clear ho5 ho6 hA4 hrng hnd hf ho3 ho4 hA3 n1 n2 r1 r2 hsz
  go_wp2_with fail
  obtain ⟨ho5, ho6, hA4, hrng, hnd⟩ := unhide HP
  exact bodyPost_ret (v := .agg #[.slice a1 x.1.length c1, .slice a2 x.2.length c2]) (by simp [results, Tryz.results53, go_sem, g0, g1]) rfl ⟨a1, c1, a2, c2, rfl, _, ⟨_, _, rfl, ho5, ho6, rfl⟩, hnd, hrng.mono (Nat.le_refl _) (by simp), hA4⟩
end Go.Proofs.YtnfafchajjclaaaGreatDoor

/- spec.l2node and spec.NodeOk answer what the plain test says. -/
namespace Go.Proofs.YtnfafchajjclaaaGreatDoor
open Go.RowKit
set_option linter.unusedVariables false

/-- The test of one, of all members, each with what the one before left. -/
def okK {α : Type} (f : α → Int → Bool × Int) : List α → Int → Bool × Int
  | [], left => (true, left)
  | x :: r, left => if (f x left).1 = true then okK f r (f x left).2 else (false, (f x left).2)

def voidB (l : List Int) : Bool := decide (l = [98, 114]) || decide (l = [104, 114])
theorem voidB_iff (l : List Int) : voidB l = true ↔ Void l := by unfold voidB Void; rw [Bool.or_eq_true, decide_eq_true_eq, decide_eq_true_eq]
def attrB (l : List (List Int × List Int)) (i : Nat) : Bool := nameB (l.getD i ([], [])).1 && textB (l.getD i ([], [])).2 && (decide (i = 0) || lessT (l.getD (i - 1) ([], [])).1 (l.getD i ([], [])).1)
theorem attrB_iff (l : List (List Int × List Int)) (i : Nat) : attrB l i = true ↔ attrAt l i := by
  unfold attrB attrAt
  rw [Bool.and_eq_true, Bool.and_eq_true, nameB_iff, textB_iff, Bool.or_eq_true, decide_eq_true_eq, and_assoc]
  constructor
  · rintro ⟨h1, h2, h3⟩
    exact ⟨h1, h2, fun h => h3.resolve_left (by omega)⟩
  · rintro ⟨h1, h2, h3⟩
    refine ⟨h1, h2, ?_⟩
    by_cases h : i = 0
    · exact .inl h
    · exact .inr (h3 (by omega))
def attrsB (l : List (List Int × List Int)) : Bool := decide (l.length ≤ 4) && (List.range l.length).all (attrB l)
theorem attrsB_iff (l : List (List Int × List Int)) : attrsB l = true ↔ AttrsOk l := by
  unfold attrsB AttrsOk
  rw [Bool.and_eq_true, decide_eq_true_eq, List.all_eq_true]
  constructor
  · rintro ⟨h1, h2⟩; exact ⟨h1, fun i hi => (attrB_iff l i).1 (h2 i (List.mem_range.2 hi))⟩
  · rintro ⟨h1, h2⟩; exact ⟨h1, fun i hi => (attrB_iff l i).2 (h2 i (List.mem_range.1 hi))⟩

/-- A text alone. -/
def LeafOk {α : Type} (t : Nd α) : Prop := t.name.length = 0 ∧ t.attrs.length = 0 ∧ t.kids.length = 0 ∧ TextOk t.text
def leafB {α : Type} (t : Nd α) : Bool := decide (t.name.length = 0) && decide (t.attrs.length = 0) && decide (t.kids.length = 0) && textB t.text
theorem leafB_iff {α : Type} (t : Nd α) : leafB t = true ↔ LeafOk t := by
  unfold leafB LeafOk
  rw [Bool.and_eq_true, Bool.and_eq_true, Bool.and_eq_true, textB_iff, decide_eq_true_eq, decide_eq_true_eq, decide_eq_true_eq, and_assoc, and_assoc]
/-- An element, its kids aside. -/
def ElemOk {α : Type} (t : Nd α) : Prop := t.kind = 0 ∧ NameOk t.name ∧ t.text.length = 0 ∧ AttrsOk t.attrs ∧ ¬ (Void t.name ∧ 0 < t.kids.length)
def elemB {α : Type} (t : Nd α) : Bool := decide (t.kind = 0) && nameB t.name && decide (t.text.length = 0) && attrsB t.attrs && !(voidB t.name && decide (0 < t.kids.length))
theorem elemB_iff {α : Type} (t : Nd α) : elemB t = true ↔ ElemOk t := by
  unfold elemB ElemOk
  rw [Bool.and_eq_true, Bool.and_eq_true, Bool.and_eq_true, Bool.and_eq_true, nameB_iff, attrsB_iff, decide_eq_true_eq, decide_eq_true_eq, Bool.not_eq_true', ← Bool.not_eq_true, Bool.and_eq_true, voidB_iff, decide_eq_true_eq, and_assoc, and_assoc, and_assoc]

/-- May the tree be, 'deep' deep, where 'left' nodes are left? And how many are left then. -/
def okT : (n : Nat) → Int → Tr n → Int → Bool × Int
  | 0 => fun _ t _ => t.elim
  | n + 1 => fun deep t left => if left - 1 < 0 ∨ 20 < deep then (false, left - 1) else if t.kind = 1 then (leafB t, left - 1) else if elemB t = true then okK (okT n (deep + 1)) t.kids (left - 1) else (false, left - 1)

theorem okT_succ (n : Nat) (deep : Int) (t : Tr (n + 1)) (left : Int) : okT (n + 1) deep t left = if left - 1 < 0 ∨ 20 < deep then (false, left - 1) else if t.kind = 1 then (leafB t, left - 1) else if elemB t = true then okK (okT n (deep + 1)) t.kids (left - 1) else (false, left - 1) := rfl
theorem okK_drop {α : Type} {f : α → Int → Bool × Int} {l : List α} {k : Nat} {left : Int} (h : k < l.length) : okK f (l.drop k) left = if (f l[k] left).1 = true then okK f (l.drop (k + 1)) (f l[k] left).2 else (false, (f l[k] left).2) := by
  rw [List.drop_eq_getElem_cons h]; rfl
theorem okK_bound {α : Type} {f : α → Int → Bool × Int} (hf : ∀ x left, 0 ≤ left → -1 ≤ (f x left).2 ∧ (f x left).2 ≤ left ∧ ((f x left).1 = true → 0 ≤ (f x left).2)) (l : List α) (left : Int) (h0 : 0 ≤ left) : -1 ≤ (okK f l left).2 ∧ (okK f l left).2 ≤ left ∧ ((okK f l left).1 = true → 0 ≤ (okK f l left).2) := by
  induction l generalizing left with
  | nil => exact ⟨by simp [okK]; omega, by simp [okK], fun _ => by simpa [okK] using h0⟩
  | cons x r ih =>
    have h := hf x left h0
    rw [okK]
    by_cases hb : (f x left).1 = true
    · rw [if_pos hb]
      have := ih (f x left).2 (h.2.2 hb)
      exact ⟨this.1, by omega, this.2.2⟩
    · rw [if_neg hb]
      exact ⟨h.1, h.2.1, fun e => by cases e⟩
theorem okT_bound (n : Nat) (deep : Int) (t : Tr n) (left : Int) (h0 : 0 ≤ left) : -1 ≤ (okT n deep t left).2 ∧ (okT n deep t left).2 ≤ left ∧ ((okT n deep t left).1 = true → 0 ≤ (okT n deep t left).2) := by
  induction n generalizing deep left with
  | zero => exact t.elim
  | succ n ih =>
    unfold okT
    by_cases h1 : left - 1 < 0 ∨ 20 < deep
    · rw [if_pos h1]; exact ⟨by simp; omega, by simp; omega, fun e => by cases e⟩
    · rw [if_neg h1]
      by_cases h2 : t.kind = 1
      · rw [if_pos h2]; exact ⟨by simp; omega, by simp; omega, fun _ => by simp; omega⟩
      · rw [if_neg h2]
        by_cases h3 : elemB t = true
        · rw [if_pos h3]
          have := okK_bound (f := okT n (deep + 1)) (fun x l hl => ih (deep + 1) x l hl) t.kids (left - 1) (by omega)
          exact ⟨this.1, by omega, this.2.2⟩
        · rw [if_neg h3]; exact ⟨by simp; omega, by simp; omega, fun e => by cases e⟩

theorem voidS_yes (w : World) (v : Value) (l : List Int) (h : Byt w v l) (hn : Void l) : Calls Tryz.prog 22 #[v] w fun e w' => e = .returned (.bool true) ∧ w' = w := by
  refine (voidS_any w v l h).mono ?_
  rintro e w' ⟨rfl, h⟩
  exact ⟨by simp [hn], h⟩
theorem voidS_no (w : World) (v : Value) (l : List Int) (h : Byt w v l) (hn : ¬ Void l) : Calls Tryz.prog 22 #[v] w fun e w' => e = .returned (.bool false) ∧ w' = w := by
  refine (voidS_any w v l h).mono ?_
  rintro e w' ⟨rfl, h⟩
  exact ⟨by simp [hn], h⟩
theorem attrsS_yes (w : World) (v : Value) (l : List (List Int × List Int)) (h : RdAttrs w v l) (hn : AttrsOk l) : Calls Tryz.prog 74 #[v] w fun e w' => e = .returned (.bool true) ∧ Below w.heap.size w w' := by
  refine (attrsS_any w v l h).mono ?_
  rintro e w' ⟨rfl, h⟩
  exact ⟨by simp [hn], h⟩
theorem attrsS_no (w : World) (v : Value) (l : List (List Int × List Int)) (h : RdAttrs w v l) (hn : ¬ AttrsOk l) : Calls Tryz.prog 74 #[v] w fun e w' => e = .returned (.bool false) ∧ Below w.heap.size w w' := by
  refine (attrsS_any w v l h).mono ?_
  rintro e w' ⟨rfl, h⟩
  exact ⟨by simp [hn], h⟩

/-- What l2node does to a node of depth below n. -/
def L2nodeSaid (n : Nat) : Prop := ∀ (w0 w : World) (a b c d e : Value) (t : Tr n) (deep left : Int) (g : Nat), RdNode n w0 [a, b, c, d, e] t → Below w0.heap.size w0 w → w0.heap.size ≤ g → Loc w g #[.int .i64 left] 3 → 0 ≤ left → left ≤ 1000000 → 0 ≤ deep → deep ≤ 1000 →
    Calls Tryz.prog 46 #[.agg #[a, b, c, d, e], .int .i64 deep, .pointer (some ⟨g, 0, none⟩)] w fun e w' => e = .returned (.bool (okT n deep t left).1) ∧ Loc w' g #[.int .i64 (okT n deep t left).2] 3 ∧ Frm w w' [g]

/-- The world behind the first statement: one less left, the node in a block of its own. -/
theorem l2start (w : World) (g : Nat) (left x : Int) (A : Array Value) (T : TypeId) (h : Loc w g #[.int .i64 left] 3) : Loc ((w.setCell ⟨g, 0, none⟩ (.int .i64 x)).alloc (.cells A T)) g #[.int .i64 x] 3 ∧ Loc ((w.setCell ⟨g, 0, none⟩ (.int .i64 x)).alloc (.cells A T)) w.heap.size A T ∧ Frm w ((w.setCell ⟨g, 0, none⟩ (.int .i64 x)).alloc (.cells A T)) [g] := by
  refine ⟨(h.set 0 _).alloc _, ?_, (set_frm _ _ _ _).trans (Frm.ofBelow ((Below.refl _ _).alloc (Nat.le_refl _) _) [g])⟩
  have := Loc.made (w.setCell ⟨g, 0, none⟩ (.int .i64 x)) A T
  simpa using this

set_option maxHeartbeats 3200000 in
theorem l2node_succ (n : Nat) (H : L2nodeSaid n) : L2nodeSaid (n + 1) := by
  intro w0 w a b c d e t deep left g hr hB hg hl h0 h1 hd0 hd1
  have hr' := hr
  obtain ⟨_, _, _, _, e0, k1, k2, hb, hc, hd, he⟩ := hr
  simp only [List.cons.injEq, and_true] at e0
  obtain ⟨rfl, rfl, rfl, rfl, rfl⟩ := e0
  obtain ⟨ab, cb, rfl, _, _⟩ := hb.shape
  obtain ⟨ac, cc, rfl, _, _⟩ := hc.shape
  obtain ⟨ad, cd, rfl, _, _⟩ := Elems.shape hd
  obtain ⟨ae, ce, rfl, _, _⟩ := Elems.shape he
  obtain ⟨lg, lb, hf⟩ := l2start w g left (left - 1) #[.int .i64 t.kind, .slice ab t.name.length cb, .slice ac t.text.length cc, .slice ad t.attrs.length cd, .slice ae t.kids.length ce] 38 hl
  have hgl := hl.lt
  have hgc := hl.cell 0
  have hgf := hl.frozen 0
  simp at hgc
  have hne : w.heap.size ≠ g := by omega
  by_cases hA : left - 1 < 0
  · have HE := hide (show okT (n + 1) deep t left = (false, left - 1) by unfold okT; rw [if_pos (.inl hA)])
    have HP := hide (And.intro lg hf)
    clear lg lb hf hl
    go_enter Tryz.func46, Tryz.ntmps46
    go_wp2_with fail
    go_ret
    exact ⟨by rw [unhide HE]; rfl, by rw [unhide HE]; exact (unhide HP).1, (unhide HP).2⟩
  have hA' : decide (left - 1 < 0) = false := by simpa using hA
  by_cases hD : 20 < deep
  · have HE := hide (show okT (n + 1) deep t left = (false, left - 1) by unfold okT; rw [if_pos (.inr hD)])
    have HP := hide (And.intro lg hf)
    clear lg lb hf hl
    go_enter Tryz.func46, Tryz.ntmps46
    go_wp2_with fail
    go_ret
    exact ⟨by rw [unhide HE]; rfl, by rw [unhide HE]; exact (unhide HP).1, (unhide HP).2⟩
  have hD' : ¬ 20 < deep := hD
  have hBW := hB.trans (hf.below hB.size (fun q hq => by simp at hq; omega))
  by_cases hK : t.kind = 1
  · have hEq : okT (n + 1) deep t left = (leafB t, left - 1) := by unfold okT; rw [if_neg (by omega), if_pos hK]
    have dk : (t.kind == 1) = true := by simp [hK]
    have HP := hide (And.intro lg hf)
    have HBW := hide hBW
    clear lg lb hf hl hBW
    by_cases q1 : t.name.length = 0
    · have d1 : ((t.name.length : Int) == 0) = true := beq_iff_eq.2 (by omega)
      by_cases q2 : t.attrs.length = 0
      · have d2 : ((t.attrs.length : Int) == 0) = true := beq_iff_eq.2 (by omega)
        by_cases q3 : t.kids.length = 0
        · have d3 : ((t.kids.length : Int) == 0) = true := beq_iff_eq.2 (by omega)
          by_cases q4 : TextOk t.text
          · have HE := hide (hEq.trans (by rw [(leafB_iff t).2 ⟨q1, q2, q3, q4⟩] : (leafB t, left - 1) = (true, left - 1)))
            have HQ := hide q4
            clear hEq q1 q2 q3 q4 hK
            go_enter Tryz.func46, Tryz.ntmps46
            go_wp2_with fail
            refine (textS_yes _ _ t.text (hc.keep (unhide HBW)) (unhide HQ)).mono ?_
            rintro e w1 ⟨rfl, rfl⟩
            go_wp2_with fail
            go_ret
            exact ⟨by rw [unhide HE]; rfl, by rw [unhide HE]; exact (unhide HP).1, (unhide HP).2⟩
          · have HE := hide (hEq.trans (by rw [Bool.eq_false_iff.2 (fun h => q4 ((leafB_iff t).1 h).2.2.2)] : (leafB t, left - 1) = (false, left - 1)))
            have HQ := hide q4
            clear hEq q1 q2 q3 q4 hK
            go_enter Tryz.func46, Tryz.ntmps46
            go_wp2_with fail
            refine (textS_no _ _ t.text (hc.keep (unhide HBW)) (unhide HQ)).mono ?_
            rintro e w1 ⟨rfl, rfl⟩
            go_wp2_with fail
            go_ret
            exact ⟨by rw [unhide HE]; rfl, by rw [unhide HE]; exact (unhide HP).1, (unhide HP).2⟩
        · have d3 : ((t.kids.length : Int) == 0) = false := beq_eq_false_iff_ne.2 (by omega)
          have HE := hide (hEq.trans (by rw [Bool.eq_false_iff.2 (fun h => q3 ((leafB_iff t).1 h).2.2.1)] : (leafB t, left - 1) = (false, left - 1)))
          clear hEq q1 q2 q3 hK
          go_enter Tryz.func46, Tryz.ntmps46
          go_wp2_with fail
          go_ret
          exact ⟨by rw [unhide HE]; rfl, by rw [unhide HE]; exact (unhide HP).1, (unhide HP).2⟩
      · have d2 : ((t.attrs.length : Int) == 0) = false := beq_eq_false_iff_ne.2 (by omega)
        have HE := hide (hEq.trans (by rw [Bool.eq_false_iff.2 (fun h => q2 ((leafB_iff t).1 h).2.1)] : (leafB t, left - 1) = (false, left - 1)))
        clear hEq q1 q2 hK
        go_enter Tryz.func46, Tryz.ntmps46
        go_wp2_with fail
        go_ret
        exact ⟨by rw [unhide HE]; rfl, by rw [unhide HE]; exact (unhide HP).1, (unhide HP).2⟩
    · have d1 : ((t.name.length : Int) == 0) = false := beq_eq_false_iff_ne.2 (by omega)
      have HE := hide (hEq.trans (by rw [Bool.eq_false_iff.2 (fun h => q1 ((leafB_iff t).1 h).1)] : (leafB t, left - 1) = (false, left - 1)))
      clear hEq q1 hK
      go_enter Tryz.func46, Tryz.ntmps46
      go_wp2_with fail
      go_ret
      exact ⟨by rw [unhide HE]; rfl, by rw [unhide HE]; exact (unhide HP).1, (unhide HP).2⟩
  have dk : (t.kind == 1) = false := by simpa using hK
  have hbad : ¬ ElemOk t → okT (n + 1) deep t left = (false, left - 1) := fun h => by unfold okT; rw [if_neg (by omega), if_neg hK, if_neg (fun e => h ((elemB_iff t).1 e))]
  have hgood : ElemOk t → okT (n + 1) deep t left = okK (okT n (deep + 1)) t.kids (left - 1) := fun h => by rw [okT_succ, if_neg (by omega), if_neg hK, if_pos ((elemB_iff t).2 h)]
  have HP := hide (And.intro lg (And.intro lb hf))
  have HBW := hide hBW
  clear lg lb hf hl hBW hK
  by_cases z0 : t.kind = 0
  · have dz : (t.kind != 0) = false := by simp [z0]
    by_cases z1 : NameOk t.name
    · by_cases z2 : t.text.length = 0
      · by_cases z3 : AttrsOk t.attrs
        · have H1 := hide z1
          have H3 := hide z3
          by_cases z4 : Void t.name
          · have H4 := hide z4
            by_cases z5 : 0 < t.kids.length
            · have HE := hide (hbad (fun h => h.2.2.2.2 ⟨z4, z5⟩))
              clear hbad hgood z0 z1 z3 z4 hc hr' he
              generalize t.text.length = nT at *
              generalize t.kids.length = nK at *
              subst z2
              have hkd : decide (0 < nK) = true := by simp; omega
              go_enter Tryz.func46, Tryz.ntmps46
              go_wp2_with fail
              refine (nameS_yes _ _ t.name (hb.keep (unhide HBW)) (unhide H1)).mono ?_
              rintro e w1 ⟨rfl, rfl⟩
              go_wp2_with fail
              refine (attrsS_yes _ _ t.attrs (hd.keep (unhide HBW)) (unhide H3)).mono ?_
              rintro e w1 ⟨rfl, hB1⟩
              have lb := (unhide HP).2.1.all hB1
              have u1 := lb.cell 1
              have u4 := lb.cell 4
              simp at u1 u4
              have hBW1 := (unhide HBW).trans (hB1.mono (unhide HBW).size)
              have HQ := hide (And.intro ((unhide HP).1.all hB1) ((unhide HP).2.2.trans (Frm.ofBelow hB1 [g])))
              clear lb hB1
              go_wp2_with fail
              refine (voidS_yes _ _ t.name (hb.keep hBW1) (unhide H4)).mono ?_
              rintro e w2 ⟨rfl, rfl⟩
              go_wp2_with fail
              go_ret
              exact ⟨by rw [unhide HE]; rfl, by rw [unhide HE]; exact (unhide HQ).1, (unhide HQ).2⟩
            · have HE := hide (hgood ⟨z0, z1, z2, z3, fun h => z5 h.2⟩)
              have hk0 : t.kids.length = 0 := by omega
              have hke : t.kids = [] := List.eq_nil_of_length_eq_zero hk0
              have HK := hide (show okK (okT n (deep + 1)) t.kids (left - 1) = (true, left - 1) by rw [hke]; rfl)
              clear he z5 hke
              generalize t.kids.length = nK at *
              subst hk0
              clear hbad hgood z0 z1 z3 z4 hc hr'
              generalize t.text.length = nT at *
              subst z2
              go_enter Tryz.func46, Tryz.ntmps46
              go_wp2_with fail
              refine (nameS_yes _ _ t.name (hb.keep (unhide HBW)) (unhide H1)).mono ?_
              rintro e w1 ⟨rfl, rfl⟩
              go_wp2_with fail
              refine (attrsS_yes _ _ t.attrs (hd.keep (unhide HBW)) (unhide H3)).mono ?_
              rintro e w1 ⟨rfl, hB1⟩
              have lb := (unhide HP).2.1.all hB1
              have u1 := lb.cell 1
              have u4 := lb.cell 4
              simp at u1 u4
              have hBW1 := (unhide HBW).trans (hB1.mono (unhide HBW).size)
              have HQ := hide (And.intro ((unhide HP).1.all hB1) (And.intro lb ((unhide HP).2.2.trans (Frm.ofBelow hB1 [g]))))
              clear lb hB1
              go_wp2_with fail
              refine (voidS_yes _ _ t.name (hb.keep hBW1) (unhide H4)).mono ?_
              rintro e w2 ⟨rfl, rfl⟩
              go_wp2_with fail
              refine wp_loop_rounds 1 ?_
              rw [rounds_succ]
              go_wp2_with fail
              go_ret
              exact ⟨by rw [unhide HE, unhide HK]; rfl, by rw [unhide HE, unhide HK]; exact (unhide HQ).1, (unhide HQ).2.2⟩
          · have H4 := hide z4
            have HE := hide (hgood ⟨z0, z1, z2, z3, fun h => z4 h.1⟩)
            clear hbad hgood z0 z1 z3 z4 hc hr'
            generalize t.text.length = nT at *
            subst z2
            go_enter Tryz.func46, Tryz.ntmps46
            go_wp2_with fail
            refine (nameS_yes _ _ t.name (hb.keep (unhide HBW)) (unhide H1)).mono ?_
            rintro e w1 ⟨rfl, rfl⟩
            go_wp2_with fail
            refine (attrsS_yes _ _ t.attrs (hd.keep (unhide HBW)) (unhide H3)).mono ?_
            rintro e w1 ⟨rfl, hB1⟩
            have lb := (unhide HP).2.1.all hB1
            have u1 := lb.cell 1
            have u4 := lb.cell 4
            simp at u1 u4
            have hBW1 := (unhide HBW).trans (hB1.mono (unhide HBW).size)
            have HQ := hide (And.intro ((unhide HP).1.all hB1) (And.intro lb ((unhide HP).2.2.trans (Frm.ofBelow hB1 [g]))))
            clear lb hB1
            go_wp2_with fail
            refine (voidS_no _ _ t.name (hb.keep hBW1) (unhide H4)).mono ?_
            rintro e w2 ⟨rfl, rfl⟩
            go_wp2_with fail
            go_loopw [7] (fun i wr => ∃ (k : Nat) (lk : Int), k ≤ t.kids.length ∧ i = .int .i64 k ∧ 0 ≤ lk ∧ lk ≤ 1000000 ∧ Loc wr g #[.int .i64 lk] 3 ∧ Loc wr w.heap.size #[.int .i64 t.kind, .slice ab t.name.length cb, .slice ac 0 cc, .slice ad t.attrs.length cd, .slice ae t.kids.length ce] 38 ∧ Frm w wr [g] ∧ Hid (okK (okT n (deep + 1)) t.kids (left - 1) = okK (okT n (deep + 1)) (t.kids.drop k) lk)) (fun i _ => t.kids.length - (intOf i).toNat)
            case atStart => exact ⟨0, left - 1, Nat.zero_le _, rfl, by omega, by omega, (unhide HQ).1, (unhide HQ).2.1, (unhide HQ).2.2, hide rfl⟩
            case round =>
              obtain ⟨k, lk, hk, rfl, hl0, hl1, rg, rb, rf, HK⟩ := hrel
              have v4 := rb.cell 4
              simp at v4
              have hmk := Elems.shape he
              have hBr : Below w0.heap.size w0 wr := hB.trans (rf.below hB.size (fun q hq => by simp at hq; omega))
              by_cases hlt : k < t.kids.length
              · have hkm := he.1
                obtain ⟨_, ⟨_, e⟩ | ⟨_, _, _, _, e⟩ | ⟨b, off, cap, e, g1, g2, g3, g4, g5⟩⟩ := he
                · rw [e] at hlt; simp at hlt
                · rw [e] at hlt; simp at hlt
                simp only [Value.slice.injEq, true_and] at e
                obtain ⟨rfl, rfl⟩ := e
                obtain ⟨c0, c1, c2, c3, c4, e0, e1, e2, e3, e4, hx⟩ := five_of (g5 k hlt)
                replace e0 := (hBr.cell (p := ⟨b, off + k * 5, none⟩) g4).trans e0
                replace e1 := (hBr.cell (p := ⟨b, off + k * 5 + 1, none⟩) g4).trans e1
                replace e2 := (hBr.cell (p := ⟨b, off + k * 5 + 2, none⟩) g4).trans e2
                replace e3 := (hBr.cell (p := ⟨b, off + k * 5 + 3, none⟩) g4).trans e3
                replace e4 := (hBr.cell (p := ⟨b, off + k * 5 + 4, none⟩) g4).trans e4
                have hlt' : (k : Int) < (t.kids.length : Int) := by omega
                have hob := okT_bound n (deep + 1) t.kids[k] lk hl0
                have hkd := okK_drop (f := okT n (deep + 1)) (left := lk) hlt
                have HR := hide (And.intro rg (And.intro rb rf))
                have HKD := hide hkd
                have HOB := hide hob
                unfold maxLen at hkm
                clear g5 rg rb rf hkd hob HQ u1 u4
                go_wp2_with fail
                refine (H w0 wr c0 c1 c2 c3 c4 t.kids[k] (deep + 1) lk g hx hBr hg (unhide HR).1 hl0 hl1 (by omega) (by omega)).mono ?_
                rintro e w3 ⟨rfl, hg3, hf3⟩
                have rb3 := (unhide HR).2.1.frm hf3 (by simp; omega)
                have rf3 := (unhide HR).2.2.trans hf3
                have HR3 := hide (And.intro hg3 (And.intro rb3 rf3))
                clear hg3 hf3 rb3 rf3 e0 e1 e2 e3 e4 hx v4 HR
                generalize okT n (deep + 1) t.kids[k] lk = res at *
                obtain ⟨rb, rl⟩ := res
                cases rb with
                | true =>
                  have q1 : 0 ≤ rl := (unhide HOB).2.2 rfl
                  have q2 : rl ≤ lk := (unhide HOB).2.1
                  have HF := hide ((unhide HK).trans ((unhide HKD).trans (if_pos rfl)))
                  clear HOB HKD HK
                  go_wp2_with fail
                  go_roundw
                  case rel => exact ⟨k + 1, rl, by omega, by go_num, q1, by omega, (unhide HR3).1, (unhide HR3).2.1, (unhide HR3).2.2, HF⟩
                  case measure => simp [intOf]; omega
                | false =>
                  have HF := hide ((unhide HK).trans ((unhide HKD).trans (if_neg (by simp))))
                  go_wp2_with fail
                  go_ret
                  exact ⟨by rw [unhide HE, unhide HF]; rfl, by rw [unhide HE, unhide HF]; exact (unhide HR3).1, (unhide HR3).2.2⟩
              · have HF := hide ((unhide HK).trans (show okK (okT n (deep + 1)) (t.kids.drop k) lk = (true, lk) by rw [List.drop_of_length_le (by omega)]; rfl))
                have hlt' : ¬ (k : Int) < (t.kids.length : Int) := by omega
                have HR := hide (And.intro rg (And.intro rb rf))
                clear rg rb rf he HQ u1 u4 HK
                go_wp2_with fail
                go_ret
                exact ⟨by rw [unhide HE, unhide HF]; rfl, by rw [unhide HE, unhide HF]; exact (unhide HR).1, (unhide HR).2.2⟩
        · have HE := hide (hbad (fun h => z3 h.2.2.2.1))
          have H1 := hide z1
          have H3 := hide z3
          clear hbad hgood z0 z1 z3 hc hr'
          generalize t.text.length = nT at *
          subst z2
          go_enter Tryz.func46, Tryz.ntmps46
          go_wp2_with fail
          refine (nameS_yes _ _ t.name (hb.keep (unhide HBW)) (unhide H1)).mono ?_
          rintro e w1 ⟨rfl, rfl⟩
          go_wp2_with fail
          refine (attrsS_no _ _ t.attrs (hd.keep (unhide HBW)) (unhide H3)).mono ?_
          rintro e w1 ⟨rfl, hB1⟩
          go_wp2_with fail
          go_ret
          exact ⟨by rw [unhide HE]; rfl, by rw [unhide HE]; exact (unhide HP).1.all hB1, (unhide HP).2.2.trans (Frm.ofBelow hB1 [g])⟩
      · have HE := hide (hbad (fun h => z2 h.2.2.1))
        have H1 := hide z1
        clear hbad hgood z0 z1 hc hr'
        generalize t.text.length = nT at *
        have hkp : 0 < nT := by omega
        have hkd : decide (0 < nT) = true := by simp; omega
        clear z2
        go_enter Tryz.func46, Tryz.ntmps46
        go_wp2_with fail
        refine (nameS_yes _ _ t.name (hb.keep (unhide HBW)) (unhide H1)).mono ?_
        rintro e w1 ⟨rfl, rfl⟩
        go_wp2_with fail
        go_ret
        exact ⟨by rw [unhide HE]; rfl, by rw [unhide HE]; exact (unhide HP).1, (unhide HP).2.2⟩
    · have HE := hide (hbad (fun h => z1 h.2.1))
      have H1 := hide z1
      clear hbad hgood z0 z1
      go_enter Tryz.func46, Tryz.ntmps46
      go_wp2_with fail
      refine (nameS_no _ _ t.name (hb.keep (unhide HBW)) (unhide H1)).mono ?_
      rintro e w1 ⟨rfl, rfl⟩
      go_wp2_with fail
      go_ret
      exact ⟨by rw [unhide HE]; rfl, by rw [unhide HE]; exact (unhide HP).1, (unhide HP).2.2⟩
  · have dz : (t.kind != 0) = true := by simp [z0]
    have HE := hide (hbad (fun h => z0 h.1))
    clear hbad hgood z0
    go_enter Tryz.func46, Tryz.ntmps46
    go_wp2_with fail
    go_ret
    exact ⟨by rw [unhide HE]; rfl, by rw [unhide HE]; exact (unhide HP).1, (unhide HP).2.2⟩

theorem l2node_any (n : Nat) : L2nodeSaid n := by
  induction n with
  | zero => exact fun _ _ _ _ _ _ _ t => t.elim
  | succ n ih => exact l2node_succ n ih

/-- May the tree be. -/
def okN (n : Nat) (t : Tr (n + 1)) : Bool := decide (t.kind = 0) && (okT (n + 1) 1 t 120).1

set_option maxHeartbeats 1600000 in
/-- spec.NodeOk. -/
theorem nodeS_any (n : Nat) (w : World) (a b c d e : Value) (t : Tr (n + 1)) (h : RdNode (n + 1) w [a, b, c, d, e] t) :
    Calls Tryz.prog 21 #[.agg #[a, b, c, d, e]] w fun e w' => e = .returned (.bool (okN n t)) ∧ Below w.heap.size w w' := by
  have h' := h
  obtain ⟨_, _, _, _, e0, k1, k2, hb, hc, hd, he⟩ := h
  simp only [List.cons.injEq, and_true] at e0
  obtain ⟨rfl, rfl, rfl, rfl, rfl⟩ := e0
  obtain ⟨ab, cb, rfl, _, _⟩ := hb.shape
  obtain ⟨ac, cc, rfl, _, _⟩ := hc.shape
  obtain ⟨ad, cd, rfl, _, _⟩ := Elems.shape hd
  obtain ⟨ae, ce, rfl, _, _⟩ := Elems.shape he
  have hA : Below w.heap.size w ((w.alloc (.cells #[.int .i64 t.kind, .slice ab t.name.length cb, .slice ac t.text.length cc, .slice ad t.attrs.length cd, .slice ae t.kids.length ce] 38)).alloc (.cells #[.int .i64 120] 3)) := ((Below.refl _ _).alloc (Nat.le_refl _) _).alloc (by simp) _
  have lg := Loc.made (w.alloc (.cells #[.int .i64 t.kind, .slice ab t.name.length cb, .slice ac t.text.length cc, .slice ad t.attrs.length cd, .slice ae t.kids.length ce] 38)) #[.int .i64 120] 3
  simp only [World.size_alloc] at lg
  by_cases hk : t.kind = 0
  · have dk : (t.kind == 0) = true := by simp [hk]
    have HE := hide (show okN n t = (okT (n + 1) 1 t 120).1 by unfold okN; simp [hk])
    have HP := hide (And.intro hA lg)
    clear hA lg hk
    go_enter Tryz.func21, Tryz.ntmps21
    go_wp2_with fail
    refine (l2node_any (n + 1) w _ _ _ _ _ _ t 1 120 (w.heap.size + 1) h' (unhide HP).1 (by omega) (unhide HP).2 (by omega) (by omega) (by omega) (by omega)).mono ?_
    rintro e w1 ⟨rfl, hg1, hf1⟩
    have HB := hide ((unhide HP).1.trans (hf1.below (unhide HP).1.size (fun q hq => by simp at hq; omega)))
    clear hg1 hf1
    go_wp2_with fail
    go_ret
    exact ⟨by rw [unhide HE]; rfl, unhide HB⟩
  · have dk : (t.kind == 0) = false := by simpa using hk
    have HE := hide (show okN n t = false by unfold okN; simp [hk])
    have HP := hide hA
    clear hA lg hk
    go_enter Tryz.func21, Tryz.ntmps21
    go_wp2_with fail
    go_ret
    exact ⟨by rw [unhide HE]; rfl, unhide HP⟩

end Go.Proofs.YtnfafchajjclaaaGreatDoor

/- The order of keys, in plain mathematics. -/
namespace Go.Proofs.YtnfafchajjclaaaGreatDoor
set_option linter.unusedVariables false

/-- By the first number in which they differ; the one that begins the other one is less. -/
def klB : List Int → List Int → Bool
  | [], [] => false
  | [], _ :: _ => true
  | _ :: _, [] => false
  | x :: a, y :: b => if x = y then klB a b else decide (x < y)

theorem klB_irr (a : List Int) : klB a a = false := by
  induction a with
  | nil => rfl
  | cons x a ih => rw [klB, if_pos rfl, ih]
theorem klB_anti (a b : List Int) : (klB a b && klB b a) = false := by
  induction a generalizing b with
  | nil => cases b <;> rfl
  | cons x a ih =>
    cases b with
    | nil => rfl
    | cons y b =>
      by_cases e : x = y
      · rw [klB, if_pos e, klB, if_pos e.symm]; exact ih b
      · rw [klB, if_neg e, klB, if_neg (fun h => e h.symm)]
        by_cases h : x < y
        · have : ¬ y < x := by omega
          simp [this]
        · simp [h]
theorem klB_tri (a b : List Int) : (klB a b || klB b a) = !decide (a = b) := by
  induction a generalizing b with
  | nil => cases b <;> simp [klB]
  | cons x a ih =>
    cases b with
    | nil => simp [klB]
    | cons y b =>
      by_cases e : x = y
      · rw [klB, if_pos e, klB, if_pos e.symm, ih b]; simp [e]
      · rw [klB, if_neg e, klB, if_neg (fun h => e h.symm)]
        have : x < y ∨ y < x := by omega
        simp [e, this]
end Go.Proofs.YtnfafchajjclaaaGreatDoor

/- What operations make of a tree, as plain mathematics: places, the forest that they are, one operation. No function of the program. -/
namespace Go.Proofs.YtnfafchajjclaaaGreatDoor
open Go.RowKit
set_option linter.unusedVariables false

abbrev IdV := Int × Int
def PlV.id (p : PlV) : IdV := (p.idN, p.idR)
def PlV.par (p : PlV) : IdV := (p.parN, p.parR)
def OpV.at' (o : OpV) : IdV := (o.atN, o.atR)
def OpV.node (o : OpV) : IdV := (o.nodeN, o.nodeR)
def OpV.par (o : OpV) : IdV := (o.parN, o.parR)
def rootV : IdV := (0, 0)
def trashV : IdV := (0, 1)
/-- Where the first place with this id stands. -/
def posP (l : List PlV) (i : IdV) : Option Nat := l.findIdx? (fun p => decide (p.id = i))
theorem posP_some {l : List PlV} {i : IdV} {k : Nat} : posP l i = some k ↔ ∃ h : k < l.length, l[k].id = i ∧ ∀ j (hj : j < k), l[j].id ≠ i := by
  unfold posP
  rw [List.findIdx?_eq_some_iff_getElem]
  simp
theorem posP_none {l : List PlV} {i : IdV} : posP l i = none ↔ ∀ p ∈ l, p.id ≠ i := by
  unfold posP
  rw [List.findIdx?_eq_none_iff]
  simp
theorem posP_at {l : List PlV} {i : IdV} {k : Nat} (h : posP l i = some k) : ∃ p, l[k]? = some p ∧ p.id = i := by
  obtain ⟨h1, h2, _⟩ := posP_some.1 h
  exact ⟨l[k], by simp [h1], h2⟩
/-- Where the ids differ, each is where it is. -/
theorem posP_uniq {l : List PlV} (hu : (l.map PlV.id).Nodup) {k : Nat} {p : PlV} (hk : l[k]? = some p) : posP l p.id = some k := by
  obtain ⟨hlt, rfl⟩ := List.getElem?_eq_some_iff.1 hk
  refine posP_some.2 ⟨hlt, rfl, fun j hj e => ?_⟩
  have hj' : j < l.length := by omega
  have := (List.pairwise_iff_getElem.1 hu) j k (by simpa using hj') (by simpa using hlt) hj
  simp at this
  exact this e
def elemP (p : PlV) : Bool := decide (p.kind = 0)
def takesV (l : List PlV) (i : IdV) : Bool := match posP l i with
  | some k => match l[k]? with
    | some p => elemP p && !voidB p.name
    | none => false
  | none => false
/-- Is a place within another one, or it itself? As the specification asks. -/
def underS (l : List PlV) : Nat → IdV → IdV → Bool
  | 0, _, _ => true
  | f + 1, i, b => if i = b then true else match posP l i with
    | none => false
    | some k => if k < 2 then false else match l[k]? with
      | some p => underS l f p.par b
      | none => false
/-- The same, as the program asks. -/
def within (l : List PlV) : Nat → IdV → IdV → Bool
  | 0, _, _ => false
  | f + 1, i, b => if i = b then true else if i = rootV ∨ i = trashV then false else match posP l i with
    | none => false
    | some k => match l[k]? with
      | some p => within l f p.par b
      | none => false
/-- An attribute set or taken away, as the specification does it. -/
def setA (n t : List Int) : Bool → List (List Int × List Int) → List (List Int × List Int)
  | put, [] => if put then [] else [(n, t)]
  | put, a :: r => (if !put && !klB a.1 n then [(n, t)] else []) ++ (if a.1 = n then [] else [a]) ++ setA n t (put || !klB a.1 n) r
def setAttrs (l : List (List Int × List Int)) (o : OpV) : List (List Int × List Int) := if (setA o.name o.text o.gone l).length ≤ 4 then setA o.name o.text o.gone l else l
def newP (o : OpV) : PlV := ⟨o.atN, o.atR, o.parN, o.parR, o.key, o.elem, o.name, o.text, []⟩
def moveP (o : OpV) (p : PlV) : PlV := { p with parN := o.parN, parR := o.parR, key := o.key }
def textP (o : OpV) (p : PlV) : PlV := { p with text := o.text }
def attrP (o : OpV) (p : PlV) : PlV := { p with attrs := setAttrs p.attrs o }
def mayMove (l : List PlV) (o : OpV) (k : Nat) : Bool := decide (2 ≤ k) && takesV l o.par && !underS l (l.length + 1) o.par o.node
/-- What one operation does. -/
def doV (l : List PlV) (o : OpV) : List PlV :=
  if o.kind = 0 then (if takesV l o.par then l ++ [newP o] else l)
  else match posP l o.node with
    | none => l
    | some k => match l[k]? with
      | none => l
      | some p =>
        if o.kind = 1 then (if mayMove l o k then l.set k (moveP o p) else l)
        else if o.kind = 2 then (if 2 ≤ k ∧ p.kind = 1 then l.set k (textP o p) else l)
        else (if k ≠ 1 ∧ p.kind = 0 then l.set k (attrP o p) else l)
/-- The kids of a part of the first tree, as places. -/
def seedK : (n : Nat) → IdV → List (Tr n) → List PlV → List PlV
  | 0, _, _, acc => acc
  | n + 1, i, ks, acc => ks.zipIdx.foldl (fun (a : List PlV) (x : Nd (Tr n) × Nat) => seedK n (0, (a.length : Int)) x.1.kids (a ++ [⟨0, a.length, i.1, i.2, [(x.2 : Int) + 1], x.1.kind, x.1.name, x.1.text, x.1.attrs⟩])) acc
def trashN : List Int := [116, 114, 97, 115, 104]
def trashP : PlV := ⟨0, 1, 0, 0, [], 0, trashN, [], []⟩
/-- A forest: root and trash, all others hang on a place, none within itself. -/
structure Fr (l : List PlV) : Prop where
  two : 2 ≤ l.length
  root : ∀ p, l[0]? = some p → p.id = rootV
  trash : ∀ p, l[1]? = some p → p.id = trashV
  uniq : (l.map PlV.id).Nodup
  par : ∀ i p, 2 ≤ i → l[i]? = some p → ∃ j, posP l p.par = some j
  rank : ∃ rk : IdV → Nat, ∀ i p, 2 ≤ i → l[i]? = some p → rk p.par < rk p.id
theorem countP_lt {α : Type} (p q : α → Bool) : ∀ (l : List α), (∀ x ∈ l, p x = true → q x = true) → (∃ x ∈ l, q x = true ∧ p x = false) → l.countP p < l.countP q
  | [], _, ⟨x, hx, _⟩ => by cases hx
  | a :: r, h, ⟨x, hx, hq, hp⟩ => by
    have hle : r.countP p ≤ r.countP q := List.countP_mono_left (fun y hy => h y (List.mem_cons_of_mem _ hy))
    rw [List.countP_cons, List.countP_cons]
    rcases List.mem_cons.1 hx with rfl | hx
    · simp only [hp, hq]; simp; omega
    · have := countP_lt p q r (fun y hy => h y (List.mem_cons_of_mem _ hy)) ⟨x, hx, hq, hp⟩
      have h1 := h a (List.mem_cons_self ..)
      by_cases e : p a = true
      · rw [h1 e, e]; simp; omega
      · simp only [e]; simp; omega
/-- How many others stand no higher. -/
def cntR (l : List PlV) (rk : IdV → Nat) (r : Nat) : Nat := (l.drop 2).countP (fun p => decide (rk p.id ≤ r))
theorem mem_drop2 {l : List PlV} {k : Nat} {p : PlV} (hk : 2 ≤ k) (h : l[k]? = some p) : p ∈ l.drop 2 := by
  refine List.mem_of_getElem? (i := k - 2) ?_
  rw [List.getElem?_drop]
  rw [show 2 + (k - 2) = k by omega]
  exact h
theorem cntR_lt {l : List PlV} {rk : IdV → Nat} (hr : ∀ i p, 2 ≤ i → l[i]? = some p → rk p.par < rk p.id) {k : Nat} {p : PlV} (hk : 2 ≤ k) (h : l[k]? = some p) : cntR l rk (rk p.par) < cntR l rk (rk p.id) := by
  have := hr k p hk h
  exact countP_lt _ _ _ (fun x _ hx => by simp at hx ⊢; omega) ⟨p, mem_drop2 hk h, by simp, by simp; omega⟩
theorem cntR_le (l : List PlV) (rk : IdV → Nat) (r : Nat) : cntR l rk r ≤ l.length - 2 := by
  unfold cntR
  have := List.countP_le_length (p := fun p : PlV => decide (rk p.id ≤ r)) (l := l.drop 2)
  simpa using this
theorem Fr.low {l : List PlV} (h : Fr l) {i : IdV} {k : Nat} (hk : posP l i = some k) : k < 2 ↔ i = rootV ∨ i = trashV := by
  obtain ⟨p, hp, rfl⟩ := posP_at hk
  have h2 := h.two
  obtain ⟨p0, h0⟩ : ∃ p0, l[0]? = some p0 := ⟨l[0], by simp [show 0 < l.length by omega]⟩
  obtain ⟨p1, h1⟩ : ∃ p1, l[1]? = some p1 := ⟨l[1], by simp [show 1 < l.length by omega]⟩
  constructor
  · intro hlt
    match k, hlt with
    | 0, _ => exact .inl (h.root p hp)
    | 1, _ => exact .inr (h.trash p hp)
  · rintro (e | e)
    · have := posP_uniq h.uniq h0
      rw [h.root p0 h0, ← e, hk] at this
      cases this; decide
    · have := posP_uniq h.uniq h1
      rw [h.trash p1 h1, ← e, hk] at this
      cases this; decide
/-- With enough rounds both ask the same. -/
theorem under_within {l : List PlV} (h : Fr l) (b : IdV) {rk : IdV → Nat} (hr : ∀ i p, 2 ≤ i → l[i]? = some p → rk p.par < rk p.id) : ∀ (f1 f2 : Nat) (i : IdV) (k : Nat), posP l i = some k → cntR l rk (rk i) < f1 → cntR l rk (rk i) < f2 → underS l f1 i b = within l f2 i b
  | 0, _, _, _, _, h1, _ => by omega
  | f1 + 1, 0, _, _, _, _, h2 => by omega
  | f1 + 1, f2 + 1, i, k, hk, h1, h2 => by
    unfold underS within
    by_cases e : i = b
    · simp [e]
    · simp only [e, if_false, hk]
      by_cases hlt : k < 2
      · have := (h.low hk).1 hlt
        simp [hlt, this]
      · have hn : ¬ (i = rootV ∨ i = trashV) := fun e => hlt ((h.low hk).2 e)
        obtain ⟨p, hp, rfl⟩ := posP_at hk
        simp only [hlt, hn, if_false, hp]
        obtain ⟨j, hj⟩ := h.par k p (by omega) hp
        have := cntR_lt hr (by omega) hp
        exact under_within h b hr f1 f2 p.par j hj (by omega) (by omega)
/-- More rounds than enough make no odds. -/
theorem under_more {l : List PlV} (h : Fr l) (b : IdV) {rk : IdV → Nat} (hr : ∀ i p, 2 ≤ i → l[i]? = some p → rk p.par < rk p.id) (f1 f2 : Nat) (i : IdV) (k : Nat) (hk : posP l i = some k) (h1 : cntR l rk (rk i) < f1) (h2 : cntR l rk (rk i) < f2) : underS l f1 i b = underS l f2 i b :=
  (under_within h b hr f1 f2 i k hk h1 h2).trans (under_within h b hr f2 f2 i k hk h2 h2).symm
theorem Fr.under {l : List PlV} (h : Fr l) (i b : IdV) (k : Nat) (hk : posP l i = some k) : underS l (l.length + 1) i b = within l l.length i b := by
  obtain ⟨rk, hr⟩ := h.rank
  have h1 := cntR_le l rk (rk i)
  have h2 := h.two
  exact under_within h b hr _ _ i k hk (by omega) (by omega)
end Go.Proofs.YtnfafchajjclaaaGreatDoor

/- An operation leaves the forest a forest. No function of the program. -/
namespace Go.Proofs.YtnfafchajjclaaaGreatDoor
open Go.RowKit
set_option linter.unusedVariables false

theorem posP_app {l : List PlV} {p : PlV} {i : IdV} {k : Nat} (h : posP l i = some k) : posP (l ++ [p]) i = some k := by
  obtain ⟨h1, h2, h3⟩ := posP_some.1 h
  refine posP_some.2 ⟨by simp; omega, ?_, fun j hj => ?_⟩
  · rw [List.getElem_append_left h1]; exact h2
  · rw [List.getElem_append_left (by omega)]; exact h3 j hj
theorem ids_set {l : List PlV} {k : Nat} {p q : PlV} (hk : l[k]? = some p) (e : q.id = p.id) : (l.set k q).map PlV.id = l.map PlV.id := by
  rw [List.map_set, e]
  obtain ⟨hlt, rfl⟩ := List.getElem?_eq_some_iff.1 hk
  refine List.ext_getElem? (fun j => ?_)
  rw [List.getElem?_set]
  by_cases hj : k = j
  · subst hj; simp [hlt]
  · simp [hj]
theorem posP_ids {l m : List PlV} (h : l.map PlV.id = m.map PlV.id) (i : IdV) : posP l i = posP m i := by
  have e : ∀ l : List PlV, posP l i = (l.map PlV.id).findIdx? (fun x => decide (x = i)) := fun l => by unfold posP; rw [List.findIdx?_map]; rfl
  rw [e l, e m, h]
theorem get_set {l : List PlV} {k j : Nat} {p q r : PlV} (hk : l[k]? = some p) (h : (l.set k q)[j]? = some r) : (j = k ∧ r = q) ∨ (j ≠ k ∧ l[j]? = some r) := by
  obtain ⟨hlt, rfl⟩ := List.getElem?_eq_some_iff.1 hk
  rw [List.getElem?_set] at h
  by_cases e : k = j
  · subst e
    simp [hlt] at h
    exact .inl ⟨rfl, h.symm⟩
  · simp [e] at h
    exact .inr ⟨fun e' => e e'.symm, by simpa using h⟩
/-- A place is changed but for its id and its parent. -/
theorem Fr.same {l : List PlV} (h : Fr l) {k : Nat} {p q : PlV} (hk : l[k]? = some p) (e1 : q.id = p.id) (e2 : q.par = p.par) : Fr (l.set k q) := by
  have hi := ids_set hk e1
  refine ⟨by simpa using h.two, fun r hr => ?_, fun r hr => ?_, by rw [hi]; exact h.uniq, fun i r h2 hr => ?_, ?_⟩
  · rcases get_set hk hr with ⟨rfl, rfl⟩ | ⟨_, hr⟩
    · rw [e1]; exact h.root p hk
    · exact h.root r hr
  · rcases get_set hk hr with ⟨rfl, rfl⟩ | ⟨_, hr⟩
    · rw [e1]; exact h.trash p hk
    · exact h.trash r hr
  · rw [posP_ids hi]
    rcases get_set hk hr with ⟨rfl, rfl⟩ | ⟨_, hr⟩
    · rw [e2]; exact h.par _ p h2 hk
    · exact h.par i r h2 hr
  · obtain ⟨rk, hrk⟩ := h.rank
    refine ⟨rk, fun i r h2 hr => ?_⟩
    rcases get_set hk hr with ⟨rfl, rfl⟩ | ⟨_, hr⟩
    · rw [e1, e2]; exact hrk _ p h2 hk
    · exact hrk i r h2 hr
/-- A place is added: its id is new, its parent is there. -/
theorem Fr.add {l : List PlV} (h : Fr l) {q : PlV} (hn : posP l q.id = none) {j : Nat} (hp : posP l q.par = some j) : Fr (l ++ [q]) := by
  have hne : ∀ p ∈ l, p.id ≠ q.id := posP_none.1 hn
  have hget : ∀ i r, (l ++ [q])[i]? = some r → (i = l.length ∧ r = q) ∨ (i < l.length ∧ l[i]? = some r) := fun i r hr => by
    rw [List.getElem?_append] at hr
    split at hr
    · exact .inr ⟨by assumption, hr⟩
    · rename_i hge
      have : i - l.length = 0 := by
        have := (List.getElem?_eq_some_iff.1 hr).1
        simp at this; omega
      rw [this] at hr
      simp at hr
      exact .inl ⟨by omega, hr.symm⟩
  have h2 := h.two
  refine ⟨by simp; omega, fun r hr => ?_, fun r hr => ?_, ?_, fun i r hi hr => ?_, ?_⟩
  · rcases hget _ _ hr with ⟨e, _⟩ | ⟨_, hr⟩
    · omega
    · exact h.root r hr
  · rcases hget _ _ hr with ⟨e, _⟩ | ⟨_, hr⟩
    · omega
    · exact h.trash r hr
  · rw [List.map_append, List.nodup_append]
    refine ⟨h.uniq, by simp, fun a ha b hb e => ?_⟩
    obtain ⟨p, hp1, rfl⟩ := List.mem_map.1 ha
    simp at hb
    exact hne p hp1 (e.trans hb)
  · rcases hget _ _ hr with ⟨_, rfl⟩ | ⟨_, hr⟩
    · exact ⟨j, posP_app hp⟩
    · obtain ⟨m, hm⟩ := h.par i r hi hr
      exact ⟨m, posP_app hm⟩
  · obtain ⟨rk, hrk⟩ := h.rank
    have hpar : ∀ i r, 2 ≤ i → l[i]? = some r → r.par ≠ q.id := fun i r hi hr e => by
      obtain ⟨m, hm⟩ := h.par i r hi hr
      rw [e, hn] at hm
      cases hm
    have hqp : q.par ≠ q.id := fun e => by rw [e, hn] at hp; cases hp
    refine ⟨fun x => if x = q.id then rk q.par + 1 else rk x, fun i r hi hr => ?_⟩
    rcases hget _ _ hr with ⟨_, rfl⟩ | ⟨_, hr⟩
    · simp [hqp]
    · have := hne r (List.mem_of_getElem? hr)
      simp only [hpar i r hi hr, this, if_false]
      exact hrk i r hi hr
/-- A place is moved: what it moves to is there, and not within it. -/
theorem Fr.move {l : List PlV} (h : Fr l) {k : Nat} {p q : PlV} (hk2 : 2 ≤ k) (hk : l[k]? = some p) (e1 : q.id = p.id) {j : Nat} (hp : posP l q.par = some j) (hu : underS l (l.length + 1) q.par p.id = false) : Fr (l.set k q) := by
  have hi := ids_set hk e1
  refine ⟨by simpa using h.two, fun r hr => ?_, fun r hr => ?_, by rw [hi]; exact h.uniq, fun i r h2 hr => ?_, ?_⟩
  · rcases get_set hk hr with ⟨rfl, rfl⟩ | ⟨_, hr⟩
    · rw [e1]; exact h.root p hk
    · exact h.root r hr
  · rcases get_set hk hr with ⟨rfl, rfl⟩ | ⟨_, hr⟩
    · rw [e1]; exact h.trash p hk
    · exact h.trash r hr
  · rw [posP_ids hi]
    rcases get_set hk hr with ⟨rfl, rfl⟩ | ⟨_, hr⟩
    · exact ⟨j, hp⟩
    · exact h.par i r h2 hr
  · obtain ⟨rk, hrk⟩ := h.rank
    have hU : ∀ i r, 2 ≤ i → l[i]? = some r → r.id ≠ p.id → underS l (l.length + 1) r.id p.id = underS l (l.length + 1) r.par p.id := fun i r hi2 hr hne => by
      have hpos := posP_uniq h.uniq hr
      obtain ⟨m, hm⟩ := h.par i r hi2 hr
      have c1 := cntR_le l rk (rk r.id)
      have c2 := cntR_lt hrk hi2 hr
      have h2 := h.two
      rw [under_more h p.id hrk (l.length + 1) (l.length + 2) r.id i hpos (by omega) (by omega)]
      conv => lhs; unfold underS
      simp only [hne, if_false, hpos, hr, show ¬ i < 2 by omega]
    refine ⟨fun x => if underS l (l.length + 1) x p.id = true then rk x + rk q.par + 1 else rk x, fun i r h2 hr => ?_⟩
    have hself : underS l (l.length + 1) p.id p.id = true := by unfold underS; simp
    rcases get_set hk hr with ⟨rfl, rfl⟩ | ⟨hne, hr⟩
    · show (if underS l (l.length + 1) r.par p.id = true then rk r.par + rk r.par + 1 else rk r.par) < (if underS l (l.length + 1) r.id p.id = true then rk r.id + rk r.par + 1 else rk r.id)
      rw [e1, hself, hu]
      simp
      omega
    · have hid : r.id ≠ p.id := fun e => by
        have a1 := posP_uniq h.uniq hr
        have a2 := posP_uniq h.uniq hk
        rw [e, a2] at a1
        cases a1
        exact hne rfl
      show (if underS l (l.length + 1) r.par p.id = true then rk r.par + rk q.par + 1 else rk r.par) < (if underS l (l.length + 1) r.id p.id = true then rk r.id + rk q.par + 1 else rk r.id)
      rw [hU i r h2 hr hid]
      have := hrk i r h2 hr
      by_cases e : underS l (l.length + 1) r.par p.id = true
      · simp only [e, if_true]; omega
      · simp only [e]; simpa using this
theorem takes_pos {l : List PlV} {i : IdV} (h : takesV l i = true) : ∃ k p, posP l i = some k ∧ l[k]? = some p ∧ p.kind = 0 ∧ voidB p.name = false := by
  unfold takesV at h
  cases hp : posP l i with
  | none => rw [hp] at h; cases h
  | some k =>
    rw [hp] at h
    cases hk : l[k]? with
    | none => simp only [hk] at h; cases h
    | some p =>
      simp only [hk] at h
      simp [elemP] at h
      exact ⟨k, p, rfl, hk, h.1, h.2⟩
/-- What the stamp of an operation must be for the forest. -/
theorem Fr.do {l : List PlV} (h : Fr l) (o : OpV) (hn : o.kind = 0 → posP l o.at' = none) : Fr (doV l o) := by
  unfold doV
  by_cases h0 : o.kind = 0
  · rw [if_pos h0]
    by_cases ht : takesV l o.par = true
    · rw [if_pos ht]
      obtain ⟨k, p, hp, _⟩ := takes_pos ht
      exact h.add (q := newP o) (hn h0) hp
    · rw [if_neg ht]; exact h
  · rw [if_neg h0]
    cases hp : posP l o.node with
    | none => exact h
    | some k =>
      obtain ⟨p, hk, hid⟩ := posP_at hp
      simp only [hk]
      by_cases h1 : o.kind = 1
      · rw [if_pos h1]
        by_cases hm : mayMove l o k = true
        · rw [if_pos hm]
          unfold mayMove at hm
          simp only [Bool.and_eq_true, decide_eq_true_eq, Bool.not_eq_true'] at hm
          obtain ⟨j, q, hj, _⟩ := takes_pos hm.1.2
          exact h.move (q := moveP o p) hm.1.1 hk rfl hj (by rw [hid]; exact hm.2)
        · rw [if_neg hm]; exact h
      · rw [if_neg h1]
        by_cases h2 : o.kind = 2
        · rw [if_pos h2]
          by_cases hc : 2 ≤ k ∧ p.kind = 1
          · rw [if_pos hc]; exact h.same hk rfl rfl
          · rw [if_neg hc]; exact h
        · rw [if_neg h2]
          by_cases hc : k ≠ 1 ∧ p.kind = 0
          · rw [if_pos hc]; exact h.same hk rfl rfl
          · rw [if_neg hc]; exact h
end Go.Proofs.YtnfafchajjclaaaGreatDoor

/- The forest's map: where the place of an id stands. -/
namespace Go.Proofs.YtnfafchajjclaaaGreatDoor
open Go.RowKit Go.Maps
set_option linter.unusedVariables false
set_option maxRecDepth 100000

theorem Tryz.laidOut9 : laidOutB Tryz.prog = true := by kernel_rfl
theorem Tryz.row9 : (66 : TypeId) < Tryz.prog.types.size := of_decide_eq_true (by kernel_rfl)
theorem lawId : Keyed Tryz.prog 66 := Keyed.of_law (deep_law_laid Tryz.laidOut9 (m := 2) (by omega) Tryz.row9 (by kernel_rfl) (by kernel_rfl))
def kId (i : IdV) : Lit := .string (keyBytes [.int .i64 i.1, .int .i64 i.2])
def okI (i : IdV) : Prop := (Lit.int .i64 i.1).wf = true ∧ (Lit.int .i64 i.2).wf = true
def idVal (i : IdV) : Value := .agg #[.int .i64 i.1, .int .i64 i.2]
theorem keyI {i : IdV} (h : okI i) : keyOf Tryz.prog 66 (idVal i) = some (kId i) := by
  obtain ⟨wa, wb⟩ := h
  obtain ⟨m, hm⟩ : ∃ m, Tryz.prog.types.size = m + 1 := ⟨Tryz.prog.types.size - 1, by kernel_rfl⟩
  have hu : Tryz.prog.underlying 3 = some (.int .i64) := by kernel_rfl
  have hc : Tryz.prog.cellsOf 66 = 2 := by kernel_rfl
  have hc1 : Tryz.prog.cellsOf 3 = 1 := by kernel_rfl
  have hkt : Tryz.prog.keyType 66 = true := by kernel_rfl
  unfold keyOf idVal kId
  simp only [Tryz.underlying66]
  rw [if_pos (by simp [hkt, Value.formed, Tryz.underlying66, hc]), hm]
  unfold Program.keyLits
  simp only [Tryz.underlying66, Value.cells]
  simp [hc, hc1, Program.keyLits, hu, wa, wb]
theorem kId_inj {i j : IdV} (h : okI i) (k : okI j) (e : kId i = kId j) : i = j := by
  have h1 := lawId.inj (keyI h) (by rw [e]; exact keyI k)
  unfold idVal at h1
  simp at h1
  exact Prod.ext h1.1 h1.2
theorem intE : Tryz.prog.underlying 3 = some (.int .i64) := by kernel_rfl
theorem zeroE (w : World) : (zeroValue 3).run Tryz.prog w = .ok (.int .i64 0) w := by kernel_rfl
/-- The map tells of each id where its place stands. -/
def AtM (w : World) (mb : Nat) (l : List PlV) : Prop := ∃ (D : DataW Unit) (n : Nat), w.ownsMap Tryz.prog 66 (plainElem Tryz.prog 3) mb n D ∧ n ≤ l.length ∧ ∀ i, okI i → Maps.has D (kId i) = (posP l i).isSome ∧ ∀ k, posP l i = some k → D.atKey (kId i) (.lit (.int .i64 0)) = .lit (.int .i64 (k : Int))
theorem AtM.made (w : World) : AtM (w.alloc (.map #[] 0)) w.heap.size [] :=
  ⟨.map [], 0, World.ownsMap_made _ _ _ _, Nat.le_refl _, fun i _ => ⟨rfl, fun k h => by cases h⟩⟩
theorem AtM.lt {w : World} {mb : Nat} {l : List PlV} (h : AtM w mb l) : mb < w.heap.size := by
  obtain ⟨D, n, h, _⟩ := h
  exact h.lt
theorem AtM.isMap {w : World} {mb : Nat} {l : List PlV} (h : AtM w mb l) : ∃ es clock, w.heap[mb]? = some (.map es clock) := by
  obtain ⟨D, n, ⟨es, c, h, _⟩, _⟩ := h
  exact ⟨es, c, h⟩
theorem AtM.frm {w w' : World} {mb : Nat} {l : List PlV} {S : List Nat} (h : AtM w mb l) (f : Frm w w' S) (hd : mb ∉ S) : AtM w' mb l := by
  have hlt := h.lt
  obtain ⟨D, n, ⟨es, c, h1, h2⟩, h3⟩ := h
  exact ⟨D, n, ⟨es, c, (f.block mb hlt hd).trans h1, h2⟩, h3⟩
theorem AtM.ids {w : World} {mb : Nat} {l m : List PlV} (h : AtM w mb l) (e : l.map PlV.id = m.map PlV.id) : AtM w mb m := by
  obtain ⟨D, n, h1, h2, h3⟩ := h
  have hl : l.length = m.length := by have := congrArg List.length e; simpa using this
  exact ⟨D, n, h1, by omega, fun i hi => by rw [← posP_ids e]; exact h3 i hi⟩
theorem AtM.look {w : World} {mb : Nat} {l : List PlV} (h : AtM w mb l) {i : IdV} (hi : okI i) : ∃ c : Int, (Instr.lookup 70 (.map (some mb)) (idVal i) true).run Tryz.prog w = .ok (.tuple #[.int .i64 c, .bool (posP l i).isSome]) w ∧ ∀ k, posP l i = some k → c = (k : Int) := by
  obtain ⟨D, n, h1, h2, h3⟩ := h
  obtain ⟨v, ps, hrun, hv⟩ := h1.look_ok lawId Tryz.underlying70 (zeroE w) (plainElem_int intE (by decide)) (keyI hi)
  obtain ⟨c, rfl, hc, _⟩ := plainElem_int_inv intE hv
  refine ⟨c, by rw [hrun, (h3 i hi).1], fun k hk => ?_⟩
  have h4 := (congrArg Prod.fst hc)
  rw [(h3 i hi).2 k hk] at h4
  injection h4 with h4
  injection h4 with _ h4
  exact h4.symm
theorem posP_snoc {l : List PlV} {p : PlV} {i : IdV} (hn : posP l p.id = none) : posP (l ++ [p]) i = if i = p.id then some l.length else posP l i := by
  by_cases e : i = p.id
  · rw [if_pos e, e]
    refine posP_some.2 ⟨by simp, by simp, fun j hj => ?_⟩
    rw [List.getElem_append_left hj]
    exact posP_none.1 hn _ (List.getElem_mem hj)
  · rw [if_neg e]
    cases h : posP l i with
    | some k => exact posP_app h
    | none =>
      refine posP_none.2 (fun q hq => ?_)
      rcases List.mem_append.1 hq with hq | hq
      · exact posP_none.1 h q hq
      · have : q = p := by simpa using hq
        rw [this]; exact fun h => e h.symm
theorem AtM.put {w : World} {mb : Nat} {l : List PlV} (h : AtM w mb l) (p : PlV) (hp : okI p.id) (hn : posP l p.id = none) (hl : l.length ≤ 100000000) : ∃ w', (Instr.mapUpdate 70 (.map (some mb)) (idVal p.id) (.int .i64 (l.length : Int))).run Tryz.prog w = .ok () w' ∧ AtM w' mb (l ++ [p]) ∧ w.grownBy w' (some mb) := by
  obtain ⟨D, n, h1, h2, h3⟩ := h
  have hwf : (Lit.int .i64 (l.length : Int)).wf = true := WalkArith.wf_i64 (by omega)
  obtain ⟨w', hrun, h4, h5⟩ := h1.update lawId Tryz.underlying70 (by unfold maxLen; omega) (keyI hp) (plainElem_int intE hwf)
  refine ⟨w', hrun, ⟨_, n + 1, h4, by simp; omega, fun i hi => ?_⟩, h5⟩
  have hk := lawId.key (keyI hp)
  rw [posP_snoc hn]
  by_cases e : i = p.id
  · rw [if_pos e, e]
    exact ⟨has_put_same h1.isMap hk _, fun k hk' => by cases hk'; exact atKey_put_same h1.isMap hk _ _⟩
  · rw [if_neg e]
    have hne : kId i ≠ kId p.id := fun e' => e (kId_inj hi hp e')
    rw [has_put_other hne, atKey_put_other hne]
    exact h3 i hi
end Go.Proofs.YtnfafchajjclaaaGreatDoor

/- The set of void names: the map that fill makes, and sync.Once over it, by contracts: the lock, the two deferred calls, doSlow. -/
namespace Go.Proofs.YtnfafchajjclaaaGreatDoor
open Go.RowKit
set_option linter.unusedVariables false
set_option maxRecDepth 100000

/-- The map of br and hr, as it is made. -/
def voidMap : Obj := .map #[{ key := .string ⟨#[98, 114]⟩, val := .agg #[], born := 0 }, { key := .string ⟨#[104, 114]⟩, val := .agg #[], born := 1 }] 2

theorem alloc_put (W : World) (o o' : Obj) : ({ (W.alloc o) with heap := (W.alloc o).heap.setIfInBounds W.heap.size o' } : World) = W.alloc o' := by
  have e : (W.heap.push o).setIfInBounds W.heap.size o' = W.heap.push o' := by
    apply Array.ext'
    rw [Array.toList_setIfInBounds, Array.toList_push, Array.toList_push]
    rw [List.set_append_right _ _ (by simp)]
    simp
  show ({ W with heap := (W.heap.push o).setIfInBounds W.heap.size o' } : World) = { W with heap := W.heap.push o' }
  rw [e]

theorem br_in (W : World) : (Instr.mapUpdate 83 (.map (some W.heap.size)) (.string ⟨#[98, 114]⟩) (.agg #[])).run Tryz.prog (W.alloc (.map #[] 0)) = .ok () (W.alloc (.map #[{ key := .string ⟨#[98, 114]⟩, val := .agg #[], born := 0 }] 1)) := by
  rw [run_mapUpdate_first (P := Tryz.prog) (W.alloc (.map #[] 0)) 83 9 71 W.heap.size 0 ⟨#[98, 114]⟩ (.agg #[]) Tryz.underlying83 Tryz.underlying9 (heap_alloc_new W _), alloc_put]
theorem hr_in (W : World) : (Instr.mapUpdate 83 (.map (some W.heap.size)) (.string ⟨#[104, 114]⟩) (.agg #[])).run Tryz.prog (W.alloc (.map #[{ key := .string ⟨#[98, 114]⟩, val := .agg #[], born := 0 }] 1)) = .ok () (W.alloc voidMap) := by
  have hb := heap_alloc_new W (.map #[{ key := .string ⟨#[98, 114]⟩, val := .agg #[], born := 0 }] 1)
  have hf : Instr.findNow .string (.string ⟨#[104, 114]⟩) ([{ key := .string ⟨#[98, 114]⟩, val := .agg #[], born := 0 }] : List MapEntry) 0 = some none := rfl
  have hc : (Instr.checkKey false 10000 9 (.string ⟨#[104, 114]⟩)).run Tryz.prog (W.alloc (.map #[{ key := .string ⟨#[98, 114]⟩, val := .agg #[], born := 0 }] 1)) = .ok () (W.alloc (.map #[{ key := .string ⟨#[98, 114]⟩, val := .agg #[], born := 0 }] 1)) := MapKept.run_checkKey (k := .string ⟨#[104, 114]⟩) Tryz.underlying9 (by simp [MapKept.IsKey]) false 9999
  simp [Instr.mapUpdate, run_underlying Tryz.underlying83, MapKept.run_getObj_map hb, hc, MapKept.run_findKey Tryz.underlying9 hf, MapKept.run_setObj_map _ hb, Result.andThen]
  exact alloc_put W _ _

theorem fill_any (g : Nat) (w : World) (cs : Array Value) (hl : Loc w g cs 85) (c3 : Value) (h3 : w.cell? ⟨g, 3, none⟩ = some c3) :
    Calls Tryz.prog 85 #[.pointer (some ⟨g, 0, none⟩)] w fun e w' => e = .returned (.tuple #[]) ∧ w' = (w.setCell ⟨g, 3, none⟩ (.map (some w.heap.size))).alloc voidMap := by
  have hmm := @run_makeMap Tryz.prog
  have h1 := br_in w
  have h2 := hr_in w
  have hg := hl.lt
  have f3 := hl.frozen 3
  go_enter Tryz.func85, Tryz.ntmps85
  go_wp2
  go_end0
  exact ⟨rfl, rfl⟩

theorem disable (w : World) : (callFunc 130 #[]).run Tryz.prog w = .ok (.value (.tuple #[])) w := run_call_mark0 Tryz.func130 (by kernel_rfl) (by kernel_rfl) (by kernel_rfl) .disable (by kernel_rfl) w
theorem enable (w : World) : (callFunc 132 #[]).run Tryz.prog w = .ok (.value (.tuple #[])) w := run_call_mark0 Tryz.func132 (by kernel_rfl) (by kernel_rfl) (by kernel_rfl) .enable (by kernel_rfl) w
theorem acquire (a : Addr) (w : World) : (callFunc 133 #[.pointer (some a)]).run Tryz.prog w = .ok (.value (.tuple #[])) w := run_call_marked Tryz.func133 (by kernel_rfl) (by kernel_rfl) (by kernel_rfl) .acquire (by kernel_rfl) a w
theorem releaseMerge (a : Addr) (w : World) : (callFunc 135 #[.pointer (some a)]).run Tryz.prog w = .ok (.value (.tuple #[])) w := run_call_marked Tryz.func135 (by kernel_rfl) (by kernel_rfl) (by kernel_rfl) .releaseMerge (by kernel_rfl) a w

theorem store_deferred (a : Addr) (x : Value) (u : FrameMode) (w : World) (hc : w.cell? a = some x) (hz : w.frozen? a = false) :
    CallsD Tryz.prog 121 #[.pointer (some a), .bool true] u w fun e u' w' => u' = u ∧ (e = .returned (.tuple #[]) ∧ w' = w.drew.setCell a (.int .u32 1)) := by
  have hc' : w.drew.cell? a = some x := by go_simp
  have hz' : w.drew.frozen? a = false := by go_simp
  have hst := run_call_store (P := Tryz.prog) Tryz.func126 (by kernel_rfl) (by kernel_rfl) (by kernel_rfl) (by kernel_rfl) (k := .u32) (y := 1) hc' hz'
  go_enter_d Tryz.func121, Tryz.ntmps121
  go_wp2
  go_region_calls
  all_goals (go_end0; exact ⟨rfl, rfl⟩)

theorem unlock_deferred (a : Addr) (u : FrameMode) (w : World) (hc : w.cell? a = some (.int .i32 1)) (hz : w.frozen? a = false) :
    CallsD Tryz.prog 120 #[.pointer (some a)] u w fun e u' w' => u' = u ∧ (e = .returned (.tuple #[]) ∧ w' = w.setCell a (.int .i32 0)) := by
  have hd := disable
  have he := enable
  have hr := releaseMerge
  have hadd := run_call_add (P := Tryz.prog) Tryz.func136 (by kernel_rfl) (by kernel_rfl) (by kernel_rfl) .i32 (by kernel_rfl) (y := -1) (s := 0) hc hz (by simp [go_sem]; rfl)
  have hcv := run_convert_to_unsafe (P := Tryz.prog) (src := 166) (dst := 170) Tryz.underlying166 Tryz.underlying170 (by kernel_rfl) hc
  go_enter_d Tryz.func120, Tryz.ntmps120
  go_wp2
  go_end0
  go_wp2
  go_end0
  exact ⟨rfl, rfl⟩

theorem lock_free (a : Addr) (w : World) (hc : w.cell? a = some (.int .i32 0)) (hz : w.frozen? a = false) :
    Calls Tryz.prog 119 #[.pointer (some a)] w fun e w' => e = .returned (.tuple #[]) ∧ w' = w.setCell a (.int .i32 1) := by
  have hd := disable
  have he := enable
  have ha := acquire
  have hcas := run_call_cas_hit (P := Tryz.prog) Tryz.func131 (by kernel_rfl) (by kernel_rfl) (by kernel_rfl) .i32 (by kernel_rfl) (y := 1) hc hz
  have hc' : (w.setCell a (.int .i32 1)).cell? a = some (.int .i32 1) := World.cell?_setCell_same w a _ hc
  have hcv := run_convert_to_unsafe (P := Tryz.prog) (src := 166) (dst := 170) Tryz.underlying166 Tryz.underlying170 (by kernel_rfl) hc'
  go_enter Tryz.func119, Tryz.ntmps119
  go_wp2
  first | go_end0 | (simp only [Exit.inBlock, Exit.then]; refine bodyPost_ret (results_none rfl _ _ _) rfl ?_) | refine bodyPost_ret (results_none rfl _ _ _) rfl ?_
  go_wp2
  go_end0
  exact ⟨rfl, rfl⟩

end Go.Proofs.YtnfafchajjclaaaGreatDoor

/- sync.Once over the set of void names: doSlow and Do, the first time and later; has. -/
namespace Go.Proofs.YtnfafchajjclaaaGreatDoor
open Go.RowKit
set_option linter.unusedVariables false
set_option maxRecDepth 100000

/-- A set that is not yet made; that is made. -/
def vs0 : Array Value := #[.int .u32 0, .int .i32 0, .int .u32 0, .map none]
def vs1 (m : Nat) : Array Value := #[.int .u32 1, .int .i32 0, .int .u32 0, .map (some m)]

theorem load_any (a : Addr) (x : Int) (w : World) (hc : w.cell? a = some (.int .u32 x)) (b : Bool) (hb : (x != 0) = b) :
    Calls Tryz.prog 105 #[.pointer (some a)] w fun e w' => e = .returned (.bool b) ∧ w' = w := by
  have hlo := run_call_load (P := Tryz.prog) Tryz.func118 (by kernel_rfl) (by kernel_rfl) (by kernel_rfl) .u32 (by kernel_rfl) hc
  go_enter Tryz.func105, Tryz.ntmps105
  go_wp2
  go_ret
  exact ⟨rfl, rfl⟩

theorem Frm.drew (w : World) (S : List Nat) : Frm w w.drew S := Frm.ofBelow ((Below.refl _ _).drew) S
theorem setCell_os (w : World) (a : Addr) (v : Value) : (w.setCell a v).os = w.os := by unfold World.setCell; repeat (first | rfl | split)
theorem setCell_tape (w : World) (a : Addr) (v : Value) : (w.setCell a v).tape = w.tape := by unfold World.setCell; repeat (first | rfl | split)
theorem setCell_output (w : World) (a : Addr) (v : Value) : (w.setCell a v).output = w.output := by unfold World.setCell; repeat (first | rfl | split)
theorem Frm.set (w : World) (g j : Nat) (v : Value) : Frm w (w.setCell ⟨g, j, none⟩ v) [g] :=
  ⟨setCell_os w _ v, setCell_tape w _ v, setCell_output w _ v, by simp, fun i _ hn => heap_setCell_other w ⟨g, j, none⟩ i v (fun e => hn (by simp; exact e))⟩
theorem Frm.alloc (w : World) (o : Obj) (S : List Nat) : Frm w (w.alloc o) S := Frm.ofBelow ((Below.refl _ _).alloc (Nat.le_refl _) _) S

set_option maxHeartbeats 1600000 in
theorem slow_any (g : Nat) (w : World) (hl : Loc w g vs0 85) :
    Calls Tryz.prog 106 #[.pointer (some ⟨g, 0, none⟩), .func (.func 85) #[.pointer (some ⟨g, 0, none⟩)] #[]] w fun e w' => e = .returned (.tuple #[]) ∧ ∃ m, w.heap.size ≤ m ∧ Loc w' g (vs1 m) 85 ∧ w'.heap[m]? = some voidMap ∧ Frm w w' [g] := by
  have h1 : w.cell? ⟨g, 1, none⟩ = some (.int .i32 0) := hl.cell 1
  have f1 := hl.frozen 1
  have l1 : Loc (w.setCell ⟨g, 1, none⟩ (.int .i32 1)) g #[.int .u32 0, .int .i32 1, .int .u32 0, .map none] 85 := hl.set 1 (.int .i32 1)
  have F1 := Frm.set w g 1 (.int .i32 1)
  have hnot : ∀ (x : Bool) (w : World), (Op.unary .not (.bool x)).run Tryz.prog w = .ok (.bool (!x)) w := fun _ _ => rfl
  go_enter_defers Tryz.func106, Tryz.ntmps106
  go_wp2_with (go_at_call 119; refine (lock_free ⟨g, 1, none⟩ _ (by go_simp) (by go_simp)).mono ?_; rintro e w' ⟨rfl, rfl⟩)
  generalize w.setCell ⟨g, 1, none⟩ (.int .i32 1) = w1 at *
  refine (load_any ⟨g, 0, none⟩ 0 w1 (l1.cell 0) false (by simp)).mono ?_
  rintro e w1 ⟨rfl, rfl⟩
  go_wp2_with fail
  refine (fill_any g w1 _ l1 _ (l1.cell 3)).mono ?_
  rintro e w2 ⟨rfl, hw2⟩
  have l2 : Loc w2 g #[.int .u32 0, .int .i32 1, .int .u32 0, .map (some w1.heap.size)] 85 := by rw [hw2]; exact (l1.set 3 (.map (some w1.heap.size))).alloc _
  have m2 : w2.heap[w1.heap.size]? = some voidMap := by rw [hw2]; have := heap_alloc_new (w1.setCell ⟨g, 3, none⟩ (.map (some w1.heap.size))) voidMap; rwa [show (w1.setCell ⟨g, 3, none⟩ (.map (some w1.heap.size))).heap.size = w1.heap.size by simp] at this
  have F2 : Frm w1 w2 [g] := by rw [hw2]; exact (Frm.set w1 g 3 _).trans (Frm.alloc _ _ _)
  have hne : w1.heap.size ≠ g := by have := l1.lt; omega
  have F12 := F1.trans F2
  have hmm := F1.size
  clear hw2
  generalize w1.heap.size = m at *
  go_wp2_with fail
  refine leaves_cons (f := 121) (args := #[.pointer (some ⟨g, 0, none⟩), .bool true]) (by simp) (by simp [go_sem]) ?_
  refine (store_deferred ⟨g, 0, none⟩ (.int .u32 0) .returning _ (l2.cell 0) (l2.frozen 0)).mono ?_
  rintro e u' w3 ⟨rfl, rfl, hw3⟩
  have ld : Loc w2.drew g #[.int .u32 0, .int .i32 1, .int .u32 0, .map (some m)] 85 := l2.frm (Frm.drew w2 []) (by simp)
  have l3 : Loc w3 g #[.int .u32 1, .int .i32 1, .int .u32 0, .map (some m)] 85 := by rw [hw3]; exact ld.set 0 (.int .u32 1)
  have F3 : Frm w2 w3 [g] := by rw [hw3]; exact (Frm.drew w2 _).trans (Frm.set _ g 0 _)
  clear hw3
  refine leaves_cons (f := 120) (args := #[.pointer (some ⟨g, 1, none⟩)]) (by simp [settle]) (by simp [go_sem]) ?_
  refine (unlock_deferred ⟨g, 1, none⟩ _ _ (l3.cell 1) (l3.frozen 1)).mono ?_
  rintro e u' w4 ⟨rfl, rfl, hw4⟩
  have l4 : Loc w4 g (vs1 m) 85 := by rw [hw4]; exact l3.set 1 (.int .i32 0)
  have F4 : Frm w3 w4 [g] := by rw [hw4]; exact Frm.set _ g 1 _
  have hm : m < w2.heap.size := by
    by_cases h : m < w2.heap.size
    · exact h
    · rw [Array.getElem?_eq_none (by omega)] at m2; cases m2
  have F34 := F3.trans F4
  have m4 : w4.heap[m]? = some voidMap := (F34.block m hm (by simpa using hne)).trans m2
  simp [Leaves, settle, results, Tryz.results106]
  exact ⟨m, hmm, l4, m4, F12.trans F34⟩
end Go.Proofs.YtnfafchajjclaaaGreatDoor

/- sync.Once.Do over the set of void names, and the set asked: has. -/
namespace Go.Proofs.YtnfafchajjclaaaGreatDoor
open Go.RowKit
set_option linter.unusedVariables false
set_option maxRecDepth 100000

/-- The set lies in block g, made or not yet. -/
def VMade (B : Nat) (w : World) (g : Nat) : Prop := ∃ m, B ≤ m ∧ Loc w g (vs1 m) 85 ∧ w.heap[m]? = some voidMap
def VSet (B : Nat) (w : World) (g : Nat) : Prop := Loc w g vs0 85 ∨ VMade B w g

theorem do_any (B g : Nat) (w : World) (h : VSet B w g) (hB : B ≤ w.heap.size) :
    Calls Tryz.prog 84 #[.pointer (some ⟨g, 0, none⟩), .func (.func 85) #[.pointer (some ⟨g, 0, none⟩)] #[]] w fun e w' => e = .returned (.tuple #[]) ∧ VMade B w' g ∧ Frm w w' [g] := by
  have hnot : ∀ (x : Bool) (w : World), (Op.unary .not (.bool x)).run Tryz.prog w = .ok (.bool (!x)) w := fun _ _ => rfl
  rcases h with hl | ⟨m, hbm, hl, hm⟩
  · have h0 : w.cell? ⟨g, 0, none⟩ = some (.int .u32 0) := hl.cell 0
    go_enter Tryz.func84, Tryz.ntmps84
    go_wp2_with fail
    refine (load_any ⟨g, 0, none⟩ 0 w h0 false (by simp)).mono ?_
    rintro e w ⟨rfl, rfl⟩
    go_wp2_with fail
    refine (slow_any g w hl).mono ?_
    rintro e w' ⟨rfl, m, hbm, l', m', F'⟩
    go_wp2_with fail
    go_end0
    exact ⟨rfl, ⟨m, Nat.le_trans hB hbm, l', m'⟩, F'⟩
  · have h0 : w.cell? ⟨g, 0, none⟩ = some (.int .u32 1) := hl.cell 0
    go_enter Tryz.func84, Tryz.ntmps84
    go_wp2_with fail
    refine (load_any ⟨g, 0, none⟩ 1 w h0 true (by simp)).mono ?_
    rintro e w ⟨rfl, rfl⟩
    go_wp2_with fail
    go_end0
    exact ⟨rfl, ⟨m, hbm, hl, hm⟩, Frm.refl _ _⟩

def voidS (s : ByteArray) : Bool := s == ⟨#[98, 114]⟩ || s == ⟨#[104, 114]⟩
theorem look_void (w : World) (m : Nat) (s : ByteArray) (hm : w.heap[m]? = some voidMap) :
    (Instr.lookup 83 (.map (some m)) (.string s) true).run Tryz.prog w = .ok (.tuple #[.agg #[], .bool (voidS s)]) w := by
  have hc : (Instr.checkKey false 10000 9 (.string s)).run Tryz.prog w = .ok () w := MapKept.run_checkKey (k := .string s) Tryz.underlying9 (by simp [MapKept.IsKey]) false 9999
  have hz : (zeroValue 71).run Tryz.prog w = .ok (.agg #[]) w := by kernel_rfl
  have hb : w.heap[m]? = some (.map #[{ key := .string ⟨#[98, 114]⟩, val := .agg #[], born := 0 }, { key := .string ⟨#[104, 114]⟩, val := .agg #[], born := 1 }] 2) := hm
  by_cases h1 : (s == ⟨#[98, 114]⟩) = true
  · have hf : Instr.findNow .string (.string s) ([{ key := .string ⟨#[98, 114]⟩, val := .agg #[], born := 0 }, { key := .string ⟨#[104, 114]⟩, val := .agg #[], born := 1 }] : List MapEntry) 0 = some (some (0, .agg #[])) := by simp [Instr.findNow, Instr.sameNow, h1]
    simp [Instr.lookup, run_underlying Tryz.underlying83, MapKept.run_getObj_map hb, hc, MapKept.run_findKey Tryz.underlying9 hf, Result.andThen, voidS, h1]
  · have h1' : (s == ⟨#[98, 114]⟩) = false := by simpa using h1
    by_cases h2 : (s == ⟨#[104, 114]⟩) = true
    · have hf : Instr.findNow .string (.string s) ([{ key := .string ⟨#[98, 114]⟩, val := .agg #[], born := 0 }, { key := .string ⟨#[104, 114]⟩, val := .agg #[], born := 1 }] : List MapEntry) 0 = some (some (1, .agg #[])) := by simp [Instr.findNow, Instr.sameNow, h1', h2]
      simp [Instr.lookup, run_underlying Tryz.underlying83, MapKept.run_getObj_map hb, hc, MapKept.run_findKey Tryz.underlying9 hf, Result.andThen, voidS, h1', h2]
    · have h2' : (s == ⟨#[104, 114]⟩) = false := by simpa using h2
      have hf : Instr.findNow .string (.string s) ([{ key := .string ⟨#[98, 114]⟩, val := .agg #[], born := 0 }, { key := .string ⟨#[104, 114]⟩, val := .agg #[], born := 1 }] : List MapEntry) 0 = some none := by simp [Instr.findNow, Instr.sameNow, h1', h2']
      simp [Instr.lookup, run_underlying Tryz.underlying83, MapKept.run_getObj_map hb, hc, MapKept.run_findKey Tryz.underlying9 hf, hz, Result.andThen, voidS, h1', h2']

theorem str_mk (l : List Int) (b : ByteArray) (h : b.data.toList = l.map (fun n => UInt8.ofNat n.toNat)) : str l = b :=
  ByteArray.ext (Array.ext' (by rw [str_list, h]))
open Classical in
theorem voidS_str (l : List Int) (hl : okB l) : voidS (str l) = decide (Void l) := by
  have e1 : (⟨#[98, 114]⟩ : ByteArray) = str [98, 114] := (str_mk _ _ rfl).symm
  have e2 : (⟨#[104, 114]⟩ : ByteArray) = str [104, 114] := (str_mk _ _ rfl).symm
  have hb : ∀ k, okB k → (str l == str k) = decide (l = k) := fun k hk => by
    by_cases h : l = k
    · subst h; rw [(MapKept.bytes_beq _ _).2 rfl]; simp
    · rw [decide_eq_false h, ← Bool.not_eq_true, MapKept.bytes_beq]
      intro e
      exact h (str_inj hl hk (by rw [e]))
  unfold voidS
  rw [e1, e2, hb _ okB_br, hb _ okB_hr]
  unfold Void
  rw [Bool.eq_iff_iff]
  simp

open Classical in
set_option maxHeartbeats 1600000 in
theorem has_any (B g : Nat) (w : World) (v : Value) (l : List Int) (h : VSet B w g) (hBB : B ≤ w.heap.size) (hv : ∀ w', Frm w w' [g] → Byt w' v l) :
    Calls Tryz.prog 57 #[.pointer (some ⟨g, 0, none⟩), v] w fun e w' => e = .returned (.bool (decide (Void l))) ∧ VMade B w' g ∧ Frm w w' [g] := by
  have hmf : ∀ (fn : Fn) (first cap : Array Value) (w : World), (Instr.makeFunc fn first cap).run Tryz.prog w = .ok (.func fn first cap) w := fun _ _ _ _ => rfl
  have hg : g < w.heap.size := by
    rcases h with h | ⟨m, _, h, _⟩
    · exact h.lt
    · exact h.lt
  obtain ⟨a1, k1, rfl, _⟩ := (hv w (Frm.refl _ _)).shape
  have HV := hide hv
  clear hv
  go_enter Tryz.func57, Tryz.ntmps57
  go_wp2_with fail
  refine (do_any B g w h hBB).mono ?_
  rintro e w1 ⟨rfl, ⟨m, hbm, l1, m1⟩, F1⟩
  have h3 : w1.cell? ⟨g, 3, none⟩ = some (.map (some m)) := l1.cell 3
  have h3d : w1.drew.cell? ⟨g, 3, none⟩ = some (.map (some m)) := l1.cell 3
  have h3a : (w1.alloc (.cells #[] 71)).cell? ⟨g, 3, none⟩ = some (.map (some m)) := (l1.alloc _).cell 3
  have hlt : m < w1.heap.size := by
    by_cases h : m < w1.heap.size
    · exact h
    · rw [Array.getElem?_eq_none (by omega)] at m1; cases m1
  have hb1 : Byt w1 _ l := unhide HV w1 F1
  have c1 := conv_any w1.drew _ l (hb1.keep ((Below.refl _ _).drew))
  have c2 := conv_any (w1.alloc (.cells #[] 71)).drew _ l (hb1.keep (((Below.refl _ _).alloc (Nat.le_refl _) _).drew))
  have q1 := fun s => look_void w1.drew m s m1
  have q2 := fun s => look_void (w1.alloc (.cells #[] 71)).drew m s ((heap_alloc_old w1 _ hlt).trans m1)
  have HS := hide (voidS_str l hb1.1)
  generalize str l = s at *
  generalize l.length = n at *
  go_wp2_with fail
  go_region
  all_goals
    go_wp2_with fail
    go_ret
    exact ⟨by rw [← unhide HS]; rfl, ⟨m, hbm, (l1.alloc _).all ((Below.refl _ _).drew), (heap_alloc_old w1 _ hlt).trans m1⟩, F1.trans ((Frm.alloc w1 _ _).trans (Frm.drew _ _))⟩
end Go.Proofs.YtnfafchajjclaaaGreatDoor

/- The set of void names within the forest: sync.Once over it, and the set asked. -/
namespace Go.Proofs.YtnfafchajjclaaaGreatDoor
open Go.RowKit
set_option linter.unusedVariables false
set_option maxRecDepth 100000

/-- The forest's block: its places, its map, and the set that is not yet made; that is made. -/
def fs0 (o p : Value) : Array Value := #[o, p, .int .u32 0, .int .i32 0, .int .u32 0, .map none]
def fs1 (o p : Value) (m : Nat) : Array Value := #[o, p, .int .u32 1, .int .i32 0, .int .u32 0, .map (some m)]
def FMade (B : Nat) (o p : Value) (w : World) (g : Nat) : Prop := ∃ m, B ≤ m ∧ Loc w g (fs1 o p m) 87 ∧ w.heap[m]? = some voidMap
def FSet (B : Nat) (o p : Value) (w : World) (g : Nat) : Prop := Loc w g (fs0 o p) 87 ∨ FMade B o p w g

theorem fillF_any (o p : Value) (g : Nat) (w : World) (cs : Array Value) (hl : Loc w g cs 87) (c3 : Value) (h3 : w.cell? ⟨g, 5, none⟩ = some c3) :
    Calls Tryz.prog 85 #[.pointer (some ⟨g, 2, none⟩)] w fun e w' => e = .returned (.tuple #[]) ∧ w' = (w.setCell ⟨g, 5, none⟩ (.map (some w.heap.size))).alloc voidMap := by
  have hmm := @run_makeMap Tryz.prog
  have h1 := br_in w
  have h2 := hr_in w
  have hg := hl.lt
  have f3 := hl.frozen 5
  go_enter Tryz.func85, Tryz.ntmps85
  go_wp2
  go_end0
  exact ⟨rfl, rfl⟩

set_option maxHeartbeats 1600000 in
theorem slowF_any (o p : Value) (g : Nat) (w : World) (hl : Loc w g (fs0 o p) 87) :
    Calls Tryz.prog 106 #[.pointer (some ⟨g, 2, none⟩), .func (.func 85) #[.pointer (some ⟨g, 2, none⟩)] #[]] w fun e w' => e = .returned (.tuple #[]) ∧ ∃ m, w.heap.size ≤ m ∧ Loc w' g (fs1 o p m) 87 ∧ w'.heap[m]? = some voidMap ∧ Frm w w' [g] := by
  have h1 : w.cell? ⟨g, 3, none⟩ = some (.int .i32 0) := hl.cell 3
  have f1 := hl.frozen 3
  have l1 : Loc (w.setCell ⟨g, 3, none⟩ (.int .i32 1)) g #[o, p, .int .u32 0, .int .i32 1, .int .u32 0, .map none] 87 := hl.set 3 (.int .i32 1)
  have F1 := Frm.set w g 3 (.int .i32 1)
  have hnot : ∀ (x : Bool) (w : World), (Op.unary .not (.bool x)).run Tryz.prog w = .ok (.bool (!x)) w := fun _ _ => rfl
  go_enter_defers Tryz.func106, Tryz.ntmps106
  go_wp2_with (go_at_call 119; refine (lock_free ⟨g, 3, none⟩ _ (by go_simp) (by go_simp)).mono ?_; rintro e w' ⟨rfl, rfl⟩)
  generalize w.setCell ⟨g, 3, none⟩ (.int .i32 1) = w1 at *
  refine (load_any ⟨g, 2, none⟩ 0 w1 (l1.cell 2) false (by simp)).mono ?_
  rintro e w1 ⟨rfl, rfl⟩
  go_wp2_with fail
  refine (fillF_any o p g w1 _ l1 _ (l1.cell 5)).mono ?_
  rintro e w2 ⟨rfl, hw2⟩
  have l2 : Loc w2 g #[o, p, .int .u32 0, .int .i32 1, .int .u32 0, .map (some w1.heap.size)] 87 := by rw [hw2]; exact (l1.set 5 (.map (some w1.heap.size))).alloc _
  have m2 : w2.heap[w1.heap.size]? = some voidMap := by rw [hw2]; have := heap_alloc_new (w1.setCell ⟨g, 5, none⟩ (.map (some w1.heap.size))) voidMap; rwa [show (w1.setCell ⟨g, 5, none⟩ (.map (some w1.heap.size))).heap.size = w1.heap.size by simp] at this
  have F2 : Frm w1 w2 [g] := by rw [hw2]; exact (Frm.set w1 g 5 _).trans (Frm.alloc _ _ _)
  have hne : w1.heap.size ≠ g := by have := l1.lt; omega
  have F12 := F1.trans F2
  have hmm := F1.size
  clear hw2
  generalize w1.heap.size = m at *
  go_wp2_with fail
  refine leaves_cons (f := 121) (args := #[.pointer (some ⟨g, 2, none⟩), .bool true]) (by simp) (by simp [go_sem]) ?_
  refine (store_deferred ⟨g, 2, none⟩ (.int .u32 0) .returning _ (l2.cell 2) (l2.frozen 2)).mono ?_
  rintro e u' w3 ⟨rfl, rfl, hw3⟩
  have ld : Loc w2.drew g #[o, p, .int .u32 0, .int .i32 1, .int .u32 0, .map (some m)] 87 := l2.frm (Frm.drew w2 []) (by simp)
  have l3 : Loc w3 g #[o, p, .int .u32 1, .int .i32 1, .int .u32 0, .map (some m)] 87 := by rw [hw3]; exact ld.set 2 (.int .u32 1)
  have F3 : Frm w2 w3 [g] := by rw [hw3]; exact (Frm.drew w2 _).trans (Frm.set _ g 2 _)
  clear hw3
  refine leaves_cons (f := 120) (args := #[.pointer (some ⟨g, 3, none⟩)]) (by simp [settle]) (by simp [go_sem]) ?_
  refine (unlock_deferred ⟨g, 3, none⟩ _ _ (l3.cell 3) (l3.frozen 3)).mono ?_
  rintro e u' w4 ⟨rfl, rfl, hw4⟩
  have l4 : Loc w4 g (fs1 o p m) 87 := by rw [hw4]; exact l3.set 3 (.int .i32 0)
  have F4 : Frm w3 w4 [g] := by rw [hw4]; exact Frm.set _ g 3 _
  have hm : m < w2.heap.size := by
    by_cases h : m < w2.heap.size
    · exact h
    · rw [Array.getElem?_eq_none (by omega)] at m2; cases m2
  have F34 := F3.trans F4
  have m4 : w4.heap[m]? = some voidMap := (F34.block m hm (by simpa using hne)).trans m2
  simp [Leaves, settle, results, Tryz.results106]
  exact ⟨m, hmm, l4, m4, F12.trans F34⟩
theorem doF_any (B : Nat) (o p : Value) (g : Nat) (w : World) (h : FSet B o p w g) (hB : B ≤ w.heap.size) :
    Calls Tryz.prog 84 #[.pointer (some ⟨g, 2, none⟩), .func (.func 85) #[.pointer (some ⟨g, 2, none⟩)] #[]] w fun e w' => e = .returned (.tuple #[]) ∧ FMade B o p w' g ∧ Frm w w' [g] := by
  have hnot : ∀ (x : Bool) (w : World), (Op.unary .not (.bool x)).run Tryz.prog w = .ok (.bool (!x)) w := fun _ _ => rfl
  rcases h with hl | ⟨m, hbm, hl, hm⟩
  · have h0 : w.cell? ⟨g, 2, none⟩ = some (.int .u32 0) := hl.cell 2
    go_enter Tryz.func84, Tryz.ntmps84
    go_wp2_with fail
    refine (load_any ⟨g, 2, none⟩ 0 w h0 false (by simp)).mono ?_
    rintro e w ⟨rfl, rfl⟩
    go_wp2_with fail
    refine (slowF_any o p g w hl).mono ?_
    rintro e w' ⟨rfl, m, hbm, l', m', F'⟩
    go_wp2_with fail
    go_end0
    exact ⟨rfl, ⟨m, Nat.le_trans hB hbm, l', m'⟩, F'⟩
  · have h0 : w.cell? ⟨g, 2, none⟩ = some (.int .u32 1) := hl.cell 2
    go_enter Tryz.func84, Tryz.ntmps84
    go_wp2_with fail
    refine (load_any ⟨g, 2, none⟩ 1 w h0 true (by simp)).mono ?_
    rintro e w ⟨rfl, rfl⟩
    go_wp2_with fail
    go_end0
    exact ⟨rfl, ⟨m, hbm, hl, hm⟩, Frm.refl _ _⟩

open Classical in
set_option maxHeartbeats 1600000 in
theorem hasF_any (B : Nat) (o p : Value) (g : Nat) (w : World) (v : Value) (l : List Int) (h : FSet B o p w g) (hBB : B ≤ w.heap.size) (hv : ∀ w', Frm w w' [g] → Byt w' v l) :
    Calls Tryz.prog 57 #[.pointer (some ⟨g, 2, none⟩), v] w fun e w' => e = .returned (.bool (decide (Void l))) ∧ FMade B o p w' g ∧ Frm w w' [g] := by
  have hmf : ∀ (fn : Fn) (first cap : Array Value) (w : World), (Instr.makeFunc fn first cap).run Tryz.prog w = .ok (.func fn first cap) w := fun _ _ _ _ => rfl
  have hg : g < w.heap.size := by
    rcases h with h | ⟨m, _, h, _⟩
    · exact h.lt
    · exact h.lt
  obtain ⟨a1, k1, rfl, _⟩ := (hv w (Frm.refl _ _)).shape
  have HV := hide hv
  clear hv
  go_enter Tryz.func57, Tryz.ntmps57
  go_wp2_with fail
  refine (doF_any B o p g w h hBB).mono ?_
  rintro e w1 ⟨rfl, ⟨m, hbm, l1, m1⟩, F1⟩
  have h3 : w1.cell? ⟨g, 5, none⟩ = some (.map (some m)) := l1.cell 5
  have h3d : w1.drew.cell? ⟨g, 5, none⟩ = some (.map (some m)) := l1.cell 5
  have h3a : (w1.alloc (.cells #[] 71)).cell? ⟨g, 5, none⟩ = some (.map (some m)) := (l1.alloc _).cell 5
  have hlt : m < w1.heap.size := by
    by_cases h : m < w1.heap.size
    · exact h
    · rw [Array.getElem?_eq_none (by omega)] at m1; cases m1
  have hb1 : Byt w1 _ l := unhide HV w1 F1
  have c1 := conv_any w1.drew _ l (hb1.keep ((Below.refl _ _).drew))
  have c2 := conv_any (w1.alloc (.cells #[] 71)).drew _ l (hb1.keep (((Below.refl _ _).alloc (Nat.le_refl _) _).drew))
  have q1 := fun s => look_void w1.drew m s m1
  have q2 := fun s => look_void (w1.alloc (.cells #[] 71)).drew m s ((heap_alloc_old w1 _ hlt).trans m1)
  have HS := hide (voidS_str l hb1.1)
  generalize str l = s at *
  generalize l.length = n at *
  go_wp2_with fail
  go_region
  all_goals
    go_wp2_with fail
    go_ret
    exact ⟨by rw [← unhide HS]; rfl, ⟨m, hbm, (l1.alloc _).all ((Below.refl _ _).drew), (heap_alloc_old w1 _ hlt).trans m1⟩, F1.trans ((Frm.alloc w1 _ _).trans (Frm.drew _ _))⟩
end Go.Proofs.YtnfafchajjclaaaGreatDoor

/- The laws' own count of how great a row of bytes is, by contracts. -/
namespace Go.Proofs.YtnfafchajjclaaaGreatDoor
open Go.RowKit
set_option linter.unusedVariables false

/-- What is left when n are taken: -1 where there aren't so many. -/
def left4 (n : Nat) (left : Int) : Int := if (n : Int) ≤ left then left - n else -1
theorem left4_in {n : Nat} {left : Int} (h : (n : Int) ≤ left) : left4 n left = left - n := if_pos h
theorem left4_out {n : Nat} {left : Int} (h : ¬ (n : Int) ≤ left) : left4 n left = -1 := if_neg h

theorem szB4_any (w : World) (a : Option Addr) (n cap : Nat) (left : Int) (hn : n ≤ maxLen) (h0 : 0 ≤ left) (h1 : left ≤ 1000000000) :
    Calls Tryz.prog 17 #[.slice a n cap, .int .i64 left] w fun e w' => e = .returned (.int .i64 (left4 n left)) ∧ w' = w := by
  unfold maxLen at hn
  by_cases h : (n : Int) ≤ left
  · have HR := hide (left4_in h)
    have hd : ¬ left - (n : Int) < 0 := by omega
    go_enter Tryz.func17, Tryz.ntmps17
    go_wp2
    go_ret
    exact ⟨by rw [unhide HR]; rfl, rfl⟩
  · have HR := hide (left4_out h)
    have hd : left - (n : Int) < 0 := by omega
    go_enter Tryz.func17, Tryz.ntmps17
    go_wp2
    go_ret
    exact ⟨by rw [unhide HR]; rfl, rfl⟩

end Go.Proofs.YtnfafchajjclaaaGreatDoor

/- The laws' own count of how great an operation is, by contracts; toId, eqId. -/
namespace Go.Proofs.YtnfafchajjclaaaGreatDoor
open Go.RowKit
set_option linter.unusedVariables false

theorem szZ4_any (w : World) (a : Option Addr) (n cap : Nat) (left : Int) (hn : n ≤ maxLen) (h0 : 0 ≤ left) (h1 : left ≤ 1000000000) :
    Calls Tryz.prog 45 #[.slice a n cap, .int .i64 left] w fun e w' => e = .returned (.int .i64 (left4 n left)) ∧ w' = w := by
  unfold maxLen at hn
  by_cases h : (n : Int) ≤ left
  · have HR := hide (left4_in h)
    have hd : ¬ left - (n : Int) < 0 := by omega
    go_enter Tryz.func45, Tryz.ntmps45
    go_wp2
    go_ret
    exact ⟨by rw [unhide HR]; rfl, rfl⟩
  · have HR := hide (left4_out h)
    have hd : left - (n : Int) < 0 := by omega
    go_enter Tryz.func45, Tryz.ntmps45
    go_wp2
    go_ret
    exact ⟨by rw [unhide HR]; rfl, rfl⟩

set_option maxRecDepth 8000 in
set_option maxHeartbeats 1600000 in
theorem szOp_any (w : World) (v : Value) (o : OpV) (left : Int) (h : RdOp w v o) (h0 : 0 ≤ left) (h1 : left ≤ 1000000000) :
    Calls Tryz.prog 20 #[v, .int .i64 left] w fun e w' => e = .returned (.int .i64 (left4 (o.key.length + o.name.length + o.text.length) left)) ∧ Below w.heap.size w w' := by
  obtain ⟨k, n, t, rfl, hk, hn, ht⟩ := h
  have m1 := hk.2.1
  have m2 := hn.2.1
  have m3 := ht.2.1
  obtain ⟨ak, ck, rfl, _, _⟩ := hk.shape
  obtain ⟨an, cn, rfl, _, _⟩ := hn.shape
  obtain ⟨at', ct, rfl, _, _⟩ := ht.shape
  clear hk hn ht
  generalize o.key.length = nK at *
  generalize o.name.length = nN at *
  generalize o.text.length = nT at *
  have HA := hide ((Below.refl w.heap.size w).alloc (Nat.le_refl _) (.cells #[.int .i64 o.kind, .int .i64 o.atN, .int .i64 o.atR, .int .i64 o.nodeN, .int .i64 o.nodeR, .int .i64 o.parN, .int .i64 o.parR, .slice ak nK ck, .int .i64 o.elem, .slice an nN cn, .slice at' nT ct, .bool o.gone] 57))
  unfold opVal
  go_enter Tryz.func20, Tryz.ntmps20
  go_wp2_with fail
  refine (szZ4_any _ _ _ _ left m1 h0 h1).mono ?_
  rintro e w1 ⟨rfl, rfl⟩
  by_cases h2 : (nK : Int) ≤ left
  · rw [left4_in h2]
    have hd : ¬ left - (nK : Int) < 0 := by omega
    go_wp2_with fail
    refine (szB4_any _ _ _ _ (left - (nK : Int)) m2 (by omega) (by omega)).mono ?_
    rintro e w2 ⟨rfl, rfl⟩
    by_cases h3 : (nN : Int) ≤ left - (nK : Int)
    · rw [left4_in h3]
      have hd2 : ¬ left - (nK : Int) - (nN : Int) < 0 := by omega
      go_wp2_with fail
      refine (szB4_any _ _ _ _ (left - (nK : Int) - (nN : Int)) m3 (by omega) (by omega)).mono ?_
      rintro e w2 ⟨rfl, rfl⟩
      by_cases h4 : (nT : Int) ≤ left - (nK : Int) - (nN : Int)
      · rw [left4_in h4]
        have HR := hide (show left4 (nK + nN + nT) left = left - (nK : Int) - (nN : Int) - (nT : Int) by rw [left4_in (by omega)]; omega)
        have hd3 : ¬ left - (nK : Int) - (nN : Int) - (nT : Int) < 0 := by omega
        go_wp2_with fail
        go_ret
        exact ⟨by rw [unhide HR]; rfl, unhide HA⟩
      · rw [left4_out h4]
        have HR := hide (show left4 (nK + nN + nT) left = -1 by rw [left4_out (by omega)])
        go_wp2_with fail
        go_ret
        exact ⟨by rw [unhide HR]; rfl, unhide HA⟩
    · rw [left4_out h3]
      have HR := hide (show left4 (nK + nN + nT) left = -1 by rw [left4_out (by omega)])
      go_wp2_with fail
      go_ret
      exact ⟨by rw [unhide HR]; rfl, unhide HA⟩
  · rw [left4_out h2]
    have HR := hide (show left4 (nK + nN + nT) left = -1 by rw [left4_out (by omega)])
    go_wp2_with fail
    go_ret
    exact ⟨by rw [unhide HR]; rfl, unhide HA⟩

end Go.Proofs.YtnfafchajjclaaaGreatDoor

/- laws.toId and laws.eqId, by contracts. -/
namespace Go.Proofs.YtnfafchajjclaaaGreatDoor
open Go.RowKit
set_option linter.unusedVariables false

def idEqB (n r n' r' : Int) : Bool := n == n' && r == r'
set_option maxHeartbeats 1600000 in
theorem eqId_any (w : World) (n r n' r' : Int) :
    Calls Tryz.prog 67 #[.agg #[.int .i64 n, .int .i64 r], .agg #[.int .i64 n', .int .i64 r']] w fun e w' => e = .returned (.bool (idEqB n r n' r')) ∧ Below w.heap.size w w' := by
  have HB := hide (((Below.refl w.heap.size w).alloc (Nat.le_refl _) (.cells #[.int .i64 n, .int .i64 r] 66)).alloc (by simp) (.cells #[.int .i64 n', .int .i64 r'] 66))
  by_cases h1 : n = n'
  · subst h1
    by_cases h2 : r = r'
    · subst h2
      go_enter Tryz.func67, Tryz.ntmps67
      go_wp2
      go_ret
      exact ⟨by simp [idEqB], unhide HB⟩
    · have HE := hide (show idEqB n r n r' = false by simp [idEqB, h2])
      have q : (r == r') = false := by simpa using h2
      go_enter Tryz.func67, Tryz.ntmps67
      go_wp2
      go_ret
      exact ⟨by rw [unhide HE]; rfl, unhide HB⟩
  · have HE := hide (show idEqB n r n' r' = false by simp [idEqB, h1])
    have q : (n == n') = false := by simpa using h1
    go_enter Tryz.func67, Tryz.ntmps67
    go_wp2
    go_ret
    exact ⟨by rw [unhide HE]; rfl, unhide HB⟩

set_option maxHeartbeats 1600000 in
theorem toId_any (w : World) (n r : Int) :
    Calls Tryz.prog 54 #[.agg #[.int .i64 n, .int .i64 r]] w fun e w' => e = .returned (.agg #[.int .i64 n, .int .i64 r]) ∧ Below w.heap.size w w' := by
  have HB := hide ((((Below.refl w.heap.size w).alloc (Nat.le_refl _) (.cells #[.int .i64 n, .int .i64 r] 54)).alloc (by simp) (.cells #[.int .i64 n, .int .i64 r] 66)).alloc (by simp; omega) (.cells #[.int .i64 n, .int .i64 r] 66))
  go_enter Tryz.func54, Tryz.ntmps54
  go_wp2
  refine bodyPost_ret (v := .agg #[.int .i64 n, .int .i64 r]) (by simp [results, Tryz.results54, go_sem]) rfl ⟨rfl, ?_⟩
  exact unhide HB

end Go.Proofs.YtnfafchajjclaaaGreatDoor

/- laws.toId and laws.eqId: their texts lie in EqI. -/

/- The law's own helper that holds two rows of bytes against each other, by its contract. -/
namespace Go.Proofs.YtnfafchajjclaaaGreatDoor
open Go.RowKit
set_option linter.unusedVariables false

theorem take_eq_step {a b : List Int} {k : Nat} (h : a.take k = b.take k) (ha : k < a.length) (hb : k < b.length) (e : a[k] = b[k]) : a.take (k + 1) = b.take (k + 1) := by
  rw [List.take_succ_eq_append_getElem ha, List.take_succ_eq_append_getElem hb, h, e]
theorem decide_ne {a b : List Int} {k : Nat} (ha : k < a.length) (hb : k < b.length) (e : a[k] ≠ b[k]) : decide (a = b) = false := by
  simp only [decide_eq_false_iff_not]
  intro h; subst h; exact e rfl

set_option maxHeartbeats 1600000 in
set_option maxRecDepth 1000000 in
theorem eqB_any (w : World) (u v : Value) (a b : List Int) (hu : Byt w u a) (hv : Byt w v b) :
    Calls Tryz.prog 34 #[u, v] w fun e w' => e = .returned (.bool (decide (a = b))) ∧ Below w.heap.size w w' := by
  have hma := hu.2.1
  have hmb := hv.2.1
  unfold maxLen at hma hmb
  by_cases hl : a.length = b.length
  · by_cases h0 : a.length = 0
    · have ha : a = [] := List.eq_nil_of_length_eq_zero h0
      have hb : b = [] := List.eq_nil_of_length_eq_zero (by omega)
      subst ha hb
      obtain ⟨a1, c1, rfl, _⟩ := hu.shape
      obtain ⟨a2, c2, rfl, _⟩ := hv.shape
      go_enter Tryz.func34, Tryz.ntmps34
      go_wp2
      refine wp_loop_rounds 1 ?_
      rw [rounds_succ]
      go_wp2
      go_ret
      exact ⟨rfl, Below.refl _ _⟩
    · obtain ⟨hoka, _, ⟨rfl, rfl⟩ | ⟨x, cap, rfl, hc, rfl⟩ | ⟨p, off, cap, rfl, h1, h2, h3, h4, h5⟩⟩ := hu
      · simp at h0
      · simp at h0
      obtain ⟨hokb, _, ⟨rfl, rfl⟩ | ⟨x, cap, rfl, hc, rfl⟩ | ⟨q, off', cap', rfl, g1, g2, g3, g4, g5⟩⟩ := hv
      · simp at hl; simp [hl] at h0
      · simp at hl; simp [hl] at h0
      generalize hA : a.length = n at *
      have HL := hide hl
      clear hl
      rw [← unhide HL]
      go_enter Tryz.func34, Tryz.ntmps34
      go_wp2
      go_loopw [5] (fun i wr => ∃ k : Nat, k ≤ n ∧ i = .int .i64 k ∧ Hid (a.take k = b.take k) ∧ Below w.heap.size w wr) (fun i _ => n - (intOf i).toNat)
      case atStart => exact ⟨0, Nat.zero_le _, rfl, hide rfl, Below.refl _ _⟩
      case round =>
        obtain ⟨k, hk, rfl, ht, hB⟩ := hrel
        by_cases hlt : k < n
        · obtain ⟨x, hx⟩ : ∃ x, x = a.getD k 0 := ⟨_, rfl⟩
          obtain ⟨y, hy⟩ : ∃ y, y = b.getD k 0 := ⟨_, rfl⟩
          have c1 : wr.cell? ⟨p, off + k, none⟩ = some (.int .u8 x) := by rw [hx]; exact (hB.cell (p := ⟨p, off + k, none⟩) h4).trans (h5 k hlt)
          have c2 : wr.cell? ⟨q, off' + k, none⟩ = some (.int .u8 y) := by rw [hy]; exact (hB.cell (p := ⟨q, off' + k, none⟩) g4).trans (g5 k (by have := unhide HL; omega))
          have hka : k < a.length := by omega
          have hkb : k < b.length := by have := unhide HL; omega
          rw [getD_at hka] at hx
          rw [getD_at hkb] at hy
          have HX := hide hx
          have HY := hide hy
          have hlt' : (k : Int) < (n : Int) := by omega
          clear hx hy h5 g5
          by_cases hxy : x = y
          · have hne : (x != y) = false := by simp [hxy]
            clear hxy
            go_wp2
            go_quiet (fail)
            go_wp2
            go_roundw
            case rel => exact ⟨k + 1, by omega, by go_num, hide (take_eq_step (unhide ht) hka hkb (by rw [← unhide HX, ← unhide HY]; simpa using hne)), below_drewN hB _⟩
            case measure => simp [intOf]; omega
          · have hne : (x != y) = true := by simp [hxy]
            have hd : decide (a = b) = false := decide_ne hka hkb (by rw [← unhide HX, ← unhide HY]; exact hxy)
            have HD := hide hd
            clear hxy hd
            go_wp2
            go_quiet (fail)
            go_wp2
            go_ret
            exact ⟨by rw [unhide HD]; rfl, below_drewN hB _⟩
        · have e : k = n := by omega
          have hd : decide (a = b) = true := by
            have h := unhide ht
            rw [List.take_of_length_le (by omega), List.take_of_length_le (by have := unhide HL; omega)] at h
            simpa using h
          have HD := hide hd
          clear hd ht
          subst e
          go_wp2
          go_ret
          exact ⟨by rw [unhide HD]; rfl, hB⟩
  · have hd : decide (a = b) = false := by
      simp only [decide_eq_false_iff_not]
      intro h; subst h; exact hl rfl
    have hne : ((a.length : Int) != (b.length : Int)) = true := by simp; omega
    have HD := hide hd
    clear hd
    obtain ⟨a1, c1, rfl, _⟩ := hu.shape
    obtain ⟨a2, c2, rfl, _⟩ := hv.shape
    go_enter Tryz.func34, Tryz.ntmps34
    go_wp2
    go_ret
    exact ⟨by rw [unhide HD]; rfl, Below.refl _ _⟩
end Go.Proofs.YtnfafchajjclaaaGreatDoor

/- The law's own helper that holds two rows of bytes against each other, by its contract. -/
namespace Go.Proofs.YtnfafchajjclaaaGreatDoor
open Go.RowKit
set_option linter.unusedVariables false

set_option maxHeartbeats 1600000 in
set_option maxRecDepth 1000000 in
theorem eqZ_any (w : World) (u v : Value) (a b : List Int) (hu : Ints w u a) (hv : Ints w v b) :
    Calls Tryz.prog 68 #[u, v] w fun e w' => e = .returned (.bool (decide (a = b))) ∧ Below w.heap.size w w' := by
  have hma := hu.2.1
  have hmb := hv.2.1
  unfold maxLen at hma hmb
  by_cases hl : a.length = b.length
  · by_cases h0 : a.length = 0
    · have ha : a = [] := List.eq_nil_of_length_eq_zero h0
      have hb : b = [] := List.eq_nil_of_length_eq_zero (by omega)
      subst ha hb
      obtain ⟨a1, c1, rfl, _⟩ := hu.shape
      obtain ⟨a2, c2, rfl, _⟩ := hv.shape
      go_enter Tryz.func68, Tryz.ntmps68
      go_wp2
      refine wp_loop_rounds 1 ?_
      rw [rounds_succ]
      go_wp2
      go_ret
      exact ⟨rfl, Below.refl _ _⟩
    · obtain ⟨hoka, _, ⟨rfl, rfl⟩ | ⟨x, cap, rfl, hc, rfl⟩ | ⟨p, off, cap, rfl, h1, h2, h3, h4, h5⟩⟩ := hu
      · simp at h0
      · simp at h0
      obtain ⟨hokb, _, ⟨rfl, rfl⟩ | ⟨x, cap, rfl, hc, rfl⟩ | ⟨q, off', cap', rfl, g1, g2, g3, g4, g5⟩⟩ := hv
      · simp at hl; simp [hl] at h0
      · simp at hl; simp [hl] at h0
      generalize hA : a.length = n at *
      have HL := hide hl
      clear hl
      rw [← unhide HL]
      go_enter Tryz.func68, Tryz.ntmps68
      go_wp2
      go_loopw [5] (fun i wr => ∃ k : Nat, k ≤ n ∧ i = .int .i64 k ∧ Hid (a.take k = b.take k) ∧ Below w.heap.size w wr) (fun i _ => n - (intOf i).toNat)
      case atStart => exact ⟨0, Nat.zero_le _, rfl, hide rfl, Below.refl _ _⟩
      case round =>
        obtain ⟨k, hk, rfl, ht, hB⟩ := hrel
        by_cases hlt : k < n
        · obtain ⟨x, hx⟩ : ∃ x, x = a.getD k 0 := ⟨_, rfl⟩
          obtain ⟨y, hy⟩ : ∃ y, y = b.getD k 0 := ⟨_, rfl⟩
          have c1 : wr.cell? ⟨p, off + k, none⟩ = some (.int .i64 x) := by rw [hx]; exact (hB.cell (p := ⟨p, off + k, none⟩) h4).trans (h5 k hlt)
          have c2 : wr.cell? ⟨q, off' + k, none⟩ = some (.int .i64 y) := by rw [hy]; exact (hB.cell (p := ⟨q, off' + k, none⟩) g4).trans (g5 k (by have := unhide HL; omega))
          have hka : k < a.length := by omega
          have hkb : k < b.length := by have := unhide HL; omega
          rw [getD_at hka] at hx
          rw [getD_at hkb] at hy
          have HX := hide hx
          have HY := hide hy
          have hlt' : (k : Int) < (n : Int) := by omega
          clear hx hy h5 g5
          by_cases hxy : x = y
          · have hne : (x != y) = false := by simp [hxy]
            clear hxy
            go_wp2
            go_quiet (fail)
            go_wp2
            go_roundw
            case rel => exact ⟨k + 1, by omega, by go_num, hide (take_eq_step (unhide ht) hka hkb (by rw [← unhide HX, ← unhide HY]; simpa using hne)), below_drewN hB _⟩
            case measure => simp [intOf]; omega
          · have hne : (x != y) = true := by simp [hxy]
            have hd : decide (a = b) = false := decide_ne hka hkb (by rw [← unhide HX, ← unhide HY]; exact hxy)
            have HD := hide hd
            clear hxy hd
            go_wp2
            go_quiet (fail)
            go_wp2
            go_ret
            exact ⟨by rw [unhide HD]; rfl, below_drewN hB _⟩
        · have e : k = n := by omega
          have hd : decide (a = b) = true := by
            have h := unhide ht
            rw [List.take_of_length_le (by omega), List.take_of_length_le (by have := unhide HL; omega)] at h
            simpa using h
          have HD := hide hd
          clear hd ht
          subst e
          go_wp2
          go_ret
          exact ⟨by rw [unhide HD]; rfl, hB⟩
  · have hd : decide (a = b) = false := by
      simp only [decide_eq_false_iff_not]
      intro h; subst h; exact hl rfl
    have hne : ((a.length : Int) != (b.length : Int)) = true := by simp; omega
    have HD := hide hd
    clear hd
    obtain ⟨a1, c1, rfl, _⟩ := hu.shape
    obtain ⟨a2, c2, rfl, _⟩ := hv.shape
    go_enter Tryz.func68, Tryz.ntmps68
    go_wp2
    go_ret
    exact ⟨by rw [unhide HD]; rfl, Below.refl _ _⟩
end Go.Proofs.YtnfafchajjclaaaGreatDoor

/- laws.eqByteS, laws.eqId of two that read the same. -/
namespace Go.Proofs.YtnfafchajjclaaaGreatDoor
open Go.RowKit
set_option linter.unusedVariables false
set_option maxRecDepth 100000

theorem eqB4_true (w : World) (u v : Value) (a : List Int) (hu : Byt w u a) (hv : Byt w v a) : Calls Tryz.prog 34 #[u, v] w fun e w' => e = .returned (.bool true) ∧ Below w.heap.size w w' := by
  refine (eqB_any w u v a a hu hv).mono ?_
  rintro e w' ⟨rfl, h⟩
  exact ⟨by simp, h⟩
theorem eqId_true (w : World) (n r : Int) : Calls Tryz.prog 67 #[.agg #[.int .i64 n, .int .i64 r], .agg #[.int .i64 n, .int .i64 r]] w fun e w' => e = .returned (.bool true) ∧ Below w.heap.size w w' := by
  refine (eqId_any w n r n r).mono ?_
  rintro e w' ⟨rfl, h⟩
  exact ⟨by simp [idEqB], h⟩

end Go.Proofs.YtnfafchajjclaaaGreatDoor
