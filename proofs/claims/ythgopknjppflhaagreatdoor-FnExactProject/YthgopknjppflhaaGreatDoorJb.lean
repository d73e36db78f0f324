/- Own texts joined: AttrS, NodeS, FoM, PjM, PjK, KdM, FoN, FoK, OnceI, OnceJ, HasI. -/
import Derived.Test.YthgopknjppflhaaGreatDoorJa
import Derived.WalkLawsBesides
import Derived.Deep.RegionHeld3
import Derived.Deep.QuietTactic
import Derived.BigQuiet
import Derived.Test.YthgopknjppflhaaGreatDoorChecked
import Derived.Maps.OwnSet
import Derived.DeepKeys4
import Derived.WideMake
import Derived.Defers
import Derived.Laws.LoneSync
import Derived.Laws.Pointers
import Derived.RegionTactic
import Derived.RegionCalls

/- spec.l2void and spec.l2attrs answer what the plain tests say. -/
namespace Go.Proofs.YthgopknjppflhaaGreatDoor
open Go.RowKit
set_option linter.unusedVariables false

/-- br, hr. -/
def Void (l : List Int) : Prop := l = [98, 114] ∨ l = [104, 114]
theorem str_br : (str [98, 114]).toList = [98, 114] := by rw [toList_data, str_list]; rfl
theorem str_hr : (str [104, 114]).toList = [104, 114] := by rw [toList_data, str_list]; rfl
theorem okB_br : okB [98, 114] := fun x hx => by simp at hx; omega
theorem okB_hr : okB [104, 114] := fun x hx => by simp at hx; omega

open Classical in
set_option maxHeartbeats 1600000 in
theorem voidS_any (w : World) (v : Value) (l : List Int) (h : Byt w v l) :
    Calls Tryz.prog 44 #[v] w fun e w' => e = .returned (.bool (decide (Void l))) ∧ w' = w := by
  have c1 := conv_any w v l h
  have b1 : ((str l).toList == [98, 114]) = decide (l = [98, 114]) := by rw [← str_br]; exact str_beq h.1 okB_br
  have b2 : ((str l).toList == [104, 114]) = decide (l = [104, 114]) := by rw [← str_hr]; exact str_beq h.1 okB_hr
  obtain ⟨a1, k1, rfl, _⟩ := h.shape
  generalize str l = s at *
  by_cases h1 : l = [98, 114]
  · have HD := hide (show decide (Void l) = true by simp [Void, h1])
    have d1 : (s.toList == [98, 114]) = true := by rw [b1]; simp [h1]
    clear b1 b2 h1
    go_enter Tryz.func44, Tryz.ntmps44
    go_wp2
    go_ret
    exact ⟨by rw [unhide HD]; rfl, rfl⟩
  · have d1 : (s.toList == [98, 114]) = false := by rw [b1]; simp [h1]
    by_cases h2 : l = [104, 114]
    · have HD := hide (show decide (Void l) = true by simp [Void, h2])
      have d2 : (s.toList == [104, 114]) = true := by rw [b2]; simp [h2]
      clear b1 b2 h1 h2
      go_enter Tryz.func44, Tryz.ntmps44
      go_wp2
      go_ret
      exact ⟨by rw [unhide HD]; rfl, rfl⟩
    · have HD := hide (show decide (Void l) = false by simp [Void, h1, h2])
      have d2 : (s.toList == [104, 114]) = false := by rw [b2]; simp [h2]
      clear b1 b2 h1 h2
      go_enter Tryz.func44, Tryz.ntmps44
      go_wp2
      go_ret
      exact ⟨by rw [unhide HD]; rfl, rfl⟩

/-- By their bytes. -/
def lessT (a b : List Int) : Bool := Op.bytesLess (str a).toList (str b).toList
/-- An attribute that may stand at place i. -/
def attrAt (l : List (List Int × List Int)) (i : Nat) : Prop := NameOk (l.getD i ([], [])).1 ∧ TextOk (l.getD i ([], [])).2 ∧ (0 < i → lessT (l.getD (i - 1) ([], [])).1 (l.getD i ([], [])).1 = true)
def AttrsOk (l : List (List Int × List Int)) : Prop := l.length ≤ 4 ∧ ∀ i, i < l.length → attrAt l i

theorem step_all {p : Nat → Prop} {k : Nat} (h : ∀ i, i < k → p i) (h1 : p k) (i : Nat) (hi : i < k + 1) : p i := by
  by_cases e : i = k
  · subst e; exact h1
  · exact h i (by omega)

open Classical in
set_option maxHeartbeats 3200000 in
theorem attrsS_any (w : World) (v : Value) (l : List (List Int × List Int)) (h : RdAttrs w v l) :
    Calls Tryz.prog 66 #[v] w fun e w' => e = .returned (.bool (decide (AttrsOk l))) ∧ Below w.heap.size w w' := by
  by_cases hl : 4 < l.length
  · obtain ⟨a, cap, rfl, _⟩ := Elems.shape h
    have HD := hide (show decide (AttrsOk l) = false by simp only [decide_eq_false_iff_not]; rintro ⟨_, _⟩; omega)
    have d2 : (4 : Int) < (l.length : Int) := by omega
    go_enter Tryz.func66, Tryz.ntmps66
    go_wp2_with fail
    go_ret
    exact ⟨by rw [unhide HD]; rfl, Below.refl _ _⟩
  have d2 : ¬ (4 : Int) < (l.length : Int) := by omega
  by_cases h0 : l = []
  · obtain ⟨a, cap, rfl, _⟩ := Elems.shape h
    subst h0
    have HD := hide (show decide (AttrsOk []) = true by simp only [decide_eq_true_eq]; exact ⟨by simp, fun i hi => by simp at hi⟩)
    go_enter Tryz.func66, Tryz.ntmps66
    go_wp2_with fail
    refine wp_loop_rounds 1 ?_
    rw [rounds_succ]
    go_wp2_with fail
    go_ret
    exact ⟨by rw [unhide HD]; rfl, Below.refl _ _⟩
  obtain ⟨_, ⟨_, e⟩ | ⟨_, _, _, _, e⟩ | ⟨b, off, cap, rfl, g1, g2, g3, g4, g5⟩⟩ := h
  · exact absurd e h0
  · exact absurd e h0
  go_enter Tryz.func66, Tryz.ntmps66
  go_wp2_with fail
  go_loopw [3] (fun i wr => ∃ k : Nat, k ≤ l.length ∧ i = .int .i64 k ∧ (∀ i, i < k → attrAt l i) ∧ Below w.heap.size w wr) (fun i _ => l.length - (intOf i).toNat)
  case atStart => exact ⟨0, Nat.zero_le _, rfl, fun i hi => by omega, Below.refl _ _⟩
  case round =>
    obtain ⟨k, hk, rfl, ha, hB⟩ := hrel
    have HA := hide ha
    clear ha
    by_cases hlt : k < l.length
    · obtain ⟨c0, c1, e0, e1, hc⟩ := two_of (g5 k hlt)
      obtain ⟨_, _, ee, hc0, hc1⟩ := hc
      simp only [List.cons.injEq, and_true] at ee
      obtain ⟨rfl, rfl⟩ := ee
      replace e0 := (hB.cell (p := ⟨b, off + k * 2, none⟩) g4).trans e0
      replace e1 := (hB.cell (p := ⟨b, off + k * 2 + 1, none⟩) g4).trans e1
      replace hc0 := hc0.keep hB
      replace hc1 := hc1.keep hB
      have hlt' : (k : Int) < (l.length : Int) := by omega
      have hk0 : (0 : Int) ≤ (k : Int) := by omega
      obtain ⟨x, hx⟩ : ∃ x, x = l[k] := ⟨_, rfl⟩
      rw [← hx] at hc0 hc1
      have hgd : l.getD k ([], []) = x := by rw [hx]; simp [hlt]
      obtain ⟨a0, n0, hv0, _, _⟩ := hc0.shape
      obtain ⟨a1, n1, hv1, _, _⟩ := hc1.shape
      subst hv0 hv1
      by_cases hn : NameOk x.1
      · by_cases ht : TextOk x.2
        · by_cases hkz : k = 0
          · have HT := hide (show attrAt l k from ⟨by rw [hgd]; exact hn, by rw [hgd]; exact ht, fun h => by omega⟩)
            have HN := hide hn
            have HX := hide ht
            subst hkz
            have dk : decide ((0 : Int) < ((0 : Nat) : Int)) = false := by simp
            simp only [Nat.zero_mul, Nat.add_zero] at e0 e1
            clear g5 hn ht hgd hx
            go_wp2_with fail
            go_quiet (first | (go_at_call 65; exact Calls.quiet_of_same (nameS_yes _ _ x.1 (hc0.keep (below_drewN (Below.refl _ _) _)) (unhide HN))) | (go_at_call 64; exact Calls.quiet_of_same (textS_yes _ _ x.2 (hc1.keep (below_drewN (Below.refl _ _) _)) (unhide HX))))
            go_wp2_with fail
            go_roundw
            case rel => exact ⟨1, by omega, by go_num, fun i hi => by obtain rfl : i = 0 := (by omega); exact unhide HT, below_drewN hB _⟩
            case measure => simp [intOf]; omega
          · obtain ⟨p0, p1, u0, u1, hp⟩ := two_of (g5 (k - 1) (by omega))
            obtain ⟨_, _, ee, hp0, hp1⟩ := hp
            simp only [List.cons.injEq, and_true] at ee
            obtain ⟨rfl, rfl⟩ := ee
            replace u0 := (hB.cell (p := ⟨b, off + (k - 1) * 2, none⟩) g4).trans u0
            replace hp0 := hp0.keep hB
            obtain ⟨y, hy⟩ : ∃ y, y = l[k - 1] := ⟨_, rfl⟩
            rw [← hy] at hp0
            have hgy : l.getD (k - 1) ([], []) = y := by rw [hy]; simp [show k - 1 < l.length by omega]
            obtain ⟨a2, n2, hv2, _, _⟩ := hp0.shape
            subst hv2
            have cx := fun q => conv_any (wr.drewN q) _ x.1 (hc0.keep (below_drewN (Below.refl _ _) q))
            have cy := fun q => conv_any (wr.drewN q) _ y.1 (hp0.keep (below_drewN (Below.refl _ _) q))
            have hkp : 0 < k := by omega
            have hkd : decide (0 < k) = true := by simp; omega
            have hk1 : (0 : Int) ≤ (k : Int) - 1 := by omega
            have hk2 : (k : Int) - 1 < (l.length : Int) := by omega
            have hk3 : ((k : Int) - 1).toNat = k - 1 := by omega
            have HN := hide hn
            have HX := hide ht
            by_cases hl2 : lessT y.1 x.1 = true
            · have HT := hide (show attrAt l k from ⟨by rw [hgd]; exact hn, by rw [hgd]; exact ht, fun _ => by rw [hgd, hgy]; exact hl2⟩)
              unfold lessT at hl2
              clear g5 hn ht hgd hx hy hgy
              go_wp2_with fail
              go_quiet (first | (go_at_call 65; exact Calls.quiet_of_same (nameS_yes _ _ x.1 (hc0.keep (below_drewN (Below.refl _ _) _)) (unhide HN))) | (go_at_call 64; exact Calls.quiet_of_same (textS_yes _ _ x.2 (hc1.keep (below_drewN (Below.refl _ _) _)) (unhide HX))))
              go_wp2_with fail
              go_roundw
              case rel => exact ⟨k + 1, by omega, by go_num, fun i hi => step_all (unhide HA) (unhide HT) i hi, below_drewN hB _⟩
              case measure => simp [intOf]; omega
            · have HF := hide (show decide (AttrsOk l) = false by
                simp only [decide_eq_false_iff_not]
                rintro ⟨_, h⟩
                exact hl2 (by have := (h k hlt).2.2 (by omega); rwa [hgd, hgy] at this))
              have hl3 : Op.bytesLess (str y.1).toList (str x.1).toList = false := by unfold lessT at hl2; simpa using hl2
              clear g5 hn ht hgd hx hy hgy hl2
              go_wp2_with fail
              go_quiet (first | (go_at_call 65; exact Calls.quiet_of_same (nameS_yes _ _ x.1 (hc0.keep (below_drewN (Below.refl _ _) _)) (unhide HN))) | (go_at_call 64; exact Calls.quiet_of_same (textS_yes _ _ x.2 (hc1.keep (below_drewN (Below.refl _ _) _)) (unhide HX))))
              go_wp2_with fail
              go_ret
              exact ⟨by rw [unhide HF]; rfl, below_drewN hB _⟩
        · have HF := hide (show decide (AttrsOk l) = false by
            simp only [decide_eq_false_iff_not]
            rintro ⟨_, h⟩
            exact ht (by have := (h k hlt).2.1; rwa [hgd] at this))
          have HN := hide hn
          have HX := hide ht
          clear g5 hn ht hgd hx
          go_wp2_with fail
          go_quiet (first | (go_at_call 65; exact Calls.quiet_of_same (nameS_yes _ _ x.1 (hc0.keep (below_drewN (Below.refl _ _) _)) (unhide HN))) | (go_at_call 64; exact Calls.quiet_of_same (textS_no _ _ x.2 (hc1.keep (below_drewN (Below.refl _ _) _)) (unhide HX))))
          go_wp2_with fail
          go_ret
          exact ⟨by rw [unhide HF]; rfl, below_drewN hB _⟩
      · have HF := hide (show decide (AttrsOk l) = false by
          simp only [decide_eq_false_iff_not]
          rintro ⟨_, h⟩
          exact hn (by have := (h k hlt).1; rwa [hgd] at this))
        have HN := hide hn
        clear g5 hn hgd hx
        go_wp2_with fail
        go_quiet ((go_at_call 65; exact Calls.quiet_of_same (nameS_no _ _ x.1 (hc0.keep (below_drewN (Below.refl _ _) _)) (unhide HN))))
        go_wp2_with fail
        go_ret
        exact ⟨by rw [unhide HF]; rfl, below_drewN hB _⟩
    · have e : k = l.length := by omega
      subst e
      have HF := hide (show decide (AttrsOk l) = true by simp only [decide_eq_true_eq]; exact ⟨by omega, unhide HA⟩)
      clear g5
      go_wp2_with fail
      go_ret
      exact ⟨by rw [unhide HF]; rfl, hB⟩
end Go.Proofs.YthgopknjppflhaaGreatDoor

/- spec.l2node and spec.NodeOk answer what the plain test says. -/
namespace Go.Proofs.YthgopknjppflhaaGreatDoor
open Go.RowKit
set_option linter.unusedVariables false

/-- The test of one, of all members, each with what the one before left. -/
def okK {α : Type} (f : α → Int → Bool × Int) : List α → Int → Bool × Int
  | [], left => (true, left)
  | x :: r, left => if (f x left).1 = true then okK f r (f x left).2 else (false, (f x left).2)

def voidB (l : List Int) : Bool := decide (l = [98, 114]) || decide (l = [104, 114])
theorem voidB_iff (l : List Int) : voidB l = true ↔ Void l := by unfold voidB Void; rw [Bool.or_eq_true, decide_eq_true_eq, decide_eq_true_eq]
def attrB (l : List (List Int × List Int)) (i : Nat) : Bool := nameB (l.getD i ([], [])).1 && textB (l.getD i ([], [])).2 && (decide (i = 0) || lessT (l.getD (i - 1) ([], [])).1 (l.getD i ([], [])).1)
theorem attrB_iff (l : List (List Int × List Int)) (i : Nat) : attrB l i = true ↔ attrAt l i := by
  unfold attrB attrAt
  rw [Bool.and_eq_true, Bool.and_eq_true, nameB_iff, textB_iff, Bool.or_eq_true, decide_eq_true_eq, and_assoc]
  constructor
  · rintro ⟨h1, h2, h3⟩
    exact ⟨h1, h2, fun h => h3.resolve_left (by omega)⟩
  · rintro ⟨h1, h2, h3⟩
    refine ⟨h1, h2, ?_⟩
    by_cases h : i = 0
    · exact .inl h
    · exact .inr (h3 (by omega))
def attrsB (l : List (List Int × List Int)) : Bool := decide (l.length ≤ 4) && (List.range l.length).all (attrB l)
theorem attrsB_iff (l : List (List Int × List Int)) : attrsB l = true ↔ AttrsOk l := by
  unfold attrsB AttrsOk
  rw [Bool.and_eq_true, decide_eq_true_eq, List.all_eq_true]
  constructor
  · rintro ⟨h1, h2⟩; exact ⟨h1, fun i hi => (attrB_iff l i).1 (h2 i (List.mem_range.2 hi))⟩
  · rintro ⟨h1, h2⟩; exact ⟨h1, fun i hi => (attrB_iff l i).2 (h2 i (List.mem_range.1 hi))⟩

/-- A text alone. -/
def LeafOk {α : Type} (t : Nd α) : Prop := t.name.length = 0 ∧ t.attrs.length = 0 ∧ t.kids.length = 0 ∧ TextOk t.text
def leafB {α : Type} (t : Nd α) : Bool := decide (t.name.length = 0) && decide (t.attrs.length = 0) && decide (t.kids.length = 0) && textB t.text
theorem leafB_iff {α : Type} (t : Nd α) : leafB t = true ↔ LeafOk t := by
  unfold leafB LeafOk
  rw [Bool.and_eq_true, Bool.and_eq_true, Bool.and_eq_true, textB_iff, decide_eq_true_eq, decide_eq_true_eq, decide_eq_true_eq, and_assoc, and_assoc]
/-- An element, its kids aside. -/
def ElemOk {α : Type} (t : Nd α) : Prop := t.kind = 0 ∧ NameOk t.name ∧ t.text.length = 0 ∧ AttrsOk t.attrs ∧ ¬ (Void t.name ∧ 0 < t.kids.length)
def elemB {α : Type} (t : Nd α) : Bool := decide (t.kind = 0) && nameB t.name && decide (t.text.length = 0) && attrsB t.attrs && !(voidB t.name && decide (0 < t.kids.length))
theorem elemB_iff {α : Type} (t : Nd α) : elemB t = true ↔ ElemOk t := by
  unfold elemB ElemOk
  rw [Bool.and_eq_true, Bool.and_eq_true, Bool.and_eq_true, Bool.and_eq_true, nameB_iff, attrsB_iff, decide_eq_true_eq, decide_eq_true_eq, Bool.not_eq_true', ← Bool.not_eq_true, Bool.and_eq_true, voidB_iff, decide_eq_true_eq, and_assoc, and_assoc, and_assoc]

/-- May the tree be, 'deep' deep, where 'left' nodes are left? And how many are left then. -/
def okT : (n : Nat) → Int → Tr n → Int → Bool × Int
  | 0 => fun _ t _ => t.elim
  | n + 1 => fun deep t left => if left - 1 < 0 ∨ 20 < deep then (false, left - 1) else if t.kind = 1 then (leafB t, left - 1) else if elemB t = true then okK (okT n (deep + 1)) t.kids (left - 1) else (false, left - 1)

theorem okT_succ (n : Nat) (deep : Int) (t : Tr (n + 1)) (left : Int) : okT (n + 1) deep t left = if left - 1 < 0 ∨ 20 < deep then (false, left - 1) else if t.kind = 1 then (leafB t, left - 1) else if elemB t = true then okK (okT n (deep + 1)) t.kids (left - 1) else (false, left - 1) := rfl
theorem okK_drop {α : Type} {f : α → Int → Bool × Int} {l : List α} {k : Nat} {left : Int} (h : k < l.length) : okK f (l.drop k) left = if (f l[k] left).1 = true then okK f (l.drop (k + 1)) (f l[k] left).2 else (false, (f l[k] left).2) := by
  rw [List.drop_eq_getElem_cons h]; rfl
theorem okK_bound {α : Type} {f : α → Int → Bool × Int} (hf : ∀ x left, 0 ≤ left → -1 ≤ (f x left).2 ∧ (f x left).2 ≤ left ∧ ((f x left).1 = true → 0 ≤ (f x left).2)) (l : List α) (left : Int) (h0 : 0 ≤ left) : -1 ≤ (okK f l left).2 ∧ (okK f l left).2 ≤ left ∧ ((okK f l left).1 = true → 0 ≤ (okK f l left).2) := by
  induction l generalizing left with
  | nil => exact ⟨by simp [okK]; omega, by simp [okK], fun _ => by simpa [okK] using h0⟩
  | cons x r ih =>
    have h := hf x left h0
    rw [okK]
    by_cases hb : (f x left).1 = true
    · rw [if_pos hb]
      have := ih (f x left).2 (h.2.2 hb)
      exact ⟨this.1, by omega, this.2.2⟩
    · rw [if_neg hb]
      exact ⟨h.1, h.2.1, fun e => by cases e⟩
theorem okT_bound (n : Nat) (deep : Int) (t : Tr n) (left : Int) (h0 : 0 ≤ left) : -1 ≤ (okT n deep t left).2 ∧ (okT n deep t left).2 ≤ left ∧ ((okT n deep t left).1 = true → 0 ≤ (okT n deep t left).2) := by
  induction n generalizing deep left with
  | zero => exact t.elim
  | succ n ih =>
    unfold okT
    by_cases h1 : left - 1 < 0 ∨ 20 < deep
    · rw [if_pos h1]; exact ⟨by simp; omega, by simp; omega, fun e => by cases e⟩
    · rw [if_neg h1]
      by_cases h2 : t.kind = 1
      · rw [if_pos h2]; exact ⟨by simp; omega, by simp; omega, fun _ => by simp; omega⟩
      · rw [if_neg h2]
        by_cases h3 : elemB t = true
        · rw [if_pos h3]
          have := okK_bound (f := okT n (deep + 1)) (fun x l hl => ih (deep + 1) x l hl) t.kids (left - 1) (by omega)
          exact ⟨this.1, by omega, this.2.2⟩
        · rw [if_neg h3]; exact ⟨by simp; omega, by simp; omega, fun e => by cases e⟩

theorem voidS_yes (w : World) (v : Value) (l : List Int) (h : Byt w v l) (hn : Void l) : Calls Tryz.prog 44 #[v] w fun e w' => e = .returned (.bool true) ∧ w' = w := by
  refine (voidS_any w v l h).mono ?_
  rintro e w' ⟨rfl, h⟩
  exact ⟨by simp [hn], h⟩
theorem voidS_no (w : World) (v : Value) (l : List Int) (h : Byt w v l) (hn : ¬ Void l) : Calls Tryz.prog 44 #[v] w fun e w' => e = .returned (.bool false) ∧ w' = w := by
  refine (voidS_any w v l h).mono ?_
  rintro e w' ⟨rfl, h⟩
  exact ⟨by simp [hn], h⟩
theorem attrsS_yes (w : World) (v : Value) (l : List (List Int × List Int)) (h : RdAttrs w v l) (hn : AttrsOk l) : Calls Tryz.prog 66 #[v] w fun e w' => e = .returned (.bool true) ∧ Below w.heap.size w w' := by
  refine (attrsS_any w v l h).mono ?_
  rintro e w' ⟨rfl, h⟩
  exact ⟨by simp [hn], h⟩
theorem attrsS_no (w : World) (v : Value) (l : List (List Int × List Int)) (h : RdAttrs w v l) (hn : ¬ AttrsOk l) : Calls Tryz.prog 66 #[v] w fun e w' => e = .returned (.bool false) ∧ Below w.heap.size w w' := by
  refine (attrsS_any w v l h).mono ?_
  rintro e w' ⟨rfl, h⟩
  exact ⟨by simp [hn], h⟩

/-- What l2node does to a node of depth below n. -/
def L2nodeSaid (n : Nat) : Prop := ∀ (w0 w : World) (a b c d e : Value) (t : Tr n) (deep left : Int) (g : Nat), RdNode n w0 [a, b, c, d, e] t → Below w0.heap.size w0 w → w0.heap.size ≤ g → Loc w g #[.int .i64 left] 3 → 0 ≤ left → left ≤ 1000000 → 0 ≤ deep → deep ≤ 1000 →
    Calls Tryz.prog 41 #[.agg #[a, b, c, d, e], .int .i64 deep, .pointer (some ⟨g, 0, none⟩)] w fun e w' => e = .returned (.bool (okT n deep t left).1) ∧ Loc w' g #[.int .i64 (okT n deep t left).2] 3 ∧ Frm w w' [g]

/-- The world behind the first statement: one less left, the node in a block of its own. -/
theorem l2start (w : World) (g : Nat) (left x : Int) (A : Array Value) (T : TypeId) (h : Loc w g #[.int .i64 left] 3) : Loc ((w.setCell ⟨g, 0, none⟩ (.int .i64 x)).alloc (.cells A T)) g #[.int .i64 x] 3 ∧ Loc ((w.setCell ⟨g, 0, none⟩ (.int .i64 x)).alloc (.cells A T)) w.heap.size A T ∧ Frm w ((w.setCell ⟨g, 0, none⟩ (.int .i64 x)).alloc (.cells A T)) [g] := by
  refine ⟨(h.set 0 _).alloc _, ?_, (set_frm _ _ _ _).trans (Frm.ofBelow ((Below.refl _ _).alloc (Nat.le_refl _) _) [g])⟩
  have := Loc.made (w.setCell ⟨g, 0, none⟩ (.int .i64 x)) A T
  simpa using this

set_option maxHeartbeats 3200000 in
theorem l2node_succ (n : Nat) (H : L2nodeSaid n) : L2nodeSaid (n + 1) := by
  intro w0 w a b c d e t deep left g hr hB hg hl h0 h1 hd0 hd1
  have hr' := hr
  obtain ⟨_, _, _, _, e0, k1, k2, hb, hc, hd, he⟩ := hr
  simp only [List.cons.injEq, and_true] at e0
  obtain ⟨rfl, rfl, rfl, rfl, rfl⟩ := e0
  obtain ⟨ab, cb, rfl, _, _⟩ := hb.shape
  obtain ⟨ac, cc, rfl, _, _⟩ := hc.shape
  obtain ⟨ad, cd, rfl, _, _⟩ := Elems.shape hd
  obtain ⟨ae, ce, rfl, _, _⟩ := Elems.shape he
  obtain ⟨lg, lb, hf⟩ := l2start w g left (left - 1) #[.int .i64 t.kind, .slice ab t.name.length cb, .slice ac t.text.length cc, .slice ad t.attrs.length cd, .slice ae t.kids.length ce] 30 hl
  have hgl := hl.lt
  have hgc := hl.cell 0
  have hgf := hl.frozen 0
  simp at hgc
  have hne : w.heap.size ≠ g := by omega
  by_cases hA : left - 1 < 0
  · have HE := hide (show okT (n + 1) deep t left = (false, left - 1) by unfold okT; rw [if_pos (.inl hA)])
    have HP := hide (And.intro lg hf)
    clear lg lb hf hl
    go_enter Tryz.func41, Tryz.ntmps41
    go_wp2_with fail
    go_ret
    exact ⟨by rw [unhide HE]; rfl, by rw [unhide HE]; exact (unhide HP).1, (unhide HP).2⟩
  have hA' : decide (left - 1 < 0) = false := by simpa using hA
  by_cases hD : 20 < deep
  · have HE := hide (show okT (n + 1) deep t left = (false, left - 1) by unfold okT; rw [if_pos (.inr hD)])
    have HP := hide (And.intro lg hf)
    clear lg lb hf hl
    go_enter Tryz.func41, Tryz.ntmps41
    go_wp2_with fail
    go_ret
    exact ⟨by rw [unhide HE]; rfl, by rw [unhide HE]; exact (unhide HP).1, (unhide HP).2⟩
  have hD' : ¬ 20 < deep := hD
  have hBW := hB.trans (hf.below hB.size (fun q hq => by simp at hq; omega))
  by_cases hK : t.kind = 1
  · have hEq : okT (n + 1) deep t left = (leafB t, left - 1) := by unfold okT; rw [if_neg (by omega), if_pos hK]
    have dk : (t.kind == 1) = true := by simp [hK]
    have HP := hide (And.intro lg hf)
    have HBW := hide hBW
    clear lg lb hf hl hBW
    by_cases q1 : t.name.length = 0
    · have d1 : ((t.name.length : Int) == 0) = true := beq_iff_eq.2 (by omega)
      by_cases q2 : t.attrs.length = 0
      · have d2 : ((t.attrs.length : Int) == 0) = true := beq_iff_eq.2 (by omega)
        by_cases q3 : t.kids.length = 0
        · have d3 : ((t.kids.length : Int) == 0) = true := beq_iff_eq.2 (by omega)
          by_cases q4 : TextOk t.text
          · have HE := hide (hEq.trans (by rw [(leafB_iff t).2 ⟨q1, q2, q3, q4⟩] : (leafB t, left - 1) = (true, left - 1)))
            have HQ := hide q4
            clear hEq q1 q2 q3 q4 hK
            go_enter Tryz.func41, Tryz.ntmps41
            go_wp2_with fail
            refine (textS_yes _ _ t.text (hc.keep (unhide HBW)) (unhide HQ)).mono ?_
            rintro e w1 ⟨rfl, rfl⟩
            go_wp2_with fail
            go_ret
            exact ⟨by rw [unhide HE]; rfl, by rw [unhide HE]; exact (unhide HP).1, (unhide HP).2⟩
          · have HE := hide (hEq.trans (by rw [Bool.eq_false_iff.2 (fun h => q4 ((leafB_iff t).1 h).2.2.2)] : (leafB t, left - 1) = (false, left - 1)))
            have HQ := hide q4
            clear hEq q1 q2 q3 q4 hK
            go_enter Tryz.func41, Tryz.ntmps41
            go_wp2_with fail
            refine (textS_no _ _ t.text (hc.keep (unhide HBW)) (unhide HQ)).mono ?_
            rintro e w1 ⟨rfl, rfl⟩
            go_wp2_with fail
            go_ret
            exact ⟨by rw [unhide HE]; rfl, by rw [unhide HE]; exact (unhide HP).1, (unhide HP).2⟩
        · have d3 : ((t.kids.length : Int) == 0) = false := beq_eq_false_iff_ne.2 (by omega)
          have HE := hide (hEq.trans (by rw [Bool.eq_false_iff.2 (fun h => q3 ((leafB_iff t).1 h).2.2.1)] : (leafB t, left - 1) = (false, left - 1)))
          clear hEq q1 q2 q3 hK
          go_enter Tryz.func41, Tryz.ntmps41
          go_wp2_with fail
          go_ret
          exact ⟨by rw [unhide HE]; rfl, by rw [unhide HE]; exact (unhide HP).1, (unhide HP).2⟩
      · have d2 : ((t.attrs.length : Int) == 0) = false := beq_eq_false_iff_ne.2 (by omega)
        have HE := hide (hEq.trans (by rw [Bool.eq_false_iff.2 (fun h => q2 ((leafB_iff t).1 h).2.1)] : (leafB t, left - 1) = (false, left - 1)))
        clear hEq q1 q2 hK
        go_enter Tryz.func41, Tryz.ntmps41
        go_wp2_with fail
        go_ret
        exact ⟨by rw [unhide HE]; rfl, by rw [unhide HE]; exact (unhide HP).1, (unhide HP).2⟩
    · have d1 : ((t.name.length : Int) == 0) = false := beq_eq_false_iff_ne.2 (by omega)
      have HE := hide (hEq.trans (by rw [Bool.eq_false_iff.2 (fun h => q1 ((leafB_iff t).1 h).1)] : (leafB t, left - 1) = (false, left - 1)))
      clear hEq q1 hK
      go_enter Tryz.func41, Tryz.ntmps41
      go_wp2_with fail
      go_ret
      exact ⟨by rw [unhide HE]; rfl, by rw [unhide HE]; exact (unhide HP).1, (unhide HP).2⟩
  have dk : (t.kind == 1) = false := by simpa using hK
  have hbad : ¬ ElemOk t → okT (n + 1) deep t left = (false, left - 1) := fun h => by unfold okT; rw [if_neg (by omega), if_neg hK, if_neg (fun e => h ((elemB_iff t).1 e))]
  have hgood : ElemOk t → okT (n + 1) deep t left = okK (okT n (deep + 1)) t.kids (left - 1) := fun h => by rw [okT_succ, if_neg (by omega), if_neg hK, if_pos ((elemB_iff t).2 h)]
  have HP := hide (And.intro lg (And.intro lb hf))
  have HBW := hide hBW
  clear lg lb hf hl hBW hK
  by_cases z0 : t.kind = 0
  · have dz : (t.kind != 0) = false := by simp [z0]
    by_cases z1 : NameOk t.name
    · by_cases z2 : t.text.length = 0
      · by_cases z3 : AttrsOk t.attrs
        · have H1 := hide z1
          have H3 := hide z3
          by_cases z4 : Void t.name
          · have H4 := hide z4
            by_cases z5 : 0 < t.kids.length
            · have HE := hide (hbad (fun h => h.2.2.2.2 ⟨z4, z5⟩))
              clear hbad hgood z0 z1 z3 z4 hc hr' he
              generalize t.text.length = nT at *
              generalize t.kids.length = nK at *
              subst z2
              have hkd : decide (0 < nK) = true := by simp; omega
              go_enter Tryz.func41, Tryz.ntmps41
              go_wp2_with fail
              refine (nameS_yes _ _ t.name (hb.keep (unhide HBW)) (unhide H1)).mono ?_
              rintro e w1 ⟨rfl, rfl⟩
              go_wp2_with fail
              refine (attrsS_yes _ _ t.attrs (hd.keep (unhide HBW)) (unhide H3)).mono ?_
              rintro e w1 ⟨rfl, hB1⟩
              have lb := (unhide HP).2.1.all hB1
              have u1 := lb.cell 1
              have u4 := lb.cell 4
              simp at u1 u4
              have hBW1 := (unhide HBW).trans (hB1.mono (unhide HBW).size)
              have HQ := hide (And.intro ((unhide HP).1.all hB1) ((unhide HP).2.2.trans (Frm.ofBelow hB1 [g])))
              clear lb hB1
              go_wp2_with fail
              refine (voidS_yes _ _ t.name (hb.keep hBW1) (unhide H4)).mono ?_
              rintro e w2 ⟨rfl, rfl⟩
              go_wp2_with fail
              go_ret
              exact ⟨by rw [unhide HE]; rfl, by rw [unhide HE]; exact (unhide HQ).1, (unhide HQ).2⟩
            · have HE := hide (hgood ⟨z0, z1, z2, z3, fun h => z5 h.2⟩)
              have hk0 : t.kids.length = 0 := by omega
              have hke : t.kids = [] := List.eq_nil_of_length_eq_zero hk0
              have HK := hide (show okK (okT n (deep + 1)) t.kids (left - 1) = (true, left - 1) by rw [hke]; rfl)
              clear he z5 hke
              generalize t.kids.length = nK at *
              subst hk0
              clear hbad hgood z0 z1 z3 z4 hc hr'
              generalize t.text.length = nT at *
              subst z2
              go_enter Tryz.func41, Tryz.ntmps41
              go_wp2_with fail
              refine (nameS_yes _ _ t.name (hb.keep (unhide HBW)) (unhide H1)).mono ?_
              rintro e w1 ⟨rfl, rfl⟩
              go_wp2_with fail
              refine (attrsS_yes _ _ t.attrs (hd.keep (unhide HBW)) (unhide H3)).mono ?_
              rintro e w1 ⟨rfl, hB1⟩
              have lb := (unhide HP).2.1.all hB1
              have u1 := lb.cell 1
              have u4 := lb.cell 4
              simp at u1 u4
              have hBW1 := (unhide HBW).trans (hB1.mono (unhide HBW).size)
              have HQ := hide (And.intro ((unhide HP).1.all hB1) (And.intro lb ((unhide HP).2.2.trans (Frm.ofBelow hB1 [g]))))
              clear lb hB1
              go_wp2_with fail
              refine (voidS_yes _ _ t.name (hb.keep hBW1) (unhide H4)).mono ?_
              rintro e w2 ⟨rfl, rfl⟩
              go_wp2_with fail
              refine wp_loop_rounds 1 ?_
              rw [rounds_succ]
              go_wp2_with fail
              go_ret
              exact ⟨by rw [unhide HE, unhide HK]; rfl, by rw [unhide HE, unhide HK]; exact (unhide HQ).1, (unhide HQ).2.2⟩
          · have H4 := hide z4
            have HE := hide (hgood ⟨z0, z1, z2, z3, fun h => z4 h.1⟩)
            clear hbad hgood z0 z1 z3 z4 hc hr'
            generalize t.text.length = nT at *
            subst z2
            go_enter Tryz.func41, Tryz.ntmps41
            go_wp2_with fail
            refine (nameS_yes _ _ t.name (hb.keep (unhide HBW)) (unhide H1)).mono ?_
            rintro e w1 ⟨rfl, rfl⟩
            go_wp2_with fail
            refine (attrsS_yes _ _ t.attrs (hd.keep (unhide HBW)) (unhide H3)).mono ?_
            rintro e w1 ⟨rfl, hB1⟩
            have lb := (unhide HP).2.1.all hB1
            have u1 := lb.cell 1
            have u4 := lb.cell 4
            simp at u1 u4
            have hBW1 := (unhide HBW).trans (hB1.mono (unhide HBW).size)
            have HQ := hide (And.intro ((unhide HP).1.all hB1) (And.intro lb ((unhide HP).2.2.trans (Frm.ofBelow hB1 [g]))))
            clear lb hB1
            go_wp2_with fail
            refine (voidS_no _ _ t.name (hb.keep hBW1) (unhide H4)).mono ?_
            rintro e w2 ⟨rfl, rfl⟩
            go_wp2_with fail
            go_loopw [7] (fun i wr => ∃ (k : Nat) (lk : Int), k ≤ t.kids.length ∧ i = .int .i64 k ∧ 0 ≤ lk ∧ lk ≤ 1000000 ∧ Loc wr g #[.int .i64 lk] 3 ∧ Loc wr w.heap.size #[.int .i64 t.kind, .slice ab t.name.length cb, .slice ac 0 cc, .slice ad t.attrs.length cd, .slice ae t.kids.length ce] 30 ∧ Frm w wr [g] ∧ Hid (okK (okT n (deep + 1)) t.kids (left - 1) = okK (okT n (deep + 1)) (t.kids.drop k) lk)) (fun i _ => t.kids.length - (intOf i).toNat)
            case atStart => exact ⟨0, left - 1, Nat.zero_le _, rfl, by omega, by omega, (unhide HQ).1, (unhide HQ).2.1, (unhide HQ).2.2, hide rfl⟩
            case round =>
              obtain ⟨k, lk, hk, rfl, hl0, hl1, rg, rb, rf, HK⟩ := hrel
              have v4 := rb.cell 4
              simp at v4
              have hmk := Elems.shape he
              have hBr : Below w0.heap.size w0 wr := hB.trans (rf.below hB.size (fun q hq => by simp at hq; omega))
              by_cases hlt : k < t.kids.length
              · have hkm := he.1
                obtain ⟨_, ⟨_, e⟩ | ⟨_, _, _, _, e⟩ | ⟨b, off, cap, e, g1, g2, g3, g4, g5⟩⟩ := he
                · rw [e] at hlt; simp at hlt
                · rw [e] at hlt; simp at hlt
                simp only [Value.slice.injEq, true_and] at e
                obtain ⟨rfl, rfl⟩ := e
                obtain ⟨c0, c1, c2, c3, c4, e0, e1, e2, e3, e4, hx⟩ := five_of (g5 k hlt)
                replace e0 := (hBr.cell (p := ⟨b, off + k * 5, none⟩) g4).trans e0
                replace e1 := (hBr.cell (p := ⟨b, off + k * 5 + 1, none⟩) g4).trans e1
                replace e2 := (hBr.cell (p := ⟨b, off + k * 5 + 2, none⟩) g4).trans e2
                replace e3 := (hBr.cell (p := ⟨b, off + k * 5 + 3, none⟩) g4).trans e3
                replace e4 := (hBr.cell (p := ⟨b, off + k * 5 + 4, none⟩) g4).trans e4
                have hlt' : (k : Int) < (t.kids.length : Int) := by omega
                have hob := okT_bound n (deep + 1) t.kids[k] lk hl0
                have hkd := okK_drop (f := okT n (deep + 1)) (left := lk) hlt
                have HR := hide (And.intro rg (And.intro rb rf))
                have HKD := hide hkd
                have HOB := hide hob
                unfold maxLen at hkm
                clear g5 rg rb rf hkd hob HQ u1 u4
                go_wp2_with fail
                refine (H w0 wr c0 c1 c2 c3 c4 t.kids[k] (deep + 1) lk g hx hBr hg (unhide HR).1 hl0 hl1 (by omega) (by omega)).mono ?_
                rintro e w3 ⟨rfl, hg3, hf3⟩
                have rb3 := (unhide HR).2.1.frm hf3 (by simp; omega)
                have rf3 := (unhide HR).2.2.trans hf3
                have HR3 := hide (And.intro hg3 (And.intro rb3 rf3))
                clear hg3 hf3 rb3 rf3 e0 e1 e2 e3 e4 hx v4 HR
                generalize okT n (deep + 1) t.kids[k] lk = res at *
                obtain ⟨rb, rl⟩ := res
                cases rb with
                | true =>
                  have q1 : 0 ≤ rl := (unhide HOB).2.2 rfl
                  have q2 : rl ≤ lk := (unhide HOB).2.1
                  have HF := hide ((unhide HK).trans ((unhide HKD).trans (if_pos rfl)))
                  clear HOB HKD HK
                  go_wp2_with fail
                  go_roundw
                  case rel => exact ⟨k + 1, rl, by omega, by go_num, q1, by omega, (unhide HR3).1, (unhide HR3).2.1, (unhide HR3).2.2, HF⟩
                  case measure => simp [intOf]; omega
                | false =>
                  have HF := hide ((unhide HK).trans ((unhide HKD).trans (if_neg (by simp))))
                  go_wp2_with fail
                  go_ret
                  exact ⟨by rw [unhide HE, unhide HF]; rfl, by rw [unhide HE, unhide HF]; exact (unhide HR3).1, (unhide HR3).2.2⟩
              · have HF := hide ((unhide HK).trans (show okK (okT n (deep + 1)) (t.kids.drop k) lk = (true, lk) by rw [List.drop_of_length_le (by omega)]; rfl))
                have hlt' : ¬ (k : Int) < (t.kids.length : Int) := by omega
                have HR := hide (And.intro rg (And.intro rb rf))
                clear rg rb rf he HQ u1 u4 HK
                go_wp2_with fail
                go_ret
                exact ⟨by rw [unhide HE, unhide HF]; rfl, by rw [unhide HE, unhide HF]; exact (unhide HR).1, (unhide HR).2.2⟩
        · have HE := hide (hbad (fun h => z3 h.2.2.2.1))
          have H1 := hide z1
          have H3 := hide z3
          clear hbad hgood z0 z1 z3 hc hr'
          generalize t.text.length = nT at *
          subst z2
          go_enter Tryz.func41, Tryz.ntmps41
          go_wp2_with fail
          refine (nameS_yes _ _ t.name (hb.keep (unhide HBW)) (unhide H1)).mono ?_
          rintro e w1 ⟨rfl, rfl⟩
          go_wp2_with fail
          refine (attrsS_no _ _ t.attrs (hd.keep (unhide HBW)) (unhide H3)).mono ?_
          rintro e w1 ⟨rfl, hB1⟩
          go_wp2_with fail
          go_ret
          exact ⟨by rw [unhide HE]; rfl, by rw [unhide HE]; exact (unhide HP).1.all hB1, (unhide HP).2.2.trans (Frm.ofBelow hB1 [g])⟩
      · have HE := hide (hbad (fun h => z2 h.2.2.1))
        have H1 := hide z1
        clear hbad hgood z0 z1 hc hr'
        generalize t.text.length = nT at *
        have hkp : 0 < nT := by omega
        have hkd : decide (0 < nT) = true := by simp; omega
        clear z2
        go_enter Tryz.func41, Tryz.ntmps41
        go_wp2_with fail
        refine (nameS_yes _ _ t.name (hb.keep (unhide HBW)) (unhide H1)).mono ?_
        rintro e w1 ⟨rfl, rfl⟩
        go_wp2_with fail
        go_ret
        exact ⟨by rw [unhide HE]; rfl, by rw [unhide HE]; exact (unhide HP).1, (unhide HP).2.2⟩
    · have HE := hide (hbad (fun h => z1 h.2.1))
      have H1 := hide z1
      clear hbad hgood z0 z1
      go_enter Tryz.func41, Tryz.ntmps41
      go_wp2_with fail
      refine (nameS_no _ _ t.name (hb.keep (unhide HBW)) (unhide H1)).mono ?_
      rintro e w1 ⟨rfl, rfl⟩
      go_wp2_with fail
      go_ret
      exact ⟨by rw [unhide HE]; rfl, by rw [unhide HE]; exact (unhide HP).1, (unhide HP).2.2⟩
  · have dz : (t.kind != 0) = true := by simp [z0]
    have HE := hide (hbad (fun h => z0 h.1))
    clear hbad hgood z0
    go_enter Tryz.func41, Tryz.ntmps41
    go_wp2_with fail
    go_ret
    exact ⟨by rw [unhide HE]; rfl, by rw [unhide HE]; exact (unhide HP).1, (unhide HP).2.2⟩

theorem l2node_any (n : Nat) : L2nodeSaid n := by
  induction n with
  | zero => exact fun _ _ _ _ _ _ _ t => t.elim
  | succ n ih => exact l2node_succ n ih

end Go.Proofs.YthgopknjppflhaaGreatDoor

/- What operations make of a tree, as plain mathematics: places, the forest that they are, one operation. No function of the program. -/
namespace Go.Proofs.YthgopknjppflhaaGreatDoor
open Go.RowKit
set_option linter.unusedVariables false

abbrev IdV := Int × Int
def PlV.id (p : PlV) : IdV := (p.idN, p.idR)
def PlV.par (p : PlV) : IdV := (p.parN, p.parR)
def OpV.at' (o : OpV) : IdV := (o.atN, o.atR)
def OpV.node (o : OpV) : IdV := (o.nodeN, o.nodeR)
def OpV.par (o : OpV) : IdV := (o.parN, o.parR)
def rootV : IdV := (0, 0)
def trashV : IdV := (0, 1)
/-- Where the first place with this id stands. -/
def posP (l : List PlV) (i : IdV) : Option Nat := l.findIdx? (fun p => decide (p.id = i))
theorem posP_some {l : List PlV} {i : IdV} {k : Nat} : posP l i = some k ↔ ∃ h : k < l.length, l[k].id = i ∧ ∀ j (hj : j < k), l[j].id ≠ i := by
  unfold posP
  rw [List.findIdx?_eq_some_iff_getElem]
  simp
theorem posP_none {l : List PlV} {i : IdV} : posP l i = none ↔ ∀ p ∈ l, p.id ≠ i := by
  unfold posP
  rw [List.findIdx?_eq_none_iff]
  simp
theorem posP_at {l : List PlV} {i : IdV} {k : Nat} (h : posP l i = some k) : ∃ p, l[k]? = some p ∧ p.id = i := by
  obtain ⟨h1, h2, _⟩ := posP_some.1 h
  exact ⟨l[k], by simp [h1], h2⟩
/-- Where the ids differ, each is where it is. -/
theorem posP_uniq {l : List PlV} (hu : (l.map PlV.id).Nodup) {k : Nat} {p : PlV} (hk : l[k]? = some p) : posP l p.id = some k := by
  obtain ⟨hlt, rfl⟩ := List.getElem?_eq_some_iff.1 hk
  refine posP_some.2 ⟨hlt, rfl, fun j hj e => ?_⟩
  have hj' : j < l.length := by omega
  have := (List.pairwise_iff_getElem.1 hu) j k (by simpa using hj') (by simpa using hlt) hj
  simp at this
  exact this e
def elemP (p : PlV) : Bool := decide (p.kind = 0)
def takesV (l : List PlV) (i : IdV) : Bool := match posP l i with
  | some k => match l[k]? with
    | some p => elemP p && !voidB p.name
    | none => false
  | none => false
/-- Is a place within another one, or it itself? As the specification asks. -/
def underS (l : List PlV) : Nat → IdV → IdV → Bool
  | 0, _, _ => true
  | f + 1, i, b => if i = b then true else match posP l i with
    | none => false
    | some k => if k < 2 then false else match l[k]? with
      | some p => underS l f p.par b
      | none => false
/-- The same, as the program asks. -/
def within (l : List PlV) : Nat → IdV → IdV → Bool
  | 0, _, _ => false
  | f + 1, i, b => if i = b then true else if i = rootV ∨ i = trashV then false else match posP l i with
    | none => false
    | some k => match l[k]? with
      | some p => within l f p.par b
      | none => false
/-- An attribute set or taken away, as the specification does it. -/
def setA (n t : List Int) : Bool → List (List Int × List Int) → List (List Int × List Int)
  | put, [] => if put then [] else [(n, t)]
  | put, a :: r => (if !put && !klB a.1 n then [(n, t)] else []) ++ (if a.1 = n then [] else [a]) ++ setA n t (put || !klB a.1 n) r
def setAttrs (l : List (List Int × List Int)) (o : OpV) : List (List Int × List Int) := if (setA o.name o.text o.gone l).length ≤ 4 then setA o.name o.text o.gone l else l
def newP (o : OpV) : PlV := ⟨o.atN, o.atR, o.parN, o.parR, o.key, o.elem, o.name, o.text, []⟩
def moveP (o : OpV) (p : PlV) : PlV := { p with parN := o.parN, parR := o.parR, key := o.key }
def textP (o : OpV) (p : PlV) : PlV := { p with text := o.text }
def attrP (o : OpV) (p : PlV) : PlV := { p with attrs := setAttrs p.attrs o }
def mayMove (l : List PlV) (o : OpV) (k : Nat) : Bool := decide (2 ≤ k) && takesV l o.par && !underS l (l.length + 1) o.par o.node
/-- What one operation does. -/
def doV (l : List PlV) (o : OpV) : List PlV :=
  if o.kind = 0 then (if takesV l o.par then l ++ [newP o] else l)
  else match posP l o.node with
    | none => l
    | some k => match l[k]? with
      | none => l
      | some p =>
        if o.kind = 1 then (if mayMove l o k then l.set k (moveP o p) else l)
        else if o.kind = 2 then (if 2 ≤ k ∧ p.kind = 1 then l.set k (textP o p) else l)
        else (if k ≠ 1 ∧ p.kind = 0 then l.set k (attrP o p) else l)
/-- A forest: root and trash, all others hang on a place, none within itself. -/
structure Fr (l : List PlV) : Prop where
  two : 2 ≤ l.length
  root : ∀ p, l[0]? = some p → p.id = rootV
  trash : ∀ p, l[1]? = some p → p.id = trashV
  uniq : (l.map PlV.id).Nodup
  par : ∀ i p, 2 ≤ i → l[i]? = some p → ∃ j, posP l p.par = some j
  rank : ∃ rk : IdV → Nat, ∀ i p, 2 ≤ i → l[i]? = some p → rk p.par < rk p.id
theorem countP_lt {α : Type} (p q : α → Bool) : ∀ (l : List α), (∀ x ∈ l, p x = true → q x = true) → (∃ x ∈ l, q x = true ∧ p x = false) → l.countP p < l.countP q
  | [], _, ⟨x, hx, _⟩ => by cases hx
  | a :: r, h, ⟨x, hx, hq, hp⟩ => by
    have hle : r.countP p ≤ r.countP q := List.countP_mono_left (fun y hy => h y (List.mem_cons_of_mem _ hy))
    rw [List.countP_cons, List.countP_cons]
    rcases List.mem_cons.1 hx with rfl | hx
    · simp only [hp, hq]; simp; omega
    · have := countP_lt p q r (fun y hy => h y (List.mem_cons_of_mem _ hy)) ⟨x, hx, hq, hp⟩
      have h1 := h a (List.mem_cons_self ..)
      by_cases e : p a = true
      · rw [h1 e, e]; simp; omega
      · simp only [e]; simp; omega
/-- How many others stand no higher. -/
def cntR (l : List PlV) (rk : IdV → Nat) (r : Nat) : Nat := (l.drop 2).countP (fun p => decide (rk p.id ≤ r))
theorem mem_drop2 {l : List PlV} {k : Nat} {p : PlV} (hk : 2 ≤ k) (h : l[k]? = some p) : p ∈ l.drop 2 := by
  refine List.mem_of_getElem? (i := k - 2) ?_
  rw [List.getElem?_drop]
  rw [show 2 + (k - 2) = k by omega]
  exact h
theorem cntR_lt {l : List PlV} {rk : IdV → Nat} (hr : ∀ i p, 2 ≤ i → l[i]? = some p → rk p.par < rk p.id) {k : Nat} {p : PlV} (hk : 2 ≤ k) (h : l[k]? = some p) : cntR l rk (rk p.par) < cntR l rk (rk p.id) := by
  have := hr k p hk h
  exact countP_lt _ _ _ (fun x _ hx => by simp at hx ⊢; omega) ⟨p, mem_drop2 hk h, by simp, by simp; omega⟩
theorem cntR_le (l : List PlV) (rk : IdV → Nat) (r : Nat) : cntR l rk r ≤ l.length - 2 := by
  unfold cntR
  have := List.countP_le_length (p := fun p : PlV => decide (rk p.id ≤ r)) (l := l.drop 2)
  simpa using this
theorem Fr.low {l : List PlV} (h : Fr l) {i : IdV} {k : Nat} (hk : posP l i = some k) : k < 2 ↔ i = rootV ∨ i = trashV := by
  obtain ⟨p, hp, rfl⟩ := posP_at hk
  have h2 := h.two
  obtain ⟨p0, h0⟩ : ∃ p0, l[0]? = some p0 := ⟨l[0], by simp [show 0 < l.length by omega]⟩
  obtain ⟨p1, h1⟩ : ∃ p1, l[1]? = some p1 := ⟨l[1], by simp [show 1 < l.length by omega]⟩
  constructor
  · intro hlt
    match k, hlt with
    | 0, _ => exact .inl (h.root p hp)
    | 1, _ => exact .inr (h.trash p hp)
  · rintro (e | e)
    · have := posP_uniq h.uniq h0
      rw [h.root p0 h0, ← e, hk] at this
      cases this; decide
    · have := posP_uniq h.uniq h1
      rw [h.trash p1 h1, ← e, hk] at this
      cases this; decide
/-- With enough rounds both ask the same. -/
theorem under_within {l : List PlV} (h : Fr l) (b : IdV) {rk : IdV → Nat} (hr : ∀ i p, 2 ≤ i → l[i]? = some p → rk p.par < rk p.id) : ∀ (f1 f2 : Nat) (i : IdV) (k : Nat), posP l i = some k → cntR l rk (rk i) < f1 → cntR l rk (rk i) < f2 → underS l f1 i b = within l f2 i b
  | 0, _, _, _, _, h1, _ => by omega
  | f1 + 1, 0, _, _, _, _, h2 => by omega
  | f1 + 1, f2 + 1, i, k, hk, h1, h2 => by
    unfold underS within
    by_cases e : i = b
    · simp [e]
    · simp only [e, if_false, hk]
      by_cases hlt : k < 2
      · have := (h.low hk).1 hlt
        simp [hlt, this]
      · have hn : ¬ (i = rootV ∨ i = trashV) := fun e => hlt ((h.low hk).2 e)
        obtain ⟨p, hp, rfl⟩ := posP_at hk
        simp only [hlt, hn, if_false, hp]
        obtain ⟨j, hj⟩ := h.par k p (by omega) hp
        have := cntR_lt hr (by omega) hp
        exact under_within h b hr f1 f2 p.par j hj (by omega) (by omega)
/-- More rounds than enough make no odds. -/
theorem under_more {l : List PlV} (h : Fr l) (b : IdV) {rk : IdV → Nat} (hr : ∀ i p, 2 ≤ i → l[i]? = some p → rk p.par < rk p.id) (f1 f2 : Nat) (i : IdV) (k : Nat) (hk : posP l i = some k) (h1 : cntR l rk (rk i) < f1) (h2 : cntR l rk (rk i) < f2) : underS l f1 i b = underS l f2 i b :=
  (under_within h b hr f1 f2 i k hk h1 h2).trans (under_within h b hr f2 f2 i k hk h2 h2).symm
theorem Fr.under {l : List PlV} (h : Fr l) (i b : IdV) (k : Nat) (hk : posP l i = some k) : underS l (l.length + 1) i b = within l l.length i b := by
  obtain ⟨rk, hr⟩ := h.rank
  have h1 := cntR_le l rk (rk i)
  have h2 := h.two
  exact under_within h b hr _ _ i k hk (by omega) (by omega)
end Go.Proofs.YthgopknjppflhaaGreatDoor

/- When nothing is within itself: both ways to ask come to one. Plain mathematics. -/
namespace Go.Proofs.YthgopknjppflhaaGreatDoor
set_option linter.unusedVariables false

/-- What the forest keeps before it is known that nothing is within itself. -/
structure FrW (l : List PlV) : Prop where
  two : 2 ≤ l.length
  root : ∀ p, l[0]? = some p → p.id = rootV
  trash : ∀ p, l[1]? = some p → p.id = trashV
  uniq : (l.map PlV.id).Nodup
  par : ∀ i p, 2 ≤ i → l[i]? = some p → ∃ j, posP l p.par = some j
theorem FrW.low {l : List PlV} (h : FrW l) {i : IdV} {k : Nat} (hk : posP l i = some k) : k < 2 ↔ i = rootV ∨ i = trashV := by
  obtain ⟨p, hp, rfl⟩ := posP_at hk
  have h2 := h.two
  obtain ⟨p0, h0⟩ : ∃ p0, l[0]? = some p0 := ⟨l[0], by simp [show 0 < l.length by omega]⟩
  obtain ⟨p1, h1⟩ : ∃ p1, l[1]? = some p1 := ⟨l[1], by simp [show 1 < l.length by omega]⟩
  constructor
  · intro hlt
    match k, hlt with
    | 0, _ => exact .inl (h.root p hp)
    | 1, _ => exact .inr (h.trash p hp)
  · rintro (e | e)
    · have := posP_uniq h.uniq h0
      rw [h.root p0 h0, ← e, hk] at this
      cases this; decide
    · have := posP_uniq h.uniq h1
      rw [h.trash p1 h1, ← e, hk] at this
      cases this; decide
/-- Numbers below n that all differ are at most n. -/
theorem php : ∀ (n : Nat) (l : List Nat), l.Nodup → (∀ x ∈ l, x < n) → l.length ≤ n
  | 0, l, _, h => by
    cases l with
    | nil => simp
    | cons a r => exact absurd (h a (List.mem_cons_self ..)) (by omega)
  | n + 1, l, hn, h => by
    by_cases e : n ∈ l
    · have h1 := php n (l.erase n) (hn.erase n) (fun x hx => by
        have h2 := h x (List.mem_of_mem_erase hx)
        have h3 : x ≠ n := fun e' => by
          subst e'
          exact (List.Nodup.not_mem_erase hn) hx
        omega)
      rw [List.length_erase_of_mem e] at h1
      omega
    · have h1 := php n l hn (fun x hx => by
        have h2 := h x hx
        have h3 : x ≠ n := fun e' => e (e' ▸ hx)
        omega)
      omega
/-- A way of n + 1 steps through n places comes to one of them twice. -/
theorem php_fun (n : Nat) (f : Nat → Nat) (h : ∀ i, i ≤ n → f i < n) : ∃ a b, a < b ∧ b ≤ n ∧ f a = f b := by
  by_cases hd : ((List.range (n + 1)).map f).Nodup
  · have := php n _ hd (fun x hx => by
      obtain ⟨i, hi, rfl⟩ := List.mem_map.1 hx
      exact h i (by have := List.mem_range.1 hi; omega))
    simp at this
    omega
  · have hd' : ¬ ∀ i j (hi : i < ((List.range (n + 1)).map f).length) (hj : j < ((List.range (n + 1)).map f).length), i < j → ((List.range (n + 1)).map f)[i] ≠ ((List.range (n + 1)).map f)[j] := fun h' => hd (List.pairwise_iff_getElem.2 h')
    apply Classical.byContradiction
    intro hc
    apply hd'
    intro i j hi hj hij e
    simp at hi hj e
    exact hc ⟨i, j, hij, by omega, e⟩
/-- Where a place's Parent is. -/
def upP (l : List PlV) (i : Nat) : Nat := match l[i]? with
  | some p => (posP l p.par).getD 0
  | none => 0
def upN (l : List PlV) : Nat → Nat → Nat
  | 0, i => i
  | m + 1, i => upN l m (upP l i)
theorem upN_add (l : List PlV) : ∀ (a b i : Nat), upN l (a + b) i = upN l b (upN l a i)
  | 0, b, i => by simp [upN]
  | a + 1, b, i => by rw [show a + 1 + b = (a + b) + 1 by omega, upN, upN, upN_add l a b]
theorem upN_succ (l : List PlV) (m i : Nat) : upN l (m + 1) i = upP l (upN l m i) := by rw [upN_add l m 1]; rfl
theorem FrW.up {l : List PlV} (h : FrW l) {i : Nat} {p : PlV} (hi : 2 ≤ i) (hp : l[i]? = some p) : posP l p.par = some (upP l i) := by
  obtain ⟨j, hj⟩ := h.par i p hi hp
  unfold upP
  rw [hp]
  simp [hj]
theorem FrW.upLt {l : List PlV} (h : FrW l) (i : Nat) : upP l i < l.length := by
  have h2 := h.two
  unfold upP
  cases hp : l[i]? with
  | none => simp; omega
  | some p =>
    simp only
    cases hq : posP l p.par with
    | none => simp; omega
    | some k => simp; exact (posP_some.1 hq).1
/-- A way up that comes back to where it began, and to no top before. -/
theorem within_round {l : List PlV} (h : FrW l) {b : Nat} {q : PlV} (hq : l[b]? = some q) : ∀ (m i f : Nat) (p : PlV), l[i]? = some p → (∀ j, j < m → 2 ≤ upN l j i) → upN l m i = b → m < f → within l f p.id q.id = true
  | 0, i, f, p, hp, _, he, hf => by
    obtain ⟨f', rfl⟩ : ∃ f', f = f' + 1 := ⟨f - 1, by omega⟩
    have e : i = b := he
    subst e
    rw [hp] at hq
    cases hq
    unfold within
    rw [if_pos rfl]
  | m + 1, i, f, p, hp, hj, he, hf => by
    obtain ⟨f', rfl⟩ : ∃ f', f = f' + 1 := ⟨f - 1, by omega⟩
    have hi : 2 ≤ i := hj 0 (by omega)
    have hk := posP_uniq h.uniq hp
    have hn : ¬ (p.id = rootV ∨ p.id = trashV) := fun e => by have := (h.low hk).2 e; omega
    have hu := h.up hi hp
    obtain ⟨r, hr, er⟩ := posP_at hu
    have ih := within_round h hq m (upP l i) f' r hr (fun j hj' => hj (j + 1) (by omega)) he (by omega)
    by_cases e : p.id = q.id
    · unfold within
      rw [if_pos e]
    · unfold within
      rw [if_neg e, if_neg hn, hk]
      simp only [hp]
      rw [← er]
      exact ih
/-- If nothing is within itself, every way up comes to a top. -/
theorem FrW.tops {l : List PlV} (h : FrW l) (hc : ∀ i p, 2 ≤ i → l[i]? = some p → within l l.length p.par p.id = false) (i : Nat) (hi : i < l.length) : ∃ m, m ≤ l.length ∧ upN l m i < 2 := by
  apply Classical.byContradiction
  intro hno
  have hge : ∀ m, m ≤ l.length → 2 ≤ upN l m i := fun m hm => by
    rcases Nat.lt_or_ge (upN l m i) 2 with h' | h'
    · exact absurd ⟨m, hm, h'⟩ hno
    · exact h'
  have hlt : ∀ m, m ≤ l.length → upN l m i < l.length := fun m hm => by
    cases m with
    | zero => exact hi
    | succ m => rw [upN_succ]; exact h.upLt _
  obtain ⟨a, b, hab, hb, e⟩ := php_fun l.length (fun m => upN l m i) hlt
  have e : upN l a i = upN l b i := e
  -- the place at a is within itself
  have hla := hlt a (by omega)
  obtain ⟨q, hq⟩ : ∃ q, l[upN l a i]? = some q := ⟨l[upN l a i], by simp [hla]⟩
  have h2 := hge a (by omega)
  have hu := h.up h2 hq
  obtain ⟨r, hr, er⟩ := posP_at hu
  have hm : upN l (b - a - 1) (upP l (upN l a i)) = upN l a i := by
    have h3 := upN_add l a (b - a) i
    rw [show a + (b - a) = b by omega] at h3
    rw [show b - a = (b - a - 1) + 1 by omega, upN] at h3
    rw [← h3, ← e]
  have := within_round h hq (b - a - 1) (upP l (upN l a i)) l.length r hr (fun j hj => by
    have h3 := upN_add l a (j + 1) i
    rw [upN] at h3
    rw [← h3]
    exact hge _ (by omega)) hm (by omega)
  rw [er, hc _ q h2 hq] at this
  cases this
/-- How far below a top. -/
def depP (l : List PlV) : Nat → Nat → Nat
  | 0, _ => 0
  | f + 1, i => if i < 2 then 0 else 1 + depP l f (upP l i)
theorem depP_more {l : List PlV} : ∀ (m f f' i : Nat), upN l m i < 2 → m ≤ f → m ≤ f' → depP l f i = depP l f' i
  | 0, f, f', i, h, _, _ => by
    have h : i < 2 := h
    have : ∀ f, depP l f i = 0 := fun f => by
      cases f with
      | zero => rfl
      | succ f => unfold depP; rw [if_pos h]
    rw [this, this]
  | m + 1, f, f', i, h, h1, h2 => by
    obtain ⟨g, rfl⟩ : ∃ g, f = g + 1 := ⟨f - 1, by omega⟩
    obtain ⟨g', rfl⟩ : ∃ g', f' = g' + 1 := ⟨f' - 1, by omega⟩
    unfold depP
    by_cases hi : i < 2
    · rw [if_pos hi, if_pos hi]
    · rw [if_neg hi, if_neg hi, depP_more m g g' (upP l i) h (by omega) (by omega)]
theorem FrW.fr {l : List PlV} (h : FrW l) (hc : ∀ i p, 2 ≤ i → l[i]? = some p → within l l.length p.par p.id = false) : Fr l := by
  refine ⟨h.two, h.root, h.trash, h.uniq, h.par, fun i => depP l l.length ((posP l i).getD 0), fun i p hi hp => ?_⟩
  have hlt : i < l.length := (List.getElem?_eq_some_iff.1 hp).1
  simp only [posP_uniq h.uniq hp, h.up hi hp, Option.getD_some]
  obtain ⟨m, hm, ht⟩ := h.tops hc i hlt
  obtain ⟨m', rfl⟩ : ∃ m', m = m' + 1 := ⟨m - 1, by
    rcases Nat.eq_zero_or_pos m with e | e
    · subst e
      have : i < 2 := ht
      omega
    · omega⟩
  have ht' : upN l m' (upP l i) < 2 := ht
  obtain ⟨n, hn⟩ : ∃ n, l.length = n + 1 := ⟨l.length - 1, by omega⟩
  have e1 : depP l l.length i = 1 + depP l n (upP l i) := by
    rw [hn]
    conv => lhs; unfold depP
    rw [if_neg (by omega)]
  rw [e1, depP_more m' n l.length (upP l i) ht' (by omega) (by omega)]
  omega
/-- What is within something by one way to ask is so by the other. -/
theorem FrW.within_under {l : List PlV} (h : FrW l) (b : IdV) : ∀ (f g : Nat) (i : IdV) (k : Nat), posP l i = some k → f ≤ g → within l f i b = true → underS l g i b = true
  | 0, _, _, _, _, _, h' => by unfold within at h'; cases h'
  | f + 1, 0, _, _, _, h1, _ => by omega
  | f + 1, g + 1, i, k, hk, h1, h' => by
    unfold within at h'
    unfold underS
    by_cases e : i = b
    · rw [if_pos e]
    · rw [if_neg e] at h' ⊢
      by_cases hn : i = rootV ∨ i = trashV
      · rw [if_pos hn] at h'; cases h'
      · rw [if_neg hn] at h'
        have hk2 : ¬ k < 2 := fun e' => hn ((h.low hk).1 e')
        obtain ⟨p, hp, rfl⟩ := posP_at hk
        obtain ⟨j, hj⟩ := h.par k p (by omega) hp
        simp only [hk, hp] at h' ⊢
        rw [if_neg hk2]
        exact FrW.within_under h b f g p.par j hj (by omega) h'
/-- Nothing is within itself: both ways to ask say so, or neither. -/
theorem FrW.free {l : List PlV} (h : FrW l) : (∀ i p, 2 ≤ i → l[i]? = some p → within l l.length p.par p.id = false) ↔ (∀ i p, 2 ≤ i → l[i]? = some p → underS l (l.length + 1) p.par p.id = false) := by
  constructor
  · intro hc i p hi hp
    rw [(h.fr hc).under _ _ _ (h.up hi hp)]
    exact hc i p hi hp
  · intro hc i p hi hp
    have h1 := hc i p hi hp
    rw [Bool.eq_false_iff]
    intro h2
    rw [h.within_under p.id l.length (l.length + 1) p.par _ (h.up hi hp) (by omega) h2] at h1
    cases h1
end Go.Proofs.YthgopknjppflhaaGreatDoor

/- The kids of a place in their order, and the tree that a state shows. Plain mathematics. -/
namespace Go.Proofs.YthgopknjppflhaaGreatDoor
set_option linter.unusedVariables false

theorem klB_trans : ∀ {a b c : List Int}, klB a b = true → klB b c = true → klB a c = true
  | [], [], _, h, _ => by cases h
  | [], _ :: _, [], _, h => by cases h
  | [], _ :: _, _ :: _, _, _ => rfl
  | _ :: _, [], _, h, _ => by cases h
  | _ :: _, _ :: _, [], _, h => by cases h
  | x :: a, y :: b, z :: c, h, k => by
    rw [klB] at h k ⊢
    by_cases e1 : x = y
    · rw [if_pos e1] at h
      by_cases e2 : y = z
      · rw [if_pos e2] at k
        rw [if_pos (e1.trans e2)]
        exact klB_trans h k
      · rw [if_neg e2] at k
        rw [if_neg (by rw [e1]; exact e2), e1]
        exact k
    · rw [if_neg e1] at h
      have h := of_decide_eq_true h
      by_cases e2 : y = z
      · rw [← e2, if_neg e1]
        exact decide_eq_true h
      · rw [if_neg e2] at k
        have k := of_decide_eq_true k
        rw [if_neg (by omega)]
        exact decide_eq_true (by omega)
/-- By key, then by id. -/
def aheadB (a b : PlV) : Bool := klB a.key b.key || (!klB b.key a.key && lessB a.idN a.idR b.idN b.idR)
theorem ahead_iff (a b : PlV) : aheadB a b = true ↔ klB a.key b.key = true ∨ (a.key = b.key ∧ lessB a.idN a.idR b.idN b.idR = true) := by
  have h1 := klB_tri a.key b.key
  have h2 := klB_anti a.key b.key
  unfold aheadB
  cases e1 : klB a.key b.key
  · cases e2 : klB b.key a.key
    · rw [e1, e2] at h1
      have h3 : a.key = b.key := by simpa using h1
      simp [h3]
    · rw [e1, e2] at h1
      have h3 : a.key ≠ b.key := by simpa using h1
      simp [h3]
  · simp
theorem ahead_irr (a : PlV) : aheadB a a = false := by
  rw [Bool.eq_false_iff]
  intro h
  rcases (ahead_iff a a).1 h with h | ⟨_, h⟩
  · rw [klB_irr] at h; cases h
  · unfold lessB at h; simp at h
theorem ahead_trans {a b c : PlV} (h : aheadB a b = true) (k : aheadB b c = true) : aheadB a c = true := by
  rw [ahead_iff] at *
  rcases h with h | ⟨e, h⟩
  · rcases k with k | ⟨e', _⟩
    · exact .inl (klB_trans h k)
    · exact .inl (e' ▸ h)
  · rcases k with k | ⟨e', k⟩
    · exact .inl (e ▸ k)
    · refine .inr ⟨e.trans e', ?_⟩
      unfold lessB at *
      simp only [Bool.or_eq_true, decide_eq_true_eq, Bool.and_eq_true, beq_iff_eq] at *
      omega
theorem ahead_anti {a b : PlV} (h : aheadB a b = true) (k : aheadB b a = true) : False := by
  have := ahead_trans h k
  rw [ahead_irr] at this
  cases this
theorem ahead_tot {a b : PlV} (h : a.id ≠ b.id) : aheadB a b = true ∨ aheadB b a = true := by
  rw [ahead_iff, ahead_iff]
  have h1 := klB_tri a.key b.key
  by_cases e : a.key = b.key
  · have h2 : lessB a.idN a.idR b.idN b.idR = true ∨ lessB b.idN b.idR a.idN a.idR = true := by
      unfold lessB
      simp only [Bool.or_eq_true, decide_eq_true_eq, Bool.and_eq_true, beq_iff_eq]
      have h3 : ¬ (a.idN = b.idN ∧ a.idR = b.idR) := fun ⟨e1, e2⟩ => h (show (a.idN, a.idR) = (b.idN, b.idR) by rw [e1, e2])
      omega
    rcases h2 with h2 | h2
    · exact .inl (.inr ⟨e, h2⟩)
    · exact .inr (.inr ⟨e.symm, h2⟩)
  · have h2 : (klB a.key b.key || klB b.key a.key) = true := by rw [h1]; simp [e]
    rw [Bool.or_eq_true] at h2
    rcases h2 with h2 | h2
    · exact .inl (.inl h2)
    · exact .inr (.inl h2)
/-- Two sorted lists of the same are one. -/
theorem sorted_eq {α : Type} {R : α → α → Prop} (asym : ∀ a b, R a b → R b a → False) : ∀ {l1 l2 : List α}, l1.Perm l2 → l1.Pairwise R → l2.Pairwise R → l1 = l2
  | [], l2, hp, _, _ => by rw [List.Perm.nil_eq hp]
  | a :: l1, [], hp, _, _ => by exact absurd hp.length_eq (by simp)
  | a :: l1, b :: l2, hp, h1, h2 => by
    have e : a = b := by
      rcases List.mem_cons.1 (hp.mem_iff.1 (List.mem_cons_self ..)) with h | h
      · exact h
      · rcases List.mem_cons.1 (hp.mem_iff.2 (List.mem_cons_self ..)) with k | k
        · exact k.symm
        · exact absurd ((List.pairwise_cons.1 h2).1 a h) (fun h3 => asym _ _ ((List.pairwise_cons.1 h1).1 b k) h3)
    subst e
    rw [sorted_eq asym ((List.perm_cons a).1 hp) (List.pairwise_cons.1 h1).2 (List.pairwise_cons.1 h2).2]
/-- Where the specification puts one more into a sorted row: from the right. -/
def cutK (lt : Nat → Nat → Bool) (i : Nat) (out : List Nat) : Nat → Nat
  | 0 => 0
  | k + 1 => if lt i (out.getD k 0) = true then cutK lt i out k else k + 1
theorem cutK_le (lt : Nat → Nat → Bool) (i : Nat) (out : List Nat) : ∀ k, cutK lt i out k ≤ k
  | 0 => Nat.le_refl _
  | k + 1 => by
    unfold cutK
    by_cases h : lt i (out.getD k 0) = true
    · rw [if_pos h]; have := cutK_le lt i out k; omega
    · rw [if_neg h]; exact Nat.le_refl _
theorem cutK_behind (lt : Nat → Nat → Bool) (i : Nat) (out : List Nat) : ∀ k j, cutK lt i out k ≤ j → j < k → lt i (out.getD j 0) = true
  | 0, j, _, h => by omega
  | k + 1, j, h, h' => by
    unfold cutK at h
    by_cases e : lt i (out.getD k 0) = true
    · rw [if_pos e] at h
      by_cases ej : j = k
      · rw [ej]; exact e
      · exact cutK_behind lt i out k j h (by omega)
    · rw [if_neg e] at h; omega
theorem cutK_at (lt : Nat → Nat → Bool) (i : Nat) (out : List Nat) : ∀ k, 0 < cutK lt i out k → lt i (out.getD (cutK lt i out k - 1) 0) ≠ true
  | 0, h => by exact absurd h (by simp [cutK])
  | k + 1, h => by
    unfold cutK at h ⊢
    by_cases e : lt i (out.getD k 0) = true
    · rw [if_pos e] at h ⊢
      exact cutK_at lt i out k h
    · rw [if_neg e]
      simpa using e
def insR (lt : Nat → Nat → Bool) (i : Nat) (out : List Nat) : List Nat := out.take (cutK lt i out out.length) ++ i :: out.drop (cutK lt i out out.length)
theorem insR_perm (lt : Nat → Nat → Bool) (i : Nat) (out : List Nat) : (insR lt i out).Perm (i :: out) := by
  unfold insR
  have h := List.perm_middle (a := i) (l₁ := out.take (cutK lt i out out.length)) (l₂ := out.drop (cutK lt i out out.length))
  rw [List.take_append_drop] at h
  exact h
theorem getD_in {out : List Nat} {j : Nat} (h : j < out.length) : out.getD j 0 = out[j] := by simp [h]
theorem insR_sorted {lt : Nat → Nat → Bool} (tr : ∀ a b c, lt a b = true → lt b c = true → lt a c = true) {i : Nat} {out : List Nat} (tot : ∀ x ∈ out, lt i x = true ∨ lt x i = true) (h : out.Pairwise (fun a b => lt a b = true)) : (insR lt i out).Pairwise (fun a b => lt a b = true) := by
  have hc := cutK_le lt i out out.length
  have hb := cutK_behind lt i out out.length
  have ha := cutK_at lt i out out.length
  unfold insR
  generalize cutK lt i out out.length = c at *
  have hpw := List.pairwise_iff_getElem.1 h
  have hlow : ∀ x ∈ out.take c, lt x i = true := fun x hx => by
    obtain ⟨j, hj, rfl⟩ := List.getElem_of_mem hx
    have hj' : j < c := by rw [List.length_take] at hj; omega
    have hjl : j < out.length := by omega
    rw [List.getElem_take]
    have hlast : lt (out[c - 1]'(by omega)) i = true := by
      have h1 := ha (by omega)
      rw [getD_in (by omega)] at h1
      rcases tot _ (List.getElem_mem (show c - 1 < out.length by omega)) with h2 | h2
      · exact absurd h2 h1
      · exact h2
    by_cases e : j = c - 1
    · subst e; exact hlast
    · exact tr _ _ _ (hpw j (c - 1) hjl (by omega) (by omega)) hlast
  have hhigh : ∀ x ∈ out.drop c, lt i x = true := fun x hx => by
    obtain ⟨j, hj, rfl⟩ := List.getElem_of_mem hx
    have hj' : c + j < out.length := by rw [List.length_drop] at hj; omega
    rw [List.getElem_drop]
    have := hb (c + j) (by omega) hj'
    rwa [getD_in hj'] at this
  rw [List.pairwise_append]
  refine ⟨h.sublist (List.take_sublist _ _), List.pairwise_cons.2 ⟨hhigh, h.sublist (List.drop_sublist _ _)⟩, fun a ha' b hb' => ?_⟩
  rcases List.mem_cons.1 hb' with rfl | hb'
  · exact hlow a ha'
  · exact tr _ _ _ (hlow a ha') (hhigh b hb')
/-- Which of two places, by where they are, comes first. -/
def aheadI (l : List PlV) (i j : Nat) : Bool := match l[i]?, l[j]? with
  | some a, some b => aheadB a b
  | _, _ => false
theorem aheadI_trans (l : List PlV) (a b c : Nat) (h : aheadI l a b = true) (k : aheadI l b c = true) : aheadI l a c = true := by
  unfold aheadI at *
  cases ha : l[a]? with
  | none => rw [ha] at h; cases h
  | some x =>
    cases hb : l[b]? with
    | none => rw [ha, hb] at h; cases h
    | some y =>
      cases hc : l[c]? with
      | none => rw [hb, hc] at k; cases k
      | some z =>
        rw [ha, hb] at h
        rw [hb, hc] at k
        exact ahead_trans h k
theorem aheadI_at {l : List PlV} {i j : Nat} (hi : i < l.length) (hj : j < l.length) : aheadI l i j = aheadB l[i] l[j] := by
  unfold aheadI
  simp [hi, hj]
def isKid (l : List PlV) (id : IdV) (i : Nat) : Bool := match l[i]? with
  | some p => decide (p.par = id)
  | none => false
/-- One more place looked at. -/
def kidStep (l : List PlV) (id : IdV) (out : List Nat) (i : Nat) : List Nat := if isKid l id i = true then insR (aheadI l) i out else out
/-- The kids among the first n places. -/
def kidsTo (l : List PlV) (id : IdV) (n : Nat) : List Nat := (List.range' 2 (n - 2)).foldl (kidStep l id) []
theorem kidsTo_succ (l : List PlV) (id : IdV) {n : Nat} (hn : 2 ≤ n) : kidsTo l id (n + 1) = kidStep l id (kidsTo l id n) n := by
  unfold kidsTo
  rw [show n + 1 - 2 = (n - 2) + 1 by omega, List.range'_concat, List.foldl_append]
  simp only [List.foldl_cons, List.foldl_nil]
  rw [show 2 + 1 * (n - 2) = n by omega]
def kidsV (l : List PlV) (id : IdV) : List Nat := kidsTo l id l.length
theorem kidsTo_ok {l : List PlV} (hu : (l.map PlV.id).Nodup) (id : IdV) : ∀ n, n ≤ l.length → (kidsTo l id n).Perm ((List.range' 2 (n - 2)).filter (isKid l id)) ∧ (kidsTo l id n).Pairwise (fun a b => aheadI l a b = true)
  | 0, _ => ⟨List.Perm.refl _, List.Pairwise.nil⟩
  | n + 1, hn => by
    by_cases h2 : 2 ≤ n
    · obtain ⟨hp, hs⟩ := kidsTo_ok hu id n (by omega)
      rw [kidsTo_succ l id h2, show n + 1 - 2 = (n - 2) + 1 by omega, List.range'_concat, List.filter_append, show 2 + 1 * (n - 2) = n by omega]
      unfold kidStep
      by_cases hk : isKid l id n = true
      · rw [if_pos hk]
        refine ⟨?_, insR_sorted (aheadI_trans l) (fun x hx => ?_) hs⟩
        · refine (insR_perm _ _ _).trans ?_
          have e : List.filter (isKid l id) [n] = [n] := by simp [hk]
          rw [e]
          exact ((List.Perm.cons n hp)).trans (List.perm_append_singleton n _).symm
        · have hx1 := List.mem_filter.1 (hp.mem_iff.1 hx)
          have hx2 := List.mem_range'.1 hx1.1
          obtain ⟨j, hj, rfl⟩ := hx2
          have hjn : 2 + 1 * j < n := by omega
          rw [aheadI_at (by omega) (by omega), aheadI_at (by omega) (by omega)]
          refine ahead_tot (fun e => ?_)
          have := (List.pairwise_iff_getElem.1 hu) (2 + 1 * j) n (by simp; omega) (by simp; omega) hjn
          simp at this
          exact this (by simpa using e.symm)
      · rw [if_neg hk]
        have e : List.filter (isKid l id) [n] = [] := by simp [hk]
        rw [e, List.append_nil]
        exact ⟨hp, hs⟩
    · have e : kidsTo l id (n + 1) = [] := by
        unfold kidsTo
        rw [show n + 1 - 2 = 0 by omega]
        rfl
      rw [e, show n + 1 - 2 = 0 by omega]
      exact ⟨List.Perm.refl _, List.Pairwise.nil⟩
theorem kidsV_lt {l : List PlV} (hu : (l.map PlV.id).Nodup) {id : IdV} {k : Nat} (h : k ∈ kidsV l id) : 2 ≤ k ∧ k < l.length ∧ isKid l id k = true := by
  have h1 := List.mem_filter.1 ((kidsTo_ok hu id l.length (Nat.le_refl _)).1.mem_iff.1 h)
  obtain ⟨j, hj, rfl⟩ := List.mem_range'.1 h1.1
  exact ⟨by omega, by omega, h1.2⟩
/-- The kids one by one, as many as there is room for. -/
def prjK {α : Type} (f : Nat → Int → α × Int) : List Nat → List α → Int → List α × Int
  | [], acc, left => (acc, left)
  | k :: ks, acc, left => if left ≤ 0 then (acc, left) else prjK f ks (acc ++ [(f k left).1]) (f k left).2
/-- The tree from a place on; what would be too deep or too much is left away. -/
def prj (l : List PlV) : (m : Nat) → Nat → Int → Tr (m + 1) × Int
  | 0 => fun k left => match l[k]? with
    | some p => ((⟨p.kind, p.name, p.text, p.attrs, []⟩ : Nd (Tr 0)), left - 1)
    | none => ((⟨0, [], [], [], []⟩ : Nd (Tr 0)), left - 1)
  | m + 1 => fun k left => match l[k]? with
    | some p => ((⟨p.kind, p.name, p.text, p.attrs, (prjK (prj l m) (kidsV l p.id) [] (left - 1)).1⟩ : Nd (Tr (m + 1))), (prjK (prj l m) (kidsV l p.id) [] (left - 1)).2)
    | none => ((⟨0, [], [], [], []⟩ : Nd (Tr (m + 1))), left - 1)
end Go.Proofs.YthgopknjppflhaaGreatDoor

/- The kids of a place, sorted: one list, whoever sorts. Plain mathematics. -/
namespace Go.Proofs.YthgopknjppflhaaGreatDoor
set_option linter.unusedVariables false

def cmpP (p q : PlV) : Int := if cmpK p.key q.key = 0 then ordI p.idN p.idR q.idN q.idR else cmpK p.key q.key
theorem cmpP_lt (p q : PlV) : decide (cmpP p q < 0) = aheadB p q := by
  unfold cmpP aheadB
  by_cases h : cmpK p.key q.key = 0
  · rw [if_pos h, ordI_lt]
    have e := (cmpK_zero _ _).1 h
    have k1 : klB p.key q.key = false := by rw [← cmpK_lt, h]; rfl
    have k2 : klB q.key p.key = false := by rw [← cmpK_lt, ← e, (cmpK_zero _ _).2 rfl]; rfl
    rw [k1, k2]
    simp
  · rw [if_neg h, cmpK_lt]
    have hne : p.key ≠ q.key := fun e => h ((cmpK_zero _ _).2 e)
    have ht := klB_tri p.key q.key
    rw [decide_eq_false hne] at ht
    cases h1 : klB p.key q.key with
    | true => rfl
    | false =>
      rw [h1] at ht
      simp at ht
      rw [ht]
      rfl
theorem lessB_tot {n r n' r' : Int} (h : lessB n r n' r' = false) (h' : lessB n' r' n r = false) : n = n' ∧ r = r' := by
  unfold lessB at *
  simp only [Bool.or_eq_false_iff, decide_eq_false_iff_not, Bool.and_eq_false_iff, beq_eq_false_iff_ne] at h h'
  omega
/-- Neither is ahead: their keys and their ids are one. -/
theorem ahead_same {a b : PlV} (h : aheadB a b = false) (h' : aheadB b a = false) : a.key = b.key ∧ a.idN = b.idN ∧ a.idR = b.idR := by
  unfold aheadB at h h'
  simp only [Bool.or_eq_false_iff, Bool.and_eq_false_iff, Bool.not_eq_false'] at h h'
  have ht := klB_tri a.key b.key
  rw [h.1, h'.1] at ht
  have e : a.key = b.key := by simpa using ht
  have l1 : lessB a.idN a.idR b.idN b.idR = false := by
    rcases h.2 with k | k
    · rw [h'.1] at k; cases k
    · exact k
  have l2 : lessB b.idN b.idR a.idN a.idR = false := by
    rcases h'.2 with k | k
    · rw [h.1] at k; cases k
    · exact k
  exact ⟨e, lessB_tot l1 l2⟩
theorem ahead_cong {a b c : PlV} (h : a.key = b.key ∧ a.idN = b.idN ∧ a.idR = b.idR) : aheadB a c = aheadB b c ∧ aheadB c a = aheadB c b := by
  unfold aheadB
  rw [h.1, h.2.1, h.2.2]
  exact ⟨rfl, rfl⟩
theorem ahead_ntrans {a b c : PlV} (h : aheadB a b = false) (k : aheadB b c = false) : aheadB a c = false := by
  cases hac : aheadB a c with
  | false => rfl
  | true =>
    cases hcb : aheadB c b with
    | true => rw [ahead_trans hac hcb] at h; cases h
    | false => rw [← (ahead_cong (ahead_same k hcb)).2, h] at hac; cases hac
/-- How two places that may not be there stand. -/
def aheadO : Option PlV → Option PlV → Prop
  | some a, some b => aheadB a b = true
  | _, _ => False
theorem aheadO_anti (a b : Option PlV) (h : aheadO a b) (k : aheadO b a) : False := by
  cases a with
  | none => exact h
  | some a =>
    cases b with
    | none => exact h
    | some b => exact ahead_anti h k
theorem aheadO_of {l : List PlV} {i j : Nat} (h : aheadI l i j = true) : aheadO l[i]? l[j]? := by
  unfold aheadI at h
  cases ha : l[i]? with
  | none => rw [ha] at h; cases h
  | some x =>
    cases hb : l[j]? with
    | none => rw [ha, hb] at h; cases h
    | some y => rw [ha, hb] at h; exact h
def kidRow (l : List PlV) (id : IdV) (n : Nat) : List PlV := ((l.take n).drop 2).filter (fun p => decide (p.par = id))
theorem kidRow_small (l : List PlV) (id : IdV) {n : Nat} (h : n ≤ 2) : kidRow l id n = [] := by
  unfold kidRow
  rw [List.drop_eq_nil_of_le (by rw [List.length_take]; omega)]
  rfl
theorem kidRow_succ (l : List PlV) (id : IdV) {n : Nat} (h2 : 2 ≤ n) (hn : n < l.length) : kidRow l id (n + 1) = kidRow l id n ++ (if l[n].par = id then [l[n]] else []) := by
  unfold kidRow
  rw [List.take_succ_eq_append_getElem hn, List.drop_append_of_le_length (by rw [List.length_take]; omega), List.filter_append]
  by_cases h : l[n].par = id
  · rw [if_pos h]; simp [h]
  · rw [if_neg h]; simp [h]
theorem kidRow_at (l : List PlV) (id : IdV) : ∀ n, n ≤ l.length → ((List.range' 2 (n - 2)).filter (isKid l id)).map (fun k => l[k]?) = (kidRow l id n).map some
  | 0, _ => by rw [kidRow_small l id (by omega)]; rfl
  | n + 1, hn => by
    by_cases h2 : 2 ≤ n
    · rw [show n + 1 - 2 = (n - 2) + 1 by omega, List.range'_concat, List.filter_append, List.map_append, kidRow_at l id n (by omega), kidRow_succ l id h2 (by omega), List.map_append, show 2 + 1 * (n - 2) = n by omega]
      congr 1
      have hp : l[n]? = some l[n] := by simp [show n < l.length by omega]
      have hk : isKid l id n = decide (l[n].par = id) := by unfold isKid; rw [hp]
      by_cases h : l[n].par = id
      · rw [if_pos h]; simp [hk, h, hp]
      · rw [if_neg h]; simp [hk, h]
    · rw [show n + 1 - 2 = 0 by omega, kidRow_small l id (by omega)]
      rfl
/-- Whoever sorts them. -/
theorem kids_sorted {l : List PlV} (hu : (l.map PlV.id).Nodup) (id : IdV) {ks : List PlV} (hp : ks.Perm (kidRow l id l.length)) (hs : ∀ i j (hi : i < ks.length) (hj : j < ks.length), i < j → aheadB ks[j] ks[i] = false) : ks.map some = (kidsV l id).map (fun k => l[k]?) := by
  obtain ⟨h1, h2⟩ := kidsTo_ok hu id l.length (Nat.le_refl _)
  refine sorted_eq aheadO_anti ?_ ?_ ?_
  · refine (hp.map some).trans ?_
    rw [← kidRow_at l id l.length (Nat.le_refl _)]
    exact (h1.map _).symm
  · have hnd : (ks.map PlV.id).Nodup := by
      refine (List.Perm.nodup_iff (hp.map PlV.id)).2 ?_
      unfold kidRow
      rw [List.take_length]
      exact List.Nodup.sublist (List.Sublist.map _ ((List.filter_sublist).trans (List.drop_sublist _ _))) hu
    rw [List.pairwise_map]
    refine List.pairwise_iff_getElem.2 (fun i j hi hj hij => ?_)
    have hne : ks[i].id ≠ ks[j].id := by
      have := (List.pairwise_iff_getElem.1 hnd) i j (by simpa using hi) (by simpa using hj) hij
      simpa using this
    rcases ahead_tot hne with h | h
    · exact h
    · rw [hs i j hi hj hij] at h; cases h
  · rw [List.pairwise_map]
    exact h2.imp (fun h => aheadO_of h)
end Go.Proofs.YthgopknjppflhaaGreatDoor

/- An operation leaves the forest a forest. No function of the program. -/
namespace Go.Proofs.YthgopknjppflhaaGreatDoor
open Go.RowKit
set_option linter.unusedVariables false

theorem posP_app {l : List PlV} {p : PlV} {i : IdV} {k : Nat} (h : posP l i = some k) : posP (l ++ [p]) i = some k := by
  obtain ⟨h1, h2, h3⟩ := posP_some.1 h
  refine posP_some.2 ⟨by simp; omega, ?_, fun j hj => ?_⟩
  · rw [List.getElem_append_left h1]; exact h2
  · rw [List.getElem_append_left (by omega)]; exact h3 j hj
theorem ids_set {l : List PlV} {k : Nat} {p q : PlV} (hk : l[k]? = some p) (e : q.id = p.id) : (l.set k q).map PlV.id = l.map PlV.id := by
  rw [List.map_set, e]
  obtain ⟨hlt, rfl⟩ := List.getElem?_eq_some_iff.1 hk
  refine List.ext_getElem? (fun j => ?_)
  rw [List.getElem?_set]
  by_cases hj : k = j
  · subst hj; simp [hlt]
  · simp [hj]
theorem posP_ids {l m : List PlV} (h : l.map PlV.id = m.map PlV.id) (i : IdV) : posP l i = posP m i := by
  have e : ∀ l : List PlV, posP l i = (l.map PlV.id).findIdx? (fun x => decide (x = i)) := fun l => by unfold posP; rw [List.findIdx?_map]; rfl
  rw [e l, e m, h]
theorem get_set {l : List PlV} {k j : Nat} {p q r : PlV} (hk : l[k]? = some p) (h : (l.set k q)[j]? = some r) : (j = k ∧ r = q) ∨ (j ≠ k ∧ l[j]? = some r) := by
  obtain ⟨hlt, rfl⟩ := List.getElem?_eq_some_iff.1 hk
  rw [List.getElem?_set] at h
  by_cases e : k = j
  · subst e
    simp [hlt] at h
    exact .inl ⟨rfl, h.symm⟩
  · simp [e] at h
    exact .inr ⟨fun e' => e e'.symm, by simpa using h⟩
/-- A place is changed but for its id and its parent. -/
theorem Fr.same {l : List PlV} (h : Fr l) {k : Nat} {p q : PlV} (hk : l[k]? = some p) (e1 : q.id = p.id) (e2 : q.par = p.par) : Fr (l.set k q) := by
  have hi := ids_set hk e1
  refine ⟨by simpa using h.two, fun r hr => ?_, fun r hr => ?_, by rw [hi]; exact h.uniq, fun i r h2 hr => ?_, ?_⟩
  · rcases get_set hk hr with ⟨rfl, rfl⟩ | ⟨_, hr⟩
    · rw [e1]; exact h.root p hk
    · exact h.root r hr
  · rcases get_set hk hr with ⟨rfl, rfl⟩ | ⟨_, hr⟩
    · rw [e1]; exact h.trash p hk
    · exact h.trash r hr
  · rw [posP_ids hi]
    rcases get_set hk hr with ⟨rfl, rfl⟩ | ⟨_, hr⟩
    · rw [e2]; exact h.par _ p h2 hk
    · exact h.par i r h2 hr
  · obtain ⟨rk, hrk⟩ := h.rank
    refine ⟨rk, fun i r h2 hr => ?_⟩
    rcases get_set hk hr with ⟨rfl, rfl⟩ | ⟨_, hr⟩
    · rw [e1, e2]; exact hrk _ p h2 hk
    · exact hrk i r h2 hr
/-- A place is added: its id is new, its parent is there. -/
theorem Fr.add {l : List PlV} (h : Fr l) {q : PlV} (hn : posP l q.id = none) {j : Nat} (hp : posP l q.par = some j) : Fr (l ++ [q]) := by
  have hne : ∀ p ∈ l, p.id ≠ q.id := posP_none.1 hn
  have hget : ∀ i r, (l ++ [q])[i]? = some r → (i = l.length ∧ r = q) ∨ (i < l.length ∧ l[i]? = some r) := fun i r hr => by
    rw [List.getElem?_append] at hr
    split at hr
    · exact .inr ⟨by assumption, hr⟩
    · rename_i hge
      have : i - l.length = 0 := by
        have := (List.getElem?_eq_some_iff.1 hr).1
        simp at this; omega
      rw [this] at hr
      simp at hr
      exact .inl ⟨by omega, hr.symm⟩
  have h2 := h.two
  refine ⟨by simp; omega, fun r hr => ?_, fun r hr => ?_, ?_, fun i r hi hr => ?_, ?_⟩
  · rcases hget _ _ hr with ⟨e, _⟩ | ⟨_, hr⟩
    · omega
    · exact h.root r hr
  · rcases hget _ _ hr with ⟨e, _⟩ | ⟨_, hr⟩
    · omega
    · exact h.trash r hr
  · rw [List.map_append, List.nodup_append]
    refine ⟨h.uniq, by simp, fun a ha b hb e => ?_⟩
    obtain ⟨p, hp1, rfl⟩ := List.mem_map.1 ha
    simp at hb
    exact hne p hp1 (e.trans hb)
  · rcases hget _ _ hr with ⟨_, rfl⟩ | ⟨_, hr⟩
    · exact ⟨j, posP_app hp⟩
    · obtain ⟨m, hm⟩ := h.par i r hi hr
      exact ⟨m, posP_app hm⟩
  · obtain ⟨rk, hrk⟩ := h.rank
    have hpar : ∀ i r, 2 ≤ i → l[i]? = some r → r.par ≠ q.id := fun i r hi hr e => by
      obtain ⟨m, hm⟩ := h.par i r hi hr
      rw [e, hn] at hm
      cases hm
    have hqp : q.par ≠ q.id := fun e => by rw [e, hn] at hp; cases hp
    refine ⟨fun x => if x = q.id then rk q.par + 1 else rk x, fun i r hi hr => ?_⟩
    rcases hget _ _ hr with ⟨_, rfl⟩ | ⟨_, hr⟩
    · simp [hqp]
    · have := hne r (List.mem_of_getElem? hr)
      simp only [hpar i r hi hr, this, if_false]
      exact hrk i r hi hr
/-- A place is moved: what it moves to is there, and not within it. -/
theorem Fr.move {l : List PlV} (h : Fr l) {k : Nat} {p q : PlV} (hk2 : 2 ≤ k) (hk : l[k]? = some p) (e1 : q.id = p.id) {j : Nat} (hp : posP l q.par = some j) (hu : underS l (l.length + 1) q.par p.id = false) : Fr (l.set k q) := by
  have hi := ids_set hk e1
  refine ⟨by simpa using h.two, fun r hr => ?_, fun r hr => ?_, by rw [hi]; exact h.uniq, fun i r h2 hr => ?_, ?_⟩
  · rcases get_set hk hr with ⟨rfl, rfl⟩ | ⟨_, hr⟩
    · rw [e1]; exact h.root p hk
    · exact h.root r hr
  · rcases get_set hk hr with ⟨rfl, rfl⟩ | ⟨_, hr⟩
    · rw [e1]; exact h.trash p hk
    · exact h.trash r hr
  · rw [posP_ids hi]
    rcases get_set hk hr with ⟨rfl, rfl⟩ | ⟨_, hr⟩
    · exact ⟨j, hp⟩
    · exact h.par i r h2 hr
  · obtain ⟨rk, hrk⟩ := h.rank
    have hU : ∀ i r, 2 ≤ i → l[i]? = some r → r.id ≠ p.id → underS l (l.length + 1) r.id p.id = underS l (l.length + 1) r.par p.id := fun i r hi2 hr hne => by
      have hpos := posP_uniq h.uniq hr
      obtain ⟨m, hm⟩ := h.par i r hi2 hr
      have c1 := cntR_le l rk (rk r.id)
      have c2 := cntR_lt hrk hi2 hr
      have h2 := h.two
      rw [under_more h p.id hrk (l.length + 1) (l.length + 2) r.id i hpos (by omega) (by omega)]
      conv => lhs; unfold underS
      simp only [hne, if_false, hpos, hr, show ¬ i < 2 by omega]
    refine ⟨fun x => if underS l (l.length + 1) x p.id = true then rk x + rk q.par + 1 else rk x, fun i r h2 hr => ?_⟩
    have hself : underS l (l.length + 1) p.id p.id = true := by unfold underS; simp
    rcases get_set hk hr with ⟨rfl, rfl⟩ | ⟨hne, hr⟩
    · show (if underS l (l.length + 1) r.par p.id = true then rk r.par + rk r.par + 1 else rk r.par) < (if underS l (l.length + 1) r.id p.id = true then rk r.id + rk r.par + 1 else rk r.id)
      rw [e1, hself, hu]
      simp
      omega
    · have hid : r.id ≠ p.id := fun e => by
        have a1 := posP_uniq h.uniq hr
        have a2 := posP_uniq h.uniq hk
        rw [e, a2] at a1
        cases a1
        exact hne rfl
      show (if underS l (l.length + 1) r.par p.id = true then rk r.par + rk q.par + 1 else rk r.par) < (if underS l (l.length + 1) r.id p.id = true then rk r.id + rk q.par + 1 else rk r.id)
      rw [hU i r h2 hr hid]
      have := hrk i r h2 hr
      by_cases e : underS l (l.length + 1) r.par p.id = true
      · simp only [e, if_true]; omega
      · simp only [e]; simpa using this
theorem takes_pos {l : List PlV} {i : IdV} (h : takesV l i = true) : ∃ k p, posP l i = some k ∧ l[k]? = some p ∧ p.kind = 0 ∧ voidB p.name = false := by
  unfold takesV at h
  cases hp : posP l i with
  | none => rw [hp] at h; cases h
  | some k =>
    rw [hp] at h
    cases hk : l[k]? with
    | none => simp only [hk] at h; cases h
    | some p =>
      simp only [hk] at h
      simp [elemP] at h
      exact ⟨k, p, rfl, hk, h.1, h.2⟩
/-- What the stamp of an operation must be for the forest. -/
theorem Fr.do {l : List PlV} (h : Fr l) (o : OpV) (hn : o.kind = 0 → posP l o.at' = none) : Fr (doV l o) := by
  unfold doV
  by_cases h0 : o.kind = 0
  · rw [if_pos h0]
    by_cases ht : takesV l o.par = true
    · rw [if_pos ht]
      obtain ⟨k, p, hp, _⟩ := takes_pos ht
      exact h.add (q := newP o) (hn h0) hp
    · rw [if_neg ht]; exact h
  · rw [if_neg h0]
    cases hp : posP l o.node with
    | none => exact h
    | some k =>
      obtain ⟨p, hk, hid⟩ := posP_at hp
      simp only [hk]
      by_cases h1 : o.kind = 1
      · rw [if_pos h1]
        by_cases hm : mayMove l o k = true
        · rw [if_pos hm]
          unfold mayMove at hm
          simp only [Bool.and_eq_true, decide_eq_true_eq, Bool.not_eq_true'] at hm
          obtain ⟨j, q, hj, _⟩ := takes_pos hm.1.2
          exact h.move (q := moveP o p) hm.1.1 hk rfl hj (by rw [hid]; exact hm.2)
        · rw [if_neg hm]; exact h
      · rw [if_neg h1]
        by_cases h2 : o.kind = 2
        · rw [if_pos h2]
          by_cases hc : 2 ≤ k ∧ p.kind = 1
          · rw [if_pos hc]; exact h.same hk rfl rfl
          · rw [if_neg hc]; exact h
        · rw [if_neg h2]
          by_cases hc : k ≠ 1 ∧ p.kind = 0
          · rw [if_pos hc]; exact h.same hk rfl rfl
          · rw [if_neg hc]; exact h
end Go.Proofs.YthgopknjppflhaaGreatDoor

/- The forest's map: where the place of an id stands. -/
namespace Go.Proofs.YthgopknjppflhaaGreatDoor
open Go.RowKit Go.Maps
set_option linter.unusedVariables false
set_option maxRecDepth 100000

theorem Tryz.laidOut9 : laidOutB Tryz.prog = true := by kernel_rfl
theorem Tryz.row9 : (51 : TypeId) < Tryz.prog.types.size := of_decide_eq_true (by kernel_rfl)
theorem lawId : Keyed Tryz.prog 51 := Keyed.of_law (deep_law_laid Tryz.laidOut9 (m := 2) (by omega) Tryz.row9 (by kernel_rfl) (by kernel_rfl))
def kId (i : IdV) : Lit := .string (keyBytes [.int .i64 i.1, .int .i64 i.2])
def okI (i : IdV) : Prop := (Lit.int .i64 i.1).wf = true ∧ (Lit.int .i64 i.2).wf = true
def idVal (i : IdV) : Value := .agg #[.int .i64 i.1, .int .i64 i.2]
theorem keyI {i : IdV} (h : okI i) : keyOf Tryz.prog 51 (idVal i) = some (kId i) := by
  obtain ⟨wa, wb⟩ := h
  obtain ⟨m, hm⟩ : ∃ m, Tryz.prog.types.size = m + 1 := ⟨Tryz.prog.types.size - 1, by kernel_rfl⟩
  have hu : Tryz.prog.underlying 3 = some (.int .i64) := by kernel_rfl
  have hc : Tryz.prog.cellsOf 51 = 2 := by kernel_rfl
  have hc1 : Tryz.prog.cellsOf 3 = 1 := by kernel_rfl
  have hkt : Tryz.prog.keyType 51 = true := by kernel_rfl
  unfold keyOf idVal kId
  simp only [Tryz.underlying51]
  rw [if_pos (by simp [hkt, Value.formed, Tryz.underlying51, hc]), hm]
  unfold Program.keyLits
  simp only [Tryz.underlying51, Value.cells]
  simp [hc, hc1, Program.keyLits, hu, wa, wb]
theorem kId_inj {i j : IdV} (h : okI i) (k : okI j) (e : kId i = kId j) : i = j := by
  have h1 := lawId.inj (keyI h) (by rw [e]; exact keyI k)
  unfold idVal at h1
  simp at h1
  exact Prod.ext h1.1 h1.2
theorem intE : Tryz.prog.underlying 3 = some (.int .i64) := by kernel_rfl
theorem zeroE (w : World) : (zeroValue 3).run Tryz.prog w = .ok (.int .i64 0) w := by kernel_rfl
/-- The map tells of each id where its place stands. -/
def AtM (w : World) (mb : Nat) (l : List PlV) : Prop := ∃ (D : DataW Unit) (n : Nat), w.ownsMap Tryz.prog 51 (plainElem Tryz.prog 3) mb n D ∧ n ≤ l.length ∧ ∀ i, okI i → Maps.has D (kId i) = (posP l i).isSome ∧ ∀ k, posP l i = some k → D.atKey (kId i) (.lit (.int .i64 0)) = .lit (.int .i64 (k : Int))
theorem AtM.made (w : World) : AtM (w.alloc (.map #[] 0)) w.heap.size [] :=
  ⟨.map [], 0, World.ownsMap_made _ _ _ _, Nat.le_refl _, fun i _ => ⟨rfl, fun k h => by cases h⟩⟩
theorem AtM.lt {w : World} {mb : Nat} {l : List PlV} (h : AtM w mb l) : mb < w.heap.size := by
  obtain ⟨D, n, h, _⟩ := h
  exact h.lt
theorem AtM.isMap {w : World} {mb : Nat} {l : List PlV} (h : AtM w mb l) : ∃ es clock, w.heap[mb]? = some (.map es clock) := by
  obtain ⟨D, n, ⟨es, c, h, _⟩, _⟩ := h
  exact ⟨es, c, h⟩
theorem AtM.frm {w w' : World} {mb : Nat} {l : List PlV} {S : List Nat} (h : AtM w mb l) (f : Frm w w' S) (hd : mb ∉ S) : AtM w' mb l := by
  have hlt := h.lt
  obtain ⟨D, n, ⟨es, c, h1, h2⟩, h3⟩ := h
  exact ⟨D, n, ⟨es, c, (f.block mb hlt hd).trans h1, h2⟩, h3⟩
theorem AtM.ids {w : World} {mb : Nat} {l m : List PlV} (h : AtM w mb l) (e : l.map PlV.id = m.map PlV.id) : AtM w mb m := by
  obtain ⟨D, n, h1, h2, h3⟩ := h
  have hl : l.length = m.length := by have := congrArg List.length e; simpa using this
  exact ⟨D, n, h1, by omega, fun i hi => by rw [← posP_ids e]; exact h3 i hi⟩
theorem AtM.look {w : World} {mb : Nat} {l : List PlV} (h : AtM w mb l) {i : IdV} (hi : okI i) : ∃ c : Int, (Instr.lookup 88 (.map (some mb)) (idVal i) true).run Tryz.prog w = .ok (.tuple #[.int .i64 c, .bool (posP l i).isSome]) w ∧ ∀ k, posP l i = some k → c = (k : Int) := by
  obtain ⟨D, n, h1, h2, h3⟩ := h
  obtain ⟨v, ps, hrun, hv⟩ := h1.look_ok lawId Tryz.underlying88 (zeroE w) (plainElem_int intE (by decide)) (keyI hi)
  obtain ⟨c, rfl, hc, _⟩ := plainElem_int_inv intE hv
  refine ⟨c, by rw [hrun, (h3 i hi).1], fun k hk => ?_⟩
  have h4 := (congrArg Prod.fst hc)
  rw [(h3 i hi).2 k hk] at h4
  injection h4 with h4
  injection h4 with _ h4
  exact h4.symm
theorem posP_snoc {l : List PlV} {p : PlV} {i : IdV} (hn : posP l p.id = none) : posP (l ++ [p]) i = if i = p.id then some l.length else posP l i := by
  by_cases e : i = p.id
  · rw [if_pos e, e]
    refine posP_some.2 ⟨by simp, by simp, fun j hj => ?_⟩
    rw [List.getElem_append_left hj]
    exact posP_none.1 hn _ (List.getElem_mem hj)
  · rw [if_neg e]
    cases h : posP l i with
    | some k => exact posP_app h
    | none =>
      refine posP_none.2 (fun q hq => ?_)
      rcases List.mem_append.1 hq with hq | hq
      · exact posP_none.1 h q hq
      · have : q = p := by simpa using hq
        rw [this]; exact fun h => e h.symm
theorem AtM.put {w : World} {mb : Nat} {l : List PlV} (h : AtM w mb l) (p : PlV) (hp : okI p.id) (hn : posP l p.id = none) (hl : l.length ≤ 100000000) : ∃ w', (Instr.mapUpdate 88 (.map (some mb)) (idVal p.id) (.int .i64 (l.length : Int))).run Tryz.prog w = .ok () w' ∧ AtM w' mb (l ++ [p]) ∧ w.grownBy w' (some mb) := by
  obtain ⟨D, n, h1, h2, h3⟩ := h
  have hwf : (Lit.int .i64 (l.length : Int)).wf = true := WalkArith.wf_i64 (by omega)
  obtain ⟨w', hrun, h4, h5⟩ := h1.update lawId Tryz.underlying88 (by unfold maxLen; omega) (keyI hp) (plainElem_int intE hwf)
  refine ⟨w', hrun, ⟨_, n + 1, h4, by simp; omega, fun i hi => ?_⟩, h5⟩
  have hk := lawId.key (keyI hp)
  rw [posP_snoc hn]
  by_cases e : i = p.id
  · rw [if_pos e, e]
    exact ⟨has_put_same h1.isMap hk _, fun k hk' => by cases hk'; exact atKey_put_same h1.isMap hk _ _⟩
  · rw [if_neg e]
    have hne : kId i ≠ kId p.id := fun e' => e (kId_inj hi hp e')
    rw [has_put_other hne, atKey_put_other hne]
    exact h3 i hi
end Go.Proofs.YthgopknjppflhaaGreatDoor

/- The set of void names: the map that fill makes, and sync.Once over it, by contracts: the lock, the two deferred calls, doSlow. -/
namespace Go.Proofs.YthgopknjppflhaaGreatDoor
open Go.RowKit
set_option linter.unusedVariables false
set_option maxRecDepth 100000

/-- The map of br and hr, as it is made. -/
def voidMap : Obj := .map #[{ key := .string ⟨#[98, 114]⟩, val := .agg #[], born := 0 }, { key := .string ⟨#[104, 114]⟩, val := .agg #[], born := 1 }] 2

theorem alloc_put (W : World) (o o' : Obj) : ({ (W.alloc o) with heap := (W.alloc o).heap.setIfInBounds W.heap.size o' } : World) = W.alloc o' := by
  have e : (W.heap.push o).setIfInBounds W.heap.size o' = W.heap.push o' := by
    apply Array.ext'
    rw [Array.toList_setIfInBounds, Array.toList_push, Array.toList_push]
    rw [List.set_append_right _ _ (by simp)]
    simp
  show ({ W with heap := (W.heap.push o).setIfInBounds W.heap.size o' } : World) = { W with heap := W.heap.push o' }
  rw [e]

theorem br_in (W : World) : (Instr.mapUpdate 101 (.map (some W.heap.size)) (.string ⟨#[98, 114]⟩) (.agg #[])).run Tryz.prog (W.alloc (.map #[] 0)) = .ok () (W.alloc (.map #[{ key := .string ⟨#[98, 114]⟩, val := .agg #[], born := 0 }] 1)) := by
  rw [run_mapUpdate_first (P := Tryz.prog) (W.alloc (.map #[] 0)) 101 9 89 W.heap.size 0 ⟨#[98, 114]⟩ (.agg #[]) Tryz.underlying101 Tryz.underlying9 (heap_alloc_new W _), alloc_put]
theorem hr_in (W : World) : (Instr.mapUpdate 101 (.map (some W.heap.size)) (.string ⟨#[104, 114]⟩) (.agg #[])).run Tryz.prog (W.alloc (.map #[{ key := .string ⟨#[98, 114]⟩, val := .agg #[], born := 0 }] 1)) = .ok () (W.alloc voidMap) := by
  have hb := heap_alloc_new W (.map #[{ key := .string ⟨#[98, 114]⟩, val := .agg #[], born := 0 }] 1)
  have hf : Instr.findNow .string (.string ⟨#[104, 114]⟩) ([{ key := .string ⟨#[98, 114]⟩, val := .agg #[], born := 0 }] : List MapEntry) 0 = some none := rfl
  have hc : (Instr.checkKey false 10000 9 (.string ⟨#[104, 114]⟩)).run Tryz.prog (W.alloc (.map #[{ key := .string ⟨#[98, 114]⟩, val := .agg #[], born := 0 }] 1)) = .ok () (W.alloc (.map #[{ key := .string ⟨#[98, 114]⟩, val := .agg #[], born := 0 }] 1)) := MapKept.run_checkKey (k := .string ⟨#[104, 114]⟩) Tryz.underlying9 (by simp [MapKept.IsKey]) false 9999
  simp [Instr.mapUpdate, run_underlying Tryz.underlying101, MapKept.run_getObj_map hb, hc, MapKept.run_findKey Tryz.underlying9 hf, MapKept.run_setObj_map _ hb, Result.andThen]
  exact alloc_put W _ _

theorem fill_any (g : Nat) (w : World) (cs : Array Value) (hl : Loc w g cs 103) (c3 : Value) (h3 : w.cell? ⟨g, 3, none⟩ = some c3) :
    Calls Tryz.prog 92 #[.pointer (some ⟨g, 0, none⟩)] w fun e w' => e = .returned (.tuple #[]) ∧ w' = (w.setCell ⟨g, 3, none⟩ (.map (some w.heap.size))).alloc voidMap := by
  have hmm := @run_makeMap Tryz.prog
  have h1 := br_in w
  have h2 := hr_in w
  have hg := hl.lt
  have f3 := hl.frozen 3
  go_enter Tryz.func92, Tryz.ntmps92
  go_wp2
  go_end0
  exact ⟨rfl, rfl⟩

theorem disable (w : World) : (callFunc 127 #[]).run Tryz.prog w = .ok (.value (.tuple #[])) w := run_call_mark0 Tryz.func127 (by kernel_rfl) (by kernel_rfl) (by kernel_rfl) .disable (by kernel_rfl) w
theorem enable (w : World) : (callFunc 129 #[]).run Tryz.prog w = .ok (.value (.tuple #[])) w := run_call_mark0 Tryz.func129 (by kernel_rfl) (by kernel_rfl) (by kernel_rfl) .enable (by kernel_rfl) w
theorem acquire (a : Addr) (w : World) : (callFunc 130 #[.pointer (some a)]).run Tryz.prog w = .ok (.value (.tuple #[])) w := run_call_marked Tryz.func130 (by kernel_rfl) (by kernel_rfl) (by kernel_rfl) .acquire (by kernel_rfl) a w
theorem releaseMerge (a : Addr) (w : World) : (callFunc 132 #[.pointer (some a)]).run Tryz.prog w = .ok (.value (.tuple #[])) w := run_call_marked Tryz.func132 (by kernel_rfl) (by kernel_rfl) (by kernel_rfl) .releaseMerge (by kernel_rfl) a w

theorem store_deferred (a : Addr) (x : Value) (u : FrameMode) (w : World) (hc : w.cell? a = some x) (hz : w.frozen? a = false) :
    CallsD Tryz.prog 116 #[.pointer (some a), .bool true] u w fun e u' w' => u' = u ∧ (e = .returned (.tuple #[]) ∧ w' = w.drew.setCell a (.int .u32 1)) := by
  have hc' : w.drew.cell? a = some x := by go_simp
  have hz' : w.drew.frozen? a = false := by go_simp
  have hst := run_call_store (P := Tryz.prog) Tryz.func124 (by kernel_rfl) (by kernel_rfl) (by kernel_rfl) (by kernel_rfl) (k := .u32) (y := 1) hc' hz'
  go_enter_d Tryz.func116, Tryz.ntmps116
  go_wp2
  go_region_calls
  all_goals (go_end0; exact ⟨rfl, rfl⟩)

theorem unlock_deferred (a : Addr) (u : FrameMode) (w : World) (hc : w.cell? a = some (.int .i32 1)) (hz : w.frozen? a = false) :
    CallsD Tryz.prog 115 #[.pointer (some a)] u w fun e u' w' => u' = u ∧ (e = .returned (.tuple #[]) ∧ w' = w.setCell a (.int .i32 0)) := by
  have hd := disable
  have he := enable
  have hr := releaseMerge
  have hadd := run_call_add (P := Tryz.prog) Tryz.func133 (by kernel_rfl) (by kernel_rfl) (by kernel_rfl) .i32 (by kernel_rfl) (y := -1) (s := 0) hc hz (by simp [go_sem]; rfl)
  have hcv := run_convert_to_unsafe (P := Tryz.prog) (src := 167) (dst := 171) Tryz.underlying167 Tryz.underlying171 (by kernel_rfl) hc
  go_enter_d Tryz.func115, Tryz.ntmps115
  go_wp2
  go_end0
  go_wp2
  go_end0
  exact ⟨rfl, rfl⟩

theorem lock_free (a : Addr) (w : World) (hc : w.cell? a = some (.int .i32 0)) (hz : w.frozen? a = false) :
    Calls Tryz.prog 114 #[.pointer (some a)] w fun e w' => e = .returned (.tuple #[]) ∧ w' = w.setCell a (.int .i32 1) := by
  have hd := disable
  have he := enable
  have ha := acquire
  have hcas := run_call_cas_hit (P := Tryz.prog) Tryz.func128 (by kernel_rfl) (by kernel_rfl) (by kernel_rfl) .i32 (by kernel_rfl) (y := 1) hc hz
  have hc' : (w.setCell a (.int .i32 1)).cell? a = some (.int .i32 1) := World.cell?_setCell_same w a _ hc
  have hcv := run_convert_to_unsafe (P := Tryz.prog) (src := 167) (dst := 171) Tryz.underlying167 Tryz.underlying171 (by kernel_rfl) hc'
  go_enter Tryz.func114, Tryz.ntmps114
  go_wp2
  first | go_end0 | (simp only [Exit.inBlock, Exit.then]; refine bodyPost_ret (results_none rfl _ _ _) rfl ?_) | refine bodyPost_ret (results_none rfl _ _ _) rfl ?_
  go_wp2
  go_end0
  exact ⟨rfl, rfl⟩

end Go.Proofs.YthgopknjppflhaaGreatDoor

/- sync.Once over the set of void names: doSlow and Do, the first time and later; has. -/
namespace Go.Proofs.YthgopknjppflhaaGreatDoor
open Go.RowKit
set_option linter.unusedVariables false
set_option maxRecDepth 100000

/-- A set that is not yet made; that is made. -/
def vs0 : Array Value := #[.int .u32 0, .int .i32 0, .int .u32 0, .map none]
def vs1 (m : Nat) : Array Value := #[.int .u32 1, .int .i32 0, .int .u32 0, .map (some m)]

theorem load_any (a : Addr) (x : Int) (w : World) (hc : w.cell? a = some (.int .u32 x)) (b : Bool) (hb : (x != 0) = b) :
    Calls Tryz.prog 100 #[.pointer (some a)] w fun e w' => e = .returned (.bool b) ∧ w' = w := by
  have hlo := run_call_load (P := Tryz.prog) Tryz.func113 (by kernel_rfl) (by kernel_rfl) (by kernel_rfl) .u32 (by kernel_rfl) hc
  go_enter Tryz.func100, Tryz.ntmps100
  go_wp2
  go_ret
  exact ⟨rfl, rfl⟩

theorem Frm.drew (w : World) (S : List Nat) : Frm w w.drew S := Frm.ofBelow ((Below.refl _ _).drew) S
theorem setCell_os (w : World) (a : Addr) (v : Value) : (w.setCell a v).os = w.os := by unfold World.setCell; repeat (first | rfl | split)
theorem setCell_tape (w : World) (a : Addr) (v : Value) : (w.setCell a v).tape = w.tape := by unfold World.setCell; repeat (first | rfl | split)
theorem setCell_output (w : World) (a : Addr) (v : Value) : (w.setCell a v).output = w.output := by unfold World.setCell; repeat (first | rfl | split)
theorem Frm.set (w : World) (g j : Nat) (v : Value) : Frm w (w.setCell ⟨g, j, none⟩ v) [g] :=
  ⟨setCell_os w _ v, setCell_tape w _ v, setCell_output w _ v, by simp, fun i _ hn => heap_setCell_other w ⟨g, j, none⟩ i v (fun e => hn (by simp; exact e))⟩
theorem Frm.alloc (w : World) (o : Obj) (S : List Nat) : Frm w (w.alloc o) S := Frm.ofBelow ((Below.refl _ _).alloc (Nat.le_refl _) _) S

set_option maxHeartbeats 1600000 in
theorem slow_any (g : Nat) (w : World) (hl : Loc w g vs0 103) :
    Calls Tryz.prog 101 #[.pointer (some ⟨g, 0, none⟩), .func (.func 92) #[.pointer (some ⟨g, 0, none⟩)] #[]] w fun e w' => e = .returned (.tuple #[]) ∧ ∃ m, w.heap.size ≤ m ∧ Loc w' g (vs1 m) 103 ∧ w'.heap[m]? = some voidMap ∧ Frm w w' [g] := by
  have h1 : w.cell? ⟨g, 1, none⟩ = some (.int .i32 0) := hl.cell 1
  have f1 := hl.frozen 1
  have l1 : Loc (w.setCell ⟨g, 1, none⟩ (.int .i32 1)) g #[.int .u32 0, .int .i32 1, .int .u32 0, .map none] 103 := hl.set 1 (.int .i32 1)
  have F1 := Frm.set w g 1 (.int .i32 1)
  have hnot : ∀ (x : Bool) (w : World), (Op.unary .not (.bool x)).run Tryz.prog w = .ok (.bool (!x)) w := fun _ _ => rfl
  go_enter_defers Tryz.func101, Tryz.ntmps101
  go_wp2_with (go_at_call 114; refine (lock_free ⟨g, 1, none⟩ _ (by go_simp) (by go_simp)).mono ?_; rintro e w' ⟨rfl, rfl⟩)
  generalize w.setCell ⟨g, 1, none⟩ (.int .i32 1) = w1 at *
  refine (load_any ⟨g, 0, none⟩ 0 w1 (l1.cell 0) false (by simp)).mono ?_
  rintro e w1 ⟨rfl, rfl⟩
  go_wp2_with fail
  refine (fill_any g w1 _ l1 _ (l1.cell 3)).mono ?_
  rintro e w2 ⟨rfl, hw2⟩
  have l2 : Loc w2 g #[.int .u32 0, .int .i32 1, .int .u32 0, .map (some w1.heap.size)] 103 := by rw [hw2]; exact (l1.set 3 (.map (some w1.heap.size))).alloc _
  have m2 : w2.heap[w1.heap.size]? = some voidMap := by rw [hw2]; have := heap_alloc_new (w1.setCell ⟨g, 3, none⟩ (.map (some w1.heap.size))) voidMap; rwa [show (w1.setCell ⟨g, 3, none⟩ (.map (some w1.heap.size))).heap.size = w1.heap.size by simp] at this
  have F2 : Frm w1 w2 [g] := by rw [hw2]; exact (Frm.set w1 g 3 _).trans (Frm.alloc _ _ _)
  have hne : w1.heap.size ≠ g := by have := l1.lt; omega
  have F12 := F1.trans F2
  have hmm := F1.size
  clear hw2
  generalize w1.heap.size = m at *
  go_wp2_with fail
  refine leaves_cons (f := 116) (args := #[.pointer (some ⟨g, 0, none⟩), .bool true]) (by simp) (by simp [go_sem]) ?_
  refine (store_deferred ⟨g, 0, none⟩ (.int .u32 0) .returning _ (l2.cell 0) (l2.frozen 0)).mono ?_
  rintro e u' w3 ⟨rfl, rfl, hw3⟩
  have ld : Loc w2.drew g #[.int .u32 0, .int .i32 1, .int .u32 0, .map (some m)] 103 := l2.frm (Frm.drew w2 []) (by simp)
  have l3 : Loc w3 g #[.int .u32 1, .int .i32 1, .int .u32 0, .map (some m)] 103 := by rw [hw3]; exact ld.set 0 (.int .u32 1)
  have F3 : Frm w2 w3 [g] := by rw [hw3]; exact (Frm.drew w2 _).trans (Frm.set _ g 0 _)
  clear hw3
  refine leaves_cons (f := 115) (args := #[.pointer (some ⟨g, 1, none⟩)]) (by simp [settle]) (by simp [go_sem]) ?_
  refine (unlock_deferred ⟨g, 1, none⟩ _ _ (l3.cell 1) (l3.frozen 1)).mono ?_
  rintro e u' w4 ⟨rfl, rfl, hw4⟩
  have l4 : Loc w4 g (vs1 m) 103 := by rw [hw4]; exact l3.set 1 (.int .i32 0)
  have F4 : Frm w3 w4 [g] := by rw [hw4]; exact Frm.set _ g 1 _
  have hm : m < w2.heap.size := by
    by_cases h : m < w2.heap.size
    · exact h
    · rw [Array.getElem?_eq_none (by omega)] at m2; cases m2
  have F34 := F3.trans F4
  have m4 : w4.heap[m]? = some voidMap := (F34.block m hm (by simpa using hne)).trans m2
  simp [Leaves, settle, results, Tryz.results101]
  exact ⟨m, hmm, l4, m4, F12.trans F34⟩
end Go.Proofs.YthgopknjppflhaaGreatDoor

/- sync.Once.Do over the set of void names, and the set asked: has. -/
namespace Go.Proofs.YthgopknjppflhaaGreatDoor
open Go.RowKit
set_option linter.unusedVariables false
set_option maxRecDepth 100000

/-- The set lies in block g, made or not yet. -/
def VMade (B : Nat) (w : World) (g : Nat) : Prop := ∃ m, B ≤ m ∧ Loc w g (vs1 m) 103 ∧ w.heap[m]? = some voidMap
def VSet (B : Nat) (w : World) (g : Nat) : Prop := Loc w g vs0 103 ∨ VMade B w g

theorem do_any (B g : Nat) (w : World) (h : VSet B w g) (hB : B ≤ w.heap.size) :
    Calls Tryz.prog 91 #[.pointer (some ⟨g, 0, none⟩), .func (.func 92) #[.pointer (some ⟨g, 0, none⟩)] #[]] w fun e w' => e = .returned (.tuple #[]) ∧ VMade B w' g ∧ Frm w w' [g] := by
  have hnot : ∀ (x : Bool) (w : World), (Op.unary .not (.bool x)).run Tryz.prog w = .ok (.bool (!x)) w := fun _ _ => rfl
  rcases h with hl | ⟨m, hbm, hl, hm⟩
  · have h0 : w.cell? ⟨g, 0, none⟩ = some (.int .u32 0) := hl.cell 0
    go_enter Tryz.func91, Tryz.ntmps91
    go_wp2_with fail
    refine (load_any ⟨g, 0, none⟩ 0 w h0 false (by simp)).mono ?_
    rintro e w ⟨rfl, rfl⟩
    go_wp2_with fail
    refine (slow_any g w hl).mono ?_
    rintro e w' ⟨rfl, m, hbm, l', m', F'⟩
    go_wp2_with fail
    go_end0
    exact ⟨rfl, ⟨m, Nat.le_trans hB hbm, l', m'⟩, F'⟩
  · have h0 : w.cell? ⟨g, 0, none⟩ = some (.int .u32 1) := hl.cell 0
    go_enter Tryz.func91, Tryz.ntmps91
    go_wp2_with fail
    refine (load_any ⟨g, 0, none⟩ 1 w h0 true (by simp)).mono ?_
    rintro e w ⟨rfl, rfl⟩
    go_wp2_with fail
    go_end0
    exact ⟨rfl, ⟨m, hbm, hl, hm⟩, Frm.refl _ _⟩

def voidS (s : ByteArray) : Bool := s == ⟨#[98, 114]⟩ || s == ⟨#[104, 114]⟩
theorem look_void (w : World) (m : Nat) (s : ByteArray) (hm : w.heap[m]? = some voidMap) :
    (Instr.lookup 101 (.map (some m)) (.string s) true).run Tryz.prog w = .ok (.tuple #[.agg #[], .bool (voidS s)]) w := by
  have hc : (Instr.checkKey false 10000 9 (.string s)).run Tryz.prog w = .ok () w := MapKept.run_checkKey (k := .string s) Tryz.underlying9 (by simp [MapKept.IsKey]) false 9999
  have hz : (zeroValue 89).run Tryz.prog w = .ok (.agg #[]) w := by kernel_rfl
  have hb : w.heap[m]? = some (.map #[{ key := .string ⟨#[98, 114]⟩, val := .agg #[], born := 0 }, { key := .string ⟨#[104, 114]⟩, val := .agg #[], born := 1 }] 2) := hm
  by_cases h1 : (s == ⟨#[98, 114]⟩) = true
  · have hf : Instr.findNow .string (.string s) ([{ key := .string ⟨#[98, 114]⟩, val := .agg #[], born := 0 }, { key := .string ⟨#[104, 114]⟩, val := .agg #[], born := 1 }] : List MapEntry) 0 = some (some (0, .agg #[])) := by simp [Instr.findNow, Instr.sameNow, h1]
    simp [Instr.lookup, run_underlying Tryz.underlying101, MapKept.run_getObj_map hb, hc, MapKept.run_findKey Tryz.underlying9 hf, Result.andThen, voidS, h1]
  · have h1' : (s == ⟨#[98, 114]⟩) = false := by simpa using h1
    by_cases h2 : (s == ⟨#[104, 114]⟩) = true
    · have hf : Instr.findNow .string (.string s) ([{ key := .string ⟨#[98, 114]⟩, val := .agg #[], born := 0 }, { key := .string ⟨#[104, 114]⟩, val := .agg #[], born := 1 }] : List MapEntry) 0 = some (some (1, .agg #[])) := by simp [Instr.findNow, Instr.sameNow, h1', h2]
      simp [Instr.lookup, run_underlying Tryz.underlying101, MapKept.run_getObj_map hb, hc, MapKept.run_findKey Tryz.underlying9 hf, Result.andThen, voidS, h1', h2]
    · have h2' : (s == ⟨#[104, 114]⟩) = false := by simpa using h2
      have hf : Instr.findNow .string (.string s) ([{ key := .string ⟨#[98, 114]⟩, val := .agg #[], born := 0 }, { key := .string ⟨#[104, 114]⟩, val := .agg #[], born := 1 }] : List MapEntry) 0 = some none := by simp [Instr.findNow, Instr.sameNow, h1', h2']
      simp [Instr.lookup, run_underlying Tryz.underlying101, MapKept.run_getObj_map hb, hc, MapKept.run_findKey Tryz.underlying9 hf, hz, Result.andThen, voidS, h1', h2']

theorem str_mk (l : List Int) (b : ByteArray) (h : b.data.toList = l.map (fun n => UInt8.ofNat n.toNat)) : str l = b :=
  ByteArray.ext (Array.ext' (by rw [str_list, h]))
open Classical in
theorem voidS_str (l : List Int) (hl : okB l) : voidS (str l) = decide (Void l) := by
  have e1 : (⟨#[98, 114]⟩ : ByteArray) = str [98, 114] := (str_mk _ _ rfl).symm
  have e2 : (⟨#[104, 114]⟩ : ByteArray) = str [104, 114] := (str_mk _ _ rfl).symm
  have hb : ∀ k, okB k → (str l == str k) = decide (l = k) := fun k hk => by
    by_cases h : l = k
    · subst h; rw [(MapKept.bytes_beq _ _).2 rfl]; simp
    · rw [decide_eq_false h, ← Bool.not_eq_true, MapKept.bytes_beq]
      intro e
      exact h (str_inj hl hk (by rw [e]))
  unfold voidS
  rw [e1, e2, hb _ okB_br, hb _ okB_hr]
  unfold Void
  rw [Bool.eq_iff_iff]
  simp

open Classical in
set_option maxHeartbeats 1600000 in
theorem has_any (B g : Nat) (w : World) (v : Value) (l : List Int) (h : VSet B w g) (hBB : B ≤ w.heap.size) (hv : ∀ w', Frm w w' [g] → Byt w' v l) :
    Calls Tryz.prog 74 #[.pointer (some ⟨g, 0, none⟩), v] w fun e w' => e = .returned (.bool (decide (Void l))) ∧ VMade B w' g ∧ Frm w w' [g] := by
  have hmf : ∀ (fn : Fn) (first cap : Array Value) (w : World), (Instr.makeFunc fn first cap).run Tryz.prog w = .ok (.func fn first cap) w := fun _ _ _ _ => rfl
  have hg : g < w.heap.size := by
    rcases h with h | ⟨m, _, h, _⟩
    · exact h.lt
    · exact h.lt
  obtain ⟨a1, k1, rfl, _⟩ := (hv w (Frm.refl _ _)).shape
  have HV := hide hv
  clear hv
  go_enter Tryz.func74, Tryz.ntmps74
  go_wp2_with fail
  refine (do_any B g w h hBB).mono ?_
  rintro e w1 ⟨rfl, ⟨m, hbm, l1, m1⟩, F1⟩
  have h3 : w1.cell? ⟨g, 3, none⟩ = some (.map (some m)) := l1.cell 3
  have h3d : w1.drew.cell? ⟨g, 3, none⟩ = some (.map (some m)) := l1.cell 3
  have h3a : (w1.alloc (.cells #[] 89)).cell? ⟨g, 3, none⟩ = some (.map (some m)) := (l1.alloc _).cell 3
  have hlt : m < w1.heap.size := by
    by_cases h : m < w1.heap.size
    · exact h
    · rw [Array.getElem?_eq_none (by omega)] at m1; cases m1
  have hb1 : Byt w1 _ l := unhide HV w1 F1
  have c1 := conv_any w1.drew _ l (hb1.keep ((Below.refl _ _).drew))
  have c2 := conv_any (w1.alloc (.cells #[] 89)).drew _ l (hb1.keep (((Below.refl _ _).alloc (Nat.le_refl _) _).drew))
  have q1 := fun s => look_void w1.drew m s m1
  have q2 := fun s => look_void (w1.alloc (.cells #[] 89)).drew m s ((heap_alloc_old w1 _ hlt).trans m1)
  have HS := hide (voidS_str l hb1.1)
  generalize str l = s at *
  generalize l.length = n at *
  go_wp2_with fail
  go_region
  all_goals
    go_wp2_with fail
    go_ret
    exact ⟨by rw [← unhide HS]; rfl, ⟨m, hbm, (l1.alloc _).all ((Below.refl _ _).drew), (heap_alloc_old w1 _ hlt).trans m1⟩, F1.trans ((Frm.alloc w1 _ _).trans (Frm.drew _ _))⟩
end Go.Proofs.YthgopknjppflhaaGreatDoor
