/- Own texts joined: PartI, OpenE, OpenT, Pre, WalkI, NodeI, EvXn, EvXs, CopyW, InsM, EvXo, EvXj. -/
import Derived.Test.YtpijenlmfmknnaaGreatDoorKa
import Derived.Test.YtpijenlmfmknnaaGreatDoorKb
import Derived.Test.YtpijenlmfmknnaaGreatDoorKc
import Derived.Test.YtpijenlmfmknnaaGreatDoorKd
import Derived.Test.YtpijenlmfmknnaaGreatDoorKe
import Derived.Test.YtpijenlmfmknnaaGreatDoorProg
import Derived.ChangeArms
import Derived.ChangeSlices
import Derived.WideShapes
import Derived.Laws.LoneSync
import Derived.Laws.Externs
import Derived.RegionCalls
import Derived.Deep.RegionHeld3
import Derived.Laws.CopyOwn
import Derived.Lib.Overlaps
import Derived.Lib.AppendZerosOnto
import Derived.Lib.Walk
import Derived.Laws.NewBlocks
import Derived.Deep.RegionLaw
import Derived.Deep.AppendLies

/- impl.partOk answers what the plain test of one node says. -/
namespace Go.Proofs.YtpijenlmfmknnaaGreatDoor
open Go.RowKit
set_option linter.unusedVariables false
set_option maxRecDepth 100000

/-- May the node be, its kids aside? -/
def partB {α : Type} (t : Nd α) : Bool := if t.kind = 1 then leafB t else elemB t
theorem partB_leaf {α : Type} {t : Nd α} (h : t.kind = 1) : partB t = leafB t := by rw [partB, if_pos h]
theorem partB_elem {α : Type} {t : Nd α} (h : t.kind ≠ 1) : partB t = elemB t := by rw [partB, if_neg h]
theorem elemB_no {α : Type} {t : Nd α} (h : ¬ ElemOk t) : elemB t = false := by rw [← Bool.not_eq_true, elemB_iff]; exact h
theorem leafB_no {α : Type} {t : Nd α} (h : ¬ LeafOk t) : leafB t = false := by rw [← Bool.not_eq_true, leafB_iff]; exact h

theorem VMade.keep {B : Nat} {w w' : World} {g : Nat} (h : VMade B w g) (hb : Below w.heap.size w w') : VMade B w' g := by
  obtain ⟨m, hbm, hl, hm⟩ := h
  have hlt : m < w.heap.size := by
    by_cases h : m < w.heap.size
    · exact h
    · rw [Array.getElem?_eq_none (by omega)] at hm; cases hm
  exact ⟨m, hbm, hl.all hb, (hb.block m hlt).trans hm⟩
theorem VSet.keep {B : Nat} {w w' : World} {g : Nat} (h : VSet B w g) (hb : Below w.heap.size w w') : VSet B w' g := by
  rcases h with h | h
  · exact .inl (h.all hb)
  · exact .inr (h.keep hb)
theorem VSet.lt {B : Nat} {w : World} {g : Nat} (h : VSet B w g) : g < w.heap.size := by
  rcases h with h | ⟨m, _, h, _⟩
  · exact h.lt
  · exact h.lt

open Classical in
set_option maxHeartbeats 3200000 in
theorem partI_elem (B n : Nat) (w0 w : World) (a b c d e : Value) (t : Tr (n + 1)) (g : Nat) (h : RdNode (n + 1) w0 [a, b, c, d, e] t) (hB : Below w0.heap.size w0 w) (hg : w0.heap.size ≤ g) (hV : VSet B w g) (hBB : B ≤ w.heap.size) (hz : t.kind = 0) :
    Calls Tryz.prog 104 #[.agg #[a, b, c, d, e], .pointer (some ⟨g, 0, none⟩)] w fun e w' => e = .returned (.bool (partB t)) ∧ VSet B w' g ∧ Frm w w' [g] := by
  obtain ⟨_, _, _, _, e0, k1, k2, hb, hc, hd, he⟩ := h
  simp only [List.cons.injEq, and_true] at e0
  obtain ⟨rfl, rfl, rfl, rfl, rfl⟩ := e0
  have HP := hide (show partB t = elemB t from partB_elem (by rw [hz]; decide))
  obtain ⟨ab, cb, rfl, _, _⟩ := hb.shape
  obtain ⟨ac, cc, rfl, _, _⟩ := hc.shape
  obtain ⟨ad, cd, rfl, _, _⟩ := Elems.shape hd
  obtain ⟨ae, ce, rfl, _, _⟩ := Elems.shape he
  have hB1 : Below w.heap.size w (w.alloc (.cells #[.int .i64 t.kind, .slice ab t.name.length cb, .slice ac t.text.length cc, .slice ad t.attrs.length cd, .slice ae t.kids.length ce] 55)) := (Below.refl _ _).alloc (Nat.le_refl _) _
  have l1 := Loc.made w #[.int .i64 t.kind, .slice ab t.name.length cb, .slice ac t.text.length cc, .slice ad t.attrs.length cd, .slice ae t.kids.length ce] 55
  have HX : Hid ((t.text.length ≠ 0 → elemB t = false) ∧ (¬ NameOk t.name → elemB t = false) ∧ (¬ AttrsOk t.attrs → elemB t = false) ∧ (NameOk t.name → t.text.length = 0 → AttrsOk t.attrs → t.kids.length = 0 → elemB t = true) ∧ (NameOk t.name → t.text.length = 0 → AttrsOk t.attrs → t.kids.length ≠ 0 → elemB t = !decide (Void t.name))) := by
    refine ⟨fun h => elemB_no (fun k => h k.2.2.1), fun h => elemB_no (fun k => h k.2.1), fun h => elemB_no (fun k => h k.2.2.2.1), fun h1 h2 h3 h4 => (elemB_iff t).2 ⟨hz, h1, h2, h3, fun k => by omega⟩, fun h1 h2 h3 h4 => ?_⟩
    by_cases hv : Void t.name
    · rw [elemB_no (fun k => k.2.2.2.2 ⟨hv, by omega⟩)]; simp [hv]
    · rw [(elemB_iff t).2 ⟨hz, h1, h2, h3, fun k => hv k.1⟩]; simp [hv]
  rw [hz] at *
  have ha : Below w0.heap.size w0 (w.alloc (.cells #[.int .i64 0, .slice ab t.name.length cb, .slice ac t.text.length cc, .slice ad t.attrs.length cd, .slice ae t.kids.length ce] 55)) := hB.trans (hB1.mono hB.size)
  have hV1 := hV.keep hB1
  have F1 := Frm.ofBelow hB1 [g]
  clear hB1 k1 k2 hB
  go_enter Tryz.func104, Tryz.ntmps104
  go_wp2_with fail
  generalize (w.alloc (.cells #[.int .i64 0, .slice ab t.name.length cb, .slice ac t.text.length cc, .slice ad t.attrs.length cd, .slice ae t.kids.length ce] 55)) = w1 at *
  have hBB1 := Nat.le_trans hBB F1.size
  generalize hS : w.heap.size = S at *
  clear hS
  generalize t.name.length = nb at *
  generalize t.text.length = nc at *
  generalize t.attrs.length = nd at *
  generalize t.kids.length = ne at *
  have hbb := hb.keep ha
  have hdd := hd.keep ha
  refine (nameI_any w1 _ t.name hbb).mono ?_
  rintro e w1 ⟨rfl, rfl⟩
  obtain ⟨x0, x1, x2, x3, x4⟩ := l1.five
  by_cases hn : NameOk t.name
  · rw [show decide (NameOk t.name) = true by simpa using hn]
    by_cases htx : nc = 0
    · have dtx : ((nc : Int) == 0) = true := by simpa using htx
      go_wp2_with fail
      refine (attrsI_any w1 _ t.attrs hdd).mono ?_
      rintro e w2 ⟨rfl, hB2⟩
      have hV2 := hV1.keep hB2
      have F2 := F1.trans (Frm.ofBelow hB2 [g])
      have ha2 := ha.trans (hB2.mono ha.size)
      have l2 := l1.all hB2
      clear x0 x1 x2 x3 x4
      obtain ⟨x0, x1, x2, x3, x4⟩ := l2.five
      by_cases hat : AttrsOk t.attrs
      · rw [show decide (AttrsOk t.attrs) = true by simpa using hat]
        by_cases hk : ne = 0
        · have dk : ((ne : Int) == 0) = true := by simpa using hk
          have HE := hide ((unhide HX).2.2.2.1 hn htx hat hk)
          clear hn htx hat hk HX
          go_wp2_with fail
          go_ret
          exact ⟨by rw [unhide HP, unhide HE]; rfl, hV2, F2⟩
        · have dk : ((ne : Int) == 0) = false := by simpa using hk
          have HE := hide ((unhide HX).2.2.2.2 hn htx hat hk)
          clear hn htx hat hk HX
          go_wp2_with fail
          refine (has_any B g w2 _ t.name hV2 (Nat.le_trans hBB1 hB2.size) (fun w' f => hb.keep (ha2.trans (f.below ha2.size (fun q hq => by simp at hq; omega))))).mono ?_
          rintro e w3 ⟨rfl, hV3, F3⟩
          generalize decide (Void t.name) = vb at *
          go_wp2_with fail
          go_ret
          exact ⟨by rw [unhide HP, unhide HE]; rfl, .inr hV3, F2.trans F3⟩
      · rw [show decide (AttrsOk t.attrs) = false by simpa using hat]
        have HE := hide ((unhide HX).2.2.1 hat)
        clear hn htx hat HX
        go_wp2_with fail
        go_ret
        exact ⟨by rw [unhide HP, unhide HE]; rfl, hV2, F2⟩
    · have dtx : ((nc : Int) == 0) = false := by simpa using htx
      have HE := hide ((unhide HX).1 htx)
      clear hn htx HX
      go_wp2_with fail
      go_ret
      exact ⟨by rw [unhide HP, unhide HE]; rfl, hV1, F1⟩
  · rw [show decide (NameOk t.name) = false by simpa using hn]
    have HE := hide ((unhide HX).2.1 hn)
    clear hn HX
    go_wp2_with fail
    go_ret
    exact ⟨by rw [unhide HP, unhide HE]; rfl, hV1, F1⟩

open Classical in
set_option maxHeartbeats 3200000 in
theorem partI_leaf (B n : Nat) (w0 w : World) (a b c d e : Value) (t : Tr (n + 1)) (g : Nat) (h : RdNode (n + 1) w0 [a, b, c, d, e] t) (hB : Below w0.heap.size w0 w) (hg : w0.heap.size ≤ g) (hV : VSet B w g) (hBB : B ≤ w.heap.size) (hz : t.kind = 1) :
    Calls Tryz.prog 104 #[.agg #[a, b, c, d, e], .pointer (some ⟨g, 0, none⟩)] w fun e w' => e = .returned (.bool (partB t)) ∧ VSet B w' g ∧ Frm w w' [g] := by
  obtain ⟨_, _, _, _, e0, k1, k2, hb, hc, hd, he⟩ := h
  simp only [List.cons.injEq, and_true] at e0
  obtain ⟨rfl, rfl, rfl, rfl, rfl⟩ := e0
  have HP := hide (show partB t = leafB t from partB_leaf hz)
  obtain ⟨ab, cb, rfl, _, _⟩ := hb.shape
  obtain ⟨ac, cc, rfl, _, _⟩ := hc.shape
  obtain ⟨ad, cd, rfl, _, _⟩ := Elems.shape hd
  obtain ⟨ae, ce, rfl, _, _⟩ := Elems.shape he
  have hB1 : Below w.heap.size w (w.alloc (.cells #[.int .i64 t.kind, .slice ab t.name.length cb, .slice ac t.text.length cc, .slice ad t.attrs.length cd, .slice ae t.kids.length ce] 55)) := (Below.refl _ _).alloc (Nat.le_refl _) _
  have l1 := Loc.made w #[.int .i64 t.kind, .slice ab t.name.length cb, .slice ac t.text.length cc, .slice ad t.attrs.length cd, .slice ae t.kids.length ce] 55
  have HX : Hid ((t.name.length ≠ 0 → leafB t = false) ∧ (¬ TextOk t.text → leafB t = false) ∧ (t.attrs.length ≠ 0 → leafB t = false) ∧ (t.kids.length ≠ 0 → leafB t = false) ∧ (t.name.length = 0 → TextOk t.text → t.attrs.length = 0 → t.kids.length = 0 → leafB t = true)) := by
    exact ⟨fun h => leafB_no (fun k => h k.1), fun h => leafB_no (fun k => h k.2.2.2), fun h => leafB_no (fun k => h k.2.1), fun h => leafB_no (fun k => h k.2.2.1), fun h1 h2 h3 h4 => (leafB_iff t).2 ⟨h1, h3, h4, h2⟩⟩
  rw [hz] at *
  have ha : Below w0.heap.size w0 (w.alloc (.cells #[.int .i64 1, .slice ab t.name.length cb, .slice ac t.text.length cc, .slice ad t.attrs.length cd, .slice ae t.kids.length ce] 55)) := hB.trans (hB1.mono hB.size)
  have hV1 := hV.keep hB1
  have F1 := Frm.ofBelow hB1 [g]
  clear hB1 k1 k2 hB
  go_enter Tryz.func104, Tryz.ntmps104
  by_cases hnn : t.name.length = 0
  · have dn : ((t.name.length : Int) == 0) = true := by simpa using hnn
    have HN := hide hnn
    clear hnn
    go_wp2_with fail
    generalize (w.alloc (.cells #[.int .i64 1, .slice ab t.name.length cb, .slice ac t.text.length cc, .slice ad t.attrs.length cd, .slice ae t.kids.length ce] 55)) = w1 at *
    generalize hS : w.heap.size = S at *
    clear hS
    generalize t.name.length = nb at *
    generalize t.text.length = nc at *
    generalize t.attrs.length = nd at *
    generalize t.kids.length = ne at *
    refine (textI_any w1 _ t.text (hc.keep ha)).mono ?_
    rintro e w1 ⟨rfl, rfl⟩
    obtain ⟨x0, x1, x2, x3, x4⟩ := l1.five
    by_cases ht : TextOk t.text
    · rw [show decide (TextOk t.text) = true by simpa using ht]
      by_cases hat : nd = 0
      · have dat : ((nd : Int) == 0) = true := by simpa using hat
        by_cases hk : ne = 0
        · have dk : ((ne : Int) == 0) = true := by simpa using hk
          have HE := hide ((unhide HX).2.2.2.2 (unhide HN) ht hat hk)
          clear ht hat hk HX HN
          go_wp2_with fail
          go_ret
          exact ⟨by rw [unhide HP, unhide HE]; rfl, hV1, F1⟩
        · have dk : ((ne : Int) == 0) = false := by simpa using hk
          have HE := hide ((unhide HX).2.2.2.1 hk)
          clear ht hat hk HX HN
          go_wp2_with fail
          go_ret
          exact ⟨by rw [unhide HP, unhide HE]; rfl, hV1, F1⟩
      · have dat : ((nd : Int) == 0) = false := by simpa using hat
        have HE := hide ((unhide HX).2.2.1 hat)
        clear ht hat HX HN
        go_wp2_with fail
        go_ret
        exact ⟨by rw [unhide HP, unhide HE]; rfl, hV1, F1⟩
    · rw [show decide (TextOk t.text) = false by simpa using ht]
      have HE := hide ((unhide HX).2.1 ht)
      clear ht HX HN
      go_wp2_with fail
      go_ret
      exact ⟨by rw [unhide HP, unhide HE]; rfl, hV1, F1⟩
  · have dn : ((t.name.length : Int) == 0) = false := by simpa using hnn
    have HE := hide ((unhide HX).1 hnn)
    clear hnn HX
    go_wp2_with fail
    go_ret
    exact ⟨by rw [unhide HP, unhide HE]; rfl, hV1, F1⟩

set_option maxHeartbeats 3200000 in
theorem partI_none (B n : Nat) (w0 w : World) (a b c d e : Value) (t : Tr (n + 1)) (g : Nat) (h : RdNode (n + 1) w0 [a, b, c, d, e] t) (hV : VSet B w g) (hBB : B ≤ w.heap.size) (hz : t.kind ≠ 0) (hz1 : t.kind ≠ 1) :
    Calls Tryz.prog 104 #[.agg #[a, b, c, d, e], .pointer (some ⟨g, 0, none⟩)] w fun e w' => e = .returned (.bool (partB t)) ∧ VSet B w' g ∧ Frm w w' [g] := by
  obtain ⟨_, _, _, _, e0, k1, k2, hb, hc, hd, he⟩ := h
  simp only [List.cons.injEq, and_true] at e0
  obtain ⟨rfl, rfl, rfl, rfl, rfl⟩ := e0
  have HP := hide (show partB t = false by rw [partB_elem hz1]; exact elemB_no (fun k => hz k.1))
  obtain ⟨ab, cb, rfl, _, _⟩ := hb.shape
  obtain ⟨ac, cc, rfl, _, _⟩ := hc.shape
  obtain ⟨ad, cd, rfl, _, _⟩ := Elems.shape hd
  obtain ⟨ae, ce, rfl, _, _⟩ := Elems.shape he
  have hB1 : Below w.heap.size w (w.alloc (.cells #[.int .i64 t.kind, .slice ab t.name.length cb, .slice ac t.text.length cc, .slice ad t.attrs.length cd, .slice ae t.kids.length ce] 55)) := (Below.refl _ _).alloc (Nat.le_refl _) _
  have hV1 := hV.keep hB1
  have F1 := Frm.ofBelow hB1 [g]
  have d0 : (t.kind == 0) = false := by simpa using hz
  have d1 : (t.kind == 1) = false := by simpa using hz1
  clear hB1 k1 k2 hz hz1 hb hc hd he
  generalize t.kind = z at *
  go_enter Tryz.func104, Tryz.ntmps104
  go_wp2_with fail
  go_ret
  exact ⟨by rw [unhide HP]; rfl, hV1, F1⟩

theorem partI_any (B n : Nat) (w0 w : World) (a b c d e : Value) (t : Tr (n + 1)) (g : Nat) (h : RdNode (n + 1) w0 [a, b, c, d, e] t) (hB : Below w0.heap.size w0 w) (hg : w0.heap.size ≤ g) (hV : VSet B w g) (hBB : B ≤ w.heap.size) :
    Calls Tryz.prog 104 #[.agg #[a, b, c, d, e], .pointer (some ⟨g, 0, none⟩)] w fun e w' => e = .returned (.bool (partB t)) ∧ VSet B w' g ∧ Frm w w' [g] := by
  by_cases hz : t.kind = 0
  · exact partI_elem B n w0 w a b c d e t g h hB hg hV hBB hz
  · by_cases hz1 : t.kind = 1
    · exact partI_leaf B n w0 w a b c d e t g h hB hg hV hBB hz1
    · exact partI_none B n w0 w a b c d e t g h hV hBB hz hz1
end Go.Proofs.YtpijenlmfmknnaaGreatDoor

/- A row of data that can be read: its elements one by one. No condition. -/
namespace Go.Proofs.YtpijenlmfmknnaaGreatDoor
open Go.RowKit Go.ChangeShapes
set_option linter.unusedVariables false
set_option maxRecDepth 100000

variable {H : Type} {enc : TypeId × Value → H} {W : World} {held : Bool}

theorem list_of {α : Type} {Q : Nat → α → Prop} : ∀ n : Nat, (∀ i, i < n → ∃ a, Q i a) → ∃ l : List α, l.length = n ∧ ∀ i (hi : i < l.length), Q i l[i]
  | 0, _ => ⟨[], rfl, fun i hi => by cases hi⟩
  | n + 1, h => by
    obtain ⟨l, hl, hq⟩ := list_of n (fun i hi => h i (by omega))
    obtain ⟨a, ha⟩ := h n (by omega)
    refine ⟨l ++ [a], by simp [hl], fun i hi => ?_⟩
    by_cases hi' : i < l.length
    · rw [List.getElem_append_left hi']; exact hq i hi'
    · have : i = l.length := by simp at hi; omega
      subst this
      simp only [List.getElem_append_right (Nat.le_refl _), Nat.sub_self, List.getElem_cons_zero]
      rw [hl]; exact ha

end Go.Proofs.YtpijenlmfmknnaaGreatDoor

/- An argument of a law that can be read as data is bytes, attributes, a tree: what the data's readings open to. No condition. -/
namespace Go.Proofs.YtpijenlmfmknnaaGreatDoor
open Go.RowKit Go.ChangeShapes
set_option linter.unusedVariables false
set_option maxRecDepth 100000

variable {H : Type} {enc : TypeId × Value → H} {W : World} {held : Bool}

end Go.Proofs.YtpijenlmfmknnaaGreatDoor

/- The nodes of a tree in the markup's order, as they lie in memory: what impl.walk hands on. -/
namespace Go.Proofs.YtpijenlmfmknnaaGreatDoor
open Go.RowKit
set_option linter.unusedVariables false
set_option maxRecDepth 100000

/-- A node as it is handed on: its depth, its five values, the tree that they read as. -/
structure It (w0 : World) where
  deep : Int
  a : Value
  b : Value
  c : Value
  d : Value
  e : Value
  m : Nat
  t : Tr (m + 1)
  rd : RdNode (m + 1) w0 [a, b, c, d, e] t
def encIt {w0 : World} (x : It w0) : Array Value := #[.int .i64 x.deep, .agg #[x.a, x.b, x.c, x.d, x.e]]

/-- xs are the nodes of the tree t, whose cells are C, in the markup's order. -/
def Pre (w0 : World) : (n : Nat) → Int → List Value → Tr n → List (It w0) → Prop
  | 0 => fun _ _ _ _ => False
  | n + 1 => fun deep C t xs => ∃ (a b c d e : Value) (rd : RdNode (n + 1) w0 [a, b, c, d, e] t) (ks : List (Tr n × List (It w0))), C = [a, b, c, d, e] ∧ xs = ⟨deep, a, b, c, d, e, n, t, rd⟩ :: (ks.map (·.2)).flatten ∧ ks.map (·.1) = t.kids ∧
      Elems w0 5 e ks (fun D k => Pre w0 n (deep + 1) D k.1 k.2)

theorem elems_pair {α β : Type} {w : World} {size : Nat} {v : Value} {l : List α} {R : List Value → α → Prop} {R' : List Value → α × β → Prop} (h : Elems w size v l R) (hR : ∀ C x, R C x → ∃ y, R' C (x, y)) :
    ∃ ks : List (α × β), ks.map (·.1) = l ∧ Elems w size v ks R' := by
  obtain ⟨hm, ⟨rfl, rfl⟩ | ⟨x, cap, rfl, hc, rfl⟩ | ⟨b, off, cap, rfl, h1, h2, h3, h4, h5⟩⟩ := h
  · exact ⟨[], rfl, hm, .inl ⟨rfl, rfl⟩⟩
  · exact ⟨[], rfl, hm, .inr (.inl ⟨x, cap, rfl, hc, rfl⟩)⟩
  · obtain ⟨ks, hl, hk⟩ := list_of (Q := fun i (k : α × β) => ∃ hi : i < l.length, k.1 = l[i] ∧ ∃ C : List Value, C.length = size ∧ (∀ j, j < size → w.cell? ⟨b, off + i * size + j, none⟩ = C[j]?) ∧ R' C k) l.length (fun i hi => by
      obtain ⟨C, hC, hc, hr⟩ := h5 i hi
      obtain ⟨y, hy⟩ := hR C _ hr
      exact ⟨(l[i], y), hi, rfl, C, hC, hc, hy⟩)
    refine ⟨ks, ?_, by omega, .inr (.inr ⟨b, off, cap, by rw [hl], by omega, h2, ?_, h4, fun i hi => ?_⟩)⟩
    · apply List.ext_getElem
      · simp [hl]
      · intro i h1' h2'
        simp only [List.getElem_map]
        exact (hk i (by simpa using h1')).2.1
    · intro e; rw [e] at hl; exact h3 (List.eq_nil_of_length_eq_zero hl.symm)
    · exact (hk i hi).2.2

theorem pre_ex (w0 : World) : ∀ (n : Nat) (deep : Int) (C : List Value) (t : Tr n), RdNode n w0 C t → ∃ xs, Pre w0 n deep C t xs
  | 0, _, _, t, _ => t.elim
  | n + 1, deep, C, t, h => by
    have h' := h
    obtain ⟨a, b, c, d, rfl, k1, k2, hb, hc, hd, he⟩ := h
    obtain ⟨ks, hks, hel⟩ := elems_pair (R' := fun D k => Pre w0 n (deep + 1) D k.1 k.2) he (fun D x hx => pre_ex w0 n (deep + 1) D x hx)
    exact ⟨_, _, _, _, _, _, h', ks, rfl, rfl, hks, hel⟩

/-- Depth and the test of each. -/
def tst {w0 : World} (x : It w0) : Int × Bool := (x.deep, partB x.t)
def pn : (n : Nat) → Int → Tr n → List (Int × Bool)
  | 0 => fun _ _ => []
  | n + 1 => fun deep t => (deep, partB t) :: (t.kids.map (pn n (deep + 1))).flatten

theorem pn_succ (n : Nat) (deep : Int) (t : Tr (n + 1)) : pn (n + 1) deep t = (deep, partB t) :: (t.kids.map (pn n (deep + 1))).flatten := rfl
theorem Elems.mem {α : Type} {w : World} {size : Nat} {v : Value} {l : List α} {R : List Value → α → Prop} (h : Elems w size v l R) : ∀ x ∈ l, ∃ C, R C x := by
  intro x hx
  obtain ⟨i, hi, rfl⟩ := List.getElem_of_mem hx
  obtain ⟨hm, ⟨rfl, rfl⟩ | ⟨_, cap, rfl, hc, rfl⟩ | ⟨b, off, cap, rfl, h1, h2, h3, h4, h5⟩⟩ := h
  · simp at hi
  · simp at hi
  · obtain ⟨C, _, _, hr⟩ := h5 i hi
    exact ⟨C, hr⟩
theorem pre_pn (w0 : World) : ∀ (n : Nat) (deep : Int) (C : List Value) (t : Tr n) (xs : List (It w0)), Pre w0 n deep C t xs → xs.map tst = pn n deep t
  | 0, _, _, t, _, _ => t.elim
  | n + 1, deep, C, t, xs, ⟨a, b, c, d, e, rd, ks, _, hxs, hks, hel⟩ => by
    subst hxs
    rw [List.map_cons, pn_succ, ← hks, List.map_flatten, List.map_map, List.map_map]
    congr 2
    apply List.map_congr_left
    intro k hk
    obtain ⟨D, hD⟩ := hel.mem k hk
    exact pre_pn w0 n (deep + 1) D k.1 k.2 hD

/-- The tests, one behind the other, where 'left' nodes are left. -/
def scan : List (Int × Bool) → Int → Bool × Int
  | [], left => (true, left)
  | x :: r, left => if left - 1 < 0 ∨ 20 < x.1 ∨ x.2 = false then (false, left - 1) else scan r (left - 1)
theorem scan_app (a b : List (Int × Bool)) (left : Int) : scan (a ++ b) left = if (scan a left).1 = true then scan b (scan a left).2 else (false, (scan a left).2) := by
  induction a generalizing left with
  | nil => simp [scan]
  | cons x r ih =>
    rw [List.cons_append, scan, scan]
    by_cases h : left - 1 < 0 ∨ 20 < x.1 ∨ x.2 = false
    · rw [if_pos h, if_pos h]; simp
    · rw [if_neg h, if_neg h, ih]
theorem scan_no {a b : List (Int × Bool)} {left : Int} (h : (scan a left).1 = false) (hp : a <+: b) : (scan b left).1 = false := by
  obtain ⟨r, rfl⟩ := hp
  rw [scan_app, h]
  simp
theorem okK_scan {α : Type} {f : α → Int → Bool × Int} {p : α → List (Int × Bool)} (h : ∀ x left, f x left = scan (p x) left) : ∀ (l : List α) (left : Int), okK f l left = scan (l.map p).flatten left
  | [], left => rfl
  | x :: r, left => by
    rw [okK, List.map_cons, List.flatten_cons, scan_app, h, okK_scan h r]
theorem okT_scan : ∀ (n : Nat) (deep : Int) (t : Tr n) (left : Int), okT n deep t left = scan (pn n deep t) left
  | 0, _, t, _ => t.elim
  | n + 1, deep, t, left => by
    rw [okT_succ, pn_succ, scan]
    by_cases h1 : left - 1 < 0 ∨ 20 < deep
    · rw [if_pos h1, if_pos (by rcases h1 with h | h <;> simp [h])]
    · rw [if_neg h1]
      by_cases h2 : t.kind = 1
      · rw [if_pos h2]
        have hp : partB t = leafB t := partB_leaf h2
        by_cases h3 : leafB t = true
        · have hk : t.kids = [] := List.eq_nil_of_length_eq_zero ((leafB_iff t).1 h3).2.2.1
          rw [if_neg (by simp only [hp, h3]; simp; omega), hk, h3]; rfl
        · have h3' : leafB t = false := by simpa using h3
          rw [if_pos (by simp only [hp, h3']; simp), h3']
      · rw [if_neg h2]
        have hp : partB t = elemB t := partB_elem h2
        by_cases h3 : elemB t = true
        · rw [if_pos h3, if_neg (by simp only [hp, h3]; simp; omega)]
          exact okK_scan (okT_scan n (deep + 1)) t.kids (left - 1)
        · have h3' : elemB t = false := by simpa using h3
          rw [if_neg h3, if_pos (by simp only [hp, h3']; simp)]
end Go.Proofs.YtpijenlmfmknnaaGreatDoor

/- impl.walk hands on the nodes in the markup's order. -/
namespace Go.Proofs.YtpijenlmfmknnaaGreatDoor
open Go.RowKit Go.Shelf
set_option linter.unusedVariables false
set_option maxRecDepth 100000
attribute [local go_sem] Oper.semAt_some

/-- The boxes that impl.walk lays. -/
def BxN (o : Obj) : Prop := ∃ cs, o = .cells cs 55 (0, 0)
theorem below_grown {W W' : World} (h : Below W.heap.size W W') : W.grownBy W' none := ⟨h.os, h.tape, h.output, h.size, fun k hk _ => h.block k hk⟩

theorem rd_shape {n : Nat} {w : World} {C : List Value} {t : Tr n} (h : RdNode n w C t) : ∃ z ab nb cb ac nc cc ad nd cd ae ne ce, C = [.int .i64 z, .slice ab nb cb, .slice ac nc cc, .slice ad nd cd, .slice ae ne ce] := by
  cases n with
  | zero => exact t.elim
  | succ n =>
    obtain ⟨a, b, c, d, rfl, _, _, hb, hc, hd, he⟩ := h
    obtain ⟨ab, cb, rfl, _, _⟩ := hb.shape
    obtain ⟨ac, cc, rfl, _, _⟩ := hc.shape
    obtain ⟨ad, cd, rfl, _, _⟩ := Elems.shape hd
    obtain ⟨ae, ce, rfl, _, _⟩ := Elems.shape he
    exact ⟨_, _, _, _, _, _, _, _, _, _, _, _, _, rfl⟩
theorem pre_rd {w0 : World} {n : Nat} {deep : Int} {C : List Value} {t : Tr n} {xs : List (It w0)} (h : Pre w0 n deep C t xs) : RdNode n w0 C t := by
  cases n with
  | zero => exact t.elim
  | succ n =>
    obtain ⟨a, b, c, d, e, rd, ks, rfl, _⟩ := h
    exact rd
theorem sum_mem {l : List Nat} {x : Nat} (h : x ∈ l) : x ≤ l.sum := by
  induction l with
  | nil => cases h
  | cons y l ih =>
    rw [List.sum_cons]
    rcases List.mem_cons.1 h with rfl | h'
    · omega
    · have := ih h'; omega
theorem sz_kid {n : Nat} {t : Tr (n + 1)} {u : Tr n} (h : u ∈ t.kids) : szT n u + 1 ≤ szT (n + 1) t := by
  have h1 : szT n u ≤ (t.kids.map (szT n)).sum := sum_mem (List.mem_map.2 ⟨u, h, rfl⟩)
  have h2 : 0 < t.kids.length := List.length_pos_of_mem h
  have h3 : szT (n + 1) t = t.name.length + t.text.length + szA t.attrs + (t.kids.length + (t.kids.map (szT n)).sum) := rfl
  omega
theorem flat_take {α β : Type} (ks : List (α × List β)) (j : Nat) (h : j < ks.length) : ((ks.take (j + 1)).map (·.2)).flatten = ((ks.take j).map (·.2)).flatten ++ ks[j].2 := by
  rw [List.take_succ_eq_append_getElem h, List.map_append, List.flatten_append]
  simp only [List.map_cons, List.map_nil, List.flatten_cons, List.flatten_nil, List.append_nil]
theorem flat_pre {α β : Type} (ks : List (α × List β)) (j : Nat) : ((ks.take j).map (·.2)).flatten <+: (ks.map (·.2)).flatten := by
  refine ⟨((ks.drop j).map (·.2)).flatten, ?_⟩
  rw [← List.flatten_append, ← List.map_append, List.take_append_drop]

/-- What is asked of impl.walk at a tree of depth below k. -/
def WalkSaid (w0 : World) (l : Nat) (Mt : Nat → Obj → Prop) (J Jx : List (It w0) → World → Prop) (XS : List (It w0)) (k : Nat) : Prop :=
  ∀ (deep : Int) (a b c d e : Value) (t : Tr k) (xs : List (It w0)), Pre w0 k deep [a, b, c, d, e] t xs → ∀ (n : Nat) (pre : List (It w0)) (W : World), Below w0.heap.size w0 W → (∀ q o, W.heap.size ≤ q → BxN o → ¬ Mt q o) → J pre W → pre ++ xs <+: XS → 0 ≤ deep → deep + szT k t ≤ 1000000000 →
    CallsIn Fence.wide n Tryz.prog 173 #[.agg #[a, b, c, d, e], .int .i64 deep, .func (.yield l) #[] #[]] W fun e W' =>
      (e = .returned (.bool true) ∧ J (pre ++ xs) W' ∧ Frp Mt W W') ∨ (e = .returned (.bool false) ∧ ∃ q, q <+: xs ∧ Jx (pre ++ q) W')

set_option maxHeartbeats 3200000 in
theorem walk_succ (w0 : World) (l : Nat) (Mt : Nat → Obj → Prop) (hG0 : ∀ i o, i < w0.heap.size → ¬ Mt i o) (J Jx : List (It w0) → World → Prop) (XS : List (It w0)) (hJ : ∀ s W W', J s W → W.grownBy W' none → J s W')
    (hY : ∀ m pre x W, J pre W → pre ++ [x] <+: XS → YieldAt Fence.wide m Tryz.prog l (encIt x) W fun e W' =>
      (e = .returned (.bool true) ∧ J (pre ++ [x]) W' ∧ Frp Mt W W') ∨ (e = .returned (.bool false) ∧ Jx (pre ++ [x]) W')) (k : Nat) (H : WalkSaid w0 l Mt J Jx XS k) : WalkSaid w0 l Mt J Jx XS (k + 1) := by
  intro deep a b c d e t xs hP n pre W hW hGW hj hpx hd0 hd1
  obtain ⟨_, _, _, _, _, rd, ks, hC, hxs, hks, hel⟩ := hP
  simp only [List.cons.injEq, and_true] at hC
  obtain ⟨rfl, rfl, rfl, rfl, rfl⟩ := hC
  have rd' := rd
  obtain ⟨_, _, _, _, e0, k1, k2, hb, hc, hd, he⟩ := rd'
  simp only [List.cons.injEq, and_true] at e0
  obtain ⟨rfl, rfl, rfl, rfl, rfl⟩ := e0
  obtain ⟨ab, cb, rfl, _, _⟩ := hb.shape
  obtain ⟨ac, cc, rfl, _, _⟩ := hc.shape
  obtain ⟨ad, cd, rfl, _, _⟩ := Elems.shape hd
  obtain ⟨ae, ce, rfl, hce, hcm⟩ := Elems.shape he
  obtain ⟨x, hx⟩ : ∃ x : It w0, x = ⟨deep, .int .i64 t.kind, .slice ab t.name.length cb, .slice ac t.text.length cc, .slice ad t.attrs.length cd, .slice ae t.kids.length ce, k, t, rd⟩ := ⟨_, rfl⟩
  have hB1 : Below W.heap.size W (W.alloc (.cells #[.int .i64 t.kind, .slice ab t.name.length cb, .slice ac t.text.length cc, .slice ad t.attrs.length cd, .slice ae t.kids.length ce] 55)) := (Below.refl _ _).alloc (Nat.le_refl _) _
  have l1 := Loc.made W #[.int .i64 t.kind, .slice ab t.name.length cb, .slice ac t.text.length cc, .slice ad t.attrs.length cd, .slice ae t.kids.length ce] 55
  have hy := hY (n - 1) pre x _ (hJ pre W _ hj (below_grown hB1)) (by
    refine List.IsPrefix.trans ?_ hpx
    rw [hxs, ← hx]
    exact ⟨(ks.map (·.2)).flatten, by simp⟩)
  rw [hx] at hy
  simp only [encIt] at hy
  rw [← hx] at hy hxs
  obtain ⟨fn, tmps, assign, body, hy1, hR⟩ := hy
  refine callsIn_of_wp Tryz.func173 rfl trivial ?_ rfl
  simp only [Tryz.ntmps173, List.size_toArray, List.length_cons, List.length_nil, Nat.reduceAdd, Nat.reduceSub, Array.replicate_succ, Array.replicate_zero, List.push_toArray, List.append_toArray, List.nil_append, List.cons_append]
  gi_wp2_with fail
  refine ⟨(fun h => (by cases h)), ?_⟩
  generalize (W.alloc (.cells #[.int .i64 t.kind, .slice ab t.name.length cb, .slice ac t.text.length cc, .slice ad t.attrs.length cd, .slice ae t.kids.length ce] 55)) = W1 at *
  refine hR.mono ?_
  clear hR
  rintro e W2 (⟨rfl, hJ2, hF2⟩ | ⟨rfl, hx2⟩)
  · have l2 := l1.frp hF2 (hGW _ _ (Nat.le_refl _) ⟨_, rfl⟩)
    have hGW2 : ∀ q o, W2.heap.size ≤ q → BxN o → ¬ Mt q o := fun q o h hb => hGW q o (by have := hB1.size; have := hF2.size; omega) hb
    have hW2 : Below w0.heap.size w0 W2 := hW.trans ((hB1.mono hW.size).trans (hF2.below (Nat.le_trans hW.size hB1.size) hG0))
    have F2 : Frp Mt W W2 := (Frp.ofBelow hB1 Mt).trans hF2
    have hlen : ks.length = t.kids.length := by rw [← hks]; simp
    have HX := hide hxs
    have HK := hide hks
    have HE := hide hx
    unfold maxLen at hcm
    have hm' : (t.kids.length : Int) ≤ 9223372036854775807 := by omega
    have HZ : Hid (∀ u ∈ t.kids, deep + 1 + szT k u ≤ 1000000000) := fun u hu => by have := sz_kid hu; omega
    have hdp : deep ≤ 1000000000 := by omega
    clear hxs hks hx hB1 hF2 hy1 hY hd1
    obtain ⟨x0, x1, x2, x3, x4⟩ := l2.five
    generalize hnk : t.kids.length = nk at *
    gi_wp2_with fail
    gi_loopw [17] (fun i wr => ∃ j : Nat, j ≤ nk ∧ i = .int .i64 j ∧ J (pre ++ x :: ((ks.take j).map (·.2)).flatten) wr ∧ Frp Mt W2 wr) (fun i _ => nk - (intOf i).toNat)
    case atStart => exact ⟨0, Nat.zero_le _, rfl, by simpa using hJ2, Frp.refl _ _⟩
    case round =>
      obtain ⟨j, hj1, rfl, hJr, hFr⟩ := hrel
      have hWr : Below w0.heap.size w0 wr := hW2.trans (hFr.below hW2.size hG0)
      have hGr : ∀ q o, wr.heap.size ≤ q → BxN o → ¬ Mt q o := fun q o h hb => hGW2 q o (Nat.le_trans hFr.size h) hb
      by_cases hlt : j < nk
      · have hjk : j < ks.length := by omega
        obtain ⟨kb, koff, rfl, hkb, hun, _, C, hC5, hcell, hPk⟩ := hel.at hjk
        clear hun
        obtain ⟨z, ab', nb', cb', ac', nc', cc', ad', nd', cd', ae', ne', ce', rfl⟩ := rd_shape (pre_rd hPk)
        have y0 := (hWr.cell (p := ⟨kb, koff + j * 5, none⟩) hkb).trans (hcell 0 (by omega))
        have y1 := (hWr.cell (p := ⟨kb, koff + j * 5 + 1, none⟩) hkb).trans (hcell 1 (by omega))
        have y2 := (hWr.cell (p := ⟨kb, koff + j * 5 + 2, none⟩) hkb).trans (hcell 2 (by omega))
        have y3 := (hWr.cell (p := ⟨kb, koff + j * 5 + 3, none⟩) hkb).trans (hcell 3 (by omega))
        have y4 := (hWr.cell (p := ⟨kb, koff + j * 5 + 4, none⟩) hkb).trans (hcell 4 (by omega))
        simp only [List.getElem?_cons_zero, List.getElem?_cons_succ] at y0 y1 y2 y3 y4
        have hB3 : Below wr.heap.size wr (wr.alloc (.cells #[.int .i64 z, .slice ab' nb' cb', .slice ac' nc' cc', .slice ad' nd' cd', .slice ae' ne' ce'] 55)) := (Below.refl _ _).alloc (Nat.le_refl _) _
        have hmem : ks[j].1 ∈ t.kids := by rw [← unhide HK]; exact List.mem_map.2 ⟨ks[j], List.getElem_mem hjk, rfl⟩
        have hpre : (pre ++ x :: ((ks.take j).map (·.2)).flatten) ++ ks[j].2 <+: XS := by
          refine List.IsPrefix.trans ?_ hpx
          rw [unhide HX]
          obtain ⟨r, hr⟩ := flat_pre ks (j + 1)
          rw [flat_take ks j hjk] at hr
          exact ⟨r, by simp only [List.append_assoc, List.cons_append] at hr ⊢; rw [hr]⟩
        have hcall := H (deep + 1) _ _ _ _ _ ks[j].1 ks[j].2 hPk (n - 1) (pre ++ x :: ((ks.take j).map (·.2)).flatten) _ (hWr.trans (hB3.mono hWr.size)) (fun q o h hb => hGr q o (Nat.le_trans hB3.size h) hb) (hJ _ _ _ hJr (below_grown hB3)) hpre (by omega) (unhide HZ _ hmem)
        have HC := hide hcall
        have F3 := hFr.trans (Frp.ofBelow hB3 Mt)
        have hlt' : (j : Int) < (nk : Int) := by omega
        clear hcall hel hcell hPk hmem hpre hB3 hJr hJ2
        have HL := hide hlen
        have HNK := hide hnk
        clear hlen hnk
        gi_wp2
        refine ⟨trivial, (fun h => (by cases h)), ?_⟩
        refine (unhide HC).mono ?_
        rintro e W3 (⟨rfl, hJ3, hF3⟩ | ⟨rfl, q, hq, hx3⟩)
        · gi_wp2
          go_roundw
          case rel => exact ⟨j + 1, by omega, by go_num, by rw [flat_take ks j hjk, ← List.cons_append, ← List.append_assoc]; exact hJ3, F3.trans hF3⟩
          case measure => simp [intOf]; omega
        · gi_wp2
          go_ret
          refine .inr ⟨rfl, x :: ((ks.take j).map (·.2)).flatten ++ q, ?_, by rw [← List.append_assoc]; exact hx3⟩
          obtain ⟨r, hr⟩ := flat_pre ks (j + 1)
          obtain ⟨r', hr'⟩ := hq
          rw [flat_take ks j hjk, ← hr'] at hr
          exact ⟨r' ++ r, by rw [unhide HX, ← hr]; simp⟩
      · have e : j = nk := by omega
        subst e
        have HL := hide hlen
        clear hlen hel
        gi_wp2
        go_ret
        refine .inl ⟨rfl, ?_, F2.trans hFr⟩
        rw [unhide HX]
        rw [List.take_of_length_le (by have := unhide HL; omega)] at hJr
        exact hJr
  · gi_wp2_with fail
    go_ret
    exact .inr ⟨rfl, [x], by rw [hxs]; exact ⟨_, rfl⟩, hx2⟩

theorem walk_any (w0 : World) (l : Nat) (Mt : Nat → Obj → Prop) (hG0 : ∀ i o, i < w0.heap.size → ¬ Mt i o) (J Jx : List (It w0) → World → Prop) (XS : List (It w0)) (hJ : ∀ s W W', J s W → W.grownBy W' none → J s W')
    (hY : ∀ m pre x W, J pre W → pre ++ [x] <+: XS → YieldAt Fence.wide m Tryz.prog l (encIt x) W fun e W' =>
      (e = .returned (.bool true) ∧ J (pre ++ [x]) W' ∧ Frp Mt W W') ∨ (e = .returned (.bool false) ∧ Jx (pre ++ [x]) W')) (k : Nat) : WalkSaid w0 l Mt J Jx XS k := by
  induction k with
  | zero => exact fun _ _ _ _ _ _ t => t.elim
  | succ k ih => exact walk_succ w0 l Mt hG0 J Jx XS hJ hY k ih

set_option maxHeartbeats 1600000 in
/-- The function that nodesOf hands back: it hands on all nodes. q: the block of what it holds. -/
theorem nodes_hand (w0 w : World) (l q k : Nat) (Mt : Nat → Obj → Prop) (hG0 : ∀ i o, i < w0.heap.size → ¬ Mt i o) (a b c d e : Value) (t : Tr (k + 1)) (xs : List (It w0)) (hP : Pre w0 (k + 1) 1 [a, b, c, d, e] t xs) (hsz : szT (k + 1) t ≤ 2097152)
    (hw : Below w0.heap.size w0 w) (hl : Loc w q #[a, b, c, d, e] 55) : Hands Tryz.prog 172 #[.pointer (some ⟨q, 0, none⟩)] encIt BxN Mt xs l w := by
  intro J Jx hJ hY n W hW hGW h0
  have l1 := hl.all hW
  obtain ⟨z, ab, nb, cb, ac, nc, cc, ad, nd, cd, ae, ne, ce, hC⟩ := rd_shape (pre_rd hP)
  simp only [List.cons.injEq, and_true] at hC
  obtain ⟨rfl, rfl, rfl, rfl, rfl⟩ := hC
  have hc := walk_any w0 l Mt hG0 J Jx xs hJ hY (k + 1) 1 _ _ _ _ _ t xs hP (n - 1) [] W (hw.trans (hW.mono hw.size)) hGW h0 (by simp) (by omega) (by omega)
  obtain ⟨x0, x1, x2, x3, x4⟩ := l1.five
  have HC := hide hc
  clear hc hY hJ hP
  refine callsIn_of_wp Tryz.func172 rfl trivial ?_ rfl
  simp only [Tryz.ntmps172, List.size_toArray, List.length_cons, List.length_nil, Nat.reduceAdd, Nat.reduceSub, Array.replicate_succ, Array.replicate_zero, List.push_toArray, List.append_toArray, List.nil_append, List.cons_append]
  gi_wp2
  refine ⟨trivial, (fun h => (by cases h)), ?_⟩
  refine (unhide HC).mono ?_
  rintro e W3 (⟨rfl, hJ3, hF3⟩ | ⟨rfl, q, hq, hx3⟩)
  · gi_wp2
    go_end0
    exact ⟨⟨_, rfl⟩, .inl (by simpa using hJ3)⟩
  · gi_wp2
    go_end0
    exact ⟨⟨_, rfl⟩, .inr ⟨q, hq, by simpa using hx3⟩⟩

/-- impl.nodesOf: what it is given is boxed, and held by the function that it hands back. -/
theorem nodesOf_any (w : World) (z : Int) (ab ac ad ae : Option Addr) (nb cb nc cc nd cd ne ce : Nat) :
    Calls Tryz.prog 128 #[.agg #[.int .i64 z, .slice ab nb cb, .slice ac nc cc, .slice ad nd cd, .slice ae ne ce]] w fun e w' => e = .returned (.func (.func 172) #[] #[.pointer (some ⟨w.heap.size, 0, none⟩)]) ∧
      w' = w.alloc (.cells #[.int .i64 z, .slice ab nb cb, .slice ac nc cc, .slice ad nd cd, .slice ae ne ce] 55) := by
  have hmf : ∀ (fn : Fn) (first cap : Array Value) (w : World), (Instr.makeFunc fn first cap).run Tryz.prog w = .ok (.func fn first cap) w := fun _ _ _ _ => rfl
  go_enter Tryz.func128, Tryz.ntmps128
  go_wp2
  go_ret
  exact ⟨rfl, rfl⟩
end Go.Proofs.YtpijenlmfmknnaaGreatDoor

/- impl.NodeOk answers what the plain test says. -/
namespace Go.Proofs.YtpijenlmfmknnaaGreatDoor
open Go.RowKit Go.Shelf
set_option linter.unusedVariables false
set_option maxRecDepth 100000
attribute [local go_sem] Oper.semAt_some

theorem Loc.stay {W W' : World} {g D : Nat} {cs : Array Value} {T : TypeId} {row : Option Nat} (h : Loc W g cs T) (hg : W.grownBy W' row) (hr : ∀ r, row = some r → r = D ∨ r = D + 1) (h0 : g ≠ D) (h1 : g ≠ D + 1) : Loc W' g cs T :=
  (hg.block g h.lt (fun e => by rcases hr g e.symm with h | h; exact h0 h; exact h1 h)).trans h
theorem VSet.stay {W W' : World} {g D : Nat} {row : Option Nat} (h : VSet (D + 2) W g) (hg : W.grownBy W' row) (hr : ∀ r, row = some r → r = D ∨ r = D + 1) (h0 : g ≠ D) (h1 : g ≠ D + 1) : VSet (D + 2) W' g := by
  rcases h with h | ⟨m, hm, hl, hv⟩
  · exact .inl (h.stay hg hr h0 h1)
  · have hlt : m < W.heap.size := by
      by_cases h : m < W.heap.size
      · exact h
      · rw [Array.getElem?_eq_none (by omega)] at hv; cases hv
    exact .inr ⟨m, hm, hl.stay hg hr h0 h1, (hg.block m hlt (fun e => by rcases hr m e.symm with h | h <;> omega)).trans hv⟩
theorem below_stay {w W W' : World} {s D : Nat} {row : Option Nat} (h : Below s w W) (hs : s ≤ D) (hg : W.grownBy W' row) (hr : ∀ r, row = some r → r = D ∨ r = D + 1) (hsz : s ≤ W.heap.size) : Below s w W' :=
  h.grown hg hsz (fun r e => by rcases hr r e with h | h <;> omega)

theorem VSet.set {B : Nat} {V : World} {g p : Nat} {cs : Array Value} {T : TypeId} (h : VSet B V g) (hl : Loc V p cs T) (hne : g ≠ p) (j : Nat) (v : Value) : VSet B (V.setCell ⟨p, j, none⟩ v) g := by
  rcases h with h | ⟨m, hm, hg, hv⟩
  · exact .inl (h.other p j v hne)
  · have hmp : m ≠ p := fun e => by subst e; unfold Loc at hl; rw [hv] at hl; cases hl
    exact .inr ⟨m, hm, hg.other p j v hne, (heap_setCell_other V ⟨p, j, none⟩ m v hmp).trans hv⟩
theorem books_set (D : Nat) (V : World) (p j : Nat) (v : Value) (h0 : D ≠ p) (h1 : D + 1 ≠ p) : BooksSame D V (V.setCell ⟨p, j, none⟩ v) := ⟨heap_setCell_other V ⟨p, j, none⟩ D v h0, heap_setCell_other V ⟨p, j, none⟩ (D + 1) v h1⟩
theorem books_frm {D : Nat} {V V' : World} {S : List Nat} (f : Frm V V' S) (hl : D + 2 ≤ V.heap.size) (h0 : D ∉ S) (h1 : D + 1 ∉ S) : BooksSame D V V' := ⟨f.block D (by omega) h0, f.block (D + 1) (by omega) h1⟩
theorem BooksSame.trans {D : Nat} {A B C : World} (h : BooksSame D A B) (k : BooksSame D B C) : BooksSame D A C := ⟨k.1.trans h.1, k.2.trans h.2⟩
theorem scan_len {a : List (Int × Bool)} {left : Int} (h : (scan a left).1 = true) (h0 : 0 ≤ left) : (a.length : Int) ≤ left := by
  induction a generalizing left with
  | nil => simpa using h0
  | cons x r ih =>
    rw [scan] at h
    by_cases hc : left - 1 < 0 ∨ 20 < x.1 ∨ x.2 = false
    · rw [if_pos hc] at h; cases h
    · rw [if_neg hc] at h
      have := ih h (by omega)
      simp only [List.length_cons]
      omega
/-- A test more. -/
theorem scan_snoc {a : List (Int × Bool)} {x : Int × Bool} {n : Nat} (h : scan a 120 = (true, (120 : Int) - n)) : scan (a ++ [x]) 120 = if 120 < (n : Int) + 1 ∨ 20 < x.1 ∨ x.2 = false then (false, (120 : Int) - n - 1) else (true, (120 : Int) - n - 1) := by
  rw [scan_app, h]
  simp only [if_true, scan]
  have e : ((120 : Int) - n - 1 < 0 ∨ 20 < x.1 ∨ x.2 = false) ↔ (120 < (n : Int) + 1 ∨ 20 < x.1 ∨ x.2 = false) := by
    constructor
    · rintro (h | h)
      · exact .inl (by omega)
      · exact .inr h
    · rintro (h | h)
      · exact .inl (by omega)
      · exact .inr h
  simp only [e]

/-- Five new blocks, one behind the other. -/
theorem five_new (w : World) (A1 A2 A3 A4 A5 : Array Value) (T1 T2 T3 T4 T5 : TypeId) (W : World) (hW : W = ((((w.alloc (.cells A1 T1)).alloc (.cells A2 T2)).alloc (.cells A3 T3)).alloc (.cells A4 T4)).alloc (.cells A5 T5)) :
    Loc W (w.heap.size + 1) A2 T2 ∧ Loc W (w.heap.size + 1 + 1) A3 T3 ∧ Loc W (w.heap.size + 1 + 1 + 1) A4 T4 ∧ Loc W (w.heap.size + 1 + 1 + 1 + 1) A5 T5 ∧ W.heap.size = w.heap.size + 1 + 1 + 1 + 1 + 1 ∧ Below w.heap.size w W := by
  subst hW
  have m2 := Loc.made (w.alloc (.cells A1 T1)) A2 T2
  have m3 := Loc.made ((w.alloc (.cells A1 T1)).alloc (.cells A2 T2)) A3 T3
  have m4 := Loc.made (((w.alloc (.cells A1 T1)).alloc (.cells A2 T2)).alloc (.cells A3 T3)) A4 T4
  have m5 := Loc.made ((((w.alloc (.cells A1 T1)).alloc (.cells A2 T2)).alloc (.cells A3 T3)).alloc (.cells A4 T4)) A5 T5
  simp only [World.size_alloc] at m2 m3 m4 m5
  exact ⟨((m2.alloc _).alloc _).alloc _, (m3.alloc _).alloc _, m4.alloc _, m5, by simp, (((((Below.refl _ w).alloc (Nat.le_refl _) _).alloc (by simp) _).alloc (by simp; omega) _).alloc (by simp; omega) _).alloc (by simp; omega) _⟩

set_option maxHeartbeats 3200000 in
theorem nodeI_elem (k : Nat) (w : World) (a b c d e : Value) (t : Tr (k + 1)) (h : RdNode (k + 1) w [a, b, c, d, e] t) (hsz : szT (k + 1) t ≤ 2097152) (hz : t.kind = 0) :
    Calls Tryz.prog 91 #[.agg #[a, b, c, d, e]] w fun e w' => e = .returned (.bool (okN k t)) ∧ Below w.heap.size w w' := by
  have HO := hide (show okN k t = (scan (pn (k + 1) 1 t) 120).1 by unfold okN; rw [okT_scan]; simp [hz])
  obtain ⟨xs, hP⟩ := pre_ex w (k + 1) 1 [a, b, c, d, e] t h
  have HM := hide (pre_pn w (k + 1) 1 _ t xs hP)
  have hC : ∃ ab nb cb ac nc cc ad nd cd ae ne ce, [a, b, c, d, e] = [Value.int .i64 0, .slice ab nb cb, .slice ac nc cc, .slice ad nd cd, .slice ae ne ce] := by
    obtain ⟨_, _, _, _, e0, k1, k2, hb, hc, hd, he⟩ := h
    simp only [List.cons.injEq, and_true] at e0
    obtain ⟨rfl, rfl, rfl, rfl, rfl⟩ := e0
    obtain ⟨ab, cb, rfl, _, _⟩ := hb.shape
    obtain ⟨ac, cc, rfl, _, _⟩ := hc.shape
    obtain ⟨ad, cd, rfl, _, _⟩ := Elems.shape hd
    obtain ⟨ae, ce, rfl, _, _⟩ := Elems.shape he
    rw [hz]
    exact ⟨_, _, _, _, _, _, _, _, _, _, _, _, rfl⟩
  obtain ⟨ab, nb, cb, ac, nc, cc, ad, nd, cd, ae, ne, ce, hC⟩ := hC
  simp only [List.cons.injEq, and_true] at hC
  obtain ⟨rfl, rfl, rfl, rfl, rfl⟩ := hC
  have HP := hide hP
  have HH := hide h
  clear hP h hz
  refine (callsIn_wide (n := 5)).1 ?_
  refine callsIn_of_wp_marks Tryz.func91 rfl trivial ?_ rfl
  simp only [Tryz.ntmps91, List.size_toArray, List.length_cons, List.length_nil, Nat.reduceAdd, Nat.reduceSub, Array.replicate_succ, Array.replicate_zero, List.push_toArray, List.append_toArray, List.nil_append, List.cons_append]
  gi_wp2_with fail
  refine ⟨trivial, ?_⟩
  refine (callsIn_wide.2 (nodesOf_any _ _ _ _ _ _ _ _ _ _ _ _ _ _)).mono ?_
  rintro e W ⟨rfl, hW⟩
  obtain ⟨l1, l2, l3, l4, hsW, hBW⟩ := five_new w _ _ _ _ _ _ _ _ _ _ W hW
  clear hW
  simp only [World.size_alloc]
  obtain ⟨q1, q2, q3, q4, q5⟩ : w.heap.size < w.heap.size + 1 ∧ w.heap.size + 1 < w.heap.size + 1 + 1 ∧ w.heap.size + 1 + 1 < w.heap.size + 1 + 1 + 1 ∧ w.heap.size + 1 + 1 + 1 < w.heap.size + 1 + 1 + 1 + 1 ∧ w.heap.size + 1 + 1 + 1 + 1 < W.heap.size := by omega
  clear hsW
  generalize w.heap.size + 1 + 1 + 1 + 1 = p4 at *
  generalize w.heap.size + 1 + 1 + 1 = p3 at *
  generalize w.heap.size + 1 + 1 = p2 at *
  generalize w.heap.size + 1 = p1 at *
  gi_wp2_with fail
  refine range_law (gf := 172) (lb := #[.pointer (some ⟨p4, 0, none⟩)]) (Bx := BxN) (Mt := fun i _ => i ∈ [p1, p2, p3, W.heap.size + 1]) (xs := xs) (encs := encIt) rfl (enters_of Tryz.func172 (by kernel_rfl) rfl) (fun _ => by simp) (fun q o hq _ hm => by simp at hm; omega)
    (nodes_hand w W _ p4 k _ (fun i o hi hm => by simp at hm; omega) _ _ _ _ _ t xs (unhide HP) hsz hBW l4) (fun _ => rfl)
    (fun pre V => Loc V p3 #[.int .i64 (pre.length : Nat)] 3 ∧ Loc V p1 #[.bool false] 4 ∧ VSet (W.heap.size + 2) V p2 ∧ Below w.heap.size w V ∧ scan (pre.map tst) 120 = (true, (120 : Int) - (pre.length : Nat)))
    (fun pre V => Loc V p1 #[.bool false] 4 ∧ Below w.heap.size w V ∧ (scan (pre.map tst) 120).1 = false)
    (fun pre A B row hs hg hr => ⟨hs.1.stay hg hr (by omega) (by omega), hs.2.1.stay hg hr (by omega) (by omega), hs.2.2.1.stay hg hr (by omega) (by omega), below_stay hs.2.2.2.1 (by omega) hg hr hs.2.2.2.1.size, hs.2.2.2.2⟩)
    (fun pre A B row hs hg hr => ⟨hs.1.stay hg hr (by omega) (by omega), below_stay hs.2.1 (by omega) hg hr hs.2.1.size, hs.2.2⟩)
    ⟨l3, l1, .inl l2, hBW, rfl⟩
    (fun x a' V => ∃ q, W.heap.size + 1 < q ∧ Loc V q #[x.a, x.b, x.c, x.d, x.e] 55 ∧ a' = { tmps := #[.agg #[.int .i64 0, .slice ab nb cb, .slice ac nc cc, .slice ad nd cd, .slice ae ne ce], .pointer (some ⟨w.heap.size, 0, none⟩), .pointer (some ⟨p1, 0, none⟩), .pointer (some ⟨p2, 0, none⟩), .pointer (some ⟨p3, 0, none⟩), .int .i64 x.deep, .pointer (some ⟨q, 0, none⟩), .pointer (some ⟨w.heap.size, 0, none⟩), .int .i64 0, .bool false, .agg #[.int .i64 0, .slice ab nb cb, .slice ac nc cc, .slice ad nd cd, .slice ae ne ce], .func (.func 172) #[] #[.pointer (some ⟨p4, 0, none⟩)], .int .i64 x.deep, .agg #[x.a, x.b, x.c, x.d, x.e], undef, undef, undef, undef, undef, undef, undef, undef, undef, undef, undef, undef, undef], defers := [] })
    (fun x a' u A B row hs hg hr => by obtain ⟨q, h1, h2, h3⟩ := hs; exact ⟨q, h1, h2.stay hg hr (by omega) (by omega), h3⟩)
    ?assign ?body ?done ?stop
  case assign =>
    intro pre x V K hi hV2 hK
    obtain ⟨deep, a, b, c, d, e, m, u, rd⟩ := x
    obtain ⟨z, ab', nb', cb', ac', nc', cc', ad', nd', cd', ae', ne', ce', hC⟩ := rd_shape rd
    simp only [List.cons.injEq, and_true] at hC
    obtain ⟨rfl, rfl, rfl, rfl, rfl⟩ := hC
    simp only [encIt] at hK ⊢
    gi_wp2
    exact hK _ _ ((Below.refl _ _).alloc (Nat.le_refl _) _) ⟨V.heap.size, by omega, Loc.made V _ _, rfl⟩
  case body =>
    rintro pre x a' V ⟨i3, i1, iV, iB, iS⟩ ⟨q, hq, lq, rfl⟩ hpx hsz2
    obtain ⟨deep, a, b, c, d, e, m, u, rd⟩ := x
    have HI := hide (And.intro i3 (And.intro i1 (And.intro iV (And.intro iB iS))))
    have HR := hide rd
    obtain ⟨z, ab', nb', cb', ac', nc', cc', ad', nd', cd', ae', ne', ce', hC⟩ := rd_shape rd
    simp only [List.cons.injEq, and_true] at hC
    obtain ⟨rfl, rfl, rfl, rfl, rfl⟩ := hC
    have hlen : pre.length ≤ 120 := by
      have := scan_len (a := pre.map tst) (left := 120) (by rw [iS]) (by omega)
      simp at this
      omega
    have c3 : V.cell? ⟨p3, 0, none⟩ = some (.int .i64 (pre.length : Nat)) := i3.cell 0
    have f3 := i3.frozen 0
    have c1 : V.cell? ⟨p1, 0, none⟩ = some (.bool false) := i1.cell 0
    have f1 := i1.frozen 0
    simp only at lq
    obtain ⟨x0, x1, x2, x3, x4⟩ := lq.five
    have hsn := scan_snoc (x := tst (⟨deep, .int .i64 z, .slice ab' nb' cb', .slice ac' nc' cc', .slice ad' nd' cd', .slice ae' ne' ce', m, u, rd⟩ : It w)) iS
    have HS := hide hsn
    clear hsn iS i3 i1 iV iB
    generalize hn : pre.length = n at *
    have HN := hide hn
    clear hn
    have hn1 : 0 ≤ (n : Int) + 1 := by omega
    have hBk : BooksSame W.heap.size V ((V.setCell ⟨p3, 0, none⟩ (.int .i64 ((n : Int) + 1))).setCell ⟨p1, 0, none⟩ (.bool false)) := (books_set W.heap.size V p3 0 _ (by omega) (by omega)).trans (books_set W.heap.size _ p1 0 _ (by omega) (by omega))
    by_cases h1 : 120 < (n : Int) + 1
    · gi_wp2
      refine ⟨trivial, ?_⟩
      gi_wp2
      obtain ⟨i3, i1, iV, iB, iS⟩ := unhide HI
      refine ⟨hBk, (i1.other p3 0 _ (by omega)).set 0 (.bool false), (iB.setCell (p := ⟨p3, 0, none⟩) (by show w.heap.size ≤ p3; omega) _).setCell (p := ⟨p1, 0, none⟩) (by show w.heap.size ≤ p1; omega) _, ?_⟩
      rw [List.map_append, List.map_cons, List.map_nil, unhide HS, if_pos (.inl h1)]
    · by_cases h2 : 20 < deep
      · gi_wp2
        refine ⟨trivial, ?_⟩
        gi_wp2
        obtain ⟨i3, i1, iV, iB, iS⟩ := unhide HI
        refine ⟨hBk, (i1.other p3 0 _ (by omega)).set 0 (.bool false), (iB.setCell (p := ⟨p3, 0, none⟩) (by show w.heap.size ≤ p3; omega) _).setCell (p := ⟨p1, 0, none⟩) (by show w.heap.size ≤ p1; omega) _, ?_⟩
        rw [List.map_append, List.map_cons, List.map_nil, unhide HS, if_pos (.inr (.inl h2))]
      · have hcall : Calls Tryz.prog 104 #[.agg #[.int .i64 z, .slice ab' nb' cb', .slice ac' nc' cc', .slice ad' nd' cd', .slice ae' ne' ce'], .pointer (some ⟨p2, 0, none⟩)] (V.setCell ⟨p3, 0, none⟩ (.int .i64 ((n : Int) + 1))) fun e w' => e = .returned (.bool (partB u)) ∧ VSet (W.heap.size + 2) w' p2 ∧ Frm (V.setCell ⟨p3, 0, none⟩ (.int .i64 ((n : Int) + 1))) w' [p2] := by
          obtain ⟨i3, i1, iV, iB, iS⟩ := unhide HI
          exact partI_any (W.heap.size + 2) m w _ _ _ _ _ _ u p2 (unhide HR) (iB.setCell (p := ⟨p3, 0, none⟩) (by show w.heap.size ≤ p3; omega) _) (by omega) (iV.set i3 (by omega) 0 _) (by simpa using hsz2)
        have HC := hide hcall
        clear hcall
        gi_wp2
        refine ⟨trivial, ?_⟩
        refine (CallsIn.inRound (F := Fence.wide) (W.heap.size + 1) (callsIn_wide.2 (unhide HC))).mono ?_
        rintro e V2 ⟨rfl, hV2, F2⟩
        have HA : Hid (Loc V2 p3 #[.int .i64 ((n : Int) + 1)] 3 ∧ Loc V2 p1 #[.bool false] 4 ∧ Below w.heap.size w V2 ∧ BooksSame W.heap.size V V2 ∧ Frm V V2 [p1, p2, p3, W.heap.size + 1]) := by
          obtain ⟨i3, i1, iV, iB, iS⟩ := unhide HI
          have iB1 := iB.setCell (p := ⟨p3, 0, none⟩) (by show w.heap.size ≤ p3; omega) (.int .i64 ((n : Int) + 1))
          refine ⟨(i3.set 0 _).frm F2 (by simp; omega), (i1.other p3 0 _ (by omega)).frm F2 (by simp; omega), iB1.trans (F2.below iB1.size (fun g hg => by simp at hg; omega)), (books_set W.heap.size V p3 0 _ (by omega) (by omega)).trans (books_frm F2 (by simpa using hsz2) (by simp; omega) (by simp; omega)), ?_⟩
          exact ((Frm.set V p3 0 _).mono (fun g hg => by simp at hg; simp [hg])).trans (F2.mono (fun g hg => by simp at hg; simp [hg]))
        have c1 : V2.cell? ⟨p1, 0, none⟩ = some (.bool false) := (unhide HA).2.1.cell 0
        have f1 := (unhide HA).2.1.frozen 0
        clear x0 x1 x2 x3 x4 c3 f3
        by_cases hb : partB u = true
        · rw [hb]
          gi_wp2
          obtain ⟨a3, a1, aB, aK, aF⟩ := unhide HA
          refine ⟨aK, Frp.ofFrm aF (fun g hg _ _ => hg), ?_, a1, hV2, aB, ?_⟩
          · have e : ((pre ++ [(⟨deep, .int .i64 z, .slice ab' nb' cb', .slice ac' nc' cc', .slice ad' nd' cd', .slice ae' ne' ce', m, u, rd⟩ : It w)]).length : Int) = (n : Int) + 1 := by rw [List.length_append, unhide HN]; simp
            rw [e]; exact a3
          · rw [List.map_append, List.map_cons, List.map_nil, unhide HS, if_neg (by simp only [tst, hb]; simp; omega)]
            rw [List.length_append, unhide HN]
            simp
            omega
        · have hb' : partB u = false := by simpa using hb
          rw [hb']
          gi_wp2
          obtain ⟨a3, a1, aB, aK, aF⟩ := unhide HA
          refine ⟨aK.trans (books_set W.heap.size _ p1 0 _ (by omega) (by omega)), a1.set 0 (.bool false), aB.setCell (p := ⟨p1, 0, none⟩) (by show w.heap.size ≤ p1; omega) _, ?_⟩
          rw [List.map_append, List.map_cons, List.map_nil, unhide HS, if_pos (.inr (.inr hb'))]
  case done =>
    rintro V ⟨i3, i1, iV, iB, iS⟩ hD
    have c1 : V.cell? ⟨p1, 0, none⟩ = some (.bool false) := i1.cell 0
    have f1 := i1.frozen 0
    have HF := hide (show okN k t = true by rw [unhide HO, ← unhide HM, iS])
    clear iS
    gi_wp2
    have hD' : (V.setCell ⟨p1, 0, none⟩ (.bool true)).heap[W.heap.size]? = some (.deferred (some [])) := (heap_setCell_other V ⟨p1, 0, none⟩ _ _ (by show W.heap.size ≠ p1; omega)).trans hD
    refine ⟨by simp, .inl ⟨_, _, rfl, run_takeDeferred hD', ?_⟩⟩
    have lE : Loc ((V.setCell ⟨p1, 0, none⟩ (.bool true)).putObj W.heap.size (.deferred none)) p1 #[.bool true] 4 := (i1.set 0 (.bool true)).stay (grownBy_putObj' _ _ _) (fun r e => by cases e; exact .inl rfl) (by omega) (by omega)
    have c5 : ((V.setCell ⟨p1, 0, none⟩ (.bool true)).putObj W.heap.size (.deferred none)).cell? ⟨p1, 0, none⟩ = some (.bool true) := lE.cell 0
    refine ⟨.bool true, ?_, by rw [unhide HF], below_stay (iB.setCell (p := ⟨p1, 0, none⟩) (by show w.heap.size ≤ p1; omega) _) (D := W.heap.size) (by omega) (grownBy_putObj' _ _ _) (fun r e => by cases e; exact .inl rfl) (by simpa using iB.size)⟩
    simp [results, Tryz.f91, go_sem, c5]
  case stop =>
    rintro pre V hpre ⟨i1, iB, iS⟩ hD
    have HF := hide (show okN k t = false by rw [unhide HO, ← unhide HM]; exact scan_no iS (hpre.map _))
    clear iS
    gi_wp2
    refine ⟨by simp, .inl ⟨_, _, rfl, run_takeDeferred hD, ?_⟩⟩
    have lE : Loc (V.putObj W.heap.size (.deferred none)) p1 #[.bool false] 4 := i1.stay (grownBy_putObj' _ _ _) (fun r e => by cases e; exact .inl rfl) (by omega) (by omega)
    have c5 : (V.putObj W.heap.size (.deferred none)).cell? ⟨p1, 0, none⟩ = some (.bool false) := lE.cell 0
    refine ⟨.bool false, ?_, by rw [unhide HF], below_stay iB (D := W.heap.size) (by omega) (grownBy_putObj' _ _ _) (fun r e => by cases e; exact .inl rfl) iB.size⟩
    simp [results, Tryz.f91, go_sem, c5]

theorem nodeI_none (k : Nat) (w : World) (a b c d e : Value) (t : Tr (k + 1)) (h : RdNode (k + 1) w [a, b, c, d, e] t) (hz : t.kind ≠ 0) :
    Calls Tryz.prog 91 #[.agg #[a, b, c, d, e]] w fun e w' => e = .returned (.bool (okN k t)) ∧ Below w.heap.size w w' := by
  have HO := hide (show okN k t = false by unfold okN; simp [hz])
  obtain ⟨_, _, _, _, e0, k1, k2, hb, hc, hd, he⟩ := h
  simp only [List.cons.injEq, and_true] at e0
  obtain ⟨rfl, rfl, rfl, rfl, rfl⟩ := e0
  obtain ⟨ab, cb, rfl, _, _⟩ := hb.shape
  obtain ⟨ac, cc, rfl, _, _⟩ := hc.shape
  obtain ⟨ad, cd, rfl, _, _⟩ := Elems.shape hd
  obtain ⟨ae, ce, rfl, _, _⟩ := Elems.shape he
  have d0 : (t.kind != 0) = true := by simpa using hz
  clear hb hc hd he
  generalize t.kind = z at *
  generalize t.name.length = nb at *
  generalize t.text.length = nc at *
  generalize t.attrs.length = nd at *
  generalize t.kids.length = ne at *
  go_enter Tryz.func91, Tryz.ntmps91
  go_wp2_with fail
  refine bodyPost_ret (v := .bool false) (by simp [results, Tryz.results91, go_sem]) rfl ⟨by rw [unhide HO], ?_⟩
  exact ((Below.refl _ _).alloc (Nat.le_refl _) _).alloc (by simp) _

/-- impl.NodeOk. -/
theorem nodeI_any (k : Nat) (w : World) (a b c d e : Value) (t : Tr (k + 1)) (h : RdNode (k + 1) w [a, b, c, d, e] t) (hsz : szT (k + 1) t ≤ 2097152) :
    Calls Tryz.prog 91 #[.agg #[a, b, c, d, e]] w fun e w' => e = .returned (.bool (okN k t)) ∧ Below w.heap.size w w' := by
  by_cases hz : t.kind = 0
  · exact nodeI_elem k w a b c d e t h hsz hz
  · exact nodeI_none k w a b c d e t h hz
end Go.Proofs.YtpijenlmfmknnaaGreatDoor

/- The reckoner's hook for NodeOk: the tree is read out of the store; the contract of NodeOk tells the rest. -/
namespace Go.Proofs.YtpijenlmfmknnaaGreatDoor
open Go.RowKit
set_option linter.unusedVariables false

theorem HR.still {w0 w w' : World} {B : Nat} {ρ : Rn} {h : Hf} (H : HR w0 B ρ h w) (hb : Below w.heap.size w w') : HR w0 B ρ h w' := by
  have hB : B ≤ w.heap.size := Nat.le_trans H.base H.below.size
  refine ⟨H.below.trans (hb.mono hB), H.base, fun id o e => (H.obj id o e).same fun p hp => ?_, H.sep, H.own, H.glo⟩
  obtain ⟨q, hq, hlt⟩ := (H.obj id o e).place
  rw [hp] at hq; cases hq
  exact hb.block _ hlt

/-- Bytes as numbers. -/
def intsOf : List Value → Option (List Int)
  | [] => some []
  | .int .u8 n :: l => match decide (0 ≤ n ∧ n ≤ 255), intsOf l with
    | true, some k => some (n :: k)
    | _, _ => none
  | _ => none
def bytesK (v : Value) : M (List Int) := match v with
  | .slice none 0 0 => mpure []
  | .slice (some a) n _ => match Nat.beq n 0 with
    | true => mpure []
    | false => match Nat.ble n 4096 with
      | true => mbind (mload a n) fun vs => match intsOf vs with
        | some l => mpure l
        | none => mfail
      | false => mfail
  | _ => mfail
def emptyK (v : Value) : Bool := match v with
  | .slice none 0 0 => true
  | .slice (some _) 0 _ => true
  | _ => false
/-- The cells of n elements of five cells. -/
def fives : Nat → List Value → List (List Value)
  | 0, _ => []
  | n + 1, l => l.take 5 :: fives n (l.drop 5)
def allK {α : Type} (F : List Value → M α) : List (List Value) → M (List α)
  | [] => mpure []
  | C :: l => mbind (F C) fun t => mbind (allK F l) fun ts => mpure (t :: ts)
def kidsK {α : Type} (F : List Value → M α) (v : Value) : M (List α) := match v with
  | .slice none 0 0 => mpure []
  | .slice (some a) n _ => match Nat.beq n 0 with
    | true => mpure []
    | false => match Nat.ble n 4096 with
      | true => mbind (mload a (n * 5)) fun vs => allK F (fives n vs)
      | false => mfail
  | _ => mfail
def treeK : (k : Nat) → List Value → M (Tr k)
  | 0, _ => mfail
  | k + 1, C => match C with
    | [.int .i64 kd, a, b, c, d] => match decide (-9223372036854775808 ≤ kd ∧ kd ≤ 9223372036854775807) && emptyK c with
      | true => mbind (bytesK a) fun nm => mbind (bytesK b) fun tx => mbind (kidsK (treeK k) d) fun ks => mpure ({ kind := kd, name := nm, text := tx, attrs := [], kids := ks } : Nd (Tr k))
      | false => mfail
    | _ => mfail
def nodeK (C : List Value) : M Value := mbind (treeK 5 C) fun t => match Nat.ble (szT 5 t) 2097152 with
  | true => forceB (okN 4 t) fun b => mpure (.bool b)
  | false => mfail
def hookN : Hook := fun f args => match f, args with
  | 91, [.agg ⟨C⟩] => some (asCall (nodeK C))
  | _, _ => none

theorem good_bytesK (v : Value) : Good (bytesK v) := by
  unfold bytesK
  repeat' (first | exact good_pure _ | exact good_fail | (refine good_bind (good_mload _ _) fun _ => ?_) | split)
theorem good_allK {α : Type} {F : List Value → M α} (hF : ∀ C, Good (F C)) : ∀ l, Good (allK F l)
  | [] => good_pure _
  | C :: l => good_bind (hF C) fun _ => good_bind (good_allK hF l) fun _ => good_pure _
theorem good_kidsK {α : Type} {F : List Value → M α} (hF : ∀ C, Good (F C)) (v : Value) : Good (kidsK F v) := by
  unfold kidsK
  repeat' (first | exact good_pure _ | exact good_fail | exact good_allK hF _ | (refine good_bind (good_mload _ _) fun _ => ?_) | split)
theorem good_treeK : ∀ k C, Good (treeK k C)
  | 0, C => by unfold treeK; exact good_fail
  | k + 1, C => by
    unfold treeK
    split
    · split
      · exact good_bind (good_bytesK _) fun _ => good_bind (good_bytesK _) fun _ => good_bind (good_kidsK (good_treeK k) _) fun _ => good_pure _
      · exact good_fail
    · exact good_fail
theorem good_nodeK (C : List Value) : Good (nodeK C) := by
  refine good_bind (good_treeK 5 C) fun t => ?_
  split
  · rw [forceB_eq]; exact good_pure _
  · exact good_fail

section
variable {w0 w : World} {B : Nat} {ρ : Rn}
theorem intsOf_rel : ∀ (vs : List Value) (l : List Int) (vs' : List Value), intsOf vs = some l → LR (VL ρ) vs vs' → okB l ∧ vs' = vals l ∧ l.length = vs.length
  | [], l, vs', h, hl => by
    cases h
    have : vs' = [] := hl
    exact ⟨okB_nil, this, rfl⟩
  | v :: vs, l, _, h, ⟨v', t, e, hv, ht⟩ => by
    unfold intsOf at h
    split at h
    · rename_i heq; cases heq
    · rename_i n r heq
      cases heq
      split at h
      · rename_i k hd hk
        cases h
        obtain ⟨h1, h2, h3⟩ := intsOf_rel _ k t hk ht
        have hd := of_decide_eq_true hd
        refine ⟨fun x hx => ?_, ?_, by simp [h3]⟩
        · cases hx with
          | head => exact hd
          | tail _ hx => exact h1 x hx
        · rw [e, VL.int.1 hv, h2]; rfl
      · cases h
    · cases h
/-- A row that was looked at. -/
theorem row_seen {a : Addr} {m n c : Nat} {v' : Value} {vs : List Value} {s s' : Hp} (H : HR w0 B ρ s.f w) (hv : VL ρ (.slice (some a) m c) v') (hm : m ≠ 0) (ht : Tells (mload a n) s vs s') :
    ∃ b off c', v' = .slice (some ⟨b, off, none⟩) m c' ∧ m ≤ c' ∧ c' ≤ 9223372036854775807 ∧ b < w.heap.size ∧ vs.length = n ∧ s'.f = s.f ∧ s'.n = s.n ∧
      ∃ vs', LR (VL ρ) vs vs' ∧ ∀ (i : Nat) x', vs'[i]? = some x' → w.cell? ⟨b, off + i, none⟩ = some x' := by
  obtain ⟨hsp, hlc, p, hp, a', c', e1, e2, e3, e4⟩ := VL.slice.1 hv
  obtain ⟨b, off, cs, t, fl, rfl, f1, f2, f3, g1, g2⟩ := tells_load ht
  have ha := e3 (by omega)
  obtain ⟨q, hq, q2, q3, q4, c2, el2, fz2, q5, q6, q7, q8⟩ := H.obj b _ f1
  rw [show (ρ b = some p) from hp] at hq
  cases hq
  have hsz : p.sz = cs.length := q2
  have hvl : vs.length = n := by rw [f3, List.length_take, List.length_drop]; omega
  refine ⟨p.blk, p.off + off, c', by rw [e1, ha], by omega, e4, ?_, hvl, g1, g2, (c2.toList.drop (p.off + off)).take n, LR.of ?_ fun i x x' hx hx' => ?_, fun i x' hx' => ?_⟩
  · rcases Nat.lt_or_ge p.blk w.heap.size with h | h
    · exact h
    · rw [Array.getElem?_eq_none h] at q5; cases q5
  · rw [List.length_take, List.length_drop, Array.length_toList, hvl]; omega
  · rw [List.getElem?_take] at hx'
    split at hx'
    · rename_i hi
      rw [List.getElem?_drop, Array.getElem?_toList] at hx'
      have hx2 : cs[off + i]? = some x := by
        rw [← hx, f3, List.getElem?_take, if_pos hi, List.getElem?_drop]
      obtain ⟨y, h1, h2⟩ := q8 (off + i) _ (by simpa using hx2)
      rw [show p.off + (off + i) = p.off + off + i by omega, hx'] at h1
      cases h1; exact h2
    · cases hx'
  · rw [List.getElem?_take] at hx'
    split at hx'
    · rw [List.getElem?_drop, Array.getElem?_toList] at hx'
      rw [cell_at q5]; exact hx'
    · cases hx'
theorem max_le {c : Nat} (h : c ≤ 9223372036854775807) : c ≤ maxLen := Nat.le_trans h (by decide)
theorem bytes_rel {v v' : Value} {l : List Int} {s s' : Hp} (H : HR w0 B ρ s.f w) (hv : VL ρ v v') (ht : Tells (bytesK v) s l s') : Byt w v' l ∧ s'.f = s.f ∧ s'.n = s.n := by
  unfold bytesK at ht
  split at ht
  · obtain ⟨rfl, rfl⟩ := tells_pure ht
    obtain ⟨_, _, e⟩ := VL.nils.1 hv
    exact ⟨⟨okB_nil, by simp, .inl ⟨e, rfl⟩⟩, rfl, rfl⟩
  · rename_i a n c
    split at ht
    · rename_i hn
      have hn := Nat.eq_of_beq_eq_true hn
      subst hn
      obtain ⟨rfl, rfl⟩ := tells_pure ht
      obtain ⟨hsp, hlc, p, hp, a', c', e1, e2, e3, e4⟩ := VL.slice.1 hv
      exact ⟨⟨okB_nil, by simp, .inr (.inl ⟨a', c', e1, max_le e4, rfl⟩)⟩, rfl, rfl⟩
    · rename_i hn
      have hn : n ≠ 0 := fun h => by subst h; cases hn
      split at ht
      · rename_i hle
        have hle := Nat.le_of_ble_eq_true hle
        obtain ⟨vs, s1, k1, k2, _⟩ := tells_bind (good_mload _ _) ht
        obtain ⟨b, off, c', e1, e2, e3, e4, hvl, g1, g2, vs', hr1, hr2⟩ := row_seen H hv hn k1
        split at k2
        · rename_i k hk
          obtain ⟨rfl, rfl⟩ := tells_pure k2
          obtain ⟨h1, h2, h3⟩ := intsOf_rel vs l vs' hk hr1
          have hln : l.length = n := by omega
          refine ⟨⟨h1, max_le (by omega), .inr (.inr ⟨b, off, c', by rw [e1, hln], by omega, max_le e3, fun h0 => ?_, e4, fun i hi => ?_⟩)⟩, g1, g2⟩
          · rw [h0] at hln; exact hn hln.symm
          · exact hr2 i _ (by rw [h2]; exact vals_at hi)
        · exact (tells_fail k2).elim
      · exact (tells_fail ht).elim
  · exact (tells_fail ht).elim
/-- Elements, one by one. -/
theorem all_rel {α : Type} {F : List Value → M α} {R : List Value → α → Prop} (hF : ∀ C, Good (F C)) (hR : ∀ C C' t (s s' : Hp), HR w0 B ρ s.f w → LR (VL ρ) C C' → Tells (F C) s t s' → R C' t ∧ s'.f = s.f ∧ s'.n = s.n) :
    ∀ (n : Nat) (vs vs' : List Value) (ts : List α) (s s' : Hp), HR w0 B ρ s.f w → LR (VL ρ) vs vs' → Tells (allK F (fives n vs)) s ts s' → ts.length = n ∧ s'.f = s.f ∧ s'.n = s.n ∧ ∀ i (hi : i < ts.length), R ((vs'.drop (5 * i)).take 5) ts[i]
  | 0, vs, vs', ts, s, s', H, hv, ht => by
    unfold fives allK at ht
    obtain ⟨rfl, rfl⟩ := tells_pure ht
    exact ⟨rfl, rfl, rfl, fun i hi => by simp at hi⟩
  | n + 1, vs, vs', ts, s, s', H, hv, ht => by
    unfold fives allK at ht
    obtain ⟨t, s1, k1, k2, _⟩ := tells_bind (hF _) ht
    obtain ⟨us, s2, k3, k4, _⟩ := tells_bind (good_allK hF _) k2
    obtain ⟨rfl, rfl⟩ := tells_pure k4
    obtain ⟨r1, r2, r3⟩ := hR _ _ t s s1 H (hv.take 5) k1
    obtain ⟨q1, q2, q3, q4⟩ := all_rel hF hR n _ _ us s1 _ (by rw [r2]; exact H) (hv.drop 5) k3
    refine ⟨by simp [q1], q2.trans r2, q3.trans r3, fun i hi => ?_⟩
    cases i with
    | zero => simpa using r1
    | succ i =>
      have := q4 i (by simpa using hi)
      rw [List.drop_drop] at this
      simp only [List.getElem_cons_succ]
      rw [show 5 * (i + 1) = 5 + 5 * i by omega]
      exact this
theorem tree_rel : ∀ (k : Nat) (C C' : List Value) (t : Tr k) (s s' : Hp), HR w0 B ρ s.f w → LR (VL ρ) C C' → Tells (treeK k C) s t s' → RdNode k w C' t ∧ s'.f = s.f ∧ s'.n = s.n
  | 0, C, C', t, s, s', H, hl, ht => t.elim
  | k + 1, C, C', t, s, s', H, hl, ht => by
    unfold treeK at ht
    split at ht
    · rename_i kd a b c d
      split at ht
      · rename_i hc
        rw [Bool.and_eq_true] at hc
        have hkd := of_decide_eq_true hc.1
        obtain ⟨x0, t0, e0, h0, a', t1, e1, ha, b', t2, e2, hb, c', t3, e3, hcc, d', t4, e4, hd, e5⟩ := hl
        have e5 : t4 = [] := e5
        subst e5 e4 e3 e2 e1 e0
        rw [VL.int.1 h0]
        obtain ⟨nm, s1, k1, k2, _⟩ := tells_bind (good_bytesK _) ht
        obtain ⟨tx, s2, k3, k4, _⟩ := tells_bind (good_bytesK _) k2
        obtain ⟨ks, s3, k5, k6, _⟩ := tells_bind (good_kidsK (good_treeK k) _) k4
        obtain ⟨rfl, rfl⟩ := tells_pure k6
        obtain ⟨n1, n2, n3⟩ := bytes_rel H ha k1
        have H1 : HR w0 B ρ s1.f w := by rw [n2]; exact H
        obtain ⟨x1, x2, x3⟩ := bytes_rel H1 hb k3
        have H2 : HR w0 B ρ s2.f w := by rw [x2]; exact H1
        have hat : RdAttrs w c' [] := by
          have hc2 := hc.2
          unfold emptyK at hc2
          split at hc2
          · obtain ⟨_, _, e⟩ := VL.nils.1 hcc
            exact ⟨by simp, .inl ⟨e, rfl⟩⟩
          · obtain ⟨_, _, p, _, a2, c2, e, _, _, e4⟩ := VL.slice.1 hcc
            exact ⟨by simp, .inr (.inl ⟨a2, c2, e, max_le e4, rfl⟩)⟩
          · cases hc2
        have hkid : Elems w 5 d' ks (RdNode k w) ∧ s'.f = s2.f ∧ s'.n = s2.n := by
          unfold kidsK at k5
          split at k5
          · obtain ⟨rfl, rfl⟩ := tells_pure k5
            obtain ⟨_, _, e⟩ := VL.nils.1 hd
            exact ⟨⟨by simp, .inl ⟨e, rfl⟩⟩, rfl, rfl⟩
          · rename_i da n dc
            split at k5
            · rename_i hn
              have hn := Nat.eq_of_beq_eq_true hn
              subst hn
              obtain ⟨rfl, rfl⟩ := tells_pure k5
              obtain ⟨_, _, p, _, a2, c2, e, _, _, e4⟩ := VL.slice.1 hd
              exact ⟨⟨by simp, .inr (.inl ⟨a2, c2, e, max_le e4, rfl⟩)⟩, rfl, rfl⟩
            · rename_i hn
              have hn : n ≠ 0 := fun h => by subst h; cases hn
              split at k5
              · rename_i hle
                have hle := Nat.le_of_ble_eq_true hle
                obtain ⟨vs, s4, j1, j2, _⟩ := tells_bind (good_mload _ _) k5
                obtain ⟨bb, off, c2, e1, e2, e3, e4, hvl, g1, g2, vs', hr1, hr2⟩ := row_seen H2 hd hn j1
                obtain ⟨q1, q2, q3, q4⟩ := all_rel (w := w) (w0 := w0) (B := B) (ρ := ρ) (R := RdNode k w) (good_treeK k) (fun C C' t s s' H hl ht => tree_rel k C C' t s s' H hl ht) n vs vs' ks s4 s' (by rw [g1]; exact H2) hr1 j2
                have hlen' : vs'.length = n * 5 := by rw [hr1.len, hvl]
                refine ⟨⟨max_le (by omega), .inr (.inr ⟨bb, off, c2, by rw [e1, q1], by omega, max_le e3, fun h0 => ?_, e4, fun i hi => ⟨(vs'.drop (5 * i)).take 5, ?_, fun j hj => ?_, q4 i hi⟩⟩)⟩, q2.trans g1, q3.trans g2⟩
                · rw [h0] at q1; exact hn q1.symm
                · rw [List.length_take, List.length_drop]; omega
                · have hx : vs'[5 * i + j]? = some vs'[5 * i + j] := List.getElem?_eq_getElem (by omega)
                  rw [List.getElem?_take, if_pos hj, List.getElem?_drop, hx]
                  have := hr2 (5 * i + j) _ hx
                  rw [← this]
                  congr 2
                  omega
              · exact (tells_fail k5).elim
          · exact (tells_fail k5).elim
        exact ⟨⟨a', b', c', d', rfl, hkd.1, hkd.2, n1, x1, hat, hkid.1⟩, by rw [hkid.2.1, x2, n2], by rw [hkid.2.2, x3, n3]⟩
      · exact (tells_fail ht).elim
    · exact (tells_fail ht).elim
end
theorem hookN_good : GoodH hookN := by
  intro f vs F h
  unfold hookN at h
  split at h
  · cases h; exact good_asCall (good_nodeK _)
  · cases h
theorem one_agg {ρ : Rn} {C vs' : List Value} (hvs : LR (VL ρ) [.agg ⟨C⟩] vs') : ∃ C', vs' = [.agg ⟨C'⟩] ∧ LR (VL ρ) C C' := by
  obtain ⟨x', t1, rfl, hx, e2⟩ := hvs
  have e2 : t1 = [] := e2
  subst e2
  obtain ⟨C', rfl, hC⟩ := VL.agg.1 hx
  exact ⟨C', rfl, hC⟩
set_option maxRecDepth 20000 in
theorem hookN_ok : HookOk Tryz.prog hookN := by
  intro f vs F h s s' v e w0 B ρ w vs' H hvs hfr
  unfold hookN at h
  split at h
  · rename_i C
    cases h
    obtain ⟨C', e0, hC⟩ := one_agg hvs
    rw [e0]
    have ht := tells_asCall (good_nodeK C) e
    obtain ⟨t, s1, k1, k2, _⟩ := tells_bind (good_treeK 5 C) ht
    obtain ⟨r1, r2, r3⟩ := tree_rel 5 C C' t s s1 H hC k1
    split at k2
    · rename_i hsz
      have hsz := Nat.le_of_ble_eq_true hsz
      rw [forceB_eq] at k2
      obtain ⟨rfl, rfl⟩ := tells_pure k2
      obtain ⟨a, b, c, d, e5, _⟩ := id r1
      subst e5
      have hcall := nodeI_any 4 w _ a b c d t r1 hsz
      have hent : (callFunc 91 ⟨[.agg ⟨[.int .i64 t.kind, a, b, c, d]⟩]⟩).run Tryz.prog w = .ok (.enter 91 ⟨[.agg ⟨[.int .i64 t.kind, a, b, c, d]⟩]⟩) w := by
        have hname : (Tryz.f91.name == "runtime.NumGoroutine") = false := by kernel_rfl
        have hbody : Tryz.f91.body.isNone = false := by kernel_rfl
        simp only [callFunc, Sem.run_bind, run_program, Result.andThen, Tryz.func91, hname, hbody, Bool.false_eq_true, if_false, Sem.run_pure]
      rw [hent]
      show Calls Tryz.prog 91 _ w _
      refine Calls.mono hcall fun e w' he => ?_
      obtain ⟨rfl, hb⟩ := he
      exact ⟨_, rfl, ρ, (H.still hb).congr fun id => by rw [r2], by rw [r3]; exact .rfl, VL.bool.2 rfl⟩
    · exact (tells_fail k2).elim
  · cases h
end Go.Proofs.YtpijenlmfmknnaaGreatDoor

/- A hook for an author's next stamp: its clock is counted on by one. -/
namespace Go.Proofs.YtpijenlmfmknnaaGreatDoor
open Go.RowKit
set_option linter.unusedVariables false
set_option maxRecDepth 100000

theorem add64c (g k : Nat) (x : Int) (w : World) (hc : w.cell? ⟨g, k, none⟩ = some (.int .i64 x)) (hz : w.frozen? ⟨g, k, none⟩ = false) (h0 : 0 ≤ x) (h1 : x ≤ 1000000) :
    Calls Tryz.prog 219 #[.pointer (some ⟨g, k, none⟩), .int .i64 1] w fun e w' => e = .returned (.int .i64 (x + 1)) ∧ w' = w.setCell ⟨g, k, none⟩ (.int .i64 (x + 1)) := by
  have hadd := run_call_add (P := Tryz.prog) Tryz.func247 (by kernel_rfl) (by kernel_rfl) (by kernel_rfl) .i64 (by kernel_rfl) (y := 1) (s := x + 1) hc hz (by simp [go_sem]; rw [IntKind.wrap_i64]; omega)
  go_enter Tryz.func219, Tryz.ntmps219
  go_wp2
  go_ret
  exact ⟨rfl, rfl⟩
theorem set_alike {w w' : World} {a : Addr} {v : Value} (k : Nat) (h : w'.heap[k]? = w.heap[k]?) : (w'.setCell a v).heap[k]? = (w.setCell a v).heap[k]? := by
  simp only [World.setCell, Array.getElem?_modify, h]
theorem cell_lt {w : World} {g o : Nat} {v : Value} (h : w.cell? ⟨g, o, none⟩ = some v) : g < w.heap.size := by
  rcases Nat.lt_or_ge g w.heap.size with hl | hl
  · exact hl
  · simp [World.cell?, Array.getElem?_eq_none hl] at h
set_option maxHeartbeats 1600000 in
theorem stamp_cell (w : World) (ga oa : Nat) (ri k : Int) (c0 : w.cell? ⟨ga, oa, none⟩ = some (.int .i64 ri)) (cA : w.cell? ⟨ga, oa + 10, none⟩ = some (.int .i64 k)) (zA : w.frozen? ⟨ga, oa + 10, none⟩ = false) (h0 : 0 ≤ k) (h1 : k ≤ 1000000) :
    Calls Tryz.prog 188 #[.pointer (some ⟨ga, oa, none⟩)] w fun r w' => r = .returned (.agg #[.int .i64 (k + 1), .int .i64 ri]) ∧ Below w.heap.size (w.setCell ⟨ga, oa + 10, none⟩ (.int .i64 (k + 1))) w' := by
  have hA := (Below.refl w.heap.size w).alloc (Nat.le_refl _) (.cells #[.int .i64 0, .int .i64 0] 32)
  have lb := Loc.made w #[.int .i64 0, .int .i64 0] 32
  have hlt := cell_lt c0
  have hblk := hA.block ga hlt
  have d0 : (w.alloc (.cells #[.int .i64 0, .int .i64 0] 32)).cell? ⟨ga, oa, none⟩ = some (.int .i64 ri) := by simp only [World.cell?, hblk]; exact c0
  have dA : (w.alloc (.cells #[.int .i64 0, .int .i64 0] 32)).cell? ⟨ga, oa + 10, none⟩ = some (.int .i64 k) := by simp only [World.cell?, hblk]; exact cA
  have yA : (w.alloc (.cells #[.int .i64 0, .int .i64 0] 32)).frozen? ⟨ga, oa + 10, none⟩ = false := by simp only [World.frozen?, hblk]; exact zA
  have HA := hide hA
  clear hA hblk c0 cA zA
  go_enter Tryz.func188, Tryz.ntmps188
  go_wp2_with fail
  generalize (w.alloc (.cells #[.int .i64 0, .int .i64 0] 32)) = w1 at *
  generalize hS : w.heap.size = S at *
  have bd := lb.all ((Below.refl w1.heap.size w1).drew)
  have dd0 : w1.drew.cell? ⟨ga, oa, none⟩ = some (.int .i64 ri) := d0
  have HW := hide (add64c ga (oa + 10) k w1.drew dA yA h0 h1)
  have hne : ga ≠ S := by omega
  have hne' : S ≠ ga := by omega
  have LL := hide (And.intro bd (And.intro dd0 yA))
  clear lb bd dA yA dd0
  go_region_held3 (fun w' => w'.cell? ⟨ga, oa, none⟩ = some (.int .i64 ri)) (first | go_keep | simp [*])
    (first
      | (go_at_call 219; refine (unhide HW).mono ?_; rintro e w2 ⟨rfl, hw2⟩; have b2 := (unhide LL).1.frm (Frm.set w1.drew ga (oa + 10) (.int .i64 (k + 1))) (by simp; omega); have c0 := (World.cell?_setCell_other w1.drew ⟨ga, oa + 10, none⟩ ⟨ga, oa, none⟩ (.int .i64 (k + 1)) (by simp)).trans (unhide LL).2.1; rw [← hw2] at b2 c0; have HW2 := hide hw2; have e0 := b2.cell 0; have e1 := b2.cell 1; have f0 := b2.frozen 0; have f1 := b2.frozen 1; clear hw2 LL HW; simp at e0 e1))
  have hF : Below S (w.setCell ⟨ga, oa + 10, none⟩ (.int .i64 (k + 1))) ((w2.setCell ⟨S, 0, none⟩ (.int .i64 (k + 1))).setCell ⟨S, 1, none⟩ (.int .i64 ri)) := by
    have hw2 := unhide HW2
    have hA := unhide HA
    refine ⟨?_, ?_, ?_, ?_, fun j hj => ?_⟩
    · rw [hw2]; exact hA.os
    · rw [hw2]; exact hA.tape
    · rw [hw2]; exact hA.output
    · rw [hw2]; simp only [World.setCell, Array.size_modify]; exact hA.size
    · rw [heap_setCell_other _ _ _ _ (by simp; omega), heap_setCell_other _ _ _ _ (by simp; omega), hw2]
      exact set_alike j (hA.block j hj)
  have b3 := (b2.set 0 (.int .i64 (k + 1))).set 1 (.int .i64 ri)
  clear HW2 HA
  generalize ((w2.setCell ⟨S, 0, none⟩ (.int .i64 (k + 1))).setCell ⟨S, 1, none⟩ (.int .i64 ri)) = w3 at *
  have v0 := b3.cell 0
  have v1 := b3.cell 1
  simp at v0 v1
  clear c0 e0 e1 f0 f1 b3 b2
  go_wp2
  exact bodyPost_ret (v := .agg #[.int .i64 (k + 1), .int .i64 ri]) (by simp [results, Tryz.results188, go_sem, v0, v1]) rfl ⟨rfl, by rw [hS]; exact hF⟩

/-- The hook: the clock lies ten cells behind the author's first. -/
def stampE (b off : Nat) (r n : List Value) : M Value := match r, n with
  | [.int .i64 r], [.int .i64 n] => match decide (0 ≤ n ∧ n ≤ 1000000) with
    | true => forceI (n + 1) fun m => mbind (mstore ⟨b, off, none⟩ [.int .i64 m]) fun _ => mpure (.agg ⟨[.int .i64 m, .int .i64 r]⟩)
    | false => mfail
  | _, _ => mfail
def stampF (b off : Nat) : M Value := mbind (mload ⟨b, off, none⟩ 1) fun r => forceN (off + 10) fun o => mbind (mload ⟨b, o, none⟩ 1) fun n => stampE b o r n
def hookS : Hook := fun f args => match f, args with
  | 188, [.pointer (some ⟨b, off, none⟩)] => some (asCall (stampF b off))
  | _, _ => none
theorem good_stampE (b off : Nat) (r n : List Value) : Good (stampE b off r n) := by
  unfold stampE
  split
  · split
    · rw [forceI_eq]; exact good_bind (good_mstore _ _) fun _ => good_pure _
    · exact good_fail
  · exact good_fail
theorem good_stampF (b off : Nat) : Good (stampF b off) := by
  unfold stampF
  refine good_bind (good_mload _ _) fun r => ?_
  rw [forceN_eq]
  exact good_bind (good_mload _ _) fun n => good_stampE _ _ _ _
theorem hookS_good : GoodH hookS := by
  intro f vs F h
  unfold hookS at h
  split at h
  · cases h; exact good_asCall (good_stampF _ _)
  · cases h
theorem stamp_enter (w : World) (v : Value) : (callFunc 188 ⟨[v]⟩).run Tryz.prog w = .ok (.enter 188 ⟨[v]⟩) w := by
  have hname : (Tryz.f188.name == "runtime.NumGoroutine") = false := by kernel_rfl
  have hbody : Tryz.f188.body.isNone = false := by kernel_rfl
  simp only [callFunc, Sem.run_bind, run_program, Result.andThen, Tryz.func188, hname, hbody, Bool.false_eq_true, if_false, Sem.run_pure]
theorem one_ptr {ρ : Rn} {b off : Nat} {vs' : List Value} (hvs : LR (VL ρ) [.pointer (some ⟨b, off, none⟩)] vs') : ∃ p, ρ b = some p ∧ vs' = [.pointer (some ⟨p.blk, p.off + off, none⟩)] := by
  obtain ⟨x', t1, rfl, hx, e2⟩ := hvs
  have e2 : t1 = [] := e2
  subst e2
  obtain ⟨_, p, hp, rfl⟩ := VL.ptr.1 hx
  exact ⟨p, hp, rfl⟩
theorem hookS_ok : HookOk Tryz.prog hookS := by
  intro f vs F h s s' v e w0 B ρ w vs' H hvs hfr
  unfold hookS at h
  split at h
  · rename_i b off
    cases h
    obtain ⟨p, hp, e0⟩ := one_ptr hvs
    rw [e0]
    have ht := tells_asCall (good_stampF b off) e
    unfold stampF at ht
    obtain ⟨us, s1, k1, k2, _⟩ := tells_bind (good_mload _ _) ht
    rw [forceN_eq] at k2
    obtain ⟨ns, s2, k3, k4, _⟩ := tells_bind (good_mload _ _) k2
    have G1 : s1.f = s.f ∧ s1.n = s.n := by
      obtain ⟨_, _, _, _, _, _, _, _, _, g1, g2⟩ := tells_load k1
      exact ⟨g1, g2⟩
    have G2 : s2.f = s1.f ∧ s2.n = s1.n := by
      obtain ⟨_, _, _, _, _, _, _, _, _, g1, g2⟩ := tells_load k3
      exact ⟨g1, g2⟩
    have g1 := G1.1
    have g2 := G1.2
    have g3 := G2.1
    have g4 := G2.2
    clear G1 G2
    have H1 : HR w0 B ρ s1.f w := by rw [g1]; exact H
    have H2 : HR w0 B ρ s2.f w := by rw [g3]; exact H1
    have hA : VL ρ (.pointer (some ⟨b, off, none⟩)) (.pointer (some ⟨p.blk, p.off + off, none⟩)) := VL.ptr.2 ⟨rfl, p, hp, rfl⟩
    have hC : VL ρ (.pointer (some ⟨b, off + 10, none⟩)) (.pointer (some ⟨p.blk, p.off + (off + 10), none⟩)) := VL.ptr.2 ⟨rfl, p, hp, rfl⟩
    unfold stampE at k4
    split at k4
    · rename_i r n
      split at k4
      · rename_i hn
        have hn := of_decide_eq_true hn
        rw [forceI_eq] at k4
        obtain ⟨u, s3, k5, k6, _⟩ := tells_bind (good_mstore _ _) k4
        obtain ⟨rfl, rfl⟩ := tells_pure k6
        obtain ⟨a1, v1, q1, hc1, hv1, _⟩ := cell_seen H k1 hA
        cases q1
        have q2 := VL.int.1 hv1
        subst q2
        obtain ⟨a2, v2, q3, hc2, hv2, hz2⟩ := cell_seen H1 k3 hC
        cases q3
        have q4 := VL.int.1 hv2
        subst q4
        have hz2 := hz2 (store_16 k5)
        obtain ⟨ρ', H', hE⟩ := cell_set Tryz.prog H2 k5 hC (VL.int.2 rfl) rfl hc2 hz2 (by rw [g4, g2]; exact hfr)
        have hcall := stamp_cell w p.blk (p.off + off) r n hc1 (by rw [Nat.add_assoc]; exact hc2) (by rw [Nat.add_assoc]; exact hz2) hn.1 hn.2
        rw [stamp_enter]
        show Calls Tryz.prog 188 _ w _
        refine Calls.mono hcall fun e w' he => ?_
        obtain ⟨rfl, hb⟩ := he
        rw [Nat.add_assoc] at hb
        have hb : Below (w.setCell ⟨p.blk, p.off + (off + 10), none⟩ (.int .i64 (n + 1))).heap.size (w.setCell ⟨p.blk, p.off + (off + 10), none⟩ (.int .i64 (n + 1))) w' := by
          rw [show (w.setCell ⟨p.blk, p.off + (off + 10), none⟩ (.int .i64 (n + 1))).heap.size = w.heap.size by simp only [World.setCell, Array.size_modify]]
          exact hb
        exact ⟨_, rfl, ρ', H'.still hb, by rw [g4, g2] at hE; exact hE, VL.agg.2 ⟨_, rfl, _, _, rfl, VL.int.2 rfl, _, _, rfl, VL.int.2 rfl, rfl⟩⟩
      · exact (tells_fail k4).elim
    · exact (tells_fail k4).elim
  · cases h
end Go.Proofs.YtpijenlmfmknnaaGreatDoor

/- 'copy(dst, src)' of elements of several cells, dst lying in a block that is known whole. No program. -/
namespace Go.Proofs.YtpijenlmfmknnaaGreatDoor
open Go.RowKit
set_option linter.unusedVariables false

end Go.Proofs.YtpijenlmfmknnaaGreatDoor

/- What two copies make of a row: plain mathematics. -/
namespace Go.Proofs.YtpijenlmfmknnaaGreatDoor
open Go.RowKit
set_option linter.unusedVariables false

theorem splice_get {α : Type} (L cs : List α) (o j : Nat) (h : o + cs.length ≤ L.length) : (splice L o cs)[j]? = if j < o then L[j]? else if j < o + cs.length then cs[j - o]? else L[j]? := by
  unfold splice
  have hl : (L.take o).length = o := by simp; omega
  by_cases h1 : j < o
  · rw [if_pos h1, List.getElem?_append_left (by omega), List.getElem?_take, if_pos h1]
  · rw [if_neg h1, List.getElem?_append_right (by omega), hl]
    by_cases h2 : j < o + cs.length
    · rw [if_pos h2, List.getElem?_append_left (by omega)]
    · rw [if_neg h2, List.getElem?_append_right (by omega), List.getElem?_drop]
      congr 1
      omega
theorem two_copies {α : Type} (L : List α) (R C Y : List α) (a c y : Nat) (hR : R.length = L.length) (hc : C.length = c) (hy : Y.length = y) (h : a + c + y ≤ L.length)
    (hg : ∀ j, R[j]? = if j < a then L[j]? else if j < a + c then C[j - a]? else if j < a + c + y then Y[j - (a + c)]? else R[j]?) : R.take (a + c + y) = L.take a ++ (C ++ Y) := by
  apply List.ext_getElem?
  intro j
  have hl : (L.take a).length = a := by simp; omega
  rw [List.getElem?_take, List.getElem?_append, hl, List.getElem?_take, List.getElem?_append, hc]
  by_cases h1 : j < a
  · rw [if_pos (by omega), if_pos h1, if_pos h1, hg j, if_pos h1]
  · rw [if_neg h1]
    by_cases h2 : j < a + c
    · rw [if_pos (by omega), if_pos (by omega), hg j, if_neg h1, if_pos h2]
    · rw [if_neg (show ¬ (j - a < c) by omega)]
      by_cases h3 : j < a + c + y
      · rw [if_pos h3, hg j, if_neg h1, if_neg h2, if_pos h3]; congr 1; omega
      · rw [if_neg h3, List.getElem?_eq_none (by omega)]
theorem ins_up {α : Type} (L C Y : List α) (a c y : Nat) (hc : C.length = c) (hy : Y.length = y) (h : a + c + y ≤ L.length) : (splice (splice L (a + c) Y) a C).take (a + c + y) = L.take a ++ (C ++ Y) := by
  have l1 := length_splice L (a + c) Y (by omega)
  refine two_copies L _ C Y a c y (by rw [length_splice _ _ _ (by omega), l1]) hc hy h (fun j => ?_)
  rw [splice_get _ _ _ _ (by omega), splice_get _ _ _ _ (by omega), hc, hy]
  by_cases h1 : j < a
  · simp only [if_pos h1, if_pos (show j < a + c by omega)]
  · by_cases h2 : j < a + c
    · simp only [if_neg h1, if_pos h2]
    · simp only [if_neg h1, if_neg h2]
      split <;> rfl
theorem ins_new {α : Type} (L C Y : List α) (a c y : Nat) (hc : C.length = c) (hy : Y.length = y) (h : a + c + y ≤ L.length) : (splice (splice L a C) (a + c) Y).take (a + c + y) = L.take a ++ (C ++ Y) := by
  have l1 := length_splice L a C (by omega)
  refine two_copies L _ C Y a c y (by rw [length_splice _ _ _ (by omega), l1]) hc hy h (fun j => ?_)
  rw [splice_get _ _ _ _ (by omega), splice_get _ _ _ _ (by omega), hc, hy]
  by_cases h1 : j < a
  · simp only [if_pos h1, if_pos (show j < a + c by omega)]
  · by_cases h2 : j < a + c
    · simp only [if_neg h1, if_pos h2]
    · simp only [if_neg h1, if_neg h2]
      split <;> rfl
end Go.Proofs.YtpijenlmfmknnaaGreatDoor

/- A hook for slices.overlaps at operations: two rows in two blocks, the first without a mark. -/
namespace Go.Proofs.YtpijenlmfmknnaaGreatDoor
open Go.RowKit
set_option linter.unusedVariables false
set_option maxRecDepth 100000

def ovK (la lb : Nat) (x y : List Value × TypeId × (Nat × Nat)) : M Value := match Nat.beq x.2.1 121 && (Nat.beq x.2.2.1 0 && (Nat.blt 0 y.1.length && (Nat.blt 0 la && Nat.blt 0 lb))) with
  | true => mpure (.bool false)
  | false => mfail
def hookO : Hook := fun f args => match f, args with
  | 197, [.slice (some ⟨a, ao, none⟩) la ca, .slice (some ⟨b, bo, none⟩) lb cb] => match Nat.beq a b || Nat.blt a 16 with
    | true => none
    | false => some (asCall (mbind (mcells a) fun x => mbind (mcells b) fun y => ovK la lb x y))
  | _, _ => none
theorem good_ovK (la lb : Nat) (x y : List Value × TypeId × (Nat × Nat)) : Good (ovK la lb x y) := by
  unfold ovK
  split
  · exact good_pure _
  · exact good_fail
theorem good_ov (a b la lb : Nat) : Good (mbind (mcells a) fun x => mbind (mcells b) fun y => ovK la lb x y) := good_bind (good_mcells _) fun _ => good_bind (good_mcells _) fun _ => good_ovK _ _ _ _
theorem hookO_good : GoodH hookO := by
  intro f vs F h
  unfold hookO at h
  split at h
  · split at h
    · cases h
    · cases h; exact good_asCall (good_ov _ _ _ _)
  · cases h
theorem two_both {R : Value → Value → Prop} {x y : Value} {vs' : List Value} (hvs : LR R [x, y] vs') : ∃ x' y', vs' = [x', y'] ∧ R x x' ∧ R y y' := by
  obtain ⟨x', t1, rfl, h1, y', t2, rfl, h2, e2⟩ := hvs
  have e2 : t2 = [] := e2
  subst e2
  exact ⟨_, _, rfl, h1, h2⟩
theorem ov_run (w : World) (a b : Addr) (la ca lb cb : Nat) (hne : a.block ≠ b.block) (tA tB : TypeId) (kA kB : Nat)
    (hsa : w.shape? a.block = some (tA, kA)) (hsb : w.shape? b.block = some (tB, kB)) (hkB : kB ≠ 0)
    (hfa : w.frozen? a = false) (hfe : w.frozen? { block := a.block, off := kA } = false) :
    (callFunc 197 #[.slice (some a) la ca, .slice (some b) lb cb]).run Tryz.prog w = .ok (.value (.bool false)) w := by
  have hm : (Tryz.prog.info? 121).map (·.size) = some 12 := by kernel_rfl
  have hsz' : ∀ w, (sizeOf 121).run Tryz.prog w = .ok 12 w := by
    intro w
    cases hi : Tryz.prog.info? 121 with
    | none => rw [hi] at hm; cases hm
    | some i0 =>
      rw [hi] at hm
      have hzs : i0.size = 12 := Option.some.inj hm
      simp [sizeOf, typeInfo, hi, hzs]
  rw [run_callFunc_extern Tryz.func197 (by kernel_rfl) (by kernel_rfl) (by kernel_rfl) (e := Extern.SlicesOverlaps.overlaps #[93, 93] #[4]) (by kernel_rfl),
    Lib.run_overlaps_apart w 93 4 121 Tryz.underlying93 12 hsz' a b la ca lb cb hne _ _ _ _ hsa hsb hkB hfa hfe]
  rfl
theorem hookO_ok : HookOk Tryz.prog hookO := by
  intro f vs F h s s' v e w0 B ρ w vs' H hvs hfr
  unfold hookO at h
  split at h
  · rename_i a ao la ca b bo lb cb
    split at h
    · cases h
    rename_i hab
    rw [Bool.or_eq_false_iff] at hab
    have ha16 : 16 ≤ a := by
      have h2 : ¬ a < 16 := by
        intro h
        have h3 : Nat.blt a 16 = true := by rw [Nat.blt_eq]; exact h
        rw [h3] at hab
        exact absurd hab.2 (by decide)
      omega
    have hab : a ≠ b := fun h => by have := hab.1; rw [h] at this; simp at this
    cases h
    obtain ⟨x', y', e0, hx, hy⟩ := two_both hvs
    rw [e0]
    have ht := tells_asCall (good_ov a b la lb) e
    obtain ⟨x, s1, k1, k2, _⟩ := tells_bind (good_mcells _) ht
    obtain ⟨y, s2, k3, k4, _⟩ := tells_bind (good_mcells _) k2
    obtain ⟨f1, f2, f3⟩ := tells_cells k1
    obtain ⟨g1, g2, g3⟩ := tells_cells k3
    rw [f2] at g1
    unfold ovK at k4
    split at k4
    · rename_i hc
      simp only [Bool.and_eq_true] at hc
      obtain ⟨c1, c2, c3, c4, c5⟩ := hc
      have c1 := Nat.eq_of_beq_eq_true c1
      have c2 := Nat.eq_of_beq_eq_true c2
      have c3 := blt_lt c3
      have c4 := blt_lt c4
      have c5 := blt_lt c5
      obtain ⟨rfl, rfl⟩ := tells_pure k4
      obtain ⟨_, hl1, p, hp, a', ca', e1, _, e3, _⟩ := VL.slice.1 hx
      obtain ⟨_, hl2, q, hq, b', cb', d1, _, d3, _⟩ := VL.slice.1 hy
      have e3 := e3 (by omega)
      have d3 := d3 (by omega)
      obtain ⟨p', hp', p2, p3, p4, cA, tA, fA, p5, p6, p7, p8⟩ := H.obj a _ f1
      rw [show (ρ a = some p) from hp] at hp'
      cases hp'
      obtain ⟨q', hq', q2, q3, q4, cB, tB, fB, q5, q6, q7, q8⟩ := H.obj b _ g1
      rw [show (ρ b = some q) from hq] at hq'
      cases hq'
      have hne : p.blk ≠ q.blk := H.sep a b _ _ p q hab f1 g1 hp hq
      have hz : fA.1 = fA.2 := (p7 ha16).2 c1 c2
      have hfz : ∀ o, w.frozen? ⟨p.blk, o, none⟩ = false := fun o => by
        simp only [World.frozen?, p5]
        simp
        omega
      have hq2 : q.sz = y.1.length := q2
      have hrun := ov_run w a' b' la ca' lb cb' (by rw [e3, d3]; exact hne) tA tB cA.size cB.size (by rw [e3]; exact shape_of p5) (by rw [d3]; exact shape_of q5) (by omega) (by rw [e3]; exact hfz _) (by rw [e3]; exact hfz _)
      rw [e1, d1, show (⟨[.slice (some a') la ca', .slice (some b') lb cb']⟩ : Array Value) = #[.slice (some a') la ca', .slice (some b') lb cb'] from rfl, hrun]
      exact ⟨ρ, H.congr fun id => by rw [g2, f2], by rw [g3, f3]; exact .rfl, VL.bool.2 rfl⟩
    · exact (tells_fail k4).elim
  · cases h
end Go.Proofs.YtpijenlmfmknnaaGreatDoor

/- slices.Insert of one operation, over cells at whatever offset of whatever block: where there is room, and where there is none. -/
namespace Go.Proofs.YtpijenlmfmknnaaGreatDoor
open Go.RowKit
set_option linter.unusedVariables false
set_option maxRecDepth 100000

/-- 'copy' into a block of which no cell is frozen. -/
theorem run_copy_fz {P : Program} (w : World) (dT sT ty elem : TypeId) (s g o dLen dCap : Nat) (a : Addr) (sLen sCap : Nat) (cur : List Value) (t : TypeId) (fz : Nat × Nat) (cs : List Value) (n : Nat)
    (hu : P.underlying dT = some (.slice elem)) (hs : (P.info? elem).map (·.size) = some s) (hg : w.heap[g]? = some (.cells cur.toArray t fz)) (hz : ∀ k, k < cur.length → ¬ (fz.1 ≤ k ∧ k < fz.2)) (hn : n = Nat.min sLen dLen) (hcl : cs.length = n * s)
    (hsrc : ∀ j v, cs[j]? = some v → w.cell? (a.add j) = some v) (hfit : o + cs.length ≤ cur.length) (h1 : ∀ v ∈ cs, v.oneCell' = true) :
    ∃ w', (Builtin.copy_ #[dT, sT] ty #[.slice (some ⟨g, o, none⟩) dLen dCap, .slice (some a) sLen sCap]).run P w = .ok (goInt n) w' ∧ w'.heap[g]? = some (.cells (splice cur o cs).toArray t fz) ∧ Frm w w' [g] := by
  have hl := run_loadCells_list (P := P) w a cs hsrc
  obtain ⟨w', c', hst, hb, hsz, tw, hk⟩ := store_run (P := P) (o := o) cs 0 w cur.toArray hg (by simpa using hfit) (by simpa using hz) h1
  have hc' : c' = (splice cur o cs).toArray := by
    apply Array.ext_getElem?
    intro j
    rw [hk j]
    simp only [List.getElem?_toArray, Nat.add_zero]
    rw [splice_get _ _ _ _ hfit]
    by_cases h1 : j < o
    · rw [if_neg (by omega), if_pos h1]
    · by_cases h2 : j < o + cs.length
      · rw [if_pos (by omega), if_neg h1, if_pos h2]
      · rw [if_neg (by omega), if_neg h1, if_neg h2]
  refine ⟨w', ?_, by rw [← hc']; exact hb, ⟨tw.os, tw.tape, tw.output, by rw [tw.size]; exact Nat.le_refl _, fun k _ hk => tw.other k (fun e => hk (by simp [e]))⟩⟩
  cases hq : P.info? elem with
  | none => simp [hq] at hs
  | some i =>
    have hi : i.size = s := by simpa [hq] using hs
    rw [hcl] at hl
    simp [Builtin.copy_, run_underlying hu, Builtin.lenOf, Builtin.firstCells, sizeOf, typeInfo, hq, hi, ← hn, hl, hst]

theorem wpList_copyf {P : Program} {w : World} {ops : Array Oper} {rest : List Oper} {o : Oper} {a : Act} {Q : Exit → Act → World → Prop} (hgd : o.guard = none) (d s : Operand) (dT sT : TypeId)
    (ho : o.op = .call { callee := .builtin .copy, args := #[d, s], argTypes := #[dT, sT] }) (elem : TypeId) (size : Nat) (hu : P.underlying dT = some (.slice elem)) (hsz : (P.info? elem).map (·.size) = some size)
    (g off dLen dCap : Nat) (ad : Addr) (sLen sCap : Nat) (hd : a.eval d = .slice (some ⟨g, off, none⟩) dLen dCap) (hs : a.eval s = .slice (some ad) sLen sCap)
    (cur : List Value) (t : TypeId) (fz : Nat × Nat) (hg : w.heap[g]? = some (.cells cur.toArray t fz)) (hz : ∀ k, k < cur.length → ¬ (fz.1 ≤ k ∧ k < fz.2)) (cs : List Value) (n : Nat) (hn : n = Nat.min sLen dLen) (hcl : cs.length = n * size)
    (hsrc : ∀ j v, cs[j]? = some v → w.cell? (ad.add j) = some v) (hfit : off + cs.length ≤ cur.length) (h1 : ∀ v ∈ cs, v.oneCell' = true)
    (h : ∀ w', Hid (w'.heap[g]? = some (.cells (splice cur off cs).toArray t fz)) → Frm w w' [g] → wpList P ops Q rest (a.put o.dst (goInt n)) w') : wpList P ops Q (o :: rest) a w := by
  refine wpList_plain hgd fun K hK => ?_
  obtain ⟨w', hrun, hb, hf⟩ := run_copy_fz (P := P) w dT sT o.type elem size g off dLen dCap ad sLen sCap cur t fz cs n hu hsz hg hz hn hcl hsrc hfit h1
  unfold Oper.wp
  simp [execOp, ho, resolve, invoke, builtin, hd, hs, hrun, Result.andThen]
  exact hK _ _ (h _ hb hf)
theorem step_copyf {P : Program} {w : World} {ops : Array Oper} {o : Oper} {a : Act} {K : Act → World → Prop} {Q : Exit → Act → World → Prop} {E : Prop} (hgd : o.guard = none) (d s : Operand) (dT sT : TypeId)
    (ho : o.op = .call { callee := .builtin .copy, args := #[d, s], argTypes := #[dT, sT] }) (elem : TypeId) (size : Nat) (hu : P.underlying dT = some (.slice elem)) (hsz : (P.info? elem).map (·.size) = some size)
    (g off dLen dCap : Nat) (ad : Addr) (sLen sCap : Nat) (hd : a.eval d = .slice (some ⟨g, off, none⟩) dLen dCap) (hs : a.eval s = .slice (some ad) sLen sCap)
    (cur : List Value) (t : TypeId) (fz : Nat × Nat) (hg : w.heap[g]? = some (.cells cur.toArray t fz)) (hz : ∀ k, k < cur.length → ¬ (fz.1 ≤ k ∧ k < fz.2)) (cs : List Value) (n : Nat) (hn : n = Nat.min sLen dLen) (hcl : cs.length = n * size)
    (hsrc : ∀ j v, cs[j]? = some v → w.cell? (ad.add j) = some v) (hfit : off + cs.length ≤ cur.length) (h1 : ∀ v ∈ cs, v.oneCell' = true)
    (h : ∀ w', Hid (w'.heap[g]? = some (.cells (splice cur off cs).toArray t fz)) → Frm w w' [g] → K (a.put o.dst (goInt n)) w') : if Region.wanted o (yielded ops a.tmps) = true then Oper.wp P o a w K Q else E := by
  have hw : Region.wanted o (yielded ops a.tmps) = true := by simp [Region.wanted, hgd]
  rw [if_pos hw]
  obtain ⟨w', hrun, hb, hf⟩ := run_copy_fz (P := P) w dT sT o.type elem size g off dLen dCap ad sLen sCap cur t fz cs n hu hsz hg hz hn hcl hsrc hfit h1
  unfold Oper.wp
  simp [execOp, ho, resolve, invoke, builtin, hd, hs, hrun, Result.andThen]
  exact h _ hb hf

theorem op_infoC : (Tryz.prog.info? 121).map (fun i => (i.zero, i.size, i.bytes)) = some (some (.agg #[.int .i64 0, .int .i64 0, .int .i64 0, .int .i64 0, .int .i64 0, .int .i64 0, .int .i64 0, .slice none 0 0, .int .i64 0, .slice none 0 0, .slice none 0 0, .bool false]), 12, 144) := by kernel_rfl
/-- What stands behind Insert: the longer row lies in block g at o, n + 1 long, cap in all. -/
def InsW (w : World) (S : List Nat) (g o n cap : Nat) (ys : List Value) (e : Ending) (w' : World) : Prop :=
  e = .returned (.slice (some ⟨g, o, none⟩) (n + 1) cap) ∧ n + 1 ≤ cap ∧ cap ≤ 9223372036854775807 ∧ Frm w w' S ∧ ∃ (R : List Value) (t : TypeId) (fz : Nat × Nat), w'.heap[g]? = some (.cells R.toArray t fz) ∧ o + cap * 12 ≤ R.length ∧ Fz R.length fz ∧ (R.drop o).take ((n + 1) * 12) = ys

theorem block_cells {w : World} {g o : Nat} {R xs : List Value} {t : TypeId} {fz : Nat × Nat} (h : w.heap[g]? = some (.cells R.toArray t fz)) {k : Nat} (hx : (R.drop o).take k = xs) (j : Nat) (u : Value) (hj : xs[j]? = some u) : w.cell? ⟨g, o + j, none⟩ = some u := by
  rw [cell_at h]
  rw [← hx, List.getElem?_take] at hj
  split at hj
  · rw [List.getElem?_drop] at hj; simpa using hj
  · cases hj

set_option maxHeartbeats 8000000 in
theorem ins_growC (w : World) (g o n cap i vb vo vc : Nat) (xs C : List Value) (hxl : xs.length = n * 12) (hcells : ∀ j u, xs[j]? = some u → w.cell? ⟨g, o + j, none⟩ = some u) (hglt : g < w.heap.size) (hC : C.length = 12) (hcv : ∀ j u, C[j]? = some u → w.cell? ⟨vb, vo + j, none⟩ = some u) (hvlt : vb < w.heap.size)
    (h1 : ∀ u ∈ C, u.oneCell' = true) (hx1 : ∀ u ∈ xs, u.oneCell' = true) (hn : n ≤ 1000) (hi : i < n) (hnc : n ≤ cap) (hroom : cap < n + 1) (hvc : 1 ≤ vc) (hvm : vc ≤ 9223372036854775807) :
    Calls Tryz.prog 158 #[.slice (some ⟨g, o, none⟩) n cap, .int .i64 i, .slice (some ⟨vb, vo, none⟩) 1 vc] w fun e w' => ∃ G, InsW w [] w.heap.size 0 n G (xs.take (i * 12) ++ (C ++ xs.drop (i * 12))) e w' := by
  obtain ⟨i0, hi0, hz0, hzs, hzb⟩ := info_parts op_infoC
  have hsz : (Tryz.prog.info? 121).map (·.size) = some 12 := by rw [hi0]; simp [hzs]
  have hin : i * 12 ≤ n * 12 := Nat.mul_le_mul_right _ (by omega)
  have hold : (Builtin.firstCells i0.size i (.slice (some ⟨g, o, none⟩) i cap)).run Tryz.prog w.drew = .ok (xs.take (i * 12)).toArray w.drew := by
    rw [hzs]
    exact run_firstCells_some w.drew 12 i ⟨g, o, none⟩ i cap (xs.take (i * 12)) (by rw [List.length_take]; omega) (fun j v hj => by
      rw [add_at]
      rw [List.getElem?_take] at hj
      split at hj
      · exact hcells j v hj
      · cases hj)
  have hik : i + (n + 1 - i) = n + 1 := by omega
  have hkk : (n : Int) + 1 - (i : Int) = ((n + 1 - i : Nat) : Int) := by omega
  obtain ⟨z, hz⟩ : ∃ z : Value, z = .agg #[.int .i64 0, .int .i64 0, .int .i64 0, .int .i64 0, .int .i64 0, .int .i64 0, .int .i64 0, .slice none 0 0, .int .i64 0, .slice none 0 0, .slice none 0 0, .bool false] := ⟨_, rfl⟩
  have hzc : z.cells.size = 12 := by rw [hz]; rfl
  rw [← hz] at hz0
  obtain ⟨G, hG⟩ : ∃ G, G = grownCap w (n + 1) cap 121 := ⟨_, rfl⟩
  obtain ⟨R, hR⟩ : ∃ R : List Value, R = ((xs.take (i * 12)).toArray ++ Builtin.zeroCells z.cells (n + 1 - i) ++ Builtin.zeroCells z.cells (G - (n + 1))).toList := ⟨_, rfl⟩
  have hrz : ∀ ty, (Builtin.append_ #[93, 3] ty #[.slice (some ⟨g, o, none⟩) i cap, .int .i64 ((n : Int) + 1 - (i : Int))]).run Tryz.prog w = .ok (.slice (some ⟨w.heap.size, 0, none⟩) (n + 1) G) (w.drew.alloc (.cells R.toArray 121)) := by
    intro ty
    have h := Lib.run_append_grow_zeros w 93 3 ty 121 i0 z .i64 .i64 Tryz.underlying93 Tryz.underlying3 hi0 hz0 (some ⟨g, o, none⟩) i cap (xs.take (i * 12)) hold (n + 1 - i) (by omega) (by omega) (by omega) (by omega) (by rw [hzb]; omega) (by rw [hzb, hik]; exact growslice_fits hroom (by omega))
    rw [hik, ← hG] at h
    rw [hkk, hR, Array.toArray_toList]
    exact h
  have hGn : n + 1 ≤ G := by rw [hG]; exact grownCap_ge w _ _ _
  have hGm : G ≤ maxLen := by rw [hG]; exact grownCap_le_maxLen w (n + 1) cap 121 (by unfold maxLen; omega)
  have hRl : R.length = G * 12 := by
    rw [hR]
    simp [Builtin.zeroCells, hzc, List.length_take]
    omega
  have hRt : R.take (i * 12) = xs.take (i * 12) := by
    rw [hR]
    simp [List.take_append, List.length_take]
    have e : i * 12 - min (i * 12) xs.length = 0 := by omega
    rw [e]
    simp [List.take_take]
  have hdl : (xs.drop (i * 12)).length = (n - i) * 12 := by rw [List.length_drop]; omega
  have hGi : ¬ (G = i) := by omega
  have hGim : ¬ (G = i + 1) := by omega
  have hci : ¬ (cap = i) := by omega
  have hG63 : G ≤ 9223372036854775807 := by unfold maxLen at hGm; omega
  have hW1 : ((w.alloc (.cells R.toArray 121)).drew).heap[w.heap.size]? = some (.cells R.toArray 121 (0, 0)) := heap_alloc_new w _
  have hfa : Frm w (w.alloc (.cells R.toArray 121)).drew [] := ⟨rfl, rfl, rfl, by simp [World.drew], fun k hk _ => heap_alloc_old w _ hk⟩
  have far : ∀ {u : World} {b k : Nat}, Frm w u [w.heap.size] → b < w.heap.size → u.cell? ⟨b, k, none⟩ = w.cell? ⟨b, k, none⟩ := fun hf hb => by
    simp only [World.cell?, hf.block _ hb (by simp; omega)]
  have hvA : ∀ j u, C[j]? = some u → (w.alloc (.cells R.toArray 121)).drew.cell? ((⟨vb, vo, none⟩ : Addr).add j) = some u := fun j u hj => by
    rw [add_at, far (hfa.mono (fun q hq => by simp at hq)) hvlt]; exact hcv j u hj
  clear hold hkk hik hR hG
  go_enter Tryz.func158, Tryz.ntmps158
  go_wp2_with (first
    | (at_builtin; refine Lib.wpList_append_run _ rfl _ _ _ _ rfl _ _ rfl rfl _ _ (hrz _) ?_)
    | (refine wpList_copyf rfl _ _ 93 93 rfl 121 12 Tryz.underlying93 hsz w.heap.size (i * 12) (n + 1 - i) (G - i) ⟨vb, vo, none⟩ 1 vc ?_ ?_ R 121 (0, 0) ?_ (by intro k _; simp) C 1 (by simp only [Nat.min_def]; split <;> omega) (by omega) ?_ (by omega) h1 ?_; rfl; rfl; exact hW1; exact hvA; intro w2 hg2 hf2))
  have hg2' := unhide hg2
  have hfw2 : Frm w w2 [w.heap.size] := (hfa.mono (fun q hq => by simp at hq)).trans hf2
  have hcells2 : ∀ j u, (xs.drop (i * 12))[j]? = some u → w2.cell? ((⟨g, o + i * 12, none⟩ : Addr).add j) = some u := fun j u hj => by
    rw [add_at, far hfw2 hglt, Nat.add_assoc]
    exact hcells _ u (by rw [List.getElem?_drop] at hj; exact hj)
  have hsl : (splice R (i * 12) C).length = G * 12 := by rw [length_splice _ _ _ (by omega)]; exact hRl
  have hd1 : ∀ u ∈ xs.drop (i * 12), u.oneCell' = true := fun u hu => hx1 u (List.mem_of_mem_drop hu)
  have HM := hide (show n - i = Nat.min (n - i) (n - i) by simp only [Nat.min_def]; split <;> omega)
  have hb1 : (0 : Int) ≤ (i : Int) + 1 := by omega
  have hin' : i ≤ n := by omega
  have hb3 : (i : Int) ≤ (n : Int) := by omega
  have hgd : w2.drew.heap[w.heap.size]? = some (.cells (splice R (i * 12) C).toArray 121 (0, 0)) := hg2'
  have hcd : ∀ j u, (xs.drop (i * 12))[j]? = some u → w2.drew.cell? ((⟨g, o + i * 12, none⟩ : Addr).add j) = some u := hcells2
  have hw1 : IntKind.i64.wrap ((i : Int) + 1) = (i : Int) + 1 := by rw [IntKind.wrap_i64]; omega
  have htn : ((i : Int) + 1).toNat = i + 1 := by omega
  clear hrz hW1 hvA
  go_region_law (refine step_copyf rfl _ _ 93 93 rfl 121 12 Tryz.underlying93 hsz w.heap.size ((i + 1) * 12) (n - i) (G - (i + 1)) ⟨g, o + i * 12, none⟩ (n - i) (cap - i) (by simp [Act.eval, Act.put]) (by simp [Act.eval, Act.put]) (splice R (i * 12) C) 121 (0, 0) hgd (by intro k _; simp) (xs.drop (i * 12)) (n - i) (unhide HM) hdl hcd (by omega) hd1 ?_; intro w3 hg3 hf3)
  go_wp2
  go_ret
  have hfin := ins_new R C (xs.drop (i * 12)) (i * 12) 12 ((n - i) * 12) hC hdl (by omega)
  rw [hRt] at hfin
  have hg3' : w3.heap[w.heap.size]? = some (.cells (splice (splice R (i * 12) C) (i * 12 + 12) (xs.drop (i * 12))).toArray 121 (0, 0)) := by
    have := unhide hg3
    rw [show (i + 1) * 12 = i * 12 + 12 by omega] at this
    exact this
  refine ⟨G, rfl, hGn, hG63, ?_, _, _, _, hg3', ?_, .inl rfl, ?_⟩
  · have f3 : Frm w w3 [w.heap.size] := hfw2.trans (⟨hf3.os, hf3.tape, hf3.output, hf3.size, hf3.block⟩ : Frm w2 w3 [w.heap.size])
    exact ⟨f3.os, f3.tape, f3.output, f3.size, fun k hk _ => f3.block k hk (by simp; omega)⟩
  · rw [length_splice _ _ _ (by omega), hsl]; omega
  · rw [List.drop_zero, ← hfin]; congr 1; omega

set_option maxHeartbeats 8000000 in
theorem ins_shiftC (w : World) (g o n cap i vb vo vc : Nat) (R0 xs C : List Value) (t : TypeId) (fz : Nat × Nat) (tv : TypeId) (kv : Nat) (hg : w.heap[g]? = some (.cells R0.toArray t fz)) (hzF : Fz R0.length fz) (htk : (R0.drop o).take (n * 12) = xs) (hcs : o + cap * 12 ≤ R0.length)
    (hC : C.length = 12) (hcv : ∀ j u, C[j]? = some u → w.cell? ⟨vb, vo + j, none⟩ = some u) (hvlt : vb < w.heap.size) (hsv : w.shape? vb = some (tv, kv)) (hfv : ∀ k, w.frozen? ⟨vb, k, none⟩ = false)
    (h1 : ∀ u ∈ C, u.oneCell' = true) (hx1 : ∀ u ∈ xs, u.oneCell' = true) (hn : n ≤ 1000) (hi : i < n) (hroom : n + 1 ≤ cap) (hc63 : cap ≤ 9223372036854775807) (hvb : vb ≠ g) (hvc : 1 ≤ vc) (hvm : vc ≤ 9223372036854775807) :
    Calls Tryz.prog 158 #[.slice (some ⟨g, o, none⟩) n cap, .int .i64 i, .slice (some ⟨vb, vo, none⟩) 1 vc] w (InsW w [g] g o n cap (xs.take (i * 12) ++ (C ++ xs.drop (i * 12)))) := by
  obtain ⟨i0, hi0, hz0, hzs, hzb⟩ := info_parts op_infoC
  have hsz : (Tryz.prog.info? 121).map (·.size) = some 12 := by rw [hi0]; simp [hzs]
  have hz := hzF.no
  have hmul : (n + 1) * 12 ≤ cap * 12 := Nat.mul_le_mul_right _ hroom
  have hxl : xs.length = n * 12 := by rw [← htk, List.length_take, List.length_drop]; omega
  have hov : ∀ lb cb, (callFunc 197 #[.slice (some ⟨vb, vo, none⟩) 1 vc, .slice (some ⟨g, o + (i + 1) * 12, none⟩) lb cb]).run Tryz.prog w = .ok (.value (.bool false)) w := fun lb cb =>
    ov_run w ⟨vb, vo, none⟩ ⟨g, o + (i + 1) * 12, none⟩ 1 vc lb cb hvb tv t kv R0.length hsv (by have := shape_of hg; simpa using this) (by omega) (hfv _) (hfv _)
  have hin : i * 12 ≤ n * 12 := Nat.mul_le_mul_right _ (by omega)
  have hdl : (xs.drop (i * 12)).length = (n - i) * 12 := by rw [List.length_drop]; omega
  have hd1 : ∀ u ∈ xs.drop (i * 12), u.oneCell' = true := fun u hu => hx1 u (List.mem_of_mem_drop hu)
  have hcells : ∀ j u, (xs.drop (i * 12))[j]? = some u → w.drew.cell? ((⟨g, o + i * 12, none⟩ : Addr).add j) = some u := fun j u hj => by
    have : w.cell? ((⟨g, o + i * 12, none⟩ : Addr).add j) = some u := by
      rw [add_at, Nat.add_assoc]
      exact block_cells hg htk _ u (by rw [List.getElem?_drop] at hj; exact hj)
    exact this
  have hgd : w.drew.heap[g]? = some (.cells R0.toArray t fz) := hg
  have hfd : Frm w w.drew [] := ⟨rfl, rfl, rfl, Nat.le_refl _, fun _ _ _ => rfl⟩
  have HM := hide (show n - i = Nat.min (n + 1 - i) (n - i) by simp only [Nat.min_def]; split <;> omega)
  have HM2 := hide (show 1 = Nat.min 1 (n + 1 - i) by simp only [Nat.min_def]; split <;> omega)
  have hw1 : IntKind.i64.wrap ((i : Int) + 1) = (i : Int) + 1 := by rw [IntKind.wrap_i64]; omega
  have htn : ((i : Int) + 1).toNat = i + 1 := by omega
  have hb1 : (0 : Int) ≤ (i : Int) + 1 := by omega
  have hin' : i ≤ n := by omega
  have hb3 : (i : Int) ≤ (n : Int) := by omega
  have hb2 : ¬ (cap = i + 1) := by omega
  have hb4 : ¬ (cap = i) := by omega
  have hb5 : (i : Int) ≤ (n : Int) + 1 := by omega
  have hlen := length_splice R0 (o + (i + 1) * 12) (xs.drop (i * 12)) (by omega)
  have hz3 : ∀ k, k < (splice R0 (o + (i + 1) * 12) (xs.drop (i * 12))).length → ¬ (fz.1 ≤ k ∧ k < fz.2) := by rw [hlen]; exact hz
  have HZ := hide hz
  have HF := hide hzF
  have HZ3 := hide hz3
  clear hz hz3 hzF
  go_enter Tryz.func158, Tryz.ntmps158
  go_wp2_with (simp only [hov])
  go_region_law (refine step_copyf rfl _ _ 93 93 rfl 121 12 Tryz.underlying93 hsz g (o + (i + 1) * 12) (n - i) (cap - (i + 1)) ⟨g, o + i * 12, none⟩ (n + 1 - i) (cap - i) (by simp [Act.eval, Act.put]) (by simp [Act.eval, Act.put]) R0 t fz hgd (unhide HZ) (xs.drop (i * 12)) (n - i) (unhide HM) hdl hcells (by omega) hd1 ?_; intro w3 hg3 hf3)
  have hg3' := unhide hg3
  have hfw3 : Frm w w3 [g] := (hfd.mono (fun q hq => by simp at hq)).trans hf3
  have hv3 : ∀ j u, C[j]? = some u → w3.cell? ((⟨vb, vo, none⟩ : Addr).add j) = some u := fun j u hj => by
    rw [add_at]
    have := hcv j u hj
    simp only [World.cell?, hfw3.block vb hvlt (by simpa using hvb)]
    exact this
  go_wp2_with (refine wpList_copyf rfl _ _ 93 93 rfl 121 12 Tryz.underlying93 hsz g (o + i * 12) (n + 1 - i) (cap - i) ⟨vb, vo, none⟩ 1 vc ?_ ?_ (splice R0 (o + (i + 1) * 12) (xs.drop (i * 12))) t fz ?_ (unhide HZ3) C 1 (unhide HM2) (by omega) ?_ (by omega) h1 ?_; rfl; rfl; exact hg3'; exact hv3; intro w4 hg4 hf4)
  go_ret
  have hfin := ins_up R0 C (xs.drop (i * 12)) (o + i * 12) 12 ((n - i) * 12) hC hdl (by omega)
  have hg4' : w4.heap[g]? = some (.cells (splice (splice R0 (o + i * 12 + 12) (xs.drop (i * 12))) (o + i * 12) C).toArray t fz) := by
    have := unhide hg4
    rw [show o + (i + 1) * 12 = o + i * 12 + 12 by omega] at this
    exact this
  have hlen2 : (splice (splice R0 (o + i * 12 + 12) (xs.drop (i * 12))) (o + i * 12) C).length = R0.length := by
    rw [show o + (i + 1) * 12 = o + i * 12 + 12 by omega] at hlen
    rw [length_splice _ _ _ (by omega), hlen]
  refine ⟨rfl, hroom, hc63, hfw3.trans hf4, _, _, _, hg4', by rw [hlen2]; exact hcs, by rw [hlen2]; exact unhide HF, ?_⟩
  have e1 : o + i * 12 + 12 + (n - i) * 12 = o + (n + 1) * 12 := by omega
  rw [e1] at hfin
  have e2 : R0.take (o + i * 12) = R0.take o ++ xs.take (i * 12) := by
    rw [← htk, List.take_take, Nat.min_eq_left hin, List.take_add]
  rw [e2] at hfin
  have e3 := congrArg (List.drop o) hfin
  rw [List.drop_take, Nat.add_sub_cancel_left] at e3
  have e4 : (R0.take o).length = o := by rw [List.length_take]; omega
  rw [e3, List.append_assoc, List.drop_append, e4, Nat.sub_self, List.drop_zero, List.drop_eq_nil_of_le (by omega), List.nil_append]
end Go.Proofs.YtpijenlmfmknnaaGreatDoor
