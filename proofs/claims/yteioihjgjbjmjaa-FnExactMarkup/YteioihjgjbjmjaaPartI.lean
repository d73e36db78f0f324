/- impl.partOk answers what the plain test of one node says. -/
import Derived.Test.YteioihjgjbjmjaaAttrI
import Derived.Test.YteioihjgjbjmjaaHasI
import Derived.Test.YteioihjgjbjmjaaNodeS
import Derived.Test.YteioihjgjbjmjaaTool
namespace Go.Proofs.Yteioihjgjbjmjaa
open Go.RowKit
set_option linter.unusedVariables false
set_option maxRecDepth 100000

/-- May the node be, its kids aside? -/
def partB {α : Type} (t : Nd α) : Bool := if t.kind = 1 then leafB t else elemB t
theorem partB_leaf {α : Type} {t : Nd α} (h : t.kind = 1) : partB t = leafB t := by rw [partB, if_pos h]
theorem partB_elem {α : Type} {t : Nd α} (h : t.kind ≠ 1) : partB t = elemB t := by rw [partB, if_neg h]
theorem elemB_no {α : Type} {t : Nd α} (h : ¬ ElemOk t) : elemB t = false := by rw [← Bool.not_eq_true, elemB_iff]; exact h
theorem leafB_no {α : Type} {t : Nd α} (h : ¬ LeafOk t) : leafB t = false := by rw [← Bool.not_eq_true, leafB_iff]; exact h

theorem VMade.keep {B : Nat} {w w' : World} {g : Nat} (h : VMade B w g) (hb : Below w.heap.size w w') : VMade B w' g := by
  obtain ⟨m, hbm, hl, hm⟩ := h
  have hlt : m < w.heap.size := by
    by_cases h : m < w.heap.size
    · exact h
    · rw [Array.getElem?_eq_none (by omega)] at hm; cases hm
  exact ⟨m, hbm, hl.all hb, (hb.block m hlt).trans hm⟩
theorem VSet.keep {B : Nat} {w w' : World} {g : Nat} (h : VSet B w g) (hb : Below w.heap.size w w') : VSet B w' g := by
  rcases h with h | h
  · exact .inl (h.all hb)
  · exact .inr (h.keep hb)
theorem VSet.lt {B : Nat} {w : World} {g : Nat} (h : VSet B w g) : g < w.heap.size := by
  rcases h with h | ⟨m, _, h, _⟩
  · exact h.lt
  · exact h.lt

open Classical in
set_option maxHeartbeats 3200000 in
theorem partI_elem (B n : Nat) (w0 w : World) (a b c d e : Value) (t : Tr (n + 1)) (g : Nat) (h : RdNode (n + 1) w0 [a, b, c, d, e] t) (hB : Below w0.heap.size w0 w) (hg : w0.heap.size ≤ g) (hV : VSet B w g) (hBB : B ≤ w.heap.size) (hz : t.kind = 0) :
    Calls Try.prog 31 #[.agg #[a, b, c, d, e], .pointer (some ⟨g, 0, none⟩)] w fun e w' => e = .returned (.bool (partB t)) ∧ VSet B w' g ∧ Frm w w' [g] := by
  obtain ⟨_, _, _, _, e0, k1, k2, hb, hc, hd, he⟩ := h
  simp only [List.cons.injEq, and_true] at e0
  obtain ⟨rfl, rfl, rfl, rfl, rfl⟩ := e0
  have HP := hide (show partB t = elemB t from partB_elem (by rw [hz]; decide))
  obtain ⟨ab, cb, rfl, _, _⟩ := hb.shape
  obtain ⟨ac, cc, rfl, _, _⟩ := hc.shape
  obtain ⟨ad, cd, rfl, _, _⟩ := Elems.shape hd
  obtain ⟨ae, ce, rfl, _, _⟩ := Elems.shape he
  have hB1 : Below w.heap.size w (w.alloc (.cells #[.int .i64 t.kind, .slice ab t.name.length cb, .slice ac t.text.length cc, .slice ad t.attrs.length cd, .slice ae t.kids.length ce] 32)) := (Below.refl _ _).alloc (Nat.le_refl _) _
  have l1 := Loc.made w #[.int .i64 t.kind, .slice ab t.name.length cb, .slice ac t.text.length cc, .slice ad t.attrs.length cd, .slice ae t.kids.length ce] 32
  have HX : Hid ((t.text.length ≠ 0 → elemB t = false) ∧ (¬ NameOk t.name → elemB t = false) ∧ (¬ AttrsOk t.attrs → elemB t = false) ∧ (NameOk t.name → t.text.length = 0 → AttrsOk t.attrs → t.kids.length = 0 → elemB t = true) ∧ (NameOk t.name → t.text.length = 0 → AttrsOk t.attrs → t.kids.length ≠ 0 → elemB t = !decide (Void t.name))) := by
    refine ⟨fun h => elemB_no (fun k => h k.2.2.1), fun h => elemB_no (fun k => h k.2.1), fun h => elemB_no (fun k => h k.2.2.2.1), fun h1 h2 h3 h4 => (elemB_iff t).2 ⟨hz, h1, h2, h3, fun k => by omega⟩, fun h1 h2 h3 h4 => ?_⟩
    by_cases hv : Void t.name
    · rw [elemB_no (fun k => k.2.2.2.2 ⟨hv, by omega⟩)]; simp [hv]
    · rw [(elemB_iff t).2 ⟨hz, h1, h2, h3, fun k => hv k.1⟩]; simp [hv]
  rw [hz] at *
  have ha : Below w0.heap.size w0 (w.alloc (.cells #[.int .i64 0, .slice ab t.name.length cb, .slice ac t.text.length cc, .slice ad t.attrs.length cd, .slice ae t.kids.length ce] 32)) := hB.trans (hB1.mono hB.size)
  have hV1 := hV.keep hB1
  have F1 := Frm.ofBelow hB1 [g]
  clear hB1 k1 k2 hB
  go_enter Try.func31, Try.ntmps31
  go_wp2_with fail
  generalize (w.alloc (.cells #[.int .i64 0, .slice ab t.name.length cb, .slice ac t.text.length cc, .slice ad t.attrs.length cd, .slice ae t.kids.length ce] 32)) = w1 at *
  have hBB1 := Nat.le_trans hBB F1.size
  generalize hS : w.heap.size = S at *
  clear hS
  generalize t.name.length = nb at *
  generalize t.text.length = nc at *
  generalize t.attrs.length = nd at *
  generalize t.kids.length = ne at *
  have hbb := hb.keep ha
  have hdd := hd.keep ha
  refine (nameI_any w1 _ t.name hbb).mono ?_
  rintro e w1 ⟨rfl, rfl⟩
  obtain ⟨x0, x1, x2, x3, x4⟩ := l1.five
  by_cases hn : NameOk t.name
  · rw [show decide (NameOk t.name) = true by simpa using hn]
    by_cases htx : nc = 0
    · have dtx : ((nc : Int) == 0) = true := by simpa using htx
      go_wp2_with fail
      refine (attrsI_any w1 _ t.attrs hdd).mono ?_
      rintro e w2 ⟨rfl, hB2⟩
      have hV2 := hV1.keep hB2
      have F2 := F1.trans (Frm.ofBelow hB2 [g])
      have ha2 := ha.trans (hB2.mono ha.size)
      have l2 := l1.all hB2
      clear x0 x1 x2 x3 x4
      obtain ⟨x0, x1, x2, x3, x4⟩ := l2.five
      by_cases hat : AttrsOk t.attrs
      · rw [show decide (AttrsOk t.attrs) = true by simpa using hat]
        by_cases hk : ne = 0
        · have dk : ((ne : Int) == 0) = true := by simpa using hk
          have HE := hide ((unhide HX).2.2.2.1 hn htx hat hk)
          clear hn htx hat hk HX
          go_wp2_with fail
          go_ret
          exact ⟨by rw [unhide HP, unhide HE]; rfl, hV2, F2⟩
        · have dk : ((ne : Int) == 0) = false := by simpa using hk
          have HE := hide ((unhide HX).2.2.2.2 hn htx hat hk)
          clear hn htx hat hk HX
          go_wp2_with fail
          refine (has_any B g w2 _ t.name hV2 (Nat.le_trans hBB1 hB2.size) (fun w' f => hb.keep (ha2.trans (f.below ha2.size (fun q hq => by simp at hq; omega))))).mono ?_
          rintro e w3 ⟨rfl, hV3, F3⟩
          generalize decide (Void t.name) = vb at *
          go_wp2_with fail
          go_ret
          exact ⟨by rw [unhide HP, unhide HE]; rfl, .inr hV3, F2.trans F3⟩
      · rw [show decide (AttrsOk t.attrs) = false by simpa using hat]
        have HE := hide ((unhide HX).2.2.1 hat)
        clear hn htx hat HX
        go_wp2_with fail
        go_ret
        exact ⟨by rw [unhide HP, unhide HE]; rfl, hV2, F2⟩
    · have dtx : ((nc : Int) == 0) = false := by simpa using htx
      have HE := hide ((unhide HX).1 htx)
      clear hn htx HX
      go_wp2_with fail
      go_ret
      exact ⟨by rw [unhide HP, unhide HE]; rfl, hV1, F1⟩
  · rw [show decide (NameOk t.name) = false by simpa using hn]
    have HE := hide ((unhide HX).2.1 hn)
    clear hn HX
    go_wp2_with fail
    go_ret
    exact ⟨by rw [unhide HP, unhide HE]; rfl, hV1, F1⟩

open Classical in
set_option maxHeartbeats 3200000 in
theorem partI_leaf (B n : Nat) (w0 w : World) (a b c d e : Value) (t : Tr (n + 1)) (g : Nat) (h : RdNode (n + 1) w0 [a, b, c, d, e] t) (hB : Below w0.heap.size w0 w) (hg : w0.heap.size ≤ g) (hV : VSet B w g) (hBB : B ≤ w.heap.size) (hz : t.kind = 1) :
    Calls Try.prog 31 #[.agg #[a, b, c, d, e], .pointer (some ⟨g, 0, none⟩)] w fun e w' => e = .returned (.bool (partB t)) ∧ VSet B w' g ∧ Frm w w' [g] := by
  obtain ⟨_, _, _, _, e0, k1, k2, hb, hc, hd, he⟩ := h
  simp only [List.cons.injEq, and_true] at e0
  obtain ⟨rfl, rfl, rfl, rfl, rfl⟩ := e0
  have HP := hide (show partB t = leafB t from partB_leaf hz)
  obtain ⟨ab, cb, rfl, _, _⟩ := hb.shape
  obtain ⟨ac, cc, rfl, _, _⟩ := hc.shape
  obtain ⟨ad, cd, rfl, _, _⟩ := Elems.shape hd
  obtain ⟨ae, ce, rfl, _, _⟩ := Elems.shape he
  have hB1 : Below w.heap.size w (w.alloc (.cells #[.int .i64 t.kind, .slice ab t.name.length cb, .slice ac t.text.length cc, .slice ad t.attrs.length cd, .slice ae t.kids.length ce] 32)) := (Below.refl _ _).alloc (Nat.le_refl _) _
  have l1 := Loc.made w #[.int .i64 t.kind, .slice ab t.name.length cb, .slice ac t.text.length cc, .slice ad t.attrs.length cd, .slice ae t.kids.length ce] 32
  have HX : Hid ((t.name.length ≠ 0 → leafB t = false) ∧ (¬ TextOk t.text → leafB t = false) ∧ (t.attrs.length ≠ 0 → leafB t = false) ∧ (t.kids.length ≠ 0 → leafB t = false) ∧ (t.name.length = 0 → TextOk t.text → t.attrs.length = 0 → t.kids.length = 0 → leafB t = true)) := by
    exact ⟨fun h => leafB_no (fun k => h k.1), fun h => leafB_no (fun k => h k.2.2.2), fun h => leafB_no (fun k => h k.2.1), fun h => leafB_no (fun k => h k.2.2.1), fun h1 h2 h3 h4 => (leafB_iff t).2 ⟨h1, h3, h4, h2⟩⟩
  rw [hz] at *
  have ha : Below w0.heap.size w0 (w.alloc (.cells #[.int .i64 1, .slice ab t.name.length cb, .slice ac t.text.length cc, .slice ad t.attrs.length cd, .slice ae t.kids.length ce] 32)) := hB.trans (hB1.mono hB.size)
  have hV1 := hV.keep hB1
  have F1 := Frm.ofBelow hB1 [g]
  clear hB1 k1 k2 hB
  go_enter Try.func31, Try.ntmps31
  by_cases hnn : t.name.length = 0
  · have dn : ((t.name.length : Int) == 0) = true := by simpa using hnn
    have HN := hide hnn
    clear hnn
    go_wp2_with fail
    generalize (w.alloc (.cells #[.int .i64 1, .slice ab t.name.length cb, .slice ac t.text.length cc, .slice ad t.attrs.length cd, .slice ae t.kids.length ce] 32)) = w1 at *
    generalize hS : w.heap.size = S at *
    clear hS
    generalize t.name.length = nb at *
    generalize t.text.length = nc at *
    generalize t.attrs.length = nd at *
    generalize t.kids.length = ne at *
    refine (textI_any w1 _ t.text (hc.keep ha)).mono ?_
    rintro e w1 ⟨rfl, rfl⟩
    obtain ⟨x0, x1, x2, x3, x4⟩ := l1.five
    by_cases ht : TextOk t.text
    · rw [show decide (TextOk t.text) = true by simpa using ht]
      by_cases hat : nd = 0
      · have dat : ((nd : Int) == 0) = true := by simpa using hat
        by_cases hk : ne = 0
        · have dk : ((ne : Int) == 0) = true := by simpa using hk
          have HE := hide ((unhide HX).2.2.2.2 (unhide HN) ht hat hk)
          clear ht hat hk HX HN
          go_wp2_with fail
          go_ret
          exact ⟨by rw [unhide HP, unhide HE]; rfl, hV1, F1⟩
        · have dk : ((ne : Int) == 0) = false := by simpa using hk
          have HE := hide ((unhide HX).2.2.2.1 hk)
          clear ht hat hk HX HN
          go_wp2_with fail
          go_ret
          exact ⟨by rw [unhide HP, unhide HE]; rfl, hV1, F1⟩
      · have dat : ((nd : Int) == 0) = false := by simpa using hat
        have HE := hide ((unhide HX).2.2.1 hat)
        clear ht hat HX HN
        go_wp2_with fail
        go_ret
        exact ⟨by rw [unhide HP, unhide HE]; rfl, hV1, F1⟩
    · rw [show decide (TextOk t.text) = false by simpa using ht]
      have HE := hide ((unhide HX).2.1 ht)
      clear ht HX HN
      go_wp2_with fail
      go_ret
      exact ⟨by rw [unhide HP, unhide HE]; rfl, hV1, F1⟩
  · have dn : ((t.name.length : Int) == 0) = false := by simpa using hnn
    have HE := hide ((unhide HX).1 hnn)
    clear hnn HX
    go_wp2_with fail
    go_ret
    exact ⟨by rw [unhide HP, unhide HE]; rfl, hV1, F1⟩

set_option maxHeartbeats 3200000 in
theorem partI_none (B n : Nat) (w0 w : World) (a b c d e : Value) (t : Tr (n + 1)) (g : Nat) (h : RdNode (n + 1) w0 [a, b, c, d, e] t) (hV : VSet B w g) (hBB : B ≤ w.heap.size) (hz : t.kind ≠ 0) (hz1 : t.kind ≠ 1) :
    Calls Try.prog 31 #[.agg #[a, b, c, d, e], .pointer (some ⟨g, 0, none⟩)] w fun e w' => e = .returned (.bool (partB t)) ∧ VSet B w' g ∧ Frm w w' [g] := by
  obtain ⟨_, _, _, _, e0, k1, k2, hb, hc, hd, he⟩ := h
  simp only [List.cons.injEq, and_true] at e0
  obtain ⟨rfl, rfl, rfl, rfl, rfl⟩ := e0
  have HP := hide (show partB t = false by rw [partB_elem hz1]; exact elemB_no (fun k => hz k.1))
  obtain ⟨ab, cb, rfl, _, _⟩ := hb.shape
  obtain ⟨ac, cc, rfl, _, _⟩ := hc.shape
  obtain ⟨ad, cd, rfl, _, _⟩ := Elems.shape hd
  obtain ⟨ae, ce, rfl, _, _⟩ := Elems.shape he
  have hB1 : Below w.heap.size w (w.alloc (.cells #[.int .i64 t.kind, .slice ab t.name.length cb, .slice ac t.text.length cc, .slice ad t.attrs.length cd, .slice ae t.kids.length ce] 32)) := (Below.refl _ _).alloc (Nat.le_refl _) _
  have hV1 := hV.keep hB1
  have F1 := Frm.ofBelow hB1 [g]
  have d0 : (t.kind == 0) = false := by simpa using hz
  have d1 : (t.kind == 1) = false := by simpa using hz1
  clear hB1 k1 k2 hz hz1 hb hc hd he
  generalize t.kind = z at *
  go_enter Try.func31, Try.ntmps31
  go_wp2_with fail
  go_ret
  exact ⟨by rw [unhide HP]; rfl, hV1, F1⟩

theorem partI_any (B n : Nat) (w0 w : World) (a b c d e : Value) (t : Tr (n + 1)) (g : Nat) (h : RdNode (n + 1) w0 [a, b, c, d, e] t) (hB : Below w0.heap.size w0 w) (hg : w0.heap.size ≤ g) (hV : VSet B w g) (hBB : B ≤ w.heap.size) :
    Calls Try.prog 31 #[.agg #[a, b, c, d, e], .pointer (some ⟨g, 0, none⟩)] w fun e w' => e = .returned (.bool (partB t)) ∧ VSet B w' g ∧ Frm w w' [g] := by
  by_cases hz : t.kind = 0
  · exact partI_elem B n w0 w a b c d e t g h hB hg hV hBB hz
  · by_cases hz1 : t.kind = 1
    · exact partI_leaf B n w0 w a b c d e t g h hB hg hV hBB hz1
    · exact partI_none B n w0 w a b c d e t g h hV hBB hz hz1
end Go.Proofs.Yteioihjgjbjmjaa
