/- Own texts joined: PartI, OpenE, OpenT, Pre, WalkI, NodeI, RootI, StaI, UndI, IdI, OpN, KeyI. -/
import Derived.Test.YtfhekoipnlmhoaaGreatJa
import Derived.Test.YtfhekoipnlmhoaaGreatJb
import Derived.Test.YtfhekoipnlmhoaaGreatJc
import Derived.Test.YtfhekoipnlmhoaaGreatJd
import Derived.Test.YtfhekoipnlmhoaaGreatProg
import Derived.ChangeArms
import Derived.ChangeSlices
import Derived.WideShapes
import Derived.Test.YtfhekoipnlmhoaaGreatChecked

/- impl.partOk answers what the plain test of one node says. -/
namespace Go.Proofs.YtfhekoipnlmhoaaGreat
open Go.RowKit
set_option linter.unusedVariables false
set_option maxRecDepth 100000

/-- May the node be, its kids aside? -/
def partB {α : Type} (t : Nd α) : Bool := if t.kind = 1 then leafB t else elemB t
theorem partB_leaf {α : Type} {t : Nd α} (h : t.kind = 1) : partB t = leafB t := by rw [partB, if_pos h]
theorem partB_elem {α : Type} {t : Nd α} (h : t.kind ≠ 1) : partB t = elemB t := by rw [partB, if_neg h]
theorem elemB_no {α : Type} {t : Nd α} (h : ¬ ElemOk t) : elemB t = false := by rw [← Bool.not_eq_true, elemB_iff]; exact h
theorem leafB_no {α : Type} {t : Nd α} (h : ¬ LeafOk t) : leafB t = false := by rw [← Bool.not_eq_true, leafB_iff]; exact h

theorem VMade.keep {B : Nat} {w w' : World} {g : Nat} (h : VMade B w g) (hb : Below w.heap.size w w') : VMade B w' g := by
  obtain ⟨m, hbm, hl, hm⟩ := h
  have hlt : m < w.heap.size := by
    by_cases h : m < w.heap.size
    · exact h
    · rw [Array.getElem?_eq_none (by omega)] at hm; cases hm
  exact ⟨m, hbm, hl.all hb, (hb.block m hlt).trans hm⟩
theorem VSet.keep {B : Nat} {w w' : World} {g : Nat} (h : VSet B w g) (hb : Below w.heap.size w w') : VSet B w' g := by
  rcases h with h | h
  · exact .inl (h.all hb)
  · exact .inr (h.keep hb)
theorem VSet.lt {B : Nat} {w : World} {g : Nat} (h : VSet B w g) : g < w.heap.size := by
  rcases h with h | ⟨m, _, h, _⟩
  · exact h.lt
  · exact h.lt

open Classical in
set_option maxHeartbeats 3200000 in
theorem partI_elem (B n : Nat) (w0 w : World) (a b c d e : Value) (t : Tr (n + 1)) (g : Nat) (h : RdNode (n + 1) w0 [a, b, c, d, e] t) (hB : Below w0.heap.size w0 w) (hg : w0.heap.size ≤ g) (hV : VSet B w g) (hBB : B ≤ w.heap.size) (hz : t.kind = 0) :
    Calls Tryz.prog 143 #[.agg #[a, b, c, d, e], .pointer (some ⟨g, 0, none⟩)] w fun e w' => e = .returned (.bool (partB t)) ∧ VSet B w' g ∧ Frm w w' [g] := by
  obtain ⟨_, _, _, _, e0, k1, k2, hb, hc, hd, he⟩ := h
  simp only [List.cons.injEq, and_true] at e0
  obtain ⟨rfl, rfl, rfl, rfl, rfl⟩ := e0
  have HP := hide (show partB t = elemB t from partB_elem (by rw [hz]; decide))
  obtain ⟨ab, cb, rfl, _, _⟩ := hb.shape
  obtain ⟨ac, cc, rfl, _, _⟩ := hc.shape
  obtain ⟨ad, cd, rfl, _, _⟩ := Elems.shape hd
  obtain ⟨ae, ce, rfl, _, _⟩ := Elems.shape he
  have hB1 : Below w.heap.size w (w.alloc (.cells #[.int .i64 t.kind, .slice ab t.name.length cb, .slice ac t.text.length cc, .slice ad t.attrs.length cd, .slice ae t.kids.length ce] 62)) := (Below.refl _ _).alloc (Nat.le_refl _) _
  have l1 := Loc.made w #[.int .i64 t.kind, .slice ab t.name.length cb, .slice ac t.text.length cc, .slice ad t.attrs.length cd, .slice ae t.kids.length ce] 62
  have HX : Hid ((t.text.length ≠ 0 → elemB t = false) ∧ (¬ NameOk t.name → elemB t = false) ∧ (¬ AttrsOk t.attrs → elemB t = false) ∧ (NameOk t.name → t.text.length = 0 → AttrsOk t.attrs → t.kids.length = 0 → elemB t = true) ∧ (NameOk t.name → t.text.length = 0 → AttrsOk t.attrs → t.kids.length ≠ 0 → elemB t = !decide (Void t.name))) := by
    refine ⟨fun h => elemB_no (fun k => h k.2.2.1), fun h => elemB_no (fun k => h k.2.1), fun h => elemB_no (fun k => h k.2.2.2.1), fun h1 h2 h3 h4 => (elemB_iff t).2 ⟨hz, h1, h2, h3, fun k => by omega⟩, fun h1 h2 h3 h4 => ?_⟩
    by_cases hv : Void t.name
    · rw [elemB_no (fun k => k.2.2.2.2 ⟨hv, by omega⟩)]; simp [hv]
    · rw [(elemB_iff t).2 ⟨hz, h1, h2, h3, fun k => hv k.1⟩]; simp [hv]
  rw [hz] at *
  have ha : Below w0.heap.size w0 (w.alloc (.cells #[.int .i64 0, .slice ab t.name.length cb, .slice ac t.text.length cc, .slice ad t.attrs.length cd, .slice ae t.kids.length ce] 62)) := hB.trans (hB1.mono hB.size)
  have hV1 := hV.keep hB1
  have F1 := Frm.ofBelow hB1 [g]
  clear hB1 k1 k2 hB
  go_enter Tryz.func143, Tryz.ntmps143
  go_wp2_with fail
  generalize (w.alloc (.cells #[.int .i64 0, .slice ab t.name.length cb, .slice ac t.text.length cc, .slice ad t.attrs.length cd, .slice ae t.kids.length ce] 62)) = w1 at *
  have hBB1 := Nat.le_trans hBB F1.size
  generalize hS : w.heap.size = S at *
  clear hS
  generalize t.name.length = nb at *
  generalize t.text.length = nc at *
  generalize t.attrs.length = nd at *
  generalize t.kids.length = ne at *
  have hbb := hb.keep ha
  have hdd := hd.keep ha
  refine (nameI_any w1 _ t.name hbb).mono ?_
  rintro e w1 ⟨rfl, rfl⟩
  obtain ⟨x0, x1, x2, x3, x4⟩ := l1.five
  by_cases hn : NameOk t.name
  · rw [show decide (NameOk t.name) = true by simpa using hn]
    by_cases htx : nc = 0
    · have dtx : ((nc : Int) == 0) = true := by simpa using htx
      go_wp2_with fail
      refine (attrsI_any w1 _ t.attrs hdd).mono ?_
      rintro e w2 ⟨rfl, hB2⟩
      have hV2 := hV1.keep hB2
      have F2 := F1.trans (Frm.ofBelow hB2 [g])
      have ha2 := ha.trans (hB2.mono ha.size)
      have l2 := l1.all hB2
      clear x0 x1 x2 x3 x4
      obtain ⟨x0, x1, x2, x3, x4⟩ := l2.five
      by_cases hat : AttrsOk t.attrs
      · rw [show decide (AttrsOk t.attrs) = true by simpa using hat]
        by_cases hk : ne = 0
        · have dk : ((ne : Int) == 0) = true := by simpa using hk
          have HE := hide ((unhide HX).2.2.2.1 hn htx hat hk)
          clear hn htx hat hk HX
          go_wp2_with fail
          go_ret
          exact ⟨by rw [unhide HP, unhide HE]; rfl, hV2, F2⟩
        · have dk : ((ne : Int) == 0) = false := by simpa using hk
          have HE := hide ((unhide HX).2.2.2.2 hn htx hat hk)
          clear hn htx hat hk HX
          go_wp2_with fail
          refine (has_any B g w2 _ t.name hV2 (Nat.le_trans hBB1 hB2.size) (fun w' f => hb.keep (ha2.trans (f.below ha2.size (fun q hq => by simp at hq; omega))))).mono ?_
          rintro e w3 ⟨rfl, hV3, F3⟩
          generalize decide (Void t.name) = vb at *
          go_wp2_with fail
          go_ret
          exact ⟨by rw [unhide HP, unhide HE]; rfl, .inr hV3, F2.trans F3⟩
      · rw [show decide (AttrsOk t.attrs) = false by simpa using hat]
        have HE := hide ((unhide HX).2.2.1 hat)
        clear hn htx hat HX
        go_wp2_with fail
        go_ret
        exact ⟨by rw [unhide HP, unhide HE]; rfl, hV2, F2⟩
    · have dtx : ((nc : Int) == 0) = false := by simpa using htx
      have HE := hide ((unhide HX).1 htx)
      clear hn htx HX
      go_wp2_with fail
      go_ret
      exact ⟨by rw [unhide HP, unhide HE]; rfl, hV1, F1⟩
  · rw [show decide (NameOk t.name) = false by simpa using hn]
    have HE := hide ((unhide HX).2.1 hn)
    clear hn HX
    go_wp2_with fail
    go_ret
    exact ⟨by rw [unhide HP, unhide HE]; rfl, hV1, F1⟩

open Classical in
set_option maxHeartbeats 3200000 in
theorem partI_leaf (B n : Nat) (w0 w : World) (a b c d e : Value) (t : Tr (n + 1)) (g : Nat) (h : RdNode (n + 1) w0 [a, b, c, d, e] t) (hB : Below w0.heap.size w0 w) (hg : w0.heap.size ≤ g) (hV : VSet B w g) (hBB : B ≤ w.heap.size) (hz : t.kind = 1) :
    Calls Tryz.prog 143 #[.agg #[a, b, c, d, e], .pointer (some ⟨g, 0, none⟩)] w fun e w' => e = .returned (.bool (partB t)) ∧ VSet B w' g ∧ Frm w w' [g] := by
  obtain ⟨_, _, _, _, e0, k1, k2, hb, hc, hd, he⟩ := h
  simp only [List.cons.injEq, and_true] at e0
  obtain ⟨rfl, rfl, rfl, rfl, rfl⟩ := e0
  have HP := hide (show partB t = leafB t from partB_leaf hz)
  obtain ⟨ab, cb, rfl, _, _⟩ := hb.shape
  obtain ⟨ac, cc, rfl, _, _⟩ := hc.shape
  obtain ⟨ad, cd, rfl, _, _⟩ := Elems.shape hd
  obtain ⟨ae, ce, rfl, _, _⟩ := Elems.shape he
  have hB1 : Below w.heap.size w (w.alloc (.cells #[.int .i64 t.kind, .slice ab t.name.length cb, .slice ac t.text.length cc, .slice ad t.attrs.length cd, .slice ae t.kids.length ce] 62)) := (Below.refl _ _).alloc (Nat.le_refl _) _
  have l1 := Loc.made w #[.int .i64 t.kind, .slice ab t.name.length cb, .slice ac t.text.length cc, .slice ad t.attrs.length cd, .slice ae t.kids.length ce] 62
  have HX : Hid ((t.name.length ≠ 0 → leafB t = false) ∧ (¬ TextOk t.text → leafB t = false) ∧ (t.attrs.length ≠ 0 → leafB t = false) ∧ (t.kids.length ≠ 0 → leafB t = false) ∧ (t.name.length = 0 → TextOk t.text → t.attrs.length = 0 → t.kids.length = 0 → leafB t = true)) := by
    exact ⟨fun h => leafB_no (fun k => h k.1), fun h => leafB_no (fun k => h k.2.2.2), fun h => leafB_no (fun k => h k.2.1), fun h => leafB_no (fun k => h k.2.2.1), fun h1 h2 h3 h4 => (leafB_iff t).2 ⟨h1, h3, h4, h2⟩⟩
  rw [hz] at *
  have ha : Below w0.heap.size w0 (w.alloc (.cells #[.int .i64 1, .slice ab t.name.length cb, .slice ac t.text.length cc, .slice ad t.attrs.length cd, .slice ae t.kids.length ce] 62)) := hB.trans (hB1.mono hB.size)
  have hV1 := hV.keep hB1
  have F1 := Frm.ofBelow hB1 [g]
  clear hB1 k1 k2 hB
  go_enter Tryz.func143, Tryz.ntmps143
  by_cases hnn : t.name.length = 0
  · have dn : ((t.name.length : Int) == 0) = true := by simpa using hnn
    have HN := hide hnn
    clear hnn
    go_wp2_with fail
    generalize (w.alloc (.cells #[.int .i64 1, .slice ab t.name.length cb, .slice ac t.text.length cc, .slice ad t.attrs.length cd, .slice ae t.kids.length ce] 62)) = w1 at *
    generalize hS : w.heap.size = S at *
    clear hS
    generalize t.name.length = nb at *
    generalize t.text.length = nc at *
    generalize t.attrs.length = nd at *
    generalize t.kids.length = ne at *
    refine (textI_any w1 _ t.text (hc.keep ha)).mono ?_
    rintro e w1 ⟨rfl, rfl⟩
    obtain ⟨x0, x1, x2, x3, x4⟩ := l1.five
    by_cases ht : TextOk t.text
    · rw [show decide (TextOk t.text) = true by simpa using ht]
      by_cases hat : nd = 0
      · have dat : ((nd : Int) == 0) = true := by simpa using hat
        by_cases hk : ne = 0
        · have dk : ((ne : Int) == 0) = true := by simpa using hk
          have HE := hide ((unhide HX).2.2.2.2 (unhide HN) ht hat hk)
          clear ht hat hk HX HN
          go_wp2_with fail
          go_ret
          exact ⟨by rw [unhide HP, unhide HE]; rfl, hV1, F1⟩
        · have dk : ((ne : Int) == 0) = false := by simpa using hk
          have HE := hide ((unhide HX).2.2.2.1 hk)
          clear ht hat hk HX HN
          go_wp2_with fail
          go_ret
          exact ⟨by rw [unhide HP, unhide HE]; rfl, hV1, F1⟩
      · have dat : ((nd : Int) == 0) = false := by simpa using hat
        have HE := hide ((unhide HX).2.2.1 hat)
        clear ht hat HX HN
        go_wp2_with fail
        go_ret
        exact ⟨by rw [unhide HP, unhide HE]; rfl, hV1, F1⟩
    · rw [show decide (TextOk t.text) = false by simpa using ht]
      have HE := hide ((unhide HX).2.1 ht)
      clear ht HX HN
      go_wp2_with fail
      go_ret
      exact ⟨by rw [unhide HP, unhide HE]; rfl, hV1, F1⟩
  · have dn : ((t.name.length : Int) == 0) = false := by simpa using hnn
    have HE := hide ((unhide HX).1 hnn)
    clear hnn HX
    go_wp2_with fail
    go_ret
    exact ⟨by rw [unhide HP, unhide HE]; rfl, hV1, F1⟩

set_option maxHeartbeats 3200000 in
theorem partI_none (B n : Nat) (w0 w : World) (a b c d e : Value) (t : Tr (n + 1)) (g : Nat) (h : RdNode (n + 1) w0 [a, b, c, d, e] t) (hV : VSet B w g) (hBB : B ≤ w.heap.size) (hz : t.kind ≠ 0) (hz1 : t.kind ≠ 1) :
    Calls Tryz.prog 143 #[.agg #[a, b, c, d, e], .pointer (some ⟨g, 0, none⟩)] w fun e w' => e = .returned (.bool (partB t)) ∧ VSet B w' g ∧ Frm w w' [g] := by
  obtain ⟨_, _, _, _, e0, k1, k2, hb, hc, hd, he⟩ := h
  simp only [List.cons.injEq, and_true] at e0
  obtain ⟨rfl, rfl, rfl, rfl, rfl⟩ := e0
  have HP := hide (show partB t = false by rw [partB_elem hz1]; exact elemB_no (fun k => hz k.1))
  obtain ⟨ab, cb, rfl, _, _⟩ := hb.shape
  obtain ⟨ac, cc, rfl, _, _⟩ := hc.shape
  obtain ⟨ad, cd, rfl, _, _⟩ := Elems.shape hd
  obtain ⟨ae, ce, rfl, _, _⟩ := Elems.shape he
  have hB1 : Below w.heap.size w (w.alloc (.cells #[.int .i64 t.kind, .slice ab t.name.length cb, .slice ac t.text.length cc, .slice ad t.attrs.length cd, .slice ae t.kids.length ce] 62)) := (Below.refl _ _).alloc (Nat.le_refl _) _
  have hV1 := hV.keep hB1
  have F1 := Frm.ofBelow hB1 [g]
  have d0 : (t.kind == 0) = false := by simpa using hz
  have d1 : (t.kind == 1) = false := by simpa using hz1
  clear hB1 k1 k2 hz hz1 hb hc hd he
  generalize t.kind = z at *
  go_enter Tryz.func143, Tryz.ntmps143
  go_wp2_with fail
  go_ret
  exact ⟨by rw [unhide HP]; rfl, hV1, F1⟩

theorem partI_any (B n : Nat) (w0 w : World) (a b c d e : Value) (t : Tr (n + 1)) (g : Nat) (h : RdNode (n + 1) w0 [a, b, c, d, e] t) (hB : Below w0.heap.size w0 w) (hg : w0.heap.size ≤ g) (hV : VSet B w g) (hBB : B ≤ w.heap.size) :
    Calls Tryz.prog 143 #[.agg #[a, b, c, d, e], .pointer (some ⟨g, 0, none⟩)] w fun e w' => e = .returned (.bool (partB t)) ∧ VSet B w' g ∧ Frm w w' [g] := by
  by_cases hz : t.kind = 0
  · exact partI_elem B n w0 w a b c d e t g h hB hg hV hBB hz
  · by_cases hz1 : t.kind = 1
    · exact partI_leaf B n w0 w a b c d e t g h hB hg hV hBB hz1
    · exact partI_none B n w0 w a b c d e t g h hV hBB hz hz1
end Go.Proofs.YtfhekoipnlmhoaaGreat

/- A row of data that can be read: its elements one by one. No condition. -/
namespace Go.Proofs.YtfhekoipnlmhoaaGreat
open Go.RowKit Go.ChangeShapes
set_option linter.unusedVariables false
set_option maxRecDepth 100000

variable {H : Type} {enc : TypeId × Value → H} {W : World} {held : Bool}

theorem list_of {α : Type} {Q : Nat → α → Prop} : ∀ n : Nat, (∀ i, i < n → ∃ a, Q i a) → ∃ l : List α, l.length = n ∧ ∀ i (hi : i < l.length), Q i l[i]
  | 0, _ => ⟨[], rfl, fun i hi => by cases hi⟩
  | n + 1, h => by
    obtain ⟨l, hl, hq⟩ := list_of n (fun i hi => h i (by omega))
    obtain ⟨a, ha⟩ := h n (by omega)
    refine ⟨l ++ [a], by simp [hl], fun i hi => ?_⟩
    by_cases hi' : i < l.length
    · rw [List.getElem_append_left hi']; exact hq i hi'
    · have : i = l.length := by simp at hi; omega
      subst this
      simp only [List.getElem_append_right (Nat.le_refl _), Nat.sub_self, List.getElem_cons_zero]
      rw [hl]; exact ha

theorem open_elems {α : Type} {t e : TypeId} {sz fuel : Nat} {cs : List Value} {x : DataW H × List MemPlace} {R : List Value → α → Prop} (ht : Tryz.prog.underlying t = some (.slice e)) (hc : Tryz.prog.cellsOf e = sz) (hs : 0 < sz)
    (hR : ∀ n C y, fuel = n + 1 → DataW.trod enc Tryz.prog W 0 (fun _ => true) held n e C = some y → ∃ a : α, R C a)
    (h : DataW.trod enc Tryz.prog W 0 (fun _ => true) held fuel t cs = some x) : ∃ v l, cs = [v] ∧ Elems W sz v l R := by
  rcases DataW.trod_slice ht h with ⟨rfl, _⟩ | ⟨a, len, cap, elems, rest, n, hf, rfl, _, _, hl, hm, hlen, hel, _, _⟩
  · exact ⟨_, [], rfl, by simp [maxLen], .inl ⟨rfl, rfl⟩⟩
  rw [hc] at hel
  have hall : ∀ i, i < len → ∃ b : α, ∃ C : List Value, C.length = sz ∧ (∀ j, j < sz → W.cell? ((a.add (i * sz)).add j) = C[j]?) ∧ R C b := by
    intro i hi
    have h1 := hel i hi
    rw [List.getElem?_eq_getElem (by omega)] at h1
    obtain ⟨C, hC, hy⟩ := Option.bind_eq_some_iff.1 h1
    obtain ⟨_, hCl, hcell⟩ := World.cells?_some hC
    obtain ⟨b, hb⟩ := hR n C _ hf hy
    exact ⟨b, C, hCl, hcell, hb⟩
  obtain ⟨l, hll, hq⟩ := list_of (Q := fun i b => ∃ C : List Value, C.length = sz ∧ (∀ j, j < sz → W.cell? ((a.add (i * sz)).add j) = C[j]?) ∧ R C b) len hall
  refine ⟨_, l, rfl, by omega, ?_⟩
  by_cases h0 : len = 0
  · have hl0 : l = [] := List.eq_nil_of_length_eq_zero (by omega)
    subst h0
    exact .inr (.inl ⟨a, cap, rfl, hm, hl0⟩)
  · obtain ⟨b, off, spot⟩ := a
    obtain ⟨C, hCl, hcell, _⟩ := hq 0 (by omega)
    have hc0 := hcell 0 hs
    rw [List.getElem?_eq_getElem (by omega)] at hc0
    have hspot : spot = none := by simpa [Addr.add] using World.cell?_spot hc0
    subst hspot
    refine .inr (.inr ⟨b, off, cap, by rw [hll], by omega, hm, fun h => by subst h; simp at hll; omega, ?_, fun i hi => ?_⟩)
    · have := lt_of_cell hc0; simpa [Addr.add] using this
    · obtain ⟨C, hCl, hcell, hr⟩ := hq i hi
      refine ⟨C, hCl, fun j hj => ?_, hr⟩
      have := hcell j hj
      rw [add_plain, add_plain] at this
      exact this

end Go.Proofs.YtfhekoipnlmhoaaGreat

/- An argument of a law that can be read as data is bytes, attributes, a tree: what the data's readings open to. No condition. -/
namespace Go.Proofs.YtfhekoipnlmhoaaGreat
open Go.RowKit Go.ChangeShapes
set_option linter.unusedVariables false
set_option maxRecDepth 100000

variable {H : Type} {enc : TypeId × Value → H} {W : World} {held : Bool}

theorem open_bytes {fuel : Nat} {cs : List Value} {x : DataW H × List MemPlace} (h : DataW.trod enc Tryz.prog W 0 (fun _ => true) held fuel 22 cs = some x) :
    ∃ v l, cs = [v] ∧ Byt W v l := by
  rcases open_ints Tryz.underlying22 Tryz.underlying5 (by kernel_rfl) h with ⟨hcs, _⟩ | ⟨a, len, cap, zs, hcs, _, hl, hm, hz, _, hcell, hwz⟩
  · exact ⟨_, _, hcs, byt_of_row (zs := []) (.inl ⟨rfl, rfl, rfl, rfl⟩)⟩
  · exact ⟨_, _, hcs, byt_of_row (.inr ⟨_, rfl, hl, hm, by simpa using hz, hcell, hwz⟩)⟩

theorem some_at {α : Type} {l : List α} {n i : Nat} (h : l.length = n) (hi : i < n) : ∃ y, l[i]? = some y := ⟨l[i]'(by omega), List.getElem?_eq_getElem (by omega)⟩

theorem open_attr {fuel : Nat} {cs : List Value} {x : DataW H × List MemPlace} (h : DataW.trod enc Tryz.prog W 0 (fun _ => true) held fuel 144 cs = some x) : ∃ a, RdAttr W cs a := by
  obtain ⟨xs, n, _, _, hlen, hxs, hf⟩ := DataW.trod_struct Tryz.underlying144 h
  have hlen2 : cs.length = 2 := hlen.trans (by kernel_rfl)
  match cs, hlen2 with
  | [c0, c1], _ =>
    obtain ⟨y0, e0⟩ := some_at (i := 0) hxs (by simp)
    obtain ⟨y1, e1⟩ := some_at (i := 1) hxs (by simp)
    have h0 : DataW.trod enc Tryz.prog W 0 (fun _ => true) held n 22 (([c0, c1].drop 0).take (Tryz.prog.cellsOf 22)) = some y0 := (hf 0 _ rfl).trans e0
    have h1 : DataW.trod enc Tryz.prog W 0 (fun _ => true) held n 22 (([c0, c1].drop 1).take (Tryz.prog.cellsOf 22)) = some y1 := (hf 1 _ rfl).trans e1
    have k1 : Tryz.prog.cellsOf 22 = 1 := by kernel_rfl
    simp only [k1, List.drop, List.take] at h0 h1
    obtain ⟨v0, l0, g0, b0⟩ := open_bytes h0
    obtain ⟨v1, l1, g1, b1⟩ := open_bytes h1
    simp at g0 g1
    subst g0; subst g1
    exact ⟨(l0, l1), _, _, rfl, b0, b1⟩

theorem open_node : ∀ (m : Nat) {fuel : Nat} {cs : List Value} {x : DataW H × List MemPlace}, fuel ≤ 2 * m → DataW.trod enc Tryz.prog W 0 (fun _ => true) held fuel 53 cs = some x → ∃ t, RdNode m W cs t
  | 0, fuel, cs, x, hm, h => by
    obtain rfl : fuel = 0 := by omega
    simp [DataW.trod] at h
  | m + 1, fuel, cs, x, hm, h => by
    obtain ⟨xs, n, hn, _, hlen, hxs, hf⟩ := DataW.trod_struct Tryz.underlying53 h
    have hlen5 : cs.length = 5 := hlen.trans (by kernel_rfl)
    match cs, hlen5 with
    | [c0, c1, c2, c3, c4], _ =>
      obtain ⟨y0, e0⟩ := some_at (i := 0) hxs (by simp)
      obtain ⟨y1, e1⟩ := some_at (i := 1) hxs (by simp)
      obtain ⟨y2, e2⟩ := some_at (i := 2) hxs (by simp)
      obtain ⟨y3, e3⟩ := some_at (i := 3) hxs (by simp)
      obtain ⟨y4, e4⟩ := some_at (i := 4) hxs (by simp)
      have h0 : DataW.trod enc Tryz.prog W 0 (fun _ => true) held n 3 (([c0, c1, c2, c3, c4].drop 0).take (Tryz.prog.cellsOf 3)) = some y0 := (hf 0 _ rfl).trans e0
      have h1 : DataW.trod enc Tryz.prog W 0 (fun _ => true) held n 22 (([c0, c1, c2, c3, c4].drop 1).take (Tryz.prog.cellsOf 22)) = some y1 := (hf 1 _ rfl).trans e1
      have h2 : DataW.trod enc Tryz.prog W 0 (fun _ => true) held n 22 (([c0, c1, c2, c3, c4].drop 2).take (Tryz.prog.cellsOf 22)) = some y2 := (hf 2 _ rfl).trans e2
      have h3 : DataW.trod enc Tryz.prog W 0 (fun _ => true) held n 50 (([c0, c1, c2, c3, c4].drop 3).take (Tryz.prog.cellsOf 50)) = some y3 := (hf 3 _ rfl).trans e3
      have h4 : DataW.trod enc Tryz.prog W 0 (fun _ => true) held n 51 (([c0, c1, c2, c3, c4].drop 4).take (Tryz.prog.cellsOf 51)) = some y4 := (hf 4 _ rfl).trans e4
      have ki : Tryz.prog.cellsOf 3 = 1 := by kernel_rfl
      have k1 : Tryz.prog.cellsOf 22 = 1 := by kernel_rfl
      have k2 : Tryz.prog.cellsOf 50 = 1 := by kernel_rfl
      have k3 : Tryz.prog.cellsOf 51 = 1 := by kernel_rfl
      simp only [ki, k1, k2, k3, List.drop, List.take] at h0 h1 h2 h3 h4
      obtain ⟨k, g0, _, hk⟩ := DataW.trod_int Tryz.underlying3 h0
      obtain ⟨v1, l1, g1, b1⟩ := open_bytes h1
      obtain ⟨v2, l2, g2, b2⟩ := open_bytes h2
      obtain ⟨v3, l3, g3, b3⟩ := open_elems (sz := 2) Tryz.underlying50 (by kernel_rfl) (by omega) (fun n C y _ hy => open_attr hy) h3
      obtain ⟨v4, l4, g4, b4⟩ := open_elems (sz := 5) Tryz.underlying51 (by kernel_rfl) (by omega) (fun n' C y hn' hy => open_node m (by omega) hy) h4
      simp at g0 g1 g2 g3 g4
      subst g0; subst g1; subst g2; subst g3; subst g4
      obtain ⟨q1, q2⟩ := bounds_i64 hk
      exact ⟨(⟨k, l1, l2, l3, l4⟩ : Nd (Tr m)), _, _, _, _, rfl, q1, q2, b1, b2, b3, b4⟩

/-- An argument that is a row of bytes. -/
theorem arg_bytes {r : Reach} {base : Nat} {v : Value} {d : DataW H} {p : List MemPlace} (hv : Value.okWide Tryz.prog W r base 22 v) (h : DataW.Trod enc Tryz.prog W 0 (fun _ => true) held 22 v d p) : ∃ l, Byt W v l := by
  obtain ⟨a, len, cap, rfl⟩ := WideShapes.okWide_slice Tryz.underlying22 hv
  obtain ⟨fuel, hf⟩ := h
  obtain ⟨u, l, hu, hb⟩ := open_bytes hf
  simp [Value.cells] at hu
  subst hu
  exact ⟨l, hb⟩

/-- An argument that is a node. -/
theorem arg_node {r : Reach} {base : Nat} {v : Value} {x : DataW H} {p : List MemPlace} (hv : Value.okWide Tryz.prog W r base 53 v) (h : DataW.Trod enc Tryz.prog W 0 (fun _ => true) held 53 v x p) :
    ∃ (a b c d e : Value) (m : Nat) (t : Tr (m + 1)), v = .agg #[a, b, c, d, e] ∧ RdNode (m + 1) W [a, b, c, d, e] t := by
  obtain ⟨cs, rfl, hsz⟩ := WideShapes.okWide_struct Tryz.underlying53 hv
  obtain ⟨fuel, hf⟩ := h
  have h5 : Tryz.prog.cellsOf 53 = 5 := by kernel_rfl
  rw [h5] at hsz
  obtain ⟨t, ht⟩ := open_node (fuel + 1) (by omega) hf
  obtain ⟨l⟩ := cs
  match l, hsz with
  | [a, b, c, d, e], _ => exact ⟨a, b, c, d, e, fuel, t, rfl, ht⟩
/-- An argument that is a node: a tree at every depth from some depth on. -/
theorem arg_nodeM {r : Reach} {base : Nat} {v : Value} {x : DataW H} {p : List MemPlace} (hv : Value.okWide Tryz.prog W r base 53 v) (h : DataW.Trod enc Tryz.prog W 0 (fun _ => true) held 53 v x p) :
    ∃ (a b c d e : Value) (M : Nat), v = .agg #[a, b, c, d, e] ∧ ∀ m, M ≤ m → ∃ t : Tr (m + 1), RdNode (m + 1) W [a, b, c, d, e] t := by
  obtain ⟨cs, rfl, hsz⟩ := WideShapes.okWide_struct Tryz.underlying53 hv
  obtain ⟨fuel, hf⟩ := h
  have h5 : Tryz.prog.cellsOf 53 = 5 := by kernel_rfl
  rw [h5] at hsz
  obtain ⟨l⟩ := cs
  match l, hsz with
  | [a, b, c, d, e], _ => exact ⟨a, b, c, d, e, fuel, rfl, fun m hm => open_node (m + 1) (by omega) hf⟩
end Go.Proofs.YtfhekoipnlmhoaaGreat

/- The nodes of a tree in the markup's order, as they lie in memory: what impl.walk hands on. -/
namespace Go.Proofs.YtfhekoipnlmhoaaGreat
open Go.RowKit
set_option linter.unusedVariables false
set_option maxRecDepth 100000

/-- A node as it is handed on: its depth, its five values, the tree that they read as. -/
structure It (w0 : World) where
  deep : Int
  a : Value
  b : Value
  c : Value
  d : Value
  e : Value
  m : Nat
  t : Tr (m + 1)
  rd : RdNode (m + 1) w0 [a, b, c, d, e] t
def encIt {w0 : World} (x : It w0) : Array Value := #[.int .i64 x.deep, .agg #[x.a, x.b, x.c, x.d, x.e]]

/-- xs are the nodes of the tree t, whose cells are C, in the markup's order. -/
def Pre (w0 : World) : (n : Nat) → Int → List Value → Tr n → List (It w0) → Prop
  | 0 => fun _ _ _ _ => False
  | n + 1 => fun deep C t xs => ∃ (a b c d e : Value) (rd : RdNode (n + 1) w0 [a, b, c, d, e] t) (ks : List (Tr n × List (It w0))), C = [a, b, c, d, e] ∧ xs = ⟨deep, a, b, c, d, e, n, t, rd⟩ :: (ks.map (·.2)).flatten ∧ ks.map (·.1) = t.kids ∧
      Elems w0 5 e ks (fun D k => Pre w0 n (deep + 1) D k.1 k.2)

theorem elems_pair {α β : Type} {w : World} {size : Nat} {v : Value} {l : List α} {R : List Value → α → Prop} {R' : List Value → α × β → Prop} (h : Elems w size v l R) (hR : ∀ C x, R C x → ∃ y, R' C (x, y)) :
    ∃ ks : List (α × β), ks.map (·.1) = l ∧ Elems w size v ks R' := by
  obtain ⟨hm, ⟨rfl, rfl⟩ | ⟨x, cap, rfl, hc, rfl⟩ | ⟨b, off, cap, rfl, h1, h2, h3, h4, h5⟩⟩ := h
  · exact ⟨[], rfl, hm, .inl ⟨rfl, rfl⟩⟩
  · exact ⟨[], rfl, hm, .inr (.inl ⟨x, cap, rfl, hc, rfl⟩)⟩
  · obtain ⟨ks, hl, hk⟩ := list_of (Q := fun i (k : α × β) => ∃ hi : i < l.length, k.1 = l[i] ∧ ∃ C : List Value, C.length = size ∧ (∀ j, j < size → w.cell? ⟨b, off + i * size + j, none⟩ = C[j]?) ∧ R' C k) l.length (fun i hi => by
      obtain ⟨C, hC, hc, hr⟩ := h5 i hi
      obtain ⟨y, hy⟩ := hR C _ hr
      exact ⟨(l[i], y), hi, rfl, C, hC, hc, hy⟩)
    refine ⟨ks, ?_, by omega, .inr (.inr ⟨b, off, cap, by rw [hl], by omega, h2, ?_, h4, fun i hi => ?_⟩)⟩
    · apply List.ext_getElem
      · simp [hl]
      · intro i h1' h2'
        simp only [List.getElem_map]
        exact (hk i (by simpa using h1')).2.1
    · intro e; rw [e] at hl; exact h3 (List.eq_nil_of_length_eq_zero hl.symm)
    · exact (hk i hi).2.2

theorem pre_ex (w0 : World) : ∀ (n : Nat) (deep : Int) (C : List Value) (t : Tr n), RdNode n w0 C t → ∃ xs, Pre w0 n deep C t xs
  | 0, _, _, t, _ => t.elim
  | n + 1, deep, C, t, h => by
    have h' := h
    obtain ⟨a, b, c, d, rfl, k1, k2, hb, hc, hd, he⟩ := h
    obtain ⟨ks, hks, hel⟩ := elems_pair (R' := fun D k => Pre w0 n (deep + 1) D k.1 k.2) he (fun D x hx => pre_ex w0 n (deep + 1) D x hx)
    exact ⟨_, _, _, _, _, _, h', ks, rfl, rfl, hks, hel⟩

/-- Depth and the test of each. -/
def tst {w0 : World} (x : It w0) : Int × Bool := (x.deep, partB x.t)
def pn : (n : Nat) → Int → Tr n → List (Int × Bool)
  | 0 => fun _ _ => []
  | n + 1 => fun deep t => (deep, partB t) :: (t.kids.map (pn n (deep + 1))).flatten

theorem pn_succ (n : Nat) (deep : Int) (t : Tr (n + 1)) : pn (n + 1) deep t = (deep, partB t) :: (t.kids.map (pn n (deep + 1))).flatten := rfl
theorem Elems.mem {α : Type} {w : World} {size : Nat} {v : Value} {l : List α} {R : List Value → α → Prop} (h : Elems w size v l R) : ∀ x ∈ l, ∃ C, R C x := by
  intro x hx
  obtain ⟨i, hi, rfl⟩ := List.getElem_of_mem hx
  obtain ⟨hm, ⟨rfl, rfl⟩ | ⟨_, cap, rfl, hc, rfl⟩ | ⟨b, off, cap, rfl, h1, h2, h3, h4, h5⟩⟩ := h
  · simp at hi
  · simp at hi
  · obtain ⟨C, _, _, hr⟩ := h5 i hi
    exact ⟨C, hr⟩
theorem pre_pn (w0 : World) : ∀ (n : Nat) (deep : Int) (C : List Value) (t : Tr n) (xs : List (It w0)), Pre w0 n deep C t xs → xs.map tst = pn n deep t
  | 0, _, _, t, _, _ => t.elim
  | n + 1, deep, C, t, xs, ⟨a, b, c, d, e, rd, ks, _, hxs, hks, hel⟩ => by
    subst hxs
    rw [List.map_cons, pn_succ, ← hks, List.map_flatten, List.map_map, List.map_map]
    congr 2
    apply List.map_congr_left
    intro k hk
    obtain ⟨D, hD⟩ := hel.mem k hk
    exact pre_pn w0 n (deep + 1) D k.1 k.2 hD

/-- The tests, one behind the other, where 'left' nodes are left. -/
def scan : List (Int × Bool) → Int → Bool × Int
  | [], left => (true, left)
  | x :: r, left => if left - 1 < 0 ∨ 20 < x.1 ∨ x.2 = false then (false, left - 1) else scan r (left - 1)
theorem scan_app (a b : List (Int × Bool)) (left : Int) : scan (a ++ b) left = if (scan a left).1 = true then scan b (scan a left).2 else (false, (scan a left).2) := by
  induction a generalizing left with
  | nil => simp [scan]
  | cons x r ih =>
    rw [List.cons_append, scan, scan]
    by_cases h : left - 1 < 0 ∨ 20 < x.1 ∨ x.2 = false
    · rw [if_pos h, if_pos h]; simp
    · rw [if_neg h, if_neg h, ih]
theorem scan_no {a b : List (Int × Bool)} {left : Int} (h : (scan a left).1 = false) (hp : a <+: b) : (scan b left).1 = false := by
  obtain ⟨r, rfl⟩ := hp
  rw [scan_app, h]
  simp
theorem scan_yes {a : List (Int × Bool)} {left : Int} (h : (scan a left).1 = true) : (scan a left).2 = left - a.length := by
  induction a generalizing left with
  | nil => simp [scan]
  | cons x r ih =>
    rw [scan] at h ⊢
    by_cases hc : left - 1 < 0 ∨ 20 < x.1 ∨ x.2 = false
    · rw [if_pos hc] at h; cases h
    · rw [if_neg hc] at h ⊢; rw [ih h]; simp; omega
theorem okK_scan {α : Type} {f : α → Int → Bool × Int} {p : α → List (Int × Bool)} (h : ∀ x left, f x left = scan (p x) left) : ∀ (l : List α) (left : Int), okK f l left = scan (l.map p).flatten left
  | [], left => rfl
  | x :: r, left => by
    rw [okK, List.map_cons, List.flatten_cons, scan_app, h, okK_scan h r]
theorem okT_scan : ∀ (n : Nat) (deep : Int) (t : Tr n) (left : Int), okT n deep t left = scan (pn n deep t) left
  | 0, _, t, _ => t.elim
  | n + 1, deep, t, left => by
    rw [okT_succ, pn_succ, scan]
    by_cases h1 : left - 1 < 0 ∨ 20 < deep
    · rw [if_pos h1, if_pos (by rcases h1 with h | h <;> simp [h])]
    · rw [if_neg h1]
      by_cases h2 : t.kind = 1
      · rw [if_pos h2]
        have hp : partB t = leafB t := partB_leaf h2
        by_cases h3 : leafB t = true
        · have hk : t.kids = [] := List.eq_nil_of_length_eq_zero ((leafB_iff t).1 h3).2.2.1
          rw [if_neg (by simp only [hp, h3]; simp; omega), hk, h3]; rfl
        · have h3' : leafB t = false := by simpa using h3
          rw [if_pos (by simp only [hp, h3']; simp), h3']
      · rw [if_neg h2]
        have hp : partB t = elemB t := partB_elem h2
        by_cases h3 : elemB t = true
        · rw [if_pos h3, if_neg (by simp only [hp, h3]; simp; omega)]
          exact okK_scan (okT_scan n (deep + 1)) t.kids (left - 1)
        · have h3' : elemB t = false := by simpa using h3
          rw [if_neg h3, if_pos (by simp only [hp, h3']; simp)]
end Go.Proofs.YtfhekoipnlmhoaaGreat

/- impl.walk hands on the nodes in the markup's order. -/
namespace Go.Proofs.YtfhekoipnlmhoaaGreat
open Go.RowKit Go.Shelf
set_option linter.unusedVariables false
set_option maxRecDepth 100000
attribute [local go_sem] Oper.semAt_some

/-- The boxes that impl.walk lays. -/
def BxN (o : Obj) : Prop := ∃ cs, o = .cells cs 62 (0, 0)
theorem below_grown {W W' : World} (h : Below W.heap.size W W') : W.grownBy W' none := ⟨h.os, h.tape, h.output, h.size, fun k hk _ => h.block k hk⟩

theorem rd_shape {n : Nat} {w : World} {C : List Value} {t : Tr n} (h : RdNode n w C t) : ∃ z ab nb cb ac nc cc ad nd cd ae ne ce, C = [.int .i64 z, .slice ab nb cb, .slice ac nc cc, .slice ad nd cd, .slice ae ne ce] := by
  cases n with
  | zero => exact t.elim
  | succ n =>
    obtain ⟨a, b, c, d, rfl, _, _, hb, hc, hd, he⟩ := h
    obtain ⟨ab, cb, rfl, _, _⟩ := hb.shape
    obtain ⟨ac, cc, rfl, _, _⟩ := hc.shape
    obtain ⟨ad, cd, rfl, _, _⟩ := Elems.shape hd
    obtain ⟨ae, ce, rfl, _, _⟩ := Elems.shape he
    exact ⟨_, _, _, _, _, _, _, _, _, _, _, _, _, rfl⟩
theorem pre_rd {w0 : World} {n : Nat} {deep : Int} {C : List Value} {t : Tr n} {xs : List (It w0)} (h : Pre w0 n deep C t xs) : RdNode n w0 C t := by
  cases n with
  | zero => exact t.elim
  | succ n =>
    obtain ⟨a, b, c, d, e, rd, ks, rfl, _⟩ := h
    exact rd
theorem sum_mem {l : List Nat} {x : Nat} (h : x ∈ l) : x ≤ l.sum := by
  induction l with
  | nil => cases h
  | cons y l ih =>
    rw [List.sum_cons]
    rcases List.mem_cons.1 h with rfl | h'
    · omega
    · have := ih h'; omega
theorem sz_kid {n : Nat} {t : Tr (n + 1)} {u : Tr n} (h : u ∈ t.kids) : szT n u + 1 ≤ szT (n + 1) t := by
  have h1 : szT n u ≤ (t.kids.map (szT n)).sum := sum_mem (List.mem_map.2 ⟨u, h, rfl⟩)
  have h2 : 0 < t.kids.length := List.length_pos_of_mem h
  have h3 : szT (n + 1) t = t.name.length + t.text.length + szA t.attrs + (t.kids.length + (t.kids.map (szT n)).sum) := rfl
  omega
theorem flat_take {α β : Type} (ks : List (α × List β)) (j : Nat) (h : j < ks.length) : ((ks.take (j + 1)).map (·.2)).flatten = ((ks.take j).map (·.2)).flatten ++ ks[j].2 := by
  rw [List.take_succ_eq_append_getElem h, List.map_append, List.flatten_append]
  simp only [List.map_cons, List.map_nil, List.flatten_cons, List.flatten_nil, List.append_nil]
theorem flat_pre {α β : Type} (ks : List (α × List β)) (j : Nat) : ((ks.take j).map (·.2)).flatten <+: (ks.map (·.2)).flatten := by
  refine ⟨((ks.drop j).map (·.2)).flatten, ?_⟩
  rw [← List.flatten_append, ← List.map_append, List.take_append_drop]

/-- What is asked of impl.walk at a tree of depth below k. -/
def WalkSaid (w0 : World) (l : Nat) (Mt : Nat → Obj → Prop) (J Jx : List (It w0) → World → Prop) (XS : List (It w0)) (k : Nat) : Prop :=
  ∀ (deep : Int) (a b c d e : Value) (t : Tr k) (xs : List (It w0)), Pre w0 k deep [a, b, c, d, e] t xs → ∀ (n : Nat) (pre : List (It w0)) (W : World), Below w0.heap.size w0 W → (∀ q o, W.heap.size ≤ q → BxN o → ¬ Mt q o) → J pre W → pre ++ xs <+: XS → 0 ≤ deep → deep + szT k t ≤ 1000000000 →
    CallsIn Fence.wide n Tryz.prog 156 #[.agg #[a, b, c, d, e], .int .i64 deep, .func (.yield l) #[] #[]] W fun e W' =>
      (e = .returned (.bool true) ∧ J (pre ++ xs) W' ∧ Frp Mt W W') ∨ (e = .returned (.bool false) ∧ ∃ q, q <+: xs ∧ Jx (pre ++ q) W')

set_option maxHeartbeats 3200000 in
theorem walk_succ (w0 : World) (l : Nat) (Mt : Nat → Obj → Prop) (hG0 : ∀ i o, i < w0.heap.size → ¬ Mt i o) (J Jx : List (It w0) → World → Prop) (XS : List (It w0)) (hJ : ∀ s W W', J s W → W.grownBy W' none → J s W')
    (hY : ∀ m pre x W, J pre W → pre ++ [x] <+: XS → YieldAt Fence.wide m Tryz.prog l (encIt x) W fun e W' =>
      (e = .returned (.bool true) ∧ J (pre ++ [x]) W' ∧ Frp Mt W W') ∨ (e = .returned (.bool false) ∧ Jx (pre ++ [x]) W')) (k : Nat) (H : WalkSaid w0 l Mt J Jx XS k) : WalkSaid w0 l Mt J Jx XS (k + 1) := by
  intro deep a b c d e t xs hP n pre W hW hGW hj hpx hd0 hd1
  obtain ⟨_, _, _, _, _, rd, ks, hC, hxs, hks, hel⟩ := hP
  simp only [List.cons.injEq, and_true] at hC
  obtain ⟨rfl, rfl, rfl, rfl, rfl⟩ := hC
  have rd' := rd
  obtain ⟨_, _, _, _, e0, k1, k2, hb, hc, hd, he⟩ := rd'
  simp only [List.cons.injEq, and_true] at e0
  obtain ⟨rfl, rfl, rfl, rfl, rfl⟩ := e0
  obtain ⟨ab, cb, rfl, _, _⟩ := hb.shape
  obtain ⟨ac, cc, rfl, _, _⟩ := hc.shape
  obtain ⟨ad, cd, rfl, _, _⟩ := Elems.shape hd
  obtain ⟨ae, ce, rfl, hce, hcm⟩ := Elems.shape he
  obtain ⟨x, hx⟩ : ∃ x : It w0, x = ⟨deep, .int .i64 t.kind, .slice ab t.name.length cb, .slice ac t.text.length cc, .slice ad t.attrs.length cd, .slice ae t.kids.length ce, k, t, rd⟩ := ⟨_, rfl⟩
  have hB1 : Below W.heap.size W (W.alloc (.cells #[.int .i64 t.kind, .slice ab t.name.length cb, .slice ac t.text.length cc, .slice ad t.attrs.length cd, .slice ae t.kids.length ce] 62)) := (Below.refl _ _).alloc (Nat.le_refl _) _
  have l1 := Loc.made W #[.int .i64 t.kind, .slice ab t.name.length cb, .slice ac t.text.length cc, .slice ad t.attrs.length cd, .slice ae t.kids.length ce] 62
  have hy := hY (n - 1) pre x _ (hJ pre W _ hj (below_grown hB1)) (by
    refine List.IsPrefix.trans ?_ hpx
    rw [hxs, ← hx]
    exact ⟨(ks.map (·.2)).flatten, by simp⟩)
  rw [hx] at hy
  simp only [encIt] at hy
  rw [← hx] at hy hxs
  obtain ⟨fn, tmps, assign, body, hy1, hR⟩ := hy
  refine callsIn_of_wp Tryz.func156 rfl trivial ?_ rfl
  simp only [Tryz.ntmps156, List.size_toArray, List.length_cons, List.length_nil, Nat.reduceAdd, Nat.reduceSub, Array.replicate_succ, Array.replicate_zero, List.push_toArray, List.append_toArray, List.nil_append, List.cons_append]
  gi_wp2_with fail
  refine ⟨(fun h => (by cases h)), ?_⟩
  generalize (W.alloc (.cells #[.int .i64 t.kind, .slice ab t.name.length cb, .slice ac t.text.length cc, .slice ad t.attrs.length cd, .slice ae t.kids.length ce] 62)) = W1 at *
  refine hR.mono ?_
  clear hR
  rintro e W2 (⟨rfl, hJ2, hF2⟩ | ⟨rfl, hx2⟩)
  · have l2 := l1.frp hF2 (hGW _ _ (Nat.le_refl _) ⟨_, rfl⟩)
    have hGW2 : ∀ q o, W2.heap.size ≤ q → BxN o → ¬ Mt q o := fun q o h hb => hGW q o (by have := hB1.size; have := hF2.size; omega) hb
    have hW2 : Below w0.heap.size w0 W2 := hW.trans ((hB1.mono hW.size).trans (hF2.below (Nat.le_trans hW.size hB1.size) hG0))
    have F2 : Frp Mt W W2 := (Frp.ofBelow hB1 Mt).trans hF2
    have hlen : ks.length = t.kids.length := by rw [← hks]; simp
    have HX := hide hxs
    have HK := hide hks
    have HE := hide hx
    unfold maxLen at hcm
    have hm' : (t.kids.length : Int) ≤ 9223372036854775807 := by omega
    have HZ : Hid (∀ u ∈ t.kids, deep + 1 + szT k u ≤ 1000000000) := fun u hu => by have := sz_kid hu; omega
    have hdp : deep ≤ 1000000000 := by omega
    clear hxs hks hx hB1 hF2 hy1 hY hd1
    obtain ⟨x0, x1, x2, x3, x4⟩ := l2.five
    generalize hnk : t.kids.length = nk at *
    gi_wp2_with fail
    gi_loopw [17] (fun i wr => ∃ j : Nat, j ≤ nk ∧ i = .int .i64 j ∧ J (pre ++ x :: ((ks.take j).map (·.2)).flatten) wr ∧ Frp Mt W2 wr) (fun i _ => nk - (intOf i).toNat)
    case atStart => exact ⟨0, Nat.zero_le _, rfl, by simpa using hJ2, Frp.refl _ _⟩
    case round =>
      obtain ⟨j, hj1, rfl, hJr, hFr⟩ := hrel
      have hWr : Below w0.heap.size w0 wr := hW2.trans (hFr.below hW2.size hG0)
      have hGr : ∀ q o, wr.heap.size ≤ q → BxN o → ¬ Mt q o := fun q o h hb => hGW2 q o (Nat.le_trans hFr.size h) hb
      by_cases hlt : j < nk
      · have hjk : j < ks.length := by omega
        obtain ⟨kb, koff, rfl, hkb, hun, _, C, hC5, hcell, hPk⟩ := hel.at hjk
        clear hun
        obtain ⟨z, ab', nb', cb', ac', nc', cc', ad', nd', cd', ae', ne', ce', rfl⟩ := rd_shape (pre_rd hPk)
        have y0 := (hWr.cell (p := ⟨kb, koff + j * 5, none⟩) hkb).trans (hcell 0 (by omega))
        have y1 := (hWr.cell (p := ⟨kb, koff + j * 5 + 1, none⟩) hkb).trans (hcell 1 (by omega))
        have y2 := (hWr.cell (p := ⟨kb, koff + j * 5 + 2, none⟩) hkb).trans (hcell 2 (by omega))
        have y3 := (hWr.cell (p := ⟨kb, koff + j * 5 + 3, none⟩) hkb).trans (hcell 3 (by omega))
        have y4 := (hWr.cell (p := ⟨kb, koff + j * 5 + 4, none⟩) hkb).trans (hcell 4 (by omega))
        simp only [List.getElem?_cons_zero, List.getElem?_cons_succ] at y0 y1 y2 y3 y4
        have hB3 : Below wr.heap.size wr (wr.alloc (.cells #[.int .i64 z, .slice ab' nb' cb', .slice ac' nc' cc', .slice ad' nd' cd', .slice ae' ne' ce'] 62)) := (Below.refl _ _).alloc (Nat.le_refl _) _
        have hmem : ks[j].1 ∈ t.kids := by rw [← unhide HK]; exact List.mem_map.2 ⟨ks[j], List.getElem_mem hjk, rfl⟩
        have hpre : (pre ++ x :: ((ks.take j).map (·.2)).flatten) ++ ks[j].2 <+: XS := by
          refine List.IsPrefix.trans ?_ hpx
          rw [unhide HX]
          obtain ⟨r, hr⟩ := flat_pre ks (j + 1)
          rw [flat_take ks j hjk] at hr
          exact ⟨r, by simp only [List.append_assoc, List.cons_append] at hr ⊢; rw [hr]⟩
        have hcall := H (deep + 1) _ _ _ _ _ ks[j].1 ks[j].2 hPk (n - 1) (pre ++ x :: ((ks.take j).map (·.2)).flatten) _ (hWr.trans (hB3.mono hWr.size)) (fun q o h hb => hGr q o (Nat.le_trans hB3.size h) hb) (hJ _ _ _ hJr (below_grown hB3)) hpre (by omega) (unhide HZ _ hmem)
        have HC := hide hcall
        have F3 := hFr.trans (Frp.ofBelow hB3 Mt)
        have hlt' : (j : Int) < (nk : Int) := by omega
        clear hcall hel hcell hPk hmem hpre hB3 hJr hJ2
        have HL := hide hlen
        have HNK := hide hnk
        clear hlen hnk
        gi_wp2
        refine ⟨trivial, (fun h => (by cases h)), ?_⟩
        refine (unhide HC).mono ?_
        rintro e W3 (⟨rfl, hJ3, hF3⟩ | ⟨rfl, q, hq, hx3⟩)
        · gi_wp2
          go_roundw
          case rel => exact ⟨j + 1, by omega, by go_num, by rw [flat_take ks j hjk, ← List.cons_append, ← List.append_assoc]; exact hJ3, F3.trans hF3⟩
          case measure => simp [intOf]; omega
        · gi_wp2
          go_ret
          refine .inr ⟨rfl, x :: ((ks.take j).map (·.2)).flatten ++ q, ?_, by rw [← List.append_assoc]; exact hx3⟩
          obtain ⟨r, hr⟩ := flat_pre ks (j + 1)
          obtain ⟨r', hr'⟩ := hq
          rw [flat_take ks j hjk, ← hr'] at hr
          exact ⟨r' ++ r, by rw [unhide HX, ← hr]; simp⟩
      · have e : j = nk := by omega
        subst e
        have HL := hide hlen
        clear hlen hel
        gi_wp2
        go_ret
        refine .inl ⟨rfl, ?_, F2.trans hFr⟩
        rw [unhide HX]
        rw [List.take_of_length_le (by have := unhide HL; omega)] at hJr
        exact hJr
  · gi_wp2_with fail
    go_ret
    exact .inr ⟨rfl, [x], by rw [hxs]; exact ⟨_, rfl⟩, hx2⟩

theorem walk_any (w0 : World) (l : Nat) (Mt : Nat → Obj → Prop) (hG0 : ∀ i o, i < w0.heap.size → ¬ Mt i o) (J Jx : List (It w0) → World → Prop) (XS : List (It w0)) (hJ : ∀ s W W', J s W → W.grownBy W' none → J s W')
    (hY : ∀ m pre x W, J pre W → pre ++ [x] <+: XS → YieldAt Fence.wide m Tryz.prog l (encIt x) W fun e W' =>
      (e = .returned (.bool true) ∧ J (pre ++ [x]) W' ∧ Frp Mt W W') ∨ (e = .returned (.bool false) ∧ Jx (pre ++ [x]) W')) (k : Nat) : WalkSaid w0 l Mt J Jx XS k := by
  induction k with
  | zero => exact fun _ _ _ _ _ _ t => t.elim
  | succ k ih => exact walk_succ w0 l Mt hG0 J Jx XS hJ hY k ih

set_option maxHeartbeats 1600000 in
/-- The function that nodesOf hands back: it hands on all nodes. q: the block of what it holds. -/
theorem nodes_hand (w0 w : World) (l q k : Nat) (Mt : Nat → Obj → Prop) (hG0 : ∀ i o, i < w0.heap.size → ¬ Mt i o) (a b c d e : Value) (t : Tr (k + 1)) (xs : List (It w0)) (hP : Pre w0 (k + 1) 1 [a, b, c, d, e] t xs) (hsz : szT (k + 1) t ≤ 2097152)
    (hw : Below w0.heap.size w0 w) (hl : Loc w q #[a, b, c, d, e] 62) : Hands Tryz.prog 155 #[.pointer (some ⟨q, 0, none⟩)] encIt BxN Mt xs l w := by
  intro J Jx hJ hY n W hW hGW h0
  have l1 := hl.all hW
  obtain ⟨z, ab, nb, cb, ac, nc, cc, ad, nd, cd, ae, ne, ce, hC⟩ := rd_shape (pre_rd hP)
  simp only [List.cons.injEq, and_true] at hC
  obtain ⟨rfl, rfl, rfl, rfl, rfl⟩ := hC
  have hc := walk_any w0 l Mt hG0 J Jx xs hJ hY (k + 1) 1 _ _ _ _ _ t xs hP (n - 1) [] W (hw.trans (hW.mono hw.size)) hGW h0 (by simp) (by omega) (by omega)
  obtain ⟨x0, x1, x2, x3, x4⟩ := l1.five
  have HC := hide hc
  clear hc hY hJ hP
  refine callsIn_of_wp Tryz.func155 rfl trivial ?_ rfl
  simp only [Tryz.ntmps155, List.size_toArray, List.length_cons, List.length_nil, Nat.reduceAdd, Nat.reduceSub, Array.replicate_succ, Array.replicate_zero, List.push_toArray, List.append_toArray, List.nil_append, List.cons_append]
  gi_wp2
  refine ⟨trivial, (fun h => (by cases h)), ?_⟩
  refine (unhide HC).mono ?_
  rintro e W3 (⟨rfl, hJ3, hF3⟩ | ⟨rfl, q, hq, hx3⟩)
  · gi_wp2
    go_end0
    exact ⟨⟨_, rfl⟩, .inl (by simpa using hJ3)⟩
  · gi_wp2
    go_end0
    exact ⟨⟨_, rfl⟩, .inr ⟨q, hq, by simpa using hx3⟩⟩

/-- impl.nodesOf: what it is given is boxed, and held by the function that it hands back. -/
theorem nodesOf_any (w : World) (z : Int) (ab ac ad ae : Option Addr) (nb cb nc cc nd cd ne ce : Nat) :
    Calls Tryz.prog 150 #[.agg #[.int .i64 z, .slice ab nb cb, .slice ac nc cc, .slice ad nd cd, .slice ae ne ce]] w fun e w' => e = .returned (.func (.func 155) #[] #[.pointer (some ⟨w.heap.size, 0, none⟩)]) ∧
      w' = w.alloc (.cells #[.int .i64 z, .slice ab nb cb, .slice ac nc cc, .slice ad nd cd, .slice ae ne ce] 62) := by
  have hmf : ∀ (fn : Fn) (first cap : Array Value) (w : World), (Instr.makeFunc fn first cap).run Tryz.prog w = .ok (.func fn first cap) w := fun _ _ _ _ => rfl
  go_enter Tryz.func150, Tryz.ntmps150
  go_wp2
  go_ret
  exact ⟨rfl, rfl⟩
end Go.Proofs.YtfhekoipnlmhoaaGreat

/- impl.NodeOk answers what the plain test says. -/
namespace Go.Proofs.YtfhekoipnlmhoaaGreat
open Go.RowKit Go.Shelf
set_option linter.unusedVariables false
set_option maxRecDepth 100000
attribute [local go_sem] Oper.semAt_some

theorem Loc.stay {W W' : World} {g D : Nat} {cs : Array Value} {T : TypeId} {row : Option Nat} (h : Loc W g cs T) (hg : W.grownBy W' row) (hr : ∀ r, row = some r → r = D ∨ r = D + 1) (h0 : g ≠ D) (h1 : g ≠ D + 1) : Loc W' g cs T :=
  (hg.block g h.lt (fun e => by rcases hr g e.symm with h | h; exact h0 h; exact h1 h)).trans h
theorem VSet.stay {W W' : World} {g D : Nat} {row : Option Nat} (h : VSet (D + 2) W g) (hg : W.grownBy W' row) (hr : ∀ r, row = some r → r = D ∨ r = D + 1) (h0 : g ≠ D) (h1 : g ≠ D + 1) : VSet (D + 2) W' g := by
  rcases h with h | ⟨m, hm, hl, hv⟩
  · exact .inl (h.stay hg hr h0 h1)
  · have hlt : m < W.heap.size := by
      by_cases h : m < W.heap.size
      · exact h
      · rw [Array.getElem?_eq_none (by omega)] at hv; cases hv
    exact .inr ⟨m, hm, hl.stay hg hr h0 h1, (hg.block m hlt (fun e => by rcases hr m e.symm with h | h <;> omega)).trans hv⟩
theorem below_stay {w W W' : World} {s D : Nat} {row : Option Nat} (h : Below s w W) (hs : s ≤ D) (hg : W.grownBy W' row) (hr : ∀ r, row = some r → r = D ∨ r = D + 1) (hsz : s ≤ W.heap.size) : Below s w W' :=
  h.grown hg hsz (fun r e => by rcases hr r e with h | h <;> omega)

theorem VSet.set {B : Nat} {V : World} {g p : Nat} {cs : Array Value} {T : TypeId} (h : VSet B V g) (hl : Loc V p cs T) (hne : g ≠ p) (j : Nat) (v : Value) : VSet B (V.setCell ⟨p, j, none⟩ v) g := by
  rcases h with h | ⟨m, hm, hg, hv⟩
  · exact .inl (h.other p j v hne)
  · have hmp : m ≠ p := fun e => by subst e; unfold Loc at hl; rw [hv] at hl; cases hl
    exact .inr ⟨m, hm, hg.other p j v hne, (heap_setCell_other V ⟨p, j, none⟩ m v hmp).trans hv⟩
theorem books_set (D : Nat) (V : World) (p j : Nat) (v : Value) (h0 : D ≠ p) (h1 : D + 1 ≠ p) : BooksSame D V (V.setCell ⟨p, j, none⟩ v) := ⟨heap_setCell_other V ⟨p, j, none⟩ D v h0, heap_setCell_other V ⟨p, j, none⟩ (D + 1) v h1⟩
theorem books_frm {D : Nat} {V V' : World} {S : List Nat} (f : Frm V V' S) (hl : D + 2 ≤ V.heap.size) (h0 : D ∉ S) (h1 : D + 1 ∉ S) : BooksSame D V V' := ⟨f.block D (by omega) h0, f.block (D + 1) (by omega) h1⟩
theorem BooksSame.trans {D : Nat} {A B C : World} (h : BooksSame D A B) (k : BooksSame D B C) : BooksSame D A C := ⟨k.1.trans h.1, k.2.trans h.2⟩
theorem scan_len {a : List (Int × Bool)} {left : Int} (h : (scan a left).1 = true) (h0 : 0 ≤ left) : (a.length : Int) ≤ left := by
  induction a generalizing left with
  | nil => simpa using h0
  | cons x r ih =>
    rw [scan] at h
    by_cases hc : left - 1 < 0 ∨ 20 < x.1 ∨ x.2 = false
    · rw [if_pos hc] at h; cases h
    · rw [if_neg hc] at h
      have := ih h (by omega)
      simp only [List.length_cons]
      omega
/-- A test more. -/
theorem scan_snoc {a : List (Int × Bool)} {x : Int × Bool} {n : Nat} (h : scan a 120 = (true, (120 : Int) - n)) : scan (a ++ [x]) 120 = if 120 < (n : Int) + 1 ∨ 20 < x.1 ∨ x.2 = false then (false, (120 : Int) - n - 1) else (true, (120 : Int) - n - 1) := by
  rw [scan_app, h]
  simp only [if_true, scan]
  have e : ((120 : Int) - n - 1 < 0 ∨ 20 < x.1 ∨ x.2 = false) ↔ (120 < (n : Int) + 1 ∨ 20 < x.1 ∨ x.2 = false) := by
    constructor
    · rintro (h | h)
      · exact .inl (by omega)
      · exact .inr h
    · rintro (h | h)
      · exact .inl (by omega)
      · exact .inr h
  simp only [e]

/-- Five new blocks, one behind the other. -/
theorem five_new (w : World) (A1 A2 A3 A4 A5 : Array Value) (T1 T2 T3 T4 T5 : TypeId) (W : World) (hW : W = ((((w.alloc (.cells A1 T1)).alloc (.cells A2 T2)).alloc (.cells A3 T3)).alloc (.cells A4 T4)).alloc (.cells A5 T5)) :
    Loc W (w.heap.size + 1) A2 T2 ∧ Loc W (w.heap.size + 1 + 1) A3 T3 ∧ Loc W (w.heap.size + 1 + 1 + 1) A4 T4 ∧ Loc W (w.heap.size + 1 + 1 + 1 + 1) A5 T5 ∧ W.heap.size = w.heap.size + 1 + 1 + 1 + 1 + 1 ∧ Below w.heap.size w W := by
  subst hW
  have m2 := Loc.made (w.alloc (.cells A1 T1)) A2 T2
  have m3 := Loc.made ((w.alloc (.cells A1 T1)).alloc (.cells A2 T2)) A3 T3
  have m4 := Loc.made (((w.alloc (.cells A1 T1)).alloc (.cells A2 T2)).alloc (.cells A3 T3)) A4 T4
  have m5 := Loc.made ((((w.alloc (.cells A1 T1)).alloc (.cells A2 T2)).alloc (.cells A3 T3)).alloc (.cells A4 T4)) A5 T5
  simp only [World.size_alloc] at m2 m3 m4 m5
  exact ⟨((m2.alloc _).alloc _).alloc _, (m3.alloc _).alloc _, m4.alloc _, m5, by simp, (((((Below.refl _ w).alloc (Nat.le_refl _) _).alloc (by simp) _).alloc (by simp; omega) _).alloc (by simp; omega) _).alloc (by simp; omega) _⟩

set_option maxHeartbeats 3200000 in
theorem nodeI_elem (k : Nat) (w : World) (a b c d e : Value) (t : Tr (k + 1)) (h : RdNode (k + 1) w [a, b, c, d, e] t) (hsz : szT (k + 1) t ≤ 2097152) (hz : t.kind = 0) :
    Calls Tryz.prog 140 #[.agg #[a, b, c, d, e]] w fun e w' => e = .returned (.bool (okN k t)) ∧ Below w.heap.size w w' := by
  have HO := hide (show okN k t = (scan (pn (k + 1) 1 t) 120).1 by unfold okN; rw [okT_scan]; simp [hz])
  obtain ⟨xs, hP⟩ := pre_ex w (k + 1) 1 [a, b, c, d, e] t h
  have HM := hide (pre_pn w (k + 1) 1 _ t xs hP)
  have hC : ∃ ab nb cb ac nc cc ad nd cd ae ne ce, [a, b, c, d, e] = [Value.int .i64 0, .slice ab nb cb, .slice ac nc cc, .slice ad nd cd, .slice ae ne ce] := by
    obtain ⟨_, _, _, _, e0, k1, k2, hb, hc, hd, he⟩ := h
    simp only [List.cons.injEq, and_true] at e0
    obtain ⟨rfl, rfl, rfl, rfl, rfl⟩ := e0
    obtain ⟨ab, cb, rfl, _, _⟩ := hb.shape
    obtain ⟨ac, cc, rfl, _, _⟩ := hc.shape
    obtain ⟨ad, cd, rfl, _, _⟩ := Elems.shape hd
    obtain ⟨ae, ce, rfl, _, _⟩ := Elems.shape he
    rw [hz]
    exact ⟨_, _, _, _, _, _, _, _, _, _, _, _, rfl⟩
  obtain ⟨ab, nb, cb, ac, nc, cc, ad, nd, cd, ae, ne, ce, hC⟩ := hC
  simp only [List.cons.injEq, and_true] at hC
  obtain ⟨rfl, rfl, rfl, rfl, rfl⟩ := hC
  have HP := hide hP
  have HH := hide h
  clear hP h hz
  refine (callsIn_wide (n := 5)).1 ?_
  refine callsIn_of_wp_marks Tryz.func140 rfl trivial ?_ rfl
  simp only [Tryz.ntmps140, List.size_toArray, List.length_cons, List.length_nil, Nat.reduceAdd, Nat.reduceSub, Array.replicate_succ, Array.replicate_zero, List.push_toArray, List.append_toArray, List.nil_append, List.cons_append]
  gi_wp2_with fail
  refine ⟨trivial, ?_⟩
  refine (callsIn_wide.2 (nodesOf_any _ _ _ _ _ _ _ _ _ _ _ _ _ _)).mono ?_
  rintro e W ⟨rfl, hW⟩
  obtain ⟨l1, l2, l3, l4, hsW, hBW⟩ := five_new w _ _ _ _ _ _ _ _ _ _ W hW
  clear hW
  simp only [World.size_alloc]
  obtain ⟨q1, q2, q3, q4, q5⟩ : w.heap.size < w.heap.size + 1 ∧ w.heap.size + 1 < w.heap.size + 1 + 1 ∧ w.heap.size + 1 + 1 < w.heap.size + 1 + 1 + 1 ∧ w.heap.size + 1 + 1 + 1 < w.heap.size + 1 + 1 + 1 + 1 ∧ w.heap.size + 1 + 1 + 1 + 1 < W.heap.size := by omega
  clear hsW
  generalize w.heap.size + 1 + 1 + 1 + 1 = p4 at *
  generalize w.heap.size + 1 + 1 + 1 = p3 at *
  generalize w.heap.size + 1 + 1 = p2 at *
  generalize w.heap.size + 1 = p1 at *
  gi_wp2_with fail
  refine range_law (gf := 155) (lb := #[.pointer (some ⟨p4, 0, none⟩)]) (Bx := BxN) (Mt := fun i _ => i ∈ [p1, p2, p3, W.heap.size + 1]) (xs := xs) (encs := encIt) rfl (enters_of Tryz.func155 (by kernel_rfl) rfl) (fun _ => by simp) (fun q o hq _ hm => by simp at hm; omega)
    (nodes_hand w W _ p4 k _ (fun i o hi hm => by simp at hm; omega) _ _ _ _ _ t xs (unhide HP) hsz hBW l4) (fun _ => rfl)
    (fun pre V => Loc V p3 #[.int .i64 (pre.length : Nat)] 3 ∧ Loc V p1 #[.bool false] 4 ∧ VSet (W.heap.size + 2) V p2 ∧ Below w.heap.size w V ∧ scan (pre.map tst) 120 = (true, (120 : Int) - (pre.length : Nat)))
    (fun pre V => Loc V p1 #[.bool false] 4 ∧ Below w.heap.size w V ∧ (scan (pre.map tst) 120).1 = false)
    (fun pre A B row hs hg hr => ⟨hs.1.stay hg hr (by omega) (by omega), hs.2.1.stay hg hr (by omega) (by omega), hs.2.2.1.stay hg hr (by omega) (by omega), below_stay hs.2.2.2.1 (by omega) hg hr hs.2.2.2.1.size, hs.2.2.2.2⟩)
    (fun pre A B row hs hg hr => ⟨hs.1.stay hg hr (by omega) (by omega), below_stay hs.2.1 (by omega) hg hr hs.2.1.size, hs.2.2⟩)
    ⟨l3, l1, .inl l2, hBW, rfl⟩
    (fun x a' V => ∃ q, W.heap.size + 1 < q ∧ Loc V q #[x.a, x.b, x.c, x.d, x.e] 62 ∧ a' = { tmps := #[.agg #[.int .i64 0, .slice ab nb cb, .slice ac nc cc, .slice ad nd cd, .slice ae ne ce], .pointer (some ⟨w.heap.size, 0, none⟩), .pointer (some ⟨p1, 0, none⟩), .pointer (some ⟨p2, 0, none⟩), .pointer (some ⟨p3, 0, none⟩), .int .i64 x.deep, .pointer (some ⟨q, 0, none⟩), .pointer (some ⟨w.heap.size, 0, none⟩), .int .i64 0, .bool false, .agg #[.int .i64 0, .slice ab nb cb, .slice ac nc cc, .slice ad nd cd, .slice ae ne ce], .func (.func 155) #[] #[.pointer (some ⟨p4, 0, none⟩)], .int .i64 x.deep, .agg #[x.a, x.b, x.c, x.d, x.e], undef, undef, undef, undef, undef, undef, undef, undef, undef, undef, undef, undef, undef], defers := [] })
    (fun x a' u A B row hs hg hr => by obtain ⟨q, h1, h2, h3⟩ := hs; exact ⟨q, h1, h2.stay hg hr (by omega) (by omega), h3⟩)
    ?assign ?body ?done ?stop
  case assign =>
    intro pre x V K hi hV2 hK
    obtain ⟨deep, a, b, c, d, e, m, u, rd⟩ := x
    obtain ⟨z, ab', nb', cb', ac', nc', cc', ad', nd', cd', ae', ne', ce', hC⟩ := rd_shape rd
    simp only [List.cons.injEq, and_true] at hC
    obtain ⟨rfl, rfl, rfl, rfl, rfl⟩ := hC
    simp only [encIt] at hK ⊢
    gi_wp2
    exact hK _ _ ((Below.refl _ _).alloc (Nat.le_refl _) _) ⟨V.heap.size, by omega, Loc.made V _ _, rfl⟩
  case body =>
    rintro pre x a' V ⟨i3, i1, iV, iB, iS⟩ ⟨q, hq, lq, rfl⟩ hpx hsz2
    obtain ⟨deep, a, b, c, d, e, m, u, rd⟩ := x
    have HI := hide (And.intro i3 (And.intro i1 (And.intro iV (And.intro iB iS))))
    have HR := hide rd
    obtain ⟨z, ab', nb', cb', ac', nc', cc', ad', nd', cd', ae', ne', ce', hC⟩ := rd_shape rd
    simp only [List.cons.injEq, and_true] at hC
    obtain ⟨rfl, rfl, rfl, rfl, rfl⟩ := hC
    have hlen : pre.length ≤ 120 := by
      have := scan_len (a := pre.map tst) (left := 120) (by rw [iS]) (by omega)
      simp at this
      omega
    have c3 : V.cell? ⟨p3, 0, none⟩ = some (.int .i64 (pre.length : Nat)) := i3.cell 0
    have f3 := i3.frozen 0
    have c1 : V.cell? ⟨p1, 0, none⟩ = some (.bool false) := i1.cell 0
    have f1 := i1.frozen 0
    simp only at lq
    obtain ⟨x0, x1, x2, x3, x4⟩ := lq.five
    have hsn := scan_snoc (x := tst (⟨deep, .int .i64 z, .slice ab' nb' cb', .slice ac' nc' cc', .slice ad' nd' cd', .slice ae' ne' ce', m, u, rd⟩ : It w)) iS
    have HS := hide hsn
    clear hsn iS i3 i1 iV iB
    generalize hn : pre.length = n at *
    have HN := hide hn
    clear hn
    have hn1 : 0 ≤ (n : Int) + 1 := by omega
    have hBk : BooksSame W.heap.size V ((V.setCell ⟨p3, 0, none⟩ (.int .i64 ((n : Int) + 1))).setCell ⟨p1, 0, none⟩ (.bool false)) := (books_set W.heap.size V p3 0 _ (by omega) (by omega)).trans (books_set W.heap.size _ p1 0 _ (by omega) (by omega))
    by_cases h1 : 120 < (n : Int) + 1
    · gi_wp2
      refine ⟨trivial, ?_⟩
      gi_wp2
      obtain ⟨i3, i1, iV, iB, iS⟩ := unhide HI
      refine ⟨hBk, (i1.other p3 0 _ (by omega)).set 0 (.bool false), (iB.setCell (p := ⟨p3, 0, none⟩) (by show w.heap.size ≤ p3; omega) _).setCell (p := ⟨p1, 0, none⟩) (by show w.heap.size ≤ p1; omega) _, ?_⟩
      rw [List.map_append, List.map_cons, List.map_nil, unhide HS, if_pos (.inl h1)]
    · by_cases h2 : 20 < deep
      · gi_wp2
        refine ⟨trivial, ?_⟩
        gi_wp2
        obtain ⟨i3, i1, iV, iB, iS⟩ := unhide HI
        refine ⟨hBk, (i1.other p3 0 _ (by omega)).set 0 (.bool false), (iB.setCell (p := ⟨p3, 0, none⟩) (by show w.heap.size ≤ p3; omega) _).setCell (p := ⟨p1, 0, none⟩) (by show w.heap.size ≤ p1; omega) _, ?_⟩
        rw [List.map_append, List.map_cons, List.map_nil, unhide HS, if_pos (.inr (.inl h2))]
      · have hcall : Calls Tryz.prog 143 #[.agg #[.int .i64 z, .slice ab' nb' cb', .slice ac' nc' cc', .slice ad' nd' cd', .slice ae' ne' ce'], .pointer (some ⟨p2, 0, none⟩)] (V.setCell ⟨p3, 0, none⟩ (.int .i64 ((n : Int) + 1))) fun e w' => e = .returned (.bool (partB u)) ∧ VSet (W.heap.size + 2) w' p2 ∧ Frm (V.setCell ⟨p3, 0, none⟩ (.int .i64 ((n : Int) + 1))) w' [p2] := by
          obtain ⟨i3, i1, iV, iB, iS⟩ := unhide HI
          exact partI_any (W.heap.size + 2) m w _ _ _ _ _ _ u p2 (unhide HR) (iB.setCell (p := ⟨p3, 0, none⟩) (by show w.heap.size ≤ p3; omega) _) (by omega) (iV.set i3 (by omega) 0 _) (by simpa using hsz2)
        have HC := hide hcall
        clear hcall
        gi_wp2
        refine ⟨trivial, ?_⟩
        refine (CallsIn.inRound (F := Fence.wide) (W.heap.size + 1) (callsIn_wide.2 (unhide HC))).mono ?_
        rintro e V2 ⟨rfl, hV2, F2⟩
        have HA : Hid (Loc V2 p3 #[.int .i64 ((n : Int) + 1)] 3 ∧ Loc V2 p1 #[.bool false] 4 ∧ Below w.heap.size w V2 ∧ BooksSame W.heap.size V V2 ∧ Frm V V2 [p1, p2, p3, W.heap.size + 1]) := by
          obtain ⟨i3, i1, iV, iB, iS⟩ := unhide HI
          have iB1 := iB.setCell (p := ⟨p3, 0, none⟩) (by show w.heap.size ≤ p3; omega) (.int .i64 ((n : Int) + 1))
          refine ⟨(i3.set 0 _).frm F2 (by simp; omega), (i1.other p3 0 _ (by omega)).frm F2 (by simp; omega), iB1.trans (F2.below iB1.size (fun g hg => by simp at hg; omega)), (books_set W.heap.size V p3 0 _ (by omega) (by omega)).trans (books_frm F2 (by simpa using hsz2) (by simp; omega) (by simp; omega)), ?_⟩
          exact ((Frm.set V p3 0 _).mono (fun g hg => by simp at hg; simp [hg])).trans (F2.mono (fun g hg => by simp at hg; simp [hg]))
        have c1 : V2.cell? ⟨p1, 0, none⟩ = some (.bool false) := (unhide HA).2.1.cell 0
        have f1 := (unhide HA).2.1.frozen 0
        clear x0 x1 x2 x3 x4 c3 f3
        by_cases hb : partB u = true
        · rw [hb]
          gi_wp2
          obtain ⟨a3, a1, aB, aK, aF⟩ := unhide HA
          refine ⟨aK, Frp.ofFrm aF (fun g hg _ _ => hg), ?_, a1, hV2, aB, ?_⟩
          · have e : ((pre ++ [(⟨deep, .int .i64 z, .slice ab' nb' cb', .slice ac' nc' cc', .slice ad' nd' cd', .slice ae' ne' ce', m, u, rd⟩ : It w)]).length : Int) = (n : Int) + 1 := by rw [List.length_append, unhide HN]; simp
            rw [e]; exact a3
          · rw [List.map_append, List.map_cons, List.map_nil, unhide HS, if_neg (by simp only [tst, hb]; simp; omega)]
            rw [List.length_append, unhide HN]
            simp
            omega
        · have hb' : partB u = false := by simpa using hb
          rw [hb']
          gi_wp2
          obtain ⟨a3, a1, aB, aK, aF⟩ := unhide HA
          refine ⟨aK.trans (books_set W.heap.size _ p1 0 _ (by omega) (by omega)), a1.set 0 (.bool false), aB.setCell (p := ⟨p1, 0, none⟩) (by show w.heap.size ≤ p1; omega) _, ?_⟩
          rw [List.map_append, List.map_cons, List.map_nil, unhide HS, if_pos (.inr (.inr hb'))]
  case done =>
    rintro V ⟨i3, i1, iV, iB, iS⟩ hD
    have c1 : V.cell? ⟨p1, 0, none⟩ = some (.bool false) := i1.cell 0
    have f1 := i1.frozen 0
    have HF := hide (show okN k t = true by rw [unhide HO, ← unhide HM, iS])
    clear iS
    gi_wp2
    have hD' : (V.setCell ⟨p1, 0, none⟩ (.bool true)).heap[W.heap.size]? = some (.deferred (some [])) := (heap_setCell_other V ⟨p1, 0, none⟩ _ _ (by show W.heap.size ≠ p1; omega)).trans hD
    refine ⟨by simp, .inl ⟨_, _, rfl, run_takeDeferred hD', ?_⟩⟩
    have lE : Loc ((V.setCell ⟨p1, 0, none⟩ (.bool true)).putObj W.heap.size (.deferred none)) p1 #[.bool true] 4 := (i1.set 0 (.bool true)).stay (grownBy_putObj' _ _ _) (fun r e => by cases e; exact .inl rfl) (by omega) (by omega)
    have c5 : ((V.setCell ⟨p1, 0, none⟩ (.bool true)).putObj W.heap.size (.deferred none)).cell? ⟨p1, 0, none⟩ = some (.bool true) := lE.cell 0
    refine ⟨.bool true, ?_, by rw [unhide HF], below_stay (iB.setCell (p := ⟨p1, 0, none⟩) (by show w.heap.size ≤ p1; omega) _) (D := W.heap.size) (by omega) (grownBy_putObj' _ _ _) (fun r e => by cases e; exact .inl rfl) (by simpa using iB.size)⟩
    simp [results, Tryz.f140, go_sem, c5]
  case stop =>
    rintro pre V hpre ⟨i1, iB, iS⟩ hD
    have HF := hide (show okN k t = false by rw [unhide HO, ← unhide HM]; exact scan_no iS (hpre.map _))
    clear iS
    gi_wp2
    refine ⟨by simp, .inl ⟨_, _, rfl, run_takeDeferred hD, ?_⟩⟩
    have lE : Loc (V.putObj W.heap.size (.deferred none)) p1 #[.bool false] 4 := i1.stay (grownBy_putObj' _ _ _) (fun r e => by cases e; exact .inl rfl) (by omega) (by omega)
    have c5 : (V.putObj W.heap.size (.deferred none)).cell? ⟨p1, 0, none⟩ = some (.bool false) := lE.cell 0
    refine ⟨.bool false, ?_, by rw [unhide HF], below_stay iB (D := W.heap.size) (by omega) (grownBy_putObj' _ _ _) (fun r e => by cases e; exact .inl rfl) iB.size⟩
    simp [results, Tryz.f140, go_sem, c5]

theorem nodeI_none (k : Nat) (w : World) (a b c d e : Value) (t : Tr (k + 1)) (h : RdNode (k + 1) w [a, b, c, d, e] t) (hz : t.kind ≠ 0) :
    Calls Tryz.prog 140 #[.agg #[a, b, c, d, e]] w fun e w' => e = .returned (.bool (okN k t)) ∧ Below w.heap.size w w' := by
  have HO := hide (show okN k t = false by unfold okN; simp [hz])
  obtain ⟨_, _, _, _, e0, k1, k2, hb, hc, hd, he⟩ := h
  simp only [List.cons.injEq, and_true] at e0
  obtain ⟨rfl, rfl, rfl, rfl, rfl⟩ := e0
  obtain ⟨ab, cb, rfl, _, _⟩ := hb.shape
  obtain ⟨ac, cc, rfl, _, _⟩ := hc.shape
  obtain ⟨ad, cd, rfl, _, _⟩ := Elems.shape hd
  obtain ⟨ae, ce, rfl, _, _⟩ := Elems.shape he
  have d0 : (t.kind != 0) = true := by simpa using hz
  clear hb hc hd he
  generalize t.kind = z at *
  generalize t.name.length = nb at *
  generalize t.text.length = nc at *
  generalize t.attrs.length = nd at *
  generalize t.kids.length = ne at *
  go_enter Tryz.func140, Tryz.ntmps140
  go_wp2_with fail
  refine bodyPost_ret (v := .bool false) (by simp [results, Tryz.results140, go_sem]) rfl ⟨by rw [unhide HO], ?_⟩
  exact ((Below.refl _ _).alloc (Nat.le_refl _) _).alloc (by simp) _

/-- impl.NodeOk. -/
theorem nodeI_any (k : Nat) (w : World) (a b c d e : Value) (t : Tr (k + 1)) (h : RdNode (k + 1) w [a, b, c, d, e] t) (hsz : szT (k + 1) t ≤ 2097152) :
    Calls Tryz.prog 140 #[.agg #[a, b, c, d, e]] w fun e w' => e = .returned (.bool (okN k t)) ∧ Below w.heap.size w w' := by
  by_cases hz : t.kind = 0
  · exact nodeI_elem k w a b c d e t h hsz hz
  · exact nodeI_none k w a b c d e t h hz
end Go.Proofs.YtfhekoipnlmhoaaGreat

/- impl.rootOk and impl.startOk. -/
namespace Go.Proofs.YtfhekoipnlmhoaaGreat
open Go.RowKit
set_option linter.unusedVariables false
set_option maxRecDepth 100000

theorem okN_case {P : Prop} [Decidable P] {b : Bool} (h : b = true ↔ P) : b = decide P := by
  cases b with
  | true => simp [h.1 rfl]
  | false => simp; exact fun hh => by have := h.2 hh; cases this
open Classical in
set_option maxHeartbeats 6400000 in
theorem rootI_any (n : Nat) (w : World) (a b c d e : Value) (t : Tr (n + 1)) (h : RdNode (n + 1) w [a, b, c, d, e] t) (hsz : szT (n + 1) t ≤ 2097152) :
    Calls Tryz.prog 107 #[.agg #[a, b, c, d, e]] w fun e w' => e = .returned (.bool (rootB n t)) ∧ Below w.heap.size w w' := by
  obtain ⟨z, ab, nb, cb, ac, nc, cc, ad, nd, cd, ae, ne, ce, rfl, rfl, rfl, rfl, rfl⟩ := rd5 h
  have HN := hide (fun W (hW : Below w.heap.size w W) => nodeI_any n W _ _ _ _ _ t (h.keep hW) hsz)
  have hnm : Byt w (.slice ab nb cb) t.name := by
    obtain ⟨_, _, _, _, e0, _, _, hb, _⟩ := h
    simp only [List.cons.injEq, and_true] at e0
    obtain ⟨_, rfl, _⟩ := e0
    exact hb
  have HB := hide hnm
  have HV := hide (show voidB t.name = decide (Void t.name) from okN_case (voidB_iff t.name))
  clear h hnm
  unfold rootB
  have hA1 := (Below.refl w.heap.size w).alloc (Nat.le_refl _) (.cells #[.int .i64 z, .slice ab nb cb, .slice ac nc cc, .slice ad nd cd, .slice ae ne ce] 62)
  have l1 := Loc.made w #[.int .i64 z, .slice ab nb cb, .slice ac nc cc, .slice ad nd cd, .slice ae ne ce] 62
  have hA2 := hA1.alloc (by simp) (.cells vs0 162)
  have l2 := Loc.made (w.alloc (.cells #[.int .i64 z, .slice ab nb cb, .slice ac nc cc, .slice ad nd cd, .slice ae ne ce] 62)) vs0 162
  have l1' := l1.alloc (.cells vs0 162)
  have hsz1 : (w.alloc (.cells #[.int .i64 z, .slice ab nb cb, .slice ac nc cc, .slice ad nd cd, .slice ae ne ce] 62)).heap.size = w.heap.size + 1 := by simp
  rw [hsz1] at l2
  have LL := hide (And.intro hA2 (And.intro l1' l2))
  have eqv : (Value.agg #[.int .u32 0, .int .i32 0, .int .u32 0, .map none]) = .agg vs0 := rfl
  clear hA1 l1 hA2 l2 l1' hsz1
  unfold vs0 at LL
  go_enter Tryz.func107, Tryz.ntmps107
  go_wp2_with fail
  obtain ⟨hA, l1, l2⟩ := unhide LL
  clear LL
  generalize ((w.alloc (.cells #[.int .i64 z, .slice ab nb cb, .slice ac nc cc, .slice ad nd cd, .slice ae ne ce] 62)).alloc (.cells #[.int .u32 0, .int .i32 0, .int .u32 0, .map none] 162)) = wa at *
  refine (unhide HN _ hA).mono ?_
  rintro e w1 ⟨rfl, hB⟩
  have hA1 := bstep hA hB
  replace l1 := l1.all hB
  replace l2 := l2.all hB
  clear hA hB HN
  cases hb : okN n t with
  | false =>
    go_wp2_with fail
    go_ret
    exact ⟨by rw [hb]; rfl, hA1⟩
  | true =>
    obtain ⟨x0, x1, x2, x3, x4⟩ := l1.five
    go_wp2_with fail
    refine (has_any w1.heap.size (w.heap.size + 1) w1 _ t.name (.inl l2) (Nat.le_refl _) (fun w' f => (unhide HB).keep (hA1.trans (f.below hA1.size (fun q hq => by simp at hq; omega))))).mono ?_
    rintro e w2 ⟨rfl, _, f⟩
    have hA2 := hA1.trans (f.below hA1.size (fun q hq => by simp at hq; omega))
    have hv := unhide HV
    generalize decide (Void t.name) = vd at *
    clear f l1 l2 x0 x1 x2 x3 x4
    go_wp2_with fail
    go_ret
    exact ⟨by rw [hb, hv]; rfl, hA2⟩

set_option maxHeartbeats 3200000 in
theorem startI_any (n : Nat) (w : World) (id : Int) (a b c d e : Value) (t : Tr (n + 1)) (h : RdNode (n + 1) w [a, b, c, d, e] t) (hsz : szT (n + 1) t ≤ 2097152) :
    Calls Tryz.prog 71 #[.int .i64 id, .agg #[a, b, c, d, e]] w fun e w' => e = .returned (.bool (startB n id t)) ∧ Below w.heap.size w w' := by
  obtain ⟨z, ab, nb, cb, ac, nc, cc, ad, nd, cd, ae, ne, ce, rfl, rfl, rfl, rfl, rfl⟩ := rd5 h
  have HN := hide (fun W (hW : Below w.heap.size w W) => rootI_any n W _ _ _ _ _ t (h.keep hW) hsz)
  clear h
  unfold startB
  generalize rootB n t = rb at *
  have hA := (Below.refl w.heap.size w).alloc (Nat.le_refl _) (.cells #[.int .i64 z, .slice ab nb cb, .slice ac nc cc, .slice ad nd cd, .slice ae ne ce] 62)
  by_cases h1 : 0 ≤ id
  · by_cases h2 : id < 8
    · have d1 : decide (0 ≤ id) = true := by simpa using h1
      have d2 : decide (id < 8) = true := by simpa using h2
      rw [d1, d2]
      go_enter Tryz.func71, Tryz.ntmps71
      go_wp2_with fail
      refine (unhide HN _ hA).mono ?_
      rintro e w1 ⟨rfl, hB⟩
      have hA1 := bstep hA hB
      go_wp2_with fail
      go_ret
      exact ⟨rfl, hA1⟩
    · have d1 : decide (0 ≤ id) = true := by simpa using h1
      have d2 : decide (id < 8) = false := by simpa using h2
      rw [d1, d2]
      go_enter Tryz.func71, Tryz.ntmps71
      go_wp2_with fail
      go_ret
      exact ⟨rfl, hA⟩
  · have d1 : decide (0 ≤ id) = false := by simpa using h1
    rw [d1]
    go_enter Tryz.func71, Tryz.ntmps71
    go_wp2_with fail
    go_ret
    exact ⟨rfl, hA⟩
end Go.Proofs.YtfhekoipnlmhoaaGreat

/- impl.stampsOk. -/
namespace Go.Proofs.YtfhekoipnlmhoaaGreat
open Go.RowKit
set_option linter.unusedVariables false
set_option maxRecDepth 100000

set_option maxHeartbeats 6400000 in
theorem staI_any (n : Nat) (w : World) (a b c d e vo vu : Value) (r : RepV n) (h : RdRep n w a b c d e vo vu r) :
    Calls Tryz.prog 72 #[repVal r a b c d e vo vu] w fun e w' => e = .returned (.bool (stampsB r.ops r.clock)) ∧ Below w.heap.size w w' := by
  obtain ⟨z, ab, nb, cb, ac, nc, cc, ad, nd, cd, ae, ne, ce, rfl, rfl, rfl, rfl, rfl⟩ := rd5 h.1
  obtain ⟨_, ho, hu⟩ := h
  obtain ⟨au, cu, rfl, _, _⟩ := Elems.shape hu
  have hm := ho.1
  unfold maxLen at hm
  generalize r.und.length = nu at *
  clear hu
  unfold repVal
  have HG := hide (fun hh => stampsB_good (l := r.ops) (c := r.clock) hh)
  have HN := hide (fun k hk hh => stampsB_bad (l := r.ops) (c := r.clock) (k := k) hk hh)
  generalize stampsB r.ops r.clock = res at *
  generalize r.ops = l at *
  obtain ⟨rfl, ao, co, rfl⟩ | ⟨b, off, cap, rfl, hnil, g4, g5⟩ := ho.cases
  · have HY := hide (unhide HG (fun k hk => by simp at hk))
    have hA := (Below.refl w.heap.size w).alloc (Nat.le_refl _) (.cells (#[.int .i64 r.id, .int .i64 r.clock, .int .i64 z, .slice ab nb cb, .slice ac nc cc, .slice ad nd cd, .slice ae ne ce, .slice ao ([] : List OpV).length co, .slice au nu cu, .bool r.lost]) 65)
    go_enter Tryz.func72, Tryz.ntmps72
    go_wp2_with fail
    refine wp_loop_rounds 1 ?_
    rw [rounds_succ]
    go_wp2_with fail
    go_ret
    exact ⟨by rw [unhide HY]; rfl, hA⟩
  have hA := (Below.refl w.heap.size w).alloc (Nat.le_refl _) (.cells (#[.int .i64 r.id, .int .i64 r.clock, .int .i64 z, .slice ab nb cb, .slice ac nc cc, .slice ad nd cd, .slice ae ne ce, .slice (some ⟨b, off, none⟩) l.length cap, .slice au nu cu, .bool r.lost]) 65)
  have l0 := Loc.made w (#[.int .i64 r.id, .int .i64 r.clock, .int .i64 z, .slice ab nb cb, .slice ac nc cc, .slice ad nd cd, .slice ae ne ce, .slice (some ⟨b, off, none⟩) l.length cap, .slice au nu cu, .bool r.lost]) 65
  go_enter Tryz.func72, Tryz.ntmps72
  go_wp2_with fail
  generalize (w.alloc (.cells (#[.int .i64 r.id, .int .i64 r.clock, .int .i64 z, .slice ab nb cb, .slice ac nc cc, .slice ad nd cd, .slice ae ne ce, .slice (some ⟨b, off, none⟩) l.length cap, .slice au nu cu, .bool r.lost]) 65)) = wa at *
  go_loopw [4, 8] (fun _ i wr => ∃ k : Nat, k ≤ l.length ∧ i = .int .i64 k ∧ (∀ j (hj : j < l.length), j < k → l[j].atN ≤ r.clock) ∧ Below wa.heap.size wa wr) (fun _ i _ => l.length - (intOf i).toNat)
  case atStart => exact ⟨0, Nat.zero_le _, rfl, fun j _ hj => by omega, Below.refl _ _⟩
  case round =>
    obtain ⟨k, hk, rfl, hok, hB⟩ := hrel
    have hAB := bstep hA hB
    by_cases hlt : k < l.length
    · obtain ⟨a1, c1, a2, c2, a3, c3, e0, e1, e2, e3, e4, e5, e6, e7, e8, e9, e10, e11, hr⟩ := opc_at hAB g4 (g5 k hlt)
      have t1 : wr.cell? ⟨w.heap.size, 1, none⟩ = some (.int .i64 r.clock) := (l0.all hB).cell 1
      have hlt' : (k : Int) < (l.length : Int) := by omega
      have hk0 : (0 : Int) ≤ (k : Int) := by omega
      have HJ := hide (fun (hh : l[k].atN ≤ r.clock) j (hj : j < l.length) (hjk : j < k + 1) => (show l[j].atN ≤ r.clock by rcases Nat.lt_succ_iff_lt_or_eq.1 hjk with h1 | rfl; exact hok j hj h1; exact hh))
      have HNK := hide (fun (hh : r.clock < l[k].atN) => unhide HN k hlt hh)
      have hBx := fun (o : Obj) => (hB.alloc (by exact hB.size) o)
      have HBX := hide (fun (o : Obj) => bstep hA (hB.alloc hB.size o))
      have HBY := hide (fun (o : Obj) => hB.alloc hB.size o)
      have hSr : w.heap.size < wr.heap.size := (l0.all hB).lt
      generalize l[k] = o at *
      generalize o.key.length = nK at *
      generalize o.name.length = nN at *
      generalize o.text.length = nT at *
      clear g5 hr hnil HG HN hok hBx
      by_cases hq : r.clock < o.atN
      · have HF := hide (unhide HNK hq)
        clear HNK HJ
        go_wp2_with fail
        go_ret
        exact ⟨by rw [unhide HF]; rfl, unhide HBX _⟩
      · have hq' : o.atN ≤ r.clock := by omega
        have HJ' := hide (unhide HJ hq')
        clear HNK HJ
        go_wp2_with fail
        go_roundw
        case rel => exact ⟨k + 1, by omega, by go_num, unhide HJ', unhide HBY _⟩
        case measure => simp [intOf]; omega
    · have HY := hide (unhide HG (fun k hk => hok k hk (by omega)))
      clear g5
      go_wp2_with fail
      go_ret
      exact ⟨by rw [unhide HY]; rfl, hAB⟩
end Go.Proofs.YtfhekoipnlmhoaaGreat

/- impl.undoneOk. -/
namespace Go.Proofs.YtfhekoipnlmhoaaGreat
open Go.RowKit
set_option linter.unusedVariables false
set_option maxRecDepth 100000

set_option maxHeartbeats 12800000 in
theorem undI_any (n : Nat) (w : World) (a b c d e vo vu : Value) (r : RepV n) (h : RdRep n w a b c d e vo vu r) :
    Calls Tryz.prog 73 #[repVal r a b c d e vo vu] w fun e w' => e = .returned (.bool (undB r.und r.id r.clock)) ∧ Below w.heap.size w w' := by
  obtain ⟨z, ab, nb, cb, ac, nc, cc, ad, nd, cd, ae, ne, ce, rfl, rfl, rfl, rfl, rfl⟩ := rd5 h.1
  obtain ⟨_, ho, hu⟩ := h
  obtain ⟨ao, co, rfl, _, _⟩ := Elems.shape ho
  have hm := hu.1
  unfold maxLen at hm
  generalize r.ops.length = no at *
  clear ho
  unfold repVal
  have HLG := hide (fun hh => undB_long (l := r.und) (id := r.id) (clk := r.clock) hh)
  have HG := hide (fun hn hh => undB_good (l := r.und) (id := r.id) (clk := r.clock) hn hh)
  have HN := hide (fun k hk hh => undB_bad (l := r.und) (id := r.id) (clk := r.clock) (k := k) hk hh)
  have HE := hide (fun k hk => undAt_eq (l := r.und) (id := r.id) (clk := r.clock) (k := k) hk)
  generalize undB r.und r.id r.clock = res at *
  generalize hul : r.und = l at *
  clear hul
  by_cases hlong : 150 < l.length
  · obtain ⟨au, cu, rfl, _, _⟩ := Elems.shape hu
    have hd : (150 : Int) < (l.length : Int) := by omega
    have HY := hide (unhide HLG hlong)
    have hA := (Below.refl w.heap.size w).alloc (Nat.le_refl _) (.cells (#[.int .i64 r.id, .int .i64 r.clock, .int .i64 z, .slice ab nb cb, .slice ac nc cc, .slice ad nd cd, .slice ae ne ce, .slice ao no co, .slice au l.length cu, .bool r.lost]) 65)
    go_enter Tryz.func73, Tryz.ntmps73
    go_wp2_with fail
    go_ret
    exact ⟨by rw [unhide HY]; rfl, hA⟩
  have hd : ¬ (150 : Int) < (l.length : Int) := by omega
  obtain ⟨rfl, au, cu, rfl⟩ | ⟨b, off, cap, rfl, hnil, g4, g5⟩ := hu.cases
  · have HY := hide (unhide HG (by simp) (fun k hk => by simp at hk))
    have hA := (Below.refl w.heap.size w).alloc (Nat.le_refl _) (.cells (#[.int .i64 r.id, .int .i64 r.clock, .int .i64 z, .slice ab nb cb, .slice ac nc cc, .slice ad nd cd, .slice ae ne ce, .slice ao no co, .slice au ([] : List (Int × Int)).length cu, .bool r.lost]) 65)
    go_enter Tryz.func73, Tryz.ntmps73
    go_wp2_with fail
    refine wp_loop_rounds 1 ?_
    rw [rounds_succ]
    go_wp2_with fail
    go_ret
    exact ⟨by rw [unhide HY]; rfl, hA⟩
  have hA := (Below.refl w.heap.size w).alloc (Nat.le_refl _) (.cells (#[.int .i64 r.id, .int .i64 r.clock, .int .i64 z, .slice ab nb cb, .slice ac nc cc, .slice ad nd cd, .slice ae ne ce, .slice ao no co, .slice (some ⟨b, off, none⟩) l.length cap, .bool r.lost]) 65)
  have l0 := Loc.made w (#[.int .i64 r.id, .int .i64 r.clock, .int .i64 z, .slice ab nb cb, .slice ac nc cc, .slice ad nd cd, .slice ae ne ce, .slice ao no co, .slice (some ⟨b, off, none⟩) l.length cap, .bool r.lost]) 65
  replace HG := hide (fun hh => unhide HG (by omega) hh)
  clear HLG
  go_enter Tryz.func73, Tryz.ntmps73
  go_wp2_with fail
  generalize (w.alloc (.cells (#[.int .i64 r.id, .int .i64 r.clock, .int .i64 z, .slice ab nb cb, .slice ac nc cc, .slice ad nd cd, .slice ae ne ce, .slice ao no co, .slice (some ⟨b, off, none⟩) l.length cap, .bool r.lost]) 65)) = wa at *
  go_loopw [3, 4, 12] (fun _ _ i wr => ∃ k : Nat, k ≤ l.length ∧ i = .int .i64 k ∧ (∀ j, j < k → undAt l r.id r.clock j = true) ∧ Below wa.heap.size wa wr) (fun _ _ i _ => l.length - (intOf i).toNat)
  case atStart => exact ⟨0, Nat.zero_le _, rfl, fun j hj => by omega, Below.refl _ _⟩
  case round =>
    obtain ⟨k, hk, rfl, hok, hB⟩ := hrel
    have hAB := bstep hA hB
    by_cases hlt : k < l.length
    · obtain ⟨c0, c1⟩ := g5 k hlt
      have e0 := (hAB.cell (p := ⟨b, off + k * 2, none⟩) g4).trans c0
      have e1 := (hAB.cell (p := ⟨b, off + k * 2 + 1, none⟩) g4).trans c1
      have lr := l0.all hB
      have hlt' : (k : Int) < (l.length : Int) := by omega
      have hk0 : (0 : Int) ≤ (k : Int) := by omega
      have HE' := hide (unhide HE k hlt)
      have HJ := hide (fun (hh : undAt l r.id r.clock k = true) j (hj : j < k + 1) => (show undAt l r.id r.clock j = true by rcases Nat.lt_succ_iff_lt_or_eq.1 hj with h1 | rfl; exact hok j h1; exact hh))
      have HNK := hide (fun (hh : undAt l r.id r.clock k = false) => unhide HN k hlt hh)
      have HP := hide (fun j (ej : k = j + 1) => (show ∃ q : Int × Int, l[k - 1]'(by omega) = q ∧ wr.cell? ⟨b, off + j * 2, none⟩ = some (.int .i64 q.1) ∧ wr.cell? ⟨b, off + j * 2 + 1, none⟩ = some (.int .i64 q.2) by
        obtain ⟨p0, p1⟩ := g5 j (by omega)
        exact ⟨l[j], by subst ej; rfl, (hAB.cell (p := ⟨b, off + j * 2, none⟩) g4).trans p0, (hAB.cell (p := ⟨b, off + j * 2 + 1, none⟩) g4).trans p1⟩))
      have HB0 := hide (show Below wa.heap.size wa (wr.alloc (.cells (#[.int .i64 l[k].1, .int .i64 l[k].2]) 25)) from hB.alloc hB.size _)
      have hSr : w.heap.size < wr.heap.size := lr.lt
      have g4' : b < wr.heap.size := Nat.lt_of_lt_of_le g4 hAB.size
      generalize undAt l r.id r.clock k = okk at *
      generalize hoo : l[k] = o at *
      have t0 : wr.cell? ⟨w.heap.size, 0, none⟩ = some (.int .i64 r.id) := lr.cell 0
      have t1 : wr.cell? ⟨w.heap.size, 1, none⟩ = some (.int .i64 r.clock) := lr.cell 1
      have t8 : wr.cell? ⟨w.heap.size, 8, none⟩ = some (.slice (some ⟨b, off, none⟩) l.length cap) := lr.cell 8
      clear hoo g5 c0 c1 hnil HG HN HE hok
      by_cases hq : o.2 = r.id ∧ 1 ≤ o.1 ∧ o.1 ≤ r.clock
      case neg =>
        have HF := hide (unhide HNK (by
          rw [unhide HE']
          have : (decide (o.2 = r.id) && decide (1 ≤ o.1) && decide (o.1 ≤ r.clock)) = false := by
            rw [Bool.and_eq_false_iff, Bool.and_eq_false_iff]
            simp only [decide_eq_false_iff_not]
            omega
          rw [this, Bool.false_and]))
        have hAx := bstep hA (unhide HB0)
        clear HE' HJ HNK HP HB0
        by_cases q1 : o.2 = r.id
        · by_cases q2 : 1 ≤ o.1
          · have q3 : r.clock < o.1 := by omega
            have d1 : (o.2 != r.id) = false := by simpa using q1
            have d2 : decide (o.1 < 1) = false := by simp; omega
            have q2' : ¬ o.1 < 1 := by omega
            clear q1
            go_wp2_with fail
            go_ret
            exact ⟨by rw [unhide HF]; rfl, hAx⟩
          · have q2' : o.1 < 1 := by omega
            have d1 : (o.2 != r.id) = false := by simpa using q1
            clear q1
            go_wp2_with fail
            go_ret
            exact ⟨by rw [unhide HF]; rfl, hAx⟩
        · have d1 : (o.2 != r.id) = true := by simpa using q1
          go_wp2_with fail
          go_ret
          exact ⟨by rw [unhide HF]; rfl, hAx⟩
      obtain ⟨q1, q2, q3⟩ := hq
      have HE2 : okk = (decide (k = 0) || lessB (l[k - 1]'(by omega)).1 (l[k - 1]'(by omega)).2 o.1 o.2) := by
        rw [unhide HE', decide_eq_true q1, decide_eq_true q2, decide_eq_true q3]; rfl
      have d1 : (o.2 != r.id) = false := by simpa using q1
      have d2 : ¬ o.1 < 1 := by omega
      have d3 : ¬ r.clock < o.1 := by omega
      clear q1
      have lo := Loc.made wr #[.int .i64 o.1, .int .i64 o.2] 25
      have hAb := (Below.refl wr.heap.size wr).alloc (Nat.le_refl _) (.cells #[.int .i64 o.1, .int .i64 o.2] 25)
      have HCB := hide (fun a v (hb : a.block < wr.heap.size) (h : wr.cell? a = some v) => (hAb.cell hb).trans h)
      have LL := hide (And.intro lo (unhide HB0))
      clear lo hAb HE' HB0
      go_wp2_with fail
      obtain ⟨lo, hBb⟩ := unhide LL
      clear LL
      have t0 := unhide HCB _ _ hSr t0
      have t1 := unhide HCB _ _ hSr t1
      have t8 := unhide HCB _ _ hSr t8
      have y0 : (wr.alloc (.cells #[.int .i64 o.1, .int .i64 o.2] 25)).cell? ⟨wr.heap.size, 0, none⟩ = some (.int .i64 o.1) := lo.cell 0
      have y1 : (wr.alloc (.cells #[.int .i64 o.1, .int .i64 o.2] 25)).cell? ⟨wr.heap.size, 1, none⟩ = some (.int .i64 o.2) := lo.cell 1
      have hSl : wr.heap.size < (wr.alloc (.cells #[.int .i64 o.1, .int .i64 o.2] 25)).heap.size := lo.lt
      generalize (wr.alloc (.cells #[.int .i64 o.1, .int .i64 o.2] 25)) = wb at *
      have hSr' : w.heap.size < wb.heap.size := Nat.lt_trans hSr hSl
      have hNE : Nonempty (Gr wb) := ⟨⟨wb, Below.refl _ _⟩⟩
      replace t0 := Gr.cell hSr' t0
      replace t1 := Gr.cell hSr' t1
      replace t8 := Gr.cell hSr' t8
      replace y0 := Gr.cell hSl y0
      replace y1 := Gr.cell hSl y1
      rcases Nat.eq_zero_or_pos k with hz | hpos
      · have HY := hide (unhide HJ (by rw [HE2, decide_eq_true hz]; rfl))
        have dz3 : ¬ 0 < k := by omega
        have dz4 : decide (0 < k) = false := by simp; omega
        clear HP HE2 HCB HJ HNK hz
        refine wp_region_gr (by kernel_rfl) (by kernel_rfl) ?_
        repeat (go_big_quiet_step (fail))
        refine wpQuiet_nil ?_
        rintro _ ⟨p, rfl⟩
        have hB3 := bstep hBb p.h
        clear t0 t1 t8 y0 y1
        go_wp2_with fail
        go_roundw
        case rel => exact ⟨k + 1, by omega, by go_num, unhide HY, hB3⟩
        case measure => simp [intOf]; omega
      · obtain ⟨j, ej⟩ : ∃ j, k = j + 1 := ⟨k - 1, by omega⟩
        have dz3 : 0 < k := hpos
        have dz4 : decide (0 < k) = true := by simp; omega
        have hj1 : (k : Int) - 1 = (j : Int) := by omega
        have hj0 : (0 : Int) ≤ (j : Int) := by omega
        have hjl : (j : Int) < (l.length : Int) := by omega
        obtain ⟨q, eq, i1, i2⟩ := unhide HP j ej
        have HE3 : okk = lessB q.1 q.2 o.1 o.2 := by rw [HE2, eq, decide_eq_false (by omega), Bool.false_or]
        have i1 := unhide HCB _ _ g4' i1
        have i2 := unhide HCB _ _ g4' i2
        replace i1 := Gr.cell (Nat.lt_trans g4' hSl) i1
        replace i2 := Gr.cell (Nat.lt_trans g4' hSl) i2
        have HLL := hide (fun W => lessI_any W q.1 q.2 o.1 o.2)
        clear HE2 HP HCB eq hpos
        generalize lessB q.1 q.2 o.1 o.2 = lb at *
        subst HE3
        clear ej
        refine wp_region_gr (by kernel_rfl) (by kernel_rfl) ?_
        repeat (go_big_quiet_step ((rename_i p; exact calls_gr (unhide HLL _))))
        refine wpQuiet_nil ?_
        rintro _ ⟨p, rfl⟩
        have hB3 := bstep hBb p.h
        clear t0 t1 t8 y0 y1 i1 i2
        cases okk with
        | true =>
          go_wp2_with fail
          go_roundw
          case rel => exact ⟨k + 1, by omega, by go_num, unhide HJ rfl, hB3⟩
          case measure => simp [intOf]; omega
        | false =>
          have HF := hide (unhide HNK rfl)
          clear HNK
          go_wp2_with fail
          go_ret
          exact ⟨by rw [unhide HF]; rfl, bstep hA hB3⟩
    · have HY := hide (unhide HG (fun j hj => hok j (by omega)))
      clear g5
      go_wp2_with fail
      go_ret
      exact ⟨by rw [unhide HY]; rfl, hAB⟩
end Go.Proofs.YtfhekoipnlmhoaaGreat

/- impl.stampOk, impl.idOk, impl.valueOk, impl.isZeroOp answer what the plain tests say. -/
namespace Go.Proofs.YtfhekoipnlmhoaaGreat
open Go.RowKit
set_option linter.unusedVariables false
set_option maxRecDepth 100000

def stampB (n r : Int) : Bool := decide (1 ≤ n) && (decide (n ≤ 1000000) && (decide (0 ≤ r) && decide (r < 8)))
theorem stampB_cases (n r : Int) :
    (stampB n r = false ∧ decide (1 ≤ n) = false) ∨
    (stampB n r = false ∧ decide (1 ≤ n) = true ∧ decide (n ≤ 1000000) = false) ∨
    (stampB n r = false ∧ decide (1 ≤ n) = true ∧ decide (n ≤ 1000000) = true ∧ decide (0 ≤ r) = false) ∨
    (stampB n r = true ∧ decide (1 ≤ n) = true ∧ decide (n ≤ 1000000) = true ∧ decide (0 ≤ r) = true ∧ decide (r < 8) = true) ∨
    (stampB n r = false ∧ decide (1 ≤ n) = true ∧ decide (n ≤ 1000000) = true ∧ decide (0 ≤ r) = true ∧ decide (r < 8) = false) := by
  unfold stampB
  cases decide (1 ≤ n) <;> cases decide (n ≤ 1000000) <;> cases decide (0 ≤ r) <;> cases decide (r < 8) <;> simp

set_option maxHeartbeats 1600000 in
theorem stampI_any (w : World) (n r : Int) :
    Calls Tryz.prog 117 #[.agg #[.int .i64 n, .int .i64 r]] w fun e w' => e = .returned (.bool (stampB n r)) ∧ w' = w.alloc (.cells #[.int .i64 n, .int .i64 r] 25) := by
  rcases stampB_cases n r with ⟨h, q1⟩ | ⟨h, q1, q2⟩ | ⟨h, q1, q2, q3⟩ | ⟨h, q1, q2, q3, q4⟩ | ⟨h, q1, q2, q3, q4⟩
  all_goals
    have HE := hide h
    clear h
    go_enter Tryz.func117, Tryz.ntmps117
    go_wp2
    go_ret
    exact ⟨by rw [unhide HE]; rfl, rfl⟩

theorem idB_stamp (n r : Int) :
    (stampB n r = true ∧ idB n r = true) ∨
    (stampB n r = false ∧ idB n r = false ∧ (n == 0) = false) ∨
    (stampB n r = false ∧ idB n r = false ∧ n = 0 ∧ (n == 0) = true ∧ decide (0 ≤ r) = false) ∨
    (stampB n r = false ∧ idB n r = decide (r ≤ 121) ∧ n = 0 ∧ (n == 0) = true ∧ decide (0 ≤ r) = true) := by
  unfold stampB idB
  by_cases a : n = 0
  · subst a
    by_cases b : 0 ≤ r
    · right; right; right
      refine ⟨by simp, ?_, rfl, rfl, by simpa using b⟩
      rw [Bool.eq_iff_iff]
      simp
      omega
    · right; right; left
      refine ⟨by simp, ?_, rfl, rfl, by simpa using b⟩
      rw [Bool.eq_false_iff]
      simp only [ne_eq, Bool.and_eq_true, Bool.or_eq_true, decide_eq_true_eq]
      omega
  · by_cases c : 1 ≤ n ∧ n ≤ 1000000 ∧ 0 ≤ r ∧ r < 8
    · left
      simp only [Bool.and_eq_true, Bool.or_eq_true, decide_eq_true_eq]
      omega
    · right; left
      refine ⟨?_, ?_, by simpa using a⟩
      · rw [Bool.eq_false_iff]
        simp only [ne_eq, Bool.and_eq_true, decide_eq_true_eq]
        omega
      · rw [Bool.eq_false_iff]
        simp only [ne_eq, Bool.and_eq_true, Bool.or_eq_true, decide_eq_true_eq]
        omega

set_option maxHeartbeats 1600000 in
theorem idI_any (w : World) (n r : Int) :
    Calls Tryz.prog 111 #[.agg #[.int .i64 n, .int .i64 r]] w fun e w' => e = .returned (.bool (idB n r)) ∧ w' = (w.alloc (.cells #[.int .i64 n, .int .i64 r] 25)).alloc (.cells #[.int .i64 n, .int .i64 r] 25) := by
  have HS := hide (stampI_any (w.alloc (.cells #[.int .i64 n, .int .i64 r] 25)) n r)
  rcases idB_stamp n r with ⟨h, k⟩ | ⟨h, k, q1⟩ | ⟨h, k, rfl, q1, q2⟩ | ⟨h, k, rfl, q1, q2⟩
  all_goals
    rw [h] at HS
    have HE := hide k
    clear h k
    go_enter Tryz.func111, Tryz.ntmps111
    go_wp2_with fail
    refine (unhide HS).mono ?_
    rintro e w1 ⟨rfl, rfl⟩
    go_wp2
    go_ret
    exact ⟨by rw [unhide HE]; rfl, rfl⟩

theorem nameI_b (w : World) (v : Value) (l : List Int) (h : Byt w v l) : Calls Tryz.prog 115 #[v] w fun e w' => e = .returned (.bool (nameB l)) ∧ w' = w := by
  by_cases hn : NameOk l
  · rw [(nameB_iff l).2 hn]; exact nameI_yes w v l h hn
  · rw [Bool.eq_false_iff.2 (fun k => hn ((nameB_iff l).1 k))]; exact nameI_no w v l h hn
theorem textI_b (w : World) (v : Value) (l : List Int) (h : Byt w v l) : Calls Tryz.prog 114 #[v] w fun e w' => e = .returned (.bool (textB l)) ∧ w' = w := by
  by_cases hn : TextOk l
  · rw [(textB_iff l).2 hn]; exact textI_yes w v l h hn
  · rw [Bool.eq_false_iff.2 (fun k => hn ((textB_iff l).1 k))]; exact textI_no w v l h hn

def valB (t : List Int) (gone : Bool) : Bool := if gone then (t.length : Int) == 0 else textB t
set_option maxHeartbeats 1600000 in
theorem valI_any (w : World) (v : Value) (t : List Int) (gone : Bool) (h : Byt w v t) :
    Calls Tryz.prog 116 #[v, .bool gone] w fun e w' => e = .returned (.bool (valB t gone)) ∧ w' = w := by
  have HT := hide (textI_b w v t h)
  obtain ⟨a, c, rfl, _, _⟩ := h.shape
  clear h
  cases gone
  · go_enter Tryz.func116, Tryz.ntmps116
    go_wp2_with fail
    refine (unhide HT).mono ?_
    rintro e w1 ⟨rfl, rfl⟩
    go_wp2
    go_ret
    exact ⟨rfl, rfl⟩
  · go_enter Tryz.func116, Tryz.ntmps116
    go_wp2_with fail
    go_ret
    exact ⟨rfl, rfl⟩

/-- Elem, Name and Text of a node without Kids. -/
def loneB (k : Int) (n t : List Int) : Bool := if k = 0 then nameB n && (t.length : Int) == 0 else if k = 1 then (n.length : Int) == 0 && textB t else false

theorem attrsI_none (w : World) : Calls Tryz.prog 153 #[.slice none 0 0] w fun e w' => e = .returned (.bool true) ∧ w' = w := by
  go_enter Tryz.func153, Tryz.ntmps153
  go_wp2
  refine wp_loop_rounds 1 ?_
  rw [rounds_succ]
  go_wp2
  go_ret
  exact ⟨rfl, rfl⟩

set_option maxHeartbeats 3200000 in
theorem partI_lone (w : World) (k : Int) (vn vt : Value) (n t : List Int) (g : Nat) (hn : Byt w vn n) (ht : Byt w vt t) :
    Calls Tryz.prog 143 #[.agg #[.int .i64 k, vn, vt, .slice none 0 0, .slice none 0 0], .pointer (some ⟨g, 0, none⟩)] w fun e w' => e = .returned (.bool (loneB k n t)) ∧ w' = w.alloc (.cells #[.int .i64 k, vn, vt, .slice none 0 0, .slice none 0 0] 62) := by
  have HA := hide ((Below.refl w.heap.size w).alloc (Nat.le_refl _) (.cells #[.int .i64 k, vn, vt, .slice none 0 0, .slice none 0 0] 62))
  have HN := hide (nameI_b _ vn n (hn.keep (unhide HA)))
  have HT := hide (textI_b _ vt t (ht.keep (unhide HA)))
  obtain ⟨a1, c1, rfl, _, _⟩ := hn.shape
  obtain ⟨a2, c2, rfl, _, _⟩ := ht.shape
  clear hn ht
  by_cases k0 : k = 0
  · subst k0
    have HE := hide (show loneB 0 n t = (nameB n && (t.length : Int) == 0) from rfl)
    generalize nameB n = x at *
    generalize n.length = ln at *
    generalize t.length = lt at *
    cases x
    · go_enter Tryz.func143, Tryz.ntmps143
      go_wp2_with fail
      refine (unhide HN).mono ?_
      rintro e w1 ⟨rfl, rfl⟩
      go_wp2_with fail
      go_ret
      exact ⟨by rw [unhide HE]; rfl, rfl⟩
    · by_cases h0 : lt = 0
      · subst h0
        go_enter Tryz.func143, Tryz.ntmps143
        go_wp2_with fail
        refine (unhide HN).mono ?_
        rintro e w1 ⟨rfl, rfl⟩
        go_wp2_with fail
        refine (attrsI_none _).mono ?_
        rintro e w1 ⟨rfl, rfl⟩
        go_wp2_with fail
        go_ret
        exact ⟨by rw [unhide HE]; rfl, rfl⟩
      · have h0' : ((lt : Int) == 0) = false := by simpa using h0
        go_enter Tryz.func143, Tryz.ntmps143
        go_wp2_with fail
        refine (unhide HN).mono ?_
        rintro e w1 ⟨rfl, rfl⟩
        go_wp2_with fail
        go_ret
        exact ⟨by rw [unhide HE, h0']; rfl, rfl⟩
  · by_cases k1 : k = 1
    · subst k1
      have HE := hide (show loneB 1 n t = ((n.length : Int) == 0 && textB t) from rfl)
      generalize textB t = x at *
      generalize n.length = ln at *
      generalize t.length = lt at *
      by_cases h0 : ln = 0
      · subst h0
        cases x
        · go_enter Tryz.func143, Tryz.ntmps143
          go_wp2_with fail
          refine (unhide HT).mono ?_
          rintro e w1 ⟨rfl, rfl⟩
          go_wp2_with fail
          go_ret
          exact ⟨by rw [unhide HE]; rfl, rfl⟩
        · go_enter Tryz.func143, Tryz.ntmps143
          go_wp2_with fail
          refine (unhide HT).mono ?_
          rintro e w1 ⟨rfl, rfl⟩
          go_wp2_with fail
          go_ret
          exact ⟨by rw [unhide HE]; rfl, rfl⟩
      · have h0' : ((ln : Int) == 0) = false := by simpa using h0
        go_enter Tryz.func143, Tryz.ntmps143
        go_wp2_with fail
        go_ret
        exact ⟨by rw [unhide HE, h0']; rfl, rfl⟩
    · have HE := hide (show loneB k n t = false by unfold loneB; rw [if_neg k0, if_neg k1])
      have q0 : (k == 0) = false := by simpa using k0
      have q1 : (k == 1) = false := by simpa using k1
      go_enter Tryz.func143, Tryz.ntmps143
      go_wp2_with fail
      go_ret
      exact ⟨by rw [unhide HE]; rfl, rfl⟩

set_option maxHeartbeats 3200000 in
theorem loneI_any (w : World) (k : Int) (vn vt : Value) (n t : List Int) (hn : Byt w vn n) (ht : Byt w vt t) :
    Calls Tryz.prog 113 #[.agg #[.int .i64 k, vn, vt, .slice none 0 0, .slice none 0 0]] w fun e w' => e = .returned (.bool (loneB k n t)) ∧ w' = ((w.alloc (.cells #[.int .i64 k, vn, vt, .slice none 0 0, .slice none 0 0] 62)).alloc (.cells #[.int .u32 0, .int .i32 0, .int .u32 0, .map none] 162)).alloc (.cells #[.int .i64 k, vn, vt, .slice none 0 0, .slice none 0 0] 62) := by
  have HN := hide (fun W (h : Below w.heap.size w W) => hn.keep h)
  have HT := hide (fun W (h : Below w.heap.size w W) => ht.keep h)
  obtain ⟨a1, c1, rfl, _, _⟩ := hn.shape
  obtain ⟨a2, c2, rfl, _, _⟩ := ht.shape
  clear hn ht
  go_enter Tryz.func113, Tryz.ntmps113
  go_wp2_with fail
  have HB := hide (((Below.refl w.heap.size w).alloc (Nat.le_refl _) (.cells #[.int .i64 k, .slice a1 n.length c1, .slice a2 t.length c2, .slice none 0 0, .slice none 0 0] 62)).alloc (by simp) (.cells #[.int .u32 0, .int .i32 0, .int .u32 0, .map none] 162))
  refine (partI_lone _ k _ _ n t _ (unhide HN _ (unhide HB)) (unhide HT _ (unhide HB))).mono ?_
  rintro e w1 ⟨rfl, rfl⟩
  go_wp2
  go_ret
  exact ⟨rfl, rfl⟩

def zeroOpB (o : OpV) : Bool := (o.kind == 0) && (zeroB o.atN o.atR && (zeroB o.nodeN o.nodeR && (zeroB o.parN o.parR && ((o.key.length : Int) == 0 && ((o.elem == 0) && ((o.name.length : Int) == 0 && ((o.text.length : Int) == 0 && !o.gone)))))))

set_option maxHeartbeats 3200000 in
theorem zeroI_any (w : World) (o : OpV) (a1 a2 a3 : Option Addr) (c1 c2 c3 : Nat) :
    Calls Tryz.prog 118 #[opVal o (.slice a1 o.key.length c1) (.slice a2 o.name.length c2) (.slice a3 o.text.length c3)] w fun e w' => e = .returned (.bool (zeroOpB o)) ∧ Below w.heap.size w w' := by
  unfold opVal
  go_enter Tryz.func118, Tryz.ntmps118
  go_wp2_with fail
  all_goals
    go_ret
    exact ⟨by simp [zeroOpB, zeroB, *], (Below.refl w.heap.size w).alloc (Nat.le_refl _) _⟩
end Go.Proofs.YtfhekoipnlmhoaaGreat

/- The test of an operation, the two ways round, in plain mathematics. -/
namespace Go.Proofs.YtfhekoipnlmhoaaGreat
set_option linter.unusedVariables false

theorem headB_eq (o : OpV) : opHeadB o = (decide (o.kind < 0) || (decide (3 < o.kind) || (!stampB o.atN o.atR || !textB o.text))) := by
  unfold opHeadB stampB
  have e1 : decide (1 ≤ o.atN) = !decide (o.atN < 1) := by rw [Bool.eq_iff_iff]; simp
  have e2 : decide (o.atN ≤ 1000000) = !decide (1000000 < o.atN) := by rw [Bool.eq_iff_iff]; simp
  have e3 : decide (0 ≤ o.atR) = !decide (o.atR < 0) := by rw [Bool.eq_iff_iff]; simp
  have e4 : decide (o.atR < 8) = !decide (8 ≤ o.atR) := by rw [Bool.eq_iff_iff]; simp
  rw [e1, e2, e3, e4]
  cases decide (o.kind < 0) <;> cases decide (3 < o.kind) <;> cases decide (o.atN < 1) <;> cases decide (1000000 < o.atN) <;> cases decide (o.atR < 0) <;> cases decide (8 ≤ o.atR) <;> rfl
theorem text_none {t : List Int} (h : ((t.length : Int) == 0) = true) : textB t = true := by
  have : t = [] := by simpa using h
  subst this
  rfl
theorem len_nil : ((([] : List Int).length : Int) == 0) = true := rfl
theorem zero_zero : zeroB 0 0 = true := rfl

def rest0 (o : OpV) : OpV := ⟨0, 0, 0, o.nodeN, o.nodeR, 0, 0, [], 0, [], [], o.gone⟩
def rest1 (o : OpV) : OpV := ⟨0, 0, 0, 0, 0, 0, 0, [], o.elem, o.name, o.text, o.gone⟩
def rest2 (o : OpV) : OpV := ⟨0, 0, 0, 0, 0, o.parN, o.parR, o.key, o.elem, o.name, [], o.gone⟩
def rest3 (o : OpV) : OpV := ⟨0, 0, 0, 0, 0, o.parN, o.parR, o.key, o.elem, [], [], false⟩

theorem opB_0 {o : OpV} (h : o.kind = 0) : opB o = (stampB o.atN o.atR && ((idB o.parN o.parR && (keyB o.key && loneB o.elem o.name o.text)) && zeroOpB (rest0 o))) := by
  unfold opB
  rw [headB_eq, h]
  simp only [Int.lt_irrefl, decide_false, Bool.false_or, beq_self_eq_true, if_true, show decide ((3 : Int) < 0) = false from rfl]
  unfold opNewB zeroOpB rest0
  simp only [zero_zero, len_nil, beq_self_eq_true, Bool.true_and]
  unfold loneB
  cases hs : stampB o.atN o.atR
  · simp
  cases idB o.parN o.parR
  · simp
  cases keyB o.key
  · simp
  cases zeroB o.nodeN o.nodeR
  · simp
  cases o.gone
  · by_cases e1 : o.elem = 1
    · rw [e1]
      cases textB o.text <;> simp
    · by_cases e0 : o.elem = 0
      · rw [e0]
        cases ht : textB o.text
        · cases hl : ((o.text.length : Int) == 0)
          · simp
          · rw [text_none hl] at ht; cases ht
        · simp
      · simp [e0, e1]
  · simp

theorem opB_1 {o : OpV} (h : o.kind = 1) : opB o = (stampB o.atN o.atR && ((idB o.nodeN o.nodeR && (idB o.parN o.parR && keyB o.key)) && zeroOpB (rest1 o))) := by
  unfold opB
  rw [headB_eq, h]
  simp only [show decide ((1 : Int) < 0) = false from rfl, Bool.false_or, show ((1 : Int) == 0) = false from rfl, show ((1 : Int) == 1) = true from rfl, show decide ((3 : Int) < 1) = false from rfl, if_true]
  unfold opMoveB zeroOpB rest1
  simp only [zero_zero, len_nil, beq_self_eq_true, Bool.true_and]
  cases hs : stampB o.atN o.atR
  · simp
  cases idB o.nodeN o.nodeR
  · simp
  cases idB o.parN o.parR
  · simp
  cases keyB o.key
  · simp
  cases hl : ((o.text.length : Int) == 0)
  · simp
  · rw [text_none hl]; simp

theorem opB_2 {o : OpV} (h : o.kind = 2) : opB o = (stampB o.atN o.atR && ((idB o.nodeN o.nodeR && textB o.text) && zeroOpB (rest2 o))) := by
  unfold opB
  rw [headB_eq, h]
  simp only [show decide ((2 : Int) < 0) = false from rfl, Bool.false_or, show ((2 : Int) == 0) = false from rfl, show ((2 : Int) == 1) = false from rfl, show decide ((3 : Int) < 2) = false from rfl]
  unfold opRestB zeroOpB rest2
  rw [h]
  simp only [zero_zero, len_nil, beq_self_eq_true, Bool.true_and, if_true]
  have ek : decide (0 < (o.key.length : Int)) = !((o.key.length : Int) == 0) := by rw [Bool.eq_iff_iff]; simp [Nat.pos_iff_ne_zero]
  rw [ek]
  cases hs : stampB o.atN o.atR
  · simp
  cases idB o.nodeN o.nodeR
  · simp
  cases textB o.text
  · simp
  cases zeroB o.parN o.parR
  · simp
  cases ((o.key.length : Int) == 0)
  · simp
  cases (o.elem == 0)
  · simp
  simp

theorem opB_3 {o : OpV} (h : o.kind = 3) : opB o = (stampB o.atN o.atR && ((idB o.nodeN o.nodeR && (nameB o.name && valB o.text o.gone)) && zeroOpB (rest3 o))) := by
  unfold opB
  rw [headB_eq, h]
  simp only [show decide ((3 : Int) < 0) = false from rfl, Bool.false_or, show ((3 : Int) == 0) = false from rfl, show ((3 : Int) == 1) = false from rfl, show decide ((3 : Int) < 3) = false from rfl]
  unfold opRestB zeroOpB rest3 valB
  rw [h]
  simp only [zero_zero, len_nil, beq_self_eq_true, Bool.true_and, show ((3 : Int) == 2) = false from rfl]
  have ek : decide (0 < (o.key.length : Int)) = !((o.key.length : Int) == 0) := by rw [Bool.eq_iff_iff]; simp [Nat.pos_iff_ne_zero]
  rw [ek]
  cases hs : stampB o.atN o.atR
  · simp
  cases idB o.nodeN o.nodeR
  · simp
  cases zeroB o.parN o.parR
  · simp
  cases ((o.key.length : Int) == 0)
  · simp
  cases (o.elem == 0)
  · simp
  cases nameB o.name
  · simp
  cases o.gone
  · cases textB o.text <;> simp
  · cases hl : ((o.text.length : Int) == 0)
    · simp
    · rw [text_none hl]; simp

theorem opB_4 {o : OpV} (h0 : o.kind ≠ 0) (h1 : o.kind ≠ 1) (h2 : o.kind ≠ 2) (h3 : o.kind ≠ 3) : opB o = false := by
  have : (decide (o.kind < 0) || decide (3 < o.kind)) = true := by
    simp only [Bool.or_eq_true, decide_eq_true_eq]
    omega
  unfold opB
  rw [headB_eq, ← Bool.or_assoc, this]
  rfl
end Go.Proofs.YtfhekoipnlmhoaaGreat

/- impl.keyOk answers what the plain test says. -/
namespace Go.Proofs.YtfhekoipnlmhoaaGreat
open Go.RowKit
set_option linter.unusedVariables false
set_option maxRecDepth 100000

theorem keyI_short (w : World) (a : Option Addr) (n cap : Nat) (h : n < 1 ∨ 12 < n) :
    Calls Tryz.prog 112 #[.slice a n cap] w fun e w' => e = .returned (.bool false) ∧ w' = w := by
  by_cases h1 : n < 1
  · have h1' : (n : Int) < 1 := by omega
    go_enter Tryz.func112, Tryz.ntmps112
    go_wp2
    go_ret
    exact ⟨rfl, rfl⟩
  · have h1' : decide ((n : Int) < 1) = false := by simp; omega
    have h2 : (12 : Int) < (n : Int) := by omega
    go_enter Tryz.func112, Tryz.ntmps112
    go_wp2
    go_ret
    exact ⟨rfl, rfl⟩

open Classical in
set_option maxHeartbeats 1600000 in
theorem keyI_row (w : World) (b off cap : Nat) (l : List Int) (hok : okZ l) (h1 : 1 ≤ l.length) (h8 : l.length ≤ 12)
    (hc : ∀ i, i < l.length → w.cell? ⟨b, off + i, none⟩ = some (.int .i64 (l.getD i 0))) :
    Calls Tryz.prog 112 #[.slice (some ⟨b, off, none⟩) l.length cap] w fun e w' => e = .returned (.bool (decide (KeyOk l))) ∧ w' = w := by
  have d1 : decide ((l.length : Int) < 1) = false := by simp; omega
  have d2 : decide ((12 : Int) < (l.length : Int)) = false := by simp; omega
  obtain ⟨n, hn⟩ : ∃ n, l.length = n + 1 := ⟨l.length - 1, by omega⟩
  obtain ⟨z, hz⟩ : ∃ z, z = l.getD n 0 := ⟨_, rfl⟩
  have hcz : w.cell? ⟨b, off + n, none⟩ = some (.int .i64 z) := by rw [hz]; exact hc _ (by omega)
  have HZ := hide hz
  have HC := hide hc
  have HN := hide hn
  have e1 : (l.length : Int) - 1 = (n : Int) := by omega
  have hlt0 : n < l.length := by omega
  clear hc hz hn
  go_enter Tryz.func112, Tryz.ntmps112
  go_wp2
  go_loop [15] (fun i => ∃ k : Nat, k ≤ l.length ∧ i = .int .i64 k ∧ allTo keyCh l k) (fun i => l.length - (intOf i).toNat)
  case atStart => exact ⟨0, Nat.zero_le _, rfl, fun i hi => by omega⟩
  case round =>
    obtain ⟨k, hk, rfl, ha⟩ := hrel
    have HA := hide ha
    clear ha
    by_cases hlt : k < l.length
    · obtain ⟨x, hx⟩ : ∃ x, x = l.getD k 0 := ⟨_, rfl⟩
      have hcx : w.cell? ⟨b, off + k, none⟩ = some (.int .i64 x) := by rw [hx]; exact unhide HC _ hlt
      have HX := hide hx
      have hlt' : (k : Int) < (l.length : Int) := by omega
      clear hx hcz
      by_cases hn : keyCh k x
      · have HN := hide hn
        have q1 : decide (x < 0) = false := by unfold keyCh at hn; simp; omega
        have q2 : decide (999 < x) = false := by unfold keyCh at hn; simp; omega
        clear hn
        go_wp2
        go_round
        case rel => exact ⟨k + 1, by omega, by go_num, allTo_step (unhide HA) (by rw [← unhide HX]; exact unhide HN)⟩
        case measure => simp [intOf]; omega
      · have HF := hide (show decide (KeyOk l) = false by
          simp only [decide_eq_false_iff_not]
          rintro ⟨_, _, _, h⟩
          exact hn (by rw [unhide HX]; exact h k hlt))
        have hcase : decide (x < 0) = true ∨ (decide (x < 0) = false ∧ decide (999 < x) = true) := by
          unfold keyCh at hn; simp; omega
        clear hn
        rcases hcase with q1 | ⟨q1, q2⟩
        all_goals
          go_wp2
          go_ret
          exact ⟨by rw [unhide HF]; rfl, rfl⟩
    · have e : k = l.length := by omega
      subst e
      by_cases hz0 : z = 0
      · have HF := hide (show decide (KeyOk l) = false by
          simp only [decide_eq_false_iff_not]
          rintro ⟨_, _, h, _⟩
          rw [unhide HN, Nat.add_sub_cancel, ← unhide HZ] at h
          exact h hz0)
        have dz : (z != 0) = false := by simp [hz0]
        clear hz0
        go_wp2
        go_ret
        exact ⟨by rw [unhide HF]; rfl, rfl⟩
      · have HF := hide (show decide (KeyOk l) = true by
          simp only [decide_eq_true_eq]
          exact ⟨h1, h8, by rw [unhide HN, Nat.add_sub_cancel, ← unhide HZ]; exact hz0, unhide HA⟩)
        have dz : (z != 0) = true := by simp [hz0]
        clear hz0
        go_wp2
        go_ret
        exact ⟨by rw [unhide HF]; rfl, rfl⟩

open Classical in
theorem keyI_any (w : World) (v : Value) (l : List Int) (h : Ints w v l) :
    Calls Tryz.prog 112 #[v] w fun e w' => e = .returned (.bool (decide (KeyOk l))) ∧ w' = w := by
  by_cases hl : l.length < 1 ∨ 12 < l.length
  · obtain ⟨a, cap, rfl, _⟩ := h.shape
    have hd : decide (KeyOk l) = false := by simp only [decide_eq_false_iff_not]; rintro ⟨_, _, _⟩; omega
    rw [hd]
    exact keyI_short w a _ cap hl
  · obtain ⟨hok, hm, ⟨rfl, rfl⟩ | ⟨x, cap, rfl, hc, rfl⟩ | ⟨b, off, cap, rfl, _, _, _, _, h5⟩⟩ := h
    · simp at hl
    · simp at hl
    · exact keyI_row w b off cap l hok (by omega) (by omega) h5
theorem keyI_b (w : World) (v : Value) (l : List Int) (h : Ints w v l) : Calls Tryz.prog 112 #[v] w fun e w' => e = .returned (.bool (keyB l)) ∧ w' = w := by
  refine (keyI_any w v l h).mono ?_
  rintro e w' ⟨rfl, h⟩
  refine ⟨?_, h⟩
  by_cases hn : KeyOk l
  · rw [(keyB_iff l).2 hn]; simp [hn]
  · rw [Bool.eq_false_iff.2 (fun k => hn ((keyB_iff l).1 k))]; simp [hn]
end Go.Proofs.YtfhekoipnlmhoaaGreat
