/- slices.EqualFunc over parts: it answers whether the parts are one, one by one, their kids aside. -/
import Derived.Test.YteioihjgjbjmjaaSameP
import Derived.Test.YteioihjgjbjmjaaPre
namespace Go.Proofs.Yteioihjgjbjmjaa
open Go.RowKit
set_option linter.unusedVariables false
set_option maxRecDepth 100000

/-- The six cells of a part. -/
def RdPart {w0 : World} (C : List Value) (x : It w0) : Prop := C = [.int .i64 x.deep, x.a, x.b, x.c, x.d, x.e]
def RdParts {w0 : World} (w : World) (v : Value) (l : List (It w0)) : Prop := Elems w 6 v l RdPart
/-- What is told of a part: its depth, its kind, its name, its text, its attributes. -/
def hdI {w0 : World} (x : It w0) : Int × Int × List Int × List Int × List (List Int × List Int) := (x.deep, x.t.kind, x.t.name, x.t.text, x.t.attrs)

/-- Are they one, one by one. -/
def eqHd (a b : Int × Int × List Int × List Int × List (List Int × List Int)) : Bool := decide (a.1 = b.1) && decide (a.2.1 = b.2.1) && decide (a.2.2.1 = b.2.2.1) && decide (a.2.2.2.1 = b.2.2.2.1) && decide (a.2.2.2.2 = b.2.2.2.2)
theorem eqHd_iff (a b : Int × Int × List Int × List Int × List (List Int × List Int)) : eqHd a b = true ↔ a = b := by
  obtain ⟨a1, a2, a3, a4, a5⟩ := a
  obtain ⟨b1, b2, b3, b4, b5⟩ := b
  unfold eqHd
  rw [Bool.and_eq_true, Bool.and_eq_true, Bool.and_eq_true, Bool.and_eq_true, decide_eq_true_eq, decide_eq_true_eq, decide_eq_true_eq, decide_eq_true_eq, decide_eq_true_eq]
  constructor
  · rintro ⟨⟨⟨⟨h1, h2⟩, h3⟩, h4⟩, h5⟩
    simp only at h1 h2 h3 h4 h5
    subst h1 h2 h3 h4 h5
    rfl
  · intro h
    cases h
    exact ⟨⟨⟨⟨rfl, rfl⟩, rfl⟩, rfl⟩, rfl⟩
def eqHds : List (Int × Int × List Int × List Int × List (List Int × List Int)) → List (Int × Int × List Int × List Int × List (List Int × List Int)) → Bool
  | [], [] => true
  | a :: l, b :: m => eqHd a b && eqHds l m
  | _, _ => false
theorem eqHds_iff : ∀ l m, eqHds l m = true ↔ l = m
  | [], [] => by simp [eqHds]
  | [], _ :: _ => by simp [eqHds]
  | _ :: _, [] => by simp [eqHds]
  | a :: l, b :: m => by rw [eqHds, Bool.and_eq_true, eqHd_iff, eqHds_iff l m, List.cons.injEq]
theorem eqHds_no {l m : List (Int × Int × List Int × List Int × List (List Int × List Int))} (h : ¬ l = m) : eqHds l m = false := by rw [← Bool.not_eq_true, eqHds_iff]; exact h

/-- A part as it is read. -/
theorem part_open {w0 : World} (x : It w0) : ∃ ab nb cb ac nc cc ad nd cd ae ne ce, x.a = .int .i64 x.t.kind ∧ x.b = .slice ab nb cb ∧ x.c = .slice ac nc cc ∧ x.d = .slice ad nd cd ∧ x.e = .slice ae ne ce ∧ Byt w0 (.slice ab nb cb) x.t.name ∧ Byt w0 (.slice ac nc cc) x.t.text ∧ RdAttrs w0 (.slice ad nd cd) x.t.attrs := by
  obtain ⟨deep, a, b, c, d, e, m, t, rd⟩ := x
  obtain ⟨_, _, _, _, e0, k1, k2, hb, hc, hd, he⟩ := rd
  simp only [List.cons.injEq, and_true] at e0
  obtain ⟨rfl, rfl, rfl, rfl, rfl⟩ := e0
  obtain ⟨ab, cb, rfl, _, _⟩ := hb.shape
  obtain ⟨ac, cc, rfl, _, _⟩ := hc.shape
  obtain ⟨ad, cd, rfl, _, _⟩ := Elems.shape hd
  obtain ⟨ae, ce, rfl, _, _⟩ := Elems.shape he
  exact ⟨_, _, _, _, _, _, _, _, _, _, _, _, rfl, rfl, rfl, rfl, rfl, hb, hc, hd⟩

set_option maxHeartbeats 3200000 in
theorem equalParts_any (w0 w : World) (hW : Below w0.heap.size w0 w) (u v : Value) (l m : List (It w0)) (hu : RdParts w u l) (hv : RdParts w v m) :
    Calls Try.prog 35 #[u, v, .func (.func 37) #[] #[]] w fun e w' => e = .returned (.bool (eqHds (l.map hdI) (m.map hdI))) ∧ Below w.heap.size w w' := by
  have hml := hu.1
  unfold maxLen at hml
  obtain ⟨au, cu, rfl, _, _⟩ := Elems.shape hu
  obtain ⟨av, cv, rfl, _, _⟩ := Elems.shape hv
  by_cases hlen : l.length = m.length
  · have d1 : ((l.length : Int) != (m.length : Int)) = false := by simp [hlen]
    have HL := hide hlen
    have hml' : (l.length : Int) ≤ 9223372036854775807 := by omega
    generalize hn : l.length = n at *
    have HN := hide hn
    have HM : Hid (m.length = n) := hide hlen.symm
    rw [← hlen] at d1 hv
    rw [← hlen]
    clear hlen hn HL
    go_enter Try.func35, Try.ntmps35
    go_wp2_with fail
    go_loopw [17] (fun i wr => ∃ k : Nat, k ≤ n ∧ i = .int .i64 k ∧ (∀ i, i < k → (l.map hdI)[i]? = (m.map hdI)[i]?) ∧ Below w.heap.size w wr) (fun i _ => n - (intOf i).toNat)
    case atStart => exact ⟨0, Nat.zero_le _, rfl, fun i hi => by omega, Below.refl _ _⟩
    case round =>
      obtain ⟨k, hk, rfl, ha, hB⟩ := hrel
      have HA := hide ha
      clear ha
      by_cases hlt : k < n
      · have hkl : k < l.length := by rw [unhide HN]; exact hlt
        have hkm : k < m.length := by rw [unhide HM]; exact hlt
        obtain ⟨b, off, rfl, hbl, hun, _, C, hC, hc, hr⟩ := hu.at hkl
        clear hun
        obtain ⟨b', off', rfl, hbl', hun, _, C', hC', hc', hr'⟩ := hv.at hkm
        clear hun
        obtain ⟨x, hx⟩ : ∃ x, x = l[k] := ⟨_, rfl⟩
        obtain ⟨y, hy⟩ : ∃ y, y = m[k] := ⟨_, rfl⟩
        rw [← hx] at hr
        rw [← hy] at hr'
        obtain ⟨ab, nb, cb, ac, nc, cc, ad, nd, cd, ae, ne, ce, ea, eb, ec, ed, ee, h0, h1, h2⟩ := part_open x
        obtain ⟨ab', nb', cb', ac', nc', cc', ad', nd', cd', ae', ne', ce', ea', eb', ec', ed', ee', h0', h1', h2'⟩ := part_open y
        unfold RdPart at hr hr'
        rw [ea, eb, ec, ed, ee] at hr
        rw [ea', eb', ec', ed', ee'] at hr'
        subst hr hr'
        have HE : Hid ((l.map hdI)[k]? = (m.map hdI)[k]? ↔ hdI x = hdI y) := hide (by rw [List.getElem?_map, List.getElem?_map, List.getElem?_eq_getElem hkl, List.getElem?_eq_getElem hkm, ← hx, ← hy, Option.map_some, Option.map_some, Option.some.injEq])
        have e0 := (hB.cell (p := ⟨b, off + k * 6, none⟩) hbl).trans (hc 0 (by omega))
        have e1 := (hB.cell (p := ⟨b, off + k * 6 + 1, none⟩) hbl).trans (hc 1 (by omega))
        have e2 := (hB.cell (p := ⟨b, off + k * 6 + 2, none⟩) hbl).trans (hc 2 (by omega))
        have e3 := (hB.cell (p := ⟨b, off + k * 6 + 3, none⟩) hbl).trans (hc 3 (by omega))
        have e4 := (hB.cell (p := ⟨b, off + k * 6 + 4, none⟩) hbl).trans (hc 4 (by omega))
        have e5 := (hB.cell (p := ⟨b, off + k * 6 + 5, none⟩) hbl).trans (hc 5 (by omega))
        have hBz : Below wr.heap.size wr (wr.alloc (.cells #[.int .i64 x.deep, .int .i64 x.t.kind, .slice ab nb cb, .slice ac nc cc, .slice ad nd cd, .slice ae ne ce] 74)) := (Below.refl _ _).alloc (Nat.le_refl _) _
        have hbz : b' < wr.heap.size := Nat.lt_of_lt_of_le hbl' hB.size
        have z0 := (hBz.cell (p := ⟨b', off' + k * 6, none⟩) hbz).trans ((hB.cell (p := ⟨b', off' + k * 6, none⟩) hbl').trans (hc' 0 (by omega)))
        have z1 := (hBz.cell (p := ⟨b', off' + k * 6 + 1, none⟩) hbz).trans ((hB.cell (p := ⟨b', off' + k * 6 + 1, none⟩) hbl').trans (hc' 1 (by omega)))
        have z2 := (hBz.cell (p := ⟨b', off' + k * 6 + 2, none⟩) hbz).trans ((hB.cell (p := ⟨b', off' + k * 6 + 2, none⟩) hbl').trans (hc' 2 (by omega)))
        have z3 := (hBz.cell (p := ⟨b', off' + k * 6 + 3, none⟩) hbz).trans ((hB.cell (p := ⟨b', off' + k * 6 + 3, none⟩) hbl').trans (hc' 3 (by omega)))
        have z4 := (hBz.cell (p := ⟨b', off' + k * 6 + 4, none⟩) hbz).trans ((hB.cell (p := ⟨b', off' + k * 6 + 4, none⟩) hbl').trans (hc' 4 (by omega)))
        have z5 := (hBz.cell (p := ⟨b', off' + k * 6 + 5, none⟩) hbz).trans ((hB.cell (p := ⟨b', off' + k * 6 + 5, none⟩) hbl').trans (hc' 5 (by omega)))
        simp only [List.getElem?_cons_zero, List.getElem?_cons_succ] at e0 e1 e2 e3 e4 e5 z0 z1 z2 z3 z4 z5
        obtain ⟨l1, l2, hB2⟩ := two wr #[.int .i64 x.deep, .int .i64 x.t.kind, .slice ab nb cb, .slice ac nc cc, .slice ad nd cd, .slice ae ne ce] #[.int .i64 y.deep, .int .i64 y.t.kind, .slice ab' nb' cb', .slice ac' nc' cc', .slice ad' nd' cd', .slice ae' ne' ce'] 74 74
        have hA := bstep hB hB2
        have hW2 : Below w0.heap.size w0 _ := hW.trans (hA.mono hW.size)
        have hcall := samePart_any _ x.deep y.deep x.t.kind y.t.kind _ _ _ _ _ _ ae ae' ne ce ne' ce' x.t.name y.t.name x.t.text y.t.text x.t.attrs y.t.attrs (h0.keep hW2) (h1.keep hW2) (h2.keep hW2) (h0'.keep hW2) (h1'.keep hW2) (h2'.keep hW2)
        have HC := hide hcall
        have hlt' : (k : Int) < (n : Int) := by omega
        clear hcall h0 h1 h2 h0' h1' h2' hu hv hc hc' hx hy ea eb ec ed ee ea' eb' ec' ed' ee' hBz hW2
        generalize hxd : x.deep = xd at *
        generalize hxk : x.t.kind = xk at *
        generalize hyd : y.deep = yd at *
        generalize hyk : y.t.kind = yk at *
        have HH := hide (And.intro hxd (And.intro hxk (And.intro hyd hyk)))
        clear hxd hxk hyd hyk
        go_wp2_with fail
        refine (unhide HC).mono ?_
        rintro e w2 ⟨rfl, hB3⟩
        have hA3 := bstep hA hB3
        have HG : Hid (hdI x = (xd, xk, x.t.name, x.t.text, x.t.attrs) ∧ hdI y = (yd, yk, y.t.name, y.t.text, y.t.attrs)) := by
          obtain ⟨q1, q2, q3, q4⟩ := unhide HH
          exact hide ⟨by unfold hdI; rw [q1, q2], by unfold hdI; rw [q3, q4]⟩
        clear e0 e1 e2 e3 e4 e5 z0 z1 z2 z3 z4 z5 l1 l2 HC
        by_cases hxy : (xd, xk, x.t.name, x.t.text, x.t.attrs) = (yd, yk, y.t.name, y.t.text, y.t.attrs)
        · rw [show decide ((xd, xk, x.t.name, x.t.text, x.t.attrs) = (yd, yk, y.t.name, y.t.text, y.t.attrs)) = true by rw [decide_eq_true_eq]; exact hxy]
          have HS := hide ((unhide HE).2 (by rw [(unhide HG).1, (unhide HG).2]; exact hxy))
          clear hxy
          go_wp2_with fail
          go_roundw
          case rel => exact ⟨k + 1, by omega, by go_num, fun i hi => step_all (p := fun i => (l.map hdI)[i]? = (m.map hdI)[i]?) (unhide HA) (unhide HS) i hi, hA3⟩
          case measure => simp [intOf]; omega
        · rw [show decide ((xd, xk, x.t.name, x.t.text, x.t.attrs) = (yd, yk, y.t.name, y.t.text, y.t.attrs)) = false by rw [decide_eq_false_iff_not]; exact hxy]
          have HF := hide (show eqHds (l.map hdI) (m.map hdI) = false by
            refine eqHds_no fun e => ?_
            have := (unhide HE).1 (by rw [e])
            rw [(unhide HG).1, (unhide HG).2] at this
            exact hxy this)
          clear hxy
          go_wp2_with fail
          go_ret
          exact ⟨by rw [unhide HF]; rfl, hA3⟩
      · have e : k = n := by omega
        subst e
        have HF := hide (show eqHds (l.map hdI) (m.map hdI) = true by
          refine (eqHds_iff _ _).2 ?_
          exact eq_to (by rw [List.length_map, List.length_map, unhide HN, unhide HM]) (by rw [List.length_map]; exact (unhide HN).symm) (unhide HA))
        clear hu hv
        go_wp2_with fail
        go_ret
        exact ⟨by rw [unhide HF]; rfl, hB⟩
  · have d1 : ((l.length : Int) != (m.length : Int)) = true := by rw [bne_iff_ne]; omega
    have HE := hide (show eqHds (l.map hdI) (m.map hdI) = false by refine eqHds_no fun e => ?_; exact hlen (by have := congrArg List.length e; simpa using this))
    clear hlen hu hv
    go_enter Try.func35, Try.ntmps35
    go_wp2_with fail
    go_ret
    exact ⟨by rw [unhide HE]; rfl, Below.refl _ _⟩
end Go.Proofs.Yteioihjgjbjmjaa
