/- Own texts joined: CmpI, AttrI, PartI, OpenE, OpenT, Pre, WalkI, OutT, RwT, RowM, PlW, FoS, FqS, KdW, OwO, Via, KdC, KdS, FoF, FqF. -/
import Derived.Test.YthgopknjppflhaaGreatDoorJa
import Derived.Test.YthgopknjppflhaaGreatDoorJb
import Derived.Test.YthgopknjppflhaaGreatDoorJc
import Derived.Lib.BytesEntry
import Derived.Lib.Bytealg
import Derived.Laws.Externs
import Derived.Test.YthgopknjppflhaaGreatDoorProg
import Derived.ChangeArms
import Derived.ChangeSlices
import Derived.WideShapes
import Derived.Deep.AppendLies
import Derived.Laws.IdiomStrings
import Derived.ArgAppend
import Derived.Shelf.SlSortCmp.WholeK
import Derived.Deep.RegionHeld3
import Derived.Shelf.SlSortCmp.NoneTotal
import Derived.Shelf.Lay
import Derived.Ground.SlsfProg

/- bytes.Compare at readable rows answers the order of the bytes; bytes.Equal whether they are one. -/
namespace Go.Proofs.YthgopknjppflhaaGreatDoor
open Go.RowKit
set_option linter.unusedVariables false
set_option maxRecDepth 100000

theorem run_bytesOfB (w : World) (u : Value) (a : List Int) (h : Byt w u a) : (Extern.Bytes.bytesOf u).run Tryz.prog w = .ok ⟨(Lib.bytesOf a).toArray⟩ w := by
  obtain ⟨hoka, _, ⟨rfl, rfl⟩ | ⟨x, cap, rfl, hc, rfl⟩ | ⟨p, off, cap, rfl, h1, h2, h3, h4, h5⟩⟩ := h
  · rfl
  · rfl
  · have hl := Lib.run_loadBytesX (P := Tryz.prog) w a ⟨p, off, none⟩ .empty (fun j x hj => by
      have hjl : j < a.length := (List.getElem?_eq_some_iff.1 hj).1
      rw [add_plain, h5 j hjl, List.getD_eq_getElem?_getD, hj]; rfl)
    have he : (⟨ByteArray.empty.data ++ (Lib.bytesOf a).toArray⟩ : ByteArray) = ⟨(Lib.bytesOf a).toArray⟩ := by
      apply ByteArray.ext
      show (#[] : Array UInt8) ++ (Lib.bytesOf a).toArray = (Lib.bytesOf a).toArray
      simp
    rw [he] at hl
    exact hl

/-- The order of two rows: below 0, 0, above 0. -/
def cmpB (a b : List Int) : Int := Lib.compareBytes (Lib.bytesOf a) (Lib.bytesOf b)

theorem cmp_run (w : World) (u v : Value) (a b : List Int) (hu : Byt w u a) (hv : Byt w v b) : (callFunc 99 #[u, v]).run Tryz.prog w = .ok (.value (.int .i64 (cmpB a b))) w := by
  rw [run_callFunc_extern Tryz.func99 (by kernel_rfl) (by kernel_rfl) (by kernel_rfl) (e := Extern.BytealgCompare.compare) (by kernel_rfl)]
  have e : (Extern.BytealgCompare.compare #[u, v]).run Tryz.prog w = .ok (.int .i64 (cmpB a b)) w := by
    change Sem.run Tryz.prog (do pure (goInt (Extern.BytealgCompare.cmp (← Extern.Bytes.bytesOf u) (← Extern.Bytes.bytesOf v)))) w = _
    simp only [Sem.run_bind, Sem.run_pure, run_bytesOfB w u a hu, run_bytesOfB w v b hv, Result.andThen]
    rw [Lib.cmp_eq]
    rfl
  rw [e]
  rfl

theorem compare_less : ∀ (a b : List UInt8), Op.bytesLess a b = decide (Lib.compareBytes a b < 0)
  | [], [] => rfl
  | [], _ :: _ => rfl
  | _ :: _, [] => rfl
  | x :: a, y :: b => by
    have ih := compare_less a b
    unfold Op.bytesLess Lib.compareBytes
    by_cases h1 : x < y
    · simp [h1]
    · by_cases h2 : y < x
      · have hne : ¬ x = y := fun e => by subst e; exact h1 h2
        simp [h1, h2, hne]
      · have he : x = y := UInt8.le_antisymm (UInt8.not_lt.1 h2) (UInt8.not_lt.1 h1)
        subst he
        simp [h1, ih]
theorem lessB_cmp (a b : List Int) : lessT a b = decide (cmpB a b < 0) := by
  unfold lessT cmpB
  rw [toList_data, toList_data, str_list, str_list, compare_less]
  rfl
theorem cmpI_any (w : World) (u v : Value) (a b : List Int) (hu : Byt w u a) (hv : Byt w v b) :
    Calls Tryz.prog 90 #[u, v] w fun e w' => e = .returned (.int .i64 (cmpB a b)) ∧ w' = w := by
  have hr := cmp_run w u v a b hu hv
  obtain ⟨a1, k1, rfl, _⟩ := hu.shape
  obtain ⟨a2, k2, rfl, _⟩ := hv.shape
  generalize cmpB a b = c at *
  go_enter Tryz.func90, Tryz.ntmps90
  go_wp2
  go_ret
  exact ⟨rfl, rfl⟩
end Go.Proofs.YthgopknjppflhaaGreatDoor

/- impl.attrsOk answers what the plain test says. -/
namespace Go.Proofs.YthgopknjppflhaaGreatDoor
open Go.RowKit
set_option linter.unusedVariables false
set_option maxRecDepth 100000

open Classical in
set_option maxHeartbeats 3200000 in
theorem attrsI_any (w : World) (v : Value) (l : List (List Int × List Int)) (h : RdAttrs w v l) :
    Calls Tryz.prog 73 #[v] w fun e w' => e = .returned (.bool (decide (AttrsOk l))) ∧ Below w.heap.size w w' := by
  by_cases hl : 4 < l.length
  · obtain ⟨a, cap, rfl, _⟩ := Elems.shape h
    have HD := hide (show decide (AttrsOk l) = false by simp only [decide_eq_false_iff_not]; rintro ⟨_, _⟩; omega)
    have d2 : (4 : Int) < (l.length : Int) := by omega
    go_enter Tryz.func73, Tryz.ntmps73
    go_wp2_with fail
    go_ret
    exact ⟨by rw [unhide HD]; rfl, Below.refl _ _⟩
  have d2 : ¬ (4 : Int) < (l.length : Int) := by omega
  by_cases h0 : l = []
  · obtain ⟨a, cap, rfl, _⟩ := Elems.shape h
    subst h0
    have HD := hide (show decide (AttrsOk []) = true by simp only [decide_eq_true_eq]; exact ⟨by simp, fun i hi => by simp at hi⟩)
    go_enter Tryz.func73, Tryz.ntmps73
    go_wp2_with fail
    refine wp_loop_rounds 1 ?_
    rw [rounds_succ]
    go_wp2_with fail
    go_ret
    exact ⟨by rw [unhide HD]; rfl, Below.refl _ _⟩
  obtain ⟨_, ⟨_, e⟩ | ⟨_, _, _, _, e⟩ | ⟨b, off, cap, rfl, g1, g2, g3, g4, g5⟩⟩ := h
  · exact absurd e h0
  · exact absurd e h0
  go_enter Tryz.func73, Tryz.ntmps73
  go_wp2_with fail
  go_loopw [10] (fun i wr => ∃ k : Nat, k ≤ l.length ∧ i = .int .i64 k ∧ (∀ i, i < k → attrAt l i) ∧ Below w.heap.size w wr) (fun i _ => l.length - (intOf i).toNat)
  case atStart => exact ⟨0, Nat.zero_le _, rfl, fun i hi => by omega, Below.refl _ _⟩
  case round =>
    obtain ⟨k, hk, rfl, ha, hB⟩ := hrel
    have HA := hide ha
    clear ha
    by_cases hlt : k < l.length
    · obtain ⟨c0, c1, e0, e1, hc⟩ := two_of (g5 k hlt)
      obtain ⟨_, _, ee, hc0, hc1⟩ := hc
      simp only [List.cons.injEq, and_true] at ee
      obtain ⟨rfl, rfl⟩ := ee
      replace e0 := (hB.cell (p := ⟨b, off + k * 2, none⟩) g4).trans e0
      replace e1 := (hB.cell (p := ⟨b, off + k * 2 + 1, none⟩) g4).trans e1
      replace hc0 := hc0.keep hB
      replace hc1 := hc1.keep hB
      have hlt' : (k : Int) < (l.length : Int) := by omega
      have hk0 : (0 : Int) ≤ (k : Int) := by omega
      obtain ⟨x, hx⟩ : ∃ x, x = l[k] := ⟨_, rfl⟩
      rw [← hx] at hc0 hc1
      have hgd : l.getD k ([], []) = x := by rw [hx]; simp [hlt]
      obtain ⟨a0, n0, hv0, _, _⟩ := hc0.shape
      obtain ⟨a1, n1, hv1, _, _⟩ := hc1.shape
      subst hv0 hv1
      have HGD := hide hgd
      have HX := hide hx
      clear hgd hx
      have hB1 : Below wr.heap.size wr (wr.alloc (.cells #[.slice a0 x.1.length n0, .slice a1 x.2.length n1] 85)) := (Below.refl _ _).alloc (Nat.le_refl _) _
      have l1 := Loc.made wr #[.slice a0 x.1.length n0, .slice a1 x.2.length n1] 85
      have hcell : ∀ j, j < l.length → ∃ y : Value, y ∈ [y] ∧ wr.cell? ⟨b, off + j * 2, none⟩ = some y ∧ Byt wr y (l.getD j ([], [])).1 := by
        intro j hj
        obtain ⟨p0, p1, u0, u1, hp⟩ := two_of (g5 j hj)
        obtain ⟨_, _, ee, hp0, hp1⟩ := hp
        simp only [List.cons.injEq, and_true] at ee
        obtain ⟨rfl, rfl⟩ := ee
        exact ⟨_, by simp, (hB.cell (p := ⟨b, off + j * 2, none⟩) g4).trans u0, by rw [show l.getD j ([], []) = l[j] by simp [hj]]; exact hp0.keep hB⟩
      have HC := hide hcell
      clear hcell g5
      have hbs : b < wr.heap.size := Nat.lt_of_lt_of_le g4 hB.size
      generalize hn0 : x.1.length = m0 at *
      generalize hn1 : x.2.length = m1 at *
      clear hn0 hn1
      go_wp2_with fail
      generalize wr.alloc (.cells #[.slice a0 m0 n0, .slice a1 m1 n1] 85) = w1 at *
      have c0 : w1.cell? ⟨wr.heap.size, 0, none⟩ = some (.slice a0 m0 n0) := l1.cell 0
      have c1 : w1.cell? ⟨wr.heap.size, 1, none⟩ = some (.slice a1 m1 n1) := l1.cell 1
      have hA1 := bstep hB hB1
      have HB1 := hide hB1
      clear hB1 e0 e1
      refine (nameI_any w1 _ x.1 (hc0.keep (unhide HB1))).mono ?_
      rintro e w1 ⟨rfl, rfl⟩
      by_cases hn : NameOk x.1
      · rw [show decide (NameOk x.1) = true by simpa using hn]
        go_wp2_with fail
        refine (textI_any w1 _ x.2 (hc1.keep (unhide HB1))).mono ?_
        rintro e w1 ⟨rfl, rfl⟩
        by_cases ht : TextOk x.2
        · rw [show decide (TextOk x.2) = true by simpa using ht]
          by_cases hkz : k = 0
          · have HT := hide (show attrAt l k from ⟨by rw [unhide HGD]; exact hn, by rw [unhide HGD]; exact ht, fun h => by omega⟩)
            subst hkz
            clear hn ht HC HX HGD hc0 hc1 HB1
            go_wp2_with fail
            go_quiet (fail)
            go_wp2_with fail
            go_roundw
            case rel => exact ⟨1, by omega, by go_num, fun i hi => by obtain rfl : i = 0 := (by omega); exact unhide HT, below_drewN hA1 _⟩
            case measure => simp [intOf]; omega
          · obtain ⟨y, _, u0, hp0⟩ := unhide HC (k - 1) (by omega)
            have hB1 := unhide HB1
            replace u0 := (hB1.cell (p := ⟨b, off + (k - 1) * 2, none⟩) hbs).trans u0
            replace hp0 := hp0.keep hB1
            have hx0 := hc0.keep hB1
            generalize hy : (l.getD (k - 1) ([], [])).1 = yl at *
            obtain ⟨a2, n2, hv2, _, _⟩ := hp0.shape
            subst hv2
            generalize yl.length = m2 at *
            have hkp : 0 < k := by omega
            have hkd : decide (0 < k) = true := by simp; omega
            have hk1 : (0 : Int) ≤ (k : Int) - 1 := by omega
            have hk2 : (k : Int) - 1 < (l.length : Int) := by omega
            have hk3 : ((k : Int) - 1).toNat = k - 1 := by omega
            have hcq : ∀ q, Calls Tryz.prog 90 #[.slice a2 m2 n2, .slice a0 m0 n0] (w1.drewN q) fun e w' => e = .returned (.int .i64 (cmpB yl x.1)) ∧ w' = w1.drewN q := fun q => cmpI_any _ _ _ _ _ (hp0.keep (below_drewN (Below.refl _ _) q)) (hx0.keep (below_drewN (Below.refl _ _) q))
            have HQ := hide hcq
            have hlc := lessB_cmp yl x.1
            by_cases hl2 : lessT yl x.1 = true
            · have HT := hide (show attrAt l k from ⟨by rw [unhide HGD]; exact hn, by rw [unhide HGD]; exact ht, fun _ => by rw [unhide HGD, hy]; exact hl2⟩)
              have hcz : decide (0 ≤ cmpB yl x.1) = false := by rw [hlc] at hl2; simp at hl2 ⊢; omega
              have hcz' : ¬ 0 ≤ cmpB yl x.1 := by simpa using hcz
              clear hn ht HX HGD hc0 hc1 HB1 HC hcq hlc hl2 hy hp0 hx0 hB1
              generalize cmpB yl x.1 = cm at *
              go_wp2_with fail
              go_quiet ((go_at_call 90; exact Calls.quiet_of_same (unhide HQ _)))
              go_wp2_with fail
              go_roundw
              case rel => exact ⟨k + 1, by omega, by go_num, fun i hi => step_all (unhide HA) (unhide HT) i hi, below_drewN hA1 _⟩
              case measure => simp [intOf]; omega
            · have HF := hide (show decide (AttrsOk l) = false by
                simp only [decide_eq_false_iff_not]
                rintro ⟨_, h⟩
                exact hl2 (by have := (h k hlt).2.2 (by omega); rwa [unhide HGD, hy] at this))
              have hcz : decide (0 ≤ cmpB yl x.1) = true := by rw [hlc] at hl2; simp at hl2 ⊢; omega
              have hcz' : 0 ≤ cmpB yl x.1 := by simpa using hcz
              clear hn ht HX HGD hc0 hc1 HB1 HC hcq hlc hl2 hy hp0 hx0 hB1
              generalize cmpB yl x.1 = cm at *
              go_wp2_with fail
              go_quiet ((go_at_call 90; exact Calls.quiet_of_same (unhide HQ _)))
              go_wp2_with fail
              go_ret
              exact ⟨by rw [unhide HF]; rfl, below_drewN hA1 _⟩
        · rw [show decide (TextOk x.2) = false by simpa using ht]
          have HF := hide (show decide (AttrsOk l) = false by
            simp only [decide_eq_false_iff_not]
            rintro ⟨_, h⟩
            exact ht (by have := (h k hlt).2.1; rwa [unhide HGD] at this))
          clear hn ht
          go_wp2_with fail
          go_ret
          exact ⟨by rw [unhide HF]; rfl, hA1⟩
      · have hd : decide (NameOk x.1) = false := by simpa using hn
        rw [hd]
        have HF := hide (show decide (AttrsOk l) = false by
          simp only [decide_eq_false_iff_not]
          rintro ⟨_, h⟩
          exact hn (by have := (h k hlt).1; rwa [unhide HGD] at this))
        clear hn hd
        go_wp2_with fail
        go_ret
        exact ⟨by rw [unhide HF]; rfl, hA1⟩
    · have e : k = l.length := by omega
      subst e
      have HF := hide (show decide (AttrsOk l) = true by simp only [decide_eq_true_eq]; exact ⟨by omega, unhide HA⟩)
      clear g5
      go_wp2_with fail
      go_ret
      exact ⟨by rw [unhide HF]; rfl, hB⟩
end Go.Proofs.YthgopknjppflhaaGreatDoor

/- impl.partOk answers what the plain test of one node says. -/
namespace Go.Proofs.YthgopknjppflhaaGreatDoor
open Go.RowKit
set_option linter.unusedVariables false
set_option maxRecDepth 100000

/-- May the node be, its kids aside? -/
def partB {α : Type} (t : Nd α) : Bool := if t.kind = 1 then leafB t else elemB t
theorem partB_leaf {α : Type} {t : Nd α} (h : t.kind = 1) : partB t = leafB t := by rw [partB, if_pos h]
theorem partB_elem {α : Type} {t : Nd α} (h : t.kind ≠ 1) : partB t = elemB t := by rw [partB, if_neg h]
theorem elemB_no {α : Type} {t : Nd α} (h : ¬ ElemOk t) : elemB t = false := by rw [← Bool.not_eq_true, elemB_iff]; exact h
theorem leafB_no {α : Type} {t : Nd α} (h : ¬ LeafOk t) : leafB t = false := by rw [← Bool.not_eq_true, leafB_iff]; exact h

theorem VMade.keep {B : Nat} {w w' : World} {g : Nat} (h : VMade B w g) (hb : Below w.heap.size w w') : VMade B w' g := by
  obtain ⟨m, hbm, hl, hm⟩ := h
  have hlt : m < w.heap.size := by
    by_cases h : m < w.heap.size
    · exact h
    · rw [Array.getElem?_eq_none (by omega)] at hm; cases hm
  exact ⟨m, hbm, hl.all hb, (hb.block m hlt).trans hm⟩
theorem VSet.keep {B : Nat} {w w' : World} {g : Nat} (h : VSet B w g) (hb : Below w.heap.size w w') : VSet B w' g := by
  rcases h with h | h
  · exact .inl (h.all hb)
  · exact .inr (h.keep hb)
theorem VSet.lt {B : Nat} {w : World} {g : Nat} (h : VSet B w g) : g < w.heap.size := by
  rcases h with h | ⟨m, _, h, _⟩
  · exact h.lt
  · exact h.lt

open Classical in
set_option maxHeartbeats 3200000 in
theorem partI_elem (B n : Nat) (w0 w : World) (a b c d e : Value) (t : Tr (n + 1)) (g : Nat) (h : RdNode (n + 1) w0 [a, b, c, d, e] t) (hB : Below w0.heap.size w0 w) (hg : w0.heap.size ≤ g) (hV : VSet B w g) (hBB : B ≤ w.heap.size) (hz : t.kind = 0) :
    Calls Tryz.prog 52 #[.agg #[a, b, c, d, e], .pointer (some ⟨g, 0, none⟩)] w fun e w' => e = .returned (.bool (partB t)) ∧ VSet B w' g ∧ Frm w w' [g] := by
  obtain ⟨_, _, _, _, e0, k1, k2, hb, hc, hd, he⟩ := h
  simp only [List.cons.injEq, and_true] at e0
  obtain ⟨rfl, rfl, rfl, rfl, rfl⟩ := e0
  have HP := hide (show partB t = elemB t from partB_elem (by rw [hz]; decide))
  obtain ⟨ab, cb, rfl, _, _⟩ := hb.shape
  obtain ⟨ac, cc, rfl, _, _⟩ := hc.shape
  obtain ⟨ad, cd, rfl, _, _⟩ := Elems.shape hd
  obtain ⟨ae, ce, rfl, _, _⟩ := Elems.shape he
  have hB1 : Below w.heap.size w (w.alloc (.cells #[.int .i64 t.kind, .slice ab t.name.length cb, .slice ac t.text.length cc, .slice ad t.attrs.length cd, .slice ae t.kids.length ce] 30)) := (Below.refl _ _).alloc (Nat.le_refl _) _
  have l1 := Loc.made w #[.int .i64 t.kind, .slice ab t.name.length cb, .slice ac t.text.length cc, .slice ad t.attrs.length cd, .slice ae t.kids.length ce] 30
  have HX : Hid ((t.text.length ≠ 0 → elemB t = false) ∧ (¬ NameOk t.name → elemB t = false) ∧ (¬ AttrsOk t.attrs → elemB t = false) ∧ (NameOk t.name → t.text.length = 0 → AttrsOk t.attrs → t.kids.length = 0 → elemB t = true) ∧ (NameOk t.name → t.text.length = 0 → AttrsOk t.attrs → t.kids.length ≠ 0 → elemB t = !decide (Void t.name))) := by
    refine ⟨fun h => elemB_no (fun k => h k.2.2.1), fun h => elemB_no (fun k => h k.2.1), fun h => elemB_no (fun k => h k.2.2.2.1), fun h1 h2 h3 h4 => (elemB_iff t).2 ⟨hz, h1, h2, h3, fun k => by omega⟩, fun h1 h2 h3 h4 => ?_⟩
    by_cases hv : Void t.name
    · rw [elemB_no (fun k => k.2.2.2.2 ⟨hv, by omega⟩)]; simp [hv]
    · rw [(elemB_iff t).2 ⟨hz, h1, h2, h3, fun k => hv k.1⟩]; simp [hv]
  rw [hz] at *
  have ha : Below w0.heap.size w0 (w.alloc (.cells #[.int .i64 0, .slice ab t.name.length cb, .slice ac t.text.length cc, .slice ad t.attrs.length cd, .slice ae t.kids.length ce] 30)) := hB.trans (hB1.mono hB.size)
  have hV1 := hV.keep hB1
  have F1 := Frm.ofBelow hB1 [g]
  clear hB1 k1 k2 hB
  go_enter Tryz.func52, Tryz.ntmps52
  go_wp2_with fail
  generalize (w.alloc (.cells #[.int .i64 0, .slice ab t.name.length cb, .slice ac t.text.length cc, .slice ad t.attrs.length cd, .slice ae t.kids.length ce] 30)) = w1 at *
  have hBB1 := Nat.le_trans hBB F1.size
  generalize hS : w.heap.size = S at *
  clear hS
  generalize t.name.length = nb at *
  generalize t.text.length = nc at *
  generalize t.attrs.length = nd at *
  generalize t.kids.length = ne at *
  have hbb := hb.keep ha
  have hdd := hd.keep ha
  refine (nameI_any w1 _ t.name hbb).mono ?_
  rintro e w1 ⟨rfl, rfl⟩
  obtain ⟨x0, x1, x2, x3, x4⟩ := l1.five
  by_cases hn : NameOk t.name
  · rw [show decide (NameOk t.name) = true by simpa using hn]
    by_cases htx : nc = 0
    · have dtx : ((nc : Int) == 0) = true := by simpa using htx
      go_wp2_with fail
      refine (attrsI_any w1 _ t.attrs hdd).mono ?_
      rintro e w2 ⟨rfl, hB2⟩
      have hV2 := hV1.keep hB2
      have F2 := F1.trans (Frm.ofBelow hB2 [g])
      have ha2 := ha.trans (hB2.mono ha.size)
      have l2 := l1.all hB2
      clear x0 x1 x2 x3 x4
      obtain ⟨x0, x1, x2, x3, x4⟩ := l2.five
      by_cases hat : AttrsOk t.attrs
      · rw [show decide (AttrsOk t.attrs) = true by simpa using hat]
        by_cases hk : ne = 0
        · have dk : ((ne : Int) == 0) = true := by simpa using hk
          have HE := hide ((unhide HX).2.2.2.1 hn htx hat hk)
          clear hn htx hat hk HX
          go_wp2_with fail
          go_ret
          exact ⟨by rw [unhide HP, unhide HE]; rfl, hV2, F2⟩
        · have dk : ((ne : Int) == 0) = false := by simpa using hk
          have HE := hide ((unhide HX).2.2.2.2 hn htx hat hk)
          clear hn htx hat hk HX
          go_wp2_with fail
          refine (has_any B g w2 _ t.name hV2 (Nat.le_trans hBB1 hB2.size) (fun w' f => hb.keep (ha2.trans (f.below ha2.size (fun q hq => by simp at hq; omega))))).mono ?_
          rintro e w3 ⟨rfl, hV3, F3⟩
          generalize decide (Void t.name) = vb at *
          go_wp2_with fail
          go_ret
          exact ⟨by rw [unhide HP, unhide HE]; rfl, .inr hV3, F2.trans F3⟩
      · rw [show decide (AttrsOk t.attrs) = false by simpa using hat]
        have HE := hide ((unhide HX).2.2.1 hat)
        clear hn htx hat HX
        go_wp2_with fail
        go_ret
        exact ⟨by rw [unhide HP, unhide HE]; rfl, hV2, F2⟩
    · have dtx : ((nc : Int) == 0) = false := by simpa using htx
      have HE := hide ((unhide HX).1 htx)
      clear hn htx HX
      go_wp2_with fail
      go_ret
      exact ⟨by rw [unhide HP, unhide HE]; rfl, hV1, F1⟩
  · rw [show decide (NameOk t.name) = false by simpa using hn]
    have HE := hide ((unhide HX).2.1 hn)
    clear hn HX
    go_wp2_with fail
    go_ret
    exact ⟨by rw [unhide HP, unhide HE]; rfl, hV1, F1⟩

open Classical in
set_option maxHeartbeats 3200000 in
theorem partI_leaf (B n : Nat) (w0 w : World) (a b c d e : Value) (t : Tr (n + 1)) (g : Nat) (h : RdNode (n + 1) w0 [a, b, c, d, e] t) (hB : Below w0.heap.size w0 w) (hg : w0.heap.size ≤ g) (hV : VSet B w g) (hBB : B ≤ w.heap.size) (hz : t.kind = 1) :
    Calls Tryz.prog 52 #[.agg #[a, b, c, d, e], .pointer (some ⟨g, 0, none⟩)] w fun e w' => e = .returned (.bool (partB t)) ∧ VSet B w' g ∧ Frm w w' [g] := by
  obtain ⟨_, _, _, _, e0, k1, k2, hb, hc, hd, he⟩ := h
  simp only [List.cons.injEq, and_true] at e0
  obtain ⟨rfl, rfl, rfl, rfl, rfl⟩ := e0
  have HP := hide (show partB t = leafB t from partB_leaf hz)
  obtain ⟨ab, cb, rfl, _, _⟩ := hb.shape
  obtain ⟨ac, cc, rfl, _, _⟩ := hc.shape
  obtain ⟨ad, cd, rfl, _, _⟩ := Elems.shape hd
  obtain ⟨ae, ce, rfl, _, _⟩ := Elems.shape he
  have hB1 : Below w.heap.size w (w.alloc (.cells #[.int .i64 t.kind, .slice ab t.name.length cb, .slice ac t.text.length cc, .slice ad t.attrs.length cd, .slice ae t.kids.length ce] 30)) := (Below.refl _ _).alloc (Nat.le_refl _) _
  have l1 := Loc.made w #[.int .i64 t.kind, .slice ab t.name.length cb, .slice ac t.text.length cc, .slice ad t.attrs.length cd, .slice ae t.kids.length ce] 30
  have HX : Hid ((t.name.length ≠ 0 → leafB t = false) ∧ (¬ TextOk t.text → leafB t = false) ∧ (t.attrs.length ≠ 0 → leafB t = false) ∧ (t.kids.length ≠ 0 → leafB t = false) ∧ (t.name.length = 0 → TextOk t.text → t.attrs.length = 0 → t.kids.length = 0 → leafB t = true)) := by
    exact ⟨fun h => leafB_no (fun k => h k.1), fun h => leafB_no (fun k => h k.2.2.2), fun h => leafB_no (fun k => h k.2.1), fun h => leafB_no (fun k => h k.2.2.1), fun h1 h2 h3 h4 => (leafB_iff t).2 ⟨h1, h3, h4, h2⟩⟩
  rw [hz] at *
  have ha : Below w0.heap.size w0 (w.alloc (.cells #[.int .i64 1, .slice ab t.name.length cb, .slice ac t.text.length cc, .slice ad t.attrs.length cd, .slice ae t.kids.length ce] 30)) := hB.trans (hB1.mono hB.size)
  have hV1 := hV.keep hB1
  have F1 := Frm.ofBelow hB1 [g]
  clear hB1 k1 k2 hB
  go_enter Tryz.func52, Tryz.ntmps52
  by_cases hnn : t.name.length = 0
  · have dn : ((t.name.length : Int) == 0) = true := by simpa using hnn
    have HN := hide hnn
    clear hnn
    go_wp2_with fail
    generalize (w.alloc (.cells #[.int .i64 1, .slice ab t.name.length cb, .slice ac t.text.length cc, .slice ad t.attrs.length cd, .slice ae t.kids.length ce] 30)) = w1 at *
    generalize hS : w.heap.size = S at *
    clear hS
    generalize t.name.length = nb at *
    generalize t.text.length = nc at *
    generalize t.attrs.length = nd at *
    generalize t.kids.length = ne at *
    refine (textI_any w1 _ t.text (hc.keep ha)).mono ?_
    rintro e w1 ⟨rfl, rfl⟩
    obtain ⟨x0, x1, x2, x3, x4⟩ := l1.five
    by_cases ht : TextOk t.text
    · rw [show decide (TextOk t.text) = true by simpa using ht]
      by_cases hat : nd = 0
      · have dat : ((nd : Int) == 0) = true := by simpa using hat
        by_cases hk : ne = 0
        · have dk : ((ne : Int) == 0) = true := by simpa using hk
          have HE := hide ((unhide HX).2.2.2.2 (unhide HN) ht hat hk)
          clear ht hat hk HX HN
          go_wp2_with fail
          go_ret
          exact ⟨by rw [unhide HP, unhide HE]; rfl, hV1, F1⟩
        · have dk : ((ne : Int) == 0) = false := by simpa using hk
          have HE := hide ((unhide HX).2.2.2.1 hk)
          clear ht hat hk HX HN
          go_wp2_with fail
          go_ret
          exact ⟨by rw [unhide HP, unhide HE]; rfl, hV1, F1⟩
      · have dat : ((nd : Int) == 0) = false := by simpa using hat
        have HE := hide ((unhide HX).2.2.1 hat)
        clear ht hat HX HN
        go_wp2_with fail
        go_ret
        exact ⟨by rw [unhide HP, unhide HE]; rfl, hV1, F1⟩
    · rw [show decide (TextOk t.text) = false by simpa using ht]
      have HE := hide ((unhide HX).2.1 ht)
      clear ht HX HN
      go_wp2_with fail
      go_ret
      exact ⟨by rw [unhide HP, unhide HE]; rfl, hV1, F1⟩
  · have dn : ((t.name.length : Int) == 0) = false := by simpa using hnn
    have HE := hide ((unhide HX).1 hnn)
    clear hnn HX
    go_wp2_with fail
    go_ret
    exact ⟨by rw [unhide HP, unhide HE]; rfl, hV1, F1⟩

set_option maxHeartbeats 3200000 in
theorem partI_none (B n : Nat) (w0 w : World) (a b c d e : Value) (t : Tr (n + 1)) (g : Nat) (h : RdNode (n + 1) w0 [a, b, c, d, e] t) (hV : VSet B w g) (hBB : B ≤ w.heap.size) (hz : t.kind ≠ 0) (hz1 : t.kind ≠ 1) :
    Calls Tryz.prog 52 #[.agg #[a, b, c, d, e], .pointer (some ⟨g, 0, none⟩)] w fun e w' => e = .returned (.bool (partB t)) ∧ VSet B w' g ∧ Frm w w' [g] := by
  obtain ⟨_, _, _, _, e0, k1, k2, hb, hc, hd, he⟩ := h
  simp only [List.cons.injEq, and_true] at e0
  obtain ⟨rfl, rfl, rfl, rfl, rfl⟩ := e0
  have HP := hide (show partB t = false by rw [partB_elem hz1]; exact elemB_no (fun k => hz k.1))
  obtain ⟨ab, cb, rfl, _, _⟩ := hb.shape
  obtain ⟨ac, cc, rfl, _, _⟩ := hc.shape
  obtain ⟨ad, cd, rfl, _, _⟩ := Elems.shape hd
  obtain ⟨ae, ce, rfl, _, _⟩ := Elems.shape he
  have hB1 : Below w.heap.size w (w.alloc (.cells #[.int .i64 t.kind, .slice ab t.name.length cb, .slice ac t.text.length cc, .slice ad t.attrs.length cd, .slice ae t.kids.length ce] 30)) := (Below.refl _ _).alloc (Nat.le_refl _) _
  have hV1 := hV.keep hB1
  have F1 := Frm.ofBelow hB1 [g]
  have d0 : (t.kind == 0) = false := by simpa using hz
  have d1 : (t.kind == 1) = false := by simpa using hz1
  clear hB1 k1 k2 hz hz1 hb hc hd he
  generalize t.kind = z at *
  go_enter Tryz.func52, Tryz.ntmps52
  go_wp2_with fail
  go_ret
  exact ⟨by rw [unhide HP]; rfl, hV1, F1⟩

theorem partI_any (B n : Nat) (w0 w : World) (a b c d e : Value) (t : Tr (n + 1)) (g : Nat) (h : RdNode (n + 1) w0 [a, b, c, d, e] t) (hB : Below w0.heap.size w0 w) (hg : w0.heap.size ≤ g) (hV : VSet B w g) (hBB : B ≤ w.heap.size) :
    Calls Tryz.prog 52 #[.agg #[a, b, c, d, e], .pointer (some ⟨g, 0, none⟩)] w fun e w' => e = .returned (.bool (partB t)) ∧ VSet B w' g ∧ Frm w w' [g] := by
  by_cases hz : t.kind = 0
  · exact partI_elem B n w0 w a b c d e t g h hB hg hV hBB hz
  · by_cases hz1 : t.kind = 1
    · exact partI_leaf B n w0 w a b c d e t g h hB hg hV hBB hz1
    · exact partI_none B n w0 w a b c d e t g h hV hBB hz hz1
end Go.Proofs.YthgopknjppflhaaGreatDoor

/- A row of data that can be read: its elements one by one. No condition. -/
namespace Go.Proofs.YthgopknjppflhaaGreatDoor
open Go.RowKit Go.ChangeShapes
set_option linter.unusedVariables false
set_option maxRecDepth 100000

variable {H : Type} {enc : TypeId × Value → H} {W : World} {held : Bool}

theorem list_of {α : Type} {Q : Nat → α → Prop} : ∀ n : Nat, (∀ i, i < n → ∃ a, Q i a) → ∃ l : List α, l.length = n ∧ ∀ i (hi : i < l.length), Q i l[i]
  | 0, _ => ⟨[], rfl, fun i hi => by cases hi⟩
  | n + 1, h => by
    obtain ⟨l, hl, hq⟩ := list_of n (fun i hi => h i (by omega))
    obtain ⟨a, ha⟩ := h n (by omega)
    refine ⟨l ++ [a], by simp [hl], fun i hi => ?_⟩
    by_cases hi' : i < l.length
    · rw [List.getElem_append_left hi']; exact hq i hi'
    · have : i = l.length := by simp at hi; omega
      subst this
      simp only [List.getElem_append_right (Nat.le_refl _), Nat.sub_self, List.getElem_cons_zero]
      rw [hl]; exact ha

theorem open_elems {α : Type} {t e : TypeId} {sz fuel : Nat} {cs : List Value} {x : DataW H × List MemPlace} {R : List Value → α → Prop} (ht : Tryz.prog.underlying t = some (.slice e)) (hc : Tryz.prog.cellsOf e = sz) (hs : 0 < sz)
    (hR : ∀ n C y, fuel = n + 1 → DataW.trod enc Tryz.prog W 0 (fun _ => true) held n e C = some y → ∃ a : α, R C a)
    (h : DataW.trod enc Tryz.prog W 0 (fun _ => true) held fuel t cs = some x) : ∃ v l, cs = [v] ∧ Elems W sz v l R := by
  rcases DataW.trod_slice ht h with ⟨rfl, _⟩ | ⟨a, len, cap, elems, rest, n, hf, rfl, _, _, hl, hm, hlen, hel, _, _⟩
  · exact ⟨_, [], rfl, by simp [maxLen], .inl ⟨rfl, rfl⟩⟩
  rw [hc] at hel
  have hall : ∀ i, i < len → ∃ b : α, ∃ C : List Value, C.length = sz ∧ (∀ j, j < sz → W.cell? ((a.add (i * sz)).add j) = C[j]?) ∧ R C b := by
    intro i hi
    have h1 := hel i hi
    rw [List.getElem?_eq_getElem (by omega)] at h1
    obtain ⟨C, hC, hy⟩ := Option.bind_eq_some_iff.1 h1
    obtain ⟨_, hCl, hcell⟩ := World.cells?_some hC
    obtain ⟨b, hb⟩ := hR n C _ hf hy
    exact ⟨b, C, hCl, hcell, hb⟩
  obtain ⟨l, hll, hq⟩ := list_of (Q := fun i b => ∃ C : List Value, C.length = sz ∧ (∀ j, j < sz → W.cell? ((a.add (i * sz)).add j) = C[j]?) ∧ R C b) len hall
  refine ⟨_, l, rfl, by omega, ?_⟩
  by_cases h0 : len = 0
  · have hl0 : l = [] := List.eq_nil_of_length_eq_zero (by omega)
    subst h0
    exact .inr (.inl ⟨a, cap, rfl, hm, hl0⟩)
  · obtain ⟨b, off, spot⟩ := a
    obtain ⟨C, hCl, hcell, _⟩ := hq 0 (by omega)
    have hc0 := hcell 0 hs
    rw [List.getElem?_eq_getElem (by omega)] at hc0
    have hspot : spot = none := by simpa [Addr.add] using World.cell?_spot hc0
    subst hspot
    refine .inr (.inr ⟨b, off, cap, by rw [hll], by omega, hm, fun h => by subst h; simp at hll; omega, ?_, fun i hi => ?_⟩)
    · have := lt_of_cell hc0; simpa [Addr.add] using this
    · obtain ⟨C, hCl, hcell, hr⟩ := hq i hi
      refine ⟨C, hCl, fun j hj => ?_, hr⟩
      have := hcell j hj
      rw [add_plain, add_plain] at this
      exact this

end Go.Proofs.YthgopknjppflhaaGreatDoor

/- An argument of a law that can be read as data is bytes, attributes, a tree: what the data's readings open to. No condition. -/
namespace Go.Proofs.YthgopknjppflhaaGreatDoor
open Go.RowKit Go.ChangeShapes
set_option linter.unusedVariables false
set_option maxRecDepth 100000

variable {H : Type} {enc : TypeId × Value → H} {W : World} {held : Bool}

theorem open_bytes {fuel : Nat} {cs : List Value} {x : DataW H × List MemPlace} (h : DataW.trod enc Tryz.prog W 0 (fun _ => true) held fuel 26 cs = some x) :
    ∃ v l, cs = [v] ∧ Byt W v l := by
  rcases open_ints Tryz.underlying26 Tryz.underlying5 (by kernel_rfl) h with ⟨hcs, _⟩ | ⟨a, len, cap, zs, hcs, _, hl, hm, hz, _, hcell, hwz⟩
  · exact ⟨_, _, hcs, byt_of_row (zs := []) (.inl ⟨rfl, rfl, rfl, rfl⟩)⟩
  · exact ⟨_, _, hcs, byt_of_row (.inr ⟨_, rfl, hl, hm, by simpa using hz, hcell, hwz⟩)⟩

theorem some_at {α : Type} {l : List α} {n i : Nat} (h : l.length = n) (hi : i < n) : ∃ y, l[i]? = some y := ⟨l[i]'(by omega), List.getElem?_eq_getElem (by omega)⟩

theorem open_attr {fuel : Nat} {cs : List Value} {x : DataW H × List MemPlace} (h : DataW.trod enc Tryz.prog W 0 (fun _ => true) held fuel 130 cs = some x) : ∃ a, RdAttr W cs a := by
  obtain ⟨xs, n, _, _, hlen, hxs, hf⟩ := DataW.trod_struct Tryz.underlying130 h
  have hlen2 : cs.length = 2 := hlen.trans (by kernel_rfl)
  match cs, hlen2 with
  | [c0, c1], _ =>
    obtain ⟨y0, e0⟩ := some_at (i := 0) hxs (by simp)
    obtain ⟨y1, e1⟩ := some_at (i := 1) hxs (by simp)
    have h0 : DataW.trod enc Tryz.prog W 0 (fun _ => true) held n 26 (([c0, c1].drop 0).take (Tryz.prog.cellsOf 26)) = some y0 := (hf 0 _ rfl).trans e0
    have h1 : DataW.trod enc Tryz.prog W 0 (fun _ => true) held n 26 (([c0, c1].drop 1).take (Tryz.prog.cellsOf 26)) = some y1 := (hf 1 _ rfl).trans e1
    have k1 : Tryz.prog.cellsOf 26 = 1 := by kernel_rfl
    simp only [k1, List.drop, List.take] at h0 h1
    obtain ⟨v0, l0, g0, b0⟩ := open_bytes h0
    obtain ⟨v1, l1, g1, b1⟩ := open_bytes h1
    simp at g0 g1
    subst g0; subst g1
    exact ⟨(l0, l1), _, _, rfl, b0, b1⟩

end Go.Proofs.YthgopknjppflhaaGreatDoor

/- The nodes of a tree in the markup's order, as they lie in memory: what impl.walk hands on. -/
namespace Go.Proofs.YthgopknjppflhaaGreatDoor
open Go.RowKit
set_option linter.unusedVariables false
set_option maxRecDepth 100000

/-- A node as it is handed on: its depth, its five values, the tree that they read as. -/
structure It (w0 : World) where
  deep : Int
  a : Value
  b : Value
  c : Value
  d : Value
  e : Value
  m : Nat
  t : Tr (m + 1)
  rd : RdNode (m + 1) w0 [a, b, c, d, e] t
def pn : (n : Nat) → Int → Tr n → List (Int × Bool)
  | 0 => fun _ _ => []
  | n + 1 => fun deep t => (deep, partB t) :: (t.kids.map (pn n (deep + 1))).flatten

end Go.Proofs.YthgopknjppflhaaGreatDoor

/- impl.walk hands on the nodes in the markup's order. -/
namespace Go.Proofs.YthgopknjppflhaaGreatDoor
open Go.RowKit Go.Shelf
set_option linter.unusedVariables false
set_option maxRecDepth 100000
attribute [local go_sem] Oper.semAt_some

theorem sum_mem {l : List Nat} {x : Nat} (h : x ∈ l) : x ≤ l.sum := by
  induction l with
  | nil => cases h
  | cons y l ih =>
    rw [List.sum_cons]
    rcases List.mem_cons.1 h with rfl | h'
    · omega
    · have := ih h'; omega
end Go.Proofs.YthgopknjppflhaaGreatDoor

/- A node as it grows: its fields and their memory. -/
namespace Go.Proofs.YthgopknjppflhaaGreatDoor
open Go.RowKit
set_option linter.unusedVariables false

theorem OwElems.naught {α : Type} (w : World) (e : TypeId) (size : Nat) (R : List Value → α → List Nat → Prop) : OwElems w e size (.slice none 0 0) ([] : List α) R [] :=
  ⟨[], [], rfl, rfl, fun i hi => by simp at hi, World.ownsRow_nil _ _ _ _, rfl⟩
theorem attr_le {l : List (List Int × List Int)} {x : List Int × List Int} (h : x ∈ l) : x.1.length + x.2.length ≤ szA l := by
  unfold szA
  have : x.1.length + x.2.length ∈ l.map (fun x => x.1.length + x.2.length) := List.mem_map.2 ⟨x, h, rfl⟩
  have := sum_mem this
  omega

/-- A node as it grows, in block po: its fields, and all the memory that they own. -/
structure OutAt (n lo : Nat) (w : World) (po : Nat) (kd : Int) (nm tx at' kv : Value) (ln lt : List Int) (la : List (List Int × List Int)) (A : List (Tr (n + 1))) (Fa Fk : List Nat) : Prop where
  loc : Loc w po #[.int .i64 kd, nm, tx, at', kv] 30
  name : Own w 0 nm ln
  text : Own w 0 tx lt
  attrs : OwAttrs w at' la Fa
  kids : OwKids (n + 1) w kv A Fk
  nodup : (FB nm ++ FB tx ++ Fa ++ Fk).Nodup
  rng : ∀ q ∈ FB nm ++ FB tx ++ Fa ++ Fk, lo ≤ q ∧ q < w.heap.size ∧ q ≠ po

section
variable {n lo po : Nat} {w w' : World} {kd : Int} {nm tx at' kv : Value} {ln lt : List Int} {la : List (List Int × List Int)} {A : List (Tr (n + 1))} {Fa Fk : List Nat}

theorem OutAt.frm {S : List Nat} (h : OutAt n lo w po kd nm tx at' kv ln lt la A Fa Fk) (f : Frm w w' S) (hp : po ∉ S) (hd : ∀ q ∈ FB nm ++ FB tx ++ Fa ++ Fk, q ∉ S) : OutAt n lo w' po kd nm tx at' kv ln lt la A Fa Fk where
  loc := h.loc.frm f hp
  name := h.name.frm f (fun q hq => hd q (by simp only [List.mem_append]; exact .inl (.inl (.inl hq))))
  text := h.text.frm f (fun q hq => hd q (by simp only [List.mem_append]; exact .inl (.inl (.inr hq))))
  attrs := h.attrs.frm f (fun q hq => hd q (by simp only [List.mem_append]; exact .inl (.inr hq)))
  kids := OwKids.frm h.kids f (fun q hq => hd q (by simp only [List.mem_append]; exact .inr hq))
  nodup := h.nodup
  rng := fun q hq => ⟨(h.rng q hq).1, Nat.lt_of_lt_of_le (h.rng q hq).2.1 f.size, (h.rng q hq).2.2⟩
theorem OutAt.keep (h : OutAt n lo w po kd nm tx at' kv ln lt la A Fa Fk) (hb : Below w.heap.size w w') : OutAt n lo w' po kd nm tx at' kv ln lt la A Fa Fk := h.frm (Frm.ofBelow hb []) (by simp) (fun _ _ => by simp)
/-- The kids turned, and were stored. -/
theorem OutAt.setKids {S : List Nat} {kv' : Value} {A' : List (Tr (n + 1))} {Fk' : List Nat} (h : OutAt n lo w po kd nm tx at' kv ln lt la A Fa Fk) (f : Frm w w' S) (hp : po ∉ S) (hd : ∀ q ∈ FB nm ++ FB tx ++ Fa, q ∉ S)
    (hk : OwKids (n + 1) w' kv' A' Fk') (hN : Fk'.Nodup) (hF : ∀ q ∈ Fk', (q ∈ Fk ∨ w.heap.size ≤ q) ∧ q < w'.heap.size) (hlo : lo ≤ w.heap.size) : OutAt n lo (w'.setCell ⟨po, 4, none⟩ kv') po kd nm tx at' kv' ln lt la A' Fa Fk' := by
  have hpl := h.loc.lt
  have hpk : ∀ q ∈ Fk', q ≠ po := fun q hq e => by
    rcases (hF q hq).1 with h' | h'
    · exact (h.rng q (by simp only [List.mem_append]; exact .inr h')).2.2 e
    · omega
  have fs := Frm.set w' po 4 kv'
  have hl := h.loc.frm f hp
  have hne : ∀ q ∈ FB nm ++ FB tx ++ Fa, q ∉ [po] := fun q hq hm => (h.rng q (by simp only [List.mem_append] at hq ⊢; exact .inl hq)).2.2 (by simpa using hm)
  refine ⟨hl.set 4 kv', (h.name.frm f (fun q hq => hd q (by simp only [List.mem_append]; exact .inl (.inl hq)))).frm fs (fun q hq => hne q (by simp only [List.mem_append]; exact .inl (.inl hq))), (h.text.frm f (fun q hq => hd q (by simp only [List.mem_append]; exact .inl (.inr hq)))).frm fs (fun q hq => hne q (by simp only [List.mem_append]; exact .inl (.inr hq))), (h.attrs.frm f (fun q hq => hd q (by simp only [List.mem_append]; exact .inr hq))).frm fs (fun q hq => hne q (by simp only [List.mem_append]; exact .inr hq)), OwKids.frm hk fs (fun q hq hm => hpk q hq (by simpa using hm)), ?_, ?_⟩
  · obtain ⟨n1, n2, n3⟩ := List.nodup_append.1 h.nodup
    refine List.nodup_append.2 ⟨n1, hN, fun a ha b hb e => ?_⟩
    rcases (hF b hb).1 with h' | h'
    · exact n3 a ha b h' e
    · have := (h.rng a (List.mem_append_left _ ha)).2.1
      omega
  · intro q hq
    rcases List.mem_append.1 hq with hq | hq
    · have := h.rng q (List.mem_append_left _ hq)
      exact ⟨this.1, Nat.lt_of_lt_of_le this.2.1 (Nat.le_trans f.size fs.size), this.2.2⟩
    · refine ⟨?_, Nat.lt_of_lt_of_le (hF q hq).2 fs.size, hpk q hq⟩
      rcases (hF q hq).1 with h' | h'
      · exact (h.rng q (List.mem_append_right _ h')).1
      · omega
/-- The node is whole. -/
theorem OutAt.node (h : OutAt n lo w po kd nm tx at' kv ln lt la A Fa Fk) (k1 : -9223372036854775808 ≤ kd) (k2 : kd ≤ 9223372036854775807) : OwNode (n + 2) w [.int .i64 kd, nm, tx, at', kv] (⟨kd, ln, lt, la, A⟩ : Nd (Tr (n + 1))) (FB nm ++ FB tx ++ Fa ++ Fk) :=
  ⟨nm, tx, at', kv, Fa, Fk, rfl, k1, k2, h.name, h.text, h.attrs, h.kids, rfl⟩

end
theorem store5 {w : World} {po : Nat} {z0 z1 z2 z3 z4 : Value} {T : TypeId} (h : Loc w po #[z0, z1, z2, z3, z4] T) (a b c d e : Value) :
    Loc (((((w.setCell ⟨po, 0, none⟩ a).setCell ⟨po, 1, none⟩ b).setCell ⟨po, 2, none⟩ c).setCell ⟨po, 3, none⟩ d).setCell ⟨po, 4, none⟩ e) po #[a, b, c, d, e] T ∧ Frm w (((((w.setCell ⟨po, 0, none⟩ a).setCell ⟨po, 1, none⟩ b).setCell ⟨po, 2, none⟩ c).setCell ⟨po, 3, none⟩ d).setCell ⟨po, 4, none⟩ e) [po] :=
  ⟨((((h.set 0 a).set 1 b).set 2 c).set 3 d).set 4 e, ((((Frm.set _ _ _ _).trans (Frm.set _ _ _ _)).trans (Frm.set _ _ _ _)).trans (Frm.set _ _ _ _)).trans (Frm.set _ _ _ _)⟩
theorem own_notN {w : World} {b : Nat} {v : Value} {l : List Int} {g : Nat} {cs : Array Value} (ho : Own w b v l) (h : Loc w g cs 30) : v.ownBlock ≠ some g := by
  intro e
  obtain ⟨cur, hc⟩ := own_obj ho.2 e
  unfold Loc at h
  rw [h] at hc
  injection hc with hc
  injection hc with _ hc
  revert hc
  decide
theorem attrs_notN {w : World} {v : Value} {l : List (List Int × List Int)} {F : List Nat} {g : Nat} {cs : Array Value} (ho : OwAttrs w v l F) (h : Loc w g cs 30) : g ∉ F := by
  obtain ⟨Cs, Fs, e1, e2, e3, e4, rfl⟩ := ho
  intro hg
  rcases List.mem_append.1 hg with hg | hg
  · obtain ⟨cur, hc⟩ := own_obj e4 (g := g) (by simpa [FB] using hg)
    unfold Loc at h
    rw [h] at hc
    injection hc with hc
    injection hc with _ hc
    revert hc
    decide
  · obtain ⟨G, hG, hgG⟩ := List.mem_flatten.1 hg
    obtain ⟨i, hi, hGi⟩ := List.getElem_of_mem hG
    obtain ⟨_, a, b, _, oa, ob, hF⟩ := e3 i (by omega)
    have e : Fs.getD i [] = G := by rw [← hGi]; simp [hi]
    rw [e] at hF
    rw [hF] at hgG
    rcases List.mem_append.1 hgG with h' | h'
    · exact own_notN oa h (by simpa [FB] using h')
    · exact own_notN ob h (by simpa [FB] using h')

theorem Frm.more {a b c : World} {S S' : List Nat} (h : Frm a b S) (k : Frm b c S') (hs : ∀ q ∈ S', q ∈ S ∨ a.heap.size ≤ q) : Frm a c S :=
  ⟨k.os.trans h.os, k.tape.trans h.tape, k.output.trans h.output, Nat.le_trans h.size k.size, fun i hi hn => (k.block i (Nat.lt_of_lt_of_le hi h.size) (fun hm => by
    rcases hs i hm with h' | h'
    · exact hn h'
    · omega)).trans (h.block i hi hn)⟩
theorem five_lies (w : World) (a b c d e : Value) (T : TypeId) : ∀ (j : Nat) (u : Value), [a, b, c, d, e][j]? = some u → (w.alloc (.cells #[a, b, c, d, e] T)).cell? ((⟨w.heap.size, 0, none⟩ : Addr).add j) = some u := by
  intro j u hu
  exact World.news_of_block (heap_alloc_new w (.cells #[a, b, c, d, e] T)) j u (by simpa using hu)

/-- The attributes turned, and were stored. -/
theorem OutAt.setAttrs {n lo po : Nat} {w w' : World} {kd : Int} {nm tx at' kv : Value} {ln lt : List Int} {la la' : List (List Int × List Int)} {A : List (Tr (n + 1))} {Fa Fk S : List Nat} {at2 : Value} {Fa' : List Nat} (h : OutAt n lo w po kd nm tx at' kv ln lt la A Fa Fk) (f : Frm w w' S) (hd : ∀ q ∈ FB nm ++ FB tx ++ Fk, q ∉ S)
    (hl : Loc w' po #[.int .i64 kd, nm, tx, at2, kv] 30) (hk : OwAttrs w' at2 la' Fa') (hN : Fa'.Nodup) (hF : ∀ q ∈ Fa', (q ∈ Fa ∨ w.heap.size ≤ q) ∧ q < w'.heap.size) (hlo : lo ≤ w.heap.size) : OutAt n lo w' po kd nm tx at2 kv ln lt la' A Fa' Fk := by
  have hpl := h.loc.lt
  refine ⟨hl, h.name.frm f (fun q hq => hd q (by simp only [List.mem_append]; exact .inl (.inl hq))), h.text.frm f (fun q hq => hd q (by simp only [List.mem_append]; exact .inl (.inr hq))), hk, OwKids.frm h.kids f (fun q hq => hd q (by simp only [List.mem_append]; exact .inr hq)), ?_, ?_⟩
  · obtain ⟨n1, n2, n3⟩ := List.nodup_append.1 h.nodup
    obtain ⟨n4, n5, n6⟩ := List.nodup_append.1 n1
    refine List.nodup_append.2 ⟨List.nodup_append.2 ⟨n4, hN, fun a ha b hb e => ?_⟩, n2, fun a ha b hb e => ?_⟩
    · rcases (hF b hb).1 with h' | h'
      · exact n6 a ha b h' e
      · have := (h.rng a (by simp only [List.mem_append] at ha ⊢; exact .inl (.inl ha))).2.1; omega
    · rcases List.mem_append.1 ha with ha | ha
      · exact n3 a (List.mem_append_left _ ha) b hb e
      · rcases (hF a ha).1 with h' | h'
        · exact n3 a (List.mem_append_right _ h') b hb e
        · have := (h.rng b (List.mem_append_right _ hb)).2.1; omega
  · intro q hq
    simp only [List.mem_append] at hq
    rcases hq with (hq | hq) | hq
    · have := h.rng q (by simp only [List.mem_append]; exact .inl (.inl hq))
      exact ⟨this.1, Nat.lt_of_lt_of_le this.2.1 f.size, this.2.2⟩
    · refine ⟨?_, (hF q hq).2, fun e => attrs_notN hk hl (e ▸ hq)⟩
      rcases (hF q hq).1 with h' | h'
      · exact (h.rng q (by simp only [List.mem_append]; exact .inl (.inr h'))).1
      · omega
    · have := h.rng q (by simp only [List.mem_append]; exact .inr hq)
      exact ⟨this.1, Nat.lt_of_lt_of_le this.2.1 f.size, this.2.2⟩

theorem no_kids {t : Tr 1} : t.kids = [] := by
  cases h : t.kids with
  | nil => rfl
  | cons k l => exact k.elim
theorem elems_nil {α β : Type} {w : World} {size : Nat} {v : Value} {R : List Value → α → Prop} {R' : List Value → β → Prop} (h : Elems w size v ([] : List α) R) : Elems w size v ([] : List β) R' := by
  obtain ⟨h1, ⟨h2, _⟩ | ⟨x, c, h2, h3, _⟩ | ⟨b, off, c, h2, h3, h4, h5, _⟩⟩ := h
  · exact ⟨h1, .inl ⟨h2, rfl⟩⟩
  · exact ⟨h1, .inr (.inl ⟨x, c, h2, h3, rfl⟩)⟩
  · exact absurd rfl h5
theorem owElems_nil {α β : Type} {w : World} {e : TypeId} {size : Nat} {v : Value} {R : List Value → α → List Nat → Prop} {R' : List Value → β → List Nat → Prop} {F : List Nat} (h : OwElems w e size v ([] : List α) R F) : OwElems w e size v ([] : List β) R' F := by
  obtain ⟨Cs, Fs, h1, h2, _, h4, h5⟩ := h
  exact ⟨Cs, Fs, h1, h2, fun i hi => by simp at hi, h4, h5⟩
/-- A node without kids, one deeper. -/
def up1 (t : Tr 1) : Tr 2 := (⟨t.kind, t.name, t.text, t.attrs, []⟩ : Nd (Tr 1))
end Go.Proofs.YthgopknjppflhaaGreatDoor

/- Rows as they grow: made, then appended to. No function of the program. -/
namespace Go.Proofs.YthgopknjppflhaaGreatDoor
open Go.RowKit
set_option linter.unusedVariables false
set_option maxRecDepth 100000

theorem row_apart {w : World} {b1 b2 s1 s2 n1 n2 : Nat} {T1 T2 : TypeId} {v u : Value} {xs ys : List Value} (h : w.ownsRow b1 T1 s1 v n1 xs) (k : w.ownsRow b2 T2 s2 u n2 ys) (hT : T1 ≠ T2) : ∀ q ∈ FB v, q ∉ FB u := by
  intro q hq hq'
  obtain ⟨c1, e1⟩ := own_obj h (g := q) (by simpa [FB] using hq)
  obtain ⟨c2, e2⟩ := own_obj k (g := q) (by simpa [FB] using hq')
  rw [e1] at e2
  injection e2 with e2
  injection e2 with _ e2
  exact hT e2
theorem own_loc {w : World} {b1 s1 n1 : Nat} {T1 T2 : TypeId} {v : Value} {xs : List Value} {g : Nat} {cs : Array Value} (h : w.ownsRow b1 T1 s1 v n1 xs) (k : Loc w g cs T2) (hT : T1 ≠ T2) : g ∉ FB v := by
  intro hq
  obtain ⟨c1, e1⟩ := own_obj h (g := g) (by simpa [FB] using hq)
  unfold Loc at k
  rw [e1] at k
  injection k with k
  injection k with _ k
  exact hT k
theorem ownz_made (w : World) : OwnZ (w.alloc (.cells #[] 3)) w.heap.size (.slice (some ⟨w.heap.size, 0, none⟩) 0 0) [] :=
  ⟨okZ_nil, rfl, .inr ⟨w.heap.size, 0, #[], rfl, Nat.le_refl _, heap_alloc_new w _, Nat.le_refl _, Nat.zero_le _, rfl, rfl⟩⟩
/-- Where a row lies as it grows. -/
def Cb (m a : Bool) (x y : Value) : List Nat := if a = true then FB y else if m = true then FB x else []

def RwB (w : World) (B : Nat) (m a : Bool) (x y : Value) (l : List Int) : Prop := (m = true → a = false → Own w B x []) ∧ (a = true → m = true ∧ Own w B y l)
theorem RwB.start (w : World) (B : Nat) (x y : Value) (l : List Int) : RwB w B false false x y l := ⟨fun h => (by cases h), fun h => (by cases h)⟩
theorem RwB.cur {w : World} {B : Nat} {m a : Bool} {x y : Value} {l : List Int} (h : RwB w B m a x y l) {q : Nat} (hq : q ∈ Cb m a x y) : ∃ u k, Own w B u k ∧ q ∈ FB u ∧ Cb m a x y = FB u := by
  unfold Cb at hq ⊢
  cases a with
  | true => exact ⟨y, l, (h.2 rfl).2, by simpa using hq, by simp⟩
  | false =>
    cases m with
    | true => exact ⟨x, [], h.1 rfl rfl, by simpa using hq, by simp⟩
    | false => simp at hq
theorem RwB.lt {w : World} {B : Nat} {m a : Bool} {x y : Value} {l : List Int} (h : RwB w B m a x y l) {q : Nat} (hq : q ∈ Cb m a x y) : B ≤ q ∧ q < w.heap.size := by
  obtain ⟨u, k, ho, hu, _⟩ := h.cur hq
  exact ho.lt q (by simpa [FB] using hu)
theorem RwB.frm {w w' : World} {B : Nat} {m a : Bool} {x y : Value} {l : List Int} {S : List Nat} (h : RwB w B m a x y l) (f : Frm w w' S) (hd : ∀ q ∈ Cb m a x y, q ∉ S) : RwB w' B m a x y l := by
  refine ⟨fun hm ha => ?_, fun ha => ⟨(h.2 ha).1, ?_⟩⟩
  · subst hm ha
    exact ⟨(h.1 rfl rfl).1, ownsRow_frm (h.1 rfl rfl).2 f (fun g hg => hd g (by simpa [Cb] using hg))⟩
  · subst ha
    exact ⟨(h.2 rfl).2.1, ownsRow_frm (h.2 rfl).2.2 f (fun g hg => hd g (by simpa [Cb] using hg))⟩
theorem RwB.keep {w w' : World} {B : Nat} {m a : Bool} {x y : Value} {l : List Int} (h : RwB w B m a x y l) (hb : Below w.heap.size w w') : RwB w' B m a x y l := h.frm (Frm.ofBelow hb []) (fun _ _ => by simp)
theorem RwB.off {w : World} {B : Nat} {m a : Bool} {x y : Value} {l : List Int} (h : RwB w B m a x y l) (hm : m = false) : a = false := by
  cases a with
  | false => rfl
  | true => have := (h.2 rfl).1; rw [hm] at this; cases this
theorem RwB.make {w : World} {B : Nat} {a : Bool} {x y : Value} {l : List Int} (h : RwB w B false a x y l) (hB : B ≤ w.heap.size) : RwB (w.alloc (.cells #[] 5)) B true a (.slice (some ⟨w.heap.size, 0, none⟩) 0 0) y l := by
  have ha := h.off rfl
  subst ha
  exact ⟨fun _ _ => (own_none w).mono hB, fun h => by cases h⟩
theorem RwB.notL {w : World} {B : Nat} {m a : Bool} {x y : Value} {l : List Int} (h : RwB w B m a x y l) {g : Nat} {cs : Array Value} {T : TypeId} (k : Loc w g cs T) (hT : 5 ≠ T) : g ∉ Cb m a x y := fun hq => by
  obtain ⟨u, k', ho, hu, _⟩ := h.cur hq
  exact own_loc ho.2 k hT hu

def RwZ (w : World) (B : Nat) (m a : Bool) (x y : Value) (l : List Int) : Prop := (m = true → a = false → OwnZ w B x []) ∧ (a = true → m = true ∧ OwnZ w B y l)
theorem RwZ.start (w : World) (B : Nat) (x y : Value) (l : List Int) : RwZ w B false false x y l := ⟨fun h => (by cases h), fun h => (by cases h)⟩
theorem RwZ.cur {w : World} {B : Nat} {m a : Bool} {x y : Value} {l : List Int} (h : RwZ w B m a x y l) {q : Nat} (hq : q ∈ Cb m a x y) : ∃ u k, OwnZ w B u k ∧ q ∈ FB u ∧ Cb m a x y = FB u := by
  unfold Cb at hq ⊢
  cases a with
  | true => exact ⟨y, l, (h.2 rfl).2, by simpa using hq, by simp⟩
  | false =>
    cases m with
    | true => exact ⟨x, [], h.1 rfl rfl, by simpa using hq, by simp⟩
    | false => simp at hq
theorem RwZ.lt {w : World} {B : Nat} {m a : Bool} {x y : Value} {l : List Int} (h : RwZ w B m a x y l) {q : Nat} (hq : q ∈ Cb m a x y) : B ≤ q ∧ q < w.heap.size := by
  obtain ⟨u, k, ho, hu, _⟩ := h.cur hq
  exact ho.lt q (by simpa [FB] using hu)
theorem RwZ.frm {w w' : World} {B : Nat} {m a : Bool} {x y : Value} {l : List Int} {S : List Nat} (h : RwZ w B m a x y l) (f : Frm w w' S) (hd : ∀ q ∈ Cb m a x y, q ∉ S) : RwZ w' B m a x y l := by
  refine ⟨fun hm ha => ?_, fun ha => ⟨(h.2 ha).1, ?_⟩⟩
  · subst hm ha
    exact ⟨(h.1 rfl rfl).1, ownsRow_frm (h.1 rfl rfl).2 f (fun g hg => hd g (by simpa [Cb] using hg))⟩
  · subst ha
    exact ⟨(h.2 rfl).2.1, ownsRow_frm (h.2 rfl).2.2 f (fun g hg => hd g (by simpa [Cb] using hg))⟩
theorem RwZ.keep {w w' : World} {B : Nat} {m a : Bool} {x y : Value} {l : List Int} (h : RwZ w B m a x y l) (hb : Below w.heap.size w w') : RwZ w' B m a x y l := h.frm (Frm.ofBelow hb []) (fun _ _ => by simp)
theorem RwZ.off {w : World} {B : Nat} {m a : Bool} {x y : Value} {l : List Int} (h : RwZ w B m a x y l) (hm : m = false) : a = false := by
  cases a with
  | false => rfl
  | true => have := (h.2 rfl).1; rw [hm] at this; cases this
theorem RwZ.make {w : World} {B : Nat} {a : Bool} {x y : Value} {l : List Int} (h : RwZ w B false a x y l) (hB : B ≤ w.heap.size) : RwZ (w.alloc (.cells #[] 3)) B true a (.slice (some ⟨w.heap.size, 0, none⟩) 0 0) y l := by
  have ha := h.off rfl
  subst ha
  exact ⟨fun _ _ => (ownz_made w).mono hB, fun h => by cases h⟩
theorem RwZ.notL {w : World} {B : Nat} {m a : Bool} {x y : Value} {l : List Int} (h : RwZ w B m a x y l) {g : Nat} {cs : Array Value} {T : TypeId} (k : Loc w g cs T) (hT : 3 ≠ T) : g ∉ Cb m a x y := fun hq => by
  obtain ⟨u, k', ho, hu, _⟩ := h.cur hq
  exact own_loc ho.2 k hT hu

theorem Rw.zb {w : World} {B B' : Nat} {m a m' a' : Bool} {x y x' y' : Value} {l l' : List Int} (h : RwZ w B m a x y l) (k : RwB w B' m' a' x' y' l') : ∀ q ∈ Cb m a x y, q ∉ Cb m' a' x' y' := fun q hq hq' => by
  obtain ⟨u, _, ho, hu, _⟩ := h.cur hq
  obtain ⟨v, _, ho', hv, _⟩ := k.cur hq'
  exact row_apart ho.2 ho'.2 (by decide) q hu hv
theorem OwPlC.lt {w : World} {C : List Value} {p : PlV} {F : List Nat} (h : OwPlC w C p F) : ∀ g ∈ F, g < w.heap.size := by
  obtain ⟨k, n, t, a, Fa, _, h1, h2, h3, h4, rfl⟩ := h
  intro g hg
  rcases List.mem_append.1 hg with hg | hg
  · rcases List.mem_append.1 hg with hg | hg
    · rcases List.mem_append.1 hg with hg | hg
      · exact (h1.lt g (by simpa [FB] using hg)).2
      · exact (h2.lt g (by simpa [FB] using hg)).2
    · exact (h3.lt g (by simpa [FB] using hg)).2
  · exact OwAttrs.lt h4 g hg
theorem OwPls.lt {w : World} {v : Value} {l : List PlV} {F : List Nat} (h : OwPls w v l F) : ∀ g ∈ F, g < w.heap.size := OwElems.lt h (fun _ _ _ hr => hr.lt)
end Go.Proofs.YthgopknjppflhaaGreatDoor

/- A row of bytes of a call's own, whose block may bear a conversion's mark behind its cells. -/
namespace Go.Proofs.YthgopknjppflhaaGreatDoor
open Go.RowKit
set_option linter.unusedVariables false

def RowM (w : World) (base : Nat) (v : Value) (l : List Int) : Prop :=
  okB l ∧ ((v = .slice none 0 0 ∧ l = []) ∨
    ∃ g cap cur fz, v = .slice (some ⟨g, 0, none⟩) l.length cap ∧ base ≤ g ∧ w.heap[g]? = some (.cells cur 5 fz) ∧ (∀ j, j < cap → ¬ (fz.1 ≤ j ∧ j < fz.2)) ∧ l.length ≤ cap ∧ cap ≤ maxLen ∧ cur.size = cap ∧ cur.toList.take l.length = vals l)
theorem rowm_nil (w : World) (base : Nat) : RowM w base (.slice none 0 0) [] := ⟨okB_nil, .inl ⟨rfl, rfl⟩⟩
theorem Own.rowm {w : World} {base : Nat} {v : Value} {l : List Int} (h : Own w base v l) : RowM w base v l := by
  refine ⟨h.1, ?_⟩
  rcases h.2.2 with ⟨e, hz⟩ | ⟨g, cap, cur, e, hb, hg, h1, h2, h3, h4⟩
  · exact .inl ⟨e, List.eq_nil_of_length_eq_zero hz⟩
  · exact .inr ⟨g, cap, cur, (0, 0), e, hb, hg, fun j _ hj => by simp at hj, h1, h2, by simpa using h3, by simpa using h4⟩
theorem RowM.lt {w : World} {base : Nat} {v : Value} {l : List Int} (h : RowM w base v l) : ∀ k, v.ownBlock = some k → base ≤ k ∧ k < w.heap.size := by
  intro k hk
  rcases h.2 with ⟨rfl, _⟩ | ⟨g, cap, cur, fz, rfl, hb, hg, _⟩
  · simp [Value.ownBlock] at hk
  · simp [Value.ownBlock] at hk
    subst hk
    exact ⟨hb, (Array.getElem?_eq_some_iff.1 hg).1⟩
theorem RowM.mono {w : World} {base base' : Nat} {v : Value} {l : List Int} (h : RowM w base v l) (hb : base' ≤ base) : RowM w base' v l := by
  refine ⟨h.1, ?_⟩
  rcases h.2 with h' | ⟨g, cap, cur, fz, e, h1, h2⟩
  · exact .inl h'
  · exact .inr ⟨g, cap, cur, fz, e, by omega, h2⟩
theorem RowM.frm {w w' : World} {base : Nat} {v : Value} {l : List Int} {S : List Nat} (h : RowM w base v l) (f : Frm w w' S) (hd : ∀ g ∈ FB v, g ∉ S) : RowM w' base v l := by
  refine ⟨h.1, ?_⟩
  rcases h.2 with h' | ⟨g, cap, cur, fz, rfl, h1, hg, h2⟩
  · exact .inl h'
  · have hlt : g < w.heap.size := (Array.getElem?_eq_some_iff.1 hg).1
    exact .inr ⟨g, cap, cur, fz, rfl, h1, (f.block g hlt (hd g (by simp [FB, Value.ownBlock]))).trans hg, h2⟩
theorem RowM.keep {w w' : World} {base : Nat} {v : Value} {l : List Int} (h : RowM w base v l) (hB : Below w.heap.size w w') : RowM w' base v l := h.frm (Frm.ofBelow hB []) (fun _ _ => by simp)
theorem RowM.rng {w : World} {base : Nat} {v : Value} {l : List Int} (h : RowM w base v l) : Rng (FB v) base w.heap.size := fun g hg => h.lt g (by simpa [FB] using hg)
theorem RowM.shape {w : World} {base : Nat} {v : Value} {l : List Int} (h : RowM w base v l) : ∃ a c, v = .slice a l.length c := by
  rcases h.2 with ⟨rfl, rfl⟩ | ⟨g, cap, cur, fz, rfl, _⟩
  · exact ⟨none, 0, rfl⟩
  · exact ⟨_, _, rfl⟩
theorem take_at {xs : List Value} {m : Nat} {ys : List Value} (h : xs.take m = ys) {i : Nat} (hi : i < m) : xs[i]? = ys[i]? := by
  rw [← h, List.getElem?_take, if_pos hi]
theorem RowM.byt {w : World} {base : Nat} {v : Value} {l : List Int} (h : RowM w base v l) : Byt w v l := by
  rcases h.2 with ⟨rfl, rfl⟩ | ⟨g, cap, cur, fz, rfl, hb, hg, hf, h1, h2, h3, h4⟩
  · exact ⟨h.1, by simp [maxLen], .inl ⟨rfl, rfl⟩⟩
  · refine ⟨h.1, by omega, ?_⟩
    by_cases h0 : l = []
    · subst h0
      exact .inr (.inl ⟨_, cap, rfl, h2, rfl⟩)
    · refine .inr (.inr ⟨g, 0, cap, rfl, h1, h2, h0, (Array.getElem?_eq_some_iff.1 hg).1, fun i hi => ?_⟩)
      rw [Nat.zero_add, cell_of_row w g i cur _ fz hg]
      have := take_at h4 hi
      rw [vals_at hi] at this
      simpa using this

end Go.Proofs.YthgopknjppflhaaGreatDoor

/- Places in blocks of their own; a name's block may bear a conversion's mark. No function of the program. -/
namespace Go.Proofs.YthgopknjppflhaaGreatDoor
open Go.RowKit
set_option linter.unusedVariables false
set_option maxRecDepth 100000

def OwPlM (w : World) (C : List Value) (p : PlV) (F : List Nat) : Prop := ∃ k n t a Fa, C = [.int .i64 p.idN, .int .i64 p.idR, .int .i64 p.parN, .int .i64 p.parR, k, .int .i64 p.kind, n, t, a] ∧ OwnZ w 0 k p.key ∧ RowM w 0 n p.name ∧ Own w 0 t p.text ∧ OwAttrs w a p.attrs Fa ∧ F = FB k ++ FB n ++ FB t ++ Fa
def OwPlsM (w : World) (v : Value) (l : List PlV) (F : List Nat) : Prop := OwElems w 54 9 v l (OwPlM w) F
theorem OwPlM.frm {w w' : World} {C : List Value} {p : PlV} {F S : List Nat} (h : OwPlM w C p F) (f : Frm w w' S) (hd : ∀ g ∈ F, g ∉ S) : OwPlM w' C p F := by
  obtain ⟨k, n, t, a, Fa, e, h1, h2, h3, h4, rfl⟩ := h
  exact ⟨k, n, t, a, Fa, e, ⟨h1.1, ownsRow_frm h1.2 f (fun g hg => hd g (by simp [hg]))⟩, h2.frm f (fun g hg => hd g (by simp [hg])), h3.frm f (fun g hg => hd g (by simp [hg])), OwAttrs.frm h4 f (fun g hg => hd g (by simp [hg])), rfl⟩
theorem OwPlsM.frm {w w' : World} {v : Value} {l : List PlV} {F S : List Nat} (h : OwPlsM w v l F) (f : Frm w w' S) (hd : ∀ g ∈ F, g ∉ S) : OwPlsM w' v l F := OwElems.frm h f hd (fun C x G hr hG => hr.frm f hG)
theorem OwPlM.rd {w : World} {C : List Value} {p : PlV} {F : List Nat} (h : OwPlM w C p F) : RdPlC w C p := by
  obtain ⟨k, n, t, a, Fa, e, h1, h2, h3, h4, _⟩ := h
  exact ⟨k, n, t, a, e, h1.ints, h2.byt, h3.byt, h4.rd⟩
theorem OwPlsM.rd {w : World} {v : Value} {l : List PlV} {F : List Nat} (h : OwPlsM w v l F) : RdPls w v l := OwElems.rd h (OwElems.len h) (fun C x G hr => hr.rd)
theorem OwPlM.lt {w : World} {C : List Value} {p : PlV} {F : List Nat} (h : OwPlM w C p F) : ∀ g ∈ F, g < w.heap.size := by
  obtain ⟨k, n, t, a, Fa, _, h1, h2, h3, h4, rfl⟩ := h
  intro g hg
  rcases List.mem_append.1 hg with hg | hg
  · rcases List.mem_append.1 hg with hg | hg
    · rcases List.mem_append.1 hg with hg | hg
      · exact (h1.lt g (by simpa [FB] using hg)).2
      · exact (h2.lt g (by simpa [FB] using hg)).2
    · exact (h3.lt g (by simpa [FB] using hg)).2
  · exact OwAttrs.lt h4 g hg
theorem OwPlsM.lt {w : World} {v : Value} {l : List PlV} {F : List Nat} (h : OwPlsM w v l F) : ∀ g ∈ F, g < w.heap.size := OwElems.lt h (fun _ _ _ hr => hr.lt)
theorem rowm_obj {w : World} {base : Nat} {v : Value} {l : List Int} (h : RowM w base v l) : ∀ g ∈ FB v, ∃ cs fz, w.heap[g]? = some (.cells cs 5 fz) := fun g hg => by
  rcases h.2 with ⟨rfl, _⟩ | ⟨g', cap, cur, fz, rfl, _, hh, _⟩
  · simp [FB, Value.ownBlock] at hg
  · have e : g = g' := by simpa [FB, Value.ownBlock, eq_comm] using hg
    subst e
    exact ⟨cur, fz, hh⟩
end Go.Proofs.YthgopknjppflhaaGreatDoor

/- The forest in memory: its places, its map, its set of void names. No function of the program. -/
namespace Go.Proofs.YthgopknjppflhaaGreatDoor
open Go.RowKit Go.Maps
set_option linter.unusedVariables false
set_option maxRecDepth 100000

/-- A block of cells of one of the kinds that a place's rows are of. -/
def CellT (w : World) (q : Nat) : Prop := ∃ cs T fz, w.heap[q]? = some (.cells cs T fz) ∧ (T = 54 ∨ T = 3 ∨ T = 5 ∨ T = 85)
theorem cellT_row {w : World} {b s n : Nat} {T : TypeId} {v : Value} {xs : List Value} (h : w.ownsRow b T s v n xs) (hT : T = 54 ∨ T = 3 ∨ T = 5 ∨ T = 85) : ∀ q ∈ FB v, CellT w q := fun q hq => by
  obtain ⟨cs, e⟩ := own_obj h (g := q) (by simpa [FB] using hq)
  exact ⟨cs, T, _, e, hT⟩
theorem cellT_elems {α : Type} {w : World} {e : TypeId} {size : Nat} {v : Value} {l : List α} {R : List Value → α → List Nat → Prop} {F : List Nat} (h : OwElems w e size v l R F) (he : e = 54 ∨ e = 3 ∨ e = 5 ∨ e = 85) (hR : ∀ C x G, R C x G → ∀ q ∈ G, CellT w q) : ∀ q ∈ F, CellT w q := by
  obtain ⟨Cs, Fs, e1, e2, e3, e4, rfl⟩ := h
  intro q hq
  rcases List.mem_append.1 hq with hq | hq
  · exact cellT_row e4 he q hq
  · obtain ⟨G, hG, hgG⟩ := List.mem_flatten.1 hq
    obtain ⟨i, hi, rfl⟩ := List.getElem_of_mem hG
    have := (e3 i (by omega)).2
    rw [show Fs.getD i [] = Fs[i] by simp [hi]] at this
    exact hR _ _ _ this q hgG
theorem OwAttrs.typ {w : World} {v : Value} {l : List (List Int × List Int)} {F : List Nat} (h : OwAttrs w v l F) : ∀ q ∈ F, CellT w q :=
  cellT_elems h (.inr (.inr (.inr rfl))) (fun C x G ⟨a, b, _, h1, h2, e⟩ q hq => by
    rw [e] at hq
    rcases List.mem_append.1 hq with hq | hq
    · exact cellT_row h1.2 (.inr (.inr (.inl rfl))) q hq
    · exact cellT_row h2.2 (.inr (.inr (.inl rfl))) q hq)
theorem OwPlM.typ {w : World} {C : List Value} {p : PlV} {F : List Nat} (h : OwPlM w C p F) : ∀ q ∈ F, CellT w q := by
  obtain ⟨k, n, t, a, Fa, _, h1, h2, h3, h4, rfl⟩ := h
  intro g hg
  rcases List.mem_append.1 hg with hg | hg
  · rcases List.mem_append.1 hg with hg | hg
    · rcases List.mem_append.1 hg with hg | hg
      · exact cellT_row h1.2 (.inr (.inl rfl)) g hg
      · obtain ⟨cs, fz, e⟩ := rowm_obj h2 g hg
        exact ⟨cs, _, fz, e, .inr (.inr (.inl rfl))⟩
    · exact cellT_row h3.2 (.inr (.inr (.inl rfl))) g hg
  · exact OwAttrs.typ h4 g hg
theorem OwPlsM.typ {w : World} {v : Value} {l : List PlV} {F : List Nat} (h : OwPlsM w v l F) : ∀ q ∈ F, CellT w q := cellT_elems h (.inl rfl) (fun _ _ _ hr => hr.typ)
theorem CellT.notMap {w : World} {q : Nat} (h : CellT w q) {es : Array MapEntry} {c : Nat} : w.heap[q]? ≠ some (.map es c) := by
  obtain ⟨cs, T, fz, e, _⟩ := h
  rw [e]
  intro h
  cases h
theorem CellT.notL {w : World} {q : Nat} (h : CellT w q) {cs : Array Value} {T : TypeId} (hT : T ≠ 54 ∧ T ≠ 3 ∧ T ≠ 5 ∧ T ≠ 85) : ¬ Loc w q cs T := by
  obtain ⟨cs', T', fz', e, h⟩ := h
  unfold Loc
  rw [e]
  intro h'
  injection h' with h'
  injection h' with _ h' _
  subst h'
  rcases h with h | h | h | h
  · exact hT.1 h
  · exact hT.2.1 h
  · exact hT.2.2.1 h
  · exact hT.2.2.2 h
/-- What may be written beside the forest's own: blocks of cells. -/
def Cells (w : World) (q : Nat) : Prop := ∃ cs T fz, w.heap[q]? = some (.cells cs T fz)
theorem Cells.ofL {w : World} {q : Nat} {cs : Array Value} {T : TypeId} (h : Loc w q cs T) : Cells w q := ⟨cs, T, _, h⟩
theorem CellT.cells {w : World} {q : Nat} (h : CellT w q) : Cells w q := by
  obtain ⟨cs, T, fz, e, _⟩ := h
  exact ⟨cs, T, fz, e⟩
theorem FSet.lt {B : Nat} {o p : Value} {w : World} {g : Nat} (h : FSet B o p w g) : g < w.heap.size := by
  rcases h with h | ⟨m, _, h, _⟩
  · exact h.lt
  · exact h.lt
theorem void_map : ∃ es c, voidMap = .map es c := ⟨_, _, rfl⟩
theorem FSet.frm {B : Nat} {o p : Value} {w w' : World} {g : Nat} {S : List Nat} (h : FSet B o p w g) (f : Frm w w' S) (hg : g ∉ S) (hS : ∀ q ∈ S, q < B ∨ Cells w q) : FSet B o p w' g := by
  rcases h with h | ⟨m, hm, h, hv⟩
  · exact .inl (h.frm f hg)
  · have hlt : m < w.heap.size := by
      by_cases e : m < w.heap.size
      · exact e
      · rw [Array.getElem?_eq_none (by omega)] at hv; cases hv
    refine .inr ⟨m, hm, h.frm f hg, (f.block m hlt (fun e => ?_)).trans hv⟩
    rcases hS m e with e' | ⟨cs, T, fz, e'⟩
    · omega
    · obtain ⟨es, c, ev⟩ := void_map
      rw [hv, ev] at e'
      cases e'
theorem FSet.loc {B : Nat} {o p : Value} {w : World} {g : Nat} (h : FSet B o p w g) : ∃ cs, Loc w g cs 105 ∧ cs[0]? = some o ∧ cs[1]? = some p := by
  rcases h with h | ⟨m, _, h, _⟩
  · exact ⟨_, h, rfl, rfl⟩
  · exact ⟨_, h, rfl, rfl⟩
/-- The forest. -/
structure FoS (B : Nat) (w : World) (g mb : Nat) (a : Option Addr) (c : Nat) (l : List PlV) (F : List Nat) : Prop where
  set : FSet (mb + 1) (.slice a l.length c) (.map (some mb)) w g
  map : AtM w mb l
  row : OwPlsM w (.slice a l.length c) l F
  nd : F.Nodup
  ge : ∀ q ∈ F, B ≤ q
  geg : B ≤ g
  gem : B ≤ mb
  ids : ∀ p ∈ l, okI p.id ∧ okI p.par
  len : l.length ≤ 100000
theorem FoS.gF {B : Nat} {w : World} {g mb : Nat} {a : Option Addr} {c : Nat} {l : List PlV} {F : List Nat} (h : FoS B w g mb a c l F) : g ∉ F := fun hg => by
  obtain ⟨cs, hl, _⟩ := h.set.loc
  exact (OwPlsM.typ h.row g hg).notL (by decide) hl
theorem FoS.mF {B : Nat} {w : World} {g mb : Nat} {a : Option Addr} {c : Nat} {l : List PlV} {F : List Nat} (h : FoS B w g mb a c l F) : mb ∉ F := fun hg => by
  obtain ⟨es, k, e⟩ := h.map.isMap
  exact (OwPlsM.typ h.row mb hg).notMap e
theorem FoS.gm {B : Nat} {w : World} {g mb : Nat} {a : Option Addr} {c : Nat} {l : List PlV} {F : List Nat} (h : FoS B w g mb a c l F) : g ≠ mb := fun e => by
  obtain ⟨es, k, e'⟩ := h.map.isMap
  obtain ⟨cs, hl, _⟩ := h.set.loc
  unfold Loc at hl
  rw [e, e'] at hl
  cases hl
theorem FoS.frm {B : Nat} {w w' : World} {g mb : Nat} {a : Option Addr} {c : Nat} {l : List PlV} {F S : List Nat} (h : FoS B w g mb a c l F) (f : Frm w w' S) (hg : g ∉ S) (hm : mb ∉ S) (hF : ∀ q ∈ F, q ∉ S) (hS : ∀ q ∈ S, Cells w q) : FoS B w' g mb a c l F :=
  ⟨h.set.frm f hg (fun q hq => .inr (hS q hq)), h.map.frm f hm, h.row.frm f hF, h.nd, h.ge, h.geg, h.gem, h.ids, h.len⟩
theorem FoS.keep {B : Nat} {w w' : World} {g mb : Nat} {a : Option Addr} {c : Nat} {l : List PlV} {F : List Nat} (h : FoS B w g mb a c l F) (hb : Below w.heap.size w w') : FoS B w' g mb a c l F := h.frm (Frm.ofBelow hb []) (by simp) (by simp) (fun _ _ => by simp) (fun q hq => by cases hq)
/-- A box of a caller's is no part of the forest. -/
theorem FoS.box {B : Nat} {w : World} {g mb : Nat} {a : Option Addr} {c : Nat} {l : List PlV} {F : List Nat} (h : FoS B w g mb a c l F) {q : Nat} {cs : Array Value} {T : TypeId} (k : Loc w q cs T) (hT : T ≠ 54 ∧ T ≠ 3 ∧ T ≠ 5 ∧ T ≠ 85) (hT' : T ≠ 105) : q ∉ g :: mb :: F := fun hq => by
  rcases List.mem_cons.1 hq with rfl | hq
  · obtain ⟨cs', hl, _⟩ := h.set.loc
    unfold Loc at hl k
    rw [hl] at k
    injection k with k
    injection k with _ k
    exact hT' k.symm
  · rcases List.mem_cons.1 hq with rfl | hq
    · obtain ⟨es, k', e'⟩ := h.map.isMap
      unfold Loc at k
      rw [e'] at k
      cases k
    · exact (OwPlsM.typ h.row q hq).notL hT k
end Go.Proofs.YthgopknjppflhaaGreatDoor

/- The forest in memory, its places' rows being a caller's. No function of the program. -/
namespace Go.Proofs.YthgopknjppflhaaGreatDoor
open Go.RowKit Go.Maps
set_option linter.unusedVariables false
set_option maxRecDepth 100000

/-- A place whose rows are old ones: they read so in w0. -/
def PlQ (w0 w : World) (C : List Value) (p : PlV) (F : List Nat) : Prop := RdPlC w0 C p ∧ F = []
def PlsQ (w0 w : World) (v : Value) (l : List PlV) (F : List Nat) : Prop := OwElems w 54 9 v l (PlQ w0 w) F
theorem PlQ.frm {w0 w w' : World} {C : List Value} {p : PlV} {F S : List Nat} (h : PlQ w0 w C p F) (f : Frm w w' S) (hd : ∀ g ∈ F, g ∉ S) : PlQ w0 w' C p F := h
theorem PlsQ.frm {w0 w w' : World} {v : Value} {l : List PlV} {F S : List Nat} (h : PlsQ w0 w v l F) (f : Frm w w' S) (hd : ∀ g ∈ F, g ∉ S) : PlsQ w0 w' v l F := OwElems.frm h f hd (fun C x G hr hG => hr)
theorem PlQ.lt {w0 w : World} {C : List Value} {p : PlV} {F : List Nat} (h : PlQ w0 w C p F) : ∀ g ∈ F, g < w.heap.size := fun g hg => by rw [h.2] at hg; cases hg
theorem PlsQ.lt {w0 w : World} {v : Value} {l : List PlV} {F : List Nat} (h : PlsQ w0 w v l F) : ∀ g ∈ F, g < w.heap.size := OwElems.lt h (fun _ _ _ hr => hr.lt)
theorem PlQ.typ {w0 w : World} {C : List Value} {p : PlV} {F : List Nat} (h : PlQ w0 w C p F) : ∀ q ∈ F, CellT w q := fun g hg => by rw [h.2] at hg; cases hg
theorem PlsQ.typ {w0 w : World} {v : Value} {l : List PlV} {F : List Nat} (h : PlsQ w0 w v l F) : ∀ q ∈ F, CellT w q := cellT_elems h (.inl rfl) (fun _ _ _ hr => hr.typ)
/-- The forest. -/
structure FoQ (w0 w : World) (g mb : Nat) (a : Option Addr) (c : Nat) (l : List PlV) (F : List Nat) : Prop where
  set : FSet (mb + 1) (.slice a l.length c) (.map (some mb)) w g
  map : AtM w mb l
  row : PlsQ w0 w (.slice a l.length c) l F
  nd : F.Nodup
  ge : ∀ q ∈ F, w0.heap.size ≤ q
  geg : w0.heap.size ≤ g
  gem : w0.heap.size ≤ mb
  ids : ∀ p ∈ l, okI p.id ∧ okI p.par
  len : l.length ≤ 100000
theorem FoQ.gF {w0 : World} {w : World} {g mb : Nat} {a : Option Addr} {c : Nat} {l : List PlV} {F : List Nat} (h : FoQ w0 w g mb a c l F) : g ∉ F := fun hg => by
  obtain ⟨cs, hl, _⟩ := h.set.loc
  exact (PlsQ.typ h.row g hg).notL (by decide) hl
theorem FoQ.mF {w0 : World} {w : World} {g mb : Nat} {a : Option Addr} {c : Nat} {l : List PlV} {F : List Nat} (h : FoQ w0 w g mb a c l F) : mb ∉ F := fun hg => by
  obtain ⟨es, k, e⟩ := h.map.isMap
  exact (PlsQ.typ h.row mb hg).notMap e
theorem FoQ.gm {w0 : World} {w : World} {g mb : Nat} {a : Option Addr} {c : Nat} {l : List PlV} {F : List Nat} (h : FoQ w0 w g mb a c l F) : g ≠ mb := fun e => by
  obtain ⟨es, k, e'⟩ := h.map.isMap
  obtain ⟨cs, hl, _⟩ := h.set.loc
  unfold Loc at hl
  rw [e, e'] at hl
  cases hl
theorem FoQ.frm {w0 : World} {w w' : World} {g mb : Nat} {a : Option Addr} {c : Nat} {l : List PlV} {F S : List Nat} (h : FoQ w0 w g mb a c l F) (f : Frm w w' S) (hg : g ∉ S) (hm : mb ∉ S) (hF : ∀ q ∈ F, q ∉ S) (hS : ∀ q ∈ S, Cells w q) : FoQ w0 w' g mb a c l F :=
  ⟨h.set.frm f hg (fun q hq => .inr (hS q hq)), h.map.frm f hm, h.row.frm f hF, h.nd, h.ge, h.geg, h.gem, h.ids, h.len⟩
theorem FoQ.keep {w0 : World} {w w' : World} {g mb : Nat} {a : Option Addr} {c : Nat} {l : List PlV} {F : List Nat} (h : FoQ w0 w g mb a c l F) (hb : Below w.heap.size w w') : FoQ w0 w' g mb a c l F := h.frm (Frm.ofBelow hb []) (by simp) (by simp) (fun _ _ => by simp) (fun q hq => by cases hq)
/-- A box of a caller's is no part of the forest. -/
theorem FoQ.box {w0 : World} {w : World} {g mb : Nat} {a : Option Addr} {c : Nat} {l : List PlV} {F : List Nat} (h : FoQ w0 w g mb a c l F) {q : Nat} {cs : Array Value} {T : TypeId} (k : Loc w q cs T) (hT : T ≠ 54 ∧ T ≠ 3 ∧ T ≠ 5 ∧ T ≠ 85) (hT' : T ≠ 105) : q ∉ g :: mb :: F := fun hq => by
  rcases List.mem_cons.1 hq with rfl | hq
  · obtain ⟨cs', hl, _⟩ := h.set.loc
    unfold Loc at hl k
    rw [hl] at k
    injection k with k
    injection k with _ k
    exact hT' k.symm
  · rcases List.mem_cons.1 hq with rfl | hq
    · obtain ⟨es, k', e'⟩ := h.map.isMap
      unfold Loc at k
      rw [e'] at k
      cases k
    · exact (PlsQ.typ h.row q hq).notL hT k
end Go.Proofs.YthgopknjppflhaaGreatDoor

/- Rows of places as the library's sort sees them. No function of the program. -/
namespace Go.Proofs.YthgopknjppflhaaGreatDoor
open Go.RowKit
set_option linter.unusedVariables false
set_option maxRecDepth 100000

/-- A place with its nine cells, readable in w0. -/
def KdE (w0 : World) : Type := {x : PlV × List Value // RdPlC w0 x.2 x.1}
def KdE.mk {w0 : World} (p : PlV) (C : List Value) (h : RdPlC w0 C p) : KdE w0 := ⟨(p, C), h⟩
def KdE.enc {w0 : World} (x : KdE w0) : List Value := x.1.2
def KdE.pl {w0 : World} (x : KdE w0) : PlV := x.1.1
theorem RdPlC.nine {w : World} {C : List Value} {p : PlV} (h : RdPlC w C p) : C.length = 9 := by
  obtain ⟨k, n, t, a, rfl, _⟩ := h
  rfl
theorem RdPlC.ones {w : World} {C : List Value} {p : PlV} (h : RdPlC w C p) : ∀ v ∈ C, v.oneCell' = true := by
  obtain ⟨k, n, t, a, rfl, h1, h2, h3, h4⟩ := h
  obtain ⟨a1, c1, rfl, _, _⟩ := h1.shape
  obtain ⟨a2, c2, rfl, _, _⟩ := h2.shape
  obtain ⟨a3, c3, rfl, _, _⟩ := h3.shape
  obtain ⟨a4, c4, rfl, _, _⟩ := Elems.shape h4
  intro v hv
  simp only [List.mem_cons, List.not_mem_nil, or_false] at hv
  rcases hv with rfl | rfl | rfl | rfl | rfl | rfl | rfl | rfl | rfl <;> rfl
theorem KdE.nine {w0 : World} (x : KdE w0) : x.enc.length = 9 := x.2.nine
def cmpE {w0 : World} (x y : KdE w0) : Int := cmpP x.pl y.pl
theorem ltE {w0 : World} (x y : KdE w0) : ltOf cmpE x y = aheadB x.pl y.pl := cmpP_lt _ _
theorem swoE (w0 : World) : Go.Sort.SWO (ltOf (cmpE (w0 := w0))) where
  irrefl x := by rw [ltE]; exact ahead_irr _
  trans x y z h1 h2 := by rw [ltE] at *; exact ahead_trans h1 h2
  ntrans x y z h1 h2 := by rw [ltE] at *; exact ahead_ntrans h1 h2
/-- The sort's worlds. -/
theorem sortK_frm {w0 w : World} [Inhabited (KdE w0)] {g m : Nat} (d : Array (KdE w0)) (os : Array Obj) : Frm w (sortWorldK KdE.enc 9 w g 0 m d os) [g] := by
  refine ⟨rfl, rfl, rfl, size_sortWorldK_c _ _ _ _ _ _ _ _, fun i hi hn => ?_⟩
  have hig : g ≠ i := fun e => hn (by rw [e]; simp)
  unfold sortWorldK Go.Sort.grow
  have hsz : i < (Go.Sort.putRowK (KdE.enc (w0 := w0)) 9 (Go.Sort.ahead w m) g 0 d).heap.size := by rw [Go.Sort.size_putRowK]; exact hi
  show ((Go.Sort.putRowK KdE.enc 9 (Go.Sort.ahead w m) g 0 d).heap ++ os)[i]? = _
  rw [Array.getElem?_append_left hsz]
  simp [Go.Sort.putRowK, Go.Sort.putRow, Go.Sort.mapBlock, Go.Sort.ahead, Array.getElem?_modify, hig]
theorem flatE {w0 : World} [Inhabited (KdE w0)] (d : Array (KdE w0)) : (Go.Sort.flatK KdE.enc 9 d).toList = (d.toList.map KdE.enc).flatten := by
  have hC : ∀ i, i < (d.toList.map KdE.enc).length → ((d.toList.map (KdE.enc (w0 := w0))).getD i []).length = 9 := fun i hi => by
    have hi' : i < d.size := by simpa using hi
    simp [hi', KdE.nine]
  have hl : ∀ L : List (List Value), (∀ i, i < L.length → (L.getD i []).length = 9) → L.flatten.length = L.length * 9 := by
    intro L
    induction L with
    | nil => intro _; rfl
    | cons a L ih =>
      intro h
      have h0 := h 0 (by simp)
      simp only [List.getD_cons_zero] at h0
      rw [List.flatten_cons, List.length_append, h0, ih (fun i hi => by have := h (i + 1) (by simpa using hi); simpa using this), List.length_cons]
      omega
  apply List.ext_getElem?
  intro t
  by_cases ht : t < d.size * 9
  · have h9 : t / 9 < d.size := by omega
    have e := flat_at (d.toList.map KdE.enc) 9 hC (t / 9) (t % 9) (by simpa using h9) (by omega)
    rw [show t / 9 * 9 + t % 9 = t by omega] at e
    rw [e]
    have hg := Go.Sort.get_flatK (KdE.enc (w0 := w0)) 9 d t ht
    have hs : t < (Go.Sort.flatK (KdE.enc (w0 := w0)) 9 d).size := by rw [Go.Sort.size_flatK]; exact ht
    rw [Array.getElem?_toList, Array.getElem?_eq_getElem hs]
    rw [getElem!_pos _ t hs] at hg
    rw [hg]
    have hn := KdE.nine d[t / 9]
    have hm : t % 9 < d[t / 9].enc.length := by rw [hn]; omega
    simp [h9, getElem!_pos, hm]
  · rw [List.getElem?_eq_none (by simp; omega), List.getElem?_eq_none (by rw [hl _ hC]; simp; omega)]
theorem ownsRow_sortK {w0 w : World} [Inhabited (KdE w0)] {e : TypeId} {g n cap m : Nat} {xs : List Value} (h : w.ownsRow 0 e 9 (.slice (some ⟨g, 0, none⟩) n cap) n xs) (d : Array (KdE w0)) (hd : d.size = n) (os : Array Obj) :
    (sortWorldK KdE.enc 9 w g 0 m d os).ownsRow 0 e 9 (.slice (some ⟨g, 0, none⟩) n cap) n (d.toList.map KdE.enc).flatten := by
  rcases h.2 with ⟨e0, _⟩ | ⟨g', cap', cur, e0, hb, hg, hn, hm, hs, ht⟩
  · cases e0
  · injection e0 with e1 _ e3
    injection e1 with e1
    injection e1 with e1
    subst e1; subst e3
    have hlt : g < w.heap.size := by
      rcases Nat.lt_or_ge g w.heap.size with h' | h'
      · exact h'
      · rw [Array.getElem?_eq_none h'] at hg; cases hg
    refine ⟨by rw [← flatE]; simp [hd], .inr ⟨g, cap, Go.Sort.putCells id 0 (Go.Sort.flatK KdE.enc 9 d) cur, rfl, hb, ?_, by omega, hm, by simpa [Go.Sort.putCells] using hs, ?_⟩⟩
    · unfold sortWorldK Go.Sort.grow
      have hsz : g < (Go.Sort.putRowK (KdE.enc (w0 := w0)) 9 (Go.Sort.ahead w m) g 0 d).heap.size := by rw [Go.Sort.size_putRowK]; exact hlt
      show ((Go.Sort.putRowK KdE.enc 9 (Go.Sort.ahead w m) g 0 d).heap ++ os)[g]? = _
      rw [Array.getElem?_append_left hsz]
      simp [Go.Sort.putRowK, Go.Sort.putRow, Go.Sort.mapBlock, Go.Sort.ahead, Array.getElem?_modify, hg, Go.Sort.onCells]
    · rw [← flatE]
      apply List.ext_getElem?
      intro j
      have hcap : n * 9 ≤ cap * 9 := Nat.mul_le_mul_right 9 hn
      rw [List.getElem?_take, Array.getElem?_toList, Array.getElem?_toList]
      by_cases hj : j < n * 9
      · have hjc : j < cur.size := by omega
        have hjf : j < (Go.Sort.flatK (KdE.enc (w0 := w0)) 9 d).size := by rw [Go.Sort.size_flatK, hd]; exact hj
        rw [if_pos hj]
        simp only [Go.Sort.putCells, Array.getElem?_mapIdx, Array.getElem?_eq_getElem hjc, Option.map_some, Nat.zero_add, Nat.sub_zero, id]
        rw [if_pos ⟨Nat.zero_le _, hjf⟩, getElem!_pos _ j hjf, Array.getElem?_eq_getElem hjf]
      · rw [if_neg hj, Array.getElem?_eq_none (by rw [Go.Sort.size_flatK, hd]; omega)]
/-- A row of places as the sort's. -/
theorem PlsQ.row {w0 w : World} {g c : Nat} {l : List PlV} {F : List Nat} (h : PlsQ w0 w (.slice (some ⟨g, 0, none⟩) l.length c) l F) : ∃ d : List (KdE w0), d.map KdE.pl = l ∧ w.ownsRow 0 54 9 (.slice (some ⟨g, 0, none⟩) l.length c) l.length (d.map KdE.enc).flatten ∧ F = [g] := by
  obtain ⟨Cs, Fs, h1, h2, h3, h4, h5⟩ := h
  have hF : Fs.flatten = [] := by
    rw [List.flatten_eq_nil_iff]
    intro G hG
    obtain ⟨i, hi, rfl⟩ := List.getElem_of_mem hG
    have := (h3 i (by omega)).2.2
    simpa [hi] using this
  have hC : ∀ i (hi : i < l.length), RdPlC w0 (Cs.getD i []) l[i] := fun i hi => (h3 i hi).2.1
  refine ⟨List.ofFn (fun i : Fin l.length => KdE.mk l[i.1] (Cs.getD i.1 []) (hC i.1 i.2)), ?_, ?_, by rw [h5, hF]; rfl⟩
  · apply List.ext_getElem
    · rw [List.length_map, List.length_ofFn]
    · intro i hi hi'
      rw [List.getElem_map, List.getElem_ofFn]
      rfl
  · have e : (List.ofFn (fun i : Fin l.length => KdE.mk l[i.1] (Cs.getD i.1 []) (hC i.1 i.2))).map KdE.enc = Cs := by
      apply List.ext_getElem
      · rw [List.length_map, List.length_ofFn, h1]
      · intro i hi hi'
        rw [List.getElem_map, List.getElem_ofFn]
        show Cs.getD i [] = _
        simp [hi']
    rw [e]
    exact h4
theorem row_PlsQ {w0 w : World} {g c : Nat} {d : List (KdE w0)} (h : w.ownsRow 0 54 9 (.slice (some ⟨g, 0, none⟩) d.length c) d.length (d.map KdE.enc).flatten) : PlsQ w0 w (.slice (some ⟨g, 0, none⟩) (d.map KdE.pl).length c) (d.map KdE.pl) [g] := by
  refine ⟨d.map KdE.enc, List.replicate d.length [], by simp, by simp, fun i hi => ?_, by simpa using h, ?_⟩
  · have hi' : i < d.length := by simpa using hi
    have hr : (List.replicate d.length ([] : List Nat)).getD i [] = [] := by simp [hi']
    rw [hr]
    have hc : (d.map KdE.enc).getD i [] = d[i].enc := by simp [hi']
    rw [hc]
    refine ⟨KdE.nine _, ?_, rfl⟩
    simp only [List.getElem_map]
    exact d[i].2
  · simp [FB, Value.ownBlock]
theorem PlsQ.holds {w0 w : World} [Inhabited (KdE w0)] {g c n : Nat} {d : List (KdE w0)} {e : TypeId} (h : w.ownsRow 0 e 9 (.slice (some ⟨g, 0, none⟩) n c) n (d.map KdE.enc).flatten) (hn : d.length = n) : Go.Sort.HoldsK KdE.enc 9 w g 0 d.toArray := by
  intro j hj
  rw [Go.Sort.size_flatK] at hj
  have hj' : j < n * 9 := by simpa [hn] using hj
  refine ⟨?_, ?_⟩
  · rw [Nat.zero_add, h.cellAt j hj', show (d.map (KdE.enc (w0 := w0))) = (d.toArray.toList.map KdE.enc) from rfl, ← flatE]
    have hs : j < (Go.Sort.flatK (KdE.enc (w0 := w0)) 9 d.toArray).size := by rw [Go.Sort.size_flatK]; exact hj
    rw [Array.getElem?_toList, Array.getElem?_eq_getElem hs, getElem!_pos _ j hs]
    rfl
  · rw [Nat.zero_add]
    exact h.frozenAt j
end Go.Proofs.YthgopknjppflhaaGreatDoor

/- Operations in blocks of their own. -/
namespace Go.Proofs.YthgopknjppflhaaGreatDoor
open Go.RowKit
set_option linter.unusedVariables false
set_option maxRecDepth 100000

theorem Loc.twelve {w : World} {g : Nat} {v0 v1 v2 v3 v4 v5 v6 v7 v8 v9 v10 v11 : Value} {T : TypeId} (h : Loc w g #[v0, v1, v2, v3, v4, v5, v6, v7, v8, v9, v10, v11] T) :
    w.cell? ⟨g, 0, none⟩ = some v0 ∧ w.cell? ⟨g, 1, none⟩ = some v1 ∧ w.cell? ⟨g, 2, none⟩ = some v2 ∧ w.cell? ⟨g, 3, none⟩ = some v3 ∧ w.cell? ⟨g, 4, none⟩ = some v4 ∧ w.cell? ⟨g, 5, none⟩ = some v5 ∧ w.cell? ⟨g, 6, none⟩ = some v6 ∧ w.cell? ⟨g, 7, none⟩ = some v7 ∧ w.cell? ⟨g, 8, none⟩ = some v8 ∧ w.cell? ⟨g, 9, none⟩ = some v9 ∧ w.cell? ⟨g, 10, none⟩ = some v10 ∧ w.cell? ⟨g, 11, none⟩ = some v11 :=
  ⟨h.cell 0, h.cell 1, h.cell 2, h.cell 3, h.cell 4, h.cell 5, h.cell 6, h.cell 7, h.cell 8, h.cell 9, h.cell 10, h.cell 11⟩

theorem RdOp.keep {w w' : World} {v : Value} {o : OpV} (h : RdOp w v o) (hb : Below w.heap.size w w') : RdOp w' v o := by
  obtain ⟨k, n, t, rfl, h1, h2, h3⟩ := h
  exact ⟨k, n, t, rfl, h1.keep hb, h2.keep hb, h3.keep hb⟩
/-- An operation in blocks of its own, from 'base' on. -/
def OwOp (w : World) (base : Nat) (o : OpV) (k n t : Value) : Prop := OwnZ w base k o.key ∧ Own w base n o.name ∧ Own w base t o.text ∧ (FB k ++ FB n ++ FB t).Nodup
theorem OwOp.keep {w w' : World} {base : Nat} {o : OpV} {k n t : Value} (h : OwOp w base o k n t) (hb : Below w.heap.size w w') : OwOp w' base o k n t := ⟨h.1.keep hb, h.2.1.keep hb, h.2.2.1.keep hb, h.2.2.2⟩
theorem OwOp.rd {w : World} {base : Nat} {o : OpV} {k n t : Value} (h : OwOp w base o k n t) : RdOp w (opVal o k n t) o := ⟨k, n, t, rfl, h.1.ints, h.2.1.byt, h.2.2.1.byt⟩

end Go.Proofs.YthgopknjppflhaaGreatDoor

/- Small laws of the walk. No program. -/
namespace Go.Proofs.YthgopknjppflhaaGreatDoor
open Go.RowKit
set_option linter.unusedVariables false

theorem calls_via {P : Program} {f : FuncId} {args : Array Value} {w : World} {R : Ending → World → Prop} (h : ∀ Q : Ending → World → Prop, Hid (∀ e w', R e w' → Q e w') → Calls P f args w Q) : Calls P f args w R := h R (hide fun _ _ h => h)
end Go.Proofs.YthgopknjppflhaaGreatDoor

/- The forest's kidsOf: what its closure tells of two places. -/
namespace Go.Proofs.YthgopknjppflhaaGreatDoor
open Go.RowKit
set_option linter.unusedVariables false
set_option maxRecDepth 100000

/-- Blocks laid behind, draws told: nothing else. -/
def Gw (w w' : World) : Prop := ∃ n os, w' = Go.Sort.grow (w.drewN n) os
theorem Gw.refl (w : World) : Gw w w := ⟨0, #[], by rw [Go.Sort.grow_empty]; rfl⟩
theorem Gw.alloc {w w' : World} (h : Gw w w') (o : Obj) : Gw w (w'.alloc o) := by
  obtain ⟨n, os, rfl⟩ := h
  exact ⟨n, os ++ #[o], by rw [Go.Sort.alloc_eq_grow, Go.Sort.grow_grow]⟩
theorem Gw.drew {w w' : World} (h : Gw w w') : Gw w w'.drew := by
  obtain ⟨n, os, rfl⟩ := h
  exact ⟨n + 1, os, rfl⟩
set_option maxHeartbeats 3200000 in
theorem kidCmp_any (w : World) (p q : PlV) (k1 n1 t1 a1 k2 n2 t2 a2 : Option Addr) (ck1 cn1 ct1 ca1 ck2 cn2 ct2 ca2 : Nat) (h1 : Ints w (.slice k1 p.key.length ck1) p.key) (h2 : Ints w (.slice k2 q.key.length ck2) q.key) :
    Calls Tryz.prog 79 #[.agg #[.int .i64 p.idN, .int .i64 p.idR, .int .i64 p.parN, .int .i64 p.parR, .slice k1 p.key.length ck1, .int .i64 p.kind, .slice n1 p.name.length cn1, .slice t1 p.text.length ct1, .slice a1 p.attrs.length ca1], .agg #[.int .i64 q.idN, .int .i64 q.idR, .int .i64 q.parN, .int .i64 q.parR, .slice k2 q.key.length ck2, .int .i64 q.kind, .slice n2 q.name.length cn2, .slice t2 q.text.length ct2, .slice a2 q.attrs.length ca2]] w fun e w' => e = .returned (.int .i64 (cmpP p q)) ∧ Gw w w' := by
  refine calls_via ?_
  intro Q HQ
  have hA : Below w.heap.size w ((w.alloc (.cells #[.int .i64 p.idN, .int .i64 p.idR, .int .i64 p.parN, .int .i64 p.parR, .slice k1 p.key.length ck1, .int .i64 p.kind, .slice n1 p.name.length cn1, .slice t1 p.text.length ct1, .slice a1 p.attrs.length ca1] 54)).alloc (.cells #[.int .i64 q.idN, .int .i64 q.idR, .int .i64 q.parN, .int .i64 q.parR, .slice k2 q.key.length ck2, .int .i64 q.kind, .slice n2 q.name.length cn2, .slice t2 q.text.length ct2, .slice a2 q.attrs.length ca2] 54)) := bstep ((Below.refl _ _).alloc (Nat.le_refl _) _) ((Below.refl _ _).alloc (Nat.le_refl _) _)
  have l0 := (Loc.made w #[.int .i64 p.idN, .int .i64 p.idR, .int .i64 p.parN, .int .i64 p.parR, .slice k1 p.key.length ck1, .int .i64 p.kind, .slice n1 p.name.length cn1, .slice t1 p.text.length ct1, .slice a1 p.attrs.length ca1] 54).alloc (.cells #[.int .i64 q.idN, .int .i64 q.idR, .int .i64 q.parN, .int .i64 q.parR, .slice k2 q.key.length ck2, .int .i64 q.kind, .slice n2 q.name.length cn2, .slice t2 q.text.length ct2, .slice a2 q.attrs.length ca2] 54)
  have l1 := Loc.made (w.alloc (.cells #[.int .i64 p.idN, .int .i64 p.idR, .int .i64 p.parN, .int .i64 p.parR, .slice k1 p.key.length ck1, .int .i64 p.kind, .slice n1 p.name.length cn1, .slice t1 p.text.length ct1, .slice a1 p.attrs.length ca1] 54)) #[.int .i64 q.idN, .int .i64 q.idR, .int .i64 q.parN, .int .i64 q.parR, .slice k2 q.key.length ck2, .int .i64 q.kind, .slice n2 q.name.length cn2, .slice t2 q.text.length ct2, .slice a2 q.attrs.length ca2] 54
  simp only [World.size_alloc] at l1
  have HK := hide (fun W (hW : Below w.heap.size w W) => cmpK_any W _ _ p.key q.key (h1.keep hW) (h2.keep hW))
  have hv : cmpP p q = if cmpK p.key q.key = 0 then ordI p.idN p.idR q.idN q.idR else cmpK p.key q.key := rfl
  rw [hv] at HQ
  have hG : Gw w ((w.alloc (.cells #[.int .i64 p.idN, .int .i64 p.idR, .int .i64 p.parN, .int .i64 p.parR, .slice k1 p.key.length ck1, .int .i64 p.kind, .slice n1 p.name.length cn1, .slice t1 p.text.length ct1, .slice a1 p.attrs.length ca1] 54)).alloc (.cells #[.int .i64 q.idN, .int .i64 q.idR, .int .i64 q.parN, .int .i64 q.parR, .slice k2 q.key.length ck2, .int .i64 q.kind, .slice n2 q.name.length cn2, .slice t2 q.text.length ct2, .slice a2 q.attrs.length ca2] 54)) := ((Gw.refl w).alloc _).alloc _
  have HA := hide (And.intro hA (And.intro hG (And.intro l0 l1)))
  clear h1 h2 hA l0 l1 hv hG
  generalize cmpK p.key q.key = z at *
  have HO := hide (fun W b c c0 c1 => cmpOr_any W b c z (ordI p.idN p.idR q.idN q.idR) c0 c1)
  generalize (if z = 0 then ordI p.idN p.idR q.idN q.idR else z) = r at *
  go_enter Tryz.func79, Tryz.ntmps79
  go_wp2_with fail
  obtain ⟨hA, hG, l0, l1⟩ := unhide HA
  clear HA
  generalize ((w.alloc (.cells #[.int .i64 p.idN, .int .i64 p.idR, .int .i64 p.parN, .int .i64 p.parR, .slice k1 p.key.length ck1, .int .i64 p.kind, .slice n1 p.name.length cn1, .slice t1 p.text.length ct1, .slice a1 p.attrs.length ca1] 54)).alloc (.cells #[.int .i64 q.idN, .int .i64 q.idR, .int .i64 q.parN, .int .i64 q.parR, .slice k2 q.key.length ck2, .int .i64 q.kind, .slice n2 q.name.length cn2, .slice t2 q.text.length ct2, .slice a2 q.attrs.length ca2] 54)) = w1 at *
  have x0 := l0.cell 0
  have x1 := l0.cell 1
  have x4 := l0.cell 4
  have y0 := l1.cell 0
  have y1 := l1.cell 1
  have y4 := l1.cell 4
  simp at x0 x1 x4 y0 y1 y4
  have HG := hide (And.intro hA hG)
  have hlt0 := l0.lt
  have hlt1 := l1.lt
  clear hA hG l0 l1
  have hi : ∀ (W : World), Below w1.heap.size w1 W → Gw w W → Calls Tryz.prog 82 #[.agg #[.int .i64 p.idN, .int .i64 p.idR], .agg #[.int .i64 q.idN, .int .i64 q.idR]] W fun e w' => e = .returned (.int .i64 (ordI p.idN p.idR q.idN q.idR)) ∧ Below w1.heap.size w1 w' ∧ Gw w w' := fun W hW gW =>
    (idOrderX_any W p.idN p.idR q.idN q.idR).mono fun e w' ⟨h1, h2⟩ => ⟨h1, by rw [h2]; exact (hW.alloc hW.size _).alloc (by have := hW.size; simp; omega) _, by rw [h2]; exact (gW.alloc _).alloc _⟩
  have HI := hide hi
  clear hi
  go_region_held3 (fun w' => w'.cell? ⟨w.heap.size, 0, none⟩ = some (.int .i64 p.idN) ∧ w'.cell? ⟨w.heap.size, 1, none⟩ = some (.int .i64 p.idR) ∧ w'.cell? ⟨w.heap.size, 4, none⟩ = some (.slice k1 p.key.length ck1) ∧ w'.cell? ⟨w.heap.size + 1, 0, none⟩ = some (.int .i64 q.idN) ∧ w'.cell? ⟨w.heap.size + 1, 1, none⟩ = some (.int .i64 q.idR) ∧ w'.cell? ⟨w.heap.size + 1, 4, none⟩ = some (.slice k2 q.key.length ck2))
    (first | exact ⟨by assumption, by assumption, by assumption, by assumption, by assumption, by assumption⟩ | exact ⟨by simp [*], by simp [*], by simp [*], by simp [*], by simp [*], by simp [*]⟩ | exact ⟨(World.cell?_alloc_lt _ _ _ (by assumption)).trans (by assumption), (World.cell?_alloc_lt _ _ _ (by assumption)).trans (by assumption), (World.cell?_alloc_lt _ _ _ (by assumption)).trans (by assumption), (World.cell?_alloc_lt _ _ _ (by assumption)).trans (by assumption), (World.cell?_alloc_lt _ _ _ (by assumption)).trans (by assumption), (World.cell?_alloc_lt _ _ _ (by assumption)).trans (by assumption)⟩)
    (first
      | (go_at_call 81; refine (unhide HK _ ((unhide HG).1.drew)).mono ?_; rintro e w2 ⟨rfl, rfl⟩)
      | (go_at_call 82; refine (unhide HI _ ((Below.refl _ _).drew) ((unhide HG).2.drew)).mono ?_; rintro e w3 ⟨rfl, hE, gE⟩; have hw0 := Nat.lt_of_lt_of_le hlt0 hE.size; have hw1 := Nat.lt_of_lt_of_le hlt1 hE.size; have z0 := (hE.cell hlt0).trans x0; have z1 := (hE.cell hlt0).trans x1; have z4 := (hE.cell hlt0).trans x4; have u0 := (hE.cell hlt1).trans y0; have u1 := (hE.cell hlt1).trans y1; have u4 := (hE.cell hlt1).trans y4)
      | (go_at_call 80; refine (unhide HO _ _ _ (World.cell?_alloc_new _ _ _ _) (World.cell?_alloc_new _ _ _ _)).mono ?_; rintro e w4 ⟨rfl, rfl⟩))
  go_wp2_with fail
  exact unhide HQ _ _ ⟨rfl, gE.alloc _⟩
end Go.Proofs.YthgopknjppflhaaGreatDoor

/- slices.SortFunc at places, by the library's contract. -/
namespace Go.Proofs.YthgopknjppflhaaGreatDoor
open Go.RowKit
set_option linter.unusedVariables false
set_option maxRecDepth 100000
def Tryz.sortPl_ren : Go.Shelf.Ren := ⟨fun | 6 => 78 | 15 => 95 | 14 => 94 | 28 => 110 | 29 => 111 | 20 => 102 | 21 => 103 | 22 => 104 | 23 => 105 | 24 => 106 | 25 => 107 | 26 => 108 | 27 => 109 | 46 => 117 | 47 => 118 | 48 => 119 | 49 => 120 | 50 => 121 | 57 => 126 | n => n, fun | 22 => 33 | 24 => 54 | 25 => 127 | 3 => 3 | 39 => 138 | 0 => 0 | 53 => 92 | 55 => 150 | 4 => 4 | 46 => 143 | 45 => 142 | 50 => 106 | 5 => 5 | 9 => 9 | 66 => 156 | 70 => 63 | 76 => 164 | 77 => 165 | n => n, fun | n => n⟩
theorem Tryz.sortPl : Go.Proofs.SlLaysF0.n6 Tryz.prog Tryz.sortPl_ren := {
  mixed := by kernel_rfl
  f6 := ⟨Tryz.f78.name, by decide, Tryz.func78.trans (congrArg some (by kernel_rfl))⟩
  f14 := ⟨Tryz.f94.name, by decide, Tryz.func94.trans (congrArg some (by kernel_rfl))⟩
  f15 := Tryz.func95.trans (congrArg some (by kernel_rfl))
  f20 := ⟨Tryz.f102.name, by decide, Tryz.func102.trans (congrArg some (by kernel_rfl))⟩
  f21 := ⟨Tryz.f103.name, by decide, Tryz.func103.trans (congrArg some (by kernel_rfl))⟩
  f22 := ⟨Tryz.f104.name, by decide, Tryz.func104.trans (congrArg some (by kernel_rfl))⟩
  f23 := ⟨Tryz.f105.name, by decide, Tryz.func105.trans (congrArg some (by kernel_rfl))⟩
  f24 := ⟨Tryz.f106.name, by decide, Tryz.func106.trans (congrArg some (by kernel_rfl))⟩
  f25 := ⟨Tryz.f107.name, by decide, Tryz.func107.trans (congrArg some (by kernel_rfl))⟩
  f26 := ⟨Tryz.f108.name, by decide, Tryz.func108.trans (congrArg some (by kernel_rfl))⟩
  f27 := ⟨Tryz.f109.name, by decide, Tryz.func109.trans (congrArg some (by kernel_rfl))⟩
  f28 := Tryz.func110.trans (congrArg some (by kernel_rfl))
  f29 := Tryz.func111.trans (congrArg some (by kernel_rfl))
  f46 := ⟨Tryz.f117.name, by decide, Tryz.func117.trans (congrArg some (by kernel_rfl))⟩
  f47 := Tryz.func118.trans (congrArg some (by kernel_rfl))
  f48 := Tryz.func119.trans (congrArg some (by kernel_rfl))
  f49 := ⟨Tryz.f120.name, by decide, Tryz.func120.trans (congrArg some (by kernel_rfl))⟩
  f50 := ⟨Tryz.f121.name, by decide, Tryz.func121.trans (congrArg some (by kernel_rfl))⟩
  f57 := ⟨Tryz.f126.name, by decide, Tryz.func126.trans (congrArg some (by kernel_rfl))⟩
  t0 := Tryz.underlying0
  a0 := Tryz.isAgg0
  z0 := Tryz.sizeOf0
  v0 := Tryz.zeroValue0
  t3 := Tryz.underlying3
  a3 := Tryz.isAgg3
  z3 := Tryz.sizeOf3
  v3 := Tryz.zeroValue3
  t4 := Tryz.underlying4
  a4 := Tryz.isAgg4
  z4 := Tryz.sizeOf4
  v4 := Tryz.zeroValue4
  t5 := Tryz.underlying5
  a5 := Tryz.isAgg5
  z5 := Tryz.sizeOf5
  v5 := Tryz.zeroValue5
  t9 := Tryz.underlying9
  a9 := Tryz.isAgg9
  z9 := Tryz.sizeOf9
  v9 := Tryz.zeroValue9
  t22 := Tryz.underlying33
  a22 := Tryz.isAgg33
  z22 := Tryz.sizeOf33
  v22 := Tryz.zeroValue33
  t25 := Tryz.underlying127
  a25 := Tryz.isAgg127
  z25 := Tryz.sizeOf127
  v25 := Tryz.zeroValue127
  t39 := Tryz.underlying138
  a39 := Tryz.isAgg138
  z39 := Tryz.sizeOf138
  v39 := Tryz.zeroValue138
  t45 := Tryz.underlying142
  a45 := Tryz.isAgg142
  z45 := Tryz.sizeOf142
  v45 := Tryz.zeroValue142
  t46 := Tryz.underlying143
  a46 := Tryz.isAgg143
  z46 := Tryz.sizeOf143
  v46 := Tryz.zeroValue143
  t50 := Tryz.underlying106
  a50 := Tryz.isAgg106
  z50 := Tryz.sizeOf106
  v50 := Tryz.zeroValue106
  t53 := Tryz.underlying92
  a53 := Tryz.isAgg92
  z53 := Tryz.sizeOf92
  v53 := Tryz.zeroValue92
  t55 := Tryz.underlying150
  a55 := Tryz.isAgg150
  z55 := Tryz.sizeOf150
  v55 := Tryz.zeroValue150
  t66 := Tryz.underlying156
  a66 := Tryz.isAgg156
  z66 := Tryz.sizeOf156
  v66 := Tryz.zeroValue156
  t70 := Tryz.underlying63
  a70 := Tryz.isAgg63
  z70 := Tryz.sizeOf63
  v70 := Tryz.zeroValue63
  t76 := Tryz.underlying164
  a76 := Tryz.isAgg164
  z76 := Tryz.sizeOf164
  v76 := Tryz.zeroValue164
  t77 := Tryz.underlying165
  a77 := Tryz.isAgg165
  z77 := Tryz.sizeOf165
  v77 := Tryz.zeroValue165 }
theorem cmpLaysPl {w0 w : World} [Inhabited (KdE w0)] (hB0 : Below w0.heap.size w0 w) (g n : Nat) (hg : w0.heap.size ≤ g) : CmpLays Tryz.prog 79 #[] (KdE.enc (w0 := w0)) 9 cmpE g 0 n w := by
  intro m os dk hdk x y
  have hW : Below w0.heap.size w0 (sortWorldK KdE.enc 9 w g 0 m dk os) := hB0.trans ((sortK_frm dk os).below hB0.size (fun i hi => by simp at hi; omega))
  obtain ⟨⟨p, C⟩, hp⟩ := x
  obtain ⟨⟨q, D⟩, hq⟩ := y
  obtain ⟨k, n, t, a, e1, h1, h2, h3, h4⟩ := hp
  obtain ⟨k', n', t', a', e2, h1', h2', h3', h4'⟩ := hq
  dsimp only at e1 e2 h1 h2 h3 h4 h1' h2' h3' h4'
  subst e1
  subst e2
  obtain ⟨a1, c1, rfl, _, _⟩ := h1.shape
  obtain ⟨a2, c2, rfl, _, _⟩ := h2.shape
  obtain ⟨a3, c3, rfl, _, _⟩ := h3.shape
  obtain ⟨a4, c4, rfl, _, _⟩ := Elems.shape h4
  obtain ⟨b1, f1, rfl, _, _⟩ := h1'.shape
  obtain ⟨b2, f2, rfl, _, _⟩ := h2'.shape
  obtain ⟨b3, f3, rfl, _, _⟩ := h3'.shape
  obtain ⟨b4, f4, rfl, _, _⟩ := Elems.shape h4'
  exact kidCmp_any _ p q a1 a2 a3 a4 b1 b2 b3 b4 c1 c2 c3 c4 f1 f2 f3 f4 (h1.keep hW) (h1'.keep hW)
set_option maxHeartbeats 1600000 in
theorem sortPl_any (w0 w : World) (g c : Nat) (ks : List PlV) (F : List Nat) (h : PlsQ w0 w (.slice (some ⟨g, 0, none⟩) ks.length c) ks F) (hn : ks ≠ []) (hl : ks.length ≤ 100000) (hB0 : Below w0.heap.size w0 w) (hg : w0.heap.size ≤ g) :
    Calls Tryz.prog 78 #[.slice (some ⟨g, 0, none⟩) ks.length c, .func (.func 79) #[] #[]] w fun e w' => e = .returned (.tuple #[]) ∧ ∃ ks' : List PlV, ks'.Perm ks ∧ (∀ i j (hi : i < ks'.length) (hj : j < ks'.length), i < j → aheadB ks'[j] ks'[i] = false) ∧ PlsQ w0 w' (.slice (some ⟨g, 0, none⟩) ks'.length c) ks' [g] ∧ Frm w w' [g] := by
  have hlen9 := OwElems.len h
  obtain ⟨d, hd, hrow, rfl⟩ := h.row
  have hlen : d.length = ks.length := by rw [← hd]; simp
  have hne : d ≠ [] := fun e => hn (by rw [← hd, e]; rfl)
  haveI : Inhabited (KdE w0) := ⟨d.head hne⟩
  have hH := PlsQ.holds hrow hlen
  have hblk : g < w.heap.size := (hrow.lt g rfl).2
  have eg : ∀ args w, (callFunc 79 args).run Tryz.prog w = .ok (.enter 79 args) w := enters_of Tryz.func79 (by kernel_rfl) rfl
  have hcon := AnyQ.slices_SortFunc Tryz.sortPl 9 Tryz.isAgg54 Tryz.sizeOf54 KdE.enc KdE.nine (fun x => x.2.ones) cmpE (swoE w0) 79 #[] g 0 c d.toArray w eg (cmpLaysPl hB0 g _ hg) hH hblk (by simp; omega)
  change Calls Tryz.prog 78 _ _ _ at hcon
  rw [show d.toArray.size = ks.length by simpa using hlen] at hcon
  refine hcon.mono ?_
  rintro e w' ⟨rfl, d', n, os, hp, hs, rfl⟩
  have hds : d'.size = ks.length := by rw [hp.1]; simpa using hlen
  have hperm : d'.toList.Perm d := by
    have := hp.2.2
    rw [← hds] at this
    have e1 : d'.extract 0 d'.size = d' := by simp
    have e2 : d.toArray.extract 0 d'.size = d.toArray := by rw [show d'.size = d.toArray.size from hp.1]; simp
    rw [e1, e2] at this
    simpa using this
  refine ⟨rfl, d'.toList.map KdE.pl, ?_, ?_, ?_, sortK_frm d' os⟩
  · rw [← hd]
    exact hperm.map _
  · intro i j hi hj hij
    have hi' : i < d'.size := by simpa using hi
    have hj' : j < d'.size := by simpa using hj
    have := hs i j (Nat.zero_le _) hij (by omega)
    rw [ltE, getElem!_pos d' j hj', getElem!_pos d' i hi'] at this
    simpa using this
  · have := row_PlsQ (w := sortWorldK KdE.enc 9 w g 0 n d' os) (g := g) (c := c) (d := d'.toList) (by
      rw [show d'.toList.length = ks.length by simpa using hds]
      exact ownsRow_sortK hrow d' hds os)
    exact this
/-- Of none. -/
theorem sortPl_none (w : World) (a : Option Addr) (c : Nat) :
    Calls Tryz.prog 78 #[.slice a 0 c, .func (.func 79) #[] #[]] w fun e w' => e = .returned (.tuple #[]) ∧ w' = w :=
  AnyF.slices_SortFunc_none Tryz.sortPl a c _ w
end Go.Proofs.YthgopknjppflhaaGreatDoor

/- The forest's find, takes. -/
namespace Go.Proofs.YthgopknjppflhaaGreatDoor
open Go.RowKit Go.Maps
set_option linter.unusedVariables false
set_option maxRecDepth 100000

/-- Where the places lie. -/
theorem FoS.at {B : Nat} {w : World} {g mb : Nat} {a : Option Addr} {c : Nat} {l : List PlV} {F : List Nat} (h : FoS B w g mb a c l F) (hl : 0 < l.length) : ∃ gr, a = some ⟨gr, 0, none⟩ ∧ gr ∈ F := by
  obtain ⟨Cs, Fs, e1, e2, e3, e4, rfl⟩ := h.row
  obtain ⟨gr, cap, e, _, _⟩ := e4.form hl
  injection e with e _ _
  subst e
  exact ⟨gr, rfl, List.mem_append_left _ (by simp [FB, Value.ownBlock])⟩
/-- A place in its row, cell by cell. -/
theorem FoS.own {B : Nat} {w : World} {g mb gr : Nat} {c : Nat} {l : List PlV} {F : List Nat} (h : FoS B w g mb (some ⟨gr, 0, none⟩) c l F) {k : Nat} (hk : k < l.length) :
    ∃ (k1 : Option Addr) (ck : Nat) (n1 : Option Addr) (cn : Nat) (t1 : Option Addr) (ct : Nat) (a1 : Option Addr) (ca : Nat) (Fa : List Nat), w.cell? ⟨gr, k * 9, none⟩ = some (.int .i64 l[k].idN) ∧ w.cell? ⟨gr, k * 9 + 1, none⟩ = some (.int .i64 l[k].idR) ∧ w.cell? ⟨gr, k * 9 + 2, none⟩ = some (.int .i64 l[k].parN) ∧ w.cell? ⟨gr, k * 9 + 3, none⟩ = some (.int .i64 l[k].parR) ∧ w.cell? ⟨gr, k * 9 + 4, none⟩ = some (.slice k1 l[k].key.length ck) ∧ w.cell? ⟨gr, k * 9 + 5, none⟩ = some (.int .i64 l[k].kind) ∧ w.cell? ⟨gr, k * 9 + 6, none⟩ = some (.slice n1 l[k].name.length cn) ∧ w.cell? ⟨gr, k * 9 + 7, none⟩ = some (.slice t1 l[k].text.length ct) ∧ w.cell? ⟨gr, k * 9 + 8, none⟩ = some (.slice a1 l[k].attrs.length ca) ∧ OwnZ w 0 (.slice k1 l[k].key.length ck) l[k].key ∧ RowM w 0 (.slice n1 l[k].name.length cn) l[k].name ∧ Own w 0 (.slice t1 l[k].text.length ct) l[k].text ∧ OwAttrs w (.slice a1 l[k].attrs.length ca) l[k].attrs Fa ∧ ∀ q ∈ FB (.slice k1 l[k].key.length ck) ++ FB (.slice n1 l[k].name.length cn) ++ FB (.slice t1 l[k].text.length ct) ++ Fa, q ∈ F ∧ q ≠ gr := by
  have hnd := h.nd
  obtain ⟨Cs, Fs, e1, e2, e3, e4, rfl⟩ := h.row
  obtain ⟨_, K, N, T, A, Fa, eC, o1, o2, o3, o4, eF⟩ := e3 k hk
  obtain ⟨k1, ck, rfl, _⟩ := o1.ints.shape
  obtain ⟨n1, cn, rfl, _⟩ := o2.byt.shape
  obtain ⟨t1, ct, rfl, _⟩ := o3.byt.shape
  obtain ⟨a1, ca, rfl, _⟩ := Elems.shape (OwAttrs.rd o4)
  have hcl := fun r (hr : r < 9) => own_cellAt e4 (fun i hi => (e3 i (by omega)).1) e1 k r hk hr
  rw [eC] at hcl
  have d := fun r hr => hcl r hr
  have d0 := d 0 (by omega)
  have d1 := d 1 (by omega)
  have d2 := d 2 (by omega)
  have d3 := d 3 (by omega)
  have d4 := d 4 (by omega)
  have d5 := d 5 (by omega)
  have d6 := d 6 (by omega)
  have d7 := d 7 (by omega)
  have d8 := d 8 (by omega)
  refine ⟨k1, ck, n1, cn, t1, ct, a1, ca, Fa, d0, d1, d2, d3, d4, d5, d6, d7, d8, o1, o2, o3, o4, fun q hq => ?_⟩
  rw [← eF] at hq
  refine ⟨List.mem_append_right _ (mem_flat hq), fun e => ?_⟩
  exact (List.nodup_append.1 hnd).2.2 gr (by simp [FB, Value.ownBlock]) q (mem_flat hq) e.symm
theorem takesV_some {l : List PlV} {i : IdV} {k : Nat} (hp : posP l i = some k) (hk : k < l.length) : takesV l i = (decide (l[k].kind = 0) && !voidB l[k].name) := by
  unfold takesV
  rw [hp]
  simp only [List.getElem?_eq_getElem hk]
  rfl
theorem takesV_none {l : List PlV} {i : IdV} (hp : posP l i = none) : takesV l i = false := by
  unfold takesV
  rw [hp]
end Go.Proofs.YthgopknjppflhaaGreatDoor

/- The forest's find, takes. -/
namespace Go.Proofs.YthgopknjppflhaaGreatDoor
open Go.RowKit Go.Maps
set_option linter.unusedVariables false
set_option maxRecDepth 100000

/-- Where the places lie. -/
theorem FoQ.at {w0 : World} {w : World} {g mb : Nat} {a : Option Addr} {c : Nat} {l : List PlV} {F : List Nat} (h : FoQ w0 w g mb a c l F) (hl : 0 < l.length) : ∃ gr, a = some ⟨gr, 0, none⟩ ∧ gr ∈ F := by
  obtain ⟨Cs, Fs, e1, e2, e3, e4, rfl⟩ := h.row
  obtain ⟨gr, cap, e, _, _⟩ := e4.form hl
  injection e with e _ _
  subst e
  exact ⟨gr, rfl, List.mem_append_left _ (by simp [FB, Value.ownBlock])⟩
set_option maxHeartbeats 1600000 in
theorem findQ_any {w0 : World} {w : World} {g mb : Nat} {a : Option Addr} {c : Nat} {l : List PlV} {F : List Nat} (h : FoQ w0 w g mb a c l F) (i : IdV) (hi : okI i) :
    Calls Tryz.prog 19 #[.pointer (some ⟨g, 0, none⟩), idVal i] w fun e w' => (posP l i = none → e = .returned (.pointer none)) ∧ (∀ k, posP l i = some k → ∃ gr, a = some ⟨gr, 0, none⟩ ∧ e = .returned (.pointer (some ⟨gr, k * 9, none⟩))) ∧ Below w.heap.size w w' := by
  have hA : Below w.heap.size w (w.alloc (.cells #[.int .i64 i.1, .int .i64 i.2] 51)) := (Below.refl _ _).alloc (Nat.le_refl _) _
  have lb := Loc.made w #[.int .i64 i.1, .int .i64 i.2] 51
  have hd : Below (w.alloc (.cells #[.int .i64 i.1, .int .i64 i.2] 51)).heap.size (w.alloc (.cells #[.int .i64 i.1, .int .i64 i.2] 51)) (w.alloc (.cells #[.int .i64 i.1, .int .i64 i.2] 51)).drew := (Below.refl _ _).drew
  have h1 := h.keep hA
  have h2 := h1.keep hd
  obtain ⟨cs, lg, hc0, hc1⟩ := h2.set.loc
  obtain ⟨ci, hrun, hci⟩ := h2.map.look hi
  have g0 := lg.cell 0
  have g1 := lg.cell 1
  rw [hc0] at g0
  rw [hc1] at g1
  have hbw := bstep hA hd
  have hat := h.at
  have hlen := h.len
  have hP : ∀ k, posP l i = some k → k < l.length := fun k hk => (posP_some.1 hk).1
  unfold idVal at *
  have LL := hide (And.intro hbw (And.intro hat (And.intro hci hP)))
  have lbd := lb.all hd
  have b0 := lbd.cell 0
  have b1 := lbd.cell 1
  clear h h1 h2 hA hd lb lbd lg hc0 hc1 hbw hat hci hP hi
  refine calls_via ?_
  intro Q HQ
  generalize hp : posP l i = po at *
  go_enter Tryz.func19, Tryz.ntmps19
  go_wp2_with fail
  go_region
  cases po with
  | none =>
    go_wp2_with fail
    exact unhide HQ _ _ ⟨fun _ => rfl, fun k hk => (by cases hk), (unhide LL).1⟩
  | some k =>
    have hkl := (unhide LL).2.2.2 k rfl
    have hck := (unhide LL).2.2.1 k rfl
    obtain ⟨gr, rfl, _⟩ := (unhide LL).2.1 (by omega)
    subst hck
    have hk0 : (0 : Int) ≤ (k : Int) := by omega
    have hkl' : (k : Int) < (l.length : Int) := by omega
    go_wp2_with fail
    exact unhide HQ _ _ ⟨fun h => (by cases h), fun k' hk => (by cases hk; exact ⟨gr, rfl, rfl⟩), (unhide LL).1⟩
/-- A place in its row, cell by cell. -/
theorem FoQ.own {w0 w : World} {g mb gr : Nat} {c : Nat} {l : List PlV} {F : List Nat} (h : FoQ w0 w g mb (some ⟨gr, 0, none⟩) c l F) {k : Nat} (hk : k < l.length) :
    ∃ (k1 : Option Addr) (ck : Nat) (n1 : Option Addr) (cn : Nat) (t1 : Option Addr) (ct : Nat) (a1 : Option Addr) (ca : Nat) (Fa : List Nat), w.cell? ⟨gr, k * 9, none⟩ = some (.int .i64 l[k].idN) ∧ w.cell? ⟨gr, k * 9 + 1, none⟩ = some (.int .i64 l[k].idR) ∧ w.cell? ⟨gr, k * 9 + 2, none⟩ = some (.int .i64 l[k].parN) ∧ w.cell? ⟨gr, k * 9 + 3, none⟩ = some (.int .i64 l[k].parR) ∧ w.cell? ⟨gr, k * 9 + 4, none⟩ = some (.slice k1 l[k].key.length ck) ∧ w.cell? ⟨gr, k * 9 + 5, none⟩ = some (.int .i64 l[k].kind) ∧ w.cell? ⟨gr, k * 9 + 6, none⟩ = some (.slice n1 l[k].name.length cn) ∧ w.cell? ⟨gr, k * 9 + 7, none⟩ = some (.slice t1 l[k].text.length ct) ∧ w.cell? ⟨gr, k * 9 + 8, none⟩ = some (.slice a1 l[k].attrs.length ca) ∧
      Ints w0 (.slice k1 l[k].key.length ck) l[k].key ∧ Byt w0 (.slice n1 l[k].name.length cn) l[k].name ∧ Byt w0 (.slice t1 l[k].text.length ct) l[k].text ∧ RdAttrs w0 (.slice a1 l[k].attrs.length ca) l[k].attrs := by
  obtain ⟨Cs, Fs, e1, e2, e3, e4, rfl⟩ := h.row
  obtain ⟨_, ⟨K, N, T, A, eC, o1, o2, o3, o4⟩, eF⟩ := e3 k hk
  obtain ⟨k1, ck, rfl, _⟩ := o1.shape
  obtain ⟨n1, cn, rfl, _⟩ := o2.shape
  obtain ⟨t1, ct, rfl, _⟩ := o3.shape
  obtain ⟨a1, ca, rfl, _⟩ := Elems.shape o4
  have hcl := fun r (hr : r < 9) => own_cellAt e4 (fun i hi => (e3 i (by omega)).1) e1 k r hk hr
  rw [eC] at hcl
  have d := fun r hr => hcl r hr
  have d0 := d 0 (by omega)
  have d1 := d 1 (by omega)
  have d2 := d 2 (by omega)
  have d3 := d 3 (by omega)
  have d4 := d 4 (by omega)
  have d5 := d 5 (by omega)
  have d6 := d 6 (by omega)
  have d7 := d 7 (by omega)
  have d8 := d 8 (by omega)
  exact ⟨k1, ck, n1, cn, t1, ct, a1, ca, [], d0, d1, d2, d3, d4, d5, d6, d7, d8, o1, o2, o3, o4⟩
end Go.Proofs.YthgopknjppflhaaGreatDoor
