/- Own texts joined: HearJ, NodeI, RootI, StaI, UndI, OpsI, RepI, HearI, HearS. -/
import Derived.Test.YtkmmhlimihkgfaaGreatJa
import Derived.Test.YtkmmhlimihkgfaaGreatJb
import Derived.Test.YtkmmhlimihkgfaaGreatJc
import Derived.Test.YtkmmhlimihkgfaaGreatJd
import Derived.Test.YtkmmhlimihkgfaaGreatJe
import Derived.Test.YtkmmhlimihkgfaaGreatJf
import Derived.Test.YtkmmhlimihkgfaaGreatJg
import Derived.Test.YtkmmhlimihkgfaaGreatJh
import Derived.Test.YtkmmhlimihkgfaaGreatJi
import Derived.Test.YtkmmhlimihkgfaaGreatJj
import Derived.Test.YtkmmhlimihkgfaaGreatJk
import Derived.BigRegion
import Derived.Deep.CutBlock

/- impl.hearInto. -/
namespace Go.Proofs.YtkmmhlimihkgfaaGreat
open Go.RowKit
set_option linter.unusedVariables false
set_option maxRecDepth 100000

theorem putL_no {l : List OpV} {o : OpV} (h : putOk l o = false) : putL l o = l := by
  unfold putOk at h
  cases ht : there l o.atN o.atR with
  | true => rw [ht] at h; cases h
  | false =>
    rw [ht] at h
    unfold putL
    rw [ht, if_neg (by simp), if_pos (by simpa using h)]
theorem OwOps.sub {w : World} {v : Value} {l : List OpV} {F : List Nat} (h : OwOps w v l F) : ∀ q ∈ FB v, q ∈ F := by
  obtain ⟨Cs, Fs, _, _, _, _, rfl⟩ := h
  exact fun q hq => List.mem_append_left _ hq

set_option maxHeartbeats 12800000 in
theorem hearInto_any (w : World) (g : Nat) (id clk : Int) (y2 y3 y4 y5 y6 y8 : Value) (oa : Option Addr) (oc : Nat) (lost : Bool) (vop : Value) (l : List OpV) (o : OpV) (F : List Nat)
    (hg : Loc w g #[.int .i64 id, .int .i64 clk, y2, y3, y4, y5, y6, .slice oa l.length oc, y8, .bool lost] 64) (hF : OwOps w (.slice oa l.length oc) l F) (hN : F.Nodup) (hgF : g ∉ F) (hc : opsB l = true) (ho : RdOp w vop o) (hb : opB o = true) (hs : szO o ≤ 2097152) (hls : ∀ x ∈ l, szO x ≤ 2097152) :
    Calls Tryz.prog 67 #[.pointer (some ⟨g, 0, none⟩), vop] w fun e w' => e = .returned (.bool (putOk l o)) ∧ ∃ au cu F', OwOps w' (.slice au (putL l o).length cu) (putL l o) F' ∧ F'.Nodup ∧ (∀ q ∈ F', q ∈ F ∨ (w.heap.size ≤ q ∧ q < w'.heap.size)) ∧ Loc w' g #[.int .i64 id, .int .i64 (if putOk l o then max clk o.atN else clk), y2, y3, y4, y5, y6, .slice au (putL l o).length cu, y8, .bool (if putOk l o then lost else true)] 64 ∧ Frm w w' (g :: FB (.slice oa l.length oc)) := by
  have HP := hide (fun (W : World) (hW : Below w.heap.size w W) => putInto_any W (.slice oa l.length oc) vop l o F (OwOps.frm hF (Frm.ofBelow hW []) (fun _ _ => by simp)) hN hc (ho.keep hW) hb hs hls)
  have hlt : ∀ q ∈ F, q < w.heap.size := hF.ltI
  have hFv := hF.sub
  obtain ⟨k, n, t, rfl, hk, hn, ht⟩ := ho
  obtain ⟨a1, c1, rfl, _, _⟩ := hk.shape
  obtain ⟨a2, c2, rfl, _, _⟩ := hn.shape
  obtain ⟨a3, c3, rfl, _, _⟩ := ht.shape
  clear hk hn ht hs hls hb hF
  have hA0 := (Below.refl w.heap.size w).alloc (Nat.le_refl _) (.cells #[.int .i64 o.kind, .int .i64 o.atN, .int .i64 o.atR, .int .i64 o.nodeN, .int .i64 o.nodeR, .int .i64 o.parN, .int .i64 o.parR, .slice a1 o.key.length c1, .int .i64 o.elem, .slice a2 o.name.length c2, .slice a3 o.text.length c3, .bool o.gone] 28)
  have l0 := Loc.made w #[.int .i64 o.kind, .int .i64 o.atN, .int .i64 o.atR, .int .i64 o.nodeN, .int .i64 o.nodeR, .int .i64 o.parN, .int .i64 o.parR, .slice a1 o.key.length c1, .int .i64 o.elem, .slice a2 o.name.length c2, .slice a3 o.text.length c3, .bool o.gone] 28
  have lg := hg.alloc (.cells #[.int .i64 o.kind, .int .i64 o.atN, .int .i64 o.atR, .int .i64 o.nodeN, .int .i64 o.nodeR, .int .i64 o.parN, .int .i64 o.parR, .slice a1 o.key.length c1, .int .i64 o.elem, .slice a2 o.name.length c2, .slice a3 o.text.length c3, .bool o.gone] 28)
  have hgs := hg.lt
  unfold opVal at HP
  refine calls_via ?_
  intro Q HQ
  unfold opVal
  go_enter Tryz.func67, Tryz.ntmps67
  go_upto_region 1 with fail
  generalize (w.alloc (.cells #[.int .i64 o.kind, .int .i64 o.atN, .int .i64 o.atR, .int .i64 o.nodeN, .int .i64 o.nodeR, .int .i64 o.parN, .int .i64 o.parR, .slice a1 o.key.length c1, .int .i64 o.elem, .slice a2 o.name.length c2, .slice a3 o.text.length c3, .bool o.gone] 28)) = wa at *
  have HLO := hide l0
  obtain ⟨x0, x1, x2, x3, x4, x5, x6, x7, x8, x9, x10, x11⟩ := l0.twelve
  have c7 : wa.cell? ⟨g, 7, none⟩ = some (.slice oa l.length oc) := lg.cell 7
  go_region_with (go_at_call 40; refine (unhide HP _ (hA0.drew)).mono ?_; clear HP; rintro e w1 ⟨u, rfl, hno, F', hO, hN', hsub, hf⟩; obtain ⟨au, cu, rfl, _, _⟩ := Elems.shape hO.rd)
  all_goals
    clear x0 x1 x2 x3 x4 x5 x6 x7 x8 x9 x10 x11 c7
    have k1 : Frm wa w1 (FB (.slice oa l.length oc)) := (Frm.ofBelow ((Below.refl wa.heap.size wa).drew) _).trans hf
    have lg1 := lg.frm k1 (fun h => hgF (hFv _ h))
    have l1 := (unhide HLO).frm k1 (fun h => by have := hlt _ (hFv _ h); omega)
    have hsz : wa.heap.size ≤ w1.heap.size := k1.size
    have hsa : w.heap.size ≤ wa.heap.size := hA0.size
    have kA : Frm w w1 (g :: FB (.slice oa l.length oc)) := (Frm.ofBelow hA0 _).trans (k1.mono (fun q hq => List.mem_cons_of_mem _ hq))
    have hsub' : ∀ q ∈ F', q ∈ F ∨ (w.heap.size ≤ q ∧ q < w1.heap.size) := fun q hq => by
      rcases hsub q hq with h | h
      · exact .inl h
      · simp at h; exact .inr (by omega)
    have hgF' : g ∉ F' := fun h => by
      rcases hsub' g h with h | h
      · exact hgF h
      · omega
    clear k1 hf hsub l0 lg hA0 HLO
    cases hkk : putOk l o with
    | false =>
      have e1 := hno hkk
      have KK := hide (unhide HQ (.returned (.bool false)) (w1.setCell ⟨g, 9, none⟩ (.bool true)) ⟨by rw [hkk], au, cu, F', OwOps.frm hO (set_frm w1 g 9 (.bool true)) (fun q hq h => by simp at h; rw [h] at hq; exact hgF' hq), hN', fun q hq => by have := hsub' q hq; rw [World.size_setCell]; exact this, by rw [hkk]; rw [e1]; exact lg1.set 9 (.bool true), kA.trans ((set_frm w1 g 9 (.bool true)).mono (fun q hq => by simp at hq; simp [hq]))⟩)
      have f9 := lg1.frozen 9
      have c9 : w1.cell? ⟨g, 9, none⟩ = some (.bool lost) := lg1.cell 9
      clear HQ hO lg1 l1 kA e1
      go_wp2_with fail
      exact unhide KK
    | true =>
      have lX : Loc ((w1.setCell ⟨g, 7, none⟩ (.slice au (putL l o).length cu)).setCell ⟨g, 1, none⟩ (.int .i64 (max clk o.atN))) g #[.int .i64 id, .int .i64 (max clk o.atN), y2, y3, y4, y5, y6, .slice au (putL l o).length cu, y8, .bool lost] 64 := (lg1.set 7 (.slice au (putL l o).length cu)).set 1 (.int .i64 (max clk o.atN))
      have fX : Frm w1 ((w1.setCell ⟨g, 7, none⟩ (.slice au (putL l o).length cu)).setCell ⟨g, 1, none⟩ (.int .i64 (max clk o.atN))) [g] := (set_frm _ _ _ _).trans (set_frm _ _ _ _)
      have KK := hide (fun W' (hW : Below ((w1.setCell ⟨g, 7, none⟩ (.slice au (putL l o).length cu)).setCell ⟨g, 1, none⟩ (.int .i64 (max clk o.atN))).heap.size ((w1.setCell ⟨g, 7, none⟩ (.slice au (putL l o).length cu)).setCell ⟨g, 1, none⟩ (.int .i64 (max clk o.atN))) W') => unhide HQ (.returned (.bool true)) W' ⟨by rw [hkk], au, cu, F', OwOps.frm (OwOps.frm hO fX (fun q hq h => by simp at h; rw [h] at hq; exact hgF' hq)) (Frm.ofBelow hW []) (fun _ _ => by simp), hN', fun q hq => by
          have h1 := hsub' q hq
          have h2 := hW.size
          rw [World.size_setCell, World.size_setCell] at h2
          rcases h1 with h | h
          · exact .inl h
          · exact .inr (by omega), by rw [hkk]; exact lX.all hW, (kA.trans (fX.mono (fun q hq => by simp at hq; simp [hq]))).trans (Frm.ofBelow hW _)⟩)
      have f7 := lg1.frozen 7
      have f1 := lg1.frozen 1
      have d1 : w1.cell? ⟨g, 1, none⟩ = some (.int .i64 clk) := lg1.cell 1
      have d7 : w1.cell? ⟨g, 7, none⟩ = some (.slice oa l.length oc) := lg1.cell 7
      have z1 : w1.cell? ⟨w.heap.size, 1, none⟩ = some (.int .i64 o.atN) := l1.cell 1
      have hne : ¬ w.heap.size = g := by omega
      have hne' : ¬ g = w.heap.size := by omega
      clear HQ hO lg1 l1 kA lX fX hno
      go_upto_region 5 with fail
      go_region
      all_goals
        go_wp2_with fail
        first | exact unhide KK _ ((Below.refl _ _).drew) | exact unhide KK _ (Below.refl _ _)
end Go.Proofs.YtkmmhlimihkgfaaGreat

/- impl.NodeOk answers what the plain test says. -/
namespace Go.Proofs.YtkmmhlimihkgfaaGreat
open Go.RowKit Go.Shelf
set_option linter.unusedVariables false
set_option maxRecDepth 100000
attribute [local go_sem] Oper.semAt_some

theorem Loc.stay {W W' : World} {g D : Nat} {cs : Array Value} {T : TypeId} {row : Option Nat} (h : Loc W g cs T) (hg : W.grownBy W' row) (hr : ∀ r, row = some r → r = D ∨ r = D + 1) (h0 : g ≠ D) (h1 : g ≠ D + 1) : Loc W' g cs T :=
  (hg.block g h.lt (fun e => by rcases hr g e.symm with h | h; exact h0 h; exact h1 h)).trans h
theorem VSet.stay {W W' : World} {g D : Nat} {row : Option Nat} (h : VSet (D + 2) W g) (hg : W.grownBy W' row) (hr : ∀ r, row = some r → r = D ∨ r = D + 1) (h0 : g ≠ D) (h1 : g ≠ D + 1) : VSet (D + 2) W' g := by
  rcases h with h | ⟨m, hm, hl, hv⟩
  · exact .inl (h.stay hg hr h0 h1)
  · have hlt : m < W.heap.size := by
      by_cases h : m < W.heap.size
      · exact h
      · rw [Array.getElem?_eq_none (by omega)] at hv; cases hv
    exact .inr ⟨m, hm, hl.stay hg hr h0 h1, (hg.block m hlt (fun e => by rcases hr m e.symm with h | h <;> omega)).trans hv⟩
theorem below_stay {w W W' : World} {s D : Nat} {row : Option Nat} (h : Below s w W) (hs : s ≤ D) (hg : W.grownBy W' row) (hr : ∀ r, row = some r → r = D ∨ r = D + 1) (hsz : s ≤ W.heap.size) : Below s w W' :=
  h.grown hg hsz (fun r e => by rcases hr r e with h | h <;> omega)

theorem VSet.set {B : Nat} {V : World} {g p : Nat} {cs : Array Value} {T : TypeId} (h : VSet B V g) (hl : Loc V p cs T) (hne : g ≠ p) (j : Nat) (v : Value) : VSet B (V.setCell ⟨p, j, none⟩ v) g := by
  rcases h with h | ⟨m, hm, hg, hv⟩
  · exact .inl (h.other p j v hne)
  · have hmp : m ≠ p := fun e => by subst e; unfold Loc at hl; rw [hv] at hl; cases hl
    exact .inr ⟨m, hm, hg.other p j v hne, (heap_setCell_other V ⟨p, j, none⟩ m v hmp).trans hv⟩
theorem books_set (D : Nat) (V : World) (p j : Nat) (v : Value) (h0 : D ≠ p) (h1 : D + 1 ≠ p) : BooksSame D V (V.setCell ⟨p, j, none⟩ v) := ⟨heap_setCell_other V ⟨p, j, none⟩ D v h0, heap_setCell_other V ⟨p, j, none⟩ (D + 1) v h1⟩
theorem books_frm {D : Nat} {V V' : World} {S : List Nat} (f : Frm V V' S) (hl : D + 2 ≤ V.heap.size) (h0 : D ∉ S) (h1 : D + 1 ∉ S) : BooksSame D V V' := ⟨f.block D (by omega) h0, f.block (D + 1) (by omega) h1⟩
theorem BooksSame.trans {D : Nat} {A B C : World} (h : BooksSame D A B) (k : BooksSame D B C) : BooksSame D A C := ⟨k.1.trans h.1, k.2.trans h.2⟩
theorem scan_len {a : List (Int × Bool)} {left : Int} (h : (scan a left).1 = true) (h0 : 0 ≤ left) : (a.length : Int) ≤ left := by
  induction a generalizing left with
  | nil => simpa using h0
  | cons x r ih =>
    rw [scan] at h
    by_cases hc : left - 1 < 0 ∨ 20 < x.1 ∨ x.2 = false
    · rw [if_pos hc] at h; cases h
    · rw [if_neg hc] at h
      have := ih h (by omega)
      simp only [List.length_cons]
      omega
/-- A test more. -/
theorem scan_snoc {a : List (Int × Bool)} {x : Int × Bool} {n : Nat} (h : scan a 120 = (true, (120 : Int) - n)) : scan (a ++ [x]) 120 = if 120 < (n : Int) + 1 ∨ 20 < x.1 ∨ x.2 = false then (false, (120 : Int) - n - 1) else (true, (120 : Int) - n - 1) := by
  rw [scan_app, h]
  simp only [if_true, scan]
  have e : ((120 : Int) - n - 1 < 0 ∨ 20 < x.1 ∨ x.2 = false) ↔ (120 < (n : Int) + 1 ∨ 20 < x.1 ∨ x.2 = false) := by
    constructor
    · rintro (h | h)
      · exact .inl (by omega)
      · exact .inr h
    · rintro (h | h)
      · exact .inl (by omega)
      · exact .inr h
  simp only [e]

/-- Five new blocks, one behind the other. -/
theorem five_new (w : World) (A1 A2 A3 A4 A5 : Array Value) (T1 T2 T3 T4 T5 : TypeId) (W : World) (hW : W = ((((w.alloc (.cells A1 T1)).alloc (.cells A2 T2)).alloc (.cells A3 T3)).alloc (.cells A4 T4)).alloc (.cells A5 T5)) :
    Loc W (w.heap.size + 1) A2 T2 ∧ Loc W (w.heap.size + 1 + 1) A3 T3 ∧ Loc W (w.heap.size + 1 + 1 + 1) A4 T4 ∧ Loc W (w.heap.size + 1 + 1 + 1 + 1) A5 T5 ∧ W.heap.size = w.heap.size + 1 + 1 + 1 + 1 + 1 ∧ Below w.heap.size w W := by
  subst hW
  have m2 := Loc.made (w.alloc (.cells A1 T1)) A2 T2
  have m3 := Loc.made ((w.alloc (.cells A1 T1)).alloc (.cells A2 T2)) A3 T3
  have m4 := Loc.made (((w.alloc (.cells A1 T1)).alloc (.cells A2 T2)).alloc (.cells A3 T3)) A4 T4
  have m5 := Loc.made ((((w.alloc (.cells A1 T1)).alloc (.cells A2 T2)).alloc (.cells A3 T3)).alloc (.cells A4 T4)) A5 T5
  simp only [World.size_alloc] at m2 m3 m4 m5
  exact ⟨((m2.alloc _).alloc _).alloc _, (m3.alloc _).alloc _, m4.alloc _, m5, by simp, (((((Below.refl _ w).alloc (Nat.le_refl _) _).alloc (by simp) _).alloc (by simp; omega) _).alloc (by simp; omega) _).alloc (by simp; omega) _⟩

set_option maxHeartbeats 3200000 in
theorem nodeI_elem (k : Nat) (w : World) (a b c d e : Value) (t : Tr (k + 1)) (h : RdNode (k + 1) w [a, b, c, d, e] t) (hsz : szT (k + 1) t ≤ 2097152) (hz : t.kind = 0) :
    Calls Tryz.prog 147 #[.agg #[a, b, c, d, e]] w fun e w' => e = .returned (.bool (okN k t)) ∧ Below w.heap.size w w' := by
  have HO := hide (show okN k t = (scan (pn (k + 1) 1 t) 120).1 by unfold okN; rw [okT_scan]; simp [hz])
  obtain ⟨xs, hP⟩ := pre_ex w (k + 1) 1 [a, b, c, d, e] t h
  have HM := hide (pre_pn w (k + 1) 1 _ t xs hP)
  have hC : ∃ ab nb cb ac nc cc ad nd cd ae ne ce, [a, b, c, d, e] = [Value.int .i64 0, .slice ab nb cb, .slice ac nc cc, .slice ad nd cd, .slice ae ne ce] := by
    obtain ⟨_, _, _, _, e0, k1, k2, hb, hc, hd, he⟩ := h
    simp only [List.cons.injEq, and_true] at e0
    obtain ⟨rfl, rfl, rfl, rfl, rfl⟩ := e0
    obtain ⟨ab, cb, rfl, _, _⟩ := hb.shape
    obtain ⟨ac, cc, rfl, _, _⟩ := hc.shape
    obtain ⟨ad, cd, rfl, _, _⟩ := Elems.shape hd
    obtain ⟨ae, ce, rfl, _, _⟩ := Elems.shape he
    rw [hz]
    exact ⟨_, _, _, _, _, _, _, _, _, _, _, _, rfl⟩
  obtain ⟨ab, nb, cb, ac, nc, cc, ad, nd, cd, ae, ne, ce, hC⟩ := hC
  simp only [List.cons.injEq, and_true] at hC
  obtain ⟨rfl, rfl, rfl, rfl, rfl⟩ := hC
  have HP := hide hP
  have HH := hide h
  clear hP h hz
  refine (callsIn_wide (n := 5)).1 ?_
  refine callsIn_of_wp_marks Tryz.func147 rfl trivial ?_ rfl
  simp only [Tryz.ntmps147, List.size_toArray, List.length_cons, List.length_nil, Nat.reduceAdd, Nat.reduceSub, Array.replicate_succ, Array.replicate_zero, List.push_toArray, List.append_toArray, List.nil_append, List.cons_append]
  gi_wp2_with fail
  refine ⟨trivial, ?_⟩
  refine (callsIn_wide.2 (nodesOf_any _ _ _ _ _ _ _ _ _ _ _ _ _ _)).mono ?_
  rintro e W ⟨rfl, hW⟩
  obtain ⟨l1, l2, l3, l4, hsW, hBW⟩ := five_new w _ _ _ _ _ _ _ _ _ _ W hW
  clear hW
  simp only [World.size_alloc]
  obtain ⟨q1, q2, q3, q4, q5⟩ : w.heap.size < w.heap.size + 1 ∧ w.heap.size + 1 < w.heap.size + 1 + 1 ∧ w.heap.size + 1 + 1 < w.heap.size + 1 + 1 + 1 ∧ w.heap.size + 1 + 1 + 1 < w.heap.size + 1 + 1 + 1 + 1 ∧ w.heap.size + 1 + 1 + 1 + 1 < W.heap.size := by omega
  clear hsW
  generalize w.heap.size + 1 + 1 + 1 + 1 = p4 at *
  generalize w.heap.size + 1 + 1 + 1 = p3 at *
  generalize w.heap.size + 1 + 1 = p2 at *
  generalize w.heap.size + 1 = p1 at *
  gi_wp2_with fail
  refine range_law (gf := 161) (lb := #[.pointer (some ⟨p4, 0, none⟩)]) (Bx := BxN) (Mt := fun i _ => i ∈ [p1, p2, p3, W.heap.size + 1]) (xs := xs) (encs := encIt) rfl (enters_of Tryz.func161 (by kernel_rfl) rfl) (fun _ => by simp) (fun q o hq _ hm => by simp at hm; omega)
    (nodes_hand w W _ p4 k _ (fun i o hi hm => by simp at hm; omega) _ _ _ _ _ t xs (unhide HP) hsz hBW l4) (fun _ => rfl)
    (fun pre V => Loc V p3 #[.int .i64 (pre.length : Nat)] 3 ∧ Loc V p1 #[.bool false] 4 ∧ VSet (W.heap.size + 2) V p2 ∧ Below w.heap.size w V ∧ scan (pre.map tst) 120 = (true, (120 : Int) - (pre.length : Nat)))
    (fun pre V => Loc V p1 #[.bool false] 4 ∧ Below w.heap.size w V ∧ (scan (pre.map tst) 120).1 = false)
    (fun pre A B row hs hg hr => ⟨hs.1.stay hg hr (by omega) (by omega), hs.2.1.stay hg hr (by omega) (by omega), hs.2.2.1.stay hg hr (by omega) (by omega), below_stay hs.2.2.2.1 (by omega) hg hr hs.2.2.2.1.size, hs.2.2.2.2⟩)
    (fun pre A B row hs hg hr => ⟨hs.1.stay hg hr (by omega) (by omega), below_stay hs.2.1 (by omega) hg hr hs.2.1.size, hs.2.2⟩)
    ⟨l3, l1, .inl l2, hBW, rfl⟩
    (fun x a' V => ∃ q, W.heap.size + 1 < q ∧ Loc V q #[x.a, x.b, x.c, x.d, x.e] 61 ∧ a' = { tmps := #[.agg #[.int .i64 0, .slice ab nb cb, .slice ac nc cc, .slice ad nd cd, .slice ae ne ce], .pointer (some ⟨w.heap.size, 0, none⟩), .pointer (some ⟨p1, 0, none⟩), .pointer (some ⟨p2, 0, none⟩), .pointer (some ⟨p3, 0, none⟩), .int .i64 x.deep, .pointer (some ⟨q, 0, none⟩), .pointer (some ⟨w.heap.size, 0, none⟩), .int .i64 0, .bool false, .agg #[.int .i64 0, .slice ab nb cb, .slice ac nc cc, .slice ad nd cd, .slice ae ne ce], .func (.func 161) #[] #[.pointer (some ⟨p4, 0, none⟩)], .int .i64 x.deep, .agg #[x.a, x.b, x.c, x.d, x.e], undef, undef, undef, undef, undef, undef, undef, undef, undef, undef, undef, undef, undef], defers := [] })
    (fun x a' u A B row hs hg hr => by obtain ⟨q, h1, h2, h3⟩ := hs; exact ⟨q, h1, h2.stay hg hr (by omega) (by omega), h3⟩)
    ?assign ?body ?done ?stop
  case assign =>
    intro pre x V K hi hV2 hK
    obtain ⟨deep, a, b, c, d, e, m, u, rd⟩ := x
    obtain ⟨z, ab', nb', cb', ac', nc', cc', ad', nd', cd', ae', ne', ce', hC⟩ := rd_shape rd
    simp only [List.cons.injEq, and_true] at hC
    obtain ⟨rfl, rfl, rfl, rfl, rfl⟩ := hC
    simp only [encIt] at hK ⊢
    gi_wp2
    exact hK _ _ ((Below.refl _ _).alloc (Nat.le_refl _) _) ⟨V.heap.size, by omega, Loc.made V _ _, rfl⟩
  case body =>
    rintro pre x a' V ⟨i3, i1, iV, iB, iS⟩ ⟨q, hq, lq, rfl⟩ hpx hsz2
    obtain ⟨deep, a, b, c, d, e, m, u, rd⟩ := x
    have HI := hide (And.intro i3 (And.intro i1 (And.intro iV (And.intro iB iS))))
    have HR := hide rd
    obtain ⟨z, ab', nb', cb', ac', nc', cc', ad', nd', cd', ae', ne', ce', hC⟩ := rd_shape rd
    simp only [List.cons.injEq, and_true] at hC
    obtain ⟨rfl, rfl, rfl, rfl, rfl⟩ := hC
    have hlen : pre.length ≤ 120 := by
      have := scan_len (a := pre.map tst) (left := 120) (by rw [iS]) (by omega)
      simp at this
      omega
    have c3 : V.cell? ⟨p3, 0, none⟩ = some (.int .i64 (pre.length : Nat)) := i3.cell 0
    have f3 := i3.frozen 0
    have c1 : V.cell? ⟨p1, 0, none⟩ = some (.bool false) := i1.cell 0
    have f1 := i1.frozen 0
    simp only at lq
    obtain ⟨x0, x1, x2, x3, x4⟩ := lq.five
    have hsn := scan_snoc (x := tst (⟨deep, .int .i64 z, .slice ab' nb' cb', .slice ac' nc' cc', .slice ad' nd' cd', .slice ae' ne' ce', m, u, rd⟩ : It w)) iS
    have HS := hide hsn
    clear hsn iS i3 i1 iV iB
    generalize hn : pre.length = n at *
    have HN := hide hn
    clear hn
    have hn1 : 0 ≤ (n : Int) + 1 := by omega
    have hBk : BooksSame W.heap.size V ((V.setCell ⟨p3, 0, none⟩ (.int .i64 ((n : Int) + 1))).setCell ⟨p1, 0, none⟩ (.bool false)) := (books_set W.heap.size V p3 0 _ (by omega) (by omega)).trans (books_set W.heap.size _ p1 0 _ (by omega) (by omega))
    by_cases h1 : 120 < (n : Int) + 1
    · gi_wp2
      refine ⟨trivial, ?_⟩
      gi_wp2
      obtain ⟨i3, i1, iV, iB, iS⟩ := unhide HI
      refine ⟨hBk, (i1.other p3 0 _ (by omega)).set 0 (.bool false), (iB.setCell (p := ⟨p3, 0, none⟩) (by show w.heap.size ≤ p3; omega) _).setCell (p := ⟨p1, 0, none⟩) (by show w.heap.size ≤ p1; omega) _, ?_⟩
      rw [List.map_append, List.map_cons, List.map_nil, unhide HS, if_pos (.inl h1)]
    · by_cases h2 : 20 < deep
      · gi_wp2
        refine ⟨trivial, ?_⟩
        gi_wp2
        obtain ⟨i3, i1, iV, iB, iS⟩ := unhide HI
        refine ⟨hBk, (i1.other p3 0 _ (by omega)).set 0 (.bool false), (iB.setCell (p := ⟨p3, 0, none⟩) (by show w.heap.size ≤ p3; omega) _).setCell (p := ⟨p1, 0, none⟩) (by show w.heap.size ≤ p1; omega) _, ?_⟩
        rw [List.map_append, List.map_cons, List.map_nil, unhide HS, if_pos (.inr (.inl h2))]
      · have hcall : Calls Tryz.prog 117 #[.agg #[.int .i64 z, .slice ab' nb' cb', .slice ac' nc' cc', .slice ad' nd' cd', .slice ae' ne' ce'], .pointer (some ⟨p2, 0, none⟩)] (V.setCell ⟨p3, 0, none⟩ (.int .i64 ((n : Int) + 1))) fun e w' => e = .returned (.bool (partB u)) ∧ VSet (W.heap.size + 2) w' p2 ∧ Frm (V.setCell ⟨p3, 0, none⟩ (.int .i64 ((n : Int) + 1))) w' [p2] := by
          obtain ⟨i3, i1, iV, iB, iS⟩ := unhide HI
          exact partI_any (W.heap.size + 2) m w _ _ _ _ _ _ u p2 (unhide HR) (iB.setCell (p := ⟨p3, 0, none⟩) (by show w.heap.size ≤ p3; omega) _) (by omega) (iV.set i3 (by omega) 0 _) (by simpa using hsz2)
        have HC := hide hcall
        clear hcall
        gi_wp2
        refine ⟨trivial, ?_⟩
        refine (CallsIn.inRound (F := Fence.wide) (W.heap.size + 1) (callsIn_wide.2 (unhide HC))).mono ?_
        rintro e V2 ⟨rfl, hV2, F2⟩
        have HA : Hid (Loc V2 p3 #[.int .i64 ((n : Int) + 1)] 3 ∧ Loc V2 p1 #[.bool false] 4 ∧ Below w.heap.size w V2 ∧ BooksSame W.heap.size V V2 ∧ Frm V V2 [p1, p2, p3, W.heap.size + 1]) := by
          obtain ⟨i3, i1, iV, iB, iS⟩ := unhide HI
          have iB1 := iB.setCell (p := ⟨p3, 0, none⟩) (by show w.heap.size ≤ p3; omega) (.int .i64 ((n : Int) + 1))
          refine ⟨(i3.set 0 _).frm F2 (by simp; omega), (i1.other p3 0 _ (by omega)).frm F2 (by simp; omega), iB1.trans (F2.below iB1.size (fun g hg => by simp at hg; omega)), (books_set W.heap.size V p3 0 _ (by omega) (by omega)).trans (books_frm F2 (by simpa using hsz2) (by simp; omega) (by simp; omega)), ?_⟩
          exact ((Frm.set V p3 0 _).mono (fun g hg => by simp at hg; simp [hg])).trans (F2.mono (fun g hg => by simp at hg; simp [hg]))
        have c1 : V2.cell? ⟨p1, 0, none⟩ = some (.bool false) := (unhide HA).2.1.cell 0
        have f1 := (unhide HA).2.1.frozen 0
        clear x0 x1 x2 x3 x4 c3 f3
        by_cases hb : partB u = true
        · rw [hb]
          gi_wp2
          obtain ⟨a3, a1, aB, aK, aF⟩ := unhide HA
          refine ⟨aK, Frp.ofFrm aF (fun g hg _ _ => hg), ?_, a1, hV2, aB, ?_⟩
          · have e : ((pre ++ [(⟨deep, .int .i64 z, .slice ab' nb' cb', .slice ac' nc' cc', .slice ad' nd' cd', .slice ae' ne' ce', m, u, rd⟩ : It w)]).length : Int) = (n : Int) + 1 := by rw [List.length_append, unhide HN]; simp
            rw [e]; exact a3
          · rw [List.map_append, List.map_cons, List.map_nil, unhide HS, if_neg (by simp only [tst, hb]; simp; omega)]
            rw [List.length_append, unhide HN]
            simp
            omega
        · have hb' : partB u = false := by simpa using hb
          rw [hb']
          gi_wp2
          obtain ⟨a3, a1, aB, aK, aF⟩ := unhide HA
          refine ⟨aK.trans (books_set W.heap.size _ p1 0 _ (by omega) (by omega)), a1.set 0 (.bool false), aB.setCell (p := ⟨p1, 0, none⟩) (by show w.heap.size ≤ p1; omega) _, ?_⟩
          rw [List.map_append, List.map_cons, List.map_nil, unhide HS, if_pos (.inr (.inr hb'))]
  case done =>
    rintro V ⟨i3, i1, iV, iB, iS⟩ hD
    have c1 : V.cell? ⟨p1, 0, none⟩ = some (.bool false) := i1.cell 0
    have f1 := i1.frozen 0
    have HF := hide (show okN k t = true by rw [unhide HO, ← unhide HM, iS])
    clear iS
    gi_wp2
    have hD' : (V.setCell ⟨p1, 0, none⟩ (.bool true)).heap[W.heap.size]? = some (.deferred (some [])) := (heap_setCell_other V ⟨p1, 0, none⟩ _ _ (by show W.heap.size ≠ p1; omega)).trans hD
    refine ⟨by simp, .inl ⟨_, _, rfl, run_takeDeferred hD', ?_⟩⟩
    have lE : Loc ((V.setCell ⟨p1, 0, none⟩ (.bool true)).putObj W.heap.size (.deferred none)) p1 #[.bool true] 4 := (i1.set 0 (.bool true)).stay (grownBy_putObj' _ _ _) (fun r e => by cases e; exact .inl rfl) (by omega) (by omega)
    have c5 : ((V.setCell ⟨p1, 0, none⟩ (.bool true)).putObj W.heap.size (.deferred none)).cell? ⟨p1, 0, none⟩ = some (.bool true) := lE.cell 0
    refine ⟨.bool true, ?_, by rw [unhide HF], below_stay (iB.setCell (p := ⟨p1, 0, none⟩) (by show w.heap.size ≤ p1; omega) _) (D := W.heap.size) (by omega) (grownBy_putObj' _ _ _) (fun r e => by cases e; exact .inl rfl) (by simpa using iB.size)⟩
    simp [results, Tryz.f147, go_sem, c5]
  case stop =>
    rintro pre V hpre ⟨i1, iB, iS⟩ hD
    have HF := hide (show okN k t = false by rw [unhide HO, ← unhide HM]; exact scan_no iS (hpre.map _))
    clear iS
    gi_wp2
    refine ⟨by simp, .inl ⟨_, _, rfl, run_takeDeferred hD, ?_⟩⟩
    have lE : Loc (V.putObj W.heap.size (.deferred none)) p1 #[.bool false] 4 := i1.stay (grownBy_putObj' _ _ _) (fun r e => by cases e; exact .inl rfl) (by omega) (by omega)
    have c5 : (V.putObj W.heap.size (.deferred none)).cell? ⟨p1, 0, none⟩ = some (.bool false) := lE.cell 0
    refine ⟨.bool false, ?_, by rw [unhide HF], below_stay iB (D := W.heap.size) (by omega) (grownBy_putObj' _ _ _) (fun r e => by cases e; exact .inl rfl) iB.size⟩
    simp [results, Tryz.f147, go_sem, c5]

theorem nodeI_none (k : Nat) (w : World) (a b c d e : Value) (t : Tr (k + 1)) (h : RdNode (k + 1) w [a, b, c, d, e] t) (hz : t.kind ≠ 0) :
    Calls Tryz.prog 147 #[.agg #[a, b, c, d, e]] w fun e w' => e = .returned (.bool (okN k t)) ∧ Below w.heap.size w w' := by
  have HO := hide (show okN k t = false by unfold okN; simp [hz])
  obtain ⟨_, _, _, _, e0, k1, k2, hb, hc, hd, he⟩ := h
  simp only [List.cons.injEq, and_true] at e0
  obtain ⟨rfl, rfl, rfl, rfl, rfl⟩ := e0
  obtain ⟨ab, cb, rfl, _, _⟩ := hb.shape
  obtain ⟨ac, cc, rfl, _, _⟩ := hc.shape
  obtain ⟨ad, cd, rfl, _, _⟩ := Elems.shape hd
  obtain ⟨ae, ce, rfl, _, _⟩ := Elems.shape he
  have d0 : (t.kind != 0) = true := by simpa using hz
  clear hb hc hd he
  generalize t.kind = z at *
  generalize t.name.length = nb at *
  generalize t.text.length = nc at *
  generalize t.attrs.length = nd at *
  generalize t.kids.length = ne at *
  go_enter Tryz.func147, Tryz.ntmps147
  go_wp2_with fail
  refine bodyPost_ret (v := .bool false) (by simp [results, Tryz.results147, go_sem]) rfl ⟨by rw [unhide HO], ?_⟩
  exact ((Below.refl _ _).alloc (Nat.le_refl _) _).alloc (by simp) _

/-- impl.NodeOk. -/
theorem nodeI_any (k : Nat) (w : World) (a b c d e : Value) (t : Tr (k + 1)) (h : RdNode (k + 1) w [a, b, c, d, e] t) (hsz : szT (k + 1) t ≤ 2097152) :
    Calls Tryz.prog 147 #[.agg #[a, b, c, d, e]] w fun e w' => e = .returned (.bool (okN k t)) ∧ Below w.heap.size w w' := by
  by_cases hz : t.kind = 0
  · exact nodeI_elem k w a b c d e t h hsz hz
  · exact nodeI_none k w a b c d e t h hz
end Go.Proofs.YtkmmhlimihkgfaaGreat

/- impl.rootOk and impl.startOk. -/
namespace Go.Proofs.YtkmmhlimihkgfaaGreat
open Go.RowKit
set_option linter.unusedVariables false
set_option maxRecDepth 100000

theorem okN_case {P : Prop} [Decidable P] {b : Bool} (h : b = true ↔ P) : b = decide P := by
  cases b with
  | true => simp [h.1 rfl]
  | false => simp; exact fun hh => by have := h.2 hh; cases this
open Classical in
set_option maxHeartbeats 6400000 in
theorem rootI_any (n : Nat) (w : World) (a b c d e : Value) (t : Tr (n + 1)) (h : RdNode (n + 1) w [a, b, c, d, e] t) (hsz : szT (n + 1) t ≤ 2097152) :
    Calls Tryz.prog 135 #[.agg #[a, b, c, d, e]] w fun e w' => e = .returned (.bool (rootB n t)) ∧ Below w.heap.size w w' := by
  obtain ⟨z, ab, nb, cb, ac, nc, cc, ad, nd, cd, ae, ne, ce, rfl, rfl, rfl, rfl, rfl⟩ := rd5 h
  have HN := hide (fun W (hW : Below w.heap.size w W) => nodeI_any n W _ _ _ _ _ t (h.keep hW) hsz)
  have hnm : Byt w (.slice ab nb cb) t.name := by
    obtain ⟨_, _, _, _, e0, _, _, hb, _⟩ := h
    simp only [List.cons.injEq, and_true] at e0
    obtain ⟨_, rfl, _⟩ := e0
    exact hb
  have HB := hide hnm
  have HV := hide (show voidB t.name = decide (Void t.name) from okN_case (voidB_iff t.name))
  clear h hnm
  unfold rootB
  have hA1 := (Below.refl w.heap.size w).alloc (Nat.le_refl _) (.cells #[.int .i64 z, .slice ab nb cb, .slice ac nc cc, .slice ad nd cd, .slice ae ne ce] 61)
  have l1 := Loc.made w #[.int .i64 z, .slice ab nb cb, .slice ac nc cc, .slice ad nd cd, .slice ae ne ce] 61
  have hA2 := hA1.alloc (by simp) (.cells vs0 141)
  have l2 := Loc.made (w.alloc (.cells #[.int .i64 z, .slice ab nb cb, .slice ac nc cc, .slice ad nd cd, .slice ae ne ce] 61)) vs0 141
  have l1' := l1.alloc (.cells vs0 141)
  have hsz1 : (w.alloc (.cells #[.int .i64 z, .slice ab nb cb, .slice ac nc cc, .slice ad nd cd, .slice ae ne ce] 61)).heap.size = w.heap.size + 1 := by simp
  rw [hsz1] at l2
  have LL := hide (And.intro hA2 (And.intro l1' l2))
  have eqv : (Value.agg #[.int .u32 0, .int .i32 0, .int .u32 0, .map none]) = .agg vs0 := rfl
  clear hA1 l1 hA2 l2 l1' hsz1
  unfold vs0 at LL
  go_enter Tryz.func135, Tryz.ntmps135
  go_wp2_with fail
  obtain ⟨hA, l1, l2⟩ := unhide LL
  clear LL
  generalize ((w.alloc (.cells #[.int .i64 z, .slice ab nb cb, .slice ac nc cc, .slice ad nd cd, .slice ae ne ce] 61)).alloc (.cells #[.int .u32 0, .int .i32 0, .int .u32 0, .map none] 141)) = wa at *
  refine (unhide HN _ hA).mono ?_
  rintro e w1 ⟨rfl, hB⟩
  have hA1 := bstep hA hB
  replace l1 := l1.all hB
  replace l2 := l2.all hB
  clear hA hB HN
  cases hb : okN n t with
  | false =>
    go_wp2_with fail
    go_ret
    exact ⟨by rw [hb]; rfl, hA1⟩
  | true =>
    obtain ⟨x0, x1, x2, x3, x4⟩ := l1.five
    go_wp2_with fail
    refine (has_any w1.heap.size (w.heap.size + 1) w1 _ t.name (.inl l2) (Nat.le_refl _) (fun w' f => (unhide HB).keep (hA1.trans (f.below hA1.size (fun q hq => by simp at hq; omega))))).mono ?_
    rintro e w2 ⟨rfl, _, f⟩
    have hA2 := hA1.trans (f.below hA1.size (fun q hq => by simp at hq; omega))
    have hv := unhide HV
    generalize decide (Void t.name) = vd at *
    clear f l1 l2 x0 x1 x2 x3 x4
    go_wp2_with fail
    go_ret
    exact ⟨by rw [hb, hv]; rfl, hA2⟩

set_option maxHeartbeats 3200000 in
theorem startI_any (n : Nat) (w : World) (id : Int) (a b c d e : Value) (t : Tr (n + 1)) (h : RdNode (n + 1) w [a, b, c, d, e] t) (hsz : szT (n + 1) t ≤ 2097152) :
    Calls Tryz.prog 102 #[.int .i64 id, .agg #[a, b, c, d, e]] w fun e w' => e = .returned (.bool (startB n id t)) ∧ Below w.heap.size w w' := by
  obtain ⟨z, ab, nb, cb, ac, nc, cc, ad, nd, cd, ae, ne, ce, rfl, rfl, rfl, rfl, rfl⟩ := rd5 h
  have HN := hide (fun W (hW : Below w.heap.size w W) => rootI_any n W _ _ _ _ _ t (h.keep hW) hsz)
  clear h
  unfold startB
  generalize rootB n t = rb at *
  have hA := (Below.refl w.heap.size w).alloc (Nat.le_refl _) (.cells #[.int .i64 z, .slice ab nb cb, .slice ac nc cc, .slice ad nd cd, .slice ae ne ce] 61)
  by_cases h1 : 0 ≤ id
  · by_cases h2 : id < 8
    · have d1 : decide (0 ≤ id) = true := by simpa using h1
      have d2 : decide (id < 8) = true := by simpa using h2
      rw [d1, d2]
      go_enter Tryz.func102, Tryz.ntmps102
      go_wp2_with fail
      refine (unhide HN _ hA).mono ?_
      rintro e w1 ⟨rfl, hB⟩
      have hA1 := bstep hA hB
      go_wp2_with fail
      go_ret
      exact ⟨rfl, hA1⟩
    · have d1 : decide (0 ≤ id) = true := by simpa using h1
      have d2 : decide (id < 8) = false := by simpa using h2
      rw [d1, d2]
      go_enter Tryz.func102, Tryz.ntmps102
      go_wp2_with fail
      go_ret
      exact ⟨rfl, hA⟩
  · have d1 : decide (0 ≤ id) = false := by simpa using h1
    rw [d1]
    go_enter Tryz.func102, Tryz.ntmps102
    go_wp2_with fail
    go_ret
    exact ⟨rfl, hA⟩
end Go.Proofs.YtkmmhlimihkgfaaGreat

/- impl.stampsOk. -/
namespace Go.Proofs.YtkmmhlimihkgfaaGreat
open Go.RowKit
set_option linter.unusedVariables false
set_option maxRecDepth 100000

set_option maxHeartbeats 6400000 in
theorem staI_any (n : Nat) (w : World) (a b c d e vo vu : Value) (r : RepV n) (h : RdRep n w a b c d e vo vu r) :
    Calls Tryz.prog 103 #[repVal r a b c d e vo vu] w fun e w' => e = .returned (.bool (stampsB r.ops r.clock)) ∧ Below w.heap.size w w' := by
  obtain ⟨z, ab, nb, cb, ac, nc, cc, ad, nd, cd, ae, ne, ce, rfl, rfl, rfl, rfl, rfl⟩ := rd5 h.1
  obtain ⟨_, ho, hu⟩ := h
  obtain ⟨au, cu, rfl, _, _⟩ := Elems.shape hu
  have hm := ho.1
  unfold maxLen at hm
  generalize r.und.length = nu at *
  clear hu
  unfold repVal
  have HG := hide (fun hh => stampsB_good (l := r.ops) (c := r.clock) hh)
  have HN := hide (fun k hk hh => stampsB_bad (l := r.ops) (c := r.clock) (k := k) hk hh)
  generalize stampsB r.ops r.clock = res at *
  generalize r.ops = l at *
  obtain ⟨rfl, ao, co, rfl⟩ | ⟨b, off, cap, rfl, hnil, g4, g5⟩ := ho.cases
  · have HY := hide (unhide HG (fun k hk => by simp at hk))
    have hA := (Below.refl w.heap.size w).alloc (Nat.le_refl _) (.cells (#[.int .i64 r.id, .int .i64 r.clock, .int .i64 z, .slice ab nb cb, .slice ac nc cc, .slice ad nd cd, .slice ae ne ce, .slice ao ([] : List OpV).length co, .slice au nu cu, .bool r.lost]) 64)
    go_enter Tryz.func103, Tryz.ntmps103
    go_wp2_with fail
    refine wp_loop_rounds 1 ?_
    rw [rounds_succ]
    go_wp2_with fail
    go_ret
    exact ⟨by rw [unhide HY]; rfl, hA⟩
  have hA := (Below.refl w.heap.size w).alloc (Nat.le_refl _) (.cells (#[.int .i64 r.id, .int .i64 r.clock, .int .i64 z, .slice ab nb cb, .slice ac nc cc, .slice ad nd cd, .slice ae ne ce, .slice (some ⟨b, off, none⟩) l.length cap, .slice au nu cu, .bool r.lost]) 64)
  have l0 := Loc.made w (#[.int .i64 r.id, .int .i64 r.clock, .int .i64 z, .slice ab nb cb, .slice ac nc cc, .slice ad nd cd, .slice ae ne ce, .slice (some ⟨b, off, none⟩) l.length cap, .slice au nu cu, .bool r.lost]) 64
  go_enter Tryz.func103, Tryz.ntmps103
  go_wp2_with fail
  generalize (w.alloc (.cells (#[.int .i64 r.id, .int .i64 r.clock, .int .i64 z, .slice ab nb cb, .slice ac nc cc, .slice ad nd cd, .slice ae ne ce, .slice (some ⟨b, off, none⟩) l.length cap, .slice au nu cu, .bool r.lost]) 64)) = wa at *
  go_loopw [4, 8] (fun _ i wr => ∃ k : Nat, k ≤ l.length ∧ i = .int .i64 k ∧ (∀ j (hj : j < l.length), j < k → l[j].atN ≤ r.clock) ∧ Below wa.heap.size wa wr) (fun _ i _ => l.length - (intOf i).toNat)
  case atStart => exact ⟨0, Nat.zero_le _, rfl, fun j _ hj => by omega, Below.refl _ _⟩
  case round =>
    obtain ⟨k, hk, rfl, hok, hB⟩ := hrel
    have hAB := bstep hA hB
    by_cases hlt : k < l.length
    · obtain ⟨a1, c1, a2, c2, a3, c3, e0, e1, e2, e3, e4, e5, e6, e7, e8, e9, e10, e11, hr⟩ := opc_at hAB g4 (g5 k hlt)
      have t1 : wr.cell? ⟨w.heap.size, 1, none⟩ = some (.int .i64 r.clock) := (l0.all hB).cell 1
      have hlt' : (k : Int) < (l.length : Int) := by omega
      have hk0 : (0 : Int) ≤ (k : Int) := by omega
      have HJ := hide (fun (hh : l[k].atN ≤ r.clock) j (hj : j < l.length) (hjk : j < k + 1) => (show l[j].atN ≤ r.clock by rcases Nat.lt_succ_iff_lt_or_eq.1 hjk with h1 | rfl; exact hok j hj h1; exact hh))
      have HNK := hide (fun (hh : r.clock < l[k].atN) => unhide HN k hlt hh)
      have hBx := fun (o : Obj) => (hB.alloc (by exact hB.size) o)
      have HBX := hide (fun (o : Obj) => bstep hA (hB.alloc hB.size o))
      have HBY := hide (fun (o : Obj) => hB.alloc hB.size o)
      have hSr : w.heap.size < wr.heap.size := (l0.all hB).lt
      generalize l[k] = o at *
      generalize o.key.length = nK at *
      generalize o.name.length = nN at *
      generalize o.text.length = nT at *
      clear g5 hr hnil HG HN hok hBx
      by_cases hq : r.clock < o.atN
      · have HF := hide (unhide HNK hq)
        clear HNK HJ
        go_wp2_with fail
        go_ret
        exact ⟨by rw [unhide HF]; rfl, unhide HBX _⟩
      · have hq' : o.atN ≤ r.clock := by omega
        have HJ' := hide (unhide HJ hq')
        clear HNK HJ
        go_wp2_with fail
        go_roundw
        case rel => exact ⟨k + 1, by omega, by go_num, unhide HJ', unhide HBY _⟩
        case measure => simp [intOf]; omega
    · have HY := hide (unhide HG (fun k hk => hok k hk (by omega)))
      clear g5
      go_wp2_with fail
      go_ret
      exact ⟨by rw [unhide HY]; rfl, hAB⟩
end Go.Proofs.YtkmmhlimihkgfaaGreat

/- impl.undoneOk. -/
namespace Go.Proofs.YtkmmhlimihkgfaaGreat
open Go.RowKit
set_option linter.unusedVariables false
set_option maxRecDepth 100000

set_option maxHeartbeats 12800000 in
theorem undI_any (n : Nat) (w : World) (a b c d e vo vu : Value) (r : RepV n) (h : RdRep n w a b c d e vo vu r) :
    Calls Tryz.prog 104 #[repVal r a b c d e vo vu] w fun e w' => e = .returned (.bool (undB r.und r.id r.clock)) ∧ Below w.heap.size w w' := by
  obtain ⟨z, ab, nb, cb, ac, nc, cc, ad, nd, cd, ae, ne, ce, rfl, rfl, rfl, rfl, rfl⟩ := rd5 h.1
  obtain ⟨_, ho, hu⟩ := h
  obtain ⟨ao, co, rfl, _, _⟩ := Elems.shape ho
  have hm := hu.1
  unfold maxLen at hm
  generalize r.ops.length = no at *
  clear ho
  unfold repVal
  have HLG := hide (fun hh => undB_long (l := r.und) (id := r.id) (clk := r.clock) hh)
  have HG := hide (fun hn hh => undB_good (l := r.und) (id := r.id) (clk := r.clock) hn hh)
  have HN := hide (fun k hk hh => undB_bad (l := r.und) (id := r.id) (clk := r.clock) (k := k) hk hh)
  have HE := hide (fun k hk => undAt_eq (l := r.und) (id := r.id) (clk := r.clock) (k := k) hk)
  generalize undB r.und r.id r.clock = res at *
  generalize hul : r.und = l at *
  clear hul
  by_cases hlong : 150 < l.length
  · obtain ⟨au, cu, rfl, _, _⟩ := Elems.shape hu
    have hd : (150 : Int) < (l.length : Int) := by omega
    have HY := hide (unhide HLG hlong)
    have hA := (Below.refl w.heap.size w).alloc (Nat.le_refl _) (.cells (#[.int .i64 r.id, .int .i64 r.clock, .int .i64 z, .slice ab nb cb, .slice ac nc cc, .slice ad nd cd, .slice ae ne ce, .slice ao no co, .slice au l.length cu, .bool r.lost]) 64)
    go_enter Tryz.func104, Tryz.ntmps104
    go_wp2_with fail
    go_ret
    exact ⟨by rw [unhide HY]; rfl, hA⟩
  have hd : ¬ (150 : Int) < (l.length : Int) := by omega
  obtain ⟨rfl, au, cu, rfl⟩ | ⟨b, off, cap, rfl, hnil, g4, g5⟩ := hu.cases
  · have HY := hide (unhide HG (by simp) (fun k hk => by simp at hk))
    have hA := (Below.refl w.heap.size w).alloc (Nat.le_refl _) (.cells (#[.int .i64 r.id, .int .i64 r.clock, .int .i64 z, .slice ab nb cb, .slice ac nc cc, .slice ad nd cd, .slice ae ne ce, .slice ao no co, .slice au ([] : List (Int × Int)).length cu, .bool r.lost]) 64)
    go_enter Tryz.func104, Tryz.ntmps104
    go_wp2_with fail
    refine wp_loop_rounds 1 ?_
    rw [rounds_succ]
    go_wp2_with fail
    go_ret
    exact ⟨by rw [unhide HY]; rfl, hA⟩
  have hA := (Below.refl w.heap.size w).alloc (Nat.le_refl _) (.cells (#[.int .i64 r.id, .int .i64 r.clock, .int .i64 z, .slice ab nb cb, .slice ac nc cc, .slice ad nd cd, .slice ae ne ce, .slice ao no co, .slice (some ⟨b, off, none⟩) l.length cap, .bool r.lost]) 64)
  have l0 := Loc.made w (#[.int .i64 r.id, .int .i64 r.clock, .int .i64 z, .slice ab nb cb, .slice ac nc cc, .slice ad nd cd, .slice ae ne ce, .slice ao no co, .slice (some ⟨b, off, none⟩) l.length cap, .bool r.lost]) 64
  replace HG := hide (fun hh => unhide HG (by omega) hh)
  clear HLG
  go_enter Tryz.func104, Tryz.ntmps104
  go_wp2_with fail
  generalize (w.alloc (.cells (#[.int .i64 r.id, .int .i64 r.clock, .int .i64 z, .slice ab nb cb, .slice ac nc cc, .slice ad nd cd, .slice ae ne ce, .slice ao no co, .slice (some ⟨b, off, none⟩) l.length cap, .bool r.lost]) 64)) = wa at *
  go_loopw [3, 4, 12] (fun _ _ i wr => ∃ k : Nat, k ≤ l.length ∧ i = .int .i64 k ∧ (∀ j, j < k → undAt l r.id r.clock j = true) ∧ Below wa.heap.size wa wr) (fun _ _ i _ => l.length - (intOf i).toNat)
  case atStart => exact ⟨0, Nat.zero_le _, rfl, fun j hj => by omega, Below.refl _ _⟩
  case round =>
    obtain ⟨k, hk, rfl, hok, hB⟩ := hrel
    have hAB := bstep hA hB
    by_cases hlt : k < l.length
    · obtain ⟨c0, c1⟩ := g5 k hlt
      have e0 := (hAB.cell (p := ⟨b, off + k * 2, none⟩) g4).trans c0
      have e1 := (hAB.cell (p := ⟨b, off + k * 2 + 1, none⟩) g4).trans c1
      have lr := l0.all hB
      have hlt' : (k : Int) < (l.length : Int) := by omega
      have hk0 : (0 : Int) ≤ (k : Int) := by omega
      have HE' := hide (unhide HE k hlt)
      have HJ := hide (fun (hh : undAt l r.id r.clock k = true) j (hj : j < k + 1) => (show undAt l r.id r.clock j = true by rcases Nat.lt_succ_iff_lt_or_eq.1 hj with h1 | rfl; exact hok j h1; exact hh))
      have HNK := hide (fun (hh : undAt l r.id r.clock k = false) => unhide HN k hlt hh)
      have HP := hide (fun j (ej : k = j + 1) => (show ∃ q : Int × Int, l[k - 1]'(by omega) = q ∧ wr.cell? ⟨b, off + j * 2, none⟩ = some (.int .i64 q.1) ∧ wr.cell? ⟨b, off + j * 2 + 1, none⟩ = some (.int .i64 q.2) by
        obtain ⟨p0, p1⟩ := g5 j (by omega)
        exact ⟨l[j], by subst ej; rfl, (hAB.cell (p := ⟨b, off + j * 2, none⟩) g4).trans p0, (hAB.cell (p := ⟨b, off + j * 2 + 1, none⟩) g4).trans p1⟩))
      have HB0 := hide (show Below wa.heap.size wa (wr.alloc (.cells (#[.int .i64 l[k].1, .int .i64 l[k].2]) 25)) from hB.alloc hB.size _)
      have hSr : w.heap.size < wr.heap.size := lr.lt
      have g4' : b < wr.heap.size := Nat.lt_of_lt_of_le g4 hAB.size
      generalize undAt l r.id r.clock k = okk at *
      generalize hoo : l[k] = o at *
      have t0 : wr.cell? ⟨w.heap.size, 0, none⟩ = some (.int .i64 r.id) := lr.cell 0
      have t1 : wr.cell? ⟨w.heap.size, 1, none⟩ = some (.int .i64 r.clock) := lr.cell 1
      have t8 : wr.cell? ⟨w.heap.size, 8, none⟩ = some (.slice (some ⟨b, off, none⟩) l.length cap) := lr.cell 8
      clear hoo g5 c0 c1 hnil HG HN HE hok
      by_cases hq : o.2 = r.id ∧ 1 ≤ o.1 ∧ o.1 ≤ r.clock
      case neg =>
        have HF := hide (unhide HNK (by
          rw [unhide HE']
          have : (decide (o.2 = r.id) && decide (1 ≤ o.1) && decide (o.1 ≤ r.clock)) = false := by
            rw [Bool.and_eq_false_iff, Bool.and_eq_false_iff]
            simp only [decide_eq_false_iff_not]
            omega
          rw [this, Bool.false_and]))
        have hAx := bstep hA (unhide HB0)
        clear HE' HJ HNK HP HB0
        by_cases q1 : o.2 = r.id
        · by_cases q2 : 1 ≤ o.1
          · have q3 : r.clock < o.1 := by omega
            have d1 : (o.2 != r.id) = false := by simpa using q1
            have d2 : decide (o.1 < 1) = false := by simp; omega
            have q2' : ¬ o.1 < 1 := by omega
            clear q1
            go_wp2_with fail
            go_ret
            exact ⟨by rw [unhide HF]; rfl, hAx⟩
          · have q2' : o.1 < 1 := by omega
            have d1 : (o.2 != r.id) = false := by simpa using q1
            clear q1
            go_wp2_with fail
            go_ret
            exact ⟨by rw [unhide HF]; rfl, hAx⟩
        · have d1 : (o.2 != r.id) = true := by simpa using q1
          go_wp2_with fail
          go_ret
          exact ⟨by rw [unhide HF]; rfl, hAx⟩
      obtain ⟨q1, q2, q3⟩ := hq
      have HE2 : okk = (decide (k = 0) || lessB (l[k - 1]'(by omega)).1 (l[k - 1]'(by omega)).2 o.1 o.2) := by
        rw [unhide HE', decide_eq_true q1, decide_eq_true q2, decide_eq_true q3]; rfl
      have d1 : (o.2 != r.id) = false := by simpa using q1
      have d2 : ¬ o.1 < 1 := by omega
      have d3 : ¬ r.clock < o.1 := by omega
      clear q1
      have lo := Loc.made wr #[.int .i64 o.1, .int .i64 o.2] 25
      have hAb := (Below.refl wr.heap.size wr).alloc (Nat.le_refl _) (.cells #[.int .i64 o.1, .int .i64 o.2] 25)
      have HCB := hide (fun a v (hb : a.block < wr.heap.size) (h : wr.cell? a = some v) => (hAb.cell hb).trans h)
      have LL := hide (And.intro lo (unhide HB0))
      clear lo hAb HE' HB0
      go_wp2_with fail
      obtain ⟨lo, hBb⟩ := unhide LL
      clear LL
      have t0 := unhide HCB _ _ hSr t0
      have t1 := unhide HCB _ _ hSr t1
      have t8 := unhide HCB _ _ hSr t8
      have y0 : (wr.alloc (.cells #[.int .i64 o.1, .int .i64 o.2] 25)).cell? ⟨wr.heap.size, 0, none⟩ = some (.int .i64 o.1) := lo.cell 0
      have y1 : (wr.alloc (.cells #[.int .i64 o.1, .int .i64 o.2] 25)).cell? ⟨wr.heap.size, 1, none⟩ = some (.int .i64 o.2) := lo.cell 1
      have hSl : wr.heap.size < (wr.alloc (.cells #[.int .i64 o.1, .int .i64 o.2] 25)).heap.size := lo.lt
      generalize (wr.alloc (.cells #[.int .i64 o.1, .int .i64 o.2] 25)) = wb at *
      have hSr' : w.heap.size < wb.heap.size := Nat.lt_trans hSr hSl
      have hNE : Nonempty (Gr wb) := ⟨⟨wb, Below.refl _ _⟩⟩
      replace t0 := Gr.cell hSr' t0
      replace t1 := Gr.cell hSr' t1
      replace t8 := Gr.cell hSr' t8
      replace y0 := Gr.cell hSl y0
      replace y1 := Gr.cell hSl y1
      rcases Nat.eq_zero_or_pos k with hz | hpos
      · have HY := hide (unhide HJ (by rw [HE2, decide_eq_true hz]; rfl))
        have dz3 : ¬ 0 < k := by omega
        have dz4 : decide (0 < k) = false := by simp; omega
        clear HP HE2 HCB HJ HNK hz
        refine wp_region_gr (by kernel_rfl) (by kernel_rfl) ?_
        repeat (go_big_quiet_step (fail))
        refine wpQuiet_nil ?_
        rintro _ ⟨p, rfl⟩
        have hB3 := bstep hBb p.h
        clear t0 t1 t8 y0 y1
        go_wp2_with fail
        go_roundw
        case rel => exact ⟨k + 1, by omega, by go_num, unhide HY, hB3⟩
        case measure => simp [intOf]; omega
      · obtain ⟨j, ej⟩ : ∃ j, k = j + 1 := ⟨k - 1, by omega⟩
        have dz3 : 0 < k := hpos
        have dz4 : decide (0 < k) = true := by simp; omega
        have hj1 : (k : Int) - 1 = (j : Int) := by omega
        have hj0 : (0 : Int) ≤ (j : Int) := by omega
        have hjl : (j : Int) < (l.length : Int) := by omega
        obtain ⟨q, eq, i1, i2⟩ := unhide HP j ej
        have HE3 : okk = lessB q.1 q.2 o.1 o.2 := by rw [HE2, eq, decide_eq_false (by omega), Bool.false_or]
        have i1 := unhide HCB _ _ g4' i1
        have i2 := unhide HCB _ _ g4' i2
        replace i1 := Gr.cell (Nat.lt_trans g4' hSl) i1
        replace i2 := Gr.cell (Nat.lt_trans g4' hSl) i2
        have HLL := hide (fun W => lessI_any W q.1 q.2 o.1 o.2)
        clear HE2 HP HCB eq hpos
        generalize lessB q.1 q.2 o.1 o.2 = lb at *
        subst HE3
        clear ej
        refine wp_region_gr (by kernel_rfl) (by kernel_rfl) ?_
        repeat (go_big_quiet_step ((rename_i p; exact calls_gr (unhide HLL _))))
        refine wpQuiet_nil ?_
        rintro _ ⟨p, rfl⟩
        have hB3 := bstep hBb p.h
        clear t0 t1 t8 y0 y1 i1 i2
        cases okk with
        | true =>
          go_wp2_with fail
          go_roundw
          case rel => exact ⟨k + 1, by omega, by go_num, unhide HJ rfl, hB3⟩
          case measure => simp [intOf]; omega
        | false =>
          have HF := hide (unhide HNK rfl)
          clear HNK
          go_wp2_with fail
          go_ret
          exact ⟨by rw [unhide HF]; rfl, bstep hA hB3⟩
    · have HY := hide (unhide HG (fun j hj => hok j (by omega)))
      clear g5
      go_wp2_with fail
      go_ret
      exact ⟨by rw [unhide HY]; rfl, hAB⟩
end Go.Proofs.YtkmmhlimihkgfaaGreat

/- impl.OpsOk answers what the plain test of a row says. -/
namespace Go.Proofs.YtkmmhlimihkgfaaGreat
open Go.RowKit
set_option linter.unusedVariables false
set_option maxRecDepth 100000

set_option maxHeartbeats 6400000 in
theorem opsI_any (w : World) (v : Value) (l : List OpV) (h : RdOps w v l) :
    Calls Tryz.prog 39 #[v] w fun e w' => e = .returned (.bool (opsB l)) ∧ Below w.heap.size w w' := by
  have hm := h.1
  unfold maxLen at hm
  by_cases hlong : 150 < l.length
  · obtain ⟨a, cap, rfl, _, _⟩ := Elems.shape h
    have hd : (150 : Int) < (l.length : Int) := by omega
    rw [opsB_long hlong]
    go_enter Tryz.func39, Tryz.ntmps39
    go_wp2_with fail
    go_ret
    exact ⟨rfl, Below.refl _ _⟩
  have hd : ¬ (150 : Int) < (l.length : Int) := by omega
  obtain ⟨rfl, a, cap, rfl⟩ | ⟨b, off, cap, rfl, hnil, g4, g5⟩ := h.cases
  · go_enter Tryz.func39, Tryz.ntmps39
    go_wp2_with fail
    refine wp_loop_rounds 1 ?_
    rw [rounds_succ]
    go_wp2_with fail
    go_ret
    exact ⟨rfl, Below.refl _ _⟩
  have HG := hide (fun hh => opsB_good (l := l) (by omega) hh)
  have HN := hide (fun k hk hh => opsB_bad (l := l) (k := k) hk hh)
  generalize opsB l = res at *
  go_enter Tryz.func39, Tryz.ntmps39
  go_wp2_with fail
  go_loopw [3, 4, 10] (fun _ _ i wr => ∃ k : Nat, k ≤ l.length ∧ i = .int .i64 k ∧ (∀ j, j < k → okAt l j = true) ∧ Below w.heap.size w wr) (fun _ _ i _ => l.length - (intOf i).toNat)
  case atStart => exact ⟨0, Nat.zero_le _, rfl, fun j hj => by omega, Below.refl _ _⟩
  case round =>
    obtain ⟨k, hk, rfl, hok, hB⟩ := hrel
    by_cases hlt : k < l.length
    · have HX := hide (fun W u (hu : RdOp W u l[k]) => opI_any W u l[k] hu)
      have HL := hide (fun W n r n' r' => lessI_any W n r n' r')
      have H0 := hide (fun (h : opB l[k] = false) => okAt_no hlt h)
      have HZ := hide (fun (h : opB l[k] = true) (e : k = 0) => (show okAt l k = true by subst e; exact okAt_0 hlt h))
      have HS := hide (fun j (e : k = j + 1) (h : opB l[k] = true) => (show okAt l k = lessB (l[j]'(by omega)).atN (l[j]'(by omega)).atR l[k].atN l[k].atR by subst e; exact okAt_s hlt h))
      have HP := hide (fun j (e : k = j + 1) => opc_at hB g4 (g5 j (by omega)))
      have HJ := hide (fun j (hj : j < k + 1) (h : okAt l k = true) => (show okAt l j = true by rcases Nat.lt_succ_iff_lt_or_eq.1 hj with h1 | rfl; exact hok j h1; exact h))
      have HNK := hide (fun (h : okAt l k = false) => unhide HN k hlt h)
      obtain ⟨a1, c1, a2, c2, a3, c3, e0, e1, e2, e3, e4, e5, e6, e7, e8, e9, e10, e11, hr⟩ := opc_at hB g4 (g5 k hlt)
      have hlt' : (k : Int) < (l.length : Int) := by omega
      have hk0 : (0 : Int) ≤ (k : Int) := by omega
      have HR := hide hr
      unfold opVal at HR
      generalize hoo : l[k] = o at *
      generalize o.key.length = nK at *
      generalize o.name.length = nN at *
      generalize o.text.length = nT at *
      clear g5 hr hnil hoo HG HN hok
      generalize okAt l k = okk at *
      have lo := Loc.made wr #[.int .i64 o.kind, .int .i64 o.atN, .int .i64 o.atR, .int .i64 o.nodeN, .int .i64 o.nodeR, .int .i64 o.parN, .int .i64 o.parR, .slice a1 nK c1, .int .i64 o.elem, .slice a2 nN c2, .slice a3 nT c3, .bool o.gone] 28
      have hAb := (Below.refl wr.heap.size wr).alloc (Nat.le_refl _) (.cells #[.int .i64 o.kind, .int .i64 o.atN, .int .i64 o.atR, .int .i64 o.nodeN, .int .i64 o.nodeR, .int .i64 o.parN, .int .i64 o.parR, .slice a1 nK c1, .int .i64 o.elem, .slice a2 nN c2, .slice a3 nT c3, .bool o.gone] 28)
      have LL := hide (And.intro lo hAb)
      clear lo hAb
      go_wp2_with fail
      obtain ⟨lo, hAb⟩ := unhide LL
      clear LL
      have hB' := bstep hB hAb
      have HRb := hide ((unhide HR).keep hAb)
      have g4' : b < wr.heap.size := Nat.lt_of_lt_of_le g4 hB.size
      have hcb := fun a v (hb : a.block < wr.heap.size) (h : wr.cell? a = some v) => (hAb.cell hb).trans h
      have hzz := hAb.size
      have HCB := hide hcb
      clear hcb hAb HR
      generalize (wr.alloc (.cells #[.int .i64 o.kind, .int .i64 o.atN, .int .i64 o.atR, .int .i64 o.nodeN, .int .i64 o.nodeR, .int .i64 o.parN, .int .i64 o.parR, .slice a1 nK c1, .int .i64 o.elem, .slice a2 nN c2, .slice a3 nT c3, .bool o.gone] 28)) = wb at *
      have hSl : wr.heap.size < wb.heap.size := lo.lt
      generalize wr.heap.size = S at *
      have hNE : Nonempty (Gr wb) := ⟨⟨wb, Below.refl _ _⟩⟩
      obtain ⟨y0, y1, y2, y3, y4, y5, y6, y7, y8, y9, y10, y11⟩ := lo.twelve
      replace y0 := Gr.cell hSl y0
      replace y1 := Gr.cell hSl y1
      replace y2 := Gr.cell hSl y2
      replace y3 := Gr.cell hSl y3
      replace y4 := Gr.cell hSl y4
      replace y5 := Gr.cell hSl y5
      replace y6 := Gr.cell hSl y6
      replace y7 := Gr.cell hSl y7
      replace y8 := Gr.cell hSl y8
      replace y9 := Gr.cell hSl y9
      replace y10 := Gr.cell hSl y10
      replace y11 := Gr.cell hSl y11
      clear lo e0 e1 e2 e3 e4 e5 e6 e7 e8 e9 e10 e11
      by_cases hq : opB o = true
      · rw [hq] at HX
        rcases Nat.eq_zero_or_pos k with hz | hpos
        · have HY := hide (unhide HZ hq hz)
          have dz3 : ¬ 0 < k := by omega
          have dz4 : decide (0 < k) = false := by simp; omega
          clear H0 HZ HS HP hq HL hz
          refine wp_region_gr (by kernel_rfl) (by kernel_rfl) ?_
          repeat (go_big_quiet_step ((rename_i p; exact calls_gr (unhide HX _ _ ((unhide HRb).keep p.h)))))
          refine wpQuiet_nil ?_
          rintro _ ⟨p, rfl⟩
          have hB3 := bstep hB' p.h
          clear y0 y1 y2 y3 y4 y5 y6 y7 y8 y9 y10 y11 HRb
          go_wp2_with fail
          go_roundw
          case rel => exact ⟨k + 1, by omega, by go_num, fun j hj => unhide HJ j hj (unhide HY), hB3⟩
          case measure => simp [intOf]; omega
        · obtain ⟨j, ej⟩ : ∃ j, k = j + 1 := ⟨k - 1, by omega⟩
          have dz3 : 0 < k := hpos
          have dz4 : decide (0 < k) = true := by simp; omega
          have hj1 : (k : Int) - 1 = (j : Int) := by omega
          have hj0 : (0 : Int) ≤ (j : Int) := by omega
          have hjl : (j : Int) < (l.length : Int) := by omega
          obtain ⟨pn, pr, i1, i2, HE⟩ : ∃ pn pr, wb.cell? ⟨b, off + j * 12 + 1, none⟩ = some (.int .i64 pn) ∧ wb.cell? ⟨b, off + j * 12 + 2, none⟩ = some (.int .i64 pr) ∧ okk = lessB pn pr o.atN o.atR := by
            obtain ⟨_, _, _, _, _, _, _, i1, i2, _⟩ := unhide HP j ej
            exact ⟨_, _, unhide HCB _ _ g4' i1, unhide HCB _ _ g4' i2, unhide HS j ej hq⟩
          replace i1 := Gr.cell (Nat.lt_trans g4' hSl) i1
          replace i2 := Gr.cell (Nat.lt_trans g4' hSl) i2
          clear H0 HZ HS HP hq hpos
          have HLL := hide (fun W => unhide HL W pn pr o.atN o.atR)
          generalize lessB pn pr o.atN o.atR = lb at *
          subst HE
          clear HL ej
          refine wp_region_gr (by kernel_rfl) (by kernel_rfl) ?_
          repeat (go_big_quiet_step ((rename_i p; first | exact calls_gr (unhide HX _ _ ((unhide HRb).keep p.h)) | exact calls_gr (unhide HLL _))))
          refine wpQuiet_nil ?_
          rintro _ ⟨p, rfl⟩
          have hB3 := bstep hB' p.h
          clear y0 y1 y2 y3 y4 y5 y6 y7 y8 y9 y10 y11 HRb i1 i2
          cases okk with
          | true =>
            go_wp2_with fail
            go_roundw
            case rel => exact ⟨k + 1, by omega, by go_num, fun j hj => unhide HJ j hj rfl, hB3⟩
            case measure => simp [intOf]; omega
          | false =>
            have HF := hide (unhide HNK rfl)
            clear HNK
            go_wp2_with fail
            go_ret
            exact ⟨by rw [unhide HF]; rfl, hB3⟩
      · have hq' : opB o = false := by simpa using hq
        rw [hq'] at HX
        have HY := hide (unhide HNK (unhide H0 hq'))
        clear H0 HZ HS HP hq hq' HL HNK
        refine wp_region_gr (by kernel_rfl) (by kernel_rfl) ?_
        repeat (go_big_quiet_step ((rename_i p; exact calls_gr (unhide HX _ _ ((unhide HRb).keep p.h)))))
        refine wpQuiet_nil ?_
        rintro _ ⟨p, rfl⟩
        have hB3 := bstep hB' p.h
        clear y0 y1 y2 y3 y4 y5 y6 y7 y8 y9 y10 y11 HRb
        go_wp2_with fail
        go_ret
        exact ⟨by rw [unhide HY]; rfl, hB3⟩
    · have HY := hide (unhide HG (fun j hj => hok j (by omega)))
      clear g5
      go_wp2_with fail
      go_ret
      exact ⟨by rw [unhide HY]; rfl, hB⟩
end Go.Proofs.YtkmmhlimihkgfaaGreat

/- impl.ReplicaOk. -/
namespace Go.Proofs.YtkmmhlimihkgfaaGreat
open Go.RowKit
set_option linter.unusedVariables false
set_option maxRecDepth 100000

set_option maxHeartbeats 6400000 in
theorem repI_any (n : Nat) (w : World) (a b c d e vo vu : Value) (r : RepV n) (h : RdRep n w a b c d e vo vu r) (hsz : szT (n + 1) r.first ≤ 2097152) :
    Calls Tryz.prog 65 #[repVal r a b c d e vo vu] w fun e w' => e = .returned (.bool (repB r)) ∧ Below w.heap.size w w' := by
  obtain ⟨z, ab, nb, cb, ac, nc, cc, ad, nd, cd, ae, ne, ce, rfl, rfl, rfl, rfl, rfl⟩ := rd5 h.1
  obtain ⟨ao, co, rfl, _, _⟩ := Elems.shape h.2.1
  obtain ⟨au, cu, rfl, _, _⟩ := Elems.shape h.2.2
  have HS := hide (fun W (hW : Below w.heap.size w W) => startI_any n W r.id _ _ _ _ _ r.first (h.1.keep hW) hsz)
  have HO := hide (fun W (hW : Below w.heap.size w W) => opsI_any W _ r.ops (h.2.1.keep hW))
  have HT := hide (fun W (hW : Below w.heap.size w W) => staI_any n W _ _ _ _ _ _ _ r (h.keep hW))
  have HU := hide (fun W (hW : Below w.heap.size w W) => undI_any n W _ _ _ _ _ _ _ r (h.keep hW))
  unfold repVal at HT HU ⊢
  unfold repB
  clear h
  generalize startB n r.id r.first = sb at *
  generalize opsB r.ops = ob at *
  generalize stampsB r.ops r.clock = tb at *
  generalize undB r.und r.id r.clock = ub at *
  generalize r.ops.length = no at *
  generalize r.und.length = nu at *
  have hA := (Below.refl w.heap.size w).alloc (Nat.le_refl _) (.cells #[.int .i64 r.id, .int .i64 r.clock, .int .i64 z, .slice ab nb cb, .slice ac nc cc, .slice ad nd cd, .slice ae ne ce, .slice ao no co, .slice au nu cu, .bool r.lost] 64)
  have l0 := Loc.made w #[.int .i64 r.id, .int .i64 r.clock, .int .i64 z, .slice ab nb cb, .slice ac nc cc, .slice ad nd cd, .slice ae ne ce, .slice ao no co, .slice au nu cu, .bool r.lost] 64
  go_enter Tryz.func65, Tryz.ntmps65
  go_wp2_with fail
  generalize (w.alloc (.cells #[.int .i64 r.id, .int .i64 r.clock, .int .i64 z, .slice ab nb cb, .slice ac nc cc, .slice ad nd cd, .slice ae ne ce, .slice ao no co, .slice au nu cu, .bool r.lost] 64)) = wa at *
  refine (unhide HS _ hA).mono ?_
  rintro e w1 ⟨rfl, hB⟩
  have hA1 := bstep hA hB
  replace l0 := l0.all hB
  clear hA hB HS
  obtain ⟨x0, x1, x2, x3, x4, x5, x6, x7, x8, x9⟩ := l0.ten
  cases hs : sb with
  | false =>
    go_wp2_with fail
    go_ret
    exact ⟨by rw [hs]; rfl, hA1⟩
  | true =>
  by_cases q1 : 0 ≤ r.clock
  case neg =>
    have d1 : decide (0 ≤ r.clock) = false := by simpa using q1
    go_wp2_with fail
    go_ret
    exact ⟨by rw [hs, d1]; rfl, hA1⟩
  have d1 : decide (0 ≤ r.clock) = true := by simpa using q1
  by_cases q2 : r.clock ≤ 1000000
  case neg =>
    have d2 : decide (r.clock ≤ 1000000) = false := by simpa using q2
    go_wp2_with fail
    go_ret
    exact ⟨by rw [hs, d1, d2]; rfl, hA1⟩
  have d2 : decide (r.clock ≤ 1000000) = true := by simpa using q2
  go_wp2_with fail
  clear x0 x1 x2 x3 x4 x5 x6 x7 x8 x9
  refine (unhide HO _ hA1).mono ?_
  rintro e w2 ⟨rfl, hB⟩
  have hA2 := bstep hA1 hB
  replace l0 := l0.all hB
  clear hA1 hB HO
  obtain ⟨x0, x1, x2, x3, x4, x5, x6, x7, x8, x9⟩ := l0.ten
  cases ho : ob with
  | false =>
    go_wp2_with fail
    go_ret
    exact ⟨by rw [hs, d1, d2, ho]; rfl, hA2⟩
  | true =>
  go_wp2_with fail
  clear x0 x1 x2 x3 x4 x5 x6 x7 x8 x9
  refine (unhide HT _ hA2).mono ?_
  rintro e w3 ⟨rfl, hB⟩
  have hA3 := bstep hA2 hB
  replace l0 := l0.all hB
  clear hA2 hB HT
  obtain ⟨x0, x1, x2, x3, x4, x5, x6, x7, x8, x9⟩ := l0.ten
  cases ht : tb with
  | false =>
    go_wp2_with fail
    go_ret
    exact ⟨by rw [hs, d1, d2, ho, ht]; rfl, hA3⟩
  | true =>
  go_wp2_with fail
  clear x0 x1 x2 x3 x4 x5 x6 x7 x8 x9
  refine (unhide HU _ hA3).mono ?_
  rintro e w4 ⟨rfl, hB⟩
  have hA4 := bstep hA3 hB
  go_wp2_with fail
  go_ret
  exact ⟨by rw [hs, d1, d2, ho, ht]; rfl, hA4⟩
end Go.Proofs.YtkmmhlimihkgfaaGreat

/- impl.Hear. -/
namespace Go.Proofs.YtkmmhlimihkgfaaGreat
open Go.RowKit
set_option linter.unusedVariables false
set_option maxRecDepth 100000

theorem hearR_all {n : Nat} (r : RepV n) (o : OpV) : hearR r o = { r with ops := putL r.ops o, clock := if putOk r.ops o then max r.clock o.atN else r.clock, lost := if putOk r.ops o then r.lost else true } := by
  cases h : putOk r.ops o with
  | false => rw [hearR_no h, putL_no h]; rfl
  | true => rw [hearR_max h]; rfl

set_option maxHeartbeats 12800000 in
theorem hearI_any (n : Nat) (w : World) (a b c d e vo vu vop : Value) (r : RepV n) (o : OpV) (h : RdRep n w a b c d e vo vu r) (ho : RdOp w vop o) (hsz : szT (n + 1) r.first ≤ 2097152) (hs : szO o ≤ 2097152) (hls : ∀ x ∈ r.ops, szO x ≤ 2097152) :
    Calls Tryz.prog 25 #[repVal r a b c d e vo vu, vop] w fun e' w' => ∃ (zk : Int) (pk : Option Addr) (npk cpk : Nat) (qk : Option Addr) (nqk cqk : Nat) (rk : Option Addr) (nrk crk : Nat) (uk : Option Addr) (nuk cuk : Nat) (ok : Option Addr) (nok cok : Nat) (ik : Option Addr) (nik cik : Nat), e' = .returned (.tuple #[repVal (hearV r o) (.int .i64 zk) (.slice pk npk cpk) (.slice qk nqk cqk) (.slice rk nrk crk) (.slice uk nuk cuk) (.slice ok nok cok) (.slice ik nik cik), .bool (hearB r o)]) ∧ ∃ F, OwRep n w' (.int .i64 zk) (.slice pk npk cpk) (.slice qk nqk cqk) (.slice rk nrk crk) (.slice uk nuk cuk) (.slice ok nok cok) (.slice ik nik cik) (hearV r o) F ∧ F.Nodup ∧ Rng F w.heap.size w'.heap.size ∧ Below w.heap.size w w' := by
  have HN := hide (fun W (hW : Below w.heap.size w W) => repI_any n W _ _ _ _ _ _ _ r (h.keep hW) hsz)
  have HO := hide (fun W (hW : Below w.heap.size w W) => opI_any W _ o (ho.keep hW))
  have HC := hide (fun (hl : r.ops.length ≤ 150) (hm : r.und.length ≤ 150) W (hW : Below w.heap.size w W) => copyRep_any n W _ _ _ _ _ _ _ r (h.keep hW) hsz (by omega) (fun x hx => by have := hls x hx; omega) (by omega))
  have HP := hide (fun (hc : opsB r.ops = true) (hb : opB o = true) W (hW : Below w.heap.size w W) g id clk y2 y3 y4 y5 y6 y8 oa oc lost F hg hF hN hgF => hearInto_any W g id clk y2 y3 y4 y5 y6 y8 oa oc lost _ r.ops o F hg hF hN hgF hc (ho.keep hW) hb hs hls)
  obtain ⟨za, pa, npa, cpa, qa, nqa, cqa, ra, nra, cra, ua, nua, cua, rfl, rfl, rfl, rfl, rfl⟩ := rd5 h.1
  obtain ⟨oa, oc, rfl, _, _⟩ := Elems.shape h.2.1
  obtain ⟨ia, ic, rfl, _, _⟩ := Elems.shape h.2.2
  obtain ⟨k, nn, t, rfl, hk0, hn0, ht0⟩ := ho
  obtain ⟨a1, c1, rfl, _, _⟩ := hk0.shape
  obtain ⟨a2, c2, rfl, _, _⟩ := hn0.shape
  obtain ⟨a3, c3, rfl, _, _⟩ := ht0.shape
  obtain ⟨l0, l1, l2, hA, hs3⟩ := threeH w #[.int .i64 r.id, .int .i64 r.clock, .int .i64 za, .slice pa npa cpa, .slice qa nqa cqa, .slice ra nra cra, .slice ua nua cua, .slice oa r.ops.length oc, .slice ia r.und.length ic, .bool r.lost] #[.int .i64 o.kind, .int .i64 o.atN, .int .i64 o.atR, .int .i64 o.nodeN, .int .i64 o.nodeR, .int .i64 o.parN, .int .i64 o.parR, .slice a1 o.key.length c1, .int .i64 o.elem, .slice a2 o.name.length c2, .slice a3 o.text.length c3, .bool o.gone] #[.int .i64 0, .int .i64 0, .int .i64 0, .slice none 0 0, .slice none 0 0, .slice none 0 0, .slice none 0 0, .slice none 0 0, .slice none 0 0, .bool false] 64 28 64
  clear h hk0 hn0 ht0 hs hls hsz
  unfold opVal at HO HP
  unfold repVal at HN HC
  unfold repVal opVal
  go_enter Tryz.func25, Tryz.ntmps25
  go_wp2_with fail
  generalize (((w.alloc (.cells #[.int .i64 r.id, .int .i64 r.clock, .int .i64 za, .slice pa npa cpa, .slice qa nqa cqa, .slice ra nra cra, .slice ua nua cua, .slice oa r.ops.length oc, .slice ia r.und.length ic, .bool r.lost] 64)).alloc (.cells #[.int .i64 o.kind, .int .i64 o.atN, .int .i64 o.atR, .int .i64 o.nodeN, .int .i64 o.nodeR, .int .i64 o.parN, .int .i64 o.parR, .slice a1 o.key.length c1, .int .i64 o.elem, .slice a2 o.name.length c2, .slice a3 o.text.length c3, .bool o.gone] 28)).alloc (.cells #[.int .i64 0, .int .i64 0, .int .i64 0, .slice none 0 0, .slice none 0 0, .slice none 0 0, .slice none 0 0, .slice none 0 0, .slice none 0 0, .bool false] 64)) = wa at *
  refine (unhide HN _ hA).mono ?_
  rintro e w1 ⟨rfl, hB⟩
  have hD := bstep hA hB
  replace l0 := l0.all hB
  replace l1 := l1.all hB
  replace l2 := l2.all hB
  clear hA hB HN
  cases hb : repB r with
  | false =>
    have HV := hide (show hearV r o = zeroR n by unfold hearV; rw [hb]; rfl)
    have HW := hide (show hearB r o = false by unfold hearB; rw [hb]; rfl)
    obtain ⟨lX, fX⟩ := store10r l2 (.int .i64 0) (.int .i64 0) (.int .i64 0) (.slice none 0 0) (.slice none 0 0) (.slice none 0 0) (.slice none 0 0) (.slice none 0 0) (.slice none 0 0) (.bool false)
    have bX := hD.trans (fX.below hD.size (fun g hg => by simp at hg; omega))
    have HF := hide bX
    obtain ⟨y0, y1, y2, y3, y4, y5, y6, y7, y8, y9⟩ := l2.ten
    have j0 := l2.frozen 0
    have j1 := l2.frozen 1
    have j2 := l2.frozen 2
    have j3 := l2.frozen 3
    have j4 := l2.frozen 4
    have j5 := l2.frozen 5
    have j6 := l2.frozen 6
    have j7 := l2.frozen 7
    have j8 := l2.frozen 8
    have j9 := l2.frozen 9
    obtain ⟨g0, g1, g2, g3, g4, g5, g6, g7, g8, g9⟩ := lX.ten
    clear lX fX bX l0 l1 l2 hD
    go_wp2_with fail
    exact bodyPost_ret (v := .tuple #[.agg #[.int .i64 0, .int .i64 0, .int .i64 0, .slice none 0 0, .slice none 0 0, .slice none 0 0, .slice none 0 0, .slice none 0 0, .slice none 0 0, .bool false], .bool false]) (by simp [results, Tryz.results25, go_sem, g0, g1, g2, g3, g4, g5, g6, g7, g8, g9]) rfl ⟨0, none, 0, 0, none, 0, 0, none, 0, 0, none, 0, 0, none, 0, 0, none, 0, 0, by rw [unhide HV, unhide HW]; rfl, [], by rw [unhide HV]; exact zeroR_own n _, List.nodup_nil, Rng.nil _ _, unhide HF⟩
  | true =>
  obtain ⟨x0, x1, x2, x3, x4, x5, x6, x7, x8, x9, x10, x11⟩ := l1.twelve
  go_wp2_with fail
  clear x0 x1 x2 x3 x4 x5 x6 x7 x8 x9 x10 x11
  refine (unhide HO _ hD).mono ?_
  rintro e w2 ⟨rfl, hB⟩
  replace hD := bstep hD hB
  replace l0 := l0.all hB
  replace l1 := l1.all hB
  replace l2 := l2.all hB
  clear hB HO
  cases hc : opB o with
  | false =>
    have HV := hide (show hearV r o = zeroR n by unfold hearV; rw [hb, hc]; rfl)
    have HW := hide (show hearB r o = false by unfold hearB; rw [hb, hc]; rfl)
    obtain ⟨lX, fX⟩ := store10r l2 (.int .i64 0) (.int .i64 0) (.int .i64 0) (.slice none 0 0) (.slice none 0 0) (.slice none 0 0) (.slice none 0 0) (.slice none 0 0) (.slice none 0 0) (.bool false)
    have bX := hD.trans (fX.below hD.size (fun g hg => by simp at hg; omega))
    have HF := hide bX
    obtain ⟨y0, y1, y2, y3, y4, y5, y6, y7, y8, y9⟩ := l2.ten
    have j0 := l2.frozen 0
    have j1 := l2.frozen 1
    have j2 := l2.frozen 2
    have j3 := l2.frozen 3
    have j4 := l2.frozen 4
    have j5 := l2.frozen 5
    have j6 := l2.frozen 6
    have j7 := l2.frozen 7
    have j8 := l2.frozen 8
    have j9 := l2.frozen 9
    obtain ⟨g0, g1, g2, g3, g4, g5, g6, g7, g8, g9⟩ := lX.ten
    clear lX fX bX l0 l1 l2 hD
    go_wp2_with fail
    exact bodyPost_ret (v := .tuple #[.agg #[.int .i64 0, .int .i64 0, .int .i64 0, .slice none 0 0, .slice none 0 0, .slice none 0 0, .slice none 0 0, .slice none 0 0, .slice none 0 0, .bool false], .bool false]) (by simp [results, Tryz.results25, go_sem, g0, g1, g2, g3, g4, g5, g6, g7, g8, g9]) rfl ⟨0, none, 0, 0, none, 0, 0, none, 0, 0, none, 0, 0, none, 0, 0, none, 0, 0, by rw [unhide HV, unhide HW]; rfl, [], by rw [unhide HV]; exact zeroR_own n _, List.nodup_nil, Rng.nil _ _, unhide HF⟩
  | true =>
  have HV := hide (show hearV r o = hearR r o by unfold hearV; rw [hb, hc]; rfl)
  have HW := hide (show hearB r o = putOk r.ops o by unfold hearB; rw [hb, hc]; rfl)
  have hob := repB_ops hb
  have hl := opsB_len hob
  have hm := repB_und hb
  replace HP := hide (unhide HP hob hc)
  clear hob hb hc
  obtain ⟨x0, x1, x2, x3, x4, x5, x6, x7, x8, x9⟩ := l0.ten
  go_wp2_with fail
  clear x0 x1 x2 x3 x4 x5 x6 x7 x8 x9
  refine (unhide HC hl hm _ hD).mono ?_
  rintro e w3 ⟨zk, pk, npk, cpk, qk, nqk, cqk, rk, nrk, crk, uk, nuk, cuk, ok, kk, ik, jk, rfl, F, ho', nd', rg', hB⟩
  have hlow : w.heap.size + 3 ≤ w2.heap.size := l2.lt
  replace hD := bstep hD hB
  replace l0 := l0.all hB
  replace l1 := l1.all hB
  replace l2 := l2.all hB
  have l6 := Loc.made w3 #[.int .i64 r.id, .int .i64 r.clock, .int .i64 zk, .slice pk npk cpk, .slice qk nqk cqk, .slice rk nrk crk, .slice uk nuk cuk, .slice ok r.ops.length kk, .slice ik r.und.length jk, .bool r.lost] 64
  have b34 : Below w3.heap.size w3 (w3.alloc (.cells #[.int .i64 r.id, .int .i64 r.clock, .int .i64 zk, .slice pk npk cpk, .slice qk nqk cqk, .slice rk nrk crk, .slice uk nuk cuk, .slice ok r.ops.length kk, .slice ik r.und.length jk, .bool r.lost] 64)) := (Below.refl _ _).alloc (Nat.le_refl _) _
  have hb6 : w.heap.size + 2 < w3.heap.size := l2.lt
  replace hD := bstep hD b34
  replace l0 := l0.all b34
  replace l1 := l1.all b34
  replace l2 := l2.all b34
  have oR := ho'.keep b34
  have rgF := rg'.mono hlow (Nat.le_refl _)
  have HOW := hide (And.intro oR (And.intro nd' rgF))
  have HL := hide (And.intro l0 (And.intro l1 (And.intro l2 (And.intro l6 hD))))
  clear b34 hB HC ho' rg' oR rgF nd' l0 l1 l2 l6 hD
  go_upto_region 4 with fail
  generalize (w3.alloc (.cells #[.int .i64 r.id, .int .i64 r.clock, .int .i64 zk, .slice pk npk cpk, .slice qk nqk cqk, .slice rk nrk crk, .slice uk nuk cuk, .slice ok r.ops.length kk, .slice ik r.und.length jk, .bool r.lost] 64)) = w4 at *
  obtain ⟨l0, l1, l2, l6, hD⟩ := unhide HL
  clear HL
  obtain ⟨oR, nd1, rg1⟩ := unhide HOW
  clear HOW
  obtain ⟨F1, Fo, F3, q1, q2, q3, rfl⟩ := oR
  have n12 := List.nodup_append.1 nd1
  have n1 := List.nodup_append.1 n12.1
  have rf1 : ∀ g ∈ F1, w.heap.size + 3 ≤ g ∧ g < w3.heap.size := fun g hg => rg1 g (List.mem_append_left _ (List.mem_append_left _ hg))
  have rfo : ∀ g ∈ Fo, w.heap.size + 3 ≤ g ∧ g < w3.heap.size := fun g hg => rg1 g (List.mem_append_left _ (List.mem_append_right _ hg))
  have rf3 : ∀ g ∈ F3, w.heap.size + 3 ≤ g ∧ g < w3.heap.size := fun g hg => rg1 g (List.mem_append_right _ hg)
  have h46 : w3.heap.size < w4.heap.size := l6.lt
  have hFv := q2.sub
  obtain ⟨z0, z1, z2, z3, z4, z5, z6, z7, z8, z9, z10, z11⟩ := l1.twelve
  go_wp2_with fail
  clear z0 z1 z2 z3 z4 z5 z6 z7 z8 z9 z10 z11
  refine (unhide HP _ hD _ _ _ _ _ _ _ _ _ _ _ _ Fo l6 q2 n1.2.1 (fun h => by have := (rfo _ h).2; omega)).mono ?_
  rintro e w5 ⟨rfl, au, cu, F2, hu, nd2, hsub, l6', hf⟩
  obtain ⟨ck, hck⟩ : ∃ x, x = (if putOk r.ops o then max r.clock o.atN else r.clock) := ⟨_, rfl⟩
  obtain ⟨lo, hlo⟩ : ∃ x, x = (if putOk r.ops o then r.lost else true) := ⟨_, rfl⟩
  rw [← hck, ← hlo] at l6'
  have HE := hide (show hearR r o = { r with ops := putL r.ops o, clock := ck, lost := lo } by rw [hck, hlo]; exact hearR_all r o)
  clear hck hlo
  generalize putOk r.ops o = pok at *
  have h45 := hf.size
  have hnot : ∀ q, q ∉ Fo → q < w3.heap.size → q ∉ w3.heap.size :: FB (.slice ok r.ops.length kk) := fun q h1 h2 h3 => by
    rcases List.mem_cons.1 h3 with h | h
    · omega
    · exact h1 (hFv _ h)
  have l2' := l2.frm hf (hnot _ (fun h => by have := (rfo _ h).1; omega) (by omega))
  have d1 : ∀ g ∈ F1, g ∉ Fo := fun g h1 h2 => n1.2.2 g h1 g h2 rfl
  have d3 : ∀ g ∈ F3, g ∉ Fo := fun g h1 h2 => n12.2.2 g (List.mem_append_right _ h2) g h1 rfl
  have p1 := q1.frm hf (fun g hg => hnot g (d1 g hg) (rf1 g hg).2)
  have p3 := OwIds.frm q3 hf (fun g hg => hnot g (d3 g hg) (rf3 g hg).2)
  have hD5 := hD.trans (hf.below hD.size (fun q hq => by
    rcases List.mem_cons.1 hq with h | h
    · omega
    · have := (rfo _ (hFv _ h)).1; omega))
  have rf2 : ∀ q ∈ F2, w.heap.size + 3 ≤ q ∧ q < w5.heap.size := fun q hq => by
    rcases hsub q hq with h | h
    · have := rfo q h; omega
    · omega
  have ndX : (F1 ++ F2 ++ F3).Nodup := by
    refine List.nodup_append.2 ⟨List.nodup_append.2 ⟨n1.1, nd2, fun a ha b hb e => ?_⟩, n12.2.1, fun a ha b hb e => ?_⟩
    · subst e
      rcases hsub a hb with h | h
      · exact d1 a ha h
      · have := (rf1 a ha).2; omega
    · subst e
      rcases List.mem_append.1 ha with ha | ha
      · exact n12.2.2 a (List.mem_append_left _ ha) a hb rfl
      · rcases hsub a ha with h | h
        · exact d3 a hb h
        · have := (rf3 a hb).2; omega
  obtain ⟨lX, fX⟩ := store10r l2' (.int .i64 r.id) (.int .i64 ck) (.int .i64 zk) (.slice pk npk cpk) (.slice qk nqk cqk) (.slice rk nrk crk) (.slice uk nuk cuk) (.slice au (putL r.ops o).length cu) (.slice ik r.und.length jk) (.bool lo)
  have e1 : ∀ g ∈ F1, g ∉ [w.heap.size + 2] := fun g hg hg' => by have := rf1 g hg; simp at hg'; omega
  have e2 : ∀ g ∈ F2, g ∉ [w.heap.size + 2] := fun g hg hg' => by have := rf2 g hg; simp at hg'; omega
  have e3 : ∀ g ∈ F3, g ∉ [w.heap.size + 2] := fun g hg hg' => by have := rf3 g hg; simp at hg'; omega
  have hsX := fX.size
  have rX : ∀ g ∈ F1 ++ F2 ++ F3, w.heap.size ≤ g ∧ g < w5.heap.size := fun g hg => by
    rcases List.mem_append.1 hg with hg | hg
    · rcases List.mem_append.1 hg with hg | hg
      · have := rf1 g hg; omega
      · have := rf2 g hg; omega
    · have := rf3 g hg; omega
  have HF := hide (And.intro (p1.frm fX e1) (And.intro (OwOps.frm hu fX e2) (And.intro (OwIds.frm p3 fX e3) (And.intro ndX (And.intro (Rng.mono rX (Nat.le_refl _) hsX) (hD5.trans (fX.below hD5.size (fun g hg => by simp at hg; omega))))))))
  obtain ⟨x0, x1, x2, x3, x4, x5, x6, x7, x8, x9⟩ := l6'.ten
  obtain ⟨y0, y1, y2, y3, y4, y5, y6, y7, y8, y9⟩ := l2'.ten
  have j0 := l2'.frozen 0
  have j1 := l2'.frozen 1
  have j2 := l2'.frozen 2
  have j3 := l2'.frozen 3
  have j4 := l2'.frozen 4
  have j5 := l2'.frozen 5
  have j6 := l2'.frozen 6
  have j7 := l2'.frozen 7
  have j8 := l2'.frozen 8
  have j9 := l2'.frozen 9
  obtain ⟨g0, g1, g2, g3, g4, g5, g6, g7, g8, g9⟩ := lX.ten
  have hne : ¬ w3.heap.size = w.heap.size + 2 := by omega
  clear lX fX p1 p3 hu q1 q2 q3 rX e1 e2 e3 hD hD5 hf l0 l1 l2 l2' l6 l6' n12 n1 nd1 nd2 ndX rg1 rf1 rf2 rf3 rfo hsub hnot hFv d1 d3 HP hsX
  go_wp2_with fail
  obtain ⟨k1, k2, k3, ndX, rX, bX⟩ := unhide HF
  exact bodyPost_ret (v := .tuple #[.agg #[.int .i64 r.id, .int .i64 ck, .int .i64 zk, .slice pk npk cpk, .slice qk nqk cqk, .slice rk nrk crk, .slice uk nuk cuk, .slice au (putL r.ops o).length cu, .slice ik r.und.length jk, .bool lo], .bool pok]) (by simp [results, Tryz.results25, go_sem, g0, g1, g2, g3, g4, g5, g6, g7, g8, g9]) rfl ⟨zk, pk, npk, cpk, qk, nqk, cqk, rk, nrk, crk, uk, nuk, cuk, au, _, cu, ik, _, jk, by rw [unhide HV, unhide HE, unhide HW], _, by rw [unhide HV, unhide HE]; exact ⟨F1, F2, F3, k1, k2, k3, rfl⟩, ndX, rX, bX⟩
end Go.Proofs.YtkmmhlimihkgfaaGreat

/- spec.l6hear. -/
namespace Go.Proofs.YtkmmhlimihkgfaaGreat
open Go.RowKit
set_option linter.unusedVariables false
set_option maxRecDepth 100000

set_option maxHeartbeats 12800000 in
theorem l6hear_any (n : Nat) (w : World) (a b c d e vo vu vop : Value) (r : RepV n) (o : OpV) (h : RdRep n w a b c d e vo vu r) (ho : RdOp w vop o) (hl : r.ops.length ≤ 150) (hk : o.key.length ≤ 2097152) (hkl : ∀ x ∈ r.ops, x.key.length ≤ 2097152) :
    Calls Tryz.prog 61 #[repVal r a b c d e vo vu, vop] w fun e' w' => ∃ u, e' = .returned (.tuple #[repVal (hearR r o) a b c d e u vu, .bool (putOk r.ops o)]) ∧ RdRep n w' a b c d e u vu (hearR r o) ∧ Below w.heap.size w w' := by
  have HP := hide (fun W (hW : Below w.heap.size w W) => l5put_sh w W hW _ _ r.ops o h.2.1 ho hl hk hkl)
  have HRR := hide h
  obtain ⟨za, pa, npa, cpa, qa, nqa, cqa, ra, nra, cra, ua, nua, cua, rfl, rfl, rfl, rfl, rfl⟩ := rd5 h.1
  obtain ⟨oa, oc, rfl, _, _⟩ := Elems.shape h.2.1
  obtain ⟨ia, ic, rfl, _, _⟩ := Elems.shape h.2.2
  obtain ⟨k, nn, t, rfl, hk0, hn0, ht0⟩ := ho
  obtain ⟨a1, c1, rfl, _, _⟩ := hk0.shape
  obtain ⟨a2, c2, rfl, _, _⟩ := hn0.shape
  obtain ⟨a3, c3, rfl, _, _⟩ := ht0.shape
  obtain ⟨l0, l1, l2, hA, hsz⟩ := threeH w #[.int .i64 r.id, .int .i64 r.clock, .int .i64 za, .slice pa npa cpa, .slice qa nqa cqa, .slice ra nra cra, .slice ua nua cua, .slice oa r.ops.length oc, .slice ia r.und.length ic, .bool r.lost] #[.int .i64 o.kind, .int .i64 o.atN, .int .i64 o.atR, .int .i64 o.nodeN, .int .i64 o.nodeR, .int .i64 o.parN, .int .i64 o.parR, .slice a1 o.key.length c1, .int .i64 o.elem, .slice a2 o.name.length c2, .slice a3 o.text.length c3, .bool o.gone] #[.int .i64 0, .int .i64 0, .int .i64 0, .slice none 0 0, .slice none 0 0, .slice none 0 0, .slice none 0 0, .slice none 0 0, .slice none 0 0, .bool false] 64 28 64
  clear h hk0 hn0 ht0 hk hkl
  unfold opVal at HP
  unfold repVal opVal
  go_enter Tryz.func61, Tryz.ntmps61
  go_wp2_with fail
  generalize (((w.alloc (.cells #[.int .i64 r.id, .int .i64 r.clock, .int .i64 za, .slice pa npa cpa, .slice qa nqa cqa, .slice ra nra cra, .slice ua nua cua, .slice oa r.ops.length oc, .slice ia r.und.length ic, .bool r.lost] 64)).alloc (.cells #[.int .i64 o.kind, .int .i64 o.atN, .int .i64 o.atR, .int .i64 o.nodeN, .int .i64 o.nodeR, .int .i64 o.parN, .int .i64 o.parR, .slice a1 o.key.length c1, .int .i64 o.elem, .slice a2 o.name.length c2, .slice a3 o.text.length c3, .bool o.gone] 28)).alloc (.cells #[.int .i64 0, .int .i64 0, .int .i64 0, .slice none 0 0, .slice none 0 0, .slice none 0 0, .slice none 0 0, .slice none 0 0, .slice none 0 0, .bool false] 64)) = wa at *
  refine (unhide HP _ hA).mono ?_
  rintro e w1 ⟨u, rfl, hpu, hB⟩
  obtain ⟨pu, cu, rfl⟩ := hpu.shape (unhide HRR).2.1
  have hD := bstep hA hB
  replace l0 := l0.all hB
  replace l1 := l1.all hB
  replace l2 := l2.all hB
  rw [hsz] at hpu
  have HPU := hide hpu
  clear hpu hA hB HP
  cases hkk : putOk r.ops o with
  | false =>
    have HE := hide (hearR_no hkk)
    have l00 : Loc (w1.setCell ⟨w.heap.size, 9, none⟩ (.bool true)) w.heap.size #[.int .i64 r.id, .int .i64 r.clock, .int .i64 za, .slice pa npa cpa, .slice qa nqa cqa, .slice ra nra cra, .slice ua nua cua, .slice oa r.ops.length oc, .slice ia r.und.length ic, .bool true] 64 := l0.set 9 (.bool true)
    have l20 := l2.other w.heap.size 9 (.bool true) (by omega)
    have ff0 := set_frm w1 w.heap.size 9 (.bool true)
    obtain ⟨lX, fX⟩ := store10r l20 (.int .i64 r.id) (.int .i64 r.clock) (.int .i64 za) (.slice pa npa cpa) (.slice qa nqa cqa) (.slice ra nra cra) (.slice ua nua cua) (.slice oa r.ops.length oc) (.slice ia r.und.length ic) (.bool true)
    have fA := fX.mono (S' := [w.heap.size, w.heap.size + 2]) (fun g hg => by simp at hg; simp [hg])
    replace fA := (ff0.mono (S' := [w.heap.size, w.heap.size + 2]) (fun g hg => by simp at hg; simp [hg])).trans fA
    have bX := hD.trans (fA.below hD.size (fun g hg => by simp at hg; omega))
    have HF := hide (And.intro bX fA)
    obtain ⟨x0, x1, x2, x3, x4, x5, x6, x7, x8, x9⟩ := l0.ten
    obtain ⟨y0, y1, y2, y3, y4, y5, y6, y7, y8, y9⟩ := l2.ten
    have z1 : w1.cell? ⟨w.heap.size + 1, 1, none⟩ = some (.int .i64 o.atN) := l1.cell 1
    have i9 := l0.frozen 9
    have j0 := l2.frozen 0
    have j1 := l2.frozen 1
    have j2 := l2.frozen 2
    have j3 := l2.frozen 3
    have j4 := l2.frozen 4
    have j5 := l2.frozen 5
    have j6 := l2.frozen 6
    have j7 := l2.frozen 7
    have j8 := l2.frozen 8
    have j9 := l2.frozen 9
    obtain ⟨g0, g1, g2, g3, g4, g5, g6, g7, g8, g9⟩ := lX.ten
    clear lX fX fA bX l0 l1 l2 hD l00 l20 ff0
    go_wp2_with fail
    obtain ⟨bX, fA⟩ := unhide HF
    exact bodyPost_ret (v := .tuple #[.agg #[.int .i64 r.id, .int .i64 r.clock, .int .i64 za, .slice pa npa cpa, .slice qa nqa cqa, .slice ra nra cra, .slice ua nua cua, .slice oa r.ops.length oc, .slice ia r.und.length ic, .bool true], .bool false]) (by simp [results, Tryz.results61, go_sem, g0, g1, g2, g3, g4, g5, g6, g7, g8, g9]) rfl ⟨_, by rw [unhide HE, hkk], by rw [unhide HE]; exact ⟨(unhide HRR).1.keep bX, (unhide HRR).2.1.keep bX, (unhide HRR).2.2.keep bX⟩, bX⟩
  | true =>
    by_cases p : r.clock < o.atN
    · have HE := hide (hearR_gt hkk p)
      have l00 : Loc (w1.setCell ⟨w.heap.size, 7, none⟩ (.slice pu (putL r.ops o).length cu)) w.heap.size #[.int .i64 r.id, .int .i64 r.clock, .int .i64 za, .slice pa npa cpa, .slice qa nqa cqa, .slice ra nra cra, .slice ua nua cua, .slice pu (putL r.ops o).length cu, .slice ia r.und.length ic, .bool r.lost] 64 := l0.set 7 (.slice pu (putL r.ops o).length cu)
      have l20 := l2.other w.heap.size 7 (.slice pu (putL r.ops o).length cu) (by omega)
      have ff0 := set_frm w1 w.heap.size 7 (.slice pu (putL r.ops o).length cu)
      have l01 : Loc ((w1.setCell ⟨w.heap.size, 7, none⟩ (.slice pu (putL r.ops o).length cu)).setCell ⟨w.heap.size, 1, none⟩ (.int .i64 o.atN)) w.heap.size #[.int .i64 r.id, .int .i64 o.atN, .int .i64 za, .slice pa npa cpa, .slice qa nqa cqa, .slice ra nra cra, .slice ua nua cua, .slice pu (putL r.ops o).length cu, .slice ia r.und.length ic, .bool r.lost] 64 := l00.set 1 (.int .i64 o.atN)
      have l21 := l20.other w.heap.size 1 (.int .i64 o.atN) (by omega)
      have ff1 := set_frm (w1.setCell ⟨w.heap.size, 7, none⟩ (.slice pu (putL r.ops o).length cu)) w.heap.size 1 (.int .i64 o.atN)
      obtain ⟨lX, fX⟩ := store10r l21 (.int .i64 r.id) (.int .i64 o.atN) (.int .i64 za) (.slice pa npa cpa) (.slice qa nqa cqa) (.slice ra nra cra) (.slice ua nua cua) (.slice pu (putL r.ops o).length cu) (.slice ia r.und.length ic) (.bool r.lost)
      have fA := fX.mono (S' := [w.heap.size, w.heap.size + 2]) (fun g hg => by simp at hg; simp [hg])
      replace fA := (ff1.mono (S' := [w.heap.size, w.heap.size + 2]) (fun g hg => by simp at hg; simp [hg])).trans fA
      replace fA := (ff0.mono (S' := [w.heap.size, w.heap.size + 2]) (fun g hg => by simp at hg; simp [hg])).trans fA
      have bX := hD.trans (fA.below hD.size (fun g hg => by simp at hg; omega))
      have HF := hide (And.intro bX fA)
      obtain ⟨x0, x1, x2, x3, x4, x5, x6, x7, x8, x9⟩ := l0.ten
      obtain ⟨y0, y1, y2, y3, y4, y5, y6, y7, y8, y9⟩ := l2.ten
      have z1 : w1.cell? ⟨w.heap.size + 1, 1, none⟩ = some (.int .i64 o.atN) := l1.cell 1
      have i7 := l0.frozen 7
      have i1 := l0.frozen 1
      have j0 := l2.frozen 0
      have j1 := l2.frozen 1
      have j2 := l2.frozen 2
      have j3 := l2.frozen 3
      have j4 := l2.frozen 4
      have j5 := l2.frozen 5
      have j6 := l2.frozen 6
      have j7 := l2.frozen 7
      have j8 := l2.frozen 8
      have j9 := l2.frozen 9
      obtain ⟨g0, g1, g2, g3, g4, g5, g6, g7, g8, g9⟩ := lX.ten
      clear lX fX fA bX l0 l1 l2 hD l00 l20 ff0 l01 l21 ff1
      go_wp2_with fail
      obtain ⟨bX, fA⟩ := unhide HF
      exact bodyPost_ret (v := .tuple #[.agg #[.int .i64 r.id, .int .i64 o.atN, .int .i64 za, .slice pa npa cpa, .slice qa nqa cqa, .slice ra nra cra, .slice ua nua cua, .slice pu (putL r.ops o).length cu, .slice ia r.und.length ic, .bool r.lost], .bool true]) (by simp [results, Tryz.results61, go_sem, g0, g1, g2, g3, g4, g5, g6, g7, g8, g9]) rfl ⟨_, by rw [unhide HE, hkk], by rw [unhide HE]; exact ⟨(unhide HRR).1.keep bX, (unhide HPU).rd (unhide HRR).2.1 bX fA (fun g hg => by simp at hg; omega), (unhide HRR).2.2.keep bX⟩, bX⟩
    · have HE := hide (hearR_le hkk p)
      have q : ¬ o.atN > r.clock := p
      have q2 : decide (r.clock < o.atN) = false := by simpa using p
      clear p
      have l00 : Loc (w1.setCell ⟨w.heap.size, 7, none⟩ (.slice pu (putL r.ops o).length cu)) w.heap.size #[.int .i64 r.id, .int .i64 r.clock, .int .i64 za, .slice pa npa cpa, .slice qa nqa cqa, .slice ra nra cra, .slice ua nua cua, .slice pu (putL r.ops o).length cu, .slice ia r.und.length ic, .bool r.lost] 64 := l0.set 7 (.slice pu (putL r.ops o).length cu)
      have l20 := l2.other w.heap.size 7 (.slice pu (putL r.ops o).length cu) (by omega)
      have ff0 := set_frm w1 w.heap.size 7 (.slice pu (putL r.ops o).length cu)
      obtain ⟨lX, fX⟩ := store10r l20 (.int .i64 r.id) (.int .i64 r.clock) (.int .i64 za) (.slice pa npa cpa) (.slice qa nqa cqa) (.slice ra nra cra) (.slice ua nua cua) (.slice pu (putL r.ops o).length cu) (.slice ia r.und.length ic) (.bool r.lost)
      have fA := fX.mono (S' := [w.heap.size, w.heap.size + 2]) (fun g hg => by simp at hg; simp [hg])
      replace fA := (ff0.mono (S' := [w.heap.size, w.heap.size + 2]) (fun g hg => by simp at hg; simp [hg])).trans fA
      have bX := hD.trans (fA.below hD.size (fun g hg => by simp at hg; omega))
      have HF := hide (And.intro bX fA)
      obtain ⟨x0, x1, x2, x3, x4, x5, x6, x7, x8, x9⟩ := l0.ten
      obtain ⟨y0, y1, y2, y3, y4, y5, y6, y7, y8, y9⟩ := l2.ten
      have z1 : w1.cell? ⟨w.heap.size + 1, 1, none⟩ = some (.int .i64 o.atN) := l1.cell 1
      have i7 := l0.frozen 7
      have j0 := l2.frozen 0
      have j1 := l2.frozen 1
      have j2 := l2.frozen 2
      have j3 := l2.frozen 3
      have j4 := l2.frozen 4
      have j5 := l2.frozen 5
      have j6 := l2.frozen 6
      have j7 := l2.frozen 7
      have j8 := l2.frozen 8
      have j9 := l2.frozen 9
      obtain ⟨g0, g1, g2, g3, g4, g5, g6, g7, g8, g9⟩ := lX.ten
      clear lX fX fA bX l0 l1 l2 hD l00 l20 ff0
      go_wp2_with fail
      obtain ⟨bX, fA⟩ := unhide HF
      exact bodyPost_ret (v := .tuple #[.agg #[.int .i64 r.id, .int .i64 r.clock, .int .i64 za, .slice pa npa cpa, .slice qa nqa cqa, .slice ra nra cra, .slice ua nua cua, .slice pu (putL r.ops o).length cu, .slice ia r.und.length ic, .bool r.lost], .bool true]) (by simp [results, Tryz.results61, go_sem, g0, g1, g2, g3, g4, g5, g6, g7, g8, g9]) rfl ⟨_, by rw [unhide HE, hkk], by rw [unhide HE]; exact ⟨(unhide HRR).1.keep bX, (unhide HPU).rd (unhide HRR).2.1 bX fA (fun g hg => by simp at hg; omega), (unhide HRR).2.2.keep bX⟩, bX⟩
end Go.Proofs.YtkmmhlimihkgfaaGreat
