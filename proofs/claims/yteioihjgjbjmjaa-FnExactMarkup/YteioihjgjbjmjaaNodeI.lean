/- impl.NodeOk answers what the plain test says. -/
import Derived.Test.YteioihjgjbjmjaaWalkI
namespace Go.Proofs.Yteioihjgjbjmjaa
open Go.RowKit Go.Shelf
set_option linter.unusedVariables false
set_option maxRecDepth 100000
attribute [local go_sem] Oper.semAt_some

theorem Loc.stay {W W' : World} {g D : Nat} {cs : Array Value} {T : TypeId} {row : Option Nat} (h : Loc W g cs T) (hg : W.grownBy W' row) (hr : ∀ r, row = some r → r = D ∨ r = D + 1) (h0 : g ≠ D) (h1 : g ≠ D + 1) : Loc W' g cs T :=
  (hg.block g h.lt (fun e => by rcases hr g e.symm with h | h; exact h0 h; exact h1 h)).trans h
theorem VSet.stay {W W' : World} {g D : Nat} {row : Option Nat} (h : VSet (D + 2) W g) (hg : W.grownBy W' row) (hr : ∀ r, row = some r → r = D ∨ r = D + 1) (h0 : g ≠ D) (h1 : g ≠ D + 1) : VSet (D + 2) W' g := by
  rcases h with h | ⟨m, hm, hl, hv⟩
  · exact .inl (h.stay hg hr h0 h1)
  · have hlt : m < W.heap.size := by
      by_cases h : m < W.heap.size
      · exact h
      · rw [Array.getElem?_eq_none (by omega)] at hv; cases hv
    exact .inr ⟨m, hm, hl.stay hg hr h0 h1, (hg.block m hlt (fun e => by rcases hr m e.symm with h | h <;> omega)).trans hv⟩
theorem below_stay {w W W' : World} {s D : Nat} {row : Option Nat} (h : Below s w W) (hs : s ≤ D) (hg : W.grownBy W' row) (hr : ∀ r, row = some r → r = D ∨ r = D + 1) (hsz : s ≤ W.heap.size) : Below s w W' :=
  h.grown hg hsz (fun r e => by rcases hr r e with h | h <;> omega)

theorem VSet.set {B : Nat} {V : World} {g p : Nat} {cs : Array Value} {T : TypeId} (h : VSet B V g) (hl : Loc V p cs T) (hne : g ≠ p) (j : Nat) (v : Value) : VSet B (V.setCell ⟨p, j, none⟩ v) g := by
  rcases h with h | ⟨m, hm, hg, hv⟩
  · exact .inl (h.other p j v hne)
  · have hmp : m ≠ p := fun e => by subst e; unfold Loc at hl; rw [hv] at hl; cases hl
    exact .inr ⟨m, hm, hg.other p j v hne, (heap_setCell_other V ⟨p, j, none⟩ m v hmp).trans hv⟩
theorem books_set (D : Nat) (V : World) (p j : Nat) (v : Value) (h0 : D ≠ p) (h1 : D + 1 ≠ p) : BooksSame D V (V.setCell ⟨p, j, none⟩ v) := ⟨heap_setCell_other V ⟨p, j, none⟩ D v h0, heap_setCell_other V ⟨p, j, none⟩ (D + 1) v h1⟩
theorem books_frm {D : Nat} {V V' : World} {S : List Nat} (f : Frm V V' S) (hl : D + 2 ≤ V.heap.size) (h0 : D ∉ S) (h1 : D + 1 ∉ S) : BooksSame D V V' := ⟨f.block D (by omega) h0, f.block (D + 1) (by omega) h1⟩
theorem BooksSame.trans {D : Nat} {A B C : World} (h : BooksSame D A B) (k : BooksSame D B C) : BooksSame D A C := ⟨k.1.trans h.1, k.2.trans h.2⟩
theorem scan_len {a : List (Int × Bool)} {left : Int} (h : (scan a left).1 = true) (h0 : 0 ≤ left) : (a.length : Int) ≤ left := by
  induction a generalizing left with
  | nil => simpa using h0
  | cons x r ih =>
    rw [scan] at h
    by_cases hc : left - 1 < 0 ∨ 20 < x.1 ∨ x.2 = false
    · rw [if_pos hc] at h; cases h
    · rw [if_neg hc] at h
      have := ih h (by omega)
      simp only [List.length_cons]
      omega
/-- A test more. -/
theorem scan_snoc {a : List (Int × Bool)} {x : Int × Bool} {n : Nat} (h : scan a 120 = (true, (120 : Int) - n)) : scan (a ++ [x]) 120 = if 120 < (n : Int) + 1 ∨ 20 < x.1 ∨ x.2 = false then (false, (120 : Int) - n - 1) else (true, (120 : Int) - n - 1) := by
  rw [scan_app, h]
  simp only [if_true, scan]
  have e : ((120 : Int) - n - 1 < 0 ∨ 20 < x.1 ∨ x.2 = false) ↔ (120 < (n : Int) + 1 ∨ 20 < x.1 ∨ x.2 = false) := by
    constructor
    · rintro (h | h)
      · exact .inl (by omega)
      · exact .inr h
    · rintro (h | h)
      · exact .inl (by omega)
      · exact .inr h
  simp only [e]

/-- Five new blocks, one behind the other. -/
theorem five_new (w : World) (A1 A2 A3 A4 A5 : Array Value) (T1 T2 T3 T4 T5 : TypeId) (W : World) (hW : W = ((((w.alloc (.cells A1 T1)).alloc (.cells A2 T2)).alloc (.cells A3 T3)).alloc (.cells A4 T4)).alloc (.cells A5 T5)) :
    Loc W (w.heap.size + 1) A2 T2 ∧ Loc W (w.heap.size + 1 + 1) A3 T3 ∧ Loc W (w.heap.size + 1 + 1 + 1) A4 T4 ∧ Loc W (w.heap.size + 1 + 1 + 1 + 1) A5 T5 ∧ W.heap.size = w.heap.size + 1 + 1 + 1 + 1 + 1 ∧ Below w.heap.size w W := by
  subst hW
  have m2 := Loc.made (w.alloc (.cells A1 T1)) A2 T2
  have m3 := Loc.made ((w.alloc (.cells A1 T1)).alloc (.cells A2 T2)) A3 T3
  have m4 := Loc.made (((w.alloc (.cells A1 T1)).alloc (.cells A2 T2)).alloc (.cells A3 T3)) A4 T4
  have m5 := Loc.made ((((w.alloc (.cells A1 T1)).alloc (.cells A2 T2)).alloc (.cells A3 T3)).alloc (.cells A4 T4)) A5 T5
  simp only [World.size_alloc] at m2 m3 m4 m5
  exact ⟨((m2.alloc _).alloc _).alloc _, (m3.alloc _).alloc _, m4.alloc _, m5, by simp, (((((Below.refl _ w).alloc (Nat.le_refl _) _).alloc (by simp) _).alloc (by simp; omega) _).alloc (by simp; omega) _).alloc (by simp; omega) _⟩

set_option maxHeartbeats 3200000 in
theorem nodeI_elem (k : Nat) (w : World) (a b c d e : Value) (t : Tr (k + 1)) (h : RdNode (k + 1) w [a, b, c, d, e] t) (hsz : szT (k + 1) t ≤ 2097152) (hz : t.kind = 0) :
    Calls Try.prog 10 #[.agg #[a, b, c, d, e]] w fun e w' => e = .returned (.bool (okN k t)) ∧ Below w.heap.size w w' := by
  have HO := hide (show okN k t = (scan (pn (k + 1) 1 t) 120).1 by unfold okN; rw [okT_scan]; simp [hz])
  obtain ⟨xs, hP⟩ := pre_ex w (k + 1) 1 [a, b, c, d, e] t h
  have HM := hide (pre_pn w (k + 1) 1 _ t xs hP)
  have hC : ∃ ab nb cb ac nc cc ad nd cd ae ne ce, [a, b, c, d, e] = [Value.int .i64 0, .slice ab nb cb, .slice ac nc cc, .slice ad nd cd, .slice ae ne ce] := by
    obtain ⟨_, _, _, _, e0, k1, k2, hb, hc, hd, he⟩ := h
    simp only [List.cons.injEq, and_true] at e0
    obtain ⟨rfl, rfl, rfl, rfl, rfl⟩ := e0
    obtain ⟨ab, cb, rfl, _, _⟩ := hb.shape
    obtain ⟨ac, cc, rfl, _, _⟩ := hc.shape
    obtain ⟨ad, cd, rfl, _, _⟩ := Elems.shape hd
    obtain ⟨ae, ce, rfl, _, _⟩ := Elems.shape he
    rw [hz]
    exact ⟨_, _, _, _, _, _, _, _, _, _, _, _, rfl⟩
  obtain ⟨ab, nb, cb, ac, nc, cc, ad, nd, cd, ae, ne, ce, hC⟩ := hC
  simp only [List.cons.injEq, and_true] at hC
  obtain ⟨rfl, rfl, rfl, rfl, rfl⟩ := hC
  have HP := hide hP
  have HH := hide h
  clear hP h hz
  refine (callsIn_wide (n := 5)).1 ?_
  refine callsIn_of_wp_marks Try.func10 rfl trivial ?_ rfl
  simp only [Try.ntmps10, List.size_toArray, List.length_cons, List.length_nil, Nat.reduceAdd, Nat.reduceSub, Array.replicate_succ, Array.replicate_zero, List.push_toArray, List.append_toArray, List.nil_append, List.cons_append]
  gi_wp2_with fail
  refine ⟨trivial, ?_⟩
  refine (callsIn_wide.2 (nodesOf_any _ _ _ _ _ _ _ _ _ _ _ _ _ _)).mono ?_
  rintro e W ⟨rfl, hW⟩
  obtain ⟨l1, l2, l3, l4, hsW, hBW⟩ := five_new w _ _ _ _ _ _ _ _ _ _ W hW
  clear hW
  simp only [World.size_alloc]
  obtain ⟨q1, q2, q3, q4, q5⟩ : w.heap.size < w.heap.size + 1 ∧ w.heap.size + 1 < w.heap.size + 1 + 1 ∧ w.heap.size + 1 + 1 < w.heap.size + 1 + 1 + 1 ∧ w.heap.size + 1 + 1 + 1 < w.heap.size + 1 + 1 + 1 + 1 ∧ w.heap.size + 1 + 1 + 1 + 1 < W.heap.size := by omega
  clear hsW
  generalize w.heap.size + 1 + 1 + 1 + 1 = p4 at *
  generalize w.heap.size + 1 + 1 + 1 = p3 at *
  generalize w.heap.size + 1 + 1 = p2 at *
  generalize w.heap.size + 1 = p1 at *
  gi_wp2_with fail
  refine range_law (gf := 52) (lb := #[.pointer (some ⟨p4, 0, none⟩)]) (Bx := BxN) (Mt := fun i _ => i ∈ [p1, p2, p3, W.heap.size + 1]) (xs := xs) (encs := encIt) rfl (enters_of Try.func52 (by kernel_rfl) rfl) (fun _ => by simp) (fun q o hq _ hm => by simp at hm; omega)
    (nodes_hand w W _ p4 k _ (fun i o hi hm => by simp at hm; omega) _ _ _ _ _ t xs (unhide HP) hsz hBW l4) (fun _ => rfl)
    (fun pre V => Loc V p3 #[.int .i64 (pre.length : Nat)] 3 ∧ Loc V p1 #[.bool false] 4 ∧ VSet (W.heap.size + 2) V p2 ∧ Below w.heap.size w V ∧ scan (pre.map tst) 120 = (true, (120 : Int) - (pre.length : Nat)))
    (fun pre V => Loc V p1 #[.bool false] 4 ∧ Below w.heap.size w V ∧ (scan (pre.map tst) 120).1 = false)
    (fun pre A B row hs hg hr => ⟨hs.1.stay hg hr (by omega) (by omega), hs.2.1.stay hg hr (by omega) (by omega), hs.2.2.1.stay hg hr (by omega) (by omega), below_stay hs.2.2.2.1 (by omega) hg hr hs.2.2.2.1.size, hs.2.2.2.2⟩)
    (fun pre A B row hs hg hr => ⟨hs.1.stay hg hr (by omega) (by omega), below_stay hs.2.1 (by omega) hg hr hs.2.1.size, hs.2.2⟩)
    ⟨l3, l1, .inl l2, hBW, rfl⟩
    (fun x a' V => ∃ q, W.heap.size + 1 < q ∧ Loc V q #[x.a, x.b, x.c, x.d, x.e] 32 ∧ a' = { tmps := #[.agg #[.int .i64 0, .slice ab nb cb, .slice ac nc cc, .slice ad nd cd, .slice ae ne ce], .pointer (some ⟨w.heap.size, 0, none⟩), .pointer (some ⟨p1, 0, none⟩), .pointer (some ⟨p2, 0, none⟩), .pointer (some ⟨p3, 0, none⟩), .int .i64 x.deep, .pointer (some ⟨q, 0, none⟩), .pointer (some ⟨w.heap.size, 0, none⟩), .int .i64 0, .bool false, .agg #[.int .i64 0, .slice ab nb cb, .slice ac nc cc, .slice ad nd cd, .slice ae ne ce], .func (.func 52) #[] #[.pointer (some ⟨p4, 0, none⟩)], .int .i64 x.deep, .agg #[x.a, x.b, x.c, x.d, x.e], undef, undef, undef, undef, undef, undef, undef, undef, undef, undef, undef, undef, undef], defers := [] })
    (fun x a' u A B row hs hg hr => by obtain ⟨q, h1, h2, h3⟩ := hs; exact ⟨q, h1, h2.stay hg hr (by omega) (by omega), h3⟩)
    ?assign ?body ?done ?stop
  case assign =>
    intro pre x V K hi hV2 hK
    obtain ⟨deep, a, b, c, d, e, m, u, rd⟩ := x
    obtain ⟨z, ab', nb', cb', ac', nc', cc', ad', nd', cd', ae', ne', ce', hC⟩ := rd_shape rd
    simp only [List.cons.injEq, and_true] at hC
    obtain ⟨rfl, rfl, rfl, rfl, rfl⟩ := hC
    simp only [encIt] at hK ⊢
    gi_wp2
    exact hK _ _ ((Below.refl _ _).alloc (Nat.le_refl _) _) ⟨V.heap.size, by omega, Loc.made V _ _, rfl⟩
  case body =>
    rintro pre x a' V ⟨i3, i1, iV, iB, iS⟩ ⟨q, hq, lq, rfl⟩ hpx hsz2
    obtain ⟨deep, a, b, c, d, e, m, u, rd⟩ := x
    have HI := hide (And.intro i3 (And.intro i1 (And.intro iV (And.intro iB iS))))
    have HR := hide rd
    obtain ⟨z, ab', nb', cb', ac', nc', cc', ad', nd', cd', ae', ne', ce', hC⟩ := rd_shape rd
    simp only [List.cons.injEq, and_true] at hC
    obtain ⟨rfl, rfl, rfl, rfl, rfl⟩ := hC
    have hlen : pre.length ≤ 120 := by
      have := scan_len (a := pre.map tst) (left := 120) (by rw [iS]) (by omega)
      simp at this
      omega
    have c3 : V.cell? ⟨p3, 0, none⟩ = some (.int .i64 (pre.length : Nat)) := i3.cell 0
    have f3 := i3.frozen 0
    have c1 : V.cell? ⟨p1, 0, none⟩ = some (.bool false) := i1.cell 0
    have f1 := i1.frozen 0
    simp only at lq
    obtain ⟨x0, x1, x2, x3, x4⟩ := lq.five
    have hsn := scan_snoc (x := tst (⟨deep, .int .i64 z, .slice ab' nb' cb', .slice ac' nc' cc', .slice ad' nd' cd', .slice ae' ne' ce', m, u, rd⟩ : It w)) iS
    have HS := hide hsn
    clear hsn iS i3 i1 iV iB
    generalize hn : pre.length = n at *
    have HN := hide hn
    clear hn
    have hn1 : 0 ≤ (n : Int) + 1 := by omega
    have hBk : BooksSame W.heap.size V ((V.setCell ⟨p3, 0, none⟩ (.int .i64 ((n : Int) + 1))).setCell ⟨p1, 0, none⟩ (.bool false)) := (books_set W.heap.size V p3 0 _ (by omega) (by omega)).trans (books_set W.heap.size _ p1 0 _ (by omega) (by omega))
    by_cases h1 : 120 < (n : Int) + 1
    · gi_wp2
      refine ⟨trivial, ?_⟩
      gi_wp2
      obtain ⟨i3, i1, iV, iB, iS⟩ := unhide HI
      refine ⟨hBk, (i1.other p3 0 _ (by omega)).set 0 (.bool false), (iB.setCell (p := ⟨p3, 0, none⟩) (by show w.heap.size ≤ p3; omega) _).setCell (p := ⟨p1, 0, none⟩) (by show w.heap.size ≤ p1; omega) _, ?_⟩
      rw [List.map_append, List.map_cons, List.map_nil, unhide HS, if_pos (.inl h1)]
    · by_cases h2 : 20 < deep
      · gi_wp2
        refine ⟨trivial, ?_⟩
        gi_wp2
        obtain ⟨i3, i1, iV, iB, iS⟩ := unhide HI
        refine ⟨hBk, (i1.other p3 0 _ (by omega)).set 0 (.bool false), (iB.setCell (p := ⟨p3, 0, none⟩) (by show w.heap.size ≤ p3; omega) _).setCell (p := ⟨p1, 0, none⟩) (by show w.heap.size ≤ p1; omega) _, ?_⟩
        rw [List.map_append, List.map_cons, List.map_nil, unhide HS, if_pos (.inr (.inl h2))]
      · have hcall : Calls Try.prog 31 #[.agg #[.int .i64 z, .slice ab' nb' cb', .slice ac' nc' cc', .slice ad' nd' cd', .slice ae' ne' ce'], .pointer (some ⟨p2, 0, none⟩)] (V.setCell ⟨p3, 0, none⟩ (.int .i64 ((n : Int) + 1))) fun e w' => e = .returned (.bool (partB u)) ∧ VSet (W.heap.size + 2) w' p2 ∧ Frm (V.setCell ⟨p3, 0, none⟩ (.int .i64 ((n : Int) + 1))) w' [p2] := by
          obtain ⟨i3, i1, iV, iB, iS⟩ := unhide HI
          exact partI_any (W.heap.size + 2) m w _ _ _ _ _ _ u p2 (unhide HR) (iB.setCell (p := ⟨p3, 0, none⟩) (by show w.heap.size ≤ p3; omega) _) (by omega) (iV.set i3 (by omega) 0 _) (by simpa using hsz2)
        have HC := hide hcall
        clear hcall
        gi_wp2
        refine ⟨trivial, ?_⟩
        refine (CallsIn.inRound (F := Fence.wide) (W.heap.size + 1) (callsIn_wide.2 (unhide HC))).mono ?_
        rintro e V2 ⟨rfl, hV2, F2⟩
        have HA : Hid (Loc V2 p3 #[.int .i64 ((n : Int) + 1)] 3 ∧ Loc V2 p1 #[.bool false] 4 ∧ Below w.heap.size w V2 ∧ BooksSame W.heap.size V V2 ∧ Frm V V2 [p1, p2, p3, W.heap.size + 1]) := by
          obtain ⟨i3, i1, iV, iB, iS⟩ := unhide HI
          have iB1 := iB.setCell (p := ⟨p3, 0, none⟩) (by show w.heap.size ≤ p3; omega) (.int .i64 ((n : Int) + 1))
          refine ⟨(i3.set 0 _).frm F2 (by simp; omega), (i1.other p3 0 _ (by omega)).frm F2 (by simp; omega), iB1.trans (F2.below iB1.size (fun g hg => by simp at hg; omega)), (books_set W.heap.size V p3 0 _ (by omega) (by omega)).trans (books_frm F2 (by simpa using hsz2) (by simp; omega) (by simp; omega)), ?_⟩
          exact ((Frm.set V p3 0 _).mono (fun g hg => by simp at hg; simp [hg])).trans (F2.mono (fun g hg => by simp at hg; simp [hg]))
        have c1 : V2.cell? ⟨p1, 0, none⟩ = some (.bool false) := (unhide HA).2.1.cell 0
        have f1 := (unhide HA).2.1.frozen 0
        clear x0 x1 x2 x3 x4 c3 f3
        by_cases hb : partB u = true
        · rw [hb]
          gi_wp2
          obtain ⟨a3, a1, aB, aK, aF⟩ := unhide HA
          refine ⟨aK, Frp.ofFrm aF (fun g hg _ _ => hg), ?_, a1, hV2, aB, ?_⟩
          · have e : ((pre ++ [(⟨deep, .int .i64 z, .slice ab' nb' cb', .slice ac' nc' cc', .slice ad' nd' cd', .slice ae' ne' ce', m, u, rd⟩ : It w)]).length : Int) = (n : Int) + 1 := by rw [List.length_append, unhide HN]; simp
            rw [e]; exact a3
          · rw [List.map_append, List.map_cons, List.map_nil, unhide HS, if_neg (by simp only [tst, hb]; simp; omega)]
            rw [List.length_append, unhide HN]
            simp
            omega
        · have hb' : partB u = false := by simpa using hb
          rw [hb']
          gi_wp2
          obtain ⟨a3, a1, aB, aK, aF⟩ := unhide HA
          refine ⟨aK.trans (books_set W.heap.size _ p1 0 _ (by omega) (by omega)), a1.set 0 (.bool false), aB.setCell (p := ⟨p1, 0, none⟩) (by show w.heap.size ≤ p1; omega) _, ?_⟩
          rw [List.map_append, List.map_cons, List.map_nil, unhide HS, if_pos (.inr (.inr hb'))]
  case done =>
    rintro V ⟨i3, i1, iV, iB, iS⟩ hD
    have c1 : V.cell? ⟨p1, 0, none⟩ = some (.bool false) := i1.cell 0
    have f1 := i1.frozen 0
    have HF := hide (show okN k t = true by rw [unhide HO, ← unhide HM, iS])
    clear iS
    gi_wp2
    have hD' : (V.setCell ⟨p1, 0, none⟩ (.bool true)).heap[W.heap.size]? = some (.deferred (some [])) := (heap_setCell_other V ⟨p1, 0, none⟩ _ _ (by show W.heap.size ≠ p1; omega)).trans hD
    refine ⟨by simp, .inl ⟨_, _, rfl, run_takeDeferred hD', ?_⟩⟩
    have lE : Loc ((V.setCell ⟨p1, 0, none⟩ (.bool true)).putObj W.heap.size (.deferred none)) p1 #[.bool true] 4 := (i1.set 0 (.bool true)).stay (grownBy_putObj' _ _ _) (fun r e => by cases e; exact .inl rfl) (by omega) (by omega)
    have c5 : ((V.setCell ⟨p1, 0, none⟩ (.bool true)).putObj W.heap.size (.deferred none)).cell? ⟨p1, 0, none⟩ = some (.bool true) := lE.cell 0
    refine ⟨.bool true, ?_, by rw [unhide HF], below_stay (iB.setCell (p := ⟨p1, 0, none⟩) (by show w.heap.size ≤ p1; omega) _) (D := W.heap.size) (by omega) (grownBy_putObj' _ _ _) (fun r e => by cases e; exact .inl rfl) (by simpa using iB.size)⟩
    simp [results, Try.f10, go_sem, c5]
  case stop =>
    rintro pre V hpre ⟨i1, iB, iS⟩ hD
    have HF := hide (show okN k t = false by rw [unhide HO, ← unhide HM]; exact scan_no iS (hpre.map _))
    clear iS
    gi_wp2
    refine ⟨by simp, .inl ⟨_, _, rfl, run_takeDeferred hD, ?_⟩⟩
    have lE : Loc (V.putObj W.heap.size (.deferred none)) p1 #[.bool false] 4 := i1.stay (grownBy_putObj' _ _ _) (fun r e => by cases e; exact .inl rfl) (by omega) (by omega)
    have c5 : (V.putObj W.heap.size (.deferred none)).cell? ⟨p1, 0, none⟩ = some (.bool false) := lE.cell 0
    refine ⟨.bool false, ?_, by rw [unhide HF], below_stay iB (D := W.heap.size) (by omega) (grownBy_putObj' _ _ _) (fun r e => by cases e; exact .inl rfl) iB.size⟩
    simp [results, Try.f10, go_sem, c5]

theorem nodeI_none (k : Nat) (w : World) (a b c d e : Value) (t : Tr (k + 1)) (h : RdNode (k + 1) w [a, b, c, d, e] t) (hz : t.kind ≠ 0) :
    Calls Try.prog 10 #[.agg #[a, b, c, d, e]] w fun e w' => e = .returned (.bool (okN k t)) ∧ Below w.heap.size w w' := by
  have HO := hide (show okN k t = false by unfold okN; simp [hz])
  obtain ⟨_, _, _, _, e0, k1, k2, hb, hc, hd, he⟩ := h
  simp only [List.cons.injEq, and_true] at e0
  obtain ⟨rfl, rfl, rfl, rfl, rfl⟩ := e0
  obtain ⟨ab, cb, rfl, _, _⟩ := hb.shape
  obtain ⟨ac, cc, rfl, _, _⟩ := hc.shape
  obtain ⟨ad, cd, rfl, _, _⟩ := Elems.shape hd
  obtain ⟨ae, ce, rfl, _, _⟩ := Elems.shape he
  have d0 : (t.kind != 0) = true := by simpa using hz
  clear hb hc hd he
  generalize t.kind = z at *
  generalize t.name.length = nb at *
  generalize t.text.length = nc at *
  generalize t.attrs.length = nd at *
  generalize t.kids.length = ne at *
  go_enter Try.func10, Try.ntmps10
  go_wp2_with fail
  refine bodyPost_ret (v := .bool false) (by simp [results, Try.results10, go_sem]) rfl ⟨by rw [unhide HO], ?_⟩
  exact ((Below.refl _ _).alloc (Nat.le_refl _) _).alloc (by simp) _

/-- impl.NodeOk. -/
theorem nodeI_any (k : Nat) (w : World) (a b c d e : Value) (t : Tr (k + 1)) (h : RdNode (k + 1) w [a, b, c, d, e] t) (hsz : szT (k + 1) t ≤ 2097152) :
    Calls Try.prog 10 #[.agg #[a, b, c, d, e]] w fun e w' => e = .returned (.bool (okN k t)) ∧ Below w.heap.size w w' := by
  by_cases hz : t.kind = 0
  · exact nodeI_elem k w a b c d e t h hsz hz
  · exact nodeI_none k w a b c d e t h hz
end Go.Proofs.Yteioihjgjbjmjaa
