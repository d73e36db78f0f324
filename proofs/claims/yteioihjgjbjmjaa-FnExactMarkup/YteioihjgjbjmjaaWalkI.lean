/- impl.walk hands on the nodes in the markup's order. -/
import Derived.Test.YteioihjgjbjmjaaRng
import Derived.Test.YteioihjgjbjmjaaPre
namespace Go.Proofs.Yteioihjgjbjmjaa
open Go.RowKit Go.Shelf
set_option linter.unusedVariables false
set_option maxRecDepth 100000
attribute [local go_sem] Oper.semAt_some

/-- The boxes that impl.walk lays. -/
def BxN (o : Obj) : Prop := ∃ cs, o = .cells cs 32 (0, 0)
theorem below_grown {W W' : World} (h : Below W.heap.size W W') : W.grownBy W' none := ⟨h.os, h.tape, h.output, h.size, fun k hk _ => h.block k hk⟩

theorem rd_shape {n : Nat} {w : World} {C : List Value} {t : Tr n} (h : RdNode n w C t) : ∃ z ab nb cb ac nc cc ad nd cd ae ne ce, C = [.int .i64 z, .slice ab nb cb, .slice ac nc cc, .slice ad nd cd, .slice ae ne ce] := by
  cases n with
  | zero => exact t.elim
  | succ n =>
    obtain ⟨a, b, c, d, rfl, _, _, hb, hc, hd, he⟩ := h
    obtain ⟨ab, cb, rfl, _, _⟩ := hb.shape
    obtain ⟨ac, cc, rfl, _, _⟩ := hc.shape
    obtain ⟨ad, cd, rfl, _, _⟩ := Elems.shape hd
    obtain ⟨ae, ce, rfl, _, _⟩ := Elems.shape he
    exact ⟨_, _, _, _, _, _, _, _, _, _, _, _, _, rfl⟩
theorem pre_rd {w0 : World} {n : Nat} {deep : Int} {C : List Value} {t : Tr n} {xs : List (It w0)} (h : Pre w0 n deep C t xs) : RdNode n w0 C t := by
  cases n with
  | zero => exact t.elim
  | succ n =>
    obtain ⟨a, b, c, d, e, rd, ks, rfl, _⟩ := h
    exact rd
theorem sum_mem {l : List Nat} {x : Nat} (h : x ∈ l) : x ≤ l.sum := by
  induction l with
  | nil => cases h
  | cons y l ih =>
    rw [List.sum_cons]
    rcases List.mem_cons.1 h with rfl | h'
    · omega
    · have := ih h'; omega
theorem sz_kid {n : Nat} {t : Tr (n + 1)} {u : Tr n} (h : u ∈ t.kids) : szT n u + 1 ≤ szT (n + 1) t := by
  have h1 : szT n u ≤ (t.kids.map (szT n)).sum := sum_mem (List.mem_map.2 ⟨u, h, rfl⟩)
  have h2 : 0 < t.kids.length := List.length_pos_of_mem h
  have h3 : szT (n + 1) t = t.name.length + t.text.length + szA t.attrs + (t.kids.length + (t.kids.map (szT n)).sum) := rfl
  omega
theorem flat_take {α β : Type} (ks : List (α × List β)) (j : Nat) (h : j < ks.length) : ((ks.take (j + 1)).map (·.2)).flatten = ((ks.take j).map (·.2)).flatten ++ ks[j].2 := by
  rw [List.take_succ_eq_append_getElem h, List.map_append, List.flatten_append]
  simp only [List.map_cons, List.map_nil, List.flatten_cons, List.flatten_nil, List.append_nil]
theorem flat_pre {α β : Type} (ks : List (α × List β)) (j : Nat) : ((ks.take j).map (·.2)).flatten <+: (ks.map (·.2)).flatten := by
  refine ⟨((ks.drop j).map (·.2)).flatten, ?_⟩
  rw [← List.flatten_append, ← List.map_append, List.take_append_drop]

/-- What is asked of impl.walk at a tree of depth below k. -/
def WalkSaid (w0 : World) (l : Nat) (Mt : Nat → Obj → Prop) (J Jx : List (It w0) → World → Prop) (XS : List (It w0)) (k : Nat) : Prop :=
  ∀ (deep : Int) (a b c d e : Value) (t : Tr k) (xs : List (It w0)), Pre w0 k deep [a, b, c, d, e] t xs → ∀ (n : Nat) (pre : List (It w0)) (W : World), Below w0.heap.size w0 W → (∀ q o, W.heap.size ≤ q → BxN o → ¬ Mt q o) → J pre W → pre ++ xs <+: XS → 0 ≤ deep → deep + szT k t ≤ 1000000000 →
    CallsIn Fence.wide n Try.prog 53 #[.agg #[a, b, c, d, e], .int .i64 deep, .func (.yield l) #[] #[]] W fun e W' =>
      (e = .returned (.bool true) ∧ J (pre ++ xs) W' ∧ Frp Mt W W') ∨ (e = .returned (.bool false) ∧ ∃ q, q <+: xs ∧ Jx (pre ++ q) W')

set_option maxHeartbeats 3200000 in
theorem walk_succ (w0 : World) (l : Nat) (Mt : Nat → Obj → Prop) (hG0 : ∀ i o, i < w0.heap.size → ¬ Mt i o) (J Jx : List (It w0) → World → Prop) (XS : List (It w0)) (hJ : ∀ s W W', J s W → W.grownBy W' none → J s W')
    (hY : ∀ m pre x W, J pre W → pre ++ [x] <+: XS → YieldAt Fence.wide m Try.prog l (encIt x) W fun e W' =>
      (e = .returned (.bool true) ∧ J (pre ++ [x]) W' ∧ Frp Mt W W') ∨ (e = .returned (.bool false) ∧ Jx (pre ++ [x]) W')) (k : Nat) (H : WalkSaid w0 l Mt J Jx XS k) : WalkSaid w0 l Mt J Jx XS (k + 1) := by
  intro deep a b c d e t xs hP n pre W hW hGW hj hpx hd0 hd1
  obtain ⟨_, _, _, _, _, rd, ks, hC, hxs, hks, hel⟩ := hP
  simp only [List.cons.injEq, and_true] at hC
  obtain ⟨rfl, rfl, rfl, rfl, rfl⟩ := hC
  have rd' := rd
  obtain ⟨_, _, _, _, e0, k1, k2, hb, hc, hd, he⟩ := rd'
  simp only [List.cons.injEq, and_true] at e0
  obtain ⟨rfl, rfl, rfl, rfl, rfl⟩ := e0
  obtain ⟨ab, cb, rfl, _, _⟩ := hb.shape
  obtain ⟨ac, cc, rfl, _, _⟩ := hc.shape
  obtain ⟨ad, cd, rfl, _, _⟩ := Elems.shape hd
  obtain ⟨ae, ce, rfl, hce, hcm⟩ := Elems.shape he
  obtain ⟨x, hx⟩ : ∃ x : It w0, x = ⟨deep, .int .i64 t.kind, .slice ab t.name.length cb, .slice ac t.text.length cc, .slice ad t.attrs.length cd, .slice ae t.kids.length ce, k, t, rd⟩ := ⟨_, rfl⟩
  have hB1 : Below W.heap.size W (W.alloc (.cells #[.int .i64 t.kind, .slice ab t.name.length cb, .slice ac t.text.length cc, .slice ad t.attrs.length cd, .slice ae t.kids.length ce] 32)) := (Below.refl _ _).alloc (Nat.le_refl _) _
  have l1 := Loc.made W #[.int .i64 t.kind, .slice ab t.name.length cb, .slice ac t.text.length cc, .slice ad t.attrs.length cd, .slice ae t.kids.length ce] 32
  have hy := hY (n - 1) pre x _ (hJ pre W _ hj (below_grown hB1)) (by
    refine List.IsPrefix.trans ?_ hpx
    rw [hxs, ← hx]
    exact ⟨(ks.map (·.2)).flatten, by simp⟩)
  rw [hx] at hy
  simp only [encIt] at hy
  rw [← hx] at hy hxs
  obtain ⟨fn, tmps, assign, body, hy1, hR⟩ := hy
  refine callsIn_of_wp Try.func53 rfl trivial ?_ rfl
  simp only [Try.ntmps53, List.size_toArray, List.length_cons, List.length_nil, Nat.reduceAdd, Nat.reduceSub, Array.replicate_succ, Array.replicate_zero, List.push_toArray, List.append_toArray, List.nil_append, List.cons_append]
  gi_wp2_with fail
  refine ⟨(fun h => (by cases h)), ?_⟩
  generalize (W.alloc (.cells #[.int .i64 t.kind, .slice ab t.name.length cb, .slice ac t.text.length cc, .slice ad t.attrs.length cd, .slice ae t.kids.length ce] 32)) = W1 at *
  refine hR.mono ?_
  clear hR
  rintro e W2 (⟨rfl, hJ2, hF2⟩ | ⟨rfl, hx2⟩)
  · have l2 := l1.frp hF2 (hGW _ _ (Nat.le_refl _) ⟨_, rfl⟩)
    have hGW2 : ∀ q o, W2.heap.size ≤ q → BxN o → ¬ Mt q o := fun q o h hb => hGW q o (by have := hB1.size; have := hF2.size; omega) hb
    have hW2 : Below w0.heap.size w0 W2 := hW.trans ((hB1.mono hW.size).trans (hF2.below (Nat.le_trans hW.size hB1.size) hG0))
    have F2 : Frp Mt W W2 := (Frp.ofBelow hB1 Mt).trans hF2
    have hlen : ks.length = t.kids.length := by rw [← hks]; simp
    have HX := hide hxs
    have HK := hide hks
    have HE := hide hx
    unfold maxLen at hcm
    have hm' : (t.kids.length : Int) ≤ 9223372036854775807 := by omega
    have HZ : Hid (∀ u ∈ t.kids, deep + 1 + szT k u ≤ 1000000000) := fun u hu => by have := sz_kid hu; omega
    have hdp : deep ≤ 1000000000 := by omega
    clear hxs hks hx hB1 hF2 hy1 hY hd1
    obtain ⟨x0, x1, x2, x3, x4⟩ := l2.five
    generalize hnk : t.kids.length = nk at *
    gi_wp2_with fail
    gi_loopw [17] (fun i wr => ∃ j : Nat, j ≤ nk ∧ i = .int .i64 j ∧ J (pre ++ x :: ((ks.take j).map (·.2)).flatten) wr ∧ Frp Mt W2 wr) (fun i _ => nk - (intOf i).toNat)
    case atStart => exact ⟨0, Nat.zero_le _, rfl, by simpa using hJ2, Frp.refl _ _⟩
    case round =>
      obtain ⟨j, hj1, rfl, hJr, hFr⟩ := hrel
      have hWr : Below w0.heap.size w0 wr := hW2.trans (hFr.below hW2.size hG0)
      have hGr : ∀ q o, wr.heap.size ≤ q → BxN o → ¬ Mt q o := fun q o h hb => hGW2 q o (Nat.le_trans hFr.size h) hb
      by_cases hlt : j < nk
      · have hjk : j < ks.length := by omega
        obtain ⟨kb, koff, rfl, hkb, hun, _, C, hC5, hcell, hPk⟩ := hel.at hjk
        clear hun
        obtain ⟨z, ab', nb', cb', ac', nc', cc', ad', nd', cd', ae', ne', ce', rfl⟩ := rd_shape (pre_rd hPk)
        have y0 := (hWr.cell (p := ⟨kb, koff + j * 5, none⟩) hkb).trans (hcell 0 (by omega))
        have y1 := (hWr.cell (p := ⟨kb, koff + j * 5 + 1, none⟩) hkb).trans (hcell 1 (by omega))
        have y2 := (hWr.cell (p := ⟨kb, koff + j * 5 + 2, none⟩) hkb).trans (hcell 2 (by omega))
        have y3 := (hWr.cell (p := ⟨kb, koff + j * 5 + 3, none⟩) hkb).trans (hcell 3 (by omega))
        have y4 := (hWr.cell (p := ⟨kb, koff + j * 5 + 4, none⟩) hkb).trans (hcell 4 (by omega))
        simp only [List.getElem?_cons_zero, List.getElem?_cons_succ] at y0 y1 y2 y3 y4
        have hB3 : Below wr.heap.size wr (wr.alloc (.cells #[.int .i64 z, .slice ab' nb' cb', .slice ac' nc' cc', .slice ad' nd' cd', .slice ae' ne' ce'] 32)) := (Below.refl _ _).alloc (Nat.le_refl _) _
        have hmem : ks[j].1 ∈ t.kids := by rw [← unhide HK]; exact List.mem_map.2 ⟨ks[j], List.getElem_mem hjk, rfl⟩
        have hpre : (pre ++ x :: ((ks.take j).map (·.2)).flatten) ++ ks[j].2 <+: XS := by
          refine List.IsPrefix.trans ?_ hpx
          rw [unhide HX]
          obtain ⟨r, hr⟩ := flat_pre ks (j + 1)
          rw [flat_take ks j hjk] at hr
          exact ⟨r, by simp only [List.append_assoc, List.cons_append] at hr ⊢; rw [hr]⟩
        have hcall := H (deep + 1) _ _ _ _ _ ks[j].1 ks[j].2 hPk (n - 1) (pre ++ x :: ((ks.take j).map (·.2)).flatten) _ (hWr.trans (hB3.mono hWr.size)) (fun q o h hb => hGr q o (Nat.le_trans hB3.size h) hb) (hJ _ _ _ hJr (below_grown hB3)) hpre (by omega) (unhide HZ _ hmem)
        have HC := hide hcall
        have F3 := hFr.trans (Frp.ofBelow hB3 Mt)
        have hlt' : (j : Int) < (nk : Int) := by omega
        clear hcall hel hcell hPk hmem hpre hB3 hJr hJ2
        have HL := hide hlen
        have HNK := hide hnk
        clear hlen hnk
        gi_wp2
        refine ⟨trivial, (fun h => (by cases h)), ?_⟩
        refine (unhide HC).mono ?_
        rintro e W3 (⟨rfl, hJ3, hF3⟩ | ⟨rfl, q, hq, hx3⟩)
        · gi_wp2
          go_roundw
          case rel => exact ⟨j + 1, by omega, by go_num, by rw [flat_take ks j hjk, ← List.cons_append, ← List.append_assoc]; exact hJ3, F3.trans hF3⟩
          case measure => simp [intOf]; omega
        · gi_wp2
          go_ret
          refine .inr ⟨rfl, x :: ((ks.take j).map (·.2)).flatten ++ q, ?_, by rw [← List.append_assoc]; exact hx3⟩
          obtain ⟨r, hr⟩ := flat_pre ks (j + 1)
          obtain ⟨r', hr'⟩ := hq
          rw [flat_take ks j hjk, ← hr'] at hr
          exact ⟨r' ++ r, by rw [unhide HX, ← hr]; simp⟩
      · have e : j = nk := by omega
        subst e
        have HL := hide hlen
        clear hlen hel
        gi_wp2
        go_ret
        refine .inl ⟨rfl, ?_, F2.trans hFr⟩
        rw [unhide HX]
        rw [List.take_of_length_le (by have := unhide HL; omega)] at hJr
        exact hJr
  · gi_wp2_with fail
    go_ret
    exact .inr ⟨rfl, [x], by rw [hxs]; exact ⟨_, rfl⟩, hx2⟩

theorem walk_any (w0 : World) (l : Nat) (Mt : Nat → Obj → Prop) (hG0 : ∀ i o, i < w0.heap.size → ¬ Mt i o) (J Jx : List (It w0) → World → Prop) (XS : List (It w0)) (hJ : ∀ s W W', J s W → W.grownBy W' none → J s W')
    (hY : ∀ m pre x W, J pre W → pre ++ [x] <+: XS → YieldAt Fence.wide m Try.prog l (encIt x) W fun e W' =>
      (e = .returned (.bool true) ∧ J (pre ++ [x]) W' ∧ Frp Mt W W') ∨ (e = .returned (.bool false) ∧ Jx (pre ++ [x]) W')) (k : Nat) : WalkSaid w0 l Mt J Jx XS k := by
  induction k with
  | zero => exact fun _ _ _ _ _ _ t => t.elim
  | succ k ih => exact walk_succ w0 l Mt hG0 J Jx XS hJ hY k ih

set_option maxHeartbeats 1600000 in
/-- The function that nodesOf hands back: it hands on all nodes. q: the block of what it holds. -/
theorem nodes_hand (w0 w : World) (l q k : Nat) (Mt : Nat → Obj → Prop) (hG0 : ∀ i o, i < w0.heap.size → ¬ Mt i o) (a b c d e : Value) (t : Tr (k + 1)) (xs : List (It w0)) (hP : Pre w0 (k + 1) 1 [a, b, c, d, e] t xs) (hsz : szT (k + 1) t ≤ 2097152)
    (hw : Below w0.heap.size w0 w) (hl : Loc w q #[a, b, c, d, e] 32) : Hands Try.prog 52 #[.pointer (some ⟨q, 0, none⟩)] encIt BxN Mt xs l w := by
  intro J Jx hJ hY n W hW hGW h0
  have l1 := hl.all hW
  obtain ⟨z, ab, nb, cb, ac, nc, cc, ad, nd, cd, ae, ne, ce, hC⟩ := rd_shape (pre_rd hP)
  simp only [List.cons.injEq, and_true] at hC
  obtain ⟨rfl, rfl, rfl, rfl, rfl⟩ := hC
  have hc := walk_any w0 l Mt hG0 J Jx xs hJ hY (k + 1) 1 _ _ _ _ _ t xs hP (n - 1) [] W (hw.trans (hW.mono hw.size)) hGW h0 (by simp) (by omega) (by omega)
  obtain ⟨x0, x1, x2, x3, x4⟩ := l1.five
  have HC := hide hc
  clear hc hY hJ hP
  refine callsIn_of_wp Try.func52 rfl trivial ?_ rfl
  simp only [Try.ntmps52, List.size_toArray, List.length_cons, List.length_nil, Nat.reduceAdd, Nat.reduceSub, Array.replicate_succ, Array.replicate_zero, List.push_toArray, List.append_toArray, List.nil_append, List.cons_append]
  gi_wp2
  refine ⟨trivial, (fun h => (by cases h)), ?_⟩
  refine (unhide HC).mono ?_
  rintro e W3 (⟨rfl, hJ3, hF3⟩ | ⟨rfl, q, hq, hx3⟩)
  · gi_wp2
    go_end0
    exact ⟨⟨_, rfl⟩, .inl (by simpa using hJ3)⟩
  · gi_wp2
    go_end0
    exact ⟨⟨_, rfl⟩, .inr ⟨q, hq, by simpa using hx3⟩⟩

/-- impl.nodesOf: what it is given is boxed, and held by the function that it hands back. -/
theorem nodesOf_any (w : World) (z : Int) (ab ac ad ae : Option Addr) (nb cb nc cc nd cd ne ce : Nat) :
    Calls Try.prog 30 #[.agg #[.int .i64 z, .slice ab nb cb, .slice ac nc cc, .slice ad nd cd, .slice ae ne ce]] w fun e w' => e = .returned (.func (.func 52) #[] #[.pointer (some ⟨w.heap.size, 0, none⟩)]) ∧
      w' = w.alloc (.cells #[.int .i64 z, .slice ab nb cb, .slice ac nc cc, .slice ad nd cd, .slice ae ne ce] 32) := by
  have hmf : ∀ (fn : Fn) (first cap : Array Value) (w : World), (Instr.makeFunc fn first cap).run Try.prog w = .ok (.func fn first cap) w := fun _ _ _ _ => rfl
  go_enter Try.func30, Try.ntmps30
  go_wp2
  go_ret
  exact ⟨rfl, rfl⟩
end Go.Proofs.Yteioihjgjbjmjaa
