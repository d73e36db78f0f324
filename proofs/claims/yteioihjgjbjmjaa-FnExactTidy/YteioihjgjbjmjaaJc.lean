/- Own texts joined: WalkI, TidyM, ChunkI, NodeI, SameA, SameP, SameL, PartsI, Push, App, CloneI, Mark. -/
import Derived.Test.YteioihjgjbjmjaaJa
import Derived.Test.YteioihjgjbjmjaaJb
import Derived.RegionIn
import Derived.Maps.AppendAt
import Derived.Deep.AppendLies
import Derived.Lib.BufferMore
import Derived.Test.YteioihjgjbjmjaaChecked

/- impl.walk hands on the nodes in the markup's order. -/
namespace Go.Proofs.Yteioihjgjbjmjaa
open Go.RowKit Go.Shelf
set_option linter.unusedVariables false
set_option maxRecDepth 100000
attribute [local go_sem] Oper.semAt_some

/-- The boxes that impl.walk lays. -/
def BxN (o : Obj) : Prop := ∃ cs, o = .cells cs 32 (0, 0)
theorem below_grown {W W' : World} (h : Below W.heap.size W W') : W.grownBy W' none := ⟨h.os, h.tape, h.output, h.size, fun k hk _ => h.block k hk⟩

theorem rd_shape {n : Nat} {w : World} {C : List Value} {t : Tr n} (h : RdNode n w C t) : ∃ z ab nb cb ac nc cc ad nd cd ae ne ce, C = [.int .i64 z, .slice ab nb cb, .slice ac nc cc, .slice ad nd cd, .slice ae ne ce] := by
  cases n with
  | zero => exact t.elim
  | succ n =>
    obtain ⟨a, b, c, d, rfl, _, _, hb, hc, hd, he⟩ := h
    obtain ⟨ab, cb, rfl, _, _⟩ := hb.shape
    obtain ⟨ac, cc, rfl, _, _⟩ := hc.shape
    obtain ⟨ad, cd, rfl, _, _⟩ := Elems.shape hd
    obtain ⟨ae, ce, rfl, _, _⟩ := Elems.shape he
    exact ⟨_, _, _, _, _, _, _, _, _, _, _, _, _, rfl⟩
theorem pre_rd {w0 : World} {n : Nat} {deep : Int} {C : List Value} {t : Tr n} {xs : List (It w0)} (h : Pre w0 n deep C t xs) : RdNode n w0 C t := by
  cases n with
  | zero => exact t.elim
  | succ n =>
    obtain ⟨a, b, c, d, e, rd, ks, rfl, _⟩ := h
    exact rd
theorem sum_mem {l : List Nat} {x : Nat} (h : x ∈ l) : x ≤ l.sum := by
  induction l with
  | nil => cases h
  | cons y l ih =>
    rw [List.sum_cons]
    rcases List.mem_cons.1 h with rfl | h'
    · omega
    · have := ih h'; omega
theorem sz_kid {n : Nat} {t : Tr (n + 1)} {u : Tr n} (h : u ∈ t.kids) : szT n u + 1 ≤ szT (n + 1) t := by
  have h1 : szT n u ≤ (t.kids.map (szT n)).sum := sum_mem (List.mem_map.2 ⟨u, h, rfl⟩)
  have h2 : 0 < t.kids.length := List.length_pos_of_mem h
  have h3 : szT (n + 1) t = t.name.length + t.text.length + szA t.attrs + (t.kids.length + (t.kids.map (szT n)).sum) := rfl
  omega
theorem flat_take {α β : Type} (ks : List (α × List β)) (j : Nat) (h : j < ks.length) : ((ks.take (j + 1)).map (·.2)).flatten = ((ks.take j).map (·.2)).flatten ++ ks[j].2 := by
  rw [List.take_succ_eq_append_getElem h, List.map_append, List.flatten_append]
  simp only [List.map_cons, List.map_nil, List.flatten_cons, List.flatten_nil, List.append_nil]
theorem flat_pre {α β : Type} (ks : List (α × List β)) (j : Nat) : ((ks.take j).map (·.2)).flatten <+: (ks.map (·.2)).flatten := by
  refine ⟨((ks.drop j).map (·.2)).flatten, ?_⟩
  rw [← List.flatten_append, ← List.map_append, List.take_append_drop]

/-- What is asked of impl.walk at a tree of depth below k. -/
def WalkSaid (w0 : World) (l : Nat) (Mt : Nat → Obj → Prop) (J Jx : List (It w0) → World → Prop) (XS : List (It w0)) (k : Nat) : Prop :=
  ∀ (deep : Int) (a b c d e : Value) (t : Tr k) (xs : List (It w0)), Pre w0 k deep [a, b, c, d, e] t xs → ∀ (n : Nat) (pre : List (It w0)) (W : World), Below w0.heap.size w0 W → (∀ q o, W.heap.size ≤ q → BxN o → ¬ Mt q o) → J pre W → pre ++ xs <+: XS → 0 ≤ deep → deep + szT k t ≤ 1000000000 →
    CallsIn Fence.wide n Try.prog 53 #[.agg #[a, b, c, d, e], .int .i64 deep, .func (.yield l) #[] #[]] W fun e W' =>
      (e = .returned (.bool true) ∧ J (pre ++ xs) W' ∧ Frp Mt W W') ∨ (e = .returned (.bool false) ∧ ∃ q, q <+: xs ∧ Jx (pre ++ q) W')

set_option maxHeartbeats 3200000 in
theorem walk_succ (w0 : World) (l : Nat) (Mt : Nat → Obj → Prop) (hG0 : ∀ i o, i < w0.heap.size → ¬ Mt i o) (J Jx : List (It w0) → World → Prop) (XS : List (It w0)) (hJ : ∀ s W W', J s W → W.grownBy W' none → J s W')
    (hY : ∀ m pre x W, J pre W → pre ++ [x] <+: XS → YieldAt Fence.wide m Try.prog l (encIt x) W fun e W' =>
      (e = .returned (.bool true) ∧ J (pre ++ [x]) W' ∧ Frp Mt W W') ∨ (e = .returned (.bool false) ∧ Jx (pre ++ [x]) W')) (k : Nat) (H : WalkSaid w0 l Mt J Jx XS k) : WalkSaid w0 l Mt J Jx XS (k + 1) := by
  intro deep a b c d e t xs hP n pre W hW hGW hj hpx hd0 hd1
  obtain ⟨_, _, _, _, _, rd, ks, hC, hxs, hks, hel⟩ := hP
  simp only [List.cons.injEq, and_true] at hC
  obtain ⟨rfl, rfl, rfl, rfl, rfl⟩ := hC
  have rd' := rd
  obtain ⟨_, _, _, _, e0, k1, k2, hb, hc, hd, he⟩ := rd'
  simp only [List.cons.injEq, and_true] at e0
  obtain ⟨rfl, rfl, rfl, rfl, rfl⟩ := e0
  obtain ⟨ab, cb, rfl, _, _⟩ := hb.shape
  obtain ⟨ac, cc, rfl, _, _⟩ := hc.shape
  obtain ⟨ad, cd, rfl, _, _⟩ := Elems.shape hd
  obtain ⟨ae, ce, rfl, hce, hcm⟩ := Elems.shape he
  obtain ⟨x, hx⟩ : ∃ x : It w0, x = ⟨deep, .int .i64 t.kind, .slice ab t.name.length cb, .slice ac t.text.length cc, .slice ad t.attrs.length cd, .slice ae t.kids.length ce, k, t, rd⟩ := ⟨_, rfl⟩
  have hB1 : Below W.heap.size W (W.alloc (.cells #[.int .i64 t.kind, .slice ab t.name.length cb, .slice ac t.text.length cc, .slice ad t.attrs.length cd, .slice ae t.kids.length ce] 32)) := (Below.refl _ _).alloc (Nat.le_refl _) _
  have l1 := Loc.made W #[.int .i64 t.kind, .slice ab t.name.length cb, .slice ac t.text.length cc, .slice ad t.attrs.length cd, .slice ae t.kids.length ce] 32
  have hy := hY (n - 1) pre x _ (hJ pre W _ hj (below_grown hB1)) (by
    refine List.IsPrefix.trans ?_ hpx
    rw [hxs, ← hx]
    exact ⟨(ks.map (·.2)).flatten, by simp⟩)
  rw [hx] at hy
  simp only [encIt] at hy
  rw [← hx] at hy hxs
  obtain ⟨fn, tmps, assign, body, hy1, hR⟩ := hy
  refine callsIn_of_wp Try.func53 rfl trivial ?_ rfl
  simp only [Try.ntmps53, List.size_toArray, List.length_cons, List.length_nil, Nat.reduceAdd, Nat.reduceSub, Array.replicate_succ, Array.replicate_zero, List.push_toArray, List.append_toArray, List.nil_append, List.cons_append]
  gi_wp2_with fail
  refine ⟨(fun h => (by cases h)), ?_⟩
  generalize (W.alloc (.cells #[.int .i64 t.kind, .slice ab t.name.length cb, .slice ac t.text.length cc, .slice ad t.attrs.length cd, .slice ae t.kids.length ce] 32)) = W1 at *
  refine hR.mono ?_
  clear hR
  rintro e W2 (⟨rfl, hJ2, hF2⟩ | ⟨rfl, hx2⟩)
  · have l2 := l1.frp hF2 (hGW _ _ (Nat.le_refl _) ⟨_, rfl⟩)
    have hGW2 : ∀ q o, W2.heap.size ≤ q → BxN o → ¬ Mt q o := fun q o h hb => hGW q o (by have := hB1.size; have := hF2.size; omega) hb
    have hW2 : Below w0.heap.size w0 W2 := hW.trans ((hB1.mono hW.size).trans (hF2.below (Nat.le_trans hW.size hB1.size) hG0))
    have F2 : Frp Mt W W2 := (Frp.ofBelow hB1 Mt).trans hF2
    have hlen : ks.length = t.kids.length := by rw [← hks]; simp
    have HX := hide hxs
    have HK := hide hks
    have HE := hide hx
    unfold maxLen at hcm
    have hm' : (t.kids.length : Int) ≤ 9223372036854775807 := by omega
    have HZ : Hid (∀ u ∈ t.kids, deep + 1 + szT k u ≤ 1000000000) := fun u hu => by have := sz_kid hu; omega
    have hdp : deep ≤ 1000000000 := by omega
    clear hxs hks hx hB1 hF2 hy1 hY hd1
    obtain ⟨x0, x1, x2, x3, x4⟩ := l2.five
    generalize hnk : t.kids.length = nk at *
    gi_wp2_with fail
    gi_loopw [17] (fun i wr => ∃ j : Nat, j ≤ nk ∧ i = .int .i64 j ∧ J (pre ++ x :: ((ks.take j).map (·.2)).flatten) wr ∧ Frp Mt W2 wr) (fun i _ => nk - (intOf i).toNat)
    case atStart => exact ⟨0, Nat.zero_le _, rfl, by simpa using hJ2, Frp.refl _ _⟩
    case round =>
      obtain ⟨j, hj1, rfl, hJr, hFr⟩ := hrel
      have hWr : Below w0.heap.size w0 wr := hW2.trans (hFr.below hW2.size hG0)
      have hGr : ∀ q o, wr.heap.size ≤ q → BxN o → ¬ Mt q o := fun q o h hb => hGW2 q o (Nat.le_trans hFr.size h) hb
      by_cases hlt : j < nk
      · have hjk : j < ks.length := by omega
        obtain ⟨kb, koff, rfl, hkb, hun, _, C, hC5, hcell, hPk⟩ := hel.at hjk
        clear hun
        obtain ⟨z, ab', nb', cb', ac', nc', cc', ad', nd', cd', ae', ne', ce', rfl⟩ := rd_shape (pre_rd hPk)
        have y0 := (hWr.cell (p := ⟨kb, koff + j * 5, none⟩) hkb).trans (hcell 0 (by omega))
        have y1 := (hWr.cell (p := ⟨kb, koff + j * 5 + 1, none⟩) hkb).trans (hcell 1 (by omega))
        have y2 := (hWr.cell (p := ⟨kb, koff + j * 5 + 2, none⟩) hkb).trans (hcell 2 (by omega))
        have y3 := (hWr.cell (p := ⟨kb, koff + j * 5 + 3, none⟩) hkb).trans (hcell 3 (by omega))
        have y4 := (hWr.cell (p := ⟨kb, koff + j * 5 + 4, none⟩) hkb).trans (hcell 4 (by omega))
        simp only [List.getElem?_cons_zero, List.getElem?_cons_succ] at y0 y1 y2 y3 y4
        have hB3 : Below wr.heap.size wr (wr.alloc (.cells #[.int .i64 z, .slice ab' nb' cb', .slice ac' nc' cc', .slice ad' nd' cd', .slice ae' ne' ce'] 32)) := (Below.refl _ _).alloc (Nat.le_refl _) _
        have hmem : ks[j].1 ∈ t.kids := by rw [← unhide HK]; exact List.mem_map.2 ⟨ks[j], List.getElem_mem hjk, rfl⟩
        have hpre : (pre ++ x :: ((ks.take j).map (·.2)).flatten) ++ ks[j].2 <+: XS := by
          refine List.IsPrefix.trans ?_ hpx
          rw [unhide HX]
          obtain ⟨r, hr⟩ := flat_pre ks (j + 1)
          rw [flat_take ks j hjk] at hr
          exact ⟨r, by simp only [List.append_assoc, List.cons_append] at hr ⊢; rw [hr]⟩
        have hcall := H (deep + 1) _ _ _ _ _ ks[j].1 ks[j].2 hPk (n - 1) (pre ++ x :: ((ks.take j).map (·.2)).flatten) _ (hWr.trans (hB3.mono hWr.size)) (fun q o h hb => hGr q o (Nat.le_trans hB3.size h) hb) (hJ _ _ _ hJr (below_grown hB3)) hpre (by omega) (unhide HZ _ hmem)
        have HC := hide hcall
        have F3 := hFr.trans (Frp.ofBelow hB3 Mt)
        have hlt' : (j : Int) < (nk : Int) := by omega
        clear hcall hel hcell hPk hmem hpre hB3 hJr hJ2
        have HL := hide hlen
        have HNK := hide hnk
        clear hlen hnk
        gi_wp2
        refine ⟨trivial, (fun h => (by cases h)), ?_⟩
        refine (unhide HC).mono ?_
        rintro e W3 (⟨rfl, hJ3, hF3⟩ | ⟨rfl, q, hq, hx3⟩)
        · gi_wp2
          go_roundw
          case rel => exact ⟨j + 1, by omega, by go_num, by rw [flat_take ks j hjk, ← List.cons_append, ← List.append_assoc]; exact hJ3, F3.trans hF3⟩
          case measure => simp [intOf]; omega
        · gi_wp2
          go_ret
          refine .inr ⟨rfl, x :: ((ks.take j).map (·.2)).flatten ++ q, ?_, by rw [← List.append_assoc]; exact hx3⟩
          obtain ⟨r, hr⟩ := flat_pre ks (j + 1)
          obtain ⟨r', hr'⟩ := hq
          rw [flat_take ks j hjk, ← hr'] at hr
          exact ⟨r' ++ r, by rw [unhide HX, ← hr]; simp⟩
      · have e : j = nk := by omega
        subst e
        have HL := hide hlen
        clear hlen hel
        gi_wp2
        go_ret
        refine .inl ⟨rfl, ?_, F2.trans hFr⟩
        rw [unhide HX]
        rw [List.take_of_length_le (by have := unhide HL; omega)] at hJr
        exact hJr
  · gi_wp2_with fail
    go_ret
    exact .inr ⟨rfl, [x], by rw [hxs]; exact ⟨_, rfl⟩, hx2⟩

theorem walk_any (w0 : World) (l : Nat) (Mt : Nat → Obj → Prop) (hG0 : ∀ i o, i < w0.heap.size → ¬ Mt i o) (J Jx : List (It w0) → World → Prop) (XS : List (It w0)) (hJ : ∀ s W W', J s W → W.grownBy W' none → J s W')
    (hY : ∀ m pre x W, J pre W → pre ++ [x] <+: XS → YieldAt Fence.wide m Try.prog l (encIt x) W fun e W' =>
      (e = .returned (.bool true) ∧ J (pre ++ [x]) W' ∧ Frp Mt W W') ∨ (e = .returned (.bool false) ∧ Jx (pre ++ [x]) W')) (k : Nat) : WalkSaid w0 l Mt J Jx XS k := by
  induction k with
  | zero => exact fun _ _ _ _ _ _ t => t.elim
  | succ k ih => exact walk_succ w0 l Mt hG0 J Jx XS hJ hY k ih

set_option maxHeartbeats 1600000 in
/-- The function that nodesOf hands back: it hands on all nodes. q: the block of what it holds. -/
theorem nodes_hand (w0 w : World) (l q k : Nat) (Mt : Nat → Obj → Prop) (hG0 : ∀ i o, i < w0.heap.size → ¬ Mt i o) (a b c d e : Value) (t : Tr (k + 1)) (xs : List (It w0)) (hP : Pre w0 (k + 1) 1 [a, b, c, d, e] t xs) (hsz : szT (k + 1) t ≤ 2097152)
    (hw : Below w0.heap.size w0 w) (hl : Loc w q #[a, b, c, d, e] 32) : Hands Try.prog 52 #[.pointer (some ⟨q, 0, none⟩)] encIt BxN Mt xs l w := by
  intro J Jx hJ hY n W hW hGW h0
  have l1 := hl.all hW
  obtain ⟨z, ab, nb, cb, ac, nc, cc, ad, nd, cd, ae, ne, ce, hC⟩ := rd_shape (pre_rd hP)
  simp only [List.cons.injEq, and_true] at hC
  obtain ⟨rfl, rfl, rfl, rfl, rfl⟩ := hC
  have hc := walk_any w0 l Mt hG0 J Jx xs hJ hY (k + 1) 1 _ _ _ _ _ t xs hP (n - 1) [] W (hw.trans (hW.mono hw.size)) hGW h0 (by simp) (by omega) (by omega)
  obtain ⟨x0, x1, x2, x3, x4⟩ := l1.five
  have HC := hide hc
  clear hc hY hJ hP
  refine callsIn_of_wp Try.func52 rfl trivial ?_ rfl
  simp only [Try.ntmps52, List.size_toArray, List.length_cons, List.length_nil, Nat.reduceAdd, Nat.reduceSub, Array.replicate_succ, Array.replicate_zero, List.push_toArray, List.append_toArray, List.nil_append, List.cons_append]
  gi_wp2
  refine ⟨trivial, (fun h => (by cases h)), ?_⟩
  refine (unhide HC).mono ?_
  rintro e W3 (⟨rfl, hJ3, hF3⟩ | ⟨rfl, q, hq, hx3⟩)
  · gi_wp2
    go_end0
    exact ⟨⟨_, rfl⟩, .inl (by simpa using hJ3)⟩
  · gi_wp2
    go_end0
    exact ⟨⟨_, rfl⟩, .inr ⟨q, hq, by simpa using hx3⟩⟩

/-- impl.nodesOf: what it is given is boxed, and held by the function that it hands back. -/
theorem nodesOf_any (w : World) (z : Int) (ab ac ad ae : Option Addr) (nb cb nc cc nd cd ne ce : Nat) :
    Calls Try.prog 30 #[.agg #[.int .i64 z, .slice ab nb cb, .slice ac nc cc, .slice ad nd cd, .slice ae ne ce]] w fun e w' => e = .returned (.func (.func 52) #[] #[.pointer (some ⟨w.heap.size, 0, none⟩)]) ∧
      w' = w.alloc (.cells #[.int .i64 z, .slice ab nb cb, .slice ac nc cc, .slice ad nd cd, .slice ae ne ce] 32) := by
  have hmf : ∀ (fn : Fn) (first cap : Array Value) (w : World), (Instr.makeFunc fn first cap).run Try.prog w = .ok (.func fn first cap) w := fun _ _ _ _ => rfl
  go_enter Try.func30, Try.ntmps30
  go_wp2
  go_ret
  exact ⟨rfl, rfl⟩
end Go.Proofs.Yteioihjgjbjmjaa

/- Tidying as plain mathematics: texts joined byte by byte are the row of their bytes, cut. -/
namespace Go.Proofs.Yteioihjgjbjmjaa
open Go.RowKit
set_option linter.unusedVariables false

/-- A member: other things, or a text. -/
abbrev Mb (α : Type) : Type := α ⊕ List Int
/-- A byte goes behind the text that is last there, if that has fewer than 30; else it begins one. -/
def joinB {α : Type} (ks : List (Mb α)) (x : Int) : List (Mb α) :=
  match ks.getLast? with
  | some (.inr l) => if l.length < 30 then ks.dropLast ++ [.inr (l ++ [x])] else ks ++ [.inr [x]]
  | _ => ks ++ [.inr [x]]
/-- All bytes of a text, one by one. -/
def joinL {α : Type} (ks : List (Mb α)) (l : List Int) : List (Mb α) := l.foldl joinB ks
/-- What spec's way comes to. -/
def tidyS {α : Type} : List (Mb α) → List (Mb α) → List (Mb α)
  | acc, [] => acc
  | acc, .inr l :: r => tidyS (joinL acc l) r
  | acc, .inl a :: r => tidyS (acc ++ [.inl a]) r

/-- A row of bytes, cut into pieces of 30. -/
def cut : Nat → List Int → List (List Int)
  | 0, _ => []
  | f + 1, l => if l = [] then [] else l.take 30 :: cut f (l.drop 30)
def cutL (l : List Int) : List (List Int) := cut l.length l
/-- What impl's way comes to: the row, cut, whenever another thing comes, and at the end. -/
def tidyI {α : Type} : List (Mb α) → List Int → List (Mb α) → List (Mb α)
  | acc, row, [] => acc ++ (cutL row).map .inr
  | acc, row, .inr l :: r => tidyI acc (row ++ l) r
  | acc, row, .inl a :: r => tidyI (acc ++ (cutL row).map .inr ++ [.inl a]) [] r

theorem cut_more : ∀ (f g : Nat) (l : List Int), l.length ≤ f → l.length ≤ g → cut f l = cut g l
  | 0, g, l, hf, _ => by
    have : l = [] := List.eq_nil_of_length_eq_zero (by omega)
    subst this
    cases g <;> simp [cut]
  | f + 1, 0, l, _, hg => by
    have : l = [] := List.eq_nil_of_length_eq_zero (by omega)
    subst this
    simp [cut]
  | f + 1, g + 1, l, hf, hg => by
    unfold cut
    by_cases h : l = []
    · simp [h]
    · rw [if_neg h, if_neg h]
      have hl : 0 < l.length := List.length_pos_iff.2 h
      rw [cut_more f g (l.drop 30) (by rw [List.length_drop]; omega) (by rw [List.length_drop]; omega)]
theorem cutL_step (l : List Int) (h : l ≠ []) : cutL l = l.take 30 :: cutL (l.drop 30) := by
  have hl : 0 < l.length := List.length_pos_iff.2 h
  obtain ⟨n, hn⟩ : ∃ n, l.length = n + 1 := ⟨l.length - 1, by omega⟩
  unfold cutL
  rw [hn, cut, if_neg h]
  congr 1
  exact cut_more _ _ _ (by rw [List.length_drop]; omega) (Nat.le_refl _)
theorem cutL_nil : cutL [] = [] := rfl
theorem cutL_short (l : List Int) (h : l ≠ []) (h30 : l.length ≤ 30) : cutL l = [l] := by
  rw [cutL_step l h, List.take_of_length_le h30, List.drop_of_length_le h30]; rfl

/-- A byte goes behind the last piece, if that has fewer than 30; else it begins one. -/
def addP : List (List Int) → Int → List (List Int)
  | [], x => [[x]]
  | [p], x => if p.length < 30 then [p ++ [x]] else [p, [x]]
  | p :: q :: r, x => p :: addP (q :: r) x
theorem cutL_ne {l : List Int} (h : l ≠ []) : cutL l ≠ [] := by rw [cutL_step l h]; simp
/-- The pieces of a row and of one byte more. -/
theorem cutL_snoc : ∀ (n : Nat) (l : List Int) (x : Int), l.length ≤ n → cutL (l ++ [x]) = addP (cutL l) x
  | 0, l, x, h => by
    have : l = [] := List.eq_nil_of_length_eq_zero (by omega)
    subst this
    rfl
  | n + 1, l, x, h => by
    by_cases h0 : l = []
    · subst h0; rfl
    by_cases h30 : l.length < 30
    · rw [cutL_short l h0 (by omega), cutL_short (l ++ [x]) (by simp) (by simp; omega), addP, if_pos h30]
    · have hd : l.drop 30 ++ [x] = (l ++ [x]).drop 30 := by rw [List.drop_append_of_le_length (by omega)]
      have ht : (l ++ [x]).take 30 = l.take 30 := by rw [List.take_append_of_le_length (by omega)]
      rw [cutL_step (l ++ [x]) (by simp), ht, ← hd, cutL_snoc n (l.drop 30) x (by rw [List.length_drop]; omega), cutL_step l h0]
      by_cases hz : l.drop 30 = []
      · rw [hz, cutL_nil, addP, addP, if_neg (by rw [List.length_take]; omega)]
      · have hne := cutL_ne hz
        cases hc : cutL (l.drop 30) with
        | nil => exact absurd hc hne
        | cons q r => rfl

/-- Nothing, or what ends with no text. -/
def NoTxt {α : Type} (ks : List (Mb α)) : Prop := ∀ l, ks.getLast? ≠ some (.inr l)
theorem joinB_add {α : Type} : ∀ (ps : List (List Int)) (A : List (Mb α)) (x : Int), NoTxt A → joinB (A ++ ps.map .inr) x = A ++ (addP ps x).map .inr
  | [], A, x, hA => by
    unfold joinB
    simp only [List.map_nil, List.append_nil, addP, List.map_cons]
    split
    · rename_i l hl; exact absurd hl (hA l)
    · rfl
  | [p], A, x, hA => by
    unfold joinB
    simp only [List.map_cons, List.map_nil, List.getLast?_append, List.getLast?_singleton, Option.some_or, List.dropLast_concat]
    by_cases h : p.length < 30
    · rw [if_pos h, addP, if_pos h]; rfl
    · rw [if_neg h, addP, if_neg h, List.append_assoc]; rfl
  | p :: q :: r, A, x, hA => by
    have ih := joinB_add (α := α) (q :: r) [] x (fun l h => by simp at h)
    simp only [List.nil_append] at ih
    have e : A ++ (p :: q :: r).map (Sum.inr : List Int → Mb α) = (A ++ [.inr p]) ++ (q :: r).map .inr := by simp
    have hlast : (A ++ (p :: q :: r).map (Sum.inr : List Int → Mb α)).getLast? = ((q :: r).map (Sum.inr : List Int → Mb α)).getLast? := by
      rw [e, List.getLast?_append]
      cases hq : ((q :: r).map (Sum.inr : List Int → Mb α)).getLast? with
      | none => simp at hq
      | some y => rfl
    have hdrop : (A ++ (p :: q :: r).map (Sum.inr : List Int → Mb α)).dropLast = (A ++ [.inr p]) ++ ((q :: r).map (Sum.inr : List Int → Mb α)).dropLast := by
      rw [e, List.dropLast_append_of_ne_nil (by simp)]
    have f : joinB (A ++ (p :: q :: r).map (Sum.inr : List Int → Mb α)) x = (A ++ [.inr p]) ++ joinB ((q :: r).map .inr) x := by
      unfold joinB
      rw [hlast, hdrop, e]
      cases hg : ((q :: r).map (Sum.inr : List Int → Mb α)).getLast? with
      | none => exact List.append_assoc _ _ _
      | some y =>
        cases y with
        | inl a => exact List.append_assoc _ _ _
        | inr l =>
          by_cases h : l.length < 30
          · simp only [h, if_true]; exact List.append_assoc _ _ _
          · simp only [h, if_false]; exact List.append_assoc _ _ _
    rw [f, ih, addP]
    simp
theorem joinL_cut {α : Type} (A : List (Mb α)) (hA : NoTxt A) : ∀ (l row : List Int), joinL (A ++ (cutL row).map .inr) l = A ++ (cutL (row ++ l)).map .inr
  | [], row => by simp [joinL]
  | x :: l, row => by
    have e : row ++ x :: l = (row ++ [x]) ++ l := by simp
    rw [e, ← joinL_cut A hA l (row ++ [x])]
    unfold joinL
    rw [List.foldl_cons, joinB_add _ _ _ hA, cutL_snoc row.length row x (Nat.le_refl _)]
/-- Both ways come to one. -/
theorem tidy_same {α : Type} : ∀ (ks A : List (Mb α)) (row : List Int), NoTxt A → tidyS (A ++ (cutL row).map .inr) ks = tidyI A row ks
  | [], A, row, _ => rfl
  | .inr l :: r, A, row, hA => by rw [tidyS, tidyI, joinL_cut A hA, tidy_same r A (row ++ l) hA]
  | .inl a :: r, A, row, hA => by
    rw [tidyS, tidyI]
    have := tidy_same r (A ++ (cutL row).map .inr ++ [.inl a]) [] (fun l h => by simp at h)
    rw [cutL_nil] at this
    simpa using this
theorem tidy_one {α : Type} (ks : List (Mb α)) : tidyS [] ks = tidyI [] [] ks := by
  have := tidy_same ks [] [] (fun l h => by simp at h)
  simpa [cutL_nil] using this
end Go.Proofs.Yteioihjgjbjmjaa

/- slices.Chunk over a row of bytes hands on its pieces of 30, one by one. -/
namespace Go.Proofs.Yteioihjgjbjmjaa
open Go.RowKit Go.Shelf
set_option linter.unusedVariables false
set_option maxRecDepth 100000

/-- A piece: the slice, and its bytes. -/
abbrev Pc : Type := Value × List Int
def pc (b off : Nat) (l : List Int) (k : Nat) : Pc := (.slice (some ⟨b, off + 30 * k, none⟩) (min 30 (l.length - 30 * k)) (min 30 (l.length - 30 * k)), (l.drop (30 * k)).take 30)
def pcs (b off : Nat) (l : List Int) : List Pc := (List.range ((l.length + 29) / 30)).map (pc b off l)
def encP (x : Pc) : Array Value := #[x.1]
theorem pcs_len (b off : Nat) (l : List Int) : (pcs b off l).length = (l.length + 29) / 30 := by simp [pcs]
theorem pcs_take (b off : Nat) (l : List Int) (j : Nat) (h : j < (l.length + 29) / 30) : (pcs b off l).take (j + 1) = (pcs b off l).take j ++ [pc b off l j] := by
  rw [List.take_succ_eq_append_getElem (by rw [pcs_len]; exact h)]
  simp [pcs]

theorem chunk_any (w : World) (a : Option Addr) (n cap : Nat) :
    Calls Try.prog 76 #[.slice a n cap, .int .i64 30] w fun e w' => e = .returned (.func (.func 80) #[] #[.pointer (some ⟨w.heap.size, 0, none⟩), .pointer (some ⟨w.heap.size + 1, 0, none⟩)]) ∧
      w' = (w.alloc (.cells #[.slice a n cap] 22)).alloc (.cells #[.int .i64 30] 3) := by
  have hmf : ∀ (fn : Fn) (first cap : Array Value) (w : World), (Instr.makeFunc fn first cap).run Try.prog w = .ok (.func fn first cap) w := fun _ _ _ _ => rfl
  have l2 := Loc.made (w.alloc (.cells #[.slice a n cap] 22)) #[.int .i64 30] 3
  simp only [World.size_alloc] at l2
  have c2 : ((w.alloc (.cells #[.slice a n cap] 22)).alloc (.cells #[.int .i64 30] 3)).cell? ⟨w.heap.size + 1, 0, none⟩ = some (.int .i64 30) := l2.cell 0
  go_enter Try.func76, Try.ntmps76
  go_wp2
  go_ret
  exact ⟨rfl, rfl⟩

set_option maxHeartbeats 3200000 in
theorem chunk_hand (w : World) (lp q : Nat) (Mt : Nat → Obj → Prop) (a : Option Addr) (b off cap : Nat) (l : List Int) (ha : l = [] ∨ a = some ⟨b, off, none⟩) (hcap : l.length ≤ cap) (hml : l.length ≤ 1000000000)
    (hq : ¬ Mt q (.cells #[.slice a l.length cap] 22 (0, 0))) (hq1 : ¬ Mt (q + 1) (.cells #[.int .i64 30] 3 (0, 0)))
    (hl : Loc w q #[.slice a l.length cap] 22) (hl1 : Loc w (q + 1) #[.int .i64 30] 3) :
    Hands Try.prog 80 #[.pointer (some ⟨q, 0, none⟩), .pointer (some ⟨q + 1, 0, none⟩)] encP (fun _ => False) Mt (pcs b off l) lp w := by
  intro J Jx hJ hY n W hW hGW h0
  have l1 := hl.all hW
  have l2 := hl1.all hW
  refine callsIn_of_wp Try.func80 rfl trivial ?_ rfl
  simp only [Try.ntmps80, List.size_toArray, List.length_cons, List.length_nil, Nat.reduceAdd, Nat.reduceSub, Array.replicate_succ, Array.replicate_zero, List.push_toArray, List.append_toArray, List.nil_append, List.cons_append]
  have hm' : (l.length : Int) ≤ 9223372036854775807 := by omega
  clear hGW hl hl1 hW
  have HY := hide hY
  clear hY
  gi_wp2_with fail
  gi_loopw [4] (fun i wr => ∃ j k : Nat, Hid (k = 30 * j) ∧ Hid (j ≤ (l.length + 29) / 30) ∧ i = .int .i64 k ∧ J ((pcs b off l).take j) wr ∧ Frp Mt W wr) (fun i _ => (l.length + 60) - (intOf i).toNat)
  case atStart => exact ⟨0, 0, rfl, Nat.zero_le _, rfl, by simpa using h0, Frp.refl _ _⟩
  case round =>
    obtain ⟨j, k, hk, hj1, rfl, hJr, hFr⟩ := hrel
    have c1 : wr.cell? ⟨q, 0, none⟩ = some (.slice a l.length cap) := (l1.frp hFr hq).cell 0
    have c2 : wr.cell? ⟨q + 1, 0, none⟩ = some (.int .i64 30) := (l2.frp hFr hq1).cell 0
    by_cases hlt : k < l.length
    · have hlt' : (k : Int) < (l.length : Int) := by omega
      have ea : a = some ⟨b, off, none⟩ := by
        rcases ha with h | h
        · subst h; simp at hlt
        · exact h
      subst ea
      have d1 : wr.drew.cell? ⟨q, 0, none⟩ = some (.slice (some ⟨b, off, none⟩) l.length cap) := c1
      have d2 : wr.drew.cell? ⟨q + 1, 0, none⟩ = some (.int .i64 30) := c2
      have hj2 : j < (l.length + 29) / 30 := by have := unhide hk; omega
      have HP := hide (pcs_take b off l j hj2)
      have HJ := hide (show J ((pcs b off l).take j) wr.drew from hJ _ _ _ hJr (below_grown ((Below.refl _ _).drew)))
      have k1 : k ≤ l.length := by omega
      have k2 : l.length ≤ cap := hcap
      have k3 : k ≤ cap := by omega
      clear hJr hj2 ha
      gi_wp2_with fail
      gi_region
      obtain ⟨e, he, hmn⟩ : ∃ e : Nat, (if ((l.length - k : Nat) : Int) < 30 then ((l.length - k : Nat) : Int) else 30) = (e : Int) ∧ e = min 30 (l.length - k) := ⟨min 30 (l.length - k), by split <;> omega, rfl⟩
      rw [he]
      have n1 : k + e ≤ l.length := by omega
      have n2 : k + e ≤ cap := by omega
      have n3 : ((k : Int) + (e : Int)) ≤ 1000000000 := by omega
      have n0 : 0 < e := by omega
      have HX := hide (show pc b off l j = (.slice (some ⟨b, off + k, none⟩) e e, (l.drop k).take 30) by
        have := unhide hk
        unfold pc
        rw [← this, ← hmn])
      have hy := unhide HY (n - 1) _ (pc b off l j) _ (unhide HJ) (by rw [← unhide HP]; exact List.take_prefix _ _)
      simp only [encP, unhide HX] at hy
      obtain ⟨fn, tmps, assign, body, hy1, hR⟩ := hy
      clear he hmn
      gi_wp2_with fail
      refine ⟨(fun h => (by cases h)), ?_⟩
      refine hR.mono ?_
      clear hR hy1
      have HPX : Hid ((pcs b off l).take j ++ [(.slice (some ⟨b, off + k, none⟩) e e, (l.drop k).take 30)] = (pcs b off l).take (j + 1)) := by rw [unhide HP, unhide HX]; rfl
      rintro e' W2 (⟨rfl, hJ2, hF2⟩ | ⟨rfl, hx2⟩)
      · rw [unhide HPX] at hJ2
        have F2 : Frp Mt W W2 := hFr.trans ((Frp.ofBelow ((Below.refl _ _).drew) Mt).trans hF2)
        have e2 : W2.cell? ⟨q + 1, 0, none⟩ = some (.int .i64 30) := (l2.frp F2 hq1).cell 0
        clear c1 c2 d1 d2
        gi_wp2
        go_roundw
        case rel => exact ⟨j + 1, k + 30, (by have := unhide hk; show k + 30 = 30 * (j + 1); omega), (by have := unhide hk; show j + 1 ≤ (l.length + 29) / 30; omega), by go_num, hJ2, F2⟩
        case measure => simp [intOf]; omega
      · rw [unhide HPX] at hx2
        gi_wp2
        first | go_end0 | (simp only [Exit.inBlock, Exit.then]; refine bodyPost_ret (results_none rfl _ _ _) rfl ?_) | refine bodyPost_ret (results_none rfl _ _ _) rfl ?_
        exact ⟨⟨_, rfl⟩, .inr ⟨_, List.take_prefix _ _, hx2⟩⟩
    · have hle : ¬ (k : Int) < (l.length : Int) := by omega
      have e : (pcs b off l).take j = pcs b off l := List.take_of_length_le (by rw [pcs_len]; have := unhide hk; omega)
      rw [e] at hJr
      gi_wp2
      go_end0
      exact ⟨⟨_, rfl⟩, .inl hJr⟩
end Go.Proofs.Yteioihjgjbjmjaa

/- impl.NodeOk answers what the plain test says. -/
namespace Go.Proofs.Yteioihjgjbjmjaa
open Go.RowKit Go.Shelf
set_option linter.unusedVariables false
set_option maxRecDepth 100000
attribute [local go_sem] Oper.semAt_some

theorem Loc.stay {W W' : World} {g D : Nat} {cs : Array Value} {T : TypeId} {row : Option Nat} (h : Loc W g cs T) (hg : W.grownBy W' row) (hr : ∀ r, row = some r → r = D ∨ r = D + 1) (h0 : g ≠ D) (h1 : g ≠ D + 1) : Loc W' g cs T :=
  (hg.block g h.lt (fun e => by rcases hr g e.symm with h | h; exact h0 h; exact h1 h)).trans h
theorem VSet.stay {W W' : World} {g D : Nat} {row : Option Nat} (h : VSet (D + 2) W g) (hg : W.grownBy W' row) (hr : ∀ r, row = some r → r = D ∨ r = D + 1) (h0 : g ≠ D) (h1 : g ≠ D + 1) : VSet (D + 2) W' g := by
  rcases h with h | ⟨m, hm, hl, hv⟩
  · exact .inl (h.stay hg hr h0 h1)
  · have hlt : m < W.heap.size := by
      by_cases h : m < W.heap.size
      · exact h
      · rw [Array.getElem?_eq_none (by omega)] at hv; cases hv
    exact .inr ⟨m, hm, hl.stay hg hr h0 h1, (hg.block m hlt (fun e => by rcases hr m e.symm with h | h <;> omega)).trans hv⟩
theorem below_stay {w W W' : World} {s D : Nat} {row : Option Nat} (h : Below s w W) (hs : s ≤ D) (hg : W.grownBy W' row) (hr : ∀ r, row = some r → r = D ∨ r = D + 1) (hsz : s ≤ W.heap.size) : Below s w W' :=
  h.grown hg hsz (fun r e => by rcases hr r e with h | h <;> omega)

theorem VSet.set {B : Nat} {V : World} {g p : Nat} {cs : Array Value} {T : TypeId} (h : VSet B V g) (hl : Loc V p cs T) (hne : g ≠ p) (j : Nat) (v : Value) : VSet B (V.setCell ⟨p, j, none⟩ v) g := by
  rcases h with h | ⟨m, hm, hg, hv⟩
  · exact .inl (h.other p j v hne)
  · have hmp : m ≠ p := fun e => by subst e; unfold Loc at hl; rw [hv] at hl; cases hl
    exact .inr ⟨m, hm, hg.other p j v hne, (heap_setCell_other V ⟨p, j, none⟩ m v hmp).trans hv⟩
theorem books_set (D : Nat) (V : World) (p j : Nat) (v : Value) (h0 : D ≠ p) (h1 : D + 1 ≠ p) : BooksSame D V (V.setCell ⟨p, j, none⟩ v) := ⟨heap_setCell_other V ⟨p, j, none⟩ D v h0, heap_setCell_other V ⟨p, j, none⟩ (D + 1) v h1⟩
theorem books_frm {D : Nat} {V V' : World} {S : List Nat} (f : Frm V V' S) (hl : D + 2 ≤ V.heap.size) (h0 : D ∉ S) (h1 : D + 1 ∉ S) : BooksSame D V V' := ⟨f.block D (by omega) h0, f.block (D + 1) (by omega) h1⟩
theorem BooksSame.trans {D : Nat} {A B C : World} (h : BooksSame D A B) (k : BooksSame D B C) : BooksSame D A C := ⟨k.1.trans h.1, k.2.trans h.2⟩
theorem scan_len {a : List (Int × Bool)} {left : Int} (h : (scan a left).1 = true) (h0 : 0 ≤ left) : (a.length : Int) ≤ left := by
  induction a generalizing left with
  | nil => simpa using h0
  | cons x r ih =>
    rw [scan] at h
    by_cases hc : left - 1 < 0 ∨ 20 < x.1 ∨ x.2 = false
    · rw [if_pos hc] at h; cases h
    · rw [if_neg hc] at h
      have := ih h (by omega)
      simp only [List.length_cons]
      omega
/-- A test more. -/
theorem scan_snoc {a : List (Int × Bool)} {x : Int × Bool} {n : Nat} (h : scan a 120 = (true, (120 : Int) - n)) : scan (a ++ [x]) 120 = if 120 < (n : Int) + 1 ∨ 20 < x.1 ∨ x.2 = false then (false, (120 : Int) - n - 1) else (true, (120 : Int) - n - 1) := by
  rw [scan_app, h]
  simp only [if_true, scan]
  have e : ((120 : Int) - n - 1 < 0 ∨ 20 < x.1 ∨ x.2 = false) ↔ (120 < (n : Int) + 1 ∨ 20 < x.1 ∨ x.2 = false) := by
    constructor
    · rintro (h | h)
      · exact .inl (by omega)
      · exact .inr h
    · rintro (h | h)
      · exact .inl (by omega)
      · exact .inr h
  simp only [e]

/-- Five new blocks, one behind the other. -/
theorem five_new (w : World) (A1 A2 A3 A4 A5 : Array Value) (T1 T2 T3 T4 T5 : TypeId) (W : World) (hW : W = ((((w.alloc (.cells A1 T1)).alloc (.cells A2 T2)).alloc (.cells A3 T3)).alloc (.cells A4 T4)).alloc (.cells A5 T5)) :
    Loc W (w.heap.size + 1) A2 T2 ∧ Loc W (w.heap.size + 1 + 1) A3 T3 ∧ Loc W (w.heap.size + 1 + 1 + 1) A4 T4 ∧ Loc W (w.heap.size + 1 + 1 + 1 + 1) A5 T5 ∧ W.heap.size = w.heap.size + 1 + 1 + 1 + 1 + 1 ∧ Below w.heap.size w W := by
  subst hW
  have m2 := Loc.made (w.alloc (.cells A1 T1)) A2 T2
  have m3 := Loc.made ((w.alloc (.cells A1 T1)).alloc (.cells A2 T2)) A3 T3
  have m4 := Loc.made (((w.alloc (.cells A1 T1)).alloc (.cells A2 T2)).alloc (.cells A3 T3)) A4 T4
  have m5 := Loc.made ((((w.alloc (.cells A1 T1)).alloc (.cells A2 T2)).alloc (.cells A3 T3)).alloc (.cells A4 T4)) A5 T5
  simp only [World.size_alloc] at m2 m3 m4 m5
  exact ⟨((m2.alloc _).alloc _).alloc _, (m3.alloc _).alloc _, m4.alloc _, m5, by simp, (((((Below.refl _ w).alloc (Nat.le_refl _) _).alloc (by simp) _).alloc (by simp; omega) _).alloc (by simp; omega) _).alloc (by simp; omega) _⟩

set_option maxHeartbeats 3200000 in
theorem nodeI_elem (k : Nat) (w : World) (a b c d e : Value) (t : Tr (k + 1)) (h : RdNode (k + 1) w [a, b, c, d, e] t) (hsz : szT (k + 1) t ≤ 2097152) (hz : t.kind = 0) :
    Calls Try.prog 10 #[.agg #[a, b, c, d, e]] w fun e w' => e = .returned (.bool (okN k t)) ∧ Below w.heap.size w w' := by
  have HO := hide (show okN k t = (scan (pn (k + 1) 1 t) 120).1 by unfold okN; rw [okT_scan]; simp [hz])
  obtain ⟨xs, hP⟩ := pre_ex w (k + 1) 1 [a, b, c, d, e] t h
  have HM := hide (pre_pn w (k + 1) 1 _ t xs hP)
  have hC : ∃ ab nb cb ac nc cc ad nd cd ae ne ce, [a, b, c, d, e] = [Value.int .i64 0, .slice ab nb cb, .slice ac nc cc, .slice ad nd cd, .slice ae ne ce] := by
    obtain ⟨_, _, _, _, e0, k1, k2, hb, hc, hd, he⟩ := h
    simp only [List.cons.injEq, and_true] at e0
    obtain ⟨rfl, rfl, rfl, rfl, rfl⟩ := e0
    obtain ⟨ab, cb, rfl, _, _⟩ := hb.shape
    obtain ⟨ac, cc, rfl, _, _⟩ := hc.shape
    obtain ⟨ad, cd, rfl, _, _⟩ := Elems.shape hd
    obtain ⟨ae, ce, rfl, _, _⟩ := Elems.shape he
    rw [hz]
    exact ⟨_, _, _, _, _, _, _, _, _, _, _, _, rfl⟩
  obtain ⟨ab, nb, cb, ac, nc, cc, ad, nd, cd, ae, ne, ce, hC⟩ := hC
  simp only [List.cons.injEq, and_true] at hC
  obtain ⟨rfl, rfl, rfl, rfl, rfl⟩ := hC
  have HP := hide hP
  have HH := hide h
  clear hP h hz
  refine (callsIn_wide (n := 5)).1 ?_
  refine callsIn_of_wp_marks Try.func10 rfl trivial ?_ rfl
  simp only [Try.ntmps10, List.size_toArray, List.length_cons, List.length_nil, Nat.reduceAdd, Nat.reduceSub, Array.replicate_succ, Array.replicate_zero, List.push_toArray, List.append_toArray, List.nil_append, List.cons_append]
  gi_wp2_with fail
  refine ⟨trivial, ?_⟩
  refine (callsIn_wide.2 (nodesOf_any _ _ _ _ _ _ _ _ _ _ _ _ _ _)).mono ?_
  rintro e W ⟨rfl, hW⟩
  obtain ⟨l1, l2, l3, l4, hsW, hBW⟩ := five_new w _ _ _ _ _ _ _ _ _ _ W hW
  clear hW
  simp only [World.size_alloc]
  obtain ⟨q1, q2, q3, q4, q5⟩ : w.heap.size < w.heap.size + 1 ∧ w.heap.size + 1 < w.heap.size + 1 + 1 ∧ w.heap.size + 1 + 1 < w.heap.size + 1 + 1 + 1 ∧ w.heap.size + 1 + 1 + 1 < w.heap.size + 1 + 1 + 1 + 1 ∧ w.heap.size + 1 + 1 + 1 + 1 < W.heap.size := by omega
  clear hsW
  generalize w.heap.size + 1 + 1 + 1 + 1 = p4 at *
  generalize w.heap.size + 1 + 1 + 1 = p3 at *
  generalize w.heap.size + 1 + 1 = p2 at *
  generalize w.heap.size + 1 = p1 at *
  gi_wp2_with fail
  refine range_law (gf := 52) (lb := #[.pointer (some ⟨p4, 0, none⟩)]) (Bx := BxN) (Mt := fun i _ => i ∈ [p1, p2, p3, W.heap.size + 1]) (xs := xs) (encs := encIt) rfl (enters_of Try.func52 (by kernel_rfl) rfl) (fun _ => by simp) (fun q o hq _ hm => by simp at hm; omega)
    (nodes_hand w W _ p4 k _ (fun i o hi hm => by simp at hm; omega) _ _ _ _ _ t xs (unhide HP) hsz hBW l4) (fun _ => rfl)
    (fun pre V => Loc V p3 #[.int .i64 (pre.length : Nat)] 3 ∧ Loc V p1 #[.bool false] 4 ∧ VSet (W.heap.size + 2) V p2 ∧ Below w.heap.size w V ∧ scan (pre.map tst) 120 = (true, (120 : Int) - (pre.length : Nat)))
    (fun pre V => Loc V p1 #[.bool false] 4 ∧ Below w.heap.size w V ∧ (scan (pre.map tst) 120).1 = false)
    (fun pre A B row hs hg hr => ⟨hs.1.stay hg hr (by omega) (by omega), hs.2.1.stay hg hr (by omega) (by omega), hs.2.2.1.stay hg hr (by omega) (by omega), below_stay hs.2.2.2.1 (by omega) hg hr hs.2.2.2.1.size, hs.2.2.2.2⟩)
    (fun pre A B row hs hg hr => ⟨hs.1.stay hg hr (by omega) (by omega), below_stay hs.2.1 (by omega) hg hr hs.2.1.size, hs.2.2⟩)
    ⟨l3, l1, .inl l2, hBW, rfl⟩
    (fun x a' V => ∃ q, W.heap.size + 1 < q ∧ Loc V q #[x.a, x.b, x.c, x.d, x.e] 32 ∧ a' = { tmps := #[.agg #[.int .i64 0, .slice ab nb cb, .slice ac nc cc, .slice ad nd cd, .slice ae ne ce], .pointer (some ⟨w.heap.size, 0, none⟩), .pointer (some ⟨p1, 0, none⟩), .pointer (some ⟨p2, 0, none⟩), .pointer (some ⟨p3, 0, none⟩), .int .i64 x.deep, .pointer (some ⟨q, 0, none⟩), .pointer (some ⟨w.heap.size, 0, none⟩), .int .i64 0, .bool false, .agg #[.int .i64 0, .slice ab nb cb, .slice ac nc cc, .slice ad nd cd, .slice ae ne ce], .func (.func 52) #[] #[.pointer (some ⟨p4, 0, none⟩)], .int .i64 x.deep, .agg #[x.a, x.b, x.c, x.d, x.e], undef, undef, undef, undef, undef, undef, undef, undef, undef, undef, undef, undef, undef], defers := [] })
    (fun x a' u A B row hs hg hr => by obtain ⟨q, h1, h2, h3⟩ := hs; exact ⟨q, h1, h2.stay hg hr (by omega) (by omega), h3⟩)
    ?assign ?body ?done ?stop
  case assign =>
    intro pre x V K hi hV2 hK
    obtain ⟨deep, a, b, c, d, e, m, u, rd⟩ := x
    obtain ⟨z, ab', nb', cb', ac', nc', cc', ad', nd', cd', ae', ne', ce', hC⟩ := rd_shape rd
    simp only [List.cons.injEq, and_true] at hC
    obtain ⟨rfl, rfl, rfl, rfl, rfl⟩ := hC
    simp only [encIt] at hK ⊢
    gi_wp2
    exact hK _ _ ((Below.refl _ _).alloc (Nat.le_refl _) _) ⟨V.heap.size, by omega, Loc.made V _ _, rfl⟩
  case body =>
    rintro pre x a' V ⟨i3, i1, iV, iB, iS⟩ ⟨q, hq, lq, rfl⟩ hpx hsz2
    obtain ⟨deep, a, b, c, d, e, m, u, rd⟩ := x
    have HI := hide (And.intro i3 (And.intro i1 (And.intro iV (And.intro iB iS))))
    have HR := hide rd
    obtain ⟨z, ab', nb', cb', ac', nc', cc', ad', nd', cd', ae', ne', ce', hC⟩ := rd_shape rd
    simp only [List.cons.injEq, and_true] at hC
    obtain ⟨rfl, rfl, rfl, rfl, rfl⟩ := hC
    have hlen : pre.length ≤ 120 := by
      have := scan_len (a := pre.map tst) (left := 120) (by rw [iS]) (by omega)
      simp at this
      omega
    have c3 : V.cell? ⟨p3, 0, none⟩ = some (.int .i64 (pre.length : Nat)) := i3.cell 0
    have f3 := i3.frozen 0
    have c1 : V.cell? ⟨p1, 0, none⟩ = some (.bool false) := i1.cell 0
    have f1 := i1.frozen 0
    simp only at lq
    obtain ⟨x0, x1, x2, x3, x4⟩ := lq.five
    have hsn := scan_snoc (x := tst (⟨deep, .int .i64 z, .slice ab' nb' cb', .slice ac' nc' cc', .slice ad' nd' cd', .slice ae' ne' ce', m, u, rd⟩ : It w)) iS
    have HS := hide hsn
    clear hsn iS i3 i1 iV iB
    generalize hn : pre.length = n at *
    have HN := hide hn
    clear hn
    have hn1 : 0 ≤ (n : Int) + 1 := by omega
    have hBk : BooksSame W.heap.size V ((V.setCell ⟨p3, 0, none⟩ (.int .i64 ((n : Int) + 1))).setCell ⟨p1, 0, none⟩ (.bool false)) := (books_set W.heap.size V p3 0 _ (by omega) (by omega)).trans (books_set W.heap.size _ p1 0 _ (by omega) (by omega))
    by_cases h1 : 120 < (n : Int) + 1
    · gi_wp2
      refine ⟨trivial, ?_⟩
      gi_wp2
      obtain ⟨i3, i1, iV, iB, iS⟩ := unhide HI
      refine ⟨hBk, (i1.other p3 0 _ (by omega)).set 0 (.bool false), (iB.setCell (p := ⟨p3, 0, none⟩) (by show w.heap.size ≤ p3; omega) _).setCell (p := ⟨p1, 0, none⟩) (by show w.heap.size ≤ p1; omega) _, ?_⟩
      rw [List.map_append, List.map_cons, List.map_nil, unhide HS, if_pos (.inl h1)]
    · by_cases h2 : 20 < deep
      · gi_wp2
        refine ⟨trivial, ?_⟩
        gi_wp2
        obtain ⟨i3, i1, iV, iB, iS⟩ := unhide HI
        refine ⟨hBk, (i1.other p3 0 _ (by omega)).set 0 (.bool false), (iB.setCell (p := ⟨p3, 0, none⟩) (by show w.heap.size ≤ p3; omega) _).setCell (p := ⟨p1, 0, none⟩) (by show w.heap.size ≤ p1; omega) _, ?_⟩
        rw [List.map_append, List.map_cons, List.map_nil, unhide HS, if_pos (.inr (.inl h2))]
      · have hcall : Calls Try.prog 31 #[.agg #[.int .i64 z, .slice ab' nb' cb', .slice ac' nc' cc', .slice ad' nd' cd', .slice ae' ne' ce'], .pointer (some ⟨p2, 0, none⟩)] (V.setCell ⟨p3, 0, none⟩ (.int .i64 ((n : Int) + 1))) fun e w' => e = .returned (.bool (partB u)) ∧ VSet (W.heap.size + 2) w' p2 ∧ Frm (V.setCell ⟨p3, 0, none⟩ (.int .i64 ((n : Int) + 1))) w' [p2] := by
          obtain ⟨i3, i1, iV, iB, iS⟩ := unhide HI
          exact partI_any (W.heap.size + 2) m w _ _ _ _ _ _ u p2 (unhide HR) (iB.setCell (p := ⟨p3, 0, none⟩) (by show w.heap.size ≤ p3; omega) _) (by omega) (iV.set i3 (by omega) 0 _) (by simpa using hsz2)
        have HC := hide hcall
        clear hcall
        gi_wp2
        refine ⟨trivial, ?_⟩
        refine (CallsIn.inRound (F := Fence.wide) (W.heap.size + 1) (callsIn_wide.2 (unhide HC))).mono ?_
        rintro e V2 ⟨rfl, hV2, F2⟩
        have HA : Hid (Loc V2 p3 #[.int .i64 ((n : Int) + 1)] 3 ∧ Loc V2 p1 #[.bool false] 4 ∧ Below w.heap.size w V2 ∧ BooksSame W.heap.size V V2 ∧ Frm V V2 [p1, p2, p3, W.heap.size + 1]) := by
          obtain ⟨i3, i1, iV, iB, iS⟩ := unhide HI
          have iB1 := iB.setCell (p := ⟨p3, 0, none⟩) (by show w.heap.size ≤ p3; omega) (.int .i64 ((n : Int) + 1))
          refine ⟨(i3.set 0 _).frm F2 (by simp; omega), (i1.other p3 0 _ (by omega)).frm F2 (by simp; omega), iB1.trans (F2.below iB1.size (fun g hg => by simp at hg; omega)), (books_set W.heap.size V p3 0 _ (by omega) (by omega)).trans (books_frm F2 (by simpa using hsz2) (by simp; omega) (by simp; omega)), ?_⟩
          exact ((Frm.set V p3 0 _).mono (fun g hg => by simp at hg; simp [hg])).trans (F2.mono (fun g hg => by simp at hg; simp [hg]))
        have c1 : V2.cell? ⟨p1, 0, none⟩ = some (.bool false) := (unhide HA).2.1.cell 0
        have f1 := (unhide HA).2.1.frozen 0
        clear x0 x1 x2 x3 x4 c3 f3
        by_cases hb : partB u = true
        · rw [hb]
          gi_wp2
          obtain ⟨a3, a1, aB, aK, aF⟩ := unhide HA
          refine ⟨aK, Frp.ofFrm aF (fun g hg _ _ => hg), ?_, a1, hV2, aB, ?_⟩
          · have e : ((pre ++ [(⟨deep, .int .i64 z, .slice ab' nb' cb', .slice ac' nc' cc', .slice ad' nd' cd', .slice ae' ne' ce', m, u, rd⟩ : It w)]).length : Int) = (n : Int) + 1 := by rw [List.length_append, unhide HN]; simp
            rw [e]; exact a3
          · rw [List.map_append, List.map_cons, List.map_nil, unhide HS, if_neg (by simp only [tst, hb]; simp; omega)]
            rw [List.length_append, unhide HN]
            simp
            omega
        · have hb' : partB u = false := by simpa using hb
          rw [hb']
          gi_wp2
          obtain ⟨a3, a1, aB, aK, aF⟩ := unhide HA
          refine ⟨aK.trans (books_set W.heap.size _ p1 0 _ (by omega) (by omega)), a1.set 0 (.bool false), aB.setCell (p := ⟨p1, 0, none⟩) (by show w.heap.size ≤ p1; omega) _, ?_⟩
          rw [List.map_append, List.map_cons, List.map_nil, unhide HS, if_pos (.inr (.inr hb'))]
  case done =>
    rintro V ⟨i3, i1, iV, iB, iS⟩ hD
    have c1 : V.cell? ⟨p1, 0, none⟩ = some (.bool false) := i1.cell 0
    have f1 := i1.frozen 0
    have HF := hide (show okN k t = true by rw [unhide HO, ← unhide HM, iS])
    clear iS
    gi_wp2
    have hD' : (V.setCell ⟨p1, 0, none⟩ (.bool true)).heap[W.heap.size]? = some (.deferred (some [])) := (heap_setCell_other V ⟨p1, 0, none⟩ _ _ (by show W.heap.size ≠ p1; omega)).trans hD
    refine ⟨by simp, .inl ⟨_, _, rfl, run_takeDeferred hD', ?_⟩⟩
    have lE : Loc ((V.setCell ⟨p1, 0, none⟩ (.bool true)).putObj W.heap.size (.deferred none)) p1 #[.bool true] 4 := (i1.set 0 (.bool true)).stay (grownBy_putObj' _ _ _) (fun r e => by cases e; exact .inl rfl) (by omega) (by omega)
    have c5 : ((V.setCell ⟨p1, 0, none⟩ (.bool true)).putObj W.heap.size (.deferred none)).cell? ⟨p1, 0, none⟩ = some (.bool true) := lE.cell 0
    refine ⟨.bool true, ?_, by rw [unhide HF], below_stay (iB.setCell (p := ⟨p1, 0, none⟩) (by show w.heap.size ≤ p1; omega) _) (D := W.heap.size) (by omega) (grownBy_putObj' _ _ _) (fun r e => by cases e; exact .inl rfl) (by simpa using iB.size)⟩
    simp [results, Try.f10, go_sem, c5]
  case stop =>
    rintro pre V hpre ⟨i1, iB, iS⟩ hD
    have HF := hide (show okN k t = false by rw [unhide HO, ← unhide HM]; exact scan_no iS (hpre.map _))
    clear iS
    gi_wp2
    refine ⟨by simp, .inl ⟨_, _, rfl, run_takeDeferred hD, ?_⟩⟩
    have lE : Loc (V.putObj W.heap.size (.deferred none)) p1 #[.bool false] 4 := i1.stay (grownBy_putObj' _ _ _) (fun r e => by cases e; exact .inl rfl) (by omega) (by omega)
    have c5 : (V.putObj W.heap.size (.deferred none)).cell? ⟨p1, 0, none⟩ = some (.bool false) := lE.cell 0
    refine ⟨.bool false, ?_, by rw [unhide HF], below_stay iB (D := W.heap.size) (by omega) (grownBy_putObj' _ _ _) (fun r e => by cases e; exact .inl rfl) iB.size⟩
    simp [results, Try.f10, go_sem, c5]

theorem nodeI_none (k : Nat) (w : World) (a b c d e : Value) (t : Tr (k + 1)) (h : RdNode (k + 1) w [a, b, c, d, e] t) (hz : t.kind ≠ 0) :
    Calls Try.prog 10 #[.agg #[a, b, c, d, e]] w fun e w' => e = .returned (.bool (okN k t)) ∧ Below w.heap.size w w' := by
  have HO := hide (show okN k t = false by unfold okN; simp [hz])
  obtain ⟨_, _, _, _, e0, k1, k2, hb, hc, hd, he⟩ := h
  simp only [List.cons.injEq, and_true] at e0
  obtain ⟨rfl, rfl, rfl, rfl, rfl⟩ := e0
  obtain ⟨ab, cb, rfl, _, _⟩ := hb.shape
  obtain ⟨ac, cc, rfl, _, _⟩ := hc.shape
  obtain ⟨ad, cd, rfl, _, _⟩ := Elems.shape hd
  obtain ⟨ae, ce, rfl, _, _⟩ := Elems.shape he
  have d0 : (t.kind != 0) = true := by simpa using hz
  clear hb hc hd he
  generalize t.kind = z at *
  generalize t.name.length = nb at *
  generalize t.text.length = nc at *
  generalize t.attrs.length = nd at *
  generalize t.kids.length = ne at *
  go_enter Try.func10, Try.ntmps10
  go_wp2_with fail
  refine bodyPost_ret (v := .bool false) (by simp [results, Try.results10, go_sem]) rfl ⟨by rw [unhide HO], ?_⟩
  exact ((Below.refl _ _).alloc (Nat.le_refl _) _).alloc (by simp) _

/-- impl.NodeOk. -/
theorem nodeI_any (k : Nat) (w : World) (a b c d e : Value) (t : Tr (k + 1)) (h : RdNode (k + 1) w [a, b, c, d, e] t) (hsz : szT (k + 1) t ≤ 2097152) :
    Calls Try.prog 10 #[.agg #[a, b, c, d, e]] w fun e w' => e = .returned (.bool (okN k t)) ∧ Below w.heap.size w w' := by
  by_cases hz : t.kind = 0
  · exact nodeI_elem k w a b c d e t h hsz hz
  · exact nodeI_none k w a b c d e t h hz
end Go.Proofs.Yteioihjgjbjmjaa

/- impl.sameAttr, and slices.EqualFunc over attributes: they answer whether the attributes are one. -/
namespace Go.Proofs.Yteioihjgjbjmjaa
open Go.RowKit
set_option linter.unusedVariables false
set_option maxRecDepth 100000

theorem Loc.pair {w : World} {g : Nat} {a b : Value} {T : TypeId} (h : Loc w g #[a, b] T) : w.cell? ⟨g, 0, none⟩ = some a ∧ w.cell? ⟨g, 1, none⟩ = some b := ⟨h.cell 0, h.cell 1⟩

set_option maxHeartbeats 1600000 in
theorem sameAttr_any (w : World) (a b a' b' : Value) (x y : List Int × List Int) (ha : Byt w a x.1) (hb : Byt w b x.2) (ha' : Byt w a' y.1) (hb' : Byt w b' y.2) :
    Calls Try.prog 61 #[.agg #[a, b], .agg #[a', b']] w fun e w' => e = .returned (.bool (decide (x = y))) ∧ Below w.heap.size w w' := by
  obtain ⟨p1, k1, rfl, _⟩ := ha.shape
  obtain ⟨p2, k2, rfl, _⟩ := hb.shape
  obtain ⟨q1, j1, rfl, _⟩ := ha'.shape
  obtain ⟨q2, j2, rfl, _⟩ := hb'.shape
  obtain ⟨l1, l2, hB⟩ := two w #[.slice p1 x.1.length k1, .slice p2 x.2.length k2] #[.slice q1 y.1.length j1, .slice q2 y.2.length j2] 88 88
  have HD : Hid ((x.1 ≠ y.1 → decide (x = y) = false) ∧ (x.1 = y.1 → decide (x = y) = decide (x.2 = y.2))) := by
    obtain ⟨x1, x2⟩ := x
    obtain ⟨y1, y2⟩ := y
    refine ⟨fun h => ?_, fun h => ?_⟩
    · simp only [decide_eq_false_iff_not]; intro e; exact h (congrArg Prod.fst e)
    · simp only at h; subst h; simp
  generalize x.1.length = n1 at *
  generalize x.2.length = n2 at *
  generalize y.1.length = m1 at *
  generalize y.2.length = m2 at *
  go_enter Try.func61, Try.ntmps61
  go_wp2_with fail
  generalize (w.alloc (.cells #[.slice p1 n1 k1, .slice p2 n2 k2] 88)).alloc (.cells #[.slice q1 m1 j1, .slice q2 m2 j2] 88) = w1 at *
  refine (equalI_any w1 _ _ x.1 y.1 (ha.keep hB) (ha'.keep hB)).mono ?_
  rintro e w1 ⟨rfl, rfl⟩
  obtain ⟨c0, c1⟩ := l1.pair
  obtain ⟨d0, d1⟩ := l2.pair
  by_cases h1 : x.1 = y.1
  · rw [show decide (x.1 = y.1) = true by simpa using h1]
    have HE := hide ((unhide HD).2 h1)
    clear h1
    go_wp2_with fail
    refine (equalI_any w1 _ _ x.2 y.2 (hb.keep hB) (hb'.keep hB)).mono ?_
    rintro e w1 ⟨rfl, rfl⟩
    go_wp2_with fail
    go_ret
    exact ⟨by rw [unhide HE]; rfl, hB⟩
  · rw [show decide (x.1 = y.1) = false by simpa using h1]
    have HE := hide ((unhide HD).1 h1)
    clear h1
    go_wp2_with fail
    go_ret
    exact ⟨by rw [unhide HE]; rfl, hB⟩

theorem eq_to {α : Type} {l m : List α} {k : Nat} (hl : l.length = m.length) (hk : k = l.length) (h : ∀ i, i < k → l[i]? = m[i]?) : l = m := by
  apply List.ext_getElem?
  intro i
  by_cases hi : i < k
  · exact h i hi
  · rw [List.getElem?_eq_none (by omega), List.getElem?_eq_none (by omega)]

set_option maxHeartbeats 3200000 in
theorem equalAttrs_any (w : World) (u v : Value) (l m : List (List Int × List Int)) (hu : RdAttrs w u l) (hv : RdAttrs w v m) :
    Calls Try.prog 60 #[u, v, .func (.func 61) #[] #[]] w fun e w' => e = .returned (.bool (decide (l = m))) ∧ Below w.heap.size w w' := by
  have hml := hu.1
  unfold maxLen at hml
  obtain ⟨au, cu, rfl, _, _⟩ := Elems.shape hu
  obtain ⟨av, cv, rfl, _, _⟩ := Elems.shape hv
  by_cases hlen : l.length = m.length
  · have d1 : ((l.length : Int) != (m.length : Int)) = false := by simp [hlen]
    have HL := hide hlen
    have hml' : (l.length : Int) ≤ 9223372036854775807 := by omega
    generalize hn : l.length = n at *
    have HN := hide hn
    have HM : Hid (m.length = n) := hide hlen.symm
    rw [← hlen] at d1 hv
    rw [← hlen]
    clear hlen hn HL
    go_enter Try.func60, Try.ntmps60
    go_wp2_with fail
    go_loopw [17] (fun i wr => ∃ k : Nat, k ≤ n ∧ i = .int .i64 k ∧ (∀ i, i < k → l[i]? = m[i]?) ∧ Below w.heap.size w wr) (fun i _ => n - (intOf i).toNat)
    case atStart => exact ⟨0, Nat.zero_le _, rfl, fun i hi => by omega, Below.refl _ _⟩
    case round =>
      obtain ⟨k, hk, rfl, ha, hB⟩ := hrel
      have HA := hide ha
      clear ha
      by_cases hlt : k < n
      · have hkl : k < l.length := by rw [unhide HN]; exact hlt
        have hkm : k < m.length := by rw [unhide HM]; exact hlt
        obtain ⟨b, off, rfl, hbl, hun, _, C, hC, hc, hr⟩ := hu.at hkl
        clear hun
        obtain ⟨b', off', rfl, hbl', hun, _, C', hC', hc', hr'⟩ := hv.at hkm
        clear hun
        obtain ⟨x, hx⟩ : ∃ x, x = l[k] := ⟨_, rfl⟩
        obtain ⟨y, hy⟩ : ∃ y, y = m[k] := ⟨_, rfl⟩
        rw [← hx] at hr
        rw [← hy] at hr'
        obtain ⟨v0, v1, rfl, h0, h1⟩ := hr
        obtain ⟨v0', v1', rfl, h0', h1'⟩ := hr'
        have e0 := (hB.cell (p := ⟨b, off + k * 2, none⟩) hbl).trans (hc 0 (by omega))
        have e1 := (hB.cell (p := ⟨b, off + k * 2 + 1, none⟩) hbl).trans (hc 1 (by omega))
        have e0' := (hB.cell (p := ⟨b', off' + k * 2, none⟩) hbl').trans (hc' 0 (by omega))
        have e1' := (hB.cell (p := ⟨b', off' + k * 2 + 1, none⟩) hbl').trans (hc' 1 (by omega))
        simp only [List.getElem?_cons_zero, List.getElem?_cons_succ] at e0 e1 e0' e1'
        obtain ⟨p0, k0, rfl, _, _⟩ := h0.shape
        obtain ⟨p1, k1, rfl, _, _⟩ := h1.shape
        obtain ⟨p0', k0', rfl, _, _⟩ := h0'.shape
        obtain ⟨p1', k1', rfl, _, _⟩ := h1'.shape
        have HE : Hid (l[k]? = m[k]? ↔ x = y) := hide (by rw [List.getElem?_eq_getElem hkl, List.getElem?_eq_getElem hkm, ← hx, ← hy, Option.some.injEq])
        clear hc hc' hx hy
        obtain ⟨l1, l2, hB2⟩ := two wr #[.slice p0 x.1.length k0, .slice p1 x.2.length k1] #[.slice p0' y.1.length k0', .slice p1' y.2.length k1'] 88 88
        have hA := bstep hB hB2
        have hcall := sameAttr_any _ _ _ _ _ x y ((h0.keep hB).keep hB2) ((h1.keep hB).keep hB2) ((h0'.keep hB).keep hB2) ((h1'.keep hB).keep hB2)
        have HC := hide hcall
        have hlt' : (k : Int) < (n : Int) := by omega
        generalize x.1.length = n0 at *
        generalize x.2.length = n1 at *
        generalize y.1.length = m0 at *
        generalize y.2.length = m1 at *
        clear hcall h0 h1 h0' h1' hu hv
        have z0 : (wr.alloc (.cells #[.slice p0 n0 k0, .slice p1 n1 k1] 88)).cell? ⟨b', off' + k * 2, none⟩ = some (.slice p0' m0 k0') := (((Below.refl wr.heap.size wr).alloc (Nat.le_refl _) _).cell (p := ⟨b', off' + k * 2, none⟩) (Nat.lt_of_lt_of_le hbl' hB.size)).trans e0'
        have z1 : (wr.alloc (.cells #[.slice p0 n0 k0, .slice p1 n1 k1] 88)).cell? ⟨b', off' + k * 2 + 1, none⟩ = some (.slice p1' m1 k1') := (((Below.refl wr.heap.size wr).alloc (Nat.le_refl _) _).cell (p := ⟨b', off' + k * 2 + 1, none⟩) (Nat.lt_of_lt_of_le hbl' hB.size)).trans e1'
        clear e0' e1'
        go_wp2_with fail
        refine (unhide HC).mono ?_
        rintro e w2 ⟨rfl, hB3⟩
        have hA3 := bstep hA hB3
        by_cases hxy : x = y
        · rw [show decide (x = y) = true by simpa using hxy]
          have HS := hide ((unhide HE).2 hxy)
          clear hxy z0 z1 l1 l2
          go_wp2_with fail
          go_roundw
          case rel => exact ⟨k + 1, by omega, by go_num, fun i hi => step_all (p := fun i => l[i]? = m[i]?) (unhide HA) (unhide HS) i hi, hA3⟩
          case measure => simp [intOf]; omega
        · rw [show decide (x = y) = false by simpa using hxy]
          have HF := hide (show decide (l = m) = false by
            simp only [decide_eq_false_iff_not]
            intro e
            exact hxy ((unhide HE).1 (by rw [e])))
          clear hxy z0 z1 l1 l2
          go_wp2_with fail
          go_ret
          exact ⟨by rw [unhide HF]; rfl, hA3⟩
      · have e : k = n := by omega
        subst e
        have HF := hide (show decide (l = m) = true by
          simp only [decide_eq_true_eq]
          exact eq_to (by rw [unhide HN, unhide HM]) (unhide HN).symm (unhide HA))
        clear hu hv
        go_wp2_with fail
        go_ret
        exact ⟨by rw [unhide HF]; rfl, hB⟩
  · have d1 : ((l.length : Int) != (m.length : Int)) = true := by rw [bne_iff_ne]; omega
    have HE := hide (show decide (l = m) = false by simp only [decide_eq_false_iff_not]; intro e; exact hlen (by rw [e]))
    clear hlen hu hv
    go_enter Try.func60, Try.ntmps60
    go_wp2_with fail
    go_ret
    exact ⟨by rw [unhide HE]; rfl, Below.refl _ _⟩
end Go.Proofs.Yteioihjgjbjmjaa

/- impl.samePart answers whether two parts are one, their kids aside. -/
namespace Go.Proofs.Yteioihjgjbjmjaa
open Go.RowKit
set_option linter.unusedVariables false
set_option maxRecDepth 100000

theorem Loc.six {w : World} {g : Nat} {a b c d e f : Value} {T : TypeId} (h : Loc w g #[a, b, c, d, e, f] T) :
    w.cell? ⟨g, 0, none⟩ = some a ∧ w.cell? ⟨g, 1, none⟩ = some b ∧ w.cell? ⟨g, 2, none⟩ = some c ∧ w.cell? ⟨g, 3, none⟩ = some d ∧ w.cell? ⟨g, 4, none⟩ = some e ∧ w.cell? ⟨g, 5, none⟩ = some f :=
  ⟨h.cell 0, h.cell 1, h.cell 2, h.cell 3, h.cell 4, h.cell 5⟩

set_option maxHeartbeats 3200000 in
theorem samePart_any (w : World) (dp dp' z z' : Int) (b c d b' c' d' : Value) (ae ae' : Option Addr) (ne ce ne' ce' : Nat) (nm nm' tx tx' : List Int) (ats ats' : List (List Int × List Int))
    (hb : Byt w b nm) (hc : Byt w c tx) (hd : RdAttrs w d ats) (hb' : Byt w b' nm') (hc' : Byt w c' tx') (hd' : RdAttrs w d' ats') :
    Calls Try.prog 37 #[.agg #[.int .i64 dp, .int .i64 z, b, c, d, .slice ae ne ce], .agg #[.int .i64 dp', .int .i64 z', b', c', d', .slice ae' ne' ce']] w fun e w' =>
      e = .returned (.bool (decide ((dp, z, nm, tx, ats) = (dp', z', nm', tx', ats')))) ∧ Below w.heap.size w w' := by
  have HD : Hid ((dp ≠ dp' → decide ((dp, z, nm, tx, ats) = (dp', z', nm', tx', ats')) = false) ∧ (z ≠ z' → decide ((dp, z, nm, tx, ats) = (dp', z', nm', tx', ats')) = false) ∧ (nm ≠ nm' → decide ((dp, z, nm, tx, ats) = (dp', z', nm', tx', ats')) = false) ∧ (tx ≠ tx' → decide ((dp, z, nm, tx, ats) = (dp', z', nm', tx', ats')) = false) ∧ (dp = dp' → z = z' → nm = nm' → tx = tx' → decide ((dp, z, nm, tx, ats) = (dp', z', nm', tx', ats')) = decide (ats = ats'))) := by
    refine hide ⟨fun h => ?_, fun h => ?_, fun h => ?_, fun h => ?_, fun h1 h2 h3 h4 => ?_⟩
    · simp [h]
    · simp [h]
    · simp [h]
    · simp [h]
    · simp [h1, h2, h3, h4]
  obtain ⟨ab, cb, rfl, _⟩ := hb.shape
  obtain ⟨ac, cc, rfl, _⟩ := hc.shape
  obtain ⟨ad, cd, rfl, _⟩ := Elems.shape hd
  obtain ⟨ab', cb', rfl, _⟩ := hb'.shape
  obtain ⟨ac', cc', rfl, _⟩ := hc'.shape
  obtain ⟨ad', cd', rfl, _⟩ := Elems.shape hd'
  generalize nm.length = nb at *
  generalize tx.length = nc at *
  generalize ats.length = nd at *
  generalize nm'.length = nb' at *
  generalize tx'.length = nc' at *
  generalize ats'.length = nd' at *
  obtain ⟨l1, l2, hB⟩ := two w #[.int .i64 dp, .int .i64 z, .slice ab nb cb, .slice ac nc cc, .slice ad nd cd, .slice ae ne ce] #[.int .i64 dp', .int .i64 z', .slice ab' nb' cb', .slice ac' nc' cc', .slice ad' nd' cd', .slice ae' ne' ce'] 74 74
  by_cases h0 : dp = dp'
  · have d0 : (dp == dp') = true := by simpa using h0
    have H0 := hide h0
    clear h0
    by_cases h1 : z = z'
    · have d1 : (z == z') = true := by simpa using h1
      have H1 := hide h1
      clear h1
      go_enter Try.func37, Try.ntmps37
      go_wp2_with fail
      generalize (w.alloc (.cells #[.int .i64 dp, .int .i64 z, .slice ab nb cb, .slice ac nc cc, .slice ad nd cd, .slice ae ne ce] 74)).alloc (.cells #[.int .i64 dp', .int .i64 z', .slice ab' nb' cb', .slice ac' nc' cc', .slice ad' nd' cd', .slice ae' ne' ce'] 74) = w1 at *
      refine (equalI_any w1 _ _ nm nm' (hb.keep hB) (hb'.keep hB)).mono ?_
      rintro e w1 ⟨rfl, rfl⟩
      obtain ⟨x0, x1, x2, x3, x4, x5⟩ := l1.six
      obtain ⟨y0, y1, y2, y3, y4, y5⟩ := l2.six
      by_cases h2 : nm = nm'
      · rw [show decide (nm = nm') = true by simpa using h2]
        have H2 := hide h2
        clear h2
        go_wp2_with fail
        refine (equalI_any w1 _ _ tx tx' (hc.keep hB) (hc'.keep hB)).mono ?_
        rintro e w1 ⟨rfl, rfl⟩
        by_cases h3 : tx = tx'
        · rw [show decide (tx = tx') = true by simpa using h3]
          have HE := hide ((unhide HD).2.2.2.2 (unhide H0) (unhide H1) (unhide H2) h3)
          clear h3
          go_wp2_with fail
          refine (equalAttrs_any w1 _ _ ats ats' (hd.keep hB) (hd'.keep hB)).mono ?_
          rintro e w2 ⟨rfl, hB2⟩
          go_wp2_with fail
          go_ret
          exact ⟨by rw [unhide HE]; rfl, bstep hB hB2⟩
        · rw [show decide (tx = tx') = false by simpa using h3]
          have HE := hide ((unhide HD).2.2.2.1 h3)
          clear h3
          go_wp2_with fail
          go_ret
          exact ⟨by rw [unhide HE]; rfl, hB⟩
      · rw [show decide (nm = nm') = false by simpa using h2]
        have HE := hide ((unhide HD).2.2.1 h2)
        clear h2
        go_wp2_with fail
        go_ret
        exact ⟨by rw [unhide HE]; rfl, hB⟩
    · have d1 : (z == z') = false := by simpa using h1
      have HE := hide ((unhide HD).2.1 h1)
      clear h1
      go_enter Try.func37, Try.ntmps37
      go_wp2_with fail
      go_ret
      exact ⟨by rw [unhide HE]; rfl, hB⟩
  · have d0 : (dp == dp') = false := by simpa using h0
    have HE := hide ((unhide HD).1 h0)
    clear h0
    go_enter Try.func37, Try.ntmps37
    go_wp2_with fail
    go_ret
    exact ⟨by rw [unhide HE]; rfl, hB⟩
end Go.Proofs.Yteioihjgjbjmjaa

/- slices.EqualFunc over parts: it answers whether the parts are one, one by one, their kids aside. -/
namespace Go.Proofs.Yteioihjgjbjmjaa
open Go.RowKit
set_option linter.unusedVariables false
set_option maxRecDepth 100000

/-- The six cells of a part. -/
def RdPart {w0 : World} (C : List Value) (x : It w0) : Prop := C = [.int .i64 x.deep, x.a, x.b, x.c, x.d, x.e]
def RdParts {w0 : World} (w : World) (v : Value) (l : List (It w0)) : Prop := Elems w 6 v l RdPart
/-- What is told of a part: its depth, its kind, its name, its text, its attributes. -/
def hdI {w0 : World} (x : It w0) : Int × Int × List Int × List Int × List (List Int × List Int) := (x.deep, x.t.kind, x.t.name, x.t.text, x.t.attrs)

/-- Are they one, one by one. -/
def eqHd (a b : Int × Int × List Int × List Int × List (List Int × List Int)) : Bool := decide (a.1 = b.1) && decide (a.2.1 = b.2.1) && decide (a.2.2.1 = b.2.2.1) && decide (a.2.2.2.1 = b.2.2.2.1) && decide (a.2.2.2.2 = b.2.2.2.2)
theorem eqHd_iff (a b : Int × Int × List Int × List Int × List (List Int × List Int)) : eqHd a b = true ↔ a = b := by
  obtain ⟨a1, a2, a3, a4, a5⟩ := a
  obtain ⟨b1, b2, b3, b4, b5⟩ := b
  unfold eqHd
  rw [Bool.and_eq_true, Bool.and_eq_true, Bool.and_eq_true, Bool.and_eq_true, decide_eq_true_eq, decide_eq_true_eq, decide_eq_true_eq, decide_eq_true_eq, decide_eq_true_eq]
  constructor
  · rintro ⟨⟨⟨⟨h1, h2⟩, h3⟩, h4⟩, h5⟩
    simp only at h1 h2 h3 h4 h5
    subst h1 h2 h3 h4 h5
    rfl
  · intro h
    cases h
    exact ⟨⟨⟨⟨rfl, rfl⟩, rfl⟩, rfl⟩, rfl⟩
def eqHds : List (Int × Int × List Int × List Int × List (List Int × List Int)) → List (Int × Int × List Int × List Int × List (List Int × List Int)) → Bool
  | [], [] => true
  | a :: l, b :: m => eqHd a b && eqHds l m
  | _, _ => false
theorem eqHds_iff : ∀ l m, eqHds l m = true ↔ l = m
  | [], [] => by simp [eqHds]
  | [], _ :: _ => by simp [eqHds]
  | _ :: _, [] => by simp [eqHds]
  | a :: l, b :: m => by rw [eqHds, Bool.and_eq_true, eqHd_iff, eqHds_iff l m, List.cons.injEq]
theorem eqHds_no {l m : List (Int × Int × List Int × List Int × List (List Int × List Int))} (h : ¬ l = m) : eqHds l m = false := by rw [← Bool.not_eq_true, eqHds_iff]; exact h

/-- A part as it is read. -/
theorem part_open {w0 : World} (x : It w0) : ∃ ab nb cb ac nc cc ad nd cd ae ne ce, x.a = .int .i64 x.t.kind ∧ x.b = .slice ab nb cb ∧ x.c = .slice ac nc cc ∧ x.d = .slice ad nd cd ∧ x.e = .slice ae ne ce ∧ Byt w0 (.slice ab nb cb) x.t.name ∧ Byt w0 (.slice ac nc cc) x.t.text ∧ RdAttrs w0 (.slice ad nd cd) x.t.attrs := by
  obtain ⟨deep, a, b, c, d, e, m, t, rd⟩ := x
  obtain ⟨_, _, _, _, e0, k1, k2, hb, hc, hd, he⟩ := rd
  simp only [List.cons.injEq, and_true] at e0
  obtain ⟨rfl, rfl, rfl, rfl, rfl⟩ := e0
  obtain ⟨ab, cb, rfl, _, _⟩ := hb.shape
  obtain ⟨ac, cc, rfl, _, _⟩ := hc.shape
  obtain ⟨ad, cd, rfl, _, _⟩ := Elems.shape hd
  obtain ⟨ae, ce, rfl, _, _⟩ := Elems.shape he
  exact ⟨_, _, _, _, _, _, _, _, _, _, _, _, rfl, rfl, rfl, rfl, rfl, hb, hc, hd⟩

set_option maxHeartbeats 3200000 in
theorem equalParts_any (w0 w : World) (hW : Below w0.heap.size w0 w) (u v : Value) (l m : List (It w0)) (hu : RdParts w u l) (hv : RdParts w v m) :
    Calls Try.prog 35 #[u, v, .func (.func 37) #[] #[]] w fun e w' => e = .returned (.bool (eqHds (l.map hdI) (m.map hdI))) ∧ Below w.heap.size w w' := by
  have hml := hu.1
  unfold maxLen at hml
  obtain ⟨au, cu, rfl, _, _⟩ := Elems.shape hu
  obtain ⟨av, cv, rfl, _, _⟩ := Elems.shape hv
  by_cases hlen : l.length = m.length
  · have d1 : ((l.length : Int) != (m.length : Int)) = false := by simp [hlen]
    have HL := hide hlen
    have hml' : (l.length : Int) ≤ 9223372036854775807 := by omega
    generalize hn : l.length = n at *
    have HN := hide hn
    have HM : Hid (m.length = n) := hide hlen.symm
    rw [← hlen] at d1 hv
    rw [← hlen]
    clear hlen hn HL
    go_enter Try.func35, Try.ntmps35
    go_wp2_with fail
    go_loopw [17] (fun i wr => ∃ k : Nat, k ≤ n ∧ i = .int .i64 k ∧ (∀ i, i < k → (l.map hdI)[i]? = (m.map hdI)[i]?) ∧ Below w.heap.size w wr) (fun i _ => n - (intOf i).toNat)
    case atStart => exact ⟨0, Nat.zero_le _, rfl, fun i hi => by omega, Below.refl _ _⟩
    case round =>
      obtain ⟨k, hk, rfl, ha, hB⟩ := hrel
      have HA := hide ha
      clear ha
      by_cases hlt : k < n
      · have hkl : k < l.length := by rw [unhide HN]; exact hlt
        have hkm : k < m.length := by rw [unhide HM]; exact hlt
        obtain ⟨b, off, rfl, hbl, hun, _, C, hC, hc, hr⟩ := hu.at hkl
        clear hun
        obtain ⟨b', off', rfl, hbl', hun, _, C', hC', hc', hr'⟩ := hv.at hkm
        clear hun
        obtain ⟨x, hx⟩ : ∃ x, x = l[k] := ⟨_, rfl⟩
        obtain ⟨y, hy⟩ : ∃ y, y = m[k] := ⟨_, rfl⟩
        rw [← hx] at hr
        rw [← hy] at hr'
        obtain ⟨ab, nb, cb, ac, nc, cc, ad, nd, cd, ae, ne, ce, ea, eb, ec, ed, ee, h0, h1, h2⟩ := part_open x
        obtain ⟨ab', nb', cb', ac', nc', cc', ad', nd', cd', ae', ne', ce', ea', eb', ec', ed', ee', h0', h1', h2'⟩ := part_open y
        unfold RdPart at hr hr'
        rw [ea, eb, ec, ed, ee] at hr
        rw [ea', eb', ec', ed', ee'] at hr'
        subst hr hr'
        have HE : Hid ((l.map hdI)[k]? = (m.map hdI)[k]? ↔ hdI x = hdI y) := hide (by rw [List.getElem?_map, List.getElem?_map, List.getElem?_eq_getElem hkl, List.getElem?_eq_getElem hkm, ← hx, ← hy, Option.map_some, Option.map_some, Option.some.injEq])
        have e0 := (hB.cell (p := ⟨b, off + k * 6, none⟩) hbl).trans (hc 0 (by omega))
        have e1 := (hB.cell (p := ⟨b, off + k * 6 + 1, none⟩) hbl).trans (hc 1 (by omega))
        have e2 := (hB.cell (p := ⟨b, off + k * 6 + 2, none⟩) hbl).trans (hc 2 (by omega))
        have e3 := (hB.cell (p := ⟨b, off + k * 6 + 3, none⟩) hbl).trans (hc 3 (by omega))
        have e4 := (hB.cell (p := ⟨b, off + k * 6 + 4, none⟩) hbl).trans (hc 4 (by omega))
        have e5 := (hB.cell (p := ⟨b, off + k * 6 + 5, none⟩) hbl).trans (hc 5 (by omega))
        have hBz : Below wr.heap.size wr (wr.alloc (.cells #[.int .i64 x.deep, .int .i64 x.t.kind, .slice ab nb cb, .slice ac nc cc, .slice ad nd cd, .slice ae ne ce] 74)) := (Below.refl _ _).alloc (Nat.le_refl _) _
        have hbz : b' < wr.heap.size := Nat.lt_of_lt_of_le hbl' hB.size
        have z0 := (hBz.cell (p := ⟨b', off' + k * 6, none⟩) hbz).trans ((hB.cell (p := ⟨b', off' + k * 6, none⟩) hbl').trans (hc' 0 (by omega)))
        have z1 := (hBz.cell (p := ⟨b', off' + k * 6 + 1, none⟩) hbz).trans ((hB.cell (p := ⟨b', off' + k * 6 + 1, none⟩) hbl').trans (hc' 1 (by omega)))
        have z2 := (hBz.cell (p := ⟨b', off' + k * 6 + 2, none⟩) hbz).trans ((hB.cell (p := ⟨b', off' + k * 6 + 2, none⟩) hbl').trans (hc' 2 (by omega)))
        have z3 := (hBz.cell (p := ⟨b', off' + k * 6 + 3, none⟩) hbz).trans ((hB.cell (p := ⟨b', off' + k * 6 + 3, none⟩) hbl').trans (hc' 3 (by omega)))
        have z4 := (hBz.cell (p := ⟨b', off' + k * 6 + 4, none⟩) hbz).trans ((hB.cell (p := ⟨b', off' + k * 6 + 4, none⟩) hbl').trans (hc' 4 (by omega)))
        have z5 := (hBz.cell (p := ⟨b', off' + k * 6 + 5, none⟩) hbz).trans ((hB.cell (p := ⟨b', off' + k * 6 + 5, none⟩) hbl').trans (hc' 5 (by omega)))
        simp only [List.getElem?_cons_zero, List.getElem?_cons_succ] at e0 e1 e2 e3 e4 e5 z0 z1 z2 z3 z4 z5
        obtain ⟨l1, l2, hB2⟩ := two wr #[.int .i64 x.deep, .int .i64 x.t.kind, .slice ab nb cb, .slice ac nc cc, .slice ad nd cd, .slice ae ne ce] #[.int .i64 y.deep, .int .i64 y.t.kind, .slice ab' nb' cb', .slice ac' nc' cc', .slice ad' nd' cd', .slice ae' ne' ce'] 74 74
        have hA := bstep hB hB2
        have hW2 : Below w0.heap.size w0 _ := hW.trans (hA.mono hW.size)
        have hcall := samePart_any _ x.deep y.deep x.t.kind y.t.kind _ _ _ _ _ _ ae ae' ne ce ne' ce' x.t.name y.t.name x.t.text y.t.text x.t.attrs y.t.attrs (h0.keep hW2) (h1.keep hW2) (h2.keep hW2) (h0'.keep hW2) (h1'.keep hW2) (h2'.keep hW2)
        have HC := hide hcall
        have hlt' : (k : Int) < (n : Int) := by omega
        clear hcall h0 h1 h2 h0' h1' h2' hu hv hc hc' hx hy ea eb ec ed ee ea' eb' ec' ed' ee' hBz hW2
        generalize hxd : x.deep = xd at *
        generalize hxk : x.t.kind = xk at *
        generalize hyd : y.deep = yd at *
        generalize hyk : y.t.kind = yk at *
        have HH := hide (And.intro hxd (And.intro hxk (And.intro hyd hyk)))
        clear hxd hxk hyd hyk
        go_wp2_with fail
        refine (unhide HC).mono ?_
        rintro e w2 ⟨rfl, hB3⟩
        have hA3 := bstep hA hB3
        have HG : Hid (hdI x = (xd, xk, x.t.name, x.t.text, x.t.attrs) ∧ hdI y = (yd, yk, y.t.name, y.t.text, y.t.attrs)) := by
          obtain ⟨q1, q2, q3, q4⟩ := unhide HH
          exact hide ⟨by unfold hdI; rw [q1, q2], by unfold hdI; rw [q3, q4]⟩
        clear e0 e1 e2 e3 e4 e5 z0 z1 z2 z3 z4 z5 l1 l2 HC
        by_cases hxy : (xd, xk, x.t.name, x.t.text, x.t.attrs) = (yd, yk, y.t.name, y.t.text, y.t.attrs)
        · rw [show decide ((xd, xk, x.t.name, x.t.text, x.t.attrs) = (yd, yk, y.t.name, y.t.text, y.t.attrs)) = true by rw [decide_eq_true_eq]; exact hxy]
          have HS := hide ((unhide HE).2 (by rw [(unhide HG).1, (unhide HG).2]; exact hxy))
          clear hxy
          go_wp2_with fail
          go_roundw
          case rel => exact ⟨k + 1, by omega, by go_num, fun i hi => step_all (p := fun i => (l.map hdI)[i]? = (m.map hdI)[i]?) (unhide HA) (unhide HS) i hi, hA3⟩
          case measure => simp [intOf]; omega
        · rw [show decide ((xd, xk, x.t.name, x.t.text, x.t.attrs) = (yd, yk, y.t.name, y.t.text, y.t.attrs)) = false by rw [decide_eq_false_iff_not]; exact hxy]
          have HF := hide (show eqHds (l.map hdI) (m.map hdI) = false by
            refine eqHds_no fun e => ?_
            have := (unhide HE).1 (by rw [e])
            rw [(unhide HG).1, (unhide HG).2] at this
            exact hxy this)
          clear hxy
          go_wp2_with fail
          go_ret
          exact ⟨by rw [unhide HF]; rfl, hA3⟩
      · have e : k = n := by omega
        subst e
        have HF := hide (show eqHds (l.map hdI) (m.map hdI) = true by
          refine (eqHds_iff _ _).2 ?_
          exact eq_to (by rw [List.length_map, List.length_map, unhide HN, unhide HM]) (by rw [List.length_map]; exact (unhide HN).symm) (unhide HA))
        clear hu hv
        go_wp2_with fail
        go_ret
        exact ⟨by rw [unhide HF]; rfl, hB⟩
  · have d1 : ((l.length : Int) != (m.length : Int)) = true := by rw [bne_iff_ne]; omega
    have HE := hide (show eqHds (l.map hdI) (m.map hdI) = false by refine eqHds_no fun e => ?_; exact hlen (by have := congrArg List.length e; simpa using this))
    clear hlen hu hv
    go_enter Try.func35, Try.ntmps35
    go_wp2_with fail
    go_ret
    exact ⟨by rw [unhide HE]; rfl, Below.refl _ _⟩
end Go.Proofs.Yteioihjgjbjmjaa

/- impl.partsOf answers all parts of a tree, in the markup's order, in memory of its own. -/
namespace Go.Proofs.Yteioihjgjbjmjaa
open Go.RowKit Go.Shelf
set_option linter.unusedVariables false
set_option maxRecDepth 100000
attribute [local go_sem] Oper.semAt_some

theorem sum_le {α : Type} {f g : α → Nat} : ∀ (l : List α), (∀ x ∈ l, f x ≤ g x + 1) → (l.map f).sum ≤ l.length + (l.map g).sum
  | [], _ => by simp
  | x :: l, h => by
    have h1 := h x (by simp)
    have h2 := sum_le l (fun y hy => h y (by simp [hy]))
    simp only [List.map_cons, List.sum_cons, List.length_cons]
    omega
theorem pre_len (w0 : World) : ∀ (n : Nat) (deep : Int) (C : List Value) (t : Tr n) (xs : List (It w0)), Pre w0 n deep C t xs → xs.length ≤ szT n t + 1
  | 0, _, _, t, _, _ => t.elim
  | n + 1, deep, C, t, xs, ⟨a, b, c, d, e, rd, ks, _, hxs, hks, hel⟩ => by
    have h3 : szT (n + 1) t = t.name.length + t.text.length + szA t.attrs + (t.kids.length + (t.kids.map (szT n)).sum) := rfl
    have h4 : (ks.map fun k => k.2.length).sum ≤ ks.length + (ks.map fun k => szT n k.1).sum := sum_le ks (fun k hk => by
      obtain ⟨D, hD⟩ := hel.mem k hk
      exact pre_len w0 n (deep + 1) D k.1 k.2 hD)
    have h5 : ks.length = t.kids.length := by rw [← hks]; simp
    have h6 : (ks.map fun k => szT n k.1).sum = (t.kids.map (szT n)).sum := by rw [← hks, List.map_map]; rfl
    subst hxs
    simp only [List.length_cons, List.length_flatten, List.map_map]
    have h7 : (ks.map (List.length ∘ fun x => x.2)).sum = (ks.map fun k => k.2.length).sum := rfl
    omega

/-- The six cells of a part, of all parts. -/
def six {w0 : World} (x : It w0) : List Value := [.int .i64 x.deep, x.a, x.b, x.c, x.d, x.e]
def sixes {w0 : World} (l : List (It w0)) : List Value := (l.map six).flatten
theorem sixes_snoc {w0 : World} (l : List (It w0)) (x : It w0) : sixes (l ++ [x]) = sixes l ++ six x := by simp [sixes]
theorem parts_rd {w0 : World} {w : World} {base : Nat} {v : Value} {l : List (It w0)} (h : w.ownsRow base 74 6 v l.length (sixes l)) (hm : l.length ≤ maxLen) : RdParts w v l := by
  refine OwElems.rd (R := fun C x _ => RdPart C x) (F := FB v ++ (l.map fun _ => ([] : List Nat)).flatten) ⟨l.map six, l.map fun _ => [], by simp, by simp, fun i hi => ?_, ownsRow_base h 0 (Nat.zero_le _), rfl⟩ hm (fun C x G h => h)
  have e : (l.map six).getD i [] = six l[i] := by simp [hi]
  rw [e]
  exact ⟨rfl, rfl⟩

theorem Try.info74 : (Try.prog.info? 74).map (fun i => (i.zero, i.size, i.bytes)) = some (some (.agg #[.int .i64 0, .int .i64 0, .slice none 0 0, .slice none 0 0, .slice none 0 0, .slice none 0 0]), 6, 112) := by kernel_rfl

/-- Three new blocks, one behind the other. -/
theorem three_new (w : World) (A1 A2 A3 : Array Value) (T1 T2 T3 : TypeId) (W : World) (hW : W = ((w.alloc (.cells A1 T1)).alloc (.cells A2 T2)).alloc (.cells A3 T3)) :
    Loc W (w.heap.size + 1) A2 T2 ∧ Loc W (w.heap.size + 1 + 1) A3 T3 ∧ W.heap.size = w.heap.size + 1 + 1 + 1 ∧ Below w.heap.size w W := by
  subst hW
  have m2 := Loc.made (w.alloc (.cells A1 T1)) A2 T2
  have m3 := Loc.made ((w.alloc (.cells A1 T1)).alloc (.cells A2 T2)) A3 T3
  simp only [World.size_alloc] at m2 m3
  exact ⟨m2.alloc _, m3, by simp, (((Below.refl _ w).alloc (Nat.le_refl _) _).alloc (by simp) _).alloc (by simp; omega) _⟩

theorem six_new (V : World) (a b c d e f : Value) (T : TypeId) : ∀ j u, [a, b, c, d, e, f][j]? = some u → (V.alloc (.cells #[a, b, c, d, e, f] T)).cell? ((⟨V.heap.size, 0, none⟩ : Addr).add j) = some u := by
  intro j u h
  rw [add_plain, Nat.zero_add, (Loc.made V #[a, b, c, d, e, f] T).cell j]
  simpa using h
/-- A row that the call owns lies at or beyond its base: a block below it is another. -/
theorem own_ne {w : World} {base : Nat} {e : TypeId} {size n : Nat} {v : Value} {xs : List Value} (h : w.ownsRow base e size v n xs) {g : Nat} (hg : g < base) : v.ownBlock ≠ some g := fun e => by have := (h.lt g e).1; omega
theorem Loc.grown {W W' : World} {g : Nat} {cs : Array Value} {T : TypeId} {row : Option Nat} (h : Loc W g cs T) (hg : W.grownBy W' row) (hn : row ≠ some g) : Loc W' g cs T := (hg.block g h.lt (fun e => hn e.symm)).trans h

theorem below_own {w V V1 V2 : World} {s : Nat} {row : Option Nat} (h : Below s w V) (h1 : Below V.heap.size V V1) (hg : V1.grownBy V2 row) (hr : ∀ g, row = some g → s ≤ g) (hs : s ≤ w.heap.size) : Below s w V2 := by
  have h2 : Below s w V1 := h.trans (h1.mono (Nat.le_trans hs h.size))
  exact h2.grown hg (Nat.le_trans hs h2.size) hr

set_option maxHeartbeats 3200000 in
theorem partsI_any (k : Nat) (w0 w : World) (hW0 : Below w0.heap.size w0 w) (a b c d e : Value) (t : Tr (k + 1)) (xs : List (It w0)) (hP : Pre w0 (k + 1) 1 [a, b, c, d, e] t xs) (hsz : szT (k + 1) t ≤ 2097152) :
    Calls Try.prog 36 #[.agg #[a, b, c, d, e]] w fun e w' => ∃ v, e = .returned v ∧ RdParts w' v xs ∧ Below w.heap.size w w' := by
  have hxl := pre_len w0 (k + 1) 1 _ t xs hP
  have hxm : xs.length ≤ 2097153 := by omega
  clear hxl
  obtain ⟨z, ab, nb, cb, ac, nc, cc, ad, nd, cd, ae, ne, ce, hC⟩ := rd_shape (pre_rd hP)
  simp only [List.cons.injEq, and_true] at hC
  obtain ⟨rfl, rfl, rfl, rfl, rfl⟩ := hC
  have HP := hide hP
  clear hP
  obtain ⟨i0, hi0, hz0, hz1, hz2⟩ := info_parts Try.info74
  refine (callsIn_wide (n := 5)).1 ?_
  refine callsIn_of_wp_marks Try.func36 rfl trivial ?_ rfl
  simp only [Try.ntmps36, List.size_toArray, List.length_cons, List.length_nil, Nat.reduceAdd, Nat.reduceSub, Array.replicate_succ, Array.replicate_zero, List.push_toArray, List.append_toArray, List.nil_append, List.cons_append]
  gi_wp2_with fail
  refine ⟨trivial, ?_⟩
  refine (callsIn_wide.2 (nodesOf_any _ _ _ _ _ _ _ _ _ _ _ _ _ _)).mono ?_
  rintro e W ⟨rfl, hW⟩
  obtain ⟨l1, l2, hsW, hBW⟩ := three_new w _ _ _ _ _ _ W hW
  clear hW
  simp only [World.size_alloc]
  obtain ⟨q1, q2, q3⟩ : w.heap.size < w.heap.size + 1 ∧ w.heap.size + 1 < w.heap.size + 1 + 1 ∧ w.heap.size + 1 + 1 < W.heap.size := by omega
  clear hsW
  generalize w.heap.size + 1 + 1 = p2 at *
  generalize w.heap.size + 1 = p1 at *
  gi_wp2_with fail
  refine range_law (gf := 52) (lb := #[.pointer (some ⟨p2, 0, none⟩)]) (Bx := BxN) (Mt := fun i o => i = p1 ∨ i = W.heap.size + 1 ∨ (W.heap.size + 2 ≤ i ∧ ∃ cs, o = .cells cs 74 (0, 0))) (xs := xs) (encs := encIt) rfl (enters_of Try.func52 (by kernel_rfl) rfl)
    (fun _ => .inr (.inl rfl)) (fun q o hq hb hm => by
      obtain ⟨cs, rfl⟩ := hb
      rcases hm with h | h | ⟨_, cs', h⟩
      · omega
      · omega
      · injection h with _ h2; revert h2; decide)
    (nodes_hand w0 W _ p2 k _ (fun i o hi hm => by have := hW0.size; rcases hm with h | h | ⟨h, _⟩ <;> omega) _ _ _ _ _ t xs (unhide HP) hsz (hW0.trans (hBW.mono hW0.size)) l2) (fun _ => rfl)
    (fun pre V => ∃ v, Loc V p1 #[v] 72 ∧ V.ownsRow (W.heap.size + 2) 74 6 v pre.length (sixes pre) ∧ Below w.heap.size w V)
    (fun pre V => False)
    (fun pre A B row hs hg hr => by
      obtain ⟨v, h1, h2, h3⟩ := hs
      refine ⟨v, h1.stay hg hr (by omega) (by omega), h2.kept hg ?_, below_stay h3 (by omega) hg hr h3.size⟩
      by_cases hv : v.ownBlock = none
      · exact .inl hv
      · refine .inr fun e => ?_
        obtain ⟨g, hgv⟩ := Option.ne_none_iff_exists'.1 hv
        have := h2.lt g hgv
        rcases hr g (by rw [← e]; exact hgv) with h | h <;> omega)
    (fun pre A B row hs hg hr => hs)
    ⟨_, l1, World.ownsRow_nil _ _ _ _, hBW⟩
    (fun x a' V => ∃ q, W.heap.size + 1 < q ∧ Loc V q #[x.a, x.b, x.c, x.d, x.e] 32 ∧ a' = { tmps := #[.agg #[.int .i64 z, .slice ab nb cb, .slice ac nc cc, .slice ad nd cd, .slice ae ne ce], .pointer (some ⟨w.heap.size, 0, none⟩), .slice none 0 0, .pointer (some ⟨p1, 0, none⟩), .int .i64 x.deep, .pointer (some ⟨q, 0, none⟩), .agg #[.int .i64 z, .slice ab nb cb, .slice ac nc cc, .slice ad nd cd, .slice ae ne ce], .func (.func 52) #[] #[.pointer (some ⟨p2, 0, none⟩)], .int .i64 x.deep, .agg #[x.a, x.b, x.c, x.d, x.e], undef, undef, undef, undef, undef, undef, undef], defers := [] })
    (fun x a' u A B row hs hg hr => by obtain ⟨q, h1, h2, h3⟩ := hs; exact ⟨q, h1, h2.stay hg hr (by omega) (by omega), h3⟩)
    ?assign ?body ?done ?stop
  case assign =>
    intro pre x V K hi hV2 hK
    obtain ⟨deep, a, b, c, d, e, m, u, rd⟩ := x
    obtain ⟨z, ab', nb', cb', ac', nc', cc', ad', nd', cd', ae', ne', ce', hC⟩ := rd_shape rd
    simp only [List.cons.injEq, and_true] at hC
    obtain ⟨rfl, rfl, rfl, rfl, rfl⟩ := hC
    simp only [encIt] at hK ⊢
    gi_wp2
    exact hK _ _ ((Below.refl _ _).alloc (Nat.le_refl _) _) ⟨V.heap.size, by omega, Loc.made V _ _, rfl⟩
  case body =>
    rintro pre x a' V ⟨v, i1, iR, iB⟩ ⟨q, hq, lq, rfl⟩ hpx hsz2
    obtain ⟨deep, a, b, c, d, e, m, u, rd⟩ := x
    obtain ⟨z', ab', nb', cb', ac', nc', cc', ad', nd', cd', ae', ne', ce', hC⟩ := rd_shape rd
    simp only [List.cons.injEq, and_true] at hC
    obtain ⟨rfl, rfl, rfl, rfl, rfl⟩ := hC
    have hlp : pre.length + 1 ≤ 2097153 := by have := hpx.length_le; simp at this; omega
    have c1 : V.cell? ⟨p1, 0, none⟩ = some v := i1.cell 0
    simp only at lq
    obtain ⟨x0, x1, x2, x3, x4⟩ := lq.five
    have f1 := i1.frozen 0
    gi_wp2_with (gi_at_builtin; refine wpListIn_append_own _ rfl _ _ 72 rfl (W.heap.size + 2) 74 i0 (.agg #[.int .i64 0, .int .i64 0, .slice none 0 0, .slice none 0 0, .slice none 0 0, .slice none 0 0]) 6 112 Try.underlying72 hi0 hz0 hz1 hz2 rfl (by decide) _ _ _ rfl (iR.alloc _) ⟨V.heap.size, 0, none⟩ 1 1 [.int .i64 deep, .int .i64 z', .slice ab' nb' cb', .slice ac' nc' cc', .slice ad' nd' cd', .slice ae' ne' ce'] rfl rfl (six_new V _ _ _ _ _ _ _) (by intro y hy; simp at hy; rcases hy with rfl | rfl | rfl | rfl | rfl | rfl <;> rfl) (by unfold maxLen; omega) (by omega) (by simp; omega) ?_; intro v' w1 hown' hgrow0 hnil; have hgrow : World.grownBy _ w1 v.ownBlock := hgrow0; clear hgrow0; obtain ⟨g', cap', rfl⟩ := ownsRow_succ hown'; have i2 := (i1.alloc _).grown hgrow (own_ne iR (by omega)); have c2 : w1.cell? ⟨p1, 0, none⟩ = some v := i2.cell 0; have f2 := i2.frozen 0)
    have hV1 : Below V.heap.size V (V.alloc (.cells #[.int .i64 deep, .int .i64 z', .slice ab' nb' cb', .slice ac' nc' cc', .slice ad' nd' cd', .slice ae' ne' ce'] 74)) := (Below.refl _ _).alloc (Nat.le_refl _) _
    have hbk : ∀ j, j < V.heap.size → j < W.heap.size + 2 → j ≠ p1 → (w1.setCell ⟨p1, 0, none⟩ (.slice (some ⟨g', 0, none⟩) (pre.length + 1) cap')).heap[j]? = V.heap[j]? := fun j hj hjW hjp =>
      (heap_setCell_other w1 ⟨p1, 0, none⟩ j _ hjp).trans ((hgrow.block j (by simp; omega) (fun e => own_ne iR hjW e.symm)).trans (hV1.block j hj))
    refine ⟨⟨hbk _ (by omega) (by omega) (by omega), hbk _ (by omega) (by omega) (by omega)⟩, ?_, _, i2.set 0 _, ?_, ?_⟩
    · refine ((Frp.ofBelow hV1 _).trans (Frp.ofFrm (Frm.ofGrown hgrow) (fun g hg o ho => ?_))).trans (Frp.ofFrm (Frm.set w1 p1 0 _) (fun g hg o _ => .inl (by simpa using hg)))
      have hg' : v.ownBlock = some g := by simpa using hg
      obtain ⟨cur, hcur⟩ := own_obj iR hg'
      have hlt := iR.lt g hg'
      rw [hV1.block g hlt.2, hcur] at ho
      cases ho
      exact .inr (.inr ⟨hlt.1, cur, rfl⟩)
    · rw [sixes_snoc, List.length_append]
      exact hown'.kept (grownBy_setCell' w1 p1 _) (.inr (own_ne hown' (by omega)))
    · exact (below_own iB hV1 hgrow (fun g hg => by have := (iR.lt g hg).1; omega) (Nat.le_refl _)).setCell (p := ⟨p1, 0, none⟩) (by show w.heap.size ≤ p1; omega) _
  case done =>
    rintro V ⟨v, i1, iR, iB⟩ hD
    have c1 : V.cell? ⟨p1, 0, none⟩ = some v := i1.cell 0
    have hv : ∃ g n c, v = .slice g n c := by
      rcases iR.2 with ⟨rfl, _⟩ | ⟨g', cap, cur, rfl, _⟩
      · exact ⟨_, _, _, rfl⟩
      · exact ⟨_, _, _, rfl⟩
    obtain ⟨g, n, c, rfl⟩ := hv
    gi_wp2
    refine ⟨by simp, .inl ⟨_, _, rfl, run_takeDeferred hD, ?_⟩⟩
    refine ⟨_, results_tmp rfl _ _ _, _, rfl, parts_rd (base := W.heap.size + 2) (iR.kept (grownBy_putObj' _ _ _) ?_) (by unfold maxLen; omega), below_stay iB (D := W.heap.size) (by omega) (grownBy_putObj' _ _ _) (fun r e => by cases e; exact .inl rfl) iB.size⟩
    exact .inr (own_ne iR (by omega))
  case stop =>
    rintro pre V hpre h hD
    exact h.elim
end Go.Proofs.Yteioihjgjbjmjaa

/- 'append(rows, x)': one element behind a row of elements that owns its memory. -/
namespace Go.Proofs.Yteioihjgjbjmjaa
open Go.RowKit
set_option linter.unusedVariables false

/-- A row of elements with one more behind it. -/
theorem OwElems.push {α : Type} {R : World → List Value → α → List Nat → Prop} (hRf : ∀ {w w' : World} {S : List Nat} {C : List Value} {x : α} {G : List Nat}, R w C x G → Frm w w' S → (∀ g ∈ G, g ∉ S) → R w' C x G)
    {w w' : World} {e : TypeId} {size : Nat} {v : Value} {l : List α} {Cs : List (List Value)} {Fs : List (List Nat)} {C : List Value} {y : α} {G : List Nat} {g cap : Nat}
    (h1 : Cs.length = l.length) (h2 : Fs.length = l.length) (h3 : ∀ i (hi : i < l.length), (Cs.getD i []).length = size ∧ R w (Cs.getD i []) l[i] (Fs.getD i []))
    (hN : (FB v ++ Fs.flatten).Nodup) (hC : C.length = size) (hy : R w C y G) (hGN : G.Nodup) (hFG : ∀ g ∈ FB v ++ Fs.flatten, g ∉ G) (hlt : ∀ q, q ∈ FB v ++ Fs.flatten ∨ q ∈ G → q < w.heap.size)
    (k1 : w'.ownsRow 0 e size (.slice (some ⟨g, 0, none⟩) (l.length + 1) cap) (l.length + 1) (Cs.flatten ++ C)) (k2 : w.grownBy w' v.ownBlock) (k3 : v.ownBlock = some g ∨ g = w.heap.size) :
    OwElems w' e size (.slice (some ⟨g, 0, none⟩) (l.length + 1) cap) (l ++ [y]) (R w') (g :: (Fs.flatten ++ G)) ∧ (g :: (Fs.flatten ++ G)).Nodup ∧ (∀ q ∈ g :: (Fs.flatten ++ G), q ∈ FB v ++ Fs.flatten ∨ q ∈ G ∨ q = w.heap.size) := by
  have hFd : ∀ q ∈ Fs.flatten, q ∉ v.ownBlock.toList := fun q hq hv => (List.nodup_append.1 hN).2.2 q (by simpa [FB] using hv) q hq rfl
  have hGd : ∀ q ∈ G, q ∉ v.ownBlock.toList := fun q hq hv => hFG q (List.mem_append_left _ (by simpa [FB] using hv)) hq
  have hf := Frm.ofGrown k2
  refine ⟨⟨Cs ++ [C], Fs ++ [G], by simp [h1], by simp [h2], fun i hi => ?_, ?_, ?_⟩, ?_, ?_⟩
  · by_cases hil : i < l.length
    · have a := h3 i hil
      have e1 : (Cs ++ [C]).getD i [] = Cs.getD i [] := by rw [List.getD_eq_getElem?_getD, List.getD_eq_getElem?_getD, List.getElem?_append_left (by omega)]
      have e2 : (Fs ++ [G]).getD i [] = Fs.getD i [] := by rw [List.getD_eq_getElem?_getD, List.getD_eq_getElem?_getD, List.getElem?_append_left (by omega)]
      rw [e1, e2, List.getElem_append_left hil]
      exact ⟨a.1, hRf a.2 hf (fun q hq => hFd q (mem_flat hq))⟩
    · have e0 : i = l.length := by simp at hi; omega
      subst e0
      have e1 : (Cs ++ [C]).getD l.length [] = C := by rw [← h1]; simp
      have e2 : (Fs ++ [G]).getD l.length [] = G := by rw [← h2]; simp
      rw [e1, e2]
      simp only [List.getElem_concat_length]
      exact ⟨hC, hRf hy hf hGd⟩
  · simp only [List.length_append, List.length_cons, List.length_nil, List.flatten_append, List.flatten_cons, List.flatten_nil, List.append_nil]
    exact k1
  · simp [FB, Value.ownBlock]
  · rw [List.nodup_cons]
    refine ⟨fun hq => ?_, List.nodup_append.2 ⟨(List.nodup_append.1 hN).2.1, hGN, fun a ha b hb hab => hFG a (List.mem_append_right _ ha) (hab ▸ hb)⟩⟩
    rcases List.mem_append.1 hq with hq | hq
    · rcases k3 with k3 | k3
      · exact hFd g hq (by simp [k3])
      · have := hlt g (.inl (List.mem_append_right _ hq)); omega
    · rcases k3 with k3 | k3
      · exact hGd g hq (by simp [k3])
      · have := hlt g (.inr hq); omega
  · intro q hq
    rcases List.mem_cons.1 hq with rfl | hq
    · rcases k3 with k3 | k3
      · exact .inl (List.mem_append_left _ (by simp [FB, k3]))
      · exact .inr (.inr k3)
    · rcases List.mem_append.1 hq with hq | hq
      · exact .inl (List.mem_append_right _ hq)
      · exact .inr (.inl hq)

/-- 'append(rows, x)' at the list of a plain region's operations. -/
theorem wpList_push {α : Type} {R : World → List Value → α → List Nat → Prop} (hRf : ∀ {w w' : World} {S : List Nat} {C : List Value} {x : α} {G : List Nat}, R w C x G → Frm w w' S → (∀ g ∈ G, g ∉ S) → R w' C x G)
    {w : World} {ops : Array Oper} {rest : List Oper} {o : Oper} {a : Act} {Q : Exit → Act → World → Prop} (hgd : o.guard = none) (s x : Operand) (t : TypeId)
    (ho : o.op = .call { callee := .builtin .append, args := #[s, x], argTypes := #[t, t] })
    (e : TypeId) (i : TypeInfo) (z : Value) (size bytes : Nat) (ht : Try.prog.underlying t = some (.slice e)) (hi : Try.prog.info? e = some i) (hz : i.zero = some z)
    (hsize : i.size = size) (hby : i.bytes = bytes) (hzs : z.cells.size = size) (hsz : 0 < size)
    (v : Value) (l : List α) (F : List Nat) (hs : a.eval s = v) (h : OwElems w e size v l (R w) F) (hN : F.Nodup)
    (ad : Addr) (c : Nat) (C : List Value) (y : α) (G : List Nat) (hx : a.eval x = .slice (some ad) 1 c) (hC : C.length = size) (hcell : ∀ j u, C[j]? = some u → w.cell? (ad.add j) = some u) (h1 : ∀ u ∈ C, u.oneCell' = true)
    (hy : R w C y G) (hGN : G.Nodup) (hFG : ∀ g ∈ F, g ∉ G) (hlt : ∀ q, q ∈ F ∨ q ∈ G → q < w.heap.size) (h63 : l.length + 1 ≤ maxLen) (hbytes : (l.length + 1) * bytes ≤ 140737488355328)
    (hK : ∀ g cap w' F', OwElems w' e size (.slice (some ⟨g, 0, none⟩) (l.length + 1) cap) (l ++ [y]) (R w') F' → F'.Nodup → (∀ q ∈ F', q ∈ F ∨ q ∈ G ∨ q = w.heap.size) → Frm w w' (FB v) → g < w'.heap.size → wpList Try.prog ops Q rest (a.put o.dst (.slice (some ⟨g, 0, none⟩) (l.length + 1) cap)) w') : wpList Try.prog ops Q (o :: rest) a w := by
  obtain ⟨Cs, Fs, e1, e2, e3, e4, rfl⟩ := h
  refine wpList_append_lies w hgd s x t ho 0 e i z size bytes ht hi hz hsize hby hzs hsz v l.length Cs.flatten hs e4 ad 1 c C hx (by omega) hcell h1 (by omega) h63 hbytes (Nat.zero_le _) w.heap.size rfl ?_
  intro g cap w' k1 k2 k3 k4
  obtain ⟨m1, m2, m3⟩ := OwElems.push (R := R) hRf e1 e2 e3 hN hC hy hGN hFG hlt k1 k2 k3
  exact hK g cap w' _ m1 m2 m3 (Frm.ofGrown k2) k4

/-- 'append(rows, x)' as one step of a region that draws its order. -/
theorem step_push {α : Type} {R : World → List Value → α → List Nat → Prop} (hRf : ∀ {w w' : World} {S : List Nat} {C : List Value} {x : α} {G : List Nat}, R w C x G → Frm w w' S → (∀ g ∈ G, g ∉ S) → R w' C x G)
    {w : World} {ops : Array Oper} {o : Oper} {a : Act} {K : Act → World → Prop} {Q : Exit → Act → World → Prop} {E : Prop} (hgd : o.guard = none) (s x : Operand) (t : TypeId)
    (ho : o.op = .call { callee := .builtin .append, args := #[s, x], argTypes := #[t, t] })
    (e : TypeId) (i : TypeInfo) (z : Value) (size bytes : Nat) (ht : Try.prog.underlying t = some (.slice e)) (hi : Try.prog.info? e = some i) (hz : i.zero = some z)
    (hsize : i.size = size) (hby : i.bytes = bytes) (hzs : z.cells.size = size) (hsz : 0 < size)
    (v : Value) (l : List α) (F : List Nat) (hs : a.eval s = v) (h : OwElems w e size v l (R w) F) (hN : F.Nodup)
    (ad : Addr) (c : Nat) (C : List Value) (y : α) (G : List Nat) (hx : a.eval x = .slice (some ad) 1 c) (hC : C.length = size) (hcell : ∀ j u, C[j]? = some u → w.cell? (ad.add j) = some u) (h1 : ∀ u ∈ C, u.oneCell' = true)
    (hy : R w C y G) (hGN : G.Nodup) (hFG : ∀ g ∈ F, g ∉ G) (hlt : ∀ q, q ∈ F ∨ q ∈ G → q < w.heap.size) (h63 : l.length + 1 ≤ maxLen) (hbytes : (l.length + 1) * bytes ≤ 140737488355328)
    (hK : ∀ g cap w' F', OwElems w' e size (.slice (some ⟨g, 0, none⟩) (l.length + 1) cap) (l ++ [y]) (R w') F' → F'.Nodup → (∀ q ∈ F', q ∈ F ∨ q ∈ G ∨ q = w.heap.size) → Frm w w' (FB v) → g < w'.heap.size → K (a.put o.dst (.slice (some ⟨g, 0, none⟩) (l.length + 1) cap)) w') : if Region.wanted o (yielded ops a.tmps) = true then Oper.wp Try.prog o a w K Q else E := by
  obtain ⟨Cs, Fs, e1, e2, e3, e4, rfl⟩ := h
  refine step_append_lies w hgd s x t ho 0 e i z size bytes ht hi hz hsize hby hzs hsz v l.length Cs.flatten hs e4 ad 1 c C hx (by omega) hcell h1 (by omega) h63 hbytes (Nat.zero_le _) w.heap.size rfl ?_
  intro g cap w' k1 k2 k3 k4
  obtain ⟨m1, m2, m3⟩ := OwElems.push (R := R) hRf e1 e2 e3 hN hC hy hGN hFG hlt k1 k2 k3
  exact hK g cap w' _ m1 m2 m3 (Frm.ofGrown k2) k4
end Go.Proofs.Yteioihjgjbjmjaa

/- An append of a readable row of bytes to an owned one, as one law for the walk. -/
namespace Go.Proofs.Yteioihjgjbjmjaa
open Go.RowKit
set_option linter.unusedVariables false

/-- 'append(out, src...)': out owned, src readable: what comes is owned, and no block but out's own has been written. -/
theorem wpList_app {w : World} {ops : Array Oper} {rest : List Oper} {o : Oper} {a : Act} {Q : Exit → Act → World → Prop} (hgd : o.guard = none) (s x : Operand)
    (ho : o.op = .call { callee := .builtin .append, args := #[s, x], argTypes := #[22, 22] })
    (base : Nat) (v : Value) (l : List Int) (hs : a.eval s = v) (hown : Own w base v l) (u : Value) (m : List Int) (hx : a.eval x = u) (hu : Byt w u m)
    (hlen : l.length + m.length ≤ 134217728) (hbase : base ≤ w.heap.size)
    (h : ∀ v' w', Own w' base v' (l ++ m) → w.grownBy w' v.ownBlock → wpList Try.prog ops Q rest (a.put o.dst v') w') : wpList Try.prog ops Q (o :: rest) a w := by
  obtain ⟨i0, hi, hz0, hz1, hz2⟩ := info_parts Try.info5
  have hfull : ∀ (ad : Addr) (c : Nat), a.eval x = .slice (some ad) m.length c → (∀ j, j < m.length → w.cell? (ad.add j) = some (.int .u8 (m.getD j 0))) → wpList Try.prog ops Q (o :: rest) a w := by
    intro ad c hx' hc
    refine wpList_append_own _ hgd s x 22 ho base 5 i0 (.int .u8 0) 1 1 Try.underlying22 hi hz0 hz1 hz2 rfl (by decide) v l.length (vals l) hs hown.2 ad m.length c (vals m) hx' (by rw [vals_len]; omega) ?_ (vals_one m) (by unfold maxLen; omega) (by omega) hbase ?_
    · intro j y hj
      have hlt : j < m.length := by
        by_cases hlt : j < m.length
        · exact hlt
        · rw [List.getElem?_eq_none (by rw [vals_len]; omega)] at hj; cases hj
      rw [vals_at hlt] at hj
      rw [hc j hlt]; exact hj
    · intro v' w' h1 h2 _
      refine h v' w' ⟨hown.1.app hu.1, ?_⟩ h2
      rw [vals_app, List.length_append]; exact h1
  obtain ⟨hok, hm, ⟨rfl, rfl⟩ | ⟨y, cap, rfl, hc, rfl⟩ | ⟨b, off, cap, rfl, h1, h2, h3, h4, h5⟩⟩ := hu
  · refine wpList_append_own_none hgd s x 22 ho base 5 i0 1 Try.underlying22 hi v l.length (vals l) hs hown.2 hx ?_
    exact h v w (by rw [List.append_nil]; exact hown) (World.grownBy.refl _ _)
  · exact hfull y cap hx (fun j hj => by simp at hj)
  · exact hfull ⟨b, off, none⟩ cap hx (fun j hj => by rw [add_plain]; exact h5 j hj)

/-- A new block of one byte. -/
theorem byt_one (w : World) (x : Int) (h0 : 0 ≤ x) (h1 : x ≤ 255) : Byt (w.alloc (.cells #[.int .u8 x] 5)) (.slice (some ⟨w.heap.size, 0, none⟩) 1 1) [x] := by
  refine ⟨okB.one h0 h1, by simp [maxLen], .inr (.inr ⟨w.heap.size, 0, 1, rfl, by simp, by simp [maxLen], by simp, by simp, fun i hi => ?_⟩)⟩
  have e : i = 0 := by simpa using hi
  subst e
  simp
/-- A new block of none. -/
theorem own_none (w : World) : Own (w.alloc (.cells #[] 5)) w.heap.size (.slice (some ⟨w.heap.size, 0, none⟩) 0 0) [] :=
  ⟨okB_nil, World.ownsRow_lit w #[] 0 (Nat.le_refl _) (Nat.zero_le _) rfl⟩
theorem Own.alloc {w : World} {base : Nat} {v : Value} {l : List Int} (h : Own w base v l) (o : Obj) : Own (w.alloc o) base v l := ⟨h.1, h.2.alloc o⟩
theorem Byt.alloc {w : World} {v : Value} {l : List Int} (h : Byt w v l) (o : Obj) : Byt (w.alloc o) v l := h.keep ((Below.refl _ _).alloc (Nat.le_refl _) o)
/-- A block of the call's own that was there when the row was made is no older than 'base'. -/
theorem Own.base_le {w : World} {base : Nat} {v : Value} {l : List Int} (h : Own w base v l) : ∀ g, v.ownBlock = some g → base ≤ g := fun g hg => (h.lt g hg).1

end Go.Proofs.Yteioihjgjbjmjaa

/- bytes.Clone at a readable row answers the same bytes in memory of its own. -/
namespace Go.Proofs.Yteioihjgjbjmjaa
open Go.RowKit
set_option linter.unusedVariables false
set_option maxRecDepth 100000

set_option maxHeartbeats 1600000 in
theorem clone_any (w : World) (v : Value) (l : List Int) (h : Byt w v l) (hl : l.length ≤ 67108864) :
    Calls Try.prog 63 #[v] w fun e w' => ∃ v', e = .returned v' ∧ Own w' w.heap.size v' l ∧ Below w.heap.size w w' := by
  by_cases hv : v = .slice none 0 0
  · subst hv
    have hl0 : l = [] := by
      obtain ⟨a, c, e, _⟩ := h.shape
      injection e with _ e2 _
      exact List.eq_nil_of_length_eq_zero e2.symm
    subst hl0
    have hq := Lib.run_eql_slice_nil_nil (P := Try.prog) w 0 0 Try.underlying22
    go_enter Try.func63, Try.ntmps63
    go_wp2_with fail
    go_ret
    exact ⟨_, rfl, ⟨okB_nil, World.ownsRow_nil _ _ _ _⟩, Below.refl _ _⟩
  · obtain ⟨x, c, rfl⟩ : ∃ x c, v = .slice (some x) l.length c := by
      obtain ⟨_, _, ⟨e, _⟩ | ⟨x, cap, rfl, hc, rfl⟩ | ⟨p, off, cap, rfl, _⟩⟩ := h
      · exact absurd e hv
      · exact ⟨x, cap, rfl⟩
      · exact ⟨_, cap, rfl⟩
    have hq := Lib.run_eql_slice_some_nil (P := Try.prog) w x l.length c Try.underlying22
    go_enter Try.func63, Try.ntmps63
    go_wp2_with (at_builtin; refine wpList_app rfl _ _ rfl w.heap.size _ [] rfl (own_none w) _ l rfl (h.alloc _) ?c1 ?c2 ?_)
    case c1 => first | omega | (simp; omega)
    case c2 => simp
    intro v1 w1 ho1 hg1
    have hB1 : Below w.heap.size w w1 := bstepBy ((Below.refl _ _).alloc (Nat.le_refl _) _) hg1 (fun g hg => by simp [Value.ownBlock] at hg; omega)
    clear hg1
    go_wp2
    go_ret
    exact ⟨_, rfl, ho1, hB1⟩
end Go.Proofs.Yteioihjgjbjmjaa

/- The law's own helpers that write a count into a row of bytes and look for it again, by their contracts. -/
namespace Go.Proofs.Yteioihjgjbjmjaa
open Go.RowKit
set_option linter.unusedVariables false

/-- n bytes that count on from k. -/
def marks (k : Int) (n : Nat) : List Int := (List.range n).map fun i : Nat => (k + (i : Int)) % 256
theorem marks_len (k : Int) (n : Nat) : (marks k n).length = n := by simp [marks]
theorem marks_ok (k : Int) (n : Nat) : okB (marks k n) := fun x hx => by
  obtain ⟨i, _, rfl⟩ := List.mem_map.1 hx
  omega
theorem marks_at (k : Int) (n i : Nat) (h : i < n) : (marks k n).getD i 0 = (k + (i : Int)) % 256 := by simp [marks, h]
theorem marks_step (k : Int) (l : List Int) (j : Nat) (h : j < l.length) : (vals (marks k j ++ l.drop j)).set j (.int .u8 ((k + (j : Int)) % 256)) = vals (marks k (j + 1) ++ l.drop (j + 1)) := by
  have e : marks k (j + 1) = marks k j ++ [(k + (j : Int)) % 256] := by simp [marks, List.range_succ]
  have hl : (vals (marks k j)).length = j := by simp [vals, marks_len]
  rw [vals_app, List.set_append_right _ _ (by omega), hl, Nat.sub_self, e, List.drop_eq_getElem_cons h, vals_app, vals_app, List.append_assoc]
  rfl

theorem markB_nil (w : World) (a : Option Addr) (cap : Nat) (k : Int) :
    Calls Try.prog 21 #[.slice a 0 cap, .int .i64 k] w fun e w' => e = .returned (.int .i64 k) ∧ w' = w := by
  go_enter Try.func21, Try.ntmps21
  go_wp2
  refine wp_loop_rounds 1 ?_
  rw [rounds_succ]
  go_wp2
  go_ret
  exact ⟨rfl, rfl⟩

set_option maxHeartbeats 1600000 in
set_option maxRecDepth 1000000 in
theorem markB_row (w : World) (base g cap : Nat) (l : List Int) (k : Int) (hw : w.ownsRow base 5 1 (.slice (some ⟨g, 0, none⟩) l.length cap) l.length (vals l)) (hs : l.length ≤ 16777216) (h0 : 0 ≤ k) (h1 : k ≤ 1000000000) :
    Calls Try.prog 21 #[.slice (some ⟨g, 0, none⟩) l.length cap, .int .i64 k] w fun e w' => e = .returned (.int .i64 (k + l.length)) ∧
      w'.ownsRow base 5 1 (.slice (some ⟨g, 0, none⟩) l.length cap) l.length (vals (marks k l.length)) ∧ w.grownBy w' (some g) := by
  generalize hn : l.length = n at *
  have HN := hide hn
  clear hn
  go_enter Try.func21, Try.ntmps21
  go_wp2
  go_loopw [1, 5] (fun c i wr => ∃ j : Nat, j ≤ n ∧ i = .int .i64 j ∧ c = .int .i64 (k + (j : Int)) ∧ wr.ownsRow base 5 1 (.slice (some ⟨g, 0, none⟩) n cap) n (vals (marks k j ++ l.drop j)) ∧ w.grownBy wr (some g)) (fun _ i _ => n - (intOf i).toNat)
  case atStart => exact ⟨0, Nat.zero_le _, rfl, by simp, by simpa [marks] using hw, World.grownBy.refl _ _⟩
  case round =>
    obtain ⟨j, hj, rfl, rfl, hr, hg⟩ := hrel
    by_cases hlt : j < n
    · have hlen := unhide HN
      have hjl : j < l.length := by omega
      obtain ⟨y, hy⟩ : ∃ y, wr.cell? ⟨g, j, none⟩ = some (.int .u8 y) := ⟨(marks k j ++ l.drop j).getD j 0, by rw [hr.cellAt j (by omega), vals_at (by simp [marks_len]; omega)]⟩
      have hfr := hr.frozenAt j
      have hst := hr.stored j (.int .u8 ((k + (j : Int)) % 256))
      rw [marks_step k l j hjl] at hst
      have HS := hide hst
      clear hst hr hlen
      have hlt' : (j : Int) < (n : Int) := by omega
      go_wp2
      have R := unhide HS
      go_roundw
      case rel => exact ⟨j + 1, by omega, by go_num, by go_num, R.1, grown_trans hg R.2⟩
      case measure => simp [intOf]; omega
    · have e : j = n := by omega
      subst e
      have hr' : wr.ownsRow base 5 1 (.slice (some ⟨g, 0, none⟩) j cap) j (vals (marks k j)) := by
        have := unhide HN
        rw [List.drop_of_length_le (by omega), List.append_nil] at hr
        exact hr
      clear hr
      go_wp2
      go_ret
      exact ⟨rfl, hr', hg⟩

theorem markB_any (w : World) (base : Nat) (v : Value) (l : List Int) (k : Int) (h : Own w base v l) (hs : l.length ≤ 16777216) (h0 : 0 ≤ k) (h1 : k ≤ 1000000000) :
    Calls Try.prog 21 #[v, .int .i64 k] w fun e w' => e = .returned (.int .i64 (k + l.length)) ∧ Own w' base v (marks k l.length) ∧ w.grownBy w' v.ownBlock := by
  obtain ⟨hok, hlen, ⟨rfl, hz⟩ | ⟨g, cap, cur, rfl, hr⟩⟩ := h
  · have e : l = [] := List.eq_nil_of_length_eq_zero hz
    subst e
    refine (markB_nil w none 0 k).mono ?_
    rintro e w' ⟨rfl, rfl⟩
    exact ⟨by simp, ⟨marks_ok _ _, World.ownsRow_nil _ _ _ _⟩, World.grownBy.refl _ _⟩
  · refine (markB_row w base g cap l k ⟨hlen, .inr ⟨g, cap, cur, rfl, hr⟩⟩ hs h0 h1).mono ?_
    rintro e w' ⟨rfl, ho, hg⟩
    refine ⟨rfl, ⟨marks_ok _ _, ?_⟩, hg⟩
    rw [marks_len]
    exact ho

theorem heldB_nil (w : World) (a : Option Addr) (cap : Nat) (k : Int) :
    Calls Try.prog 22 #[.slice a 0 cap, .int .i64 k] w fun e w' => e = .returned (.int .i64 k) ∧ w' = w := by
  go_enter Try.func22, Try.ntmps22
  go_wp2
  refine wp_loop_rounds 1 ?_
  rw [rounds_succ]
  go_wp2
  go_ret
  exact ⟨rfl, rfl⟩

set_option maxHeartbeats 1600000 in
set_option maxRecDepth 1000000 in
theorem heldB_row (w : World) (b off cap n : Nat) (k : Int) (hc : ∀ i, i < n → w.cell? ⟨b, off + i, none⟩ = some (.int .u8 ((marks k n).getD i 0))) (hs : n ≤ 16777216) (h0 : 0 ≤ k) (h1 : k ≤ 1000000000) :
    Calls Try.prog 22 #[.slice (some ⟨b, off, none⟩) n cap, .int .i64 k] w fun e w' => e = .returned (.int .i64 (k + n)) ∧ w' = w := by
  go_enter Try.func22, Try.ntmps22
  go_wp2
  go_loop [1, 5] (fun c i => ∃ j : Nat, j ≤ n ∧ i = .int .i64 j ∧ c = .int .i64 (k + (j : Int))) (fun _ i => n - (intOf i).toNat)
  case atStart => exact ⟨0, Nat.zero_le _, rfl, by simp⟩
  case round =>
    obtain ⟨j, hj, rfl, rfl⟩ := hrel
    by_cases hlt : j < n
    · have c1 := hc j hlt
      rw [marks_at k n j hlt] at c1
      clear hc
      have hlt' : (j : Int) < (n : Int) := by omega
      go_wp2
      go_round
      case rel => exact ⟨j + 1, by omega, by go_num, by go_num⟩
      case measure => simp [intOf]; omega
    · have e : j = n := by omega
      subst e
      clear hc
      go_wp2
      go_ret
      exact ⟨rfl, rfl⟩

theorem heldB_any (w : World) (v : Value) (n : Nat) (k : Int) (h : Byt w v (marks k n)) (hs : n ≤ 16777216) (h0 : 0 ≤ k) (h1 : k ≤ 1000000000) :
    Calls Try.prog 22 #[v, .int .i64 k] w fun e w' => e = .returned (.int .i64 (k + n)) ∧ w' = w := by
  obtain ⟨_, _, ⟨rfl, hn⟩ | ⟨x, cap, rfl, hc, hn⟩ | ⟨b, off, cap, rfl, _, _, _, _, h5⟩⟩ := h
  · have e : n = 0 := by have := congrArg List.length hn; rw [marks_len] at this; exact this
    subst e
    refine (heldB_nil w none 0 k).mono ?_
    rintro e w' ⟨rfl, rfl⟩
    exact ⟨by simp, rfl⟩
  · have e : n = 0 := by have := congrArg List.length hn; rw [marks_len] at this; exact this
    subst e
    refine (heldB_nil w (some x) cap k).mono ?_
    rintro e w' ⟨rfl, rfl⟩
    exact ⟨by simp, rfl⟩
  · rw [marks_len] at h5 ⊢
    exact heldB_row w b off cap n k h5 hs h0 h1

end Go.Proofs.Yteioihjgjbjmjaa
