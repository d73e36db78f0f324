/- impl.partsOf answers all parts of a tree, in the markup's order, in memory of its own. -/
import Derived.Test.YteioihjgjbjmjaaNodeI
import Derived.Test.YteioihjgjbjmjaaSameL
import Derived.Maps.AppendAt
namespace Go.Proofs.Yteioihjgjbjmjaa
open Go.RowKit Go.Shelf
set_option linter.unusedVariables false
set_option maxRecDepth 100000
attribute [local go_sem] Oper.semAt_some

theorem sum_le {α : Type} {f g : α → Nat} : ∀ (l : List α), (∀ x ∈ l, f x ≤ g x + 1) → (l.map f).sum ≤ l.length + (l.map g).sum
  | [], _ => by simp
  | x :: l, h => by
    have h1 := h x (by simp)
    have h2 := sum_le l (fun y hy => h y (by simp [hy]))
    simp only [List.map_cons, List.sum_cons, List.length_cons]
    omega
theorem pre_len (w0 : World) : ∀ (n : Nat) (deep : Int) (C : List Value) (t : Tr n) (xs : List (It w0)), Pre w0 n deep C t xs → xs.length ≤ szT n t + 1
  | 0, _, _, t, _, _ => t.elim
  | n + 1, deep, C, t, xs, ⟨a, b, c, d, e, rd, ks, _, hxs, hks, hel⟩ => by
    have h3 : szT (n + 1) t = t.name.length + t.text.length + szA t.attrs + (t.kids.length + (t.kids.map (szT n)).sum) := rfl
    have h4 : (ks.map fun k => k.2.length).sum ≤ ks.length + (ks.map fun k => szT n k.1).sum := sum_le ks (fun k hk => by
      obtain ⟨D, hD⟩ := hel.mem k hk
      exact pre_len w0 n (deep + 1) D k.1 k.2 hD)
    have h5 : ks.length = t.kids.length := by rw [← hks]; simp
    have h6 : (ks.map fun k => szT n k.1).sum = (t.kids.map (szT n)).sum := by rw [← hks, List.map_map]; rfl
    subst hxs
    simp only [List.length_cons, List.length_flatten, List.map_map]
    have h7 : (ks.map (List.length ∘ fun x => x.2)).sum = (ks.map fun k => k.2.length).sum := rfl
    omega

/-- The six cells of a part, of all parts. -/
def six {w0 : World} (x : It w0) : List Value := [.int .i64 x.deep, x.a, x.b, x.c, x.d, x.e]
def sixes {w0 : World} (l : List (It w0)) : List Value := (l.map six).flatten
theorem sixes_snoc {w0 : World} (l : List (It w0)) (x : It w0) : sixes (l ++ [x]) = sixes l ++ six x := by simp [sixes]
theorem parts_rd {w0 : World} {w : World} {base : Nat} {v : Value} {l : List (It w0)} (h : w.ownsRow base 74 6 v l.length (sixes l)) (hm : l.length ≤ maxLen) : RdParts w v l := by
  refine OwElems.rd (R := fun C x _ => RdPart C x) (F := FB v ++ (l.map fun _ => ([] : List Nat)).flatten) ⟨l.map six, l.map fun _ => [], by simp, by simp, fun i hi => ?_, ownsRow_base h 0 (Nat.zero_le _), rfl⟩ hm (fun C x G h => h)
  have e : (l.map six).getD i [] = six l[i] := by simp [hi]
  rw [e]
  exact ⟨rfl, rfl⟩

theorem Try.info74 : (Try.prog.info? 74).map (fun i => (i.zero, i.size, i.bytes)) = some (some (.agg #[.int .i64 0, .int .i64 0, .slice none 0 0, .slice none 0 0, .slice none 0 0, .slice none 0 0]), 6, 112) := by kernel_rfl

/-- Three new blocks, one behind the other. -/
theorem three_new (w : World) (A1 A2 A3 : Array Value) (T1 T2 T3 : TypeId) (W : World) (hW : W = ((w.alloc (.cells A1 T1)).alloc (.cells A2 T2)).alloc (.cells A3 T3)) :
    Loc W (w.heap.size + 1) A2 T2 ∧ Loc W (w.heap.size + 1 + 1) A3 T3 ∧ W.heap.size = w.heap.size + 1 + 1 + 1 ∧ Below w.heap.size w W := by
  subst hW
  have m2 := Loc.made (w.alloc (.cells A1 T1)) A2 T2
  have m3 := Loc.made ((w.alloc (.cells A1 T1)).alloc (.cells A2 T2)) A3 T3
  simp only [World.size_alloc] at m2 m3
  exact ⟨m2.alloc _, m3, by simp, (((Below.refl _ w).alloc (Nat.le_refl _) _).alloc (by simp) _).alloc (by simp; omega) _⟩

theorem six_new (V : World) (a b c d e f : Value) (T : TypeId) : ∀ j u, [a, b, c, d, e, f][j]? = some u → (V.alloc (.cells #[a, b, c, d, e, f] T)).cell? ((⟨V.heap.size, 0, none⟩ : Addr).add j) = some u := by
  intro j u h
  rw [add_plain, Nat.zero_add, (Loc.made V #[a, b, c, d, e, f] T).cell j]
  simpa using h
/-- A row that the call owns lies at or beyond its base: a block below it is another. -/
theorem own_ne {w : World} {base : Nat} {e : TypeId} {size n : Nat} {v : Value} {xs : List Value} (h : w.ownsRow base e size v n xs) {g : Nat} (hg : g < base) : v.ownBlock ≠ some g := fun e => by have := (h.lt g e).1; omega
theorem Loc.grown {W W' : World} {g : Nat} {cs : Array Value} {T : TypeId} {row : Option Nat} (h : Loc W g cs T) (hg : W.grownBy W' row) (hn : row ≠ some g) : Loc W' g cs T := (hg.block g h.lt (fun e => hn e.symm)).trans h

theorem below_own {w V V1 V2 : World} {s : Nat} {row : Option Nat} (h : Below s w V) (h1 : Below V.heap.size V V1) (hg : V1.grownBy V2 row) (hr : ∀ g, row = some g → s ≤ g) (hs : s ≤ w.heap.size) : Below s w V2 := by
  have h2 : Below s w V1 := h.trans (h1.mono (Nat.le_trans hs h.size))
  exact h2.grown hg (Nat.le_trans hs h2.size) hr

set_option maxHeartbeats 3200000 in
theorem partsI_any (k : Nat) (w0 w : World) (hW0 : Below w0.heap.size w0 w) (a b c d e : Value) (t : Tr (k + 1)) (xs : List (It w0)) (hP : Pre w0 (k + 1) 1 [a, b, c, d, e] t xs) (hsz : szT (k + 1) t ≤ 2097152) :
    Calls Try.prog 36 #[.agg #[a, b, c, d, e]] w fun e w' => ∃ v, e = .returned v ∧ RdParts w' v xs ∧ Below w.heap.size w w' := by
  have hxl := pre_len w0 (k + 1) 1 _ t xs hP
  have hxm : xs.length ≤ 2097153 := by omega
  clear hxl
  obtain ⟨z, ab, nb, cb, ac, nc, cc, ad, nd, cd, ae, ne, ce, hC⟩ := rd_shape (pre_rd hP)
  simp only [List.cons.injEq, and_true] at hC
  obtain ⟨rfl, rfl, rfl, rfl, rfl⟩ := hC
  have HP := hide hP
  clear hP
  obtain ⟨i0, hi0, hz0, hz1, hz2⟩ := info_parts Try.info74
  refine (callsIn_wide (n := 5)).1 ?_
  refine callsIn_of_wp_marks Try.func36 rfl trivial ?_ rfl
  simp only [Try.ntmps36, List.size_toArray, List.length_cons, List.length_nil, Nat.reduceAdd, Nat.reduceSub, Array.replicate_succ, Array.replicate_zero, List.push_toArray, List.append_toArray, List.nil_append, List.cons_append]
  gi_wp2_with fail
  refine ⟨trivial, ?_⟩
  refine (callsIn_wide.2 (nodesOf_any _ _ _ _ _ _ _ _ _ _ _ _ _ _)).mono ?_
  rintro e W ⟨rfl, hW⟩
  obtain ⟨l1, l2, hsW, hBW⟩ := three_new w _ _ _ _ _ _ W hW
  clear hW
  simp only [World.size_alloc]
  obtain ⟨q1, q2, q3⟩ : w.heap.size < w.heap.size + 1 ∧ w.heap.size + 1 < w.heap.size + 1 + 1 ∧ w.heap.size + 1 + 1 < W.heap.size := by omega
  clear hsW
  generalize w.heap.size + 1 + 1 = p2 at *
  generalize w.heap.size + 1 = p1 at *
  gi_wp2_with fail
  refine range_law (gf := 52) (lb := #[.pointer (some ⟨p2, 0, none⟩)]) (Bx := BxN) (Mt := fun i o => i = p1 ∨ i = W.heap.size + 1 ∨ (W.heap.size + 2 ≤ i ∧ ∃ cs, o = .cells cs 74 (0, 0))) (xs := xs) (encs := encIt) rfl (enters_of Try.func52 (by kernel_rfl) rfl)
    (fun _ => .inr (.inl rfl)) (fun q o hq hb hm => by
      obtain ⟨cs, rfl⟩ := hb
      rcases hm with h | h | ⟨_, cs', h⟩
      · omega
      · omega
      · injection h with _ h2; revert h2; decide)
    (nodes_hand w0 W _ p2 k _ (fun i o hi hm => by have := hW0.size; rcases hm with h | h | ⟨h, _⟩ <;> omega) _ _ _ _ _ t xs (unhide HP) hsz (hW0.trans (hBW.mono hW0.size)) l2) (fun _ => rfl)
    (fun pre V => ∃ v, Loc V p1 #[v] 72 ∧ V.ownsRow (W.heap.size + 2) 74 6 v pre.length (sixes pre) ∧ Below w.heap.size w V)
    (fun pre V => False)
    (fun pre A B row hs hg hr => by
      obtain ⟨v, h1, h2, h3⟩ := hs
      refine ⟨v, h1.stay hg hr (by omega) (by omega), h2.kept hg ?_, below_stay h3 (by omega) hg hr h3.size⟩
      by_cases hv : v.ownBlock = none
      · exact .inl hv
      · refine .inr fun e => ?_
        obtain ⟨g, hgv⟩ := Option.ne_none_iff_exists'.1 hv
        have := h2.lt g hgv
        rcases hr g (by rw [← e]; exact hgv) with h | h <;> omega)
    (fun pre A B row hs hg hr => hs)
    ⟨_, l1, World.ownsRow_nil _ _ _ _, hBW⟩
    (fun x a' V => ∃ q, W.heap.size + 1 < q ∧ Loc V q #[x.a, x.b, x.c, x.d, x.e] 32 ∧ a' = { tmps := #[.agg #[.int .i64 z, .slice ab nb cb, .slice ac nc cc, .slice ad nd cd, .slice ae ne ce], .pointer (some ⟨w.heap.size, 0, none⟩), .slice none 0 0, .pointer (some ⟨p1, 0, none⟩), .int .i64 x.deep, .pointer (some ⟨q, 0, none⟩), .agg #[.int .i64 z, .slice ab nb cb, .slice ac nc cc, .slice ad nd cd, .slice ae ne ce], .func (.func 52) #[] #[.pointer (some ⟨p2, 0, none⟩)], .int .i64 x.deep, .agg #[x.a, x.b, x.c, x.d, x.e], undef, undef, undef, undef, undef, undef, undef], defers := [] })
    (fun x a' u A B row hs hg hr => by obtain ⟨q, h1, h2, h3⟩ := hs; exact ⟨q, h1, h2.stay hg hr (by omega) (by omega), h3⟩)
    ?assign ?body ?done ?stop
  case assign =>
    intro pre x V K hi hV2 hK
    obtain ⟨deep, a, b, c, d, e, m, u, rd⟩ := x
    obtain ⟨z, ab', nb', cb', ac', nc', cc', ad', nd', cd', ae', ne', ce', hC⟩ := rd_shape rd
    simp only [List.cons.injEq, and_true] at hC
    obtain ⟨rfl, rfl, rfl, rfl, rfl⟩ := hC
    simp only [encIt] at hK ⊢
    gi_wp2
    exact hK _ _ ((Below.refl _ _).alloc (Nat.le_refl _) _) ⟨V.heap.size, by omega, Loc.made V _ _, rfl⟩
  case body =>
    rintro pre x a' V ⟨v, i1, iR, iB⟩ ⟨q, hq, lq, rfl⟩ hpx hsz2
    obtain ⟨deep, a, b, c, d, e, m, u, rd⟩ := x
    obtain ⟨z', ab', nb', cb', ac', nc', cc', ad', nd', cd', ae', ne', ce', hC⟩ := rd_shape rd
    simp only [List.cons.injEq, and_true] at hC
    obtain ⟨rfl, rfl, rfl, rfl, rfl⟩ := hC
    have hlp : pre.length + 1 ≤ 2097153 := by have := hpx.length_le; simp at this; omega
    have c1 : V.cell? ⟨p1, 0, none⟩ = some v := i1.cell 0
    simp only at lq
    obtain ⟨x0, x1, x2, x3, x4⟩ := lq.five
    have f1 := i1.frozen 0
    gi_wp2_with (gi_at_builtin; refine wpListIn_append_own _ rfl _ _ 72 rfl (W.heap.size + 2) 74 i0 (.agg #[.int .i64 0, .int .i64 0, .slice none 0 0, .slice none 0 0, .slice none 0 0, .slice none 0 0]) 6 112 Try.underlying72 hi0 hz0 hz1 hz2 rfl (by decide) _ _ _ rfl (iR.alloc _) ⟨V.heap.size, 0, none⟩ 1 1 [.int .i64 deep, .int .i64 z', .slice ab' nb' cb', .slice ac' nc' cc', .slice ad' nd' cd', .slice ae' ne' ce'] rfl rfl (six_new V _ _ _ _ _ _ _) (by intro y hy; simp at hy; rcases hy with rfl | rfl | rfl | rfl | rfl | rfl <;> rfl) (by unfold maxLen; omega) (by omega) (by simp; omega) ?_; intro v' w1 hown' hgrow0 hnil; have hgrow : World.grownBy _ w1 v.ownBlock := hgrow0; clear hgrow0; obtain ⟨g', cap', rfl⟩ := ownsRow_succ hown'; have i2 := (i1.alloc _).grown hgrow (own_ne iR (by omega)); have c2 : w1.cell? ⟨p1, 0, none⟩ = some v := i2.cell 0; have f2 := i2.frozen 0)
    have hV1 : Below V.heap.size V (V.alloc (.cells #[.int .i64 deep, .int .i64 z', .slice ab' nb' cb', .slice ac' nc' cc', .slice ad' nd' cd', .slice ae' ne' ce'] 74)) := (Below.refl _ _).alloc (Nat.le_refl _) _
    have hbk : ∀ j, j < V.heap.size → j < W.heap.size + 2 → j ≠ p1 → (w1.setCell ⟨p1, 0, none⟩ (.slice (some ⟨g', 0, none⟩) (pre.length + 1) cap')).heap[j]? = V.heap[j]? := fun j hj hjW hjp =>
      (heap_setCell_other w1 ⟨p1, 0, none⟩ j _ hjp).trans ((hgrow.block j (by simp; omega) (fun e => own_ne iR hjW e.symm)).trans (hV1.block j hj))
    refine ⟨⟨hbk _ (by omega) (by omega) (by omega), hbk _ (by omega) (by omega) (by omega)⟩, ?_, _, i2.set 0 _, ?_, ?_⟩
    · refine ((Frp.ofBelow hV1 _).trans (Frp.ofFrm (Frm.ofGrown hgrow) (fun g hg o ho => ?_))).trans (Frp.ofFrm (Frm.set w1 p1 0 _) (fun g hg o _ => .inl (by simpa using hg)))
      have hg' : v.ownBlock = some g := by simpa using hg
      obtain ⟨cur, hcur⟩ := own_obj iR hg'
      have hlt := iR.lt g hg'
      rw [hV1.block g hlt.2, hcur] at ho
      cases ho
      exact .inr (.inr ⟨hlt.1, cur, rfl⟩)
    · rw [sixes_snoc, List.length_append]
      exact hown'.kept (grownBy_setCell' w1 p1 _) (.inr (own_ne hown' (by omega)))
    · exact (below_own iB hV1 hgrow (fun g hg => by have := (iR.lt g hg).1; omega) (Nat.le_refl _)).setCell (p := ⟨p1, 0, none⟩) (by show w.heap.size ≤ p1; omega) _
  case done =>
    rintro V ⟨v, i1, iR, iB⟩ hD
    have c1 : V.cell? ⟨p1, 0, none⟩ = some v := i1.cell 0
    have hv : ∃ g n c, v = .slice g n c := by
      rcases iR.2 with ⟨rfl, _⟩ | ⟨g', cap, cur, rfl, _⟩
      · exact ⟨_, _, _, rfl⟩
      · exact ⟨_, _, _, rfl⟩
    obtain ⟨g, n, c, rfl⟩ := hv
    gi_wp2
    refine ⟨by simp, .inl ⟨_, _, rfl, run_takeDeferred hD, ?_⟩⟩
    refine ⟨_, results_tmp rfl _ _ _, _, rfl, parts_rd (base := W.heap.size + 2) (iR.kept (grownBy_putObj' _ _ _) ?_) (by unfold maxLen; omega), below_stay iB (D := W.heap.size) (by omega) (grownBy_putObj' _ _ _) (fun r e => by cases e; exact .inl rfl) iB.size⟩
    exact .inr (own_ne iR (by omega))
  case stop =>
    rintro pre V hpre h hD
    exact h.elim
end Go.Proofs.Yteioihjgjbjmjaa
