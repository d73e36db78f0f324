/- spec.Markup tells a tree's markup, or nothing; how long it is. -/
import Derived.Test.YteioihjgjbjmjaaMkupS
namespace Go.Proofs.Yteioihjgjbjmjaa
open Go.RowKit
set_option linter.unusedVariables false
set_option maxRecDepth 100000

theorem flat_bound {α β : Type} (f : α → List β) (g : α → Nat) (H : ∀ x, (f x).length ≤ 6 * g x + 6) : ∀ l : List α, (l.map f).flatten.length ≤ 6 * (l.length + (l.map g).sum)
  | [] => by simp
  | x :: l => by
    have h1 := flat_bound f g H l
    have h2 := H x
    simp only [List.map_cons, List.flatten_cons, List.length_append, List.length_cons, List.sum_cons]
    omega
theorem attrsM_len (l : List (List Int × List Int)) : (attrsM l).length ≤ 6 * szA l := by
  unfold attrsM szA
  refine flat_bound attrM (fun x => x.1.length + x.2.length) (fun x => ?_) l
  have := say_len true x.2
  unfold attrM
  simp only [List.length_append, List.length_cons, List.length_nil]
  omega
theorem mkup_len : ∀ (n : Nat) (t : Tr n), (mkup n t).length ≤ 6 * szT n t + 5
  | 0, t => by show ([] : List Int).length ≤ _; simp
  | n + 1, t => by
    have h1 := say_len false t.text
    have h2 := attrsM_len t.attrs
    have h3 := flat_bound (mkup n) (szT n) (fun x => by have := mkup_len n x; omega) t.kids
    have h4 : szT (n + 1) t = t.name.length + t.text.length + szA t.attrs + (t.kids.length + (t.kids.map (szT n)).sum) := rfl
    rw [mkup_succ, h4]
    split
    · omega
    · split
      · simp only [List.length_append, List.length_cons, List.length_nil]
        omega
      · simp only [List.length_append, List.length_cons, List.length_nil]
        omega

set_option maxHeartbeats 1600000 in
/-- spec.Markup: nothing of a tree that is not NodeOk, else its markup. -/
theorem markupS_any (n : Nat) (w : World) (a b c d e : Value) (t : Tr (n + 1)) (h : RdNode (n + 1) w [a, b, c, d, e] t) (hlen : (mkup (n + 1) t).length ≤ 100000000) :
    Calls Try.prog 18 #[.agg #[a, b, c, d, e]] w fun e w' => ∃ v, e = .returned v ∧ Own w' w.heap.size v (if okN n t = true then mkup (n + 1) t else []) ∧ Below w.heap.size w w' := by
  have hB1 : Below w.heap.size w (w.alloc (.cells #[a, b, c, d, e] 32)) := (Below.refl _ _).alloc (Nat.le_refl _) _
  have l1 := Loc.made w #[a, b, c, d, e] 32
  have c1 := nodeS_any n _ a b c d e t (h.keep hB1)
  obtain ⟨_, _, _, _, e0, k1, k2, hb, hc, hd, he⟩ := id h
  simp only [List.cons.injEq, and_true] at e0
  obtain ⟨rfl, rfl, rfl, rfl, rfl⟩ := e0
  obtain ⟨ab, cb, rfl, _, _⟩ := hb.shape
  obtain ⟨ac, cc, rfl, _, _⟩ := hc.shape
  obtain ⟨ad, cd, rfl, _, _⟩ := Elems.shape hd
  obtain ⟨ae, ce, rfl, _, _⟩ := Elems.shape he
  clear hb hc hd he
  obtain ⟨x0, x1, x2, x3, x4⟩ := l1.five
  by_cases hk : okN n t = true
  · rw [hk] at c1
    simp only [hk, if_true]
    clear hk
    go_enter Try.func18, Try.ntmps18
    go_wp2_with fail
    refine c1.mono ?_
    rintro e w1 ⟨rfl, hb⟩
    have hb' := hB1.trans (hb.mono hB1.size)
    obtain ⟨y0, y1, y2, y3, y4⟩ := (l1.all hb).five
    clear x0 x1 x2 x3 x4
    go_wp2_with fail
    refine (mk_any (n + 1) w w1 w.heap.size _ [] _ _ _ _ _ t h hb' (Nat.le_refl _) hb'.size ⟨okB_nil, World.ownsRow_nil _ _ _ _⟩ (by simpa using hlen)).mono ?_
    rintro e w2 ⟨v2, rfl, ho2, F2⟩
    rw [List.nil_append] at ho2
    obtain ⟨a2, c2, hv2, _, _⟩ := ho2.byt.shape
    subst hv2
    go_wp2_with fail
    go_ret
    exact ⟨_, rfl, ho2, hb'.trans (F2.toBelow hb'.size)⟩
  · have hk' : okN n t = false := by simpa using hk
    rw [hk'] at c1
    simp only [hk', Bool.false_eq_true, if_false]
    clear hk hk'
    go_enter Try.func18, Try.ntmps18
    go_wp2_with fail
    refine c1.mono ?_
    rintro e w1 ⟨rfl, hb⟩
    have hb' := hB1.trans (hb.mono hB1.size)
    go_wp2_with fail
    go_ret
    exact ⟨_, rfl, ⟨okB_nil, World.ownsRow_nil _ _ _ _⟩, hb'⟩
end Go.Proofs.Yteioihjgjbjmjaa
