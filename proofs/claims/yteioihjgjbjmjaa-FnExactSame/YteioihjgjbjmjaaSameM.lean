/- Two trees whose parts are one, one by one in the markup's order, are one. -/
import Derived.Test.YteioihjgjbjmjaaSameL
import Derived.Test.YteioihjgjbjmjaaSameT
namespace Go.Proofs.Yteioihjgjbjmjaa
open Go.RowKit
set_option linter.unusedVariables false

/-- What is told of a tree's parts. -/
def hp : (n : Nat) → Int → Tr n → List (Int × Int × List Int × List Int × List (List Int × List Int))
  | 0 => fun _ _ => []
  | n + 1 => fun deep t => (deep, t.kind, t.name, t.text, t.attrs) :: (t.kids.map (hp n (deep + 1))).flatten
theorem hp_succ (n : Nat) (deep : Int) (t : Tr (n + 1)) : hp (n + 1) deep t = (deep, t.kind, t.name, t.text, t.attrs) :: (t.kids.map (hp n (deep + 1))).flatten := rfl

theorem pre_hp (w0 : World) : ∀ (n : Nat) (deep : Int) (C : List Value) (t : Tr n) (xs : List (It w0)), Pre w0 n deep C t xs → xs.map hdI = hp n deep t
  | 0, _, _, t, _, _ => t.elim
  | n + 1, deep, C, t, xs, ⟨a, b, c, d, e, rd, ks, _, hxs, hks, hel⟩ => by
    subst hxs
    rw [List.map_cons, hp_succ, ← hks, List.map_flatten, List.map_map, List.map_map]
    congr 2
    apply List.map_congr_left
    intro k hk
    obtain ⟨D, hD⟩ := hel.mem k hk
    exact pre_hp w0 n (deep + 1) D k.1 k.2 hD

theorem hp_deep : ∀ (n : Nat) (d : Int) (t : Tr n), ∀ y ∈ hp n d t, d ≤ y.1
  | 0, _, t, _, _ => t.elim
  | n + 1, d, t, y, h => by
    rw [hp_succ] at h
    rcases List.mem_cons.1 h with rfl | h'
    · exact Int.le_refl _
    · obtain ⟨l, hl, hy⟩ := List.mem_flatten.1 h'
      obtain ⟨u, _, rfl⟩ := List.mem_map.1 hl
      have := hp_deep n (d + 1) u y hy
      omega
theorem hp_tail (n : Nat) (d : Int) (ks : List (Tr n)) : ∀ y ∈ (ks.map (hp n (d + 1))).flatten, d < y.1 := by
  intro y h
  obtain ⟨l, hl, hy⟩ := List.mem_flatten.1 h
  obtain ⟨u, _, rfl⟩ := List.mem_map.1 hl
  have := hp_deep n (d + 1) u y hy
  omega
theorem take_none (n : Nat) (d : Int) (ks : List (Tr (n + 1))) : ((ks.map (hp (n + 1) d)).flatten).takeWhile (fun y => decide (d < y.1)) = [] := by
  cases ks with
  | nil => rfl
  | cons k ks => rw [List.map_cons, List.flatten_cons, hp_succ, List.cons_append, List.takeWhile_cons]; simp
theorem take_all {α : Type} {p : α → Bool} : ∀ (l m : List α), (∀ y ∈ l, p y = true) → m.takeWhile p = [] → (l ++ m).takeWhile p = l
  | [], m, _, hm => by simpa using hm
  | a :: l, m, hl, hm => by
    rw [List.cons_append, List.takeWhile_cons, hl a (by simp), if_pos rfl, take_all l m (fun y hy => hl y (by simp [hy])) hm]

theorem blocks_inj (n : Nat) (d : Int) (hn : ∀ t u : Tr (n + 1), hp (n + 1) d t = hp (n + 1) d u → t = u) : ∀ ks ls : List (Tr (n + 1)), (ks.map (hp (n + 1) d)).flatten = (ls.map (hp (n + 1) d)).flatten → ks = ls
  | [], [], _ => rfl
  | [], l :: ls, h => by rw [List.map_cons, List.flatten_cons, hp_succ] at h; simp at h
  | k :: ks, [], h => by rw [List.map_cons, List.flatten_cons, hp_succ] at h; simp at h
  | k :: ks, l :: ls, h => by
    rw [List.map_cons, List.flatten_cons, List.map_cons, List.flatten_cons] at h
    have h' := h
    rw [hp_succ, hp_succ, List.cons_append, List.cons_append, List.cons.injEq] at h'
    have e := congrArg (List.takeWhile (fun y => decide (d < y.1))) h'.2
    rw [take_all _ _ (fun y hy => by simpa using hp_tail n d k.kids y hy) (take_none n d ks), take_all _ _ (fun y hy => by simpa using hp_tail n d l.kids y hy) (take_none n d ls)] at e
    have hkl : hp (n + 1) d k = hp (n + 1) d l := by rw [hp_succ, hp_succ, h'.1, e]
    rw [hkl] at h
    have := blocks_inj n d hn ks ls (List.append_cancel_left h)
    rw [hn k l hkl, this]
theorem hp_inj : ∀ (n : Nat) (d : Int) (t u : Tr n), hp n d t = hp n d u → t = u
  | 0, _, t, _, _ => t.elim
  | n + 1, d, t, u, h => by
    rw [hp_succ, hp_succ, List.cons.injEq] at h
    obtain ⟨h1, h2⟩ := h
    have hk : t.kids = u.kids := by
      cases n with
      | zero =>
        cases ht : t.kids with
        | nil =>
          cases hu : u.kids with
          | nil => rfl
          | cons x _ => exact x.elim
        | cons x _ => exact x.elim
      | succ n => exact blocks_inj n (d + 1) (hp_inj (n + 1) (d + 1)) t.kids u.kids h2
    simp only [Prod.mk.injEq] at h1
    exact nd_ext h1.2.1 h1.2.2.1 h1.2.2.2.1 h1.2.2.2.2 hk
theorem hp_eq (n : Nat) (d : Int) (t u : Tr n) : eqHds (hp n d t) (hp n d u) = eqT n t u := by
  by_cases h : t = u
  · subst h; rw [eqT_yes rfl, (eqHds_iff _ _).2 rfl]
  · rw [eqT_no h, eqHds_no (fun e => h (hp_inj n d t u e))]
end Go.Proofs.Yteioihjgjbjmjaa
