/- spec.l3markup and spec.Markup tell a tree's markup. -/
import Derived.Test.YteioihjgjbjmjaaSayS
import Derived.Test.YteioihjgjbjmjaaAppR
import Derived.Test.YteioihjgjbjmjaaNodeS
import Derived.Test.YteioihjgjbjmjaaTool
namespace Go.Proofs.Yteioihjgjbjmjaa
open Go.RowKit
set_option linter.unusedVariables false
set_option maxRecDepth 100000

/-- An attribute as markup tells it. -/
def attrM (x : List Int × List Int) : List Int := [32] ++ x.1 ++ [61, 34] ++ say true x.2 ++ [34]
def attrsM (l : List (List Int × List Int)) : List Int := (l.map attrM).flatten
/-- A tree's markup. -/
def mkup : (n : Nat) → Tr n → List Int
  | 0 => fun _ => []
  | n + 1 => fun t => if t.kind = 1 then say false t.text else [60] ++ t.name ++ attrsM t.attrs ++ [62] ++ (if voidB t.name = true then [] else (t.kids.map (mkup n)).flatten ++ [60, 47] ++ t.name ++ [62])
theorem mkup_succ (n : Nat) (t : Tr (n + 1)) : mkup (n + 1) t = if t.kind = 1 then say false t.text else [60] ++ t.name ++ attrsM t.attrs ++ [62] ++ (if voidB t.name = true then [] else (t.kids.map (mkup n)).flatten ++ [60, 47] ++ t.name ++ [62]) := rfl
theorem flatL_take {α β : Type} (f : α → List β) (l : List α) (j : Nat) (h : j < l.length) : ((l.take (j + 1)).map f).flatten = ((l.take j).map f).flatten ++ f l[j] := by
  rw [List.take_succ_eq_append_getElem h, List.map_append, List.flatten_append]
  simp
theorem flatL_le {α β : Type} (f : α → List β) (l : List α) (j : Nat) : ((l.take j).map f).flatten.length ≤ (l.map f).flatten.length := by
  have : (l.map f).flatten = ((l.take j).map f).flatten ++ ((l.drop j).map f).flatten := by rw [← List.flatten_append, ← List.map_append, List.take_append_drop]
  rw [this, List.length_append]
  omega

def MkSaid (n : Nat) : Prop := ∀ (w0 w : World) (B : Nat) (v : Value) (l : List Int) (a b c d e : Value) (t : Tr n), RdNode n w0 [a, b, c, d, e] t → Below w0.heap.size w0 w → w0.heap.size ≤ B → B ≤ w.heap.size → Own w B v l → l.length + (mkup n t).length ≤ 100000000 →
    Calls Try.prog 44 #[v, .agg #[a, b, c, d, e]] w fun e w' => ∃ v', e = .returned v' ∧ Own w' B v' (l ++ mkup n t) ∧ Frp (MtB B) w w'

theorem node_not (B g : Nat) (cs : Array Value) : ¬ MtB B g (.cells cs 32 (0, 0)) := by
  rintro ⟨_, cs', h⟩
  injection h with _ h2
  revert h2
  decide
theorem okB_60 : okB [60] := fun x hx => by simp at hx; omega
theorem okB_eq : okB [61, 34] := fun x hx => by simp at hx; omega
theorem okB_end : okB [60, 47] := fun x hx => by simp at hx; omega

theorem own_far {w : World} {B K : Nat} {v : Value} {l : List Int} {x : Value} (ho : Own w B v l) (h2 : 2 ≤ l.length) (hK : Loc w K #[x] 5) : v.ownBlock ≠ some K := by
  intro e
  rcases ho.2.2 with ⟨rfl, _⟩ | ⟨g, cap, cur, rfl, _, hg, h3, _, h5, _⟩
  · cases e
  · cases e
    unfold Loc at hK
    rw [hK] at hg
    injection hg with hg
    injection hg with hg
    subst hg
    simp at h5
    omega
theorem loc_grown {w w' : World} {K : Nat} {row : Option Nat} {cs : Array Value} {T : TypeId} (hK : Loc w K cs T) (hg : w.grownBy w' row) (hn : row ≠ some K) : Loc w' K cs T := by
  unfold Loc at hK ⊢
  rw [hg.block K (Array.getElem?_eq_some_iff.1 hK).1 (fun e => hn e.symm)]
  exact hK
theorem own_old {w : World} {B : Nat} {v : Value} {l : List Int} (ho : Own w B v l) : v.ownBlock ≠ some w.heap.size := fun e => by
  have := (ho.2.lt _ e).2
  omega
theorem loc_byt {w : World} {K : Nat} {x : Int} (hK : Loc w K #[.int .u8 x] 5) (h0 : 0 ≤ x) (h1 : x ≤ 255) : Byt w (.slice (some ⟨K, 0, none⟩) 1 1) [x] := by
  refine ⟨fun y hy => by simp at hy; omega, by simp [maxLen], .inr (.inr ⟨K, 0, 1, rfl, by simp, by simp [maxLen], by simp, hK.lt, fun i hi => ?_⟩)⟩
  have e : i = 0 := by simpa using hi
  subst e
  exact hK.cell 0

set_option maxHeartbeats 6400000 in
theorem mk_succ (n : Nat) (H : MkSaid n) : MkSaid (n + 1) := by
  intro w0 w B v l a b c d e t hrd hW h0 hB ho hlen
  obtain ⟨_, _, _, _, e0, k1, k2, hb, hc, hd, he⟩ := hrd
  simp only [List.cons.injEq, and_true] at e0
  obtain ⟨rfl, rfl, rfl, rfl, rfl⟩ := e0
  obtain ⟨ab, cb, rfl, _, _⟩ := hb.shape
  obtain ⟨ac, cc, rfl, _, _⟩ := hc.shape
  obtain ⟨ad, cd, rfl, _, _⟩ := Elems.shape hd
  obtain ⟨ae, ce, rfl, _, _⟩ := Elems.shape he
  obtain ⟨av, cv, rfl, _, _⟩ := ho.byt.shape
  have hB1 : Below w.heap.size w (w.alloc (.cells #[.int .i64 t.kind, .slice ab t.name.length cb, .slice ac t.text.length cc, .slice ad t.attrs.length cd, .slice ae t.kids.length ce] 32)) := (Below.refl _ _).alloc (Nat.le_refl _) _
  have l1 := Loc.made w #[.int .i64 t.kind, .slice ab t.name.length cb, .slice ac t.text.length cc, .slice ad t.attrs.length cd, .slice ae t.kids.length ce] 32
  have F1 : Frp (MtB B) w _ := Frp.ofBelow hB1 (MtB B)
  have ho1 := ho.keep hB1
  have hW1 := hW.trans (hB1.mono hW.size)
  have hBw1 : B ≤ (w.alloc (.cells #[.int .i64 t.kind, .slice ab t.name.length cb, .slice ac t.text.length cc, .slice ad t.attrs.length cd, .slice ae t.kids.length ce] 32)).heap.size := Nat.le_trans hB hB1.size
  have hmk := mkup_succ n t
  by_cases hz : t.kind = 1
  · have dz : (t.kind == 1) = true := by simpa using hz
    rw [if_pos hz] at hmk
    rw [hmk] at hlen ⊢
    clear hz hmk
    go_enter Try.func44, Try.ntmps44
    go_wp2_with fail
    refine (sayS_any w0 _ B _ _ l t.text false hBw1 ho1 hc hW1 h0 hlen).mono ?_
    rintro e w2 ⟨v2, rfl, ho2, F2⟩
    obtain ⟨a2, c2, hv2, _, _⟩ := ho2.byt.shape
    subst hv2
    generalize (l ++ say false t.text).length = n2 at *
    go_wp2_with fail
    go_ret
    exact ⟨_, rfl, ho2, F1.trans F2⟩
  · have dz : (t.kind == 1) = false := by simpa using hz
    rw [if_neg hz] at hmk
    rw [hmk] at hlen ⊢
    obtain ⟨G, hG⟩ : ∃ G, G = l ++ ([60] ++ t.name ++ attrsM t.attrs ++ [62] ++ (if voidB t.name = true then [] else (t.kids.map (mkup n)).flatten ++ [60, 47] ++ t.name ++ [62])) := ⟨_, rfl⟩
    rw [← hG]
    have HG := hide hG
    clear hz hmk hG
    obtain ⟨x0, x1, x2, x3, x4⟩ := l1.five
    go_enter Try.func44, Try.ntmps44
    go_wp2_with fail
    generalize (w.alloc (.cells #[.int .i64 t.kind, .slice ab t.name.length cb, .slice ac t.text.length cc, .slice ad t.attrs.length cd, .slice ae t.kids.length ce] 32)) = w1 at *
    generalize hS : w.heap.size = S at *
    have hln : l.length + 1 + t.name.length ≤ 100000000 := by simp only [List.length_append, List.length_cons, List.length_nil] at hlen; omega
    have z1 : (w1.alloc (.cells #[.int .u8 60] 5)).drew.cell? ⟨S, 1, none⟩ = some (.slice ab t.name.length cb) := (l1.alloc _).cell 1
    go_region_held3 (fun w' => w'.cell? ⟨S, 1, none⟩ = some (.slice ab t.name.length cb))
      (first | assumption | simp [*])
      (first
        | (refine step_app rfl (.tmp 14) (.tmp 15) rfl B _ l (by rfl) (ho1.alloc _) _ [60] (by rfl) (byt_one w1 60 (by omega) (by omega)) (by simp; omega) (by simp; omega) ?_; intro v5 w5 ho5 hg5; have F5 : Frp (MtB B) w1 w5 := (Frp.ofBelow (((Below.refl w1.heap.size w1).alloc (Nat.le_refl _) _).drew) _).trans (Frp.ofAppend (ho1.alloc _) hg5); obtain ⟨x0, x1, x2, x3, x4⟩ := (l1.frp F5 (node_not _ _ _)).five)
        | (refine step_app rfl (.tmp 16) (.tmp 18) rfl B _ (l ++ [60]) (by rfl) ho5 _ t.name (by rfl) (hb.keep (hW1.trans ((F5.toBelow hBw1).mono h0))) (by simp; omega) (Nat.le_trans hBw1 F5.size) ?_; intro v6 w6 ho6 hg6; have F6 : Frp (MtB B) w1 w6 := F5.trans (Frp.ofAppend ho5 hg6); obtain ⟨x0, x1, x2, x3, x4⟩ := (l1.frp F6 (node_not _ _ _)).five))
    have HW := hide (fun (W : World) (F : Frp (MtB B) w1 W) => hW1.trans ((F.toBelow hBw1).mono h0))
    have hmA : (t.attrs.length : Int) ≤ 9223372036854775807 := by have := hd.1; unfold maxLen at this; omega
    have hmK : (t.kids.length : Int) ≤ 9223372036854775807 := by have := he.1; unfold maxLen at this; omega
    obtain ⟨A0, hA0⟩ : ∃ A0, A0 = l ++ [60] ++ t.name := ⟨_, rfl⟩
    rw [← hA0] at ho6
    have hlA : A0.length + (attrsM t.attrs).length + 1 ≤ 100000000 := by
      simp only [List.length_append, List.length_cons, List.length_nil] at hlen
      rw [hA0]; simp only [List.length_append, List.length_cons, List.length_nil]; omega
    clear hg5 hg6 ho5 z1 F5 x0 x1 x2 x3 x4 ho1 ho
    go_wp2_with fail
    go_loopw [0, 5] (fun b i wr => ∃ j : Nat, j ≤ t.attrs.length ∧ i = .int .i64 j ∧ Own wr B b (A0 ++ attrsM (t.attrs.take j)) ∧ Frp (MtB B) w1 wr) (fun _ i _ => t.attrs.length - (intOf i).toNat)
    case atStart => exact ⟨0, Nat.zero_le _, rfl, by simpa [attrsM] using ho6, F6⟩
    case round =>
      obtain ⟨j, hj, rfl, hr, hf⟩ := hrel
      have hBr : B ≤ wr.heap.size := Nat.le_trans hBw1 hf.size
      by_cases hjl : j < t.attrs.length
      · have hst : attrsM (t.attrs.take (j + 1)) = attrsM (t.attrs.take j) ++ attrM t.attrs[j] := flatL_take attrM t.attrs j hjl
        have hle : (attrsM (t.attrs.take (j + 1))).length ≤ (attrsM t.attrs).length := flatL_le attrM t.attrs (j + 1)
        obtain ⟨pb, poff, rfl, hpl, hun, _, C, hC, hcell, hra⟩ := hd.at hjl
        clear hun
        obtain ⟨x, hx⟩ : ∃ x, x = t.attrs[j] := ⟨_, rfl⟩
        rw [← hx] at hra hst
        obtain ⟨y0, y1, rfl, hy0, hy1⟩ := hra
        have q0 := hcell 0 (by omega)
        have q1 := hcell 1 (by omega)
        simp only [List.getElem?_cons_zero, List.getElem?_cons_succ, Nat.add_zero] at q0 q1
        obtain ⟨s0, g0, rfl, _, _⟩ := hy0.shape
        obtain ⟨s1, g1, rfl, _, _⟩ := hy1.shape
        obtain ⟨L, hL⟩ : ∃ L, L = A0 ++ attrsM (t.attrs.take j) := ⟨_, rfl⟩
        have HL := hide (show A0 ++ attrsM (t.attrs.take (j + 1)) = L ++ [32] ++ x.1 ++ [61, 34] ++ say true x.2 ++ [34] by rw [hst, hL]; simp [attrM])
        have hll : L.length + 4 + x.1.length + (say true x.2).length ≤ 100000000 := by
          rw [hst] at hle
          rw [hL]
          simp only [List.length_append, attrM, List.length_cons, List.length_nil] at hle ⊢
          omega
        rw [← hL] at hr
        have HR := hide hr
        have hjl' : (j : Int) < (t.attrs.length : Int) := by omega
        have hj0 : (0 : Int) ≤ (j : Int) := by omega
        have c3 : wr.cell? ⟨S, 3, none⟩ = some (.slice (some ⟨pb, poff, none⟩) t.attrs.length cd) := (l1.frp hf (node_not _ _ _)).cell 3
        have u0 : wr.cell? ⟨pb, poff + j * 2, none⟩ = some (.slice s0 x.1.length g0) := ((unhide HW wr hf).cell (p := ⟨pb, poff + j * 2, none⟩) hpl).trans q0
        have hBz : Below wr.heap.size wr (wr.alloc (.cells #[.int .u8 32] 5)).drew := ((Below.refl _ _).alloc (Nat.le_refl _) _).drew
        have Fz := hf.trans (Frp.ofBelow hBz _)
        have z3 : (wr.alloc (.cells #[.int .u8 32] 5)).drew.cell? ⟨S, 3, none⟩ = some (.slice (some ⟨pb, poff, none⟩) t.attrs.length cd) := (l1.frp Fz (node_not _ _ _)).cell 3
        have z0 : (wr.alloc (.cells #[.int .u8 32] 5)).drew.cell? ⟨pb, poff + j * 2, none⟩ = some (.slice s0 x.1.length g0) := ((unhide HW _ Fz).cell (p := ⟨pb, poff + j * 2, none⟩) hpl).trans q0
        clear hr hst hle hx hL hcell
        go_wp2_with fail
        go_region_held3 (fun w' => w'.cell? ⟨S, 3, none⟩ = some (.slice (some ⟨pb, poff, none⟩) t.attrs.length cd) ∧ w'.cell? ⟨pb, poff + j * 2, none⟩ = some (.slice s0 x.1.length g0))
          (first | exact ⟨by assumption, by assumption⟩ | simp [*])
          (first
            | (refine step_app rfl (.tmp 27) (.tmp 28) rfl B _ L (by rfl) ((unhide HR).alloc _) _ [32] (by rfl) (byt_one wr 32 (by omega) (by omega)) (by simp; omega) (by simp; omega) ?_; intro v2 w2 ho2 hg2; have F2 : Frp (MtB B) w1 w2 := Fz.trans (Frp.ofAppend ((unhide HR).alloc _) hg2); have c3 : w2.cell? ⟨S, 3, none⟩ = some (.slice (some ⟨pb, poff, none⟩) t.attrs.length cd) := (l1.frp F2 (node_not _ _ _)).cell 3; have u0 : w2.cell? ⟨pb, poff + j * 2, none⟩ = some (.slice s0 x.1.length g0) := ((unhide HW _ F2).cell (p := ⟨pb, poff + j * 2, none⟩) hpl).trans q0)
            | (refine step_app rfl (.tmp 29) (.tmp 35) rfl B _ (L ++ [32]) (by rfl) ho2 _ x.1 (by rfl) (hy0.keep (unhide HW _ F2)) (by simp; omega) (Nat.le_trans hBw1 F2.size) ?_; intro v3 w3 ho3 hg3; have F3 : Frp (MtB B) w1 w3 := F2.trans (Frp.ofAppend ho2 hg3); have c3 : w3.cell? ⟨S, 3, none⟩ = some (.slice (some ⟨pb, poff, none⟩) t.attrs.length cd) := (l1.frp F3 (node_not _ _ _)).cell 3; have u0 : w3.cell? ⟨pb, poff + j * 2, none⟩ = some (.slice s0 x.1.length g0) := ((unhide HW _ F3).cell (p := ⟨pb, poff + j * 2, none⟩) hpl).trans q0)
            | (refine step_apps rfl (.tmp 36) (.const (.string ⟨#[61, 34]⟩)) rfl B _ (L ++ [32] ++ x.1) (by rfl) ho3 ⟨#[61, 34]⟩ [61, 34] (by rfl) rfl okB_eq (by simp; omega) (Nat.le_trans hBw1 F3.size) ?_; intro v4 w4 ho4 hg4; have F4 : Frp (MtB B) w1 w4 := F3.trans (Frp.ofAppend ho3 hg4); have c3 : w4.cell? ⟨S, 3, none⟩ = some (.slice (some ⟨pb, poff, none⟩) t.attrs.length cd) := (l1.frp F4 (node_not _ _ _)).cell 3; have u0 : w4.cell? ⟨pb, poff + j * 2, none⟩ = some (.slice s0 x.1.length g0) := ((unhide HW _ F4).cell (p := ⟨pb, poff + j * 2, none⟩) hpl).trans q0))
        have u1 : w4.cell? ⟨pb, poff + j * 2 + 1, none⟩ = some (.slice s1 x.2.length g1) := ((unhide HW _ F4).cell (p := ⟨pb, poff + j * 2 + 1, none⟩) hpl).trans q1
        obtain ⟨L4, hL4⟩ : ∃ L4, L4 = L ++ [32] ++ x.1 ++ [61, 34] := ⟨_, rfl⟩
        have hl4 : L4.length + (say true x.2).length + 1 ≤ 100000000 := by rw [hL4]; simp only [List.length_append, List.length_cons, List.length_nil]; omega
        rw [← hL4] at ho4 HL
        have HO4 := hide ho4
        clear ho2 ho3 ho4 hg2 hg3 hg4 hL4 z3 z0 hll
        go_wp2_with fail
        refine (sayS_any w0 _ B _ _ L4 x.2 true (Nat.le_trans hBw1 F4.size) (unhide HO4) hy1 (unhide HW _ F4) h0 (by omega)).mono ?_
        rintro e w5 ⟨v5, rfl, ho5, F5⟩
        have F5' := F4.trans F5
        have hB5 : B ≤ w5.heap.size := Nat.le_trans hBw1 F5'.size
        have HO5 := hide ho5
        have hl5 : (L4 ++ say true x.2).length + 1 ≤ 100000000 := by rw [List.length_append]; omega
        generalize L4 ++ say true x.2 = L5 at *
        clear ho5 c3 u0 u1
        go_wp2_with (at_builtin; (refine wpList_app rfl _ _ rfl B _ L5 rfl ((unhide HO5).alloc _) _ [34] rfl (byt_one w5 34 (by omega) (by omega)) (by first | omega | (simp; omega)) (by first | exact hB5 | (simp; omega)) ?_))
        intro v7 w7 ho7 hg7
        have F7 : Frp (MtB B) w1 w7 := (F5'.trans (Frp.ofBelow ((Below.refl _ _).alloc (Nat.le_refl _) _) _)).trans (Frp.ofAppend ((unhide HO5).alloc _) hg7)
        have HO := hide (show Own w7 B v7 (A0 ++ attrsM (t.attrs.take (j + 1))) by rw [unhide HL]; exact ho7)
        clear ho7 hg7
        go_wp2_with fail
        go_roundw
        case rel => exact ⟨j + 1, by omega, by go_num, unhide HO, F7⟩
        case measure => simp [intOf]; omega
      · have hje : j = t.attrs.length := by omega
        subst hje
        rw [List.take_length] at hr
        have c3 : wr.cell? ⟨S, 3, none⟩ = some (.slice ad t.attrs.length cd) := (l1.frp hf (node_not _ _ _)).cell 3
        obtain ⟨A1, hA1⟩ : ∃ A1, A1 = A0 ++ attrsM t.attrs := ⟨_, rfl⟩
        rw [← hA1] at hr
        have hl1 : A1.length + 1 ≤ 100000000 := by rw [hA1, List.length_append]; omega
        have HR := hide hr
        have HA := hide (show l ++ [60] ++ t.name ++ attrsM t.attrs ++ [62] = A1 ++ [62] by rw [hA1, hA0])
        clear hr hd hA1 hA0
        go_wp2_with (at_builtin; (refine wpList_app rfl _ _ rfl B _ A1 rfl ((unhide HR).alloc _) _ [62] rfl (byt_one wr 62 (by omega) (by omega)) (by first | omega | (simp; omega)) (by first | exact hBr | (simp; omega)) ?_))
        intro v7 w7 ho7 hg7
        have F7 : Frp (MtB B) w1 w7 := (hf.trans (Frp.ofBelow ((Below.refl _ _).alloc (Nat.le_refl _) _) _)).trans (Frp.ofAppend ((unhide HR).alloc _) hg7)
        obtain ⟨A2, hA2⟩ : ∃ A2, A2 = A1 ++ [62] := ⟨_, rfl⟩
        rw [← hA2] at ho7
        have eA : l ++ [60] ++ t.name ++ attrsM t.attrs ++ [62] = A2 := (unhide HA).trans hA2.symm
        obtain ⟨x0, x1, x2, x3, x4⟩ := (l1.frp F7 (node_not _ _ _)).five
        have HO7 := hide ho7
        clear hg7 ho7 c3
        by_cases hv : voidB t.name = true
        · have HE := hide (show l ++ ([60] ++ t.name ++ attrsM t.attrs ++ [62] ++ (if voidB t.name = true then [] else (t.kids.map (mkup n)).flatten ++ [60, 47] ++ t.name ++ [62])) = A2 by rw [if_pos hv, ← eA]; simp)
          have HV := hide ((voidB_iff _).1 hv)
          have HE2 := hide ((unhide HG).trans (unhide HE))
          clear hv hA2 eA hlen HE HA HG
          go_wp2_with fail
          refine (voidS_yes _ _ t.name (hb.keep (unhide HW _ F7)) (unhide HV)).mono ?_
          rintro e w8 ⟨rfl, rfl⟩
          obtain ⟨a8, c8, hv8, _, _⟩ := (unhide HO7).byt.shape
          subst hv8
          go_wp2_with fail
          go_ret
          exact ⟨_, rfl, by rw [unhide HE2]; exact unhide HO7, F1.trans F7⟩
        · have HE := hide (show l ++ ([60] ++ t.name ++ attrsM t.attrs ++ [62] ++ (if voidB t.name = true then [] else (t.kids.map (mkup n)).flatten ++ [60, 47] ++ t.name ++ [62])) = A2 ++ (t.kids.map (mkup n)).flatten ++ [60, 47] ++ t.name ++ [62] by rw [if_neg hv, ← eA]; simp)
          have HV := hide (fun h => hv ((voidB_iff _).2 h))
          have HE2 := hide ((unhide HG).trans (unhide HE))
          have hlK : A2.length + (t.kids.map (mkup n)).flatten.length + 3 + t.name.length ≤ 100000000 := by
            rw [if_neg hv] at hlen
            rw [← eA]
            simp only [List.length_append, List.length_cons, List.length_nil] at hlen ⊢
            omega
          clear hv hA2 eA hlen HE HA HG
          go_wp2_with fail
          refine (voidS_no _ _ t.name (hb.keep (unhide HW _ F7)) (unhide HV)).mono ?_
          rintro e w8 ⟨rfl, rfl⟩
          go_wp2_with fail
          go_loopw [0, 6] (fun b i wr => ∃ j : Nat, j ≤ t.kids.length ∧ i = .int .i64 j ∧ Own wr B b (A2 ++ ((t.kids.take j).map (mkup n)).flatten) ∧ Frp (MtB B) w1 wr) (fun _ i _ => t.kids.length - (intOf i).toNat)
          case atStart => exact ⟨0, Nat.zero_le _, rfl, by simpa using (unhide HO7), F7⟩
          case round =>
            clear x0 x1 x2 x3 x4 HO7 F7 hf HR
            obtain ⟨j, hj, rfl, hr, hf⟩ := hrel
            have hBr : B ≤ wr.heap.size := Nat.le_trans hBw1 hf.size
            by_cases hjl : j < t.kids.length
            · have hst := flatL_take (mkup n) t.kids j hjl
              have hle := flatL_le (mkup n) t.kids (j + 1)
              obtain ⟨pb, poff, rfl, hpl, hun, _, hC⟩ := he.at hjl
              clear hun
              obtain ⟨c0, c1, c2, c3, c4, e0, e1, e2, e3, e4, hx⟩ := five_of hC
              have hBx := unhide HW wr hf
              replace e0 := (hBx.cell (p := ⟨pb, poff + j * 5, none⟩) hpl).trans e0
              replace e1 := (hBx.cell (p := ⟨pb, poff + j * 5 + 1, none⟩) hpl).trans e1
              replace e2 := (hBx.cell (p := ⟨pb, poff + j * 5 + 2, none⟩) hpl).trans e2
              replace e3 := (hBx.cell (p := ⟨pb, poff + j * 5 + 3, none⟩) hpl).trans e3
              replace e4 := (hBx.cell (p := ⟨pb, poff + j * 5 + 4, none⟩) hpl).trans e4
              have x4 : wr.cell? ⟨S, 4, none⟩ = some (.slice (some ⟨pb, poff, none⟩) t.kids.length ce) := (l1.frp hf (node_not _ _ _)).cell 4
              have hjl' : (j : Int) < (t.kids.length : Int) := by omega
              have hl2 : (A2 ++ ((t.kids.take j).map (mkup n)).flatten).length + (mkup n t.kids[j]).length ≤ 100000000 := by
                rw [hst] at hle
                simp only [List.length_append] at hle ⊢
                omega
              have HST := hide (show A2 ++ ((t.kids.take (j + 1)).map (mkup n)).flatten = A2 ++ ((t.kids.take j).map (mkup n)).flatten ++ mkup n t.kids[j] by rw [hst, List.append_assoc])
              generalize A2 ++ ((t.kids.take j).map (mkup n)).flatten = L at *
              have HR := hide hr
              clear hr hst hle hC
              go_wp2_with fail
              refine (H w0 wr B _ L c0 c1 c2 c3 c4 t.kids[j] hx hBx h0 hBr (unhide HR) hl2).mono ?_
              rintro e w9 ⟨v9, rfl, ho9, F9⟩
              have F9' := hf.trans F9
              have HO := hide (show Own w9 B v9 (A2 ++ ((t.kids.take (j + 1)).map (mkup n)).flatten) by rw [unhide HST]; exact ho9)
              clear ho9 e0 e1 e2 e3 e4 x4
              go_wp2_with fail
              go_roundw
              case rel => exact ⟨j + 1, by omega, by go_num, unhide HO, F9'⟩
              case measure => simp [intOf]; omega
            · have hje : j = t.kids.length := by omega
              subst hje
              rw [List.take_length] at hr
              have x4 : wr.cell? ⟨S, 4, none⟩ = some (.slice ae t.kids.length ce) := (l1.frp hf (node_not _ _ _)).cell 4
              have x1 : wr.cell? ⟨S, 1, none⟩ = some (.slice ab t.name.length cb) := (l1.frp hf (node_not _ _ _)).cell 1
              have hl2 : (A2 ++ (t.kids.map (mkup n)).flatten).length + 3 + t.name.length ≤ 100000000 := by rw [List.length_append]; omega
              have HE3 := unhide HE2
              clear HE2
              generalize A2 ++ (t.kids.map (mkup n)).flatten = L at *
              have HE2 := hide HE3
              clear HE3
              have HR := hide hr
              clear hr he
              go_wp2_with fail
              have Fd : Frp (MtB B) w1 wr.drew := hf.trans (Frp.ofBelow ((Below.refl _ _).drew) _)
              have xd : wr.drew.cell? ⟨S, 1, none⟩ = some (.slice ab t.name.length cb) := (l1.frp Fd (node_not _ _ _)).cell 1
              have Fz : Frp (MtB B) w1 (wr.alloc (.cells #[.int .u8 62] 5)).drew := hf.trans (Frp.ofBelow (((Below.refl _ _).alloc (Nat.le_refl _) _).drew) _)
              have z1 : (wr.alloc (.cells #[.int .u8 62] 5)).drew.cell? ⟨S, 1, none⟩ = some (.slice ab t.name.length cb) := (l1.frp Fz (node_not _ _ _)).cell 1
              have K4 : Loc (wr.alloc (.cells #[.int .u8 62] 5)).drew wr.heap.size #[.int .u8 62] 5 := Loc.made wr _ _
              have hne := own_old (unhide HR)
              have hBz : B ≤ (wr.alloc (.cells #[.int .u8 62] 5)).drew.heap.size := Nat.le_trans hBw1 Fz.size
              go_region_held3 (fun w' => w'.cell? ⟨S, 1, none⟩ = some (.slice ab t.name.length cb))
                (first | assumption | simp [*])
                (first
                  | (refine step_apps rfl (.tmp 69) (.const (.string ⟨#[60, 47]⟩)) rfl B _ L (by rfl) (unhide HR) ⟨#[60, 47]⟩ [60, 47] (by rfl) rfl okB_end (by simp; omega) hBr ?_; intro v5 w5 ho5 hg5; have F5 : Frp (MtB B) w1 w5 := Fd.trans (Frp.ofAppend (show Own wr.drew B _ L from unhide HR) hg5); have x1 : w5.cell? ⟨S, 1, none⟩ = some (.slice ab t.name.length cb) := (l1.frp F5 (node_not _ _ _)).cell 1; have F5z : Frp (MtB B) w1 (w5.alloc (.cells #[.int .u8 62] 5)) := F5.trans (Frp.ofBelow (((Below.refl _ _).alloc (Nat.le_refl _) _)) _); have z1 : (w5.alloc (.cells #[.int .u8 62] 5)).cell? ⟨S, 1, none⟩ = some (.slice ab t.name.length cb) := (l1.frp F5z (node_not _ _ _)).cell 1)
                  | (refine step_apps rfl (.tmp 69) (.const (.string ⟨#[60, 47]⟩)) rfl B _ L (by rfl) ((unhide HR).alloc _) ⟨#[60, 47]⟩ [60, 47] (by rfl) rfl okB_end (by simp; omega) hBz ?_; intro v5 w5 ho5 hg5; have F5 : Frp (MtB B) w1 w5 := Fz.trans (Frp.ofAppend ((unhide HR).alloc _) hg5); have x1 : w5.cell? ⟨S, 1, none⟩ = some (.slice ab t.name.length cb) := (l1.frp F5 (node_not _ _ _)).cell 1; have K5 := loc_grown K4 hg5 hne)
                  | (refine step_app rfl (.tmp 70) (.tmp 72) rfl B _ (L ++ [60, 47]) (by rfl) ho5 _ t.name (by rfl) (hb.keep (unhide HW _ F5)) (by simp; omega) (Nat.le_trans hBw1 F5.size) ?_; intro v6 w6 ho6 hg6; have F6 : Frp (MtB B) w1 w6 := F5.trans (Frp.ofAppend ho5 hg6); have x1 : w6.cell? ⟨S, 1, none⟩ = some (.slice ab t.name.length cb) := (l1.frp F6 (node_not _ _ _)).cell 1; have K6 := loc_grown K5 hg6 (own_far ho5 (by simp) K5))
                  | (refine step_app rfl (.tmp 70) (.tmp 72) rfl B _ (L ++ [60, 47]) (by rfl) ho5 _ t.name (by rfl) (hb.keep (unhide HW _ F5)) (by simp; omega) (Nat.le_trans hBw1 F5.size) ?_; intro v6 w6 ho6 hg6; have F6 : Frp (MtB B) w1 w6 := F5.trans (Frp.ofAppend ho5 hg6); have x1 : w6.cell? ⟨S, 1, none⟩ = some (.slice ab t.name.length cb) := (l1.frp F6 (node_not _ _ _)).cell 1; have z1 : (w6.alloc (.cells #[.int .u8 62] 5)).cell? ⟨S, 1, none⟩ = some (.slice ab t.name.length cb) := ((l1.frp F6 (node_not _ _ _)).alloc _).cell 1)
                  | (refine step_app rfl (.tmp 70) (.tmp 72) rfl B _ (L ++ [60, 47]) (by rfl) (ho5.alloc _) _ t.name (by rfl) (hb.keep (unhide HW _ F5z)) (by simp; omega) (Nat.le_trans hBw1 F5z.size) ?_; intro v6 w6 ho6 hg6; have F6 : Frp (MtB B) w1 w6 := F5z.trans (Frp.ofAppend (ho5.alloc _) hg6); have x1 : w6.cell? ⟨S, 1, none⟩ = some (.slice ab t.name.length cb) := (l1.frp F6 (node_not _ _ _)).cell 1; have K6 := loc_grown (Loc.made w5 #[.int .u8 62] 5) hg6 (own_old ho5))
                  | (refine step_app rfl (.tmp 73) (.tmp 74) rfl B _ (L ++ [60, 47] ++ t.name) (by rfl) ho6 _ [62] (by rfl) (loc_byt K6 (by omega) (by omega)) (by simp; omega) (Nat.le_trans hBw1 F6.size) ?_; intro v7 w7 ho7 hg7; have F7 : Frp (MtB B) w1 w7 := F6.trans (Frp.ofAppend ho6 hg7); have x1 : w7.cell? ⟨S, 1, none⟩ = some (.slice ab t.name.length cb) := (l1.frp F7 (node_not _ _ _)).cell 1)
                  | (refine step_app rfl (.tmp 73) (.tmp 74) rfl B _ (L ++ [60, 47] ++ t.name) (by rfl) (ho6.alloc _) _ [62] (by rfl) (byt_one w6 62 (by omega) (by omega)) (by simp; omega) (by have := Nat.le_trans hBw1 F6.size; simp; omega) ?_; intro v7 w7 ho7 hg7; have F7 : Frp (MtB B) w1 w7 := (F6.trans (Frp.ofBelow (((Below.refl w6.heap.size w6).alloc (Nat.le_refl _) _)) _)).trans (Frp.ofAppend (ho6.alloc _) hg7); have x1 : w7.cell? ⟨S, 1, none⟩ = some (.slice ab t.name.length cb) := (l1.frp F7 (node_not _ _ _)).cell 1))
              all_goals
                rw [← unhide HE2] at ho7
                obtain ⟨a7, c7, hv7, _, _⟩ := ho7.byt.shape
                subst hv7
                go_wp2_with fail
                go_ret
                exact ⟨_, rfl, ho7, F1.trans F7⟩

theorem mk_any : ∀ n, MkSaid n
  | 0 => fun w0 w B v l a b c d e t hrd => absurd hrd (by unfold RdNode; exact id)
  | n + 1 => mk_succ n (mk_any n)

end Go.Proofs.Yteioihjgjbjmjaa
