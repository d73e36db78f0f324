/- Own texts joined: MkupX, RowM, OwnM, Push, Cur, New0, DrawI, Word, RegI, L2at, VoidE. -/
import Derived.Test.YtaoodcielfabdaaGreatJa
import Derived.Laws.IdiomStrings
import Derived.ArgAppend
import Derived.Deep.AppendLies
import Derived.Deep.QuietTactic
import Derived.BigQuiet
import Derived.OrdersIn
import Derived.OwnWalkIn
import Derived.WalkLawsBesides
import Derived.Deep.RegionHeld3

/- spec.l3markup, where the row that grows is older than the tree. -/
namespace Go.Proofs.YtaoodcielfabdaaGreat
open Go.RowKit
set_option linter.unusedVariables false
set_option maxRecDepth 100000

def MkSaidX (n : Nat) : Prop := ∀ (w0 w : World) (B : Bd) (v : Value) (l : List Int) (a b c d e : Value) (t : Tr n), RdNode n w0 [a, b, c, d, e] t → Lk B w0 w → w0.heap.size ≤ B.b → B.b ≤ w.heap.size → OwnX w B v l → l.length + (mkup n t).length ≤ 100000000 →
    Calls Tryz.prog 123 #[v, .agg #[a, b, c, d, e]] w fun e w' => ∃ v', e = .returned v' ∧ OwnX w' B v' (l ++ mkup n t) ∧ Frp (MtX B) w w'

theorem node_notX (B : Bd) (g : Nat) (cs : Array Value) : ¬ MtX B g (.cells cs 26 (0, 0)) := by
  rintro ⟨_, cs', h⟩
  injection h with _ h2
  revert h2
  decide
theorem own_farX {w : World} {B : Bd} {K : Nat} {v : Value} {l : List Int} {x : Value} (ho : OwnX w B v l) (h2 : 2 ≤ l.length) (hK : Loc w K #[x] 5) : v.ownBlock ≠ some K := own_far ho.1 h2 hK
theorem own_oldX {w : World} {B : Bd} {v : Value} {l : List Int} (ho : OwnX w B v l) : v.ownBlock ≠ some w.heap.size := own_old ho.1
set_option maxHeartbeats 6400000 in
theorem mk_succX (n : Nat) (H : MkSaidX n) : MkSaidX (n + 1) := by
  intro w0 w B v l a b c d e t hrd hW h0 hB ho hlen
  obtain ⟨_, _, _, _, e0, k1, k2, hb, hc, hd, he⟩ := hrd
  simp only [List.cons.injEq, and_true] at e0
  obtain ⟨rfl, rfl, rfl, rfl, rfl⟩ := e0
  obtain ⟨ab, cb, rfl, _, _⟩ := hb.shape
  obtain ⟨ac, cc, rfl, _, _⟩ := hc.shape
  obtain ⟨ad, cd, rfl, _, _⟩ := Elems.shape hd
  obtain ⟨ae, ce, rfl, _, _⟩ := Elems.shape he
  obtain ⟨av, cv, rfl, _, _⟩ := ho.byt.shape
  have hB1 : Below w.heap.size w (w.alloc (.cells #[.int .i64 t.kind, .slice ab t.name.length cb, .slice ac t.text.length cc, .slice ad t.attrs.length cd, .slice ae t.kids.length ce] 26)) := (Below.refl _ _).alloc (Nat.le_refl _) _
  have l1 := Loc.made w #[.int .i64 t.kind, .slice ab t.name.length cb, .slice ac t.text.length cc, .slice ad t.attrs.length cd, .slice ae t.kids.length ce] 26
  have F1 : Frp (MtX B) w _ := Frp.ofBelow hB1 (MtX B)
  have ho1 := ho.keep hB1
  have hW1 := hW.below hB1
  have hBw1 : B.b ≤ (w.alloc (.cells #[.int .i64 t.kind, .slice ab t.name.length cb, .slice ac t.text.length cc, .slice ad t.attrs.length cd, .slice ae t.kids.length ce] 26)).heap.size := Nat.le_trans hB hB1.size
  have hmk := mkup_succ n t
  by_cases hz : t.kind = 1
  · have dz : (t.kind == 1) = true := by simpa using hz
    rw [if_pos hz] at hmk
    rw [hmk] at hlen ⊢
    clear hz hmk
    go_enter Tryz.func123, Tryz.ntmps123
    go_wp2_with fail
    refine (sayX_any w0 _ B _ _ l t.text false hBw1 ho1 hc hW1 h0 hlen).mono ?_
    rintro e w2 ⟨v2, rfl, ho2, F2⟩
    obtain ⟨a2, c2, hv2, _, _⟩ := ho2.byt.shape
    subst hv2
    generalize (l ++ say false t.text).length = n2 at *
    go_wp2_with fail
    go_ret
    exact ⟨_, rfl, ho2, F1.trans F2⟩
  · have dz : (t.kind == 1) = false := by simpa using hz
    rw [if_neg hz] at hmk
    rw [hmk] at hlen ⊢
    obtain ⟨G, hG⟩ : ∃ G, G = l ++ ([60] ++ t.name ++ attrsM t.attrs ++ [62] ++ (if voidB t.name = true then [] else (t.kids.map (mkup n)).flatten ++ [60, 47] ++ t.name ++ [62])) := ⟨_, rfl⟩
    rw [← hG]
    have HG := hide hG
    clear hz hmk hG
    obtain ⟨x0, x1, x2, x3, x4⟩ := l1.five
    go_enter Tryz.func123, Tryz.ntmps123
    go_wp2_with fail
    generalize (w.alloc (.cells #[.int .i64 t.kind, .slice ab t.name.length cb, .slice ac t.text.length cc, .slice ad t.attrs.length cd, .slice ae t.kids.length ce] 26)) = w1 at *
    generalize hS : w.heap.size = S at *
    have hln : l.length + 1 + t.name.length ≤ 100000000 := by simp only [List.length_append, List.length_cons, List.length_nil] at hlen; omega
    have z1 : (w1.alloc (.cells #[.int .u8 60] 5)).drew.cell? ⟨S, 1, none⟩ = some (.slice ab t.name.length cb) := (l1.alloc _).cell 1
    go_region_held3 (fun w' => w'.cell? ⟨S, 1, none⟩ = some (.slice ab t.name.length cb))
      (first | assumption | simp [*])
      (first
        | (refine step_appX rfl (.tmp 14) (.tmp 15) rfl B _ l (by rfl) (ho1.alloc _) _ [60] (by rfl) (byt_one w1 60 (by omega) (by omega)) (by simp; omega) (by simp; omega) ?_; intro v5 w5 ho5 hg5; have F5 : Frp (MtX B) w1 w5 := (Frp.ofBelow (((Below.refl w1.heap.size w1).alloc (Nat.le_refl _) _).drew) _).trans (Frp.ofAppX (ho1.alloc _) hg5); obtain ⟨x0, x1, x2, x3, x4⟩ := (l1.frp F5 (node_notX _ _ _)).five)
        | (refine step_appX rfl (.tmp 16) (.tmp 18) rfl B _ (l ++ [60]) (by rfl) ho5 _ t.name (by rfl) (hb.lk (hW1.frp F5)) (by simp; omega) (Nat.le_trans hBw1 F5.size) ?_; intro v6 w6 ho6 hg6; have F6 : Frp (MtX B) w1 w6 := F5.trans (Frp.ofAppX ho5 hg6); obtain ⟨x0, x1, x2, x3, x4⟩ := (l1.frp F6 (node_notX _ _ _)).five))
    have HW := hide (fun (W : World) (F : Frp (MtX B) w1 W) => hW1.frp F)
    have hmA : (t.attrs.length : Int) ≤ 9223372036854775807 := by have := hd.1; unfold maxLen at this; omega
    have hmK : (t.kids.length : Int) ≤ 9223372036854775807 := by have := he.1; unfold maxLen at this; omega
    obtain ⟨A0, hA0⟩ : ∃ A0, A0 = l ++ [60] ++ t.name := ⟨_, rfl⟩
    rw [← hA0] at ho6
    have hlA : A0.length + (attrsM t.attrs).length + 1 ≤ 100000000 := by
      simp only [List.length_append, List.length_cons, List.length_nil] at hlen
      rw [hA0]; simp only [List.length_append, List.length_cons, List.length_nil]; omega
    clear hg5 hg6 ho5 z1 F5 x0 x1 x2 x3 x4 ho1 ho
    go_wp2_with fail
    go_loopw [0, 5] (fun b i wr => ∃ j : Nat, j ≤ t.attrs.length ∧ i = .int .i64 j ∧ OwnX wr B b (A0 ++ attrsM (t.attrs.take j)) ∧ Frp (MtX B) w1 wr) (fun _ i _ => t.attrs.length - (intOf i).toNat)
    case atStart => exact ⟨0, Nat.zero_le _, rfl, by simpa [attrsM] using ho6, F6⟩
    case round =>
      obtain ⟨j, hj, rfl, hr, hf⟩ := hrel
      have hBr : B.b ≤ wr.heap.size := Nat.le_trans hBw1 hf.size
      by_cases hjl : j < t.attrs.length
      · have hst : attrsM (t.attrs.take (j + 1)) = attrsM (t.attrs.take j) ++ attrM t.attrs[j] := flatL_take attrM t.attrs j hjl
        have hle : (attrsM (t.attrs.take (j + 1))).length ≤ (attrsM t.attrs).length := flatL_le attrM t.attrs (j + 1)
        obtain ⟨pb, poff, rfl, hpl, hun, _, C, hC, hcell, hra⟩ := hd.at hjl
        clear hun
        obtain ⟨x, hx⟩ : ∃ x, x = t.attrs[j] := ⟨_, rfl⟩
        rw [← hx] at hra hst
        obtain ⟨y0, y1, rfl, hy0, hy1⟩ := hra
        have q0 := hcell 0 (by omega)
        have q1 := hcell 1 (by omega)
        simp only [List.getElem?_cons_zero, List.getElem?_cons_succ, Nat.add_zero] at q0 q1
        obtain ⟨s0, g0, rfl, _, _⟩ := hy0.shape
        obtain ⟨s1, g1, rfl, _, _⟩ := hy1.shape
        obtain ⟨L, hL⟩ : ∃ L, L = A0 ++ attrsM (t.attrs.take j) := ⟨_, rfl⟩
        have HL := hide (show A0 ++ attrsM (t.attrs.take (j + 1)) = L ++ [32] ++ x.1 ++ [61, 34] ++ say true x.2 ++ [34] by rw [hst, hL]; simp [attrM])
        have hll : L.length + 4 + x.1.length + (say true x.2).length ≤ 100000000 := by
          rw [hst] at hle
          rw [hL]
          simp only [List.length_append, attrM, List.length_cons, List.length_nil] at hle ⊢
          omega
        rw [← hL] at hr
        have HR := hide hr
        have hjl' : (j : Int) < (t.attrs.length : Int) := by omega
        have hj0 : (0 : Int) ≤ (j : Int) := by omega
        have c3 : wr.cell? ⟨S, 3, none⟩ = some (.slice (some ⟨pb, poff, none⟩) t.attrs.length cd) := (l1.frp hf (node_notX _ _ _)).cell 3
        have u0 : wr.cell? ⟨pb, poff + j * 2, none⟩ = some (.slice s0 x.1.length g0) := (unhide HW wr hf).cell q0
        have hBz : Below wr.heap.size wr (wr.alloc (.cells #[.int .u8 32] 5)).drew := ((Below.refl _ _).alloc (Nat.le_refl _) _).drew
        have Fz := hf.trans (Frp.ofBelow hBz _)
        have z3 : (wr.alloc (.cells #[.int .u8 32] 5)).drew.cell? ⟨S, 3, none⟩ = some (.slice (some ⟨pb, poff, none⟩) t.attrs.length cd) := (l1.frp Fz (node_notX _ _ _)).cell 3
        have z0 : (wr.alloc (.cells #[.int .u8 32] 5)).drew.cell? ⟨pb, poff + j * 2, none⟩ = some (.slice s0 x.1.length g0) := (unhide HW _ Fz).cell q0
        clear hr hst hle hx hL hcell
        go_wp2_with fail
        go_region_held3 (fun w' => w'.cell? ⟨S, 3, none⟩ = some (.slice (some ⟨pb, poff, none⟩) t.attrs.length cd) ∧ w'.cell? ⟨pb, poff + j * 2, none⟩ = some (.slice s0 x.1.length g0))
          (first | exact ⟨by assumption, by assumption⟩ | simp [*])
          (first
            | (refine step_appX rfl (.tmp 27) (.tmp 28) rfl B _ L (by rfl) ((unhide HR).alloc _) _ [32] (by rfl) (byt_one wr 32 (by omega) (by omega)) (by simp; omega) (by simp; omega) ?_; intro v2 w2 ho2 hg2; have F2 : Frp (MtX B) w1 w2 := Fz.trans (Frp.ofAppX ((unhide HR).alloc _) hg2); have c3 : w2.cell? ⟨S, 3, none⟩ = some (.slice (some ⟨pb, poff, none⟩) t.attrs.length cd) := (l1.frp F2 (node_notX _ _ _)).cell 3; have u0 : w2.cell? ⟨pb, poff + j * 2, none⟩ = some (.slice s0 x.1.length g0) := (unhide HW _ F2).cell q0)
            | (refine step_appX rfl (.tmp 29) (.tmp 35) rfl B _ (L ++ [32]) (by rfl) ho2 _ x.1 (by rfl) (hy0.lk (unhide HW _ F2)) (by simp; omega) (Nat.le_trans hBw1 F2.size) ?_; intro v3 w3 ho3 hg3; have F3 : Frp (MtX B) w1 w3 := F2.trans (Frp.ofAppX ho2 hg3); have c3 : w3.cell? ⟨S, 3, none⟩ = some (.slice (some ⟨pb, poff, none⟩) t.attrs.length cd) := (l1.frp F3 (node_notX _ _ _)).cell 3; have u0 : w3.cell? ⟨pb, poff + j * 2, none⟩ = some (.slice s0 x.1.length g0) := (unhide HW _ F3).cell q0)
            | (refine step_appsX rfl (.tmp 36) (.const (.string ⟨#[61, 34]⟩)) rfl B _ (L ++ [32] ++ x.1) (by rfl) ho3 ⟨#[61, 34]⟩ [61, 34] (by rfl) rfl okB_eq (by simp; omega) (Nat.le_trans hBw1 F3.size) ?_; intro v4 w4 ho4 hg4; have F4 : Frp (MtX B) w1 w4 := F3.trans (Frp.ofAppX ho3 hg4); have c3 : w4.cell? ⟨S, 3, none⟩ = some (.slice (some ⟨pb, poff, none⟩) t.attrs.length cd) := (l1.frp F4 (node_notX _ _ _)).cell 3; have u0 : w4.cell? ⟨pb, poff + j * 2, none⟩ = some (.slice s0 x.1.length g0) := (unhide HW _ F4).cell q0))
        have u1 : w4.cell? ⟨pb, poff + j * 2 + 1, none⟩ = some (.slice s1 x.2.length g1) := (unhide HW _ F4).cell q1
        obtain ⟨L4, hL4⟩ : ∃ L4, L4 = L ++ [32] ++ x.1 ++ [61, 34] := ⟨_, rfl⟩
        have hl4 : L4.length + (say true x.2).length + 1 ≤ 100000000 := by rw [hL4]; simp only [List.length_append, List.length_cons, List.length_nil]; omega
        rw [← hL4] at ho4 HL
        have HO4 := hide ho4
        clear ho2 ho3 ho4 hg2 hg3 hg4 hL4 z3 z0 hll
        go_wp2_with fail
        refine (sayX_any w0 _ B _ _ L4 x.2 true (Nat.le_trans hBw1 F4.size) (unhide HO4) hy1 (unhide HW _ F4) h0 (by omega)).mono ?_
        rintro e w5 ⟨v5, rfl, ho5, F5⟩
        have F5' := F4.trans F5
        have hB5 : B.b ≤ w5.heap.size := Nat.le_trans hBw1 F5'.size
        have HO5 := hide ho5
        have hl5 : (L4 ++ say true x.2).length + 1 ≤ 100000000 := by rw [List.length_append]; omega
        generalize L4 ++ say true x.2 = L5 at *
        clear ho5 c3 u0 u1
        go_wp2_with (at_builtin; (refine wpList_appX rfl _ _ rfl B _ L5 rfl ((unhide HO5).alloc _) _ [34] rfl (byt_one w5 34 (by omega) (by omega)) (by first | omega | (simp; omega)) (by first | exact hB5 | (simp; omega)) ?_))
        intro v7 w7 ho7 hg7
        have F7 : Frp (MtX B) w1 w7 := (F5'.trans (Frp.ofBelow ((Below.refl _ _).alloc (Nat.le_refl _) _) _)).trans (Frp.ofAppX ((unhide HO5).alloc _) hg7)
        have HO := hide (show OwnX w7 B v7 (A0 ++ attrsM (t.attrs.take (j + 1))) by rw [unhide HL]; exact ho7)
        clear ho7 hg7
        go_wp2_with fail
        go_roundw
        case rel => exact ⟨j + 1, by omega, by go_num, unhide HO, F7⟩
        case measure => simp [intOf]; omega
      · have hje : j = t.attrs.length := by omega
        subst hje
        rw [List.take_length] at hr
        have c3 : wr.cell? ⟨S, 3, none⟩ = some (.slice ad t.attrs.length cd) := (l1.frp hf (node_notX _ _ _)).cell 3
        obtain ⟨A1, hA1⟩ : ∃ A1, A1 = A0 ++ attrsM t.attrs := ⟨_, rfl⟩
        rw [← hA1] at hr
        have hl1 : A1.length + 1 ≤ 100000000 := by rw [hA1, List.length_append]; omega
        have HR := hide hr
        have HA := hide (show l ++ [60] ++ t.name ++ attrsM t.attrs ++ [62] = A1 ++ [62] by rw [hA1, hA0])
        clear hr hd hA1 hA0
        go_wp2_with (at_builtin; (refine wpList_appX rfl _ _ rfl B _ A1 rfl ((unhide HR).alloc _) _ [62] rfl (byt_one wr 62 (by omega) (by omega)) (by first | omega | (simp; omega)) (by first | exact hBr | (simp; omega)) ?_))
        intro v7 w7 ho7 hg7
        have F7 : Frp (MtX B) w1 w7 := (hf.trans (Frp.ofBelow ((Below.refl _ _).alloc (Nat.le_refl _) _) _)).trans (Frp.ofAppX ((unhide HR).alloc _) hg7)
        obtain ⟨A2, hA2⟩ : ∃ A2, A2 = A1 ++ [62] := ⟨_, rfl⟩
        rw [← hA2] at ho7
        have eA : l ++ [60] ++ t.name ++ attrsM t.attrs ++ [62] = A2 := (unhide HA).trans hA2.symm
        obtain ⟨x0, x1, x2, x3, x4⟩ := (l1.frp F7 (node_notX _ _ _)).five
        have HO7 := hide ho7
        clear hg7 ho7 c3
        by_cases hv : voidB t.name = true
        · have HE := hide (show l ++ ([60] ++ t.name ++ attrsM t.attrs ++ [62] ++ (if voidB t.name = true then [] else (t.kids.map (mkup n)).flatten ++ [60, 47] ++ t.name ++ [62])) = A2 by rw [if_pos hv, ← eA]; simp)
          have HV := hide ((voidB_iff _).1 hv)
          have HE2 := hide ((unhide HG).trans (unhide HE))
          clear hv hA2 eA hlen HE HA HG
          go_wp2_with fail
          refine (voidS_yes _ _ t.name (hb.lk (unhide HW _ F7)) (unhide HV)).mono ?_
          rintro e w8 ⟨rfl, rfl⟩
          obtain ⟨a8, c8, hv8, _, _⟩ := (unhide HO7).byt.shape
          subst hv8
          go_wp2_with fail
          go_ret
          exact ⟨_, rfl, by rw [unhide HE2]; exact unhide HO7, F1.trans F7⟩
        · have HE := hide (show l ++ ([60] ++ t.name ++ attrsM t.attrs ++ [62] ++ (if voidB t.name = true then [] else (t.kids.map (mkup n)).flatten ++ [60, 47] ++ t.name ++ [62])) = A2 ++ (t.kids.map (mkup n)).flatten ++ [60, 47] ++ t.name ++ [62] by rw [if_neg hv, ← eA]; simp)
          have HV := hide (fun h => hv ((voidB_iff _).2 h))
          have HE2 := hide ((unhide HG).trans (unhide HE))
          have hlK : A2.length + (t.kids.map (mkup n)).flatten.length + 3 + t.name.length ≤ 100000000 := by
            rw [if_neg hv] at hlen
            rw [← eA]
            simp only [List.length_append, List.length_cons, List.length_nil] at hlen ⊢
            omega
          clear hv hA2 eA hlen HE HA HG
          go_wp2_with fail
          refine (voidS_no _ _ t.name (hb.lk (unhide HW _ F7)) (unhide HV)).mono ?_
          rintro e w8 ⟨rfl, rfl⟩
          go_wp2_with fail
          go_loopw [0, 6] (fun b i wr => ∃ j : Nat, j ≤ t.kids.length ∧ i = .int .i64 j ∧ OwnX wr B b (A2 ++ ((t.kids.take j).map (mkup n)).flatten) ∧ Frp (MtX B) w1 wr) (fun _ i _ => t.kids.length - (intOf i).toNat)
          case atStart => exact ⟨0, Nat.zero_le _, rfl, by simpa using (unhide HO7), F7⟩
          case round =>
            clear x0 x1 x2 x3 x4 HO7 F7 hf HR
            obtain ⟨j, hj, rfl, hr, hf⟩ := hrel
            have hBr : B.b ≤ wr.heap.size := Nat.le_trans hBw1 hf.size
            by_cases hjl : j < t.kids.length
            · have hst := flatL_take (mkup n) t.kids j hjl
              have hle := flatL_le (mkup n) t.kids (j + 1)
              obtain ⟨pb, poff, rfl, hpl, hun, _, hC⟩ := he.at hjl
              clear hun
              obtain ⟨c0, c1, c2, c3, c4, e0, e1, e2, e3, e4, hx⟩ := five_of hC
              have hBx := unhide HW wr hf
              replace e0 := hBx.cell e0
              replace e1 := hBx.cell e1
              replace e2 := hBx.cell e2
              replace e3 := hBx.cell e3
              replace e4 := hBx.cell e4
              have x4 : wr.cell? ⟨S, 4, none⟩ = some (.slice (some ⟨pb, poff, none⟩) t.kids.length ce) := (l1.frp hf (node_notX _ _ _)).cell 4
              have hjl' : (j : Int) < (t.kids.length : Int) := by omega
              have hl2 : (A2 ++ ((t.kids.take j).map (mkup n)).flatten).length + (mkup n t.kids[j]).length ≤ 100000000 := by
                rw [hst] at hle
                simp only [List.length_append] at hle ⊢
                omega
              have HST := hide (show A2 ++ ((t.kids.take (j + 1)).map (mkup n)).flatten = A2 ++ ((t.kids.take j).map (mkup n)).flatten ++ mkup n t.kids[j] by rw [hst, List.append_assoc])
              generalize A2 ++ ((t.kids.take j).map (mkup n)).flatten = L at *
              have HR := hide hr
              clear hr hst hle hC
              go_wp2_with fail
              refine (H w0 wr B _ L c0 c1 c2 c3 c4 t.kids[j] hx hBx h0 hBr (unhide HR) hl2).mono ?_
              rintro e w9 ⟨v9, rfl, ho9, F9⟩
              have F9' := hf.trans F9
              have HO := hide (show OwnX w9 B v9 (A2 ++ ((t.kids.take (j + 1)).map (mkup n)).flatten) by rw [unhide HST]; exact ho9)
              clear ho9 e0 e1 e2 e3 e4 x4
              go_wp2_with fail
              go_roundw
              case rel => exact ⟨j + 1, by omega, by go_num, unhide HO, F9'⟩
              case measure => simp [intOf]; omega
            · have hje : j = t.kids.length := by omega
              subst hje
              rw [List.take_length] at hr
              have x4 : wr.cell? ⟨S, 4, none⟩ = some (.slice ae t.kids.length ce) := (l1.frp hf (node_notX _ _ _)).cell 4
              have x1 : wr.cell? ⟨S, 1, none⟩ = some (.slice ab t.name.length cb) := (l1.frp hf (node_notX _ _ _)).cell 1
              have hl2 : (A2 ++ (t.kids.map (mkup n)).flatten).length + 3 + t.name.length ≤ 100000000 := by rw [List.length_append]; omega
              have HE3 := unhide HE2
              clear HE2
              generalize A2 ++ (t.kids.map (mkup n)).flatten = L at *
              have HE2 := hide HE3
              clear HE3
              have HR := hide hr
              clear hr he
              go_wp2_with fail
              have Fd : Frp (MtX B) w1 wr.drew := hf.trans (Frp.ofBelow ((Below.refl _ _).drew) _)
              have xd : wr.drew.cell? ⟨S, 1, none⟩ = some (.slice ab t.name.length cb) := (l1.frp Fd (node_notX _ _ _)).cell 1
              have Fz : Frp (MtX B) w1 (wr.alloc (.cells #[.int .u8 62] 5)).drew := hf.trans (Frp.ofBelow (((Below.refl _ _).alloc (Nat.le_refl _) _).drew) _)
              have z1 : (wr.alloc (.cells #[.int .u8 62] 5)).drew.cell? ⟨S, 1, none⟩ = some (.slice ab t.name.length cb) := (l1.frp Fz (node_notX _ _ _)).cell 1
              have K4 : Loc (wr.alloc (.cells #[.int .u8 62] 5)).drew wr.heap.size #[.int .u8 62] 5 := Loc.made wr _ _
              have hne := own_oldX (unhide HR)
              have hBz : B.b ≤ (wr.alloc (.cells #[.int .u8 62] 5)).drew.heap.size := Nat.le_trans hBw1 Fz.size
              go_region_held3 (fun w' => w'.cell? ⟨S, 1, none⟩ = some (.slice ab t.name.length cb))
                (first | assumption | simp [*])
                (first
                  | (refine step_appsX rfl (.tmp 69) (.const (.string ⟨#[60, 47]⟩)) rfl B _ L (by rfl) (unhide HR) ⟨#[60, 47]⟩ [60, 47] (by rfl) rfl okB_end (by simp; omega) hBr ?_; intro v5 w5 ho5 hg5; have F5 : Frp (MtX B) w1 w5 := Fd.trans (Frp.ofAppX (show OwnX wr.drew B _ L from unhide HR) hg5); have x1 : w5.cell? ⟨S, 1, none⟩ = some (.slice ab t.name.length cb) := (l1.frp F5 (node_notX _ _ _)).cell 1; have F5z : Frp (MtX B) w1 (w5.alloc (.cells #[.int .u8 62] 5)) := F5.trans (Frp.ofBelow (((Below.refl _ _).alloc (Nat.le_refl _) _)) _); have z1 : (w5.alloc (.cells #[.int .u8 62] 5)).cell? ⟨S, 1, none⟩ = some (.slice ab t.name.length cb) := (l1.frp F5z (node_notX _ _ _)).cell 1)
                  | (refine step_appsX rfl (.tmp 69) (.const (.string ⟨#[60, 47]⟩)) rfl B _ L (by rfl) ((unhide HR).alloc _) ⟨#[60, 47]⟩ [60, 47] (by rfl) rfl okB_end (by simp; omega) hBz ?_; intro v5 w5 ho5 hg5; have F5 : Frp (MtX B) w1 w5 := Fz.trans (Frp.ofAppX ((unhide HR).alloc _) hg5); have x1 : w5.cell? ⟨S, 1, none⟩ = some (.slice ab t.name.length cb) := (l1.frp F5 (node_notX _ _ _)).cell 1; have K5 := loc_grown K4 hg5 hne)
                  | (refine step_appX rfl (.tmp 70) (.tmp 72) rfl B _ (L ++ [60, 47]) (by rfl) ho5 _ t.name (by rfl) (hb.lk (unhide HW _ F5)) (by simp; omega) (Nat.le_trans hBw1 F5.size) ?_; intro v6 w6 ho6 hg6; have F6 : Frp (MtX B) w1 w6 := F5.trans (Frp.ofAppX ho5 hg6); have x1 : w6.cell? ⟨S, 1, none⟩ = some (.slice ab t.name.length cb) := (l1.frp F6 (node_notX _ _ _)).cell 1; have K6 := loc_grown K5 hg6 (own_farX ho5 (by simp) K5))
                  | (refine step_appX rfl (.tmp 70) (.tmp 72) rfl B _ (L ++ [60, 47]) (by rfl) ho5 _ t.name (by rfl) (hb.lk (unhide HW _ F5)) (by simp; omega) (Nat.le_trans hBw1 F5.size) ?_; intro v6 w6 ho6 hg6; have F6 : Frp (MtX B) w1 w6 := F5.trans (Frp.ofAppX ho5 hg6); have x1 : w6.cell? ⟨S, 1, none⟩ = some (.slice ab t.name.length cb) := (l1.frp F6 (node_notX _ _ _)).cell 1; have z1 : (w6.alloc (.cells #[.int .u8 62] 5)).cell? ⟨S, 1, none⟩ = some (.slice ab t.name.length cb) := ((l1.frp F6 (node_notX _ _ _)).alloc _).cell 1)
                  | (refine step_appX rfl (.tmp 70) (.tmp 72) rfl B _ (L ++ [60, 47]) (by rfl) (ho5.alloc _) _ t.name (by rfl) (hb.lk (unhide HW _ F5z)) (by simp; omega) (Nat.le_trans hBw1 F5z.size) ?_; intro v6 w6 ho6 hg6; have F6 : Frp (MtX B) w1 w6 := F5z.trans (Frp.ofAppX (ho5.alloc _) hg6); have x1 : w6.cell? ⟨S, 1, none⟩ = some (.slice ab t.name.length cb) := (l1.frp F6 (node_notX _ _ _)).cell 1; have K6 := loc_grown (Loc.made w5 #[.int .u8 62] 5) hg6 (own_oldX ho5))
                  | (refine step_appX rfl (.tmp 73) (.tmp 74) rfl B _ (L ++ [60, 47] ++ t.name) (by rfl) ho6 _ [62] (by rfl) (loc_byt K6 (by omega) (by omega)) (by simp; omega) (Nat.le_trans hBw1 F6.size) ?_; intro v7 w7 ho7 hg7; have F7 : Frp (MtX B) w1 w7 := F6.trans (Frp.ofAppX ho6 hg7); have x1 : w7.cell? ⟨S, 1, none⟩ = some (.slice ab t.name.length cb) := (l1.frp F7 (node_notX _ _ _)).cell 1)
                  | (refine step_appX rfl (.tmp 73) (.tmp 74) rfl B _ (L ++ [60, 47] ++ t.name) (by rfl) (ho6.alloc _) _ [62] (by rfl) (byt_one w6 62 (by omega) (by omega)) (by simp; omega) (by have := Nat.le_trans hBw1 F6.size; simp; omega) ?_; intro v7 w7 ho7 hg7; have F7 : Frp (MtX B) w1 w7 := (F6.trans (Frp.ofBelow (((Below.refl w6.heap.size w6).alloc (Nat.le_refl _) _)) _)).trans (Frp.ofAppX (ho6.alloc _) hg7); have x1 : w7.cell? ⟨S, 1, none⟩ = some (.slice ab t.name.length cb) := (l1.frp F7 (node_notX _ _ _)).cell 1))
              all_goals
                rw [← unhide HE2] at ho7
                obtain ⟨a7, c7, hv7, _, _⟩ := ho7.byt.shape
                subst hv7
                go_wp2_with fail
                go_ret
                exact ⟨_, rfl, ho7, F1.trans F7⟩

theorem mk_anyX : ∀ n, MkSaidX n
  | 0 => fun w0 w B v l a b c d e t hrd => absurd hrd (by unfold RdNode; exact id)
  | n + 1 => mk_succX n (mk_anyX n)

end Go.Proofs.YtaoodcielfabdaaGreat

/- A row of bytes of a call's own, whose block may bear a conversion's mark behind its cells. -/
namespace Go.Proofs.YtaoodcielfabdaaGreat
open Go.RowKit
set_option linter.unusedVariables false

def RowM (w : World) (base : Nat) (v : Value) (l : List Int) : Prop :=
  okB l ∧ ((v = .slice none 0 0 ∧ l = []) ∨
    ∃ g cap cur fz, v = .slice (some ⟨g, 0, none⟩) l.length cap ∧ base ≤ g ∧ w.heap[g]? = some (.cells cur 5 fz) ∧ (∀ j, j < cap → ¬ (fz.1 ≤ j ∧ j < fz.2)) ∧ l.length ≤ cap ∧ cap ≤ maxLen ∧ cur.size = cap ∧ cur.toList.take l.length = vals l)
theorem rowm_nil (w : World) (base : Nat) : RowM w base (.slice none 0 0) [] := ⟨okB_nil, .inl ⟨rfl, rfl⟩⟩
theorem Own.rowm {w : World} {base : Nat} {v : Value} {l : List Int} (h : Own w base v l) : RowM w base v l := by
  refine ⟨h.1, ?_⟩
  rcases h.2.2 with ⟨e, hz⟩ | ⟨g, cap, cur, e, hb, hg, h1, h2, h3, h4⟩
  · exact .inl ⟨e, List.eq_nil_of_length_eq_zero hz⟩
  · exact .inr ⟨g, cap, cur, (0, 0), e, hb, hg, fun j _ hj => by simp at hj, h1, h2, by simpa using h3, by simpa using h4⟩
theorem RowM.lt {w : World} {base : Nat} {v : Value} {l : List Int} (h : RowM w base v l) : ∀ k, v.ownBlock = some k → base ≤ k ∧ k < w.heap.size := by
  intro k hk
  rcases h.2 with ⟨rfl, _⟩ | ⟨g, cap, cur, fz, rfl, hb, hg, _⟩
  · simp [Value.ownBlock] at hk
  · simp [Value.ownBlock] at hk
    subst hk
    exact ⟨hb, (Array.getElem?_eq_some_iff.1 hg).1⟩
theorem RowM.mono {w : World} {base base' : Nat} {v : Value} {l : List Int} (h : RowM w base v l) (hb : base' ≤ base) : RowM w base' v l := by
  refine ⟨h.1, ?_⟩
  rcases h.2 with h' | ⟨g, cap, cur, fz, e, h1, h2⟩
  · exact .inl h'
  · exact .inr ⟨g, cap, cur, fz, e, by omega, h2⟩
theorem RowM.frm {w w' : World} {base : Nat} {v : Value} {l : List Int} {S : List Nat} (h : RowM w base v l) (f : Frm w w' S) (hd : ∀ g ∈ FB v, g ∉ S) : RowM w' base v l := by
  refine ⟨h.1, ?_⟩
  rcases h.2 with h' | ⟨g, cap, cur, fz, rfl, h1, hg, h2⟩
  · exact .inl h'
  · have hlt : g < w.heap.size := (Array.getElem?_eq_some_iff.1 hg).1
    exact .inr ⟨g, cap, cur, fz, rfl, h1, (f.block g hlt (hd g (by simp [FB, Value.ownBlock]))).trans hg, h2⟩
theorem RowM.keep {w w' : World} {base : Nat} {v : Value} {l : List Int} (h : RowM w base v l) (hB : Below w.heap.size w w') : RowM w' base v l := h.frm (Frm.ofBelow hB []) (fun _ _ => by simp)
theorem RowM.keepBy {w w' : World} {base : Nat} {v : Value} {l : List Int} {row : Option Nat} (h : RowM w base v l) (hg : w.grownBy w' row) (hne : ∀ g, v.ownBlock = some g → row ≠ some g) : RowM w' base v l :=
  h.frm (Frm.ofGrown hg) (fun g hgm hm => hne g (by simpa [FB] using hgm) (by simpa using hm))
theorem RowM.rng {w : World} {base : Nat} {v : Value} {l : List Int} (h : RowM w base v l) : Rng (FB v) base w.heap.size := fun g hg => h.lt g (by simpa [FB] using hg)
theorem RowM.shape {w : World} {base : Nat} {v : Value} {l : List Int} (h : RowM w base v l) : ∃ a c, v = .slice a l.length c := by
  rcases h.2 with ⟨rfl, rfl⟩ | ⟨g, cap, cur, fz, rfl, _⟩
  · exact ⟨none, 0, rfl⟩
  · exact ⟨_, _, rfl⟩
theorem take_at {xs : List Value} {m : Nat} {ys : List Value} (h : xs.take m = ys) {i : Nat} (hi : i < m) : xs[i]? = ys[i]? := by
  rw [← h, List.getElem?_take, if_pos hi]
theorem RowM.byt {w : World} {base : Nat} {v : Value} {l : List Int} (h : RowM w base v l) : Byt w v l := by
  rcases h.2 with ⟨rfl, rfl⟩ | ⟨g, cap, cur, fz, rfl, hb, hg, hf, h1, h2, h3, h4⟩
  · exact ⟨h.1, by simp [maxLen], .inl ⟨rfl, rfl⟩⟩
  · refine ⟨h.1, by omega, ?_⟩
    by_cases h0 : l = []
    · subst h0
      exact .inr (.inl ⟨_, cap, rfl, h2, rfl⟩)
    · refine .inr (.inr ⟨g, 0, cap, rfl, h1, h2, h0, (Array.getElem?_eq_some_iff.1 hg).1, fun i hi => ?_⟩)
      rw [Nat.zero_add, cell_of_row w g i cur _ fz hg]
      have := take_at h4 hi
      rw [vals_at hi] at this
      simpa using this

/-- The bytes of a string as numbers. -/
def strL (s : ByteArray) : List Int := s.data.toList.map (fun b => (b.toNat : Int))
theorem strL_ok (s : ByteArray) : okB (strL s) := by
  intro x hx
  obtain ⟨b, _, rfl⟩ := List.mem_map.1 hx
  have := b.toNat_lt
  exact ⟨by omega, by omega⟩
theorem strL_len (s : ByteArray) : (strL s).length = s.size := by simp [strL]
/-- '[]byte(s)'. -/
theorem conv_row (w : World) (s : ByteArray) (hs : s.size ≤ 1000) : ∃ w' cap, (convert 9 22 (.string s)).run Tryz.prog w = .ok (.slice (some ⟨w.heap.size, 0, none⟩) s.size cap) w' ∧ RowM w' w.heap.size (.slice (some ⟨w.heap.size, 0, none⟩) s.size cap) (strL s) ∧ Below w.heap.size w w' := by
  refine ⟨_, _, run_bytes_of_string w 9 22 5 s Tryz.underlying9 Tryz.underlying22 Tryz.underlying5, ?_, ?_⟩
  · have hge := grownCap_ge w s.size 0 5
    have hle := grownCap_le_maxLen w s.size 0 5 (by unfold maxLen; omega)
    generalize grownCap w s.size 0 5 = cap at *
    have hbs : (bytesRow s cap).size = cap := by simp [bytesRow]; omega
    refine ⟨strL_ok s, .inr ⟨w.heap.size, cap, bytesRow s cap, _, by rw [strL_len], Nat.le_refl _, heap_alloc_new w.drew _, fun j hj hh => by simp only [hbs] at hh; omega, by rw [strL_len]; omega, hle, hbs, ?_⟩⟩
    rw [strL_len]
    simp [bytesRow, vals, strL]
  · exact ((Below.refl w.heap.size w).drew).alloc (by simp) _
end Go.Proofs.YtaoodcielfabdaaGreat

/- Trees that a draw has made: as OwnT's, but their rows of bytes may bear a conversion's mark. -/
namespace Go.Proofs.YtaoodcielfabdaaGreat
open Go.RowKit
set_option linter.unusedVariables false

def OwAttrM (w : World) (C : List Value) (x : List Int × List Int) (F : List Nat) : Prop := ∃ a b, C = [a, b] ∧ RowM w 0 a x.1 ∧ RowM w 0 b x.2 ∧ F = FB a ++ FB b
def OwAttrsM (w : World) (v : Value) (l : List (List Int × List Int)) (F : List Nat) : Prop := OwElems w 109 2 v l (OwAttrM w) F
def OwNodeM : (n : Nat) → World → List Value → Tr n → List Nat → Prop
  | 0 => fun _ _ _ _ => False
  | n + 1 => fun w C t F => ∃ a b c d Fc Fd, C = [.int .i64 t.kind, a, b, c, d] ∧ -9223372036854775808 ≤ t.kind ∧ t.kind ≤ 9223372036854775807 ∧ RowM w 0 a t.name ∧ RowM w 0 b t.text ∧
      OwAttrsM w c t.attrs Fc ∧ OwElems w 26 5 d t.kids (OwNodeM n w) Fd ∧ F = FB a ++ FB b ++ Fc ++ Fd
def OwKidsM (n : Nat) (w : World) (v : Value) (l : List (Tr n)) (F : List Nat) : Prop := OwElems w 26 5 v l (OwNodeM n w) F


theorem OwAttrsM.frm {w w' : World} {v : Value} {l : List (List Int × List Int)} {F S : List Nat} (h : OwAttrsM w v l F) (f : Frm w w' S) (hd : ∀ g ∈ F, g ∉ S) : OwAttrsM w' v l F :=
  OwElems.frm h f hd (fun C x G ⟨a, b, e, h1, h2, h3⟩ hG => by
    subst h3
    exact ⟨a, b, e, h1.frm f (fun g hg => hG g (by simp [hg])), h2.frm f (fun g hg => hG g (by simp [hg])), rfl⟩)
theorem OwNodeM.frm {n : Nat} {w w' : World} {C : List Value} {t : Tr n} {F S : List Nat} (h : OwNodeM n w C t F) (f : Frm w w' S) (hd : ∀ g ∈ F, g ∉ S) : OwNodeM n w' C t F := by
  induction n generalizing C F with
  | zero => exact h
  | succ n ih =>
    obtain ⟨a, b, c, d, Fc, Fd, e, k1, k2, h1, h2, h3, h4, rfl⟩ := h
    exact ⟨a, b, c, d, Fc, Fd, e, k1, k2, h1.frm f (fun g hg => hd g (by simp [hg])), h2.frm f (fun g hg => hd g (by simp [hg])), h3.frm f (fun g hg => hd g (by simp [hg])),
      OwElems.frm h4 f (fun g hg => hd g (by simp [hg])) (fun C x G hr hG => ih hr hG), rfl⟩
theorem OwNodeM.keep {n : Nat} {w w' : World} {C : List Value} {t : Tr n} {F : List Nat} (h : OwNodeM n w C t F) (hb : Below w.heap.size w w') : OwNodeM n w' C t F := h.frm (Frm.ofBelow hb []) (fun _ _ => by simp)
theorem OwKidsM.frm {n : Nat} {w w' : World} {v : Value} {l : List (Tr n)} {F S : List Nat} (h : OwKidsM n w v l F) (f : Frm w w' S) (hd : ∀ g ∈ F, g ∉ S) : OwKidsM n w' v l F := OwElems.frm h f hd (fun C x G hr hG => OwNodeM.frm hr f hG)


theorem OwAttrsM.rd {w : World} {v : Value} {l : List (List Int × List Int)} {F : List Nat} (h : OwAttrsM w v l F) : RdAttrs w v l := OwElems.rd h (OwElems.len h) (fun C x G ⟨a, b, e, h1, h2, _⟩ => ⟨a, b, e, h1.byt, h2.byt⟩)
theorem OwNodeM.rd {n : Nat} {w : World} {C : List Value} {t : Tr n} {F : List Nat} (h : OwNodeM n w C t F) : RdNode n w C t := by
  induction n generalizing C F with
  | zero => exact h
  | succ n ih =>
    obtain ⟨a, b, c, d, Fc, Fd, e, k1, k2, h1, h2, h3, h4, rfl⟩ := h
    exact ⟨a, b, c, d, e, k1, k2, h1.byt, h2.byt, h3.rd, OwElems.rd h4 (OwElems.len h4) (fun C x G hr => ih hr)⟩
theorem OwKidsM.rd {n : Nat} {w : World} {v : Value} {l : List (Tr n)} {F : List Nat} (h : OwKidsM n w v l F) : RdKids n w v l := OwElems.rd h (OwElems.len h) (fun C x G hr => OwNodeM.rd hr)
theorem OwAttrsM.nil (w : World) : OwAttrsM w (.slice none 0 0) [] [] := ⟨[], [], rfl, rfl, fun i hi => by simp at hi, ⟨by simp, .inl ⟨rfl, rfl⟩⟩, rfl⟩
theorem OwKidsM.nil (n : Nat) (w : World) : OwKidsM n w (.slice none 0 0) [] [] := ⟨[], [], rfl, rfl, fun i hi => by simp at hi, ⟨by simp, .inl ⟨rfl, rfl⟩⟩, rfl⟩
end Go.Proofs.YtaoodcielfabdaaGreat

/- 'append(rows, x)': one element behind a row of elements that owns its memory. -/
namespace Go.Proofs.YtaoodcielfabdaaGreat
open Go.RowKit
set_option linter.unusedVariables false

/-- A row of elements with one more behind it. -/
theorem OwElems.push {α : Type} {R : World → List Value → α → List Nat → Prop} (hRf : ∀ {w w' : World} {S : List Nat} {C : List Value} {x : α} {G : List Nat}, R w C x G → Frm w w' S → (∀ g ∈ G, g ∉ S) → R w' C x G)
    {w w' : World} {e : TypeId} {size : Nat} {v : Value} {l : List α} {Cs : List (List Value)} {Fs : List (List Nat)} {C : List Value} {y : α} {G : List Nat} {g cap : Nat}
    (h1 : Cs.length = l.length) (h2 : Fs.length = l.length) (h3 : ∀ i (hi : i < l.length), (Cs.getD i []).length = size ∧ R w (Cs.getD i []) l[i] (Fs.getD i []))
    (hN : (FB v ++ Fs.flatten).Nodup) (hC : C.length = size) (hy : R w C y G) (hGN : G.Nodup) (hFG : ∀ g ∈ FB v ++ Fs.flatten, g ∉ G) (hlt : ∀ q, q ∈ FB v ++ Fs.flatten ∨ q ∈ G → q < w.heap.size)
    (k1 : w'.ownsRow 0 e size (.slice (some ⟨g, 0, none⟩) (l.length + 1) cap) (l.length + 1) (Cs.flatten ++ C)) (k2 : w.grownBy w' v.ownBlock) (k3 : v.ownBlock = some g ∨ g = w.heap.size) :
    OwElems w' e size (.slice (some ⟨g, 0, none⟩) (l.length + 1) cap) (l ++ [y]) (R w') (g :: (Fs.flatten ++ G)) ∧ (g :: (Fs.flatten ++ G)).Nodup ∧ (∀ q ∈ g :: (Fs.flatten ++ G), q ∈ FB v ++ Fs.flatten ∨ q ∈ G ∨ q = w.heap.size) := by
  have hFd : ∀ q ∈ Fs.flatten, q ∉ v.ownBlock.toList := fun q hq hv => (List.nodup_append.1 hN).2.2 q (by simpa [FB] using hv) q hq rfl
  have hGd : ∀ q ∈ G, q ∉ v.ownBlock.toList := fun q hq hv => hFG q (List.mem_append_left _ (by simpa [FB] using hv)) hq
  have hf := Frm.ofGrown k2
  refine ⟨⟨Cs ++ [C], Fs ++ [G], by simp [h1], by simp [h2], fun i hi => ?_, ?_, ?_⟩, ?_, ?_⟩
  · by_cases hil : i < l.length
    · have a := h3 i hil
      have e1 : (Cs ++ [C]).getD i [] = Cs.getD i [] := by rw [List.getD_eq_getElem?_getD, List.getD_eq_getElem?_getD, List.getElem?_append_left (by omega)]
      have e2 : (Fs ++ [G]).getD i [] = Fs.getD i [] := by rw [List.getD_eq_getElem?_getD, List.getD_eq_getElem?_getD, List.getElem?_append_left (by omega)]
      rw [e1, e2, List.getElem_append_left hil]
      exact ⟨a.1, hRf a.2 hf (fun q hq => hFd q (mem_flat hq))⟩
    · have e0 : i = l.length := by simp at hi; omega
      subst e0
      have e1 : (Cs ++ [C]).getD l.length [] = C := by rw [← h1]; simp
      have e2 : (Fs ++ [G]).getD l.length [] = G := by rw [← h2]; simp
      rw [e1, e2]
      simp only [List.getElem_concat_length]
      exact ⟨hC, hRf hy hf hGd⟩
  · simp only [List.length_append, List.length_cons, List.length_nil, List.flatten_append, List.flatten_cons, List.flatten_nil, List.append_nil]
    exact k1
  · simp [FB, Value.ownBlock]
  · rw [List.nodup_cons]
    refine ⟨fun hq => ?_, List.nodup_append.2 ⟨(List.nodup_append.1 hN).2.1, hGN, fun a ha b hb hab => hFG a (List.mem_append_right _ ha) (hab ▸ hb)⟩⟩
    rcases List.mem_append.1 hq with hq | hq
    · rcases k3 with k3 | k3
      · exact hFd g hq (by simp [k3])
      · have := hlt g (.inl (List.mem_append_right _ hq)); omega
    · rcases k3 with k3 | k3
      · exact hGd g hq (by simp [k3])
      · have := hlt g (.inr hq); omega
  · intro q hq
    rcases List.mem_cons.1 hq with rfl | hq
    · rcases k3 with k3 | k3
      · exact .inl (List.mem_append_left _ (by simp [FB, k3]))
      · exact .inr (.inr k3)
    · rcases List.mem_append.1 hq with hq | hq
      · exact .inl (List.mem_append_right _ hq)
      · exact .inr (.inl hq)

/-- 'append(rows, x)' at the list of a plain region's operations. -/
theorem wpList_push {α : Type} {R : World → List Value → α → List Nat → Prop} (hRf : ∀ {w w' : World} {S : List Nat} {C : List Value} {x : α} {G : List Nat}, R w C x G → Frm w w' S → (∀ g ∈ G, g ∉ S) → R w' C x G)
    {w : World} {ops : Array Oper} {rest : List Oper} {o : Oper} {a : Act} {Q : Exit → Act → World → Prop} (hgd : o.guard = none) (s x : Operand) (t : TypeId)
    (ho : o.op = .call { callee := .builtin .append, args := #[s, x], argTypes := #[t, t] })
    (e : TypeId) (i : TypeInfo) (z : Value) (size bytes : Nat) (ht : Tryz.prog.underlying t = some (.slice e)) (hi : Tryz.prog.info? e = some i) (hz : i.zero = some z)
    (hsize : i.size = size) (hby : i.bytes = bytes) (hzs : z.cells.size = size) (hsz : 0 < size)
    (v : Value) (l : List α) (F : List Nat) (hs : a.eval s = v) (h : OwElems w e size v l (R w) F) (hN : F.Nodup)
    (ad : Addr) (c : Nat) (C : List Value) (y : α) (G : List Nat) (hx : a.eval x = .slice (some ad) 1 c) (hC : C.length = size) (hcell : ∀ j u, C[j]? = some u → w.cell? (ad.add j) = some u) (h1 : ∀ u ∈ C, u.oneCell' = true)
    (hy : R w C y G) (hGN : G.Nodup) (hFG : ∀ g ∈ F, g ∉ G) (hlt : ∀ q, q ∈ F ∨ q ∈ G → q < w.heap.size) (h63 : l.length + 1 ≤ maxLen) (hbytes : (l.length + 1) * bytes ≤ 140737488355328)
    (hK : ∀ g cap w' F', OwElems w' e size (.slice (some ⟨g, 0, none⟩) (l.length + 1) cap) (l ++ [y]) (R w') F' → F'.Nodup → (∀ q ∈ F', q ∈ F ∨ q ∈ G ∨ q = w.heap.size) → Frm w w' (FB v) → g < w'.heap.size → wpList Tryz.prog ops Q rest (a.put o.dst (.slice (some ⟨g, 0, none⟩) (l.length + 1) cap)) w') : wpList Tryz.prog ops Q (o :: rest) a w := by
  obtain ⟨Cs, Fs, e1, e2, e3, e4, rfl⟩ := h
  refine wpList_append_lies w hgd s x t ho 0 e i z size bytes ht hi hz hsize hby hzs hsz v l.length Cs.flatten hs e4 ad 1 c C hx (by omega) hcell h1 (by omega) h63 hbytes (Nat.zero_le _) w.heap.size rfl ?_
  intro g cap w' k1 k2 k3 k4
  obtain ⟨m1, m2, m3⟩ := OwElems.push (R := R) hRf e1 e2 e3 hN hC hy hGN hFG hlt k1 k2 k3
  exact hK g cap w' _ m1 m2 m3 (Frm.ofGrown k2) k4

/-- 'append(rows, x)' as one step of a region that draws its order. -/
theorem step_push {α : Type} {R : World → List Value → α → List Nat → Prop} (hRf : ∀ {w w' : World} {S : List Nat} {C : List Value} {x : α} {G : List Nat}, R w C x G → Frm w w' S → (∀ g ∈ G, g ∉ S) → R w' C x G)
    {w : World} {ops : Array Oper} {o : Oper} {a : Act} {K : Act → World → Prop} {Q : Exit → Act → World → Prop} {E : Prop} (hgd : o.guard = none) (s x : Operand) (t : TypeId)
    (ho : o.op = .call { callee := .builtin .append, args := #[s, x], argTypes := #[t, t] })
    (e : TypeId) (i : TypeInfo) (z : Value) (size bytes : Nat) (ht : Tryz.prog.underlying t = some (.slice e)) (hi : Tryz.prog.info? e = some i) (hz : i.zero = some z)
    (hsize : i.size = size) (hby : i.bytes = bytes) (hzs : z.cells.size = size) (hsz : 0 < size)
    (v : Value) (l : List α) (F : List Nat) (hs : a.eval s = v) (h : OwElems w e size v l (R w) F) (hN : F.Nodup)
    (ad : Addr) (c : Nat) (C : List Value) (y : α) (G : List Nat) (hx : a.eval x = .slice (some ad) 1 c) (hC : C.length = size) (hcell : ∀ j u, C[j]? = some u → w.cell? (ad.add j) = some u) (h1 : ∀ u ∈ C, u.oneCell' = true)
    (hy : R w C y G) (hGN : G.Nodup) (hFG : ∀ g ∈ F, g ∉ G) (hlt : ∀ q, q ∈ F ∨ q ∈ G → q < w.heap.size) (h63 : l.length + 1 ≤ maxLen) (hbytes : (l.length + 1) * bytes ≤ 140737488355328)
    (hK : ∀ g cap w' F', OwElems w' e size (.slice (some ⟨g, 0, none⟩) (l.length + 1) cap) (l ++ [y]) (R w') F' → F'.Nodup → (∀ q ∈ F', q ∈ F ∨ q ∈ G ∨ q = w.heap.size) → Frm w w' (FB v) → g < w'.heap.size → K (a.put o.dst (.slice (some ⟨g, 0, none⟩) (l.length + 1) cap)) w') : if Region.wanted o (yielded ops a.tmps) = true then Oper.wp Tryz.prog o a w K Q else E := by
  obtain ⟨Cs, Fs, e1, e2, e3, e4, rfl⟩ := h
  refine step_append_lies w hgd s x t ho 0 e i z size bytes ht hi hz hsize hby hzs hsz v l.length Cs.flatten hs e4 ad 1 c C hx (by omega) hcell h1 (by omega) h63 hbytes (Nat.zero_le _) w.heap.size rfl ?_
  intro g cap w' k1 k2 k3 k4
  obtain ⟨m1, m2, m3⟩ := OwElems.push (R := R) hRf e1 e2 e3 hN hC hy hGN hFG hlt k1 k2 k3
  exact hK g cap w' _ m1 m2 m3 (Frm.ofGrown k2) k4
end Go.Proofs.YtaoodcielfabdaaGreat

/- The cursor over the bytes of a draw, by contracts: it tells some byte, and writes its own block alone. -/
namespace Go.Proofs.YtaoodcielfabdaaGreat
open Go.RowKit
set_option linter.unusedVariables false

theorem i64_and255 (n : Int) : bits .and .i64 n 255 = n % 256 := by
  have h255 : (BitVec.ofInt 64 255).toNat = 2 ^ 8 - 1 := by decide
  have key : (BitVec.ofInt 64 n &&& BitVec.ofInt 64 255).toNat = (n % ((2 ^ 64 : Nat) : Int)).toNat % 2 ^ 8 := by
    rw [BitVec.toNat_and, BitVec.toNat_ofInt, h255, Nat.and_two_pow_sub_one_eq_mod]
  show IntKind.i64.wrap ((BitVec.ofInt 64 n &&& BitVec.ofInt 64 255).toNat : Nat) = n % 256
  rw [key, IntKind.wrap_i64]
  omega

/-- The block g, made behind w0, is a cursor over the bytes l of the value code, which were there in w0; the world w has them still. -/
structure Cur (w0 w : World) (g : Nat) (code : Value) (l : List Int) : Prop where
  bytes : Byt w0 code l
  below : Below w0.heap.size w0 w
  new : w0.heap.size ≤ g
  cells : ∃ (i : Nat) (h : Int), i ≤ l.length ∧ w.heap[g]? = some (.cells #[code, .int .i64 i, .int .i64 h] 99 (0, 0))

theorem Cur.lt {w0 w : World} {g : Nat} {code : Value} {l : List Int} (h : Cur w0 w g code l) : g < w.heap.size := by
  obtain ⟨i, x, _, hg⟩ := h.cells
  by_cases hlt : g < w.heap.size
  · exact hlt
  · rw [Array.getElem?_eq_none (by omega)] at hg; cases hg

/-- A world in which the cursor's block, and all that was there before it, stand as they stood. -/
theorem Cur.keep {w0 w w' : World} {g : Nat} {code : Value} {l : List Int} {row : Option Nat} (h : Cur w0 w g code l) (hg : w.grownBy w' row) (hne : some g ≠ row) (hr : ∀ k, row = some k → w0.heap.size ≤ k) : Cur w0 w' g code l := by
  refine ⟨h.bytes, h.below.grown hg h.below.size hr, h.new, ?_⟩
  obtain ⟨i, x, hi, hc⟩ := h.cells
  exact ⟨i, x, hi, (hg.block g h.lt hne).trans hc⟩
theorem Cur.keepAll {w0 w w' : World} {g : Nat} {code : Value} {l : List Int} (h : Cur w0 w g code l) (hB : Below w.heap.size w w') : Cur w0 w' g code l :=
  h.keep (Below.toGrown hB none) (by simp) (fun k hk => by cases hk)

theorem set_grown (w : World) (g j : Nat) (v : Value) : w.grownBy (w.setCell ⟨g, j, none⟩ v) (some g) :=
  ⟨rfl, rfl, rfl, by simp, fun k _ hk => heap_setCell_other w ⟨g, j, none⟩ k v (fun e => hk (by simp [e]))⟩
theorem grown_drewN {a b : World} {row : Option Nat} (h : a.grownBy b row) (n : Nat) : a.grownBy (b.drewN n) row := ⟨h.os, h.tape, h.output, h.size, h.block⟩
theorem grown_drew {a b : World} {row : Option Nat} (h : a.grownBy b row) : a.grownBy b.drew row := ⟨h.os, h.tape, h.output, h.size, h.block⟩

/-- The cursor behind a step. -/
theorem Cur.turn {w0 w w' : World} {g : Nat} {code : Value} {l : List Int} (h : Cur w0 w g code l) (hw : w.grownBy w' (some g)) (i : Nat) (x : Int) (hi : i ≤ l.length)
    (hc : w'.heap[g]? = some (.cells #[code, .int .i64 i, .int .i64 x] 99 (0, 0))) : Cur w0 w' g code l :=
  ⟨h.bytes, h.below.grown hw h.below.size (fun k hk => by cases hk; exact h.new), h.new, i, x, hi, hc⟩

set_option maxHeartbeats 1600000 in
set_option maxRecDepth 1000000 in
theorem l1Byte_any (w0 w : World) (g : Nat) (code : Value) (l : List Int) (h : Cur w0 w g code l) :
    Calls Tryz.prog 76 #[.pointer (some ⟨g, 0, none⟩)] w fun e w' => ∃ x : Int, 0 ≤ x ∧ x ≤ 255 ∧ e = .returned (.int .i64 x) ∧ Cur w0 w' g code l ∧ w.grownBy w' (some g) := by
  obtain ⟨i, x, hi, hg⟩ := h.cells
  have c0 : w.cell? ⟨g, 0, none⟩ = some code := by rw [cell_of_row w g 0 _ _ _ hg]; rfl
  have c1 : w.cell? ⟨g, 1, none⟩ = some (.int .i64 i) := by rw [cell_of_row w g 1 _ _ _ hg]; rfl
  have c2 : w.cell? ⟨g, 2, none⟩ = some (.int .i64 x) := by rw [cell_of_row w g 2 _ _ _ hg]; rfl
  have f1 : w.frozen? ⟨g, 1, none⟩ = false := frozen_of_row w g 1 _ _ hg
  have f2 : w.frozen? ⟨g, 2, none⟩ = false := frozen_of_row w g 2 _ _ hg
  by_cases hlt : i < l.length
  · obtain ⟨hok, hm, ⟨rfl, rfl⟩ | ⟨y, cap, rfl, hc, rfl⟩ | ⟨b, off, cap, rfl, h1, h2, h3, h4, h5⟩⟩ := h.bytes
    · simp at hlt
    · simp at hlt
    obtain ⟨c, hc⟩ : ∃ c, c = l.getD i 0 := ⟨_, rfl⟩
    have hcx : w.cell? ⟨b, off + i, none⟩ = some (.int .u8 c) := by rw [hc]; exact (h.below.cell (p := ⟨b, off + i, none⟩) h4).trans (h5 i hlt)
    have hcb : 0 ≤ c ∧ c ≤ 255 := by rw [hc, List.getD_eq_getElem?_getD]; exact hok.at _
    have hbg : b ≠ g := by have := h.new; omega
    have hi' : (i : Int) < (l.length : Int) := by omega
    unfold maxLen at hm h2
    clear hc h5
    have HG := hide hg
    have HH := hide h
    clear hg h
    obtain ⟨hcb0, hcb1⟩ := hcb
    go_enter Tryz.func76, Tryz.ntmps76
    go_wp2
    generalize wrap64 (wrap64 (x * 6364136223846793005) + 1442695040888963407) = y
    go_quiet (fail)
    go_wp2
    go_quiet (fail)
    go_wp2
    rw [i64_and255]
    generalize bits BinOp.xor IntKind.i64 (y / 8589934592) (y / 35184372088832) = z
    go_quiet (fail)
    go_wp2
    rw [i64_and255]
    go_ret
    refine ⟨(z % 256 + c) % 256, by omega, by omega, rfl, (unhide HH).turn ?hw (i + 1) y (by omega) ?hc, ?hw⟩
    case hw => repeat (first | exact set_grown _ _ _ _ | refine grown_drewN ?_ _ | refine grown_trans ?_ (set_grown _ _ _ _))
    case hc =>
      rw [show ((i + 1 : Nat) : Int) = (i : Int) + 1 by omega]
      exact heap_setCell_same _ g 1 _ _ _ (heap_setCell_same w g 2 _ _ _ (unhide HG))
  · obtain ⟨a, cap, rfl, hlc, hcm⟩ := h.bytes.shape
    have hm := h.bytes.2.1
    unfold maxLen at hm
    have hi' : ¬ (i : Int) < (l.length : Int) := by omega
    have HG := hide hg
    have HH := hide h
    clear hg h
    go_enter Tryz.func76, Tryz.ntmps76
    go_wp2
    generalize wrap64 (wrap64 (x * 6364136223846793005) + 1442695040888963407) = y
    go_quiet (fail)
    go_wp2
    go_quiet (fail)
    go_wp2
    rw [i64_and255]
    generalize bits BinOp.xor IntKind.i64 (y / 8589934592) (y / 35184372088832) = z
    go_ret
    refine ⟨z % 256, by omega, by omega, rfl, (unhide HH).turn ?hw i y hi ?hc, ?hw⟩
    case hw => repeat (first | exact set_grown _ _ _ _ | refine grown_drewN ?_ _ | refine grown_trans ?_ (set_grown _ _ _ _))
    case hc => exact heap_setCell_same w g 2 _ _ _ (unhide HG)
theorem tmod_below {x n : Int} (hx0 : 0 ≤ x) (hn : 1 ≤ n) : 0 ≤ x % n ∧ x % n < n := ⟨Int.emod_nonneg _ (by omega), Int.emod_lt_of_pos _ (by omega)⟩

set_option maxHeartbeats 1600000 in
theorem l1Below_any (w0 w : World) (g : Nat) (code : Value) (l : List Int) (n : Int) (h : Cur w0 w g code l) (hn : 1 ≤ n) (hn1 : n ≤ 1000000000) :
    Calls Tryz.prog 74 #[.pointer (some ⟨g, 0, none⟩), .int .i64 n] w fun e w' => ∃ x : Int, 0 ≤ x ∧ x < n ∧ e = .returned (.int .i64 x) ∧ Cur w0 w' g code l ∧ w.grownBy w' (some g) := by
  by_cases h256 : n ≤ 256
  · go_enter Tryz.func74, Tryz.ntmps74
    go_wp2_with fail
    refine (l1Byte_any w0 w g code l h).mono ?_
    rintro e w1 ⟨x, hx0, hx1, rfl, hC, hG⟩
    have hb := tmod_below hx0 hn
    have HB := hide hb
    clear hb
    go_wp2
    go_ret
    exact ⟨_, (unhide HB).1, (unhide HB).2, rfl, hC, hG⟩
  · go_enter Tryz.func74, Tryz.ntmps74
    go_wp2_with fail
    refine (l1Byte_any w0 w g code l h).mono ?_
    rintro e w1 ⟨x1, hx0, hx1, rfl, hC1, hG1⟩
    go_wp2_with fail
    refine (l1Byte_any w0 w1 g code l hC1).mono ?_
    rintro e w2 ⟨x2, hy0, hy1, rfl, hC2, hG2⟩
    go_wp2_with fail
    refine (l1Byte_any w0 w2 g code l hC2).mono ?_
    rintro e w3 ⟨x3, hz0, hz1, rfl, hC3, hG3⟩
    go_wp2_with fail
    refine (l1Byte_any w0 w3 g code l hC3).mono ?_
    rintro e w4 ⟨x4, hu0, hu1, rfl, hC4, hG4⟩
    have hb := tmod_below (x := x1 * 16777216 + x2 * 65536 + x3 * 256 + x4) (by omega) hn
    have HB := hide hb
    have HG := hide (grown_trans (grown_trans (grown_trans hG1 hG2) hG3) hG4)
    clear hb hG1 hG2 hG3 hG4 hC1 hC2 hC3
    go_wp2
    go_ret
    exact ⟨_, (unhide HB).1, (unhide HB).2, rfl, hC4, unhide HG⟩

set_option maxHeartbeats 1600000 in
theorem l1Once_any (w0 w : World) (g : Nat) (code : Value) (l : List Int) (n : Int) (h : Cur w0 w g code l) (hn : 1 ≤ n) (hn1 : n ≤ 1000000000) :
    Calls Tryz.prog 31 #[.pointer (some ⟨g, 0, none⟩), .int .i64 n] w fun e w' => ∃ b : Bool, e = .returned (.bool b) ∧ Cur w0 w' g code l ∧ w.grownBy w' (some g) := by
  go_enter Tryz.func31, Tryz.ntmps31
  go_wp2_with fail
  refine (l1Below_any w0 w g code l n h hn hn1).mono ?_
  rintro e w1 ⟨x, hx0, hx1, rfl, hC, hG⟩
  go_wp2
  go_ret
  exact ⟨_, rfl, hC, hG⟩

/-- A slice of whole numbers that can be read. -/
def IntsC (w : World) (v : Value) (l : List Int) : Prop := ∃ b off cap, v = .slice (some ⟨b, off, none⟩) l.length cap ∧ b < w.heap.size ∧ ∀ i, i < l.length → w.cell? ⟨b, off + i, none⟩ = some (.int .i64 (l.getD i 0))

set_option maxHeartbeats 1600000 in
theorem l1PickInt_any (w0 w : World) (g : Nat) (code : Value) (l : List Int) (v : Value) (m : List Int) (h : Cur w0 w g code l) (hm0 : 1 ≤ m.length) (hm1 : m.length ≤ 1000) (hv : IntsC w v m) (hne : ∀ a n c, v = .slice (some a) n c → a.block ≠ g) :
    Calls Tryz.prog 129 #[.pointer (some ⟨g, 0, none⟩), v] w fun e w' => ∃ x ∈ m, e = .returned (.int .i64 x) ∧ Cur w0 w' g code l ∧ w.grownBy w' (some g) := by
  obtain ⟨b, off, cap, rfl, hb, hc⟩ := hv
  have hbg : b ≠ g := hne _ _ _ rfl
  clear hne
  go_enter Tryz.func129, Tryz.ntmps129
  go_wp2_with fail
  refine (l1Below_any w0 w g code l m.length h (by omega) (by omega)).mono ?_
  rintro e w1 ⟨x, hx0, hx1, rfl, hC, hG⟩
  obtain ⟨j, rfl⟩ := Int.eq_ofNat_of_zero_le hx0
  have hj : j < m.length := by omega
  obtain ⟨y, hy⟩ : ∃ y, y = m.getD j 0 := ⟨_, rfl⟩
  have hcj : w1.cell? ⟨b, off + j, none⟩ = some (.int .i64 y) := by rw [hy]; exact hG.cell (a := ⟨b, off + j, none⟩) (hc j hj) (by simp; omega)
  have hmem : y ∈ m := by rw [hy, getD_at hj]; exact List.getElem_mem hj
  clear hc hy
  have hG' := hide hG
  clear hG
  go_wp2
  go_ret
  exact ⟨y, hmem, rfl, hC, unhide hG'⟩

end Go.Proofs.YtaoodcielfabdaaGreat

/- The cursor at its beginning. -/
namespace Go.Proofs.YtaoodcielfabdaaGreat
open Go.RowKit
set_option linter.unusedVariables false

/-- What a new cursor is. -/
theorem Cur.made (w : World) (code : Value) (l : List Int) (x : Int) (h : Byt w code l) : Cur w (w.alloc (.cells #[code, .int .i64 0, .int .i64 x] 99)) w.heap.size code l :=
  ⟨h, (Below.refl _ _).alloc (Nat.le_refl _) _, Nat.le_refl _, 0, x, Nat.zero_le _, heap_alloc_new w _⟩

set_option maxHeartbeats 1600000 in
theorem l1New_any (w : World) (code : Value) (l : List Int) (h : Byt w code l) :
    Calls Tryz.prog 29 #[code] w fun e w' => e = .returned (.pointer (some ⟨w.heap.size, 0, none⟩)) ∧ Cur w w' w.heap.size code l ∧ Below w.heap.size w w' := by
  have hm := h.2.1
  unfold maxLen at hm
  by_cases h0 : l = []
  · obtain ⟨a, cap, rfl, _⟩ := h.shape
    subst h0
    go_enter Tryz.func29, Tryz.ntmps29
    go_wp2
    refine wp_loop_rounds 1 ?_
    rw [rounds_succ]
    go_wp2
    go_ret
    exact ⟨rfl, Cur.made _ _ _ _ h, (Below.refl _ _).alloc (Nat.le_refl _) _⟩
  · have h' := h
    obtain ⟨hok, _, ⟨rfl, rfl⟩ | ⟨x, cap, rfl, hc, rfl⟩ | ⟨b, off, cap, rfl, h1, h2, h3, h4, h5⟩⟩ := h'
    · exact absurd rfl h0
    · exact absurd rfl h0
    go_enter Tryz.func29, Tryz.ntmps29
    go_wp2
    go_loop [3, 4] (fun x i => ∃ (k : Nat) (y : Int), k ≤ l.length ∧ i = .int .i64 k ∧ x = .int .i64 y) (fun _ i => l.length - (intOf i).toNat)
    case atStart => exact ⟨0, _, Nat.zero_le _, rfl, rfl⟩
    case round =>
      obtain ⟨k, y, hk, rfl, rfl⟩ := hrel
      by_cases hlt : k < l.length
      · obtain ⟨c, hcc⟩ : ∃ c, c = l.getD k 0 := ⟨_, rfl⟩
        have hcx : w.cell? ⟨b, off + k, none⟩ = some (.int .u8 c) := by rw [hcc]; exact h5 k hlt
        have hcb : 0 ≤ c ∧ c ≤ 255 := by rw [hcc, List.getD_eq_getElem?_getD]; exact hok.at _
        have hlt' : (k : Int) < (l.length : Int) := by omega
        obtain ⟨hcb0, hcb1⟩ := hcb
        clear h5 hcc
        by_cases h4k : k < 4000
        · have h4k' : (k : Int) < 4000 := by omega
          go_wp2
          go_round
          case rel => exact ⟨k + 1, _, by omega, by go_num, rfl⟩
          case measure => simp [intOf]; omega
        · have h4k' : ¬ (k : Int) < 4000 := by omega
          go_wp2
          go_ret
          exact ⟨rfl, Cur.made _ _ _ _ h, (Below.refl _ _).alloc (Nat.le_refl _) _⟩
      · have hlt' : decide ((k : Int) < (l.length : Int)) = false := by simp; omega
        clear h5
        go_wp2
        go_ret
        exact ⟨rfl, Cur.made _ _ _ _ h, (Below.refl _ _).alloc (Nat.le_refl _) _⟩

/-- An owned row that was made behind the cursor keeps its bytes while the cursor goes on. -/
theorem Own.past {w w' : World} {base g : Nat} {v : Value} {l : List Int} (h : Own w base v l) (hg : w.grownBy w' (some g)) (hb : g < base) : Own w' base v l :=
  h.keepBy hg (.inr (fun e => by have := h.base_le g e; omega))

/-- A step that writes a block which was not there at the start adds nothing to what may have been written. -/
theorem grown_new {a b c : World} {row row' : Option Nat} (h : a.grownBy b row) (k : b.grownBy c row') (hr : ∀ q, row' = some q → a.heap.size ≤ q) : a.grownBy c row :=
  ⟨k.os.trans h.os, k.tape.trans h.tape, k.output.trans h.output, Nat.le_trans h.size k.size, fun i hi hne => (k.block i (Nat.lt_of_lt_of_le hi h.size) (fun e => by have := hr i e.symm; omega)).trans (h.block i hi hne)⟩
theorem grown_below {a b c : World} {row : Option Nat} (h : a.grownBy b row) (k : Below b.heap.size b c) : a.grownBy c row := grown_new h (Below.toGrown k none) (fun q hq => by cases hq)

end Go.Proofs.YtaoodcielfabdaaGreat

/- spec.l4drawId: an id that is drawn. -/
namespace Go.Proofs.YtaoodcielfabdaaGreat
open Go.RowKit
set_option linter.unusedVariables false
set_option maxRecDepth 100000

theorem grown_below' {a b c : World} {row : Option Nat} (h : Below a.heap.size a b) (k : b.grownBy c row) : a.grownBy c row := grown_trans (Below.toGrown h row) k

set_option maxHeartbeats 3200000 in
theorem drawId_any (w0 w : World) (g : Nat) (code : Value) (l : List Int) (h : Cur w0 w g code l) :
    Calls Tryz.prog 157 #[.pointer (some ⟨g, 0, none⟩)] w fun e w' => ∃ n r : Int, 0 ≤ n ∧ n ≤ 5 ∧ 0 ≤ r ∧ r ≤ 4 ∧ e = .returned (.agg #[.int .i64 n, .int .i64 r]) ∧ Cur w0 w' g code l ∧ w.grownBy w' (some g) := by
  have hA0 := (Below.refl w.heap.size w).alloc (Nat.le_refl _) (.cells #[.int .i64 0, .int .i64 0] 35)
  have l0 := Loc.made w #[.int .i64 0, .int .i64 0] 35
  have hC0 := h.keepAll hA0
  have hgl := h.lt
  go_enter Tryz.func157, Tryz.ntmps157
  go_wp2_with fail
  generalize (w.alloc (.cells #[.int .i64 0, .int .i64 0] 35)) = wa at *
  refine (l1Once_any w0 wa g code l 3 hC0 (by omega) (by omega)).mono ?_
  rintro e w1 ⟨b, rfl, hC1, hG1⟩
  have l1 := l0.frm (Frm.ofGrown hG1) (by simp; omega)
  have hG1' := grown_below' hA0 hG1
  cases b
  · go_wp2_with fail
    refine (l1Below_any w0 w1 g code l 5 hC1 (by omega) (by omega)).mono ?_
    rintro e w2 ⟨x, hx0, hx1, rfl, hC2, hG2⟩
    have l2 := l1.frm (Frm.ofGrown hG2) (by simp; omega)
    have hG2' := grown_trans hG1' hG2
    go_wp2_with fail
    refine (l1Below_any w0 w2 g code l 3 hC2 (by omega) (by omega)).mono ?_
    rintro e w3 ⟨y, hy0, hy1, rfl, hC3, hG3⟩
    have l3 := l2.frm (Frm.ofGrown hG3) (by simp; omega)
    have hG3' := grown_trans hG2' hG3
    have x0 := l3.cell 0
    have x1 := l3.cell 1
    have f0 := l3.frozen 0
    have f1 := l3.frozen 1
    clear hG1 hG2 hC1 hC2 l1 l2 hG3 hG1' hG2' l0 hC0
    go_wp2_with fail
    have m : Loc ((w3.setCell ⟨w.heap.size, 0, none⟩ (.int .i64 (1 + x))).setCell ⟨w.heap.size, 1, none⟩ (.int .i64 y)) w.heap.size #[.int .i64 (1 + x), .int .i64 y] 35 := (l3.set 0 (.int .i64 (1 + x))).set 1 (.int .i64 y)
    have e0 := m.cell 0
    have e1 := m.cell 1
    have hs : w3.grownBy ((w3.setCell ⟨w.heap.size, 0, none⟩ (.int .i64 (1 + x))).setCell ⟨w.heap.size, 1, none⟩ (.int .i64 y)) (some w.heap.size) := grown_trans (set_grown w3 w.heap.size 0 (.int .i64 (1 + x))) (set_grown _ w.heap.size 1 (.int .i64 y))
    have hGf := grown_new hG3' hs (fun q hq => by simp at hq; omega)
    have hCf := hC3.keep hs (by simp; omega) (fun k hk => by simp at hk; have := h.below.size; omega)
    exact bodyPost_ret (v := .agg #[.int .i64 (1 + x), .int .i64 y]) (by simp [results, Tryz.results157, go_sem, e0, e1]) rfl ⟨(1 + x), y, by omega, by omega, by omega, by omega, rfl, hCf, hGf⟩
  · go_wp2_with fail
    refine (l1Below_any w0 w1 g code l 5 hC1 (by omega) (by omega)).mono ?_
    rintro e w2 ⟨x, hx0, hx1, rfl, hC2, hG2⟩
    have l2 := l1.frm (Frm.ofGrown hG2) (by simp; omega)
    have hG2' := grown_trans hG1' hG2
    have x0 := l2.cell 0
    have x1 := l2.cell 1
    have f0 := l2.frozen 0
    have f1 := l2.frozen 1
    clear hG1 hG2 hC1 l1 hG1' l0 hC0
    go_wp2_with fail
    have m : Loc ((w2.setCell ⟨w.heap.size, 0, none⟩ (.int .i64 0)).setCell ⟨w.heap.size, 1, none⟩ (.int .i64 x)) w.heap.size #[.int .i64 0, .int .i64 x] 35 := (l2.set 0 (.int .i64 0)).set 1 (.int .i64 x)
    have e0 := m.cell 0
    have e1 := m.cell 1
    have hs : w2.grownBy ((w2.setCell ⟨w.heap.size, 0, none⟩ (.int .i64 0)).setCell ⟨w.heap.size, 1, none⟩ (.int .i64 x)) (some w.heap.size) := grown_trans (set_grown w2 w.heap.size 0 (.int .i64 0)) (set_grown _ w.heap.size 1 (.int .i64 x))
    have hGf := grown_new hG2' hs (fun q hq => by simp at hq; omega)
    have hCf := hC2.keep hs (by simp; omega) (fun k hk => by simp at hk; have := h.below.size; omega)
    exact bodyPost_ret (v := .agg #[.int .i64 0, .int .i64 x]) (by simp [results, Tryz.results157, go_sem, e0, e1]) rfl ⟨0, x, by omega, by omega, by omega, by omega, rfl, hCf, hGf⟩
end Go.Proofs.YtaoodcielfabdaaGreat

/- A drawn word of a table, as bytes. -/
namespace Go.Proofs.YtaoodcielfabdaaGreat
open Go.RowKit
set_option linter.unusedVariables false
set_option maxRecDepth 100000

set_option maxHeartbeats 3200000 in
theorem l2word_any (w0 w : World) (g : Nat) (code : Value) (l : List Int) (h : Cur w0 w g code l) :
    Calls Tryz.prog 127 #[.pointer (some ⟨g, 0, none⟩)] w fun e w' => ∃ a c m, e = .returned (.slice a m.length c) ∧ RowM w' w.heap.size (.slice a m.length c) m ∧ m.length ≤ 8 ∧ Cur w0 w' g code l ∧ w.grownBy w' (some g) := by
  have hgl := h.lt
  have hA := (Below.refl w.heap.size w).alloc (Nat.le_refl _) (.cells #[.string ⟨#[120]⟩, .string ⟨#[]⟩, .string ⟨#[97, 32, 98]⟩, .string ⟨#[49, 32, 60, 32, 50]⟩, .string ⟨#[97, 38, 98]⟩, .string ⟨#[34, 113, 34]⟩, .string ⟨#[104, 101, 108, 108, 111]⟩, .string ⟨#[38, 108, 116, 59]⟩, .string ⟨#[60, 112, 62]⟩, .string ⟨#[60, 47, 98, 62]⟩] 9)
  have lt := Loc.made w #[.string ⟨#[120]⟩, .string ⟨#[]⟩, .string ⟨#[97, 32, 98]⟩, .string ⟨#[49, 32, 60, 32, 50]⟩, .string ⟨#[97, 38, 98]⟩, .string ⟨#[34, 113, 34]⟩, .string ⟨#[104, 101, 108, 108, 111]⟩, .string ⟨#[38, 108, 116, 59]⟩, .string ⟨#[60, 112, 62]⟩, .string ⟨#[60, 47, 98, 62]⟩] 9
  have HC := hide (l1Below_any w0 _ g code l 10 (h.keepAll hA) (by omega) (by omega))
  have LL := hide (And.intro hA lt)
  clear hA lt h
  go_enter Tryz.func127, Tryz.ntmps127
  go_wp2_with fail
  refine (unhide HC).mono ?_
  rintro e w1 ⟨x, hx0, hx1, rfl, hCur, hG⟩
  obtain ⟨hA, lt⟩ := unhide LL
  clear LL HC
  have hlt := lt.lt
  have lt1 := lt.frm (Frm.ofGrown hG) (by simp; omega)
  have hG1 := grown_below' hA hG
  have hsz := hG1.size
  obtain ⟨k, rfl⟩ := Int.eq_ofNat_of_zero_le hx0
  obtain ⟨s, hs, hs8⟩ : ∃ s : ByteArray, w1.cell? ⟨w.heap.size, k, none⟩ = some (.string s) ∧ s.size ≤ 8 := by
    rw [lt1.cell k]
    have hk : k < 10 := by omega
    match k, hk with
    | 0, _ => exact ⟨_, rfl, by decide⟩
    | 1, _ => exact ⟨_, rfl, by decide⟩
    | 2, _ => exact ⟨_, rfl, by decide⟩
    | 3, _ => exact ⟨_, rfl, by decide⟩
    | 4, _ => exact ⟨_, rfl, by decide⟩
    | 5, _ => exact ⟨_, rfl, by decide⟩
    | 6, _ => exact ⟨_, rfl, by decide⟩
    | 7, _ => exact ⟨_, rfl, by decide⟩
    | 8, _ => exact ⟨_, rfl, by decide⟩
    | 9, _ => exact ⟨_, rfl, by decide⟩
  obtain ⟨w2, cap, hrun, hrow, hB⟩ := conv_row w1 s (by omega)
  have KK := hide (show ∃ a c m, (Value.slice (some ⟨w1.heap.size, 0, none⟩) s.size cap) = .slice a m.length c ∧ RowM w2 w.heap.size (.slice a m.length c) m ∧ m.length ≤ 8 ∧ Cur w0 w2 g code l ∧ w.grownBy w2 (some g) from ⟨_, _, strL s, by rw [strL_len], by rw [strL_len]; exact hrow.mono hsz, by rw [strL_len]; exact hs8, hCur.keepAll hB, grown_below hG1 hB⟩)
  clear hA lt lt1 hG hG1 hCur hrow hB hlt
  have hk : (k : Int) < 10 := hx1
  go_wp2_with fail
  go_ret
  obtain ⟨a, c, m, e, h1⟩ := unhide KK
  exact ⟨a, c, m, congrArg Ending.returned e, h1⟩
set_option maxHeartbeats 3200000 in
theorem l2name_any (w0 w : World) (g : Nat) (code : Value) (l : List Int) (h : Cur w0 w g code l) :
    Calls Tryz.prog 125 #[.pointer (some ⟨g, 0, none⟩)] w fun e w' => ∃ a c m, e = .returned (.slice a m.length c) ∧ RowM w' w.heap.size (.slice a m.length c) m ∧ m.length ≤ 8 ∧ Cur w0 w' g code l ∧ w.grownBy w' (some g) := by
  have hgl := h.lt
  have hA := (Below.refl w.heap.size w).alloc (Nat.le_refl _) (.cells #[.string ⟨#[112]⟩, .string ⟨#[98]⟩, .string ⟨#[105]⟩, .string ⟨#[100, 105, 118]⟩, .string ⟨#[117, 108]⟩, .string ⟨#[108, 105]⟩, .string ⟨#[98, 114]⟩, .string ⟨#[104, 49]⟩] 9)
  have lt := Loc.made w #[.string ⟨#[112]⟩, .string ⟨#[98]⟩, .string ⟨#[105]⟩, .string ⟨#[100, 105, 118]⟩, .string ⟨#[117, 108]⟩, .string ⟨#[108, 105]⟩, .string ⟨#[98, 114]⟩, .string ⟨#[104, 49]⟩] 9
  have HC := hide (l1Below_any w0 _ g code l 8 (h.keepAll hA) (by omega) (by omega))
  have LL := hide (And.intro hA lt)
  clear hA lt h
  go_enter Tryz.func125, Tryz.ntmps125
  go_wp2_with fail
  refine (unhide HC).mono ?_
  rintro e w1 ⟨x, hx0, hx1, rfl, hCur, hG⟩
  obtain ⟨hA, lt⟩ := unhide LL
  clear LL HC
  have hlt := lt.lt
  have lt1 := lt.frm (Frm.ofGrown hG) (by simp; omega)
  have hG1 := grown_below' hA hG
  have hsz := hG1.size
  obtain ⟨k, rfl⟩ := Int.eq_ofNat_of_zero_le hx0
  obtain ⟨s, hs, hs8⟩ : ∃ s : ByteArray, w1.cell? ⟨w.heap.size, k, none⟩ = some (.string s) ∧ s.size ≤ 8 := by
    rw [lt1.cell k]
    have hk : k < 8 := by omega
    match k, hk with
    | 0, _ => exact ⟨_, rfl, by decide⟩
    | 1, _ => exact ⟨_, rfl, by decide⟩
    | 2, _ => exact ⟨_, rfl, by decide⟩
    | 3, _ => exact ⟨_, rfl, by decide⟩
    | 4, _ => exact ⟨_, rfl, by decide⟩
    | 5, _ => exact ⟨_, rfl, by decide⟩
    | 6, _ => exact ⟨_, rfl, by decide⟩
    | 7, _ => exact ⟨_, rfl, by decide⟩
  obtain ⟨w2, cap, hrun, hrow, hB⟩ := conv_row w1 s (by omega)
  have KK := hide (show ∃ a c m, (Value.slice (some ⟨w1.heap.size, 0, none⟩) s.size cap) = .slice a m.length c ∧ RowM w2 w.heap.size (.slice a m.length c) m ∧ m.length ≤ 8 ∧ Cur w0 w2 g code l ∧ w.grownBy w2 (some g) from ⟨_, _, strL s, by rw [strL_len], by rw [strL_len]; exact hrow.mono hsz, by rw [strL_len]; exact hs8, hCur.keepAll hB, grown_below hG1 hB⟩)
  clear hA lt lt1 hG hG1 hCur hrow hB hlt
  have hk : (k : Int) < 8 := hx1
  go_wp2_with fail
  go_ret
  obtain ⟨a, c, m, e, h1⟩ := unhide KK
  exact ⟨a, c, m, congrArg Ending.returned e, h1⟩
end Go.Proofs.YtaoodcielfabdaaGreat

/- A region that draws its order, by what is said at each point of its way: a step for each operation, in place of a way for each order. Plain, and in a round of a loop over a function. No program. -/
namespace Go.Proofs.YtaoodcielfabdaaGreat
open Go.RowKit
set_option linter.unusedVariables false

/-- How many are not yet listed. -/
def todo : List Bool → Nat
  | [] => 0
  | b :: l => (if b then 0 else 1) + todo l
theorem todo_set : ∀ (l : List Bool) (i : Nat), l[i]? = some false → todo (l.set i true) + 1 = todo l
  | [], i, h => by simp at h
  | b :: l, 0, h => by
    have e : b = false := by simpa using h
    subst e
    simp only [List.set_cons_zero, todo, if_true, Bool.false_eq_true, if_false]
    omega
  | b :: l, i + 1, h => by
    have ih := todo_set l i (by simpa using h)
    simp only [List.set_cons_succ, todo]
    omega
theorem todo_none : ∀ (l : List Bool), todo l = 0 → ∀ (i : Nat) (b : Bool), l[i]? = some b → b = true
  | [], _, i, b, h => by simp at h
  | c :: l, h0, 0, b, h => by
    have e : c = b := by simpa using h
    subst e
    cases c with
    | true => rfl
    | false => simp [todo] at h0
  | c :: l, h0, i + 1, b, h => todo_none l (by simp only [todo] at h0; omega) i b (by simpa using h)
theorem todo_all (n : Nat) : todo (List.replicate n false) = n := by
  induction n with
  | zero => rfl
  | succ n ih => rw [List.replicate_succ]; simp only [todo, Bool.false_eq_true, if_false]; omega
theorem ready_off {md : Region.Mode} {ops : Array Oper} {L : Array Bool} {i : Nat} (hs : L.size = ops.size) (h : i ∈ Region.ready md ops L) : L.toList[i]? = some false := by
  unfold Region.ready at h
  rw [List.mem_filter, List.mem_range, Bool.and_eq_true] at h
  obtain ⟨h1, h2, _⟩ := h
  have hi : i < L.size := by omega
  rw [Array.getD_eq_getD_getElem?, Array.getElem?_eq_getElem hi] at h2
  rw [Array.getElem?_toList, Array.getElem?_eq_getElem hi]
  simpa using h2
theorem ready_none {md : Region.Mode} {ops : Array Oper} {L : Array Bool} (hs : L.size = ops.size) (h : todo L.toList = 0) : Region.ready md ops L = [] := by
  rw [List.eq_nil_iff_forall_not_mem]
  intro i hi
  have := todo_none _ h i false (ready_off hs hi)
  cases this

/-- What an operation waits for is listed where it is ready. -/
theorem ready_pred {md : Region.Mode} {ops : Array Oper} {L : Array Bool} {i : Nat} {o : Oper} (h : i ∈ Region.ready md ops L) (ho : ops[i]? = some o) (j : Nat) (he : o.after.any (fun e => Region.binds md e && e.on == j) = true) : L.getD j false = true := by
  unfold Region.ready at h
  rw [List.mem_filter, Bool.and_eq_true, ho] at h
  obtain ⟨_, _, h3⟩ := h
  simp only [Option.map_some, Option.getD_some] at h3
  rw [Array.any_eq_true] at he
  obtain ⟨k, hk, hb⟩ := he
  rw [Bool.and_eq_true, beq_iff_eq] at hb
  rw [Array.all_eq_true] at h3
  have := h3 k hk
  rw [Bool.or_eq_true, hb.1, hb.2] at this
  simpa using this
theorem ready_lt {md : Region.Mode} {ops : Array Oper} {L : Array Bool} {i : Nat} (h : i ∈ Region.ready md ops L) : i < ops.size := by
  unfold Region.ready at h
  rw [List.mem_filter, List.mem_range] at h
  exact h.1
/-- Where each waits for earlier ones alone, none is ready only behind the last. -/
theorem ready_all {md : Region.Mode} {ops : Array Oper} {L : Array Bool} (hs : L.size = ops.size) (hb : (List.range ops.size).all (fun i => ((ops[i]?).map fun o => o.after.all fun e => !Region.binds md e || decide (e.on < i)).getD true) = true)
    (h : Region.ready md ops L = []) : ∀ (n i : Nat), i < n → i < ops.size → L.getD i false = true
  | 0, i, hn, _ => by omega
  | n + 1, i, hn, hi => by
    by_cases hlt : i < n
    · exact ready_all hs hb h n i hlt hi
    have e : i = n := by omega
    subst e
    have hL : i < L.size := by omega
    by_cases hf : L.getD i false = true
    · exact hf
    exfalso
    have hmem : i ∈ Region.ready md ops L := by
      unfold Region.ready
      rw [List.mem_filter, List.mem_range, Bool.and_eq_true]
      refine ⟨hi, ?_, ?_⟩
      · rw [Array.getD_eq_getD_getElem?, Array.getElem?_eq_getElem hL] at hf ⊢
        simpa using hf
      · have hbi := List.all_eq_true.1 hb i (List.mem_range.2 hi)
        rw [Array.getElem?_eq_getElem hi] at hbi ⊢
        simp only [Option.map_some, Option.getD_some] at hbi ⊢
        rw [Array.all_eq_true] at hbi ⊢
        intro k hk
        have hk' := hbi k hk
        rw [Bool.or_eq_true] at hk' ⊢
        rcases hk' with hk' | hk'
        · exact .inl hk'
        · right
          have hlt' : (ops[i].after[k]).on < i := by simpa using hk'
          exact ready_all hs hb h i _ hlt' (by omega)
    rw [h] at hmem
    cases hmem

variable {P : Program} {ops : Array Oper} {Q : Exit → Act → World → Prop}

theorem any_inv {md : Region.Mode} (I : Array Bool → Act → World → Prop) (hsz : ∀ L a w, I L a w → L.size = ops.size)
    (hstep : ∀ L a w i o, I L a w → i ∈ Region.ready md ops L → ops[i]? = some o → if Region.wanted o (yielded ops a.tmps) = true then Oper.wp P o a w (I (L.setIfInBounds i true)) Q else I (L.setIfInBounds i true) (a.put o.dst undef) w)
    (hdone : ∀ L a w, I L a w → Region.ready md ops L = [] → Q .normal a w) :
    ∀ (fuel : Nat) (L : Array Bool) (a : Act) (w : World), todo L.toList ≤ fuel → I L a w → wpAny P md ops Q fuel L a w
  | 0, L, a, w, hf, hI => by
    have hr := ready_none (md := md) (hsz L a w hI) (by omega)
    exact ⟨hr, hdone L a w hI hr⟩
  | fuel + 1, L, a, w, hf, hI => by
    refine ⟨fun hr => hdone L a w hI hr, fun i hi => ?_⟩
    have ho := todo_set _ _ (ready_off (hsz L a w hI) hi)
    have key : ∀ a' w', I (L.setIfInBounds i true) a' w' → wpAny P md ops Q fuel (L.setIfInBounds i true) a' w' := fun a' w' h' =>
      any_inv I hsz hstep hdone fuel _ a' w' (by rw [Array.toList_setIfInBounds]; omega) h'
    unfold wpOp
    cases hoi : ops[i]? with
    | none =>
      unfold Region.ready at hi
      rw [List.mem_filter, List.mem_range] at hi
      rw [Array.getElem?_eq_getElem hi.1] at hoi
      cases hoi
    | some o =>
      have hs := hstep L a w i o hI hi hoi
      simp only []
      split
      · rename_i hw
        rw [if_pos hw] at hs
        exact .inl (Oper.wp_mono key hs)
      · rename_i hw
        rw [if_neg hw] at hs
        exact key _ _ hs
/-- The region, plain. -/
theorem region_inv {id : Nat} {a : Act} {w : World} (hm : P.follows .mixedOrders = true) (I : Array Bool → Act → World → Prop) (hsz : ∀ L a w, I L a w → L.size = ops.size)
    (h0 : I (Array.replicate ops.size false) a w.drew)
    (hstep : ∀ L a w i o, I L a w → i ∈ Region.ready .any ops L → ops[i]? = some o → if Region.wanted o (yielded ops a.tmps) = true then Oper.wp P o a w (I (L.setIfInBounds i true)) Q else I (L.setIfInBounds i true) (a.put o.dst undef) w)
    (hdone : ∀ L a w, I L a w → Region.ready .any ops L = [] → Q .normal a w) : (Code.region id ops true).wp P Q a w :=
  wp_region_any hm (any_inv I hsz hstep hdone _ _ _ _ (by rw [Array.toList_replicate, todo_all]; exact Nat.le_refl _) h0)
end Go.Proofs.YtaoodcielfabdaaGreat

/- spec.l2drawAttrs draws a row of attributes. -/
namespace Go.Proofs.YtaoodcielfabdaaGreat
open Go.RowKit
set_option linter.unusedVariables false
set_option maxRecDepth 100000

def La7 (w0 w1 w2 : World) (g B0 j : Nat) (code : Value) (l : List Int) (s : ByteArray) (a0 : Option Addr) (c0 : Nat) (m : List (List Int × List Int)) (F : List Nat) (U11 U12 : Value) (L : Array Bool) (a : Act) (w : World) : Prop :=
  ∃ b0 b1 b2 b3 b4 b5 b6 b7 b8 b9 b10 b11 x3 x15 x16 x17 x18 x19 x20 x21 x22 x23 x24 x25, L = #[b0, b1, b2, b3, b4, b5, b6, b7, b8, b9, b10, b11] ∧ a = { tmps := #[.pointer (some ⟨g, 0, none⟩), undef, .slice none 0 0, x3, .slice (some ⟨B0, 0, none⟩) 3 3, .int .i64 (j : Int), .slice (some ⟨B0, 0, none⟩) 3 3, .int .i64 (j : Int), .slice (some ⟨B0, 0, none⟩) 3 3, .int .i64 3, .bool true, U11, U12, .pointer (some ⟨g, 0, none⟩), .bool true, x15, x16, x17, x18, x19, x20, x21, x22, x23, x24, x25, undef], defers := [] } ∧ Cur w0 w g code l ∧ w1.grownBy w (some g) ∧ w2.heap.size ≤ w.heap.size ∧ (b10 = false → OwAttrsM w (.slice a0 m.length c0) m F) ∧ (b11 = false → x3 = .slice a0 m.length c0) ∧ (b5 = true → b7 = true → ∀ q ∈ FB x20, q ∉ FB x22) ∧ (b0 = true → x15 = .slice a0 m.length c0) ∧ (b1 = true → x16 = .slice (some ⟨B0, 0, none⟩) 3 3) ∧ (b2 = true → x17 = .int .i64 (j : Int)) ∧ (b3 = true → x18 = .pointer (some ⟨B0, j, none⟩)) ∧ (b4 = true → x19 = .string s) ∧ (b5 = true → RowM w w2.heap.size x20 (strL s)) ∧ (b6 = true → x21 = .pointer (some ⟨g, 0, none⟩)) ∧ (b7 = true → ∃ l2, RowM w w2.heap.size x22 l2 ∧ l2.length ≤ 8) ∧ (b8 = true → b5 = true ∧ b7 = true ∧ x23 = .agg #[x20, x22]) ∧ (b9 = true → b8 = true ∧ ∃ z, w2.heap.size ≤ z ∧ x24 = .slice (some ⟨z, 0, none⟩) 1 1 ∧ Loc w z #[x20, x22] 109) ∧ (b10 = true → b9 = true ∧ b0 = true ∧ ∃ a9 c9 l2 F9, x25 = .slice a9 (m.length + 1) c9 ∧ OwAttrsM w x25 (m ++ [(strL s, l2)]) F9 ∧ F9.Nodup ∧ Rng F9 w1.heap.size w.heap.size ∧ l2.length ≤ 8) ∧ (b11 = true → b10 = true ∧ x3 = x25)
theorem La7_cases {i : Nat} (h : i < 12) : i = 0 ∨ i = 1 ∨ i = 2 ∨ i = 3 ∨ i = 4 ∨ i = 5 ∨ i = 6 ∨ i = 7 ∨ i = 8 ∨ i = 9 ∨ i = 10 ∨ i = 11 := by omega

theorem OwAttrM.frm {w w' : World} {S : List Nat} {C : List Value} {x : List Int × List Int} {G : List Nat} (h : OwAttrM w C x G) (f : Frm w w' S) (hG : ∀ g ∈ G, g ∉ S) : OwAttrM w' C x G := by
  obtain ⟨a, b, e, h1, h2, h3⟩ := h
  subst h3
  exact ⟨a, b, e, h1.frm f (fun g hg => hG g (by simp [hg])), h2.frm f (fun g hg => hG g (by simp [hg])), rfl⟩
theorem OwAttrM.lt {w : World} {C : List Value} {x : List Int × List Int} {G : List Nat} (h : OwAttrM w C x G) : ∀ g ∈ G, g < w.heap.size := by
  obtain ⟨a, b, _, h1, h2, rfl⟩ := h
  intro g hg
  rcases List.mem_append.1 hg with h | h
  · exact (h1.lt g (by simpa [FB] using h)).2
  · exact (h2.lt g (by simpa [FB] using h)).2
theorem OwElems.ltM {α : Type} {w : World} {e : TypeId} {size : Nat} {v : Value} {l : List α} {R : List Value → α → List Nat → Prop} {F : List Nat} (h : OwElems w e size v l R F) (hR : ∀ C x G, R C x G → ∀ g ∈ G, g < w.heap.size) : ∀ g ∈ F, g < w.heap.size := by
  obtain ⟨Cs, Fs, h1, h2, h3, h4, rfl⟩ := h
  intro g hg
  rcases List.mem_append.1 hg with h | h
  · exact (h4.lt g (by simpa [FB] using h)).2
  · obtain ⟨G, hG, hgG⟩ := List.mem_flatten.1 h
    obtain ⟨i, hi, rfl⟩ := List.getElem_of_mem hG
    have := (h3 i (by omega)).2
    rw [show Fs.getD i [] = Fs[i] by simp [hi]] at this
    exact hR _ _ _ this g hgG
/-- The type's row of the program's table. -/
theorem attr_info : (Tryz.prog.info? 109).map (fun i => (i.zero, i.size, i.bytes)) = some (some (.agg #[.slice none 0 0, .slice none 0 0]), 2, 48) := by kernel_rfl
/-- The cursor, and what has grown, behind a change of blocks made since. -/
theorem Frm.someGrown {w w' : World} {v : Value} (f : Frm w w' (FB v)) : w.grownBy w' v.ownBlock := ⟨f.os, f.tape, f.output, f.size, fun k hk hn => f.block k hk (fun e => hn (by simpa [FB, eq_comm] using e))⟩
theorem Cur.keepF {w0 w w' : World} {g : Nat} {code v : Value} {l : List Int} (h : Cur w0 w g code l) (f : Frm w w' (FB v)) (hg : g ∉ FB v) (hn : ∀ q ∈ FB v, w0.heap.size ≤ q) : Cur w0 w' g code l :=
  h.keep f.someGrown (fun e => hg (by simp [FB, ← e])) (fun k hk => hn k (by simp [FB, hk]))
theorem grown_frm {a b c : World} {row : Option Nat} {v : Value} (h : a.grownBy b row) (f : Frm b c (FB v)) (hn : ∀ q ∈ FB v, a.heap.size ≤ q) : a.grownBy c row := grown_new h f.someGrown (fun q hq => hn q (by simp [FB, hq]))
def SmA (m : List (List Int × List Int)) : Prop := ∀ x ∈ m, x.1.length ≤ 8 ∧ x.2.length ≤ 8
/-- A drawn row of attributes, in blocks from B on. -/
def DrAttrs (B : Nat) (w : World) (v : Value) (m : List (List Int × List Int)) : Prop := ∃ F, OwAttrsM w v m F ∧ F.Nodup ∧ Rng F B w.heap.size ∧ SmA m

set_option maxHeartbeats 12800000 in
theorem l2attrs_any (w0 w : World) (g : Nat) (code : Value) (l : List Int) (h : Cur w0 w g code l) :
    Calls Tryz.prog 126 #[.pointer (some ⟨g, 0, none⟩)] w fun e w' => ∃ a c m, e = .returned (.slice a m.length c) ∧ DrAttrs w.heap.size w' (.slice a m.length c) m ∧ m.length ≤ 3 ∧ Cur w0 w' g code l ∧ w.grownBy w' (some g) := by
  have hgl := h.lt
  have hnew := h.new
  have hA := (Below.refl w.heap.size w).alloc (Nat.le_refl _) (.cells #[.string ⟨#[99, 108, 97, 115, 115]⟩, .string ⟨#[105, 100]⟩, .string ⟨#[107]⟩] 9)
  have lt1 := Loc.made w #[.string ⟨#[99, 108, 97, 115, 115]⟩, .string ⟨#[105, 100]⟩, .string ⟨#[107]⟩] 9
  have hC1 := h.keepAll hA
  have hsz : w.heap.size < (w.alloc (.cells #[.string ⟨#[99, 108, 97, 115, 115]⟩, .string ⟨#[105, 100]⟩, .string ⟨#[107]⟩] 9)).heap.size := by simp
  obtain ⟨i0, hi0, hz0, hz1, hz2⟩ := info_parts attr_info
  have HI := hide (And.intro hi0 (And.intro hz0 (And.intro hz1 hz2)))
  have LL := hide (And.intro hA (And.intro lt1 (And.intro hC1 hsz)))
  have hw0 := h.below.size
  clear hA lt1 hC1 hsz hi0 hz0 hz1 hz2 h
  go_enter Tryz.func126, Tryz.ntmps126
  go_wp2_with fail
  obtain ⟨hA, lt1, hC1, hsz⟩ := unhide LL
  clear LL
  generalize (w.alloc (.cells #[.string ⟨#[99, 108, 97, 115, 115]⟩, .string ⟨#[105, 100]⟩, .string ⟨#[107]⟩] 9)) = w1 at *
  go_loopw [3, 5] (fun o i wr => ∃ (j : Nat) (a : Option Addr) (c : Nat) (m : List (List Int × List Int)) (F : List Nat), j ≤ 3 ∧ i = .int .i64 j ∧ o = .slice a m.length c ∧ OwAttrsM wr (.slice a m.length c) m F ∧ F.Nodup ∧ Rng F w1.heap.size wr.heap.size ∧ m.length ≤ j ∧ SmA m ∧ Cur w0 wr g code l ∧ w1.grownBy wr (some g)) (fun _ i _ => 3 - (intOf i).toNat)
  case atStart => exact ⟨0, none, 0, [], [], Nat.zero_le _, rfl, rfl, OwAttrsM.nil _, List.nodup_nil, (fun q hq => by simp at hq), Nat.le_refl _, (fun x hx => by simp at hx), hC1, ⟨rfl, rfl, rfl, Nat.le_refl _, fun _ _ _ => rfl⟩⟩
  case round =>
    obtain ⟨j, a0, c0, m, F, hj, rfl, rfl, hO, hN, hR, hml, hSm, hC, hG⟩ := hrel
    clear hC1
    by_cases hlt : j < 3
    · have hlt' : (j : Int) < 3 := by omega
      go_wp2_with fail
      refine (l1Once_any w0 wr g code l 5 hC (by omega) (by omega)).mono ?_
      rintro e w2 ⟨bb, rfl, hC2, hG2⟩
      have hgF : ∀ q ∈ F, q ∉ [g] := fun q hq hq' => by have := (hR q hq).1; simp at hq'; omega
      have hO2 := OwAttrsM.frm hO (Frm.ofGrown hG2) (fun q hq => by simpa using hgF q hq)
      have hGG := grown_trans hG hG2
      have hR2 : Rng F w1.heap.size w2.heap.size := hR.mono (Nat.le_refl _) hG2.size
      clear hC hG hO hR hG2
      cases bb with
      | false =>
        go_wp2_with fail
        go_roundw
        case rel => exact ⟨j + 1, a0, c0, m, F, by omega, by go_num, rfl, hO2, hN, hR2, by omega, hSm, hC2, hGG⟩
        case measure => simp [intOf]; omega
      | true =>
      have hBg : w.heap.size ∉ (some g).toList := by simp; omega
      obtain ⟨s, hs, hs8⟩ : ∃ s : ByteArray, (#[.string ⟨#[99, 108, 97, 115, 115]⟩, .string ⟨#[105, 100]⟩, .string ⟨#[107]⟩] : Array Value)[j]? = some (.string s) ∧ s.size ≤ 8 := by
        match j, hlt with
        | 0, _ => exact ⟨_, rfl, by decide⟩
        | 1, _ => exact ⟨_, rfl, by decide⟩
        | 2, _ => exact ⟨_, rfl, by decide⟩
      go_wp2_with fail
      generalize hB0 : w.heap.size = B0 at *
      have h12 := hGG.size
      refine region_inv (by kernel_rfl) (La7 w0 w1 w2 g B0 j code l s a0 c0 m F u11 u12) ?sz ?h0 ?step ?dn
      case sz =>
        rintro L a w ⟨b0, b1, b2, b3, b4, b5, b6, b7, b8, b9, b10, b11, x3, x15, x16, x17, x18, x19, x20, x21, x22, x23, x24, x25, rfl, _⟩
        rfl
      case h0 =>
        refine ⟨false, false, false, false, false, false, false, false, false, false, false, false, _, _, _, _, _, _, _, _, _, _, _, _, rfl, rfl, hC2.keepAll ((Below.refl _ _).drew), grown_drew hGG, Nat.le_refl _, (fun _ => OwAttrsM.frm hO2 (Frm.ofBelow ((Below.refl _ _).drew) []) (fun _ _ => by simp)), (fun _ => rfl), (fun e => by cases e), ?_⟩
        simp
      case step =>
        obtain ⟨hi0, hz0, hz1, hz2⟩ := unhide HI
        intro L a w i o hI hi ho
        obtain ⟨b0, b1, b2, b3, b4, b5, b6, b7, b8, b9, b10, b11, x3, x15, x16, x17, x18, x19, x20, x21, x22, x23, x24, x25, rfl, rfl, h0, h1, h2, h3, h4, h5, f0, f1, f2, f3, f4, f5, f6, f7, f8, f9, f10, f11⟩ := hI
        rcases La7_cases (ready_lt hi) with rfl | rfl | rfl | rfl | rfl | rfl | rfl | rfl | rfl | rfl | rfl | rfl
        · obtain rfl := Option.some.inj ho
          have hb0 : b0 = false := by simpa using ready_off rfl hi
          have e3 := h4 (by
            cases b11 with
            | false => rfl
            | true => have := (f10 (f11 rfl).1).2.1; rw [hb0] at this; cases this)
          subst e3
          go_simp
          exact ⟨true, b1, b2, b3, b4, b5, b6, b7, b8, b9, b10, b11, _, _, x16, x17, x18, x19, x20, x21, x22, x23, x24, x25, rfl, rfl, h0, h1, h2, h3, h4, h5, (fun _ => rfl), f1, f2, f3, f4, f5, f6, f7, f8, f9, (fun h => by have := (f10 h).2.1; rw [hb0] at this; cases this), (fun h => by have := (f10 (f11 h).1).2.1; rw [hb0] at this; cases this)⟩
        · obtain rfl := Option.some.inj ho
          go_simp
          exact ⟨b0, true, b2, b3, b4, b5, b6, b7, b8, b9, b10, b11, x3, x15, _, x17, x18, x19, x20, x21, x22, x23, x24, x25, rfl, rfl, h0, h1, h2, h3, h4, h5, f0, (fun _ => rfl), f2, f3, f4, f5, f6, f7, f8, f9, f10, f11⟩
        · obtain rfl := Option.some.inj ho
          go_simp
          exact ⟨b0, b1, true, b3, b4, b5, b6, b7, b8, b9, b10, b11, x3, x15, x16, _, x18, x19, x20, x21, x22, x23, x24, x25, rfl, rfl, h0, h1, h2, h3, h4, h5, f0, f1, (fun _ => rfl), f3, f4, f5, f6, f7, f8, f9, f10, f11⟩
        · have g1 := ready_pred hi ho 1
          have g2 := ready_pred hi ho 2
          obtain rfl := Option.some.inj ho
          have e1 := f1 (g1 (by kernel_rfl))
          subst e1
          have e2 := f2 (g2 (by kernel_rfl))
          subst e2
          go_simp
          exact ⟨b0, b1, b2, true, b4, b5, b6, b7, b8, b9, b10, b11, x3, x15, _, _, _, x19, x20, x21, x22, x23, x24, x25, rfl, rfl, h0, h1, h2, h3, h4, h5, f0, f1, f2, (fun _ => rfl), f4, f5, f6, f7, f8, f9, f10, f11⟩
        · have g3 := ready_pred hi ho 3
          obtain rfl := Option.some.inj ho
          have e3 := f3 (g3 (by kernel_rfl))
          subst e3
          have cs : w.cell? ⟨B0, j, none⟩ = some (.string s) := ((lt1.frm (Frm.ofGrown h1) hBg).cell j).trans hs
          go_simp
          exact ⟨b0, b1, b2, b3, true, b5, b6, b7, b8, b9, b10, b11, x3, x15, x16, x17, _, _, x20, x21, x22, x23, x24, x25, rfl, rfl, h0, h1, h2, h3, h4, h5, f0, f1, f2, f3, (fun _ => rfl), f5, f6, f7, f8, f9, f10, f11⟩
        · have g4 := ready_pred hi ho 4
          obtain rfl := Option.some.inj ho
          have e4 := f4 (g4 (by kernel_rfl))
          subst e4
          have hbz : b5 = false := by simpa using ready_off rfl hi
          obtain ⟨w', cap, hrun, hrow, hb'⟩ := conv_row w s (by omega)
          go_simp
          exact ⟨b0, b1, b2, b3, b4, true, b6, b7, b8, b9, b10, b11, x3, x15, x16, x17, x18, _, _, x21, x22, x23, x24, x25, rfl, rfl, h0.keepAll hb', grown_below h1 hb', Nat.le_trans h2 hb'.size, (fun e => OwAttrsM.frm (h3 e) (Frm.ofBelow hb' []) (fun _ _ => by simp)), h4, (fun _ e7 q hq hq' => by obtain ⟨l2, r1, r2⟩ := f7 e7; have := (hrow.lt q (by simpa [FB] using hq)).1; have := (r1.lt q (by simpa [FB] using hq')).2; omega), f0, f1, f2, f3, f4, (fun _ => hrow.mono h2), f6, (fun h => by obtain ⟨l2, r1, r2⟩ := f7 h; exact ⟨l2, r1.keep hb', r2⟩), (fun h => by have := (f8 h).1; rw [hbz] at this; cases this), (fun h => by have := (f8 (f9 h).1).1; rw [hbz] at this; cases this), (fun h => by have := (f8 (f9 (f10 h).1).1).1; rw [hbz] at this; cases this), (fun h => by have := (f8 (f9 (f10 (f11 h).1).1).1).1; rw [hbz] at this; cases this)⟩
        · obtain rfl := Option.some.inj ho
          go_simp
          exact ⟨b0, b1, b2, b3, b4, b5, true, b7, b8, b9, b10, b11, x3, x15, x16, x17, x18, x19, x20, _, x22, x23, x24, x25, rfl, rfl, h0, h1, h2, h3, h4, h5, f0, f1, f2, f3, f4, f5, (fun _ => rfl), f7, f8, f9, f10, f11⟩
        · have g6 := ready_pred hi ho 6
          obtain rfl := Option.some.inj ho
          have e6 := f6 (g6 (by kernel_rfl))
          subst e6
          have hbz : b7 = false := by simpa using ready_off rfl hi
          go_simp
          refine (l2word_any w0 w g code l h0).mono ?_
          rintro e w' ⟨a2, c2, l2, rfl, hrow, hl8, hC', hg'⟩
          exact ⟨b0, b1, b2, b3, b4, b5, b6, true, b8, b9, b10, b11, x3, x15, x16, x17, x18, x19, x20, _, _, x23, x24, x25, rfl, rfl, hC', grown_trans h1 hg', Nat.le_trans h2 hg'.size, (fun e => OwAttrsM.frm (h3 e) (Frm.ofGrown hg') (fun q hq => by simpa using hgF q hq)), h4, (fun e5 _ q hq hq' => by have := ((f5 e5).lt q (by simpa [FB] using hq)).2; have := (hrow.lt q (by simpa [FB] using hq')).1; omega), f0, f1, f2, f3, f4, (fun h => (f5 h).keepBy hg' (fun q hq e => by have := ((f5 h).lt q hq).1; cases e; omega)), f6, (fun _ => ⟨l2, hrow.mono h2, hl8⟩), (fun h => by have := (f8 h).2.1; rw [hbz] at this; cases this), (fun h => by have := (f8 (f9 h).1).2.1; rw [hbz] at this; cases this), (fun h => by have := (f8 (f9 (f10 h).1).1).2.1; rw [hbz] at this; cases this), (fun h => by have := (f8 (f9 (f10 (f11 h).1).1).1).2.1; rw [hbz] at this; cases this)⟩
        · have g5 := ready_pred hi ho 5
          have g7 := ready_pred hi ho 7
          obtain rfl := Option.some.inj ho
          have e5 : b5 = true := g5 (by kernel_rfl)
          have e7 : b7 = true := g7 (by kernel_rfl)
          subst e5 e7
          obtain ⟨l2, r1, r2⟩ := f7 rfl
          obtain ⟨p4, k4, hv4⟩ := (f5 rfl).shape
          obtain ⟨p5, k5, hv5⟩ := r1.shape
          subst hv4 hv5
          have hbz : b8 = false := by simpa using ready_off rfl hi
          go_simp
          exact ⟨b0, b1, b2, b3, b4, true, b6, true, true, b9, b10, b11, x3, x15, x16, x17, x18, x19, _, x21, _, _, x24, x25, rfl, rfl, h0, h1, h2, h3, h4, h5, f0, f1, f2, f3, f4, f5, f6, f7, (fun _ => ⟨rfl, rfl, rfl⟩), (fun h => by have := (f9 h).1; rw [hbz] at this; cases this), (fun h => by have := (f9 (f10 h).1).1; rw [hbz] at this; cases this), (fun h => by have := (f9 (f10 (f11 h).1).1).1; rw [hbz] at this; cases this)⟩
        · have g8 := ready_pred hi ho 8
          obtain rfl := Option.some.inj ho
          have e8 : b8 = true := g8 (by kernel_rfl)
          obtain ⟨e5, e7, e23⟩ := f8 e8
          subst e5 e7 e8 e23
          obtain ⟨l2, r1, r2⟩ := f7 rfl
          obtain ⟨p4, k4, hv4⟩ := (f5 rfl).shape
          obtain ⟨p5, k5, hv5⟩ := r1.shape
          subst hv4 hv5
          have hbz : b9 = false := by simpa using ready_off rfl hi
          have hb' : Below w.heap.size w (w.alloc (.cells #[.slice p4 (strL s).length k4, .slice p5 l2.length k5] 109)) := (Below.refl _ _).alloc (Nat.le_refl _) _
          go_simp
          exact ⟨b0, b1, b2, b3, b4, true, b6, true, true, true, b10, b11, x3, x15, x16, x17, x18, x19, _, x21, _, _, _, x25, rfl, rfl, h0.keepAll hb', grown_below h1 hb', Nat.le_trans h2 hb'.size, (fun e => OwAttrsM.frm (h3 e) (Frm.ofBelow hb' []) (fun _ _ => by simp)), h4, h5, f0, f1, f2, f3, f4, (fun _ => (f5 rfl).keep hb'), f6, (fun _ => ⟨l2, r1.keep hb', r2⟩), (fun _ => ⟨rfl, rfl, rfl⟩), (fun _ => ⟨rfl, w.heap.size, h2, rfl, Loc.made w _ _⟩), (fun h => by have := (f10 h).1; rw [hbz] at this; cases this), (fun h => by have := (f10 (f11 h).1).1; rw [hbz] at this; cases this)⟩
        · have g0 := ready_pred hi ho 0
          have g9 := ready_pred hi ho 9
          obtain rfl := Option.some.inj ho
          have e0 : b0 = true := g0 (by kernel_rfl)
          have e9 : b9 = true := g9 (by kernel_rfl)
          have e15 := f0 e0
          obtain ⟨e8, z, z1, z2, z3⟩ := f9 e9
          obtain ⟨e5, e7, e23⟩ := f8 e8
          have hbz : b10 = false := by simpa using ready_off rfl hi
          subst e0 e5 e7 e8 e9 e15 z2
          obtain ⟨l2, r1, r2⟩ := f7 rfl
          have o1 := f5 rfl
          have q1 := o1.mono (Nat.zero_le _)
          have q2 := r1.mono (Nat.zero_le _)
          have hat := h3 hbz
          have hndx : (FB x20 ++ FB x22).Nodup := List.nodup_append.2 ⟨FB_nodup _, FB_nodup _, fun a ha b hb e => h5 rfl rfl a ha (e ▸ hb)⟩
          have hge : ∀ q ∈ FB x20 ++ FB x22, w2.heap.size ≤ q ∧ q < w.heap.size := fun q hq => by
            rcases List.mem_append.1 hq with h | h
            · exact o1.lt q (by simpa [FB] using h)
            · exact r1.lt q (by simpa [FB] using h)
          refine step_push (R := OwAttrM) (fun h f d => OwAttrM.frm h f d) (by rfl) (.tmp 15) (.tmp 24) 23 (by rfl) 109 i0 (.agg #[.slice none 0 0, .slice none 0 0]) 2 48 Tryz.underlying23 hi0 hz0 hz1 hz2 rfl (by decide) _ m F (by rfl) hat hN ⟨z, 0, none⟩ 1 [x20, x22] (strL s, l2) (FB x20 ++ FB x22) (by rfl) rfl (fun i u hu => World.news_of_block z3 i u (by simpa using hu)) (by intro y hy; obtain ⟨p4, k4', hv4⟩ := o1.shape; obtain ⟨p5, k5', hv5⟩ := r1.shape; simp at hy; rcases hy with rfl | rfl; (rw [hv4]; rfl); (rw [hv5]; rfl)) ⟨x20, x22, rfl, q1, q2, rfl⟩ hndx (fun g hg hg' => by have := (hR2 g hg).2; have := (hge g hg').1; omega) (fun q hq => by rcases hq with hq | hq; (have := (hR2 q hq).2; omega); (exact (hge q hq).2)) (by unfold maxLen; omega) (by omega) ?_
          intro g9 cap9 w' F9 hF9 hN9 hM9 hf9 hg9
          have hFv : ∀ q ∈ FB (.slice a0 m.length c0), q ∈ F := fun q hq => by obtain ⟨_, _, _, _, _, _, rfl⟩ := hat; exact List.mem_append_left _ hq
          have hdv : ∀ q, w2.heap.size ≤ q → q ∉ FB (.slice a0 m.length c0) := fun q hq h => by have := (hR2 q (hFv q h)).2; omega
          have hgv : g ∉ FB (.slice a0 m.length c0) := fun h => hgF g (hFv g h) (by simp)
          have hkw : Rng F9 w1.heap.size w'.heap.size := fun q hq => by
            refine ⟨?_, OwElems.ltM hF9 (fun _ _ _ hr => hr.lt) q hq⟩
            have := h1.size
            rcases hM9 q hq with h | h | h
            · exact (hR2 q h).1
            · have := (hge q h).1; omega
            · omega
          exact ⟨true, b1, b2, b3, b4, true, b6, true, true, true, true, b11, x3, _, x16, x17, x18, x19, x20, x21, x22, x23, _, _, rfl, rfl, h0.keepF hf9 hgv (fun q hq => by have := (hR2 q (hFv q hq)).1; omega), grown_frm h1 hf9 (fun q hq => (hR2 q (hFv q hq)).1), Nat.le_trans h2 hf9.size, (fun e => by cases e), h4, h5, (fun _ => rfl), f1, f2, f3, f4, (fun _ => o1.frm hf9 (fun q hq => hdv q (o1.lt q (by simpa [FB] using hq)).1)), f6, (fun _ => ⟨l2, r1.frm hf9 (fun q hq => hdv q (r1.lt q (by simpa [FB] using hq)).1), r2⟩), (fun _ => ⟨rfl, rfl, e23⟩), (fun _ => ⟨rfl, z, z1, rfl, z3.frm hf9 (hdv z z1)⟩), (fun _ => ⟨rfl, rfl, _, cap9, l2, F9, rfl, hF9, hN9, hkw, r2⟩), (fun h => by have := (f11 h).1; rw [hbz] at this; cases this)⟩
        · have g10 := ready_pred hi ho 10
          obtain rfl := Option.some.inj ho
          have e10 : b10 = true := g10 (by kernel_rfl)
          subst e10
          obtain ⟨e9, e0, hx9⟩ := f10 rfl
          obtain ⟨e8, hx8⟩ := f9 e9
          obtain ⟨e5, e7, e23⟩ := f8 e8
          subst e0 e9 e8 e5 e7 e23
          have e15 := f0 rfl
          subst e15
          clear hx9 hx8
          go_simp
          exact ⟨true, b1, b2, b3, b4, true, b6, true, true, true, true, true, _, _, x16, x17, x18, x19, x20, x21, x22, _, x24, x25, rfl, rfl, h0, h1, h2, h3, (fun e => by cases e), h5, (fun _ => rfl), f1, f2, f3, f4, f5, f6, f7, (fun _ => ⟨rfl, rfl, rfl⟩), f9, f10, (fun _ => ⟨rfl, rfl⟩)⟩
      case dn =>
        intro L a w3 hI hre
        have hall := ready_all (L := L) (by obtain ⟨b0, b1, b2, b3, b4, b5, b6, b7, b8, b9, b10, b11, x3, x15, x16, x17, x18, x19, x20, x21, x22, x23, x24, x25, rfl, _⟩ := hI; rfl) (by kernel_rfl) hre 12
        obtain ⟨b0, b1, b2, b3, b4, b5, b6, b7, b8, b9, b10, b11, x3, x15, x16, x17, x18, x19, x20, x21, x22, x23, x24, x25, rfl, rfl, h0, h1, h2, h3, h4, h5, f0, f1, f2, f3, f4, f5, f6, f7, f8, f9, f10, f11⟩ := hI
        have s11 : b11 = true := hall 11 (by omega) (by decide)
        obtain ⟨s10, e3⟩ := f11 s11
        obtain ⟨_, _, a9, c9, l2, F9, e25, r1, r2, r3, r4⟩ := f10 s10
        subst e25 e3 hB0
        have KK := hide (show OwAttrsM w3 (.slice a9 (m ++ [(strL s, l2)]).length c9) (m ++ [(strL s, l2)]) F9 by simpa using r1)
        have hS9 : SmA (m ++ [(strL s, l2)]) := fun x hx => by
          rcases List.mem_append.1 hx with h | h
          · exact hSm x h
          · simp at h; subst h; exact ⟨by rw [strL_len]; exact hs8, r4⟩
        have HH := hide (And.intro r2 (And.intro r3 (And.intro hS9 (And.intro h0 h1))))
        clear hall f0 f1 f2 f3 f4 f5 f6 f7 f8 f9 f10 f11 hre h0 h1 h2 h3 h4 h5 r1 r2 r3 hS9
        go_wp2_with fail
        go_roundw
        case rel =>
          obtain ⟨r2, r3, hS9, h0, h1⟩ := unhide HH
          exact ⟨j + 1, a9, c9, m ++ [(strL s, l2)], F9, by omega, by go_num, by simp, unhide KK, r2, r3, by simp; omega, hS9, h0, h1⟩
        case measure => simp [intOf]; omega
    · have hlt' : ¬ (j : Int) < 3 := by omega
      have KK := hide (show DrAttrs w.heap.size wr (.slice a0 m.length c0) m ∧ m.length ≤ 3 ∧ Cur w0 wr g code l ∧ w.grownBy wr (some g) from ⟨⟨F, hO, hN, hR.mono (by omega) (Nat.le_refl _), hSm⟩, by omega, hC, grown_below' hA hG⟩)
      clear hO hN hR hSm hC hG
      go_wp2_with fail
      go_ret
      exact ⟨a0, c0, m, rfl, unhide KK⟩
end Go.Proofs.YtaoodcielfabdaaGreat

/- spec.l2void ends, and changes nothing. -/
namespace Go.Proofs.YtaoodcielfabdaaGreat
open Go.RowKit
set_option linter.unusedVariables false

set_option maxHeartbeats 1600000 in
theorem l2void_ends (w : World) (v : Value) (l : List Int) (h : Byt w v l) :
    Calls Tryz.prog 103 #[v] w fun e w' => (e = .returned (.bool true) ∨ e = .returned (.bool false)) ∧ w' = w := by
  have c1 := conv_any w v l h
  obtain ⟨a1, k1, rfl, _⟩ := h.shape
  generalize str l = s at *
  cases d1 : (s.toList == [98, 114]) with
  | true =>
    go_enter Tryz.func103, Tryz.ntmps103
    go_wp2
    go_ret
    exact ⟨.inl rfl, rfl⟩
  | false =>
    cases d2 : (s.toList == [104, 114]) with
    | true =>
      go_enter Tryz.func103, Tryz.ntmps103
      go_wp2
      go_ret
      exact ⟨.inl rfl, rfl⟩
    | false =>
      go_enter Tryz.func103, Tryz.ntmps103
      go_wp2
      go_ret
      exact ⟨.inr rfl, rfl⟩
end Go.Proofs.YtaoodcielfabdaaGreat
