/- Own texts joined: L5fd, AppM, L5tk, L5ao, L5sa, SetQ, RegI, L5do. -/
import Derived.Test.YtnfafchajjclaaaGreatDoorJa
import Derived.Test.YtnfafchajjclaaaGreatDoorJb
import Derived.Test.YtnfafchajjclaaaGreatDoorJc
import Derived.Test.YtnfafchajjclaaaGreatDoorJd
import Derived.Test.YtnfafchajjclaaaGreatDoorJe
import Derived.WalkLawsBesides
import Derived.Deep.QuietTactic
import Derived.BigQuiet
import Derived.Deep.AppendLies
import Derived.Deep.Cut
import Derived.Deep.CutRange
import Derived.OrdersIn
import Derived.OwnWalkIn

/- spec.l5find. -/
namespace Go.Proofs.YtnfafchajjclaaaGreatDoor
open Go.RowKit
set_option linter.unusedVariables false
set_option maxRecDepth 100000


def findI (l : List PlV) (i : IdV) : Int := match posP l i with
  | some k => (k : Int)
  | none => -1
theorem StB.cells {w0 w : World} {sb : Nat} {a : Option Addr} {c : Nat} {l : List PlV} {F : List Nat} (h : StB w0 w sb a c l F) {j : Nat} {p : PlV} (hj : l[j]? = some p) :
    ∃ b k ck n cn t ct q cq, a = some ⟨b, 0, none⟩ ∧ b ∈ F ∧ w.cell? ⟨b, j * 9, none⟩ = some (.int .i64 p.idN) ∧ w.cell? ⟨b, j * 9 + 1, none⟩ = some (.int .i64 p.idR) ∧ w.cell? ⟨b, j * 9 + 2, none⟩ = some (.int .i64 p.parN) ∧ w.cell? ⟨b, j * 9 + 3, none⟩ = some (.int .i64 p.parR) ∧ w.cell? ⟨b, j * 9 + 4, none⟩ = some (.slice k p.key.length ck) ∧ w.cell? ⟨b, j * 9 + 5, none⟩ = some (.int .i64 p.kind) ∧ w.cell? ⟨b, j * 9 + 6, none⟩ = some (.slice n p.name.length cn) ∧ w.cell? ⟨b, j * 9 + 7, none⟩ = some (.slice t p.text.length ct) ∧ w.cell? ⟨b, j * 9 + 8, none⟩ = some (.slice q p.attrs.length cq) ∧
      Byt w (.slice n p.name.length cn) p.name ∧ RdAttrs w (.slice q p.attrs.length cq) p.attrs ∧ (∀ x, w.frozen? ⟨b, x, none⟩ = false) := by
  obtain ⟨h1, h2, h3, h4, h5, h6⟩ := h
  obtain ⟨hlt, rfl⟩ := List.getElem?_eq_some_iff.1 hj
  obtain ⟨Cs, Fs, l1, l2, hR, hrow, hF⟩ := h2
  obtain ⟨q1, q2⟩ := hR j hlt
  have hrow' := hrow
  rcases hrow.2 with ⟨_, e0⟩ | ⟨g, cap, cur, e0, hb, hg, hnc, hcm, hcs, htake⟩
  · omega
  injection e0 with x1 _ x3
  subst x1 x3
  have hcell := fun x (hx : x < 9) => own_cellAt hrow' (fun i hi => (hR i (by omega)).1) l1 j x hlt hx
  have hrd := PlF.rd q2 h6
  obtain ⟨k, n, t, q, e, r1, r2, r3, r4⟩ := hrd
  obtain ⟨ka, kc, rfl, _, _⟩ := r1.shape
  obtain ⟨na, nc, rfl, _, _⟩ := r2.shape
  obtain ⟨ta, tc, rfl, _, _⟩ := r3.shape
  obtain ⟨qa, qc, rfl, _, _⟩ := Elems.shape r4
  rw [e] at hcell
  exact ⟨g, ka, kc, na, nc, ta, tc, qa, qc, rfl, by rw [hF]; simp [FB, Value.ownBlock], hcell 0 (by decide), hcell 1 (by decide), hcell 2 (by decide), hcell 3 (by decide), hcell 4 (by decide), hcell 5 (by decide), hcell 6 (by decide), hcell 7 (by decide), hcell 8 (by decide), r2, r4, fun x => hrow'.frozenAt x⟩
set_option maxHeartbeats 3200000 in
theorem l5find_any (w0 w : World) (sb : Nat) (a : Option Addr) (c : Nat) (l : List PlV) (F : List Nat) (i : IdV) (h : StB w0 w sb a c l F) (hl : l.length ≤ 100000) :
    Calls Tryz.prog 78 #[.pointer (some ⟨sb, 0, none⟩), .agg #[.int .i64 i.1, .int .i64 i.2]] w fun e w' => e = .returned (.int .i64 (findI l i)) ∧ Below w.heap.size w w' := by
  obtain ⟨iN, iR⟩ := i
  have hA := (Below.refl w.heap.size w).alloc (Nat.le_refl _) (.cells #[.int .i64 iN, .int .i64 iR] 66)
  have lb := Loc.made w #[.int .i64 iN, .int .i64 iR] 66
  have h1 := h.keep hA
  have LL := hide (And.intro hA (And.intro lb h1))
  have hR : ∀ r, findI l (iN, iR) = r → Hid (findI l (iN, iR) = r) := fun r e => hide e
  clear hA lb h h1
  go_enter Tryz.func78, Tryz.ntmps78
  go_wp2_with fail
  obtain ⟨hA, lb, h1⟩ := unhide LL
  clear LL
  generalize (w.alloc (.cells #[.int .i64 iN, .int .i64 iR] 66)) = w1 at *
  go_loopw [5] (fun x wr => ∃ j : Nat, j ≤ l.length ∧ x = .int .i64 (j : Int) ∧ (∀ t p, t < j → l[t]? = some p → p.id ≠ (iN, iR)) ∧ Below w1.heap.size w1 wr) (fun x _ => l.length - (intOf x).toNat)
  case atStart => exact ⟨0, Nat.zero_le _, rfl, fun t p ht => by omega, Below.refl _ _⟩
  case round =>
    obtain ⟨j, hj, rfl, hno, hb⟩ := hrel
    have hr := h1.keep hb
    have y0 : wr.cell? ⟨sb, 0, none⟩ = some (.slice a l.length c) := hr.1.cell 0
    have lbr := lb.all hb
    have v0 : wr.cell? ⟨w.heap.size, 0, none⟩ = some (.int .i64 iN) := lbr.cell 0
    have v1 : wr.cell? ⟨w.heap.size, 1, none⟩ = some (.int .i64 iR) := lbr.cell 1
    have hj0 : (0 : Int) ≤ (j : Int) := by omega
    by_cases hlt : j < l.length
    · have hlt' : (j : Int) < (l.length : Int) := by omega
      obtain ⟨p, hp⟩ : ∃ p, l[j]? = some p := ⟨l[j], by simp [hlt]⟩
      obtain ⟨b, k, ck, n, cn, t, ct, x, cx, rfl, _, z0, z1, _⟩ := hr.cells hp
      clear lbr hr
      by_cases e1 : p.idN = iN
      · by_cases e2 : p.idR = iR
        · have hfi : findI l (iN, iR) = (j : Int) := by
            have : posP l (iN, iR) = some j := by
              obtain ⟨h', rfl⟩ := List.getElem?_eq_some_iff.1 hp
              exact posP_some.2 ⟨h', by simp [PlV.id, e1, e2], fun t ht => hno t _ ht (by simp [show t < l.length by omega])⟩
            simp [findI, this]
          have HE := hide (And.intro hfi (bstep hA hb))
          have d1 : (p.idN == iN) = true := by simpa using e1
          have d2 : (p.idR == iR) = true := by simpa using e2
          clear hfi hno e1 e2 hb hA h1 lb
          go_wp2_with fail
          go_quiet (fail)
          go_wp2_with fail
          go_ret
          exact ⟨by rw [(unhide HE).1]; rfl, below_drewN (unhide HE).2 _⟩
        · have d1 : (p.idN == iN) = true := by simpa using e1
          have d2 : (p.idR == iR) = false := by simpa using e2
          have HE := hide (show ∀ t p, t < j + 1 → l[t]? = some p → p.id ≠ (iN, iR) from fun t p' ht hp' => by
            by_cases et : t = j
            · subst et; rw [hp] at hp'; cases hp'; intro e; exact e2 (Prod.mk.inj e).2
            · exact hno t p' (by omega) hp')
          have HB := hide hb
          clear hno e1 e2 hb
          go_wp2_with fail
          go_quiet (fail)
          go_wp2_with fail
          go_roundw
          case rel => exact ⟨j + 1, by omega, by go_num, unhide HE, below_drewN (unhide HB) _⟩
          case measure => simp [intOf]; omega
      · have d1 : (p.idN == iN) = false := by simpa using e1
        have HE := hide (show ∀ t p, t < j + 1 → l[t]? = some p → p.id ≠ (iN, iR) from fun t p' ht hp' => by
          by_cases et : t = j
          · subst et; rw [hp] at hp'; cases hp'; intro e; exact e1 (Prod.mk.inj e).1
          · exact hno t p' (by omega) hp')
        have HB := hide hb
        clear hno e1 hb
        go_wp2_with fail
        go_quiet (fail)
        go_wp2_with fail
        go_roundw
        case rel => exact ⟨j + 1, by omega, by go_num, unhide HE, below_drewN (unhide HB) _⟩
        case measure => simp [intOf]; omega
    · have hlt' : ¬ (j : Int) < (l.length : Int) := by omega
      have hfi : findI l (iN, iR) = -1 := by
        have : posP l (iN, iR) = none := posP_none.2 (fun p hp => by
          obtain ⟨t, ht, rfl⟩ := List.getElem_of_mem hp
          exact hno t _ (by omega) (by simp [ht]))
        simp [findI, this]
      have HE := hide (And.intro hfi (bstep hA hb))
      clear hfi hno hb hA h1 lb hr lbr
      go_wp2_with fail
      go_ret
      exact ⟨by rw [(unhide HE).1]; rfl, (unhide HE).2⟩
end Go.Proofs.YtnfafchajjclaaaGreatDoor

/- 'append(row, x)' where the row's block may bear a conversion's mark. -/
namespace Go.Proofs.YtnfafchajjclaaaGreatDoor
open Go.RowKit
set_option linter.unusedVariables false

theorem heap_set_mark (w : World) (g i : Nat) (cs : Array Value) (t : TypeId) (fr : Nat × Nat) (v : Value) (hg : w.heap[g]? = some (.cells cs t fr)) : (w.setCell ⟨g, i, none⟩ v).heap[g]? = some (.cells (cs.setIfInBounds i v) t fr) := by
  unfold World.setCell
  simp [Array.getElem?_modify, hg]
theorem frozen_mark (w : World) (g j : Nat) (cs : Array Value) (t : TypeId) (fr : Nat × Nat) (hg : w.heap[g]? = some (.cells cs t fr)) (hj : ¬ (fr.1 ≤ j ∧ j < fr.2)) : w.frozen? ⟨g, j, none⟩ = false := by
  unfold World.frozen?
  simp only [hg]
  simpa using hj
theorem set_grownM (w : World) (g j : Nat) (v : Value) : w.grownBy (w.setCell ⟨g, j, none⟩ v) (some g) := ⟨rfl, rfl, rfl, by simp, fun k _ hk => heap_setCell_other w ⟨g, j, none⟩ k v (fun e => hk (by simp [e]))⟩
end Go.Proofs.YtnfafchajjclaaaGreatDoor

/- spec.l5takes, spec.l5under. -/
namespace Go.Proofs.YtnfafchajjclaaaGreatDoor
open Go.RowKit
set_option linter.unusedVariables false
set_option maxRecDepth 100000


theorem voidS_b (w : World) (v : Value) (l : List Int) (h : Byt w v l) : Calls Tryz.prog 22 #[v] w fun e w' => e = .returned (.bool (voidB l)) ∧ w' = w := by
  cases hv : voidB l with
  | true => exact voidS_yes w v l h ((voidB_iff _).1 hv)
  | false => exact voidS_no w v l h (fun e => by rw [(voidB_iff _).2 e] at hv; cases hv)
set_option maxHeartbeats 3200000 in
theorem l5takes_any (w0 w : World) (sb : Nat) (a : Option Addr) (c : Nat) (l : List PlV) (F : List Nat) (i : IdV) (h : StB w0 w sb a c l F) (hl : l.length ≤ 100000) (kI : Int) (hk : kI = findI l i) :
    Calls Tryz.prog 79 #[.pointer (some ⟨sb, 0, none⟩), .int .i64 kI] w fun e w' => e = .returned (.bool (takesV l i)) ∧ w' = w := by
  cases hp : posP l i with
  | none =>
    have e1 : kI = -1 := by rw [hk]; simp [findI, hp]
    have e2 : takesV l i = false := by simp [takesV, hp]
    subst e1
    rw [e2]
    clear hk e2 h
    go_enter Tryz.func79, Tryz.ntmps79
    go_wp2_with fail
    go_ret
    exact ⟨rfl, rfl⟩
  | some k =>
    obtain ⟨p, hkp, hid⟩ := posP_at hp
    obtain ⟨hlt, _, _⟩ := posP_some.1 hp
    have e1 : kI = (k : Int) := by rw [hk]; simp [findI, hp]
    have e2 : takesV l i = (elemP p && !voidB p.name) := by simp [takesV, hp, hkp]
    subst e1
    rw [e2]
    obtain ⟨b, kk, ck, n, cn, t, ct, x, cx, rfl, _, z0, z1, _, _, _, z5, z6, _, _, hby, _⟩ := h.cells hkp
    have y0 : w.cell? ⟨sb, 0, none⟩ = some (.slice (some ⟨b, 0, none⟩) l.length c) := h.1.cell 0
    have hlt' : (k : Int) < (l.length : Int) := by omega
    have hk0 : (0 : Int) ≤ (k : Int) := by omega
    have HV := hide (voidS_b w _ p.name hby)
    clear hk e2 h hby hid hp
    by_cases hz : p.kind = 0
    · have dz : (p.kind == 0) = true := by simpa using hz
      have ez : elemP p = true := by simp [elemP, hz]
      rw [ez]
      clear hz ez
      generalize voidB p.name = bv at *
      go_enter Tryz.func79, Tryz.ntmps79
      go_wp2_with fail
      refine (unhide HV).mono ?_
      rintro e w' ⟨rfl, rfl⟩
      cases bv with
      | true =>
        go_wp2_with fail
        go_ret
        exact ⟨rfl, rfl⟩
      | false =>
        go_wp2_with fail
        go_ret
        exact ⟨rfl, rfl⟩
    · have dz : (p.kind == 0) = false := by simpa using hz
      have ez : elemP p = false := by simp [elemP, hz]
      rw [ez]
      clear hz ez
      go_enter Tryz.func79, Tryz.ntmps79
      go_wp2_with fail
      go_ret
      exact ⟨rfl, rfl⟩
set_option maxHeartbeats 6400000 in
theorem l5under_any (w0 w : World) (sb : Nat) (a : Option Addr) (c : Nat) (l : List PlV) (F : List Nat) (i by_ : IdV) (h : StB w0 w sb a c l F) (hl : l.length ≤ 100000) :
    Calls Tryz.prog 80 #[.pointer (some ⟨sb, 0, none⟩), .agg #[.int .i64 i.1, .int .i64 i.2], .agg #[.int .i64 by_.1, .int .i64 by_.2]] w fun e w' => e = .returned (.bool (underS l (l.length + 1) i by_)) ∧ Below w.heap.size w w' := by
  obtain ⟨iN, iR⟩ := i
  obtain ⟨bN, bR⟩ := by_
  have hA : Below w.heap.size w ((w.alloc (.cells #[.int .i64 iN, .int .i64 iR] 66)).alloc (.cells #[.int .i64 bN, .int .i64 bR] 66)) := bstep ((Below.refl _ _).alloc (Nat.le_refl _) _) ((Below.refl _ _).alloc (Nat.le_refl _) _)
  have l0 := (Loc.made w #[.int .i64 iN, .int .i64 iR] 66).all (((Below.refl _ _).alloc (Nat.le_refl _) (.cells #[.int .i64 bN, .int .i64 bR] 66)))
  have l1 := Loc.made (w.alloc (.cells #[.int .i64 iN, .int .i64 iR] 66)) #[.int .i64 bN, .int .i64 bR] 66
  simp only [World.size_alloc] at l1
  have LL := hide (And.intro hA (And.intro l0 l1))
  obtain ⟨R, hR⟩ : ∃ R, R = underS l (l.length + 1) (iN, iR) (bN, bR) := ⟨_, rfl⟩
  rw [← hR]
  have HR := hide hR
  clear hA l0 l1 hR
  go_enter Tryz.func80, Tryz.ntmps80
  go_wp2_with fail
  obtain ⟨hA, l0, l1⟩ := unhide LL
  clear LL
  generalize ((w.alloc (.cells #[.int .i64 iN, .int .i64 iR] 66)).alloc (.cells #[.int .i64 bN, .int .i64 bR] 66)) = w1 at *
  go_loopw [7] (fun x wr => ∃ (j : Nat) (cN cR : Int), j ≤ l.length + 1 ∧ x = .int .i64 (j : Int) ∧ R = underS l (l.length + 1 - j) (cN, cR) (bN, bR) ∧ Loc wr w.heap.size #[.int .i64 cN, .int .i64 cR] 66 ∧ Loc wr (w.heap.size + 1) #[.int .i64 bN, .int .i64 bR] 66 ∧ Below w.heap.size w wr) (fun x _ => l.length + 1 - (intOf x).toNat)
  case atStart => exact ⟨0, iN, iR, Nat.zero_le _, rfl, unhide HR, l0, l1, hA⟩
  case round =>
    clear l0 l1 hA HR
    obtain ⟨j, cN, cR, hj, rfl, hu, l0, l1, hb⟩ := hrel
    have hs := h.keep hb
    have y0 : wr.cell? ⟨sb, 0, none⟩ = some (.slice a l.length c) := hs.1.cell 0
    by_cases hlt : j ≤ l.length
    · have hlt' : (j : Int) ≤ (l.length : Int) := by omega
      have v0 : wr.cell? ⟨w.heap.size, 0, none⟩ = some (.int .i64 cN) := l0.cell 0
      have v1 : wr.cell? ⟨w.heap.size, 1, none⟩ = some (.int .i64 cR) := l0.cell 1
      have v2 : wr.cell? ⟨w.heap.size + 1, 0, none⟩ = some (.int .i64 bN) := l1.cell 0
      have v3 : wr.cell? ⟨w.heap.size + 1, 1, none⟩ = some (.int .i64 bR) := l1.cell 1
      obtain ⟨f, hf⟩ : ∃ f, l.length + 1 - j = f + 1 := ⟨l.length - j, by omega⟩
      rw [hf] at hu
      unfold underS at hu
      by_cases he : (cN, cR) = (bN, bR)
      · rw [if_pos he] at hu
        subst hu
        obtain ⟨e1, e2⟩ := Prod.mk.inj he
        have d1 : (cN == bN) = true := by simpa using e1
        have d2 : (cR == bR) = true := by simpa using e2
        have HB := hide hb
        clear he e1 e2 hb hs l0 l1 h
        go_wp2_with fail
        go_ret
        exact ⟨rfl, unhide HB⟩
      · rw [if_neg he] at hu
        have dd : ((cN == bN) && (cR == bR)) = false := by
          cases h1 : (cN == bN) with
          | false => rfl
          | true =>
            cases h2 : (cR == bR) with
            | false => rfl
            | true => exact absurd (by rw [beq_iff_eq.1 h1, beq_iff_eq.1 h2]) he
        have HF := hide (l5find_any w0 wr sb a c l F (cN, cR) hs hl)
        have HU := hide hu
        have HL := hide (And.intro hb (And.intro l0 l1))
        have hd12 : (cN == bN) = false ∨ ((cN == bN) = true ∧ (cR == bR) = false) := by
          cases h1 : (cN == bN) with
          | false => exact .inl rfl
          | true => rw [h1] at dd; exact .inr ⟨rfl, by simpa using dd⟩
        clear he hu hb hs l0 l1 dd
        rcases hd12 with d1 | ⟨d1, d2⟩
        all_goals
          go_wp2_with fail
          refine (unhide HF).mono ?_
          rintro e w5 ⟨rfl, hb5⟩
          obtain ⟨hb, l0, l1⟩ := unhide HL
          have hbw := bstep hb hb5
          have hs5 := h.keep hbw
          have l05 := l0.all hb5
          have l15 := l1.all hb5
          have hu := unhide HU
          clear HF HL HU hb l0 l1 hb5 y0 v0 v1 v2 v3
          cases hp : posP l (cN, cR) with
          | none =>
            have hfi : findI l (cN, cR) = -1 := by simp [findI, hp]
            rw [hp] at hu
            subst hu
            rw [hfi]
            have HB := hide hbw
            clear hfi hbw hs5 l05 l15 hp h
            go_wp2_with fail
            go_ret
            exact ⟨rfl, unhide HB⟩
          | some k =>
            obtain ⟨p, hkp, hid⟩ := posP_at hp
            obtain ⟨hkl, _, _⟩ := posP_some.1 hp
            have hfi : findI l (cN, cR) = (k : Int) := by simp [findI, hp]
            rw [hp] at hu
            simp only [hkp] at hu
            rw [hfi]
            by_cases hk2 : k < 2
            · rw [if_pos hk2] at hu
              subst hu
              have hk2' : (k : Int) < 2 := by omega
              have HB := hide hbw
              clear hfi hbw hs5 l05 l15 hp h hk2
              go_wp2_with fail
              go_ret
              exact ⟨rfl, unhide HB⟩
            · rw [if_neg hk2] at hu
              have hk2' : ¬ (k : Int) < 2 := by omega
              have hkl' : (k : Int) < (l.length : Int) := by omega
              have hk0 : (0 : Int) ≤ (k : Int) := by omega
              have y0 : w5.cell? ⟨sb, 0, none⟩ = some (.slice a l.length c) := hs5.1.cell 0
              obtain ⟨b, kk, ck, n, cn, t, ct, x, cx, rfl, _, _, _, z2, z3, _⟩ := hs5.cells hkp
              have v0 : w5.cell? ⟨w.heap.size, 0, none⟩ = some (.int .i64 cN) := l05.cell 0
              have v1 : w5.cell? ⟨w.heap.size, 1, none⟩ = some (.int .i64 cR) := l05.cell 1
              have g0 := l05.frozen 0
              have g1 := l05.frozen 1
              have l06 := (l05.set 0 (.int .i64 p.parN)).set 1 (.int .i64 p.parR)
              have l16 := (l15.other w.heap.size 0 (.int .i64 p.parN) (by omega)).other w.heap.size 1 (.int .i64 p.parR) (by omega)
              have hb6 : Below w.heap.size w ((w5.setCell ⟨w.heap.size, 0, none⟩ (.int .i64 p.parN)).setCell ⟨w.heap.size, 1, none⟩ (.int .i64 p.parR)) := bstepBy (bstepBy hbw (set_grownM _ _ _ _) (fun q hq => by cases hq; exact Nat.le_refl _)) (set_grownM _ _ _ _) (fun q hq => by cases hq; exact Nat.le_refl _)
              have hf' : l.length + 1 - (j + 1) = f := by omega
              have HE := hide (And.intro l06 (And.intro l16 hb6))
              have HU := hide (show R = underS l (l.length + 1 - (j + 1)) (p.parN, p.parR) (bN, bR) by rw [hf']; exact hu)
              clear hfi hbw hs5 l05 l15 l06 l16 hb6 hp hk2 hu hf'
              go_wp2_with fail
              go_roundw
              case rel => exact ⟨j + 1, p.parN, p.parR, by omega, by go_num, unhide HU, (unhide HE).1, (unhide HE).2.1, (unhide HE).2.2⟩
              case measure => simp [intOf]; omega
    · have hlt' : ¬ (j : Int) ≤ (l.length : Int) := by omega
      have e0 : l.length + 1 - j = 0 := by omega
      rw [e0] at hu
      unfold underS at hu
      subst hu
      have HB := hide hb
      clear hb hs l0 l1 h hlt
      go_wp2_with fail
      go_ret
      exact ⟨rfl, unhide HB⟩
end Go.Proofs.YtnfafchajjclaaaGreatDoor

/- spec.l5setAttr. -/
namespace Go.Proofs.YtnfafchajjclaaaGreatDoor
open Go.RowKit
set_option linter.unusedVariables false
set_option maxRecDepth 100000


/-- A row of attributes of the call's own, whose parts are old. -/
def OwAO (w0 w : World) (B : Nat) (v : Value) (m : List (List Int × List Int)) : Prop := OwElems w 108 2 v m (AttrO w0) (FB v) ∧ ∀ q ∈ FB v, B ≤ q ∧ q < w.heap.size
theorem ao_foot {w0 w : World} {v : Value} {m : List (List Int × List Int)} {F : List Nat} (h : OwElems w 108 2 v m (AttrO w0) F) : F = FB v := by
  obtain ⟨Cs, Fs, e1, e2, e3, e4, rfl⟩ := h
  have : Fs.flatten = [] := List.flatten_eq_nil_iff.2 (fun G hG => by
    obtain ⟨i, hi, rfl⟩ := List.getElem_of_mem hG
    obtain ⟨_, a, b, _, _, _, e⟩ := e3 i (by omega)
    rw [List.getD_eq_getElem?_getD, List.getElem?_eq_getElem hi] at e
    exact e)
  rw [this, List.append_nil]
theorem OwAO.frm {w0 w w' : World} {B : Nat} {v : Value} {m : List (List Int × List Int)} {S : List Nat} (h : OwAO w0 w B v m) (f : Frm w w' S) (hd : ∀ q ∈ FB v, q ∉ S) : OwAO w0 w' B v m :=
  ⟨OwElems.frm h.1 f hd (fun C x G hr hG => hr), fun q hq => ⟨(h.2 q hq).1, Nat.lt_of_lt_of_le (h.2 q hq).2 f.size⟩⟩
theorem OwAO.keep {w0 w w' : World} {B : Nat} {v : Value} {m : List (List Int × List Int)} (h : OwAO w0 w B v m) (hb : Below w.heap.size w w') : OwAO w0 w' B v m := h.frm (Frm.ofBelow hb []) (fun _ _ => by simp)
theorem OwAO.nil (w0 w : World) (B : Nat) : OwAO w0 w B (.slice none 0 0) [] := ⟨⟨[], [], rfl, rfl, fun i hi => by simp at hi, ⟨by simp, .inl ⟨rfl, rfl⟩⟩, rfl⟩, fun q hq => by simp [FB, Value.ownBlock] at hq⟩
theorem OwAO.shape {w0 w : World} {B : Nat} {v : Value} {m : List (List Int × List Int)} (h : OwAO w0 w B v m) : ∃ a c, v = .slice a m.length c := by
  obtain ⟨⟨_, _, _, _, _, hr, _⟩, _⟩ := h
  exact own_nil_shape hr
theorem at_info2 : (Tryz.prog.info? 108).map (fun i => (i.zero, i.size, i.bytes)) = some (some (.agg #[.slice none 0 0, .slice none 0 0]), 2, 48) := by kernel_rfl
/-- An attribute is appended to such a row. -/
theorem wpList_aoPush {w0 w : World} {B : Nat} {ops : Array Oper} {rest : List Oper} {o : Oper} {a : Act} {Q : Exit → Act → World → Prop} (hgd : o.guard = none) (s x : Operand)
    (ho : o.op = .call { callee := .builtin .append, args := #[s, x], argTypes := #[35, 35] })
    (v : Value) (m : List (List Int × List Int)) (hs : a.eval s = v) (h : OwAO w0 w B v m) (u1 u2 : Value) (y : List Int × List Int) (c : Nat)
    (hx : a.eval x = .slice (some ⟨w.heap.size, 0, none⟩) 1 c) (h1 : Byt w0 u1 y.1) (h2 : Byt w0 u2 y.2) (hB : B ≤ w.heap.size) (hl : m.length ≤ 1000)
    (hK : ∀ g cap w', OwAO w0 w' B (.slice (some ⟨g, 0, none⟩) (m.length + 1) cap) (m ++ [y]) → Frm w w' (FB v) → (g ∈ FB v ∨ w.heap.size ≤ g) → wpList Tryz.prog ops Q rest (a.put o.dst (.slice (some ⟨g, 0, none⟩) (m.length + 1) cap)) w') : wpList Tryz.prog ops Q (o :: rest) a (w.alloc (.cells #[u1, u2] 108)) := by
  obtain ⟨i0, hi0, hz0, hz1, hz2⟩ := info_parts at_info2
  have hb : Below w.heap.size w (w.alloc (.cells #[u1, u2] 108)) := (Below.refl _ _).alloc (Nat.le_refl _) _
  have h' := h.keep hb
  have hone : ∀ {u : Value} {l : List Int}, Byt w0 u l → u.oneCell' = true := fun hu => by obtain ⟨_, _, rfl, _⟩ := hu.shape; rfl
  refine wpList_push (R := fun _ => AttrO w0) (fun h _ _ => h) hgd s x 35 ho 108 i0 (.agg #[.slice none 0 0, .slice none 0 0]) 2 48 Tryz.underlying35 hi0 hz0 hz1 hz2 rfl (by decide) v m (FB v) hs h'.1 (FB_nodup _) ⟨w.heap.size, 0, none⟩ c [u1, u2] y [] hx rfl (fun j u hu => World.news_of_block (heap_alloc_new w (.cells #[u1, u2] 108)) j u (by simpa using hu)) (by intro u hu; simp at hu; rcases hu with rfl | rfl; exact hone h1; exact hone h2) ⟨u1, u2, rfl, h1, h2, rfl⟩ List.nodup_nil (fun _ _ h => by cases h) (fun q hq => by rcases hq with hq | hq; exact (h'.2 q hq).2; cases hq) (by unfold maxLen; omega) (by omega) ?_
  intro g cap w' F' k1 k2 k3 k4 k5
  have hF := ao_foot k1
  subst hF
  have hg : g ∈ FB (.slice (some ⟨g, 0, none⟩) (m.length + 1) cap) := by simp [FB, Value.ownBlock]
  have hgw : g ∈ FB v ∨ w.heap.size ≤ g := by
    rcases k3 g hg with h3 | h3 | h3
    · exact .inl h3
    · cases h3
    · right; rw [h3]; simp
  refine hK g cap w' ⟨k1, fun q hq => ?_⟩ ((Frm.ofBelow hb _).trans k4) hgw
  have eq : q = g := by simpa [FB, Value.ownBlock, eq_comm] using hq
  subst eq
  refine ⟨?_, k5⟩
  rcases hgw with h3 | h3
  · exact (h.2 q h3).1
  · omega
theorem AttrsF.at {w0 w : World} {v : Value} {l : List (List Int × List Int)} {F : List Nat} (h : AttrsF w0 w v l F) (hb : Below w0.heap.size w0 w) {i : Nat} (hi : i < l.length) :
    ∃ b off cap y1 d1 y2 d2, v = .slice (some ⟨b, off, none⟩) l.length cap ∧ b < w.heap.size ∧ w.cell? ⟨b, off + i * 2, none⟩ = some (.slice y1 l[i].1.length d1) ∧ w.cell? ⟨b, off + i * 2 + 1, none⟩ = some (.slice y2 l[i].2.length d2) ∧ Byt w0 (.slice y1 l[i].1.length d1) l[i].1 ∧ Byt w0 (.slice y2 l[i].2.length d2) l[i].2 := by
  rcases h with ⟨h, _⟩ | ⟨Cs, Fs, e1, e2, e3, e4, _⟩
  · obtain ⟨hm, ⟨_, e⟩ | ⟨_, _, _, _, e⟩ | ⟨pb, poff, cap, rfl, _, _, _, hpl, hel⟩⟩ := h
    · subst e; simp at hi
    · subst e; simp at hi
    obtain ⟨C, hC, hcell, y1, y2, rfl, h1, h2⟩ := hel i hi
    obtain ⟨a1, c1, rfl, _, _⟩ := h1.shape
    obtain ⟨a2, c2, rfl, _, _⟩ := h2.shape
    have q0 := hcell 0 (by omega)
    have q1 := hcell 1 (by omega)
    exact ⟨pb, poff, cap, a1, c1, a2, c2, rfl, Nat.lt_of_lt_of_le hpl hb.size, (hb.cell (p := ⟨pb, poff + i * 2, none⟩) hpl).trans q0, (hb.cell (p := ⟨pb, poff + i * 2 + 1, none⟩) hpl).trans q1, h1, h2⟩
  · rcases e4.2 with ⟨_, e0⟩ | ⟨g, cap, cur, rfl, _, hg, _⟩
    · omega
    obtain ⟨_, y1, y2, eC, h1, h2, _⟩ := e3 i hi
    have hcell := fun x (hx : x < 2) => own_cellAt e4 (fun i hi => (e3 i (by omega)).1) e1 i x hi hx
    rw [eC] at hcell
    obtain ⟨a1, c1, rfl, _, _⟩ := h1.shape
    obtain ⟨a2, c2, rfl, _, _⟩ := h2.shape
    exact ⟨g, 0, cap, a1, c1, a2, c2, rfl, (Array.getElem?_eq_some_iff.1 hg).1, by rw [Nat.zero_add]; exact hcell 0 (by decide), by rw [Nat.zero_add]; exact hcell 1 (by decide), h1, h2⟩
end Go.Proofs.YtnfafchajjclaaaGreatDoor

/- spec.l5setAttr sets an attribute of a place. -/
namespace Go.Proofs.YtnfafchajjclaaaGreatDoor
open Go.RowKit
set_option linter.unusedVariables false
set_option maxRecDepth 100000


theorem StB.same {w0 w w' : World} {sb b c : Nat} {l : List PlV} {F : List Nat} (h : StB w0 w sb (some ⟨b, 0, none⟩) c l F) {k : Nat} {p : PlV} (hk : l[k]? = some p) (hb : Below w.heap.size w w') : StB w0 w' sb (some ⟨b, 0, none⟩) c (l.set k p) F := by
  have e : l.set k p = l := by
    obtain ⟨hlt, rfl⟩ := List.getElem?_eq_some_iff.1 hk
    simp
  rw [e]
  exact h.keep hb
/-- A place's attributes are another row of the call's own. -/
theorem StB.attrs {w0 w w' : World} {sb b c : Nat} {l : List PlV} {F : List Nat} (h : StB w0 w sb (some ⟨b, 0, none⟩) c l F) {k : Nat} {p : PlV} (hk : l[k]? = some p) (hb : Below w.heap.size w w') {v : Value} {m : List (List Int × List Int)} (hv : OwAO w0 w' (w.heap.size + 1) v m) :
    ∃ F', StB w0 (w'.setCell ⟨b, k * 9 + 8, none⟩ v) sb (some ⟨b, 0, none⟩) c (l.set k { p with attrs := m }) F' ∧ Frm w (w'.setCell ⟨b, k * 9 + 8, none⟩ v) [b] ∧ ∀ q ∈ F', q ∈ F ∨ w.heap.size ≤ q := by
  obtain ⟨h1, h2, h3, h4, h5, h6⟩ := h
  obtain ⟨hlt, rfl⟩ := List.getElem?_eq_some_iff.1 hk
  obtain ⟨Cs, C, G, hR, hP, hGN, hGF, hbF, hbG, hcl⟩ := h2.one h3 k hlt
  have hbl := (h4 b hbF).2.1
  have hbs := (h4 b hbF).2.2
  have f1 : Frm w w' [] := Frm.ofBelow hb []
  have f2 := set_frm w' b (k * 9 + 8) v
  have f : Frm w (w'.setCell ⟨b, k * 9 + 8, none⟩ v) [b] := (f1.mono (fun q hq => by cases hq)).trans f2
  have hR9 := (hR.frm f1 (by simp)).put 8 (by decide) v
  obtain ⟨kv, n, t, a, F1, F2, F3, eC, q1, q2, q3, q4, eG⟩ := hP
  have hvb : ∀ q ∈ FB v, q ∉ [b] := fun q hq e => by have := (hv.2 q hq).1; simp at e; omega
  have hv9 := OwElems.frm hv.1 f2 hvb (fun C x G hr hG => hr)
  have hG1 : ∀ q ∈ F1 ++ F2, q ∈ G := fun q hq => by rw [eG]; exact List.mem_append_left _ hq
  have hGb : ∀ q ∈ F1 ++ F2, q ∉ [b] := fun q hq e => by simp at e; subst e; exact hbG (hG1 q hq)
  have hP9 : PlF w0 (w'.setCell ⟨b, k * 9 + 8, none⟩ v) (C.set 8 v) { l[k] with attrs := m } (F1 ++ F2 ++ FB v) := by
    subst eC
    exact ⟨kv, n, t, v, F1, F2, FB v, rfl, q1.frm f (fun q hq => hGb q (by simp [hq])), q2.frm f (fun q hq => hGb q (by simp [hq])), q3, .inr hv9, rfl⟩
  have hN9 : (F1 ++ F2 ++ FB v).Nodup := by
    rw [eG] at hGN
    refine List.nodup_append.2 ⟨(List.nodup_append.1 hGN).1, FB_nodup _, fun x hx y hy e => ?_⟩
    subst e
    have h7 := (h4 x (hGF x (hG1 x hx))).2.1
    have h8 := (hv.2 x hy).1
    omega
  obtain ⟨F', g1, g2, g3⟩ := hcl _ _ { l[k] with attrs := m } (F1 ++ F2 ++ FB v) hR9 f hP9 hN9 (fun q hq => by
    rcases List.mem_append.1 hq with hq | hq
    · exact .inl (hG1 q hq)
    · right; intro e; have h7 := (h4 q e).2.1; have h8 := (hv.2 q hq).1; omega)
  have hs9 := f.size
  refine ⟨F', ⟨?_, g1, g2, fun q hq => ?_, h5, h6.trans (f.below h6.size (fun q hq => by simp at hq; subst hq; exact (h4 q hbF).1))⟩, f, fun q hq => (g3 q hq).elim .inl (fun h7 => (List.mem_append.1 h7).elim (fun h8 => .inl (hGF q (hG1 q h8))) (fun h8 => .inr (by have := (hv.2 q h8).1; omega)))⟩
  · rw [List.length_set]
    exact h1.frm f (by simp; omega)
  · have hsl := h1.lt
    rcases g3 q hq with h7 | h7
    · have := h4 q h7; exact ⟨this.1, by omega, this.2.2⟩
    · rcases List.mem_append.1 h7 with h7 | h7
      · have := h4 q (hGF q (hG1 q h7)); exact ⟨this.1, by omega, this.2.2⟩
      · have h8 := hv.2 q h7
        have h9 := f2.size
        exact ⟨by have := h6.size; omega, by omega, by omega⟩
theorem setA_step (n t : List Int) (pt : Bool) (l : List (List Int × List Int)) (j : Nat) (hj : j < l.length) : setA n t pt (l.drop j) = (if !pt && !klB l[j].1 n then [(n, t)] else []) ++ (if l[j].1 = n then [] else [l[j]]) ++ setA n t (pt || !klB l[j].1 n) (l.drop (j + 1)) := by
  rw [List.drop_eq_getElem_cons hj]
  rfl
theorem kl_le (a b : List Int) : (klB a b || decide (a = b)) = !klB b a := by
  have h1 := klB_tri a b
  have h2 := klB_anti a b
  generalize klB a b = x at *
  generalize klB b a = y at *
  generalize decide (a = b) = z at *
  cases x <;> cases y <;> cases z <;> simp_all
set_option maxHeartbeats 12800000 in
theorem l5setAttr_any (w0 w : World) (sb b c : Nat) (l : List PlV) (F : List Nat) (h : StB w0 w sb (some ⟨b, 0, none⟩) c l F) (k : Nat) (p : PlV) (hk : l[k]? = some p) (hal : p.attrs.length ≤ 100) (o : OpV) (k1 k2 k3 : Option Addr) (d1 d2 d3 : Nat) (h2 : Byt w0 (.slice k2 o.name.length d2) o.name) (h3 : Byt w0 (.slice k3 o.text.length d3) o.text) :
    Calls Tryz.prog 81 #[.pointer (some ⟨b, k * 9, none⟩), .agg #[.int .i64 o.kind, .int .i64 o.atN, .int .i64 o.atR, .int .i64 o.nodeN, .int .i64 o.nodeR, .int .i64 o.parN, .int .i64 o.parR, .slice k1 o.key.length d1, .int .i64 o.elem, .slice k2 o.name.length d2, .slice k3 o.text.length d3, .bool o.gone]] w fun e w' => (∃ v, e = .returned v) ∧ (∃ F', StB w0 w' sb (some ⟨b, 0, none⟩) c (l.set k (attrP o p)) F' ∧ ∀ q ∈ F', q ∈ F ∨ w.heap.size ≤ q) ∧ Frm w w' [b] := by
  obtain ⟨b', kk, ck, n, cn, t, ct, qa, qc, eb, hbF, _, _, _, _, _, _, _, _, z8, _, _, _⟩ := h.cells hk
  obtain rfl : b = b' := by injection eb with eb; injection eb
  have hbl := (h.2.2.2.1 b hbF).2.1
  have h06 := h.2.2.2.2.2
  have HAT : Hid (∀ j (hj : j < p.attrs.length), ∃ b9 off cap y1 e1 y2 e2, (Value.slice qa p.attrs.length qc) = .slice (some ⟨b9, off, none⟩) p.attrs.length cap ∧ b9 < w.heap.size ∧ w.cell? ⟨b9, off + j * 2, none⟩ = some (.slice y1 p.attrs[j].1.length e1) ∧ w.cell? ⟨b9, off + j * 2 + 1, none⟩ = some (.slice y2 p.attrs[j].2.length e2) ∧ Byt w0 (.slice y1 p.attrs[j].1.length e1) p.attrs[j].1 ∧ Byt w0 (.slice y2 p.attrs[j].2.length e2) p.attrs[j].2) := hide (fun j hj => by
    obtain ⟨hlt, rfl⟩ := List.getElem?_eq_some_iff.1 hk
    obtain ⟨Cs, C, G, hR, ⟨_, _, _, a9, _, _, _, eC, _, _, _, q4, _⟩, _⟩ := h.2.1.one h.2.2.1 k hlt
    have hc := hR.cell 8 (by decide)
    rw [z8, eC] at hc
    simp at hc
    subst hc
    exact q4.at h06 hj)
  have hA : Below w.heap.size w (w.alloc (.cells #[.int .i64 o.kind, .int .i64 o.atN, .int .i64 o.atR, .int .i64 o.nodeN, .int .i64 o.nodeR, .int .i64 o.parN, .int .i64 o.parR, .slice k1 o.key.length d1, .int .i64 o.elem, .slice k2 o.name.length d2, .slice k3 o.text.length d3, .bool o.gone] 68)) := (Below.refl _ _).alloc (Nat.le_refl _) _
  have lo := Loc.made w #[.int .i64 o.kind, .int .i64 o.atN, .int .i64 o.atR, .int .i64 o.nodeN, .int .i64 o.nodeR, .int .i64 o.parN, .int .i64 o.parR, .slice k1 o.key.length d1, .int .i64 o.elem, .slice k2 o.name.length d2, .slice k3 o.text.length d3, .bool o.gone] 68
  have LL := hide (And.intro hA lo)
  have HST := hide h
  clear hA lo h eb
  go_enter Tryz.func81, Tryz.ntmps81
  go_wp2_with fail
  obtain ⟨hA, lo⟩ := unhide LL
  clear LL
  generalize (w.alloc (.cells #[.int .i64 o.kind, .int .i64 o.atN, .int .i64 o.atR, .int .i64 o.nodeN, .int .i64 o.nodeR, .int .i64 o.parN, .int .i64 o.parR, .slice k1 o.key.length d1, .int .i64 o.elem, .slice k2 o.name.length d2, .slice k3 o.text.length d3, .bool o.gone] 68)) = w1 at *
  go_loopw [4, 5, 6] (fun ov pv x wr => ∃ (j : Nat) (pt : Bool) (m : List (List Int × List Int)), j ≤ p.attrs.length ∧ x = .int .i64 (j : Int) ∧ pv = .bool pt ∧ OwAO w0 wr (w.heap.size + 1) ov m ∧ m.length ≤ 2 * j ∧ setA o.name o.text o.gone p.attrs = m ++ setA o.name o.text pt (p.attrs.drop j) ∧ Loc wr w.heap.size #[.int .i64 o.kind, .int .i64 o.atN, .int .i64 o.atR, .int .i64 o.nodeN, .int .i64 o.nodeR, .int .i64 o.parN, .int .i64 o.parR, .slice k1 o.key.length d1, .int .i64 o.elem, .slice k2 o.name.length d2, .slice k3 o.text.length d3, .bool o.gone] 68 ∧ Below w.heap.size w wr) (fun _ _ x _ => p.attrs.length - (intOf x).toNat)
  case atStart => exact ⟨0, o.gone, [], Nat.zero_le _, rfl, rfl, OwAO.nil _ _ _, Nat.zero_le _, by simp, lo, hA⟩
  case round =>
    clear lo hA
    obtain ⟨j, pt, m, hj, rfl, rfl, hov, hml, hset, lo, hb⟩ := hrel
    obtain ⟨ov, cv, rfl⟩ := hov.shape
    have y8 : wr.cell? ⟨b, k * 9 + 8, none⟩ = some (.slice qa p.attrs.length qc) := (hb.cell (p := ⟨b, k * 9 + 8, none⟩) hbl).trans z8
    have hlo := lo.lt
    by_cases hlt : j < p.attrs.length
    · have hlt' : (j : Int) < (p.attrs.length : Int) := by omega
      have hj0 : (0 : Int) ≤ (j : Int) := by omega
      obtain ⟨b9, off, cap, y1, e1, y2, e2, hq, hb9, c0, c1, g1, g2⟩ := unhide HAT j hlt
      injection hq with hq1 _ hq3
      subst hq1 hq3
      have hstep := setA_step o.name o.text pt p.attrs j hlt
      obtain ⟨x, hx⟩ : ∃ x, x = p.attrs[j] := ⟨_, rfl⟩
      rw [← hx] at c0 c1 g1 g2 hstep
      clear hx
      have c0r := (hb.cell (p := ⟨b9, off + j * 2, none⟩) hb9).trans c0
      have c1r := (hb.cell (p := ⟨b9, off + j * 2 + 1, none⟩) hb9).trans c1
      have hAa : Below wr.heap.size wr (wr.alloc (.cells #[.slice y1 x.1.length e1, .slice y2 x.2.length e2] 108)) := (Below.refl _ _).alloc (Nat.le_refl _) _
      have LL := hide (And.intro (Loc.made wr #[.slice y1 x.1.length e1, .slice y2 x.2.length e2] 108) (And.intro (hov.keep hAa) (And.intro (lo.all hAa) (And.intro (bstep hb hAa) (show wr.heap.size < (wr.alloc (.cells #[.slice y1 x.1.length e1, .slice y2 x.2.length e2] 108)).heap.size by simp)))))
      have hovl := fun q hq => (hov.2 q hq).2
      have HS := hide (And.intro hset hstep)
      clear hov lo hb hAa c0 c1 hset hstep
      go_upto_region 7 with fail
      obtain ⟨la, hov, lo, hb, hwl⟩ := unhide LL
      clear LL y8 c0r c1r
      generalize (wr.alloc (.cells #[.slice y1 x.1.length e1, .slice y2 x.2.length e2] 108)) = wa at *
      have habo : wr.heap.size ≠ w.heap.size := by omega
      generalize wr.heap.size = ab at *
      have o9 : wa.cell? ⟨w.heap.size, 9, none⟩ = some (.slice k2 o.name.length d2) := lo.cell 9
      have o10 : wa.cell? ⟨w.heap.size, 10, none⟩ = some (.slice k3 o.text.length d3) := lo.cell 10
      have a0 : wa.cell? ⟨ab, 0, none⟩ = some (.slice y1 x.1.length e1) := la.cell 0
      have a1 : wa.cell? ⟨ab, 1, none⟩ = some (.slice y2 x.2.length e2) := la.cell 1
      have s1 := conv_any wa _ o.name (h2.keep (bstep h06 hb))
      have s2 := conv_any wa _ x.1 (g1.keep (bstep h06 hb))
      have hA := str_less h2.1 g1.1
      have hB := str_beq h2.1 g1.1
      have hC := str_beq g1.1 h2.1
      have HX := hide (And.intro la (And.intro hov (And.intro lo hb)))
      clear la hov lo hb
      obtain ⟨q1, hq1⟩ : ∃ q1, q1 = (!pt && !klB x.1 o.name) := ⟨_, rfl⟩
      go_cut [36] from 26 to 36 (fun t wx => t = .bool q1 ∧ wx = wa)
      case first =>
        generalize str x.1 = t2 at *
        generalize str o.name = t1 at *
        cases pt with
        | true =>
          clear hA hB hC s1 s2
          go_wp2_with fail
          go_meet
          exact ⟨by rw [hq1]; rfl, rfl⟩
        | false =>
          have ht := kl_le o.name x.1
          cases h7 : klB o.name x.1 with
          | true =>
            rw [h7] at hA ht
            have ht' : klB x.1 o.name = false := by simpa using ht.symm
            rw [ht'] at hq1
            clear hB hC h7 ht ht'
            go_wp2_with fail
            go_meet
            exact ⟨by rw [hq1]; rfl, rfl⟩
          | false =>
            rw [h7] at hA ht
            by_cases h8 : o.name = x.1
            · have hB' : (t1.toList == t2.toList) = true := by rw [hB]; simp [h8]
              have ht' : klB x.1 o.name = false := by simpa [h8] using ht.symm
              rw [ht'] at hq1
              clear hB hC h7 h8 ht ht'
              go_wp2_with fail
              go_meet
              exact ⟨by rw [hq1]; rfl, rfl⟩
            · have hB' : (t1.toList == t2.toList) = false := by rw [hB]; simp [h8]
              have ht' : klB x.1 o.name = true := by simpa [h8] using ht.symm
              rw [ht'] at hq1
              clear hB hC h7 h8 ht ht'
              go_wp2_with fail
              go_meet
              exact ⟨by rw [hq1]; rfl, rfl⟩
      case rest =>
      obtain ⟨rfl, hw⟩ := hcut
      subst wc
      have HQ1 := hide hq1
      clear hq1
      go_upto_if 36 with fail
      go_cut [4, 5] from 37 to 44 (fun ov' pv' wx => ∃ a' c' m', ov' = .slice a' m'.length c' ∧ m' = m ++ (if q1 = true then [(o.name, o.text)] else []) ∧ pv' = .bool (pt || q1) ∧ OwAO w0 wx (w.heap.size + 1) (.slice a' m'.length c') m' ∧ Loc wx w.heap.size #[.int .i64 o.kind, .int .i64 o.atN, .int .i64 o.atR, .int .i64 o.nodeN, .int .i64 o.nodeR, .int .i64 o.parN, .int .i64 o.parR, .slice k1 o.key.length d1, .int .i64 o.elem, .slice k2 o.name.length d2, .slice k3 o.text.length d3, .bool o.gone] 68 ∧ Loc wx ab #[.slice y1 x.1.length e1, .slice y2 x.2.length e2] 108 ∧ ab ∉ FB (.slice a' m'.length c') ∧ Below w.heap.size w wx)
      case first =>
        have hab : ab ∉ FB (.slice ov m.length cv) := fun hq => by have := hovl ab hq; omega
        cases q1 with
        | false =>
          go_wp2_with fail
          go_meet
          obtain ⟨la, hov, lo, hb⟩ := unhide HX
          exact ⟨ov, cv, m, rfl, by simp, by simp, hov, lo, la, hab, hb⟩
        | true =>
          have hsz : w.heap.size + 1 ≤ wa.heap.size := by obtain ⟨_, _, lo, _⟩ := unhide HX; have := lo.lt; omega
          go_wp2_with (at_builtin; refine wpList_aoPush rfl _ _ rfl _ m rfl (unhide HX).2.1 (.slice k2 o.name.length d2) (.slice k3 o.text.length d3) (o.name, o.text) 1 rfl h2 h3 hsz (by omega) ?_)
          intro g9 cap9 w9 hov9 hf9 hg9
          obtain ⟨la, hov, lo, hb⟩ := unhide HX
          have lo9 := lo.frm hf9 (fun hq => by have := (hov.2 _ hq).1; omega)
          have la9 := la.frm hf9 hab
          have hb9 := hb.trans (hf9.below hb.size (fun q hq => by have := (hov.2 q hq).1; omega))
          have hal9 := la.lt
          have HE := hide (And.intro hov9 (And.intro lo9 (And.intro la9 (And.intro hb9 (show ab ∉ FB (.slice (some ⟨g9, 0, none⟩) (m.length + 1) cap9) from fun hq => by
            have e9 : ab = g9 := by simpa [FB, Value.ownBlock, eq_comm] using hq
            rcases hg9 with h9 | h9
            · rw [← e9] at h9; exact hab h9
            · omega)))))
          clear la hov lo hb lo9 la9 hb9 hov9 hf9 hg9
          go_wp2_with fail
          go_meet
          have hlen : (m ++ [(o.name, o.text)]).length = m.length + 1 := by simp
          exact ⟨_, _, m ++ [(o.name, o.text)], by rw [hlen], by simp, by simp, by rw [hlen]; exact (unhide HE).1, (unhide HE).2.1, (unhide HE).2.2.1, by rw [hlen]; exact (unhide HE).2.2.2.2, (unhide HE).2.2.2.1⟩
      case rest =>
      obtain ⟨ov2, cv2, m2, rfl, hm2, rfl, hov2, lo2, la2, hab2, hb2⟩ := hcut
      have hml2 : m2.length ≤ 2 * j + 1 := by rw [hm2, List.length_append]; split <;> simp <;> omega
      have HM2 := hide hm2
      clear o9 o10 a0 a1 s1 s2 HX hm2
      have o9 : wc.cell? ⟨w.heap.size, 9, none⟩ = some (.slice k2 o.name.length d2) := lo2.cell 9
      have a0 : wc.cell? ⟨ab, 0, none⟩ = some (.slice y1 x.1.length e1) := la2.cell 0
      have a1 : wc.cell? ⟨ab, 1, none⟩ = some (.slice y2 x.2.length e2) := la2.cell 1
      have s1 := conv_any wc _ o.name (h2.keep (bstep h06 hb2))
      have s2 := conv_any wc _ x.1 (g1.keep (bstep h06 hb2))
      have hwl2 := la2.lt
      obtain ⟨q2, hq2⟩ : ∃ q2, q2 = decide (x.1 = o.name) := ⟨_, rfl⟩
      rw [← hq2] at hC
      have HX := hide (And.intro la2 (And.intro hov2 (And.intro lo2 hb2)))
      have hsz : w.heap.size + 1 ≤ wc.heap.size := by have := lo2.lt; omega
      clear la2 hov2 lo2 hb2 hA hB
      have HQ := hide (And.intro (unhide HQ1) hq2)
      clear HQ1 hq2
      generalize str x.1 = t2 at *
      generalize str o.name = t1 at *
      have HS2 := hide (show ∀ M, M = m2 ++ (if q2 = true then [] else [x]) → setA o.name o.text o.gone p.attrs = M ++ setA o.name o.text (pt || q1) (p.attrs.drop (j + 1)) from fun M hM => by
        obtain ⟨hq1, hq2⟩ := unhide HQ
        obtain ⟨z1, z2⟩ := unhide HS
        rw [z1, z2, hM, unhide HM2, hq1, hq2]
        have e1 : (pt || !klB x.1 o.name) = (pt || (!pt && !klB x.1 o.name)) := by cases pt <;> simp
        rw [e1]
        by_cases e2 : x.1 = o.name <;> simp [e2])
      cases q2 with
      | true =>
        go_wp2_with fail
        go_roundw
        case rel => exact ⟨j + 1, pt || q1, m2, by omega, by go_num, rfl, (unhide HX).2.1, by omega, unhide HS2 m2 (by simp), (unhide HX).2.2.1, (unhide HX).2.2.2⟩
        case measure => simp [intOf]; omega
      | false =>
        go_wp2_with (at_builtin; refine wpList_aoPush rfl _ _ rfl _ m2 rfl (unhide HX).2.1 (.slice y1 x.1.length e1) (.slice y2 x.2.length e2) x 1 rfl g1 g2 hsz (by omega) ?_)
        intro g9 cap9 w9 hov9 hf9 hg9
        obtain ⟨la, hov, lo, hb⟩ := unhide HX
        have lo9 := lo.frm hf9 (fun hq => by have := (hov.2 _ hq).1; omega)
        have hb9 := hb.trans (hf9.below hb.size (fun q hq => by have := (hov.2 q hq).1; omega))
        have hlen : (m2 ++ [x]).length = m2.length + 1 := by simp
        rw [← hlen] at hov9
        have HE := hide (And.intro hov9 (And.intro lo9 hb9))
        have HS3 := hide (unhide HS2 (m2 ++ [x]) (by simp))
        have hml3 : (m2 ++ [x]).length ≤ 2 * (j + 1) := by rw [hlen]; omega
        rw [← hlen]
        generalize m2 ++ [x] = m3 at *
        clear la hov lo hb lo9 hb9 hov9 hf9 hg9 HX hlen
        go_wp2_with fail
        go_roundw
        case rel => exact ⟨j + 1, pt || q1, m3, by omega, by go_num, rfl, (unhide HE).1, hml3, unhide HS3, (unhide HE).2.1, (unhide HE).2.2⟩
        case measure => simp [intOf]; omega
    · have hlt' : ¬ (j : Int) < (p.attrs.length : Int) := by omega
      have hje : p.attrs.drop j = [] := List.drop_eq_nil_of_le (by omega)
      rw [hje] at hset
      have o9 : wr.cell? ⟨w.heap.size, 9, none⟩ = some (.slice k2 o.name.length d2) := lo.cell 9
      have o10 : wr.cell? ⟨w.heap.size, 10, none⟩ = some (.slice k3 o.text.length d3) := lo.cell 10
      have hsz : w.heap.size + 1 ≤ wr.heap.size := by omega
      cases pt with
      | true =>
        replace hset : m = setA o.name o.text o.gone p.attrs := by rw [hset]; simp [setA]
        have yW : wr.cell? ⟨b, k * 9 + 8, none⟩ = some (.slice qa p.attrs.length qc) := (hb.cell (p := ⟨b, k * 9 + 8, none⟩) hbl).trans z8
        obtain ⟨_, _, _, _, _, _, _, _, _, eb9, _, _, _, _, _, _, _, _, _, _, _, _, hfz⟩ := ((unhide HST).keep hb).cells hk
        injection eb9 with eb9
        injection eb9 with eb9 _ _
        subst eb9
        have fW := hfz (k * 9 + 8)
        by_cases h4 : m.length ≤ 4
        · have h4' : (m.length : Int) ≤ 4 := by omega
          obtain ⟨F', hst, hf, hFq⟩ := (unhide HST).attrs hk hb hov
          have hP : attrP o p = { p with attrs := m } := by unfold attrP setAttrs; rw [← hset, if_pos h4]
          have HE := hide (show (∃ F', StB w0 _ sb (some ⟨b, 0, none⟩) c (l.set k (attrP o p)) F' ∧ ∀ q ∈ F', q ∈ F ∨ w.heap.size ≤ q) ∧ Frm w _ [b] from ⟨⟨F', by rw [hP]; exact hst, hFq⟩, hf⟩)
          clear hFq
          clear hst hf hP hov hb lo hset HST hfz hk
          go_wp2_with fail
          go_end0
          exact ⟨⟨_, rfl⟩, unhide HE⟩
        · have h4' : ¬ (m.length : Int) ≤ 4 := by omega
          have hP : attrP o p = p := by unfold attrP setAttrs; rw [← hset, if_neg h4]
          have HE := hide (show (∃ F', StB w0 wr sb (some ⟨b, 0, none⟩) c (l.set k (attrP o p)) F' ∧ ∀ q ∈ F', q ∈ F ∨ w.heap.size ≤ q) ∧ Frm w wr [b] from ⟨⟨F, by rw [hP]; exact (unhide HST).same hk hb, fun q hq => .inl hq⟩, Frm.ofBelow hb _⟩)
          clear hP hov hb lo hset HST hfz hk
          go_wp2_with fail
          go_end0
          exact ⟨⟨_, rfl⟩, unhide HE⟩
      | false =>
        replace hset : m ++ [(o.name, o.text)] = setA o.name o.text o.gone p.attrs := by rw [hset]; simp [setA]
        have HX := hide (And.intro hov (And.intro lo (And.intro hb hset)))
        clear hov lo hb hset
        go_wp2_with (at_builtin; refine wpList_aoPush rfl _ _ rfl _ m rfl (unhide HX).1 (.slice k2 o.name.length d2) (.slice k3 o.text.length d3) (o.name, o.text) 1 rfl h2 h3 hsz (by omega) ?_)
        intro g9 cap9 w9 hov9 hf9 hg9
        obtain ⟨hov, lo, hb0, hset⟩ := unhide HX
        have hb := hb0.trans (hf9.below hb0.size (fun q hq => by have := (hov.2 q hq).1; omega))
        have hlen : (m ++ [(o.name, o.text)]).length = m.length + 1 := by simp
        rw [← hlen] at hov9 ⊢
        generalize m ++ [(o.name, o.text)] = m3 at *
        clear hlen hf9 hg9 HX hov hb0 y8 o9 o10
        have hov := hov9
        clear hov9
        have yW : w9.cell? ⟨b, k * 9 + 8, none⟩ = some (.slice qa p.attrs.length qc) := (hb.cell (p := ⟨b, k * 9 + 8, none⟩) hbl).trans z8
        obtain ⟨_, _, _, _, _, _, _, _, _, eb9, _, _, _, _, _, _, _, _, _, _, _, _, hfz⟩ := ((unhide HST).keep hb).cells hk
        injection eb9 with eb9
        injection eb9 with eb9 _ _
        subst eb9
        have fW := hfz (k * 9 + 8)
        by_cases h4 : m3.length ≤ 4
        · have h4' : (m3.length : Int) ≤ 4 := by omega
          obtain ⟨F', hst, hf, hFq⟩ := (unhide HST).attrs hk hb hov
          have hP : attrP o p = { p with attrs := m3 } := by unfold attrP setAttrs; rw [← hset, if_pos h4]
          have HE := hide (show (∃ F', StB w0 _ sb (some ⟨b, 0, none⟩) c (l.set k (attrP o p)) F' ∧ ∀ q ∈ F', q ∈ F ∨ w.heap.size ≤ q) ∧ Frm w _ [b] from ⟨⟨F', by rw [hP]; exact hst, hFq⟩, hf⟩)
          clear hFq
          clear hst hf hP hov hb lo hset HST hfz hk
          go_wp2_with fail
          go_end0
          exact ⟨⟨_, rfl⟩, unhide HE⟩
        · have h4' : ¬ (m3.length : Int) ≤ 4 := by omega
          have hP : attrP o p = p := by unfold attrP setAttrs; rw [← hset, if_neg h4]
          have HE := hide (show (∃ F', StB w0 w9 sb (some ⟨b, 0, none⟩) c (l.set k (attrP o p)) F' ∧ ∀ q ∈ F', q ∈ F ∨ w.heap.size ≤ q) ∧ Frm w w9 [b] from ⟨⟨F, by rw [hP]; exact (unhide HST).same hk hb, fun q hq => .inl hq⟩, Frm.ofBelow hb _⟩)
          clear hP hov hb lo hset HST hfz hk
          go_wp2_with fail
          go_end0
          exact ⟨⟨_, rfl⟩, unhide HE⟩
end Go.Proofs.YtnfafchajjclaaaGreatDoor

/- A place of the specification's state is moved, or its text changed; a place is put behind the others. No function of the program. -/
namespace Go.Proofs.YtnfafchajjclaaaGreatDoor
open Go.RowKit
set_option linter.unusedVariables false
set_option maxRecDepth 100000

theorem StB.one {w0 w : World} {sb b c : Nat} {l : List PlV} {F : List Nat} (h : StB w0 w sb (some ⟨b, 0, none⟩) c l F) {k : Nat} {p : PlV} (hk : l[k]? = some p) :
    ∃ Cs C G, RowJ w 107 9 b l.length c Cs k C ∧ PlF w0 w C p G ∧ G.Nodup ∧ b ∉ G ∧ b < w.heap.size ∧ b ≠ sb ∧
      ∀ (w' : World) (D : List Value) (p' : PlV) (G' : List Nat), RowJ w' 107 9 b l.length c Cs k D → Frm w w' [b] → PlF w0 w' D p' G' → G'.Nodup → (∀ q ∈ G', q ∈ G) →
        ∃ F', StB w0 w' sb (some ⟨b, 0, none⟩) c (l.set k p') F' ∧ ∀ q ∈ F', q ∈ F := by
  obtain ⟨h1, h2, h3, h4, h5, h6⟩ := h
  obtain ⟨hlt, rfl⟩ := List.getElem?_eq_some_iff.1 hk
  obtain ⟨Cs, C, G, hR, hP, hGN, hGF, hbF, hbG, hcl⟩ := h2.one h3 k hlt
  have hbl := (h4 b hbF).2.1
  have hbs := (h4 b hbF).2.2
  refine ⟨Cs, C, G, hR, hP, hGN, hbG, hbl, hbs, fun w' D p' G' hR' f hP' hN' hG' => ?_⟩
  obtain ⟨F', g1, g2, g3⟩ := hcl w' D p' G' hR' f hP' hN' (fun q hq => .inl (hG' q hq))
  have g4 : ∀ q ∈ F', q ∈ F := fun q hq => (g3 q hq).elim id (fun h7 => hGF q (hG' q h7))
  have hs9 := f.size
  refine ⟨F', ⟨?_, g1, g2, fun q hq => ?_, h5, h6.trans (f.below h6.size (fun q hq => by simp at hq; subst hq; exact (h4 q hbF).1))⟩, g4⟩
  · rw [List.length_set]
    exact h1.frm f (by simp; omega)
  · have := h4 q (g4 q hq)
    exact ⟨this.1, by omega, this.2.2⟩
theorem StB.text {w0 w : World} {sb b c : Nat} {l : List PlV} {F : List Nat} (h : StB w0 w sb (some ⟨b, 0, none⟩) c l F) {k : Nat} {p : PlV} (hk : l[k]? = some p) {v : Value} {t : List Int} (hv : Byt w0 v t) :
    (∃ F', StB w0 (w.setCell ⟨b, k * 9 + 7, none⟩ v) sb (some ⟨b, 0, none⟩) c (l.set k { p with text := t }) F' ∧ ∀ q ∈ F', q ∈ F) ∧ Frm w (w.setCell ⟨b, k * 9 + 7, none⟩ v) [b] := by
  obtain ⟨Cs, C, G, hR, hP, hGN, hbG, hbl, hbs, hcl⟩ := h.one hk
  have f := set_frm w b (k * 9 + 7) v
  obtain ⟨kv, n, t9, a, F1, F2, F3, eC, q1, q2, q3, q4, eG⟩ := hP.frm f (fun q hq e => by simp at e; subst e; exact hbG hq)
  refine ⟨hcl _ _ { p with text := t } G (hR.put 7 (by decide) v) f ?_ hGN (fun q hq => hq), f⟩
  subst eC
  exact ⟨kv, n, v, a, F1, F2, F3, rfl, q1, q2, hv, q4, eG⟩
theorem StB.key {w0 w : World} {sb b c : Nat} {l : List PlV} {F : List Nat} (h : StB w0 w sb (some ⟨b, 0, none⟩) c l F) {k : Nat} {p : PlV} (hk : l[k]? = some p) {v : Value} {t : List Int} (hv : Ints w0 v t) :
    (∃ F', StB w0 (w.setCell ⟨b, k * 9 + 4, none⟩ v) sb (some ⟨b, 0, none⟩) c (l.set k { p with key := t }) F' ∧ ∀ q ∈ F', q ∈ F) ∧ Frm w (w.setCell ⟨b, k * 9 + 4, none⟩ v) [b] := by
  obtain ⟨Cs, C, G, hR, hP, hGN, hbG, hbl, hbs, hcl⟩ := h.one hk
  have f := set_frm w b (k * 9 + 4) v
  obtain ⟨kv, n, t9, a, F1, F2, F3, eC, q1, q2, q3, q4, eG⟩ := hP.frm f (fun q hq e => by simp at e; subst e; exact hbG hq)
  subst eG
  refine ⟨hcl _ _ { p with key := t } ([] ++ F2 ++ F3) (hR.put 4 (by decide) v) f ?_ ?_ (fun q hq => ?_), f⟩
  · subst eC
    exact ⟨v, n, t9, a, [], F2, F3, rfl, .inl ⟨hv, rfl⟩, q2, q3, q4, rfl⟩
  · rw [List.append_assoc] at hGN
    exact (List.nodup_append.1 hGN).2.1
  · rw [List.append_assoc]
    exact List.mem_append_right _ hq
theorem StB.par {w0 w : World} {sb b c : Nat} {l : List PlV} {F : List Nat} (h : StB w0 w sb (some ⟨b, 0, none⟩) c l F) {k : Nat} {p : PlV} (hk : l[k]? = some p) (x y : Int) :
    (∃ F', StB w0 ((w.setCell ⟨b, k * 9 + 2, none⟩ (.int .i64 x)).setCell ⟨b, k * 9 + 3, none⟩ (.int .i64 y)) sb (some ⟨b, 0, none⟩) c (l.set k { p with parN := x, parR := y }) F' ∧ ∀ q ∈ F', q ∈ F) ∧ Frm w ((w.setCell ⟨b, k * 9 + 2, none⟩ (.int .i64 x)).setCell ⟨b, k * 9 + 3, none⟩ (.int .i64 y)) [b] := by
  obtain ⟨Cs, C, G, hR, hP, hGN, hbG, hbl, hbs, hcl⟩ := h.one hk
  have f := (set_frm w b (k * 9 + 2) (.int .i64 x)).trans (set_frm _ b (k * 9 + 3) (.int .i64 y))
  obtain ⟨kv, n, t9, a, F1, F2, F3, eC, q1, q2, q3, q4, eG⟩ := hP.frm f (fun q hq e => by simp at e; subst e; exact hbG hq)
  refine ⟨hcl _ _ { p with parN := x, parR := y } G ((hR.put 2 (by decide) (.int .i64 x)).put 3 (by decide) (.int .i64 y)) f ?_ hGN (fun q hq => hq), f⟩
  subst eC
  exact ⟨kv, n, t9, a, F1, F2, F3, rfl, q1, q2, q3, q4, eG⟩
theorem PlF.lt {w0 w : World} {C : List Value} {p : PlV} {G : List Nat} (h : PlF w0 w C p G) : ∀ q ∈ G, q < w.heap.size := by
  obtain ⟨k, n, t, a, F1, F2, F3, e, h1, h2, h3, h4, rfl⟩ := h
  intro q hq
  rcases List.mem_append.1 hq with hq | hq
  · rcases List.mem_append.1 hq with hq | hq
    · rcases h1 with ⟨_, rfl⟩ | ⟨h1, rfl⟩
      · cases hq
      · exact (h1.rng q hq).2
    · rcases h2 with ⟨_, rfl⟩ | ⟨h2, rfl⟩
      · cases hq
      · exact (h2.rng q hq).2
  · rcases h4 with ⟨_, rfl⟩ | h4
    · cases hq
    · exact OwElems.lt h4 (fun C x G ⟨_, _, _, _, _, e⟩ g hg => by rw [e] at hg; cases hg) q hq
theorem PlsF.head {w0 w : World} {v : Value} {l : List PlV} {F : List Nat} (h : PlsF w0 w v l F) : ∀ q ∈ FB v, q ∈ F := by
  obtain ⟨Cs, Fs, h1, h2, h3, h4, rfl⟩ := h
  exact fun q hq => List.mem_append_left _ hq
end Go.Proofs.YtnfafchajjclaaaGreatDoor

/- A region that draws its order, by what is said at each point of its way: a step for each operation, in place of a way for each order. Plain, and in a round of a loop over a function. No program. -/
namespace Go.Proofs.YtnfafchajjclaaaGreatDoor
open Go.RowKit
set_option linter.unusedVariables false

/-- How many are not yet listed. -/
def todo : List Bool → Nat
  | [] => 0
  | b :: l => (if b then 0 else 1) + todo l
theorem todo_set : ∀ (l : List Bool) (i : Nat), l[i]? = some false → todo (l.set i true) + 1 = todo l
  | [], i, h => by simp at h
  | b :: l, 0, h => by
    have e : b = false := by simpa using h
    subst e
    simp only [List.set_cons_zero, todo, if_true, Bool.false_eq_true, if_false]
    omega
  | b :: l, i + 1, h => by
    have ih := todo_set l i (by simpa using h)
    simp only [List.set_cons_succ, todo]
    omega
theorem todo_none : ∀ (l : List Bool), todo l = 0 → ∀ (i : Nat) (b : Bool), l[i]? = some b → b = true
  | [], _, i, b, h => by simp at h
  | c :: l, h0, 0, b, h => by
    have e : c = b := by simpa using h
    subst e
    cases c with
    | true => rfl
    | false => simp [todo] at h0
  | c :: l, h0, i + 1, b, h => todo_none l (by simp only [todo] at h0; omega) i b (by simpa using h)
theorem todo_all (n : Nat) : todo (List.replicate n false) = n := by
  induction n with
  | zero => rfl
  | succ n ih => rw [List.replicate_succ]; simp only [todo, Bool.false_eq_true, if_false]; omega
theorem ready_off {md : Region.Mode} {ops : Array Oper} {L : Array Bool} {i : Nat} (hs : L.size = ops.size) (h : i ∈ Region.ready md ops L) : L.toList[i]? = some false := by
  unfold Region.ready at h
  rw [List.mem_filter, List.mem_range, Bool.and_eq_true] at h
  obtain ⟨h1, h2, _⟩ := h
  have hi : i < L.size := by omega
  rw [Array.getD_eq_getD_getElem?, Array.getElem?_eq_getElem hi] at h2
  rw [Array.getElem?_toList, Array.getElem?_eq_getElem hi]
  simpa using h2
theorem ready_none {md : Region.Mode} {ops : Array Oper} {L : Array Bool} (hs : L.size = ops.size) (h : todo L.toList = 0) : Region.ready md ops L = [] := by
  rw [List.eq_nil_iff_forall_not_mem]
  intro i hi
  have := todo_none _ h i false (ready_off hs hi)
  cases this

/-- What an operation waits for is listed where it is ready. -/
theorem ready_pred {md : Region.Mode} {ops : Array Oper} {L : Array Bool} {i : Nat} {o : Oper} (h : i ∈ Region.ready md ops L) (ho : ops[i]? = some o) (j : Nat) (he : o.after.any (fun e => Region.binds md e && e.on == j) = true) : L.getD j false = true := by
  unfold Region.ready at h
  rw [List.mem_filter, Bool.and_eq_true, ho] at h
  obtain ⟨_, _, h3⟩ := h
  simp only [Option.map_some, Option.getD_some] at h3
  rw [Array.any_eq_true] at he
  obtain ⟨k, hk, hb⟩ := he
  rw [Bool.and_eq_true, beq_iff_eq] at hb
  rw [Array.all_eq_true] at h3
  have := h3 k hk
  rw [Bool.or_eq_true, hb.1, hb.2] at this
  simpa using this
theorem ready_lt {md : Region.Mode} {ops : Array Oper} {L : Array Bool} {i : Nat} (h : i ∈ Region.ready md ops L) : i < ops.size := by
  unfold Region.ready at h
  rw [List.mem_filter, List.mem_range] at h
  exact h.1
/-- Where each waits for earlier ones alone, none is ready only behind the last. -/
theorem ready_all {md : Region.Mode} {ops : Array Oper} {L : Array Bool} (hs : L.size = ops.size) (hb : (List.range ops.size).all (fun i => ((ops[i]?).map fun o => o.after.all fun e => !Region.binds md e || decide (e.on < i)).getD true) = true)
    (h : Region.ready md ops L = []) : ∀ (n i : Nat), i < n → i < ops.size → L.getD i false = true
  | 0, i, hn, _ => by omega
  | n + 1, i, hn, hi => by
    by_cases hlt : i < n
    · exact ready_all hs hb h n i hlt hi
    have e : i = n := by omega
    subst e
    have hL : i < L.size := by omega
    by_cases hf : L.getD i false = true
    · exact hf
    exfalso
    have hmem : i ∈ Region.ready md ops L := by
      unfold Region.ready
      rw [List.mem_filter, List.mem_range, Bool.and_eq_true]
      refine ⟨hi, ?_, ?_⟩
      · rw [Array.getD_eq_getD_getElem?, Array.getElem?_eq_getElem hL] at hf ⊢
        simpa using hf
      · have hbi := List.all_eq_true.1 hb i (List.mem_range.2 hi)
        rw [Array.getElem?_eq_getElem hi] at hbi ⊢
        simp only [Option.map_some, Option.getD_some] at hbi ⊢
        rw [Array.all_eq_true] at hbi ⊢
        intro k hk
        have hk' := hbi k hk
        rw [Bool.or_eq_true] at hk' ⊢
        rcases hk' with hk' | hk'
        · exact .inl hk'
        · right
          have hlt' : (ops[i].after[k]).on < i := by simpa using hk'
          exact ready_all hs hb h i _ hlt' (by omega)
    rw [h] at hmem
    cases hmem

variable {P : Program} {ops : Array Oper} {Q : Exit → Act → World → Prop}

theorem any_inv {md : Region.Mode} (I : Array Bool → Act → World → Prop) (hsz : ∀ L a w, I L a w → L.size = ops.size)
    (hstep : ∀ L a w i o, I L a w → i ∈ Region.ready md ops L → ops[i]? = some o → if Region.wanted o (yielded ops a.tmps) = true then Oper.wp P o a w (I (L.setIfInBounds i true)) Q else I (L.setIfInBounds i true) (a.put o.dst undef) w)
    (hdone : ∀ L a w, I L a w → Region.ready md ops L = [] → Q .normal a w) :
    ∀ (fuel : Nat) (L : Array Bool) (a : Act) (w : World), todo L.toList ≤ fuel → I L a w → wpAny P md ops Q fuel L a w
  | 0, L, a, w, hf, hI => by
    have hr := ready_none (md := md) (hsz L a w hI) (by omega)
    exact ⟨hr, hdone L a w hI hr⟩
  | fuel + 1, L, a, w, hf, hI => by
    refine ⟨fun hr => hdone L a w hI hr, fun i hi => ?_⟩
    have ho := todo_set _ _ (ready_off (hsz L a w hI) hi)
    have key : ∀ a' w', I (L.setIfInBounds i true) a' w' → wpAny P md ops Q fuel (L.setIfInBounds i true) a' w' := fun a' w' h' =>
      any_inv I hsz hstep hdone fuel _ a' w' (by rw [Array.toList_setIfInBounds]; omega) h'
    unfold wpOp
    cases hoi : ops[i]? with
    | none =>
      unfold Region.ready at hi
      rw [List.mem_filter, List.mem_range] at hi
      rw [Array.getElem?_eq_getElem hi.1] at hoi
      cases hoi
    | some o =>
      have hs := hstep L a w i o hI hi hoi
      simp only []
      split
      · rename_i hw
        rw [if_pos hw] at hs
        exact .inl (Oper.wp_mono key hs)
      · rename_i hw
        rw [if_neg hw] at hs
        exact key _ _ hs
/-- The region, plain. -/
theorem region_inv {id : Nat} {a : Act} {w : World} (hm : P.follows .mixedOrders = true) (I : Array Bool → Act → World → Prop) (hsz : ∀ L a w, I L a w → L.size = ops.size)
    (h0 : I (Array.replicate ops.size false) a w.drew)
    (hstep : ∀ L a w i o, I L a w → i ∈ Region.ready .any ops L → ops[i]? = some o → if Region.wanted o (yielded ops a.tmps) = true then Oper.wp P o a w (I (L.setIfInBounds i true)) Q else I (L.setIfInBounds i true) (a.put o.dst undef) w)
    (hdone : ∀ L a w, I L a w → Region.ready .any ops L = [] → Q .normal a w) : (Code.region id ops true).wp P Q a w :=
  wp_region_any hm (any_inv I hsz hstep hdone _ _ _ _ (by rw [Array.toList_replicate, todo_all]; exact Nat.le_refl _) h0)
end Go.Proofs.YtnfafchajjclaaaGreatDoor

/- spec.l5do: one operation over the specification's state. -/
namespace Go.Proofs.YtnfafchajjclaaaGreatDoor
open Go.RowKit
set_option linter.unusedVariables false
set_option maxRecDepth 100000

theorem pl_info : (Tryz.prog.info? 107).map (fun i => (i.zero, i.size, i.bytes)) = some (some (.agg #[.int .i64 0, .int .i64 0, .int .i64 0, .int .i64 0, .slice none 0 0, .int .i64 0, .slice none 0 0, .slice none 0 0, .slice none 0 0]), 9, 136) := by kernel_rfl
theorem newP_f {w0 w : World} {o : OpV} {k1 k2 k3 : Option Addr} {d1 d2 d3 : Nat} (h1 : Ints w0 (.slice k1 o.key.length d1) o.key) (h2 : Byt w0 (.slice k2 o.name.length d2) o.name) (h3 : Byt w0 (.slice k3 o.text.length d3) o.text) : PlF w0 w [.int .i64 o.atN, .int .i64 o.atR, .int .i64 o.parN, .int .i64 o.parR, .slice k1 o.key.length d1, .int .i64 o.elem, .slice k2 o.name.length d2, .slice k3 o.text.length d3, .slice none 0 0] (newP o) [] :=
  ⟨_, _, _, _, [], [], [], rfl, .inl ⟨h1, rfl⟩, .inl ⟨h2, rfl⟩, h3, .inl ⟨⟨by simp [newP, maxLen], .inl ⟨rfl, rfl⟩⟩, rfl⟩, rfl⟩
theorem do_text {l : List PlV} {o : OpV} (e0 : o.kind ≠ 0) (e1 : o.kind ≠ 1) (e2 : o.kind = 2) : (posP l o.node = none → doV l o = l) ∧ ∀ k p, posP l o.node = some k → l[k]? = some p → doV l o = if 2 ≤ k ∧ p.kind = 1 then l.set k (textP o p) else l := by
  refine ⟨fun h => ?_, fun k p h hk => ?_⟩
  · unfold doV; rw [if_neg e0, h]
  · unfold doV; rw [if_neg e0, h]; simp only [hk]; rw [if_neg e1, if_pos e2]
theorem do_attr {l : List PlV} {o : OpV} (e0 : o.kind ≠ 0) (e1 : o.kind ≠ 1) (e2 : o.kind ≠ 2) : (posP l o.node = none → doV l o = l) ∧ ∀ k p, posP l o.node = some k → l[k]? = some p → doV l o = if k ≠ 1 ∧ p.kind = 0 then l.set k (attrP o p) else l := by
  refine ⟨fun h => ?_, fun k p h hk => ?_⟩
  · unfold doV; rw [if_neg e0, h]
  · unfold doV; rw [if_neg e0, h]; simp only [hk]; rw [if_neg e1, if_neg e2]
theorem do_move {l : List PlV} {o : OpV} (e0 : o.kind ≠ 0) (e1 : o.kind = 1) : (posP l o.node = none → doV l o = l) ∧ ∀ k p, posP l o.node = some k → l[k]? = some p → doV l o = if mayMove l o k then l.set k (moveP o p) else l := by
  refine ⟨fun h => ?_, fun k p h hk => ?_⟩
  · unfold doV; rw [if_neg e0, h]
  · unfold doV; rw [if_neg e0, h]; simp only [hk]; rw [if_pos e1]
def DoR (w0 w : World) (sb : Nat) (F : List Nat) (m : List PlV) (w' : World) : Prop := ∃ a' c' F', StB w0 w' sb a' c' m F' ∧ Frm w w' (sb :: F) ∧ ∀ q ∈ F', q ∈ F ∨ w.heap.size ≤ q
theorem DoR.of {w0 w w' : World} {sb : Nat} {a : Option Addr} {c : Nat} {l m : List PlV} {F F' : List Nat} (h : StB w0 w' sb a c l F') (e : m = l) (f : Frm w w' (sb :: F)) (hF : ∀ q ∈ F', q ∈ F ∨ w.heap.size ≤ q) : DoR w0 w sb F m w' := ⟨a, c, F', e ▸ h, f, hF⟩
theorem Frm.more9 {a b c : World} {S S' : List Nat} (h : Frm a b S) (k : Frm b c S') (hs : ∀ q ∈ S', q ∈ S ∨ a.heap.size ≤ q) : Frm a c S :=
  ⟨k.os.trans h.os, k.tape.trans h.tape, k.output.trans h.output, Nat.le_trans h.size k.size, fun i hi hn => (k.block i (Nat.lt_of_lt_of_le hi h.size) (fun e => (hs i e).elim hn (fun h' => by omega))).trans (h.block i hi hn)⟩
def AfR (w0 w3 w : World) (sb : Nat) (a : Option Addr) (c : Nat) (l : List PlV) (F : List Nat) (o : OpV) (gq cq : Nat) : Prop := ∃ F', Loc w sb #[.slice a l.length c] 32 ∧ PlsF w0 w (.slice (some ⟨gq, 0, none⟩) (l.length + 1) cq) (l ++ [newP o]) F' ∧ F'.Nodup ∧ (∀ q ∈ F', w0.heap.size ≤ q ∧ q < w.heap.size ∧ q ≠ sb) ∧ w0.heap.size ≤ sb ∧ Below w0.heap.size w0 w ∧ (∀ q ∈ F', q ∈ F ∨ w3.heap.size ≤ q) ∧ Frm w3 w (sb :: F)
theorem AfR.done {w0 w3 w : World} {sb : Nat} {a : Option Addr} {c : Nat} {l : List PlV} {F : List Nat} {o : OpV} {gq cq : Nat} (h : AfR w0 w3 w sb a c l F o gq cq) : DoR w0 w3 sb F (l ++ [newP o]) (w.setCell ⟨sb, 0, none⟩ (.slice (some ⟨gq, 0, none⟩) (l.length + 1) cq)) := by
  obtain ⟨F', h1, h2, h3, h4, h5, h6, h7, h8⟩ := h
  have f := set_frm w sb 0 (.slice (some ⟨gq, 0, none⟩) (l.length + 1) cq)
  have hlen : (l ++ [newP o]).length = l.length + 1 := by simp
  refine ⟨some ⟨gq, 0, none⟩, cq, F', ⟨?_, ?_, h3, fun q hq => ⟨(h4 q hq).1, Nat.lt_of_lt_of_le (h4 q hq).2.1 f.size, (h4 q hq).2.2⟩, h5, h6.trans (f.below h6.size (fun q hq => by simp at hq; omega))⟩, h8.more9 f (fun q hq => by simp at hq; left; simp [hq]), h7⟩
  · rw [hlen]; exact h1.set 0 _
  · rw [hlen]; exact h2.frm f (fun q hq e => (h4 q hq).2.2 (by simpa using e))
def Dn7 (w0 w3 : World) (sb ob : Nat) (ap : Option Addr) (c : Nat) (l : List PlV) (F : List Nat) (o : OpV) (k1 k2 k3 : Option Addr) (d1 d2 d3 : Nat) (s1 s2 s4 s5 s6 s7 s8 s9 s10 s11 s12 s13 s14 s15 s16 s17 s18 s19 s20 s21 s22 s23 s24 s25 s26 s27 s28 s29 s30 s31 s32 s33 s34 s35 s36 s37 s38 s39 s40 s41 s42 s43 s66 s67 s68 s69 s70 s71 s72 s73 s74 s75 s76 s77 s78 s79 s80 s81 s82 s83 s84 s85 s86 s87 s88 s89 s90 s91 s92 s93 s94 s95 s96 s97 s98 s99 s100 s101 s102 s103 s104 s105 s106 s107 s108 s109 s110 s111 s112 s113 s114 s115 s116 s117 s118 s119 s120 s121 s122 s123 s124 s125 s126 s127 s128 : Value) (L : Array Bool) (a : Act) (w : World) : Prop :=
  ∀ C : Prop, (∀ (b0 b1 b2 b3 b4 b5 b6 b7 b8 b9 b10 b11 b12 b13 b14 b15 b16 b17 b18 b19 b20 b21 b22 : Bool) (x44 x45 x46 x47 x48 x49 x50 x51 x52 x53 x54 x55 x56 x57 x58 x59 x60 x61 x62 x63 x64 x65 : Value), L = #[b0, b1, b2, b3, b4, b5, b6, b7, b8, b9, b10, b11, b12, b13, b14, b15, b16, b17, b18, b19, b20, b21, b22] → a = { tmps := #[.pointer (some ⟨sb, 0, none⟩), s1, s2, .pointer (some ⟨ob, 0, none⟩), s4, s5, s6, s7, s8, s9, s10, s11, s12, s13, s14, s15, s16, s17, s18, s19, s20, s21, s22, s23, s24, s25, s26, s27, s28, s29, s30, s31, s32, s33, s34, s35, s36, s37, s38, s39, s40, s41, s42, s43, x44, x45, x46, x47, x48, x49, x50, x51, x52, x53, x54, x55, x56, x57, x58, x59, x60, x61, x62, x63, x64, x65, s66, s67, s68, s69, s70, s71, s72, s73, s74, s75, s76, s77, s78, s79, s80, s81, s82, s83, s84, s85, s86, s87, s88, s89, s90, s91, s92, s93, s94, s95, s96, s97, s98, s99, s100, s101, s102, s103, s104, s105, s106, s107, s108, s109, s110, s111, s112, s113, s114, s115, s116, s117, s118, s119, s120, s121, s122, s123, s124, s125, s126, s127, s128], defers := [] } → Loc w ob #[.int .i64 o.kind, .int .i64 o.atN, .int .i64 o.atR, .int .i64 o.nodeN, .int .i64 o.nodeR, .int .i64 o.parN, .int .i64 o.parR, .slice k1 o.key.length d1, .int .i64 o.elem, .slice k2 o.name.length d2, .slice k3 o.text.length d3, .bool o.gone] 68 → w3.heap.size ≤ w.heap.size → (b19 = false → StB w0 w sb ap c l F) → Frm w3 w (sb :: F) → (b0 = true → x44 = .pointer (some ⟨sb, 0, none⟩)) → (b1 = true → x45 = .pointer (some ⟨sb, 0, none⟩)) → (b2 = true → x46 = .pointer (some ⟨sb, 0, none⟩)) → (b3 = true → x47 = .pointer (some ⟨sb, 0, none⟩)) → (b4 = true → x48 = .slice ap l.length c) → (b5 = true → x49 = .pointer (some ⟨ob, 1, none⟩)) → (b6 = true → x50 = .agg #[.int .i64 o.atN, .int .i64 o.atR]) → (b7 = true → x51 = .pointer (some ⟨ob, 5, none⟩)) → (b8 = true → x52 = .agg #[.int .i64 o.parN, .int .i64 o.parR]) → (b9 = true → x53 = .pointer (some ⟨ob, 7, none⟩)) → (b10 = true → x54 = .slice k1 o.key.length d1) → (b11 = true → x55 = .pointer (some ⟨ob, 8, none⟩)) → (b12 = true → x56 = .int .i64 o.elem) → (b13 = true → x57 = .pointer (some ⟨ob, 9, none⟩)) → (b14 = true → x58 = .slice k2 o.name.length d2) → (b15 = true → x59 = .pointer (some ⟨ob, 10, none⟩)) → (b16 = true → x60 = .slice k3 o.text.length d3) → (b17 = true → x61 = .agg #[.int .i64 o.atN, .int .i64 o.atR, .int .i64 o.parN, .int .i64 o.parR, .slice k1 o.key.length d1, .int .i64 o.elem, .slice k2 o.name.length d2, .slice k3 o.text.length d3, .slice none 0 0]) → (b18 = true → ∃ z, x62 = .slice (some ⟨z, 0, none⟩) 1 1 ∧ w3.heap.size ≤ z ∧ (b19 = false → Loc w z #[.int .i64 o.atN, .int .i64 o.atR, .int .i64 o.parN, .int .i64 o.parR, .slice k1 o.key.length d1, .int .i64 o.elem, .slice k2 o.name.length d2, .slice k3 o.text.length d3, .slice none 0 0] 107)) → (b19 = true → b4 = true ∧ b18 = true ∧ ∃ gq cq, x63 = .slice (some ⟨gq, 0, none⟩) (l.length + 1) cq ∧ (b22 = false → AfR w0 w3 w sb ap c l F o gq cq)) → (b20 = true → x64 = .pointer (some ⟨sb, 0, none⟩)) → (b21 = true → x65 = .pointer (some ⟨sb, 0, none⟩)) → (b22 = true → b19 = true ∧ DoR w0 w3 sb F (l ++ [newP o]) w) → C) → C
theorem Dn7_cases {i : Nat} (h : i < 23) : i = 0 ∨ i = 1 ∨ i = 2 ∨ i = 3 ∨ i = 4 ∨ i = 5 ∨ i = 6 ∨ i = 7 ∨ i = 8 ∨ i = 9 ∨ i = 10 ∨ i = 11 ∨ i = 12 ∨ i = 13 ∨ i = 14 ∨ i = 15 ∨ i = 16 ∨ i = 17 ∨ i = 18 ∨ i = 19 ∨ i = 20 ∨ i = 21 ∨ i = 22 := by omega
set_option maxHeartbeats 12800000 in
theorem l5do_any (w0 w : World) (sb : Nat) (a : Option Addr) (c : Nat) (l : List PlV) (F : List Nat) (h : StB w0 w sb a c l F) (hl : l.length ≤ 99999) (hal : ∀ p ∈ l, p.attrs.length ≤ 100) (o : OpV) (k1 k2 k3 : Option Addr) (d1 d2 d3 : Nat) (h1 : Ints w0 (.slice k1 o.key.length d1) o.key) (h2 : Byt w0 (.slice k2 o.name.length d2) o.name) (h3 : Byt w0 (.slice k3 o.text.length d3) o.text) :
    Calls Tryz.prog 52 #[.pointer (some ⟨sb, 0, none⟩), .agg #[.int .i64 o.kind, .int .i64 o.atN, .int .i64 o.atR, .int .i64 o.nodeN, .int .i64 o.nodeR, .int .i64 o.parN, .int .i64 o.parR, .slice k1 o.key.length d1, .int .i64 o.elem, .slice k2 o.name.length d2, .slice k3 o.text.length d3, .bool o.gone]] w fun e w' => (∃ v, e = .returned v) ∧ DoR w0 w sb F (doV l o) w' := by
  have hA : Below w.heap.size w (w.alloc (.cells #[.int .i64 o.kind, .int .i64 o.atN, .int .i64 o.atR, .int .i64 o.nodeN, .int .i64 o.nodeR, .int .i64 o.parN, .int .i64 o.parR, .slice k1 o.key.length d1, .int .i64 o.elem, .slice k2 o.name.length d2, .slice k3 o.text.length d3, .bool o.gone] 68)) := (Below.refl _ _).alloc (Nat.le_refl _) _
  have lo := Loc.made w #[.int .i64 o.kind, .int .i64 o.atN, .int .i64 o.atR, .int .i64 o.nodeN, .int .i64 o.nodeR, .int .i64 o.parN, .int .i64 o.parR, .slice k1 o.key.length d1, .int .i64 o.elem, .slice k2 o.name.length d2, .slice k3 o.text.length d3, .bool o.gone] 68
  have LL := hide (And.intro hA lo)
  have HST := hide h
  obtain ⟨M, hM⟩ : ∃ M, M = doV l o := ⟨_, rfl⟩
  rw [← hM]
  have HM := hide hM
  clear hA lo h hM
  go_enter Tryz.func52, Tryz.ntmps52
  go_wp2_with fail
  obtain ⟨hA, lo⟩ := unhide LL
  clear LL
  have hob : ∀ q ∈ F, q ≠ w.heap.size := fun q hq => by have := ((unhide HST).2.2.2.1 q hq).2.1; omega
  have hos : sb ≠ w.heap.size := by have := (unhide HST).1.lt; omega
  generalize (w.alloc (.cells #[.int .i64 o.kind, .int .i64 o.atN, .int .i64 o.atR, .int .i64 o.nodeN, .int .i64 o.nodeR, .int .i64 o.parN, .int .i64 o.parR, .slice k1 o.key.length d1, .int .i64 o.elem, .slice k2 o.name.length d2, .slice k3 o.text.length d3, .bool o.gone] 68)) = w1 at *
  refine (l5find_any w0 w1 sb a c l F (o.nodeN, o.nodeR) ((unhide HST).keep hA) (by omega)).mono ?_
  rintro e w2 ⟨rfl, hb2⟩
  have hs := (unhide HST).keep (bstep hA hb2)
  have HBW := hide (Frm.ofBelow (bstep hA hb2) (sb :: F))
  replace lo := lo.all hb2
  clear HST hA hb2
  obtain ⟨ob, hob'⟩ : ∃ ob, ob = w.heap.size := ⟨_, rfl⟩
  rw [← hob'] at hob hos lo ⊢
  clear hob'
  have HX := hide (And.intro hs lo)
  have y0 : w2.cell? ⟨sb, 0, none⟩ = some (.slice a l.length c) := hs.1.cell 0
  have o0 : w2.cell? ⟨ob, 0, none⟩ = some (.int .i64 o.kind) := lo.cell 0
  have o1 : w2.cell? ⟨ob, 1, none⟩ = some (.int .i64 o.atN) := lo.cell 1
  have o2 : w2.cell? ⟨ob, 2, none⟩ = some (.int .i64 o.atR) := lo.cell 2
  have o3 : w2.cell? ⟨ob, 3, none⟩ = some (.int .i64 o.nodeN) := lo.cell 3
  have o4 : w2.cell? ⟨ob, 4, none⟩ = some (.int .i64 o.nodeR) := lo.cell 4
  have o5 : w2.cell? ⟨ob, 5, none⟩ = some (.int .i64 o.parN) := lo.cell 5
  have o6 : w2.cell? ⟨ob, 6, none⟩ = some (.int .i64 o.parR) := lo.cell 6
  have o7 : w2.cell? ⟨ob, 7, none⟩ = some (.slice k1 o.key.length d1) := lo.cell 7
  have o8 : w2.cell? ⟨ob, 8, none⟩ = some (.int .i64 o.elem) := lo.cell 8
  have o9 : w2.cell? ⟨ob, 9, none⟩ = some (.slice k2 o.name.length d2) := lo.cell 9
  have o10 : w2.cell? ⟨ob, 10, none⟩ = some (.slice k3 o.text.length d3) := lo.cell 10
  have o11 : w2.cell? ⟨ob, 11, none⟩ = some (.bool o.gone) := lo.cell 11
  clear hs lo
  by_cases e0 : o.kind = 0
  · have d0 : (o.kind == 0) = true := by simpa using e0
    replace hM : M = if takesV l o.par then l ++ [newP o] else l := by rw [unhide HM]; unfold doV; rw [if_pos e0]
    clear HM e0
    have HM := hide hM
    clear hM
    go_wp2_with fail
    refine (l5find_any w0 w2 sb a c l F (o.parN, o.parR) (unhide HX).1 (by omega)).mono ?_
    rintro e w3 ⟨rfl, hb3⟩
    obtain ⟨hs, lo⟩ := unhide HX
    replace HBW := hide ((unhide HBW).more9 (Frm.ofBelow hb3 []) (fun q hq => by cases hq))
    replace hs := hs.keep hb3
    replace lo := lo.all hb3
    clear HX hb3 y0 o0 o1 o2 o3 o4 o5 o6 o7 o8 o9 o10 o11
    generalize hfi : findI l (o.parN, o.parR) = fi
    have HX := hide (And.intro hs (And.intro lo hfi.symm))
    clear hs lo hfi
    go_wp2_with fail
    refine (l5takes_any w0 w3 sb a c l F (o.parN, o.parR) (unhide HX).1 (by omega) fi (unhide HX).2.2).mono ?_
    rintro e w4 ⟨rfl, hw4⟩
    subst w4
    cases ht : takesV l (o.parN, o.parR) with
    | false =>
      have HE := hide (show DoR w0 w sb F M w3 from DoR.of (F' := F) (f := unhide HBW) (hF := fun q hq => .inl hq) (unhide HX).1 (by rw [unhide HM, if_neg (by show ¬ takesV l (o.parN, o.parR) = true; rw [ht]; simp)]))
      clear ht HM
      go_wp2_with fail
      go_end0
      exact ⟨⟨_, rfl⟩, unhide HE⟩
    | true =>
      replace HM := hide (show M = l ++ [newP o] by rw [unhide HM, if_pos (show takesV l o.par = true from ht)])
      clear ht
      go_upto_region 7 with fail
      obtain ⟨hs, lo, _⟩ := unhide HX
      have hdr : Below w3.heap.size w3 w3.drew := (Below.refl _ _).drew
      replace hs := hs.keep hdr
      replace lo := lo.all hdr
      clear HX
      obtain ⟨i0, hi0, hz0, hz1, hz2⟩ := info_parts pl_info
      have h1_ := h1
      have h2_ := h2
      have h3_ := h3
      clear h1 h2 h3
      refine region_inv (by kernel_rfl) (Dn7 w0 w3 sb ob a c l F o k1 k2 k3 d1 d2 d3 (.agg #[.int .i64 o.kind, .int .i64 o.atN, .int .i64 o.atR, .int .i64 o.nodeN, .int .i64 o.nodeR, .int .i64 o.parN, .int .i64 o.parR, .slice k1 o.key.length d1, .int .i64 o.elem, .slice k2 o.name.length d2, .slice k3 o.text.length d3, .bool o.gone]) (undef) (.int .i64 (findI l (o.nodeN, o.nodeR))) (.pointer (some ⟨sb, 0, none⟩)) (.pointer (some ⟨ob, 3, none⟩)) (.agg #[.int .i64 o.nodeN, .int .i64 o.nodeR]) (.int .i64 (findI l (o.nodeN, o.nodeR))) (.pointer (some ⟨ob, 0, none⟩)) (.int .i64 o.kind) (undef) (undef) (undef) (undef) (undef) (undef) (undef) (undef) (undef) (undef) (undef) (undef) (undef) (undef) (undef) (undef) (undef) (undef) (undef) (undef) (undef) (undef) (undef) (undef) (undef) (.bool true) (.bool true) (.pointer (some ⟨sb, 0, none⟩)) (.pointer (some ⟨sb, 0, none⟩)) (.pointer (some ⟨ob, 5, none⟩)) (.agg #[.int .i64 o.parN, .int .i64 o.parR]) (.int .i64 fi) (.bool true) (undef) (undef) (undef) (undef) (undef) (undef) (undef) (undef) (undef) (undef) (undef) (undef) (undef) (undef) (undef) (undef) (undef) (undef) (undef) (undef) (undef) (undef) (undef) (undef) (undef) (undef) (undef) (undef) (undef) (undef) (undef) (undef) (undef) (undef) (undef) (undef) (undef) (undef) (undef) (undef) (undef) (undef) (undef) (undef) (undef) (undef) (undef) (undef) (undef) (undef) (undef) (undef) (undef) (undef) (undef) (undef) (undef) (undef) (undef) (undef) (undef) (undef) (undef)) ?sz ?h0 ?step ?dn
      case sz =>
        intro L a w hI
        refine hI _ ?_
        intro b0 b1 b2 b3 b4 b5 b6 b7 b8 b9 b10 b11 b12 b13 b14 b15 b16 b17 b18 b19 b20 b21 b22 x44 x45 x46 x47 x48 x49 x50 x51 x52 x53 x54 x55 x56 x57 x58 x59 x60 x61 x62 x63 x64 x65 eL eA h0 h1 h2 h3 f0 f1 f2 f3 f4 f5 f6 f7 f8 f9 f10 f11 f12 f13 f14 f15 f16 f17 f18 f19 f20 f21 f22
        subst eL
        rfl
      case h0 =>
        exact fun _ k_ => k_ false false false false false false false false false false false false false false false false false false false false false false false _ _ _ _ _ _ _ _ _ _ _ _ _ _ _ _ _ _ _ _ _ _ rfl rfl lo (Nat.le_refl _) (fun _ => hs) (Frm.ofBelow hdr _) (fun h => by cases h) (fun h => by cases h) (fun h => by cases h) (fun h => by cases h) (fun h => by cases h) (fun h => by cases h) (fun h => by cases h) (fun h => by cases h) (fun h => by cases h) (fun h => by cases h) (fun h => by cases h) (fun h => by cases h) (fun h => by cases h) (fun h => by cases h) (fun h => by cases h) (fun h => by cases h) (fun h => by cases h) (fun h => by cases h) (fun h => by cases h) (fun h => by cases h) (fun h => by cases h) (fun h => by cases h) (fun h => by cases h)
      case step =>
        clear hs lo
        intro L a_ w i o_ hI hi ho
        refine hI _ ?_
        clear hI
        intro b0 b1 b2 b3 b4 b5 b6 b7 b8 b9 b10 b11 b12 b13 b14 b15 b16 b17 b18 b19 b20 b21 b22 x44 x45 x46 x47 x48 x49 x50 x51 x52 x53 x54 x55 x56 x57 x58 x59 x60 x61 x62 x63 x64 x65 eL eA h0 h1 h2 h3 f0 f1 f2 f3 f4 f5 f6 f7 f8 f9 f10 f11 f12 f13 f14 f15 f16 f17 f18 f19 f20 f21 f22
        subst eL eA
        rcases Dn7_cases (ready_lt hi) with rfl | rfl | rfl | rfl | rfl | rfl | rfl | rfl | rfl | rfl | rfl | rfl | rfl | rfl | rfl | rfl | rfl | rfl | rfl | rfl | rfl | rfl | rfl
        · obtain rfl := Option.some.inj ho
          go_simp
          exact fun _ k_ => k_ true b1 b2 b3 b4 b5 b6 b7 b8 b9 b10 b11 b12 b13 b14 b15 b16 b17 b18 b19 b20 b21 b22 _ x45 x46 x47 x48 x49 x50 x51 x52 x53 x54 x55 x56 x57 x58 x59 x60 x61 x62 x63 x64 x65 rfl rfl h0 h1 h2 h3 (fun _ => rfl) f1 f2 f3 f4 f5 f6 f7 f8 f9 f10 f11 f12 f13 f14 f15 f16 f17 f18 f19 f20 f21 f22
        · obtain rfl := Option.some.inj ho
          go_simp
          exact fun _ k_ => k_ b0 true b2 b3 b4 b5 b6 b7 b8 b9 b10 b11 b12 b13 b14 b15 b16 b17 b18 b19 b20 b21 b22 x44 _ x46 x47 x48 x49 x50 x51 x52 x53 x54 x55 x56 x57 x58 x59 x60 x61 x62 x63 x64 x65 rfl rfl h0 h1 h2 h3 f0 (fun _ => rfl) f2 f3 f4 f5 f6 f7 f8 f9 f10 f11 f12 f13 f14 f15 f16 f17 f18 f19 f20 f21 f22
        · have g1 := ready_pred hi ho 1
          obtain rfl := Option.some.inj ho
          have e1 := f1 (g1 (by kernel_rfl))
          subst e1
          go_simp
          exact fun _ k_ => k_ b0 b1 true b3 b4 b5 b6 b7 b8 b9 b10 b11 b12 b13 b14 b15 b16 b17 b18 b19 b20 b21 b22 x44 _ _ x47 x48 x49 x50 x51 x52 x53 x54 x55 x56 x57 x58 x59 x60 x61 x62 x63 x64 x65 rfl rfl h0 h1 h2 h3 f0 f1 (fun _ => rfl) f3 f4 f5 f6 f7 f8 f9 f10 f11 f12 f13 f14 f15 f16 f17 f18 f19 f20 f21 f22
        · have g2 := ready_pred hi ho 2
          obtain rfl := Option.some.inj ho
          have e2 := f2 (g2 (by kernel_rfl))
          subst e2
          go_simp
          exact fun _ k_ => k_ b0 b1 b2 true b4 b5 b6 b7 b8 b9 b10 b11 b12 b13 b14 b15 b16 b17 b18 b19 b20 b21 b22 x44 x45 _ _ x48 x49 x50 x51 x52 x53 x54 x55 x56 x57 x58 x59 x60 x61 x62 x63 x64 x65 rfl rfl h0 h1 h2 h3 f0 f1 f2 (fun _ => rfl) f4 f5 f6 f7 f8 f9 f10 f11 f12 f13 f14 f15 f16 f17 f18 f19 f20 f21 f22
        · have g3 := ready_pred hi ho 3
          obtain rfl := Option.some.inj ho
          have e3 := f3 (g3 (by kernel_rfl))
          subst e3
          have hbz : b4 = false := by simpa using ready_off rfl hi
          have cs := (h2 (by cases hb : b19 with
            | false => rfl
            | true => have := (f19 hb).1; rw [hbz] at this; cases this)).1.cell 0
          clear hbz
          go_simp
          exact fun _ k_ => k_ b0 b1 b2 b3 true b5 b6 b7 b8 b9 b10 b11 b12 b13 b14 b15 b16 b17 b18 b19 b20 b21 b22 x44 x45 x46 _ _ x49 x50 x51 x52 x53 x54 x55 x56 x57 x58 x59 x60 x61 x62 x63 x64 x65 rfl rfl h0 h1 h2 h3 f0 f1 f2 f3 (fun _ => rfl) f5 f6 f7 f8 f9 f10 f11 f12 f13 f14 f15 f16 f17 f18 (fun h => ⟨rfl, (f19 h).2⟩) f20 f21 f22
        · obtain rfl := Option.some.inj ho
          go_simp
          exact fun _ k_ => k_ b0 b1 b2 b3 b4 true b6 b7 b8 b9 b10 b11 b12 b13 b14 b15 b16 b17 b18 b19 b20 b21 b22 x44 x45 x46 x47 x48 _ x50 x51 x52 x53 x54 x55 x56 x57 x58 x59 x60 x61 x62 x63 x64 x65 rfl rfl h0 h1 h2 h3 f0 f1 f2 f3 f4 (fun _ => rfl) f6 f7 f8 f9 f10 f11 f12 f13 f14 f15 f16 f17 f18 f19 f20 f21 f22
        · have g5 := ready_pred hi ho 5
          obtain rfl := Option.some.inj ho
          have e5 := f5 (g5 (by kernel_rfl))
          subst e5
          have c1 := h0.cell 1
          have c2 := h0.cell 2
          go_simp
          exact fun _ k_ => k_ b0 b1 b2 b3 b4 b5 true b7 b8 b9 b10 b11 b12 b13 b14 b15 b16 b17 b18 b19 b20 b21 b22 x44 x45 x46 x47 x48 _ _ x51 x52 x53 x54 x55 x56 x57 x58 x59 x60 x61 x62 x63 x64 x65 rfl rfl h0 h1 h2 h3 f0 f1 f2 f3 f4 f5 (fun _ => rfl) f7 f8 f9 f10 f11 f12 f13 f14 f15 f16 f17 f18 f19 f20 f21 f22
        · obtain rfl := Option.some.inj ho
          go_simp
          exact fun _ k_ => k_ b0 b1 b2 b3 b4 b5 b6 true b8 b9 b10 b11 b12 b13 b14 b15 b16 b17 b18 b19 b20 b21 b22 x44 x45 x46 x47 x48 x49 x50 _ x52 x53 x54 x55 x56 x57 x58 x59 x60 x61 x62 x63 x64 x65 rfl rfl h0 h1 h2 h3 f0 f1 f2 f3 f4 f5 f6 (fun _ => rfl) f8 f9 f10 f11 f12 f13 f14 f15 f16 f17 f18 f19 f20 f21 f22
        · have g7 := ready_pred hi ho 7
          obtain rfl := Option.some.inj ho
          have e7 := f7 (g7 (by kernel_rfl))
          subst e7
          have c5 := h0.cell 5
          have c6 := h0.cell 6
          go_simp
          exact fun _ k_ => k_ b0 b1 b2 b3 b4 b5 b6 b7 true b9 b10 b11 b12 b13 b14 b15 b16 b17 b18 b19 b20 b21 b22 x44 x45 x46 x47 x48 x49 x50 _ _ x53 x54 x55 x56 x57 x58 x59 x60 x61 x62 x63 x64 x65 rfl rfl h0 h1 h2 h3 f0 f1 f2 f3 f4 f5 f6 f7 (fun _ => rfl) f9 f10 f11 f12 f13 f14 f15 f16 f17 f18 f19 f20 f21 f22
        · obtain rfl := Option.some.inj ho
          go_simp
          exact fun _ k_ => k_ b0 b1 b2 b3 b4 b5 b6 b7 b8 true b10 b11 b12 b13 b14 b15 b16 b17 b18 b19 b20 b21 b22 x44 x45 x46 x47 x48 x49 x50 x51 x52 _ x54 x55 x56 x57 x58 x59 x60 x61 x62 x63 x64 x65 rfl rfl h0 h1 h2 h3 f0 f1 f2 f3 f4 f5 f6 f7 f8 (fun _ => rfl) f10 f11 f12 f13 f14 f15 f16 f17 f18 f19 f20 f21 f22
        · have g9 := ready_pred hi ho 9
          obtain rfl := Option.some.inj ho
          have e9 := f9 (g9 (by kernel_rfl))
          subst e9
          have c7 := h0.cell 7
          go_simp
          exact fun _ k_ => k_ b0 b1 b2 b3 b4 b5 b6 b7 b8 b9 true b11 b12 b13 b14 b15 b16 b17 b18 b19 b20 b21 b22 x44 x45 x46 x47 x48 x49 x50 x51 x52 _ _ x55 x56 x57 x58 x59 x60 x61 x62 x63 x64 x65 rfl rfl h0 h1 h2 h3 f0 f1 f2 f3 f4 f5 f6 f7 f8 f9 (fun _ => rfl) f11 f12 f13 f14 f15 f16 f17 f18 f19 f20 f21 f22
        · obtain rfl := Option.some.inj ho
          go_simp
          exact fun _ k_ => k_ b0 b1 b2 b3 b4 b5 b6 b7 b8 b9 b10 true b12 b13 b14 b15 b16 b17 b18 b19 b20 b21 b22 x44 x45 x46 x47 x48 x49 x50 x51 x52 x53 x54 _ x56 x57 x58 x59 x60 x61 x62 x63 x64 x65 rfl rfl h0 h1 h2 h3 f0 f1 f2 f3 f4 f5 f6 f7 f8 f9 f10 (fun _ => rfl) f12 f13 f14 f15 f16 f17 f18 f19 f20 f21 f22
        · have g11 := ready_pred hi ho 11
          obtain rfl := Option.some.inj ho
          have e11 := f11 (g11 (by kernel_rfl))
          subst e11
          have c8 := h0.cell 8
          go_simp
          exact fun _ k_ => k_ b0 b1 b2 b3 b4 b5 b6 b7 b8 b9 b10 b11 true b13 b14 b15 b16 b17 b18 b19 b20 b21 b22 x44 x45 x46 x47 x48 x49 x50 x51 x52 x53 x54 _ _ x57 x58 x59 x60 x61 x62 x63 x64 x65 rfl rfl h0 h1 h2 h3 f0 f1 f2 f3 f4 f5 f6 f7 f8 f9 f10 f11 (fun _ => rfl) f13 f14 f15 f16 f17 f18 f19 f20 f21 f22
        · obtain rfl := Option.some.inj ho
          go_simp
          exact fun _ k_ => k_ b0 b1 b2 b3 b4 b5 b6 b7 b8 b9 b10 b11 b12 true b14 b15 b16 b17 b18 b19 b20 b21 b22 x44 x45 x46 x47 x48 x49 x50 x51 x52 x53 x54 x55 x56 _ x58 x59 x60 x61 x62 x63 x64 x65 rfl rfl h0 h1 h2 h3 f0 f1 f2 f3 f4 f5 f6 f7 f8 f9 f10 f11 f12 (fun _ => rfl) f14 f15 f16 f17 f18 f19 f20 f21 f22
        · have g13 := ready_pred hi ho 13
          obtain rfl := Option.some.inj ho
          have e13 := f13 (g13 (by kernel_rfl))
          subst e13
          have c9 := h0.cell 9
          go_simp
          exact fun _ k_ => k_ b0 b1 b2 b3 b4 b5 b6 b7 b8 b9 b10 b11 b12 b13 true b15 b16 b17 b18 b19 b20 b21 b22 x44 x45 x46 x47 x48 x49 x50 x51 x52 x53 x54 x55 x56 _ _ x59 x60 x61 x62 x63 x64 x65 rfl rfl h0 h1 h2 h3 f0 f1 f2 f3 f4 f5 f6 f7 f8 f9 f10 f11 f12 f13 (fun _ => rfl) f15 f16 f17 f18 f19 f20 f21 f22
        · obtain rfl := Option.some.inj ho
          go_simp
          exact fun _ k_ => k_ b0 b1 b2 b3 b4 b5 b6 b7 b8 b9 b10 b11 b12 b13 b14 true b16 b17 b18 b19 b20 b21 b22 x44 x45 x46 x47 x48 x49 x50 x51 x52 x53 x54 x55 x56 x57 x58 _ x60 x61 x62 x63 x64 x65 rfl rfl h0 h1 h2 h3 f0 f1 f2 f3 f4 f5 f6 f7 f8 f9 f10 f11 f12 f13 f14 (fun _ => rfl) f16 f17 f18 f19 f20 f21 f22
        · have g15 := ready_pred hi ho 15
          obtain rfl := Option.some.inj ho
          have e15 := f15 (g15 (by kernel_rfl))
          subst e15
          have c10 := h0.cell 10
          go_simp
          exact fun _ k_ => k_ b0 b1 b2 b3 b4 b5 b6 b7 b8 b9 b10 b11 b12 b13 b14 b15 true b17 b18 b19 b20 b21 b22 x44 x45 x46 x47 x48 x49 x50 x51 x52 x53 x54 x55 x56 x57 x58 _ _ x61 x62 x63 x64 x65 rfl rfl h0 h1 h2 h3 f0 f1 f2 f3 f4 f5 f6 f7 f8 f9 f10 f11 f12 f13 f14 f15 (fun _ => rfl) f17 f18 f19 f20 f21 f22
        · have g6 := ready_pred hi ho 6
          have g8 := ready_pred hi ho 8
          have g10 := ready_pred hi ho 10
          have g12 := ready_pred hi ho 12
          have g14 := ready_pred hi ho 14
          have g16 := ready_pred hi ho 16
          obtain rfl := Option.some.inj ho
          have e6 := f6 (g6 (by kernel_rfl))
          subst e6
          have e8 := f8 (g8 (by kernel_rfl))
          subst e8
          have e10 := f10 (g10 (by kernel_rfl))
          subst e10
          have e12 := f12 (g12 (by kernel_rfl))
          subst e12
          have e14 := f14 (g14 (by kernel_rfl))
          subst e14
          have e16 := f16 (g16 (by kernel_rfl))
          subst e16
          go_simp
          exact fun _ k_ => k_ b0 b1 b2 b3 b4 b5 b6 b7 b8 b9 b10 b11 b12 b13 b14 b15 b16 true b18 b19 b20 b21 b22 x44 x45 x46 x47 x48 x49 _ x51 _ x53 _ x55 _ x57 _ x59 _ _ x62 x63 x64 x65 rfl rfl h0 h1 h2 h3 f0 f1 f2 f3 f4 f5 f6 f7 f8 f9 f10 f11 f12 f13 f14 f15 f16 (fun _ => rfl) f18 f19 f20 f21 f22
        · have g17 := ready_pred hi ho 17
          have hbz : b18 = false := by simpa using ready_off rfl hi
          obtain rfl := Option.some.inj ho
          have e17 := f17 (g17 (by kernel_rfl))
          subst e17
          have h19 : b19 = false := by
            cases hb : b19 with
            | false => rfl
            | true => have := (f19 hb).2.1; rw [hbz] at this; cases this
          have hb9 : Below w.heap.size w (w.alloc (.cells #[.int .i64 o.atN, .int .i64 o.atR, .int .i64 o.parN, .int .i64 o.parR, .slice k1 o.key.length d1, .int .i64 o.elem, .slice k2 o.name.length d2, .slice k3 o.text.length d3, .slice none 0 0] 107)) := (Below.refl _ _).alloc (Nat.le_refl _) _
          have lm9 := Loc.made w #[.int .i64 o.atN, .int .i64 o.atR, .int .i64 o.parN, .int .i64 o.parR, .slice k1 o.key.length d1, .int .i64 o.elem, .slice k2 o.name.length d2, .slice k3 o.text.length d3, .slice none 0 0] 107
          have H19 := hide h19
          clear h19 hbz
          go_simp
          exact fun _ k_ => k_ b0 b1 b2 b3 b4 b5 b6 b7 b8 b9 b10 b11 b12 b13 b14 b15 b16 b17 true b19 b20 b21 b22 x44 x45 x46 x47 x48 x49 x50 x51 x52 x53 x54 x55 x56 x57 x58 x59 x60 _ _ x63 x64 x65 rfl rfl (h0.all hb9) (Nat.le_trans h1 hb9.size) (fun h => (h2 h).keep hb9) (h3.more9 (Frm.ofBelow hb9 []) (fun q hq => by cases hq)) f0 f1 f2 f3 f4 f5 f6 f7 f8 f9 f10 f11 f12 f13 f14 f15 f16 (fun _ => rfl) (fun _ => ⟨w.heap.size, rfl, h1, fun _ => lm9⟩) (fun h => by rw [unhide H19] at h; cases h) f20 f21 (fun h => by have := (f22 h).1; rw [unhide H19] at this; cases this)
        · have g4 := ready_pred hi ho 4
          have g18 := ready_pred hi ho 18
          have hbz : b19 = false := by simpa using ready_off rfl hi
          obtain rfl := Option.some.inj ho
          have t4 : b4 = true := g4 (by kernel_rfl)
          have t18 : b18 = true := g18 (by kernel_rfl)
          have e4 := f4 t4
          obtain ⟨z, ez, hz, lz0⟩ := f18 t18
          have lz := lz0 hbz
          have hs := h2 hbz
          subst e4 ez
          refine step_push (R := PlF w0) (fun h f d => PlF.frm h f d) (by rfl) (.tmp 48) (.tmp 62) 30 (by rfl) 107 i0 (.agg #[.int .i64 0, .int .i64 0, .int .i64 0, .int .i64 0, .slice none 0 0, .int .i64 0, .slice none 0 0, .slice none 0 0, .slice none 0 0]) 9 136 Tryz.underlying30 hi0 hz0 hz1 hz2 rfl (by decide) _ l F (by rfl) hs.2.1 hs.2.2.1 ⟨z, 0, none⟩ 1 [.int .i64 o.atN, .int .i64 o.atR, .int .i64 o.parN, .int .i64 o.parR, .slice k1 o.key.length d1, .int .i64 o.elem, .slice k2 o.name.length d2, .slice k3 o.text.length d3, .slice none 0 0] (newP o) [] (by rfl) rfl (fun i u hu => World.news_of_block lz i u (by simpa using hu)) (by intro y hy; simp at hy; rcases hy with rfl | rfl | rfl | rfl | rfl | rfl | rfl | rfl | rfl <;> rfl) (newP_f h1_ h2_ h3_) List.nodup_nil (fun g hg hg' => by cases hg') (fun q hq => by rcases hq with hq | hq; exact (hs.2.2.2.1 q hq).2.1; cases hq) (by unfold maxLen; omega) (by omega) ?_
          intro g9 cap9 w9 F9 hF9 hN9 hM9 hf9 hg9
          have hvF : ∀ q ∈ FB (.slice a l.length c), q ∈ F := fun q hq => PlsF.head hs.2.1 q hq
          have hF9l := OwElems.lt hF9 (fun C x G h => PlF.lt h)
          have hAf : AfR w0 w3 w9 sb a c l F o g9 cap9 := ⟨F9, hs.1.frm hf9 (fun e => (hs.2.2.2.1 sb (hvF sb e)).2.2 rfl), hF9, hN9, fun q hq => ⟨by
              rcases hM9 q hq with h | h | h
              · exact (hs.2.2.2.1 q h).1
              · cases h
              · have := hs.2.2.2.2.2.size; omega, hF9l q hq, by
              rcases hM9 q hq with h | h | h
              · exact (hs.2.2.2.1 q h).2.2
              · cases h
              · have := hs.1.lt; omega⟩, hs.2.2.2.2.1, hs.2.2.2.2.2.trans (hf9.below hs.2.2.2.2.2.size (fun q hq => (hs.2.2.2.1 q (hvF q hq)).1)), fun q hq => by
              rcases hM9 q hq with h | h | h
              · exact .inl h
              · cases h
              · right; have := h1; omega, h3.more9 hf9 (fun q hq => .inl (List.mem_cons_of_mem _ (hvF q hq)))⟩
          exact fun _ k_ => k_ b0 b1 b2 b3 b4 b5 b6 b7 b8 b9 b10 b11 b12 b13 b14 b15 b16 b17 b18 true b20 b21 b22 x44 x45 x46 x47 _ x49 x50 x51 x52 x53 x54 x55 x56 x57 x58 x59 x60 x61 _ _ x64 x65 rfl rfl (h0.frm hf9 (fun e => hob _ (hvF _ e) rfl)) (Nat.le_trans h1 hf9.size) (fun h => by cases h) (h3.more9 hf9 (fun q hq => .inl (List.mem_cons_of_mem _ (hvF q hq)))) f0 f1 f2 f3 (fun _ => rfl) f5 f6 f7 f8 f9 f10 f11 f12 f13 f14 f15 f16 f17 (fun _ => ⟨z, rfl, hz, fun h => by cases h⟩) (fun _ => ⟨t4, t18, g9, cap9, rfl, fun _ => hAf⟩) f20 f21 (fun h => by have := (f22 h).1; rw [hbz] at this; cases this)
        · have g0 := ready_pred hi ho 0
          obtain rfl := Option.some.inj ho
          have e0 := f0 (g0 (by kernel_rfl))
          subst e0
          go_simp
          exact fun _ k_ => k_ b0 b1 b2 b3 b4 b5 b6 b7 b8 b9 b10 b11 b12 b13 b14 b15 b16 b17 b18 b19 true b21 b22 _ x45 x46 x47 x48 x49 x50 x51 x52 x53 x54 x55 x56 x57 x58 x59 x60 x61 x62 x63 _ x65 rfl rfl h0 h1 h2 h3 f0 f1 f2 f3 f4 f5 f6 f7 f8 f9 f10 f11 f12 f13 f14 f15 f16 f17 f18 f19 (fun _ => rfl) f21 f22
        · have g20 := ready_pred hi ho 20
          obtain rfl := Option.some.inj ho
          have e20 := f20 (g20 (by kernel_rfl))
          subst e20
          go_simp
          exact fun _ k_ => k_ b0 b1 b2 b3 b4 b5 b6 b7 b8 b9 b10 b11 b12 b13 b14 b15 b16 b17 b18 b19 b20 true b22 x44 x45 x46 x47 x48 x49 x50 x51 x52 x53 x54 x55 x56 x57 x58 x59 x60 x61 x62 x63 _ _ rfl rfl h0 h1 h2 h3 f0 f1 f2 f3 f4 f5 f6 f7 f8 f9 f10 f11 f12 f13 f14 f15 f16 f17 f18 f19 f20 (fun _ => rfl) f22
        · have g19 := ready_pred hi ho 19
          have g21 := ready_pred hi ho 21
          have hbz : b22 = false := by simpa using ready_off rfl hi
          obtain rfl := Option.some.inj ho
          have t19 : b19 = true := g19 (by kernel_rfl)
          have e21 := f21 (g21 (by kernel_rfl))
          obtain ⟨t4, t18, gq, cq, ex, hAf0⟩ := f19 t19
          have hAf := hAf0 hbz
          subst e21 ex
          have cs := hAf.choose_spec.1.cell 0
          have fz := hAf.choose_spec.1.frozen 0
          have hD := hAf.done
          have hf := set_frm w sb 0 (.slice (some ⟨gq, 0, none⟩) (l.length + 1) cq)
          have hl9 := h0.frm hf (by simp; omega)
          have hs9 := Nat.le_trans h1 hf.size
          have hf39 := h3.more9 hf (fun q hq => by simp at hq; left; simp [hq])
          have EB := hide (And.intro t19 (And.intro t4 (And.intro t18 (And.intro hD (And.intro hl9 (And.intro hs9 hf39))))))
          clear t19 t4 t18 hD hl9 hs9 hf39 hbz hAf hAf0 f19
          go_simp
          exact fun _ k_ => k_ b0 b1 b2 b3 b4 b5 b6 b7 b8 b9 b10 b11 b12 b13 b14 b15 b16 b17 b18 b19 b20 b21 true x44 x45 x46 x47 x48 x49 x50 x51 x52 x53 x54 x55 x56 x57 x58 x59 x60 x61 x62 _ x64 _ rfl rfl ((unhide EB).2.2.2.2.1) ((unhide EB).2.2.2.2.2.1) (fun h => by rw [(unhide EB).1] at h; cases h) ((unhide EB).2.2.2.2.2.2) f0 f1 f2 f3 f4 f5 f6 f7 f8 f9 f10 f11 f12 f13 f14 f15 f16 f17 (fun h => by obtain ⟨z, e, hz, _⟩ := f18 h; exact ⟨z, e, hz, fun ha => by rw [(unhide EB).1] at ha; cases ha⟩) (fun _ => ⟨(unhide EB).2.1, (unhide EB).2.2.1, gq, cq, rfl, fun h => by cases h⟩) f20 (fun _ => rfl) (fun _ => ⟨(unhide EB).1, (unhide EB).2.2.2.1⟩)
      case dn =>
        intro L a_ w4 hI hre
        have hall := ready_all (L := L) (by refine hI _ ?_; intro b0 b1 b2 b3 b4 b5 b6 b7 b8 b9 b10 b11 b12 b13 b14 b15 b16 b17 b18 b19 b20 b21 b22 x44 x45 x46 x47 x48 x49 x50 x51 x52 x53 x54 x55 x56 x57 x58 x59 x60 x61 x62 x63 x64 x65 eL eA h0 h1 h2 h3 f0 f1 f2 f3 f4 f5 f6 f7 f8 f9 f10 f11 f12 f13 f14 f15 f16 f17 f18 f19 f20 f21 f22; subst eL; rfl) (by kernel_rfl) hre 23
        refine hI _ ?_
        clear hI hs lo
        intro b0 b1 b2 b3 b4 b5 b6 b7 b8 b9 b10 b11 b12 b13 b14 b15 b16 b17 b18 b19 b20 b21 b22 x44 x45 x46 x47 x48 x49 x50 x51 x52 x53 x54 x55 x56 x57 x58 x59 x60 x61 x62 x63 x64 x65 eL eA h0 h1 h2 h3 f0 f1 f2 f3 f4 f5 f6 f7 f8 f9 f10 f11 f12 f13 f14 f15 f16 f17 f18 f19 f20 f21 f22
        subst eL eA
        have hD := (f22 (hall 22 (by omega) (by decide))).2
        have HE := hide (show DoR w0 w sb F M w4 from by
          obtain ⟨a9, c9, F9, q1, q2, q3⟩ := hD
          exact ⟨a9, c9, F9, by rw [unhide HM]; exact q1, (unhide HBW).more9 q2 (fun q hq => .inl hq), fun q hq => (q3 q hq).imp id (fun h => Nat.le_trans (unhide HBW).size h)⟩)
        clear f0 f1 f2 f3 f4 f5 f6 f7 f8 f9 f10 f11 f12 f13 f14 f15 f16 f17 f18 f19 f20 f21 f22 h0 h1 h2 h3 hD hall hre
        go_wp2_with fail
        go_end0
        exact ⟨⟨_, rfl⟩, unhide HE⟩
  · have d0 : (o.kind == 0) = false := by simpa using e0
    by_cases e1 : o.kind = 1
    · have d1' : (o.kind == 1) = true := by simpa using e1
      have HD := do_move (l := l) e0 e1
      have hM := unhide HM
      clear HM e0 e1
      cases hp : posP l (o.nodeN, o.nodeR) with
      | none =>
        rw [HD.1 hp] at hM
        clear HD
        have hfi : findI l (o.nodeN, o.nodeR) = -1 := by simp [findI, hp]
        rw [hfi]
        have HE := hide (show DoR w0 w sb F M w2 from DoR.of (unhide HX).1 hM (unhide HBW) (fun q hq => .inl hq))
        clear hM hfi hp HX
        go_wp2_with fail
        go_end0
        exact ⟨⟨_, rfl⟩, unhide HE⟩
      | some k =>
        have hfi : findI l (o.nodeN, o.nodeR) = (k : Int) := by simp [findI, hp]
        rw [hfi]
        obtain ⟨p, hk, _⟩ := posP_at hp
        have hkl : k < l.length := (List.getElem?_eq_some_iff.1 hk).1
        have hkl' : (k : Int) < (l.length : Int) := by omega
        have hk0 : (0 : Int) ≤ (k : Int) := by omega
        rw [HD.2 k p hp hk] at hM
        clear HD
        obtain ⟨b, kk, ck, n, cn, t, ct, qa, qc, rfl, hbF, _, _, _, _, _, z5, _, z7, _, _, _, hfz⟩ := (unhide HX).1.cells hk
        have hfl : ¬ (-1 : Int) = 0 := by decide
        by_cases hk2 : 2 ≤ k
        · have hk2' : (2 : Int) ≤ (k : Int) := by omega
          have HM := hide (show M = if (takesV l (o.parN, o.parR) && !underS l (l.length + 1) (o.parN, o.parR) (o.nodeN, o.nodeR)) = true then l.set k (moveP o p) else l by
            rw [hM]; unfold mayMove; rw [decide_eq_true hk2, Bool.true_and]; rfl)
          have HK := hide (And.intro hk hbF)
          clear hM hfi hp hk hk2 hfz z5 z7
          go_wp2_with fail
          refine (l5find_any w0 w2 sb _ c l F (o.parN, o.parR) (unhide HX).1 (by omega)).mono ?_
          rintro e w3 ⟨rfl, hb3⟩
          obtain ⟨hs, lo⟩ := unhide HX
          replace HBW := hide ((unhide HBW).more9 (Frm.ofBelow hb3 []) (fun q hq => by cases hq))
          replace hs := hs.keep hb3
          replace lo := lo.all hb3
          have v2 : w3.cell? ⟨ob, 5, none⟩ = some (.int .i64 o.parN) := lo.cell 5
          have v3 : w3.cell? ⟨ob, 6, none⟩ = some (.int .i64 o.parR) := lo.cell 6
          have v4 : w3.cell? ⟨ob, 3, none⟩ = some (.int .i64 o.nodeN) := lo.cell 3
          have v5 : w3.cell? ⟨ob, 4, none⟩ = some (.int .i64 o.nodeR) := lo.cell 4
          clear HX hb3 y0 o0 o1 o2 o3 o4 o5 o6 o7 o8 o9 o10 o11
          generalize hfi : findI l (o.parN, o.parR) = fi
          have HX := hide (And.intro hs (And.intro lo hfi.symm))
          clear hs lo hfi
          go_wp2_with fail
          refine (l5takes_any w0 w3 sb _ c l F (o.parN, o.parR) (unhide HX).1 (by omega) fi (unhide HX).2.2).mono ?_
          rintro e w4 ⟨rfl, hw4⟩
          subst w4
          cases ht : takesV l (o.parN, o.parR) with
          | false =>
            have HE := hide (show DoR w0 w sb F M w3 from DoR.of (F' := F) (f := unhide HBW) (hF := fun q hq => .inl hq) (unhide HX).1 (by rw [unhide HM, ht]; rfl))
            clear ht HM
            go_wp2_with fail
            go_end0
            exact ⟨⟨_, rfl⟩, unhide HE⟩
          | true =>
            replace HM := hide (show M = if (!underS l (l.length + 1) (o.parN, o.parR) (o.nodeN, o.nodeR)) = true then l.set k (moveP o p) else l by rw [unhide HM, ht, Bool.true_and])
            clear ht
            go_wp2_with fail
            refine (l5under_any w0 w3 sb _ c l F (o.parN, o.parR) (o.nodeN, o.nodeR) (unhide HX).1 (by omega)).mono ?_
            rintro e w4 ⟨rfl, hb4⟩
            obtain ⟨hs, lo, _⟩ := unhide HX
            replace HBW := hide ((unhide HBW).more9 (Frm.ofBelow hb4 []) (fun q hq => by cases hq))
            replace hs := hs.keep hb4
            replace lo := lo.all hb4
            clear HX hb4 v2 v3 v4 v5
            cases hu : underS l (l.length + 1) (o.parN, o.parR) (o.nodeN, o.nodeR) with
            | true =>
              have HE := hide (show DoR w0 w sb F M w4 from DoR.of (F' := F) (f := unhide HBW) (hF := fun q hq => .inl hq) hs (by rw [unhide HM, hu]; rfl))
              clear hu HM hs lo
              go_wp2_with fail
              go_end0
              exact ⟨⟨_, rfl⟩, unhide HE⟩
            | false =>
              replace HM := hide (show M = l.set k (moveP o p) by rw [unhide HM, hu]; rfl)
              have o5 : w4.cell? ⟨ob, 5, none⟩ = some (.int .i64 o.parN) := lo.cell 5
              have o6 : w4.cell? ⟨ob, 6, none⟩ = some (.int .i64 o.parR) := lo.cell 6
              have y0 : w4.cell? ⟨sb, 0, none⟩ = some (.slice (some ⟨b, 0, none⟩) l.length c) := hs.1.cell 0
              obtain ⟨b', _, _, _, _, _, _, _, _, eb, _, _, _, z2, z3, _, _, _, _, _, _, _, hfz⟩ := hs.cells (unhide HK).1
              injection eb with eb
              injection eb with eb _ _
              subst eb
              have f2 := hfz (k * 9 + 2)
              have f3 := hfz (k * 9 + 3)
              have hbo : b ≠ ob := hob b (unhide HK).2
              have HX := hide (And.intro hs lo)
              clear hu hs lo hfz
              go_wp2_with fail
              go_region
              obtain ⟨hs, lo⟩ := unhide HX
              obtain ⟨⟨F', hst, hF'⟩, hf⟩ := hs.par (unhide HK).1 o.parN o.parR
              replace hst := hst.keep ((Below.refl _ _).drew)
              replace HBW := hide (((unhide HBW).more9 hf (fun q hq => by simp at hq; subst hq; exact .inl (List.mem_cons_of_mem _ (unhide HK).2))).more9 (Frm.ofBelow ((Below.refl _ _).drew) []) (fun q hq => by cases hq))
              replace lo := (lo.frm hf (by simp; omega)).all ((Below.refl _ _).drew)
              clear HX hs hf y0 z2 z3 f2 f3 o5 o6
              generalize (((w4.setCell ⟨b, k * 9 + 2, none⟩ (.int .i64 o.parN)).setCell ⟨b, k * 9 + 3, none⟩ (.int .i64 o.parR)).drew) = w5 at *
              have y0 : w5.cell? ⟨sb, 0, none⟩ = some (.slice (some ⟨b, 0, none⟩) l.length c) := by have := hst.1.cell 0; rw [List.length_set] at this; exact this
              have o7 : w5.cell? ⟨ob, 7, none⟩ = some (.slice k1 o.key.length d1) := lo.cell 7
              have hk5 : (l.set k { p with parN := o.parN, parR := o.parR })[k]? = some { p with parN := o.parN, parR := o.parR } := by simp [hkl]
              obtain ⟨b', _, _, _, _, _, _, _, _, eb, _, _, _, _, _, z4, _, _, _, _, _, _, hfz⟩ := hst.cells hk5
              injection eb with eb
              injection eb with eb _ _
              subst eb
              have f4 := hfz (k * 9 + 4)
              obtain ⟨⟨F2, hst2, hF2⟩, hf2⟩ := hst.key hk5 h1
              have hfw := ((unhide HBW).more9 hf2 (fun q hq => by simp at hq; subst hq; exact .inl (List.mem_cons_of_mem _ (unhide HK).2))).more9 (Frm.ofBelow ((Below.refl _ _).drew) []) (fun q hq => by cases hq)
              replace hst2 := hst2.keep ((Below.refl _ _).drew)
              have HE := hide (show DoR w0 w sb F M _ from DoR.of hst2 (by rw [unhide HM, List.set_set]; rfl) hfw (fun q hq => .inl (hF' q (hF2 q hq))))
              clear hfw hf2 hF2 hst2 hst lo hfz hk5 HM HK hF'
              go_wp2_with fail
              go_region
              go_wp2_with fail
              go_end0
              exact ⟨⟨_, rfl⟩, unhide HE⟩
        · have hk2' : ¬ (2 : Int) ≤ (k : Int) := by omega
          have hM' : M = l := by rw [hM]; unfold mayMove; rw [decide_eq_false hk2]; rfl
          have HE := hide (show DoR w0 w sb F M w2 from DoR.of (unhide HX).1 hM' (unhide HBW) (fun q hq => .inl hq))
          clear hM hM' hfi hp HX hk hk2 hfz
          go_wp2_with fail
          go_end0
          exact ⟨⟨_, rfl⟩, unhide HE⟩
    · have d1' : (o.kind == 1) = false := by simpa using e1
      by_cases e2 : o.kind = 2
      · have d2' : (o.kind == 2) = true := by simpa using e2
        have HD := do_text (l := l) e0 e1 e2
        have hM := unhide HM
        clear HM e0 e1 e2
        cases hp : posP l (o.nodeN, o.nodeR) with
        | none =>
          rw [HD.1 hp] at hM
          clear HD
          have hfi : findI l (o.nodeN, o.nodeR) = -1 := by simp [findI, hp]
          rw [hfi]
          have HE := hide (show DoR w0 w sb F M w2 from DoR.of (unhide HX).1 hM (unhide HBW) (fun q hq => .inl hq))
          clear hM hfi hp HX
          go_wp2_with fail
          go_end0
          exact ⟨⟨_, rfl⟩, unhide HE⟩
        | some k =>
          have hfi : findI l (o.nodeN, o.nodeR) = (k : Int) := by simp [findI, hp]
          rw [hfi]
          obtain ⟨p, hk, _⟩ := posP_at hp
          have hkl : k < l.length := (List.getElem?_eq_some_iff.1 hk).1
          have hkl' : (k : Int) < (l.length : Int) := by omega
          have hk0 : (0 : Int) ≤ (k : Int) := by omega
          rw [HD.2 k p hp hk] at hM
          clear HD
          obtain ⟨b, kk, ck, n, cn, t, ct, qa, qc, rfl, hbF, _, _, _, _, _, z5, _, z7, _, _, _, hfz⟩ := (unhide HX).1.cells hk
          have f7 := hfz (k * 9 + 7)
          by_cases hk2 : 2 ≤ k
          · have hk2' : (2 : Int) ≤ (k : Int) := by omega
            by_cases e5 : p.kind = 1
            · have d5 : (p.kind == 1) = true := by simpa using e5
              rw [if_pos ⟨hk2, e5⟩] at hM
              obtain ⟨⟨F', hst, hFt⟩, hft⟩ := (unhide HX).1.text hk h3
              have hfw := ((unhide HBW).more9 hft (fun q hq => by simp at hq; subst hq; exact .inl (List.mem_cons_of_mem _ hbF))).more9 (Frm.ofBelow ((Below.refl _ _).drew) []) (fun q hq => by cases hq)
              replace hst := hst.keep ((Below.refl _ _).drew)
              have HE := hide (show DoR w0 w sb F M _ from DoR.of hst hM hfw (fun q hq => .inl (hFt q hq)))
              clear hM hfi hp HX hst hk hk2 e5 hfz hfw hft hFt
              have dk := decide_eq_true hkl'
              have dk0 := decide_eq_true hk0
              go_wp2_with fail
              go_region
              go_wp2_with fail
              go_end0
              exact ⟨⟨_, rfl⟩, unhide HE⟩
            · have d5 : (p.kind == 1) = false := by simpa using e5
              rw [if_neg (fun h => e5 h.2)] at hM
              have HE := hide (show DoR w0 w sb F M w2 from DoR.of (unhide HX).1 hM (unhide HBW) (fun q hq => .inl hq))
              clear hM hfi hp HX hk hk2 e5 hfz
              go_wp2_with fail
              go_end0
              exact ⟨⟨_, rfl⟩, unhide HE⟩
          · have hk2' : ¬ (2 : Int) ≤ (k : Int) := by omega
            rw [if_neg (fun h => hk2 h.1)] at hM
            have HE := hide (show DoR w0 w sb F M w2 from DoR.of (unhide HX).1 hM (unhide HBW) (fun q hq => .inl hq))
            clear hM hfi hp HX hk hk2 hfz
            go_wp2_with fail
            go_end0
            exact ⟨⟨_, rfl⟩, unhide HE⟩
      · have d2' : (o.kind == 2) = false := by simpa using e2
        have HD := do_attr (l := l) e0 e1 e2
        have hM := unhide HM
        clear HM e0 e1 e2
        cases hp : posP l (o.nodeN, o.nodeR) with
        | none =>
          rw [HD.1 hp] at hM
          clear HD
          have hfi : findI l (o.nodeN, o.nodeR) = -1 := by simp [findI, hp]
          rw [hfi]
          have HE := hide (show DoR w0 w sb F M w2 from DoR.of (unhide HX).1 hM (unhide HBW) (fun q hq => .inl hq))
          clear hM hfi hp HX
          go_wp2_with fail
          go_end0
          exact ⟨⟨_, rfl⟩, unhide HE⟩
        | some k =>
          have hfi : findI l (o.nodeN, o.nodeR) = (k : Int) := by simp [findI, hp]
          rw [hfi]
          obtain ⟨p, hk, _⟩ := posP_at hp
          have hkl : k < l.length := (List.getElem?_eq_some_iff.1 hk).1
          have hkl' : (k : Int) < (l.length : Int) := by omega
          have hk0 : (0 : Int) ≤ (k : Int) := by omega
          rw [HD.2 k p hp hk] at hM
          clear HD
          obtain ⟨b, kk, ck, n, cn, t, ct, qa, qc, rfl, hbF, _, _, _, _, _, z5, _, z7, _, _, _, hfz⟩ := (unhide HX).1.cells hk
          have hfl : ¬ (-1 : Int) = 0 := by decide
          by_cases hk1 : k = 1
          · subst hk1
            rw [if_neg (fun h => h.1 rfl)] at hM
            have HE := hide (show DoR w0 w sb F M w2 from DoR.of (unhide HX).1 hM (unhide HBW) (fun q hq => .inl hq))
            clear hM hfi hp HX hk hfz
            go_wp2_with fail
            go_end0
            exact ⟨⟨_, rfl⟩, unhide HE⟩
          · have hk1' : ¬ (k : Int) = 1 := by omega
            have hk1b : ((k : Int) == 1) = false := by simpa using hk1'
            have hk1c : ((k : Int) != 1) = true := by simpa using hk1'
            by_cases e5 : p.kind = 0
            · have d5 : (p.kind == 0) = true := by simpa using e5
              rw [if_pos ⟨hk1, e5⟩] at hM
              have hpa := hal p (List.mem_of_getElem? hk)
              have HC := hide (l5setAttr_any w0 w2.drew sb b c l F ((unhide HX).1.keep ((Below.refl _ _).drew)) k p hk hpa o k1 k2 k3 d1 d2 d3 h2 h3)
              have HM := hide hM
              clear hM hfi hp HX hk hk1 e5 hfz
              go_wp2_with fail
              go_region_with (go_at_call 81; refine (unhide HC).mono ?_; rintro e w7 ⟨⟨v, rfl⟩, ⟨F', hst, hFt⟩, hft⟩)
              all_goals
                have hsw := (unhide HBW).size
                have HE := hide (show DoR w0 w sb F M w7 from DoR.of hst (unhide HM) (((unhide HBW).more9 (Frm.ofBelow ((Below.refl _ _).drew) []) (fun q hq => by cases hq)).more9 hft (fun q hq => by simp at hq; subst hq; exact .inl (List.mem_cons_of_mem _ hbF))) (fun q hq => (hFt q hq).imp id (fun h => Nat.le_trans hsw h)))
                clear hst HM HC hFt hft hsw
                go_wp2_with fail
                go_end0
                exact ⟨⟨_, rfl⟩, unhide HE⟩
            · have d5 : (p.kind == 0) = false := by simpa using e5
              rw [if_neg (fun h => e5 h.2)] at hM
              have HE := hide (show DoR w0 w sb F M w2 from DoR.of (unhide HX).1 hM (unhide HBW) (fun q hq => .inl hq))
              clear hM hfi hp HX hk hk1 e5 hfz
              go_wp2_with fail
              go_end0
              exact ⟨⟨_, rfl⟩, unhide HE⟩
end Go.Proofs.YtnfafchajjclaaaGreatDoor
