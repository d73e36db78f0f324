/- Own texts joined: EvU, EvCd, EvCl, EvXe, Tree, OwnT, Sz, ToT, FrpT, Rng, NameI, Str, AttrS, CmpI. -/
import Derived.Test.YtpijenlmfmknnaaGreatDoorJa
import Derived.Test.YtpijenlmfmknnaaGreatDoorJb
import Derived.Test.YtpijenlmfmknnaaGreatDoorJc
import Derived.Test.YtpijenlmfmknnaaGreatDoorJd
import Derived.Test.YtpijenlmfmknnaaGreatDoorJe
import Derived.LoopN
import Derived.Scope
import Derived.Defers
import Derived.Laws.LoneSync
import Derived.Test.YtpijenlmfmknnaaGreatDoorChecked
import Derived.RangeFuncNested
import Derived.RangeFuncBound
import Derived.RangeFuncCalls
import Derived.RangeFuncLeaves
import Derived.Shelf.Abstract
import Derived.WalkKit
import Derived.OwnWalkIn
import Derived.TacticsInMore
import Derived.LoopNIn
import Derived.LoopIn
import Derived.WalkLawsBesides
import Derived.Deep.RegionHeld3
import Derived.Deep.QuietTactic
import Derived.BigQuiet
import Derived.Lib.BytesEntry
import Derived.Lib.Bytealg
import Derived.Laws.Externs

/- A region that draws its order is sound. No program. -/
namespace Go.Proofs.YtpijenlmfmknnaaGreatDoor
open Go.RowKit
set_option linter.unusedVariables false
variable {P : Program}

theorem HL_none {S : Nat → Hp} {Q : Nat → Nat} {L : Nat → Bool} {id : Nat} (h : 8191 < id) : ∀ m, HLm S Q L m id = none
  | 0 => if_neg (by omega)
  | m + 1 => by
    show (if L m && (Q m).testBit id then (S (m + 1)).f id else HLm S Q L m id) = none
    split
    · exact if_neg (by omega)
    · exact HL_none h m
def Lf (L : Array Bool) (j : Nat) : Bool := L.getD j false
/-- What comes before a listed one is listed. -/
def Cl (ops : Array Oper) (L : Array Bool) : Prop := ∀ j i, Lf L j = true → ((Region.before ops).getD j 0).testBit i = true → Lf L i = true
theorem snd_draw (hm : P.follows .mixedOrders = true) {E : Callee'} (hE : GoodE E) (hC : CallOk P E) {ops : Array Oper} {N idr : Nat} {t t' : TT} {a : Act} {w0 w : World} {B : Nat} {ρ0 : Rn} {s s' : Hp} (hed : edgesOk ops = true) (ha : ActR ρ0 N t [] a)
    (ht : Tells (drawK P E N ops [] ops.toList (Region.before ops).toList 0 [] t) s t' s') (H : HR w0 B ρ0 s.f w) (hfr : Free ρ0 s.n s'.n) {Q : Exit → Act → World → Prop} (hk : ∀ a' w', After w0 B ρ0 s s' N t' [] a' w' → Q .normal a' w') :
    (Code.region idr ops true).wp P Q a w := by
  obtain ⟨S, T, R, Qf, e1, e2, e3, e4, e5, e6⟩ := draw_trace hE _ _ _ _ _ _ _ _ ht rfl
  have hop : ∀ (i : Nat) o, ops[i]? = some o → Tells (mtrk (opK P E N ops o (T i, []))) (S i) ((T (i + 1), []), R i, Qf i) (S (i + 1)) := fun i o ho => e5 i o (by simpa using ho)
  have hlt : ∀ i, i < ops.size → ∃ o, ops[i]? = some o := fun i hi => ⟨_, Array.getElem?_eq_getElem hi⟩
  have hsz : ∀ {i : Nat} {o : Oper}, ops[i]? = some o → i < ops.size := fun {i o} ho => by
    rcases Nat.lt_or_ge i ops.size with h | h
    · exact h
    · rw [Array.getElem?_eq_none h] at ho; cases ho
  have hlen : ops.toList.length = ops.size := Array.length_toList
  rw [hlen] at e3 e4
  have htrk : ∀ (i : Nat) o, ops[i]? = some o → _ := fun i o ho => tells_trk (good_opK P hE N ops o _) (hop i o ho)
  have hn1 : ∀ i, i < ops.size → (S i).n ≤ (S (i + 1)).n := fun i hi => let ⟨o, ho⟩ := hlt i hi; (htrk i o ho).1
  have hmono : ∀ k i, i + k ≤ ops.size → (S i).n ≤ (S (i + k)).n := by
    intro k
    induction k with
    | zero => exact fun i _ => Nat.le_refl _
    | succ k ih => exact fun i h => Nat.le_trans (ih i (by omega)) (hn1 (i + k) (by omega))
  have hmon : ∀ i j, i ≤ j → j ≤ ops.size → (S i).n ≤ (S j).n := fun i j hij hj => by
    have := hmono (j - i) i (by omega)
    rwa [show i + (j - i) = j by omega] at this
  have hsf : ∀ i id, i < ops.size → (Qf i).testBit id = false → (S (i + 1)).f id = (S i).f id := fun i id hi h => let ⟨o, ho⟩ := hlt i hi; (htrk i o ho).2.1 id h
  -- temporaries
  obtain ⟨D, hD⟩ : ∃ D : Nat → Option Tmp, D = fun i => (ops[i]?).bind (·.dst) := ⟨_, rfl⟩
  have hDo : ∀ {i : Nat} {o : Oper}, ops[i]? = some o → D i = o.dst := fun {i o} ho => by rw [hD]; simp only [ho]; rfl
  have hstart : ∀ (i : Nat) o, ops[i]? = some o → ∃ g', Tells (opK P E N ops o (T i, [])) (S i) (T (i + 1), []) g' := fun i o ho => by
    obtain ⟨g', h1, _⟩ := (htrk i o ho).2.2.2 (S i) rfl fun _ _ => rfl
    exact ⟨g', h1⟩
  have hst : ∀ i k, i < ops.size → k ≤ 255 → D i ≠ some k → tget8 (T (i + 1)) k = tget8 (T i) k := by
    intro i k hi hk hd
    obtain ⟨o, ho⟩ := hlt i hi
    obtain ⟨g', h1⟩ := hstart i o ho
    obtain ⟨t2, _, hc⟩ := opK_congr hE (fun _ _ _ => rfl) h1
    rcases hc with ⟨_, h2, _⟩ | ⟨d, v, h2, h3, h4, _⟩
    · rw [h2]
    · rw [h4, tget8_put _ d k _ (Nat.le_of_lt_succ (Nat.lt_of_lt_of_le h3 ha.le)) hk, if_neg]
      intro e; subst e
      exact hd ((hDo ho).trans h2)
  -- what clashes is in order
  have hbef := before_ok ops
  have hcl : ∀ (i j : Nat) oi oj, i < j → ops[i]? = some oi → ops[j]? = some oj → clash (trk ops R Qf i oi) (trk ops R Qf j oj) = true → ((Region.before ops).getD j 0).testBit i = true := by
    intro i j oi oj hij hoi hoj hc
    have := (e6 j oj (by simpa using hoj)).2 i oi hij (by simpa using hoi) hc
    rw [Nat.zero_add] at this
    rw [← this]
    congr 1
    rw [Array.getD_eq_getD_getElem?, List.getD_eq_getElem?_getD, Array.getElem?_toList]
  have hbsz : ∀ {j i : Nat}, ((Region.before ops).getD j 0).testBit i = true → j < (Region.before ops).size := fun {j i} h => by
    rcases Nat.lt_or_ge j (Region.before ops).size with h' | h'
    · exact h'
    · rw [Array.getD_eq_getD_getElem?, Array.getElem?_eq_none h'] at h; simp at h
  refine region_inv hm (fun L a w => L.size = ops.size ∧ Cl ops L ∧ ∃ ρ, HR w0 B ρ (HLm S Qf (Lf L) ops.size) w ∧ ρ0.le ρ ∧ (∀ id, ρ id = ρ0 id ∨ ∃ i, i < ops.size ∧ Lf L i = true ∧ (S i).n ≤ id ∧ id < (S (i + 1)).n) ∧
    a.tmps.size = N ∧ (∀ k, k ≤ 255 → VL ρ (TLm T D (Lf L) ops.size k) (a.tmps.getD k undef)) ∧ a.defers = []) (fun L a w h => h.1) ?_ ?_ ?_
  · -- at the beginning
    have hL0 : ∀ j, Lf (Array.replicate ops.size false) j = false := fun j => by
      show (Array.replicate ops.size false).getD j false = false
      rw [Array.getD_eq_getD_getElem?, Array.getElem?_replicate]
      split <;> rfl
    refine ⟨by simp, (fun j i hj => by rw [hL0] at hj; cases hj), ρ0, ?_, .rfl, fun id => .inl rfl, ha.size, fun k hk => ?_, ?_⟩
    · refine (H.drew _).congr fun id => ?_
      have := HL_post (S := S) (Q := Qf) (L := Lf (Array.replicate ops.size false)) (id := id) (m := 0) ops.size fun j _ _ hj => by rw [hL0] at hj; cases hj
      rw [Nat.zero_add] at this
      rw [this]
      show (S 0).f id = s.f id
      rw [e1]
    · have := TL_post (T := T) (D := D) (L := Lf (Array.replicate ops.size false)) (k := k) (m := 0) ops.size fun j _ _ hj => by rw [hL0] at hj; cases hj
      rw [Nat.zero_add] at this
      rw [this]
      show VL ρ0 (tget8 (T 0) k) _
      rw [e2]; exact ha.tm k hk
    · exact ha.df
  · -- one more
    rintro L a1 w1 i o ⟨hLs, hCl, ρ, H1, hle, hout, hts, htm, hdf⟩ hr ho
    have hi := hsz ho
    have hLi : Lf L i = false := by
      have := ready_off hLs hr
      show L.getD i false = false
      rw [Array.getD_eq_getD_getElem?, ← Array.getElem?_toList, this]; rfl
    -- what comes before it is listed
    have hpre : ∀ j, ((Region.before ops).getD i 0).testBit j = true → Lf L j = true := by
      intro j hj
      obtain ⟨o', e, h1, h2, h3, h4⟩ := hbef i (hbsz hj) j hj
      rw [ho] at h1; cases h1
      have hon : Lf L e.on = true := ready_pred hr ho e.on (by
        rw [Array.any_eq_true']
        exact ⟨e, Array.mem_toList_iff.1 h2, by simp [h3]⟩)
      rcases h4 with h4 | ⟨_, h4⟩
      · rw [h4]; exact hon
      · exact hCl e.on j hon h4
    -- none that clashes with it has come too early, nor is one wanting
    have early : ∀ j oj, ops[j]? = some oj → j < i → Lf L j = false → clash (trk ops R Qf j oj) (trk ops R Qf i o) = false := fun j oj hoj hji hj => by
      cases hc : clash (trk ops R Qf j oj) (trk ops R Qf i o) with
      | false => rfl
      | true => rw [hpre j (hcl j i oj o hji hoj ho hc)] at hj; cases hj
    have late : ∀ j oj, ops[j]? = some oj → i < j → Lf L j = true → clash (trk ops R Qf i o) (trk ops R Qf j oj) = false := fun j oj hoj hij hj => by
      cases hc : clash (trk ops R Qf i o) (trk ops R Qf j oj) with
      | false => rfl
      | true => rw [hCl j i hj (hcl i j o oj hij ho hoj hc)] at hLi; cases hLi
    have split_at : ∀ m, m ≤ ops.size → m + (ops.size - m) = ops.size := fun m hm => by omega
    have hall : ∀ {x y : Nat}, (Nat.lor x y) = x ||| y := fun {x y} => rfl
    -- the store where it runs
    have hA : ∀ id, (R i ||| Qf i).testBit id = true → HLm S Qf (Lf L) ops.size id = (S i).f id := by
      intro id hid
      have h1 : HLm S Qf (Lf L) i id = (S i).f id := HL_pre hsf i (by omega) fun j hj hl => by
        obtain ⟨oj, hoj⟩ := hlt j (by omega)
        cases hq : (Qf j).testBit id with
        | false => rfl
        | true =>
          have := early j oj hoj hj hl
          rw [clash_of (x := trk ops R Qf j oj) (y := trk ops R Qf i o) (i := id) (.inl ⟨hq, hid⟩)] at this; cases this
      have h2 := HL_post (S := S) (Q := Qf) (L := Lf L) (id := id) (m := i) (ops.size - i) fun j h1 h2 hl => by
        have hne : j ≠ i := fun e => by subst e; rw [hLi] at hl; cases hl
        obtain ⟨oj, hoj⟩ := hlt j (by omega)
        cases hq : (Qf j).testBit id with
        | false => rfl
        | true =>
          have := late j oj hoj (by omega) hl
          rw [clash_of (x := trk ops R Qf i o) (y := trk ops R Qf j oj) (i := id) (.inr (.inl ⟨hq, hid⟩))] at this; cases this
      rw [split_at i (by omega)] at h2
      rw [h2, h1]
    have dbit : ∀ {x : Option Tmp} {k : Nat}, x = some k → (bitOf x).testBit k = true := fun {x k} hx => by rw [hx]; exact bit_self k
    have hT : ∀ k, k ≤ 255 → Nm ops o k → TLm T D (Lf L) ops.size k = tget8 (T i) k := by
      intro k hk hnm
      have h1 : TLm T D (Lf L) i k = tget8 (T i) k := TL_pre hst hk i (by omega) fun j hj hl hd => by
        obtain ⟨oj, hoj⟩ := hlt j (by omega)
        have := early j oj hoj hj hl
        rw [clash_of (x := trk ops R Qf j oj) (y := trk ops R Qf i o) (i := k) (.inr (.inr (.inl ⟨dbit ((hDo hoj).symm.trans hd), hnm⟩)))] at this; cases this
      have h2 := TL_post (T := T) (D := D) (L := Lf L) (k := k) (m := i) (ops.size - i) fun j h1 h2 hl hd => by
        have hne : j ≠ i := fun e => by subst e; rw [hLi] at hl; cases hl
        obtain ⟨oj, hoj⟩ := hlt j (by omega)
        have := late j oj hoj (by omega) hl
        rw [clash_of (x := trk ops R Qf i o) (y := trk ops R Qf j oj) (i := k) (.inr (.inr (.inr ⟨dbit ((hDo hoj).symm.trans hd), hnm⟩)))] at this; cases this
      rw [split_at i (by omega)] at h2
      rw [h2, h1]
    obtain ⟨g, hgf, hgn, _, _⟩ := hp_of (HLm S Qf (Lf L) ops.size) (S i).n fun id h => HL_none h _
    obtain ⟨tL, htL⟩ := tt_of (TLm T D (Lf L) ops.size)
    obtain ⟨g', k1, k2, k3, k4⟩ := (htrk i o ho).2.2.2 g hgn fun id h => by rw [hgf]; exact hA id h
    obtain ⟨tL', k5, k6⟩ := opK_congr hE (t2 := tL) (fun k hk hnm => by rw [htL k hk]; exact hT k hk hnm) k1
    have haL : ActR ρ N tL [] a1 := ⟨hts, ha.le, fun k hk => by rw [htL k hk]; exact htm k hk, hdf⟩
    have hfree : Free ρ g.n g'.n := by
      intro id h1 h2
      rw [hgn] at h1
      rw [k2] at h2
      rcases hout id with h | ⟨j, hj, hlj, h3, h4⟩
      · rw [h]
        refine hfr id ?_ ?_
        · rw [← e1]; exact Nat.le_trans (hmon 0 i (by omega) (by omega)) h1
        · rw [← e3]; exact Nat.lt_of_lt_of_le h2 (hmon (i + 1) ops.size (by omega) (by omega))
      · exfalso
        have hne : j ≠ i := fun e => by subst e; rw [hLi] at hlj; cases hlj
        rcases Nat.lt_or_gt_of_ne hne with hji | hji
        · have := hmon (j + 1) i (by omega) (by omega); omega
        · have := hmon (i + 1) j (by omega) (by omega); omega
    refine snd_opK hE hC haL k5 (by rw [hgf]; exact H1) hfree Q fun a2 w2 hA2 => ?_
    obtain ⟨ρ2, H2, hX2, ha2⟩ := hA2
    -- behind it
    have hL2 : ∀ j, Lf (L.setIfInBounds i true) j = if j = i then true else Lf L j := fun j => by
      show (L.setIfInBounds i true).getD j false = if j = i then true else L.getD j false
      rw [Array.getD_eq_getD_getElem?, Array.getD_eq_getD_getElem?, Array.getElem?_setIfInBounds]
      by_cases e : i = j
      · subst e; rw [if_pos rfl, if_pos rfl, if_pos (by omega)]; rfl
      · rw [if_neg e, if_neg (fun h => e h.symm)]
    have hLne : ∀ j, j ≠ i → Lf (L.setIfInBounds i true) j = Lf L j := fun j hj => by rw [hL2, if_neg hj]
    refine ⟨by simp [hLs], fun j i' hj hb => ?_, ρ2, ?_, hle.trans hX2.le, fun id => ?_, ha2.size, fun k hk => ?_, ha2.df⟩
    · rw [hL2] at hj ⊢
      by_cases e : i' = i
      · rw [if_pos e]
      · rw [if_neg e]
        by_cases e2 : j = i
        · subst e2; exact hpre i' hb
        · rw [if_neg e2] at hj; exact hCl j i' hj hb
    · refine H2.congr fun id => ?_
      cases hq : (Qf i).testBit id with
      | false => rw [HL_same hLne hq, k4 id hq, hgf]
      | true =>
        rw [k3 id hq]
        have h1 : HLm S Qf (Lf (L.setIfInBounds i true)) (i + 1) id = (S (i + 1)).f id := by
          show (if Lf (L.setIfInBounds i true) i && (Qf i).testBit id then _ else _) = _
          rw [hL2, if_pos rfl, hq]; rfl
        have h2 := HL_post (S := S) (Q := Qf) (L := Lf (L.setIfInBounds i true)) (id := id) (m := i + 1) (ops.size - (i + 1)) fun j h1 h2 hl => by
          rw [hLne j (by omega)] at hl
          obtain ⟨oj, hoj⟩ := hlt j (by omega)
          cases hq2 : (Qf j).testBit id with
          | false => rfl
          | true =>
            have := late j oj hoj (by omega) hl
            rw [clash_of (x := trk ops R Qf i o) (y := trk ops R Qf j oj) (i := id) (.inl ⟨hq, by show (R j ||| Qf j).testBit id = true; rw [Nat.testBit_or, hq2]; simp⟩)] at this; cases this
        rw [split_at (i + 1) (by omega)] at h2
        rw [h2, h1]
    · by_cases hin : g.n ≤ id ∧ id < g'.n
      · exact .inr ⟨i, hi, by rw [hL2, if_pos rfl], by rw [← hgn]; exact hin.1, by rw [← k2]; exact hin.2⟩
      · rw [hX2.out id hin]
        rcases hout id with h | ⟨j, h1, h2, h3⟩
        · exact .inl h
        · refine .inr ⟨j, h1, ?_, h3⟩
          rw [hL2]; split
          · rfl
          · exact h2
    · have hv := ha2.tm k hk
      have hgoal : TLm T D (Lf (L.setIfInBounds i true)) ops.size k = tget8 tL' k := by
        by_cases hd : D i = some k
        · have h1 : TLm T D (Lf (L.setIfInBounds i true)) (i + 1) k = tget8 (T (i + 1)) k := by
            show (if Lf (L.setIfInBounds i true) i && decide (D i = some k) then _ else _) = _
            rw [hL2, if_pos rfl]; simp [hd]
          have h2 := TL_post (T := T) (D := D) (L := Lf (L.setIfInBounds i true)) (k := k) (m := i + 1) (ops.size - (i + 1)) fun j h1 h2 hl hdj => by
            rw [hLne j (by omega)] at hl
            obtain ⟨oj, hoj⟩ := hlt j (by omega)
            have := late j oj hoj (by omega) hl
            rw [clash_of (x := trk ops R Qf i o) (y := trk ops R Qf j oj) (i := k) (.inr (.inr (.inl ⟨dbit ((hDo ho).symm.trans hd), nm_dst ((hDo hoj).symm.trans hdj)⟩)))] at this; cases this
          rw [split_at (i + 1) (by omega)] at h2
          rw [h2, h1]
          rcases k6 with ⟨f1, _, _⟩ | ⟨d, v, f1, f2, f3, f4⟩
          · rw [hDo ho, f1] at hd; cases hd
          · have : d = k := by rw [hDo ho, f1] at hd; exact Option.some.inj hd
            subst this
            rw [f3, f4, tget8_put _ d d _ hk hk, tget8_put _ d d _ hk hk]
            simp
        · rw [TL_same hLne hd]
          rcases k6 with ⟨_, _, f3⟩ | ⟨d, v, f1, f2, _, f4⟩
          · rw [f3, htL k hk]
          · rw [f4, tget8_put _ d k _ (Nat.le_of_lt_succ (Nat.lt_of_lt_of_le f2 ha.le)) hk, if_neg, htL k hk]
            intro e; subst e
            exact hd ((hDo ho).trans f1)
      rw [hgoal]; exact hv
  · -- all are listed
    rintro L a1 w1 ⟨hLs, hCl, ρ, H1, hle, hout, hts, htm, hdf⟩ hr
    have hLall : ∀ j, j < ops.size → Lf L j = true := fun j hj => ready_all hLs hed hr (j + 1) j (by omega) hj
    refine hk a1 w1 ⟨ρ, ?_, ⟨hle, fun id hid => ?_⟩, hts, ha.le, fun k hk => ?_, hdf⟩
    · refine H1.congr fun id => ?_
      rw [HL_pre hsf ops.size (Nat.le_refl _) (fun j hj hl => by rw [hLall j hj] at hl; cases hl), e3]
    · rcases hout id with h | ⟨j, h1, h2, h3, h4⟩
      · exact h
      · exfalso
        refine hid ⟨?_, ?_⟩
        · rw [← e1]; exact Nat.le_trans (hmon 0 j (by omega) (by omega)) h3
        · rw [← e3]; exact Nat.lt_of_lt_of_le h4 (hmon (j + 1) ops.size (by omega) (by omega))
    · have := htm k hk
      rw [TL_pre hst hk ops.size (Nat.le_refl _) (fun j hj hl => by rw [hLall j hj] at hl; cases hl), e4] at this
      exact this
end Go.Proofs.YtpijenlmfmknnaaGreatDoor

/- Code and calls of the reckoner are sound. No program. -/
namespace Go.Proofs.YtpijenlmfmknnaaGreatDoor
open Go.RowKit
set_option linter.unusedVariables false
variable {P : Program}

/-- Code run by Ev is sound. -/
def CodeOk (P : Program) (Ev : EvT) : Prop := ∀ (c : Code) (N : Nat) (t : TT) (ds : List Deferred) (s s' : Hp) (e : Exit) (t' : TT) (ds' : List Deferred), Tells (Ev c N (t, ds)) s (e, t', ds') s' →
  ∀ (w0 : World) (B : Nat) (ρ : Rn) (w : World) (a : Act) (Q : Exit → Act → World → Prop), ActR ρ N t ds a → HR w0 B ρ s.f w → Free ρ s.n s'.n → (∀ a' w', After w0 B ρ s s' N t' ds' a' w' → Q e a' w') → c.wp P Q a w
theorem cond_eval {ρ : Rn} {N : Nat} {t : TT} {ds : List Deferred} {a : Act} (ha : ActR ρ N t ds a) (hg : Glo' ρ) {c : Operand} {b : Bool} (h : aev t c = some (.bool b)) : a.eval c = .bool b := VL.bool.1 (env_of ha hg c _ h)
theorem after_trans {w0 : World} {B : Nat} {ρ ρ1 : Rn} {s s1 s' : Hp} {N : Nat} {t' : TT} {ds' : List Deferred} {a' : Act} {w' : World} (hE : Ext ρ ρ1 s.n s1.n) (h1 : s.n ≤ s1.n) (h2 : s1.n ≤ s'.n) (h : After w0 B ρ1 s1 s' N t' ds' a' w') : After w0 B ρ s s' N t' ds' a' w' := by
  obtain ⟨ρ', H', hE', ha'⟩ := h
  exact ⟨ρ', H', hE.trans hE' h1 h2, ha'⟩
theorem code_step (hm : P.follows .mixedOrders = true) {Ev : EvT} {E : Callee'} (hv : ∀ c N a, Good (Ev c N a)) (hE : GoodE E) (hC : CallOk P E) (hok : CodeOk P Ev)
    (hloop : ∀ c, ∀ (N : Nat) (t : TT) (ds : List Deferred) (s s' : Hp) (e : Exit) (t' : TT) (ds' : List Deferred), Tells (mbind (Ev c N (t, ds)) (cdSeq Ev (.loop c) N)) s (e, t', ds') s' →
      ∀ (w0 : World) (B : Nat) (ρ : Rn) (w : World) (a : Act) (Q : Exit → Act → World → Prop), ActR ρ N t ds a → HR w0 B ρ s.f w → Free ρ s.n s'.n → (∀ a' w', After w0 B ρ s s' N t' ds' a' w' → Q e a' w') → (Code.loop c).wp P Q a w) : CodeOk P (evStep P Ev E) := by
  intro c N t ds s s' e t' ds' ht w0 B ρ w a Q ha H hfr hQ
  have ht' : Tells ((stp P c).f Ev E N (t, ds)) s (e, t', ds') s' := ht
  unfold stp at ht'
  have here : (e = .normal ∧ t' = t ∧ ds' = ds ∧ s' = s) → Q .normal a w := by
    rintro ⟨rfl, rfl, rfl, rfl⟩
    exact hQ _ _ ⟨ρ, H, .rfl, ha⟩
  split at ht'
  · obtain ⟨h1, rfl⟩ := tells_pure ht'
    cases h1
    exact wp_skip (hQ _ _ ⟨ρ, H, .rfl, ha⟩)
  · obtain ⟨h1, rfl⟩ := tells_pure ht'
    cases h1
    exact wp_label (hQ _ _ ⟨ρ, H, .rfl, ha⟩)
  · rename_i id ops
    obtain ⟨x, s1, k1, k2, _⟩ := tells_bind (good_opsK P hE _ _ _ _) ht'
    obtain ⟨h1, rfl⟩ := tells_pure k2
    cases h1
    refine wp_region ?_
    have := snd_opsK hE hC ops.toList 0 t ds a w ρ s (fun j o hj => by simpa using hj) ha k1 H hfr hQ
    rw [Array.length_toList, ← List.range_eq_range'] at this
    exact this
  · rename_i id ops
    have ht2 : Tells (cdDraw P E ops N (t, ds)) s (e, t', ds') s' := ht'
    unfold cdDraw at ht2
    split at ht2
    · rename_i t0 hed heq
      cases heq
      obtain ⟨x, s1, k1, k2, _⟩ := tells_bind (good_drawK P hE _ _ _ _ _ _ _ _) ht2
      obtain ⟨h1, rfl⟩ := tells_pure k2
      cases h1
      exact snd_draw hm hE hC hed ha k1 H hfr hQ
    · exact (tells_fail ht2).elim
  · rename_i x y
    obtain ⟨z, s1, k1, k2, hn1⟩ := tells_bind (hv _ _ _) ht'
    obtain ⟨e1, t1, ds1⟩ := z
    have hgs : Good (cdSeq Ev y N (e1, t1, ds1)) := by
      unfold cdSeq
      split
      · exact hv _ _ _
      · exact good_pure _
    have hn2 := k2.le hgs
    refine wp_seq ?_
    refine hok x N t ds s s1 e1 t1 ds1 k1 w0 B ρ w a _ ha H (hfr.left hn2) fun a1 w1 hA => ?_
    obtain ⟨ρ1, H1, hE1, ha1⟩ := id hA
    cases e1 with
    | normal => exact hok y N t1 ds1 s1 s' e t' ds' k2 w0 B ρ1 w1 a1 Q ha1 H1 (hfr.right hn1 hE1) fun a2 w2 hA2 => hQ _ _ (after_trans hE1 hn1 hn2 hA2)
    | _ =>
      obtain ⟨h1, rfl⟩ := tells_pure k2
      cases h1
      exact hQ _ _ hA
  · rename_i c x y
    have ht2 : Tells (cdCond Ev c x y N (t, ds)) s (e, t', ds') s' := ht'
    unfold cdCond at ht2
    split at ht2
    · rename_i hc
      exact wp_cond_true (cond_eval ha H.glo hc) (hok x N t ds s s' e t' ds' ht2 w0 B ρ w a Q ha H hfr hQ)
    · rename_i hc
      exact wp_cond_false (cond_eval ha H.glo hc) (hok y N t ds s s' e t' ds' ht2 w0 B ρ w a Q ha H hfr hQ)
    · exact (tells_fail ht2).elim
  · rename_i bid c
    obtain ⟨z, s1, k1, k2, hn1⟩ := tells_bind (hv _ _ _) ht'
    obtain ⟨e1, t1, ds1⟩ := z
    refine wp_block ?_
    unfold cdBlock at k2
    split at k2
    · rename_i id' x heq
      cases heq
      split at k2
      · rename_i hid
        have hid := Nat.eq_of_beq_eq_true hid
        obtain ⟨h1, rfl⟩ := tells_pure k2
        cases h1
        refine hok c N t ds s _ _ t' ds' k1 w0 B ρ w a _ ha H hfr fun a1 w1 hA => ?_
        show (if id' = bid then Q .normal a1 w1 else Q (.exit id') a1 w1)
        rw [if_pos hid]; exact hQ _ _ hA
      · rename_i hid
        have hid : ¬ id' = bid := fun h => by subst h; rw [Nat.beq_refl] at hid; cases hid
        obtain ⟨h1, rfl⟩ := tells_pure k2
        cases h1
        refine hok c N t ds s _ _ t' ds' k1 w0 B ρ w a _ ha H hfr fun a1 w1 hA => ?_
        show (if id' = bid then Q .normal a1 w1 else Q (.exit id') a1 w1)
        rw [if_neg hid]; exact hQ _ _ hA
    · rename_i hne
      obtain ⟨h1, rfl⟩ := tells_pure k2
      cases h1
      refine hok c N t ds s _ _ t' ds' k1 w0 B ρ w a _ ha H hfr fun a1 w1 hA => ?_
      cases e with
      | exit id' => exact (hne id' (t', ds') rfl).elim
      | _ => exact hQ _ _ hA
  · rename_i c
    exact hloop c N t ds s s' e t' ds' ht' w0 B ρ w a Q ha H hfr hQ
  · rename_i c
    obtain ⟨z, s1, k1, k2, hn1⟩ := tells_bind (hv _ _ _) ht'
    obtain ⟨e1, t1, ds1⟩ := z
    refine wp_scope_straight ?_
    unfold cdScope at k2
    split at k2
    · exact (tells_fail k2).elim
    · rename_i hne
      obtain ⟨h1, rfl⟩ := tells_pure k2
      cases h1
      refine hok c N t ds s _ _ t' ds' k1 w0 B ρ w a _ ha H hfr fun a1 w1 hA => ?_
      cases e with
      | goto l => exact (hne l (t', ds') rfl).elim
      | _ => exact hQ _ _ hA
  · obtain ⟨h1, rfl⟩ := tells_pure ht'
    cases h1
    exact wp_exit (hQ _ _ ⟨ρ, H, .rfl, ha⟩)
  · obtain ⟨h1, rfl⟩ := tells_pure ht'
    cases h1
    exact wp_ret (hQ _ _ ⟨ρ, H, .rfl, ha⟩)
  · exact (tells_fail ht').elim

/-! Results and arguments. -/
theorem loadVar_still {t : TypeId} {a : Addr} {v : Value} {w w' : World} (h : (loadVar t a).run P w = .ok v w') : w' = w := by
  unfold loadVar at h
  rw [Sem.run_bind] at h
  have hag : ∀ r, (isAgg t).run P w = r → (∃ b, r = .ok b w) ∨ ∃ e, r = .halt e w := by
    intro r hr
    unfold isAgg underlying at hr
    simp only [Sem.run_bind, run_program, Result.andThen] at hr
    split at hr
    · rename_i x wx hx
      split at hx
      · cases hx
        split at hr <;> exact .inl ⟨_, hr.symm⟩
      · cases hx
    · rename_i x wx hx
      split at hx
      · cases hx
      · cases hx; exact .inr ⟨_, hr.symm⟩
  have hsz : ∀ r, (Go.sizeOf t).run P w = r → (∃ b, r = .ok b w) ∨ ∃ e, r = .halt e w := by
    intro r hr
    unfold Go.sizeOf typeInfo at hr
    simp only [Sem.run_bind, run_program, Result.andThen] at hr
    split at hr
    · rename_i x wx hx
      split at hx
      · cases hx; exact .inl ⟨_, hr.symm⟩
      · cases hx
    · rename_i x wx hx
      split at hx
      · cases hx
      · cases hx; exact .inr ⟨_, hr.symm⟩
  rcases hag _ rfl with ⟨b, hb⟩ | ⟨e, he⟩
  · rw [hb] at h
    simp only [Result.andThen] at h
    cases b with
    | true =>
      simp only [if_true, Sem.run_bind] at h
      rcases hsz _ rfl with ⟨n, hn⟩ | ⟨e, he⟩
      · rw [hn] at h
        simp only [Result.andThen] at h
        cases hl : (loadCells a n).run P w with
        | ok arr w2 =>
          rw [hl] at h
          simp only [Sem.run_pure, Result.ok.injEq] at h
          have := load_still n 0 a #[] arr w w2 hl
          rw [← h.2, this]
        | halt e w2 => rw [hl] at h; cases h
      · rw [he] at h; cases h
    | false =>
      simp only [Bool.false_eq_true, if_false] at h
      rw [run_load] at h
      split at h
      · cases h; rfl
      · split at h
        · cases h; rfl
        · cases h
  · rw [he] at h; cases h
def resF (tmps : Array Value) : ResultVar → Sem Value
  | .tmp t => Pure.pure (tmps.getD t undef)
  | .cell a t => do loadVar t (← asAddr (tmps.getD a undef))
theorem res_run {ρ : Rn} {N : Nat} {t : TT} {ds : List Deferred} {a : Act} {w0 w : World} {B : Nat} (ha : ActR ρ N t ds a) : ∀ (l : List ResultVar) (s s' : Hp) (vs : List Value), Tells (resK P t l) s vs s' → HR w0 B ρ s.f w →
    s'.f = s.f ∧ s'.n = s.n ∧ ∃ vs', (l.mapM (resF a.tmps)).run P w = .ok vs' w ∧ LR (VL ρ) vs vs'
  | [], s, s', vs, ht, H => by
    obtain ⟨rfl, rfl⟩ := tells_pure ht
    exact ⟨rfl, rfl, [], rfl, rfl⟩
  | .tmp k :: l, s, s', vs, ht, H => by
    unfold resK at ht
    split at ht
    · rename_i hk
      obtain ⟨us, s1, k1, k2, _⟩ := tells_bind (good_resK P t l) ht
      obtain ⟨rfl, rfl⟩ := tells_pure k2
      obtain ⟨f1, f2, us', f3, f4⟩ := res_run ha l s _ us k1 H
      refine ⟨f1, f2, a.tmps.getD k undef :: us', ?_, _, us', rfl, ha.tm k (Nat.le_of_ble_eq_true hk), f4⟩
      simp only [List.mapM_cons, Sem.run_bind, resF, Sem.run_pure, Result.andThen, f3]
    · exact (tells_fail ht).elim
  | .cell k ty :: l, s, s', vs, ht, H => by
    unfold resK at ht
    split at ht
    · rename_i x hk hx
      obtain ⟨v, s1, k1, k2, hn1⟩ := tells_bind (good_loadK _ _ _) ht
      obtain ⟨us, s2, k3, k4, _⟩ := tells_bind (good_resK P t l) k2
      obtain ⟨rfl, rfl⟩ := tells_pure k4
      have hr := ha.tm k (Nat.le_of_ble_eq_true hk)
      rw [hx] at hr
      obtain ⟨_, p, hp, e1⟩ := VL.ptr.1 hr
      have hs1 : s1.f = s.f ∧ s1.n = s.n := by
        cases hg : aggOf P ty with
        | none => rw [hg] at k1; cases hz : szOf P ty <;> (rw [hz] at k1; exact (tells_fail k1).elim)
        | some b =>
          cases hz : szOf P ty with
          | none => rw [hg, hz] at k1; cases b <;> exact (tells_fail k1).elim
          | some n =>
            rw [hg, hz] at k1
            cases b with
            | true =>
              obtain ⟨xs, s3, j1, j2, _⟩ := tells_bind (good_mload _ _) k1
              obtain ⟨_, rfl⟩ := tells_pure j2
              obtain ⟨_, _, _, _, _, _, _, _, _, g1, g2⟩ := tells_load j1
              exact ⟨g1, g2⟩
            | false =>
              obtain ⟨xs, s3, j1, j2, _⟩ := tells_bind (good_mload _ _) k1
              obtain ⟨_, rfl⟩ := tells_aev j2
              obtain ⟨_, _, _, _, _, _, _, _, _, g1, g2⟩ := tells_load j1
              exact ⟨g1, g2⟩
      obtain ⟨v', w', ρ', hrun, H', hE, hv⟩ := snd_loadK (P := P) ty (e1 ▸ hr) w0 B s s1 v ρ w .rfl k1 H (fun id h1 h2 => by omega)
      have hρ : ρ' = ρ := by funext id; exact hE.out id (by omega)
      subst hρ
      have hw : w' = w := loadVar_still hrun
      subst hw
      obtain ⟨f1, f2, us', f3, f4⟩ := res_run ha l s1 _ us k3 (by rw [hs1.1]; exact H)
      refine ⟨f1.trans hs1.1, f2.trans hs1.2, v' :: us', ?_, v', us', rfl, hv, f4⟩
      have has : ∀ w, (asAddr (a.tmps.getD k undef)).run P w = .ok ⟨p.blk, p.off + x.off, none⟩ w := fun w => by rw [e1]; rfl
      simp only [List.mapM_cons, Sem.run_bind, resF, has, Result.andThen, hrun, f3, Sem.run_pure]
    · exact (tells_fail ht).elim
theorem results_run {ρ : Rn} {N : Nat} {t : TT} {ds : List Deferred} {a : Act} {w0 w : World} {B : Nat} (ha : ActR ρ N t ds a) {fn : Func} {s s' : Hp} {vs : List Value} (ht : Tells (resK P t fn.results.toList) s vs s') (H : HR w0 B ρ s.f w) :
    s'.f = s.f ∧ s'.n = s.n ∧ ∃ v', (results fn a.tmps).run P w = .ok v' w ∧ VL ρ (tupK vs) v' := by
  obtain ⟨f1, f2, vs', f3, f4⟩ := res_run ha _ s s' vs ht H
  refine ⟨f1, f2, ?_⟩
  have hmm : (fn.results.mapM (resF a.tmps)).run P w = .ok ⟨vs'⟩ w := by
    rw [Array.mapM_eq_mapM_toList, Sem.run_map, f3]; rfl
  have hres : (results fn a.tmps).run P w = .ok (if h : (⟨vs'⟩ : Array Value).size = 1 then (⟨vs'⟩ : Array Value)[0] else .tuple ⟨vs'⟩) w := by
    have : results fn a.tmps = (do let vs ← fn.results.mapM (resF a.tmps); Pure.pure (if h : vs.size = 1 then vs[0] else .tuple vs)) := rfl
    rw [this, Sem.run_bind, hmm]
    rfl
  refine ⟨_, hres, ?_⟩
  match vs, vs', f4 with
  | [], _, e => subst e; exact VL.tuple.2 ⟨[], rfl, rfl⟩
  | [v], _, ⟨v', tl, e, hv, htl⟩ =>
    have : tl = [] := htl
    subst this
    subst e
    exact hv
  | v :: u :: l, _, ⟨v', tl, e, hv, u', tl2, e2, hu, htl⟩ =>
    subst e2
    subst e
    rw [dif_neg (by simp)]
    exact VL.tuple.2 ⟨_, rfl, v', _, rfl, hv, u', tl2, rfl, hu, htl⟩
end Go.Proofs.YtpijenlmfmknnaaGreatDoor

/- Calls of the reckoner are sound, where its hooks are. No program. -/
namespace Go.Proofs.YtpijenlmfmknnaaGreatDoor
open Go.RowKit
set_option linter.unusedVariables false
variable {P : Program}

/-- No function of the program tells the number of goroutines. -/
def NoGo (P : Program) : Prop := ∀ (f : Nat) (fn : Func), P.funcs[f]? = some fn → fn.name ≠ "runtime.NumGoroutine"
def HookOk (P : Program) (X : Hook) : Prop := ∀ f vs F, X f vs = some F → ∀ (s s' : Hp) (v : Value), F s = some (v, s') → ∀ (w0 : World) (B : Nat) (ρ : Rn) (w : World) (vs' : List Value), HR w0 B ρ s.f w → LR (VL ρ) vs vs' → Free ρ s.n s'.n →
  Went P ((callFunc f ⟨vs'⟩).run P w) (Post w0 B ρ s s' v)
/-- A deferred call, while its caller returns. -/
def DefOk (P : Program) (g : FuncId) (vs : List Value) (F : Hp → Option (Value × Hp)) : Prop := ∀ (s s' : Hp) (v : Value), F s = some (v, s') → ∀ (w0 : World) (B : Nat) (ρ : Rn) (w : World) (vs' : List Value), HR w0 B ρ s.f w → LR (VL ρ) vs vs' → Free ρ s.n s'.n →
  (callFunc g ⟨vs'⟩).run P w = .ok (.enter g ⟨vs'⟩) w ∧ CallsD P g ⟨vs'⟩ .returning w fun e u' w' => u' = .returning ∧ (∃ v', e = .returned v') ∧ ∃ ρ', HR w0 B ρ' s'.f w' ∧ Ext ρ ρ' s.n s'.n
def DHookOk (P : Program) (D : Hook) : Prop := ∀ g vs F, D g vs = some F → DefOk P g vs F
theorem tells_args : ∀ (l : List Value) (t t' : TT) (k : Nat) (s s' : Hp), k + l.length ≤ 256 → Tells (argsT t k l) s t' s' → s' = s ∧ ∀ j, j ≤ 255 → tget8 t' j = if k ≤ j ∧ j < k + l.length then (l[j - k]?).getD unV else tget8 t j
  | [], t, t', k, s, s', hk, h => by
    unfold argsT at h
    obtain ⟨rfl, rfl⟩ := tells_pure h
    exact ⟨rfl, fun j hj => by rw [if_neg (by simp)]⟩
  | v :: l, t, t', k, s, s', hk, h => by
    simp only [List.length_cons] at hk
    unfold argsT at h
    obtain ⟨t1, s1, h1, h2, _⟩ := tells_bind (by rw [tset8_eq]; exact good_pure _) h
    rw [tset8_eq] at h1
    obtain ⟨rfl, rfl⟩ := tells_pure h1
    rw [forceN_eq] at h2
    obtain ⟨rfl, h3⟩ := tells_args l _ t' (k + 1) _ s' (by omega) h2
    refine ⟨rfl, fun j hj => ?_⟩
    rw [h3 j hj, tget8_put _ k j _ (by omega) hj]
    simp only [List.length_cons]
    by_cases e : k = j
    · subst e
      rw [if_neg (by omega), if_pos rfl, if_pos (by omega)]
      simp
    · by_cases h4 : k + 1 ≤ j ∧ j < k + 1 + l.length
      · rw [if_pos h4, if_pos (by omega), show j - k = (j - (k + 1)) + 1 by omega]
        simp
      · rw [if_neg h4, if_neg e, if_neg (by omega)]
theorem act_args {ρ : Rn} {vs vs' : List Value} {t : TT} {N : Nat} {s s' : Hp} (hN : N ≤ 256) (hl : vs.length ≤ N) (hvs : LR (VL ρ) vs vs') (ht : Tells (argsT (tmk8 unV) 0 vs) s t s') :
    s' = s ∧ ActR ρ N t [] { tmps := (⟨vs'⟩ : Array Value) ++ Array.replicate (N - (⟨vs'⟩ : Array Value).size) undef, defers := [] } := by
  obtain ⟨h1, h2⟩ := tells_args vs _ t 0 s s' (by omega) ht
  have hlen := hvs.len
  refine ⟨h1, ?_, hN, fun k hk => ?_, rfl⟩
  · simp; omega
  · rw [h2 k hk, tget8_mk]
    simp only [Array.getD_eq_getD_getElem?, Nat.zero_le, true_and, Nat.zero_add, Nat.sub_zero]
    by_cases hlt : k < vs.length
    · rw [if_pos hlt, Array.getElem?_append_left (by simp; omega)]
      obtain ⟨v', e1, hv⟩ := hvs.at (List.getElem?_eq_getElem hlt)
      rw [List.getElem?_eq_getElem hlt]
      have : (⟨vs'⟩ : Array Value)[k]? = some v' := by simpa using e1
      rw [this]; exact hv
    · rw [if_neg hlt, Array.getElem?_append_right (by simp; omega), Array.getElem?_replicate]
      split <;> exact un_rel
theorem enter_run (hN : NoGo P) {f : FuncId} {fn : Func} {c : Code} (hf : P.funcs[f]? = some fn) (hb : fn.body = some c) (args : Array Value) (w : World) : (callFunc f args).run P w = .ok (.enter f args) w := by
  simp [callFunc, hf, hN f fn hf, hb]
theorem body_ok {fn : Func} {args : List Value} {c : Code} {b : Bool} (h : fn.body = some c) (hb : (Nat.ble fn.ntmps 256 && Nat.ble args.length fn.ntmps) = true) : fn.ntmps ≤ 256 ∧ args.length ≤ fn.ntmps := by
  rw [Bool.and_eq_true] at hb
  exact ⟨Nat.le_of_ble_eq_true hb.1, Nat.le_of_ble_eq_true hb.2⟩
theorem tells_run {F : M Value} (hF : Good F) {s s' : Hp} {v : Value} (h : F.run s (fun v s => some (v, s)) = some (v, s')) : Tells F s v s' := by
  obtain ⟨a, s1, r, q, e, f, _⟩ := hF.ok s _ _ h
  have := (e fun v s => some (v, s)).symm.trans h
  cases this
  exact ⟨fun J => e J⟩
/-- A deferred call by its body. -/
theorem callD_ok (hN : NoGo P) {X : Hook} {Ev : EvT} (hv : ∀ c N a, Good (Ev c N a)) (hok : CodeOk P Ev) (g : FuncId) (vs : List Value) : DefOk P g vs (callD P X Ev g vs) := by
  intro s s' v hF w0 B ρ w vs' H hvs hfr
  unfold callD at hF
  split at hF
  · cases hF
  · split at hF
    · cases hF
    · rename_i fn hf
      have hgood : Good (enterD P Ev fn vs) := by
        unfold enterD
        split
        · refine good_bind (good_argsT _ _ _) fun t => good_bind (hv _ _ _) fun x => ?_
          unfold leaveD
          split
          · exact good_bind (good_resK P _ _) fun _ => good_pure _
          · exact good_bind (good_resK P _ _) fun _ => good_pure _
          · exact good_fail
        · exact good_fail
      have ht := tells_run hgood hF
      unfold enterD at ht
      split at ht
      · rename_i c hb hc
        obtain ⟨h1, h2⟩ := body_ok (b := true) hb hc
        obtain ⟨t, s1, k1, k2, _⟩ := tells_bind (good_argsT _ _ _) ht
        obtain ⟨rfl, ha⟩ := act_args h1 h2 hvs k1
        obtain ⟨z, s2, k3, k4, hn2⟩ := tells_bind (hv _ _ _) k2
        obtain ⟨e, t2, ds2⟩ := z
        refine ⟨enter_run hN hf hb _ w, ?_⟩
        have hres : (e = .normal ∨ e = .ret) ∧ ds2 = [] ∧ Tells (mbind (resK P t2 fn.results.toList) fun vs => mpure (tupK vs)) s2 v s' := by
          unfold leaveD at k4
          split at k4
          · rename_i heq; cases heq; exact ⟨.inl rfl, rfl, k4⟩
          · rename_i heq; cases heq; exact ⟨.inr rfl, rfl, k4⟩
          · exact (tells_fail k4).elim
        obtain ⟨he, rfl, k5⟩ := hres
        obtain ⟨us, s3, k6, k7, hn3⟩ := tells_bind (good_resK P _ _) k5
        obtain ⟨rfl, rfl⟩ := tells_pure k7
        refine CallsD.mono (callsD_of_wp hf hb (R := fun e w' => (∃ v', e = .returned v') ∧ ∃ ρ', HR w0 B ρ' s'.f w' ∧ Ext ρ ρ' s1.n s'.n) ?_) fun e u' w' h => ⟨h.1, h.2⟩
        refine hok c fn.ntmps t [] s1 s2 e t2 [] k3 w0 B ρ w _ _ ha H (hfr.left hn3) fun a' w' hA => ?_
        obtain ⟨ρ', H', hE', ha'⟩ := hA
        obtain ⟨f1, f2, v', f3, f4⟩ := results_run ha' k6 H'
        have hdf : a'.defers = [] := ha'.df
        have hgo : a'.defers = [] ∧ ∃ v, (results fn a'.tmps).run P w' = .ok v w' ∧ ((∃ v', Ending.returned v = .returned v') ∧ ∃ ρ', HR w0 B ρ' s'.f w' ∧ Ext ρ ρ' s1.n s'.n) :=
          ⟨hdf, v', f3, ⟨_, rfl⟩, ρ', H'.congr fun id => by rw [f1], by rw [f2]; exact hE'⟩
        rcases he with rfl | rfl
        · exact hgo
        · exact hgo
      · exact (tells_fail ht).elim
theorem leaves_ok {D : Hook} {E : Callee'} (hDg : GoodH D) (hEg : GoodE E) (hD : DHookOk P D) (hE : ∀ g vs, DefOk P g vs (E g vs)) {w0 : World} {B : Nat} {fn : Func} {N : Nat} {t : TT} {a : Act} {R : Ending → World → Prop} {sf : Hp} : ∀ (ds ds' : List Deferred) (s : Hp) (w : World) (ρ : Rn),
    DsR ρ ds ds' → ActR ρ N t [] { tmps := a.tmps, defers := [] } → HR w0 B ρ s.f w → ∀ u, Tells (defsK D E ds) s u sf → Free ρ s.n sf.n → (∀ ρ' w', HR w0 B ρ' sf.f w' → Ext ρ ρ' s.n sf.n → ActR ρ' N t [] { tmps := a.tmps, defers := [] } → ∃ v, (results fn a.tmps).run P w' = .ok v w' ∧ R (.returned v) w') →
    Leaves P fn a.tmps R ds' .returning w
  | [], ds', s, w, ρ, hds, ha, H, u, ht, hfr, hR => by
    have : ds' = [] := hds
    subst this
    unfold defsK at ht
    obtain ⟨_, rfl⟩ := tells_pure ht
    exact hR ρ w H .rfl ha
  | d :: ds, _, s, w, ρ, ⟨d', tl, e, ⟨g, al, bl, al', bl', e1, e2, h1, h2⟩, htl⟩, ha, H, u, ht, hfr, hR => by
    subst e
    subst e1
    subst e2
    unfold defsK at ht
    have hgd : Good (defK D E { target := .fn (.func g) ⟨bl⟩, args := ⟨al⟩ }) := by
      unfold defK
      simp only []
      rw [forceL_eq]
      split
      · rename_i F hF
        exact hDg _ _ _ hF
      · exact hEg _ _
    obtain ⟨v, s1, k1, k2, hn1⟩ := tells_bind hgd ht
    have hn2 := k2.le (good_defsK hDg hEg ds)
    unfold defK at k1
    simp only [] at k1
    rw [forceL_eq] at k1
    have key : ∃ F, DefOk P g (al ++ bl) F ∧ F s = some (v, s1) := by
      split at k1
      · rename_i F hF
        exact ⟨F, hD _ _ _ hF, tells_call k1⟩
      · exact ⟨_, hE g _, tells_call k1⟩
    obtain ⟨F, hF1, hF2⟩ := key
    obtain ⟨hent, hcall⟩ := hF1 s s1 v hF2 w0 B ρ w (al' ++ bl') H (h1.app h2) (hfr.left hn2)
    have harr : (⟨al'⟩ : Array Value) ++ ⟨bl'⟩ = ⟨al' ++ bl'⟩ := by apply Array.ext'; simp
    refine leaves_cons (by simp) (f := g) (args := ⟨al' ++ bl'⟩) (by show (callFunc g ((⟨al'⟩ : Array Value) ++ ⟨bl'⟩)).run P w = _; rw [harr]; exact hent) (CallsD.mono hcall ?_)
    rintro e u' w' ⟨rfl, ⟨v', rfl⟩, ρ', H', hE'⟩
    refine leaves_ok hDg hEg hD hE ds tl s1 w' ρ' (htl.grow hE'.le) (ha.grow hE'.le) H' u k2 (hfr.right hn1 hE') fun ρ2 w2 H2 hE2 ha2 => hR ρ2 w2 H2 (hE'.trans hE2 hn1 hn2) ha2
theorem call_ok (hN : NoGo P) {X D : Hook} {Ev : EvT} {E : Callee'} (hXg : GoodH X) (hDg : GoodH D) (hX : HookOk P X) (hD : DHookOk P D) (hv : ∀ c N a, Good (Ev c N a)) (hok : CodeOk P Ev) (hEg : GoodE E) (hE : ∀ g vs, DefOk P g vs (E g vs)) :
    CallOk P (callK P X D Ev E) := by
  intro f vs s s' v hF w0 B ρ w vs' H hvs hfr
  unfold callK at hF
  split at hF
  · rename_i F hx
    exact hX f vs F hx s s' v hF w0 B ρ w vs' H hvs hfr
  · split at hF
    · cases hF
    · rename_i fn hf
      have hgl : ∀ x, Good (leaveK P D E fn x) := by
        intro x
        unfold leaveK
        split
        · exact good_bind (good_defsK hDg hEg _) fun _ => good_bind (good_resK P _ _) fun _ => good_pure _
        · exact good_bind (good_defsK hDg hEg _) fun _ => good_bind (good_resK P _ _) fun _ => good_pure _
        · exact good_fail
      have hgood : Good (enterK P D Ev E fn vs) := by
        unfold enterK
        split
        · exact good_bind (good_argsT _ _ _) fun t => good_bind (hv _ _ _) fun x => hgl x
        · exact good_fail
      have ht := tells_run hgood hF
      unfold enterK at ht
      split at ht
      · rename_i c hb hc
        obtain ⟨h1, h2⟩ := body_ok (b := true) hb hc
        obtain ⟨t, s1, k1, k2, _⟩ := tells_bind (good_argsT _ _ _) ht
        obtain ⟨rfl, ha⟩ := act_args h1 h2 hvs k1
        obtain ⟨z, s2, k3, k4, hn2⟩ := tells_bind (hv _ _ _) k2
        obtain ⟨e, t2, ds2⟩ := z
        have hn4 := k4.le (hgl _)
        rw [enter_run hN hf hb]
        have hres : (e = .normal ∨ e = .ret) ∧ Tells (mbind (defsK D E ds2) fun _ => mbind (resK P t2 fn.results.toList) fun vs => mpure (tupK vs)) s2 v s' := by
          unfold leaveK at k4
          split at k4
          · rename_i heq; cases heq; exact ⟨.inl rfl, k4⟩
          · rename_i heq; cases heq; exact ⟨.inr rfl, k4⟩
          · exact (tells_fail k4).elim
        obtain ⟨he, k5⟩ := hres
        obtain ⟨u, s3, k6, k7, hn3⟩ := tells_bind (good_defsK hDg hEg _) k5
        obtain ⟨us, s4, k8, k9, hn5⟩ := tells_bind (good_resK P _ _) k7
        obtain ⟨rfl, rfl⟩ := tells_pure k9
        show Calls P f ⟨vs'⟩ w _
        refine calls_of_wp_defers hf hb ?_
        refine hok c fn.ntmps t [] s1 s2 e t2 ds2 k3 w0 B ρ w _ _ ha H (hfr.left hn4) fun a' w' hA => ?_
        obtain ⟨ρ', H', hE', ha'⟩ := hA
        have hlv : Leaves P fn a'.tmps (fun e w' => ∃ v', e = .returned v' ∧ Post w0 B ρ s1 s' (tupK us) v' w') a'.defers .returning w' := by
          refine leaves_ok hDg hEg hD hE ds2 a'.defers s2 w' ρ' ha'.df ⟨ha'.size, ha'.le, ha'.tm, rfl⟩ H' u k6 ((hfr.right hn2 hE').left hn5) fun ρ2 w2 H2 hE2 ha2 => ?_
          obtain ⟨f1, f2, v', f3, f4⟩ := results_run ha2 k8 H2
          exact ⟨v', f3, v', rfl, ρ2, H2.congr fun id => by rw [f1], by rw [f2]; exact hE'.trans hE2 hn2 hn3, f4⟩
        rcases he with rfl | rfl
        · exact hlv
        · exact hlv
      · exact (tells_fail ht).elim
/-! All depths. -/
theorem ev_ok (hm : P.follows .mixedOrders = true) (hN : NoGo P) {X D : Hook} (hXg : GoodH X) (hDg : GoodH D) (hX : HookOk P X) (hD : DHookOk P D) : ∀ n, CodeOk P (ev P X D n) := by
  intro n
  induction n using Nat.strongRecOn with
  | _ n ih =>
    cases n with
    | zero => intro c N t ds s s' e t' ds' ht; exact (tells_fail ht).elim
    | succ n =>
      have hv := good_ev P hXg hDg n
      have hn := ih n (by omega)
      have hDef : ∀ g vs, DefOk P g vs (callD P X (ev P X D n) g vs) := callD_ok hN hv hn
      have hcall := call_ok hN hXg hDg hX hD hv hn (good_callD P hv) hDef
      refine code_step hm hv (good_callK P hXg hDg hv (good_callD P hv)) hcall hn ?_
      -- loops: round by round
      have rounds : ∀ (k : Nat), k ≤ n → ∀ c (N : Nat) (t : TT) (ds : List Deferred) (s s' : Hp) (e : Exit) (t' : TT) (ds' : List Deferred), Tells (mbind (ev P X D k c N (t, ds)) (cdSeq (ev P X D k) (.loop c) N)) s (e, t', ds') s' →
          ∀ (w0 : World) (B : Nat) (ρ : Rn) (w : World) (a : Act) (Q : Exit → Act → World → Prop), ActR ρ N t ds a → HR w0 B ρ s.f w → Free ρ s.n s'.n → (∀ a' w', After w0 B ρ s s' N t' ds' a' w' → Q e a' w') → Code.rounds P c Q (k + 1) a w := by
        intro k
        induction k with
        | zero =>
          intro hk c N t ds s s' e t' ds' ht
          obtain ⟨x, s1, k1, _⟩ := tells_bind (good_ev P hXg hDg 0 c N (t, ds)) ht
          exact (tells_fail k1).elim
        | succ k ihk =>
          intro hk c N t ds s s' e t' ds' ht w0 B ρ w a Q ha H hfr hQ
          obtain ⟨x, s1, k1, k2, hn1⟩ := tells_bind (good_ev P hXg hDg (k + 1) c N (t, ds)) ht
          obtain ⟨e1, t1, ds1⟩ := x
          have hgs : Good (cdSeq (ev P X D (k + 1)) (.loop c) N (e1, t1, ds1)) := by
            unfold cdSeq
            split
            · exact good_ev P hXg hDg _ _ _ _
            · exact good_pure _
          have hn2 := k2.le hgs
          rw [rounds_succ]
          refine ih (k + 1) (by omega) c N t ds s s1 e1 t1 ds1 k1 w0 B ρ w a _ ha H (hfr.left hn2) fun a1 w1 hA => ?_
          obtain ⟨ρ1, H1, hE1, ha1⟩ := id hA
          cases e1 with
          | normal =>
            have k3 : Tells (mbind (ev P X D k c N (t1, ds1)) (cdSeq (ev P X D k) (.loop c) N)) s1 (e, t', ds') s' := k2
            exact ihk (by omega) c N t1 ds1 s1 s' e t' ds' k3 w0 B ρ1 w1 a1 Q ha1 H1 (hfr.right hn1 hE1) fun a2 w2 hA2 => hQ _ _ (after_trans hE1 hn1 hn2 hA2)
          | _ =>
            obtain ⟨h1, rfl⟩ := tells_pure k2
            cases h1
            exact hQ _ _ hA
      intro c N t ds s s' e t' ds' ht w0 B ρ w a Q ha H hfr hQ
      exact wp_loop_rounds (n + 1) (rounds n (Nat.le_refl _) c N t ds s s' e t' ds' ht w0 B ρ w a Q ha H hfr hQ)
/-- THE RECKONER IS SOUND: what it tells of a call, the call comes to. -/
theorem reckon (hm : P.follows .mixedOrders = true) (hN : NoGo P) {X D : Hook} (hXg : GoodH X) (hDg : GoodH D) (hX : HookOk P X) (hD : DHookOk P D) (n : Nat) : CallOk P (call P X D n) :=
  have hv := good_ev P hXg hDg n
  have hn := ev_ok hm hN hXg hDg hX hD n
  call_ok hN hXg hDg hX hD hv hn (good_callD P hv) (callD_ok hN hv hn)
end Go.Proofs.YtpijenlmfmknnaaGreatDoor

/- The reckoner's hooks for functions without a body: sync/atomic, internal/race. -/
namespace Go.Proofs.YtpijenlmfmknnaaGreatDoor
open Go.RowKit
set_option linter.unusedVariables false
set_option maxRecDepth 100000
set_option maxHeartbeats 4000000

/-- A piece as a call. -/
def asCall (F : M Value) (s : Hp) : Option (Value × Hp) := F.run s fun v s => some (v, s)
theorem good_asCall {F : M Value} (h : Good F) : Good (mcall (asCall F)) := good_direct h
theorem tells_asCall {F : M Value} (h : Good F) {s s' : Hp} {v : Value} (e : asCall F s = some (v, s')) : Tells F s v s' := tells_run h e
/-- Where two hooks stand: the first that knows. -/
def orHook (A B : Hook) : Hook := fun f vs => match A f vs with
  | some F => some F
  | none => B f vs
theorem or_good {A B : Hook} (hA : GoodH A) (hB : GoodH B) : GoodH (orHook A B) := by
  intro f vs F h
  unfold orHook at h
  split at h
  · rename_i hx; cases h; exact hA _ _ _ hx
  · exact hB _ _ _ h
theorem or_ok {P : Program} {A B : Hook} (hA : HookOk P A) (hB : HookOk P B) : HookOk P (orHook A B) := by
  intro f vs F h
  unfold orHook at h
  split at h
  · rename_i hx; cases h; exact hA _ _ _ hx
  · exact hB _ _ _ h

section
variable {P : Program} {w0 w : World} {B : Nat} {ρ : Rn} {s s' : Hp}
/-- A cell that was looked at. -/
theorem cell_seen {a : Addr} {v p' : Value} (H : HR w0 B ρ s.f w) (ht : Tells (mload a 1) s [v] s') (ha : VL ρ (.pointer (some a)) p') : ∃ a' v', p' = .pointer (some a') ∧ w.cell? a' = some v' ∧ VL ρ v v' ∧ (16 ≤ a.block → w.frozen? a' = false) := by
  obtain ⟨b, off, l, t, fl, rfl, e1, e2, e3, e4, e5⟩ := tells_load ht
  obtain ⟨_, p, hp, ep⟩ := VL.ptr.1 ha
  subst ep
  obtain ⟨q, hq, q2, q3, q4, c2, el2, fz2, q5, q6, q7, q8⟩ := H.obj b _ e1
  rw [show (ρ b = some p) from hp] at hq
  cases hq
  have hv : l[off]? = some v := by
    have : ((l.drop off).take 1)[0]? = some v := by rw [← e3]; rfl
    rw [List.getElem?_take, if_pos (by omega), List.getElem?_drop] at this
    simpa using this
  obtain ⟨v', h1, h2⟩ := q8 off v (by simpa using hv)
  refine ⟨_, v', rfl, by rw [cell_at q5]; exact h1, h2, ?_⟩
  have hlt : p.off + off < c2.size := by
    rcases Nat.lt_or_ge (p.off + off) c2.size with h | h
    · exact h
    · rw [Array.getElem?_eq_none h] at h1; cases h1
  intro h16
  have := (q7 h16).no _ hlt
  simp only [World.frozen?, q5]
  simpa using this
theorem store_16 {a : Addr} {vs : List Value} {u : Unit} (h : Tells (mstore a vs) s u s') : 16 ≤ a.block := by
  obtain ⟨b, off, l, t, fl, rfl, h16, _⟩ := tells_store h
  exact h16
theorem cell_set (P : Program) {a a' : Addr} {v v' u : Value} {x : Unit} (H : HR w0 B ρ s.f w) (ht : Tells (mstore a [v]) s x s') (ha : VL ρ (.pointer (some a)) (.pointer (some a'))) (hv : VL ρ v v') (h1 : v'.oneCell' = true) (hc : w.cell? a' = some u) (hz : w.frozen? a' = false) (hfr : Free ρ s.n s'.n) :
    ∃ ρ', HR w0 B ρ' s'.f (w.setCell a' v') ∧ Ext ρ ρ' s.n s'.n := by
  obtain ⟨r, w', ρ', hr, H', hE, _⟩ := sim_store (P := P) (vs := [v]) (vs' := [v']) ha ⟨v', [], rfl, hv, rfl⟩ w0 B s s' x ρ w .rfl ht H hfr
  have hadd : a'.add 0 = a' := by simp [Addr.add]
  have : (storeCells a' [v']).run P w = .ok () (w.setCell a' v') := by
    simp only [storeCells, Sem.run_bind, hadd, run_store P w a' v' _ h1, hc, hz, Bool.false_eq_true, if_false, Result.andThen, Sem.run_pure]
  rw [this] at hr
  cases hr
  exact ⟨ρ', H', hE⟩
end
def ldU (vs : List Value) : M Value := match vs with
  | [.int .u32 x] => mpure (.int .u32 x)
  | _ => mfail
def casK (a : Addr) (o n : Int) (vs : List Value) : M Value := match vs with
  | [.int .i32 x] => match eqI x o with
    | true => mbind (mstore a [.int .i32 n]) fun _ => mpure (.bool true)
    | false => mfail
  | _ => mfail
def addK (a : Addr) (d : Int) (vs : List Value) : M Value := match vs with
  | [.int .i32 x] => forceI (IntKind.wrap .i32 (x + d)) fun y => mbind (mstore a [.int .i32 y]) fun _ => mpure (.int .i32 y)
  | _ => mfail
def stK (a : Addr) (k : IntKind) (y : Int) (vs : List Value) : M Value := match vs with
  | [_] => mbind (mstore a [.int k y]) fun _ => mpure unV
  | _ => mfail
theorem good_ldU (vs : List Value) : Good (ldU vs) := by
  unfold ldU
  split
  · exact good_pure _
  · exact good_fail
theorem good_casK (a : Addr) (o n : Int) (vs : List Value) : Good (casK a o n vs) := by
  unfold casK
  split
  · split
    · exact good_bind (good_mstore _ _) fun _ => good_pure _
    · exact good_fail
  · exact good_fail
theorem good_addK (a : Addr) (d : Int) (vs : List Value) : Good (addK a d vs) := by
  unfold addK
  split
  · rw [forceI_eq]; exact good_bind (good_mstore _ _) fun _ => good_pure _
  · exact good_fail
theorem good_stK (a : Addr) (k : IntKind) (y : Int) (vs : List Value) : Good (stK a k y vs) := by
  unfold stK
  split
  · exact good_bind (good_mstore _ _) fun _ => good_pure _
  · exact good_fail
def hookE : Hook := fun f args => match f, args with
  | 207, [.pointer (some a)] => some (asCall (mbind (mload a 1) ldU))
  | 238, [.pointer (some a), .int k y] => some (asCall (mbind (mload a 1) (stK a k y)))
  | 212, [.pointer (some a), .int k y] => some (asCall (mbind (mload a 1) (stK a k y)))
  | 259, [.pointer (some a), .int .i32 o, .int .i32 n] => some (asCall (mbind (mload a 1) (casK a o n)))
  | 264, [.pointer (some a), .int .i32 d] => some (asCall (mbind (mload a 1) (addK a d)))
  | 258, [] => some fun s => some (unV, s)
  | 260, [] => some fun s => some (unV, s)
  | 261, [.pointer (some _)] => some fun s => some (unV, s)
  | 263, [.pointer (some _)] => some fun s => some (unV, s)
  | _, _ => none
theorem hookE_good : GoodH hookE := by
  intro f vs F h
  unfold hookE at h
  split at h
  · cases h; exact good_asCall (good_bind (good_mload _ _) good_ldU)
  · cases h; exact good_asCall (good_bind (good_mload _ _) (good_stK _ _ _))
  · cases h; exact good_asCall (good_bind (good_mload _ _) (good_stK _ _ _))
  · cases h; exact good_asCall (good_bind (good_mload _ _) (good_casK _ _ _))
  · cases h; exact good_asCall (good_bind (good_mload _ _) (good_addK _ _))
  · cases h; exact good_same
  · cases h; exact good_same
  · cases h; exact good_same
  · cases h; exact good_same
  · cases h
theorem st_ok {P : Program} {f : FuncId} {w0 w : World} {B : Nat} {ρ : Rn} {s s' : Hp} {v : Value} {a : Addr} {k : IntKind} {y : Int} {vs' : List Value} (e : asCall (mbind (mload a 1) (stK a k y)) s = some (v, s')) (H : HR w0 B ρ s.f w) (hvs : LR (VL ρ) [.pointer (some a), .int k y] vs') (hfr : Free ρ s.n s'.n)
    (hrun : ∀ (a' : Addr) (u : Value), w.cell? a' = some u → w.frozen? a' = false → (callFunc f #[.pointer (some a'), .int k y]).run P w = .ok (.value (.tuple #[])) (w.setCell a' (.int k y))) : Went P ((callFunc f ⟨vs'⟩).run P w) (Post w0 B ρ s s' v) := by
  obtain ⟨p', t1, rfl, hp, y', t2, rfl, hy, e2⟩ := hvs
  have e2 : t2 = [] := e2
  subst e2
  rw [VL.int.1 hy]
  have ht := tells_asCall (good_bind (good_mload _ _) (good_stK _ _ _)) e
  obtain ⟨vs, s1, k1, k2, hn1⟩ := tells_bind (good_mload _ _) ht
  unfold stK at k2
  split at k2
  · rename_i x
    obtain ⟨a', v', rfl, hc, _, hz⟩ := cell_seen H k1 hp
    obtain ⟨u, s2, k3, k4, _⟩ := tells_bind (good_mstore _ _) k2
    obtain ⟨rfl, rfl⟩ := tells_pure k4
    obtain ⟨b, off, l, t, fl, _, _, _, _, g1, g2⟩ := tells_load k1
    have hz := hz (store_16 k3)
    obtain ⟨ρ', H', hE⟩ := cell_set P (s := s1) (H.congr fun id => by rw [g1]) k3 hp (VL.int.2 rfl) rfl hc hz (by rw [g2]; exact hfr)
    rw [show (⟨[.pointer (some a'), .int k y]⟩ : Array Value) = #[.pointer (some a'), .int k y] from rfl, hrun a' v' hc hz]
    exact ⟨ρ', H', by rw [← g2]; exact hE, VL.tuple.2 ⟨[], rfl, rfl⟩⟩
  · exact (tells_fail k2).elim
theorem mark_ok {P : Program} {f : FuncId} {w0 w : World} {B : Nat} {ρ : Rn} {s s' : Hp} {v : Value} {vs' : List Value} (e : some (unV, s) = some (v, s')) (H : HR w0 B ρ s.f w) (hrun : (callFunc f ⟨vs'⟩).run P w = .ok (.value (.tuple #[])) w) : Went P ((callFunc f ⟨vs'⟩).run P w) (Post w0 B ρ s s' v) := by
  cases e
  rw [hrun]
  exact ⟨ρ, H, .rfl, VL.tuple.2 ⟨[], rfl, rfl⟩⟩
theorem hookE_ok : HookOk Tryz.prog hookE := by
  intro f vs F h s s' v e w0 B ρ w vs' H hvs hfr
  unfold hookE at h
  split at h
  · rename_i a
    cases h
    obtain ⟨p', t1, rfl, hp, e2⟩ := hvs
    have e2 : t1 = [] := e2
    subst e2
    have ht := tells_asCall (good_bind (good_mload _ _) good_ldU) e
    obtain ⟨us, s1, k1, k2, hn1⟩ := tells_bind (good_mload _ _) ht
    unfold ldU at k2
    split at k2
    · rename_i x
      obtain ⟨rfl, rfl⟩ := tells_pure k2
      obtain ⟨a', v', rfl, hc, hv, hz⟩ := cell_seen H k1 hp
      have := VL.int.1 hv
      subst this
      obtain ⟨b, off, l, t, fl, _, _, _, _, g1, g2⟩ := tells_load k1
      have hlo := run_call_load (P := Tryz.prog) Tryz.func207 (by kernel_rfl) (by kernel_rfl) (by kernel_rfl) .u32 (by kernel_rfl) hc
      rw [show (⟨[.pointer (some a')]⟩ : Array Value) = #[.pointer (some a')] from rfl, hlo]
      exact ⟨ρ, H.congr fun id => by rw [g1], by rw [← g2]; exact .rfl, VL.int.2 rfl⟩
    · exact (tells_fail k2).elim
  · cases h
    exact st_ok e H hvs hfr fun a' u hc hz => run_call_store (P := Tryz.prog) Tryz.func238 (by kernel_rfl) (by kernel_rfl) (by kernel_rfl) (by kernel_rfl) hc hz
  · cases h
    exact st_ok e H hvs hfr fun a' u hc hz => run_call_store (P := Tryz.prog) Tryz.func212 (by kernel_rfl) (by kernel_rfl) (by kernel_rfl) (by kernel_rfl) hc hz
  · rename_i a o n
    cases h
    obtain ⟨p', t1, rfl, hp, o', t2, rfl, ho, n', t3, rfl, hn, e2⟩ := hvs
    have e2 : t3 = [] := e2
    subst e2
    have eo := VL.int.1 ho
    have en := VL.int.1 hn
    subst eo en
    have ht := tells_asCall (good_bind (good_mload _ _) (good_casK _ _ _)) e
    obtain ⟨us, s1, k1, k2, hn1⟩ := tells_bind (good_mload _ _) ht
    unfold casK at k2
    split at k2
    · rename_i x
      split at k2
      · rename_i hxo
        have hxo : x = o := by rw [eqI_eq] at hxo; simpa using hxo
        subst hxo
        obtain ⟨a', v', rfl, hc, hv, hz⟩ := cell_seen H k1 hp
        have := VL.int.1 hv
        subst this
        obtain ⟨u, s2, k3, k4, _⟩ := tells_bind (good_mstore _ _) k2
        obtain ⟨rfl, rfl⟩ := tells_pure k4
        obtain ⟨b, off, l, t, fl, _, _, _, _, g1, g2⟩ := tells_load k1
        have hz := hz (store_16 k3)
        obtain ⟨ρ', H', hE⟩ := cell_set Tryz.prog (s := s1) (H.congr fun id => by rw [g1]) k3 hp (VL.int.2 rfl) rfl hc hz (by rw [g2]; exact hfr)
        have hcas := run_call_cas_hit (P := Tryz.prog) Tryz.func259 (by kernel_rfl) (by kernel_rfl) (by kernel_rfl) .i32 (by kernel_rfl) (y := n) hc hz
        rw [show (⟨[.pointer (some a'), .int .i32 x, .int .i32 n]⟩ : Array Value) = #[.pointer (some a'), .int .i32 x, .int .i32 n] from rfl, hcas]
        exact ⟨ρ', H', by rw [← g2]; exact hE, VL.bool.2 rfl⟩
      · exact (tells_fail k2).elim
    · exact (tells_fail k2).elim
  · rename_i a d
    cases h
    obtain ⟨p', t1, rfl, hp, d', t2, rfl, hd, e2⟩ := hvs
    have e2 : t2 = [] := e2
    subst e2
    have ed := VL.int.1 hd
    subst ed
    have ht := tells_asCall (good_bind (good_mload _ _) (good_addK _ _)) e
    obtain ⟨us, s1, k1, k2, hn1⟩ := tells_bind (good_mload _ _) ht
    unfold addK at k2
    split at k2
    · rename_i x
      rw [forceI_eq] at k2
      obtain ⟨a', v', rfl, hc, hv, hz⟩ := cell_seen H k1 hp
      have := VL.int.1 hv
      subst this
      obtain ⟨u, s2, k3, k4, _⟩ := tells_bind (good_mstore _ _) k2
      obtain ⟨rfl, rfl⟩ := tells_pure k4
      obtain ⟨b, off, l, t, fl, _, _, _, _, g1, g2⟩ := tells_load k1
      have hz := hz (store_16 k3)
      obtain ⟨ρ', H', hE⟩ := cell_set Tryz.prog (s := s1) (H.congr fun id => by rw [g1]) k3 hp (VL.int.2 rfl) rfl hc hz (by rw [g2]; exact hfr)
      have hadd := run_call_add (P := Tryz.prog) Tryz.func264 (by kernel_rfl) (by kernel_rfl) (by kernel_rfl) .i32 (by kernel_rfl) (y := d) (s := IntKind.wrap .i32 (x + d)) hc hz rfl
      rw [show (⟨[.pointer (some a'), .int .i32 d]⟩ : Array Value) = #[.pointer (some a'), .int .i32 d] from rfl, hadd]
      exact ⟨ρ', H', by rw [← g2]; exact hE, VL.int.2 rfl⟩
    · exact (tells_fail k2).elim
  · cases h
    have : vs' = [] := hvs
    subst this
    exact mark_ok e H (run_call_mark0 Tryz.func258 (by kernel_rfl) (by kernel_rfl) (by kernel_rfl) .disable (by kernel_rfl) w)
  · cases h
    have : vs' = [] := hvs
    subst this
    exact mark_ok e H (run_call_mark0 Tryz.func260 (by kernel_rfl) (by kernel_rfl) (by kernel_rfl) .enable (by kernel_rfl) w)
  · cases h
    obtain ⟨p', t1, rfl, hp, e2⟩ := hvs
    have e2 : t1 = [] := e2
    subst e2
    obtain ⟨_, p, _, ep⟩ := VL.ptr.1 hp
    subst ep
    exact mark_ok e H (run_call_marked Tryz.func261 (by kernel_rfl) (by kernel_rfl) (by kernel_rfl) .acquire (by kernel_rfl) _ w)
  · cases h
    obtain ⟨p', t1, rfl, hp, e2⟩ := hvs
    have e2 : t1 = [] := e2
    subst e2
    obtain ⟨_, p, _, ep⟩ := VL.ptr.1 hp
    subst ep
    exact mark_ok e H (run_call_marked Tryz.func263 (by kernel_rfl) (by kernel_rfl) (by kernel_rfl) .releaseMerge (by kernel_rfl) _ w)
  · cases h
end Go.Proofs.YtpijenlmfmknnaaGreatDoor

/- Trees as data by their depth, and what it is for one to be readable in memory. -/
namespace Go.Proofs.YtpijenlmfmknnaaGreatDoor
open Go.RowKit
set_option linter.unusedVariables false

/-- A node whose kids are of whatever kind. -/
structure Nd (α : Type) where
  kind : Int
  name : List Int
  text : List Int
  attrs : List (List Int × List Int)
  kids : List α

/-- Trees of depth below n. -/
def Tr : Nat → Type
  | 0 => Empty
  | n + 1 => Nd (Tr n)

/-- Elements of 'size' cells each lie behind the value v, one a member of l; element i has the cells C, of which R holds. -/
def Elems {α : Type} (w : World) (size : Nat) (v : Value) (l : List α) (R : List Value → α → Prop) : Prop :=
  l.length ≤ maxLen ∧
  ((v = .slice none 0 0 ∧ l = []) ∨
   (∃ x cap, v = .slice (some x) 0 cap ∧ cap ≤ maxLen ∧ l = []) ∨
   (∃ b off cap, v = .slice (some ⟨b, off, none⟩) l.length cap ∧ l.length ≤ cap ∧ cap ≤ maxLen ∧ l ≠ [] ∧ b < w.heap.size ∧
      ∀ i (hi : i < l.length), ∃ C : List Value, C.length = size ∧ (∀ j, j < size → w.cell? ⟨b, off + i * size + j, none⟩ = C[j]?) ∧ R C l[i]))

theorem Elems.shape {α : Type} {w : World} {size : Nat} {v : Value} {l : List α} {R : List Value → α → Prop} (h : Elems w size v l R) : ∃ a cap, v = .slice a l.length cap ∧ l.length ≤ cap ∧ cap ≤ maxLen := by
  obtain ⟨hm, ⟨rfl, rfl⟩ | ⟨x, cap, rfl, hc, rfl⟩ | ⟨b, off, cap, rfl, h1, h2, _⟩⟩ := h
  · exact ⟨none, 0, rfl, Nat.le_refl _, hm⟩
  · exact ⟨some x, cap, rfl, Nat.zero_le _, hc⟩
  · exact ⟨_, cap, rfl, h1, h2⟩

theorem Elems.keep {α : Type} {w w' : World} {size : Nat} {v : Value} {l : List α} {R R' : List Value → α → Prop} (h : Elems w size v l R) (hb : Below w.heap.size w w') (hR : ∀ C x, x ∈ l → R C x → R' C x) : Elems w' size v l R' := by
  obtain ⟨hm, h1 | h2 | ⟨b, off, cap, rfl, h1, h2, h3, h4, h5⟩⟩ := h
  · exact ⟨hm, .inl h1⟩
  · exact ⟨hm, .inr (.inl h2)⟩
  · refine ⟨hm, .inr (.inr ⟨b, off, cap, rfl, h1, h2, h3, Nat.lt_of_lt_of_le h4 hb.size, fun i hi => ?_⟩)⟩
    obtain ⟨C, hC, hc, hr⟩ := h5 i hi
    exact ⟨C, hC, fun j hj => (hb.cell (p := ⟨b, off + i * size + j, none⟩) h4).trans (hc j hj), hR C _ (List.getElem_mem hi) hr⟩

/-- An element of two cells, cell by cell. -/
theorem two_of {α : Type} {w : World} {b off k : Nat} {x : α} {R : List Value → α → Prop} (h : ∃ C : List Value, C.length = 2 ∧ (∀ j, j < 2 → w.cell? ⟨b, off + k * 2 + j, none⟩ = C[j]?) ∧ R C x) :
    ∃ c0 c1, w.cell? ⟨b, off + k * 2, none⟩ = some c0 ∧ w.cell? ⟨b, off + k * 2 + 1, none⟩ = some c1 ∧ R [c0, c1] x := by
  obtain ⟨C, hC, hcell, hr⟩ := h
  match C, hC with
  | [c0, c1], _ => exact ⟨c0, c1, hcell 0 (by omega), hcell 1 (by omega), hr⟩

/-- The two cells of an attribute. -/
def RdAttr (w : World) (C : List Value) (x : List Int × List Int) : Prop := ∃ a b, C = [a, b] ∧ Byt w a x.1 ∧ Byt w b x.2
def RdAttrs (w : World) (v : Value) (l : List (List Int × List Int)) : Prop := Elems w 2 v l (RdAttr w)

/-- The five cells of a node. -/
def RdNode : (n : Nat) → World → List Value → Tr n → Prop
  | 0 => fun _ _ _ => False
  | n + 1 => fun w C t => ∃ a b c d, C = [.int .i64 t.kind, a, b, c, d] ∧ -9223372036854775808 ≤ t.kind ∧ t.kind ≤ 9223372036854775807 ∧ Byt w a t.name ∧ Byt w b t.text ∧ RdAttrs w c t.attrs ∧ Elems w 5 d t.kids (RdNode n w)
def RdKids (n : Nat) (w : World) (v : Value) (l : List (Tr n)) : Prop := Elems w 5 v l (RdNode n w)

theorem RdAttrs.keep {w w' : World} {v : Value} {l : List (List Int × List Int)} (h : RdAttrs w v l) (hb : Below w.heap.size w w') : RdAttrs w' v l :=
  Elems.keep h hb (fun C x _ ⟨a, b, e, h1, h2⟩ => ⟨a, b, e, h1.keep hb, h2.keep hb⟩)
theorem RdNode.keep {n : Nat} {w w' : World} {C : List Value} {t : Tr n} (h : RdNode n w C t) (hb : Below w.heap.size w w') : RdNode n w' C t := by
  induction n generalizing C with
  | zero => exact h
  | succ n ih =>
    obtain ⟨a, b, c, d, e, k1, k2, h1, h2, h3, h4⟩ := h
    exact ⟨a, b, c, d, e, k1, k2, h1.keep hb, h2.keep hb, h3.keep hb, Elems.keep h4 hb (fun C x _ hr => ih hr)⟩
theorem RdKids.keep {n : Nat} {w w' : World} {v : Value} {l : List (Tr n)} (h : RdKids n w v l) (hb : Below w.heap.size w w') : RdKids n w' v l :=
  Elems.keep h hb (fun C x _ hr => RdNode.keep hr hb)

/-- How great: bytes, attributes and nodes. -/
def szA (l : List (List Int × List Int)) : Nat := l.length + (l.map fun x => x.1.length + x.2.length).sum
def szT : (n : Nat) → Tr n → Nat
  | 0 => fun _ => 0
  | n + 1 => fun t => t.name.length + t.text.length + szA t.attrs + (t.kids.length + (t.kids.map (szT n)).sum)
/-- What is left of 'left' when m is taken, or -1. -/
def rest (m : Nat) (left : Int) : Int := if (m : Int) ≤ left then left - (m : Int) else -1
end Go.Proofs.YtpijenlmfmknnaaGreatDoor

/- Trees that a call has made: which blocks are theirs, and what becomes of them while others are written. -/
namespace Go.Proofs.YtpijenlmfmknnaaGreatDoor
open Go.RowKit
set_option linter.unusedVariables false

/-- Elements of 'size' cells each in a row of the call's own; each element owns what R says. -/
def OwElems {α : Type} (w : World) (e : TypeId) (size : Nat) (v : Value) (l : List α) (R : List Value → α → List Nat → Prop) (F : List Nat) : Prop :=
  ∃ (Cs : List (List Value)) (Fs : List (List Nat)), Cs.length = l.length ∧ Fs.length = l.length ∧ (∀ i (hi : i < l.length), (Cs.getD i []).length = size ∧ R (Cs.getD i []) l[i] (Fs.getD i [])) ∧
    w.ownsRow 0 e size v l.length Cs.flatten ∧ F = FB v ++ Fs.flatten

def OwAttr (w : World) (C : List Value) (x : List Int × List Int) (F : List Nat) : Prop := ∃ a b, C = [a, b] ∧ Own w 0 a x.1 ∧ Own w 0 b x.2 ∧ F = FB a ++ FB b
def OwAttrs (w : World) (v : Value) (l : List (List Int × List Int)) (F : List Nat) : Prop := OwElems w 209 2 v l (OwAttr w) F
def OwNode : (n : Nat) → World → List Value → Tr n → List Nat → Prop
  | 0 => fun _ _ _ _ => False
  | n + 1 => fun w C t F => ∃ a b c d Fc Fd, C = [.int .i64 t.kind, a, b, c, d] ∧ -9223372036854775808 ≤ t.kind ∧ t.kind ≤ 9223372036854775807 ∧ Own w 0 a t.name ∧ Own w 0 b t.text ∧
      OwAttrs w c t.attrs Fc ∧ OwElems w 55 5 d t.kids (OwNode n w) Fd ∧ F = FB a ++ FB b ++ Fc ++ Fd
def OwKids (n : Nat) (w : World) (v : Value) (l : List (Tr n)) (F : List Nat) : Prop := OwElems w 55 5 v l (OwNode n w) F

theorem mem_flat {Fs : List (List Nat)} {i g : Nat} (h : g ∈ Fs.getD i []) : g ∈ Fs.flatten := by
  by_cases hi : i < Fs.length
  · rw [List.getD_eq_getElem?_getD, List.getElem?_eq_getElem hi] at h
    exact List.mem_flatten.2 ⟨_, List.getElem_mem hi, h⟩
  · rw [List.getD_eq_getElem?_getD, List.getElem?_eq_none (by omega)] at h; simp at h

theorem OwElems.frm {α : Type} {w w' : World} {e : TypeId} {size : Nat} {v : Value} {l : List α} {R R' : List Value → α → List Nat → Prop} {F S : List Nat} (h : OwElems w e size v l R F) (f : Frm w w' S) (hd : ∀ g ∈ F, g ∉ S)
    (hR : ∀ C x G, R C x G → (∀ g ∈ G, g ∉ S) → R' C x G) : OwElems w' e size v l R' F := by
  obtain ⟨Cs, Fs, h1, h2, h3, h4, rfl⟩ := h
  refine ⟨Cs, Fs, h1, h2, fun i hi => ⟨(h3 i hi).1, hR _ _ _ (h3 i hi).2 (fun g hg => hd g (List.mem_append_right _ (mem_flat hg)))⟩, ownsRow_frm h4 f (fun g hg => hd g (List.mem_append_left _ hg)), rfl⟩
theorem OwAttrs.frm {w w' : World} {v : Value} {l : List (List Int × List Int)} {F S : List Nat} (h : OwAttrs w v l F) (f : Frm w w' S) (hd : ∀ g ∈ F, g ∉ S) : OwAttrs w' v l F :=
  OwElems.frm h f hd (fun C x G ⟨a, b, e, h1, h2, h3⟩ hG => by
    subst h3
    exact ⟨a, b, e, h1.frm f (fun g hg => hG g (by simp [hg])), h2.frm f (fun g hg => hG g (by simp [hg])), rfl⟩)
theorem OwNode.frm {n : Nat} {w w' : World} {C : List Value} {t : Tr n} {F S : List Nat} (h : OwNode n w C t F) (f : Frm w w' S) (hd : ∀ g ∈ F, g ∉ S) : OwNode n w' C t F := by
  induction n generalizing C F with
  | zero => exact h
  | succ n ih =>
    obtain ⟨a, b, c, d, Fc, Fd, e, k1, k2, h1, h2, h3, h4, rfl⟩ := h
    exact ⟨a, b, c, d, Fc, Fd, e, k1, k2, h1.frm f (fun g hg => hd g (by simp [hg])), h2.frm f (fun g hg => hd g (by simp [hg])), h3.frm f (fun g hg => hd g (by simp [hg])),
      OwElems.frm h4 f (fun g hg => hd g (by simp [hg])) (fun C x G hr hG => ih hr hG), rfl⟩
theorem OwNode.keep {n : Nat} {w w' : World} {C : List Value} {t : Tr n} {F : List Nat} (h : OwNode n w C t F) (hb : Below w.heap.size w w') : OwNode n w' C t F := h.frm (Frm.ofBelow hb []) (fun _ _ => by simp)
theorem OwKids.frm {n : Nat} {w w' : World} {v : Value} {l : List (Tr n)} {F S : List Nat} (h : OwKids n w v l F) (f : Frm w w' S) (hd : ∀ g ∈ F, g ∉ S) : OwKids n w' v l F := OwElems.frm h f hd (fun C x G hr hG => OwNode.frm hr f hG)

/-- A cell of the flat row of elements of one size. -/
theorem flat_at (Cs : List (List Value)) (size : Nat) (h : ∀ i, i < Cs.length → (Cs.getD i []).length = size) (i j : Nat) (hi : i < Cs.length) (hj : j < size) : Cs.flatten[i * size + j]? = (Cs.getD i [])[j]? := by
  induction Cs generalizing i with
  | nil => simp at hi
  | cons C Cs ih =>
    have h0 : C.length = size := by simpa using h 0 (by simp)
    cases i with
    | zero => simp [List.getElem?_append, h0, hj]
    | succ i =>
      have e : (i + 1) * size + j = C.length + (i * size + j) := by rw [h0, Nat.succ_mul]; omega
      rw [List.flatten_cons, e, List.getElem?_append_right (by omega), Nat.add_sub_cancel_left]
      have := ih (fun k hk => by simpa using h (k + 1) (by simpa using hk)) i (by simpa using hi)
      simpa using this

/-- What is owned can be read. -/
theorem OwElems.rd {α : Type} {w : World} {e : TypeId} {size : Nat} {v : Value} {l : List α} {R : List Value → α → List Nat → Prop} {R' : List Value → α → Prop} {F : List Nat} (h : OwElems w e size v l R F) (hm : l.length ≤ maxLen)
    (hR : ∀ C x G, R C x G → R' C x) : Elems w size v l R' := by
  obtain ⟨Cs, Fs, h1, h2, h3, h4, rfl⟩ := h
  have h4' := h4
  refine ⟨hm, ?_⟩
  rcases h4.2 with ⟨rfl, h0⟩ | ⟨g, cap, cur, rfl, hb, hg, hnc, hcm, hcs, htake⟩
  · exact .inl ⟨rfl, List.eq_nil_of_length_eq_zero h0⟩
  · by_cases h0 : l = []
    · subst h0
      exact .inr (.inl ⟨_, cap, rfl, hcm, rfl⟩)
    · refine .inr (.inr ⟨g, 0, cap, rfl, hnc, hcm, h0, (h4'.lt g rfl).2, fun i hi => ⟨Cs.getD i [], (h3 i hi).1, fun j hj => ?_, hR _ _ _ (h3 i hi).2⟩⟩)
      have hlt : i * size + j < l.length * size := by
        have : (i + 1) * size ≤ l.length * size := Nat.mul_le_mul_right _ hi
        rw [Nat.succ_mul] at this; omega
      rw [Nat.zero_add, h4'.cellAt (i * size + j) hlt]
      exact flat_at Cs size (fun k hk => (h3 k (by omega)).1) i j (by omega) hj
theorem OwElems.len {α : Type} {w : World} {e : TypeId} {size : Nat} {v : Value} {l : List α} {R : List Value → α → List Nat → Prop} {F : List Nat} (h : OwElems w e size v l R F) : l.length ≤ maxLen := by
  obtain ⟨Cs, Fs, h1, h2, h3, h4, rfl⟩ := h
  rcases h4.2 with ⟨_, h0⟩ | ⟨g, cap, cur, rfl, hb, hg, hnc, hcm, _⟩
  · rw [h0]; exact Nat.zero_le _
  · omega
theorem OwAttrs.rd {w : World} {v : Value} {l : List (List Int × List Int)} {F : List Nat} (h : OwAttrs w v l F) : RdAttrs w v l := OwElems.rd h (OwElems.len h) (fun C x G ⟨a, b, e, h1, h2, _⟩ => ⟨a, b, e, h1.byt, h2.byt⟩)
theorem OwNode.rd {n : Nat} {w : World} {C : List Value} {t : Tr n} {F : List Nat} (h : OwNode n w C t F) : RdNode n w C t := by
  induction n generalizing C F with
  | zero => exact h
  | succ n ih =>
    obtain ⟨a, b, c, d, Fc, Fd, e, k1, k2, h1, h2, h3, h4, rfl⟩ := h
    exact ⟨a, b, c, d, e, k1, k2, h1.byt, h2.byt, h3.rd, OwElems.rd h4 (OwElems.len h4) (fun C x G hr => ih hr)⟩
theorem OwKids.rd {n : Nat} {w : World} {v : Value} {l : List (Tr n)} {F : List Nat} (h : OwKids n w v l F) : RdKids n w v l := OwElems.rd h (OwElems.len h) (fun C x G hr => OwNode.rd hr)

end Go.Proofs.YtpijenlmfmknnaaGreatDoor

/- The laws' own count of how great a tree is, by contracts. -/
namespace Go.Proofs.YtpijenlmfmknnaaGreatDoor
open Go.RowKit
set_option linter.unusedVariables false

end Go.Proofs.YtpijenlmfmknnaaGreatDoor

/- The laws' own copy of a tree, by contracts: the copy is the same tree, in blocks of its own. -/
namespace Go.Proofs.YtpijenlmfmknnaaGreatDoor
open Go.RowKit
set_option linter.unusedVariables false

end Go.Proofs.YtpijenlmfmknnaaGreatDoor

/- A frame by what may turn: blocks by their number and what lies in them. -/
namespace Go.Proofs.YtpijenlmfmknnaaGreatDoor
open Go.RowKit
set_option linter.unusedVariables false

/-- All blocks but those that may turn (Mt) lie as they lay. -/
structure Frp (Mt : Nat → Obj → Prop) (a b : World) : Prop where
  os : b.os = a.os
  tape : b.tape = a.tape
  output : b.output = a.output
  size : a.heap.size ≤ b.heap.size
  block : ∀ i o, a.heap[i]? = some o → ¬ Mt i o → b.heap[i]? = some o
theorem Frp.refl (Mt : Nat → Obj → Prop) (a : World) : Frp Mt a a := ⟨rfl, rfl, rfl, Nat.le_refl _, fun _ _ h _ => h⟩
theorem Frp.trans {Mt : Nat → Obj → Prop} {a b c : World} (h : Frp Mt a b) (k : Frp Mt b c) : Frp Mt a c :=
  ⟨k.os.trans h.os, k.tape.trans h.tape, k.output.trans h.output, Nat.le_trans h.size k.size, fun i o hi hm => k.block i o (h.block i o hi hm) hm⟩
theorem Frp.ofBelow {a b : World} (h : Below a.heap.size a b) (Mt : Nat → Obj → Prop) : Frp Mt a b :=
  ⟨h.os, h.tape, h.output, h.size, fun i o hi _ => (h.block i (Array.getElem?_eq_some_iff.1 hi).1).trans hi⟩
theorem Frp.ofFrm {a b : World} {S : List Nat} (h : Frm a b S) {Mt : Nat → Obj → Prop} (hm : ∀ g ∈ S, ∀ o, a.heap[g]? = some o → Mt g o) : Frp Mt a b :=
  ⟨h.os, h.tape, h.output, h.size, fun i o hi hn => (h.block i (Array.getElem?_eq_some_iff.1 hi).1 (fun e => hn (hm i e o hi))).trans hi⟩
theorem Frp.below {Mt : Nat → Obj → Prop} {a b : World} {B : Nat} (h : Frp Mt a b) (hB : B ≤ a.heap.size) (hm : ∀ i o, i < B → ¬ Mt i o) : Below B a b :=
  ⟨h.os, h.tape, h.output, h.size, fun i hi => by
    have hlt : i < a.heap.size := by omega
    have := h.block i _ (Array.getElem?_eq_getElem hlt) (hm i _ hi)
    rw [this, Array.getElem?_eq_getElem hlt]⟩

theorem Loc.frp {Mt : Nat → Obj → Prop} {w w' : World} {g : Nat} {cs : Array Value} {T : TypeId} (h : Loc w g cs T) (f : Frp Mt w w') (hn : ¬ Mt g (.cells cs T (0, 0))) : Loc w' g cs T := f.block g _ h hn
end Go.Proofs.YtpijenlmfmknnaaGreatDoor

/- A loop over a function, in our own words: what the caller owes where its rounds may make maps, box what they are handed, and return; the function that is ranged over by what it hands on, one by one. No program. -/
namespace Go.Proofs.YtpijenlmfmknnaaGreatDoor
open Go.RowKit Go.Shelf
set_option linter.unusedVariables false

/-- What I says stays said where the world grows, and where a block of the loop's own books (at D and D + 1) turns. -/
def Stays {β : Type} (D : Nat) (I : β → World → Prop) : Prop :=
  ∀ s W W' row, I s W → W.grownBy W' row → (∀ r, row = some r → r = D ∨ r = D + 1) → I s W'
/-- The books lie as they lay. -/
def BooksSame (D : Nat) (W W' : World) : Prop := W'.heap[D]? = W.heap[D]? ∧ W'.heap[D + 1]? = W.heap[D + 1]?
/-- How a round's body may be left. -/
def rndPost {α : Type} (D : Nat) (Mt : Nat → Obj → Prop) (I Ix : List α → World → Prop) (ys : List α) (W : World) : Exit → Act → World → Prop
  | .normal, _, W' => BooksSame D W W' ∧ Frp Mt W W' ∧ I ys W'
  | .ret, _, W' => BooksSame D W W' ∧ Ix ys W'
  | _, _, _ => False

/-- The function gf hands on the members of xs in their order, as long as it is told to go on; between two rounds it makes memory alone. A round turns none but those that may turn (Mt); what the function lays for itself (Bx) is none of them. -/
def Hands {α : Type} (P : Program) (gf : Nat) (lb : Array Value) (encs : α → Array Value) (Bx : Obj → Prop) (Mt : Nat → Obj → Prop) (xs : List α) (l : Nat) (w : World) : Prop :=
  ∀ (J Jx : List α → World → Prop), (∀ s W W', J s W → W.grownBy W' none → J s W') →
    (∀ m pre x W1, J pre W1 → pre ++ [x] <+: xs → YieldAt Fence.wide m P l (encs x) W1 fun e W' =>
      (e = .returned (.bool true) ∧ J (pre ++ [x]) W' ∧ Frp Mt W1 W') ∨ (e = .returned (.bool false) ∧ Jx (pre ++ [x]) W')) →
    ∀ (n : Nat) (W : World), Below w.heap.size w W → (∀ q o, W.heap.size ≤ q → Bx o → ¬ Mt q o) → J [] W →
      CallsIn Fence.wide n P gf (#[.func (.yield l) #[] #[]] ++ lb) W fun e W' => (∃ v, e = .returned v) ∧ (J xs W' ∨ ∃ pre, pre <+: xs ∧ Jx pre W')

theorem round_wide {m m' : Nat} {P : Program} {l : Nat} {f : FuncId} {tmps : Array Value} {assign body : Code} {w : World} {R : Ending → World → Prop}
    (h : RoundIn Fence.wide m P l f tmps assign body w R) : RoundIn Fence.wide m' P l f tmps assign body w R := ⟨h.1, fun c cs _ => h.2 c cs (room_wide _)⟩

variable {P : Program}

/-- One round: its record is ready; the hand-over, the body; the record behind it says how it was left. -/
theorem round_law {α : Type} {n m D : Nat} {Mt : Nat → Obj → Prop} {fn : FuncId} {rec : LoopState → Option Code → Loop} {tmps : Array Value} {assign body : Code}
    (I Ix : List α → World → Prop) (hI : Stays D I) (hIx : Stays D Ix) (hG : ∀ r, Mt (D + 1) (.loop r)) (hrec : ∀ st pe st' pe', { rec st pe with state := st', pending := pe' } = rec st' pe') (hst : ∀ st pe, (rec st pe).state = st)
    {pre : List α} {x : α} {W : World} (Ax : Act → World → Prop) (hAx : ∀ a', Stays D (fun (_ : Unit) W => Ax a' W))
    (hi : I pre W) (hD : W.heap[D]? = some (.deferred (some []))) (hL : W.heap[D + 1]? = some (.loop (rec .ready none)))
    (hassign : ∀ K : Act → World → Prop, (∀ a' W', Below W.heap.size W W' → Ax a' W' → K a' W') → assign.wpIn (Fence.wide.inRound (D + 1)) n P (Exit.then K (fun _ _ _ => False)) { tmps := tmps, defers := [] } W)
    (hbody : ∀ a' W', I pre W' → Ax a' W' → D + 2 ≤ W'.heap.size → body.wpIn (Fence.wide.inRound (D + 1)) n P (rndPost D Mt I Ix (pre ++ [x]) W') a' W') :
    RoundIn Fence.wide m P (D + 1) fn tmps assign body W fun e W' =>
      (e = .returned (.bool true) ∧ (I (pre ++ [x]) W' ∧ W'.heap[D]? = some (.deferred (some [])) ∧ W'.heap[D + 1]? = some (.loop (rec .ready none))) ∧ Frp Mt W W') ∨
      (e = .returned (.bool false) ∧ Ix (pre ++ [x]) W' ∧ W'.heap[D]? = some (.deferred (some [])) ∧ W'.heap[D + 1]? = some (.loop (rec .done (some .ret)))) := by
  refine round_wide (m := n) (roundIn_of_wpIn trivial (hassign _ ?_))
  intro a' W1 hB1 hax
  have hlt : D + 1 < W.heap.size := (Array.getElem?_eq_some_iff.1 hL).1
  have hi1 : I pre W1 := hI pre W W1 none hi ⟨hB1.os, hB1.tape, hB1.output, hB1.size, fun k hk _ => hB1.block k hk⟩ (fun r e => by cases e)
  have hD1 := (hB1.block D (by omega)).trans hD
  have hL1 := (hB1.block (D + 1) hlt).trans hL
  have hlt1 : D + 1 < W1.heap.size := (Array.getElem?_eq_some_iff.1 hL1).1
  refine ⟨_, run_beginRound hL1 (hst _ _), ?_⟩
  obtain ⟨W2, hW2⟩ : ∃ W2, W1.putObj (D + 1) (.loop { rec .ready none with state := .busy }) = W2 := ⟨_, rfl⟩
  have hg2 : W1.grownBy W2 (some (D + 1)) := by rw [← hW2]; exact grownBy_putObj' W1 (D + 1) _
  have hL2 : W2.heap[D + 1]? = some (.loop { rec .ready none with state := .busy }) := by rw [← hW2]; exact World.putObj_heap_same hlt1
  have hD2 : W2.heap[D]? = some (.deferred (some [])) := by rw [← hW2]; exact (World.putObj_heap_other (by omega)).trans hD1
  have hF2 : Frp Mt W W2 := (Frp.ofBelow hB1 Mt).trans (Frp.ofFrm (Frm.ofGrown hg2) (fun g h o ho => by simp at h; subst h; rw [hL1] at ho; cases ho; exact hG _))
  rw [hW2]
  have hi2 : I pre W2 := hI pre W1 W2 _ hi1 hg2 (fun r e => by cases e; exact .inr rfl)
  have hax2 : Ax a' W2 := hAx a' () W1 W2 _ hax hg2 (fun r e => by cases e; exact .inr rfl)
  have hlt2 : D + 2 ≤ W2.heap.size := by have := (Array.getElem?_eq_some_iff.1 hL2).1; omega
  refine wpIn_mono (hbody a' W2 hi2 hax2 hlt2) ?_
  have fin : ∀ (jump : Option Code) (W3 : World), BooksSame D W2 W3 → ∃ W4, (Instr.endRound (D + 1) jump).run P W3 = .ok (.bool jump.isNone) W4 ∧ W3.grownBy W4 (some (D + 1)) ∧ W4.heap[D]? = some (.deferred (some [])) ∧ W4.heap[D + 1]? = some (.loop (rec (if jump.isNone then .ready else .done) jump)) := by
    intro jump W3 hb
    have hL3 := hb.2.trans hL2
    have hlt3 : D + 1 < W3.heap.size := (Array.getElem?_eq_some_iff.1 hL3).1
    refine ⟨_, run_endRound jump hL3, grownBy_putObj' W3 (D + 1) _, (World.putObj_heap_other (by omega)).trans (hb.1.trans hD2), ?_⟩
    rw [World.putObj_heap_same hlt3]
    have := hrec .ready none (if jump.isNone then .ready else .done) jump
    rw [← this]
  rintro e a3 W3 hp
  cases e with
  | normal =>
    obtain ⟨hb, hF3, hi3⟩ := hp
    obtain ⟨W4, hr, hg4, hD4, hL4⟩ := fin none W3 hb
    exact ⟨_, W4, hr, .inl ⟨rfl, ⟨hI _ W3 W4 _ hi3 hg4 (fun r e => by cases e; exact .inr rfl), hD4, hL4⟩, (hF2.trans hF3).trans (Frp.ofFrm (Frm.ofGrown hg4) (fun g h o ho => by simp at h; subst h; rw [hb.2.trans hL2] at ho; cases ho; exact hG _))⟩⟩
  | ret =>
    obtain ⟨hb, hi3⟩ := hp
    obtain ⟨W4, hr, hg4, hD4, hL4⟩ := fin (some .ret) W3 hb
    exact ⟨_, W4, hr, .inr ⟨rfl, hIx _ W3 W4 _ hi3 hg4 (fun r e => by cases e; exact .inr rfl), hD4, hL4⟩⟩
  | exit id => exact hp.elim
  | goto t => exact hp.elim
  | panic ch => exact hp.elim
  | outgrown => exact hp.elim

/-- The loop. -/
theorem range_law {α : Type} {n : Nat} {g : Operand} {ps : Array Tmp} {assign body : Code} {Q : Exit → Act → World → Prop} {a : Act} {w : World} {gf : Nat} {lb : Array Value}
    (hg : a.eval g = .func (.func gf) #[] lb) (eg : ∀ args w, (callFunc gf args).run P w = .ok (.enter gf args) w)
    {encs : α → Array Value} {Bx : Obj → Prop} {Mt : Nat → Obj → Prop} {xs : List α} (hG : ∀ r, Mt (w.heap.size + 1) (.loop r)) (hGl : ∀ q o, w.heap.size + 2 ≤ q → Bx o → ¬ Mt q o) (hseq : Hands P gf lb encs Bx Mt xs (w.heap.size + 1) w) (hps : ∀ x, (encs x).size = ps.size)
    (I Ix : List α → World → Prop) (hI : Stays w.heap.size I) (hIx : Stays w.heap.size Ix) (h0 : I [] w)
    (Ax : α → Act → World → Prop) (hAx : ∀ x a', Stays w.heap.size (fun (_ : Unit) W => Ax x a' W))
    (hassign : ∀ (pre : List α) (x : α) (W : World) (K : Act → World → Prop), I pre W → w.heap.size + 2 ≤ W.heap.size → (∀ a' W', Below W.heap.size W W' → Ax x a' W' → K a' W') →
      assign.wpIn (Fence.wide.inRound (w.heap.size + 1)) n P (Exit.then K (fun _ _ _ => False)) { tmps := (ps.zip (encs x)).foldl (fun t (p, v) => t.setIfInBounds p v) a.tmps, defers := [] } W)
    (hbody : ∀ (pre : List α) (x : α) (a' : Act) (W : World), I pre W → Ax x a' W → pre ++ [x] <+: xs → w.heap.size + 2 ≤ W.heap.size →
      body.wpIn (Fence.wide.inRound (w.heap.size + 1)) n P (rndPost w.heap.size Mt I Ix (pre ++ [x]) W) a' W)
    (hdone : ∀ W : World, I xs W → W.heap[w.heap.size]? = some (.deferred (some [])) → Q .normal { a with defers := { target := .collected w.heap.size, args := #[] } :: a.defers } W)
    (hstop : ∀ (pre : List α) (W : World), pre <+: xs → Ix pre W → W.heap[w.heap.size]? = some (.deferred (some [])) → Code.ret.wpIn Fence.wide n P Q { a with defers := { target := .collected w.heap.size, args := #[] } :: a.defers } W) :
    (Code.rangeFunc g ps assign body).wpIn Fence.wide n P Q a w := by
  refine wpIn_rangeFunc ?_
  intro fn hfn
  obtain ⟨rec, hrec⟩ : ∃ rec : LoopState → Option Code → Loop, rec = fun st pe => { state := st, pending := pe, fn, tmps := a.tmps, params := ps, assign, body, defers := w.heap.size } := ⟨_, rfl⟩
  obtain ⟨W1, hW1⟩ : ∃ W1, (w.alloc (.deferred (some []))).alloc (.loop (rec .ready none)) = W1 := ⟨_, rfl⟩
  have hL1 : W1.heap[w.heap.size + 1]? = some (.loop (rec .ready none)) := by
    rw [← hW1]; have := World.alloc_heap_new (w.alloc (.deferred (some []))) (.loop (rec .ready none)); rwa [World.size_alloc] at this
  have hD1 : W1.heap[w.heap.size]? = some (.deferred (some [])) := by
    rw [← hW1]; exact (Below.heap_alloc _ _ _ (by simp)).trans (World.alloc_heap_new w _)
  have hB1 : Below w.heap.size w W1 := by rw [← hW1]; exact ((Below.refl _ w).alloc (Nat.le_refl _) _).alloc (by simp) _
  have hI1 : I [] W1 := hI [] w W1 none h0 ⟨hB1.os, hB1.tape, hB1.output, hB1.size, fun k hk _ => hB1.block k hk⟩ (fun r e => by cases e)
  refine ⟨w.heap.size + 1, [{ target := .collected w.heap.size, args := #[] }], W1, { target := .fn (.func gf) lb, args := #[.func (.yield (w.heap.size + 1)) #[] #[]] }, W1, gf,
    #[.func (.yield (w.heap.size + 1)) #[] #[]] ++ lb, W1, ?_, ?_, fun _ _ => trivial, ?_, (fun h => (by cases h)), ?_⟩
  · rw [← hW1, hrec]; exact run_enterLoop_outer _ _ _ _ _
  · simp only [resolve, hg]
    simp [go_sem]
  · simp [invoke, go_sem, eg]
  · refine (hseq
      (fun pre W => I pre W ∧ W.heap[w.heap.size]? = some (.deferred (some [])) ∧ W.heap[w.heap.size + 1]? = some (.loop (rec .ready none)))
      (fun pre W => Ix pre W ∧ W.heap[w.heap.size]? = some (.deferred (some [])) ∧ W.heap[w.heap.size + 1]? = some (.loop (rec .done (some .ret)))) ?_ ?_ (n - 1) W1 hB1 (fun q o h hb => hGl q o (by have := (Array.getElem?_eq_some_iff.1 hL1).1; omega) hb) ⟨hI1, hD1, hL1⟩).mono ?_
    · rintro s W W' ⟨hi, hD, hL⟩ hg'
      exact ⟨hI s W W' none hi hg' (fun r e => by cases e), (hg'.block _ (Array.getElem?_eq_some_iff.1 hD).1 (by simp)).trans hD, (hg'.block _ (Array.getElem?_eq_some_iff.1 hL).1 (by simp)).trans hL⟩
    · rintro m pre x W ⟨hi, hD, hL⟩ hpx
      have hy := run_yield (P := P) (args := encs x) hL (by rw [hrec]; exact hps x)
      rw [hrec] at hy
      refine ⟨fn, _, assign, body, hy, ?_⟩
      refine (round_law (n := n) (m := m) (fn := fn) (x := x) I Ix hI hIx hG (by rw [hrec]; exact fun _ _ _ _ => rfl) (by rw [hrec]; exact fun _ _ => rfl) (Ax x) (hAx x) hi hD hL (fun K hK => hassign pre x W K hi (by have := (Array.getElem?_eq_some_iff.1 hL).1; omega) hK) (fun a' W' hi' hax hl => hbody pre x a' W' hi' hax hpx hl)).mono ?_
      rintro e W' (⟨rfl, h1, h2⟩ | ⟨rfl, h1⟩)
      · exact .inl ⟨rfl, h1, h2⟩
      · exact .inr ⟨rfl, h1⟩
    · rintro e W2 ⟨⟨v, rfl⟩, (⟨hi, hD, hL⟩ | ⟨pre, hpre, hi, hD, hL⟩)⟩
      · have he := run_endLoop (P := P) hL (by rw [hrec]; simp)
        rw [hrec] at he
        exact ⟨none, _, he, hdone _ (hI xs W2 _ _ hi (grownBy_putObj' W2 _ _) (fun r e => by cases e; exact .inr rfl)) ((World.putObj_heap_other (by omega)).trans hD)⟩
      · have he := run_endLoop (P := P) hL (by rw [hrec]; simp)
        rw [hrec] at he
        exact ⟨some .ret, _, he, hstop pre _ hpre (hIx pre W2 _ _ hi (grownBy_putObj' W2 _ _) (fun r e => by cases e; exact .inr rfl)) ((World.putObj_heap_other (by omega)).trans hD)⟩
end Go.Proofs.YtpijenlmfmknnaaGreatDoor

/- impl.isSmall, impl.isDigit, impl.NameOk and impl.textOk answer what the plain tests say. -/
namespace Go.Proofs.YtpijenlmfmknnaaGreatDoor
open Go.RowKit
set_option linter.unusedVariables false

def smallB (x : Int) : Bool := decide (97 ≤ x ∧ x ≤ 122)
def digB (x : Int) : Bool := decide (48 ≤ x ∧ x ≤ 57)
theorem smallB_yes {x : Int} (h : 97 ≤ x ∧ x ≤ 122) : smallB x = true := by unfold smallB; simpa using h
theorem smallB_no {x : Int} (h : ¬ (97 ≤ x ∧ x ≤ 122)) : smallB x = false := by unfold smallB; simpa using h
theorem digB_yes {x : Int} (h : 48 ≤ x ∧ x ≤ 57) : digB x = true := by unfold digB; simpa using h
theorem digB_no {x : Int} (h : ¬ (48 ≤ x ∧ x ≤ 57)) : digB x = false := by unfold digB; simpa using h

theorem small_any (x : Int) (w : World) : Calls Tryz.prog 105 #[.int .u8 x] w fun e w' => e = .returned (.bool (smallB x)) ∧ w' = w := by
  by_cases h1 : 97 ≤ x
  · by_cases h2 : x ≤ 122
    · have HD := hide (smallB_yes ⟨h1, h2⟩)
      go_enter Tryz.func105, Tryz.ntmps105
      go_wp2
      go_ret
      exact ⟨by rw [unhide HD]; rfl, rfl⟩
    · have HD := hide (smallB_no (x := x) (by omega))
      go_enter Tryz.func105, Tryz.ntmps105
      go_wp2
      go_ret
      exact ⟨by rw [unhide HD]; rfl, rfl⟩
  · have HD := hide (smallB_no (x := x) (by omega))
    have d1 : decide (97 ≤ x) = false := by simpa using h1
    go_enter Tryz.func105, Tryz.ntmps105
    go_wp2
    go_ret
    exact ⟨by rw [unhide HD]; rfl, rfl⟩
theorem dig_any (x : Int) (w : World) : Calls Tryz.prog 106 #[.int .u8 x] w fun e w' => e = .returned (.bool (digB x)) ∧ w' = w := by
  by_cases h1 : 48 ≤ x
  · by_cases h2 : x ≤ 57
    · have HD := hide (digB_yes ⟨h1, h2⟩)
      go_enter Tryz.func106, Tryz.ntmps106
      go_wp2
      go_ret
      exact ⟨by rw [unhide HD]; rfl, rfl⟩
    · have HD := hide (digB_no (x := x) (by omega))
      go_enter Tryz.func106, Tryz.ntmps106
      go_wp2
      go_ret
      exact ⟨by rw [unhide HD]; rfl, rfl⟩
  · have HD := hide (digB_no (x := x) (by omega))
    have d1 : decide (48 ≤ x) = false := by simpa using h1
    go_enter Tryz.func106, Tryz.ntmps106
    go_wp2
    go_ret
    exact ⟨by rw [unhide HD]; rfl, rfl⟩

def standB (x : Int) : Bool := decide (32 ≤ x ∧ x ≤ 126)
theorem standB_yes {x : Int} (h : 32 ≤ x ∧ x ≤ 126) : standB x = true := by unfold standB; simpa using h
theorem standB_no {x : Int} (h : ¬ (32 ≤ x ∧ x ≤ 126)) : standB x = false := by unfold standB; simpa using h
theorem stand_any (x : Int) (w : World) : Calls Tryz.prog 101 #[.int .u8 x] w fun e w' => e = .returned (.bool (standB x)) ∧ w' = w := by
  by_cases h1 : 32 ≤ x
  · by_cases h2 : x ≤ 126
    · have HD := hide (standB_yes ⟨h1, h2⟩)
      go_enter Tryz.func101, Tryz.ntmps101
      go_wp2
      go_ret
      exact ⟨by rw [unhide HD]; rfl, rfl⟩
    · have HD := hide (standB_no (x := x) (by omega))
      go_enter Tryz.func101, Tryz.ntmps101
      go_wp2
      go_ret
      exact ⟨by rw [unhide HD]; rfl, rfl⟩
  · have HD := hide (standB_no (x := x) (by omega))
    have d1 : decide (32 ≤ x) = false := by simpa using h1
    go_enter Tryz.func101, Tryz.ntmps101
    go_wp2
    go_ret
    exact ⟨by rw [unhide HD]; rfl, rfl⟩

theorem nameI_short (w : World) (a : Option Addr) (n cap : Nat) (h : n < 1 ∨ 8 < n) :
    Calls Tryz.prog 68 #[.slice a n cap] w fun e w' => e = .returned (.bool false) ∧ w' = w := by
  by_cases h1 : n < 1
  · have h1' : (n : Int) < 1 := by omega
    go_enter Tryz.func68, Tryz.ntmps68
    go_wp2_with fail
    go_ret
    exact ⟨rfl, rfl⟩
  · have h1' : decide ((n : Int) < 1) = false := by simp; omega
    have h2 : (8 : Int) < (n : Int) := by omega
    go_enter Tryz.func68, Tryz.ntmps68
    go_wp2_with fail
    go_ret
    exact ⟨rfl, rfl⟩

open Classical in
set_option maxHeartbeats 1600000 in
theorem nameI_row (w : World) (b off cap : Nat) (l : List Int) (hok : okB l) (h1 : 1 ≤ l.length) (h8 : l.length ≤ 8)
    (hc : ∀ i, i < l.length → w.cell? ⟨b, off + i, none⟩ = some (.int .u8 (l.getD i 0))) :
    Calls Tryz.prog 68 #[.slice (some ⟨b, off, none⟩) l.length cap] w fun e w' => e = .returned (.bool (decide (NameOk l))) ∧ w' = w := by
  have d1 : decide ((l.length : Int) < 1) = false := by simp; omega
  have d2 : decide ((8 : Int) < (l.length : Int)) = false := by simp; omega
  have hl0 : (0 : Int) < (l.length : Int) := by omega
  obtain ⟨y, hy⟩ : ∃ y, y = l.getD 0 0 := ⟨_, rfl⟩
  have hcy : w.cell? ⟨b, off, none⟩ = some (.int .u8 y) := by rw [hy]; exact hc 0 (by omega)
  have HY := hide hy
  clear hy
  by_cases hs : 97 ≤ y ∧ y ≤ 122
  · have sy := smallB_yes hs
    go_enter Tryz.func68, Tryz.ntmps68
    go_wp2_with (go_at_call 105; refine (small_any y w).mono ?_; rintro e w' ⟨rfl, rfl⟩)
    go_loop [22] (fun i => ∃ k : Nat, k ≤ l.length ∧ i = .int .i64 k ∧ allTo nameCh l k) (fun i => l.length - (intOf i).toNat)
    case atStart => exact ⟨0, Nat.zero_le _, rfl, fun i hi => by omega⟩
    case round =>
      obtain ⟨k, hk, rfl, ha⟩ := hrel
      have HA := hide ha
      clear ha
      by_cases hlt : k < l.length
      · obtain ⟨x, hx⟩ : ∃ x, x = l.getD k 0 := ⟨_, rfl⟩
        have hcx : w'.cell? ⟨b, off + k, none⟩ = some (.int .u8 x) := by rw [hx]; exact hc _ hlt
        have HX := hide hx
        have hlt' : (k : Int) < (l.length : Int) := by omega
        clear hc hcy sy hx
        by_cases hn : 97 ≤ x ∧ x ≤ 122
        · have HN := hide (show nameCh k x from .inl hn)
          have sx := smallB_yes hn
          clear hn
          go_wp2_with (go_at_call 105; refine (small_any x _).mono ?_; rintro e w' ⟨rfl, rfl⟩)
          go_round
          case rel => exact ⟨k + 1, by omega, by go_num, allTo_step (unhide HA) (by rw [← unhide HX]; exact unhide HN)⟩
          case measure => simp [intOf]; omega
        · have sx := smallB_no hn
          by_cases hd : 48 ≤ x ∧ x ≤ 57
          · have hk0 : 0 < k := by
              by_cases e : k = 0
              · subst e; exact absurd hs (by rw [unhide HY, ← unhide HX]; exact hn)
              · omega
            have HN := hide (show nameCh k x from .inr ⟨hk0, hd⟩)
            have sd := digB_yes hd
            clear hn hd
            go_wp2_with (first | (go_at_call 105; refine (small_any x _).mono ?_; rintro e w' ⟨rfl, rfl⟩) | (go_at_call 106; refine (dig_any x _).mono ?_; rintro e w' ⟨rfl, rfl⟩))
            go_round
            case rel => exact ⟨k + 1, by omega, by go_num, allTo_step (unhide HA) (by rw [← unhide HX]; exact unhide HN)⟩
            case measure => simp [intOf]; omega
          · have sd := digB_no hd
            have HF := hide (show decide (NameOk l) = false by
              simp only [decide_eq_false_iff_not]
              rintro ⟨_, _, h⟩
              have := h k hlt
              rw [← unhide HX] at this
              rcases this with h | ⟨_, h⟩
              · exact hn h
              · exact hd h)
            clear hn hd
            go_wp2_with (first | (go_at_call 105; refine (small_any x _).mono ?_; rintro e w' ⟨rfl, rfl⟩) | (go_at_call 106; refine (dig_any x _).mono ?_; rintro e w' ⟨rfl, rfl⟩))
            go_ret
            exact ⟨by rw [unhide HF]; rfl, rfl⟩
      · have e : k = l.length := by omega
        subst e
        have HF := hide (show decide (NameOk l) = true by simp only [decide_eq_true_eq]; exact ⟨h1, h8, unhide HA⟩)
        clear hc
        go_wp2_with fail
        go_ret
        exact ⟨by rw [unhide HF]; rfl, rfl⟩
  · have sy := smallB_no hs
    have HF := hide (show decide (NameOk l) = false by
      simp only [decide_eq_false_iff_not]
      rintro ⟨_, _, h⟩
      have := h 0 (by omega)
      rw [← unhide HY] at this
      rcases this with h | ⟨h, _⟩
      · exact hs h
      · omega)
    clear hc hs
    go_enter Tryz.func68, Tryz.ntmps68
    go_wp2_with (go_at_call 105; refine (small_any y w).mono ?_; rintro e w' ⟨rfl, rfl⟩)
    go_ret
    exact ⟨by rw [unhide HF]; rfl, rfl⟩

open Classical in
theorem nameI_any (w : World) (v : Value) (l : List Int) (h : Byt w v l) :
    Calls Tryz.prog 68 #[v] w fun e w' => e = .returned (.bool (decide (NameOk l))) ∧ w' = w := by
  by_cases hl : l.length < 1 ∨ 8 < l.length
  · obtain ⟨a, cap, rfl, _⟩ := h.shape
    have hd : decide (NameOk l) = false := by simp only [decide_eq_false_iff_not]; rintro ⟨_, _, _⟩; omega
    rw [hd]
    exact nameI_short w a _ cap hl
  · obtain ⟨hok, hm, ⟨rfl, rfl⟩ | ⟨x, cap, rfl, hc, rfl⟩ | ⟨b, off, cap, rfl, _, _, _, _, h5⟩⟩ := h
    · simp at hl
    · simp at hl
    · exact nameI_row w b off cap l hok (by omega) (by omega) h5

open Classical in
set_option maxHeartbeats 1600000 in
theorem textI_any (w : World) (v : Value) (l : List Int) (h : Byt w v l) :
    Calls Tryz.prog 67 #[v] w fun e w' => e = .returned (.bool (decide (TextOk l))) ∧ w' = w := by
  by_cases hl : 30 < l.length
  · obtain ⟨a, cap, rfl, _⟩ := h.shape
    have HD := hide (show decide (TextOk l) = false by simp only [decide_eq_false_iff_not]; rintro ⟨_, _⟩; omega)
    have d2 : (30 : Int) < (l.length : Int) := by omega
    go_enter Tryz.func67, Tryz.ntmps67
    go_wp2
    go_ret
    exact ⟨by rw [unhide HD]; rfl, rfl⟩
  have d2 : ¬ (30 : Int) < (l.length : Int) := by omega
  by_cases h0 : l = []
  · obtain ⟨a, cap, rfl, _⟩ := h.shape
    subst h0
    have HD := hide (show decide (TextOk []) = true by simp only [decide_eq_true_eq]; exact ⟨by simp, fun i hi => by simp at hi⟩)
    go_enter Tryz.func67, Tryz.ntmps67
    go_wp2
    refine wp_loop_rounds 1 ?_
    rw [rounds_succ]
    go_wp2
    go_ret
    exact ⟨by rw [unhide HD]; rfl, rfl⟩
  obtain ⟨hok, hm, ⟨_, e⟩ | ⟨_, _, _, _, e⟩ | ⟨b, off, cap, rfl, _, _, _, _, hc⟩⟩ := h
  · exact absurd e h0
  · exact absurd e h0
  go_enter Tryz.func67, Tryz.ntmps67
  go_wp2
  go_loop [10] (fun i => ∃ k : Nat, k ≤ l.length ∧ i = .int .i64 k ∧ allTo textCh l k) (fun i => l.length - (intOf i).toNat)
  case atStart => exact ⟨0, Nat.zero_le _, rfl, fun i hi => by omega⟩
  case round =>
    obtain ⟨k, hk, rfl, ha⟩ := hrel
    have HA := hide ha
    clear ha
    by_cases hlt : k < l.length
    · obtain ⟨x, hx⟩ : ∃ x, x = l.getD k 0 := ⟨_, rfl⟩
      have hcx : w.cell? ⟨b, off + k, none⟩ = some (.int .u8 x) := by rw [hx]; exact hc _ hlt
      have HX := hide hx
      have hlt' : (k : Int) < (l.length : Int) := by omega
      clear hc hx
      by_cases hn : textCh k x
      · have HN := hide hn
        have sx := standB_yes (x := x) (by unfold textCh at hn; omega)
        clear hn
        go_wp2_with (go_at_call 101; refine (stand_any x _).mono ?_; rintro e w' ⟨rfl, rfl⟩)
        go_round
        case rel => exact ⟨k + 1, by omega, by go_num, allTo_step (unhide HA) (by rw [← unhide HX]; exact unhide HN)⟩
        case measure => simp [intOf]; omega
      · have HF := hide (show decide (TextOk l) = false by
          simp only [decide_eq_false_iff_not]
          rintro ⟨_, h⟩
          exact hn (by rw [unhide HX]; exact h k hlt))
        have sx := standB_no (x := x) (by unfold textCh at hn; omega)
        clear hn
        go_wp2_with (go_at_call 101; refine (stand_any x _).mono ?_; rintro e w' ⟨rfl, rfl⟩)
        go_ret
        exact ⟨by rw [unhide HF]; rfl, rfl⟩
    · have e : k = l.length := by omega
      subst e
      have HF := hide (show decide (TextOk l) = true by simp only [decide_eq_true_eq]; exact ⟨by omega, unhide HA⟩)
      clear hc
      go_wp2
      go_ret
      exact ⟨by rw [unhide HF]; rfl, rfl⟩

end Go.Proofs.YtpijenlmfmknnaaGreatDoor

/- Rows of bytes as strings: the conversion, and when two are one. -/
namespace Go.Proofs.YtpijenlmfmknnaaGreatDoor
open Go.RowKit
set_option linter.unusedVariables false

/-- The string of a row of bytes. -/
def str (l : List Int) : ByteArray := l.foldl (fun r n => r.push (UInt8.ofNat n.toNat)) ByteArray.empty
theorem str_go (l : List Int) (s : ByteArray) : (l.foldl (fun r n => r.push (UInt8.ofNat n.toNat)) s).data.toList = s.data.toList ++ l.map (fun n => UInt8.ofNat n.toNat) := by
  induction l generalizing s with
  | nil => simp
  | cons x l ih => rw [List.foldl_cons, ih]; simp [ByteArray.push]
theorem str_list (l : List Int) : (str l).data.toList = l.map (fun n => UInt8.ofNat n.toNat) := by
  unfold str; rw [str_go]; rfl
theorem toList_data (s : ByteArray) : s.toList = s.data.toList := Go.ByteArray.toList_eq s
theorem str_inj {a b : List Int} (ha : okB a) (hb : okB b) (h : (str a).toList = (str b).toList) : a = b := by
  rw [toList_data, toList_data, str_list, str_list] at h
  have hg : ∀ l : List Int, okB l → (l.map (fun n => UInt8.ofNat n.toNat)).map (fun u => (u.toNat : Int)) = l := by
    intro l hl
    induction l with
    | nil => rfl
    | cons x l ih =>
      have hx := hl x (by simp)
      have e : ((UInt8.ofNat x.toNat).toNat : Int) = x := by
        rw [UInt8.toNat_ofNat']; omega
      rw [List.map_cons, List.map_cons, ih (fun y hy => hl y (by simp [hy])), e]
  rw [← hg a ha, ← hg b hb, h]
theorem conv_any (w : World) (u : Value) (a : List Int) (hu : Byt w u a) : (convert 22 9 u).run Tryz.prog w = .ok (.string (str a)) w := by
  have hfull : ∀ (x : Addr) (c : Nat), (∀ j, j < a.length → w.cell? (x.add j) = some (.int .u8 (a.getD j 0))) → (convert 22 9 (.slice (some x) a.length c)).run Tryz.prog w = .ok (.string (str a)) w := by
    intro x c hc
    rw [run_convert_bytes_string w 22 9 5 (some x) a.length c Tryz.underlying22 Tryz.underlying5 Tryz.underlying9]
    refine run_bytesToString w x a.length c a ?_
    have h := run_loadCells_list (P := Tryz.prog) (w := w) x (vals a) (fun j v hj => by
      have hlt : j < a.length := by
        by_cases hlt : j < a.length
        · exact hlt
        · rw [List.getElem?_eq_none (by rw [vals_len]; omega)] at hj; cases hj
      rw [vals_at hlt] at hj
      rw [hc j hlt]; exact hj)
    rw [vals_len] at h
    exact h
  obtain ⟨hoka, _, ⟨rfl, rfl⟩ | ⟨x, cap, rfl, hc, rfl⟩ | ⟨p, off, cap, rfl, h1, h2, h3, h4, h5⟩⟩ := hu
  · rw [run_convert_bytes_string w 22 9 5 none 0 0 Tryz.underlying22 Tryz.underlying5 Tryz.underlying9]
    simp [Conv.bytesToString, str]
  · exact hfull x cap (fun j hj => by simp at hj)
  · exact hfull _ cap (fun j hj => by rw [add_plain]; exact h5 j hj)

end Go.Proofs.YtpijenlmfmknnaaGreatDoor

/- spec.l2void and spec.l2attrs answer what the plain tests say. -/
namespace Go.Proofs.YtpijenlmfmknnaaGreatDoor
open Go.RowKit
set_option linter.unusedVariables false

/-- br, hr. -/
def Void (l : List Int) : Prop := l = [98, 114] ∨ l = [104, 114]
theorem okB_br : okB [98, 114] := fun x hx => by simp at hx; omega
theorem okB_hr : okB [104, 114] := fun x hx => by simp at hx; omega

/-- By their bytes. -/
def lessT (a b : List Int) : Bool := Op.bytesLess (str a).toList (str b).toList
/-- An attribute that may stand at place i. -/
def attrAt (l : List (List Int × List Int)) (i : Nat) : Prop := NameOk (l.getD i ([], [])).1 ∧ TextOk (l.getD i ([], [])).2 ∧ (0 < i → lessT (l.getD (i - 1) ([], [])).1 (l.getD i ([], [])).1 = true)
def AttrsOk (l : List (List Int × List Int)) : Prop := l.length ≤ 4 ∧ ∀ i, i < l.length → attrAt l i

theorem step_all {p : Nat → Prop} {k : Nat} (h : ∀ i, i < k → p i) (h1 : p k) (i : Nat) (hi : i < k + 1) : p i := by
  by_cases e : i = k
  · subst e; exact h1
  · exact h i (by omega)

end Go.Proofs.YtpijenlmfmknnaaGreatDoor

/- bytes.Compare at readable rows answers the order of the bytes; bytes.Equal whether they are one. -/
namespace Go.Proofs.YtpijenlmfmknnaaGreatDoor
open Go.RowKit
set_option linter.unusedVariables false
set_option maxRecDepth 100000

theorem run_bytesOfB (w : World) (u : Value) (a : List Int) (h : Byt w u a) : (Extern.Bytes.bytesOf u).run Tryz.prog w = .ok ⟨(Lib.bytesOf a).toArray⟩ w := by
  obtain ⟨hoka, _, ⟨rfl, rfl⟩ | ⟨x, cap, rfl, hc, rfl⟩ | ⟨p, off, cap, rfl, h1, h2, h3, h4, h5⟩⟩ := h
  · rfl
  · rfl
  · have hl := Lib.run_loadBytesX (P := Tryz.prog) w a ⟨p, off, none⟩ .empty (fun j x hj => by
      have hjl : j < a.length := (List.getElem?_eq_some_iff.1 hj).1
      rw [add_plain, h5 j hjl, List.getD_eq_getElem?_getD, hj]; rfl)
    have he : (⟨ByteArray.empty.data ++ (Lib.bytesOf a).toArray⟩ : ByteArray) = ⟨(Lib.bytesOf a).toArray⟩ := by
      apply ByteArray.ext
      show (#[] : Array UInt8) ++ (Lib.bytesOf a).toArray = (Lib.bytesOf a).toArray
      simp
    rw [he] at hl
    exact hl

/-- The order of two rows: below 0, 0, above 0. -/
def cmpB (a b : List Int) : Int := Lib.compareBytes (Lib.bytesOf a) (Lib.bytesOf b)

theorem cmp_run (w : World) (u v : Value) (a b : List Int) (hu : Byt w u a) (hv : Byt w v b) : (callFunc 206 #[u, v]).run Tryz.prog w = .ok (.value (.int .i64 (cmpB a b))) w := by
  rw [run_callFunc_extern Tryz.func206 (by kernel_rfl) (by kernel_rfl) (by kernel_rfl) (e := Extern.BytealgCompare.compare) (by kernel_rfl)]
  have e : (Extern.BytealgCompare.compare #[u, v]).run Tryz.prog w = .ok (.int .i64 (cmpB a b)) w := by
    change Sem.run Tryz.prog (do pure (goInt (Extern.BytealgCompare.cmp (← Extern.Bytes.bytesOf u) (← Extern.Bytes.bytesOf v)))) w = _
    simp only [Sem.run_bind, Sem.run_pure, run_bytesOfB w u a hu, run_bytesOfB w v b hv, Result.andThen]
    rw [Lib.cmp_eq]
    rfl
  rw [e]
  rfl

theorem compare_less : ∀ (a b : List UInt8), Op.bytesLess a b = decide (Lib.compareBytes a b < 0)
  | [], [] => rfl
  | [], _ :: _ => rfl
  | _ :: _, [] => rfl
  | x :: a, y :: b => by
    have ih := compare_less a b
    unfold Op.bytesLess Lib.compareBytes
    by_cases h1 : x < y
    · simp [h1]
    · by_cases h2 : y < x
      · have hne : ¬ x = y := fun e => by subst e; exact h1 h2
        simp [h1, h2, hne]
      · have he : x = y := UInt8.le_antisymm (UInt8.not_lt.1 h2) (UInt8.not_lt.1 h1)
        subst he
        simp [h1, ih]
theorem lessB_cmp (a b : List Int) : lessT a b = decide (cmpB a b < 0) := by
  unfold lessT cmpB
  rw [toList_data, toList_data, str_list, str_list, compare_less]
  rfl
theorem cmpI_any (w : World) (u v : Value) (a b : List Int) (hu : Byt w u a) (hv : Byt w v b) :
    Calls Tryz.prog 180 #[u, v] w fun e w' => e = .returned (.int .i64 (cmpB a b)) ∧ w' = w := by
  have hr := cmp_run w u v a b hu hv
  obtain ⟨a1, k1, rfl, _⟩ := hu.shape
  obtain ⟨a2, k2, rfl, _⟩ := hv.shape
  generalize cmpB a b = c at *
  go_enter Tryz.func180, Tryz.ntmps180
  go_wp2
  go_ret
  exact ⟨rfl, rfl⟩
end Go.Proofs.YtpijenlmfmknnaaGreatDoor
