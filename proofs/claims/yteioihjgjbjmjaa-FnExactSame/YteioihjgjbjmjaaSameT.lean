/- spec.l2same answers whether two trees are one; spec.Same. -/
import Derived.Test.YteioihjgjbjmjaaNodeS
import Derived.Test.YteioihjgjbjmjaaToT5
import Derived.Test.YteioihjgjbjmjaaTool
namespace Go.Proofs.Yteioihjgjbjmjaa
open Go.RowKit
set_option linter.unusedVariables false
set_option maxRecDepth 100000

/-- Member by member. -/
def all2 {α β : Type} (f : α → β → Bool) : List α → List β → Bool
  | [], [] => true
  | a :: l, b :: m => f a b && all2 f l m
  | _, _ => false
theorem all2_iff {α : Type} {f : α → α → Bool} (h : ∀ a b, f a b = true ↔ a = b) : ∀ l m : List α, all2 f l m = true ↔ l = m
  | [], [] => by simp [all2]
  | [], _ :: _ => by simp [all2]
  | _ :: _, [] => by simp [all2]
  | a :: l, b :: m => by rw [all2, Bool.and_eq_true, h, all2_iff h l m, List.cons.injEq]
/-- Is it one tree. -/
def eqT : (n : Nat) → Tr n → Tr n → Bool
  | 0 => fun t _ => t.elim
  | n + 1 => fun t u => decide (t.kind = u.kind) && decide (t.name = u.name) && decide (t.text = u.text) && decide (t.attrs = u.attrs) && all2 (eqT n) t.kids u.kids
theorem eqT_succ (n : Nat) (t u : Tr (n + 1)) : eqT (n + 1) t u = (decide (t.kind = u.kind) && decide (t.name = u.name) && decide (t.text = u.text) && decide (t.attrs = u.attrs) && all2 (eqT n) t.kids u.kids) := rfl
theorem nd_ext {α : Type} {t u : Nd α} (h1 : t.kind = u.kind) (h2 : t.name = u.name) (h3 : t.text = u.text) (h4 : t.attrs = u.attrs) (h5 : t.kids = u.kids) : t = u := by
  cases t; cases u; simp only at h1 h2 h3 h4 h5; subst h1 h2 h3 h4 h5; rfl
theorem eqT_iff : ∀ (n : Nat) (t u : Tr n), eqT n t u = true ↔ t = u
  | 0, t, _ => t.elim
  | n + 1, t, u => by
    rw [eqT_succ, Bool.and_eq_true, Bool.and_eq_true, Bool.and_eq_true, Bool.and_eq_true, decide_eq_true_eq, decide_eq_true_eq, decide_eq_true_eq, decide_eq_true_eq, all2_iff (eqT_iff n)]
    constructor
    · rintro ⟨⟨⟨⟨h1, h2⟩, h3⟩, h4⟩, h5⟩
      exact nd_ext h1 h2 h3 h4 h5
    · intro h; subst h; exact ⟨⟨⟨⟨rfl, rfl⟩, rfl⟩, rfl⟩, rfl⟩
theorem eqT_yes {n : Nat} {t u : Tr n} (h : t = u) : eqT n t u = true := (eqT_iff n t u).2 h
theorem eqT_no {n : Nat} {t u : Tr n} (h : ¬ t = u) : eqT n t u = false := by rw [← Bool.not_eq_true, eqT_iff]; exact h

def SameSaid (n : Nat) : Prop := ∀ (w : World) (a b c d e a' b' c' d' e' : Value) (t u : Tr n), RdNode n w [a, b, c, d, e] t → RdNode n w [a', b', c', d', e'] u →
    Calls Try.prog 34 #[.agg #[a, b, c, d, e], .agg #[a', b', c', d', e']] w fun e w' => e = .returned (.bool (eqT n t u)) ∧ Below w.heap.size w w'

/-- A tree of its parts. -/
def mkT (n : Nat) (z : Int) (nm tx : List Int) (ats : List (List Int × List Int)) (kds : List (Tr n)) : Tr (n + 1) := (⟨z, nm, tx, ats, kds⟩ : Nd (Tr n))
theorem mkT_inj {n : Nat} {z z' : Int} {nm tx nm' tx' : List Int} {ats ats' : List (List Int × List Int)} {kds kds' : List (Tr n)} (h : mkT n z nm tx ats kds = mkT n z' nm' tx' ats' kds') : z = z' ∧ nm = nm' ∧ tx = tx' ∧ ats = ats' ∧ kds = kds' := by
  unfold mkT at h
  injection h with h1 h2 h3 h4 h5
  exact ⟨h1, h2, h3, h4, h5⟩

set_option maxHeartbeats 3200000 in
theorem same_core (n : Nat) (H : SameSaid n) (w : World) (z z' : Int) (nm tx nm' tx' : List Int) (ats ats' : List (List Int × List Int)) (kds kds' : List (Tr n)) (ab ac ad ae ab' ac' ad' ae' : Option Addr) (cb cc cd ce cb' cc' cd' ce' : Nat)
    (hb : Byt w (.slice ab nm.length cb) nm) (hc : Byt w (.slice ac tx.length cc) tx) (hd : RdAttrs w (.slice ad ats.length cd) ats) (he : RdKids n w (.slice ae kds.length ce) kds)
    (hb' : Byt w (.slice ab' nm'.length cb') nm') (hc' : Byt w (.slice ac' tx'.length cc') tx') (hd' : RdAttrs w (.slice ad' ats'.length cd') ats') (he' : RdKids n w (.slice ae' kds'.length ce') kds') :
    Calls Try.prog 34 #[.agg #[.int .i64 z, .slice ab nm.length cb, .slice ac tx.length cc, .slice ad ats.length cd, .slice ae kds.length ce], .agg #[.int .i64 z', .slice ab' nm'.length cb', .slice ac' tx'.length cc', .slice ad' ats'.length cd', .slice ae' kds'.length ce']] w fun e w' => e = .returned (.bool (eqT (n + 1) (mkT n z nm tx ats kds) (mkT n z' nm' tx' ats' kds'))) ∧ Below w.heap.size w w' := by
  have hm1 := hd.1
  have hm2 := he.1
  unfold maxLen at hm1 hm2
  obtain ⟨l0, l1, hA⟩ := two w #[.int .i64 z, .slice ab nm.length cb, .slice ac tx.length cc, .slice ad ats.length cd, .slice ae kds.length ce] #[.int .i64 z', .slice ab' nm'.length cb', .slice ac' tx'.length cc', .slice ad' ats'.length cd', .slice ae' kds'.length ce'] 32 32
  have v1 := conv_any _ _ _ (hb.keep hA)
  have v2 := conv_any _ _ _ (hc.keep hA)
  have v1' := conv_any _ _ _ (hb'.keep hA)
  have v2' := conv_any _ _ _ (hc'.keep hA)
  have q1 : ((str nm).toList == (str nm').toList) = decide (nm = nm') := str_beq hb.1 hb'.1
  have q2 : ((str tx).toList == (str tx').toList) = decide (tx = tx') := str_beq hc.1 hc'.1
  by_cases h0 : z = z'
  case neg =>
    have d0 : (z != z') = true := bne_iff_ne.2 h0
    have HE : Hid (eqT (n + 1) (mkT n z nm tx ats kds) (mkT n z' nm' tx' ats' kds') = false) := hide (eqT_no (fun h => h0 (mkT_inj h).1))
    clear h0
    clear q1 q2
    go_enter Try.func34, Try.ntmps34
    go_wp2
    go_ret
    exact ⟨by rw [unhide HE]; rfl, hA⟩
  subst h0
  by_cases h1 : nm = nm'
  case neg =>
    have d1 : ((str nm).toList == (str nm').toList) = false := (by rw [q1]; simpa using h1)
    have HE : Hid (eqT (n + 1) (mkT n z nm tx ats kds) (mkT n z nm' tx' ats' kds') = false) := hide (eqT_no (fun h => h1 (mkT_inj h).2.1))
    clear h1
    clear q1 q2
    go_enter Try.func34, Try.ntmps34
    go_wp2_with fail
    go_ret
    exact ⟨by rw [unhide HE]; rfl, hA⟩
  subst h1
  by_cases h2 : tx = tx'
  case neg =>
    have d2 : ((str tx).toList == (str tx').toList) = false := (by rw [q2]; simpa using h2)
    have HE : Hid (eqT (n + 1) (mkT n z nm tx ats kds) (mkT n z nm tx' ats' kds') = false) := hide (eqT_no (fun h => h2 (mkT_inj h).2.2.1))
    clear h2
    clear q1 q2
    go_enter Try.func34, Try.ntmps34
    go_wp2_with fail
    go_ret
    exact ⟨by rw [unhide HE]; rfl, hA⟩
  subst h2
  clear q1 q2
  by_cases h3 : ats.length = ats'.length
  case neg =>
    have d3 : ((ats.length : Int) == (ats'.length : Int)) = false := beq_eq_false_iff_ne.2 (by omega)
    have HE : Hid (eqT (n + 1) (mkT n z nm tx ats kds) (mkT n z nm tx ats' kds') = false) := hide (eqT_no (fun h => h3 (by rw [(mkT_inj h).2.2.2.1])))
    clear h3
    go_enter Try.func34, Try.ntmps34
    go_wp2_with fail
    go_ret
    exact ⟨by rw [unhide HE]; rfl, hA⟩
  generalize hna : ats.length = na at *
  generalize hna' : ats'.length = na' at *
  subst h3
  by_cases h4 : kds.length = kds'.length
  case neg =>
    have d4 : ((kds.length : Int) == (kds'.length : Int)) = false := beq_eq_false_iff_ne.2 (by omega)
    have HE : Hid (eqT (n + 1) (mkT n z nm tx ats kds) (mkT n z nm tx ats' kds') = false) := hide (eqT_no (fun h => h4 (by rw [(mkT_inj h).2.2.2.2])))
    clear h4
    go_enter Try.func34, Try.ntmps34
    go_wp2_with fail
    go_ret
    exact ⟨by rw [unhide HE]; rfl, hA⟩
  generalize hnk : kds.length = nk at *
  generalize hnk' : kds'.length = nk' at *
  subst h4
  go_enter Try.func34, Try.ntmps34
  go_wp2_with fail
  clear v1 v2 v1' v2' hb hc hb' hc'
  generalize hW : ((w.alloc (.cells #[.int .i64 z, .slice ab nm.length cb, .slice ac tx.length cc, .slice ad na cd, .slice ae nk ce] 32)).alloc (.cells #[.int .i64 z, .slice ab' nm.length cb', .slice ac' tx.length cc', .slice ad' na cd', .slice ae' nk ce'] 32)) = W at *
  clear hW
  have HD := hide (And.intro (hd.keep hA) (hd'.keep hA))
  have HK := hide (And.intro (he.keep hA) (he'.keep hA))
  have HN := hide (And.intro (And.intro hna hna') (And.intro hnk hnk'))
  clear hd hd' he he' hna hna' hnk hnk'
  go_loopw [5] (fun i wr => ∃ k : Nat, k ≤ na ∧ i = .int .i64 k ∧ (∀ j, j < k → ats.getD j ([], []) = ats'.getD j ([], [])) ∧ Below W.heap.size W wr) (fun i _ => na - (intOf i).toNat)
  case atStart => exact ⟨0, Nat.zero_le _, rfl, fun i hi => by omega, Below.refl _ _⟩
  case round =>
    obtain ⟨k, hk, rfl, ha, hB⟩ := hrel
    have HA' := hide ha
    clear ha
    by_cases hlt : k < na
    · obtain ⟨⟨hna, hna'⟩, _⟩ := unhide HN
      obtain ⟨b, off, rfl, g4, em, g1, g5⟩ := (unhide HD).1.at (k := k) (by omega)
      obtain ⟨b', off', rfl, g4', em', g1', g5'⟩ := (unhide HD).2.at (k := k) (by omega)
      obtain ⟨c0, c1, e0, e1, hc⟩ := two_of g5
      obtain ⟨_, _, ee, hc0, hc1⟩ := hc
      simp only [List.cons.injEq, and_true] at ee
      obtain ⟨rfl, rfl⟩ := ee
      obtain ⟨c0', c1', e0', e1', hc'⟩ := two_of g5'
      obtain ⟨_, _, ee, hc0', hc1'⟩ := hc'
      simp only [List.cons.injEq, and_true] at ee
      obtain ⟨rfl, rfl⟩ := ee
      replace e0 := (hB.cell (p := ⟨b, off + k * 2, none⟩) g4).trans e0
      replace e1 := (hB.cell (p := ⟨b, off + k * 2 + 1, none⟩) g4).trans e1
      replace e0' := (hB.cell (p := ⟨b', off' + k * 2, none⟩) g4').trans e0'
      replace e1' := (hB.cell (p := ⟨b', off' + k * 2 + 1, none⟩) g4').trans e1'
      replace hc0 := hc0.keep hB
      replace hc1 := hc1.keep hB
      replace hc0' := hc0'.keep hB
      replace hc1' := hc1'.keep hB
      have hg : ats.getD k ([], []) = ats[k] := by simp [show k < ats.length by omega]
      have hg' : ats'.getD k ([], []) = ats'[k] := by simp [show k < ats'.length by omega]
      obtain ⟨⟨x0, x1⟩, hx⟩ : ∃ x, x = ats[k] := ⟨_, rfl⟩
      obtain ⟨⟨x0', x1'⟩, hx'⟩ : ∃ x, x = ats'[k] := ⟨_, rfl⟩
      rw [← hx] at hc0 hc1 hg
      rw [← hx'] at hc0' hc1' hg'
      simp only at hc0 hc1 hc0' hc1'
      clear hx hx' g5 g5' em em'
      obtain ⟨p0, m0, rfl, _, _⟩ := hc0.shape
      obtain ⟨p1, m1, rfl, _, _⟩ := hc1.shape
      obtain ⟨p0', m0', rfl, _, _⟩ := hc0'.shape
      obtain ⟨p1', m1', rfl, _, _⟩ := hc1'.shape
      obtain ⟨y0, y1, y2, y3, y4⟩ := (l0.all hB).five
      obtain ⟨y0', y1', y2', y3', y4'⟩ := (l1.all hB).five
      have hlt' : (k : Int) < (na : Int) := by omega
      have hk0 : (0 : Int) ≤ (k : Int) := by omega
      have v0 := fun q => conv_any (wr.drewN q) _ _ (hc0.keep (below_drewN (Below.refl _ _) q))
      have v1 := fun q => conv_any (wr.drewN q) _ _ (hc1.keep (below_drewN (Below.refl _ _) q))
      have v0' := fun q => conv_any (wr.drewN q) _ _ (hc0'.keep (below_drewN (Below.refl _ _) q))
      have v1' := fun q => conv_any (wr.drewN q) _ _ (hc1'.keep (below_drewN (Below.refl _ _) q))
      have q0 : ((str x0).toList == (str x0').toList) = decide (x0 = x0') := str_beq hc0.1 hc0'.1
      have q1 : ((str x1).toList == (str x1').toList) = decide (x1 = x1') := str_beq hc1.1 hc1'.1
      have HG := hide (And.intro hg hg')
      clear hna hna' hg hg'
      by_cases h0 : x0 = x0'
      case neg =>
        have d0 : ((str x0).toList == (str x0').toList) = false := by rw [q0]; simpa using h0
        have HE : Hid (eqT (n + 1) (mkT n z nm tx ats kds) (mkT n z nm tx ats' kds') = false) := hide (eqT_no (fun h => h0 (by
          have e := (mkT_inj h).2.2.2.1
          have := (unhide HG).1
          rw [e, (unhide HG).2] at this
          injection this with this _
          exact this.symm)))
        clear q0 q1 h0
        go_wp2_with fail
        go_quiet (fail)
        go_wp2_with fail
        go_ret
        exact ⟨by rw [unhide HE]; rfl, hA.trans (below_drewN hB _ |>.mono hA.size)⟩
      subst h0
      by_cases h1 : x1 = x1'
      case neg =>
        have d1 : ((str x1).toList == (str x1').toList) = false := by rw [q1]; simpa using h1
        have HE : Hid (eqT (n + 1) (mkT n z nm tx ats kds) (mkT n z nm tx ats' kds') = false) := hide (eqT_no (fun h => h1 (by
          have e := (mkT_inj h).2.2.2.1
          have := (unhide HG).1
          rw [e, (unhide HG).2] at this
          injection this with _ this
          exact this.symm)))
        clear q0 q1 h1
        go_wp2_with fail
        go_quiet (fail)
        go_wp2_with fail
        go_ret
        exact ⟨by rw [unhide HE]; rfl, hA.trans (below_drewN hB _ |>.mono hA.size)⟩
      subst h1
      have HT := hide ((unhide HG).1.trans (unhide HG).2.symm)
      clear q0 q1
      go_wp2_with fail
      go_quiet (fail)
      go_wp2_with fail
      go_roundw
      case rel => exact ⟨k + 1, by omega, by go_num, fun i hi => step_all (p := fun j => ats.getD j ([], []) = ats'.getD j ([], [])) (unhide HA') (unhide HT) i hi, below_drewN hB _⟩
      case measure => simp [intOf]; omega
    · have e : k = na := by omega
      subst e
      have HX : Hid (ats = ats') := hide (by
        obtain ⟨⟨hna, hna'⟩, _⟩ := unhide HN
        refine List.ext_getElem (by omega) fun i h1 h2 => ?_
        have := unhide HA' i (by omega)
        simpa [h1, h2] using this)
      obtain ⟨y0, y1, y2, y3, y4⟩ := (l0.all hB).five
      obtain ⟨y0', y1', y2', y3', y4'⟩ := (l1.all hB).five
      go_wp2_with fail
      clear hk hlt y0 y1 y2 y3 y4 y0' y1' y2' y3' y4' HA' HD
      have HB := hide hB
      clear hB
      go_loopw [6] (fun i wr => ∃ k : Nat, k ≤ nk ∧ i = .int .i64 k ∧ (∀ j, j < k → ∀ (h : j < kds.length) (h' : j < kds'.length), kds[j] = kds'[j]) ∧ Below W.heap.size W wr) (fun i _ => nk - (intOf i).toNat)
      case atStart => exact ⟨0, Nat.zero_le _, rfl, fun i hi => by omega, unhide HB⟩
      case round =>
        clear HB
        obtain ⟨k, hk, rfl, ha, hB⟩ := hrel
        have HA' := hide ha
        clear ha
        by_cases hlt : k < nk
        · obtain ⟨_, hnk, hnk'⟩ := unhide HN
          obtain ⟨b, off, rfl, g4, em, g1, g5⟩ := (unhide HK).1.at (k := k) (by omega)
          obtain ⟨b', off', rfl, g4', em', g1', g5'⟩ := (unhide HK).2.at (k := k) (by omega)
          obtain ⟨c0, c1, c2, c3, c4, e0, e1, e2, e3, e4, hc⟩ := five_of g5
          obtain ⟨f0, f1, f2, f3, f4, i0, i1, i2, i3, i4, hf⟩ := five_of g5'
          replace e0 := (hB.cell (p := ⟨b, off + k * 5, none⟩) g4).trans e0
          replace e1 := (hB.cell (p := ⟨b, off + k * 5 + 1, none⟩) g4).trans e1
          replace e2 := (hB.cell (p := ⟨b, off + k * 5 + 2, none⟩) g4).trans e2
          replace e3 := (hB.cell (p := ⟨b, off + k * 5 + 3, none⟩) g4).trans e3
          replace e4 := (hB.cell (p := ⟨b, off + k * 5 + 4, none⟩) g4).trans e4
          replace i0 := (hB.cell (p := ⟨b', off' + k * 5, none⟩) g4').trans i0
          replace i1 := (hB.cell (p := ⟨b', off' + k * 5 + 1, none⟩) g4').trans i1
          replace i2 := (hB.cell (p := ⟨b', off' + k * 5 + 2, none⟩) g4').trans i2
          replace i3 := (hB.cell (p := ⟨b', off' + k * 5 + 3, none⟩) g4').trans i3
          replace i4 := (hB.cell (p := ⟨b', off' + k * 5 + 4, none⟩) g4').trans i4
          replace hc := hc.keep hB
          replace hf := hf.keep hB
          have lk : k < kds.length := by omega
          have lk' : k < kds'.length := by omega
          obtain ⟨x, hx⟩ : ∃ x, x = kds[k] := ⟨_, rfl⟩
          obtain ⟨x', hx'⟩ : ∃ x, x = kds'[k] := ⟨_, rfl⟩
          rw [← hx] at hc
          rw [← hx'] at hf
          clear g5 g5' em em'
          obtain ⟨y0, y1, y2, y3, y4⟩ := (l0.all hB).five
          obtain ⟨y0', y1', y2', y3', y4'⟩ := (l1.all hB).five
          have hlt' : (k : Int) < (nk : Int) := by omega
          have hk0 : (0 : Int) ≤ (k : Int) := by omega
          have HL := hide (And.intro (And.intro lk lk') (And.intro hx hx'))
          clear hx hx' hnk hnk'
          by_cases hxx : x = x'
          · have HQ := hide (eqT_yes hxx)
            have HT := hide hxx
            clear hxx
            go_wp2_with fail
            go_region_held3 (fun w' => w'.cell? ⟨w.heap.size, 4, none⟩ = some (.slice (some ⟨b, off, none⟩) nk ce) ∧ w'.cell? ⟨w.heap.size + 1, 4, none⟩ = some (.slice (some ⟨b', off', none⟩) nk ce') ∧ w'.cell? ⟨b, off + k * 5, none⟩ = some c0 ∧ w'.cell? ⟨b, off + k * 5 + 1, none⟩ = some c1 ∧ w'.cell? ⟨b, off + k * 5 + 2, none⟩ = some c2 ∧ w'.cell? ⟨b, off + k * 5 + 3, none⟩ = some c3 ∧ w'.cell? ⟨b, off + k * 5 + 4, none⟩ = some c4 ∧ w'.cell? ⟨b', off' + k * 5, none⟩ = some f0 ∧ w'.cell? ⟨b', off' + k * 5 + 1, none⟩ = some f1 ∧ w'.cell? ⟨b', off' + k * 5 + 2, none⟩ = some f2 ∧ w'.cell? ⟨b', off' + k * 5 + 3, none⟩ = some f3 ∧ w'.cell? ⟨b', off' + k * 5 + 4, none⟩ = some f4) (first | exact ⟨by assumption, by assumption, by assumption, by assumption, by assumption, by assumption, by assumption, by assumption, by assumption, by assumption, by assumption, by assumption⟩ | simp [*]) ((go_at_call 34; refine (H _ c0 c1 c2 c3 c4 f0 f1 f2 f3 f4 x x' (by exact hc.keep ((Below.refl _ _).drew)) (by exact hf.keep ((Below.refl _ _).drew))).mono ?_; rintro e w2 ⟨rfl, hB2⟩; have s0 := cell_later hB2 e0; have s1 := cell_later hB2 e1; have s2 := cell_later hB2 e2; have s3 := cell_later hB2 e3; have s4 := cell_later hB2 e4; have r0 := cell_later hB2 i0; have r1 := cell_later hB2 i1; have r2 := cell_later hB2 i2; have r3 := cell_later hB2 i3; have r4 := cell_later hB2 i4; have s5 := cell_later hB2 y4; have r5 := cell_later hB2 y4'; rw [unhide HQ]))
            have hB3 := hB.trans ((Below.drew (Below.refl wr.heap.size wr)).trans hB2 |>.mono hB.size)
            clear e0 e1 e2 e3 e4 i0 i1 i2 i3 i4 s0 s1 s2 s3 s4 r0 r1 r2 r3 r4 hB2 hc hf s5 r5
            go_wp2_with fail
            go_roundw
            case rel =>
              refine ⟨k + 1, by omega, by go_num, ?_, hB3⟩
              intro j hj h1 h2
              by_cases ej : j = k
              · subst ej
                have := unhide HT
                rw [(unhide HL).2.1, (unhide HL).2.2] at this
                exact this
              · exact unhide HA' j (by omega) h1 h2
            case measure => simp [intOf]; omega
          · have HQ := hide (eqT_no hxx)
            have HE : Hid (eqT (n + 1) (mkT n z nm tx ats kds) (mkT n z nm tx ats' kds') = false) := hide (eqT_no (fun h => hxx (by
              have e := (mkT_inj h).2.2.2.2
              rw [(unhide HL).2.1, (unhide HL).2.2]
              simp only [e])))
            clear hxx
            go_wp2_with fail
            go_region_held3 (fun w' => w'.cell? ⟨w.heap.size, 4, none⟩ = some (.slice (some ⟨b, off, none⟩) nk ce) ∧ w'.cell? ⟨w.heap.size + 1, 4, none⟩ = some (.slice (some ⟨b', off', none⟩) nk ce') ∧ w'.cell? ⟨b, off + k * 5, none⟩ = some c0 ∧ w'.cell? ⟨b, off + k * 5 + 1, none⟩ = some c1 ∧ w'.cell? ⟨b, off + k * 5 + 2, none⟩ = some c2 ∧ w'.cell? ⟨b, off + k * 5 + 3, none⟩ = some c3 ∧ w'.cell? ⟨b, off + k * 5 + 4, none⟩ = some c4 ∧ w'.cell? ⟨b', off' + k * 5, none⟩ = some f0 ∧ w'.cell? ⟨b', off' + k * 5 + 1, none⟩ = some f1 ∧ w'.cell? ⟨b', off' + k * 5 + 2, none⟩ = some f2 ∧ w'.cell? ⟨b', off' + k * 5 + 3, none⟩ = some f3 ∧ w'.cell? ⟨b', off' + k * 5 + 4, none⟩ = some f4) (first | exact ⟨by assumption, by assumption, by assumption, by assumption, by assumption, by assumption, by assumption, by assumption, by assumption, by assumption, by assumption, by assumption⟩ | simp [*]) ((go_at_call 34; refine (H _ c0 c1 c2 c3 c4 f0 f1 f2 f3 f4 x x' (by exact hc.keep ((Below.refl _ _).drew)) (by exact hf.keep ((Below.refl _ _).drew))).mono ?_; rintro e w2 ⟨rfl, hB2⟩; have s0 := cell_later hB2 e0; have s1 := cell_later hB2 e1; have s2 := cell_later hB2 e2; have s3 := cell_later hB2 e3; have s4 := cell_later hB2 e4; have r0 := cell_later hB2 i0; have r1 := cell_later hB2 i1; have r2 := cell_later hB2 i2; have r3 := cell_later hB2 i3; have r4 := cell_later hB2 i4; have s5 := cell_later hB2 y4; have r5 := cell_later hB2 y4'; rw [unhide HQ]))
            have hB3 := hB.trans ((Below.drew (Below.refl wr.heap.size wr)).trans hB2 |>.mono hB.size)
            clear e0 e1 e2 e3 e4 i0 i1 i2 i3 i4 s0 s1 s2 s3 s4 r0 r1 r2 r3 r4 hB2 hc hf s5 r5
            go_wp2_with fail
            go_ret
            exact ⟨by rw [unhide HE]; rfl, hA.trans (hB3.mono hA.size)⟩
        · have HE : Hid (eqT (n + 1) (mkT n z nm tx ats kds) (mkT n z nm tx ats' kds') = true) := hide (eqT_yes (by
            rw [unhide HX]
            congr 1
            obtain ⟨_, hnk, hnk'⟩ := unhide HN
            refine List.ext_getElem (by omega) fun i h1 h2 => ?_
            exact unhide HA' i (by omega) h1 h2))
          obtain ⟨y0, y1, y2, y3, y4⟩ := (l0.all hB).five
          obtain ⟨y0', y1', y2', y3', y4'⟩ := (l1.all hB).five
          go_wp2_with fail
          go_ret
          exact ⟨by rw [unhide HE]; rfl, hA.trans (hB.mono hA.size)⟩

theorem same_succ (n : Nat) (H : SameSaid n) : SameSaid (n + 1) := by
  intro w a b c d e a' b' c' d' e' t u hr hr'
  obtain ⟨_, _, _, _, e0, k1, k2, hb, hc, hd, he⟩ := hr
  simp only [List.cons.injEq, and_true] at e0
  obtain ⟨rfl, rfl, rfl, rfl, rfl⟩ := e0
  obtain ⟨_, _, _, _, e0, k1', k2', hb', hc', hd', he'⟩ := hr'
  simp only [List.cons.injEq, and_true] at e0
  obtain ⟨rfl, rfl, rfl, rfl, rfl⟩ := e0
  obtain ⟨ab, cb, rfl, _, _⟩ := hb.shape
  obtain ⟨ac, cc, rfl, _, _⟩ := hc.shape
  obtain ⟨ad, cd, rfl, _, _⟩ := Elems.shape hd
  obtain ⟨ae, ce, rfl, _, _⟩ := Elems.shape he
  obtain ⟨ab', cb', rfl, _, _⟩ := hb'.shape
  obtain ⟨ac', cc', rfl, _, _⟩ := hc'.shape
  obtain ⟨ad', cd', rfl, _, _⟩ := Elems.shape hd'
  obtain ⟨ae', ce', rfl, _, _⟩ := Elems.shape he'
  exact same_core n H w t.kind u.kind t.name t.text u.name u.text t.attrs u.attrs t.kids u.kids ab ac ad ae ab' ac' ad' ae' cb cc cd ce cb' cc' cd' ce' hb hc hd he hb' hc' hd' he'

theorem same_any (n : Nat) : SameSaid n := by
  induction n with
  | zero => exact fun _ _ _ _ _ _ _ _ _ _ _ t => t.elim
  | succ n ih => exact same_succ n ih

/-- Two trees that may be, and are one. -/
def sameN (n : Nat) (t u : Tr (n + 1)) : Bool := okN n t && (okN n u && eqT (n + 1) t u)

end Go.Proofs.Yteioihjgjbjmjaa
