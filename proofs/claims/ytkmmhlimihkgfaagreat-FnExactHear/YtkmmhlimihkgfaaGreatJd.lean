/- Own texts joined: MarkOs, EqOs, HeldOs, MkIs, HdIs, MarkR, PutV, QGr, Via, BsI, ShO, SetSh, App, AppSh, KlM, RlB, Num, PutM, TextM, BackM. -/
import Derived.Test.YtkmmhlimihkgfaaGreatJa
import Derived.Test.YtkmmhlimihkgfaaGreatJb
import Derived.Test.YtkmmhlimihkgfaaGreatJc
import Derived.Deep.RegionHeld3
import Derived.BigQuiet
import Derived.Test.YtkmmhlimihkgfaaGreatChecked
import Derived.Deep.QuietTactic

/- laws.markOpS, by its contract. -/
namespace Go.Proofs.YtkmmhlimihkgfaaGreat
open Go.RowKit
set_option linter.unusedVariables false
set_option maxRecDepth 100000

theorem OwOpC.len {w : World} {C : List Value} {o : OpV} {F : List Nat} (h : OwOpC w C o F) : C.length = 12 := by
  obtain ⟨k, n, t, rfl, _⟩ := h; rfl
theorem nodup3 {a b c : List Nat} (h : (a ++ b ++ c).Nodup) : (∀ g ∈ a, g ∉ b ∧ g ∉ c) ∧ (∀ g ∈ b, g ∉ c) := by
  have h1 := List.nodup_append.1 h
  have h2 := List.nodup_append.1 h1.1
  exact ⟨fun g ha => ⟨fun hb => h2.2.2 g ha g hb rfl, fun hc => h1.2.2 g (List.mem_append_left _ ha) g hc rfl⟩, fun g hb hc => h1.2.2 g (List.mem_append_right _ hb) g hc rfl⟩

set_option maxHeartbeats 20000000 in
theorem markOs_any (w : World) (v : Value) (l : List OpV) (F : List Nat) (k : Int) (h : OwOps w v l F) (hF : F.Nodup) (hs : cntOs l ≤ 16777216) (h0 : 0 ≤ k) (h1 : k ≤ 900000000) :
    Calls Tryz.prog 19 #[v, .int .i64 k] w fun e w' => e = .returned (.int .i64 (k + (cntOs l : Nat))) ∧ OwOps w' v (mkOs l k) F ∧ Frm w w' F := by
  have hml := OwElems.len h
  unfold maxLen at hml
  obtain ⟨Cs, Fs, hCl, hFl, hR, hrow, rfl⟩ := h
  have hFv := nodup_part hF
  have hFn := (List.nodup_append.1 hF).2.1
  by_cases hl0 : l = []
  · subst hl0
    obtain ⟨a, cap, rfl⟩ := own_nil_shape hrow
    have HW := hide (show OwOps w (.slice a ([] : List OpV).length cap) (mkOs [] k) _ from ⟨Cs, Fs, hCl, hFl, hR, hrow, rfl⟩)
    clear hrow hR
    go_enter Tryz.func19, Tryz.ntmps19
    go_wp2_with fail
    refine wp_loop_rounds 1 ?_
    rw [rounds_succ]
    go_wp2_with fail
    go_ret
    exact ⟨by simp [cntOs], unhide HW, Frm.refl _ _⟩
  have hv : ∃ g cap, v = .slice (some ⟨g, 0, none⟩) l.length cap := by
    rcases hrow.2 with ⟨_, h⟩ | ⟨g, cap, cur, rfl, _⟩
    · exact absurd (List.eq_nil_of_length_eq_zero h) hl0
    · exact ⟨g, cap, rfl⟩
  obtain ⟨g, cap, rfl⟩ := hv
  have hgF : ∀ i, g ∉ Fs.getD i [] := fun i hi => hFv g (by simp [FB, Value.ownBlock]) (mem_flat hi)
  have hFB : FB (.slice (some ⟨g, 0, none⟩) l.length cap) = [g] := rfl
  rw [hFB] at hF hFv ⊢
  have HR := hide hR
  have HROW := hide hrow
  have hm' : (l.length : Int) ≤ 9223372036854775807 := by omega
  clear hR hrow hFB
  go_enter Tryz.func19, Tryz.ntmps19
  go_wp2_with fail
  go_loopw [1, 5] (fun c i wr => ∃ j : Nat, j ≤ l.length ∧ i = .int .i64 j ∧ c = .int .i64 (k + (cntOs (l.take j) : Nat)) ∧ ∃ Ds : List (List Value), Ds.length = l.length ∧ wr.ownsRow 0 28 12 (.slice (some ⟨g, 0, none⟩) l.length cap) l.length Ds.flatten ∧
      (∀ i (hi : i < (mkOs l k).length), i < j → OwOpC wr (Ds.getD i []) (mkOs l k)[i] (Fs.getD i [])) ∧ (∀ i (hi : i < l.length), j ≤ i → OwOpC wr (Ds.getD i []) l[i] (Fs.getD i [])) ∧ Frm w wr ([g] ++ Fs.flatten)) (fun _ i _ => l.length - (intOf i).toNat)
  case atStart => exact ⟨0, Nat.zero_le _, rfl, by simp [cntOs], Cs, hCl, unhide HROW, fun i hi hj => by omega, fun i hi _ => (unhide HR i hi).2, Frm.refl _ _⟩
  case round =>
    obtain ⟨j, hj, rfl, rfl, Ds, hDl, hr, hdone, htodo, hf⟩ := hrel
    have hD : ∀ i, i < Ds.length → (Ds.getD i []).length = 12 := fun i hi => by
      by_cases hij : i < j
      · exact (hdone i (by rw [mkOs_len]; omega) hij).len
      · exact (htodo i (by omega) (by omega)).len
    by_cases hjl : j < l.length
    · obtain ⟨kv, nv, tv, hab, hk, hn, ht, hFj⟩ := htodo j hjl (Nat.le_refl _)
      have hct := cntOs_take l j hjl
      have hcl := cntOs_le l (j + 1)
      unfold szO at hct
      have hat := mkOs_at l k j hjl (by rw [mkOs_len]; exact hjl)
      obtain ⟨x, hx⟩ : ∃ x, x = l[j] := ⟨_, rfl⟩
      rw [← hx] at hk hn ht hct hat hab
      obtain ⟨q, hq⟩ : ∃ q : Int, q = k + (cntOs (l.take j) : Nat) := ⟨_, rfl⟩
      rw [← hq] at hat ⊢
      have hq0 : 0 ≤ q := by omega
      have hq1 : q ≤ 917000000 := by omega
      obtain ⟨pk, ck, rfl, _, _⟩ := hk.ints.shape
      obtain ⟨pn, cn, rfl, _, _⟩ := hn.byt.shape
      obtain ⟨pt, ct, rfl, _, _⟩ := ht.byt.shape
      have hFjn := nodup_at (i := j) hFn
      rw [hFj] at hFjn
      obtain ⟨na, nb'⟩ := nodup3 hFjn
      have R0 := RowJ.start hDl hD j hjl hr
      rw [hab] at R0
      have c0 := R0.cell 0 (by omega)
      have f0 := R0.frozen (j * 12)
      have c1 := R0.cell 1 (by omega)
      have f1 := R0.frozen (j * 12 + 1)
      have c2 := R0.cell 2 (by omega)
      have f2 := R0.frozen (j * 12 + 2)
      have c3 := R0.cell 3 (by omega)
      have f3 := R0.frozen (j * 12 + 3)
      have c4 := R0.cell 4 (by omega)
      have f4 := R0.frozen (j * 12 + 4)
      have c5 := R0.cell 5 (by omega)
      have f5 := R0.frozen (j * 12 + 5)
      have c6 := R0.cell 6 (by omega)
      have f6 := R0.frozen (j * 12 + 6)
      simp only [List.getElem?_cons_zero, List.getElem?_cons_succ, Nat.add_zero] at c0 c1 c2 c3 c4 c5 c6
      have R1 := (((((((R0.put 0 (by omega) (.int .i64 q)).put 1 (by omega) (.int .i64 (q + 1))).put 2 (by omega) (.int .i64 (q + 1 + 1))).put 3 (by omega) (.int .i64 (q + 1 + 1 + 1))).put 4 (by omega) (.int .i64 (q + 1 + 1 + 1 + 1))).put 5 (by omega) (.int .i64 (q + 1 + 1 + 1 + 1 + 1))).put 6 (by omega) (.int .i64 (q + 1 + 1 + 1 + 1 + 1 + 1)))
      simp only [Nat.add_zero, List.set_cons_zero, List.set_cons_succ] at R1
      have F1 : Frm wr (((((((wr.setCell ⟨g, j * 12, none⟩ (.int .i64 q)).setCell ⟨g, j * 12 + 1, none⟩ (.int .i64 (q + 1))).setCell ⟨g, j * 12 + 2, none⟩ (.int .i64 (q + 1 + 1))).setCell ⟨g, j * 12 + 3, none⟩ (.int .i64 (q + 1 + 1 + 1))).setCell ⟨g, j * 12 + 4, none⟩ (.int .i64 (q + 1 + 1 + 1 + 1))).setCell ⟨g, j * 12 + 5, none⟩ (.int .i64 (q + 1 + 1 + 1 + 1 + 1))).setCell ⟨g, j * 12 + 6, none⟩ (.int .i64 (q + 1 + 1 + 1 + 1 + 1 + 1))) [g] := (((((((set_frm wr g (j * 12) (.int .i64 q)).trans (set_frm _ g (j * 12 + 1) (.int .i64 (q + 1)))).trans (set_frm _ g (j * 12 + 2) (.int .i64 (q + 1 + 1)))).trans (set_frm _ g (j * 12 + 3) (.int .i64 (q + 1 + 1 + 1)))).trans (set_frm _ g (j * 12 + 4) (.int .i64 (q + 1 + 1 + 1 + 1)))).trans (set_frm _ g (j * 12 + 5) (.int .i64 (q + 1 + 1 + 1 + 1 + 1)))).trans (set_frm _ g (j * 12 + 6) (.int .i64 (q + 1 + 1 + 1 + 1 + 1 + 1))))
      have c7 := R1.cell 7 (by omega)
      simp only [List.getElem?_cons_zero, List.getElem?_cons_succ] at c7
      have HX := hide hx
      have HQ := hide hq
      have HT := hide hat
      have HCT := hide hct
      have HFJ := hide hFj
      have HDN := hide hdone
      have HTD := hide htodo
      have hx0 : x.key.length ≤ 16777216 := by omega
      have hx1 : x.name.length ≤ 16777216 := by omega
      have hx2 : x.text.length ≤ 16777216 := by omega
      have hjl' : (j : Int) < (l.length : Int) := by omega
      have hgn : g ∉ Fs.getD j [] := hgF j
      rw [unhide HFJ] at hgn
      simp only [List.mem_append, not_or] at hgn
      obtain ⟨⟨hgk, hgnn⟩, hgt⟩ := hgn
      have hk1 := hk.frm F1 (fun p hp hp' => by simp at hp'; subst hp'; exact hgk hp)
      have hn1 := hn.frm F1 (fun p hp hp' => by simp at hp'; subst hp'; exact hgnn hp)
      have ht1 := ht.frm F1 (fun p hp hp' => by simp at hp'; subst hp'; exact hgt hp)
      clear hx hq hat hct hFj hdone htodo hcl hr hab hk hn ht hFjn R0
      go_wp2_with fail
      generalize (((((((wr.setCell ⟨g, j * 12, none⟩ (.int .i64 q)).setCell ⟨g, j * 12 + 1, none⟩ (.int .i64 (q + 1))).setCell ⟨g, j * 12 + 2, none⟩ (.int .i64 (q + 1 + 1))).setCell ⟨g, j * 12 + 3, none⟩ (.int .i64 (q + 1 + 1 + 1))).setCell ⟨g, j * 12 + 4, none⟩ (.int .i64 (q + 1 + 1 + 1 + 1))).setCell ⟨g, j * 12 + 5, none⟩ (.int .i64 (q + 1 + 1 + 1 + 1 + 1))).setCell ⟨g, j * 12 + 6, none⟩ (.int .i64 (q + 1 + 1 + 1 + 1 + 1 + 1))) = w1 at *
      clear c0 c1 c2 c3 c4 c5 c6 f0 f1 f2 f3 f4 f5 f6 c7
      refine (markZ_any w1 0 _ x.key (q + 1 + 1 + 1 + 1 + 1 + 1 + 1) hk1 hx0 (by omega) (by omega)).mono ?_
      rintro e w2 ⟨rfl, hk2, hg2⟩
      have F2 := Frm.ofGrown hg2
      have R2 := R1.frm F2 hgk
      have hn2 := hn1.frm F2 (fun p hp hp' => (na p hp').1 hp)
      have ht2 := ht1.frm F2 (fun p hp hp' => (na p hp').2 hp)
      have c8 := R2.cell 8 (by omega)
      have f8 := R2.frozen (j * 12 + 8)
      have R3 := R2.put 8 (by omega) (.int .i64 (q + 1 + 1 + 1 + 1 + 1 + 1 + 1 + (x.key.length : Int)))
      have F3 := set_frm w2 g (j * 12 + 8) (.int .i64 (q + 1 + 1 + 1 + 1 + 1 + 1 + 1 + (x.key.length : Int)))
      have c9 := R3.cell 9 (by omega)
      simp only [List.set_cons_zero, List.set_cons_succ, List.getElem?_cons_zero, List.getElem?_cons_succ] at c8 c9 R3
      have hk3 := hk2.frm F3 (fun p hp hp' => by simp at hp'; subst hp'; exact hgk hp)
      have hn3 := hn2.frm F3 (fun p hp hp' => by simp at hp'; subst hp'; exact hgnn hp)
      have ht3 := ht2.frm F3 (fun p hp hp' => by simp at hp'; subst hp'; exact hgt hp)
      clear R1 R2 hk1 hn1 ht1 hk2 hn2 ht2 hg2
      go_wp2_with fail
      generalize (w2.setCell ⟨g, j * 12 + 8, none⟩ (.int .i64 (q + 1 + 1 + 1 + 1 + 1 + 1 + 1 + (x.key.length : Int)))) = w3 at *
      clear c8 f8 c9
      refine (markB_any w3 0 _ x.name (q + 1 + 1 + 1 + 1 + 1 + 1 + 1 + (x.key.length : Int) + 1) hn3 hx1 (by omega) (by omega)).mono ?_
      rintro e w4 ⟨rfl, hn4, hg4⟩
      have F4 := Frm.ofGrown hg4
      have R4 := R3.frm F4 hgnn
      have hk4 := hk3.frm F4 (fun p hp hp' => (na p hp).1 hp')
      have ht4 := ht3.frm F4 (fun p hp hp' => nb' p hp' hp)
      have c10 := R4.cell 10 (by omega)
      simp only [List.getElem?_cons_zero, List.getElem?_cons_succ] at c10
      clear R3 hk3 hn3 ht3 hg4
      go_wp2_with fail
      clear c10
      refine (markB_any w4 0 _ x.text (q + 1 + 1 + 1 + 1 + 1 + 1 + 1 + (x.key.length : Int) + 1 + (x.name.length : Int)) ht4 hx2 (by omega) (by omega)).mono ?_
      rintro e w5 ⟨rfl, ht5, hg5⟩
      have F5 := Frm.ofGrown hg5
      have R5 := R4.frm F5 hgt
      have hk5 := hk4.frm F5 (fun p hp hp' => (na p hp).2 hp')
      have hn5 := hn4.frm F5 (fun p hp hp' => nb' p hp hp')
      have c11 := R5.cell 11 (by omega)
      have f11 := R5.frozen (j * 12 + 11)
      have R6 := R5.put 11 (by omega) (.bool ((q + 1 + 1 + 1 + 1 + 1 + 1 + 1 + (x.key.length : Int) + 1 + (x.name.length : Int) + (x.text.length : Int)) % 3 == 0))
      have F6 := set_frm w5 g (j * 12 + 11) (.bool ((q + 1 + 1 + 1 + 1 + 1 + 1 + 1 + (x.key.length : Int) + 1 + (x.name.length : Int) + (x.text.length : Int)) % 3 == 0))
      simp only [List.set_cons_zero, List.set_cons_succ, List.getElem?_cons_zero, List.getElem?_cons_succ] at c11 R6
      have hk6 := hk5.frm F6 (fun p hp hp' => by simp at hp'; subst hp'; exact hgk hp)
      have hn6 := hn5.frm F6 (fun p hp hp' => by simp at hp'; subst hp'; exact hgnn hp)
      have ht6 := ht5.frm F6 (fun p hp hp' => by simp at hp'; subst hp'; exact hgt hp)
      have FJ : Frm wr (w5.setCell ⟨g, j * 12 + 11, none⟩ (.bool ((q + 1 + 1 + 1 + 1 + 1 + 1 + 1 + (x.key.length : Int) + 1 + (x.name.length : Int) + (x.text.length : Int)) % 3 == 0))) ([g] ++ Fs.getD j []) := by
        have m0 : ∀ p, p ∈ [g] → p ∈ [g] ++ Fs.getD j [] := fun p hp => List.mem_append_left _ hp
        have m1 : ∀ p, p ∈ (Value.slice pk x.key.length ck).ownBlock.toList → p ∈ [g] ++ Fs.getD j [] := fun p hp => by rw [unhide HFJ]; simp [FB, hp]
        have m2 : ∀ p, p ∈ (Value.slice pn x.name.length cn).ownBlock.toList → p ∈ [g] ++ Fs.getD j [] := fun p hp => by rw [unhide HFJ]; simp [FB, hp]
        have m3 : ∀ p, p ∈ (Value.slice pt x.text.length ct).ownBlock.toList → p ∈ [g] ++ Fs.getD j [] := fun p hp => by rw [unhide HFJ]; simp [FB, hp]
        exact (((((F1.mono m0).trans (F2.mono m1)).trans (F3.mono m0)).trans (F4.mono m2)).trans (F5.mono m3)).trans (F6.mono m0)
      clear R4 R5 hk4 hn4 ht4 hk5 hn5 ht5 hg5 F1 F2 F3 F4 F5 F6
      go_wp2_with fail
      go_roundw
      case rel =>
        refine ⟨j + 1, by omega, by go_num, ?_, Ds.set j _, by rw [List.length_set]; exact hDl, R6.row, fun i hi hij => ?_, fun i hi hij => ?_, hf.trans (FJ.mono (fun p hp => ?_))⟩
        · rw [unhide HCT, unhide HQ]; go_num
        · by_cases e : i = j
          · subst e
            rw [unhide HT, getD_set_at _ _ _ (by omega)]
            exact ⟨_, _, _, by simp only [mkO], hk6, hn6, ht6, unhide HFJ⟩
          · rw [getD_set_ne _ _ _ _ e]
            exact (unhide HDN i hi (by omega)).frm FJ (fun p hp hp' => by
              rcases List.mem_append.1 hp' with h | h
              · simp at h; subst h; exact hgF i hp
              · exact nodup_flat hFn e p hp h)
        · rw [getD_set_ne _ _ _ _ (by omega)]
          exact (unhide HTD i hi (by omega)).frm FJ (fun p hp hp' => by
            rcases List.mem_append.1 hp' with h | h
            · simp at h; subst h; exact hgF i hp
            · exact nodup_flat hFn (by omega) p hp h)
        · rcases List.mem_append.1 hp with h | h
          · exact List.mem_append_left _ h
          · exact List.mem_append_right _ (mem_flat h)
      case measure => simp [intOf]; omega
    · have e : j = l.length := by omega
      subst e
      have HW := hide (show OwOps wr (.slice (some ⟨g, 0, none⟩) l.length cap) (mkOs l k) ([g] ++ Fs.flatten) from
        ⟨Ds, Fs, by rw [mkOs_len]; exact hDl, by rw [mkOs_len]; exact hFl, fun i hi => ⟨hD i (by rw [mkOs_len] at hi; omega), hdone i hi (by rw [mkOs_len] at hi; exact hi)⟩, by rw [mkOs_len]; exact hr, rfl⟩)
      clear hdone htodo hr hD
      go_wp2_with fail
      go_ret
      exact ⟨by first | rfl | (rw [List.take_length]; rfl), unhide HW, hf⟩
end Go.Proofs.YtkmmhlimihkgfaaGreat

/- Rows of the same operations are alike. -/
namespace Go.Proofs.YtkmmhlimihkgfaaGreat
open Go.RowKit
set_option linter.unusedVariables false
set_option maxRecDepth 100000

set_option maxHeartbeats 3200000 in
theorem eqOps_same (w : World) (u v : Value) (l : List OpV) (hu : RdOps w u l) (hv : RdOps w v l) :
    Calls Tryz.prog 17 #[u, v] w fun e w' => e = .returned (.bool true) ∧ Below w.heap.size w w' := by
  have hm := hu.1
  unfold maxLen at hm
  obtain ⟨rfl, a, cap, rfl⟩ | ⟨b, off, cap, rfl, hnil, g4, g5⟩ := hu.cases
  · obtain ⟨a', cap', rfl, _, _⟩ := Elems.shape hv
    go_enter Tryz.func17, Tryz.ntmps17
    go_wp2_with fail
    refine wp_loop_rounds 1 ?_
    rw [rounds_succ]
    go_wp2_with fail
    go_ret
    exact ⟨rfl, Below.refl _ _⟩
  obtain ⟨rfl, _⟩ | ⟨b', off', cap', rfl, _, f4, f5⟩ := hv.cases
  · exact absurd rfl hnil
  go_enter Tryz.func17, Tryz.ntmps17
  go_wp2_with fail
  go_loopw [5] (fun i wr => ∃ k : Nat, k ≤ l.length ∧ i = .int .i64 k ∧ Below w.heap.size w wr) (fun i _ => l.length - (intOf i).toNat)
  case atStart => exact ⟨0, Nat.zero_le _, rfl, Below.refl _ _⟩
  case round =>
    obtain ⟨k, hk, rfl, hB⟩ := hrel
    by_cases hlt : k < l.length
    · have HE := hide (fun W u v (hu : RdOp W u l[k]) (hv : RdOp W v l[k]) => eqOp_same W u v l[k] hu hv)
      obtain ⟨a1, c1, a2, c2, a3, c3, e0, e1, e2, e3, e4, e5, e6, e7, e8, e9, e10, e11, hr⟩ := opc_at hB g4 (g5 k hlt)
      obtain ⟨a1', c1', a2', c2', a3', c3', i0, i1, i2, i3, i4, i5, i6, i7, i8, i9, i10, i11, hr'⟩ := opc_at hB f4 (f5 k hlt)
      have hlt' : (k : Int) < (l.length : Int) := by omega
      have hk0 : (0 : Int) ≤ (k : Int) := by omega
      have HR := hide hr
      have HR' := hide hr'
      unfold opVal at HR HR'
      generalize l[k] = o at *
      generalize o.key.length = nK at *
      generalize o.name.length = nN at *
      generalize o.text.length = nT at *
      clear g5 f5 hr hr' hnil
      go_wp2_with fail
      go_region_held3 (fun w' => w'.cell? ⟨b, off + k * 12, none⟩ = some (.int .i64 o.kind) ∧ w'.cell? ⟨b, off + k * 12 + 1, none⟩ = some (.int .i64 o.atN) ∧ w'.cell? ⟨b, off + k * 12 + 2, none⟩ = some (.int .i64 o.atR) ∧ w'.cell? ⟨b, off + k * 12 + 3, none⟩ = some (.int .i64 o.nodeN) ∧ w'.cell? ⟨b, off + k * 12 + 4, none⟩ = some (.int .i64 o.nodeR) ∧ w'.cell? ⟨b, off + k * 12 + 5, none⟩ = some (.int .i64 o.parN) ∧ w'.cell? ⟨b, off + k * 12 + 6, none⟩ = some (.int .i64 o.parR) ∧ w'.cell? ⟨b, off + k * 12 + 7, none⟩ = some (.slice a1 nK c1) ∧ w'.cell? ⟨b, off + k * 12 + 8, none⟩ = some (.int .i64 o.elem) ∧ w'.cell? ⟨b, off + k * 12 + 9, none⟩ = some (.slice a2 nN c2) ∧ w'.cell? ⟨b, off + k * 12 + 10, none⟩ = some (.slice a3 nT c3) ∧ w'.cell? ⟨b, off + k * 12 + 11, none⟩ = some (.bool o.gone) ∧ w'.cell? ⟨b', off' + k * 12, none⟩ = some (.int .i64 o.kind) ∧ w'.cell? ⟨b', off' + k * 12 + 1, none⟩ = some (.int .i64 o.atN) ∧ w'.cell? ⟨b', off' + k * 12 + 2, none⟩ = some (.int .i64 o.atR) ∧ w'.cell? ⟨b', off' + k * 12 + 3, none⟩ = some (.int .i64 o.nodeN) ∧ w'.cell? ⟨b', off' + k * 12 + 4, none⟩ = some (.int .i64 o.nodeR) ∧ w'.cell? ⟨b', off' + k * 12 + 5, none⟩ = some (.int .i64 o.parN) ∧ w'.cell? ⟨b', off' + k * 12 + 6, none⟩ = some (.int .i64 o.parR) ∧ w'.cell? ⟨b', off' + k * 12 + 7, none⟩ = some (.slice a1' nK c1') ∧ w'.cell? ⟨b', off' + k * 12 + 8, none⟩ = some (.int .i64 o.elem) ∧ w'.cell? ⟨b', off' + k * 12 + 9, none⟩ = some (.slice a2' nN c2') ∧ w'.cell? ⟨b', off' + k * 12 + 10, none⟩ = some (.slice a3' nT c3') ∧ w'.cell? ⟨b', off' + k * 12 + 11, none⟩ = some (.bool o.gone)) (first | exact ⟨by assumption, by assumption, by assumption, by assumption, by assumption, by assumption, by assumption, by assumption, by assumption, by assumption, by assumption, by assumption, by assumption, by assumption, by assumption, by assumption, by assumption, by assumption, by assumption, by assumption, by assumption, by assumption, by assumption, by assumption⟩ | simp [*])
        ((go_at_call 18; refine (unhide HE _ _ _ ((unhide HR).keep ((Below.refl _ _).drew)) ((unhide HR').keep ((Below.refl _ _).drew))).mono ?_; rintro e w2 ⟨rfl, hB2⟩; have s0 := cell_later hB2 e0; have s1 := cell_later hB2 e1; have s2 := cell_later hB2 e2; have s3 := cell_later hB2 e3; have s4 := cell_later hB2 e4; have s5 := cell_later hB2 e5; have s6 := cell_later hB2 e6; have s7 := cell_later hB2 e7; have s8 := cell_later hB2 e8; have s9 := cell_later hB2 e9; have s10 := cell_later hB2 e10; have s11 := cell_later hB2 e11; have r0 := cell_later hB2 i0; have r1 := cell_later hB2 i1; have r2 := cell_later hB2 i2; have r3 := cell_later hB2 i3; have r4 := cell_later hB2 i4; have r5 := cell_later hB2 i5; have r6 := cell_later hB2 i6; have r7 := cell_later hB2 i7; have r8 := cell_later hB2 i8; have r9 := cell_later hB2 i9; have r10 := cell_later hB2 i10; have r11 := cell_later hB2 i11))
      have hB3 := hB.trans ((Below.drew (Below.refl wr.heap.size wr)).trans hB2 |>.mono hB.size)
      clear e0 e1 e2 e3 e4 e5 e6 e7 e8 e9 e10 e11 i0 i1 i2 i3 i4 i5 i6 i7 i8 i9 i10 i11 s0 s1 s2 s3 s4 s5 s6 s7 s8 s9 s10 s11 r0 r1 r2 r3 r4 r5 r6 r7 r8 r9 r10 r11 hB2 HR HR'
      go_wp2_with fail
      go_roundw
      case rel => exact ⟨k + 1, by omega, by go_num, hB3⟩
      case measure => simp [intOf]; omega
    · clear g5 f5
      go_wp2_with fail
      go_ret
      exact ⟨rfl, hB⟩
end Go.Proofs.YtkmmhlimihkgfaaGreat

/- laws.heldOpS, by its contract. -/
namespace Go.Proofs.YtkmmhlimihkgfaaGreat
open Go.RowKit
set_option linter.unusedVariables false
set_option maxRecDepth 100000

set_option maxHeartbeats 20000000 in
theorem heldOs_any (w : World) (v : Value) (l : List OpV) (k : Int) (h : RdOps w v (mkOs l k)) (hs : cntOs l ≤ 16777216) (h0 : 0 ≤ k) (h1 : k ≤ 900000000) :
    Calls Tryz.prog 21 #[v, .int .i64 k] w fun e w' => e = .returned (.int .i64 (k + (cntOs l : Nat))) ∧ w' = w := by
  have hml := h.1
  rw [mkOs_len] at hml
  unfold maxLen at hml
  have hm' : (l.length : Int) ≤ 9223372036854775807 := by omega
  obtain ⟨hnil, a, cap, rfl⟩ | ⟨b, off, cap, rfl, hnil, g4, g5⟩ := h.cases
  · have e := congrArg List.length hnil
    rw [mkOs_len] at e
    have e' := List.eq_nil_of_length_eq_zero e
    subst e'
    go_enter Tryz.func21, Tryz.ntmps21
    go_wp2_with fail
    refine wp_loop_rounds 1 ?_
    rw [rounds_succ]
    go_wp2_with fail
    go_ret
    exact ⟨by simp [cntOs], rfl⟩
  rw [mkOs_len]
  clear hnil h
  go_enter Tryz.func21, Tryz.ntmps21
  go_wp2_with fail
  go_loop [1, 5] (fun c i => ∃ j : Nat, j ≤ l.length ∧ i = .int .i64 j ∧ c = .int .i64 (k + (cntOs (l.take j) : Nat))) (fun _ i => l.length - (intOf i).toNat)
  case atStart => exact ⟨0, Nat.zero_le _, rfl, by simp [cntOs]⟩
  case round =>
    obtain ⟨j, hj, rfl, rfl⟩ := hrel
    by_cases hjl : j < l.length
    · have hat := mkOs_at l k j hjl (by rw [mkOs_len]; exact hjl)
      obtain ⟨C, hC, hc, hr⟩ := g5 j (by rw [mkOs_len]; exact hjl)
      rw [hat] at hr
      obtain ⟨q, hq⟩ : ∃ q : Int, q = k + (cntOs (l.take j) : Nat) := ⟨_, rfl⟩
      rw [← hq] at hr ⊢
      unfold mkO at hr
      obtain ⟨kv, nv, tv, rfl, hb0, hb1, hb2⟩ := hr
      have e0 := hc 0 (by omega)
      have e1 := hc 1 (by omega)
      have e2 := hc 2 (by omega)
      have e3 := hc 3 (by omega)
      have e4 := hc 4 (by omega)
      have e5 := hc 5 (by omega)
      have e6 := hc 6 (by omega)
      have e7 := hc 7 (by omega)
      have e8 := hc 8 (by omega)
      have e9 := hc 9 (by omega)
      have e10 := hc 10 (by omega)
      have e11 := hc 11 (by omega)
      simp only [List.getElem?_cons_zero, List.getElem?_cons_succ, Nat.add_zero] at e0 e1 e2 e3 e4 e5 e6 e7 e8 e9 e10 e11
      have hct := cntOs_take l j hjl
      have hcl := cntOs_le l (j + 1)
      unfold szO at hct
      simp only at hb0 hb1 hb2
      obtain ⟨p0, k0, rfl, _, _⟩ := hb0.shape
      obtain ⟨p1, k1, rfl, _, _⟩ := hb1.shape
      obtain ⟨p2, k2, rfl, _, _⟩ := hb2.shape
      rw [markz_len] at e7 hb0
      rw [marks_len] at e9 e10 hb1 hb2
      clear hC hat g5 hc
      generalize l[j].key.length = nK at *
      generalize l[j].name.length = nN at *
      generalize l[j].text.length = nT at *
      have hq0 : 0 ≤ q := by omega
      have hq1 : q ≤ 917000000 := by omega
      have hn1 : nK ≤ 16777216 := by omega
      have hn2 : nN ≤ 16777216 := by omega
      have hn3 : nT ≤ 16777216 := by omega
      have HQ := hide hq
      have HCT := hide hct
      have hjl' : (j : Int) < (l.length : Int) := by omega
      have d1 : decide (q + 1 + 1 + 1 + 1 + 1 + 1 + 1 + (nK : Int) < 0) = false := by simp; omega
      have d2 : decide (q + 1 + 1 + 1 + 1 + 1 + 1 + 1 + (nK : Int) + 1 + (nN : Int) < 0) = false := by simp; omega
      have d3 : decide (q + 1 + 1 + 1 + 1 + 1 + 1 + 1 + (nK : Int) + 1 + (nN : Int) + (nT : Int) < 0) = false := by simp; omega
      have H0 := hide (heldZ_any w _ nK (q + 1 + 1 + 1 + 1 + 1 + 1 + 1) hb0 (by omega) (by omega) (by omega))
      have H1 := hide (heldB_any w _ nN (q + 1 + 1 + 1 + 1 + 1 + 1 + 1 + (nK : Int) + 1) hb1 (by omega) (by omega) (by omega))
      have H2 := hide (heldB_any w _ nT (q + 1 + 1 + 1 + 1 + 1 + 1 + 1 + (nK : Int) + 1 + (nN : Int)) hb2 (by omega) (by omega) (by omega))
      clear hq hct hcl hb0 hb1 hb2
      go_wp2_with fail
      refine (unhide H0).mono ?_
      rintro e w ⟨rfl, rfl⟩
      go_wp2_with fail
      refine (unhide H1).mono ?_
      rintro e w ⟨rfl, rfl⟩
      go_wp2_with fail
      refine (unhide H2).mono ?_
      rintro e w ⟨rfl, rfl⟩
      go_wp2_with fail
      all_goals try (exfalso; rename_i hz; simp at hz; done)
      go_round
      case rel => exact ⟨j + 1, by omega, by go_num, by rw [unhide HCT, unhide HQ]; go_num⟩
      case measure => simp [intOf]; omega
    · have e : j = l.length := by omega
      subst e
      clear g5
      go_wp2_with fail
      go_ret
      exact ⟨by simp, rfl⟩
end Go.Proofs.YtkmmhlimihkgfaaGreat

/- laws.markIdS, by its contract. -/
namespace Go.Proofs.YtkmmhlimihkgfaaGreat
open Go.RowKit
set_option linter.unusedVariables false
set_option maxRecDepth 100000

/-- Ids with a count in them, from k on. -/
def mkIs : List (Int × Int) → Int → List (Int × Int)
  | [], _ => []
  | x :: r, k => (k, k + 1) :: mkIs r (k + 2)
theorem mkIs_len : ∀ (l : List (Int × Int)) (k : Int), (mkIs l k).length = l.length
  | [], _ => rfl
  | x :: r, k => by simp [mkIs, mkIs_len r]
theorem mkIs_at : ∀ (l : List (Int × Int)) (k : Int) (j : Nat) (h : j < (mkIs l k).length), (mkIs l k)[j] = (k + 2 * j, k + 2 * j + 1)
  | [], _, _, h => by simp [mkIs] at h
  | x :: r, k, 0, _ => by simp [mkIs]
  | x :: r, k, j + 1, h => by
    have := mkIs_at r (k + 2) j (by simpa [mkIs] using h)
    simp only [mkIs, List.getElem_cons_succ, this]
    congr 1 <;> omega
theorem OwIdC.len {C : List Value} {x : Int × Int} {F : List Nat} (h : OwIdC C x F) : C.length = 2 := by rw [h.1]; rfl

set_option maxHeartbeats 6400000 in
theorem markIs_any (w : World) (v : Value) (l : List (Int × Int)) (F : List Nat) (k : Int) (h : OwIds w v l F) (hF : F.Nodup) (hs : l.length ≤ 4194304) (h0 : 0 ≤ k) (h1 : k ≤ 900000000) :
    Calls Tryz.prog 71 #[v, .int .i64 k] w fun e w' => e = .returned (.int .i64 (k + 2 * (l.length : Nat))) ∧ OwIds w' v (mkIs l k) F ∧ Frm w w' F := by
  obtain ⟨Cs, Fs, hCl, hFl, hR, hrow, rfl⟩ := h
  by_cases hl0 : l = []
  · subst hl0
    obtain ⟨a, cap, rfl⟩ := own_nil_shape hrow
    have HW := hide (show OwIds w (.slice a ([] : List (Int × Int)).length cap) (mkIs [] k) _ from ⟨Cs, Fs, hCl, hFl, hR, hrow, rfl⟩)
    clear hrow hR
    go_enter Tryz.func71, Tryz.ntmps71
    go_wp2_with fail
    refine wp_loop_rounds 1 ?_
    rw [rounds_succ]
    go_wp2_with fail
    go_ret
    exact ⟨by simp, unhide HW, Frm.refl _ _⟩
  have hv : ∃ g cap, v = .slice (some ⟨g, 0, none⟩) l.length cap := by
    rcases hrow.2 with ⟨_, h⟩ | ⟨g, cap, cur, rfl, _⟩
    · exact absurd (List.eq_nil_of_length_eq_zero h) hl0
    · exact ⟨g, cap, rfl⟩
  obtain ⟨g, cap, rfl⟩ := hv
  have hFB : FB (.slice (some ⟨g, 0, none⟩) l.length cap) = [g] := rfl
  rw [hFB] at hF ⊢
  have HR := hide hR
  have HROW := hide hrow
  clear hR hrow hFB
  go_enter Tryz.func71, Tryz.ntmps71
  go_wp2_with fail
  go_loopw [1, 5] (fun c i wr => ∃ j : Nat, j ≤ l.length ∧ i = .int .i64 j ∧ c = .int .i64 (k + 2 * (j : Nat)) ∧ ∃ Ds : List (List Value), Ds.length = l.length ∧ wr.ownsRow 0 25 2 (.slice (some ⟨g, 0, none⟩) l.length cap) l.length Ds.flatten ∧
      (∀ i (hi : i < (mkIs l k).length), i < j → OwIdC (Ds.getD i []) (mkIs l k)[i] (Fs.getD i [])) ∧ (∀ i (hi : i < l.length), j ≤ i → OwIdC (Ds.getD i []) l[i] (Fs.getD i [])) ∧ Frm w wr ([g] ++ Fs.flatten)) (fun _ i _ => l.length - (intOf i).toNat)
  case atStart => exact ⟨0, Nat.zero_le _, rfl, by simp, Cs, hCl, unhide HROW, fun i hi hj => by omega, fun i hi _ => (unhide HR i hi).2, Frm.refl _ _⟩
  case round =>
    obtain ⟨j, hj, rfl, rfl, Ds, hDl, hr, hdone, htodo, hf⟩ := hrel
    have hD : ∀ i, i < Ds.length → (Ds.getD i []).length = 2 := fun i hi => by
      by_cases hij : i < j
      · exact (hdone i (by rw [mkIs_len]; omega) hij).len
      · exact (htodo i (by omega) (by omega)).len
    by_cases hjl : j < l.length
    · obtain ⟨hab, hFj⟩ := htodo j hjl (Nat.le_refl _)
      have hat := mkIs_at l k j (by rw [mkIs_len]; exact hjl)
      obtain ⟨q, hq⟩ : ∃ q : Int, q = k + 2 * (j : Nat) := ⟨_, rfl⟩
      rw [← hq] at hat ⊢
      have hq0 : 0 ≤ q := by omega
      have hq1 : q ≤ 917000000 := by omega
      have R0 := RowJ.start hDl hD j hjl hr
      rw [hab] at R0
      have c0 := R0.cell 0 (by omega)
      have c1 := R0.cell 1 (by omega)
      have f0 := R0.frozen (j * 2)
      have f1 := R0.frozen (j * 2 + 1)
      simp only [List.getElem?_cons_zero, List.getElem?_cons_succ, Nat.add_zero] at c0 c1
      have R1 := (R0.put 0 (by omega) (.int .i64 q)).put 1 (by omega) (.int .i64 (q + 1))
      simp only [Nat.add_zero, List.set_cons_zero, List.set_cons_succ] at R1
      have F1 : Frm wr ((wr.setCell ⟨g, j * 2, none⟩ (.int .i64 q)).setCell ⟨g, j * 2 + 1, none⟩ (.int .i64 (q + 1))) [g] := (set_frm wr g (j * 2) (.int .i64 q)).trans (set_frm _ g (j * 2 + 1) (.int .i64 (q + 1)))
      have HQ := hide hq
      have HT := hide hat
      have HDN := hide hdone
      have HTD := hide htodo
      have HFJ := hide hFj
      have hjl' : (j : Int) < (l.length : Int) := by omega
      have HROW2 := hide R1.row
      have HFr := hide (hf.trans (F1.mono (fun p hp => List.mem_append_left _ hp)))
      clear hq hat hdone htodo hr hab R0 R1 F1 hf hFj hD
      go_wp2_with fail
      go_roundw
      case rel =>
        refine ⟨j + 1, by omega, by go_num, ?_, Ds.set j _, by rw [List.length_set]; exact hDl, unhide HROW2, fun i hi hij => ?_, fun i hi hij => ?_, unhide HFr⟩
        · rw [unhide HQ]; go_num
        · by_cases e : i = j
          · subst e
            rw [unhide HT, getD_set_at _ _ _ (by omega)]
            exact ⟨rfl, unhide HFJ⟩
          · rw [getD_set_ne _ _ _ _ e]
            exact unhide HDN i hi (by omega)
        · rw [getD_set_ne _ _ _ _ (by omega)]
          exact unhide HTD i hi (by omega)
      case measure => simp [intOf]; omega
    · have e : j = l.length := by omega
      subst e
      have HW := hide (show OwIds wr (.slice (some ⟨g, 0, none⟩) l.length cap) (mkIs l k) ([g] ++ Fs.flatten) from
        ⟨Ds, Fs, by rw [mkIs_len]; exact hDl, by rw [mkIs_len]; exact hFl, fun i hi => ⟨hD i (by rw [mkIs_len] at hi; omega), hdone i hi (by rw [mkIs_len] at hi; exact hi)⟩, by rw [mkIs_len]; exact hr, rfl⟩)
      clear hdone htodo hr hD
      go_wp2_with fail
      go_ret
      exact ⟨rfl, unhide HW, hf⟩
end Go.Proofs.YtkmmhlimihkgfaaGreat

/- laws.heldIdS, by its contract. -/
namespace Go.Proofs.YtkmmhlimihkgfaaGreat
open Go.RowKit
set_option linter.unusedVariables false
set_option maxRecDepth 100000

set_option maxHeartbeats 6400000 in
theorem heldIs_any (w : World) (v : Value) (l : List (Int × Int)) (k : Int) (h : RdIds w v (mkIs l k)) (hs : l.length ≤ 4194304) (h0 : 0 ≤ k) (h1 : k ≤ 900000000) :
    Calls Tryz.prog 73 #[v, .int .i64 k] w fun e w' => e = .returned (.int .i64 (k + 2 * (l.length : Nat))) ∧ w' = w := by
  obtain ⟨hnil, a, cap, rfl⟩ | ⟨b, off, cap, rfl, hnil, g4, g5⟩ := h.cases
  · have e := congrArg List.length hnil
    rw [mkIs_len] at e
    have e' := List.eq_nil_of_length_eq_zero e
    subst e'
    go_enter Tryz.func73, Tryz.ntmps73
    go_wp2_with fail
    refine wp_loop_rounds 1 ?_
    rw [rounds_succ]
    go_wp2_with fail
    go_ret
    exact ⟨by simp, rfl⟩
  rw [mkIs_len]
  have G := hide (fun j (hj : j < l.length) => (show w.cell? ⟨b, off + j * 2, none⟩ = some (.int .i64 (k + 2 * (j : Nat))) ∧ w.cell? ⟨b, off + j * 2 + 1, none⟩ = some (.int .i64 (k + 2 * (j : Nat) + 1)) by
    have h1 := g5 j (by rw [mkIs_len]; exact hj)
    rw [mkIs_at l k j (by rw [mkIs_len]; exact hj)] at h1
    exact h1))
  clear hnil h g5
  go_enter Tryz.func73, Tryz.ntmps73
  go_wp2_with fail
  go_loop [1, 5] (fun c i => ∃ j : Nat, j ≤ l.length ∧ i = .int .i64 j ∧ c = .int .i64 (k + 2 * (j : Nat))) (fun _ i => l.length - (intOf i).toNat)
  case atStart => exact ⟨0, Nat.zero_le _, rfl, by simp⟩
  case round =>
    obtain ⟨j, hj, rfl, rfl⟩ := hrel
    by_cases hjl : j < l.length
    · obtain ⟨e0, e1⟩ := unhide G j hjl
      obtain ⟨q, hq⟩ : ∃ q : Int, q = k + 2 * (j : Nat) := ⟨_, rfl⟩
      rw [← hq] at e0 e1 ⊢
      have hq0 : 0 ≤ q := by omega
      have hq1 : q ≤ 917000000 := by omega
      have HQ := hide hq
      have hjl' : (j : Int) < (l.length : Int) := by omega
      clear hq
      go_wp2_with fail
      go_round
      case rel => exact ⟨j + 1, by omega, by go_num, by rw [unhide HQ]; go_num⟩
      case measure => simp [intOf]; omega
    · have e : j = l.length := by omega
      subst e
      go_wp2_with fail
      go_ret
      exact ⟨rfl, rfl⟩
end Go.Proofs.YtkmmhlimihkgfaaGreat

/- laws.markReplica and laws.heldReplica, by their contracts. -/
namespace Go.Proofs.YtkmmhlimihkgfaaGreat
open Go.RowKit
set_option linter.unusedVariables false
set_option maxRecDepth 100000

def cntR {n : Nat} (r : RepV n) : Nat := cntT (n + 1) r.first + cntOs r.ops + 2 * r.und.length
/-- A replica with a count in it, from k on. -/
def mkR {n : Nat} (r : RepV n) (k : Int) : RepV n where
  id := r.id
  clock := r.clock
  first := mkT' (n + 1) r.first k
  ops := mkOs r.ops (k + (cntT (n + 1) r.first : Nat))
  und := mkIs r.und (k + (cntT (n + 1) r.first : Nat) + (cntOs r.ops : Nat))
  lost := r.lost
theorem rd5v {n : Nat} {w : World} {a b c d e vo vu : Value} {r : RepV n} (h : RdRep n w a b c d e vo vu r) : ∃ z ab nb cb ac nc cc ad nd cd ae ne ce ao no co au nu cu, a = .int .i64 z ∧ b = .slice ab nb cb ∧ c = .slice ac nc cc ∧ d = .slice ad nd cd ∧ e = .slice ae ne ce ∧ vo = .slice ao no co ∧ vu = .slice au nu cu := by
  obtain ⟨z, ab, nb, cb, ac, nc, cc, ad, nd, cd, ae, ne, ce, rfl, rfl, rfl, rfl, rfl⟩ := rd5 h.1
  obtain ⟨ao, co, rfl, _, _⟩ := Elems.shape h.2.1
  obtain ⟨au, cu, rfl, _, _⟩ := Elems.shape h.2.2
  exact ⟨_, _, _, _, _, _, _, _, _, _, _, _, _, _, _, _, _, _, _, rfl, rfl, rfl, rfl, rfl, rfl, rfl⟩

set_option maxHeartbeats 6400000 in
theorem markRep_any (n : Nat) (w : World) (a b c d e vo vu : Value) (r : RepV n) (F : List Nat) (k : Int) (h : OwRep n w a b c d e vo vu r F) (hF : F.Nodup) (hlt : ∀ g ∈ F, g < w.heap.size) (hs1 : cntT (n + 1) r.first ≤ 4194304) (hs2 : cntOs r.ops ≤ 16777216) (hs3 : r.und.length ≤ 4194304) (h0 : 0 ≤ k) (h1 : k ≤ 100000000) :
    Calls Tryz.prog 27 #[repVal r a b c d e vo vu, .int .i64 k] w fun e' w' => e' = .returned (.int .i64 (k + (cntR r : Nat))) ∧ OwRep n w' a b c d e vo vu (mkR r k) F ∧ Frm w w' F := by
  obtain ⟨z, ab, nb, cb, ac, nc, cc, ad, nd, cd, ae, ne, ce, ao, no, co, au, nu, cu, rfl, rfl, rfl, rfl, rfl, rfl, rfl⟩ := rd5v h.rd
  obtain ⟨F1, F2, F3, o1, o2, o3, rfl⟩ := h
  have n12 := List.nodup_append.1 hF
  have n1 := List.nodup_append.1 n12.1
  have d12 : ∀ g ∈ F1, g ∉ F2 := fun g h1 h2 => n1.2.2 g h1 g h2 rfl
  have d13 : ∀ g ∈ F1, g ∉ F3 := fun g h1 h3 => n12.2.2 g (List.mem_append_left _ h1) g h3 rfl
  have d23 : ∀ g ∈ F2, g ∉ F3 := fun g h2 h3 => n12.2.2 g (List.mem_append_right _ h2) g h3 rfl
  have HR := hide (show k + (cntT (n + 1) r.first : Nat) + (cntOs r.ops : Nat) + 2 * (r.und.length : Nat) = k + (cntR r : Nat) by unfold cntR; omega)
  have HM := hide (fun w' (q1 : OwNode (n + 1) w' [.int .i64 z, .slice ab nb cb, .slice ac nc cc, .slice ad nd cd, .slice ae ne ce] (mkT' (n + 1) r.first k) F1) (q2 : OwOps w' (.slice ao no co) (mkOs r.ops (k + (cntT (n + 1) r.first : Nat))) F2) (q3 : OwIds w' (.slice au nu cu) (mkIs r.und (k + (cntT (n + 1) r.first : Nat) + (cntOs r.ops : Nat))) F3) => (show OwRep n w' (.int .i64 z) (.slice ab nb cb) (.slice ac nc cc) (.slice ad nd cd) (.slice ae ne ce) (.slice ao no co) (.slice au nu cu) (mkR r k) (F1 ++ F2 ++ F3) from ⟨F1, F2, F3, q1, q2, q3, rfl⟩))
  generalize cntR r = cr at *
  generalize mkR r k = mr at *
  have hA := (Below.refl w.heap.size w).alloc (Nat.le_refl _) (.cells #[.int .i64 r.id, .int .i64 r.clock, .int .i64 z, .slice ab nb cb, .slice ac nc cc, .slice ad nd cd, .slice ae ne ce, .slice ao no co, .slice au nu cu, .bool r.lost] 64)
  have l0 := Loc.made w #[.int .i64 r.id, .int .i64 r.clock, .int .i64 z, .slice ab nb cb, .slice ac nc cc, .slice ad nd cd, .slice ae ne ce, .slice ao no co, .slice au nu cu, .bool r.lost] 64
  have o1a := o1.keep hA
  have o2a : OwOps (w.alloc (.cells #[.int .i64 r.id, .int .i64 r.clock, .int .i64 z, .slice ab nb cb, .slice ac nc cc, .slice ad nd cd, .slice ae ne ce, .slice ao no co, .slice au nu cu, .bool r.lost] 64)) (.slice ao no co) r.ops F2 := OwOps.frm o2 (Frm.ofBelow hA []) (fun _ _ => by simp)
  have o3a : OwIds (w.alloc (.cells #[.int .i64 r.id, .int .i64 r.clock, .int .i64 z, .slice ab nb cb, .slice ac nc cc, .slice ad nd cd, .slice ae ne ce, .slice ao no co, .slice au nu cu, .bool r.lost] 64)) (.slice au nu cu) r.und F3 := OwIds.frm o3 (Frm.ofBelow hA []) (fun _ _ => by simp)
  have hSF : w.heap.size ∉ F1 ++ F2 ++ F3 := fun hq => by have := hlt _ hq; omega
  simp only [List.mem_append, not_or] at hSF
  obtain ⟨⟨hS1, hS2⟩, hS3⟩ := hSF
  unfold repVal
  clear o1 o2 o3
  go_enter Tryz.func27, Tryz.ntmps27
  go_wp2_with fail
  have fA := Frm.ofBelow hA (F1 ++ F2 ++ F3)
  generalize (w.alloc (.cells #[.int .i64 r.id, .int .i64 r.clock, .int .i64 z, .slice ab nb cb, .slice ac nc cc, .slice ad nd cd, .slice ae ne ce, .slice ao no co, .slice au nu cu, .bool r.lost] 64)) = wa at *
  refine (markN_any n wa _ _ _ _ _ r.first F1 k o1a n1.1 hs1 h0 (by omega)).mono ?_
  rintro e w1 ⟨rfl, q1, f1⟩
  replace l0 := l0.frm f1 hS1
  have o2b := OwOps.frm o2a f1 (fun g hg hg' => d12 g hg' hg)
  have o3b := OwIds.frm o3a f1 (fun g hg hg' => d13 g hg' hg)
  have fB := fA.trans (f1.mono (fun g hg => List.mem_append_left _ (List.mem_append_left _ hg)))
  clear o1a o2a o3a fA hA
  obtain ⟨x0, x1, x2, x3, x4, x5, x6, x7, x8, x9⟩ := l0.ten
  go_wp2_with fail
  clear x0 x1 x2 x3 x4 x5 x6 x7 x8 x9
  refine (markOs_any w1 _ r.ops F2 (k + (cntT (n + 1) r.first : Nat)) o2b n1.2.1 hs2 (by omega) (by omega)).mono ?_
  rintro e w2 ⟨rfl, q2, f2⟩
  replace l0 := l0.frm f2 hS2
  have o3c := OwIds.frm o3b f2 (fun g hg hg' => d23 g hg' hg)
  have q1b := q1.frm f2 (fun g hg hg' => d12 g hg hg')
  have fC := fB.trans (f2.mono (fun g hg => List.mem_append_left _ (List.mem_append_right _ hg)))
  clear o2b o3b fB q1 f1 f2
  obtain ⟨x0, x1, x2, x3, x4, x5, x6, x7, x8, x9⟩ := l0.ten
  go_wp2_with fail
  clear x0 x1 x2 x3 x4 x5 x6 x7 x8 x9
  refine (markIs_any w2 _ r.und F3 (k + (cntT (n + 1) r.first : Nat) + (cntOs r.ops : Nat)) o3c n12.2.1 hs3 (by omega) (by omega)).mono ?_
  rintro e w3 ⟨rfl, q3, f3⟩
  have q1c := q1b.frm f3 (fun g hg hg' => d13 g hg hg')
  have q2c := OwOps.frm q2 f3 (fun g hg hg' => d23 g hg hg')
  have fD := fC.trans (f3.mono (fun g hg => List.mem_append_right _ hg))
  rw [unhide HR]
  have HP := hide (unhide HM w3 q1c q2c q3)
  clear q1b q1c q2 q2c q3 fC f3 o3c l0
  go_wp2_with fail
  go_ret
  exact ⟨rfl, unhide HP, fD⟩

set_option maxHeartbeats 6400000 in
theorem heldRep_any (n : Nat) (w : World) (a b c d e vo vu : Value) (r : RepV n) (k : Int) (h : RdRep n w a b c d e vo vu (mkR r k)) (hs1 : cntT (n + 1) r.first ≤ 4194304) (hs2 : cntOs r.ops ≤ 16777216) (hs3 : r.und.length ≤ 4194304) (h0 : 0 ≤ k) (h1 : k ≤ 100000000) :
    Calls Tryz.prog 28 #[repVal r a b c d e vo vu, .int .i64 k] w fun e' w' => e' = .returned (.int .i64 (k + (cntR r : Nat))) ∧ Below w.heap.size w w' := by
  obtain ⟨z, ab, nb, cb, ac, nc, cc, ad, nd, cd, ae, ne, ce, ao, no, co, au, nu, cu, rfl, rfl, rfl, rfl, rfl, rfl, rfl⟩ := rd5v h
  have HR := hide (show k + (cntT (n + 1) r.first : Nat) + (cntOs r.ops : Nat) + 2 * (r.und.length : Nat) = k + (cntR r : Nat) by unfold cntR; omega)
  have H1 := hide (fun W (hW : Below w.heap.size w W) => heldN_any n W _ _ _ _ _ r.first k (h.1.keep hW) hs1 h0 (by omega))
  have H2 := hide (fun W (hW : Below w.heap.size w W) => heldOs_any W _ r.ops (k + (cntT (n + 1) r.first : Nat)) (h.2.1.keep hW) hs2 (by omega) (by omega))
  have H3 := hide (fun W (hW : Below w.heap.size w W) => heldIs_any W _ r.und (k + (cntT (n + 1) r.first : Nat) + (cntOs r.ops : Nat)) (h.2.2.keep hW) hs3 (by omega) (by omega))
  have k1 : ¬ k + ((cntT (n + 1) r.first : Nat) : Int) < 0 := by omega
  have k2 : ¬ k + ((cntT (n + 1) r.first : Nat) : Int) + ((cntOs r.ops : Nat) : Int) < 0 := by omega
  have k3 : ¬ k + ((cntR r : Nat) : Int) < 0 := by omega
  generalize cntR r = cr at *
  clear h
  have hA := (Below.refl w.heap.size w).alloc (Nat.le_refl _) (.cells #[.int .i64 r.id, .int .i64 r.clock, .int .i64 z, .slice ab nb cb, .slice ac nc cc, .slice ad nd cd, .slice ae ne ce, .slice ao no co, .slice au nu cu, .bool r.lost] 64)
  have l0 := Loc.made w #[.int .i64 r.id, .int .i64 r.clock, .int .i64 z, .slice ab nb cb, .slice ac nc cc, .slice ad nd cd, .slice ae ne ce, .slice ao no co, .slice au nu cu, .bool r.lost] 64
  unfold repVal
  go_enter Tryz.func28, Tryz.ntmps28
  go_wp2_with fail
  generalize (w.alloc (.cells #[.int .i64 r.id, .int .i64 r.clock, .int .i64 z, .slice ab nb cb, .slice ac nc cc, .slice ad nd cd, .slice ae ne ce, .slice ao no co, .slice au nu cu, .bool r.lost] 64)) = wa at *
  refine (unhide H1 _ hA).mono ?_
  rintro e w1 ⟨rfl, hB⟩
  have hA1 := bstep hA hB
  replace l0 := l0.all hB
  obtain ⟨x0, x1, x2, x3, x4, x5, x6, x7, x8, x9⟩ := l0.ten
  clear hA hB H1
  go_wp2_with fail
  refine (unhide H2 _ hA1).mono ?_
  rintro e w1 ⟨rfl, rfl⟩
  go_wp2_with fail
  refine (unhide H3 _ hA1).mono ?_
  rintro e w1 ⟨rfl, rfl⟩
  rw [unhide HR]
  go_wp2_with fail
  go_ret
  exact ⟨rfl, hA1⟩
end Go.Proofs.YtkmmhlimihkgfaaGreat

/- Where an operation's place is among sorted ones. Plain mathematics. -/
namespace Go.Proofs.YtkmmhlimihkgfaaGreat
open Go.RowKit
set_option linter.unusedVariables false

theorem less_trans {a b c d e f : Int} (h : lessB a b c d = true) (k : lessB c d e f = true) : lessB a b e f = true := by
  unfold lessB at *
  simp only [Bool.or_eq_true, decide_eq_true_eq, Bool.and_eq_true, beq_iff_eq] at *
  omega
theorem less_irr (a b : Int) : lessB a b a b = false := by unfold lessB; simp
theorem less_anti {a b c d : Int} (h : lessB a b c d = true) : lessB c d a b = false := by
  cases k : lessB c d a b with
  | false => rfl
  | true => have := less_trans h k; rw [less_irr] at this; cases this
/-- Ahead of the stamp (n, r). -/
def ahead (n r : Int) (p : OpV) : Bool := lessB p.atN p.atR n r
def posO (l : List OpV) (n r : Int) : Nat := (l.takeWhile (ahead n r)).length
theorem opsB_parts {l : List OpV} (h : opsB l = true) : l.length ≤ 150 ∧ ∀ j, j < l.length → okAt l j = true := by
  unfold opsB at h
  rw [Bool.and_eq_true, decide_eq_true_eq, List.all_eq_true] at h
  exact ⟨h.1, fun j hj => h.2 j (by simpa using hj)⟩
theorem opsB_each {l : List OpV} (h : opsB l = true) {j : Nat} (hj : j < l.length) : opB l[j] = true := by
  have := (opsB_parts h).2 j hj
  unfold okAt at this
  rw [dif_pos hj, Bool.and_eq_true] at this
  exact this.1
theorem opsB_next {l : List OpV} (h : opsB l = true) {j : Nat} (hj : j + 1 < l.length) : lessB l[j].atN l[j].atR l[j + 1].atN l[j + 1].atR = true := by
  have h1 := (opsB_parts h).2 (j + 1) hj
  rw [okAt_s hj (opsB_each h hj)] at h1
  exact h1
theorem opsB_sorted {l : List OpV} (h : opsB l = true) {i j : Nat} (hij : i < j) (hj : j < l.length) : lessB l[i].atN l[i].atR l[j].atN l[j].atR = true := by
  obtain ⟨d, rfl⟩ : ∃ d, j = i + 1 + d := ⟨j - i - 1, by omega⟩
  induction d with
  | zero => exact opsB_next h hj
  | succ d ih => exact less_trans (ih (by omega) (by omega)) (opsB_next h (j := i + 1 + d) hj)
/-- What is ahead of a stamp is a head of a sorted row. -/
theorem ahead_down {l : List OpV} (h : opsB l = true) {n r : Int} {i j : Nat} (hij : i ≤ j) (hj : j < l.length) (ha : ahead n r l[j] = true) : ahead n r l[i] = true := by
  rcases Nat.lt_or_eq_of_le hij with hlt | rfl
  · exact less_trans (opsB_sorted h hlt hj) ha
  · exact ha
theorem posO_of {l : List OpV} {n r : Int} {i : Nat} (hi : i ≤ l.length) (h1 : ∀ k (hk : k < l.length), k < i → ahead n r l[k] = true) (h2 : ∀ hk : i < l.length, ahead n r l[i] = false) : posO l n r = i := by
  unfold posO
  induction l generalizing i with
  | nil => simp at hi; subst hi; rfl
  | cons p l ih =>
    cases i with
    | zero =>
      have := h2 (by simp)
      simp only [List.getElem_cons_zero] at this
      rw [List.takeWhile_cons, if_neg (by rw [this]; decide)]
      rfl
    | succ i =>
      have h0 := h1 0 (by simp) (by omega)
      simp only [List.getElem_cons_zero] at h0
      rw [List.takeWhile_cons, if_pos h0, List.length_cons]
      rw [ih (i := i) (by simpa using hi) (fun k hk hki => by have := h1 (k + 1) (by simpa using hk) (by omega); simpa using this) (fun hk => by have := h2 (by simpa using hk); simpa using this)]
theorem posO_le (l : List OpV) (n r : Int) : posO l n r ≤ l.length := by
  unfold posO
  exact (List.takeWhile_prefix _).length_le
/-- An operation with this stamp stands at its place. -/
def there (l : List OpV) (n r : Int) : Bool := if h : posO l n r < l.length then decide (l[posO l n r].atN = n ∧ l[posO l n r].atR = r) else false
end Go.Proofs.YtkmmhlimihkgfaaGreat

/- A region that draws its order, whose operations only read and whose callees leave what was there as it was: one walk, in the order of the text. No program. -/
namespace Go.Proofs.YtkmmhlimihkgfaaGreat
open Go.RowKit
set_option linter.unusedVariables false

/-- A world in which all that was there in w is as it was. -/
structure Gr (w : World) where
  W : World
  h : Below w.heap.size w W
theorem wp_region_gr {P : Program} {id : Nat} {Q : Exit → Act → World → Prop} {a : Act} {w : World} {l : List Oper} (hm : P.follows .mixedOrders = true) (hB : Region.lexB .any l.toArray = true)
    (h : wpQuiet P l.toArray (fun w' => ∃ p : Gr w, w' = p.W) (fun a' => ∀ w', (∃ p : Gr w, w' = p.W) → Q .normal a' w') l a) : (Code.region id l.toArray true).wp P Q a w :=
  wp_region_quiet (C := fun w' => ∃ p : Gr w, w' = p.W) hm hB ⟨⟨w.drew, (Below.refl _ _).drew⟩, rfl⟩ (by simpa using h)
theorem Gr.cell {w : World} {a : Addr} {v : Value} (hb : a.block < w.heap.size) (h : w.cell? a = some v) (p : Gr w) : p.W.cell? a = some v := (p.h.cell hb).trans h
/-- A callee's contract, met in such a world. -/
theorem calls_gr {P : Program} {f : FuncId} {args : Array Value} {w : World} {p : Gr w} {v : Value} (h : Calls P f args p.W fun e w' => e = .returned v ∧ Below p.W.heap.size p.W w') : Calls P f args p.W fun e w'' => e = .returned v ∧ ∃ q : Gr w, w'' = q.W :=
  h.mono fun _ _ ⟨he, hB⟩ => ⟨he, ⟨⟨_, bstep p.h hB⟩, rfl⟩⟩
end Go.Proofs.YtkmmhlimihkgfaaGreat

/- Small laws of the walk. No program. -/
namespace Go.Proofs.YtkmmhlimihkgfaaGreat
open Go.RowKit
set_option linter.unusedVariables false

theorem calls_via {P : Program} {f : FuncId} {args : Array Value} {w : World} {R : Ending → World → Prop} (h : ∀ Q : Ending → World → Prop, Hid (∀ e w', R e w' → Q e w') → Calls P f args w Q) : Calls P f args w R := h R (hide fun _ _ h => h)
theorem setGO (w : World) (g j : Nat) (v : Value) : w.grownBy (w.setCell ⟨g, j, none⟩ v) (some g) := ⟨rfl, rfl, rfl, by simp, fun k _ hk => heap_setCell_other w ⟨g, j, none⟩ k v (fun e => hk (by simp [e]))⟩
theorem set_twelve {w : World} {g : Nat} {T : TypeId} {u0 u1 u2 u3 u4 u5 u6 u7 u8 u9 u10 u11 : Value} (h : Loc w g #[u0, u1, u2, u3, u4, u5, u6, u7, u8, u9, u10, u11] T) (v0 v1 v2 v3 v4 v5 v6 v7 v8 v9 v10 v11 : Value) : Loc ((((((((((((w.setCell ⟨g, 0, none⟩ v0).setCell ⟨g, 1, none⟩ v1).setCell ⟨g, 2, none⟩ v2).setCell ⟨g, 3, none⟩ v3).setCell ⟨g, 4, none⟩ v4).setCell ⟨g, 5, none⟩ v5).setCell ⟨g, 6, none⟩ v6).setCell ⟨g, 7, none⟩ v7).setCell ⟨g, 8, none⟩ v8).setCell ⟨g, 9, none⟩ v9).setCell ⟨g, 10, none⟩ v10).setCell ⟨g, 11, none⟩ v11) g #[v0, v1, v2, v3, v4, v5, v6, v7, v8, v9, v10, v11] T := by
  have h0 : Loc (w.setCell ⟨g, 0, none⟩ v0) g #[v0, u1, u2, u3, u4, u5, u6, u7, u8, u9, u10, u11] T := h.set 0 v0
  have h1 : Loc ((w.setCell ⟨g, 0, none⟩ v0).setCell ⟨g, 1, none⟩ v1) g #[v0, v1, u2, u3, u4, u5, u6, u7, u8, u9, u10, u11] T := h0.set 1 v1
  have h2 : Loc (((w.setCell ⟨g, 0, none⟩ v0).setCell ⟨g, 1, none⟩ v1).setCell ⟨g, 2, none⟩ v2) g #[v0, v1, v2, u3, u4, u5, u6, u7, u8, u9, u10, u11] T := h1.set 2 v2
  have h3 : Loc ((((w.setCell ⟨g, 0, none⟩ v0).setCell ⟨g, 1, none⟩ v1).setCell ⟨g, 2, none⟩ v2).setCell ⟨g, 3, none⟩ v3) g #[v0, v1, v2, v3, u4, u5, u6, u7, u8, u9, u10, u11] T := h2.set 3 v3
  have h4 : Loc (((((w.setCell ⟨g, 0, none⟩ v0).setCell ⟨g, 1, none⟩ v1).setCell ⟨g, 2, none⟩ v2).setCell ⟨g, 3, none⟩ v3).setCell ⟨g, 4, none⟩ v4) g #[v0, v1, v2, v3, v4, u5, u6, u7, u8, u9, u10, u11] T := h3.set 4 v4
  have h5 : Loc ((((((w.setCell ⟨g, 0, none⟩ v0).setCell ⟨g, 1, none⟩ v1).setCell ⟨g, 2, none⟩ v2).setCell ⟨g, 3, none⟩ v3).setCell ⟨g, 4, none⟩ v4).setCell ⟨g, 5, none⟩ v5) g #[v0, v1, v2, v3, v4, v5, u6, u7, u8, u9, u10, u11] T := h4.set 5 v5
  have h6 : Loc (((((((w.setCell ⟨g, 0, none⟩ v0).setCell ⟨g, 1, none⟩ v1).setCell ⟨g, 2, none⟩ v2).setCell ⟨g, 3, none⟩ v3).setCell ⟨g, 4, none⟩ v4).setCell ⟨g, 5, none⟩ v5).setCell ⟨g, 6, none⟩ v6) g #[v0, v1, v2, v3, v4, v5, v6, u7, u8, u9, u10, u11] T := h5.set 6 v6
  have h7 : Loc ((((((((w.setCell ⟨g, 0, none⟩ v0).setCell ⟨g, 1, none⟩ v1).setCell ⟨g, 2, none⟩ v2).setCell ⟨g, 3, none⟩ v3).setCell ⟨g, 4, none⟩ v4).setCell ⟨g, 5, none⟩ v5).setCell ⟨g, 6, none⟩ v6).setCell ⟨g, 7, none⟩ v7) g #[v0, v1, v2, v3, v4, v5, v6, v7, u8, u9, u10, u11] T := h6.set 7 v7
  have h8 : Loc (((((((((w.setCell ⟨g, 0, none⟩ v0).setCell ⟨g, 1, none⟩ v1).setCell ⟨g, 2, none⟩ v2).setCell ⟨g, 3, none⟩ v3).setCell ⟨g, 4, none⟩ v4).setCell ⟨g, 5, none⟩ v5).setCell ⟨g, 6, none⟩ v6).setCell ⟨g, 7, none⟩ v7).setCell ⟨g, 8, none⟩ v8) g #[v0, v1, v2, v3, v4, v5, v6, v7, v8, u9, u10, u11] T := h7.set 8 v8
  have h9 : Loc ((((((((((w.setCell ⟨g, 0, none⟩ v0).setCell ⟨g, 1, none⟩ v1).setCell ⟨g, 2, none⟩ v2).setCell ⟨g, 3, none⟩ v3).setCell ⟨g, 4, none⟩ v4).setCell ⟨g, 5, none⟩ v5).setCell ⟨g, 6, none⟩ v6).setCell ⟨g, 7, none⟩ v7).setCell ⟨g, 8, none⟩ v8).setCell ⟨g, 9, none⟩ v9) g #[v0, v1, v2, v3, v4, v5, v6, v7, v8, v9, u10, u11] T := h8.set 9 v9
  have h10 : Loc (((((((((((w.setCell ⟨g, 0, none⟩ v0).setCell ⟨g, 1, none⟩ v1).setCell ⟨g, 2, none⟩ v2).setCell ⟨g, 3, none⟩ v3).setCell ⟨g, 4, none⟩ v4).setCell ⟨g, 5, none⟩ v5).setCell ⟨g, 6, none⟩ v6).setCell ⟨g, 7, none⟩ v7).setCell ⟨g, 8, none⟩ v8).setCell ⟨g, 9, none⟩ v9).setCell ⟨g, 10, none⟩ v10) g #[v0, v1, v2, v3, v4, v5, v6, v7, v8, v9, v10, u11] T := h9.set 10 v10
  have h11 : Loc ((((((((((((w.setCell ⟨g, 0, none⟩ v0).setCell ⟨g, 1, none⟩ v1).setCell ⟨g, 2, none⟩ v2).setCell ⟨g, 3, none⟩ v3).setCell ⟨g, 4, none⟩ v4).setCell ⟨g, 5, none⟩ v5).setCell ⟨g, 6, none⟩ v6).setCell ⟨g, 7, none⟩ v7).setCell ⟨g, 8, none⟩ v8).setCell ⟨g, 9, none⟩ v9).setCell ⟨g, 10, none⟩ v10).setCell ⟨g, 11, none⟩ v11) g #[v0, v1, v2, v3, v4, v5, v6, v7, v8, v9, v10, v11] T := h10.set 11 v11
  exact h11
theorem grow_twelve (w : World) (g : Nat) (v0 v1 v2 v3 v4 v5 v6 v7 v8 v9 v10 v11 : Value) : w.grownBy ((((((((((((w.setCell ⟨g, 0, none⟩ v0).setCell ⟨g, 1, none⟩ v1).setCell ⟨g, 2, none⟩ v2).setCell ⟨g, 3, none⟩ v3).setCell ⟨g, 4, none⟩ v4).setCell ⟨g, 5, none⟩ v5).setCell ⟨g, 6, none⟩ v6).setCell ⟨g, 7, none⟩ v7).setCell ⟨g, 8, none⟩ v8).setCell ⟨g, 9, none⟩ v9).setCell ⟨g, 10, none⟩ v10).setCell ⟨g, 11, none⟩ v11) (some g) := by
  have h0 : w.grownBy (w.setCell ⟨g, 0, none⟩ v0) (some g) := setGO w g 0 v0
  have h1 : w.grownBy ((w.setCell ⟨g, 0, none⟩ v0).setCell ⟨g, 1, none⟩ v1) (some g) := grown_trans h0 (setGO _ g 1 v1)
  have h2 : w.grownBy (((w.setCell ⟨g, 0, none⟩ v0).setCell ⟨g, 1, none⟩ v1).setCell ⟨g, 2, none⟩ v2) (some g) := grown_trans h1 (setGO _ g 2 v2)
  have h3 : w.grownBy ((((w.setCell ⟨g, 0, none⟩ v0).setCell ⟨g, 1, none⟩ v1).setCell ⟨g, 2, none⟩ v2).setCell ⟨g, 3, none⟩ v3) (some g) := grown_trans h2 (setGO _ g 3 v3)
  have h4 : w.grownBy (((((w.setCell ⟨g, 0, none⟩ v0).setCell ⟨g, 1, none⟩ v1).setCell ⟨g, 2, none⟩ v2).setCell ⟨g, 3, none⟩ v3).setCell ⟨g, 4, none⟩ v4) (some g) := grown_trans h3 (setGO _ g 4 v4)
  have h5 : w.grownBy ((((((w.setCell ⟨g, 0, none⟩ v0).setCell ⟨g, 1, none⟩ v1).setCell ⟨g, 2, none⟩ v2).setCell ⟨g, 3, none⟩ v3).setCell ⟨g, 4, none⟩ v4).setCell ⟨g, 5, none⟩ v5) (some g) := grown_trans h4 (setGO _ g 5 v5)
  have h6 : w.grownBy (((((((w.setCell ⟨g, 0, none⟩ v0).setCell ⟨g, 1, none⟩ v1).setCell ⟨g, 2, none⟩ v2).setCell ⟨g, 3, none⟩ v3).setCell ⟨g, 4, none⟩ v4).setCell ⟨g, 5, none⟩ v5).setCell ⟨g, 6, none⟩ v6) (some g) := grown_trans h5 (setGO _ g 6 v6)
  have h7 : w.grownBy ((((((((w.setCell ⟨g, 0, none⟩ v0).setCell ⟨g, 1, none⟩ v1).setCell ⟨g, 2, none⟩ v2).setCell ⟨g, 3, none⟩ v3).setCell ⟨g, 4, none⟩ v4).setCell ⟨g, 5, none⟩ v5).setCell ⟨g, 6, none⟩ v6).setCell ⟨g, 7, none⟩ v7) (some g) := grown_trans h6 (setGO _ g 7 v7)
  have h8 : w.grownBy (((((((((w.setCell ⟨g, 0, none⟩ v0).setCell ⟨g, 1, none⟩ v1).setCell ⟨g, 2, none⟩ v2).setCell ⟨g, 3, none⟩ v3).setCell ⟨g, 4, none⟩ v4).setCell ⟨g, 5, none⟩ v5).setCell ⟨g, 6, none⟩ v6).setCell ⟨g, 7, none⟩ v7).setCell ⟨g, 8, none⟩ v8) (some g) := grown_trans h7 (setGO _ g 8 v8)
  have h9 : w.grownBy ((((((((((w.setCell ⟨g, 0, none⟩ v0).setCell ⟨g, 1, none⟩ v1).setCell ⟨g, 2, none⟩ v2).setCell ⟨g, 3, none⟩ v3).setCell ⟨g, 4, none⟩ v4).setCell ⟨g, 5, none⟩ v5).setCell ⟨g, 6, none⟩ v6).setCell ⟨g, 7, none⟩ v7).setCell ⟨g, 8, none⟩ v8).setCell ⟨g, 9, none⟩ v9) (some g) := grown_trans h8 (setGO _ g 9 v9)
  have h10 : w.grownBy (((((((((((w.setCell ⟨g, 0, none⟩ v0).setCell ⟨g, 1, none⟩ v1).setCell ⟨g, 2, none⟩ v2).setCell ⟨g, 3, none⟩ v3).setCell ⟨g, 4, none⟩ v4).setCell ⟨g, 5, none⟩ v5).setCell ⟨g, 6, none⟩ v6).setCell ⟨g, 7, none⟩ v7).setCell ⟨g, 8, none⟩ v8).setCell ⟨g, 9, none⟩ v9).setCell ⟨g, 10, none⟩ v10) (some g) := grown_trans h9 (setGO _ g 10 v10)
  have h11 : w.grownBy ((((((((((((w.setCell ⟨g, 0, none⟩ v0).setCell ⟨g, 1, none⟩ v1).setCell ⟨g, 2, none⟩ v2).setCell ⟨g, 3, none⟩ v3).setCell ⟨g, 4, none⟩ v4).setCell ⟨g, 5, none⟩ v5).setCell ⟨g, 6, none⟩ v6).setCell ⟨g, 7, none⟩ v7).setCell ⟨g, 8, none⟩ v8).setCell ⟨g, 9, none⟩ v9).setCell ⟨g, 10, none⟩ v10).setCell ⟨g, 11, none⟩ v11) (some g) := grown_trans h10 (setGO _ g 11 v11)
  exact h11
end Go.Proofs.YtkmmhlimihkgfaaGreat

/- slices.BinarySearchFunc over operations, by their stamps. -/
namespace Go.Proofs.YtkmmhlimihkgfaaGreat
open Go.RowKit
set_option linter.unusedVariables false
set_option maxRecDepth 100000

set_option maxHeartbeats 3200000 in
theorem byStamp_any (w : World) (o : OpV) (a1 a2 a3 : Option Addr) (c1 c2 c3 : Nat) (n r : Int) :
    Calls Tryz.prog 89 #[opVal o (.slice a1 o.key.length c1) (.slice a2 o.name.length c2) (.slice a3 o.text.length c3), .agg #[.int .i64 n, .int .i64 r]] w fun e w' => e = .returned (.int .i64 (ordI o.atN o.atR n r)) ∧ Below w.heap.size w w' := by
  have hB := ((Below.refl w.heap.size w).alloc (Nat.le_refl _) (.cells #[.int .i64 o.kind, .int .i64 o.atN, .int .i64 o.atR, .int .i64 o.nodeN, .int .i64 o.nodeR, .int .i64 o.parN, .int .i64 o.parR, .slice a1 o.key.length c1, .int .i64 o.elem, .slice a2 o.name.length c2, .slice a3 o.text.length c3, .bool o.gone] 28)).alloc (by simp) (.cells #[.int .i64 n, .int .i64 r] 25)
  have HH := hide (orderI_any ((w.alloc (.cells #[.int .i64 o.kind, .int .i64 o.atN, .int .i64 o.atR, .int .i64 o.nodeN, .int .i64 o.nodeR, .int .i64 o.parN, .int .i64 o.parR, .slice a1 o.key.length c1, .int .i64 o.elem, .slice a2 o.name.length c2, .slice a3 o.text.length c3, .bool o.gone] 28)).alloc (.cells #[.int .i64 n, .int .i64 r] 25)) o.atN o.atR n r)
  have HB := hide hB
  clear hB
  unfold opVal
  generalize ordI o.atN o.atR n r = z at *
  go_enter Tryz.func89, Tryz.ntmps89
  go_wp2_with fail
  refine (unhide HH).mono ?_
  rintro e w1 ⟨rfl, hB1⟩
  have hB2 := bstep (unhide HB) hB1
  clear hB1 HB HH
  go_wp2_with fail
  go_ret
  exact ⟨rfl, hB2⟩
theorem ord_zero (a b c d : Int) : (ordI a b c d == 0) = decide (a = c ∧ b = d) := by
  unfold ordI
  split
  · rename_i h; simp [h]
  · rename_i h
    split <;> simp [h]
theorem ord_neg (n r : Int) (p : OpV) : decide (ordI p.atN p.atR n r < 0) = ahead n r p := ordI_lt _ _ _ _

set_option maxHeartbeats 6400000 in
theorem search_any (w : World) (v : Value) (l : List OpV) (n r : Int) (h : RdOps w v l) (hs : opsB l = true) :
    Calls Tryz.prog 88 #[v, .agg #[.int .i64 n, .int .i64 r], .func (.func 89) #[] #[]] w fun e w' => e = .returned (.tuple #[.int .i64 (posO l n r), .bool (there l n r)]) ∧ Below w.heap.size w w' := by
  obtain ⟨hl, _⟩ := opsB_parts hs
  have HS := hide hs
  have hA := (Below.refl w.heap.size w).alloc (Nat.le_refl _) (.cells #[.int .i64 n, .int .i64 r] 25)
  have lt := Loc.made w #[.int .i64 n, .int .i64 r] 25
  have hR := h.keep hA
  obtain ⟨av, cv, rfl, _, _⟩ := Elems.shape h
  have HAT := hide (fun j (hj : j < l.length) => (show ∃ b off cap, (Value.slice av l.length cv) = .slice (some ⟨b, off, none⟩) l.length cap ∧ b < (w.alloc (.cells #[.int .i64 n, .int .i64 r] 25)).heap.size ∧ ∃ C : List Value, C.length = 12 ∧ (∀ i, i < 12 → (w.alloc (.cells #[.int .i64 n, .int .i64 r] 25)).cell? ⟨b, off + j * 12 + i, none⟩ = C[i]?) ∧ RdOpC (w.alloc (.cells #[.int .i64 n, .int .i64 r] 25)) C l[j] by
    obtain ⟨_, ⟨_, e⟩ | ⟨_, _, _, _, e⟩ | ⟨b, off, cap, ev, g1, g2, g3, g4, g5⟩⟩ := hR
    · subst e; simp at hj
    · subst e; simp at hj
    · exact ⟨b, off, cap, ev, g4, g5 j hj⟩))
  have LL := hide (And.intro hA lt)
  clear hs hA lt hR h
  go_enter Tryz.func88, Tryz.ntmps88
  go_wp2_with fail
  obtain ⟨hA, lt⟩ := unhide LL
  clear LL
  generalize (w.alloc (.cells #[.int .i64 n, .int .i64 r] 25)) = wa at *
  generalize hSS : w.heap.size = S at *
  have hSl := lt.lt
  have HA := hide hA
  clear hA
  go_loopw [9, 10, 11] (fun i j _ wr => ∃ a b : Nat, a ≤ b ∧ b ≤ l.length ∧ i = .int .i64 a ∧ j = .int .i64 b ∧ Hid ((∀ k (hk : k < l.length), k < a → ahead n r l[k] = true) ∧ (∀ k (hk : k < l.length), b ≤ k → ahead n r l[k] = false)) ∧ Below wa.heap.size wa wr) (fun i j _ _ => (intOf j).toNat - (intOf i).toNat)
  case atStart => exact ⟨0, l.length, Nat.zero_le _, Nat.le_refl _, rfl, rfl, hide ⟨fun k _ hk => by omega, fun k hk hb => by omega⟩, Below.refl _ _⟩
  case round =>
    obtain ⟨a, b, hab, hbl, rfl, rfl, HI, hB⟩ := hrel
    by_cases hlt : a < b
    · have hlt' : (a : Int) < (b : Int) := by omega
      obtain ⟨m, hm⟩ : ∃ m : Nat, m = (a + b) / 2 := ⟨_, rfl⟩
      have hml : m < l.length := by omega
      have hma : a ≤ m := by omega
      have hmb : m < b := by omega
      have hmz : ((a : Int) + (b : Int)) / 2 = (m : Int) := by omega
      have HMZ := hide (And.intro hmz (And.intro hml (And.intro hma hmb)))
      clear hmz hml hma hmb hm
      go_wp2_with fail
      obtain ⟨hmz, hml, hma, hmb⟩ := unhide HMZ
      clear HMZ
      rw [hmz]
      clear hmz
      have hm0 : (0 : Int) ≤ (m : Int) := by omega
      have hml' : (m : Int) < (l.length : Int) := by omega
      obtain ⟨pb, poff, pcap, epv, hpl, hel⟩ := unhide HAT m hml
      cases epv
      obtain ⟨a1, c1, a2, c2, a3, c3, e0, e1, e2, e3, e4, e5, e6, e7, e8, e9, e10, e11, hro⟩ := opc_at (w := wa) (W := wr) hB hpl hel
      have HC := hide (fun W => byStamp_any W l[m] a1 a2 a3 c1 c2 c3 n r)
      have hzz := ord_neg n r l[m]
      have hz0 := ord_zero l[m].atN l[m].atR n r
      unfold opVal at HC
      have lt1 := lt.all hB
      have t0 : wr.cell? ⟨S, 0, none⟩ = some (.int .i64 n) := lt1.cell 0
      have t1 : wr.cell? ⟨S, 1, none⟩ = some (.int .i64 r) := lt1.cell 1
      have hSr : S < wr.heap.size := lt1.lt
      have hpr : pb < wr.heap.size := Nat.lt_of_lt_of_le hpl hB.size
      replace e0 := Gr.cell hpr e0
      replace e1 := Gr.cell hpr e1
      replace e2 := Gr.cell hpr e2
      replace e3 := Gr.cell hpr e3
      replace e4 := Gr.cell hpr e4
      replace e5 := Gr.cell hpr e5
      replace e6 := Gr.cell hpr e6
      replace e7 := Gr.cell hpr e7
      replace e8 := Gr.cell hpr e8
      replace e9 := Gr.cell hpr e9
      replace e10 := Gr.cell hpr e10
      replace e11 := Gr.cell hpr e11
      replace t0 := Gr.cell hSr t0
      replace t1 := Gr.cell hSr t1
      have hNE : Nonempty (Gr wr) := ⟨⟨wr, Below.refl _ _⟩⟩
      clear hel hro lt1
      have HD := hide (And.intro (fun (ha : ahead n r l[m] = true) => (show ((∀ k (hk : k < l.length), k < m + 1 → ahead n r l[k] = true) ∧ (∀ k (hk : k < l.length), b ≤ k → ahead n r l[k] = false)) from ⟨fun k hk hkm => ahead_down (unhide HS) (by omega) hml ha, (unhide HI).2⟩)) (fun (ha : ahead n r l[m] = false) => (show ((∀ k (hk : k < l.length), k < a → ahead n r l[k] = true) ∧ (∀ k (hk : k < l.length), m ≤ k → ahead n r l[k] = false)) from ⟨(unhide HI).1, fun k hk hkm => by
        cases hak : ahead n r l[k] with
        | false => rfl
        | true => have := ahead_down (unhide HS) hkm hk hak; rw [ha] at this; cases this⟩)))
      generalize ahead n r l[m] = am at *
      generalize ordI l[m].atN l[m].atR n r = z at *
      clear hz0
      generalize l[m] = o at *
      refine wp_region_gr (by kernel_rfl) (by kernel_rfl) ?_
      repeat (go_big_quiet_step ((rename_i p; exact calls_gr (unhide HC _))))
      refine wpQuiet_nil ?_
      rintro _ ⟨p, rfl⟩
      have hB3 := bstep hB p.h
      clear e0 e1 e2 e3 e4 e5 e6 e7 e8 e9 e10 e11 t0 t1 HC
      cases am with
      | true =>
        have hz1 : z < 0 := by simpa using hzz
        clear hzz
        have HD1 := hide ((unhide HD).1 rfl)
        clear HD HI
        go_wp2_with fail
        go_roundw
        case rel => exact ⟨m + 1, b, by omega, hbl, by go_num, rfl, HD1, hB3⟩
        case measure => simp [intOf]; omega
      | false =>
        have hz1 : ¬ z < 0 := by simpa using hzz
        clear hzz
        have HD1 := hide ((unhide HD).2 rfl)
        clear HD HI
        go_wp2_with fail
        go_roundw
        case rel => exact ⟨a, m, hma, by omega, rfl, rfl, HD1, hB3⟩
        case measure => simp [intOf]; omega
    · have e : b = a := by omega
      subst e
      have hpos : posO l n r = b := posO_of hbl (unhide HI).1 (fun hk => (unhide HI).2 b hk (Nat.le_refl _))
      clear HI
      by_cases hbn : b < l.length
      · have hth : there l n r = decide (l[b].atN = n ∧ l[b].atR = r) := by unfold there; simp only [hpos, hbn, dite_true]
        have hb0 : (0 : Int) ≤ (b : Int) := by omega
        have hbn' : (b : Int) < (l.length : Int) := by omega
        have HH := hide (And.intro hpos (And.intro hth (And.intro hbn' hb0)))
        clear hpos hth hbn' hb0
        go_wp2_with fail
        obtain ⟨hpos, hth, hbn', hb0⟩ := unhide HH
        clear HH
        have hdb : decide (b < l.length) = true := by simpa using hbn
        obtain ⟨pb, poff, pcap, epv, hpl, hel⟩ := unhide HAT b hbn
        cases epv
        obtain ⟨a1, c1, a2, c2, a3, c3, e0, e1, e2, e3, e4, e5, e6, e7, e8, e9, e10, e11, hro⟩ := opc_at (w := wa) (W := wr) hB hpl hel
        have HC := hide (fun W => byStamp_any W l[b] a1 a2 a3 c1 c2 c3 n r)
        have hz0 := ord_zero l[b].atN l[b].atR n r
        unfold opVal at HC
        have lt1 := lt.all hB
        have t0 : wr.cell? ⟨S, 0, none⟩ = some (.int .i64 n) := lt1.cell 0
        have t1 : wr.cell? ⟨S, 1, none⟩ = some (.int .i64 r) := lt1.cell 1
        have hSr : S < wr.heap.size := lt1.lt
        have hpr : pb < wr.heap.size := Nat.lt_of_lt_of_le hpl hB.size
        replace e0 := Gr.cell hpr e0
        replace e1 := Gr.cell hpr e1
        replace e2 := Gr.cell hpr e2
        replace e3 := Gr.cell hpr e3
        replace e4 := Gr.cell hpr e4
        replace e5 := Gr.cell hpr e5
        replace e6 := Gr.cell hpr e6
        replace e7 := Gr.cell hpr e7
        replace e8 := Gr.cell hpr e8
        replace e9 := Gr.cell hpr e9
        replace e10 := Gr.cell hpr e10
        replace e11 := Gr.cell hpr e11
        replace t0 := Gr.cell hSr t0
        replace t1 := Gr.cell hSr t1
        have hNE : Nonempty (Gr wr) := ⟨⟨wr, Below.refl _ _⟩⟩
        clear hel hro lt1
        have HT := hide (hth.trans hz0.symm)
        have HP := hide hpos
        clear hth hz0 hpos
        generalize ordI l[b].atN l[b].atR n r = z at *
        generalize l[b] = o at *
        refine wp_region_gr (by kernel_rfl) (by kernel_rfl) ?_
        repeat (go_big_quiet_step ((rename_i p; exact calls_gr (unhide HC _))))
        refine wpQuiet_nil ?_
        rintro _ ⟨p, rfl⟩
        have hB3 := (unhide HA).trans ((bstep hB p.h).mono (Nat.le_of_lt hSl))
        clear e0 e1 e2 e3 e4 e5 e6 e7 e8 e9 e10 e11 t0 t1 HC
        go_wp2_with fail
        go_ret2
        exact ⟨by rw [unhide HP, unhide HT]; rfl, by rw [hSS]; exact hB3⟩
      · have hth : there l n r = false := by unfold there; simp only [hpos, hbn, dite_false]
        have hbe : b = l.length := by omega
        have HH := hide (And.intro hpos hth)
        clear hpos hth hbn
        subst hbe
        go_wp2_with fail
        have hNE : Nonempty (Gr wr) := ⟨⟨wr, Below.refl _ _⟩⟩
        refine wp_region_gr (by kernel_rfl) (by kernel_rfl) ?_
        repeat (go_big_quiet_step (fail))
        refine wpQuiet_nil ?_
        rintro _ ⟨p, rfl⟩
        have hB3 := (unhide HA).trans ((bstep hB p.h).mono (Nat.le_of_lt hSl))
        go_wp2_with fail
        go_ret2
        exact ⟨by rw [(unhide HH).1, (unhide HH).2]; rfl, by rw [hSS]; exact hB3⟩
end Go.Proofs.YtkmmhlimihkgfaaGreat

/- Rows of operations whose block is the call's own, while the operations' rows were there before. -/
namespace Go.Proofs.YtkmmhlimihkgfaaGreat
open Go.RowKit
set_option linter.unusedVariables false

/-- The row v is the call's own; its operations are readable in w0, the world in which the call began. -/
def ShOps (w0 w : World) (base : Nat) (v : Value) (l : List OpV) : Prop :=
  ∃ Cs : List (List Value), Cs.length = l.length ∧ (∀ i (hi : i < l.length), (Cs.getD i []).length = 12 ∧ RdOpC w0 (Cs.getD i []) l[i]) ∧ w.ownsRow base 28 12 v l.length Cs.flatten
theorem sh_none (w0 w : World) (base : Nat) : ShOps w0 w base (.slice none 0 0) [] := ⟨[], rfl, fun i hi => by simp at hi, World.ownsRow_nil _ _ _ _⟩
theorem RdOpC.keep {w w' : World} {C : List Value} {o : OpV} (h : RdOpC w C o) (hb : Below w.heap.size w w') : RdOpC w' C o := by
  obtain ⟨k, n, t, e, h1, h2, h3⟩ := h
  exact ⟨k, n, t, e, h1.keep hb, h2.keep hb, h3.keep hb⟩
theorem ShOps.rd {w0 w : World} {base : Nat} {v : Value} {l : List OpV} (h : ShOps w0 w base v l) (hB : Below w0.heap.size w0 w) : RdOps w v l := by
  obtain ⟨Cs, h1, h2, h3⟩ := h
  have hO : OwElems w 28 12 v l (fun C x G => RdOpC w0 C x ∧ G = []) (FB v ++ (List.replicate l.length ([] : List Nat)).flatten) :=
    ⟨Cs, List.replicate l.length [], h1, by simp, fun i hi => ⟨(h2 i hi).1, (h2 i hi).2, by simp [List.getD_eq_getElem?_getD, hi]⟩, ownsRow_base h3 0 (Nat.zero_le _), rfl⟩
  exact OwElems.rd hO (OwElems.len hO) (fun C x G hr => hr.1.keep hB)
/-- The cells of a readable row, one behind the other. -/
theorem rd_flat {w0 w : World} {b off n cap : Nat} {l : List OpV} (h : ∀ i (hi : i < l.length), ∃ C : List Value, C.length = 12 ∧ (∀ j, j < 12 → w.cell? ⟨b, off + i * 12 + j, none⟩ = C[j]?) ∧ RdOpC w0 C l[i]) :
    ∃ Cs : List (List Value), Cs.length = l.length ∧ (∀ i (hi : i < l.length), (Cs.getD i []).length = 12 ∧ RdOpC w0 (Cs.getD i []) l[i]) ∧ Cs.flatten.length = l.length * 12 ∧ ∀ j u, Cs.flatten[j]? = some u → w.cell? ⟨b, off + j, none⟩ = some u := by
  induction l generalizing off with
  | nil => exact ⟨[], rfl, fun i hi => by simp at hi, rfl, fun j u hj => by simp at hj⟩
  | cons o l ih =>
    obtain ⟨C, hC, hc, hr⟩ := h 0 (by simp)
    obtain ⟨Cs, h1, h2, h3, h4⟩ := ih (off := off + 12) (fun i hi => by
      obtain ⟨C, hC, hc, hr⟩ := h (i + 1) (by simpa using hi)
      refine ⟨C, hC, fun j hj => ?_, by simpa using hr⟩
      rw [← hc j hj]
      congr 2
      omega)
    refine ⟨C :: Cs, by simp [h1], fun i hi => ?_, by simp [hC]; simp at h3; omega, fun j u hj => ?_⟩
    · cases i with
      | zero => exact ⟨by simpa using hC, by simpa using hr⟩
      | succ i => simpa using h2 i (by simpa using hi)
    · rw [List.flatten_cons] at hj
      by_cases hj12 : j < 12
      · rw [List.getElem?_append_left (by omega)] at hj
        have := hc j hj12
        rw [hj] at this
        simpa using this
      · rw [List.getElem?_append_right (by omega), hC] at hj
        have := h4 (j - 12) u hj
        rw [← this]
        congr 2
        omega
end Go.Proofs.YtkmmhlimihkgfaaGreat

/- An operation stored into a row of the call's own. -/
namespace Go.Proofs.YtkmmhlimihkgfaaGreat
open Go.RowKit
set_option linter.unusedVariables false

set_option maxHeartbeats 3200000 in
theorem set_twelveL (xs : List Value) (m : Nat) (v0 v1 v2 v3 v4 v5 v6 v7 v8 v9 v10 v11 : Value) (h : m + 12 ≤ xs.length) : ((((((((((((xs.set (m) v0).set (m + 1) v1).set (m + 2) v2).set (m + 3) v3).set (m + 4) v4).set (m + 5) v5).set (m + 6) v6).set (m + 7) v7).set (m + 8) v8).set (m + 9) v9).set (m + 10) v10).set (m + 11) v11) = xs.take m ++ [v0, v1, v2, v3, v4, v5, v6, v7, v8, v9, v10, v11] ++ xs.drop (m + 12) := by
  have h1 := take_twelve xs m v0 v1 v2 v3 v4 v5 v6 v7 v8 v9 v10 v11 h
  have h2 : ((((((((((((xs.set (m) v0).set (m + 1) v1).set (m + 2) v2).set (m + 3) v3).set (m + 4) v4).set (m + 5) v5).set (m + 6) v6).set (m + 7) v7).set (m + 8) v8).set (m + 9) v9).set (m + 10) v10).set (m + 11) v11).drop (m + 12) = xs.drop (m + 12) := by
    rw [List.drop_set_of_lt (by omega), List.drop_set_of_lt (by omega), List.drop_set_of_lt (by omega), List.drop_set_of_lt (by omega), List.drop_set_of_lt (by omega), List.drop_set_of_lt (by omega), List.drop_set_of_lt (by omega), List.drop_set_of_lt (by omega), List.drop_set_of_lt (by omega), List.drop_set_of_lt (by omega), List.drop_set_of_lt (by omega), List.drop_set_of_lt (by omega)]
  rw [← List.take_append_drop (m + 12) ((((((((((((xs.set (m) v0).set (m + 1) v1).set (m + 2) v2).set (m + 3) v3).set (m + 4) v4).set (m + 5) v5).set (m + 6) v6).set (m + 7) v7).set (m + 8) v8).set (m + 9) v9).set (m + 10) v10).set (m + 11) v11), h1, h2]
theorem flat_set12 : ∀ (Cs : List (List Value)) (i : Nat) (C : List Value), (∀ D ∈ Cs, D.length = 12) → i < Cs.length → (Cs.set i C).flatten = Cs.flatten.take (i * 12) ++ C ++ Cs.flatten.drop (i * 12 + 12)
  | [], i, C, _, h => by simp at h
  | D :: Cs, 0, C, hD, _ => by
    have := hD D (by simp)
    simp [this]
  | D :: Cs, i + 1, C, hD, h => by
    have h1 := hD D (by simp)
    have ih := flat_set12 Cs i C (fun E hE => hD E (by simp [hE])) (by simpa using h)
    rw [List.set_cons_succ, List.flatten_cons, ih, List.flatten_cons, List.take_append, List.drop_append, h1]
    have e1 : (i + 1) * 12 - 12 = i * 12 := by omega
    have e2 : (i + 1) * 12 + 12 - 12 = i * 12 + 12 := by omega
    rw [e1, e2, List.take_of_length_le (by omega : D.length ≤ (i + 1) * 12), List.drop_of_length_le (by omega : D.length ≤ (i + 1) * 12 + 12)]
    simp
set_option maxHeartbeats 3200000 in
theorem ShOps.set {w0 w : World} {base g cap : Nat} {l : List OpV} (h : ShOps w0 w base (.slice (some ⟨g, 0, none⟩) l.length cap) l) (i : Nat) (hi : i < l.length) (v0 v1 v2 v3 v4 v5 v6 v7 v8 v9 v10 v11 : Value) (o : OpV) (ho : RdOpC w0 [v0, v1, v2, v3, v4, v5, v6, v7, v8, v9, v10, v11] o) :
    ShOps w0 ((((((((((((w.setCell ⟨g, i * 12, none⟩ v0).setCell ⟨g, i * 12 + 1, none⟩ v1).setCell ⟨g, i * 12 + 2, none⟩ v2).setCell ⟨g, i * 12 + 3, none⟩ v3).setCell ⟨g, i * 12 + 4, none⟩ v4).setCell ⟨g, i * 12 + 5, none⟩ v5).setCell ⟨g, i * 12 + 6, none⟩ v6).setCell ⟨g, i * 12 + 7, none⟩ v7).setCell ⟨g, i * 12 + 8, none⟩ v8).setCell ⟨g, i * 12 + 9, none⟩ v9).setCell ⟨g, i * 12 + 10, none⟩ v10).setCell ⟨g, i * 12 + 11, none⟩ v11) base (.slice (some ⟨g, 0, none⟩) (l.set i o).length cap) (l.set i o) ∧ Frm w ((((((((((((w.setCell ⟨g, i * 12, none⟩ v0).setCell ⟨g, i * 12 + 1, none⟩ v1).setCell ⟨g, i * 12 + 2, none⟩ v2).setCell ⟨g, i * 12 + 3, none⟩ v3).setCell ⟨g, i * 12 + 4, none⟩ v4).setCell ⟨g, i * 12 + 5, none⟩ v5).setCell ⟨g, i * 12 + 6, none⟩ v6).setCell ⟨g, i * 12 + 7, none⟩ v7).setCell ⟨g, i * 12 + 8, none⟩ v8).setCell ⟨g, i * 12 + 9, none⟩ v9).setCell ⟨g, i * 12 + 10, none⟩ v10).setCell ⟨g, i * 12 + 11, none⟩ v11) [g] := by
  obtain ⟨Cs, h1, h2, h3⟩ := h
  have hl := h3.1
  have hall : ∀ D ∈ Cs, D.length = 12 := by
    intro D hD
    obtain ⟨j, hj, rfl⟩ := List.getElem_of_mem hD
    have := (h2 j (by omega)).1
    have e : Cs.getD j [] = Cs[j] := by simp [List.getD_eq_getElem?_getD, hj]
    rw [e] at this
    exact this
  refine ⟨⟨Cs.set i [v0, v1, v2, v3, v4, v5, v6, v7, v8, v9, v10, v11], by simp [h1], fun j hj => ?_, ?_⟩, ((((((((((((set_frm w g _ _).trans (set_frm _ _ _ _)).trans (set_frm _ _ _ _)).trans (set_frm _ _ _ _)).trans (set_frm _ _ _ _)).trans (set_frm _ _ _ _)).trans (set_frm _ _ _ _)).trans (set_frm _ _ _ _)).trans (set_frm _ _ _ _)).trans (set_frm _ _ _ _)).trans (set_frm _ _ _ _)).trans (set_frm _ _ _ _))⟩
  · have hj' : j < l.length := by simpa using hj
    by_cases hij : i = j
    · subst hij
      rw [List.getD_eq_getElem?_getD, List.getElem?_set, if_pos rfl, if_pos (by omega), List.getElem_set_self]
      exact ⟨rfl, ho⟩
    · rw [List.getD_eq_getElem?_getD, List.getElem?_set, if_neg hij, ← List.getD_eq_getElem?_getD, List.getElem_set_ne hij]
      exact h2 j hj'
  · rw [List.length_set, flat_set12 Cs i _ hall (by omega)]
    have t0 := (h3.stored (i * 12) v0).1
    have t1 := (t0.stored (i * 12 + 1) v1).1
    have t2 := (t1.stored (i * 12 + 2) v2).1
    have t3 := (t2.stored (i * 12 + 3) v3).1
    have t4 := (t3.stored (i * 12 + 4) v4).1
    have t5 := (t4.stored (i * 12 + 5) v5).1
    have t6 := (t5.stored (i * 12 + 6) v6).1
    have t7 := (t6.stored (i * 12 + 7) v7).1
    have t8 := (t7.stored (i * 12 + 8) v8).1
    have t9 := (t8.stored (i * 12 + 9) v9).1
    have t10 := (t9.stored (i * 12 + 10) v10).1
    have t11 := (t10.stored (i * 12 + 11) v11).1
    rw [← set_twelveL Cs.flatten (i * 12) v0 v1 v2 v3 v4 v5 v6 v7 v8 v9 v10 v11 (by omega)]
    exact t11
/-- The cells that it takes the place of. -/
theorem ShOps.cells {w0 w : World} {base g cap : Nat} {l : List OpV} (h : ShOps w0 w base (.slice (some ⟨g, 0, none⟩) l.length cap) l) (i : Nat) (hi : i < l.length) (j : Nat) (hj : j < 12) : (∃ y, w.cell? ⟨g, i * 12 + j, none⟩ = some y) ∧ w.frozen? ⟨g, i * 12 + j, none⟩ = false := by
  obtain ⟨Cs, h1, h2, h3⟩ := h
  have hl := h3.1
  exact ⟨⟨Cs.flatten[i * 12 + j]'(by omega), by rw [h3.cellAt (i * 12 + j) (by omega), List.getElem?_eq_getElem (by omega)]⟩, h3.frozenAt (i * 12 + j)⟩
end Go.Proofs.YtkmmhlimihkgfaaGreat

/- An append of a readable row of bytes to an owned one, as one law for the walk. -/
namespace Go.Proofs.YtkmmhlimihkgfaaGreat
open Go.RowKit
set_option linter.unusedVariables false

/-- 'append(out, src...)': out owned, src readable: what comes is owned, and no block but out's own has been written. -/
theorem wpList_app {w : World} {ops : Array Oper} {rest : List Oper} {o : Oper} {a : Act} {Q : Exit → Act → World → Prop} (hgd : o.guard = none) (s x : Operand)
    (ho : o.op = .call { callee := .builtin .append, args := #[s, x], argTypes := #[22, 22] })
    (base : Nat) (v : Value) (l : List Int) (hs : a.eval s = v) (hown : Own w base v l) (u : Value) (m : List Int) (hx : a.eval x = u) (hu : Byt w u m)
    (hlen : l.length + m.length ≤ 134217728) (hbase : base ≤ w.heap.size)
    (h : ∀ v' w', Own w' base v' (l ++ m) → w.grownBy w' v.ownBlock → wpList Tryz.prog ops Q rest (a.put o.dst v') w') : wpList Tryz.prog ops Q (o :: rest) a w := by
  obtain ⟨i0, hi, hz0, hz1, hz2⟩ := info_parts Tryz.info5
  have hfull : ∀ (ad : Addr) (c : Nat), a.eval x = .slice (some ad) m.length c → (∀ j, j < m.length → w.cell? (ad.add j) = some (.int .u8 (m.getD j 0))) → wpList Tryz.prog ops Q (o :: rest) a w := by
    intro ad c hx' hc
    refine wpList_append_own _ hgd s x 22 ho base 5 i0 (.int .u8 0) 1 1 Tryz.underlying22 hi hz0 hz1 hz2 rfl (by decide) v l.length (vals l) hs hown.2 ad m.length c (vals m) hx' (by rw [vals_len]; omega) ?_ (vals_one m) (by unfold maxLen; omega) (by omega) hbase ?_
    · intro j y hj
      have hlt : j < m.length := by
        by_cases hlt : j < m.length
        · exact hlt
        · rw [List.getElem?_eq_none (by rw [vals_len]; omega)] at hj; cases hj
      rw [vals_at hlt] at hj
      rw [hc j hlt]; exact hj
    · intro v' w' h1 h2 _
      refine h v' w' ⟨hown.1.app hu.1, ?_⟩ h2
      rw [vals_app, List.length_append]; exact h1
  obtain ⟨hok, hm, ⟨rfl, rfl⟩ | ⟨y, cap, rfl, hc, rfl⟩ | ⟨b, off, cap, rfl, h1, h2, h3, h4, h5⟩⟩ := hu
  · refine wpList_append_own_none hgd s x 22 ho base 5 i0 1 Tryz.underlying22 hi v l.length (vals l) hs hown.2 hx ?_
    exact h v w (by rw [List.append_nil]; exact hown) (World.grownBy.refl _ _)
  · exact hfull y cap hx (fun j hj => by simp at hj)
  · exact hfull ⟨b, off, none⟩ cap hx (fun j hj => by rw [add_plain]; exact h5 j hj)

/-- A new block of one byte. -/
theorem byt_one (w : World) (x : Int) (h0 : 0 ≤ x) (h1 : x ≤ 255) : Byt (w.alloc (.cells #[.int .u8 x] 5)) (.slice (some ⟨w.heap.size, 0, none⟩) 1 1) [x] := by
  refine ⟨okB.one h0 h1, by simp [maxLen], .inr (.inr ⟨w.heap.size, 0, 1, rfl, by simp, by simp [maxLen], by simp, by simp, fun i hi => ?_⟩)⟩
  have e : i = 0 := by simpa using hi
  subst e
  simp
/-- A new block of none. -/
theorem own_none (w : World) : Own (w.alloc (.cells #[] 5)) w.heap.size (.slice (some ⟨w.heap.size, 0, none⟩) 0 0) [] :=
  ⟨okB_nil, World.ownsRow_lit w #[] 0 (Nat.le_refl _) (Nat.zero_le _) rfl⟩
theorem Own.alloc {w : World} {base : Nat} {v : Value} {l : List Int} (h : Own w base v l) (o : Obj) : Own (w.alloc o) base v l := ⟨h.1, h.2.alloc o⟩
theorem Byt.alloc {w : World} {v : Value} {l : List Int} (h : Byt w v l) (o : Obj) : Byt (w.alloc o) v l := h.keep ((Below.refl _ _).alloc (Nat.le_refl _) o)
/-- A block of the call's own that was there when the row was made is no older than 'base'. -/
theorem Own.base_le {w : World} {base : Nat} {v : Value} {l : List Int} (h : Own w base v l) : ∀ g, v.ownBlock = some g → base ≤ g := fun g hg => (h.lt g hg).1

end Go.Proofs.YtkmmhlimihkgfaaGreat

/- An append of operations that are there to a row of the call's own. -/
namespace Go.Proofs.YtkmmhlimihkgfaaGreat
open Go.RowKit
set_option linter.unusedVariables false

/-- A stretch of operations: its cells lie in w, its operations are readable in w0. -/
def Seg (w0 w : World) (u : Value) (m : List OpV) : Prop :=
  (u = .slice none 0 0 ∧ m = []) ∨ (∃ x c, u = .slice (some x) 0 c ∧ m = []) ∨
  ∃ b off c, u = .slice (some ⟨b, off, none⟩) m.length c ∧ ∀ i (hi : i < m.length), ∃ C : List Value, C.length = 12 ∧ (∀ j, j < 12 → w.cell? ⟨b, off + i * 12 + j, none⟩ = C[j]?) ∧ RdOpC w0 C m[i]
theorem Seg.at {w0 w : World} {b off n c : Nat} {m : List OpV} (hn : m.length = n) (hB : Below w0.heap.size w0 w) (hb : b < w0.heap.size) (h : ∀ i (hi : i < m.length), ∃ C : List Value, C.length = 12 ∧ (∀ j, j < 12 → w0.cell? ⟨b, off + i * 12 + j, none⟩ = C[j]?) ∧ RdOpC w0 C m[i]) : Seg w0 w (.slice (some ⟨b, off, none⟩) n c) m :=
  .inr (.inr ⟨b, off, c, by rw [hn], fun i hi => by
    obtain ⟨C, hC, hc, hr⟩ := h i hi
    exact ⟨C, hC, fun j hj => (hB.cell (p := ⟨b, off + i * 12 + j, none⟩) hb).trans (hc j hj), hr⟩⟩)
theorem RdOps.seg {w0 w : World} {v : Value} {l : List OpV} (h : RdOps w0 v l) (hB : Below w0.heap.size w0 w) : Seg w0 w v l := by
  obtain ⟨_, ⟨rfl, rfl⟩ | ⟨x, cap, rfl, hc, rfl⟩ | ⟨b, off, cap, rfl, g1, g2, g3, g4, g5⟩⟩ := h
  · exact .inl ⟨rfl, rfl⟩
  · exact .inr (.inl ⟨x, cap, rfl, rfl⟩)
  · exact Seg.at rfl hB g4 g5
/-- One operation in a new block. -/
theorem Seg.one {w0 w : World} {g : Nat} {C : List Value} {o : OpV} (hC : C.length = 12) (hl : Loc w g C.toArray 28) (hr : RdOpC w0 C o) : Seg w0 w (.slice (some ⟨g, 0, none⟩) 1 1) [o] :=
  .inr (.inr ⟨g, 0, 1, rfl, fun i hi => by
    have e : i = 0 := by simpa using hi
    subst e
    exact ⟨C, hC, fun j hj => by rw [Nat.zero_mul, Nat.zero_add, hl.cell j]; simp, hr⟩⟩)
theorem opc_one {w : World} {C : List Value} {o : OpV} (h : RdOpC w C o) : ∀ u ∈ C, u.oneCell' = true := by
  obtain ⟨k, n, t, rfl, hk, hn, ht⟩ := h
  obtain ⟨a1, c1, rfl, _, _⟩ := hk.shape
  obtain ⟨a2, c2, rfl, _, _⟩ := hn.shape
  obtain ⟨a3, c3, rfl, _, _⟩ := ht.shape
  intro u hu
  simp at hu
  rcases hu with rfl | rfl | rfl | rfl | rfl | rfl | rfl | rfl | rfl | rfl | rfl | rfl <;> rfl
theorem flat_one {w : World} {l : List OpV} {Cs : List (List Value)} (h1 : Cs.length = l.length) (h : ∀ i (hi : i < l.length), (Cs.getD i []).length = 12 ∧ RdOpC w (Cs.getD i []) l[i]) : ∀ u ∈ Cs.flatten, u.oneCell' = true := by
  intro u hu
  obtain ⟨C, hC, hmem⟩ := List.mem_flatten.1 hu
  obtain ⟨i, hi, rfl⟩ := List.getElem_of_mem hC
  have := (h i (by omega)).2
  have e : Cs.getD i [] = Cs[i] := by simp [List.getD_eq_getElem?_getD, hi]
  rw [e] at this
  exact opc_one this u hmem
theorem wpList_appSh {w0 w : World} {ops : Array Oper} {rest : List Oper} {o : Oper} {a : Act} {Q : Exit → Act → World → Prop} (hgd : o.guard = none) (s x : Operand)
    (ho : o.op = .call { callee := .builtin .append, args := #[s, x], argTypes := #[23, 23] })
    (base : Nat) (v : Value) (l : List OpV) (hs : a.eval s = v) (hsh : ShOps w0 w base v l) (u : Value) (m : List OpV) (hx : a.eval x = u) (hu : Seg w0 w u m)
    (hlen : l.length + m.length ≤ 100000) (hbase : base ≤ w.heap.size)
    (h : ∀ v' w', ShOps w0 w' base v' (l ++ m) → w.grownBy w' v.ownBlock → wpList Tryz.prog ops Q rest (a.put o.dst v') w') : wpList Tryz.prog ops Q (o :: rest) a w := by
  obtain ⟨i0, hi, hz0, hz1, hz2⟩ := info_parts Tryz.info28
  obtain ⟨Cs, h1, h2, h3⟩ := hsh
  have hfull : ∀ (ad : Addr) (c : Nat) (Ds : List (List Value)), a.eval x = .slice (some ad) m.length c → Ds.length = m.length → (∀ i (hi : i < m.length), (Ds.getD i []).length = 12 ∧ RdOpC w0 (Ds.getD i []) m[i]) → Ds.flatten.length = m.length * 12 → (∀ j y, Ds.flatten[j]? = some y → w.cell? (ad.add j) = some y) → wpList Tryz.prog ops Q (o :: rest) a w := by
    intro ad c Ds hx' e1 e2 e3 hc
    refine wpList_append_own _ hgd s x 23 ho base 28 i0 _ 12 144 Tryz.underlying23 hi hz0 hz1 hz2 rfl (by decide) v l.length Cs.flatten hs h3 ad m.length c Ds.flatten hx' e3 hc (flat_one e1 e2) (by unfold maxLen; omega) (by omega) hbase ?_
    intro v' w' k1 k2 _
    refine h v' w' ⟨Cs ++ Ds, by simp [h1, e1], fun i hi => ?_, ?_⟩ k2
    · by_cases hil : i < l.length
      · rw [List.getD_eq_getElem?_getD, List.getElem?_append_left (by omega), ← List.getD_eq_getElem?_getD, List.getElem_append_left hil]
        exact h2 i hil
      · rw [List.getD_eq_getElem?_getD, List.getElem?_append_right (by omega), ← List.getD_eq_getElem?_getD, List.getElem_append_right (by omega), h1]
        exact e2 (i - l.length) (by simp at hi; omega)
    · rw [List.length_append, List.flatten_append]; exact k1
  rcases hu with ⟨rfl, rfl⟩ | ⟨y, c, rfl, rfl⟩ | ⟨b, off, c, rfl, hel⟩
  · refine wpList_append_own_none hgd s x 23 ho base 28 i0 12 Tryz.underlying23 hi v l.length Cs.flatten hs h3 hx ?_
    exact h v w (by rw [List.append_nil]; exact ⟨Cs, h1, h2, h3⟩) (World.grownBy.refl _ _)
  · exact hfull y c [] hx rfl (fun i hi => by simp at hi) rfl (fun j y hj => by simp at hj)
  · obtain ⟨Ds, e1, e2, e3, e4⟩ := rd_flat (n := 0) (cap := 0) hel
    exact hfull ⟨b, off, none⟩ c Ds hx e1 e2 e3 (fun j y hj => by rw [add_plain]; exact e4 j y hj)
end Go.Proofs.YtkmmhlimihkgfaaGreat

/- The order of keys, in plain mathematics. -/
namespace Go.Proofs.YtkmmhlimihkgfaaGreat
set_option linter.unusedVariables false

/-- By the first number in which they differ; the one that begins the other one is less. -/
def klB : List Int → List Int → Bool
  | [], [] => false
  | [], _ :: _ => true
  | _ :: _, [] => false
  | x :: a, y :: b => if x = y then klB a b else decide (x < y)

theorem klB_end {a b : List Int} (h : a = [] ∨ b = []) : klB a b = decide (a.length < b.length) := by
  cases a <;> cases b <;> simp [klB] at *
theorem drop_cons {l : List Int} {k : Nat} (h : k < l.length) : l.drop k = l.getD k 0 :: l.drop (k + 1) := by
  rw [List.drop_eq_getElem_cons h, getD_at h]
theorem klB_same {a b : List Int} {k : Nat} (ha : k < a.length) (hb : k < b.length) (e : a.getD k 0 = b.getD k 0) : klB (a.drop k) (b.drop k) = klB (a.drop (k + 1)) (b.drop (k + 1)) := by
  rw [drop_cons ha, drop_cons hb, klB, if_pos e]
theorem klB_diff {a b : List Int} {k : Nat} (ha : k < a.length) (hb : k < b.length) (e : a.getD k 0 ≠ b.getD k 0) : klB (a.drop k) (b.drop k) = decide (a.getD k 0 < b.getD k 0) := by
  rw [drop_cons ha, drop_cons hb, klB, if_neg e]
theorem klB_over {a b : List Int} {k : Nat} (ha : k ≤ a.length) (hb : k ≤ b.length) (h : k = a.length ∨ k = b.length) : klB (a.drop k) (b.drop k) = decide (a.length < b.length) := by
  rw [klB_end (by rcases h with rfl | rfl <;> simp)]
  simp only [List.length_drop]
  rw [Bool.eq_iff_iff]
  simp only [decide_eq_true_eq]
  omega
theorem klB_irr (a : List Int) : klB a a = false := by
  induction a with
  | nil => rfl
  | cons x a ih => rw [klB, if_pos rfl, ih]
theorem klB_anti (a b : List Int) : (klB a b && klB b a) = false := by
  induction a generalizing b with
  | nil => cases b <;> rfl
  | cons x a ih =>
    cases b with
    | nil => rfl
    | cons y b =>
      by_cases e : x = y
      · rw [klB, if_pos e, klB, if_pos e.symm]; exact ih b
      · rw [klB, if_neg e, klB, if_neg (fun h => e h.symm)]
        by_cases h : x < y
        · have : ¬ y < x := by omega
          simp [this]
        · simp [h]
theorem klB_tri (a b : List Int) : (klB a b || klB b a) = !decide (a = b) := by
  induction a generalizing b with
  | nil => cases b <;> simp [klB]
  | cons x a ih =>
    cases b with
    | nil => simp [klB]
    | cons y b =>
      by_cases e : x = y
      · rw [klB, if_pos e, klB, if_pos e.symm, ih b]; simp [e]
      · rw [klB, if_neg e, klB, if_neg (fun h => e h.symm)]
        have : x < y ∨ y < x := by omega
        simp [e, this]
end Go.Proofs.YtkmmhlimihkgfaaGreat

/- impl.rowLess over bytes answers the order of rows; strings are in that order, too. -/
namespace Go.Proofs.YtkmmhlimihkgfaaGreat
open Go.RowKit
set_option linter.unusedVariables false

set_option maxHeartbeats 1600000 in
set_option maxRecDepth 1000000 in
theorem rowLessB_any (w : World) (u v : Value) (a b : List Int) (hu : Byt w u a) (hv : Byt w v b) :
    Calls Tryz.prog 123 #[u, v] w fun e w' => e = .returned (.bool (klB a b)) ∧ Below w.heap.size w w' := by
  have hma := hu.2.1
  have hmb := hv.2.1
  unfold maxLen at hma hmb
  by_cases h0 : a = [] ∨ b = []
  · have HE := hide (klB_end h0)
    have h0' : a.length = 0 ∨ b.length = 0 := by rcases h0 with rfl | rfl <;> simp
    obtain ⟨a1, c1, rfl, _⟩ := hu.shape
    obtain ⟨a2, c2, rfl, _⟩ := hv.shape
    clear hu hv h0
    generalize a.length = n at *
    generalize b.length = m at *
    rcases h0' with rfl | rfl <;> rcases a1 with _ | a1
    all_goals
      go_enter Tryz.func123, Tryz.ntmps123
      go_wp2
      all_goals
        refine wp_loop_rounds 1 ?_
        rw [rounds_succ]
        go_wp2
        go_ret
        exact ⟨by rw [unhide HE]; simp, Below.refl _ _⟩
  have ha0 : a ≠ [] := fun h => h0 (.inl h)
  have hb0 : b ≠ [] := fun h => h0 (.inr h)
  obtain ⟨hoka, _, ⟨rfl, rfl⟩ | ⟨x, cap, rfl, hc, rfl⟩ | ⟨p, off, cap, rfl, h1, h2, h3, h4, h5⟩⟩ := hu
  · exact absurd rfl ha0
  · exact absurd rfl ha0
  obtain ⟨hokb, _, ⟨rfl, rfl⟩ | ⟨x, cap, rfl, hc, rfl⟩ | ⟨q, off', cap', rfl, g1, g2, g3, g4, g5⟩⟩ := hv
  · exact absurd rfl hb0
  · exact absurd rfl hb0
  generalize hA : a.length = n at *
  generalize hC : b.length = m at *
  clear h0
  go_enter Tryz.func123, Tryz.ntmps123
  go_wp2
  all_goals
    go_loopw [15] (fun i wr => ∃ k : Nat, k ≤ n ∧ k ≤ m ∧ i = .int .i64 k ∧ Hid (klB a b = klB (a.drop k) (b.drop k)) ∧ Below w.heap.size w wr) (fun i _ => n - (intOf i).toNat)
    case atStart => exact ⟨0, Nat.zero_le _, Nat.zero_le _, rfl, hide rfl, Below.refl _ _⟩
    case round =>
      obtain ⟨k, hk, hk', rfl, ht, hB⟩ := hrel
      by_cases hlt : k < n ∧ k < m
      · obtain ⟨hka, hkb⟩ := hlt
        obtain ⟨x, hx⟩ : ∃ x, x = a.getD k 0 := ⟨_, rfl⟩
        obtain ⟨y, hy⟩ : ∃ y, y = b.getD k 0 := ⟨_, rfl⟩
        have c1 : wr.cell? ⟨p, off + k, none⟩ = some (.int .u8 x) := by rw [hx]; exact (hB.cell (p := ⟨p, off + k, none⟩) h4).trans (h5 k hka)
        have c2 : wr.cell? ⟨q, off' + k, none⟩ = some (.int .u8 y) := by rw [hy]; exact (hB.cell (p := ⟨q, off' + k, none⟩) g4).trans (g5 k hkb)
        have HX := hide hx
        have HY := hide hy
        have hlt' : (k : Int) < (n : Int) := by omega
        have hlt2 : (k : Int) < (m : Int) := by omega
        clear hx hy h5 g5
        by_cases hxy : x = y
        · have HT := hide ((unhide ht).trans (klB_same (by omega) (by omega) (by rw [← unhide HX, ← unhide HY]; exact hxy)))
          have hne : (x != y) = false := by simp [hxy]
          clear hxy
          go_wp2
          go_roundw
          case rel => exact ⟨k + 1, by omega, by omega, by go_num, HT, hB⟩
          case measure => simp [intOf]; omega
        · have HD := hide ((unhide ht).trans (klB_diff (by omega) (by omega) (by rw [← unhide HX, ← unhide HY]; exact hxy)))
          rw [← unhide HX, ← unhide HY] at HD
          have hne : (x != y) = true := by simp [hxy]
          clear hxy ht
          go_wp2
          go_ret
          exact ⟨by rw [unhide HD]; rfl, hB⟩
      · have HD := hide ((unhide ht).trans (klB_over (by omega) (by omega) (by omega)))
        rw [hA, hC] at HD
        clear h5 g5 ht
        rcases (show k = n ∨ (k < n ∧ k = m) by omega) with rfl | ⟨hlt', rfl⟩ <;> first | (exfalso; omega) | skip
        all_goals
          go_wp2
          go_ret
          exact ⟨by rw [unhide HD]; simp, hB⟩


theorem u8_lt {x y : Int} (hx : 0 ≤ x ∧ x ≤ 255) (hy : 0 ≤ y ∧ y ≤ 255) : (UInt8.ofNat x.toNat < UInt8.ofNat y.toNat) ↔ x < y := by
  rw [UInt8.lt_iff_toNat_lt]
  simp only [UInt8.toNat_ofNat']
  omega
theorem strL_less : ∀ (a b : List Int), okB a → okB b → Op.bytesLess (a.map fun n => UInt8.ofNat n.toNat) (b.map fun n => UInt8.ofNat n.toNat) = klB a b
  | [], [], _, _ => rfl
  | [], _ :: _, _, _ => rfl
  | _ :: _, [], _, _ => rfl
  | x :: a, y :: b, ha, hb => by
    have hx := ha x (by simp)
    have hy := hb y (by simp)
    have ih := strL_less a b (fun z hz => ha z (by simp [hz])) (fun z hz => hb z (by simp [hz]))
    simp only [List.map_cons]
    unfold Op.bytesLess klB
    rw [ih]
    have h1 := u8_lt hx hy
    have h2 := u8_lt hy hx
    by_cases e : x = y
    · subst e; simp
    · have e2 : ¬ UInt8.ofNat x.toNat = UInt8.ofNat y.toNat := fun h => by
        have h3 : ¬ UInt8.ofNat x.toNat < UInt8.ofNat y.toNat := by rw [h]; exact UInt8.lt_irrefl _
        have h4 : ¬ UInt8.ofNat y.toNat < UInt8.ofNat x.toNat := by rw [h]; exact UInt8.lt_irrefl _
        rw [h1] at h3
        rw [h2] at h4
        omega
      by_cases hl : x < y
      · simp [h1.2 hl, e, hl]
      · have h5 : ¬ UInt8.ofNat x.toNat < UInt8.ofNat y.toNat := fun h => hl (h1.1 h)
        simp [h5, e, hl, e2]
theorem str_less {a b : List Int} (ha : okB a) (hb : okB b) : Op.bytesLess (str a).toList (str b).toList = klB a b := by
  rw [toList_data, toList_data, str_list, str_list]
  exact strL_less a b ha hb
end Go.Proofs.YtkmmhlimihkgfaaGreat

/- Numbers as rows of bytes, in plain mathematics: what a row is read as. -/
namespace Go.Proofs.YtkmmhlimihkgfaaGreat

/-- 128 to the power k, for k up to 5. -/
def sc : Nat → Int
  | 0 => 1
  | 1 => 128
  | 2 => 16384
  | 3 => 2097152
  | 4 => 268435456
  | _ => 34359738368

/-- The number whose bytes begin the row, and how many they are; i bytes have been read, they came to acc. -/
def numGo : Nat → List Int → Nat → Int → Option (Int × Nat)
  | 0, _, _, _ => none
  | _ + 1, [], _, _ => none
  | f + 1, x :: r, i, acc => if x < 128 then (if (x = 0 ∧ 0 < i) ∨ 2147483647 < acc + x % 128 * sc i then none else some (acc + x % 128 * sc i, i + 1)) else numGo f r (i + 1) (acc + x % 128 * sc i)

def num (r : List Int) : Option (Int × Nat) := numGo 5 r 0 0

def getN (l : List Int) (p : Int) : Int × Int := if p < 0 then (0, -1) else match num (l.drop p.toNat) with
  | some (n, k) => (n, p + (k : Int))
  | none => (0, -1)

theorem sc_step (k : Nat) (h : k < 5) : sc (k + 1) = sc k * 128 := by
  have : k = 0 ∨ k = 1 ∨ k = 2 ∨ k = 3 ∨ k = 4 := by omega
  rcases this with rfl | rfl | rfl | rfl | rfl <;> rfl
theorem sc_le (k : Nat) : 1 ≤ sc k ∧ sc k ≤ 34359738368 := by unfold sc; split <;> omega
theorem part_le {x s : Int} (h0 : 1 ≤ s) (h1 : s ≤ 34359738368) : 0 ≤ x % 128 * s ∧ x % 128 * s ≤ 127 * s ∧ x % 128 * s ≤ 4363686772736 := by
  have a : 0 ≤ x % 128 * s := Int.mul_nonneg (by omega) (by omega)
  have b : x % 128 * s ≤ 127 * s := Int.mul_le_mul_of_nonneg_right (by omega) (by omega)
  omega

theorem numGo_nil (f i : Nat) (acc : Int) : numGo f [] i acc = none := by cases f <;> rfl
theorem numGo_end {f i : Nat} {acc x : Int} {r : List Int} (h : x < 128) (h1 : ¬ ((x = 0 ∧ 0 < i) ∨ 2147483647 < acc + x % 128 * sc i)) : numGo (f + 1) (x :: r) i acc = some (acc + x % 128 * sc i, i + 1) := by
  rw [numGo, if_pos h, if_neg h1]
theorem numGo_bad {f i : Nat} {acc x : Int} {r : List Int} (h : x < 128) (h1 : (x = 0 ∧ 0 < i) ∨ 2147483647 < acc + x % 128 * sc i) : numGo (f + 1) (x :: r) i acc = none := by
  rw [numGo, if_pos h, if_pos h1]
theorem numGo_on {f i : Nat} {acc x : Int} {r : List Int} (h : ¬ x < 128) : numGo (f + 1) (x :: r) i acc = numGo f r (i + 1) (acc + x % 128 * sc i) := by
  rw [numGo, if_neg h]

/-- What is read is a number that may be, of one to five bytes, and not more than are there. -/
theorem numGo_some {f i : Nat} {acc : Int} {r : List Int} {n : Int} {k : Nat} (ha : 0 ≤ acc) (hr : okB r) (h : numGo f r i acc = some (n, k)) : 0 ≤ n ∧ n ≤ 2147483647 ∧ i < k ∧ k ≤ i + f ∧ k ≤ i + r.length := by
  induction f generalizing i acc r with
  | zero => simp [numGo] at h
  | succ f ih =>
    cases r with
    | nil => simp [numGo] at h
    | cons x r =>
      have hx := hr x (by simp)
      have hs : 0 ≤ sc i := by unfold sc; split <;> omega
      have hm : 0 ≤ x % 128 * sc i := Int.mul_nonneg (by omega) hs
      by_cases h1 : x < 128
      · by_cases h2 : (x = 0 ∧ 0 < i) ∨ 2147483647 < acc + x % 128 * sc i
        · rw [numGo_bad h1 h2] at h; cases h
        · rw [numGo_end h1 h2] at h
          simp only [Option.some.injEq, Prod.mk.injEq] at h
          obtain ⟨rfl, rfl⟩ := h
          refine ⟨by omega, by omega, by omega, by omega, by simp⟩
      · rw [numGo_on h1] at h
        have := ih (by omega) (fun y hy => hr y (by simp [hy])) h
        simp only [List.length_cons]
        omega
theorem num_some {r : List Int} {n : Int} {k : Nat} (hr : okB r) (h : num r = some (n, k)) : 0 ≤ n ∧ n ≤ 2147483647 ∧ 0 < k ∧ k ≤ 5 ∧ k ≤ r.length := by
  have := numGo_some (Int.le_refl 0) hr h
  omega

theorem getN_neg {l : List Int} {p : Int} (h : p < 0) : getN l p = (0, -1) := by rw [getN, if_pos h]
theorem getN_none {l : List Int} {p : Nat} (h : num (l.drop p) = none) : getN l (p : Int) = (0, -1) := by
  rw [getN, if_neg (by omega), Int.toNat_natCast, h]
theorem getN_some {l : List Int} {p : Nat} {n : Int} {k : Nat} (h : num (l.drop p) = some (n, k)) : getN l (p : Int) = (n, (p : Int) + (k : Int)) := by
  rw [getN, if_neg (by omega), Int.toNat_natCast, h]

end Go.Proofs.YtkmmhlimihkgfaaGreat

/- The bytes of a number, in plain mathematics. -/
namespace Go.Proofs.YtkmmhlimihkgfaaGreat

/-- The bytes of n, at most f + 1 of them. -/
def putGo : Nat → Int → List Int
  | 0, n => [n]
  | f + 1, n => if 127 < n then (n % 128 + 128) :: putGo f (n / 128) else [n]
def putN (n : Int) : List Int := putGo 4 n
/-- b and the bytes of n, where n may be put. -/
def putAll (l : List Int) (n : Int) : List Int := if n < 0 ∨ 2147483647 < n then l else l ++ putN n

theorem putGo_on {f : Nat} {n : Int} (h : 127 < n) : putGo (f + 1) n = (n % 128 + 128) :: putGo f (n / 128) := by rw [putGo, if_pos h]
theorem putGo_end {f : Nat} {n : Int} (h : ¬ 127 < n) : putGo f n = [n] := by cases f with
  | zero => rfl
  | succ f => rw [putGo, if_neg h]
theorem putGo_len (f : Nat) (n : Int) : (putGo f n).length ≤ f + 1 := by
  induction f generalizing n with
  | zero => simp [putGo]
  | succ f ih =>
    by_cases h : 127 < n
    · rw [putGo_on h]; have := ih (n / 128); simp; omega
    · rw [putGo_end h]; simp
theorem putGo_pos (f : Nat) (n : Int) : 0 < (putGo f n).length := by
  cases f with
  | zero => simp [putGo]
  | succ f =>
    by_cases h : 127 < n
    · rw [putGo_on h]; simp
    · rw [putGo_end h]; simp
theorem putGo_ok (f : Nat) (n : Int) (h0 : 0 ≤ n) (h1 : n < sc (f + 1)) (hf : f ≤ 4) : okB (putGo f n) := by
  induction f generalizing n with
  | zero => intro x hx; simp [putGo] at hx; subst hx; simp [sc] at h1; omega
  | succ f ih =>
    by_cases h : 127 < n
    · rw [putGo_on h]
      have := sc_step (f + 1) (by omega)
      intro x hx
      rcases List.mem_cons.1 hx with rfl | hx
      · omega
      · exact ih (n / 128) (by omega) (by omega) (by omega) x hx
    · rw [putGo_end h]; intro x hx; simp at hx; omega
theorem putN_ok {n : Int} (h0 : 0 ≤ n) (h1 : n ≤ 2147483647) : okB (putN n) := putGo_ok 4 n h0 (by simp only [sc]; omega) (by omega)
theorem putN_len (n : Int) : (putN n).length ≤ 5 := putGo_len 4 n
theorem putAll_in {l : List Int} {n : Int} (h0 : 0 ≤ n) (h1 : n ≤ 2147483647) : putAll l n = l ++ putN n := by rw [putAll, if_neg (by omega)]
theorem putAll_out {l : List Int} {n : Int} (h : n < 0 ∨ 2147483647 < n) : putAll l n = l := by rw [putAll, if_pos h]
theorem putAll_len (l : List Int) (n : Int) : (putAll l n).length ≤ l.length + 5 := by
  unfold putAll
  split
  · omega
  · have := putN_len n; simp; omega

end Go.Proofs.YtkmmhlimihkgfaaGreat

/- Texts as rows of bytes, in plain mathematics, and a cut of a readable row. -/
namespace Go.Proofs.YtkmmhlimihkgfaaGreat
open Go.RowKit
set_option linter.unusedVariables false

/-- b, how many bytes t has, and t, where t may be put. -/
def putT (l t : List Int) : List Int := if 30 < t.length then l else l ++ putN t.length ++ t
/-- The text that stands at p, and the place behind it. -/
def getT (l : List Int) (p : Int) : List Int × Int := if (getN l p).2 < 0 ∨ 30 < (getN l p).1 ∨ (l.length : Int) - (getN l p).2 < (getN l p).1 then ([], -1)
  else ((l.drop (getN l p).2.toNat).take (getN l p).1.toNat, (getN l p).2 + (getN l p).1)

theorem putT_out {l t : List Int} (h : 30 < t.length) : putT l t = l := by rw [putT, if_pos h]
theorem putT_in {l t : List Int} (h : ¬ 30 < t.length) : putT l t = l ++ putN t.length ++ t := by rw [putT, if_neg h]
theorem putT_len (l t : List Int) : (putT l t).length ≤ l.length + 40 := by
  unfold putT
  split
  · omega
  · have := putN_len t.length; simp; omega
theorem getT_out {l : List Int} {p : Int} (h : (getN l p).2 < 0 ∨ 30 < (getN l p).1 ∨ (l.length : Int) - (getN l p).2 < (getN l p).1) : getT l p = ([], -1) := by rw [getT, if_pos h]
theorem getT_in {l : List Int} {p : Int} {n k : Nat} (e : getN l p = ((n : Int), (k : Int))) (h1 : n ≤ 30) (h2 : k + n ≤ l.length) : getT l p = ((l.drop k).take n, (k : Int) + (n : Int)) := by
  rw [getT, e, if_neg (by simp only; omega)]
  simp

/-- What getN says is the refusal, or a number that may be and a place within the row behind its first byte. -/
theorem getN_cases {l : List Int} (hok : okB l) (p : Int) : getN l p = (0, -1) ∨ ∃ n k : Nat, getN l p = ((n : Int), (k : Int)) ∧ n ≤ 2147483647 ∧ 1 ≤ k ∧ k ≤ l.length := by
  by_cases h0 : p < 0
  · exact .inl (getN_neg h0)
  · obtain ⟨p, rfl⟩ := Int.eq_ofNat_of_zero_le (show 0 ≤ p by omega)
    cases hq : num (l.drop p) with
    | none => exact .inl (getN_none hq)
    | some y =>
      obtain ⟨n, k⟩ := y
      obtain ⟨a1, a2, a3, a4, a5⟩ := num_some (hok.drop p) hq
      right
      have hlen : (l.drop p).length = l.length - p := by simp
      refine ⟨n.toNat, p + k, ?_, by omega, by omega, by omega⟩
      rw [getN_some hq]
      simp only [Prod.mk.injEq]
      omega

/-- A slice cut out of a row can be read. -/
theorem Byt.cut2 {w : World} {b off cap p n : Nat} {l : List Int} (hok : okB l) (hm : l.length ≤ maxLen) (hp : p + n ≤ l.length) (hlc : l.length ≤ cap) (hcm : cap ≤ maxLen) (hb : b < w.heap.size)
    (hc : ∀ i, i < l.length → w.cell? ⟨b, off + i, none⟩ = some (.int .u8 (l.getD i 0))) : Byt w (.slice (some ⟨b, off + p, none⟩) n (cap - p)) ((l.drop p).take n) := by
  have hl : ((l.drop p).take n).length = n := by simp; omega
  refine ⟨(hok.drop p).take n, by omega, .inr ?_⟩
  by_cases h0 : n = 0
  · subst h0
    exact .inl ⟨⟨b, off + p, none⟩, cap - p, rfl, by omega, by simp⟩
  · refine .inr ⟨b, off + p, cap - p, by rw [hl], by omega, by omega, fun e => by rw [e] at hl; simp at hl; omega, hb, fun i hi => ?_⟩
    rw [Nat.add_assoc, hc (p + i) (by omega), List.getD_eq_getElem?_getD, List.getD_eq_getElem?_getD, List.getElem?_take, if_pos (by omega), List.getElem?_drop]

end Go.Proofs.YtkmmhlimihkgfaaGreat

/- What was put is got, what is got was put: numbers and texts as rows of bytes, in plain mathematics. -/
namespace Go.Proofs.YtkmmhlimihkgfaaGreat

theorem mod_part {n : Int} : (n % 128 + 128) % 128 = n % 128 := by omega

/-- The bytes of n, whatever stands behind them, are read as n. -/
theorem go_back (f i : Nat) (acc n : Int) (r : List Int) (h0 : 0 ≤ n) (h1 : n < sc (f + 1)) (hif : i + f = 4) (ha : 0 ≤ acc) (hmax : acc + n * sc i ≤ 2147483647) (hn : 0 < i → 0 < n) :
    numGo (f + 1) (putGo f n ++ r) i acc = some (acc + n * sc i, i + (putGo f n).length) := by
  induction f generalizing i acc n with
  | zero =>
    have h2 : n < 128 := h1
    rw [show putGo 0 n ++ r = n :: r from rfl, numGo_end h2]
    · rw [show n % 128 = n by omega]; simp [putGo]
    · rw [show n % 128 = n by omega]
      intro hc
      rcases hc with ⟨e, hi⟩ | hc
      · have := hn hi; omega
      · omega
  | succ f ih =>
    by_cases hb : 127 < n
    · rw [putGo_on hb, List.cons_append, numGo_on (by omega), mod_part]
      have hs := sc_step i (by omega)
      have hss := sc_step (f + 1) (by omega)
      have hpos := (sc_le i).1
      have e : acc + n % 128 * sc i + n / 128 * sc (i + 1) = acc + n * sc i := by
        rw [hs]
        have hd : n = n / 128 * 128 + n % 128 := by omega
        have : n * sc i = (n / 128 * 128 + n % 128) * sc i := by rw [← hd]
        rw [this, Int.add_mul, Int.mul_comm (sc i) 128, ← Int.mul_assoc]
        omega
      have hm0 : 0 ≤ n % 128 * sc i := Int.mul_nonneg (by omega) (by omega)
      rw [ih (i + 1) (acc + n % 128 * sc i) (n / 128) (by omega) (by omega) (by omega) (by omega) (by rw [e]; exact hmax) (by omega), e]
      simp only [List.length_cons, Option.some.injEq, Prod.mk.injEq, true_and]
      omega
    · have h2 : n < 128 := by omega
      rw [putGo_end hb, List.cons_append, numGo_end h2]
      · rw [show n % 128 = n by omega]; simp
      · rw [show n % 128 = n by omega]
        intro hc
        rcases hc with ⟨e, hi⟩ | hc
        · have := hn hi; omega
        · omega

theorem num_back {n : Int} (h0 : 0 ≤ n) (h1 : n ≤ 2147483647) (r : List Int) : num (putN n ++ r) = some (n, (putN n).length) := by
  have h := go_back 4 0 0 n r h0 (by simp only [sc]; omega) rfl (Int.le_refl 0) (by simp only [sc]; omega) (by omega)
  simpa [num, putN, sc] using h

/-- Whatever bytes are read as a number are just its bytes. -/
theorem go_just (f i : Nat) (acc n : Int) (k : Nat) (r : List Int) (hok : okB r) (hif : i + f = 4) (h : numGo (f + 1) r i acc = some (n, k)) :
    ∃ q : Int, 0 ≤ q ∧ n = acc + q * sc i ∧ r.take (k - i) = putGo f q ∧ i < k ∧ (0 < i → 0 < q) := by
  induction f generalizing i acc r with
  | zero =>
    cases r with
    | nil => simp [numGo] at h
    | cons x r =>
      have hx := hok x (by simp)
      by_cases h1 : x < 128
      · by_cases h2 : (x = 0 ∧ 0 < i) ∨ 2147483647 < acc + x % 128 * sc i
        · rw [numGo_bad h1 h2] at h; cases h
        · rw [numGo_end h1 h2] at h
          simp only [Option.some.injEq, Prod.mk.injEq] at h
          obtain ⟨rfl, rfl⟩ := h
          refine ⟨x, hx.1, by rw [show x % 128 = x by omega], ?_, by omega, by omega⟩
          rw [show i + 1 - i = 1 by omega]; rfl
      · rw [numGo_on h1] at h; simp [numGo] at h
  | succ f ih =>
    cases r with
    | nil => simp [numGo] at h
    | cons x r =>
      have hx := hok x (by simp)
      by_cases h1 : x < 128
      · by_cases h2 : (x = 0 ∧ 0 < i) ∨ 2147483647 < acc + x % 128 * sc i
        · rw [numGo_bad h1 h2] at h; cases h
        · rw [numGo_end h1 h2] at h
          simp only [Option.some.injEq, Prod.mk.injEq] at h
          obtain ⟨rfl, rfl⟩ := h
          refine ⟨x, hx.1, by rw [show x % 128 = x by omega], ?_, by omega, by omega⟩
          rw [show i + 1 - i = 1 by omega, putGo_end (by omega)]; rfl
      · rw [numGo_on h1] at h
        obtain ⟨q, hq0, hqn, hqr, hik, hqp⟩ := ih (i + 1) _ r (fun y hy => hok y (by simp [hy])) (by omega) h
        have hq1 := hqp (by omega)
        have hs := sc_step i (by omega)
        refine ⟨x % 128 + q * 128, by omega, ?_, ?_, by omega, by omega⟩
        · rw [hqn, hs, Int.add_mul, Int.mul_comm (sc i) 128, ← Int.mul_assoc]; omega
        · rw [show k - i = (k - (i + 1)) + 1 by omega, List.take_succ_cons, hqr, putGo_on (by omega)]
          congr 1
          · omega
          · rw [show (x % 128 + q * 128) / 128 = q by omega]

theorem num_just {r : List Int} {n : Int} {k : Nat} (hok : okB r) (h : num r = some (n, k)) : r.take k = putN n := by
  obtain ⟨q, _, hqn, hqr, _, _⟩ := go_just 4 0 0 n k r hok rfl h
  have e : q = n := by simp only [sc] at hqn; omega
  rw [e] at hqr
  simpa [putN] using hqr

/-- A text that was put is got. -/
theorem getT_back {l t : List Int} (ht : t.length ≤ 30) : getT (putT l t) (l.length : Int) = (t, ((putT l t).length : Int)) := by
  have hp := putT_in (l := l) (t := t) (by omega)
  have hn := num_back (n := (t.length : Int)) (by omega) (by omega) t
  have e : getN (putT l t) (l.length : Int) = ((t.length : Int), ((l.length + (putN t.length).length : Nat) : Int)) := by
    rw [hp, List.append_assoc, getN_some (n := (t.length : Int)) (k := (putN t.length).length)]
    · simp
    · rw [List.drop_left]; exact hn
  rw [getT_in e ht (by rw [hp]; simp; omega)]
  rw [hp]
  have hd : (l ++ putN t.length ++ t).drop (l.length + (putN t.length).length) = t := by
    rw [← List.length_append, List.drop_left]
  rw [hd, List.take_of_length_le (Nat.le_refl _)]
  simp
  omega
end Go.Proofs.YtkmmhlimihkgfaaGreat
