/- Own texts joined: MarkPlM, MarkPl, HeldA, HeldPl, MarkOsM, OwOs, MarkOs, CntT, SzOs, ToOs, EqOs, EqT, EqPl, ToT4. -/
import Derived.Test.YtnfafchajjclaaaGreatDoorJa
import Derived.Test.YtnfafchajjclaaaGreatDoorJb
import Derived.Test.YtnfafchajjclaaaGreatDoorJc
import Derived.Test.YtnfafchajjclaaaGreatDoorJd
import Derived.Test.YtnfafchajjclaaaGreatDoorJe
import Derived.Test.YtnfafchajjclaaaGreatDoorJf
import Derived.Test.YtnfafchajjclaaaGreatDoorJg
import Derived.Test.YtnfafchajjclaaaGreatDoorJh
import Derived.Test.YtnfafchajjclaaaGreatDoorJi
import Derived.Test.YtnfafchajjclaaaGreatDoorJj
import Derived.Test.YtnfafchajjclaaaGreatDoorJk
import Derived.Test.YtnfafchajjclaaaGreatDoorJl
import Derived.Deep.RegionHeld3

/- What laws.markPlaceS lays: plain mathematics; laws.markByteS over a block that bears a conversion's mark. -/
namespace Go.Proofs.YtnfafchajjclaaaGreatDoor
open Go.RowKit
set_option linter.unusedVariables false
set_option maxRecDepth 100000

/-- A place with a count in it, from k on. -/
def mkPl (p : PlV) (k : Int) : PlV where
  idN := k
  idR := k + 1
  parN := k + 1 + 1
  parR := k + 1 + 1 + 1
  key := markz (k + 1 + 1 + 1 + 1) p.key.length
  kind := k + 1 + 1 + 1 + 1 + (p.key.length : Int)
  name := marks (k + 1 + 1 + 1 + 1 + (p.key.length : Int) + 1) p.name.length
  text := marks (k + 1 + 1 + 1 + 1 + (p.key.length : Int) + 1 + (p.name.length : Int)) p.text.length
  attrs := mkA p.attrs (k + 1 + 1 + 1 + 1 + (p.key.length : Int) + 1 + (p.name.length : Int) + (p.text.length : Int))
def szP (p : PlV) : Nat := 5 + p.key.length + p.name.length + p.text.length + cntA p.attrs
def cntPls : List PlV → Nat
  | [] => 0
  | x :: r => szP x + cntPls r
def mkPls : List PlV → Int → List PlV
  | [], _ => []
  | x :: r, k => mkPl x k :: mkPls r (k + ((szP x : Nat) : Int))
theorem mkPls_len : ∀ (l : List PlV) (k : Int), (mkPls l k).length = l.length
  | [], _ => rfl
  | x :: r, k => by simp [mkPls, mkPls_len r]
theorem mkPls_app : ∀ (a b : List PlV) (k : Int), mkPls (a ++ b) k = mkPls a k ++ mkPls b (k + (cntPls a : Nat))
  | [], b, k => by simp [mkPls, cntPls]
  | x :: r, b, k => by
    simp only [List.cons_append, mkPls, mkPls_app r b, cntPls, List.cons.injEq, true_and]
    congr 2
    omega
theorem cntPls_app : ∀ (a b : List PlV), cntPls (a ++ b) = cntPls a + cntPls b
  | [], b => by simp [cntPls]
  | x :: r, b => by simp only [List.cons_append, cntPls, cntPls_app r b]; omega
theorem cntPls_take (l : List PlV) (j : Nat) (h : j < l.length) : cntPls (l.take (j + 1)) = cntPls (l.take j) + szP l[j] := by
  rw [List.take_succ_eq_append_getElem h, cntPls_app]
  simp [cntPls]
theorem cntPls_le (l : List PlV) (j : Nat) : cntPls (l.take j) ≤ cntPls l := by
  have := cntPls_app (l.take j) (l.drop j)
  rw [List.take_append_drop] at this
  omega
theorem mkPls_at (l : List PlV) (k : Int) (j : Nat) (h : j < l.length) (h' : j < (mkPls l k).length) : (mkPls l k)[j] = mkPl l[j] (k + (cntPls (l.take j) : Nat)) := by
  have e : mkPls l k = mkPls (l.take j) k ++ mkPls (l.drop j) (k + (cntPls (l.take j) : Nat)) := by rw [← mkPls_app, List.take_append_drop]
  have e2 : l.drop j = l[j] :: l.drop (j + 1) := List.drop_eq_getElem_cons h
  have hl : (mkPls (l.take j) k).length = j := by rw [mkPls_len]; simp; omega
  have : (mkPls l k)[j]? = some (mkPl l[j] (k + (cntPls (l.take j) : Nat))) := by
    rw [e, List.getElem?_append_right (by omega), hl, Nat.sub_self, e2, mkPls]
    rfl
  rw [List.getElem?_eq_getElem h'] at this
  exact Option.some.inj this
theorem cntA_bd : ∀ (l : List (List Int × List Int)) (m : Nat), (∀ x ∈ l, x.1.length + x.2.length ≤ m) → cntA l ≤ l.length * m
  | [], m, _ => by simp [cntA]
  | x :: r, m, h => by
    have h1 := h x (by simp)
    have h2 := cntA_bd r m (fun y hy => h y (by simp [hy]))
    simp only [cntA, List.length_cons, Nat.add_mul]
    omega
theorem cntPls_bd : ∀ (l : List PlV) (m : Nat), (∀ x ∈ l, szP x ≤ m) → cntPls l ≤ l.length * m
  | [], m, _ => by simp [cntPls]
  | x :: r, m, h => by
    have h1 := h x (by simp)
    have h2 := cntPls_bd r m (fun y hy => h y (by simp [hy]))
    simp only [cntPls, List.length_cons, Nat.add_mul]
    omega

/-- A store into a row that may bear a mark behind its cells. -/
theorem RowM.set {w : World} {base g cap : Nat} {l : List Int} (h : RowM w base (.slice (some ⟨g, 0, none⟩) l.length cap) l) (j : Nat) (y : Int) (hy : 0 ≤ y ∧ y ≤ 255) (hj : j < l.length) : RowM (w.setCell ⟨g, j, none⟩ (.int .u8 y)) base (.slice (some ⟨g, 0, none⟩) l.length cap) (l.set j y) := by
  have hok : okB (l.set j y) := fun x hx => by
    rcases List.mem_or_eq_of_mem_set hx with h' | rfl
    · exact h.1 x h'
    · exact hy
  rcases h.2 with ⟨e, _⟩ | ⟨g', cap', cur, fz, e, hb, hg, hf, h1, h2, h3, h4⟩
  · cases e
  · cases e
    refine ⟨hok, .inr ⟨g, cap, cur.setIfInBounds j (.int .u8 y), fz, by rw [List.length_set], hb, heap_set_mark w g j cur _ fz _ hg, hf, by rw [List.length_set]; exact h1, h2, by simpa using h3, ?_⟩⟩
    rw [List.length_set, Array.toList_setIfInBounds, List.take_set, h4]
    simp [vals, List.map_set]
theorem RowM.cell {w : World} {base g cap : Nat} {l : List Int} (h : RowM w base (.slice (some ⟨g, 0, none⟩) l.length cap) l) (j : Nat) (hj : j < l.length) : ∃ y, w.cell? ⟨g, j, none⟩ = some (.int .u8 y) ∧ w.frozen? ⟨g, j, none⟩ = false := by
  rcases h.2 with ⟨e, _⟩ | ⟨g', cap', cur, fz, e, hb, hg, hf, h1, h2, h3, h4⟩
  · cases e
  · cases e
    refine ⟨l.getD j 0, ?_, frozen_mark w g j cur _ fz hg (hf j (by omega))⟩
    rw [cell_of_row w g j cur _ fz hg]
    have := take_at h4 hj
    rw [vals_at hj] at this
    simpa using this
theorem marks_set (k : Int) (l : List Int) (j : Nat) (h : j < l.length) : (marks k j ++ l.drop j).set j ((k + (j : Int)) % 256) = marks k (j + 1) ++ l.drop (j + 1) := by
  have e : marks k (j + 1) = marks k j ++ [(k + (j : Int)) % 256] := by simp [marks, List.range_succ]
  rw [List.set_append_right _ _ (by simp [marks_len]), marks_len, Nat.sub_self, e, List.drop_eq_getElem_cons h, List.append_assoc]
  rfl

set_option maxHeartbeats 1600000 in
set_option maxRecDepth 1000000 in
theorem markB_rowm (w : World) (base g cap : Nat) (l : List Int) (k : Int) (hw : RowM w base (.slice (some ⟨g, 0, none⟩) l.length cap) l) (hs : l.length ≤ 16777216) (h0 : 0 ≤ k) (h1 : k ≤ 1000000000) :
    Calls Tryz.prog 38 #[.slice (some ⟨g, 0, none⟩) l.length cap, .int .i64 k] w fun e w' => e = .returned (.int .i64 (k + l.length)) ∧
      RowM w' base (.slice (some ⟨g, 0, none⟩) l.length cap) (marks k l.length) ∧ Frm w w' [g] := by
  generalize hn : l.length = n at *
  have HN := hide hn
  have HW := hide hw
  clear hn hw
  go_enter Tryz.func38, Tryz.ntmps38
  go_wp2
  go_loopw [1, 5] (fun c i wr => ∃ j : Nat, j ≤ n ∧ i = .int .i64 j ∧ c = .int .i64 (k + (j : Int)) ∧ RowM wr base (.slice (some ⟨g, 0, none⟩) n cap) (marks k j ++ l.drop j) ∧ Frm w wr [g]) (fun _ i _ => n - (intOf i).toNat)
  case atStart => exact ⟨0, Nat.zero_le _, rfl, by simp, by simpa [marks] using unhide HW, Frm.refl _ _⟩
  case round =>
    obtain ⟨j, hj, rfl, rfl, hr, hg⟩ := hrel
    by_cases hlt : j < n
    · have hlen := unhide HN
      have hjl : j < l.length := by omega
      have hle : (marks k j ++ l.drop j).length = n := by simp [marks_len]; omega
      rw [← hle] at hr
      obtain ⟨y, hy, hfr⟩ := hr.cell j (by omega)
      have hst := hr.set j ((k + (j : Int)) % 256) (by omega) (by omega)
      rw [marks_set k l j hjl, hle] at hst
      have hsf := set_frm wr g j (.int .u8 ((k + (j : Int)) % 256))
      have HS := hide hst
      have HF := hide hsf
      clear hst hr hlen hsf hle
      have hlt' : (j : Int) < (n : Int) := by omega
      go_wp2
      have R := unhide HS
      go_roundw
      case rel => exact ⟨j + 1, by omega, by go_num, by go_num, R, hg.trans (unhide HF)⟩
      case measure => simp [intOf]; omega
    · have e : j = n := by omega
      subst e
      have hr' : RowM wr base (.slice (some ⟨g, 0, none⟩) j cap) (marks k j) := by
        have := unhide HN
        rw [List.drop_of_length_le (by omega), List.append_nil] at hr
        exact hr
      clear hr
      go_wp2
      go_ret
      exact ⟨rfl, hr', hg⟩
theorem markB_m (w : World) (base : Nat) (v : Value) (l : List Int) (k : Int) (h : RowM w base v l) (hs : l.length ≤ 16777216) (h0 : 0 ≤ k) (h1 : k ≤ 1000000000) :
    Calls Tryz.prog 38 #[v, .int .i64 k] w fun e w' => e = .returned (.int .i64 (k + l.length)) ∧ RowM w' base v (marks k l.length) ∧ Frm w w' (FB v) := by
  rcases h.2 with ⟨rfl, rfl⟩ | ⟨g, cap, cur, fz, rfl, hr⟩
  · refine (markB_nil w none 0 k).mono ?_
    rintro e w' ⟨rfl, rfl⟩
    exact ⟨by simp, rowm_nil _ _, Frm.refl _ _⟩
  · exact markB_rowm w base g cap l k h hs h0 h1
end Go.Proofs.YtnfafchajjclaaaGreatDoor

/- laws.markPlaceS, laws.markState, by their contracts. -/
namespace Go.Proofs.YtnfafchajjclaaaGreatDoor
open Go.RowKit
set_option linter.unusedVariables false
set_option maxRecDepth 100000

theorem OwPlM.len {w : World} {C : List Value} {o : PlV} {F : List Nat} (h : OwPlM w C o F) : C.length = 9 := by
  obtain ⟨k, n, t, a, Fa, rfl, _⟩ := h; rfl
theorem ownz_frm {w w' : World} {v : Value} {l : List Int} {S : List Nat} (h : OwnZ w 0 v l) (f : Frm w w' S) (hd : ∀ g ∈ FB v, g ∉ S) : OwnZ w' 0 v l := ⟨h.1, ownsRow_frm h.2 f hd⟩

set_option maxHeartbeats 20000000 in
theorem markPls_any (w : World) (v : Value) (l : List PlV) (F : List Nat) (k : Int) (h : OwPlsM w v l F) (hF : F.Nodup) (hs : cntPls l ≤ 4194304) (h0 : 0 ≤ k) (h1 : k ≤ 800000000) :
    Calls Tryz.prog 42 #[v, .int .i64 k] w fun e w' => e = .returned (.int .i64 (k + (cntPls l : Nat))) ∧ OwPlsM w' v (mkPls l k) F ∧ Frm w w' F := by
  have hml := OwElems.len h
  unfold maxLen at hml
  obtain ⟨Cs, Fs, hCl, hFl, hR, hrow, rfl⟩ := h
  have hFv := nodup_part hF
  have hFn := (List.nodup_append.1 hF).2.1
  by_cases hl0 : l = []
  · subst hl0
    obtain ⟨a, cap, rfl⟩ := own_nil_shape hrow
    have HW := hide (show OwPlsM w (.slice a ([] : List PlV).length cap) (mkPls [] k) _ from ⟨Cs, Fs, hCl, hFl, hR, hrow, rfl⟩)
    clear hrow hR
    go_enter Tryz.func42, Tryz.ntmps42
    go_wp2_with fail
    refine wp_loop_rounds 1 ?_
    rw [rounds_succ]
    go_wp2_with fail
    go_ret
    exact ⟨by simp [cntPls], unhide HW, Frm.refl _ _⟩
  have hv : ∃ g cap, v = .slice (some ⟨g, 0, none⟩) l.length cap := by
    rcases hrow.2 with ⟨_, h⟩ | ⟨g, cap, cur, rfl, _⟩
    · exact absurd (List.eq_nil_of_length_eq_zero h) hl0
    · exact ⟨g, cap, rfl⟩
  obtain ⟨g, cap, rfl⟩ := hv
  have hgF : ∀ i, g ∉ Fs.getD i [] := fun i hi => hFv g (by simp [FB, Value.ownBlock]) (mem_flat hi)
  have hFB : FB (.slice (some ⟨g, 0, none⟩) l.length cap) = [g] := rfl
  rw [hFB] at hF hFv ⊢
  have HR := hide hR
  have HROW := hide hrow
  have hm' : (l.length : Int) ≤ 9223372036854775807 := by omega
  clear hR hrow hFB
  go_enter Tryz.func42, Tryz.ntmps42
  go_wp2_with fail
  go_loopw [1, 5] (fun c i wr => ∃ j : Nat, j ≤ l.length ∧ i = .int .i64 j ∧ c = .int .i64 (k + (cntPls (l.take j) : Nat)) ∧ ∃ Ds : List (List Value), Ds.length = l.length ∧ wr.ownsRow 0 107 9 (.slice (some ⟨g, 0, none⟩) l.length cap) l.length Ds.flatten ∧
      (∀ i (hi : i < (mkPls l k).length), i < j → OwPlM wr (Ds.getD i []) (mkPls l k)[i] (Fs.getD i [])) ∧ (∀ i (hi : i < l.length), j ≤ i → OwPlM wr (Ds.getD i []) l[i] (Fs.getD i [])) ∧ Frm w wr ([g] ++ Fs.flatten)) (fun _ i _ => l.length - (intOf i).toNat)
  case atStart => exact ⟨0, Nat.zero_le _, rfl, by simp [cntPls], Cs, hCl, unhide HROW, fun i hi hj => by omega, fun i hi _ => (unhide HR i hi).2, Frm.refl _ _⟩
  case round =>
    obtain ⟨j, hj, rfl, rfl, Ds, hDl, hr, hdone, htodo, hf⟩ := hrel
    have hD : ∀ i, i < Ds.length → (Ds.getD i []).length = 9 := fun i hi => by
      by_cases hij : i < j
      · exact (hdone i (by rw [mkPls_len]; omega) hij).len
      · exact (htodo i (by omega) (by omega)).len
    by_cases hjl : j < l.length
    · obtain ⟨kv, nv, tv, av, Fa, hab, hk, hn, ht, ha, hFj⟩ := htodo j hjl (Nat.le_refl _)
      have hct := cntPls_take l j hjl
      have hcl := cntPls_le l (j + 1)
      unfold szP at hct
      have hat := mkPls_at l k j hjl (by rw [mkPls_len]; exact hjl)
      obtain ⟨x, hx⟩ : ∃ x, x = l[j] := ⟨_, rfl⟩
      rw [← hx] at hk hn ht ha hct hat hab
      obtain ⟨q, hq⟩ : ∃ q : Int, q = k + (cntPls (l.take j) : Nat) := ⟨_, rfl⟩
      rw [← hq] at hat ⊢
      have hq0 : 0 ≤ q := by omega
      have hq1 : q ≤ 817000000 := by omega
      obtain ⟨pk, ck, rfl, _, _⟩ := hk.ints.shape
      obtain ⟨pn, cn, rfl⟩ := hn.shape
      obtain ⟨pt, ct, rfl, _, _⟩ := ht.byt.shape
      obtain ⟨pa, ca, rfl, _, _⟩ := Elems.shape ha.rd
      have hFjn := nodup_at (i := j) hFn
      rw [hFj] at hFjn
      obtain ⟨na, nb', nc', nd0⟩ := nodup4 hFjn
      have nd' := nd0.2
      have R0 := RowJ.start hDl hD j hjl hr
      rw [hab] at R0
      have c0 := R0.cell 0 (by omega)
      have f0 := R0.frozen (j * 9)
      have c1 := R0.cell 1 (by omega)
      have f1 := R0.frozen (j * 9 + 1)
      have c2 := R0.cell 2 (by omega)
      have f2 := R0.frozen (j * 9 + 2)
      have c3 := R0.cell 3 (by omega)
      have f3 := R0.frozen (j * 9 + 3)
      simp only [List.getElem?_cons_zero, List.getElem?_cons_succ, Nat.add_zero] at c0 c1 c2 c3
      have R1 := ((((R0.put 0 (by omega) (.int .i64 q)).put 1 (by omega) (.int .i64 (q + 1))).put 2 (by omega) (.int .i64 (q + 1 + 1))).put 3 (by omega) (.int .i64 (q + 1 + 1 + 1)))
      simp only [Nat.add_zero, List.set_cons_zero, List.set_cons_succ] at R1
      have F1 : Frm wr ((((wr.setCell ⟨g, j * 9, none⟩ (.int .i64 q)).setCell ⟨g, j * 9 + 1, none⟩ (.int .i64 (q + 1))).setCell ⟨g, j * 9 + 2, none⟩ (.int .i64 (q + 1 + 1))).setCell ⟨g, j * 9 + 3, none⟩ (.int .i64 (q + 1 + 1 + 1))) [g] := ((((set_frm wr g (j * 9) (.int .i64 q)).trans (set_frm _ g (j * 9 + 1) (.int .i64 (q + 1)))).trans (set_frm _ g (j * 9 + 2) (.int .i64 (q + 1 + 1)))).trans (set_frm _ g (j * 9 + 3) (.int .i64 (q + 1 + 1 + 1))))
      have c4 := R1.cell 4 (by omega)
      simp only [List.getElem?_cons_zero, List.getElem?_cons_succ] at c4
      have HX := hide hx
      have HQ := hide hq
      have HT := hide hat
      have HCT := hide hct
      have HFJ := hide hFj
      have HDN := hide hdone
      have HTD := hide htodo
      have hx0 : x.key.length ≤ 16777216 := by omega
      have hx1 : x.name.length ≤ 16777216 := by omega
      have hx2 : x.text.length ≤ 16777216 := by omega
      have hx3 : cntA x.attrs ≤ 4194304 := by omega
      have hjl' : (j : Int) < (l.length : Int) := by omega
      have hgn : g ∉ Fs.getD j [] := hgF j
      rw [unhide HFJ] at hgn
      simp only [List.mem_append, not_or] at hgn
      obtain ⟨⟨⟨hgk, hgnn⟩, hgt⟩, hga⟩ := hgn
      have hk1 := ownz_frm hk F1 (fun p hp hp' => by simp at hp'; subst hp'; exact hgk hp)
      have hn1 := hn.frm F1 (fun p hp hp' => by simp at hp'; subst hp'; exact hgnn hp)
      have ht1 := ht.frm F1 (fun p hp hp' => by simp at hp'; subst hp'; exact hgt hp)
      have ha1 := OwAttrs.frm ha F1 (fun p hp hp' => by simp at hp'; subst hp'; exact hga hp)
      clear hx hq hat hct hFj hdone htodo hcl hr hab hk hn ht ha hFjn R0
      go_wp2_with fail
      generalize ((((wr.setCell ⟨g, j * 9, none⟩ (.int .i64 q)).setCell ⟨g, j * 9 + 1, none⟩ (.int .i64 (q + 1))).setCell ⟨g, j * 9 + 2, none⟩ (.int .i64 (q + 1 + 1))).setCell ⟨g, j * 9 + 3, none⟩ (.int .i64 (q + 1 + 1 + 1))) = w1 at *
      clear c0 c1 c2 c3 f0 f1 f2 f3 c4
      refine (markZ_any w1 0 _ x.key (q + 1 + 1 + 1 + 1) hk1 hx0 (by omega) (by omega)).mono ?_
      rintro e w2 ⟨rfl, hk2, hg2⟩
      have F2 : Frm w1 w2 (FB (.slice pk x.key.length ck)) := Frm.ofGrown hg2
      have R2 := R1.frm F2 hgk
      have hn2 := hn1.frm F2 (fun p hp hp' => (na p hp').1 hp)
      have ht2 := ht1.frm F2 (fun p hp hp' => (na p hp').2.1 hp)
      have ha2 := OwAttrs.frm ha1 F2 (fun p hp hp' => (na p hp').2.2 hp)
      have c5 := R2.cell 5 (by omega)
      have f5 := R2.frozen (j * 9 + 5)
      have R3 := R2.put 5 (by omega) (.int .i64 (q + 1 + 1 + 1 + 1 + (x.key.length : Int)))
      have F3 := set_frm w2 g (j * 9 + 5) (.int .i64 (q + 1 + 1 + 1 + 1 + (x.key.length : Int)))
      have c6 := R3.cell 6 (by omega)
      simp only [List.set_cons_zero, List.set_cons_succ, List.getElem?_cons_zero, List.getElem?_cons_succ] at c5 c6 R3
      have hk3 := ownz_frm hk2 F3 (fun p hp hp' => by simp at hp'; subst hp'; exact hgk hp)
      have hn3 := hn2.frm F3 (fun p hp hp' => by simp at hp'; subst hp'; exact hgnn hp)
      have ht3 := ht2.frm F3 (fun p hp hp' => by simp at hp'; subst hp'; exact hgt hp)
      have ha3 := OwAttrs.frm ha2 F3 (fun p hp hp' => by simp at hp'; subst hp'; exact hga hp)
      clear R1 R2 hk1 hn1 ht1 ha1 hk2 hn2 ht2 ha2 hg2
      go_wp2_with fail
      generalize (w2.setCell ⟨g, j * 9 + 5, none⟩ (.int .i64 (q + 1 + 1 + 1 + 1 + (x.key.length : Int)))) = w3 at *
      clear c5 f5 c6
      refine (markB_m w3 0 _ x.name (q + 1 + 1 + 1 + 1 + (x.key.length : Int) + 1) hn3 hx1 (by omega) (by omega)).mono ?_
      rintro e w4 ⟨rfl, hn4, F4⟩
      have R4 := R3.frm F4 hgnn
      have hk4 := ownz_frm hk3 F4 (fun p hp hp' => (na p hp).1 hp')
      have ht4 := ht3.frm F4 (fun p hp hp' => (nb' p hp').1 hp)
      have ha4 := OwAttrs.frm ha3 F4 (fun p hp hp' => (nb' p hp').2 hp)
      have c7 := R4.cell 7 (by omega)
      simp only [List.getElem?_cons_zero, List.getElem?_cons_succ] at c7
      clear R3 hk3 hn3 ht3 ha3
      go_wp2_with fail
      clear c7
      refine (markB_any w4 0 _ x.text (q + 1 + 1 + 1 + 1 + (x.key.length : Int) + 1 + (x.name.length : Int)) ht4 hx2 (by omega) (by omega)).mono ?_
      rintro e w5 ⟨rfl, ht5, hg5⟩
      have F5 : Frm w4 w5 (FB (.slice pt x.text.length ct)) := Frm.ofGrown hg5
      have R5 := R4.frm F5 hgt
      have hk5 := ownz_frm hk4 F5 (fun p hp hp' => (na p hp).2.1 hp')
      have hn5 := hn4.frm F5 (fun p hp hp' => (nb' p hp).1 hp')
      have ha5 := OwAttrs.frm ha4 F5 (fun p hp hp' => nc' p hp' hp)
      have c8 := R5.cell 8 (by omega)
      simp only [List.getElem?_cons_zero, List.getElem?_cons_succ] at c8
      clear R4 hk4 hn4 ht4 ha4 hg5
      go_wp2_with fail
      clear c8
      refine (markA_any w5 _ x.attrs Fa (q + 1 + 1 + 1 + 1 + (x.key.length : Int) + 1 + (x.name.length : Int) + (x.text.length : Int)) ha5 nd' hx3 (by omega) (by omega)).mono ?_
      rintro e w6 ⟨rfl, ha6, F6⟩
      have R6 := R5.frm F6 hga
      have hk6 := ownz_frm hk5 F6 (fun p hp hp' => (na p hp).2.2 hp')
      have hn6 := hn5.frm F6 (fun p hp hp' => (nb' p hp).2 hp')
      have ht6 := ht5.frm F6 (fun p hp hp' => nc' p hp hp')
      have FJ : Frm wr w6 ([g] ++ Fs.getD j []) := by
        have m0 : ∀ p, p ∈ [g] → p ∈ [g] ++ Fs.getD j [] := fun p hp => List.mem_append_left _ hp
        have m1 : ∀ p, p ∈ FB (Value.slice pk x.key.length ck) → p ∈ [g] ++ Fs.getD j [] := fun p hp => by rw [unhide HFJ]; simp [hp]
        have m2 : ∀ p, p ∈ FB (Value.slice pn x.name.length cn) → p ∈ [g] ++ Fs.getD j [] := fun p hp => by rw [unhide HFJ]; simp [hp]
        have m3 : ∀ p, p ∈ FB (Value.slice pt x.text.length ct) → p ∈ [g] ++ Fs.getD j [] := fun p hp => by rw [unhide HFJ]; simp [hp]
        have m4 : ∀ p, p ∈ Fa → p ∈ [g] ++ Fs.getD j [] := fun p hp => by rw [unhide HFJ]; simp [hp]
        exact (((((F1.mono m0).trans (F2.mono m1)).trans (F3.mono m0)).trans (F4.mono m2)).trans (F5.mono m3)).trans (F6.mono m4)
      clear R5 hk5 hn5 ht5 ha5 F1 F2 F3 F4 F5 F6
      go_wp2_with fail
      go_roundw
      case rel =>
        refine ⟨j + 1, by omega, by go_num, ?_, Ds.set j _, by rw [List.length_set]; exact hDl, R6.row, fun i hi hij => ?_, fun i hi hij => ?_, hf.trans (FJ.mono (fun p hp => ?_))⟩
        · rw [unhide HCT, unhide HQ]; go_num
        · by_cases e : i = j
          · subst e
            rw [unhide HT, getD_set_at _ _ _ (by omega)]
            exact ⟨_, _, _, _, Fa, by simp only [mkPl], hk6, hn6, ht6, ha6, unhide HFJ⟩
          · rw [getD_set_ne _ _ _ _ e]
            exact (unhide HDN i hi (by omega)).frm FJ (fun p hp hp' => by
              rcases List.mem_append.1 hp' with h | h
              · simp at h; subst h; exact hgF i hp
              · exact nodup_flat hFn e p hp h)
        · rw [getD_set_ne _ _ _ _ (by omega)]
          exact (unhide HTD i hi (by omega)).frm FJ (fun p hp hp' => by
            rcases List.mem_append.1 hp' with h | h
            · simp at h; subst h; exact hgF i hp
            · exact nodup_flat hFn (by omega) p hp h)
        · rcases List.mem_append.1 hp with h | h
          · exact List.mem_append_left _ h
          · exact List.mem_append_right _ (mem_flat h)
      case measure => simp [intOf]; omega
    · have e : j = l.length := by omega
      subst e
      have HW := hide (show OwPlsM wr (.slice (some ⟨g, 0, none⟩) l.length cap) (mkPls l k) ([g] ++ Fs.flatten) from
        ⟨Ds, Fs, by rw [mkPls_len]; exact hDl, by rw [mkPls_len]; exact hFl, fun i hi => ⟨hD i (by rw [mkPls_len] at hi; omega), hdone i hi (by rw [mkPls_len] at hi; exact hi)⟩, by rw [mkPls_len]; exact hr, rfl⟩)
      clear hdone htodo hr hD
      go_wp2_with fail
      go_ret
      exact ⟨by first | rfl | (rw [List.take_length]; rfl), unhide HW, hf⟩
set_option maxHeartbeats 3200000 in
theorem markSt_any (w : World) (v : Value) (l : List PlV) (F : List Nat) (k : Int) (h : OwPlsM w v l F) (hF : F.Nodup) (hs : cntPls l ≤ 4194304) (h0 : 0 ≤ k) (h1 : k ≤ 800000000) :
    Calls Tryz.prog 15 #[.agg #[v], .int .i64 k] w fun e w' => e = .returned (.int .i64 (k + (cntPls l : Nat))) ∧ OwPlsM w' v (mkPls l k) F ∧ Frm w w' F := by
  have hA : Frm w (w.alloc (.cells #[v] 32)) F := Frm.ofBelow ((Below.refl _ _).alloc (Nat.le_refl _) _) F
  have h' := OwPlsM.frm h (Frm.ofBelow ((Below.refl w.heap.size w).alloc (Nat.le_refl _) (.cells #[v] 32)) []) (fun _ _ => by simp)
  have c0 := (Loc.made w #[v] 32).cell 0
  simp only [List.getElem?_toArray, List.getElem?_cons_zero] at c0
  have H := hide (markPls_any _ v l F k h' hF hs h0 h1)
  have HA := hide hA
  clear h h' hA
  go_enter Tryz.func15, Tryz.ntmps15
  go_wp2_with fail
  refine (unhide H).mono ?_
  rintro e w2 ⟨rfl, ho, hf⟩
  have HO := hide ho
  clear ho
  go_wp2_with fail
  go_ret
  exact ⟨rfl, unhide HO, (unhide HA).trans hf⟩
end Go.Proofs.YtnfafchajjclaaaGreatDoor

/- The laws' own helper that looks for a count in attributes, by its contract. -/
namespace Go.Proofs.YtnfafchajjclaaaGreatDoor
open Go.RowKit
set_option linter.unusedVariables false
set_option maxRecDepth 100000

set_option maxHeartbeats 3200000 in
theorem heldA_any (w : World) (v : Value) (l : List (List Int × List Int)) (k : Int) (h : RdAttrs w v (mkA l k)) (hs : cntA l ≤ 4194304) (h0 : 0 ≤ k) (h1 : k ≤ 900000000) :
    Calls Tryz.prog 71 #[v, .int .i64 k] w fun e w' => e = .returned (.int .i64 (k + (cntA l : Nat))) ∧ w' = w := by
  have hml := h.1
  rw [mkA_len] at hml
  unfold maxLen at hml
  obtain ⟨a, cap, rfl, _, _⟩ := Elems.shape h
  rw [mkA_len] at h ⊢
  have hm' : (l.length : Int) ≤ 9223372036854775807 := by omega
  go_enter Tryz.func71, Tryz.ntmps71
  go_wp2_with fail
  go_loop [1, 5] (fun c i => ∃ j : Nat, j ≤ l.length ∧ i = .int .i64 j ∧ c = .int .i64 (k + (cntA (l.take j) : Nat))) (fun _ i => l.length - (intOf i).toNat)
  case atStart => exact ⟨0, Nat.zero_le _, rfl, by simp [cntA]⟩
  case round =>
    obtain ⟨j, hj, rfl, rfl⟩ := hrel
    by_cases hjl : j < l.length
    · have hat := mkA_at l k j hjl (by rw [mkA_len]; exact hjl)
      obtain ⟨b, off, rfl, hbl, hun, _, C, hC, hc, hr⟩ := h.at (k := j) (by rw [mkA_len]; exact hjl)
      clear hun
      rw [hat] at hr
      obtain ⟨v0, v1, rfl, hb0, hb1⟩ := hr
      have e0 := hc 0 (by omega)
      have e1 := hc 1 (by omega)
      simp only [List.getElem?_cons_zero, List.getElem?_cons_succ, Nat.add_zero] at e0 e1
      have hct := cntA_take l j hjl
      have hcl := cntA_le l (j + 1)
      obtain ⟨x, hx⟩ : ∃ x, x = l[j] := ⟨_, rfl⟩
      obtain ⟨q, hq⟩ : ∃ q : Int, q = k + (cntA (l.take j) : Nat) := ⟨_, rfl⟩
      rw [← hx] at hct hb0 hb1
      rw [← hq] at hb0 hb1 ⊢
      have hq0 : 0 ≤ q := by omega
      have hq1 : q ≤ 904194304 := by omega
      have hx1 : x.1.length ≤ 4194304 := by omega
      have hx2 : x.2.length ≤ 4194304 := by omega
      simp only at hb0 hb1
      obtain ⟨p0, k0, rfl, _, _⟩ := hb0.shape
      obtain ⟨p1, k1, rfl, _, _⟩ := hb1.shape
      rw [marks_len] at e0 e1 hb0 hb1
      have HQ := hide hq
      have HCT := hide hct
      have hjl' : (j : Int) < (l.length : Int) := by omega
      have d1 : decide (q + (x.1.length : Int) < 0) = false := by simp; omega
      have d2 : decide (q + (x.1.length : Int) + (x.2.length : Int) < 0) = false := by simp; omega
      have H0 := hide hb0
      have H1 := hide hb1
      clear hq hx hat hct hcl hb0 hb1 h hc
      go_wp2_with fail
      refine (heldB_any w _ x.1.length q (unhide H0) (Nat.le_trans hx1 (by decide)) hq0 (by omega)).mono ?_
      rintro e w ⟨rfl, rfl⟩
      go_wp2_with fail
      refine (heldB_any w _ x.2.length (q + (x.1.length : Nat)) (unhide H1) (Nat.le_trans hx2 (by decide)) (by omega) (by omega)).mono ?_
      rintro e w ⟨rfl, rfl⟩
      go_wp2_with fail
      go_round
      case rel => exact ⟨j + 1, by omega, by go_num, by rw [unhide HCT, unhide HQ]; go_num⟩
      case measure => simp [intOf]; omega
    · have e : j = l.length := by omega
      subst e
      clear h
      go_wp2_with fail
      go_ret
      exact ⟨rfl, rfl⟩
end Go.Proofs.YtnfafchajjclaaaGreatDoor

/- laws.heldPlaceS, laws.heldState, by their contracts. -/
namespace Go.Proofs.YtnfafchajjclaaaGreatDoor
open Go.RowKit
set_option linter.unusedVariables false
set_option maxRecDepth 100000

set_option maxHeartbeats 20000000 in
theorem heldPls_any (w : World) (v : Value) (l : List PlV) (k : Int) (h : RdPls w v (mkPls l k)) (hs : cntPls l ≤ 4194304) (h0 : 0 ≤ k) (h1 : k ≤ 800000000) :
    Calls Tryz.prog 43 #[v, .int .i64 k] w fun e w' => e = .returned (.int .i64 (k + (cntPls l : Nat))) ∧ w' = w := by
  have hml := h.1
  rw [mkPls_len] at hml
  unfold maxLen at hml
  have hm' : (l.length : Int) ≤ 9223372036854775807 := by omega
  obtain ⟨hnil, a, cap, rfl⟩ | ⟨b, off, cap, rfl, hnil, g4, g5⟩ := h.cases
  · have e := congrArg List.length hnil
    rw [mkPls_len] at e
    have e' := List.eq_nil_of_length_eq_zero e
    subst e'
    go_enter Tryz.func43, Tryz.ntmps43
    go_wp2_with fail
    refine wp_loop_rounds 1 ?_
    rw [rounds_succ]
    go_wp2_with fail
    go_ret
    exact ⟨by simp [cntPls], rfl⟩
  rw [mkPls_len]
  clear hnil h
  go_enter Tryz.func43, Tryz.ntmps43
  go_wp2_with fail
  go_loop [1, 5] (fun c i => ∃ j : Nat, j ≤ l.length ∧ i = .int .i64 j ∧ c = .int .i64 (k + (cntPls (l.take j) : Nat))) (fun _ i => l.length - (intOf i).toNat)
  case atStart => exact ⟨0, Nat.zero_le _, rfl, by simp [cntPls]⟩
  case round =>
    obtain ⟨j, hj, rfl, rfl⟩ := hrel
    by_cases hjl : j < l.length
    · have hat := mkPls_at l k j hjl (by rw [mkPls_len]; exact hjl)
      obtain ⟨C, hC, hc, hr⟩ := g5 j (by rw [mkPls_len]; exact hjl)
      rw [hat] at hr
      obtain ⟨q, hq⟩ : ∃ q : Int, q = k + (cntPls (l.take j) : Nat) := ⟨_, rfl⟩
      rw [← hq] at hr ⊢
      unfold mkPl at hr
      obtain ⟨kv, nv, tv, av, rfl, hb0, hb1, hb2, hb3⟩ := hr
      have e0 := hc 0 (by omega)
      have e1 := hc 1 (by omega)
      have e2 := hc 2 (by omega)
      have e3 := hc 3 (by omega)
      have e4 := hc 4 (by omega)
      have e5 := hc 5 (by omega)
      have e6 := hc 6 (by omega)
      have e7 := hc 7 (by omega)
      have e8 := hc 8 (by omega)
      simp only [List.getElem?_cons_zero, List.getElem?_cons_succ, Nat.add_zero] at e0 e1 e2 e3 e4 e5 e6 e7 e8
      have hct := cntPls_take l j hjl
      have hcl := cntPls_le l (j + 1)
      unfold szP at hct
      simp only at hb0 hb1 hb2 hb3
      obtain ⟨p0, k0, rfl, _, _⟩ := hb0.shape
      obtain ⟨p1, k1, rfl, _, _⟩ := hb1.shape
      obtain ⟨p2, k2, rfl, _, _⟩ := hb2.shape
      obtain ⟨p3, k3, rfl, _, _⟩ := Elems.shape hb3
      rw [markz_len] at e4 hb0
      rw [marks_len] at e6 e7 hb1 hb2
      rw [mkA_len] at e8 hb3
      clear hC hat g5 hc
      generalize hLA : l[j].attrs = la at *
      generalize l[j].key.length = nK at *
      generalize l[j].name.length = nN at *
      generalize l[j].text.length = nT at *
      clear hLA
      have hq0 : 0 ≤ q := by omega
      have hq1 : q ≤ 817000000 := by omega
      have hn1 : nK ≤ 16777216 := by omega
      have hn2 : nN ≤ 16777216 := by omega
      have hn3 : nT ≤ 16777216 := by omega
      have hn4 : cntA la ≤ 4194304 := by omega
      have H3 := hide (heldA_any w _ la (q + 1 + 1 + 1 + 1 + (nK : Int) + 1 + (nN : Int) + (nT : Int)) hb3 (by omega) (by omega) (by omega))
      generalize cntA la = nA at *
      have HQ := hide hq
      have HCT := hide hct
      have hjl' : (j : Int) < (l.length : Int) := by omega
      have d1 : decide (q + 1 + 1 + 1 + 1 + (nK : Int) < 0) = false := by simp; omega
      have d2 : decide (q + 1 + 1 + 1 + 1 + (nK : Int) + 1 + (nN : Int) < 0) = false := by simp; omega
      have d3 : decide (q + 1 + 1 + 1 + 1 + (nK : Int) + 1 + (nN : Int) + (nT : Int) < 0) = false := by simp; omega
      have d4 : decide (q + 1 + 1 + 1 + 1 + (nK : Int) + 1 + (nN : Int) + (nT : Int) + (nA : Int) < 0) = false := by simp; omega
      have H0 := hide (heldZ_any w _ nK (q + 1 + 1 + 1 + 1) hb0 (by omega) (by omega) (by omega))
      have H1 := hide (heldB_any w _ nN (q + 1 + 1 + 1 + 1 + (nK : Int) + 1) hb1 (by omega) (by omega) (by omega))
      have H2 := hide (heldB_any w _ nT (q + 1 + 1 + 1 + 1 + (nK : Int) + 1 + (nN : Int)) hb2 (by omega) (by omega) (by omega))
      clear hq hct hcl hb0 hb1 hb2 hb3
      go_wp2_with fail
      refine (unhide H0).mono ?_
      rintro e w ⟨rfl, rfl⟩
      go_wp2_with fail
      refine (unhide H1).mono ?_
      rintro e w ⟨rfl, rfl⟩
      go_wp2_with fail
      refine (unhide H2).mono ?_
      rintro e w ⟨rfl, rfl⟩
      go_wp2_with fail
      refine (unhide H3).mono ?_
      rintro e w ⟨rfl, rfl⟩
      go_wp2_with fail
      all_goals try (exfalso; rename_i hz; simp at hz; done)
      go_round
      case rel => exact ⟨j + 1, by omega, by go_num, by rw [unhide HCT, unhide HQ]; go_num⟩
      case measure => simp [intOf]; omega
    · have e : j = l.length := by omega
      subst e
      clear g5
      go_wp2_with fail
      go_ret
      exact ⟨by simp, rfl⟩
set_option maxHeartbeats 3200000 in
theorem heldSt_any (w : World) (v : Value) (l : List PlV) (k : Int) (h : RdPls w v (mkPls l k)) (hs : cntPls l ≤ 4194304) (h0 : 0 ≤ k) (h1 : k ≤ 800000000) :
    Calls Tryz.prog 16 #[.agg #[v], .int .i64 k] w fun e w' => e = .returned (.int .i64 (k + (cntPls l : Nat))) ∧ Below w.heap.size w w' := by
  have hA := (Below.refl w.heap.size w).alloc (Nat.le_refl _) (.cells #[v] 32)
  have c0 := (Loc.made w #[v] 32).cell 0
  simp only [List.getElem?_toArray, List.getElem?_cons_zero] at c0
  have H := hide (heldPls_any _ v l k (RdPls.keep h hA) hs h0 h1)
  have HA := hide hA
  have d1 : decide (k + (cntPls l : Nat) < (0 : Int)) = false := by simp; omega
  clear h hA
  go_enter Tryz.func16, Tryz.ntmps16
  go_wp2_with fail
  refine (unhide H).mono ?_
  rintro e w2 ⟨rfl, rfl⟩
  go_wp2_with fail
  go_ret
  exact ⟨rfl, unhide HA⟩
end Go.Proofs.YtnfafchajjclaaaGreatDoor

/- What laws.markOpS lays: plain mathematics. -/
namespace Go.Proofs.YtnfafchajjclaaaGreatDoor
open Go.RowKit
set_option linter.unusedVariables false
set_option maxRecDepth 100000

/-- An operation with a count in it, from k on. -/
def mkO (o : OpV) (k : Int) : OpV where
  kind := k
  atN := k + 1
  atR := k + 1 + 1
  nodeN := k + 1 + 1 + 1
  nodeR := k + 1 + 1 + 1 + 1
  parN := k + 1 + 1 + 1 + 1 + 1
  parR := k + 1 + 1 + 1 + 1 + 1 + 1
  key := markz (k + 1 + 1 + 1 + 1 + 1 + 1 + 1) o.key.length
  elem := k + 1 + 1 + 1 + 1 + 1 + 1 + 1 + (o.key.length : Int)
  name := marks (k + 1 + 1 + 1 + 1 + 1 + 1 + 1 + (o.key.length : Int) + 1) o.name.length
  text := marks (k + 1 + 1 + 1 + 1 + 1 + 1 + 1 + (o.key.length : Int) + 1 + (o.name.length : Int)) o.text.length
  gone := ((k + 1 + 1 + 1 + 1 + 1 + 1 + 1 + (o.key.length : Int) + 1 + (o.name.length : Int) + (o.text.length : Int)) % 3 == 0)
def cntOs : List OpV → Nat
  | [] => 0
  | x :: r => 9 + szO x + cntOs r
def mkOs : List OpV → Int → List OpV
  | [], _ => []
  | x :: r, k => mkO x k :: mkOs r (k + ((9 + szO x : Nat) : Int))
theorem mkOs_len : ∀ (l : List OpV) (k : Int), (mkOs l k).length = l.length
  | [], _ => rfl
  | x :: r, k => by simp [mkOs, mkOs_len r]
theorem mkOs_app : ∀ (a b : List OpV) (k : Int), mkOs (a ++ b) k = mkOs a k ++ mkOs b (k + (cntOs a : Nat))
  | [], b, k => by simp [mkOs, cntOs]
  | x :: r, b, k => by
    simp only [List.cons_append, mkOs, mkOs_app r b, cntOs, List.cons.injEq, true_and]
    congr 2
    omega
theorem cntOs_app : ∀ (a b : List OpV), cntOs (a ++ b) = cntOs a + cntOs b
  | [], b => by simp [cntOs]
  | x :: r, b => by simp only [List.cons_append, cntOs, cntOs_app r b]; omega
theorem cntOs_take (l : List OpV) (j : Nat) (h : j < l.length) : cntOs (l.take (j + 1)) = cntOs (l.take j) + (9 + szO l[j]) := by
  rw [List.take_succ_eq_append_getElem h, cntOs_app]
  simp [cntOs]
theorem cntOs_le (l : List OpV) (j : Nat) : cntOs (l.take j) ≤ cntOs l := by
  have := cntOs_app (l.take j) (l.drop j)
  rw [List.take_append_drop] at this
  omega
theorem mkOs_at (l : List OpV) (k : Int) (j : Nat) (h : j < l.length) (h' : j < (mkOs l k).length) : (mkOs l k)[j] = mkO l[j] (k + (cntOs (l.take j) : Nat)) := by
  have e : mkOs l k = mkOs (l.take j) k ++ mkOs (l.drop j) (k + (cntOs (l.take j) : Nat)) := by rw [← mkOs_app, List.take_append_drop]
  have e2 : l.drop j = l[j] :: l.drop (j + 1) := List.drop_eq_getElem_cons h
  have hl : (mkOs (l.take j) k).length = j := by rw [mkOs_len]; simp; omega
  have : (mkOs l k)[j]? = some (mkO l[j] (k + (cntOs (l.take j) : Nat))) := by
    rw [e, List.getElem?_append_right (by omega), hl, Nat.sub_self, e2, mkOs]
    rfl
  rw [List.getElem?_eq_getElem h'] at this
  exact Option.some.inj this
end Go.Proofs.YtnfafchajjclaaaGreatDoor

/- Rows of operations that a call has made: which blocks are theirs. -/
namespace Go.Proofs.YtnfafchajjclaaaGreatDoor
open Go.RowKit
set_option linter.unusedVariables false
set_option maxRecDepth 100000

theorem Tryz.info68 : (Tryz.prog.info? 68).map (fun i => (i.zero, i.size, i.bytes)) = some (some (.agg #[.int .i64 0, .int .i64 0, .int .i64 0, .int .i64 0, .int .i64 0, .int .i64 0, .int .i64 0, .slice none 0 0, .int .i64 0, .slice none 0 0, .slice none 0 0, .bool false]), 12, 144) := by kernel_rfl
set_option maxHeartbeats 3200000 in
theorem take_twelve (xs : List Value) (m : Nat) (v0 v1 v2 v3 v4 v5 v6 v7 v8 v9 v10 v11 : Value) (h : m + 12 ≤ xs.length) :
    ((((((((((((xs.set (m) v0).set (m + 1) v1).set (m + 2) v2).set (m + 3) v3).set (m + 4) v4).set (m + 5) v5).set (m + 6) v6).set (m + 7) v7).set (m + 8) v8).set (m + 9) v9).set (m + 10) v10).set (m + 11) v11).take (m + 12) = xs.take m ++ [v0, v1, v2, v3, v4, v5, v6, v7, v8, v9, v10, v11] := by
  have h0 := take_more xs m 0 _ v0 rfl (by omega)
  have h1 := take_more (xs.set (m) v0) m 1 _ v1 h0 (by simp; omega)
  have h2 := take_more ((xs.set (m) v0).set (m + 1) v1) m 2 _ v2 h1 (by simp; omega)
  have h3 := take_more (((xs.set (m) v0).set (m + 1) v1).set (m + 2) v2) m 3 _ v3 h2 (by simp; omega)
  have h4 := take_more ((((xs.set (m) v0).set (m + 1) v1).set (m + 2) v2).set (m + 3) v3) m 4 _ v4 h3 (by simp; omega)
  have h5 := take_more (((((xs.set (m) v0).set (m + 1) v1).set (m + 2) v2).set (m + 3) v3).set (m + 4) v4) m 5 _ v5 h4 (by simp; omega)
  have h6 := take_more ((((((xs.set (m) v0).set (m + 1) v1).set (m + 2) v2).set (m + 3) v3).set (m + 4) v4).set (m + 5) v5) m 6 _ v6 h5 (by simp; omega)
  have h7 := take_more (((((((xs.set (m) v0).set (m + 1) v1).set (m + 2) v2).set (m + 3) v3).set (m + 4) v4).set (m + 5) v5).set (m + 6) v6) m 7 _ v7 h6 (by simp; omega)
  have h8 := take_more ((((((((xs.set (m) v0).set (m + 1) v1).set (m + 2) v2).set (m + 3) v3).set (m + 4) v4).set (m + 5) v5).set (m + 6) v6).set (m + 7) v7) m 8 _ v8 h7 (by simp; omega)
  have h9 := take_more (((((((((xs.set (m) v0).set (m + 1) v1).set (m + 2) v2).set (m + 3) v3).set (m + 4) v4).set (m + 5) v5).set (m + 6) v6).set (m + 7) v7).set (m + 8) v8) m 9 _ v9 h8 (by simp; omega)
  have h10 := take_more ((((((((((xs.set (m) v0).set (m + 1) v1).set (m + 2) v2).set (m + 3) v3).set (m + 4) v4).set (m + 5) v5).set (m + 6) v6).set (m + 7) v7).set (m + 8) v8).set (m + 9) v9) m 10 _ v10 h9 (by simp; omega)
  have h11 := take_more (((((((((((xs.set (m) v0).set (m + 1) v1).set (m + 2) v2).set (m + 3) v3).set (m + 4) v4).set (m + 5) v5).set (m + 6) v6).set (m + 7) v7).set (m + 8) v8).set (m + 9) v9).set (m + 10) v10) m 11 _ v11 h10 (by simp; omega)
  simpa using h11
def OwOpC (w : World) (C : List Value) (o : OpV) (F : List Nat) : Prop := ∃ k n t, C = [.int .i64 o.kind, .int .i64 o.atN, .int .i64 o.atR, .int .i64 o.nodeN, .int .i64 o.nodeR, .int .i64 o.parN, .int .i64 o.parR, k, .int .i64 o.elem, n, t, .bool o.gone] ∧ OwnZ w 0 k o.key ∧ Own w 0 n o.name ∧ Own w 0 t o.text ∧ F = FB k ++ FB n ++ FB t
def OwOps (w : World) (v : Value) (l : List OpV) (F : List Nat) : Prop := OwElems w 68 12 v l (OwOpC w) F
theorem OwOpC.frm {w w' : World} {C : List Value} {o : OpV} {F S : List Nat} (h : OwOpC w C o F) (f : Frm w w' S) (hd : ∀ g ∈ F, g ∉ S) : OwOpC w' C o F := by
  obtain ⟨k, n, t, e, h1, h2, h3, rfl⟩ := h
  exact ⟨k, n, t, e, ⟨h1.1, ownsRow_frm h1.2 f (fun g hg => hd g (by simp [hg]))⟩, h2.frm f (fun g hg => hd g (by simp [hg])), h3.frm f (fun g hg => hd g (by simp [hg])), rfl⟩
theorem OwOps.frm {w w' : World} {v : Value} {l : List OpV} {F S : List Nat} (h : OwOps w v l F) (f : Frm w w' S) (hd : ∀ g ∈ F, g ∉ S) : OwOps w' v l F :=
  OwElems.frm h f hd (fun C x G hr hG => hr.frm f hG)
theorem OwOps.rd {w : World} {v : Value} {l : List OpV} {F : List Nat} (h : OwOps w v l F) : RdOps w v l :=
  OwElems.rd h (OwElems.len h) (fun C x G ⟨k, n, t, e, h1, h2, h3, _⟩ => ⟨k, n, t, e, h1.ints, h2.byt, h3.byt⟩)
end Go.Proofs.YtnfafchajjclaaaGreatDoor

/- laws.markOpS, by its contract. -/
namespace Go.Proofs.YtnfafchajjclaaaGreatDoor
open Go.RowKit
set_option linter.unusedVariables false
set_option maxRecDepth 100000

theorem OwOpC.len {w : World} {C : List Value} {o : OpV} {F : List Nat} (h : OwOpC w C o F) : C.length = 12 := by
  obtain ⟨k, n, t, rfl, _⟩ := h; rfl
theorem nodup3 {a b c : List Nat} (h : (a ++ b ++ c).Nodup) : (∀ g ∈ a, g ∉ b ∧ g ∉ c) ∧ (∀ g ∈ b, g ∉ c) := by
  have h1 := List.nodup_append.1 h
  have h2 := List.nodup_append.1 h1.1
  exact ⟨fun g ha => ⟨fun hb => h2.2.2 g ha g hb rfl, fun hc => h1.2.2 g (List.mem_append_left _ ha) g hc rfl⟩, fun g hb hc => h1.2.2 g (List.mem_append_right _ hb) g hc rfl⟩

set_option maxHeartbeats 20000000 in
theorem markOs_any (w : World) (v : Value) (l : List OpV) (F : List Nat) (k : Int) (h : OwOps w v l F) (hF : F.Nodup) (hs : cntOs l ≤ 16777216) (h0 : 0 ≤ k) (h1 : k ≤ 900000000) :
    Calls Tryz.prog 14 #[v, .int .i64 k] w fun e w' => e = .returned (.int .i64 (k + (cntOs l : Nat))) ∧ OwOps w' v (mkOs l k) F ∧ Frm w w' F := by
  have hml := OwElems.len h
  unfold maxLen at hml
  obtain ⟨Cs, Fs, hCl, hFl, hR, hrow, rfl⟩ := h
  have hFv := nodup_part hF
  have hFn := (List.nodup_append.1 hF).2.1
  by_cases hl0 : l = []
  · subst hl0
    obtain ⟨a, cap, rfl⟩ := own_nil_shape hrow
    have HW := hide (show OwOps w (.slice a ([] : List OpV).length cap) (mkOs [] k) _ from ⟨Cs, Fs, hCl, hFl, hR, hrow, rfl⟩)
    clear hrow hR
    go_enter Tryz.func14, Tryz.ntmps14
    go_wp2_with fail
    refine wp_loop_rounds 1 ?_
    rw [rounds_succ]
    go_wp2_with fail
    go_ret
    exact ⟨by simp [cntOs], unhide HW, Frm.refl _ _⟩
  have hv : ∃ g cap, v = .slice (some ⟨g, 0, none⟩) l.length cap := by
    rcases hrow.2 with ⟨_, h⟩ | ⟨g, cap, cur, rfl, _⟩
    · exact absurd (List.eq_nil_of_length_eq_zero h) hl0
    · exact ⟨g, cap, rfl⟩
  obtain ⟨g, cap, rfl⟩ := hv
  have hgF : ∀ i, g ∉ Fs.getD i [] := fun i hi => hFv g (by simp [FB, Value.ownBlock]) (mem_flat hi)
  have hFB : FB (.slice (some ⟨g, 0, none⟩) l.length cap) = [g] := rfl
  rw [hFB] at hF hFv ⊢
  have HR := hide hR
  have HROW := hide hrow
  have hm' : (l.length : Int) ≤ 9223372036854775807 := by omega
  clear hR hrow hFB
  go_enter Tryz.func14, Tryz.ntmps14
  go_wp2_with fail
  go_loopw [1, 5] (fun c i wr => ∃ j : Nat, j ≤ l.length ∧ i = .int .i64 j ∧ c = .int .i64 (k + (cntOs (l.take j) : Nat)) ∧ ∃ Ds : List (List Value), Ds.length = l.length ∧ wr.ownsRow 0 68 12 (.slice (some ⟨g, 0, none⟩) l.length cap) l.length Ds.flatten ∧
      (∀ i (hi : i < (mkOs l k).length), i < j → OwOpC wr (Ds.getD i []) (mkOs l k)[i] (Fs.getD i [])) ∧ (∀ i (hi : i < l.length), j ≤ i → OwOpC wr (Ds.getD i []) l[i] (Fs.getD i [])) ∧ Frm w wr ([g] ++ Fs.flatten)) (fun _ i _ => l.length - (intOf i).toNat)
  case atStart => exact ⟨0, Nat.zero_le _, rfl, by simp [cntOs], Cs, hCl, unhide HROW, fun i hi hj => by omega, fun i hi _ => (unhide HR i hi).2, Frm.refl _ _⟩
  case round =>
    obtain ⟨j, hj, rfl, rfl, Ds, hDl, hr, hdone, htodo, hf⟩ := hrel
    have hD : ∀ i, i < Ds.length → (Ds.getD i []).length = 12 := fun i hi => by
      by_cases hij : i < j
      · exact (hdone i (by rw [mkOs_len]; omega) hij).len
      · exact (htodo i (by omega) (by omega)).len
    by_cases hjl : j < l.length
    · obtain ⟨kv, nv, tv, hab, hk, hn, ht, hFj⟩ := htodo j hjl (Nat.le_refl _)
      have hct := cntOs_take l j hjl
      have hcl := cntOs_le l (j + 1)
      unfold szO at hct
      have hat := mkOs_at l k j hjl (by rw [mkOs_len]; exact hjl)
      obtain ⟨x, hx⟩ : ∃ x, x = l[j] := ⟨_, rfl⟩
      rw [← hx] at hk hn ht hct hat hab
      obtain ⟨q, hq⟩ : ∃ q : Int, q = k + (cntOs (l.take j) : Nat) := ⟨_, rfl⟩
      rw [← hq] at hat ⊢
      have hq0 : 0 ≤ q := by omega
      have hq1 : q ≤ 917000000 := by omega
      obtain ⟨pk, ck, rfl, _, _⟩ := hk.ints.shape
      obtain ⟨pn, cn, rfl, _, _⟩ := hn.byt.shape
      obtain ⟨pt, ct, rfl, _, _⟩ := ht.byt.shape
      have hFjn := nodup_at (i := j) hFn
      rw [hFj] at hFjn
      obtain ⟨na, nb'⟩ := nodup3 hFjn
      have R0 := RowJ.start hDl hD j hjl hr
      rw [hab] at R0
      have c0 := R0.cell 0 (by omega)
      have f0 := R0.frozen (j * 12)
      have c1 := R0.cell 1 (by omega)
      have f1 := R0.frozen (j * 12 + 1)
      have c2 := R0.cell 2 (by omega)
      have f2 := R0.frozen (j * 12 + 2)
      have c3 := R0.cell 3 (by omega)
      have f3 := R0.frozen (j * 12 + 3)
      have c4 := R0.cell 4 (by omega)
      have f4 := R0.frozen (j * 12 + 4)
      have c5 := R0.cell 5 (by omega)
      have f5 := R0.frozen (j * 12 + 5)
      have c6 := R0.cell 6 (by omega)
      have f6 := R0.frozen (j * 12 + 6)
      simp only [List.getElem?_cons_zero, List.getElem?_cons_succ, Nat.add_zero] at c0 c1 c2 c3 c4 c5 c6
      have R1 := (((((((R0.put 0 (by omega) (.int .i64 q)).put 1 (by omega) (.int .i64 (q + 1))).put 2 (by omega) (.int .i64 (q + 1 + 1))).put 3 (by omega) (.int .i64 (q + 1 + 1 + 1))).put 4 (by omega) (.int .i64 (q + 1 + 1 + 1 + 1))).put 5 (by omega) (.int .i64 (q + 1 + 1 + 1 + 1 + 1))).put 6 (by omega) (.int .i64 (q + 1 + 1 + 1 + 1 + 1 + 1)))
      simp only [Nat.add_zero, List.set_cons_zero, List.set_cons_succ] at R1
      have F1 : Frm wr (((((((wr.setCell ⟨g, j * 12, none⟩ (.int .i64 q)).setCell ⟨g, j * 12 + 1, none⟩ (.int .i64 (q + 1))).setCell ⟨g, j * 12 + 2, none⟩ (.int .i64 (q + 1 + 1))).setCell ⟨g, j * 12 + 3, none⟩ (.int .i64 (q + 1 + 1 + 1))).setCell ⟨g, j * 12 + 4, none⟩ (.int .i64 (q + 1 + 1 + 1 + 1))).setCell ⟨g, j * 12 + 5, none⟩ (.int .i64 (q + 1 + 1 + 1 + 1 + 1))).setCell ⟨g, j * 12 + 6, none⟩ (.int .i64 (q + 1 + 1 + 1 + 1 + 1 + 1))) [g] := (((((((set_frm wr g (j * 12) (.int .i64 q)).trans (set_frm _ g (j * 12 + 1) (.int .i64 (q + 1)))).trans (set_frm _ g (j * 12 + 2) (.int .i64 (q + 1 + 1)))).trans (set_frm _ g (j * 12 + 3) (.int .i64 (q + 1 + 1 + 1)))).trans (set_frm _ g (j * 12 + 4) (.int .i64 (q + 1 + 1 + 1 + 1)))).trans (set_frm _ g (j * 12 + 5) (.int .i64 (q + 1 + 1 + 1 + 1 + 1)))).trans (set_frm _ g (j * 12 + 6) (.int .i64 (q + 1 + 1 + 1 + 1 + 1 + 1))))
      have c7 := R1.cell 7 (by omega)
      simp only [List.getElem?_cons_zero, List.getElem?_cons_succ] at c7
      have HX := hide hx
      have HQ := hide hq
      have HT := hide hat
      have HCT := hide hct
      have HFJ := hide hFj
      have HDN := hide hdone
      have HTD := hide htodo
      have hx0 : x.key.length ≤ 16777216 := by omega
      have hx1 : x.name.length ≤ 16777216 := by omega
      have hx2 : x.text.length ≤ 16777216 := by omega
      have hjl' : (j : Int) < (l.length : Int) := by omega
      have hgn : g ∉ Fs.getD j [] := hgF j
      rw [unhide HFJ] at hgn
      simp only [List.mem_append, not_or] at hgn
      obtain ⟨⟨hgk, hgnn⟩, hgt⟩ := hgn
      have hk1 := hk.frm F1 (fun p hp hp' => by simp at hp'; subst hp'; exact hgk hp)
      have hn1 := hn.frm F1 (fun p hp hp' => by simp at hp'; subst hp'; exact hgnn hp)
      have ht1 := ht.frm F1 (fun p hp hp' => by simp at hp'; subst hp'; exact hgt hp)
      clear hx hq hat hct hFj hdone htodo hcl hr hab hk hn ht hFjn R0
      go_wp2_with fail
      generalize (((((((wr.setCell ⟨g, j * 12, none⟩ (.int .i64 q)).setCell ⟨g, j * 12 + 1, none⟩ (.int .i64 (q + 1))).setCell ⟨g, j * 12 + 2, none⟩ (.int .i64 (q + 1 + 1))).setCell ⟨g, j * 12 + 3, none⟩ (.int .i64 (q + 1 + 1 + 1))).setCell ⟨g, j * 12 + 4, none⟩ (.int .i64 (q + 1 + 1 + 1 + 1))).setCell ⟨g, j * 12 + 5, none⟩ (.int .i64 (q + 1 + 1 + 1 + 1 + 1))).setCell ⟨g, j * 12 + 6, none⟩ (.int .i64 (q + 1 + 1 + 1 + 1 + 1 + 1))) = w1 at *
      clear c0 c1 c2 c3 c4 c5 c6 f0 f1 f2 f3 f4 f5 f6 c7
      refine (markZ_any w1 0 _ x.key (q + 1 + 1 + 1 + 1 + 1 + 1 + 1) hk1 hx0 (by omega) (by omega)).mono ?_
      rintro e w2 ⟨rfl, hk2, hg2⟩
      have F2 := Frm.ofGrown hg2
      have R2 := R1.frm F2 hgk
      have hn2 := hn1.frm F2 (fun p hp hp' => (na p hp').1 hp)
      have ht2 := ht1.frm F2 (fun p hp hp' => (na p hp').2 hp)
      have c8 := R2.cell 8 (by omega)
      have f8 := R2.frozen (j * 12 + 8)
      have R3 := R2.put 8 (by omega) (.int .i64 (q + 1 + 1 + 1 + 1 + 1 + 1 + 1 + (x.key.length : Int)))
      have F3 := set_frm w2 g (j * 12 + 8) (.int .i64 (q + 1 + 1 + 1 + 1 + 1 + 1 + 1 + (x.key.length : Int)))
      have c9 := R3.cell 9 (by omega)
      simp only [List.set_cons_zero, List.set_cons_succ, List.getElem?_cons_zero, List.getElem?_cons_succ] at c8 c9 R3
      have hk3 := hk2.frm F3 (fun p hp hp' => by simp at hp'; subst hp'; exact hgk hp)
      have hn3 := hn2.frm F3 (fun p hp hp' => by simp at hp'; subst hp'; exact hgnn hp)
      have ht3 := ht2.frm F3 (fun p hp hp' => by simp at hp'; subst hp'; exact hgt hp)
      clear R1 R2 hk1 hn1 ht1 hk2 hn2 ht2 hg2
      go_wp2_with fail
      generalize (w2.setCell ⟨g, j * 12 + 8, none⟩ (.int .i64 (q + 1 + 1 + 1 + 1 + 1 + 1 + 1 + (x.key.length : Int)))) = w3 at *
      clear c8 f8 c9
      refine (markB_any w3 0 _ x.name (q + 1 + 1 + 1 + 1 + 1 + 1 + 1 + (x.key.length : Int) + 1) hn3 hx1 (by omega) (by omega)).mono ?_
      rintro e w4 ⟨rfl, hn4, hg4⟩
      have F4 := Frm.ofGrown hg4
      have R4 := R3.frm F4 hgnn
      have hk4 := hk3.frm F4 (fun p hp hp' => (na p hp).1 hp')
      have ht4 := ht3.frm F4 (fun p hp hp' => nb' p hp' hp)
      have c10 := R4.cell 10 (by omega)
      simp only [List.getElem?_cons_zero, List.getElem?_cons_succ] at c10
      clear R3 hk3 hn3 ht3 hg4
      go_wp2_with fail
      clear c10
      refine (markB_any w4 0 _ x.text (q + 1 + 1 + 1 + 1 + 1 + 1 + 1 + (x.key.length : Int) + 1 + (x.name.length : Int)) ht4 hx2 (by omega) (by omega)).mono ?_
      rintro e w5 ⟨rfl, ht5, hg5⟩
      have F5 := Frm.ofGrown hg5
      have R5 := R4.frm F5 hgt
      have hk5 := hk4.frm F5 (fun p hp hp' => (na p hp).2 hp')
      have hn5 := hn4.frm F5 (fun p hp hp' => nb' p hp hp')
      have c11 := R5.cell 11 (by omega)
      have f11 := R5.frozen (j * 12 + 11)
      have R6 := R5.put 11 (by omega) (.bool ((q + 1 + 1 + 1 + 1 + 1 + 1 + 1 + (x.key.length : Int) + 1 + (x.name.length : Int) + (x.text.length : Int)) % 3 == 0))
      have F6 := set_frm w5 g (j * 12 + 11) (.bool ((q + 1 + 1 + 1 + 1 + 1 + 1 + 1 + (x.key.length : Int) + 1 + (x.name.length : Int) + (x.text.length : Int)) % 3 == 0))
      simp only [List.set_cons_zero, List.set_cons_succ, List.getElem?_cons_zero, List.getElem?_cons_succ] at c11 R6
      have hk6 := hk5.frm F6 (fun p hp hp' => by simp at hp'; subst hp'; exact hgk hp)
      have hn6 := hn5.frm F6 (fun p hp hp' => by simp at hp'; subst hp'; exact hgnn hp)
      have ht6 := ht5.frm F6 (fun p hp hp' => by simp at hp'; subst hp'; exact hgt hp)
      have FJ : Frm wr (w5.setCell ⟨g, j * 12 + 11, none⟩ (.bool ((q + 1 + 1 + 1 + 1 + 1 + 1 + 1 + (x.key.length : Int) + 1 + (x.name.length : Int) + (x.text.length : Int)) % 3 == 0))) ([g] ++ Fs.getD j []) := by
        have m0 : ∀ p, p ∈ [g] → p ∈ [g] ++ Fs.getD j [] := fun p hp => List.mem_append_left _ hp
        have m1 : ∀ p, p ∈ (Value.slice pk x.key.length ck).ownBlock.toList → p ∈ [g] ++ Fs.getD j [] := fun p hp => by rw [unhide HFJ]; simp [FB, hp]
        have m2 : ∀ p, p ∈ (Value.slice pn x.name.length cn).ownBlock.toList → p ∈ [g] ++ Fs.getD j [] := fun p hp => by rw [unhide HFJ]; simp [FB, hp]
        have m3 : ∀ p, p ∈ (Value.slice pt x.text.length ct).ownBlock.toList → p ∈ [g] ++ Fs.getD j [] := fun p hp => by rw [unhide HFJ]; simp [FB, hp]
        exact (((((F1.mono m0).trans (F2.mono m1)).trans (F3.mono m0)).trans (F4.mono m2)).trans (F5.mono m3)).trans (F6.mono m0)
      clear R4 R5 hk4 hn4 ht4 hk5 hn5 ht5 hg5 F1 F2 F3 F4 F5 F6
      go_wp2_with fail
      go_roundw
      case rel =>
        refine ⟨j + 1, by omega, by go_num, ?_, Ds.set j _, by rw [List.length_set]; exact hDl, R6.row, fun i hi hij => ?_, fun i hi hij => ?_, hf.trans (FJ.mono (fun p hp => ?_))⟩
        · rw [unhide HCT, unhide HQ]; go_num
        · by_cases e : i = j
          · subst e
            rw [unhide HT, getD_set_at _ _ _ (by omega)]
            exact ⟨_, _, _, by simp only [mkO], hk6, hn6, ht6, unhide HFJ⟩
          · rw [getD_set_ne _ _ _ _ e]
            exact (unhide HDN i hi (by omega)).frm FJ (fun p hp hp' => by
              rcases List.mem_append.1 hp' with h | h
              · simp at h; subst h; exact hgF i hp
              · exact nodup_flat hFn e p hp h)
        · rw [getD_set_ne _ _ _ _ (by omega)]
          exact (unhide HTD i hi (by omega)).frm FJ (fun p hp hp' => by
            rcases List.mem_append.1 hp' with h | h
            · simp at h; subst h; exact hgF i hp
            · exact nodup_flat hFn (by omega) p hp h)
        · rcases List.mem_append.1 hp with h | h
          · exact List.mem_append_left _ h
          · exact List.mem_append_right _ (mem_flat h)
      case measure => simp [intOf]; omega
    · have e : j = l.length := by omega
      subst e
      have HW := hide (show OwOps wr (.slice (some ⟨g, 0, none⟩) l.length cap) (mkOs l k) ([g] ++ Fs.flatten) from
        ⟨Ds, Fs, by rw [mkOs_len]; exact hDl, by rw [mkOs_len]; exact hFl, fun i hi => ⟨hD i (by rw [mkOs_len] at hi; omega), hdone i hi (by rw [mkOs_len] at hi; exact hi)⟩, by rw [mkOs_len]; exact hr, rfl⟩)
      clear hdone htodo hr hD
      go_wp2_with fail
      go_ret
      exact ⟨by first | rfl | (rw [List.take_length]; rfl), unhide HW, hf⟩
end Go.Proofs.YtnfafchajjclaaaGreatDoor

/- What marks count of a tree is no more than its size. -/
namespace Go.Proofs.YtnfafchajjclaaaGreatDoor
open Go.RowKit
set_option linter.unusedVariables false

theorem cntL_sum {α : Type} (f g : α → Nat) (H : ∀ x, f x ≤ g x) : ∀ l : List α, cntL f l ≤ l.length + (l.map g).sum
  | [] => by simp [cntL]
  | x :: l => by
    have h1 := cntL_sum f g H l
    have h2 := H x
    simp only [cntL, List.map_cons, List.length_cons, List.sum_cons]
    omega
theorem cntA_sum : ∀ l : List (List Int × List Int), cntA l ≤ szA l
  | [] => by simp [cntA, szA]
  | x :: l => by
    have h1 := cntA_sum l
    unfold szA at h1 ⊢
    simp only [cntA, List.map_cons, List.length_cons, List.sum_cons]
    omega
theorem cntT_sz : ∀ (n : Nat) (t : Tr n), cntT n t ≤ szT n t
  | 0, t => t.elim
  | n + 1, t => by
    have h1 := cntA_sum t.attrs
    have h2 := cntL_sum (cntT n) (szT n) (cntT_sz n) t.kids
    have h4 : szT (n + 1) t = t.name.length + t.text.length + szA t.attrs + (t.kids.length + (t.kids.map (szT n)).sum) := rfl
    rw [cntT_succ, h4]
    omega

end Go.Proofs.YtnfafchajjclaaaGreatDoor

/- The laws' own count of how great a row of operations is. -/
namespace Go.Proofs.YtnfafchajjclaaaGreatDoor
open Go.RowKit
set_option linter.unusedVariables false
set_option maxRecDepth 100000

theorem ret_i64O {a b : Int} (h : a = b) : Ending.returned (.int .i64 a) = .returned (.int .i64 b) := by rw [h]

set_option maxHeartbeats 1600000 in
theorem szOps_any (w : World) (v : Value) (l : List OpV) (left : Int) (h : RdOps w v l) (h0 : 0 ≤ left) (h1 : left ≤ 1000000000) :
    Calls Tryz.prog 5 #[v, .int .i64 left] w fun e w' => e = .returned (.int .i64 (rest (szOs l) left)) ∧ Below w.heap.size w w' := by
  have hm := h.1
  unfold maxLen at hm
  by_cases h2 : (l.length : Int) ≤ left
  · have hd : ¬ left - (l.length : Int) < 0 := by omega
    obtain ⟨_, ⟨rfl, rfl⟩ | ⟨x, cap, rfl, hc, rfl⟩ | ⟨b, off, cap, rfl, g1, g2, g3, g4, g5⟩⟩ := h
    · go_enter Tryz.func5, Tryz.ntmps5
      go_wp2_with fail
      refine wp_loop_rounds 1 ?_
      rw [rounds_succ]
      go_wp2_with fail
      go_ret
      exact ⟨ret_i64O (by rw [rest_in (by simpa [szOs] using h0)]; simp [szOs]), Below.refl _ _⟩
    · go_enter Tryz.func5, Tryz.ntmps5
      go_wp2_with fail
      refine wp_loop_rounds 1 ?_
      rw [rounds_succ]
      go_wp2_with fail
      go_ret
      exact ⟨ret_i64O (by rw [rest_in (by simpa [szOs] using h0)]; simp [szOs]), Below.refl _ _⟩
    · have HE := hide (rest_rest (b := (l.map szO).sum) h2)
      go_enter Tryz.func5, Tryz.ntmps5
      go_wp2_with fail
      go_loopw [1, 5] (fun q i wr => ∃ k : Nat, k ≤ l.length ∧ i = .int .i64 k ∧ ((sumO l k : Nat) : Int) ≤ left - (l.length : Int) ∧ q = .int .i64 (left - (l.length : Int) - (sumO l k : Nat)) ∧ Below w.heap.size w wr) (fun _ i _ => l.length - (intOf i).toNat)
      case atStart => exact ⟨0, Nat.zero_le _, rfl, by simp [sumO]; omega, by simp [sumO], Below.refl _ _⟩
      case round =>
        obtain ⟨k, hk, rfl, hs, rfl, hB⟩ := hrel
        by_cases hlt : k < l.length
        · obtain ⟨a1, c1, a2, c2, a3, c3, e0, e1, e2, e3, e4, e5, e6, e7, e8, e9, e10, e11, hr⟩ := opc_at hB g4 (g5 k hlt)
          have hlt' : (k : Int) < (l.length : Int) := by omega
          have hst := sumO_step l k hlt
          have hle := sumO_le l (k + 1)
          rw [hst] at hle
          have HR := hide (szOp_any wr _ l[k] (left - (l.length : Int) - (sumO l k : Nat)) hr (by omega) (by omega))
          change Hid (Calls _ _ _ _ fun e w' => e = .returned (.int .i64 (left4 (szO l[k]) _)) ∧ _) at HR
          unfold opVal at HR
          generalize l[k] = o at *
          generalize o.key.length = nK at *
          generalize o.name.length = nN at *
          generalize o.text.length = nT at *
          generalize hq : sumO l k = q at *
          have HQ := hide hq
          have HST := hide hst
          clear g5 hq hst hr
          go_wp2_with fail
          refine (unhide HR).mono ?_
          rintro e w2 ⟨rfl, hB2⟩
          have hB3 := hB.trans (hB2.mono hB.size)
          clear e0 e1 e2 e3 e4 e5 e6 e7 e8 e9 e10 e11 HR
          generalize szO o = m at *
          by_cases h3 : (m : Int) ≤ left - (l.length : Int) - (q : Int)
          · rw [left4_in h3]
            have hd3 : ¬ left - (l.length : Int) - (q : Int) - (m : Int) < 0 := by omega
            go_wp2_with fail
            go_roundw
            case rel => exact ⟨k + 1, by omega, by go_num, by rw [unhide HST]; omega, by rw [unhide HST]; exact congrArg (Value.int .i64) (by omega), hB3⟩
            case measure => simp [intOf]; omega
          · rw [left4_out h3]
            have HF := hide (show rest (szOs l) left = -1 by unfold szOs; rw [unhide HE, rest_out (by omega)])
            go_wp2_with fail
            go_ret
            exact ⟨by rw [unhide HF]; rfl, hB3⟩
        · have e : k = l.length := by omega
          subst e
          rw [sumO_all] at hs ⊢
          have HF := hide (show rest (szOs l) left = left - (l.length : Int) - ((l.map szO).sum : Nat) by unfold szOs; rw [unhide HE, rest_in hs])
          go_wp2_with fail
          go_ret
          exact ⟨by rw [unhide HF]; rfl, hB⟩
  · have HF := hide (show rest (szOs l) left = -1 from rest_bad h2)
    obtain ⟨a, cap, rfl, _, _⟩ := Elems.shape h
    have hd : left - (l.length : Int) < 0 := by omega
    go_enter Tryz.func5, Tryz.ntmps5
    go_wp2_with fail
    go_ret
    exact ⟨by rw [unhide HF]; rfl, Below.refl _ _⟩
end Go.Proofs.YtnfafchajjclaaaGreatDoor

/- The laws' own copy of a row of operations. -/
namespace Go.Proofs.YtnfafchajjclaaaGreatDoor
open Go.RowKit
set_option linter.unusedVariables false
set_option maxRecDepth 100000

set_option maxHeartbeats 12800000 in
theorem toOps_any (w : World) (v : Value) (l : List OpV) (h : RdOps w v l) (hs : szOs l ≤ 2097152) :
    Calls Tryz.prog 8 #[v] w fun e w' => ∃ a c, e = .returned (.slice a l.length c) ∧ ∃ F, OwOps w' (.slice a l.length c) l F ∧ F.Nodup ∧ Rng F w.heap.size w'.heap.size ∧ Below w.heap.size w w' := by
  obtain ⟨i0, hi, hz0, hz1, hz2⟩ := info_parts Tryz.info68
  have hm := h.1
  have hlen : l.length ≤ 2097152 := by unfold szOs at hs; omega
  by_cases h0 : l = []
  · obtain ⟨a, cap, rfl, _⟩ := Elems.shape h
    subst h0
    go_enter Tryz.func8, Tryz.ntmps8
    go_wp2_with (at_make; refine wpList_make_full _ rfl _ _ 40 rfl w.heap.size 68 i0 _ 12 Tryz.underlying40 hi hz0 hz1 .i64 .i64 _ _ 0 rfl rfl rfl rfl ?c1 ?c2 ?c3 ?_)
    case c1 => rw [hz2]; omega
    case c2 => exact Nat.zero_le _
    case c3 => exact Nat.le_refl _
    intro w1 hown hgrow
    have hB1 := Below.ofGrown hgrow
    have hH := (Half.start (α := OpV) (l := []) (R := OwOpC w1) (w.heap.size + 1) (ownsRow_base hown 0 (Nat.zero_le _))).whole rfl (by omega)
    have HH := hide hH
    clear hown hgrow hH
    go_wp2_with fail
    refine wp_loop_rounds 1 ?_
    rw [rounds_succ]
    go_wp2_with fail
    go_ret
    obtain ⟨F, hF, hnd, hr⟩ := unhide HH
    exact ⟨_, _, rfl, F, hF, hnd, hr, hB1⟩
  obtain ⟨_, ⟨_, e⟩ | ⟨_, _, _, _, e⟩ | ⟨b, off, cap, rfl, g1, g2, g3, g4, g5⟩⟩ := h
  · exact absurd e h0
  · exact absurd e h0
  have hone : ∀ i (hi : i < l.length), szO l[i] ≤ 2097152 := fun i hi => by have := szO_le l i hi; unfold szOs at hs; omega
  go_enter Tryz.func8, Tryz.ntmps8
  go_wp2_with (at_make; refine wpList_make_full _ rfl _ _ 40 rfl w.heap.size 68 i0 _ 12 Tryz.underlying40 hi hz0 hz1 .i64 .i64 _ _ l.length rfl rfl rfl rfl ?c1 ?c2 ?c3 ?_)
  case c1 => rw [hz2]; omega
  case c2 => exact hm
  case c3 => exact Nat.le_refl _
  intro w1 hown hgrow
  have hB1 := Below.ofGrown hgrow
  have hH := Half.start (α := OpV) (l := l) (R := OwOpC w1) (w.heap.size + 1) (ownsRow_base hown 0 (Nat.zero_le _))
  have hlt1 := (hown.lt w.heap.size rfl).2
  clear hown hgrow
  go_wp2_with fail
  go_loopw [4] (fun i wr => ∃ k : Nat, k ≤ l.length ∧ i = .int .i64 k ∧ Half wr 68 12 w.heap.size l.length l (OwOpC wr) (w.heap.size + 1) k ∧ Below w.heap.size w wr ∧ w.heap.size + 1 ≤ wr.heap.size) (fun i _ => l.length - (intOf i).toNat)
  case atStart => exact ⟨0, Nat.zero_le _, rfl, hH, hB1, by omega⟩
  case round =>
    obtain ⟨k, hk, rfl, hr, hB, hsz⟩ := hrel
    clear hH hB1 hlt1
    by_cases hlt : k < l.length
    · obtain ⟨p1, u1, p2, u2, p3, u3, e0, e1, e2, e3, e4, e5, e6, e7, e8, e9, e10, e11, hro⟩ := opc_at hB g4 (g5 k hlt)
      have hlt' : (k : Int) < (l.length : Int) := by omega
      have HT := hide (toOp_own wr _ l[k] hro (by have := hone k hlt; unfold szO at this; exact this))
      have HR0 := hide hr
      have HRW := hide (fun (w2 : World) (hB2 : Below wr.heap.size wr w2) => (show ∃ xs : List Value, w2.ownsRow 0 68 12 (.slice (some ⟨w.heap.size, 0, none⟩) l.length l.length) l.length xs by
        obtain ⟨_, _, xs, _, _, _, h4, _⟩ := hr.laid
        exact ⟨xs, ownsRow_frm h4 (Frm.ofBelow hB2 []) (fun _ _ => by simp)⟩))
      unfold opVal at HT
      generalize hoo : l[k] = o at *
      have HOO := hide hoo.symm
      clear g5 hoo hr hro hone
      go_wp2_with fail
      clear e0 e1 e2 e3 e4 e5 e6 e7 e8 e9 e10 e11
      refine (unhide HT).mono ?_
      rintro e w2 ⟨a1, c1, a2, c2, a3, c3, rfl, hO, hB2⟩
      obtain ⟨hO1, hO2, hO3, hO4⟩ := hO
      have rK : ∀ g ∈ FB (.slice a1 o.key.length c1), wr.heap.size ≤ g ∧ g < w2.heap.size := fun g hg => hO1.lt g (by simpa [FB] using hg)
      have rN := hO2.rng
      have rT := hO3.rng
      have o1 := hO1.mono (base' := 0) (Nat.zero_le _)
      have o2 := hO2.mono (base' := 0) (Nat.zero_le _)
      have o3 := hO3.mono (base' := 0) (Nat.zero_le _)
      clear hO1 hO2 hO3
      generalize hnK : o.key.length = nK at *
      generalize hnN : o.name.length = nN at *
      generalize hnT : o.text.length = nT at *
      clear hnK hnN hnT
      obtain ⟨xs, hx⟩ := unhide HRW w2 hB2
      have hxl := hx.1
      have hcell : ∀ j, j < 12 → ∃ y, w2.cell? ⟨w.heap.size, k * 12 + j, none⟩ = some y := fun j hj => ⟨xs[k * 12 + j]'(by omega), by rw [hx.cellAt (k * 12 + j) (by omega), List.getElem?_eq_getElem (by omega)]⟩
      obtain ⟨y0, q0⟩ := hcell 0 (by omega)
      obtain ⟨y1, q1⟩ := hcell 1 (by omega)
      obtain ⟨y2, q2⟩ := hcell 2 (by omega)
      obtain ⟨y3, q3⟩ := hcell 3 (by omega)
      obtain ⟨y4, q4⟩ := hcell 4 (by omega)
      obtain ⟨y5, q5⟩ := hcell 5 (by omega)
      obtain ⟨y6, q6⟩ := hcell 6 (by omega)
      obtain ⟨y7, q7⟩ := hcell 7 (by omega)
      obtain ⟨y8, q8⟩ := hcell 8 (by omega)
      obtain ⟨y9, q9⟩ := hcell 9 (by omega)
      obtain ⟨y10, q10⟩ := hcell 10 (by omega)
      obtain ⟨y11, q11⟩ := hcell 11 (by omega)
      rw [Nat.add_zero] at q0
      have f0 := hx.frozenAt (k * 12)
      have f1 := hx.frozenAt (k * 12 + 1)
      have f2 := hx.frozenAt (k * 12 + 2)
      have f3 := hx.frozenAt (k * 12 + 3)
      have f4 := hx.frozenAt (k * 12 + 4)
      have f5 := hx.frozenAt (k * 12 + 5)
      have f6 := hx.frozenAt (k * 12 + 6)
      have f7 := hx.frozenAt (k * 12 + 7)
      have f8 := hx.frozenAt (k * 12 + 8)
      have f9 := hx.frozenAt (k * 12 + 9)
      have f10 := hx.frozenAt (k * 12 + 10)
      have f11 := hx.frozenAt (k * 12 + 11)
      obtain ⟨W, hW⟩ : ∃ W, W = ((((((((((((w2.setCell ⟨w.heap.size, k * 12, none⟩ (.int .i64 o.kind)).setCell ⟨w.heap.size, k * 12 + 1, none⟩ (.int .i64 o.atN)).setCell ⟨w.heap.size, k * 12 + 2, none⟩ (.int .i64 o.atR)).setCell ⟨w.heap.size, k * 12 + 3, none⟩ (.int .i64 o.nodeN)).setCell ⟨w.heap.size, k * 12 + 4, none⟩ (.int .i64 o.nodeR)).setCell ⟨w.heap.size, k * 12 + 5, none⟩ (.int .i64 o.parN)).setCell ⟨w.heap.size, k * 12 + 6, none⟩ (.int .i64 o.parR)).setCell ⟨w.heap.size, k * 12 + 7, none⟩ (.slice a1 nK c1)).setCell ⟨w.heap.size, k * 12 + 8, none⟩ (.int .i64 o.elem)).setCell ⟨w.heap.size, k * 12 + 9, none⟩ (.slice a2 nN c2)).setCell ⟨w.heap.size, k * 12 + 10, none⟩ (.slice a3 nT c3)).setCell ⟨w.heap.size, k * 12 + 11, none⟩ (.bool o.gone)) := ⟨_, rfl⟩
      have hf : Frm w2 W [w.heap.size] := by rw [hW]; exact ((((((((((((set_frm w2 _ _ _).trans (set_frm _ _ _ _)).trans (set_frm _ _ _ _)).trans (set_frm _ _ _ _)).trans (set_frm _ _ _ _)).trans (set_frm _ _ _ _)).trans (set_frm _ _ _ _)).trans (set_frm _ _ _ _)).trans (set_frm _ _ _ _)).trans (set_frm _ _ _ _)).trans (set_frm _ _ _ _)).trans (set_frm _ _ _ _))
      have hrg : Rng (FB (.slice a1 nK c1) ++ FB (.slice a2 nN c2) ++ FB (.slice a3 nT c3)) wr.heap.size w2.heap.size := (Rng.app (Rng.app rK rN) rT)
      have hstep : Half W 68 12 w.heap.size l.length l (OwOpC W) (w.heap.size + 1) (k + 1) := by
        refine (unhide HR0).step hlt (by omega) hsz hB2 [.int .i64 o.kind, .int .i64 o.atN, .int .i64 o.atR, .int .i64 o.nodeN, .int .i64 o.nodeR, .int .i64 o.parN, .int .i64 o.parR, .slice a1 nK c1, .int .i64 o.elem, .slice a2 nN c2, .slice a3 nT c3, .bool o.gone] (FB (.slice a1 nK c1) ++ FB (.slice a2 nN c2) ++ FB (.slice a3 nT c3)) rfl ?_ hO4 hrg ?_ hf ?_
        · rw [← unhide HOO]
          exact OwOpC.frm (w := w2) ⟨_, _, _, rfl, o1, o2, o3, rfl⟩ hf (fun g hg => by have := hrg g hg; simp; omega)
        · intro C x G' hx' hne
          exact OwOpC.frm hx' ((Frm.ofBelow hB2 [w.heap.size]).trans hf) (fun g hg => by have := hne g hg; simp; omega)
        · intro zs hz
          have hzl := hz.1
          have t0 := (hz.stored (k * 12) (.int .i64 o.kind)).1
          have t1 := (t0.stored (k * 12 + 1) (.int .i64 o.atN)).1
          have t2 := (t1.stored (k * 12 + 2) (.int .i64 o.atR)).1
          have t3 := (t2.stored (k * 12 + 3) (.int .i64 o.nodeN)).1
          have t4 := (t3.stored (k * 12 + 4) (.int .i64 o.nodeR)).1
          have t5 := (t4.stored (k * 12 + 5) (.int .i64 o.parN)).1
          have t6 := (t5.stored (k * 12 + 6) (.int .i64 o.parR)).1
          have t7 := (t6.stored (k * 12 + 7) (.slice a1 nK c1)).1
          have t8 := (t7.stored (k * 12 + 8) (.int .i64 o.elem)).1
          have t9 := (t8.stored (k * 12 + 9) (.slice a2 nN c2)).1
          have t10 := (t9.stored (k * 12 + 10) (.slice a3 nT c3)).1
          have t11 := (t10.stored (k * 12 + 11) (.bool o.gone)).1
          rw [hW]
          exact ⟨_, t11, take_twelve zs (k * 12) _ _ _ _ _ _ _ _ _ _ _ _ (by omega)⟩
      have HB0 := hB.trans ((hB2.mono hB.size).trans (hf.below (by have := hB2.size; have := hB.size; omega) (fun g hg => by simp at hg; omega)))
      have hs2 : w.heap.size + 1 ≤ W.heap.size := by have := hf.size; have := hB2.size; omega
      subst hW
      have HS := hide hstep
      have HB := hide HB0
      have HS2 := hide hs2
      clear hstep hf hx o1 o2 o3 hO4 hB2 hB HB0 hs2 hrg hcell rK rN rT HT HR0 HRW HOO
      go_wp2_with fail
      go_roundw
      case rel => exact ⟨k + 1, by omega, by go_num, unhide HS, unhide HB, unhide HS2⟩
      case measure => simp [intOf]; omega
    · have e : k = l.length := by omega
      subst e
      have HW := hide (hr.whole rfl (by omega))
      clear hr g5 hone
      go_wp2_with fail
      go_ret
      obtain ⟨F, hF, hnd, hrg⟩ := unhide HW
      exact ⟨_, _, rfl, F, hF, hnd, hrg, hB⟩
end Go.Proofs.YtnfafchajjclaaaGreatDoor

/- Rows of the same operations are alike. -/
namespace Go.Proofs.YtnfafchajjclaaaGreatDoor
open Go.RowKit
set_option linter.unusedVariables false
set_option maxRecDepth 100000

set_option maxHeartbeats 3200000 in
theorem eqOps_same (w : World) (u v : Value) (l : List OpV) (hu : RdOps w u l) (hv : RdOps w v l) :
    Calls Tryz.prog 12 #[u, v] w fun e w' => e = .returned (.bool true) ∧ Below w.heap.size w w' := by
  have hm := hu.1
  unfold maxLen at hm
  obtain ⟨rfl, a, cap, rfl⟩ | ⟨b, off, cap, rfl, hnil, g4, g5⟩ := hu.cases
  · obtain ⟨a', cap', rfl, _, _⟩ := Elems.shape hv
    go_enter Tryz.func12, Tryz.ntmps12
    go_wp2_with fail
    refine wp_loop_rounds 1 ?_
    rw [rounds_succ]
    go_wp2_with fail
    go_ret
    exact ⟨rfl, Below.refl _ _⟩
  obtain ⟨rfl, _⟩ | ⟨b', off', cap', rfl, _, f4, f5⟩ := hv.cases
  · exact absurd rfl hnil
  go_enter Tryz.func12, Tryz.ntmps12
  go_wp2_with fail
  go_loopw [5] (fun i wr => ∃ k : Nat, k ≤ l.length ∧ i = .int .i64 k ∧ Below w.heap.size w wr) (fun i _ => l.length - (intOf i).toNat)
  case atStart => exact ⟨0, Nat.zero_le _, rfl, Below.refl _ _⟩
  case round =>
    obtain ⟨k, hk, rfl, hB⟩ := hrel
    by_cases hlt : k < l.length
    · have HE := hide (fun W u v (hu : RdOp W u l[k]) (hv : RdOp W v l[k]) => eqOp_same W u v l[k] hu hv)
      obtain ⟨a1, c1, a2, c2, a3, c3, e0, e1, e2, e3, e4, e5, e6, e7, e8, e9, e10, e11, hr⟩ := opc_at hB g4 (g5 k hlt)
      obtain ⟨a1', c1', a2', c2', a3', c3', i0, i1, i2, i3, i4, i5, i6, i7, i8, i9, i10, i11, hr'⟩ := opc_at hB f4 (f5 k hlt)
      have hlt' : (k : Int) < (l.length : Int) := by omega
      have hk0 : (0 : Int) ≤ (k : Int) := by omega
      have HR := hide hr
      have HR' := hide hr'
      unfold opVal at HR HR'
      generalize l[k] = o at *
      generalize o.key.length = nK at *
      generalize o.name.length = nN at *
      generalize o.text.length = nT at *
      clear g5 f5 hr hr' hnil
      go_wp2_with fail
      go_region_held3 (fun w' => w'.cell? ⟨b, off + k * 12, none⟩ = some (.int .i64 o.kind) ∧ w'.cell? ⟨b, off + k * 12 + 1, none⟩ = some (.int .i64 o.atN) ∧ w'.cell? ⟨b, off + k * 12 + 2, none⟩ = some (.int .i64 o.atR) ∧ w'.cell? ⟨b, off + k * 12 + 3, none⟩ = some (.int .i64 o.nodeN) ∧ w'.cell? ⟨b, off + k * 12 + 4, none⟩ = some (.int .i64 o.nodeR) ∧ w'.cell? ⟨b, off + k * 12 + 5, none⟩ = some (.int .i64 o.parN) ∧ w'.cell? ⟨b, off + k * 12 + 6, none⟩ = some (.int .i64 o.parR) ∧ w'.cell? ⟨b, off + k * 12 + 7, none⟩ = some (.slice a1 nK c1) ∧ w'.cell? ⟨b, off + k * 12 + 8, none⟩ = some (.int .i64 o.elem) ∧ w'.cell? ⟨b, off + k * 12 + 9, none⟩ = some (.slice a2 nN c2) ∧ w'.cell? ⟨b, off + k * 12 + 10, none⟩ = some (.slice a3 nT c3) ∧ w'.cell? ⟨b, off + k * 12 + 11, none⟩ = some (.bool o.gone) ∧ w'.cell? ⟨b', off' + k * 12, none⟩ = some (.int .i64 o.kind) ∧ w'.cell? ⟨b', off' + k * 12 + 1, none⟩ = some (.int .i64 o.atN) ∧ w'.cell? ⟨b', off' + k * 12 + 2, none⟩ = some (.int .i64 o.atR) ∧ w'.cell? ⟨b', off' + k * 12 + 3, none⟩ = some (.int .i64 o.nodeN) ∧ w'.cell? ⟨b', off' + k * 12 + 4, none⟩ = some (.int .i64 o.nodeR) ∧ w'.cell? ⟨b', off' + k * 12 + 5, none⟩ = some (.int .i64 o.parN) ∧ w'.cell? ⟨b', off' + k * 12 + 6, none⟩ = some (.int .i64 o.parR) ∧ w'.cell? ⟨b', off' + k * 12 + 7, none⟩ = some (.slice a1' nK c1') ∧ w'.cell? ⟨b', off' + k * 12 + 8, none⟩ = some (.int .i64 o.elem) ∧ w'.cell? ⟨b', off' + k * 12 + 9, none⟩ = some (.slice a2' nN c2') ∧ w'.cell? ⟨b', off' + k * 12 + 10, none⟩ = some (.slice a3' nT c3') ∧ w'.cell? ⟨b', off' + k * 12 + 11, none⟩ = some (.bool o.gone)) (first | exact ⟨by assumption, by assumption, by assumption, by assumption, by assumption, by assumption, by assumption, by assumption, by assumption, by assumption, by assumption, by assumption, by assumption, by assumption, by assumption, by assumption, by assumption, by assumption, by assumption, by assumption, by assumption, by assumption, by assumption, by assumption⟩ | simp [*])
        ((go_at_call 37; refine (unhide HE _ _ _ ((unhide HR).keep ((Below.refl _ _).drew)) ((unhide HR').keep ((Below.refl _ _).drew))).mono ?_; rintro e w2 ⟨rfl, hB2⟩; have s0 := cell_later hB2 e0; have s1 := cell_later hB2 e1; have s2 := cell_later hB2 e2; have s3 := cell_later hB2 e3; have s4 := cell_later hB2 e4; have s5 := cell_later hB2 e5; have s6 := cell_later hB2 e6; have s7 := cell_later hB2 e7; have s8 := cell_later hB2 e8; have s9 := cell_later hB2 e9; have s10 := cell_later hB2 e10; have s11 := cell_later hB2 e11; have r0 := cell_later hB2 i0; have r1 := cell_later hB2 i1; have r2 := cell_later hB2 i2; have r3 := cell_later hB2 i3; have r4 := cell_later hB2 i4; have r5 := cell_later hB2 i5; have r6 := cell_later hB2 i6; have r7 := cell_later hB2 i7; have r8 := cell_later hB2 i8; have r9 := cell_later hB2 i9; have r10 := cell_later hB2 i10; have r11 := cell_later hB2 i11))
      have hB3 := hB.trans ((Below.drew (Below.refl wr.heap.size wr)).trans hB2 |>.mono hB.size)
      clear e0 e1 e2 e3 e4 e5 e6 e7 e8 e9 e10 e11 i0 i1 i2 i3 i4 i5 i6 i7 i8 i9 i10 i11 s0 s1 s2 s3 s4 s5 s6 s7 s8 s9 s10 s11 r0 r1 r2 r3 r4 r5 r6 r7 r8 r9 r10 r11 hB2 HR HR'
      go_wp2_with fail
      go_roundw
      case rel => exact ⟨k + 1, by omega, by go_num, hB3⟩
      case measure => simp [intOf]; omega
    · clear g5 f5
      go_wp2_with fail
      go_ret
      exact ⟨rfl, hB⟩
end Go.Proofs.YtnfafchajjclaaaGreatDoor

/- The laws' own comparison of two trees, where both are the same: by contracts. -/
namespace Go.Proofs.YtnfafchajjclaaaGreatDoor
open Go.RowKit
set_option linter.unusedVariables false

theorem eqB_true (w : World) (u v : Value) (a : List Int) (hu : Byt w u a) (hv : Byt w v a) : Calls Tryz.prog 34 #[u, v] w fun e w' => e = .returned (.bool true) ∧ Below w.heap.size w w' := by
  refine (eqB_any w u v a a hu hv).mono ?_
  rintro e w' ⟨rfl, h⟩
  exact ⟨by simp, h⟩

set_option maxHeartbeats 1600000 in
theorem eqAttr_any (w : World) (a b c d : Value) (x : List Int × List Int) (ha : Byt w a x.1) (hb : Byt w b x.2) (hc : Byt w c x.1) (hd : Byt w d x.2) :
    Calls Tryz.prog 66 #[.agg #[a, b], .agg #[c, d]] w fun e w' => e = .returned (.bool true) ∧ Below w.heap.size w w' := by
  obtain ⟨a1, k1, rfl, _, _⟩ := ha.shape
  obtain ⟨a2, k2, rfl, _, _⟩ := hb.shape
  obtain ⟨a3, k3, rfl, _, _⟩ := hc.shape
  obtain ⟨a4, k4, rfl, _, _⟩ := hd.shape
  have hA : Below w.heap.size w ((w.alloc (.cells #[.slice a1 x.1.length k1, .slice a2 x.2.length k2] 108)).alloc (.cells #[.slice a3 x.1.length k3, .slice a4 x.2.length k4] 108)) := ((Below.refl _ _).alloc (Nat.le_refl _) _).alloc (by simp) _
  go_enter Tryz.func66, Tryz.ntmps66
  go_wp2_with fail
  refine (eqB_true _ _ _ x.1 (ha.keep hA) (hc.keep hA)).mono ?_
  rintro e w1 ⟨rfl, hB1⟩
  have hA1 := bstep hA hB1
  have e1 := cell_later hB1 (show ((w.alloc (.cells #[.slice a1 x.1.length k1, .slice a2 x.2.length k2] 108)).alloc (.cells #[.slice a3 x.1.length k3, .slice a4 x.2.length k4] 108)).cell? ⟨w.heap.size, 1, none⟩ = some (.slice a2 x.2.length k2) by simp)
  have e2 := cell_later hB1 (show ((w.alloc (.cells #[.slice a1 x.1.length k1, .slice a2 x.2.length k2] 108)).alloc (.cells #[.slice a3 x.1.length k3, .slice a4 x.2.length k4] 108)).cell? ⟨w.heap.size + 1, 1, none⟩ = some (.slice a4 x.2.length k4) by simp)
  clear hB1 hA
  go_wp2_with fail
  refine (eqB_true _ _ _ x.2 (hb.keep hA1) (hd.keep hA1)).mono ?_
  rintro e w2 ⟨rfl, hB2⟩
  have hA2 := bstep hA1 hB2
  clear hB2 hA1 e1 e2
  go_wp2
  go_ret
  exact ⟨rfl, hA2⟩

set_option maxHeartbeats 1600000 in
theorem eqAttrS_any (w : World) (u v : Value) (l : List (List Int × List Int)) (hu : RdAttrs w u l) (hv : RdAttrs w v l) :
    Calls Tryz.prog 35 #[u, v] w fun e w' => e = .returned (.bool true) ∧ Below w.heap.size w w' := by
  have hm := hu.1
  unfold maxLen at hm
  by_cases h0 : l = []
  · obtain ⟨a1, c1, rfl, _⟩ := Elems.shape hu
    obtain ⟨a2, c2, rfl, _⟩ := Elems.shape hv
    subst h0
    go_enter Tryz.func35, Tryz.ntmps35
    go_wp2
    refine wp_loop_rounds 1 ?_
    rw [rounds_succ]
    go_wp2
    go_ret
    exact ⟨rfl, Below.refl _ _⟩
  obtain ⟨_, ⟨_, e⟩ | ⟨_, _, _, _, e⟩ | ⟨b, off, cap, rfl, g1, g2, g3, g4, g5⟩⟩ := hu
  · exact absurd e h0
  · exact absurd e h0
  obtain ⟨_, ⟨_, e⟩ | ⟨_, _, _, _, e⟩ | ⟨b', off', cap', rfl, f1, f2, f3, f4, f5⟩⟩ := hv
  · exact absurd e h0
  · exact absurd e h0
  go_enter Tryz.func35, Tryz.ntmps35
  go_wp2
  go_loopw [5] (fun i wr => ∃ k : Nat, k ≤ l.length ∧ i = .int .i64 k ∧ Below w.heap.size w wr) (fun i _ => l.length - (intOf i).toNat)
  case atStart => exact ⟨0, Nat.zero_le _, rfl, Below.refl _ _⟩
  case round =>
    obtain ⟨k, hk, rfl, hB⟩ := hrel
    by_cases hlt : k < l.length
    · obtain ⟨C, hC, hcell, c0, c1, rfl, hc0, hc1⟩ := g5 k hlt
      obtain ⟨D, hD, hdell, d0, d1, rfl, hd0, hd1⟩ := f5 k hlt
      have e0 := (hB.cell (p := ⟨b, off + k * 2, none⟩) g4).trans (hcell 0 (by omega))
      have e1 := (hB.cell (p := ⟨b, off + k * 2 + 1, none⟩) g4).trans (hcell 1 (by omega))
      have e2 := (hB.cell (p := ⟨b', off' + k * 2, none⟩) f4).trans (hdell 0 (by omega))
      have e3 := (hB.cell (p := ⟨b', off' + k * 2 + 1, none⟩) f4).trans (hdell 1 (by omega))
      simp only [List.getElem?_cons_zero, List.getElem?_cons_succ] at e0 e1 e2 e3
      have hk0 : (0 : Int) ≤ (k : Int) := by omega
      have hlt' : (k : Int) < (l.length : Int) := by omega
      clear hcell hdell g5 f5 hC hD
      go_wp2
      go_region_held3 (fun w' => w'.cell? ⟨b, off + k * 2, none⟩ = some c0 ∧ w'.cell? ⟨b, off + k * 2 + 1, none⟩ = some c1 ∧ w'.cell? ⟨b', off' + k * 2, none⟩ = some d0 ∧ w'.cell? ⟨b', off' + k * 2 + 1, none⟩ = some d1) (first | exact ⟨by assumption, by assumption, by assumption, by assumption⟩ | simp [*])
        ((go_at_call 66; refine (eqAttr_any _ c0 c1 d0 d1 l[k] (by exact (hc0.keep hB).keep ((Below.refl _ _).drew)) (by exact (hc1.keep hB).keep ((Below.refl _ _).drew)) (by exact (hd0.keep hB).keep ((Below.refl _ _).drew)) (by exact (hd1.keep hB).keep ((Below.refl _ _).drew))).mono ?_; rintro e w2 ⟨rfl, hB2⟩; have s0 := cell_later hB2 e0; have s1 := cell_later hB2 e1; have s2 := cell_later hB2 e2; have s3 := cell_later hB2 e3))
      have hB3 := hB.trans ((Below.drew (Below.refl wr.heap.size wr)).trans hB2 |>.mono hB.size)
      clear e0 e1 e2 e3 s0 s1 s2 s3 hB2
      go_wp2
      go_roundw
      case rel => exact ⟨k + 1, by omega, by go_num, hB3⟩
      case measure => simp [intOf]; omega
    · clear g5 f5
      go_wp2
      go_ret
      exact ⟨rfl, hB⟩

/-- What eqNode does to two nodes of depth below n that are the same. -/
def EqNodeSaid (n : Nat) : Prop := ∀ (w : World) (a b c d e a' b' c' d' e' : Value) (t : Tr n), RdNode n w [a, b, c, d, e] t → RdNode n w [a', b', c', d', e'] t →
    Calls Tryz.prog 11 #[.agg #[a, b, c, d, e], .agg #[a', b', c', d', e']] w fun e w' => e = .returned (.bool true) ∧ Below w.heap.size w w'

set_option maxHeartbeats 3200000 in
theorem eqNodeS_any (n : Nat) (H : EqNodeSaid n) (w : World) (u v : Value) (l : List (Tr n)) (hu : RdKids n w u l) (hv : RdKids n w v l) :
    Calls Tryz.prog 36 #[u, v] w fun e w' => e = .returned (.bool true) ∧ Below w.heap.size w w' := by
  have hm := hu.1
  unfold maxLen at hm
  by_cases h0 : l = []
  · obtain ⟨a1, c1, rfl, _⟩ := Elems.shape hu
    obtain ⟨a2, c2, rfl, _⟩ := Elems.shape hv
    subst h0
    go_enter Tryz.func36, Tryz.ntmps36
    go_wp2_with fail
    refine wp_loop_rounds 1 ?_
    rw [rounds_succ]
    go_wp2_with fail
    go_ret
    exact ⟨rfl, Below.refl _ _⟩
  obtain ⟨_, ⟨_, e⟩ | ⟨_, _, _, _, e⟩ | ⟨b, off, cap, rfl, g1, g2, g3, g4, g5⟩⟩ := hu
  · exact absurd e h0
  · exact absurd e h0
  obtain ⟨_, ⟨_, e⟩ | ⟨_, _, _, _, e⟩ | ⟨b', off', cap', rfl, f1, f2, f3, f4, f5⟩⟩ := hv
  · exact absurd e h0
  · exact absurd e h0
  go_enter Tryz.func36, Tryz.ntmps36
  go_wp2_with fail
  go_loopw [5] (fun i wr => ∃ k : Nat, k ≤ l.length ∧ i = .int .i64 k ∧ Below w.heap.size w wr) (fun i _ => l.length - (intOf i).toNat)
  case atStart => exact ⟨0, Nat.zero_le _, rfl, Below.refl _ _⟩
  case round =>
    obtain ⟨k, hk, rfl, hB⟩ := hrel
    by_cases hlt : k < l.length
    · obtain ⟨c0, c1, c2, c3, c4, e0, e1, e2, e3, e4, hc⟩ := five_of (g5 k hlt)
      obtain ⟨d0, d1, d2, d3, d4, i0, i1, i2, i3, i4, hd⟩ := five_of (f5 k hlt)
      replace e0 := (hB.cell (p := ⟨b, off + k * 5, none⟩) g4).trans e0
      replace e1 := (hB.cell (p := ⟨b, off + k * 5 + 1, none⟩) g4).trans e1
      replace e2 := (hB.cell (p := ⟨b, off + k * 5 + 2, none⟩) g4).trans e2
      replace e3 := (hB.cell (p := ⟨b, off + k * 5 + 3, none⟩) g4).trans e3
      replace e4 := (hB.cell (p := ⟨b, off + k * 5 + 4, none⟩) g4).trans e4
      replace i0 := (hB.cell (p := ⟨b', off' + k * 5, none⟩) f4).trans i0
      replace i1 := (hB.cell (p := ⟨b', off' + k * 5 + 1, none⟩) f4).trans i1
      replace i2 := (hB.cell (p := ⟨b', off' + k * 5 + 2, none⟩) f4).trans i2
      replace i3 := (hB.cell (p := ⟨b', off' + k * 5 + 3, none⟩) f4).trans i3
      replace i4 := (hB.cell (p := ⟨b', off' + k * 5 + 4, none⟩) f4).trans i4
      have hk0 : (0 : Int) ≤ (k : Int) := by omega
      have hlt' : (k : Int) < (l.length : Int) := by omega
      clear g5 f5
      go_wp2_with fail
      go_region_held3 (fun w' => w'.cell? ⟨b, off + k * 5, none⟩ = some c0 ∧ w'.cell? ⟨b, off + k * 5 + 1, none⟩ = some c1 ∧ w'.cell? ⟨b, off + k * 5 + 2, none⟩ = some c2 ∧ w'.cell? ⟨b, off + k * 5 + 3, none⟩ = some c3 ∧ w'.cell? ⟨b, off + k * 5 + 4, none⟩ = some c4 ∧ w'.cell? ⟨b', off' + k * 5, none⟩ = some d0 ∧ w'.cell? ⟨b', off' + k * 5 + 1, none⟩ = some d1 ∧ w'.cell? ⟨b', off' + k * 5 + 2, none⟩ = some d2 ∧ w'.cell? ⟨b', off' + k * 5 + 3, none⟩ = some d3 ∧ w'.cell? ⟨b', off' + k * 5 + 4, none⟩ = some d4) (first | exact ⟨by assumption, by assumption, by assumption, by assumption, by assumption, by assumption, by assumption, by assumption, by assumption, by assumption⟩ | simp [*])
        ((go_at_call 11; refine (H _ c0 c1 c2 c3 c4 d0 d1 d2 d3 d4 l[k] (by exact (hc.keep hB).keep ((Below.refl _ _).drew)) (by exact (hd.keep hB).keep ((Below.refl _ _).drew))).mono ?_; rintro e w2 ⟨rfl, hB2⟩; have s0 := cell_later hB2 e0; have s1 := cell_later hB2 e1; have s2 := cell_later hB2 e2; have s3 := cell_later hB2 e3; have s4 := cell_later hB2 e4; have r0 := cell_later hB2 i0; have r1 := cell_later hB2 i1; have r2 := cell_later hB2 i2; have r3 := cell_later hB2 i3; have r4 := cell_later hB2 i4))
      have hB3 := hB.trans ((Below.drew (Below.refl wr.heap.size wr)).trans hB2 |>.mono hB.size)
      clear e0 e1 e2 e3 e4 i0 i1 i2 i3 i4 s0 s1 s2 s3 s4 r0 r1 r2 r3 r4 hB2 hc hd
      go_wp2_with fail
      go_roundw
      case rel => exact ⟨k + 1, by omega, by go_num, hB3⟩
      case measure => simp [intOf]; omega
    · clear g5 f5
      go_wp2_with fail
      go_ret
      exact ⟨rfl, hB⟩

set_option maxHeartbeats 3200000 in
theorem eqNode_succ (n : Nat) (H : EqNodeSaid n) : EqNodeSaid (n + 1) := by
  intro w a b c d e a' b' c' d' e' t hr hr'
  obtain ⟨_, _, _, _, e0, k1, k2, hb, hc, hd, he⟩ := hr
  obtain ⟨_, _, _, _, e1, _, _, hb', hc', hd', he'⟩ := hr'
  simp only [List.cons.injEq, and_true] at e0 e1
  obtain ⟨rfl, rfl, rfl, rfl, rfl⟩ := e0
  obtain ⟨rfl, rfl, rfl, rfl, rfl⟩ := e1
  obtain ⟨ab, cb, rfl, _, _⟩ := hb.shape
  obtain ⟨ac, cc, rfl, _, _⟩ := hc.shape
  obtain ⟨ad, cd, rfl, _, _⟩ := Elems.shape hd
  obtain ⟨ae, ce, rfl, _, _⟩ := Elems.shape he
  obtain ⟨ab', cb', rfl, _, _⟩ := hb'.shape
  obtain ⟨ac', cc', rfl, _, _⟩ := hc'.shape
  obtain ⟨ad', cd', rfl, _, _⟩ := Elems.shape hd'
  obtain ⟨ae', ce', rfl, _, _⟩ := Elems.shape he'
  generalize hO : (Obj.cells #[.int .i64 t.kind, .slice ab t.name.length cb, .slice ac t.text.length cc, .slice ad t.attrs.length cd, .slice ae t.kids.length ce] 38) = O
  generalize hO' : (Obj.cells #[.int .i64 t.kind, .slice ab' t.name.length cb', .slice ac' t.text.length cc', .slice ad' t.attrs.length cd', .slice ae' t.kids.length ce'] 38) = O'
  have hA : Below w.heap.size w ((w.alloc O).alloc O') := ((Below.refl _ _).alloc (Nat.le_refl _) _).alloc (by simp) _
  have p2 : ((w.alloc O).alloc O').cell? ⟨w.heap.size, 2, none⟩ = some (.slice ac t.text.length cc) := by rw [← hO, ← hO']; simp
  have q2 : ((w.alloc O).alloc O').cell? ⟨w.heap.size + 1, 2, none⟩ = some (.slice ac' t.text.length cc') := by rw [← hO, ← hO']; simp
  have p3 : ((w.alloc O).alloc O').cell? ⟨w.heap.size, 3, none⟩ = some (.slice ad t.attrs.length cd) := by rw [← hO, ← hO']; simp
  have q3 : ((w.alloc O).alloc O').cell? ⟨w.heap.size + 1, 3, none⟩ = some (.slice ad' t.attrs.length cd') := by rw [← hO, ← hO']; simp
  have p4 : ((w.alloc O).alloc O').cell? ⟨w.heap.size, 4, none⟩ = some (.slice ae t.kids.length ce) := by rw [← hO, ← hO']; simp
  have q4 : ((w.alloc O).alloc O').cell? ⟨w.heap.size + 1, 4, none⟩ = some (.slice ae' t.kids.length ce') := by rw [← hO, ← hO']; simp
  have P := hide (And.intro p2 (And.intro q2 (And.intro p3 (And.intro q3 (And.intro p4 q4)))))
  clear p2 q2 p3 q3 p4 q4
  subst hO hO'
  have HA := hide hA
  clear hA
  have hkk : (t.kind != t.kind) = false := by simp
  go_enter Tryz.func11, Tryz.ntmps11
  go_wp2_with fail
  refine (eqB_true _ _ _ t.name (hb.keep (unhide HA)) (hb'.keep (unhide HA))).mono ?_
  rintro e w1 ⟨rfl, hB1⟩
  have hA1 := bstep (unhide HA) hB1
  have p2 := cell_later hB1 (unhide P).1
  have q2 := cell_later hB1 (unhide P).2.1
  have p3 := cell_later hB1 (unhide P).2.2.1
  have q3 := cell_later hB1 (unhide P).2.2.2.1
  have p4 := cell_later hB1 (unhide P).2.2.2.2.1
  have q4 := cell_later hB1 (unhide P).2.2.2.2.2
  clear hB1 P HA
  go_wp2_with fail
  refine (eqB_true _ _ _ t.text (hc.keep hA1) (hc'.keep hA1)).mono ?_
  rintro e w2 ⟨rfl, hB2⟩
  have hA2 := bstep hA1 hB2
  replace p3 := cell_later hB2 p3
  replace q3 := cell_later hB2 q3
  replace p4 := cell_later hB2 p4
  replace q4 := cell_later hB2 q4
  clear hB2 hA1 p2 q2
  go_wp2_with fail
  refine (eqAttrS_any _ _ _ t.attrs (hd.keep hA2) (hd'.keep hA2)).mono ?_
  rintro e w3 ⟨rfl, hB3⟩
  have hA3 := bstep hA2 hB3
  replace p4 := cell_later hB3 p4
  replace q4 := cell_later hB3 q4
  clear hB3 hA2 p3 q3
  go_wp2_with fail
  refine (eqNodeS_any n H _ _ _ t.kids (RdKids.keep he hA3) (RdKids.keep he' hA3)).mono ?_
  rintro e w4 ⟨rfl, hB4⟩
  have hA4 := bstep hA3 hB4
  clear hB4 hA3 p4 q4
  go_wp2_with fail
  go_ret
  exact ⟨rfl, hA4⟩

theorem eqNode_any (n : Nat) : EqNodeSaid n := by
  induction n with
  | zero => exact fun _ _ _ _ _ _ _ _ _ _ _ t => t.elim
  | succ n ih => exact eqNode_succ n ih

end Go.Proofs.YtnfafchajjclaaaGreatDoor

/- laws.eqPlace, laws.eqPlaceS, laws.eqState of two that read the same. -/
namespace Go.Proofs.YtnfafchajjclaaaGreatDoor
open Go.RowKit
set_option linter.unusedVariables false
set_option maxRecDepth 100000

set_option maxHeartbeats 6400000 in
theorem eqPl_same (w : World) (u v : Value) (p : PlV) (hu : RdPl w u p) (hv : RdPl w v p) :
    Calls Tryz.prog 65 #[u, v] w fun r w' => r = .returned (.bool true) ∧ Below w.heap.size w w' := by
  obtain ⟨vk, vn, vt, va, rfl, hk1, hn1, ht1, ha1⟩ := hu
  obtain ⟨uk, un, ut, ua, rfl, hk2, hn2, ht2, ha2⟩ := hv
  obtain ⟨k1, ck1, rfl, _, _⟩ := hk1.shape
  obtain ⟨n1, cn1, rfl, _, _⟩ := hn1.shape
  obtain ⟨t1, ct1, rfl, _, _⟩ := ht1.shape
  obtain ⟨a1, ca1, rfl, _, _⟩ := Elems.shape ha1
  obtain ⟨k2, ck2, rfl, _, _⟩ := hk2.shape
  obtain ⟨n2, cn2, rfl, _, _⟩ := hn2.shape
  obtain ⟨t2, ct2, rfl, _, _⟩ := ht2.shape
  obtain ⟨a2, ca2, rfl, _, _⟩ := Elems.shape ha2
  have H := hide (And.intro hk1 (And.intro hn1 (And.intro ht1 (And.intro ha1 (And.intro hk2 (And.intro hn2 (And.intro ht2 ha2)))))))
  clear hk1 hn1 ht1 ha1 hk2 hn2 ht2 ha2
  unfold plVal
  have hA : Below w.heap.size w ((w.alloc (.cells #[.int .i64 p.idN, .int .i64 p.idR, .int .i64 p.parN, .int .i64 p.parR, .slice k1 p.key.length ck1, .int .i64 p.kind, .slice n1 p.name.length cn1, .slice t1 p.text.length ct1, .slice a1 p.attrs.length ca1] 107)).alloc (.cells #[.int .i64 p.idN, .int .i64 p.idR, .int .i64 p.parN, .int .i64 p.parR, .slice k2 p.key.length ck2, .int .i64 p.kind, .slice n2 p.name.length cn2, .slice t2 p.text.length ct2, .slice a2 p.attrs.length ca2] 107)) := ((Below.refl _ _).alloc (Nat.le_refl _) _).alloc (by simp) _
  have l0 := (Loc.made w #[.int .i64 p.idN, .int .i64 p.idR, .int .i64 p.parN, .int .i64 p.parR, .slice k1 p.key.length ck1, .int .i64 p.kind, .slice n1 p.name.length cn1, .slice t1 p.text.length ct1, .slice a1 p.attrs.length ca1] 107).alloc (.cells #[.int .i64 p.idN, .int .i64 p.idR, .int .i64 p.parN, .int .i64 p.parR, .slice k2 p.key.length ck2, .int .i64 p.kind, .slice n2 p.name.length cn2, .slice t2 p.text.length ct2, .slice a2 p.attrs.length ca2] 107)
  have l1 := Loc.made (w.alloc (.cells #[.int .i64 p.idN, .int .i64 p.idR, .int .i64 p.parN, .int .i64 p.parR, .slice k1 p.key.length ck1, .int .i64 p.kind, .slice n1 p.name.length cn1, .slice t1 p.text.length ct1, .slice a1 p.attrs.length ca1] 107)) #[.int .i64 p.idN, .int .i64 p.idR, .int .i64 p.parN, .int .i64 p.parR, .slice k2 p.key.length ck2, .int .i64 p.kind, .slice n2 p.name.length cn2, .slice t2 p.text.length ct2, .slice a2 p.attrs.length ca2] 107
  simp only [World.size_alloc] at l1
  go_enter Tryz.func65, Tryz.ntmps65
  go_wp2_with fail
  generalize ((w.alloc (.cells #[.int .i64 p.idN, .int .i64 p.idR, .int .i64 p.parN, .int .i64 p.parR, .slice k1 p.key.length ck1, .int .i64 p.kind, .slice n1 p.name.length cn1, .slice t1 p.text.length ct1, .slice a1 p.attrs.length ca1] 107)).alloc (.cells #[.int .i64 p.idN, .int .i64 p.idR, .int .i64 p.parN, .int .i64 p.parR, .slice k2 p.key.length ck2, .int .i64 p.kind, .slice n2 p.name.length cn2, .slice t2 p.text.length ct2, .slice a2 p.attrs.length ca2] 107)) = W at *
  refine (eqId_true _ p.idN p.idR).mono ?_
  rintro e w1 ⟨rfl, hB⟩
  replace hA := bstep hA hB
  replace l0 := l0.all hB
  replace l1 := l1.all hB
  clear hB
  have x2 := l0.cell 2
  have y2 := l1.cell 2
  have x3 := l0.cell 3
  have y3 := l1.cell 3
  simp at x2 y2 x3 y3
  go_wp2_with fail
  clear x2 y2 x3 y3
  refine (eqId_true _ p.parN p.parR).mono ?_
  rintro e w2 ⟨rfl, hB⟩
  replace hA := bstep hA hB
  replace l0 := l0.all hB
  replace l1 := l1.all hB
  clear hB
  have x4 := l0.cell 4
  have y4 := l1.cell 4
  simp at x4 y4
  go_wp2_with fail
  clear x4 y4
  refine (eqZ4_true _ _ _ p.key ((unhide H).1.keep hA) ((unhide H).2.2.2.2.1.keep hA)).mono ?_
  rintro e w3 ⟨rfl, hB⟩
  replace hA := bstep hA hB
  replace l0 := l0.all hB
  replace l1 := l1.all hB
  clear hB
  have x5 := l0.cell 5
  have y5 := l1.cell 5
  have x6 := l0.cell 6
  have y6 := l1.cell 6
  simp at x5 y5 x6 y6
  go_wp2_with fail
  clear x5 y5 x6 y6
  refine (eqB4_true _ _ _ p.name ((unhide H).2.1.keep hA) ((unhide H).2.2.2.2.2.1.keep hA)).mono ?_
  rintro e w4 ⟨rfl, hB⟩
  replace hA := bstep hA hB
  replace l0 := l0.all hB
  replace l1 := l1.all hB
  clear hB
  have x7 := l0.cell 7
  have y7 := l1.cell 7
  simp at x7 y7
  go_wp2_with fail
  clear x7 y7
  refine (eqB4_true _ _ _ p.text ((unhide H).2.2.1.keep hA) ((unhide H).2.2.2.2.2.2.1.keep hA)).mono ?_
  rintro e w5 ⟨rfl, hB⟩
  replace hA := bstep hA hB
  replace l0 := l0.all hB
  replace l1 := l1.all hB
  clear hB
  have x8 := l0.cell 8
  have y8 := l1.cell 8
  simp at x8 y8
  go_wp2_with fail
  clear x8 y8
  refine (eqAttrS_any _ _ _ p.attrs ((unhide H).2.2.2.1.keep hA) ((unhide H).2.2.2.2.2.2.2.keep hA)).mono ?_
  rintro e w6 ⟨rfl, hB⟩
  replace hA := bstep hA hB
  replace l0 := l0.all hB
  replace l1 := l1.all hB
  clear hB
  go_wp2_with fail
  go_ret
  exact ⟨rfl, hA⟩

set_option maxHeartbeats 6400000 in
theorem eqPls_same (w : World) (u v : Value) (l : List PlV) (hu : RdPls w u l) (hv : RdPls w v l) :
    Calls Tryz.prog 33 #[u, v] w fun e w' => e = .returned (.bool true) ∧ Below w.heap.size w w' := by
  have hm := hu.1
  unfold maxLen at hm
  obtain ⟨rfl, a, cap, rfl⟩ | ⟨b, off, cap, rfl, hnil, g4, g5⟩ := hu.cases
  · obtain ⟨a', cap', rfl, _, _⟩ := Elems.shape hv
    go_enter Tryz.func33, Tryz.ntmps33
    go_wp2_with fail
    refine wp_loop_rounds 1 ?_
    rw [rounds_succ]
    go_wp2_with fail
    go_ret
    exact ⟨rfl, Below.refl _ _⟩
  obtain ⟨rfl, _⟩ | ⟨b', off', cap', rfl, _, f4, f5⟩ := hv.cases
  · exact absurd rfl hnil
  go_enter Tryz.func33, Tryz.ntmps33
  go_wp2_with fail
  go_loopw [5] (fun i wr => ∃ k : Nat, k ≤ l.length ∧ i = .int .i64 k ∧ Below w.heap.size w wr) (fun i _ => l.length - (intOf i).toNat)
  case atStart => exact ⟨0, Nat.zero_le _, rfl, Below.refl _ _⟩
  case round =>
    obtain ⟨k, hk, rfl, hB⟩ := hrel
    by_cases hlt : k < l.length
    · have HE := hide (fun W u v (hu : RdPl W u l[k]) (hv : RdPl W v l[k]) => eqPl_same W u v l[k] hu hv)
      obtain ⟨k1, c1, n1, d1, t1, f1, a1, g1, e0, e1, e2, e3, e4, e5, e6, e7, e8, hr⟩ := plc_at hB g4 (g5 k hlt)
      obtain ⟨k2, c2, n2, d2, t2, f2, a2, g2, i0, i1, i2, i3, i4, i5, i6, i7, i8, hr'⟩ := plc_at hB f4 (f5 k hlt)
      have hlt' : (k : Int) < (l.length : Int) := by omega
      have hk0 : (0 : Int) ≤ (k : Int) := by omega
      have HR := hide hr
      have HR' := hide hr'
      unfold plVal at HR HR'
      generalize l[k] = p at *
      generalize p.key.length = nK at *
      generalize p.name.length = nN at *
      generalize p.text.length = nT at *
      generalize p.attrs.length = nA at *
      clear g5 f5 hr hr' hnil
      go_wp2_with fail
      go_region_held3 (fun w' => w'.cell? ⟨b, off + k * 9, none⟩ = some (.int .i64 p.idN) ∧ w'.cell? ⟨b, off + k * 9 + 1, none⟩ = some (.int .i64 p.idR) ∧ w'.cell? ⟨b, off + k * 9 + 2, none⟩ = some (.int .i64 p.parN) ∧ w'.cell? ⟨b, off + k * 9 + 3, none⟩ = some (.int .i64 p.parR) ∧ w'.cell? ⟨b, off + k * 9 + 4, none⟩ = some (.slice k1 nK c1) ∧ w'.cell? ⟨b, off + k * 9 + 5, none⟩ = some (.int .i64 p.kind) ∧ w'.cell? ⟨b, off + k * 9 + 6, none⟩ = some (.slice n1 nN d1) ∧ w'.cell? ⟨b, off + k * 9 + 7, none⟩ = some (.slice t1 nT f1) ∧ w'.cell? ⟨b, off + k * 9 + 8, none⟩ = some (.slice a1 nA g1) ∧ w'.cell? ⟨b', off' + k * 9, none⟩ = some (.int .i64 p.idN) ∧ w'.cell? ⟨b', off' + k * 9 + 1, none⟩ = some (.int .i64 p.idR) ∧ w'.cell? ⟨b', off' + k * 9 + 2, none⟩ = some (.int .i64 p.parN) ∧ w'.cell? ⟨b', off' + k * 9 + 3, none⟩ = some (.int .i64 p.parR) ∧ w'.cell? ⟨b', off' + k * 9 + 4, none⟩ = some (.slice k2 nK c2) ∧ w'.cell? ⟨b', off' + k * 9 + 5, none⟩ = some (.int .i64 p.kind) ∧ w'.cell? ⟨b', off' + k * 9 + 6, none⟩ = some (.slice n2 nN d2) ∧ w'.cell? ⟨b', off' + k * 9 + 7, none⟩ = some (.slice t2 nT f2) ∧ w'.cell? ⟨b', off' + k * 9 + 8, none⟩ = some (.slice a2 nA g2))
        (first | exact ⟨by assumption, by assumption, by assumption, by assumption, by assumption, by assumption, by assumption, by assumption, by assumption, by assumption, by assumption, by assumption, by assumption, by assumption, by assumption, by assumption, by assumption, by assumption⟩ | simp [*])
        ((go_at_call 65; refine (unhide HE _ _ _ ((unhide HR).keep ((Below.refl _ _).drew)) ((unhide HR').keep ((Below.refl _ _).drew))).mono ?_; rintro e w2 ⟨rfl, hB2⟩; have s0 := cell_later hB2 e0; have s1 := cell_later hB2 e1; have s2 := cell_later hB2 e2; have s3 := cell_later hB2 e3; have s4 := cell_later hB2 e4; have s5 := cell_later hB2 e5; have s6 := cell_later hB2 e6; have s7 := cell_later hB2 e7; have s8 := cell_later hB2 e8; have r0 := cell_later hB2 i0; have r1 := cell_later hB2 i1; have r2 := cell_later hB2 i2; have r3 := cell_later hB2 i3; have r4 := cell_later hB2 i4; have r5 := cell_later hB2 i5; have r6 := cell_later hB2 i6; have r7 := cell_later hB2 i7; have r8 := cell_later hB2 i8))
      have hB3 := hB.trans ((Below.drew (Below.refl wr.heap.size wr)).trans hB2 |>.mono hB.size)
      clear e0 e1 e2 e3 e4 e5 e6 e7 e8 i0 i1 i2 i3 i4 i5 i6 i7 i8 s0 s1 s2 s3 s4 s5 s6 s7 s8 r0 r1 r2 r3 r4 r5 r6 r7 r8 hB2 HR HR'
      go_wp2_with fail
      go_roundw
      case rel => exact ⟨k + 1, by omega, by go_num, hB3⟩
      case measure => simp [intOf]; omega
    · clear g5 f5
      go_wp2_with fail
      go_ret
      exact ⟨rfl, hB⟩
set_option maxHeartbeats 3200000 in
theorem eqSt_same (w : World) (u v : Value) (l : List PlV) (hu : RdPls w u l) (hv : RdPls w v l) :
    Calls Tryz.prog 10 #[.agg #[u], .agg #[v]] w fun e w' => e = .returned (.bool true) ∧ Below w.heap.size w w' := by
  have hA : Below w.heap.size w ((w.alloc (.cells #[u] 32)).alloc (.cells #[v] 32)) := ((Below.refl _ _).alloc (Nat.le_refl _) _).alloc (by simp) _
  have HE := hide (eqPls_same _ u v l (hu.keep hA) (hv.keep hA))
  obtain ⟨a, c, rfl, _, _⟩ := Elems.shape hu
  obtain ⟨a', c', rfl, _, _⟩ := Elems.shape hv
  clear hu hv
  go_enter Tryz.func10, Tryz.ntmps10
  go_wp2_with fail
  refine (unhide HE).mono ?_
  rintro e w1 ⟨rfl, hB⟩
  have hB' := bstep hA hB
  go_wp2_with fail
  go_ret
  exact ⟨rfl, hB'⟩
end Go.Proofs.YtnfafchajjclaaaGreatDoor

/- The laws' own copy of a tree, whole: by induction on its depth. -/
namespace Go.Proofs.YtnfafchajjclaaaGreatDoor
open Go.RowKit
set_option linter.unusedVariables false

/-- What toNode does to a node of depth below n. -/
def ToNodeSaid (n : Nat) : Prop := ∀ (w : World) (a b c d e : Value) (t : Tr n), RdNode n w [a, b, c, d, e] t → szT n t ≤ 2097152 →
    Calls Tryz.prog 7 #[.agg #[a, b, c, d, e]] w fun e w' => ∃ (kd : Int) (a1 : Option Addr) (n1 c1 : Nat) (a2 : Option Addr) (n2 c2 : Nat) (a3 : Option Addr) (n3 c3 : Nat) (a4 : Option Addr) (n4 c4 : Nat),
      e = .returned (.agg #[.int .i64 kd, .slice a1 n1 c1, .slice a2 n2 c2, .slice a3 n3 c3, .slice a4 n4 c4]) ∧ ∃ F, OwNode n w' [.int .i64 kd, .slice a1 n1 c1, .slice a2 n2 c2, .slice a3 n3 c3, .slice a4 n4 c4] t F ∧ F.Nodup ∧ Rng F w.heap.size w'.heap.size ∧ Below w.heap.size w w'

set_option maxHeartbeats 3200000 in
theorem toNodeS_any (n : Nat) (H : ToNodeSaid n) (w : World) (v : Value) (l : List (Tr n)) (h : RdKids n w v l) (hs : szK n l ≤ 2097152) :
    Calls Tryz.prog 28 #[v] w fun e w' => ∃ a c, e = .returned (.slice a l.length c) ∧ ∃ F, OwKids n w' (.slice a l.length c) l F ∧ F.Nodup ∧ Rng F w.heap.size w'.heap.size ∧ Below w.heap.size w w' := by
  obtain ⟨i0, hi, hz0, hz1, hz2⟩ := info_parts Tryz.info38
  have hm := h.1
  have hlen : l.length ≤ 2097152 := by unfold szK at hs; omega
  by_cases h0 : l = []
  · obtain ⟨a, cap, rfl, _⟩ := Elems.shape h
    subst h0
    go_enter Tryz.func28, Tryz.ntmps28
    go_wp2_with (at_make; refine wpList_make_full _ rfl _ _ 36 rfl w.heap.size 38 i0 _ 5 Tryz.underlying36 hi hz0 hz1 .i64 .i64 _ _ 0 rfl rfl rfl rfl ?c1 ?c2 ?c3 ?_)
    case c1 => rw [hz2]; omega
    case c2 => exact Nat.zero_le _
    case c3 => exact Nat.le_refl _
    intro w1 hown hgrow
    have hB1 := Below.ofGrown hgrow
    have hH := (Half.start (α := Tr n) (l := []) (R := OwNode n w1) (w.heap.size + 1) (ownsRow_base hown 0 (Nat.zero_le _))).whole rfl (by omega)
    have HH := hide hH
    clear hown hgrow hH
    go_wp2_with fail
    refine wp_loop_rounds 1 ?_
    rw [rounds_succ]
    go_wp2_with fail
    go_ret
    obtain ⟨F, hF, hnd, hr⟩ := unhide HH
    exact ⟨_, _, rfl, F, hF, hnd, hr, hB1⟩
  obtain ⟨_, ⟨_, e⟩ | ⟨_, _, _, _, e⟩ | ⟨b, off, cap, rfl, g1, g2, g3, g4, g5⟩⟩ := h
  · exact absurd e h0
  · exact absurd e h0
  go_enter Tryz.func28, Tryz.ntmps28
  go_wp2_with (at_make; refine wpList_make_full _ rfl _ _ 36 rfl w.heap.size 38 i0 _ 5 Tryz.underlying36 hi hz0 hz1 .i64 .i64 _ _ l.length rfl rfl rfl rfl ?c1 ?c2 ?c3 ?_)
  case c1 => rw [hz2]; omega
  case c2 => exact hm
  case c3 => exact Nat.le_refl _
  intro w1 hown hgrow
  have hB1 := Below.ofGrown hgrow
  have hH := Half.start (α := Tr n) (l := l) (R := OwNode n w1) (w.heap.size + 1) (ownsRow_base hown 0 (Nat.zero_le _))
  have hlt1 := (hown.lt w.heap.size rfl).2
  clear hown hgrow
  go_wp2_with fail
  go_loopw [4] (fun i wr => ∃ k : Nat, k ≤ l.length ∧ i = .int .i64 k ∧ Half wr 38 5 w.heap.size l.length l (OwNode n wr) (w.heap.size + 1) k ∧ Below w.heap.size w wr ∧ w.heap.size + 1 ≤ wr.heap.size) (fun i _ => l.length - (intOf i).toNat)
  case atStart => exact ⟨0, Nat.zero_le _, rfl, hH, hB1, by omega⟩
  case round =>
    obtain ⟨k, hk, rfl, hr, hB, hsz⟩ := hrel
    clear hH hB1 hlt1
    by_cases hlt : k < l.length
    · obtain ⟨c0, c1, c2, c3, c4, e0, e1, e2, e3, e4, hc⟩ := five_of (g5 k hlt)
      replace e0 := (hB.cell (p := ⟨b, off + k * 5, none⟩) g4).trans e0
      replace e1 := (hB.cell (p := ⟨b, off + k * 5 + 1, none⟩) g4).trans e1
      replace e2 := (hB.cell (p := ⟨b, off + k * 5 + 2, none⟩) g4).trans e2
      replace e3 := (hB.cell (p := ⟨b, off + k * 5 + 3, none⟩) g4).trans e3
      replace e4 := (hB.cell (p := ⟨b, off + k * 5 + 4, none⟩) g4).trans e4
      have hlt' : (k : Int) < (l.length : Int) := by omega
      clear g5
      go_wp2_with fail
      refine (H wr _ _ _ _ _ l[k] (hc.keep hB) (by have := szK_one hlt; omega)).mono ?_
      rintro e w2 ⟨kd, a1, n1, k1, a2, n2, k2, a3, n3, k3, a4, n4, k4, rfl, G, hO, hnd, hrg, hB2⟩
      have hrow : ∃ xs : List Value, w2.ownsRow 0 38 5 (.slice (some ⟨w.heap.size, 0, none⟩) l.length l.length) l.length xs := by
        obtain ⟨_, _, xs, _, _, _, h4, _⟩ := hr.laid
        exact ⟨xs, ownsRow_frm h4 (Frm.ofBelow hB2 []) (fun _ _ => by simp)⟩
      obtain ⟨xs, hx⟩ := hrow
      have hxl := hx.1
      have hcell : ∀ j, j < 5 → ∃ y, w2.cell? ⟨w.heap.size, k * 5 + j, none⟩ = some y := fun j hj => ⟨xs[k * 5 + j]'(by omega), by rw [hx.cellAt (k * 5 + j) (by omega), List.getElem?_eq_getElem (by omega)]⟩
      obtain ⟨y0, q0⟩ := hcell 0 (by omega)
      obtain ⟨y1, q1⟩ := hcell 1 (by omega)
      obtain ⟨y2, q2⟩ := hcell 2 (by omega)
      obtain ⟨y3, q3⟩ := hcell 3 (by omega)
      obtain ⟨y4, q4⟩ := hcell 4 (by omega)
      rw [Nat.add_zero] at q0
      have f0 := hx.frozenAt (k * 5)
      have f1 := hx.frozenAt (k * 5 + 1)
      have f2 := hx.frozenAt (k * 5 + 2)
      have f3 := hx.frozenAt (k * 5 + 3)
      have f4 := hx.frozenAt (k * 5 + 4)
      obtain ⟨W, hW⟩ : ∃ W, W = ((((w2.setCell ⟨w.heap.size, k * 5, none⟩ (.int .i64 kd)).setCell ⟨w.heap.size, k * 5 + 1, none⟩ (.slice a1 n1 k1)).setCell ⟨w.heap.size, k * 5 + 2, none⟩ (.slice a2 n2 k2)).setCell ⟨w.heap.size, k * 5 + 3, none⟩ (.slice a3 n3 k3)).setCell ⟨w.heap.size, k * 5 + 4, none⟩ (.slice a4 n4 k4) := ⟨_, rfl⟩
      have hf : Frm w2 W [w.heap.size] := by rw [hW]; exact ((((set_frm w2 _ _ _).trans (set_frm _ _ _ _)).trans (set_frm _ _ _ _)).trans (set_frm _ _ _ _)).trans (set_frm _ _ _ _)
      have hstep : Half W 38 5 w.heap.size l.length l (OwNode n W) (w.heap.size + 1) (k + 1) := by
        refine hr.step hlt (by omega) hsz hB2 [.int .i64 kd, .slice a1 n1 k1, .slice a2 n2 k2, .slice a3 n3 k3, .slice a4 n4 k4] G rfl ?_ hnd hrg ?_ hf ?_
        · exact hO.frm hf (fun g hg => by have := hrg g hg; simp; omega)
        · intro C x G' hx' hne
          exact OwNode.frm hx' ((Frm.ofBelow hB2 [w.heap.size]).trans hf) (fun g hg => by have := hne g hg; simp; omega)
        · intro zs hz
          have hzl := hz.1
          have t1 := (hz.stored (k * 5) (.int .i64 kd)).1
          have t2 := (t1.stored (k * 5 + 1) (.slice a1 n1 k1)).1
          have t3 := (t2.stored (k * 5 + 2) (.slice a2 n2 k2)).1
          have t4 := (t3.stored (k * 5 + 3) (.slice a3 n3 k3)).1
          have t5 := (t4.stored (k * 5 + 4) (.slice a4 n4 k4)).1
          rw [hW]
          exact ⟨_, t5, take_five zs (k * 5) _ _ _ _ _ (by omega)⟩
      have HB0 := hB.trans ((hB2.mono hB.size).trans (hf.below (by have := hB2.size; have := hB.size; omega) (fun g hg => by simp at hg; omega)))
      have hs2 : w.heap.size + 1 ≤ W.heap.size := by have := hf.size; have := hB2.size; omega
      subst hW
      have HS := hide hstep
      have HB := hide HB0
      have HS2 := hide hs2
      clear hstep hf hx hO hr hB2 hB HB0 hs2 e0 e1 e2 e3 e4 hc hrg hnd hcell
      go_wp2_with fail
      go_roundw
      case rel => exact ⟨k + 1, by omega, by go_num, unhide HS, unhide HB, unhide HS2⟩
      case measure => simp [intOf]; omega
    · have e : k = l.length := by omega
      subst e
      have HW := hide (hr.whole rfl (by omega))
      clear hr g5
      go_wp2_with fail
      go_ret
      obtain ⟨F, hF, hnd, hrg⟩ := unhide HW
      exact ⟨_, _, rfl, F, hF, hnd, hrg, hB⟩
end Go.Proofs.YtnfafchajjclaaaGreatDoor
