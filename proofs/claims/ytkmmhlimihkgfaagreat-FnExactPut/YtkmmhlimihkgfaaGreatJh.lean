/- Own texts joined: MarkZ, MarkOsM, MarkOs, EqOs, HeldOs, MarkO, SzOs, ToOs, LPut, OpenO, OpenP, OpenE, OpenQ. -/
import Derived.Test.YtkmmhlimihkgfaaGreatJa
import Derived.Test.YtkmmhlimihkgfaaGreatJb
import Derived.Test.YtkmmhlimihkgfaaGreatJc
import Derived.Test.YtkmmhlimihkgfaaGreatJd
import Derived.Test.YtkmmhlimihkgfaaGreatJe
import Derived.Test.YtkmmhlimihkgfaaGreatJf
import Derived.Test.YtkmmhlimihkgfaaGreatJg
import Derived.Test.YtkmmhlimihkgfaaGreatChecked
import Derived.Deep.RegionHeld3
import Derived.Test.YtkmmhlimihkgfaaGreatProg
import Derived.ChangeArms
import Derived.ChangeSlices
import Derived.WideShapes

/- The law's own helpers that write a count into a row of bytes and look for it again, by their contracts. -/
namespace Go.Proofs.YtkmmhlimihkgfaaGreat
open Go.RowKit
set_option linter.unusedVariables false

/-- n bytes that count on from k. -/
def markz (k : Int) (n : Nat) : List Int := (List.range n).map fun i : Nat => k + (i : Int)
theorem markz_len (k : Int) (n : Nat) : (markz k n).length = n := by simp [markz]
theorem markz_ok (k : Int) (n : Nat) (h0 : 0 ≤ k) (h1 : k + (n : Int) ≤ 9223372036854775807) : okZ (markz k n) := fun x hx => by
  obtain ⟨i, hi, rfl⟩ := List.mem_map.1 hx
  have := List.mem_range.1 hi
  omega
theorem markz_at (k : Int) (n i : Nat) (h : i < n) : (markz k n).getD i 0 = k + (i : Int) := by simp [markz, h]
theorem markz_step (k : Int) (l : List Int) (j : Nat) (h : j < l.length) : (valz (markz k j ++ l.drop j)).set j (.int .i64 (k + (j : Int))) = valz (markz k (j + 1) ++ l.drop (j + 1)) := by
  have e : markz k (j + 1) = markz k j ++ [k + (j : Int)] := by simp [markz, List.range_succ]
  have hl : (valz (markz k j)).length = j := by simp [valz, markz_len]
  rw [valz_app, List.set_append_right _ _ (by omega), hl, Nat.sub_self, e, List.drop_eq_getElem_cons h, valz_app, valz_app, List.append_assoc]
  rfl

theorem markZ_nil (w : World) (a : Option Addr) (cap : Nat) (k : Int) :
    Calls Tryz.prog 54 #[.slice a 0 cap, .int .i64 k] w fun e w' => e = .returned (.int .i64 k) ∧ w' = w := by
  go_enter Tryz.func54, Tryz.ntmps54
  go_wp2
  refine wp_loop_rounds 1 ?_
  rw [rounds_succ]
  go_wp2
  go_ret
  exact ⟨rfl, rfl⟩

set_option maxHeartbeats 1600000 in
set_option maxRecDepth 1000000 in
theorem markZ_row (w : World) (base g cap : Nat) (l : List Int) (k : Int) (hw : w.ownsRow base 3 1 (.slice (some ⟨g, 0, none⟩) l.length cap) l.length (valz l)) (hs : l.length ≤ 16777216) (h0 : 0 ≤ k) (h1 : k ≤ 1000000000) :
    Calls Tryz.prog 54 #[.slice (some ⟨g, 0, none⟩) l.length cap, .int .i64 k] w fun e w' => e = .returned (.int .i64 (k + l.length)) ∧
      w'.ownsRow base 3 1 (.slice (some ⟨g, 0, none⟩) l.length cap) l.length (valz (markz k l.length)) ∧ w.grownBy w' (some g) := by
  generalize hn : l.length = n at *
  have HN := hide hn
  clear hn
  go_enter Tryz.func54, Tryz.ntmps54
  go_wp2
  go_loopw [1, 5] (fun c i wr => ∃ j : Nat, j ≤ n ∧ i = .int .i64 j ∧ c = .int .i64 (k + (j : Int)) ∧ wr.ownsRow base 3 1 (.slice (some ⟨g, 0, none⟩) n cap) n (valz (markz k j ++ l.drop j)) ∧ w.grownBy wr (some g)) (fun _ i _ => n - (intOf i).toNat)
  case atStart => exact ⟨0, Nat.zero_le _, rfl, by simp, by simpa [markz] using hw, World.grownBy.refl _ _⟩
  case round =>
    obtain ⟨j, hj, rfl, rfl, hr, hg⟩ := hrel
    by_cases hlt : j < n
    · have hlen := unhide HN
      have hjl : j < l.length := by omega
      obtain ⟨y, hy⟩ : ∃ y, wr.cell? ⟨g, j, none⟩ = some (.int .i64 y) := ⟨(markz k j ++ l.drop j).getD j 0, by rw [hr.cellAt j (by omega), valz_at (by simp [markz_len]; omega)]⟩
      have hfr := hr.frozenAt j
      have hst := hr.stored j (.int .i64 (k + (j : Int)))
      rw [markz_step k l j hjl] at hst
      have HS := hide hst
      clear hst hr hlen
      have hlt' : (j : Int) < (n : Int) := by omega
      go_wp2
      have R := unhide HS
      go_roundw
      case rel => exact ⟨j + 1, by omega, by go_num, by go_num, R.1, grown_trans hg R.2⟩
      case measure => simp [intOf]; omega
    · have e : j = n := by omega
      subst e
      have hr' : wr.ownsRow base 3 1 (.slice (some ⟨g, 0, none⟩) j cap) j (valz (markz k j)) := by
        have := unhide HN
        rw [List.drop_of_length_le (by omega), List.append_nil] at hr
        exact hr
      clear hr
      go_wp2
      go_ret
      exact ⟨rfl, hr', hg⟩

theorem markZ_any (w : World) (base : Nat) (v : Value) (l : List Int) (k : Int) (h : OwnZ w base v l) (hs : l.length ≤ 16777216) (h0 : 0 ≤ k) (h1 : k ≤ 1000000000) :
    Calls Tryz.prog 54 #[v, .int .i64 k] w fun e w' => e = .returned (.int .i64 (k + l.length)) ∧ OwnZ w' base v (markz k l.length) ∧ w.grownBy w' v.ownBlock := by
  obtain ⟨hok, hlen, ⟨rfl, hz⟩ | ⟨g, cap, cur, rfl, hr⟩⟩ := h
  · have e : l = [] := List.eq_nil_of_length_eq_zero hz
    subst e
    refine (markZ_nil w none 0 k).mono ?_
    rintro e w' ⟨rfl, rfl⟩
    exact ⟨by simp, ⟨markz_ok _ _ h0 (by first | omega | (simp; omega)), World.ownsRow_nil _ _ _ _⟩, World.grownBy.refl _ _⟩
  · refine (markZ_row w base g cap l k ⟨hlen, .inr ⟨g, cap, cur, rfl, hr⟩⟩ hs h0 h1).mono ?_
    rintro e w' ⟨rfl, ho, hg⟩
    refine ⟨rfl, ⟨markz_ok _ _ h0 (by first | omega | (simp; omega)), ?_⟩, hg⟩
    rw [markz_len]
    exact ho

theorem heldZ_nil (w : World) (a : Option Addr) (cap : Nat) (k : Int) :
    Calls Tryz.prog 56 #[.slice a 0 cap, .int .i64 k] w fun e w' => e = .returned (.int .i64 k) ∧ w' = w := by
  go_enter Tryz.func56, Tryz.ntmps56
  go_wp2
  refine wp_loop_rounds 1 ?_
  rw [rounds_succ]
  go_wp2
  go_ret
  exact ⟨rfl, rfl⟩

set_option maxHeartbeats 1600000 in
set_option maxRecDepth 1000000 in
theorem heldZ_row (w : World) (b off cap n : Nat) (k : Int) (hc : ∀ i, i < n → w.cell? ⟨b, off + i, none⟩ = some (.int .i64 ((markz k n).getD i 0))) (hs : n ≤ 16777216) (h0 : 0 ≤ k) (h1 : k ≤ 1000000000) :
    Calls Tryz.prog 56 #[.slice (some ⟨b, off, none⟩) n cap, .int .i64 k] w fun e w' => e = .returned (.int .i64 (k + n)) ∧ w' = w := by
  go_enter Tryz.func56, Tryz.ntmps56
  go_wp2
  go_loop [1, 5] (fun c i => ∃ j : Nat, j ≤ n ∧ i = .int .i64 j ∧ c = .int .i64 (k + (j : Int))) (fun _ i => n - (intOf i).toNat)
  case atStart => exact ⟨0, Nat.zero_le _, rfl, by simp⟩
  case round =>
    obtain ⟨j, hj, rfl, rfl⟩ := hrel
    by_cases hlt : j < n
    · have c1 := hc j hlt
      rw [markz_at k n j hlt] at c1
      clear hc
      have hlt' : (j : Int) < (n : Int) := by omega
      go_wp2
      go_round
      case rel => exact ⟨j + 1, by omega, by go_num, by go_num⟩
      case measure => simp [intOf]; omega
    · have e : j = n := by omega
      subst e
      clear hc
      go_wp2
      go_ret
      exact ⟨rfl, rfl⟩

theorem heldZ_any (w : World) (v : Value) (n : Nat) (k : Int) (h : Ints w v (markz k n)) (hs : n ≤ 16777216) (h0 : 0 ≤ k) (h1 : k ≤ 1000000000) :
    Calls Tryz.prog 56 #[v, .int .i64 k] w fun e w' => e = .returned (.int .i64 (k + n)) ∧ w' = w := by
  obtain ⟨_, _, ⟨rfl, hn⟩ | ⟨x, cap, rfl, hc, hn⟩ | ⟨b, off, cap, rfl, _, _, _, _, h5⟩⟩ := h
  · have e : n = 0 := by have := congrArg List.length hn; rw [markz_len] at this; exact this
    subst e
    refine (heldZ_nil w none 0 k).mono ?_
    rintro e w' ⟨rfl, rfl⟩
    exact ⟨by simp, rfl⟩
  · have e : n = 0 := by have := congrArg List.length hn; rw [markz_len] at this; exact this
    subst e
    refine (heldZ_nil w (some x) cap k).mono ?_
    rintro e w' ⟨rfl, rfl⟩
    exact ⟨by simp, rfl⟩
  · rw [markz_len] at h5 ⊢
    exact heldZ_row w b off cap n k h5 hs h0 h1

end Go.Proofs.YtkmmhlimihkgfaaGreat

/- What laws.markOpS lays: plain mathematics. -/
namespace Go.Proofs.YtkmmhlimihkgfaaGreat
open Go.RowKit
set_option linter.unusedVariables false
set_option maxRecDepth 100000

/-- An operation with a count in it, from k on. -/
def mkO (o : OpV) (k : Int) : OpV where
  kind := k
  atN := k + 1
  atR := k + 1 + 1
  nodeN := k + 1 + 1 + 1
  nodeR := k + 1 + 1 + 1 + 1
  parN := k + 1 + 1 + 1 + 1 + 1
  parR := k + 1 + 1 + 1 + 1 + 1 + 1
  key := markz (k + 1 + 1 + 1 + 1 + 1 + 1 + 1) o.key.length
  elem := k + 1 + 1 + 1 + 1 + 1 + 1 + 1 + (o.key.length : Int)
  name := marks (k + 1 + 1 + 1 + 1 + 1 + 1 + 1 + (o.key.length : Int) + 1) o.name.length
  text := marks (k + 1 + 1 + 1 + 1 + 1 + 1 + 1 + (o.key.length : Int) + 1 + (o.name.length : Int)) o.text.length
  gone := ((k + 1 + 1 + 1 + 1 + 1 + 1 + 1 + (o.key.length : Int) + 1 + (o.name.length : Int) + (o.text.length : Int)) % 3 == 0)
def cntOs : List OpV → Nat
  | [] => 0
  | x :: r => 9 + szO x + cntOs r
def mkOs : List OpV → Int → List OpV
  | [], _ => []
  | x :: r, k => mkO x k :: mkOs r (k + ((9 + szO x : Nat) : Int))
theorem mkOs_len : ∀ (l : List OpV) (k : Int), (mkOs l k).length = l.length
  | [], _ => rfl
  | x :: r, k => by simp [mkOs, mkOs_len r]
theorem mkOs_app : ∀ (a b : List OpV) (k : Int), mkOs (a ++ b) k = mkOs a k ++ mkOs b (k + (cntOs a : Nat))
  | [], b, k => by simp [mkOs, cntOs]
  | x :: r, b, k => by
    simp only [List.cons_append, mkOs, mkOs_app r b, cntOs, List.cons.injEq, true_and]
    congr 2
    omega
theorem cntOs_app : ∀ (a b : List OpV), cntOs (a ++ b) = cntOs a + cntOs b
  | [], b => by simp [cntOs]
  | x :: r, b => by simp only [List.cons_append, cntOs, cntOs_app r b]; omega
theorem cntOs_take (l : List OpV) (j : Nat) (h : j < l.length) : cntOs (l.take (j + 1)) = cntOs (l.take j) + (9 + szO l[j]) := by
  rw [List.take_succ_eq_append_getElem h, cntOs_app]
  simp [cntOs]
theorem cntOs_le (l : List OpV) (j : Nat) : cntOs (l.take j) ≤ cntOs l := by
  have := cntOs_app (l.take j) (l.drop j)
  rw [List.take_append_drop] at this
  omega
theorem mkOs_at (l : List OpV) (k : Int) (j : Nat) (h : j < l.length) (h' : j < (mkOs l k).length) : (mkOs l k)[j] = mkO l[j] (k + (cntOs (l.take j) : Nat)) := by
  have e : mkOs l k = mkOs (l.take j) k ++ mkOs (l.drop j) (k + (cntOs (l.take j) : Nat)) := by rw [← mkOs_app, List.take_append_drop]
  have e2 : l.drop j = l[j] :: l.drop (j + 1) := List.drop_eq_getElem_cons h
  have hl : (mkOs (l.take j) k).length = j := by rw [mkOs_len]; simp; omega
  have : (mkOs l k)[j]? = some (mkO l[j] (k + (cntOs (l.take j) : Nat))) := by
    rw [e, List.getElem?_append_right (by omega), hl, Nat.sub_self, e2, mkOs]
    rfl
  rw [List.getElem?_eq_getElem h'] at this
  exact Option.some.inj this
end Go.Proofs.YtkmmhlimihkgfaaGreat

/- laws.markOpS, by its contract. -/
namespace Go.Proofs.YtkmmhlimihkgfaaGreat
open Go.RowKit
set_option linter.unusedVariables false
set_option maxRecDepth 100000

theorem OwOpC.len {w : World} {C : List Value} {o : OpV} {F : List Nat} (h : OwOpC w C o F) : C.length = 12 := by
  obtain ⟨k, n, t, rfl, _⟩ := h; rfl
theorem nodup3 {a b c : List Nat} (h : (a ++ b ++ c).Nodup) : (∀ g ∈ a, g ∉ b ∧ g ∉ c) ∧ (∀ g ∈ b, g ∉ c) := by
  have h1 := List.nodup_append.1 h
  have h2 := List.nodup_append.1 h1.1
  exact ⟨fun g ha => ⟨fun hb => h2.2.2 g ha g hb rfl, fun hc => h1.2.2 g (List.mem_append_left _ ha) g hc rfl⟩, fun g hb hc => h1.2.2 g (List.mem_append_right _ hb) g hc rfl⟩

set_option maxHeartbeats 20000000 in
theorem markOs_any (w : World) (v : Value) (l : List OpV) (F : List Nat) (k : Int) (h : OwOps w v l F) (hF : F.Nodup) (hs : cntOs l ≤ 16777216) (h0 : 0 ≤ k) (h1 : k ≤ 900000000) :
    Calls Tryz.prog 19 #[v, .int .i64 k] w fun e w' => e = .returned (.int .i64 (k + (cntOs l : Nat))) ∧ OwOps w' v (mkOs l k) F ∧ Frm w w' F := by
  have hml := OwElems.len h
  unfold maxLen at hml
  obtain ⟨Cs, Fs, hCl, hFl, hR, hrow, rfl⟩ := h
  have hFv := nodup_part hF
  have hFn := (List.nodup_append.1 hF).2.1
  by_cases hl0 : l = []
  · subst hl0
    obtain ⟨a, cap, rfl⟩ := own_nil_shape hrow
    have HW := hide (show OwOps w (.slice a ([] : List OpV).length cap) (mkOs [] k) _ from ⟨Cs, Fs, hCl, hFl, hR, hrow, rfl⟩)
    clear hrow hR
    go_enter Tryz.func19, Tryz.ntmps19
    go_wp2_with fail
    refine wp_loop_rounds 1 ?_
    rw [rounds_succ]
    go_wp2_with fail
    go_ret
    exact ⟨by simp [cntOs], unhide HW, Frm.refl _ _⟩
  have hv : ∃ g cap, v = .slice (some ⟨g, 0, none⟩) l.length cap := by
    rcases hrow.2 with ⟨_, h⟩ | ⟨g, cap, cur, rfl, _⟩
    · exact absurd (List.eq_nil_of_length_eq_zero h) hl0
    · exact ⟨g, cap, rfl⟩
  obtain ⟨g, cap, rfl⟩ := hv
  have hgF : ∀ i, g ∉ Fs.getD i [] := fun i hi => hFv g (by simp [FB, Value.ownBlock]) (mem_flat hi)
  have hFB : FB (.slice (some ⟨g, 0, none⟩) l.length cap) = [g] := rfl
  rw [hFB] at hF hFv ⊢
  have HR := hide hR
  have HROW := hide hrow
  have hm' : (l.length : Int) ≤ 9223372036854775807 := by omega
  clear hR hrow hFB
  go_enter Tryz.func19, Tryz.ntmps19
  go_wp2_with fail
  go_loopw [1, 5] (fun c i wr => ∃ j : Nat, j ≤ l.length ∧ i = .int .i64 j ∧ c = .int .i64 (k + (cntOs (l.take j) : Nat)) ∧ ∃ Ds : List (List Value), Ds.length = l.length ∧ wr.ownsRow 0 28 12 (.slice (some ⟨g, 0, none⟩) l.length cap) l.length Ds.flatten ∧
      (∀ i (hi : i < (mkOs l k).length), i < j → OwOpC wr (Ds.getD i []) (mkOs l k)[i] (Fs.getD i [])) ∧ (∀ i (hi : i < l.length), j ≤ i → OwOpC wr (Ds.getD i []) l[i] (Fs.getD i [])) ∧ Frm w wr ([g] ++ Fs.flatten)) (fun _ i _ => l.length - (intOf i).toNat)
  case atStart => exact ⟨0, Nat.zero_le _, rfl, by simp [cntOs], Cs, hCl, unhide HROW, fun i hi hj => by omega, fun i hi _ => (unhide HR i hi).2, Frm.refl _ _⟩
  case round =>
    obtain ⟨j, hj, rfl, rfl, Ds, hDl, hr, hdone, htodo, hf⟩ := hrel
    have hD : ∀ i, i < Ds.length → (Ds.getD i []).length = 12 := fun i hi => by
      by_cases hij : i < j
      · exact (hdone i (by rw [mkOs_len]; omega) hij).len
      · exact (htodo i (by omega) (by omega)).len
    by_cases hjl : j < l.length
    · obtain ⟨kv, nv, tv, hab, hk, hn, ht, hFj⟩ := htodo j hjl (Nat.le_refl _)
      have hct := cntOs_take l j hjl
      have hcl := cntOs_le l (j + 1)
      unfold szO at hct
      have hat := mkOs_at l k j hjl (by rw [mkOs_len]; exact hjl)
      obtain ⟨x, hx⟩ : ∃ x, x = l[j] := ⟨_, rfl⟩
      rw [← hx] at hk hn ht hct hat hab
      obtain ⟨q, hq⟩ : ∃ q : Int, q = k + (cntOs (l.take j) : Nat) := ⟨_, rfl⟩
      rw [← hq] at hat ⊢
      have hq0 : 0 ≤ q := by omega
      have hq1 : q ≤ 917000000 := by omega
      obtain ⟨pk, ck, rfl, _, _⟩ := hk.ints.shape
      obtain ⟨pn, cn, rfl, _, _⟩ := hn.byt.shape
      obtain ⟨pt, ct, rfl, _, _⟩ := ht.byt.shape
      have hFjn := nodup_at (i := j) hFn
      rw [hFj] at hFjn
      obtain ⟨na, nb'⟩ := nodup3 hFjn
      have R0 := RowJ.start hDl hD j hjl hr
      rw [hab] at R0
      have c0 := R0.cell 0 (by omega)
      have f0 := R0.frozen (j * 12)
      have c1 := R0.cell 1 (by omega)
      have f1 := R0.frozen (j * 12 + 1)
      have c2 := R0.cell 2 (by omega)
      have f2 := R0.frozen (j * 12 + 2)
      have c3 := R0.cell 3 (by omega)
      have f3 := R0.frozen (j * 12 + 3)
      have c4 := R0.cell 4 (by omega)
      have f4 := R0.frozen (j * 12 + 4)
      have c5 := R0.cell 5 (by omega)
      have f5 := R0.frozen (j * 12 + 5)
      have c6 := R0.cell 6 (by omega)
      have f6 := R0.frozen (j * 12 + 6)
      simp only [List.getElem?_cons_zero, List.getElem?_cons_succ, Nat.add_zero] at c0 c1 c2 c3 c4 c5 c6
      have R1 := (((((((R0.put 0 (by omega) (.int .i64 q)).put 1 (by omega) (.int .i64 (q + 1))).put 2 (by omega) (.int .i64 (q + 1 + 1))).put 3 (by omega) (.int .i64 (q + 1 + 1 + 1))).put 4 (by omega) (.int .i64 (q + 1 + 1 + 1 + 1))).put 5 (by omega) (.int .i64 (q + 1 + 1 + 1 + 1 + 1))).put 6 (by omega) (.int .i64 (q + 1 + 1 + 1 + 1 + 1 + 1)))
      simp only [Nat.add_zero, List.set_cons_zero, List.set_cons_succ] at R1
      have F1 : Frm wr (((((((wr.setCell ⟨g, j * 12, none⟩ (.int .i64 q)).setCell ⟨g, j * 12 + 1, none⟩ (.int .i64 (q + 1))).setCell ⟨g, j * 12 + 2, none⟩ (.int .i64 (q + 1 + 1))).setCell ⟨g, j * 12 + 3, none⟩ (.int .i64 (q + 1 + 1 + 1))).setCell ⟨g, j * 12 + 4, none⟩ (.int .i64 (q + 1 + 1 + 1 + 1))).setCell ⟨g, j * 12 + 5, none⟩ (.int .i64 (q + 1 + 1 + 1 + 1 + 1))).setCell ⟨g, j * 12 + 6, none⟩ (.int .i64 (q + 1 + 1 + 1 + 1 + 1 + 1))) [g] := (((((((set_frm wr g (j * 12) (.int .i64 q)).trans (set_frm _ g (j * 12 + 1) (.int .i64 (q + 1)))).trans (set_frm _ g (j * 12 + 2) (.int .i64 (q + 1 + 1)))).trans (set_frm _ g (j * 12 + 3) (.int .i64 (q + 1 + 1 + 1)))).trans (set_frm _ g (j * 12 + 4) (.int .i64 (q + 1 + 1 + 1 + 1)))).trans (set_frm _ g (j * 12 + 5) (.int .i64 (q + 1 + 1 + 1 + 1 + 1)))).trans (set_frm _ g (j * 12 + 6) (.int .i64 (q + 1 + 1 + 1 + 1 + 1 + 1))))
      have c7 := R1.cell 7 (by omega)
      simp only [List.getElem?_cons_zero, List.getElem?_cons_succ] at c7
      have HX := hide hx
      have HQ := hide hq
      have HT := hide hat
      have HCT := hide hct
      have HFJ := hide hFj
      have HDN := hide hdone
      have HTD := hide htodo
      have hx0 : x.key.length ≤ 16777216 := by omega
      have hx1 : x.name.length ≤ 16777216 := by omega
      have hx2 : x.text.length ≤ 16777216 := by omega
      have hjl' : (j : Int) < (l.length : Int) := by omega
      have hgn : g ∉ Fs.getD j [] := hgF j
      rw [unhide HFJ] at hgn
      simp only [List.mem_append, not_or] at hgn
      obtain ⟨⟨hgk, hgnn⟩, hgt⟩ := hgn
      have hk1 := hk.frm F1 (fun p hp hp' => by simp at hp'; subst hp'; exact hgk hp)
      have hn1 := hn.frm F1 (fun p hp hp' => by simp at hp'; subst hp'; exact hgnn hp)
      have ht1 := ht.frm F1 (fun p hp hp' => by simp at hp'; subst hp'; exact hgt hp)
      clear hx hq hat hct hFj hdone htodo hcl hr hab hk hn ht hFjn R0
      go_wp2_with fail
      generalize (((((((wr.setCell ⟨g, j * 12, none⟩ (.int .i64 q)).setCell ⟨g, j * 12 + 1, none⟩ (.int .i64 (q + 1))).setCell ⟨g, j * 12 + 2, none⟩ (.int .i64 (q + 1 + 1))).setCell ⟨g, j * 12 + 3, none⟩ (.int .i64 (q + 1 + 1 + 1))).setCell ⟨g, j * 12 + 4, none⟩ (.int .i64 (q + 1 + 1 + 1 + 1))).setCell ⟨g, j * 12 + 5, none⟩ (.int .i64 (q + 1 + 1 + 1 + 1 + 1))).setCell ⟨g, j * 12 + 6, none⟩ (.int .i64 (q + 1 + 1 + 1 + 1 + 1 + 1))) = w1 at *
      clear c0 c1 c2 c3 c4 c5 c6 f0 f1 f2 f3 f4 f5 f6 c7
      refine (markZ_any w1 0 _ x.key (q + 1 + 1 + 1 + 1 + 1 + 1 + 1) hk1 hx0 (by omega) (by omega)).mono ?_
      rintro e w2 ⟨rfl, hk2, hg2⟩
      have F2 := Frm.ofGrown hg2
      have R2 := R1.frm F2 hgk
      have hn2 := hn1.frm F2 (fun p hp hp' => (na p hp').1 hp)
      have ht2 := ht1.frm F2 (fun p hp hp' => (na p hp').2 hp)
      have c8 := R2.cell 8 (by omega)
      have f8 := R2.frozen (j * 12 + 8)
      have R3 := R2.put 8 (by omega) (.int .i64 (q + 1 + 1 + 1 + 1 + 1 + 1 + 1 + (x.key.length : Int)))
      have F3 := set_frm w2 g (j * 12 + 8) (.int .i64 (q + 1 + 1 + 1 + 1 + 1 + 1 + 1 + (x.key.length : Int)))
      have c9 := R3.cell 9 (by omega)
      simp only [List.set_cons_zero, List.set_cons_succ, List.getElem?_cons_zero, List.getElem?_cons_succ] at c8 c9 R3
      have hk3 := hk2.frm F3 (fun p hp hp' => by simp at hp'; subst hp'; exact hgk hp)
      have hn3 := hn2.frm F3 (fun p hp hp' => by simp at hp'; subst hp'; exact hgnn hp)
      have ht3 := ht2.frm F3 (fun p hp hp' => by simp at hp'; subst hp'; exact hgt hp)
      clear R1 R2 hk1 hn1 ht1 hk2 hn2 ht2 hg2
      go_wp2_with fail
      generalize (w2.setCell ⟨g, j * 12 + 8, none⟩ (.int .i64 (q + 1 + 1 + 1 + 1 + 1 + 1 + 1 + (x.key.length : Int)))) = w3 at *
      clear c8 f8 c9
      refine (markB_any w3 0 _ x.name (q + 1 + 1 + 1 + 1 + 1 + 1 + 1 + (x.key.length : Int) + 1) hn3 hx1 (by omega) (by omega)).mono ?_
      rintro e w4 ⟨rfl, hn4, hg4⟩
      have F4 := Frm.ofGrown hg4
      have R4 := R3.frm F4 hgnn
      have hk4 := hk3.frm F4 (fun p hp hp' => (na p hp).1 hp')
      have ht4 := ht3.frm F4 (fun p hp hp' => nb' p hp' hp)
      have c10 := R4.cell 10 (by omega)
      simp only [List.getElem?_cons_zero, List.getElem?_cons_succ] at c10
      clear R3 hk3 hn3 ht3 hg4
      go_wp2_with fail
      clear c10
      refine (markB_any w4 0 _ x.text (q + 1 + 1 + 1 + 1 + 1 + 1 + 1 + (x.key.length : Int) + 1 + (x.name.length : Int)) ht4 hx2 (by omega) (by omega)).mono ?_
      rintro e w5 ⟨rfl, ht5, hg5⟩
      have F5 := Frm.ofGrown hg5
      have R5 := R4.frm F5 hgt
      have hk5 := hk4.frm F5 (fun p hp hp' => (na p hp).2 hp')
      have hn5 := hn4.frm F5 (fun p hp hp' => nb' p hp hp')
      have c11 := R5.cell 11 (by omega)
      have f11 := R5.frozen (j * 12 + 11)
      have R6 := R5.put 11 (by omega) (.bool ((q + 1 + 1 + 1 + 1 + 1 + 1 + 1 + (x.key.length : Int) + 1 + (x.name.length : Int) + (x.text.length : Int)) % 3 == 0))
      have F6 := set_frm w5 g (j * 12 + 11) (.bool ((q + 1 + 1 + 1 + 1 + 1 + 1 + 1 + (x.key.length : Int) + 1 + (x.name.length : Int) + (x.text.length : Int)) % 3 == 0))
      simp only [List.set_cons_zero, List.set_cons_succ, List.getElem?_cons_zero, List.getElem?_cons_succ] at c11 R6
      have hk6 := hk5.frm F6 (fun p hp hp' => by simp at hp'; subst hp'; exact hgk hp)
      have hn6 := hn5.frm F6 (fun p hp hp' => by simp at hp'; subst hp'; exact hgnn hp)
      have ht6 := ht5.frm F6 (fun p hp hp' => by simp at hp'; subst hp'; exact hgt hp)
      have FJ : Frm wr (w5.setCell ⟨g, j * 12 + 11, none⟩ (.bool ((q + 1 + 1 + 1 + 1 + 1 + 1 + 1 + (x.key.length : Int) + 1 + (x.name.length : Int) + (x.text.length : Int)) % 3 == 0))) ([g] ++ Fs.getD j []) := by
        have m0 : ∀ p, p ∈ [g] → p ∈ [g] ++ Fs.getD j [] := fun p hp => List.mem_append_left _ hp
        have m1 : ∀ p, p ∈ (Value.slice pk x.key.length ck).ownBlock.toList → p ∈ [g] ++ Fs.getD j [] := fun p hp => by rw [unhide HFJ]; simp [FB, hp]
        have m2 : ∀ p, p ∈ (Value.slice pn x.name.length cn).ownBlock.toList → p ∈ [g] ++ Fs.getD j [] := fun p hp => by rw [unhide HFJ]; simp [FB, hp]
        have m3 : ∀ p, p ∈ (Value.slice pt x.text.length ct).ownBlock.toList → p ∈ [g] ++ Fs.getD j [] := fun p hp => by rw [unhide HFJ]; simp [FB, hp]
        exact (((((F1.mono m0).trans (F2.mono m1)).trans (F3.mono m0)).trans (F4.mono m2)).trans (F5.mono m3)).trans (F6.mono m0)
      clear R4 R5 hk4 hn4 ht4 hk5 hn5 ht5 hg5 F1 F2 F3 F4 F5 F6
      go_wp2_with fail
      go_roundw
      case rel =>
        refine ⟨j + 1, by omega, by go_num, ?_, Ds.set j _, by rw [List.length_set]; exact hDl, R6.row, fun i hi hij => ?_, fun i hi hij => ?_, hf.trans (FJ.mono (fun p hp => ?_))⟩
        · rw [unhide HCT, unhide HQ]; go_num
        · by_cases e : i = j
          · subst e
            rw [unhide HT, getD_set_at _ _ _ (by omega)]
            exact ⟨_, _, _, by simp only [mkO], hk6, hn6, ht6, unhide HFJ⟩
          · rw [getD_set_ne _ _ _ _ e]
            exact (unhide HDN i hi (by omega)).frm FJ (fun p hp hp' => by
              rcases List.mem_append.1 hp' with h | h
              · simp at h; subst h; exact hgF i hp
              · exact nodup_flat hFn e p hp h)
        · rw [getD_set_ne _ _ _ _ (by omega)]
          exact (unhide HTD i hi (by omega)).frm FJ (fun p hp hp' => by
            rcases List.mem_append.1 hp' with h | h
            · simp at h; subst h; exact hgF i hp
            · exact nodup_flat hFn (by omega) p hp h)
        · rcases List.mem_append.1 hp with h | h
          · exact List.mem_append_left _ h
          · exact List.mem_append_right _ (mem_flat h)
      case measure => simp [intOf]; omega
    · have e : j = l.length := by omega
      subst e
      have HW := hide (show OwOps wr (.slice (some ⟨g, 0, none⟩) l.length cap) (mkOs l k) ([g] ++ Fs.flatten) from
        ⟨Ds, Fs, by rw [mkOs_len]; exact hDl, by rw [mkOs_len]; exact hFl, fun i hi => ⟨hD i (by rw [mkOs_len] at hi; omega), hdone i hi (by rw [mkOs_len] at hi; exact hi)⟩, by rw [mkOs_len]; exact hr, rfl⟩)
      clear hdone htodo hr hD
      go_wp2_with fail
      go_ret
      exact ⟨by first | rfl | (rw [List.take_length]; rfl), unhide HW, hf⟩
end Go.Proofs.YtkmmhlimihkgfaaGreat

/- Rows of the same operations are alike. -/
namespace Go.Proofs.YtkmmhlimihkgfaaGreat
open Go.RowKit
set_option linter.unusedVariables false
set_option maxRecDepth 100000

set_option maxHeartbeats 3200000 in
theorem eqOps_same (w : World) (u v : Value) (l : List OpV) (hu : RdOps w u l) (hv : RdOps w v l) :
    Calls Tryz.prog 17 #[u, v] w fun e w' => e = .returned (.bool true) ∧ Below w.heap.size w w' := by
  have hm := hu.1
  unfold maxLen at hm
  obtain ⟨rfl, a, cap, rfl⟩ | ⟨b, off, cap, rfl, hnil, g4, g5⟩ := hu.cases
  · obtain ⟨a', cap', rfl, _, _⟩ := Elems.shape hv
    go_enter Tryz.func17, Tryz.ntmps17
    go_wp2_with fail
    refine wp_loop_rounds 1 ?_
    rw [rounds_succ]
    go_wp2_with fail
    go_ret
    exact ⟨rfl, Below.refl _ _⟩
  obtain ⟨rfl, _⟩ | ⟨b', off', cap', rfl, _, f4, f5⟩ := hv.cases
  · exact absurd rfl hnil
  go_enter Tryz.func17, Tryz.ntmps17
  go_wp2_with fail
  go_loopw [5] (fun i wr => ∃ k : Nat, k ≤ l.length ∧ i = .int .i64 k ∧ Below w.heap.size w wr) (fun i _ => l.length - (intOf i).toNat)
  case atStart => exact ⟨0, Nat.zero_le _, rfl, Below.refl _ _⟩
  case round =>
    obtain ⟨k, hk, rfl, hB⟩ := hrel
    by_cases hlt : k < l.length
    · have HE := hide (fun W u v (hu : RdOp W u l[k]) (hv : RdOp W v l[k]) => eqOp_same W u v l[k] hu hv)
      obtain ⟨a1, c1, a2, c2, a3, c3, e0, e1, e2, e3, e4, e5, e6, e7, e8, e9, e10, e11, hr⟩ := opc_at hB g4 (g5 k hlt)
      obtain ⟨a1', c1', a2', c2', a3', c3', i0, i1, i2, i3, i4, i5, i6, i7, i8, i9, i10, i11, hr'⟩ := opc_at hB f4 (f5 k hlt)
      have hlt' : (k : Int) < (l.length : Int) := by omega
      have hk0 : (0 : Int) ≤ (k : Int) := by omega
      have HR := hide hr
      have HR' := hide hr'
      unfold opVal at HR HR'
      generalize l[k] = o at *
      generalize o.key.length = nK at *
      generalize o.name.length = nN at *
      generalize o.text.length = nT at *
      clear g5 f5 hr hr' hnil
      go_wp2_with fail
      go_region_held3 (fun w' => w'.cell? ⟨b, off + k * 12, none⟩ = some (.int .i64 o.kind) ∧ w'.cell? ⟨b, off + k * 12 + 1, none⟩ = some (.int .i64 o.atN) ∧ w'.cell? ⟨b, off + k * 12 + 2, none⟩ = some (.int .i64 o.atR) ∧ w'.cell? ⟨b, off + k * 12 + 3, none⟩ = some (.int .i64 o.nodeN) ∧ w'.cell? ⟨b, off + k * 12 + 4, none⟩ = some (.int .i64 o.nodeR) ∧ w'.cell? ⟨b, off + k * 12 + 5, none⟩ = some (.int .i64 o.parN) ∧ w'.cell? ⟨b, off + k * 12 + 6, none⟩ = some (.int .i64 o.parR) ∧ w'.cell? ⟨b, off + k * 12 + 7, none⟩ = some (.slice a1 nK c1) ∧ w'.cell? ⟨b, off + k * 12 + 8, none⟩ = some (.int .i64 o.elem) ∧ w'.cell? ⟨b, off + k * 12 + 9, none⟩ = some (.slice a2 nN c2) ∧ w'.cell? ⟨b, off + k * 12 + 10, none⟩ = some (.slice a3 nT c3) ∧ w'.cell? ⟨b, off + k * 12 + 11, none⟩ = some (.bool o.gone) ∧ w'.cell? ⟨b', off' + k * 12, none⟩ = some (.int .i64 o.kind) ∧ w'.cell? ⟨b', off' + k * 12 + 1, none⟩ = some (.int .i64 o.atN) ∧ w'.cell? ⟨b', off' + k * 12 + 2, none⟩ = some (.int .i64 o.atR) ∧ w'.cell? ⟨b', off' + k * 12 + 3, none⟩ = some (.int .i64 o.nodeN) ∧ w'.cell? ⟨b', off' + k * 12 + 4, none⟩ = some (.int .i64 o.nodeR) ∧ w'.cell? ⟨b', off' + k * 12 + 5, none⟩ = some (.int .i64 o.parN) ∧ w'.cell? ⟨b', off' + k * 12 + 6, none⟩ = some (.int .i64 o.parR) ∧ w'.cell? ⟨b', off' + k * 12 + 7, none⟩ = some (.slice a1' nK c1') ∧ w'.cell? ⟨b', off' + k * 12 + 8, none⟩ = some (.int .i64 o.elem) ∧ w'.cell? ⟨b', off' + k * 12 + 9, none⟩ = some (.slice a2' nN c2') ∧ w'.cell? ⟨b', off' + k * 12 + 10, none⟩ = some (.slice a3' nT c3') ∧ w'.cell? ⟨b', off' + k * 12 + 11, none⟩ = some (.bool o.gone)) (first | exact ⟨by assumption, by assumption, by assumption, by assumption, by assumption, by assumption, by assumption, by assumption, by assumption, by assumption, by assumption, by assumption, by assumption, by assumption, by assumption, by assumption, by assumption, by assumption, by assumption, by assumption, by assumption, by assumption, by assumption, by assumption⟩ | simp [*])
        ((go_at_call 18; refine (unhide HE _ _ _ ((unhide HR).keep ((Below.refl _ _).drew)) ((unhide HR').keep ((Below.refl _ _).drew))).mono ?_; rintro e w2 ⟨rfl, hB2⟩; have s0 := cell_later hB2 e0; have s1 := cell_later hB2 e1; have s2 := cell_later hB2 e2; have s3 := cell_later hB2 e3; have s4 := cell_later hB2 e4; have s5 := cell_later hB2 e5; have s6 := cell_later hB2 e6; have s7 := cell_later hB2 e7; have s8 := cell_later hB2 e8; have s9 := cell_later hB2 e9; have s10 := cell_later hB2 e10; have s11 := cell_later hB2 e11; have r0 := cell_later hB2 i0; have r1 := cell_later hB2 i1; have r2 := cell_later hB2 i2; have r3 := cell_later hB2 i3; have r4 := cell_later hB2 i4; have r5 := cell_later hB2 i5; have r6 := cell_later hB2 i6; have r7 := cell_later hB2 i7; have r8 := cell_later hB2 i8; have r9 := cell_later hB2 i9; have r10 := cell_later hB2 i10; have r11 := cell_later hB2 i11))
      have hB3 := hB.trans ((Below.drew (Below.refl wr.heap.size wr)).trans hB2 |>.mono hB.size)
      clear e0 e1 e2 e3 e4 e5 e6 e7 e8 e9 e10 e11 i0 i1 i2 i3 i4 i5 i6 i7 i8 i9 i10 i11 s0 s1 s2 s3 s4 s5 s6 s7 s8 s9 s10 s11 r0 r1 r2 r3 r4 r5 r6 r7 r8 r9 r10 r11 hB2 HR HR'
      go_wp2_with fail
      go_roundw
      case rel => exact ⟨k + 1, by omega, by go_num, hB3⟩
      case measure => simp [intOf]; omega
    · clear g5 f5
      go_wp2_with fail
      go_ret
      exact ⟨rfl, hB⟩
end Go.Proofs.YtkmmhlimihkgfaaGreat

/- laws.heldOpS, by its contract. -/
namespace Go.Proofs.YtkmmhlimihkgfaaGreat
open Go.RowKit
set_option linter.unusedVariables false
set_option maxRecDepth 100000

set_option maxHeartbeats 20000000 in
theorem heldOs_any (w : World) (v : Value) (l : List OpV) (k : Int) (h : RdOps w v (mkOs l k)) (hs : cntOs l ≤ 16777216) (h0 : 0 ≤ k) (h1 : k ≤ 900000000) :
    Calls Tryz.prog 21 #[v, .int .i64 k] w fun e w' => e = .returned (.int .i64 (k + (cntOs l : Nat))) ∧ w' = w := by
  have hml := h.1
  rw [mkOs_len] at hml
  unfold maxLen at hml
  have hm' : (l.length : Int) ≤ 9223372036854775807 := by omega
  obtain ⟨hnil, a, cap, rfl⟩ | ⟨b, off, cap, rfl, hnil, g4, g5⟩ := h.cases
  · have e := congrArg List.length hnil
    rw [mkOs_len] at e
    have e' := List.eq_nil_of_length_eq_zero e
    subst e'
    go_enter Tryz.func21, Tryz.ntmps21
    go_wp2_with fail
    refine wp_loop_rounds 1 ?_
    rw [rounds_succ]
    go_wp2_with fail
    go_ret
    exact ⟨by simp [cntOs], rfl⟩
  rw [mkOs_len]
  clear hnil h
  go_enter Tryz.func21, Tryz.ntmps21
  go_wp2_with fail
  go_loop [1, 5] (fun c i => ∃ j : Nat, j ≤ l.length ∧ i = .int .i64 j ∧ c = .int .i64 (k + (cntOs (l.take j) : Nat))) (fun _ i => l.length - (intOf i).toNat)
  case atStart => exact ⟨0, Nat.zero_le _, rfl, by simp [cntOs]⟩
  case round =>
    obtain ⟨j, hj, rfl, rfl⟩ := hrel
    by_cases hjl : j < l.length
    · have hat := mkOs_at l k j hjl (by rw [mkOs_len]; exact hjl)
      obtain ⟨C, hC, hc, hr⟩ := g5 j (by rw [mkOs_len]; exact hjl)
      rw [hat] at hr
      obtain ⟨q, hq⟩ : ∃ q : Int, q = k + (cntOs (l.take j) : Nat) := ⟨_, rfl⟩
      rw [← hq] at hr ⊢
      unfold mkO at hr
      obtain ⟨kv, nv, tv, rfl, hb0, hb1, hb2⟩ := hr
      have e0 := hc 0 (by omega)
      have e1 := hc 1 (by omega)
      have e2 := hc 2 (by omega)
      have e3 := hc 3 (by omega)
      have e4 := hc 4 (by omega)
      have e5 := hc 5 (by omega)
      have e6 := hc 6 (by omega)
      have e7 := hc 7 (by omega)
      have e8 := hc 8 (by omega)
      have e9 := hc 9 (by omega)
      have e10 := hc 10 (by omega)
      have e11 := hc 11 (by omega)
      simp only [List.getElem?_cons_zero, List.getElem?_cons_succ, Nat.add_zero] at e0 e1 e2 e3 e4 e5 e6 e7 e8 e9 e10 e11
      have hct := cntOs_take l j hjl
      have hcl := cntOs_le l (j + 1)
      unfold szO at hct
      simp only at hb0 hb1 hb2
      obtain ⟨p0, k0, rfl, _, _⟩ := hb0.shape
      obtain ⟨p1, k1, rfl, _, _⟩ := hb1.shape
      obtain ⟨p2, k2, rfl, _, _⟩ := hb2.shape
      rw [markz_len] at e7 hb0
      rw [marks_len] at e9 e10 hb1 hb2
      clear hC hat g5 hc
      generalize l[j].key.length = nK at *
      generalize l[j].name.length = nN at *
      generalize l[j].text.length = nT at *
      have hq0 : 0 ≤ q := by omega
      have hq1 : q ≤ 917000000 := by omega
      have hn1 : nK ≤ 16777216 := by omega
      have hn2 : nN ≤ 16777216 := by omega
      have hn3 : nT ≤ 16777216 := by omega
      have HQ := hide hq
      have HCT := hide hct
      have hjl' : (j : Int) < (l.length : Int) := by omega
      have d1 : decide (q + 1 + 1 + 1 + 1 + 1 + 1 + 1 + (nK : Int) < 0) = false := by simp; omega
      have d2 : decide (q + 1 + 1 + 1 + 1 + 1 + 1 + 1 + (nK : Int) + 1 + (nN : Int) < 0) = false := by simp; omega
      have d3 : decide (q + 1 + 1 + 1 + 1 + 1 + 1 + 1 + (nK : Int) + 1 + (nN : Int) + (nT : Int) < 0) = false := by simp; omega
      have H0 := hide (heldZ_any w _ nK (q + 1 + 1 + 1 + 1 + 1 + 1 + 1) hb0 (by omega) (by omega) (by omega))
      have H1 := hide (heldB_any w _ nN (q + 1 + 1 + 1 + 1 + 1 + 1 + 1 + (nK : Int) + 1) hb1 (by omega) (by omega) (by omega))
      have H2 := hide (heldB_any w _ nT (q + 1 + 1 + 1 + 1 + 1 + 1 + 1 + (nK : Int) + 1 + (nN : Int)) hb2 (by omega) (by omega) (by omega))
      clear hq hct hcl hb0 hb1 hb2
      go_wp2_with fail
      refine (unhide H0).mono ?_
      rintro e w ⟨rfl, rfl⟩
      go_wp2_with fail
      refine (unhide H1).mono ?_
      rintro e w ⟨rfl, rfl⟩
      go_wp2_with fail
      refine (unhide H2).mono ?_
      rintro e w ⟨rfl, rfl⟩
      go_wp2_with fail
      all_goals try (exfalso; rename_i hz; simp at hz; done)
      go_round
      case rel => exact ⟨j + 1, by omega, by go_num, by rw [unhide HCT, unhide HQ]; go_num⟩
      case measure => simp [intOf]; omega
    · have e : j = l.length := by omega
      subst e
      clear g5
      go_wp2_with fail
      go_ret
      exact ⟨by simp, rfl⟩
end Go.Proofs.YtkmmhlimihkgfaaGreat

/- laws.markOp, by its contract. -/
namespace Go.Proofs.YtkmmhlimihkgfaaGreat
open Go.RowKit
set_option linter.unusedVariables false
set_option maxRecDepth 100000

theorem Frm.app {a b c : World} {S T : List Nat} (h : Frm a b S) (k : Frm b c T) : Frm a c (S ++ T) := (h.mono fun g hg => List.mem_append_left _ hg).trans (k.mono fun g hg => List.mem_append_right _ hg)
theorem Loc.grown {w w' : World} {g : Nat} {cs : Array Value} {T : TypeId} {row : Option Nat} (h : Loc w g cs T) (hG : w.grownBy w' row) (hne : row ≠ some g) : Loc w' g cs T := by
  have hlt : g < w.heap.size := by
    by_cases hlt : g < w.heap.size
    · exact hlt
    · unfold Loc at h
      rw [Array.getElem?_eq_none (by omega)] at h
      cases h
  exact (hG.block g hlt (fun e => hne e.symm)).trans h
theorem fb_notin {v u : Value} {F : List Nat} (h : (FB v ++ FB u).Nodup) : ∀ g ∈ FB v, g ∉ FB u := fun g hg hu => (List.nodup_append.1 h).2.2 g hg g hu rfl

/-- What markOp lays. -/
def OwMk (w : World) (base : Nat) (k n t : Value) (a b c : Nat) (z : Int) : Prop := OwnZ w base k (markz z a) ∧ Own w base n (marks (z + a) b) ∧ Own w base t (marks (z + a + b) c)

set_option maxHeartbeats 6400000 in
theorem markOp_any (w : World) (base : Nat) (o : OpV) (a1 a2 a3 : Option Addr) (c1 c2 c3 : Nat) (z : Int)
    (h : OwOp w base o (.slice a1 o.key.length c1) (.slice a2 o.name.length c2) (.slice a3 o.text.length c3)) (hs : o.key.length + o.name.length + o.text.length ≤ 2097152) (h0 : 0 ≤ z) (h1 : z ≤ 900000000) :
    Calls Tryz.prog 20 #[opVal o (.slice a1 o.key.length c1) (.slice a2 o.name.length c2) (.slice a3 o.text.length c3), .int .i64 z] w fun e w' => e = .returned (.int .i64 (z + (o.key.length : Int) + (o.name.length : Int) + (o.text.length : Int))) ∧
      OwMk w' base (.slice a1 o.key.length c1) (.slice a2 o.name.length c2) (.slice a3 o.text.length c3) o.key.length o.name.length o.text.length z ∧ Frm w w' (FB (.slice a1 o.key.length c1) ++ FB (.slice a2 o.name.length c2) ++ FB (.slice a3 o.text.length c3)) := by
  obtain ⟨hk, hn, ht, hnd⟩ := h
  have hA0 := (Below.refl w.heap.size w).alloc (Nat.le_refl _) (.cells #[.int .i64 o.kind, .int .i64 o.atN, .int .i64 o.atR, .int .i64 o.nodeN, .int .i64 o.nodeR, .int .i64 o.parN, .int .i64 o.parR, .slice a1 o.key.length c1, .int .i64 o.elem, .slice a2 o.name.length c2, .slice a3 o.text.length c3, .bool o.gone] 28)
  have l0 := Loc.made w #[.int .i64 o.kind, .int .i64 o.atN, .int .i64 o.atR, .int .i64 o.nodeN, .int .i64 o.nodeR, .int .i64 o.parN, .int .i64 o.parR, .slice a1 o.key.length c1, .int .i64 o.elem, .slice a2 o.name.length c2, .slice a3 o.text.length c3, .bool o.gone] 28
  unfold opVal
  go_enter Tryz.func20, Tryz.ntmps20
  go_wp2_with fail
  have nd := List.nodup_append.1 hnd
  have ndk : ∀ g ∈ FB (.slice a1 o.key.length c1), g ∉ FB (.slice a2 o.name.length c2) ∧ g ∉ FB (.slice a3 o.text.length c3) := fun g hg => ⟨fun h => (List.nodup_append.1 nd.1).2.2 g hg g h rfl, fun h => nd.2.2 g (List.mem_append_left _ hg) g h rfl⟩
  have ndn : ∀ g ∈ FB (.slice a2 o.name.length c2), g ∉ FB (.slice a3 o.text.length c3) := fun g hg h => nd.2.2 g (List.mem_append_right _ hg) g h rfl
  have bk := hk.rng
  have bn := hn.rng
  have bt := ht.rng
  have fo : ∀ (v : Value) (g : Nat), v.ownBlock = some g → g ∈ FB v := fun v g h => by simp [FB, h]
  have fl : ∀ (v : Value), v.ownBlock.toList = FB v := fun v => rfl
  have hk0 := hk.keep hA0
  have hn0 := hn.keep hA0
  have ht0 := ht.keep hA0
  clear hk hn ht hnd nd
  generalize (w.alloc (.cells #[.int .i64 o.kind, .int .i64 o.atN, .int .i64 o.atR, .int .i64 o.nodeN, .int .i64 o.nodeR, .int .i64 o.parN, .int .i64 o.parR, .slice a1 o.key.length c1, .int .i64 o.elem, .slice a2 o.name.length c2, .slice a3 o.text.length c3, .bool o.gone] 28)) = w0 at *
  refine (markZ_any w0 base _ o.key z hk0 (by omega) h0 (by omega)).mono ?_
  rintro e w1 ⟨rfl, hk1, hG1⟩
  have f1 := Frm.ofGrown hG1
  rw [fl] at f1
  have l1 := l0.grown hG1 (fun e => by have := bk _ (fo _ _ e); omega)
  have hn1 := hn0.frm f1 (fun g hg h => (ndk g h).1 hg)
  have ht1 := ht0.frm f1 (fun g hg h => (ndk g h).2 hg)
  clear hG1 hn0 ht0 hk0 l0
  obtain ⟨x0, x1, x2, x3, x4, x5, x6, x7, x8, x9, x10, x11⟩ := l1.twelve
  go_wp2_with fail
  clear x0 x1 x2 x3 x4 x5 x6 x7 x8 x9 x10 x11
  refine (markB_any w1 base _ o.name (z + (o.key.length : Int)) hn1 (by omega) (by omega) (by omega)).mono ?_
  rintro e w2 ⟨rfl, hn2, hG2⟩
  have f2 := Frm.ofGrown hG2
  rw [fl] at f2
  have l2 := l1.grown hG2 (fun e => by have := bn _ (fo _ _ e); omega)
  have hk2 := hk1.frm f2 (fun g hg h => (ndk g hg).1 h)
  have ht2 := ht1.frm f2 (fun g hg h => ndn g h hg)
  clear hG2 hn1 ht1 hk1 l1
  obtain ⟨x0, x1, x2, x3, x4, x5, x6, x7, x8, x9, x10, x11⟩ := l2.twelve
  go_wp2_with fail
  clear x0 x1 x2 x3 x4 x5 x6 x7 x8 x9 x10 x11
  refine (markB_any w2 base _ o.text (z + (o.key.length : Int) + (o.name.length : Int)) ht2 (by omega) (by omega) (by omega)).mono ?_
  rintro e w3 ⟨rfl, ht3, hG3⟩
  have f3 := Frm.ofGrown hG3
  rw [fl] at f3
  have hk3 := hk2.frm f3 (fun g hg h => (ndk g hg).2 h)
  have hn3 := hn2.frm f3 (fun g hg h => ndn g hg h)
  have f := (((Frm.ofBelow hA0 []).app f1).app f2).app f3
  clear f1 f2 f3 hG3 ht2 hk2 hn2 l2
  go_wp2_with fail
  go_ret
  exact ⟨rfl, ⟨hk3, hn3, ht3⟩, by simpa using f⟩

end Go.Proofs.YtkmmhlimihkgfaaGreat

/- The laws' own count of how great a row of operations is. -/
namespace Go.Proofs.YtkmmhlimihkgfaaGreat
open Go.RowKit
set_option linter.unusedVariables false
set_option maxRecDepth 100000

theorem ret_i64O {a b : Int} (h : a = b) : Ending.returned (.int .i64 a) = .returned (.int .i64 b) := by rw [h]

set_option maxHeartbeats 1600000 in
theorem szOps_any (w : World) (v : Value) (l : List OpV) (left : Int) (h : RdOps w v l) (h0 : 0 ≤ left) (h1 : left ≤ 1000000000) :
    Calls Tryz.prog 12 #[v, .int .i64 left] w fun e w' => e = .returned (.int .i64 (rest (szOs l) left)) ∧ Below w.heap.size w w' := by
  have hm := h.1
  unfold maxLen at hm
  by_cases h2 : (l.length : Int) ≤ left
  · have hd : ¬ left - (l.length : Int) < 0 := by omega
    obtain ⟨_, ⟨rfl, rfl⟩ | ⟨x, cap, rfl, hc, rfl⟩ | ⟨b, off, cap, rfl, g1, g2, g3, g4, g5⟩⟩ := h
    · go_enter Tryz.func12, Tryz.ntmps12
      go_wp2_with fail
      refine wp_loop_rounds 1 ?_
      rw [rounds_succ]
      go_wp2_with fail
      go_ret
      exact ⟨ret_i64O (by rw [rest_in (by simpa [szOs] using h0)]; simp [szOs]), Below.refl _ _⟩
    · go_enter Tryz.func12, Tryz.ntmps12
      go_wp2_with fail
      refine wp_loop_rounds 1 ?_
      rw [rounds_succ]
      go_wp2_with fail
      go_ret
      exact ⟨ret_i64O (by rw [rest_in (by simpa [szOs] using h0)]; simp [szOs]), Below.refl _ _⟩
    · have HE := hide (rest_rest (b := (l.map szO).sum) h2)
      go_enter Tryz.func12, Tryz.ntmps12
      go_wp2_with fail
      go_loopw [1, 5] (fun q i wr => ∃ k : Nat, k ≤ l.length ∧ i = .int .i64 k ∧ ((sumO l k : Nat) : Int) ≤ left - (l.length : Int) ∧ q = .int .i64 (left - (l.length : Int) - (sumO l k : Nat)) ∧ Below w.heap.size w wr) (fun _ i _ => l.length - (intOf i).toNat)
      case atStart => exact ⟨0, Nat.zero_le _, rfl, by simp [sumO]; omega, by simp [sumO], Below.refl _ _⟩
      case round =>
        obtain ⟨k, hk, rfl, hs, rfl, hB⟩ := hrel
        by_cases hlt : k < l.length
        · obtain ⟨a1, c1, a2, c2, a3, c3, e0, e1, e2, e3, e4, e5, e6, e7, e8, e9, e10, e11, hr⟩ := opc_at hB g4 (g5 k hlt)
          have hlt' : (k : Int) < (l.length : Int) := by omega
          have hst := sumO_step l k hlt
          have hle := sumO_le l (k + 1)
          rw [hst] at hle
          have HR := hide (szOp_any wr _ l[k] (left - (l.length : Int) - (sumO l k : Nat)) hr (by omega) (by omega))
          change Hid (Calls _ _ _ _ fun e w' => e = .returned (.int .i64 (left4 (szO l[k]) _)) ∧ _) at HR
          unfold opVal at HR
          generalize l[k] = o at *
          generalize o.key.length = nK at *
          generalize o.name.length = nN at *
          generalize o.text.length = nT at *
          generalize hq : sumO l k = q at *
          have HQ := hide hq
          have HST := hide hst
          clear g5 hq hst hr
          go_wp2_with fail
          refine (unhide HR).mono ?_
          rintro e w2 ⟨rfl, hB2⟩
          have hB3 := hB.trans (hB2.mono hB.size)
          clear e0 e1 e2 e3 e4 e5 e6 e7 e8 e9 e10 e11 HR
          generalize szO o = m at *
          by_cases h3 : (m : Int) ≤ left - (l.length : Int) - (q : Int)
          · rw [left4_in h3]
            have hd3 : ¬ left - (l.length : Int) - (q : Int) - (m : Int) < 0 := by omega
            go_wp2_with fail
            go_roundw
            case rel => exact ⟨k + 1, by omega, by go_num, by rw [unhide HST]; omega, by rw [unhide HST]; exact congrArg (Value.int .i64) (by omega), hB3⟩
            case measure => simp [intOf]; omega
          · rw [left4_out h3]
            have HF := hide (show rest (szOs l) left = -1 by unfold szOs; rw [unhide HE, rest_out (by omega)])
            go_wp2_with fail
            go_ret
            exact ⟨by rw [unhide HF]; rfl, hB3⟩
        · have e : k = l.length := by omega
          subst e
          rw [sumO_all] at hs ⊢
          have HF := hide (show rest (szOs l) left = left - (l.length : Int) - ((l.map szO).sum : Nat) by unfold szOs; rw [unhide HE, rest_in hs])
          go_wp2_with fail
          go_ret
          exact ⟨by rw [unhide HF]; rfl, hB⟩
  · have HF := hide (show rest (szOs l) left = -1 from rest_bad h2)
    obtain ⟨a, cap, rfl, _, _⟩ := Elems.shape h
    have hd : left - (l.length : Int) < 0 := by omega
    go_enter Tryz.func12, Tryz.ntmps12
    go_wp2_with fail
    go_ret
    exact ⟨by rw [unhide HF]; rfl, Below.refl _ _⟩
end Go.Proofs.YtkmmhlimihkgfaaGreat

/- The laws' own copy of a row of operations. -/
namespace Go.Proofs.YtkmmhlimihkgfaaGreat
open Go.RowKit
set_option linter.unusedVariables false
set_option maxRecDepth 100000

set_option maxHeartbeats 12800000 in
theorem toOps_any (w : World) (v : Value) (l : List OpV) (h : RdOps w v l) (hs : szOs l ≤ 2097152) :
    Calls Tryz.prog 15 #[v] w fun e w' => ∃ a c, e = .returned (.slice a l.length c) ∧ ∃ F, OwOps w' (.slice a l.length c) l F ∧ F.Nodup ∧ Rng F w.heap.size w'.heap.size ∧ Below w.heap.size w w' := by
  obtain ⟨i0, hi, hz0, hz1, hz2⟩ := info_parts Tryz.info28
  have hm := h.1
  have hlen : l.length ≤ 2097152 := by unfold szOs at hs; omega
  by_cases h0 : l = []
  · obtain ⟨a, cap, rfl, _⟩ := Elems.shape h
    subst h0
    go_enter Tryz.func15, Tryz.ntmps15
    go_wp2_with (at_make; refine wpList_make_full _ rfl _ _ 23 rfl w.heap.size 28 i0 _ 12 Tryz.underlying23 hi hz0 hz1 .i64 .i64 _ _ 0 rfl rfl rfl rfl ?c1 ?c2 ?c3 ?_)
    case c1 => rw [hz2]; omega
    case c2 => exact Nat.zero_le _
    case c3 => exact Nat.le_refl _
    intro w1 hown hgrow
    have hB1 := Below.ofGrown hgrow
    have hH := (Half.start (α := OpV) (l := []) (R := OwOpC w1) (w.heap.size + 1) (ownsRow_base hown 0 (Nat.zero_le _))).whole rfl (by omega)
    have HH := hide hH
    clear hown hgrow hH
    go_wp2_with fail
    refine wp_loop_rounds 1 ?_
    rw [rounds_succ]
    go_wp2_with fail
    go_ret
    obtain ⟨F, hF, hnd, hr⟩ := unhide HH
    exact ⟨_, _, rfl, F, hF, hnd, hr, hB1⟩
  obtain ⟨_, ⟨_, e⟩ | ⟨_, _, _, _, e⟩ | ⟨b, off, cap, rfl, g1, g2, g3, g4, g5⟩⟩ := h
  · exact absurd e h0
  · exact absurd e h0
  have hone : ∀ i (hi : i < l.length), szO l[i] ≤ 2097152 := fun i hi => by have := szO_le l i hi; unfold szOs at hs; omega
  go_enter Tryz.func15, Tryz.ntmps15
  go_wp2_with (at_make; refine wpList_make_full _ rfl _ _ 23 rfl w.heap.size 28 i0 _ 12 Tryz.underlying23 hi hz0 hz1 .i64 .i64 _ _ l.length rfl rfl rfl rfl ?c1 ?c2 ?c3 ?_)
  case c1 => rw [hz2]; omega
  case c2 => exact hm
  case c3 => exact Nat.le_refl _
  intro w1 hown hgrow
  have hB1 := Below.ofGrown hgrow
  have hH := Half.start (α := OpV) (l := l) (R := OwOpC w1) (w.heap.size + 1) (ownsRow_base hown 0 (Nat.zero_le _))
  have hlt1 := (hown.lt w.heap.size rfl).2
  clear hown hgrow
  go_wp2_with fail
  go_loopw [4] (fun i wr => ∃ k : Nat, k ≤ l.length ∧ i = .int .i64 k ∧ Half wr 28 12 w.heap.size l.length l (OwOpC wr) (w.heap.size + 1) k ∧ Below w.heap.size w wr ∧ w.heap.size + 1 ≤ wr.heap.size) (fun i _ => l.length - (intOf i).toNat)
  case atStart => exact ⟨0, Nat.zero_le _, rfl, hH, hB1, by omega⟩
  case round =>
    obtain ⟨k, hk, rfl, hr, hB, hsz⟩ := hrel
    clear hH hB1 hlt1
    by_cases hlt : k < l.length
    · obtain ⟨p1, u1, p2, u2, p3, u3, e0, e1, e2, e3, e4, e5, e6, e7, e8, e9, e10, e11, hro⟩ := opc_at hB g4 (g5 k hlt)
      have hlt' : (k : Int) < (l.length : Int) := by omega
      have HT := hide (toOp_own wr _ l[k] hro (by have := hone k hlt; unfold szO at this; exact this))
      have HR0 := hide hr
      have HRW := hide (fun (w2 : World) (hB2 : Below wr.heap.size wr w2) => (show ∃ xs : List Value, w2.ownsRow 0 28 12 (.slice (some ⟨w.heap.size, 0, none⟩) l.length l.length) l.length xs by
        obtain ⟨_, _, xs, _, _, _, h4, _⟩ := hr.laid
        exact ⟨xs, ownsRow_frm h4 (Frm.ofBelow hB2 []) (fun _ _ => by simp)⟩))
      unfold opVal at HT
      generalize hoo : l[k] = o at *
      have HOO := hide hoo.symm
      clear g5 hoo hr hro hone
      go_wp2_with fail
      clear e0 e1 e2 e3 e4 e5 e6 e7 e8 e9 e10 e11
      refine (unhide HT).mono ?_
      rintro e w2 ⟨a1, c1, a2, c2, a3, c3, rfl, hO, hB2⟩
      obtain ⟨hO1, hO2, hO3, hO4⟩ := hO
      have rK : ∀ g ∈ FB (.slice a1 o.key.length c1), wr.heap.size ≤ g ∧ g < w2.heap.size := fun g hg => hO1.lt g (by simpa [FB] using hg)
      have rN := hO2.rng
      have rT := hO3.rng
      have o1 := hO1.mono (base' := 0) (Nat.zero_le _)
      have o2 := hO2.mono (base' := 0) (Nat.zero_le _)
      have o3 := hO3.mono (base' := 0) (Nat.zero_le _)
      clear hO1 hO2 hO3
      generalize hnK : o.key.length = nK at *
      generalize hnN : o.name.length = nN at *
      generalize hnT : o.text.length = nT at *
      clear hnK hnN hnT
      obtain ⟨xs, hx⟩ := unhide HRW w2 hB2
      have hxl := hx.1
      have hcell : ∀ j, j < 12 → ∃ y, w2.cell? ⟨w.heap.size, k * 12 + j, none⟩ = some y := fun j hj => ⟨xs[k * 12 + j]'(by omega), by rw [hx.cellAt (k * 12 + j) (by omega), List.getElem?_eq_getElem (by omega)]⟩
      obtain ⟨y0, q0⟩ := hcell 0 (by omega)
      obtain ⟨y1, q1⟩ := hcell 1 (by omega)
      obtain ⟨y2, q2⟩ := hcell 2 (by omega)
      obtain ⟨y3, q3⟩ := hcell 3 (by omega)
      obtain ⟨y4, q4⟩ := hcell 4 (by omega)
      obtain ⟨y5, q5⟩ := hcell 5 (by omega)
      obtain ⟨y6, q6⟩ := hcell 6 (by omega)
      obtain ⟨y7, q7⟩ := hcell 7 (by omega)
      obtain ⟨y8, q8⟩ := hcell 8 (by omega)
      obtain ⟨y9, q9⟩ := hcell 9 (by omega)
      obtain ⟨y10, q10⟩ := hcell 10 (by omega)
      obtain ⟨y11, q11⟩ := hcell 11 (by omega)
      rw [Nat.add_zero] at q0
      have f0 := hx.frozenAt (k * 12)
      have f1 := hx.frozenAt (k * 12 + 1)
      have f2 := hx.frozenAt (k * 12 + 2)
      have f3 := hx.frozenAt (k * 12 + 3)
      have f4 := hx.frozenAt (k * 12 + 4)
      have f5 := hx.frozenAt (k * 12 + 5)
      have f6 := hx.frozenAt (k * 12 + 6)
      have f7 := hx.frozenAt (k * 12 + 7)
      have f8 := hx.frozenAt (k * 12 + 8)
      have f9 := hx.frozenAt (k * 12 + 9)
      have f10 := hx.frozenAt (k * 12 + 10)
      have f11 := hx.frozenAt (k * 12 + 11)
      obtain ⟨W, hW⟩ : ∃ W, W = ((((((((((((w2.setCell ⟨w.heap.size, k * 12, none⟩ (.int .i64 o.kind)).setCell ⟨w.heap.size, k * 12 + 1, none⟩ (.int .i64 o.atN)).setCell ⟨w.heap.size, k * 12 + 2, none⟩ (.int .i64 o.atR)).setCell ⟨w.heap.size, k * 12 + 3, none⟩ (.int .i64 o.nodeN)).setCell ⟨w.heap.size, k * 12 + 4, none⟩ (.int .i64 o.nodeR)).setCell ⟨w.heap.size, k * 12 + 5, none⟩ (.int .i64 o.parN)).setCell ⟨w.heap.size, k * 12 + 6, none⟩ (.int .i64 o.parR)).setCell ⟨w.heap.size, k * 12 + 7, none⟩ (.slice a1 nK c1)).setCell ⟨w.heap.size, k * 12 + 8, none⟩ (.int .i64 o.elem)).setCell ⟨w.heap.size, k * 12 + 9, none⟩ (.slice a2 nN c2)).setCell ⟨w.heap.size, k * 12 + 10, none⟩ (.slice a3 nT c3)).setCell ⟨w.heap.size, k * 12 + 11, none⟩ (.bool o.gone)) := ⟨_, rfl⟩
      have hf : Frm w2 W [w.heap.size] := by rw [hW]; exact ((((((((((((set_frm w2 _ _ _).trans (set_frm _ _ _ _)).trans (set_frm _ _ _ _)).trans (set_frm _ _ _ _)).trans (set_frm _ _ _ _)).trans (set_frm _ _ _ _)).trans (set_frm _ _ _ _)).trans (set_frm _ _ _ _)).trans (set_frm _ _ _ _)).trans (set_frm _ _ _ _)).trans (set_frm _ _ _ _)).trans (set_frm _ _ _ _))
      have hrg : Rng (FB (.slice a1 nK c1) ++ FB (.slice a2 nN c2) ++ FB (.slice a3 nT c3)) wr.heap.size w2.heap.size := (Rng.app (Rng.app rK rN) rT)
      have hstep : Half W 28 12 w.heap.size l.length l (OwOpC W) (w.heap.size + 1) (k + 1) := by
        refine (unhide HR0).step hlt (by omega) hsz hB2 [.int .i64 o.kind, .int .i64 o.atN, .int .i64 o.atR, .int .i64 o.nodeN, .int .i64 o.nodeR, .int .i64 o.parN, .int .i64 o.parR, .slice a1 nK c1, .int .i64 o.elem, .slice a2 nN c2, .slice a3 nT c3, .bool o.gone] (FB (.slice a1 nK c1) ++ FB (.slice a2 nN c2) ++ FB (.slice a3 nT c3)) rfl ?_ hO4 hrg ?_ hf ?_
        · rw [← unhide HOO]
          exact OwOpC.frm (w := w2) ⟨_, _, _, rfl, o1, o2, o3, rfl⟩ hf (fun g hg => by have := hrg g hg; simp; omega)
        · intro C x G' hx' hne
          exact OwOpC.frm hx' ((Frm.ofBelow hB2 [w.heap.size]).trans hf) (fun g hg => by have := hne g hg; simp; omega)
        · intro zs hz
          have hzl := hz.1
          have t0 := (hz.stored (k * 12) (.int .i64 o.kind)).1
          have t1 := (t0.stored (k * 12 + 1) (.int .i64 o.atN)).1
          have t2 := (t1.stored (k * 12 + 2) (.int .i64 o.atR)).1
          have t3 := (t2.stored (k * 12 + 3) (.int .i64 o.nodeN)).1
          have t4 := (t3.stored (k * 12 + 4) (.int .i64 o.nodeR)).1
          have t5 := (t4.stored (k * 12 + 5) (.int .i64 o.parN)).1
          have t6 := (t5.stored (k * 12 + 6) (.int .i64 o.parR)).1
          have t7 := (t6.stored (k * 12 + 7) (.slice a1 nK c1)).1
          have t8 := (t7.stored (k * 12 + 8) (.int .i64 o.elem)).1
          have t9 := (t8.stored (k * 12 + 9) (.slice a2 nN c2)).1
          have t10 := (t9.stored (k * 12 + 10) (.slice a3 nT c3)).1
          have t11 := (t10.stored (k * 12 + 11) (.bool o.gone)).1
          rw [hW]
          exact ⟨_, t11, take_twelve zs (k * 12) _ _ _ _ _ _ _ _ _ _ _ _ (by omega)⟩
      have HB0 := hB.trans ((hB2.mono hB.size).trans (hf.below (by have := hB2.size; have := hB.size; omega) (fun g hg => by simp at hg; omega)))
      have hs2 : w.heap.size + 1 ≤ W.heap.size := by have := hf.size; have := hB2.size; omega
      subst hW
      have HS := hide hstep
      have HB := hide HB0
      have HS2 := hide hs2
      clear hstep hf hx o1 o2 o3 hO4 hB2 hB HB0 hs2 hrg hcell rK rN rT HT HR0 HRW HOO
      go_wp2_with fail
      go_roundw
      case rel => exact ⟨k + 1, by omega, by go_num, unhide HS, unhide HB, unhide HS2⟩
      case measure => simp [intOf]; omega
    · have e : k = l.length := by omega
      subst e
      have HW := hide (hr.whole rfl (by omega))
      clear hr g5 hone
      go_wp2_with fail
      go_ret
      obtain ⟨F, hF, hnd, hrg⟩ := unhide HW
      exact ⟨_, _, rfl, F, hF, hnd, hrg, hB⟩
end Go.Proofs.YtkmmhlimihkgfaaGreat

/- The law on Put, walked by its callees' contracts. -/
namespace Go.Proofs.YtkmmhlimihkgfaaGreat
open Go.RowKit
set_option linter.unusedVariables false
set_option maxRecDepth 100000

theorem OwOps.keep {w w' : World} {v : Value} {l : List OpV} {F : List Nat} (h : OwOps w v l F) (hb : Below w.heap.size w w') : OwOps w' v l F := OwOps.frm h (Frm.ofBelow hb []) (fun _ _ => by simp)
theorem OwOp.frmP {w w' : World} {base : Nat} {o : OpV} {k n t : Value} {S : List Nat} (h : OwOp w base o k n t) (f : Frm w w' S) (hd : ∀ g ∈ FB k ++ FB n ++ FB t, g ∉ S) : OwOp w' base o k n t :=
  ⟨⟨h.1.1, ownsRow_frm h.1.2 f (fun g hg => hd g (by simp [hg]))⟩, h.2.1.frm f (fun g hg => hd g (by simp [hg])), h.2.2.1.frm f (fun g hg => hd g (by simp [hg])), h.2.2.2⟩
theorem opB_sz {o : OpV} (h : opB o = true) : szO o ≤ 72 := by
  obtain ⟨_, ht, hh⟩ := opB_facts h
  unfold szO
  rcases hh with hh | hh | hh | hh
  · have := hh.2.2.2.1.1; have := hh.2.2.2.2.2.1; omega
  · have := hh.2.2.2.1.1; have e : o.name.length = 0 := by rw [hh.2.2.2.2.2.1]; rfl
    omega
  · have e : o.name.length = 0 := by rw [hh.2.2.2.2.2.1]; rfl
    have e2 : o.key.length = 0 := by rw [hh.2.2.2.1]; rfl
    omega
  · have e1 : o.key.length ≤ 12 := by simp [hh]
    have e2 : o.name.length ≤ 30 := by simp [hh]
    omega
theorem cntOs_bd {m : Nat} : ∀ {l : List OpV}, (∀ x ∈ l, szO x ≤ m) → cntOs l ≤ (9 + m) * l.length
  | [], _ => by simp [cntOs]
  | x :: r, h => by
    have h1 := h x (by simp)
    have h2 := cntOs_bd (fun y hy => h y (List.mem_cons_of_mem _ hy))
    rw [cntOs, List.length_cons, Nat.mul_succ]
    omega
theorem cntOs_sz : ∀ (l : List OpV), cntOs l ≤ 9 * szOs l
  | [] => by simp [cntOs]
  | x :: r => by
    have h2 := cntOs_sz r
    unfold szOs at h2 ⊢
    simp only [cntOs, List.length_cons, List.map_cons, List.sum_cons]
    omega
theorem putV_cnt (l : List OpV) (o : OpV) : cntOs (putV l o) ≤ 16777216 ∧ (putV l o).length ≤ 151 := by
  unfold putV
  cases hb : opsB l && opB o with
  | false => simp [cntOs]
  | true =>
    rw [Bool.and_eq_true] at hb
    have hl := opsB_len hb.1
    have hp := putL_len l o
    rw [if_pos rfl]
    refine ⟨?_, by omega⟩
    have := cntOs_bd (m := 72) (l := putL l o) (fun x hx => by
      rcases putL_mem hx with rfl | hx
      · exact opB_sz hb.2
      · obtain ⟨i, hi, rfl⟩ := List.getElem_of_mem hx
        exact opB_sz (opsB_each hb.1 hi))
    have h3 : (9 + 72) * (putL l o).length ≤ (9 + 72) * 151 := Nat.mul_le_mul_left _ (by omega)
    omega
/-- What both Put tell. -/
def PutSaid (f : FuncId) (l : List OpV) (o : OpV) (pv : List OpV) (ok : Bool) : Prop := ∀ (W : World) (u vo : Value), RdOps W u l → RdOp W vo o → Calls Tryz.prog f #[u, vo] W fun e w' => ∃ r, e = .returned (.tuple #[r, .bool ok]) ∧ ∃ F, OwOps w' r pv F ∧ F.Nodup ∧ Rng F W.heap.size w'.heap.size ∧ Below W.heap.size W w'
theorem sumO_each {l : List OpV} {m : Nat} (h : szOs l ≤ m) : ∀ x ∈ l, szO x ≤ m := fun x hx => by
  obtain ⟨i, hi, rfl⟩ := List.getElem_of_mem hx
  have := szO_le l i hi
  unfold szOs at h
  omega

set_option maxHeartbeats 40000000 in
theorem law_put (w : World) (v vo : Value) (l : List OpV) (o : OpV) (h : RdOps w v l) (ho : RdOp w vo o) :
    Calls Tryz.prog 4 #[v, vo] w fun e w' => e = .returned (.bool true) ∧ Below w.heap.size w w' := by
  have HZ := hide (fun W (hW : Below w.heap.size w W) => szOps_any W v l 1048576 (h.keep hW) (by omega) (by omega))
  have HZ2 := hide (fun W (hW : Below w.heap.size w W) left h0 h1 => szOp_any W vo o left (ho.keep hW) h0 h1)
  have HT := hide (fun W (hW : Below w.heap.size w W) hs => toOps_any W v l (h.keep hW) hs)
  have HTO := hide (fun W (hW : Below w.heap.size w W) hs => toOp_own W vo o (ho.keep hW) hs)
  obtain ⟨k, n, t, rfl, hk, hn, ht⟩ := ho
  obtain ⟨a0, c0, rfl, _, _⟩ := hk.shape
  obtain ⟨b0, d0, rfl, _, _⟩ := hn.shape
  obtain ⟨e0, f0, rfl, _, _⟩ := ht.shape
  obtain ⟨av, cv, rfl, _, _⟩ := Elems.shape h
  clear hk hn ht h
  have HM := hide (fun w base a1 a2 a3 c1 c2 c3 z h hs h0 h1 => markOp_any w base o a1 a2 a3 c1 c2 c3 z h hs h0 h1)
  have HSS := hide (fun (hz : szOs l ≤ 2097152) (hz2 : szO o ≤ 2097152) => And.intro (show PutSaid 14 l o (putV l o) (putAns l o) from fun W u vo hu hv => sput_any W u vo l o hu hv hz2 (sumO_each hz)) (show PutSaid 9 l o (putV l o) (putAns l o) from fun W u vo hu hv => iput_any W u vo l o hu hv hz2 (sumO_each hz)))
  obtain ⟨hpc, hpl⟩ := putV_cnt l o
  have hcl := cntOs_sz l
  generalize putV l o = pv at *
  generalize putAns l o = ok at *
  unfold szO at HSS
  obtain ⟨nK, hnK⟩ : ∃ x, x = o.key.length := ⟨_, rfl⟩
  obtain ⟨nN, hnN⟩ : ∃ x, x = o.name.length := ⟨_, rfl⟩
  obtain ⟨nT, hnT⟩ : ∃ x, x = o.text.length := ⟨_, rfl⟩
  rw [← hnK, ← hnN, ← hnT] at HZ2 HTO HM HSS ⊢
  clear hnK hnN hnT
  unfold opVal at HZ2 HTO HM ⊢
  have hA0 := (Below.refl w.heap.size w).alloc (Nat.le_refl _) (.cells #[.int .i64 o.kind, .int .i64 o.atN, .int .i64 o.atR, .int .i64 o.nodeN, .int .i64 o.nodeR, .int .i64 o.parN, .int .i64 o.parR, .slice a0 nK c0, .int .i64 o.elem, .slice b0 nN d0, .slice e0 nT f0, .bool o.gone] 41)
  have l0 := Loc.made w #[.int .i64 o.kind, .int .i64 o.atN, .int .i64 o.atR, .int .i64 o.nodeN, .int .i64 o.nodeR, .int .i64 o.parN, .int .i64 o.parR, .slice a0 nK c0, .int .i64 o.elem, .slice b0 nN d0, .slice e0 nT f0, .bool o.gone] 41
  go_enter Tryz.func4, Tryz.ntmps4
  go_wp2_with fail
  generalize (w.alloc (.cells #[.int .i64 o.kind, .int .i64 o.atN, .int .i64 o.atR, .int .i64 o.nodeN, .int .i64 o.nodeR, .int .i64 o.parN, .int .i64 o.parR, .slice a0 nK c0, .int .i64 o.elem, .slice b0 nN d0, .slice e0 nT f0, .bool o.gone] 41)) = wa at *
  generalize hSS : w.heap.size = S at *
  have BS := hide (show ∀ (b c : World), Below S w b → Below b.heap.size b c → Below S w c from fun b c h k => h.trans (k.mono (by have := h.size; omega)))
  have q0 := l0.lt
  refine (unhide HZ _ hA0).mono ?_
  rintro e w1 ⟨rfl, hB⟩
  have hA1 := unhide BS _ _ hA0 hB
  have l1 := l0.all hB
  have z1 := hB.size
  clear hA0 l0 hB HZ
  by_cases hbig : ((szOs l : Nat) : Int) ≤ 1048576
  case neg =>
    rw [rest_out hbig]
    go_wp2_with fail
    go_ret
    exact ⟨rfl, by rw [hSS]; exact hA1⟩
  rw [rest_in hbig]
  have hd0 : ¬ 1048576 - ((szOs l : Nat) : Int) < 0 := by omega
  obtain ⟨x0, x1, x2, x3, x4, x5, x6, x7, x8, x9, x10, x11⟩ := l1.twelve
  go_wp2_with fail
  refine (unhide HZ2 _ hA1 _ (by omega) (by omega)).mono ?_
  rintro e w2 ⟨rfl, hB⟩
  have hA2 := unhide BS _ _ hA1 hB
  have l2 := l1.all hB
  have z2 := hB.size
  clear hA1 l1 hB HZ2 x0 x1 x2 x3 x4 x5 x6 x7 x8 x9 x10 x11
  by_cases hbig2 : ((nK + nN + nT : Nat) : Int) ≤ 1048576 - ((szOs l : Nat) : Int)
  case neg =>
    rw [left4_out hbig2]
    go_wp2_with fail
    go_ret
    exact ⟨rfl, by rw [hSS]; exact hA2⟩
  rw [left4_in hbig2]
  have hd1 : ¬ 1048576 - ((szOs l : Nat) : Int) - ((nK + nN + nT : Nat) : Int) < 0 := by omega
  have hs1 : szOs l ≤ 2097152 := by omega
  have hs2 : nK + nN + nT ≤ 2097152 := by omega
  have hcl2 : cntOs l ≤ 16777216 := by omega
  obtain ⟨HS, HI⟩ := unhide HSS hs1 hs2
  replace HS := hide HS
  replace HI := hide HI
  replace HT := hide (fun W hW => unhide HT W hW hs1)
  replace HTO := hide (fun W hW => unhide HTO W hW hs2)
  clear HSS hbig hbig2 hcl
  have hne : (ok != ok) = false := by simp
  have heq : (ok == ok) = true := by simp
  obtain ⟨x0, x1, x2, x3, x4, x5, x6, x7, x8, x9, x10, x11⟩ := l2.twelve
  go_wp2_with fail
  go_region_held3 (fun w' => w'.cell? ⟨S, 0, none⟩ = some (.int .i64 o.kind) ∧ w'.cell? ⟨S, 1, none⟩ = some (.int .i64 o.atN) ∧ w'.cell? ⟨S, 2, none⟩ = some (.int .i64 o.atR) ∧ w'.cell? ⟨S, 3, none⟩ = some (.int .i64 o.nodeN) ∧ w'.cell? ⟨S, 4, none⟩ = some (.int .i64 o.nodeR) ∧ w'.cell? ⟨S, 5, none⟩ = some (.int .i64 o.parN) ∧ w'.cell? ⟨S, 6, none⟩ = some (.int .i64 o.parR) ∧ w'.cell? ⟨S, 7, none⟩ = some (.slice a0 nK c0) ∧ w'.cell? ⟨S, 8, none⟩ = some (.int .i64 o.elem) ∧ w'.cell? ⟨S, 9, none⟩ = some (.slice b0 nN d0) ∧ w'.cell? ⟨S, 10, none⟩ = some (.slice e0 nT f0) ∧ w'.cell? ⟨S, 11, none⟩ = some (.bool o.gone))
    (first | exact ⟨by assumption, by assumption, by assumption, by assumption, by assumption, by assumption, by assumption, by assumption, by assumption, by assumption, by assumption, by assumption⟩ | simp [*])
    (first
      | (go_at_call 15; refine (unhide HT _ hA2.drew).mono ?_; rintro e w4 ⟨p4, u4, rfl, F4, hO4, hN4, hR4, hB4⟩; have hE4 := bstep ((Below.refl w2.heap.size w2).drew) hB4; have hD4 := unhide BS _ _ hA2 hE4; obtain ⟨x0, x1, x2, x3, x4, x5, x6, x7, x8, x9, x10, x11⟩ := (l2.all hE4).twelve)
      | (go_at_call 16; refine (unhide HTO _ hD4).mono ?_; rintro e w5 ⟨a5, c5, b5, d5, e5, f5, rfl, ho5, hB5⟩; have hE5 := bstep hE4 hB5; have hD5 := unhide BS _ _ hA2 hE5; obtain ⟨x0, x1, x2, x3, x4, x5, x6, x7, x8, x9, x10, x11⟩ := (l2.all hE5).twelve)
      | (go_at_call 14; refine (unhide HS _ _ _ (hO4.rd.keep hB5) ho5.rd).mono ?_; rintro e w6 ⟨r6, rfl, F6, hO6, hN6, hR6, hB6⟩; have hE6 := bstep hE5 hB6; have hD6 := unhide BS _ _ hA2 hE6; obtain ⟨x0, x1, x2, x3, x4, x5, x6, x7, x8, x9, x10, x11⟩ := (l2.all hE6).twelve))
  have l6 := l2.all hE6
  have z5 := hE5.size
  have z6 := hB6.size
  clear hO4 hN4 hR4 hB4 hE4 hD4 ho5 hB5 hE5 hD5 hN6 hB6 hE6 l2 hA2 x0 x1 x2 x3 x4 x5 x6 x7 x8 x9 x10 x11 HS
  go_wp2_with fail
  refine (unhide HT _ hD6).mono ?_
  rintro e w7 ⟨p7, u7, rfl, F7, hO7, hN7, hR7, hB⟩
  have hD7 := unhide BS _ _ hD6 hB
  replace l6 := l6.all hB
  replace hO6 := hO6.keep hB
  have z7 := hB.size
  clear hB hD6
  obtain ⟨x0, x1, x2, x3, x4, x5, x6, x7, x8, x9, x10, x11⟩ := l6.twelve
  go_wp2_with fail
  refine (unhide HTO _ hD7).mono ?_
  rintro e w8 ⟨a8, c8, b8, d8, e8, f8, rfl, ho8, hB⟩
  have hD8 := unhide BS _ _ hD7 hB
  replace l6 := l6.all hB
  replace hO6 := hO6.keep hB
  replace hO7 := hO7.keep hB
  have z8 := hB.size
  have R8 : ∀ g ∈ FB (.slice a8 nK c8) ++ FB (.slice b8 nN d8) ++ FB (.slice e8 nT f8), w7.heap.size ≤ g ∧ g < w8.heap.size := fun g hg => ho8.rng g hg
  clear hB hD7 x0 x1 x2 x3 x4 x5 x6 x7 x8 x9 x10 x11
  have hB : Below w8.heap.size w8 (w8.alloc (.cells #[.int .i64 o.kind, .int .i64 o.atN, .int .i64 o.atR, .int .i64 o.nodeN, .int .i64 o.nodeR, .int .i64 o.parN, .int .i64 o.parR, .slice a8 nK c8, .int .i64 o.elem, .slice b8 nN d8, .slice e8 nT f8, .bool o.gone] 28)) := (Below.refl _ _).alloc (Nat.le_refl _) _
  have l9 := Loc.made w8 #[.int .i64 o.kind, .int .i64 o.atN, .int .i64 o.atR, .int .i64 o.nodeN, .int .i64 o.nodeR, .int .i64 o.parN, .int .i64 o.parR, .slice a8 nK c8, .int .i64 o.elem, .slice b8 nN d8, .slice e8 nT f8, .bool o.gone] 28
  have LL := hide (And.intro (unhide BS _ _ hD8 hB) (And.intro (l6.all hB) (And.intro (hO6.keep hB) (And.intro (hO7.keep hB) (And.intro l9 (And.intro (ho8.keep hB) hB.size))))))
  clear hD8 hB l6 hO6 hO7 ho8 l9
  go_wp2_with fail
  obtain ⟨hD9, l6, hO6, hO7, l9, ho8, z9⟩ := unhide LL
  clear LL
  generalize (w8.alloc (.cells #[.int .i64 o.kind, .int .i64 o.atN, .int .i64 o.atR, .int .i64 o.nodeN, .int .i64 o.nodeR, .int .i64 o.parN, .int .i64 o.parR, .slice a8 nK c8, .int .i64 o.elem, .slice b8 nN d8, .slice e8 nT f8, .bool o.gone] 28)) = w9 at *
  generalize hS9 : w8.heap.size = S9 at *
  have q9 := l9.lt
  have HP := hide (unhide HI w9 _ _ hO7.rd ho8.rd)
  unfold opVal at HP
  refine (unhide HP).mono ?_
  rintro e w10 ⟨r10, rfl, F10, hO10, hN10, hR10, hB⟩
  have hD10 := unhide BS _ _ hD9 hB
  replace l6 := l6.all hB
  replace hO6 := hO6.keep hB
  replace hO7 := hO7.keep hB
  replace l9 := l9.all hB
  replace ho8 := ho8.keep hB
  have z10 := hB.size
  clear hB hD9 HP
  go_wp2_with fail
  refine (eqOps_same w10 _ _ pv hO10.rd hO6.rd).mono ?_
  rintro e w11 ⟨rfl, hB⟩
  have hD11 := unhide BS _ _ hD10 hB
  have hC := hB
  clear hB hD10
  go_wp2_with fail
  refine (unhide HT _ hD11).mono ?_
  rintro e w12 ⟨p12, u12, rfl, F12, hO12, _, _, hB⟩
  have hD12 := unhide BS _ _ hD11 hB
  replace hC := bstep hC hB
  clear hB hD11
  go_wp2_with fail
  refine (eqOps_same w12 _ _ l (hO7.keep hC).rd hO12.rd).mono ?_
  rintro e w13 ⟨rfl, hB⟩
  have hD13 := unhide BS _ _ hD12 hB
  replace hC := bstep hC hB
  clear hB hD12 hO12
  replace l6 := l6.all hC
  replace hO6 := hO6.keep hC
  replace hO7 := hO7.keep hC
  replace l9 := l9.all hC
  replace ho8 := ho8.keep hC
  replace hO10 := hO10.keep hC
  have z13 := hC.size
  clear hC
  obtain ⟨x0, x1, x2, x3, x4, x5, x6, x7, x8, x9, x10, x11⟩ := l6.twelve
  obtain ⟨y0, y1, y2, y3, y4, y5, y6, y7, y8, y9, y10, y11⟩ := l9.twelve
  go_wp2_with fail
  go_region_held3 (fun w' => w'.cell? ⟨S, 0, none⟩ = some (.int .i64 o.kind) ∧ w'.cell? ⟨S, 1, none⟩ = some (.int .i64 o.atN) ∧ w'.cell? ⟨S, 2, none⟩ = some (.int .i64 o.atR) ∧ w'.cell? ⟨S, 3, none⟩ = some (.int .i64 o.nodeN) ∧ w'.cell? ⟨S, 4, none⟩ = some (.int .i64 o.nodeR) ∧ w'.cell? ⟨S, 5, none⟩ = some (.int .i64 o.parN) ∧ w'.cell? ⟨S, 6, none⟩ = some (.int .i64 o.parR) ∧ w'.cell? ⟨S, 7, none⟩ = some (.slice a0 nK c0) ∧ w'.cell? ⟨S, 8, none⟩ = some (.int .i64 o.elem) ∧ w'.cell? ⟨S, 9, none⟩ = some (.slice b0 nN d0) ∧ w'.cell? ⟨S, 10, none⟩ = some (.slice e0 nT f0) ∧ w'.cell? ⟨S, 11, none⟩ = some (.bool o.gone) ∧ w'.cell? ⟨S9, 0, none⟩ = some (.int .i64 o.kind) ∧ w'.cell? ⟨S9, 1, none⟩ = some (.int .i64 o.atN) ∧ w'.cell? ⟨S9, 2, none⟩ = some (.int .i64 o.atR) ∧ w'.cell? ⟨S9, 3, none⟩ = some (.int .i64 o.nodeN) ∧ w'.cell? ⟨S9, 4, none⟩ = some (.int .i64 o.nodeR) ∧ w'.cell? ⟨S9, 5, none⟩ = some (.int .i64 o.parN) ∧ w'.cell? ⟨S9, 6, none⟩ = some (.int .i64 o.parR) ∧ w'.cell? ⟨S9, 7, none⟩ = some (.slice a8 nK c8) ∧ w'.cell? ⟨S9, 8, none⟩ = some (.int .i64 o.elem) ∧ w'.cell? ⟨S9, 9, none⟩ = some (.slice b8 nN d8) ∧ w'.cell? ⟨S9, 10, none⟩ = some (.slice e8 nT f8) ∧ w'.cell? ⟨S9, 11, none⟩ = some (.bool o.gone))
    (first | exact ⟨by assumption, by assumption, by assumption, by assumption, by assumption, by assumption, by assumption, by assumption, by assumption, by assumption, by assumption, by assumption, by assumption, by assumption, by assumption, by assumption, by assumption, by assumption, by assumption, by assumption, by assumption, by assumption, by assumption, by assumption⟩ | simp [*])
    (first
      | (go_at_call 16; refine (unhide HTO _ hD13.drew).mono ?_; rintro e w14 ⟨a14, c14, b14, d14, e14, f14, rfl, ho14, hB14⟩; have hE14 := bstep ((Below.refl w13.heap.size w13).drew) hB14; have hD14 := unhide BS _ _ hD13 hE14; obtain ⟨x0, x1, x2, x3, x4, x5, x6, x7, x8, x9, x10, x11⟩ := (l6.all hE14).twelve; obtain ⟨y0, y1, y2, y3, y4, y5, y6, y7, y8, y9, y10, y11⟩ := (l9.all hE14).twelve)
      | (go_at_call 18; refine (eqOp_same _ _ _ o (ho8.keep hE14).rd ho14.rd).mono ?_; rintro e w15 ⟨rfl, hB15⟩; have hE15 := bstep hE14 hB15; have hD15 := unhide BS _ _ hD13 hE15; obtain ⟨x0, x1, x2, x3, x4, x5, x6, x7, x8, x9, x10, x11⟩ := (l6.all hE15).twelve; obtain ⟨y0, y1, y2, y3, y4, y5, y6, y7, y8, y9, y10, y11⟩ := (l9.all hE15).twelve))
  replace l6 := l6.all hE15
  replace hO6 := hO6.keep hE15
  replace hO7 := hO7.keep hE15
  replace l9 := l9.all hE15
  replace ho8 := ho8.keep hE15
  replace hO10 := hO10.keep hE15
  have z15 := hE15.size
  clear ho14 hB14 hE14 hD14 hB15 hE15 hD13 x0 x1 x2 x3 x4 x5 x6 x7 x8 x9 x10 x11 y0 y1 y2 y3 y4 y5 y6 y7 y8 y9 y10 y11
  go_wp2_with fail
  refine (markOs_any w15 _ l F7 1 hO7 hN7 hcl2 (by omega) (by omega)).mono ?_
  rintro e w16 ⟨rfl, _, hF⟩
  have hD16 : Below S w w16 := hD15.trans (hF.below (by have := hD15.size; omega) (fun q hq => by have := (hR7 q hq).1; omega))
  replace l6 := l6.frm hF (fun hm => by have := hR7 _ hm; omega)
  replace hO6 := OwOps.frm hO6 hF (fun g hg hm => by have := hR7 _ hm; have := hR6 _ hg; omega)
  replace l9 := l9.frm hF (fun hm => by have := hR7 _ hm; omega)
  replace ho8 := ho8.frmP hF (fun g hg hm => by have := hR7 _ hm; have := R8 _ hg; omega)
  replace hO10 := OwOps.frm hO10 hF (fun g hg hm => by have := hR7 _ hm; have := hR10 _ hg; omega)
  have z16 := hF.size
  clear hF hO7 hD15 hN7
  have hk1 : (0 : Int) ≤ 1 + ((cntOs l : Nat) : Int) := by omega
  have hk2 : 1 + ((cntOs l : Nat) : Int) ≤ 900000000 := by omega
  generalize 1 + ((cntOs l : Nat) : Int) = K at *
  obtain ⟨y0, y1, y2, y3, y4, y5, y6, y7, y8, y9, y10, y11⟩ := l9.twelve
  go_wp2_with fail
  clear y0 y1 y2 y3 y4 y5 y6 y7 y8 y9 y10 y11
  have HQ := hide (unhide HM w16 _ _ _ _ _ _ _ K ho8 hs2 hk1 hk2)
  refine (unhide HQ).mono ?_
  rintro e w17 ⟨rfl, _, hF⟩
  have hD17 : Below S w w17 := hD16.trans (hF.below (by have := hD16.size; omega) (fun q hq => by have := (R8 q hq).1; omega))
  replace l6 := l6.frm hF (fun hm => by have := R8 _ hm; omega)
  replace hO6 := OwOps.frm hO6 hF (fun g hg hm => by have := R8 _ hm; have := hR6 _ hg; omega)
  replace hO10 := OwOps.frm hO10 hF (fun g hg hm => by have := R8 _ hm; have := hR10 _ hg; omega)
  have z17 := hF.size
  clear hF ho8 hD16 HM HQ l9
  have hk3 : decide (K + (nK : Int) + (nN : Int) + (nT : Int) < 0) = false := by simp; omega
  go_wp2_with fail
  refine (eqOps_same w17 _ _ pv hO10.rd hO6.rd).mono ?_
  rintro e w18 ⟨rfl, hB⟩
  have hD18 := unhide BS _ _ hD17 hB
  replace l6 := l6.all hB
  replace hO6 := hO6.keep hB
  replace hO10 := hO10.keep hB
  have z18 := hB.size
  clear hB hD17
  go_wp2_with fail
  refine (markOs_any w18 _ pv F10 1 hO10 hN10 hpc (by omega) (by omega)).mono ?_
  rintro e w19 ⟨rfl, hO19, hF⟩
  have hD19 : Below S w w19 := hD18.trans (hF.below (by have := hD18.size; omega) (fun q hq => by have := (hR10 q hq).1; omega))
  replace l6 := l6.frm hF (fun hm => by have := hR10 _ hm; omega)
  replace hO6 := OwOps.frm hO6 hF (fun g hg hm => by have := hR10 _ hm; have := hR6 _ hg; omega)
  clear hF hO10 hD18
  have HH := hide (fun W (hW : Below w19.heap.size w19 W) => heldOs_any W _ pv 1 (hO19.rd.keep hW) hpc (by omega) (by omega))
  have hm1 : decide (1 + ((cntOs pv : Nat) : Int) < 0) = false := by simp; omega
  generalize 1 + ((cntOs pv : Nat) : Int) = M at *
  have hm2 : (M != M) = false := by simp
  have hm3 : (M == M) = true := by simp
  clear hO19
  go_wp2_with fail
  refine (unhide HH w19 (Below.refl _ _)).mono ?_
  rintro e w19 ⟨rfl, rfl⟩
  obtain ⟨x0, x1, x2, x3, x4, x5, x6, x7, x8, x9, x10, x11⟩ := l6.twelve
  go_wp2_with fail
  go_region_held3 (fun w' => w'.cell? ⟨S, 0, none⟩ = some (.int .i64 o.kind) ∧ w'.cell? ⟨S, 1, none⟩ = some (.int .i64 o.atN) ∧ w'.cell? ⟨S, 2, none⟩ = some (.int .i64 o.atR) ∧ w'.cell? ⟨S, 3, none⟩ = some (.int .i64 o.nodeN) ∧ w'.cell? ⟨S, 4, none⟩ = some (.int .i64 o.nodeR) ∧ w'.cell? ⟨S, 5, none⟩ = some (.int .i64 o.parN) ∧ w'.cell? ⟨S, 6, none⟩ = some (.int .i64 o.parR) ∧ w'.cell? ⟨S, 7, none⟩ = some (.slice a0 nK c0) ∧ w'.cell? ⟨S, 8, none⟩ = some (.int .i64 o.elem) ∧ w'.cell? ⟨S, 9, none⟩ = some (.slice b0 nN d0) ∧ w'.cell? ⟨S, 10, none⟩ = some (.slice e0 nT f0) ∧ w'.cell? ⟨S, 11, none⟩ = some (.bool o.gone))
    (first | exact ⟨by assumption, by assumption, by assumption, by assumption, by assumption, by assumption, by assumption, by assumption, by assumption, by assumption, by assumption, by assumption⟩ | simp [*])
    (first
      | (go_at_call 15; refine (unhide HT _ hD19.drew).mono ?_; rintro e w20 ⟨p20, u20, rfl, F20, hO20, _, _, hB20⟩; have hE20 := bstep ((Below.refl w19.heap.size w19).drew) hB20; have hD20 := unhide BS _ _ hD19 hE20; obtain ⟨x0, x1, x2, x3, x4, x5, x6, x7, x8, x9, x10, x11⟩ := (l6.all hE20).twelve)
      | (go_at_call 16; refine (unhide HTO _ hD20).mono ?_; rintro e w21 ⟨a21, c21, b21, d21, e21, f21, rfl, ho21, hB21⟩; have hE21 := bstep hE20 hB21; have hD21 := unhide BS _ _ hD19 hE21; obtain ⟨x0, x1, x2, x3, x4, x5, x6, x7, x8, x9, x10, x11⟩ := (l6.all hE21).twelve)
      | (go_at_call 9; refine (unhide HI _ _ _ (hO20.rd.keep hB21) ho21.rd).mono ?_; rintro e w22 ⟨r22, rfl, F22, hO22, _, _, hB22⟩; have hE22 := bstep hE21 hB22; have hD22 := unhide BS _ _ hD19 hE22; obtain ⟨x0, x1, x2, x3, x4, x5, x6, x7, x8, x9, x10, x11⟩ := (l6.all hE22).twelve))
  replace hO6 := hO6.keep hE22
  clear hO20 hB20 hE20 hD20 ho21 hB21 hE21 hD21 hB22 l6 x0 x1 x2 x3 x4 x5 x6 x7 x8 x9 x10 x11 HI HT HTO hD19
  go_wp2_with fail
  refine (eqOps_same w22 _ _ pv hO22.rd hO6.rd).mono ?_
  rintro e w23 ⟨rfl, hB⟩
  have hD23 := unhide BS _ _ hD22 hB
  replace hE22 := bstep hE22 hB
  clear hB hD22 hO22 hO6
  go_wp2_with fail
  refine (unhide HH w23 hE22).mono ?_
  rintro e w24 ⟨rfl, rfl⟩
  go_wp2_with fail
  go_ret
  exact ⟨rfl, by rw [hSS]; exact hD23⟩
end Go.Proofs.YtkmmhlimihkgfaaGreat

/- An argument of a law that can be read as data is a row of numbers, a stamp, an operation: what the data's readings open to. No condition. -/
namespace Go.Proofs.YtkmmhlimihkgfaaGreat
open Go.RowKit Go.ChangeShapes
set_option linter.unusedVariables false
set_option maxRecDepth 100000

variable {H : Type} {enc : TypeId × Value → H} {W : World} {held : Bool}

theorem open_bytesO {fuel : Nat} {cs : List Value} {x : DataW H × List MemPlace} (h : DataW.trod enc Tryz.prog W 0 (fun _ => true) held fuel 22 cs = some x) :
    ∃ v l, cs = [v] ∧ Byt W v l := by
  rcases open_ints Tryz.underlying22 Tryz.underlying5 (by kernel_rfl) h with ⟨hcs, _⟩ | ⟨a, len, cap, zs, hcs, _, hl, hm, hz, _, hcell, hwz⟩
  · exact ⟨_, _, hcs, byt_of_row (zs := []) (.inl ⟨rfl, rfl, rfl, rfl⟩)⟩
  · exact ⟨_, _, hcs, byt_of_row (.inr ⟨_, rfl, hl, hm, by simpa using hz, hcell, hwz⟩)⟩
theorem open_intsO {fuel : Nat} {cs : List Value} {x : DataW H × List MemPlace} (h : DataW.trod enc Tryz.prog W 0 (fun _ => true) held fuel 26 cs = some x) :
    ∃ v l, cs = [v] ∧ Ints W v l := by
  rcases open_ints Tryz.underlying26 Tryz.underlying3 (by kernel_rfl) h with ⟨hcs, _⟩ | ⟨a, len, cap, zs, hcs, _, hl, hm, hz, _, hcell, hwz⟩
  · exact ⟨_, _, hcs, ints_of_row (zs := []) (.inl ⟨rfl, rfl, rfl, rfl⟩)⟩
  · exact ⟨_, _, hcs, ints_of_row (.inr ⟨_, rfl, hl, hm, by simpa using hz, hcell, hwz⟩)⟩

theorem some_atO {α : Type} {l : List α} {n i : Nat} (h : l.length = n) (hi : i < n) : ∃ y, l[i]? = some y := ⟨l[i]'(by omega), List.getElem?_eq_getElem (by omega)⟩

/-- An argument that is a row of bytes. -/
theorem arg_bytesO {r : Reach} {base : Nat} {v : Value} {d : DataW H} {p : List MemPlace} (hv : Value.okWide Tryz.prog W r base 22 v) (h : DataW.Trod enc Tryz.prog W 0 (fun _ => true) held 22 v d p) : ∃ l, Byt W v l := by
  obtain ⟨a, len, cap, rfl⟩ := WideShapes.okWide_slice Tryz.underlying22 hv
  obtain ⟨fuel, hf⟩ := h
  obtain ⟨u, l, hu, hb⟩ := open_bytesO hf
  simp [Value.cells] at hu
  subst hu
  exact ⟨l, hb⟩
/-- An argument that is a row of numbers. -/
theorem arg_ints {r : Reach} {base : Nat} {v : Value} {d : DataW H} {p : List MemPlace} (hv : Value.okWide Tryz.prog W r base 26 v) (h : DataW.Trod enc Tryz.prog W 0 (fun _ => true) held 26 v d p) : ∃ l, Ints W v l := by
  obtain ⟨a, len, cap, rfl⟩ := WideShapes.okWide_slice Tryz.underlying26 hv
  obtain ⟨fuel, hf⟩ := h
  obtain ⟨u, l, hu, hb⟩ := open_intsO hf
  simp [Value.cells] at hu
  subst hu
  exact ⟨l, hb⟩

theorem open_id {fuel : Nat} {cs : List Value} {x : DataW H × List MemPlace} (h : DataW.trod enc Tryz.prog W 0 (fun _ => true) held fuel 39 cs = some x) : ∃ n r : Int, cs = [.int .i64 n, .int .i64 r] := by
  obtain ⟨xs, n, _, _, hlen, hxs, hf⟩ := DataW.trod_struct Tryz.underlying39 h
  have hlen2 : cs.length = 2 := hlen.trans (by kernel_rfl)
  match cs, hlen2 with
  | [c0, c1], _ =>
    obtain ⟨y0, e0⟩ := some_atO (i := 0) hxs (by simp)
    obtain ⟨y1, e1⟩ := some_atO (i := 1) hxs (by simp)
    have h0 : DataW.trod enc Tryz.prog W 0 (fun _ => true) held n 3 (([c0, c1].drop 0).take (Tryz.prog.cellsOf 3)) = some y0 := (hf 0 _ rfl).trans e0
    have h1 : DataW.trod enc Tryz.prog W 0 (fun _ => true) held n 3 (([c0, c1].drop 1).take (Tryz.prog.cellsOf 3)) = some y1 := (hf 1 _ rfl).trans e1
    have k1 : Tryz.prog.cellsOf 3 = 1 := by kernel_rfl
    simp only [k1, List.drop, List.take] at h0 h1
    obtain ⟨z0, g0, _, _⟩ := DataW.trod_int Tryz.underlying3 h0
    obtain ⟨z1, g1, _, _⟩ := DataW.trod_int Tryz.underlying3 h1
    simp at g0 g1
    subst g0; subst g1
    exact ⟨z0, z1, rfl⟩
/-- An argument that is a stamp. -/
theorem arg_id {r : Reach} {base : Nat} {v : Value} {x : DataW H} {p : List MemPlace} (hv : Value.okWide Tryz.prog W r base 39 v) (h : DataW.Trod enc Tryz.prog W 0 (fun _ => true) held 39 v x p) :
    ∃ n m : Int, v = .agg #[.int .i64 n, .int .i64 m] := by
  obtain ⟨cs, rfl, hsz⟩ := WideShapes.okWide_struct Tryz.underlying39 hv
  obtain ⟨fuel, hf⟩ := h
  obtain ⟨n, m, e⟩ := open_id hf
  refine ⟨n, m, ?_⟩
  obtain ⟨l⟩ := cs
  have e' : l = [.int .i64 n, .int .i64 m] := e
  rw [e']
end Go.Proofs.YtkmmhlimihkgfaaGreat

/- An argument of a law that can be read as data is an operation: what the data's reading opens to. No condition. -/
namespace Go.Proofs.YtkmmhlimihkgfaaGreat
open Go.RowKit Go.ChangeShapes
set_option linter.unusedVariables false
set_option maxRecDepth 100000

variable {H : Type} {enc : TypeId × Value → H} {W : World} {held : Bool}

theorem open_op {fuel : Nat} {cs : List Value} {x : DataW H × List MemPlace} (h : DataW.trod enc Tryz.prog W 0 (fun _ => true) held fuel 41 cs = some x) : ∃ o, RdOp W (.agg cs.toArray) o := by
  obtain ⟨xs, n, _, _, hlen, hxs, hf⟩ := DataW.trod_struct Tryz.underlying41 h
  have hlen2 : cs.length = 12 := hlen.trans (by kernel_rfl)
  match cs, hlen2 with
  | [c0, c1, c2, c3, c4, c5, c6, c7, c8, c9, c10, c11], _ =>
    obtain ⟨y0, e0⟩ := some_atO (i := 0) hxs (by simp)
    obtain ⟨y1, e1⟩ := some_atO (i := 1) hxs (by simp)
    obtain ⟨y2, e2⟩ := some_atO (i := 2) hxs (by simp)
    obtain ⟨y3, e3⟩ := some_atO (i := 3) hxs (by simp)
    obtain ⟨y4, e4⟩ := some_atO (i := 4) hxs (by simp)
    obtain ⟨y5, e5⟩ := some_atO (i := 5) hxs (by simp)
    obtain ⟨y6, e6⟩ := some_atO (i := 6) hxs (by simp)
    obtain ⟨y7, e7⟩ := some_atO (i := 7) hxs (by simp)
    obtain ⟨y8, e8⟩ := some_atO (i := 8) hxs (by simp)
    have h0 : DataW.trod enc Tryz.prog W 0 (fun _ => true) held n 3 (([c0, c1, c2, c3, c4, c5, c6, c7, c8, c9, c10, c11].drop 0).take (Tryz.prog.cellsOf 3)) = some y0 := (hf 0 _ rfl).trans e0
    have h1 : DataW.trod enc Tryz.prog W 0 (fun _ => true) held n 39 (([c0, c1, c2, c3, c4, c5, c6, c7, c8, c9, c10, c11].drop 1).take (Tryz.prog.cellsOf 39)) = some y1 := (hf 1 _ rfl).trans e1
    have h2 : DataW.trod enc Tryz.prog W 0 (fun _ => true) held n 39 (([c0, c1, c2, c3, c4, c5, c6, c7, c8, c9, c10, c11].drop 3).take (Tryz.prog.cellsOf 39)) = some y2 := (hf 2 _ rfl).trans e2
    have h3 : DataW.trod enc Tryz.prog W 0 (fun _ => true) held n 39 (([c0, c1, c2, c3, c4, c5, c6, c7, c8, c9, c10, c11].drop 5).take (Tryz.prog.cellsOf 39)) = some y3 := (hf 3 _ rfl).trans e3
    have h4 : DataW.trod enc Tryz.prog W 0 (fun _ => true) held n 26 (([c0, c1, c2, c3, c4, c5, c6, c7, c8, c9, c10, c11].drop 7).take (Tryz.prog.cellsOf 26)) = some y4 := (hf 4 _ rfl).trans e4
    have h5 : DataW.trod enc Tryz.prog W 0 (fun _ => true) held n 3 (([c0, c1, c2, c3, c4, c5, c6, c7, c8, c9, c10, c11].drop 8).take (Tryz.prog.cellsOf 3)) = some y5 := (hf 5 _ rfl).trans e5
    have h6 : DataW.trod enc Tryz.prog W 0 (fun _ => true) held n 22 (([c0, c1, c2, c3, c4, c5, c6, c7, c8, c9, c10, c11].drop 9).take (Tryz.prog.cellsOf 22)) = some y6 := (hf 6 _ rfl).trans e6
    have h7 : DataW.trod enc Tryz.prog W 0 (fun _ => true) held n 22 (([c0, c1, c2, c3, c4, c5, c6, c7, c8, c9, c10, c11].drop 10).take (Tryz.prog.cellsOf 22)) = some y7 := (hf 7 _ rfl).trans e7
    have h8 : DataW.trod enc Tryz.prog W 0 (fun _ => true) held n 4 (([c0, c1, c2, c3, c4, c5, c6, c7, c8, c9, c10, c11].drop 11).take (Tryz.prog.cellsOf 4)) = some y8 := (hf 8 _ rfl).trans e8
    have ki : Tryz.prog.cellsOf 3 = 1 := by kernel_rfl
    have k1 : Tryz.prog.cellsOf 22 = 1 := by kernel_rfl
    have k2 : Tryz.prog.cellsOf 26 = 1 := by kernel_rfl
    have k3 : Tryz.prog.cellsOf 39 = 2 := by kernel_rfl
    have k4 : Tryz.prog.cellsOf 4 = 1 := by kernel_rfl
    simp only [ki, k1, k2, k3, k4, List.drop, List.take] at h0 h1 h2 h3 h4 h5 h6 h7 h8
    obtain ⟨z0, g0, _, _⟩ := DataW.trod_int Tryz.underlying3 h0
    obtain ⟨z1, z2, g1⟩ := open_id h1
    obtain ⟨z3, z4, g2⟩ := open_id h2
    obtain ⟨z5, z6, g3⟩ := open_id h3
    obtain ⟨v7, l7, g4, b7⟩ := open_intsO h4
    obtain ⟨z8, g5, _, _⟩ := DataW.trod_int Tryz.underlying3 h5
    obtain ⟨v9, l9, g6, b9⟩ := open_bytesO h6
    obtain ⟨v10, l10, g7, b10⟩ := open_bytesO h7
    obtain ⟨z11, g8, _⟩ := DataW.trod_bool Tryz.underlying4 h8
    simp at g0 g1 g2 g3 g4 g5 g6 g7 g8
    obtain ⟨rfl, rfl⟩ := g1
    obtain ⟨rfl, rfl⟩ := g2
    obtain ⟨rfl, rfl⟩ := g3
    subst g0; subst g4; subst g5; subst g6; subst g7; subst g8
    exact ⟨⟨z0, z1, z2, z3, z4, z5, z6, l7, z8, l9, l10, z11⟩, _, _, _, rfl, b7, b9, b10⟩
/-- An argument that is an operation. -/
theorem arg_op {r : Reach} {base : Nat} {v : Value} {x : DataW H} {p : List MemPlace} (hv : Value.okWide Tryz.prog W r base 41 v) (h : DataW.Trod enc Tryz.prog W 0 (fun _ => true) held 41 v x p) :
    ∃ o, RdOp W v o := by
  obtain ⟨cs, rfl, hsz⟩ := WideShapes.okWide_struct Tryz.underlying41 hv
  obtain ⟨fuel, hf⟩ := h
  obtain ⟨l⟩ := cs
  exact open_op hf
end Go.Proofs.YtkmmhlimihkgfaaGreat

/- A row of data that can be read: its elements one by one. No condition. -/
namespace Go.Proofs.YtkmmhlimihkgfaaGreat
open Go.RowKit Go.ChangeShapes
set_option linter.unusedVariables false
set_option maxRecDepth 100000

variable {H : Type} {enc : TypeId × Value → H} {W : World} {held : Bool}

theorem list_of {α : Type} {Q : Nat → α → Prop} : ∀ n : Nat, (∀ i, i < n → ∃ a, Q i a) → ∃ l : List α, l.length = n ∧ ∀ i (hi : i < l.length), Q i l[i]
  | 0, _ => ⟨[], rfl, fun i hi => by cases hi⟩
  | n + 1, h => by
    obtain ⟨l, hl, hq⟩ := list_of n (fun i hi => h i (by omega))
    obtain ⟨a, ha⟩ := h n (by omega)
    refine ⟨l ++ [a], by simp [hl], fun i hi => ?_⟩
    by_cases hi' : i < l.length
    · rw [List.getElem_append_left hi']; exact hq i hi'
    · have : i = l.length := by simp at hi; omega
      subst this
      simp only [List.getElem_append_right (Nat.le_refl _), Nat.sub_self, List.getElem_cons_zero]
      rw [hl]; exact ha

theorem open_elems {α : Type} {t e : TypeId} {sz fuel : Nat} {cs : List Value} {x : DataW H × List MemPlace} {R : List Value → α → Prop} (ht : Tryz.prog.underlying t = some (.slice e)) (hc : Tryz.prog.cellsOf e = sz) (hs : 0 < sz)
    (hR : ∀ n C y, fuel = n + 1 → DataW.trod enc Tryz.prog W 0 (fun _ => true) held n e C = some y → ∃ a : α, R C a)
    (h : DataW.trod enc Tryz.prog W 0 (fun _ => true) held fuel t cs = some x) : ∃ v l, cs = [v] ∧ Elems W sz v l R := by
  rcases DataW.trod_slice ht h with ⟨rfl, _⟩ | ⟨a, len, cap, elems, rest, n, hf, rfl, _, _, hl, hm, hlen, hel, _, _⟩
  · exact ⟨_, [], rfl, by simp [maxLen], .inl ⟨rfl, rfl⟩⟩
  rw [hc] at hel
  have hall : ∀ i, i < len → ∃ b : α, ∃ C : List Value, C.length = sz ∧ (∀ j, j < sz → W.cell? ((a.add (i * sz)).add j) = C[j]?) ∧ R C b := by
    intro i hi
    have h1 := hel i hi
    rw [List.getElem?_eq_getElem (by omega)] at h1
    obtain ⟨C, hC, hy⟩ := Option.bind_eq_some_iff.1 h1
    obtain ⟨_, hCl, hcell⟩ := World.cells?_some hC
    obtain ⟨b, hb⟩ := hR n C _ hf hy
    exact ⟨b, C, hCl, hcell, hb⟩
  obtain ⟨l, hll, hq⟩ := list_of (Q := fun i b => ∃ C : List Value, C.length = sz ∧ (∀ j, j < sz → W.cell? ((a.add (i * sz)).add j) = C[j]?) ∧ R C b) len hall
  refine ⟨_, l, rfl, by omega, ?_⟩
  by_cases h0 : len = 0
  · have hl0 : l = [] := List.eq_nil_of_length_eq_zero (by omega)
    subst h0
    exact .inr (.inl ⟨a, cap, rfl, hm, hl0⟩)
  · obtain ⟨b, off, spot⟩ := a
    obtain ⟨C, hCl, hcell, _⟩ := hq 0 (by omega)
    have hc0 := hcell 0 hs
    rw [List.getElem?_eq_getElem (by omega)] at hc0
    have hspot : spot = none := by simpa [Addr.add] using World.cell?_spot hc0
    subst hspot
    refine .inr (.inr ⟨b, off, cap, by rw [hll], by omega, hm, fun h => by subst h; simp at hll; omega, ?_, fun i hi => ?_⟩)
    · have := lt_of_cell hc0; simpa [Addr.add] using this
    · obtain ⟨C, hCl, hcell, hr⟩ := hq i hi
      refine ⟨C, hCl, fun j hj => ?_, hr⟩
      have := hcell j hj
      rw [add_plain, add_plain] at this
      exact this

end Go.Proofs.YtkmmhlimihkgfaaGreat

/- An argument of a law that can be read as data is a row of operations. No condition. -/
namespace Go.Proofs.YtkmmhlimihkgfaaGreat
open Go.RowKit Go.ChangeShapes
set_option linter.unusedVariables false
set_option maxRecDepth 100000

variable {H : Type} {enc : TypeId × Value → H} {W : World} {held : Bool}

theorem opc_of {C : List Value} {o : OpV} (h : RdOp W (.agg C.toArray) o) : RdOpC W C o := by
  obtain ⟨k, n, t, e, h1, h2, h3⟩ := h
  refine ⟨k, n, t, ?_, h1, h2, h3⟩
  unfold opVal at e
  have e1 := Value.agg.inj e
  have e2 := congrArg Array.toList e1
  simpa using e2
/-- An argument that is a row of operations. -/
theorem arg_ops {r : Reach} {base : Nat} {v : Value} {d : DataW H} {p : List MemPlace} (hv : Value.okWide Tryz.prog W r base 38 v) (h : DataW.Trod enc Tryz.prog W 0 (fun _ => true) held 38 v d p) : ∃ l, RdOps W v l := by
  obtain ⟨a, len, cap, rfl⟩ := WideShapes.okWide_slice Tryz.underlying38 hv
  obtain ⟨fuel, hf⟩ := h
  obtain ⟨u, l, hu, hb⟩ := open_elems (sz := 12) (R := RdOpC W) Tryz.underlying38 (by kernel_rfl) (by omega) (fun n C y _ hy => (open_op hy).imp fun o ho => opc_of ho) hf
  simp [Value.cells] at hu
  subst hu
  exact ⟨l, hb⟩
end Go.Proofs.YtkmmhlimihkgfaaGreat
