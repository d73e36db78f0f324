/- The laws' own helpers that write a count into attributes and look for it again, by their contracts. -/
import Derived.Test.YteioihjgjbjmjaaMark
import Derived.Test.YteioihjgjbjmjaaTool
namespace Go.Proofs.Yteioihjgjbjmjaa
open Go.RowKit
set_option linter.unusedVariables false
set_option maxRecDepth 100000

/-- How many bytes attributes have. -/
def cntA : List (List Int × List Int) → Nat
  | [] => 0
  | x :: r => x.1.length + x.2.length + cntA r
/-- Attributes with a count in them, from k on. -/
def mkA : List (List Int × List Int) → Int → List (List Int × List Int)
  | [], _ => []
  | x :: r, k => (marks k x.1.length, marks (k + (x.1.length : Nat)) x.2.length) :: mkA r (k + ((x.1.length + x.2.length : Nat) : Int))
theorem mkA_len : ∀ (l : List (List Int × List Int)) (k : Int), (mkA l k).length = l.length
  | [], _ => rfl
  | x :: r, k => by simp [mkA, mkA_len r]
theorem mkA_cnt : ∀ (l : List (List Int × List Int)) (k : Int), cntA (mkA l k) = cntA l
  | [], _ => rfl
  | x :: r, k => by simp [mkA, cntA, marks_len, mkA_cnt r]
theorem mkA_app : ∀ (a b : List (List Int × List Int)) (k : Int), mkA (a ++ b) k = mkA a k ++ mkA b (k + (cntA a : Nat))
  | [], b, k => by simp [mkA, cntA]
  | x :: r, b, k => by
    simp only [List.cons_append, mkA, mkA_app r b, cntA, List.cons.injEq, true_and]
    congr 2
    omega
theorem cntA_app : ∀ (a b : List (List Int × List Int)), cntA (a ++ b) = cntA a + cntA b
  | [], b => by simp [cntA]
  | x :: r, b => by simp only [List.cons_append, cntA, cntA_app r b]; omega
theorem cntA_take (l : List (List Int × List Int)) (j : Nat) (h : j < l.length) : cntA (l.take (j + 1)) = cntA (l.take j) + (l[j].1.length + l[j].2.length) := by
  rw [List.take_succ_eq_append_getElem h, cntA_app]
  simp [cntA]
theorem cntA_le (l : List (List Int × List Int)) (j : Nat) : cntA (l.take j) ≤ cntA l := by
  have := cntA_app (l.take j) (l.drop j)
  rw [List.take_append_drop] at this
  omega
theorem mkA_at (l : List (List Int × List Int)) (k : Int) (j : Nat) (h : j < l.length) (h' : j < (mkA l k).length) : (mkA l k)[j] = (marks (k + (cntA (l.take j) : Nat)) l[j].1.length, marks (k + (cntA (l.take j) : Nat) + (l[j].1.length : Nat)) l[j].2.length) := by
  have e : mkA l k = mkA (l.take j) k ++ mkA (l.drop j) (k + (cntA (l.take j) : Nat)) := by rw [← mkA_app, List.take_append_drop]
  have e2 : l.drop j = l[j] :: l.drop (j + 1) := List.drop_eq_getElem_cons h
  have hl : (mkA (l.take j) k).length = j := by rw [mkA_len]; simp; omega
  have : (mkA l k)[j]? = some (marks (k + (cntA (l.take j) : Nat)) l[j].1.length, marks (k + (cntA (l.take j) : Nat) + (l[j].1.length : Nat)) l[j].2.length) := by
    rw [e, List.getElem?_append_right (by omega), hl, Nat.sub_self, e2, mkA]
    rfl
  rw [List.getElem?_eq_getElem h'] at this
  exact Option.some.inj this

/-- A cell of a row of elements. -/
theorem own_cellAt {w : World} {base g n cap size : Nat} {e : TypeId} {Cs : List (List Value)} (h : w.ownsRow base e size (.slice (some ⟨g, 0, none⟩) n cap) n Cs.flatten) (hC : ∀ i, i < Cs.length → (Cs.getD i []).length = size) (hl : Cs.length = n) (i j : Nat) (hi : i < n) (hj : j < size) :
    w.cell? ⟨g, i * size + j, none⟩ = (Cs.getD i [])[j]? := by
  have hlt : i * size + j < n * size := by
    have : (i + 1) * size ≤ n * size := Nat.mul_le_mul_right _ hi
    rw [Nat.succ_mul] at this; omega
  rw [h.cellAt (i * size + j) hlt]
  exact flat_at Cs size hC i j (by omega) hj
theorem nodup_part {a b : List Nat} (h : (a ++ b).Nodup) : ∀ g ∈ a, g ∉ b := fun g ha hb => by
  rw [List.nodup_append] at h
  exact h.2.2 g ha g hb rfl
theorem nodup_flat : ∀ {Fs : List (List Nat)} {i j : Nat}, Fs.flatten.Nodup → i ≠ j → ∀ g ∈ Fs.getD i [], g ∉ Fs.getD j []
  | [], i, j, _, _, g, hg, _ => by simp at hg
  | F :: Fs, i, j, h, hij, g, hg, hg' => by
    rw [List.flatten_cons] at h
    have h2 := List.nodup_append.1 h
    cases i with
    | zero =>
      cases j with
      | zero => exact hij rfl
      | succ j =>
        simp only [List.getD_cons_zero] at hg
        simp only [List.getD_cons_succ] at hg'
        exact h2.2.2 g hg g (mem_flat hg') rfl
    | succ i =>
      cases j with
      | zero =>
        simp only [List.getD_cons_zero] at hg'
        simp only [List.getD_cons_succ] at hg
        exact h2.2.2 g hg' g (mem_flat hg) rfl
      | succ j =>
        simp only [List.getD_cons_succ] at hg hg'
        exact nodup_flat (i := i) (j := j) h2.2.1 (by omega) g hg hg'
theorem nodup_at : ∀ {Fs : List (List Nat)} {i : Nat}, Fs.flatten.Nodup → (Fs.getD i []).Nodup
  | [], i, _ => by simp
  | F :: Fs, i, h => by
    rw [List.flatten_cons] at h
    have h2 := List.nodup_append.1 h
    cases i with
    | zero => simpa using h2.1
    | succ i => simpa using nodup_at (i := i) h2.2.1
theorem OwAttr.frm {w w' : World} {C : List Value} {x : List Int × List Int} {G S : List Nat} (h : OwAttr w C x G) (f : Frm w w' S) (hd : ∀ g ∈ G, g ∉ S) : OwAttr w' C x G := by
  obtain ⟨a, b, e, h1, h2, rfl⟩ := h
  exact ⟨a, b, e, h1.frm f (fun g hg => hd g (by simp [hg])), h2.frm f (fun g hg => hd g (by simp [hg])), rfl⟩
theorem own_grown_frm {w w' : World} {v : Value} (h : w.grownBy w' v.ownBlock) : Frm w w' (FB v) := Frm.ofGrown h

set_option maxHeartbeats 3200000 in
theorem markA_any (w : World) (v : Value) (l : List (List Int × List Int)) (F : List Nat) (k : Int) (h : OwAttrs w v l F) (hF : F.Nodup) (hs : cntA l ≤ 4194304) (h0 : 0 ≤ k) (h1 : k ≤ 900000000) :
    Calls Try.prog 40 #[v, .int .i64 k] w fun e w' => e = .returned (.int .i64 (k + (cntA l : Nat))) ∧ OwAttrs w' v (mkA l k) F ∧ Frm w w' F := by
  have hml := OwElems.len h
  unfold maxLen at hml
  obtain ⟨Cs, Fs, hCl, hFl, hR, hrow, rfl⟩ := h
  have hFv := nodup_part hF
  have hFn := (List.nodup_append.1 hF).2.1
  have hC : ∀ i, i < Cs.length → (Cs.getD i []).length = 2 := fun i hi => (hR i (by omega)).1
  by_cases hl0 : l = []
  · subst hl0
    have hshape : ∃ a cap, v = .slice a 0 cap := by
      rcases hrow.2 with ⟨rfl, _⟩ | ⟨g, cap, cur, rfl, _⟩
      · exact ⟨_, _, rfl⟩
      · exact ⟨_, _, rfl⟩
    obtain ⟨a, cap, rfl⟩ := hshape
    have HW := hide (show OwAttrs w (.slice a 0 cap) (mkA [] k) _ from ⟨Cs, Fs, hCl, hFl, hR, hrow, rfl⟩)
    clear hrow hR
    go_enter Try.func40, Try.ntmps40
    go_wp2_with fail
    refine wp_loop_rounds 1 ?_
    rw [rounds_succ]
    go_wp2_with fail
    go_ret
    exact ⟨by simp [cntA], unhide HW, Frm.refl _ _⟩
  have hv : ∃ g cap, v = .slice (some ⟨g, 0, none⟩) l.length cap := by
    rcases hrow.2 with ⟨_, h⟩ | ⟨g, cap, cur, rfl, _⟩
    · exact absurd (List.eq_nil_of_length_eq_zero h) hl0
    · exact ⟨g, cap, rfl⟩
  obtain ⟨g, cap, rfl⟩ := hv
  have hgF : ∀ i, g ∉ Fs.getD i [] := fun i hi => hFv g (by simp [FB, Value.ownBlock]) (mem_flat hi)
  have HR := hide hR
  have HROW := hide hrow
  have hm' : (l.length : Int) ≤ 9223372036854775807 := by omega
  clear hR hrow
  go_enter Try.func40, Try.ntmps40
  go_wp2_with fail
  go_loopw [1, 5] (fun c i wr => ∃ j : Nat, j ≤ l.length ∧ i = .int .i64 j ∧ c = .int .i64 (k + (cntA (l.take j) : Nat)) ∧ wr.ownsRow 0 88 2 (.slice (some ⟨g, 0, none⟩) l.length cap) l.length Cs.flatten ∧
      (∀ i (hi : i < (mkA l k).length), i < j → OwAttr wr (Cs.getD i []) (mkA l k)[i] (Fs.getD i [])) ∧ (∀ i (hi : i < l.length), j ≤ i → OwAttr wr (Cs.getD i []) l[i] (Fs.getD i [])) ∧ Frm w wr (FB (.slice (some ⟨g, 0, none⟩) l.length cap) ++ Fs.flatten)) (fun _ i _ => l.length - (intOf i).toNat)
  case atStart => exact ⟨0, Nat.zero_le _, rfl, by simp [cntA], unhide HROW, fun i hi hj => by omega, fun i hi _ => (unhide HR i hi).2, Frm.refl _ _⟩
  case round =>
    obtain ⟨j, hj, rfl, rfl, hr, hdone, htodo, hf⟩ := hrel
    by_cases hjl : j < l.length
    · obtain ⟨a, b, hab, ha, hb, hFj⟩ := htodo j hjl (Nat.le_refl _)
      have e0 := own_cellAt hr hC hCl j 0 hjl (by omega)
      have e1 := own_cellAt hr hC hCl j 1 hjl (by omega)
      rw [hab] at e0 e1
      simp only [List.getElem?_cons_zero, List.getElem?_cons_succ, Nat.add_zero] at e0 e1
      have hct := cntA_take l j hjl
      have hcl := cntA_le l (j + 1)
      have hFjn := nodup_at (i := j) hFn
      rw [hFj] at hFjn
      obtain ⟨pa, ca, rfl, _, _⟩ := ha.byt.shape
      obtain ⟨pb, cb, rfl, _, _⟩ := hb.byt.shape
      have hat := mkA_at l k j hjl (by rw [mkA_len]; exact hjl)
      obtain ⟨x, hx⟩ : ∃ x, x = l[j] := ⟨_, rfl⟩
      rw [← hx] at ha hb hct hat e0 e1 hab hFj hFjn
      obtain ⟨q, hq⟩ : ∃ q : Int, q = k + (cntA (l.take j) : Nat) := ⟨_, rfl⟩
      rw [← hq] at hat ⊢
      have hq0 : 0 ≤ q := by omega
      have hq1 : q ≤ 904194304 := by omega
      have HQ := hide hq
      have HX := hide hx
      have HT := hide hat
      have HCT := hide hct
      have HAB := hide hab
      have HFJ := hide hFj
      have hx1 : x.1.length ≤ 4194304 := by omega
      have hx2 : x.2.length ≤ 4194304 := by omega
      have HDN := hide hdone
      have HTD := hide htodo
      clear hq hx hat hct hab hFj hdone htodo hcl
      have hjl' : (j : Int) < (l.length : Int) := by omega
      have hj0 : (0 : Int) ≤ (j : Int) := by omega
      go_wp2_with fail
      refine (markB_any wr 0 _ x.1 q ha (Nat.le_trans hx1 (by decide)) hq0 (by omega)).mono ?_
      rintro e w1 ⟨rfl, ha1, hg1⟩
      have F1 := own_grown_frm hg1
      have hgj : ∀ p ∈ FB (.slice (some ⟨g, 0, none⟩) l.length cap), p ∉ Fs.getD j [] := fun p hp => by
        have : p = g := by simpa [FB, Value.ownBlock] using hp
        rw [this]; exact hgF j
      have r1 := ownsRow_frm hr F1 (fun p hp hp' => hgj p hp (by rw [unhide HFJ]; exact List.mem_append_left _ hp'))
      have hb1 := hb.frm F1 (fun p hp hp' => nodup_part hFjn p hp' hp)
      have e1' := own_cellAt r1 hC hCl j 1 hjl (by omega)
      rw [unhide HAB] at e1'
      simp only [List.getElem?_cons_zero, List.getElem?_cons_succ] at e1'
      clear e0 e1
      go_wp2_with fail
      refine (markB_any w1 0 _ x.2 (q + (x.1.length : Nat)) hb1 (Nat.le_trans hx2 (by decide)) (by omega) (by omega)).mono ?_
      rintro e w2 ⟨rfl, hb2, hg2⟩
      have F2 := own_grown_frm hg2
      have r2 := ownsRow_frm r1 F2 (fun p hp hp' => hgj p hp (by rw [unhide HFJ]; exact List.mem_append_right _ hp'))
      have ha2 := ha1.frm F2 (fun p hp hp' => nodup_part hFjn p hp hp')
      have F12 : Frm wr w2 (Fs.getD j []) := (F1.mono (fun p hp => by rw [unhide HFJ]; exact List.mem_append_left _ hp)).trans (F2.mono (fun p hp => by rw [unhide HFJ]; exact List.mem_append_right _ hp))
      clear e1'
      go_wp2_with fail
      go_roundw
      case rel =>
        refine ⟨j + 1, by omega, by go_num, ?_, r2, fun i hi hij => ?_, fun i hi hij => ?_, hf.trans (F12.mono (fun p hp => List.mem_append_right _ (mem_flat hp)))⟩
        · rw [unhide HCT, unhide HQ]; go_num
        · by_cases e : i = j
          · subst e
            rw [unhide HT]
            exact ⟨_, _, unhide HAB, ha2, hb2, unhide HFJ⟩
          · exact (unhide HDN i hi (by omega)).frm F12 (nodup_flat hFn e)
        · exact (unhide HTD i hi (by omega)).frm F12 (nodup_flat hFn (by omega))
      case measure => simp [intOf]; omega
    · have e : j = l.length := by omega
      subst e
      have HW := hide (show OwAttrs wr (.slice (some ⟨g, 0, none⟩) l.length cap) (mkA l k) (FB (.slice (some ⟨g, 0, none⟩) l.length cap) ++ Fs.flatten) from
        ⟨Cs, Fs, by rw [mkA_len]; exact hCl, by rw [mkA_len]; exact hFl, fun i hi => ⟨hC i (by rw [mkA_len] at hi; omega), hdone i hi (by rw [mkA_len] at hi; exact hi)⟩, by rw [mkA_len]; exact hr, rfl⟩)
      clear hdone htodo hr
      go_wp2_with fail
      go_ret
      exact ⟨by rw [List.take_length]; rfl, unhide HW, hf⟩
end Go.Proofs.Yteioihjgjbjmjaa
