/- Own texts joined: MarkA, MarkM, MarkN, MarkT, TidyF, RegI, ToT2, TextsI, TidyK, ToT3. -/
import Derived.Test.YteioihjgjbjmjaaJa
import Derived.Test.YteioihjgjbjmjaaJb
import Derived.Test.YteioihjgjbjmjaaJc
import Derived.OrdersIn
import Derived.OwnWalkIn

/- The laws' own helpers that write a count into attributes and look for it again, by their contracts. -/
namespace Go.Proofs.Yteioihjgjbjmjaa
open Go.RowKit
set_option linter.unusedVariables false
set_option maxRecDepth 100000

/-- How many bytes attributes have. -/
def cntA : List (List Int × List Int) → Nat
  | [] => 0
  | x :: r => x.1.length + x.2.length + cntA r
/-- Attributes with a count in them, from k on. -/
def mkA : List (List Int × List Int) → Int → List (List Int × List Int)
  | [], _ => []
  | x :: r, k => (marks k x.1.length, marks (k + (x.1.length : Nat)) x.2.length) :: mkA r (k + ((x.1.length + x.2.length : Nat) : Int))
theorem mkA_len : ∀ (l : List (List Int × List Int)) (k : Int), (mkA l k).length = l.length
  | [], _ => rfl
  | x :: r, k => by simp [mkA, mkA_len r]
theorem mkA_cnt : ∀ (l : List (List Int × List Int)) (k : Int), cntA (mkA l k) = cntA l
  | [], _ => rfl
  | x :: r, k => by simp [mkA, cntA, marks_len, mkA_cnt r]
theorem mkA_app : ∀ (a b : List (List Int × List Int)) (k : Int), mkA (a ++ b) k = mkA a k ++ mkA b (k + (cntA a : Nat))
  | [], b, k => by simp [mkA, cntA]
  | x :: r, b, k => by
    simp only [List.cons_append, mkA, mkA_app r b, cntA, List.cons.injEq, true_and]
    congr 2
    omega
theorem cntA_app : ∀ (a b : List (List Int × List Int)), cntA (a ++ b) = cntA a + cntA b
  | [], b => by simp [cntA]
  | x :: r, b => by simp only [List.cons_append, cntA, cntA_app r b]; omega
theorem cntA_take (l : List (List Int × List Int)) (j : Nat) (h : j < l.length) : cntA (l.take (j + 1)) = cntA (l.take j) + (l[j].1.length + l[j].2.length) := by
  rw [List.take_succ_eq_append_getElem h, cntA_app]
  simp [cntA]
theorem cntA_le (l : List (List Int × List Int)) (j : Nat) : cntA (l.take j) ≤ cntA l := by
  have := cntA_app (l.take j) (l.drop j)
  rw [List.take_append_drop] at this
  omega
theorem mkA_at (l : List (List Int × List Int)) (k : Int) (j : Nat) (h : j < l.length) (h' : j < (mkA l k).length) : (mkA l k)[j] = (marks (k + (cntA (l.take j) : Nat)) l[j].1.length, marks (k + (cntA (l.take j) : Nat) + (l[j].1.length : Nat)) l[j].2.length) := by
  have e : mkA l k = mkA (l.take j) k ++ mkA (l.drop j) (k + (cntA (l.take j) : Nat)) := by rw [← mkA_app, List.take_append_drop]
  have e2 : l.drop j = l[j] :: l.drop (j + 1) := List.drop_eq_getElem_cons h
  have hl : (mkA (l.take j) k).length = j := by rw [mkA_len]; simp; omega
  have : (mkA l k)[j]? = some (marks (k + (cntA (l.take j) : Nat)) l[j].1.length, marks (k + (cntA (l.take j) : Nat) + (l[j].1.length : Nat)) l[j].2.length) := by
    rw [e, List.getElem?_append_right (by omega), hl, Nat.sub_self, e2, mkA]
    rfl
  rw [List.getElem?_eq_getElem h'] at this
  exact Option.some.inj this

/-- A cell of a row of elements. -/
theorem own_cellAt {w : World} {base g n cap size : Nat} {e : TypeId} {Cs : List (List Value)} (h : w.ownsRow base e size (.slice (some ⟨g, 0, none⟩) n cap) n Cs.flatten) (hC : ∀ i, i < Cs.length → (Cs.getD i []).length = size) (hl : Cs.length = n) (i j : Nat) (hi : i < n) (hj : j < size) :
    w.cell? ⟨g, i * size + j, none⟩ = (Cs.getD i [])[j]? := by
  have hlt : i * size + j < n * size := by
    have : (i + 1) * size ≤ n * size := Nat.mul_le_mul_right _ hi
    rw [Nat.succ_mul] at this; omega
  rw [h.cellAt (i * size + j) hlt]
  exact flat_at Cs size hC i j (by omega) hj
theorem nodup_part {a b : List Nat} (h : (a ++ b).Nodup) : ∀ g ∈ a, g ∉ b := fun g ha hb => by
  rw [List.nodup_append] at h
  exact h.2.2 g ha g hb rfl
theorem nodup_flat : ∀ {Fs : List (List Nat)} {i j : Nat}, Fs.flatten.Nodup → i ≠ j → ∀ g ∈ Fs.getD i [], g ∉ Fs.getD j []
  | [], i, j, _, _, g, hg, _ => by simp at hg
  | F :: Fs, i, j, h, hij, g, hg, hg' => by
    rw [List.flatten_cons] at h
    have h2 := List.nodup_append.1 h
    cases i with
    | zero =>
      cases j with
      | zero => exact hij rfl
      | succ j =>
        simp only [List.getD_cons_zero] at hg
        simp only [List.getD_cons_succ] at hg'
        exact h2.2.2 g hg g (mem_flat hg') rfl
    | succ i =>
      cases j with
      | zero =>
        simp only [List.getD_cons_zero] at hg'
        simp only [List.getD_cons_succ] at hg
        exact h2.2.2 g hg' g (mem_flat hg) rfl
      | succ j =>
        simp only [List.getD_cons_succ] at hg hg'
        exact nodup_flat (i := i) (j := j) h2.2.1 (by omega) g hg hg'
theorem nodup_at : ∀ {Fs : List (List Nat)} {i : Nat}, Fs.flatten.Nodup → (Fs.getD i []).Nodup
  | [], i, _ => by simp
  | F :: Fs, i, h => by
    rw [List.flatten_cons] at h
    have h2 := List.nodup_append.1 h
    cases i with
    | zero => simpa using h2.1
    | succ i => simpa using nodup_at (i := i) h2.2.1
theorem OwAttr.frm {w w' : World} {C : List Value} {x : List Int × List Int} {G S : List Nat} (h : OwAttr w C x G) (f : Frm w w' S) (hd : ∀ g ∈ G, g ∉ S) : OwAttr w' C x G := by
  obtain ⟨a, b, e, h1, h2, rfl⟩ := h
  exact ⟨a, b, e, h1.frm f (fun g hg => hd g (by simp [hg])), h2.frm f (fun g hg => hd g (by simp [hg])), rfl⟩
theorem own_grown_frm {w w' : World} {v : Value} (h : w.grownBy w' v.ownBlock) : Frm w w' (FB v) := Frm.ofGrown h

set_option maxHeartbeats 3200000 in
theorem markA_any (w : World) (v : Value) (l : List (List Int × List Int)) (F : List Nat) (k : Int) (h : OwAttrs w v l F) (hF : F.Nodup) (hs : cntA l ≤ 4194304) (h0 : 0 ≤ k) (h1 : k ≤ 900000000) :
    Calls Try.prog 40 #[v, .int .i64 k] w fun e w' => e = .returned (.int .i64 (k + (cntA l : Nat))) ∧ OwAttrs w' v (mkA l k) F ∧ Frm w w' F := by
  have hml := OwElems.len h
  unfold maxLen at hml
  obtain ⟨Cs, Fs, hCl, hFl, hR, hrow, rfl⟩ := h
  have hFv := nodup_part hF
  have hFn := (List.nodup_append.1 hF).2.1
  have hC : ∀ i, i < Cs.length → (Cs.getD i []).length = 2 := fun i hi => (hR i (by omega)).1
  by_cases hl0 : l = []
  · subst hl0
    have hshape : ∃ a cap, v = .slice a 0 cap := by
      rcases hrow.2 with ⟨rfl, _⟩ | ⟨g, cap, cur, rfl, _⟩
      · exact ⟨_, _, rfl⟩
      · exact ⟨_, _, rfl⟩
    obtain ⟨a, cap, rfl⟩ := hshape
    have HW := hide (show OwAttrs w (.slice a 0 cap) (mkA [] k) _ from ⟨Cs, Fs, hCl, hFl, hR, hrow, rfl⟩)
    clear hrow hR
    go_enter Try.func40, Try.ntmps40
    go_wp2_with fail
    refine wp_loop_rounds 1 ?_
    rw [rounds_succ]
    go_wp2_with fail
    go_ret
    exact ⟨by simp [cntA], unhide HW, Frm.refl _ _⟩
  have hv : ∃ g cap, v = .slice (some ⟨g, 0, none⟩) l.length cap := by
    rcases hrow.2 with ⟨_, h⟩ | ⟨g, cap, cur, rfl, _⟩
    · exact absurd (List.eq_nil_of_length_eq_zero h) hl0
    · exact ⟨g, cap, rfl⟩
  obtain ⟨g, cap, rfl⟩ := hv
  have hgF : ∀ i, g ∉ Fs.getD i [] := fun i hi => hFv g (by simp [FB, Value.ownBlock]) (mem_flat hi)
  have HR := hide hR
  have HROW := hide hrow
  have hm' : (l.length : Int) ≤ 9223372036854775807 := by omega
  clear hR hrow
  go_enter Try.func40, Try.ntmps40
  go_wp2_with fail
  go_loopw [1, 5] (fun c i wr => ∃ j : Nat, j ≤ l.length ∧ i = .int .i64 j ∧ c = .int .i64 (k + (cntA (l.take j) : Nat)) ∧ wr.ownsRow 0 88 2 (.slice (some ⟨g, 0, none⟩) l.length cap) l.length Cs.flatten ∧
      (∀ i (hi : i < (mkA l k).length), i < j → OwAttr wr (Cs.getD i []) (mkA l k)[i] (Fs.getD i [])) ∧ (∀ i (hi : i < l.length), j ≤ i → OwAttr wr (Cs.getD i []) l[i] (Fs.getD i [])) ∧ Frm w wr (FB (.slice (some ⟨g, 0, none⟩) l.length cap) ++ Fs.flatten)) (fun _ i _ => l.length - (intOf i).toNat)
  case atStart => exact ⟨0, Nat.zero_le _, rfl, by simp [cntA], unhide HROW, fun i hi hj => by omega, fun i hi _ => (unhide HR i hi).2, Frm.refl _ _⟩
  case round =>
    obtain ⟨j, hj, rfl, rfl, hr, hdone, htodo, hf⟩ := hrel
    by_cases hjl : j < l.length
    · obtain ⟨a, b, hab, ha, hb, hFj⟩ := htodo j hjl (Nat.le_refl _)
      have e0 := own_cellAt hr hC hCl j 0 hjl (by omega)
      have e1 := own_cellAt hr hC hCl j 1 hjl (by omega)
      rw [hab] at e0 e1
      simp only [List.getElem?_cons_zero, List.getElem?_cons_succ, Nat.add_zero] at e0 e1
      have hct := cntA_take l j hjl
      have hcl := cntA_le l (j + 1)
      have hFjn := nodup_at (i := j) hFn
      rw [hFj] at hFjn
      obtain ⟨pa, ca, rfl, _, _⟩ := ha.byt.shape
      obtain ⟨pb, cb, rfl, _, _⟩ := hb.byt.shape
      have hat := mkA_at l k j hjl (by rw [mkA_len]; exact hjl)
      obtain ⟨x, hx⟩ : ∃ x, x = l[j] := ⟨_, rfl⟩
      rw [← hx] at ha hb hct hat e0 e1 hab hFj hFjn
      obtain ⟨q, hq⟩ : ∃ q : Int, q = k + (cntA (l.take j) : Nat) := ⟨_, rfl⟩
      rw [← hq] at hat ⊢
      have hq0 : 0 ≤ q := by omega
      have hq1 : q ≤ 904194304 := by omega
      have HQ := hide hq
      have HX := hide hx
      have HT := hide hat
      have HCT := hide hct
      have HAB := hide hab
      have HFJ := hide hFj
      have hx1 : x.1.length ≤ 4194304 := by omega
      have hx2 : x.2.length ≤ 4194304 := by omega
      have HDN := hide hdone
      have HTD := hide htodo
      clear hq hx hat hct hab hFj hdone htodo hcl
      have hjl' : (j : Int) < (l.length : Int) := by omega
      have hj0 : (0 : Int) ≤ (j : Int) := by omega
      go_wp2_with fail
      refine (markB_any wr 0 _ x.1 q ha (Nat.le_trans hx1 (by decide)) hq0 (by omega)).mono ?_
      rintro e w1 ⟨rfl, ha1, hg1⟩
      have F1 := own_grown_frm hg1
      have hgj : ∀ p ∈ FB (.slice (some ⟨g, 0, none⟩) l.length cap), p ∉ Fs.getD j [] := fun p hp => by
        have : p = g := by simpa [FB, Value.ownBlock] using hp
        rw [this]; exact hgF j
      have r1 := ownsRow_frm hr F1 (fun p hp hp' => hgj p hp (by rw [unhide HFJ]; exact List.mem_append_left _ hp'))
      have hb1 := hb.frm F1 (fun p hp hp' => nodup_part hFjn p hp' hp)
      have e1' := own_cellAt r1 hC hCl j 1 hjl (by omega)
      rw [unhide HAB] at e1'
      simp only [List.getElem?_cons_zero, List.getElem?_cons_succ] at e1'
      clear e0 e1
      go_wp2_with fail
      refine (markB_any w1 0 _ x.2 (q + (x.1.length : Nat)) hb1 (Nat.le_trans hx2 (by decide)) (by omega) (by omega)).mono ?_
      rintro e w2 ⟨rfl, hb2, hg2⟩
      have F2 := own_grown_frm hg2
      have r2 := ownsRow_frm r1 F2 (fun p hp hp' => hgj p hp (by rw [unhide HFJ]; exact List.mem_append_right _ hp'))
      have ha2 := ha1.frm F2 (fun p hp hp' => nodup_part hFjn p hp hp')
      have F12 : Frm wr w2 (Fs.getD j []) := (F1.mono (fun p hp => by rw [unhide HFJ]; exact List.mem_append_left _ hp)).trans (F2.mono (fun p hp => by rw [unhide HFJ]; exact List.mem_append_right _ hp))
      clear e1'
      go_wp2_with fail
      go_roundw
      case rel =>
        refine ⟨j + 1, by omega, by go_num, ?_, r2, fun i hi hij => ?_, fun i hi hij => ?_, hf.trans (F12.mono (fun p hp => List.mem_append_right _ (mem_flat hp)))⟩
        · rw [unhide HCT, unhide HQ]; go_num
        · by_cases e : i = j
          · subst e
            rw [unhide HT]
            exact ⟨_, _, unhide HAB, ha2, hb2, unhide HFJ⟩
          · exact (unhide HDN i hi (by omega)).frm F12 (nodup_flat hFn e)
        · exact (unhide HTD i hi (by omega)).frm F12 (nodup_flat hFn (by omega))
      case measure => simp [intOf]; omega
    · have e : j = l.length := by omega
      subst e
      have HW := hide (show OwAttrs wr (.slice (some ⟨g, 0, none⟩) l.length cap) (mkA l k) (FB (.slice (some ⟨g, 0, none⟩) l.length cap) ++ Fs.flatten) from
        ⟨Cs, Fs, by rw [mkA_len]; exact hCl, by rw [mkA_len]; exact hFl, fun i hi => ⟨hC i (by rw [mkA_len] at hi; omega), hdone i hi (by rw [mkA_len] at hi; exact hi)⟩, by rw [mkA_len]; exact hr, rfl⟩)
      clear hdone htodo hr
      go_wp2_with fail
      go_ret
      exact ⟨by rw [List.take_length]; rfl, unhide HW, hf⟩
end Go.Proofs.Yteioihjgjbjmjaa

/- Trees with a count in them: plain mathematics. -/
namespace Go.Proofs.Yteioihjgjbjmjaa
open Go.RowKit
set_option linter.unusedVariables false

/-- How much is counted of a row of members: one for each, and what f says. -/
def cntL {α : Type} (f : α → Nat) : List α → Nat
  | [] => 0
  | x :: r => 1 + f x + cntL f r
theorem cntL_app {α : Type} (f : α → Nat) : ∀ a b : List α, cntL f (a ++ b) = cntL f a + cntL f b
  | [], b => by simp [cntL]
  | x :: r, b => by simp only [List.cons_append, cntL, cntL_app f r b]; omega
theorem cntL_take {α : Type} (f : α → Nat) (l : List α) (j : Nat) (h : j < l.length) : cntL f (l.take (j + 1)) = cntL f (l.take j) + (1 + f l[j]) := by
  rw [List.take_succ_eq_append_getElem h, cntL_app]
  simp [cntL]
theorem cntL_le {α : Type} (f : α → Nat) (l : List α) (j : Nat) : cntL f (l.take j) ≤ cntL f l := by
  have := cntL_app f (l.take j) (l.drop j)
  rw [List.take_append_drop] at this
  omega
def mkL {α : Type} (c : α → Nat) (f : α → Int → α) : List α → Int → List α
  | [], _ => []
  | x :: r, k => f x k :: mkL c f r (k + ((1 + c x : Nat) : Int))
theorem mkL_len {α : Type} (c : α → Nat) (f : α → Int → α) : ∀ (l : List α) (k : Int), (mkL c f l k).length = l.length
  | [], _ => rfl
  | x :: r, k => by simp [mkL, mkL_len c f r]
theorem mkL_app {α : Type} (c : α → Nat) (f : α → Int → α) : ∀ (a b : List α) (k : Int), mkL c f (a ++ b) k = mkL c f a k ++ mkL c f b (k + (cntL c a : Nat))
  | [], b, k => by simp [mkL, cntL]
  | x :: r, b, k => by
    simp only [List.cons_append, mkL, mkL_app c f r b, cntL, List.cons.injEq, true_and]
    congr 2
    omega
theorem mkL_at {α : Type} (c : α → Nat) (f : α → Int → α) (l : List α) (k : Int) (j : Nat) (h : j < l.length) (h' : j < (mkL c f l k).length) : (mkL c f l k)[j] = f l[j] (k + (cntL c (l.take j) : Nat)) := by
  have e : mkL c f l k = mkL c f (l.take j) k ++ mkL c f (l.drop j) (k + (cntL c (l.take j) : Nat)) := by rw [← mkL_app, List.take_append_drop]
  have e2 : l.drop j = l[j] :: l.drop (j + 1) := List.drop_eq_getElem_cons h
  have hl : (mkL c f (l.take j) k).length = j := by rw [mkL_len]; simp; omega
  have : (mkL c f l k)[j]? = some (f l[j] (k + (cntL c (l.take j) : Nat))) := by
    rw [e, List.getElem?_append_right (by omega), hl, Nat.sub_self, e2, mkL]
    rfl
  rw [List.getElem?_eq_getElem h'] at this
  exact Option.some.inj this

/-- How much is counted of a tree, its own kind aside. -/
def cntT : (n : Nat) → Tr n → Nat
  | 0 => fun _ => 0
  | n + 1 => fun t => t.name.length + t.text.length + cntA t.attrs + cntL (cntT n) t.kids
theorem cntT_succ (n : Nat) (t : Tr (n + 1)) : cntT (n + 1) t = t.name.length + t.text.length + cntA t.attrs + cntL (cntT n) t.kids := rfl
/-- Another kind. -/
def skT : (n : Nat) → Tr n → Int → Tr n
  | 0 => fun t _ => t
  | n + 1 => fun t z => (⟨z, t.name, t.text, t.attrs, t.kids⟩ : Nd (Tr n))
/-- A tree with a count in it, from k on, its own kind aside. -/
def mkT' : (n : Nat) → Tr n → Int → Tr n
  | 0 => fun t _ => t
  | n + 1 => fun t k => (⟨t.kind, marks k t.name.length, marks (k + (t.name.length : Nat)) t.text.length, mkA t.attrs (k + (t.name.length : Nat) + (t.text.length : Nat)), mkL (cntT n) (fun x k => skT n (mkT' n x (k + 1)) k) t.kids (k + (t.name.length : Nat) + (t.text.length : Nat) + (cntA t.attrs : Nat))⟩ : Nd (Tr n))
/-- A member of a row, its kind too. -/
def mkN (n : Nat) (x : Tr n) (k : Int) : Tr n := skT n (mkT' n x (k + 1)) k
def mkK (n : Nat) (l : List (Tr n)) (k : Int) : List (Tr n) := mkL (cntT n) (mkN n) l k
theorem mkT'_succ (n : Nat) (t : Tr (n + 1)) (k : Int) : mkT' (n + 1) t k = (⟨t.kind, marks k t.name.length, marks (k + (t.name.length : Nat)) t.text.length, mkA t.attrs (k + (t.name.length : Nat) + (t.text.length : Nat)), mkK n t.kids (k + (t.name.length : Nat) + (t.text.length : Nat) + (cntA t.attrs : Nat))⟩ : Nd (Tr n)) := rfl
theorem mkK_len (n : Nat) (l : List (Tr n)) (k : Int) : (mkK n l k).length = l.length := mkL_len _ _ l k
theorem mkK_at (n : Nat) (l : List (Tr n)) (k : Int) (j : Nat) (h : j < l.length) (h' : j < (mkK n l k).length) : (mkK n l k)[j] = mkN n l[j] (k + (cntL (cntT n) (l.take j) : Nat)) := mkL_at _ _ l k j h h'

theorem flat_set (Cs : List (List Value)) (size : Nat) (hs : 0 < size) (h : ∀ i, i < Cs.length → (Cs.getD i []).length = size) (j : Nat) (hj : j < Cs.length) (v : Value) : (Cs.set j ((Cs.getD j []).set 0 v)).flatten = Cs.flatten.set (j * size) v := by
  induction Cs generalizing j with
  | nil => simp at hj
  | cons C Cs ih =>
    have h0 : C.length = size := by simpa using h 0 (by simp)
    cases j with
    | zero =>
      simp only [List.set_cons_zero, List.getD_cons_zero, List.flatten_cons, Nat.zero_mul]
      rw [List.set_append_left _ _ (by omega)]
    | succ j =>
      have e : (j + 1) * size = C.length + j * size := by rw [h0, Nat.succ_mul]; omega
      rw [List.set_cons_succ, List.flatten_cons, List.flatten_cons, List.getD_cons_succ, e, List.set_append_right _ _ (by omega), Nat.add_sub_cancel_left]
      rw [ih (fun k hk => by simpa using h (k + 1) (by simpa using hk)) j (by simpa using hj)]
end Go.Proofs.Yteioihjgjbjmjaa

/- The laws' own helpers that write a count into trees, by their contracts. -/
namespace Go.Proofs.Yteioihjgjbjmjaa
open Go.RowKit
set_option linter.unusedVariables false
set_option maxRecDepth 100000

def MarkKSaid (n : Nat) : Prop := ∀ (w : World) (v : Value) (l : List (Tr n)) (F : List Nat) (k : Int), OwKids n w v l F → F.Nodup → cntL (cntT n) l ≤ 4194304 → 0 ≤ k → k + (cntL (cntT n) l : Nat) ≤ 800000000 →
    Calls Try.prog 41 #[v, .int .i64 k] w fun e w' => e = .returned (.int .i64 (k + (cntL (cntT n) l : Nat))) ∧ OwKids n w' v (mkK n l k) F ∧ Frm w w' F

theorem markK_nil (w : World) (a : Option Addr) (cap : Nat) (k : Int) :
    Calls Try.prog 41 #[.slice a 0 cap, .int .i64 k] w fun e w' => e = .returned (.int .i64 k) ∧ w' = w := by
  go_enter Try.func41, Try.ntmps41
  go_wp2_with fail
  refine wp_loop_rounds 1 ?_
  rw [rounds_succ]
  go_wp2_with fail
  go_ret
  exact ⟨rfl, rfl⟩
theorem own_nil_shape {w : World} {base : Nat} {e : TypeId} {size n : Nat} {v : Value} {xs : List Value} (h : w.ownsRow base e size v n xs) : ∃ a cap, v = .slice a n cap := by
  rcases h.2 with ⟨rfl, rfl⟩ | ⟨g, cap, cur, rfl, _⟩
  · exact ⟨_, _, rfl⟩
  · exact ⟨_, _, rfl⟩
theorem markK_empty (n : Nat) (w : World) (v : Value) (F : List Nat) (k : Int) (h : OwKids n w v [] F) :
    Calls Try.prog 41 #[v, .int .i64 k] w fun e w' => e = .returned (.int .i64 (k + (cntL (cntT n) [] : Nat))) ∧ OwKids n w' v (mkK n [] k) F ∧ Frm w w' F := by
  obtain ⟨Cs, Fs, hCl, hFl, hR, hrow, hF⟩ := h
  obtain ⟨a, cap, rfl⟩ := own_nil_shape hrow
  refine (markK_nil w a cap k).mono ?_
  rintro e w' ⟨rfl, rfl⟩
  exact ⟨by simp [cntL], ⟨Cs, Fs, hCl, hFl, hR, hrow, hF⟩, Frm.refl _ _⟩

theorem OwKids.cellsLen {n : Nat} {w : World} {C : List Value} {t : Tr n} {F : List Nat} (h : OwNode n w C t F) : C.length = 5 := by
  cases n with
  | zero => exact t.elim
  | succ n => obtain ⟨a, b, c, d, Fc, Fd, rfl, _⟩ := h; rfl
theorem nodup4 {a b c d : List Nat} (h : (a ++ b ++ c ++ d).Nodup) : (∀ g ∈ a, g ∉ b ∧ g ∉ c ∧ g ∉ d) ∧ (∀ g ∈ b, g ∉ c ∧ g ∉ d) ∧ (∀ g ∈ c, g ∉ d) ∧ c.Nodup ∧ d.Nodup := by
  have h1 := List.nodup_append.1 h
  have h2 := List.nodup_append.1 h1.1
  have h3 := List.nodup_append.1 h2.1
  refine ⟨fun g ha => ⟨fun hb => h3.2.2 g ha g hb rfl, fun hc => h2.2.2 g (List.mem_append_left _ ha) g hc rfl, fun hd => h1.2.2 g (List.mem_append_left _ (List.mem_append_left _ ha)) g hd rfl⟩,
    fun g hb => ⟨fun hc => h2.2.2 g (List.mem_append_right _ hb) g hc rfl, fun hd => h1.2.2 g (List.mem_append_left _ (List.mem_append_right _ hb)) g hd rfl⟩,
    fun g hc hd => h1.2.2 g (List.mem_append_right _ hc) g hd rfl, h2.2.1, h1.2.1⟩

set_option maxHeartbeats 6400000 in
theorem markK_succ (n : Nat) (H : MarkKSaid n) : MarkKSaid (n + 1) := by
  intro w v l F k h hF hs h0 h1
  have hml := OwElems.len h
  unfold maxLen at hml
  by_cases hl0 : l = []
  · subst hl0; exact markK_empty (n + 1) w v F k h
  obtain ⟨Cs, Fs, hCl, hFl, hR, hrow, rfl⟩ := h
  have hFv := nodup_part hF
  have hFn := (List.nodup_append.1 hF).2.1
  have hv : ∃ g cap, v = .slice (some ⟨g, 0, none⟩) l.length cap := by
    rcases hrow.2 with ⟨_, h⟩ | ⟨g, cap, cur, rfl, _⟩
    · exact absurd (List.eq_nil_of_length_eq_zero h) hl0
    · exact ⟨g, cap, rfl⟩
  obtain ⟨g, cap, rfl⟩ := hv
  have hgF : ∀ i, g ∉ Fs.getD i [] := fun i hi => hFv g (by simp [FB, Value.ownBlock]) (mem_flat hi)
  have hFB : FB (.slice (some ⟨g, 0, none⟩) l.length cap) = [g] := rfl
  rw [hFB] at hF hFv ⊢
  have HR := hide hR
  have HROW := hide hrow
  have hm' : (l.length : Int) ≤ 9223372036854775807 := by omega
  clear hR hrow hFB
  go_enter Try.func41, Try.ntmps41
  go_wp2_with fail
  go_loopw [1, 5] (fun c i wr => ∃ j : Nat, j ≤ l.length ∧ i = .int .i64 j ∧ c = .int .i64 (k + (cntL (cntT (n + 1)) (l.take j) : Nat)) ∧ ∃ Ds : List (List Value), Ds.length = l.length ∧ wr.ownsRow 0 32 5 (.slice (some ⟨g, 0, none⟩) l.length cap) l.length Ds.flatten ∧
      (∀ i (hi : i < (mkK (n + 1) l k).length), i < j → OwNode (n + 1) wr (Ds.getD i []) (mkK (n + 1) l k)[i] (Fs.getD i [])) ∧ (∀ i (hi : i < l.length), j ≤ i → OwNode (n + 1) wr (Ds.getD i []) l[i] (Fs.getD i [])) ∧ Frm w wr ([g] ++ Fs.flatten)) (fun _ i _ => l.length - (intOf i).toNat)
  case atStart => exact ⟨0, Nat.zero_le _, rfl, by simp [cntL], Cs, hCl, unhide HROW, fun i hi hj => by omega, fun i hi _ => (unhide HR i hi).2, Frm.refl _ _⟩
  case round =>
    obtain ⟨j, hj, rfl, rfl, Ds, hDl, hr, hdone, htodo, hf⟩ := hrel
    have hD : ∀ i, i < Ds.length → (Ds.getD i []).length = 5 := fun i hi => by
      by_cases hij : i < j
      · exact OwKids.cellsLen (hdone i (by rw [mkK_len]; omega) hij)
      · exact OwKids.cellsLen (htodo i (by omega) (by omega))
    by_cases hjl : j < l.length
    · obtain ⟨a, b, c, d, Fc, Fd, hab, hk1, hk2, ha, hb, hc, hd, hFj⟩ := htodo j hjl (Nat.le_refl _)
      have hct := cntL_take (cntT (n + 1)) l j hjl
      have hcl := cntL_le (cntT (n + 1)) l (j + 1)
      have hcs := cntT_succ n l[j]
      have hat := mkK_at (n + 1) l k j hjl (by rw [mkK_len]; exact hjl)
      obtain ⟨x, hx⟩ : ∃ x, x = l[j] := ⟨_, rfl⟩
      rw [← hx] at ha hb hc hd hct hcs hat hab hk1 hk2
      obtain ⟨q, hq⟩ : ∃ q : Int, q = k + (cntL (cntT (n + 1)) (l.take j) : Nat) := ⟨_, rfl⟩
      rw [← hq] at hat ⊢
      have hq0 : 0 ≤ q := by omega
      have hq1 : q + (1 + cntT (n + 1) x : Nat) ≤ 800000000 := by omega
      rw [hcs] at hq1
      obtain ⟨pa, ca, rfl, _, _⟩ := ha.byt.shape
      obtain ⟨pb, cb, rfl, _, _⟩ := hb.byt.shape
      obtain ⟨pc, cc, rfl, _, _⟩ := Elems.shape (OwAttrs.rd hc)
      obtain ⟨pd, cd, rfl, _, _⟩ := Elems.shape (OwKids.rd hd)
      have hFjn := nodup_at (i := j) hFn
      rw [hFj] at hFjn
      obtain ⟨na, nb', nc', hFcn, hFdn⟩ := nodup4 hFjn
      have e0 := own_cellAt hr hD hDl j 0 hjl (by omega)
      rw [hab] at e0
      simp only [List.getElem?_cons_zero, Nat.add_zero] at e0
      have f0 := hr.frozenAt (j * 5)
      have hst := hr.stored (j * 5) (.int .i64 q)
      rw [← flat_set Ds 5 (by omega) hD j (by omega)] at hst
      rw [hab, List.set_cons_zero] at hst
      obtain ⟨Es, hEs⟩ : ∃ Es, Es = Ds.set j [.int .i64 q, .slice pa x.name.length ca, .slice pb x.text.length cb, .slice pc x.attrs.length cc, .slice pd x.kids.length cd] := ⟨_, rfl⟩
      rw [← hEs] at hst
      have hEl : Es.length = l.length := by rw [hEs]; simpa using hDl
      have hEj : Es.getD j [] = [.int .i64 q, .slice pa x.name.length ca, .slice pb x.text.length cb, .slice pc x.attrs.length cc, .slice pd x.kids.length cd] := by rw [hEs]; simp [List.getD_eq_getElem?_getD, show j < Ds.length by omega]
      have hEo : ∀ i, i ≠ j → Es.getD i [] = Ds.getD i [] := fun i hi => by rw [hEs]; simp [List.getD_eq_getElem?_getD, Ne.symm hi]
      have hE : ∀ i, i < Es.length → (Es.getD i []).length = 5 := fun i hi => by
        by_cases e : i = j
        · rw [e, hEj]; rfl
        · rw [hEo i e]; exact hD i (by omega)
      obtain ⟨r1, hg1⟩ := hst
      have F1 : Frm wr (wr.setCell ⟨g, j * 5, none⟩ (.int .i64 q)) [g] := Frm.ofGrown hg1
      have c1 := own_cellAt r1 hE hEl j 1 hjl (by omega)
      rw [hEj] at c1
      simp only [List.getElem?_cons_zero, List.getElem?_cons_succ] at c1
      have HX := hide hx
      have HQ := hide hq
      have HT := hide hat
      have HCT := hide hct
      have HCS := hide hcs
      have HFJ := hide hFj
      have HDN := hide hdone
      have HTD := hide htodo
      have HEJ := hide hEj
      have hx1 : x.name.length ≤ 4194304 := by omega
      have hx2 : x.text.length ≤ 4194304 := by omega
      have hx3 : cntA x.attrs ≤ 4194304 := by omega
      have hx4 : cntL (cntT n) x.kids ≤ 4194304 := by omega
      have hxs : x.name.length + x.text.length + cntA x.attrs + cntL (cntT n) x.kids ≤ 4194304 := by omega
      have hjl' : (j : Int) < (l.length : Int) := by omega
      have hgj : ∀ p ∈ FB (.slice (some ⟨g, 0, none⟩) l.length cap), p ∉ Fs.getD j [] := fun p hp => by
        have : p = g := by simpa [FB, Value.ownBlock] using hp
        rw [this]; exact hgF j
      have hgn : g ∉ Fs.getD j [] := hgF j
      rw [unhide HFJ] at hgn hgj
      simp only [List.mem_append, not_or] at hgn hgj
      obtain ⟨⟨⟨hga, hgb⟩, hgc⟩, hgd⟩ := hgn
      have ha1 := ha.frm F1 (fun p hp hp' => by simp at hp'; subst hp'; exact hga hp)
      have hb1 := hb.frm F1 (fun p hp hp' => by simp at hp'; subst hp'; exact hgb hp)
      have hc1 := OwAttrs.frm hc F1 (fun p hp hp' => by simp at hp'; subst hp'; exact hgc hp)
      have hd1 := OwKids.frm hd F1 (fun p hp hp' => by simp at hp'; subst hp'; exact hgd hp)
      clear hx hq hat hct hcs hFj hdone htodo hcl hr hEj hEs hab ha hb hc hd hFjn
      go_wp2_with fail
      generalize wr.setCell ⟨g, j * 5, none⟩ (.int .i64 q) = w1 at *
      clear e0 f0 c1 hg1
      refine (markB_any w1 0 _ x.name (q + 1) ha1 (Nat.le_trans hx1 (by decide)) (by omega) (by omega)).mono ?_
      rintro e w2 ⟨rfl, ha2, hg2⟩
      have F2 := own_grown_frm hg2
      have r2 := ownsRow_frm r1 F2 (fun p hp hp' => (hgj p hp).1.1.1 hp')
      have hb2 := hb1.frm F2 (fun p hp hp' => (na p hp').1 hp)
      have hc2 := OwAttrs.frm hc1 F2 (fun p hp hp' => (na p hp').2.1 hp)
      have hd2 := OwKids.frm hd1 F2 (fun p hp hp' => (na p hp').2.2 hp)
      have c2 := own_cellAt r2 hE hEl j 2 hjl (by omega)
      rw [unhide HEJ] at c2
      simp only [List.getElem?_cons_zero, List.getElem?_cons_succ] at c2
      clear ha1 hb1 hc1 hd1 hg2
      go_wp2_with fail
      clear c2
      refine (markB_any w2 0 _ x.text (q + 1 + (x.name.length : Nat)) hb2 (Nat.le_trans hx2 (by decide)) (by omega) (by omega)).mono ?_
      rintro e w3 ⟨rfl, hb3, hg3⟩
      have F3 := own_grown_frm hg3
      have r3 := ownsRow_frm r2 F3 (fun p hp hp' => (hgj p hp).1.1.2 hp')
      have ha3 := ha2.frm F3 (fun p hp hp' => (na p hp).1 hp')
      have hc3 := OwAttrs.frm hc2 F3 (fun p hp hp' => (nb' p hp').1 hp)
      have hd3 := OwKids.frm hd2 F3 (fun p hp hp' => (nb' p hp').2 hp)
      have c3 := own_cellAt r3 hE hEl j 3 hjl (by omega)
      rw [unhide HEJ] at c3
      simp only [List.getElem?_cons_zero, List.getElem?_cons_succ] at c3
      clear ha2 hb2 hc2 hd2 hg3
      go_wp2_with fail
      clear c3
      refine (markA_any w3 _ x.attrs Fc (q + 1 + (x.name.length : Nat) + (x.text.length : Nat)) hc3 hFcn hx3 (by omega) (by omega)).mono ?_
      rintro e w4 ⟨rfl, hc4, F4⟩
      have r4 := ownsRow_frm r3 F4 (fun p hp hp' => (hgj p hp).1.2 hp')
      have ha4 := ha3.frm F4 (fun p hp hp' => (na p hp).2.1 hp')
      have hb4 := hb3.frm F4 (fun p hp hp' => (nb' p hp).1 hp')
      have hd4 := OwKids.frm hd3 F4 (fun p hp hp' => nc' p hp' hp)
      have c4 := own_cellAt r4 hE hEl j 4 hjl (by omega)
      rw [unhide HEJ] at c4
      simp only [List.getElem?_cons_zero, List.getElem?_cons_succ] at c4
      clear ha3 hb3 hc3 hd3
      go_wp2_with fail
      clear c4
      refine (H w4 _ x.kids Fd (q + 1 + (x.name.length : Nat) + (x.text.length : Nat) + (cntA x.attrs : Nat)) hd4 hFdn hx4 (by omega) (by omega)).mono ?_
      rintro e w5 ⟨rfl, hd5, F5⟩
      have r5 := ownsRow_frm r4 F5 (fun p hp hp' => (hgj p hp).2 hp')
      have ha5 := ha4.frm F5 (fun p hp hp' => (na p hp).2.2 hp')
      have hb5 := hb4.frm F5 (fun p hp hp' => (nb' p hp).2 hp')
      have hc5 := OwAttrs.frm hc4 F5 (fun p hp hp' => nc' p hp hp')
      have FJ : Frm wr w5 ([g] ++ Fs.getD j []) := by
        have m1 : ∀ p, p ∈ FB (Value.slice pa x.name.length ca) → p ∈ [g] ++ Fs.getD j [] := fun p hp => by rw [unhide HFJ]; simp [hp]
        have m2 : ∀ p, p ∈ FB (Value.slice pb x.text.length cb) → p ∈ [g] ++ Fs.getD j [] := fun p hp => by rw [unhide HFJ]; simp [hp]
        have m3 : ∀ p, p ∈ Fc → p ∈ [g] ++ Fs.getD j [] := fun p hp => by rw [unhide HFJ]; simp [hp]
        have m4 : ∀ p, p ∈ Fd → p ∈ [g] ++ Fs.getD j [] := fun p hp => by rw [unhide HFJ]; simp [hp]
        exact ((((F1.mono (fun p hp => List.mem_append_left _ hp)).trans (F2.mono m1)).trans (F3.mono m2)).trans (F4.mono m3)).trans (F5.mono m4)
      clear ha4 hb4 hc4 hd4 F1 F2 F3 F4 F5 r1 r2 r3 r4
      go_wp2_with fail
      go_roundw
      case rel =>
        refine ⟨j + 1, by omega, by go_num, ?_, Es, hEl, r5, fun i hi hij => ?_, fun i hi hij => ?_, hf.trans (FJ.mono (fun p hp => ?_))⟩
        · rw [unhide HCT, unhide HCS, unhide HQ]; go_num
        · by_cases e : i = j
          · subst e
            rw [unhide HT, unhide HEJ]
            have hl2 : (mkK n x.kids (q + 1 + (x.name.length : Nat) + (x.text.length : Nat) + (cntA x.attrs : Nat))).length = x.kids.length := mkK_len _ _ _
            exact ⟨_, _, _, _, Fc, Fd, rfl, by show (-9223372036854775808 : Int) ≤ q; omega, by show q ≤ (9223372036854775807 : Int); omega, ha5, hb5, hc5, hd5, unhide HFJ⟩
          · rw [hEo i e]
            exact (unhide HDN i hi (by omega)).frm FJ (fun p hp hp' => by
              rcases List.mem_append.1 hp' with h | h
              · simp at h; subst h; exact hgF i hp
              · exact nodup_flat hFn e p hp h)
        · rw [hEo i (by omega)]
          exact (unhide HTD i hi (by omega)).frm FJ (fun p hp hp' => by
            rcases List.mem_append.1 hp' with h | h
            · simp at h; subst h; exact hgF i hp
            · exact nodup_flat hFn (by omega) p hp h)
        · rcases List.mem_append.1 hp with h | h
          · exact List.mem_append_left _ h
          · exact List.mem_append_right _ (mem_flat h)
      case measure => simp [intOf]; omega
    · have e : j = l.length := by omega
      subst e
      have HW := hide (show OwKids (n + 1) wr (.slice (some ⟨g, 0, none⟩) l.length cap) (mkK (n + 1) l k) ([g] ++ Fs.flatten) from
        ⟨Ds, Fs, by rw [mkK_len]; exact hDl, by rw [mkK_len]; exact hFl, fun i hi => ⟨hD i (by rw [mkK_len] at hi; omega), hdone i hi (by rw [mkK_len] at hi; exact hi)⟩, by rw [mkK_len]; exact hr, rfl⟩)
      clear hdone htodo hr hD
      go_wp2_with fail
      go_ret
      exact ⟨by first | rfl | (rw [List.take_length]; rfl), unhide HW, hf⟩
theorem markK_any (n : Nat) : MarkKSaid n := by
  induction n with
  | zero =>
    intro w v l F k h hF _ _ _
    cases l with
    | nil => exact markK_empty 0 w v F k h
    | cons x r => exact x.elim
  | succ n ih => exact markK_succ n ih
end Go.Proofs.Yteioihjgjbjmjaa

/- markNode, by its contract. -/
namespace Go.Proofs.Yteioihjgjbjmjaa
open Go.RowKit
set_option linter.unusedVariables false
set_option maxRecDepth 100000

/-- What is owned lies below the heap's end. -/
theorem OwElems.lt {α : Type} {w : World} {e : TypeId} {size : Nat} {v : Value} {l : List α} {R : List Value → α → List Nat → Prop} {F : List Nat} (h : OwElems w e size v l R F) (hR : ∀ C x G, R C x G → ∀ g ∈ G, g < w.heap.size) : ∀ g ∈ F, g < w.heap.size := by
  obtain ⟨Cs, Fs, h1, h2, h3, h4, rfl⟩ := h
  intro g hg
  rcases List.mem_append.1 hg with h | h
  · exact (h4.lt g (by simpa [FB] using h)).2
  · obtain ⟨G, hG, hgG⟩ := List.mem_flatten.1 h
    obtain ⟨i, hi, rfl⟩ := List.getElem_of_mem hG
    have := (h3 i (by omega)).2
    rw [show Fs.getD i [] = Fs[i] by simp [hi]] at this
    exact hR _ _ _ this g hgG
theorem OwAttr.lt {w : World} {C : List Value} {x : List Int × List Int} {G : List Nat} (h : OwAttr w C x G) : ∀ g ∈ G, g < w.heap.size := by
  obtain ⟨a, b, _, h1, h2, rfl⟩ := h
  intro g hg
  rcases List.mem_append.1 hg with h | h
  · exact (h1.lt g (by simpa [FB] using h)).2
  · exact (h2.lt g (by simpa [FB] using h)).2
theorem OwAttrs.lt {w : World} {v : Value} {l : List (List Int × List Int)} {F : List Nat} (h : OwAttrs w v l F) : ∀ g ∈ F, g < w.heap.size := OwElems.lt h (fun _ _ _ hr => hr.lt)
theorem OwNode.lt : ∀ {n : Nat} {w : World} {C : List Value} {t : Tr n} {F : List Nat}, OwNode n w C t F → ∀ g ∈ F, g < w.heap.size
  | 0, _, _, t, _, _ => t.elim
  | n + 1, w, C, t, F, ⟨a, b, c, d, Fc, Fd, _, _, _, ha, hb, hc, hd, hF⟩ => by
    subst hF
    intro g hg
    rcases List.mem_append.1 hg with h | h
    · rcases List.mem_append.1 h with h | h
      · rcases List.mem_append.1 h with h | h
        · exact (ha.lt g (by simpa [FB] using h)).2
        · exact (hb.lt g (by simpa [FB] using h)).2
      · exact hc.lt g h
    · exact OwElems.lt hd (fun _ _ _ hr => OwNode.lt hr) g h

set_option maxHeartbeats 3200000 in
/-- markNode. -/
theorem markN_any (n : Nat) (w : World) (a0 a b c d : Value) (t : Tr (n + 1)) (F : List Nat) (k : Int) (h : OwNode (n + 1) w [a0, a, b, c, d] t F) (hF : F.Nodup) (hs : cntT (n + 1) t ≤ 4194304) (h0 : 0 ≤ k) (h1 : k + (cntT (n + 1) t : Nat) ≤ 800000000) :
    Calls Try.prog 16 #[.agg #[a0, a, b, c, d], .int .i64 k] w fun e w' => e = .returned (.int .i64 (k + (cntT (n + 1) t : Nat))) ∧ OwNode (n + 1) w' [a0, a, b, c, d] (mkT' (n + 1) t k) F ∧ Frm w w' F := by
  obtain ⟨_, _, _, _, Fc, Fd, e0, hk1, hk2, ha, hb, hc, hd, rfl⟩ := h
  simp only [List.cons.injEq, and_true] at e0
  obtain ⟨rfl, rfl, rfl, rfl, rfl⟩ := e0
  have hcs := cntT_succ n t
  rw [hcs] at hs h1 ⊢
  obtain ⟨na, nb', nc', hFcn, hFdn⟩ := nodup4 hF
  obtain ⟨pa, ca, rfl, _, _⟩ := ha.byt.shape
  obtain ⟨pb, cb, rfl, _, _⟩ := hb.byt.shape
  obtain ⟨pc, cc, rfl, _, _⟩ := Elems.shape (OwAttrs.rd hc)
  obtain ⟨pd, cd, rfl, _, _⟩ := Elems.shape (OwKids.rd hd)
  have hB1 : Below w.heap.size w (w.alloc (.cells #[.int .i64 t.kind, .slice pa t.name.length ca, .slice pb t.text.length cb, .slice pc t.attrs.length cc, .slice pd t.kids.length cd] 32)) := (Below.refl _ _).alloc (Nat.le_refl _) _
  have l1 := Loc.made w #[.int .i64 t.kind, .slice pa t.name.length ca, .slice pb t.text.length cb, .slice pc t.attrs.length cc, .slice pd t.kids.length cd] 32
  have F1 := fun S => Frm.ofBelow hB1 S
  have ha1 := ha.keep hB1
  have hb1 := hb.keep hB1
  have hc1 := OwAttrs.frm hc (F1 []) (fun _ _ => by simp)
  have hd1 := OwKids.frm hd (F1 []) (fun _ _ => by simp)
  have hqa : ∀ p ∈ FB (.slice pa t.name.length ca), p < w.heap.size := fun p hp => (ha.lt p (by simpa [FB] using hp)).2
  have hqb : ∀ p ∈ FB (.slice pb t.text.length cb), p < w.heap.size := fun p hp => (hb.lt p (by simpa [FB] using hp)).2
  have hx1 : t.name.length ≤ 4194304 := by omega
  have hx2 : t.text.length ≤ 4194304 := by omega
  have hx3 : cntA t.attrs ≤ 4194304 := by omega
  have hx4 : cntL (cntT n) t.kids ≤ 4194304 := by omega
  have hqc := hc.lt
  clear ha hb hc hd hF hcs
  go_enter Try.func16, Try.ntmps16
  go_wp2_with fail
  generalize (w.alloc (.cells #[.int .i64 t.kind, .slice pa t.name.length ca, .slice pb t.text.length cb, .slice pc t.attrs.length cc, .slice pd t.kids.length cd] 32)) = w1 at *
  refine (markB_any w1 0 _ t.name k ha1 (Nat.le_trans hx1 (by decide)) h0 (by omega)).mono ?_
  rintro e w2 ⟨rfl, ha2, hg2⟩
  have F2 := own_grown_frm hg2
  have l2 := l1.frm F2 (fun hp => by have := hqa _ hp; omega)
  have hb2 := hb1.frm F2 (fun p hp hp' => (na p hp').1 hp)
  have hc2 := OwAttrs.frm hc1 F2 (fun p hp hp' => (na p hp').2.1 hp)
  have hd2 := OwKids.frm hd1 F2 (fun p hp hp' => (na p hp').2.2 hp)
  obtain ⟨x0, x1, x2, x3, x4⟩ := l2.five
  go_wp2_with fail
  refine (markB_any w2 0 _ t.text (k + (t.name.length : Nat)) hb2 (Nat.le_trans hx2 (by decide)) (by omega) (by omega)).mono ?_
  rintro e w3 ⟨rfl, hb3, hg3⟩
  have F3 := own_grown_frm hg3
  have l3 := l2.frm F3 (fun hp => by have := hqb _ hp; omega)
  have ha3 := ha2.frm F3 (fun p hp hp' => (na p hp).1 hp')
  have hc3 := OwAttrs.frm hc2 F3 (fun p hp hp' => (nb' p hp').1 hp)
  have hd3 := OwKids.frm hd2 F3 (fun p hp hp' => (nb' p hp').2 hp)
  clear x0 x1 x2 x3 x4
  obtain ⟨x0, x1, x2, x3, x4⟩ := l3.five
  go_wp2_with fail
  refine (markA_any w3 _ t.attrs Fc (k + (t.name.length : Nat) + (t.text.length : Nat)) hc3 hFcn hx3 (by omega) (by omega)).mono ?_
  rintro e w4 ⟨rfl, hc4, F4⟩
  have l4 := l3.frm F4 (fun hp => by have := hqc _ hp; omega)
  have ha4 := ha3.frm F4 (fun p hp hp' => (na p hp).2.1 hp')
  have hb4 := hb3.frm F4 (fun p hp hp' => (nb' p hp).1 hp')
  have hd4 := OwKids.frm hd3 F4 (fun p hp hp' => nc' p hp' hp)
  clear x0 x1 x2 x3 x4
  obtain ⟨x0, x1, x2, x3, x4⟩ := l4.five
  go_wp2_with fail
  refine (markK_any n w4 _ t.kids Fd (k + (t.name.length : Nat) + (t.text.length : Nat) + (cntA t.attrs : Nat)) hd4 hFdn hx4 (by omega) (by omega)).mono ?_
  rintro e w5 ⟨rfl, hd5, F5⟩
  have ha5 := ha4.frm F5 (fun p hp hp' => (na p hp).2.2 hp')
  have hb5 := hb4.frm F5 (fun p hp hp' => (nb' p hp).2 hp')
  have hc5 := OwAttrs.frm hc4 F5 (fun p hp hp' => nc' p hp hp')
  go_wp2_with fail
  go_ret
  refine ⟨?_, ⟨_, _, _, _, Fc, Fd, rfl, hk1, hk2, ha5, hb5, hc5, hd5, rfl⟩, ?_⟩
  · refine ret_i64 ?_; omega
  · exact ((((F1 _).trans (F2.mono (fun p hp => by simp [hp]))).trans (F3.mono (fun p hp => by simp [hp]))).trans (F4.mono (fun p hp => by simp [hp]))).trans (F5.mono (fun p hp => by simp [hp]))
end Go.Proofs.Yteioihjgjbjmjaa

/- A tree tidied, as a tree; how great it is. -/
namespace Go.Proofs.Yteioihjgjbjmjaa
open Go.RowKit
set_option linter.unusedVariables false

/-- A text as a node. -/
def txtN (n : Nat) (l : List Int) : Tr (n + 1) := (⟨1, [], l, [], []⟩ : Nd (Tr n))
def unMb (n : Nat) : Mb (Tr (n + 1)) → Tr (n + 1)
  | .inl k => k
  | .inr l => txtN n l
/-- A tree tidied. -/
def tidyT : (n : Nat) → Tr n → Tr n
  | 0 => fun t => t
  | 1 => fun t => t
  | n + 2 => fun t => (⟨t.kind, t.name, t.text, t.attrs, (tidyI [] [] (t.kids.map fun k => if k.kind = 1 then (.inr k.text : Mb (Tr (n + 1))) else .inl (tidyT (n + 1) k))).map (unMb n)⟩ : Nd (Tr (n + 1)))

def wtM {α : Type} (sz : α → Nat) : Mb α → Nat
  | .inl k => 1 + sz k
  | .inr l => 1 + l.length
def wtK {α : Type} (sz : α → Nat) : Mb α → Nat
  | .inl k => 1 + sz k
  | .inr l => 2 * l.length
theorem cut_wt {α : Type} (sz : α → Nat) : ∀ (n : Nat) (l : List Int), l.length ≤ n → (((cutL l).map (.inr : List Int → Mb α)).map (wtM sz)).sum ≤ 2 * l.length
  | 0, l, h => by
    have e : l = [] := List.eq_nil_of_length_eq_zero (by omega)
    subst e
    rw [cutL_nil]; simp
  | n + 1, l, h => by
    by_cases hl : l = []
    · subst hl; rw [cutL_nil]; simp
    · have hp : 0 < l.length := List.length_pos_iff.2 hl
      rw [cutL_step l hl]
      have := cut_wt sz n (l.drop 30) (by rw [List.length_drop]; omega)
      simp only [List.map_cons, List.sum_cons, wtM, List.length_take]
      rw [List.length_drop] at this
      omega
theorem tidyI_wt {α : Type} (sz : α → Nat) : ∀ (ks A : List (Mb α)) (row : List Int), ((tidyI A row ks).map (wtM sz)).sum ≤ (A.map (wtM sz)).sum + 2 * row.length + (ks.map (wtK sz)).sum
  | [], A, row => by
    have := cut_wt sz row.length row (Nat.le_refl _)
    simp only [tidyI, List.map_append, List.sum_append, List.map_nil, List.sum_nil]
    omega
  | .inr l :: ks, A, row => by
    have := tidyI_wt sz ks A (row ++ l)
    simp only [tidyI, List.map_cons, List.sum_cons, wtK]
    rw [List.length_append] at this
    omega
  | .inl k :: ks, A, row => by
    have h1 := tidyI_wt sz ks (A ++ (cutL row).map .inr ++ [.inl k]) []
    have h2 := cut_wt sz row.length row (Nat.le_refl _)
    simp only [tidyI, List.map_cons, List.sum_cons, wtK]
    simp only [List.map_append, List.sum_append, List.map_cons, List.map_nil, List.sum_cons, List.sum_nil, List.length_nil, wtM] at h1
    omega
theorem txtN_sz (n : Nat) (l : List Int) : szT (n + 1) (txtN n l) = l.length := by
  show ([] : List Int).length + l.length + szA [] + (([] : List (Tr n)).length + (([] : List (Tr n)).map (szT n)).sum) = l.length
  simp [szA]
theorem unMb_wt (n : Nat) : ∀ ms : List (Mb (Tr (n + 1))), (ms.map (unMb n)).length + ((ms.map (unMb n)).map (szT (n + 1))).sum = (ms.map (wtM (szT (n + 1)))).sum
  | [] => by simp
  | m :: ms => by
    have h := unMb_wt n ms
    have e : 1 + szT (n + 1) (unMb n m) = wtM (szT (n + 1)) m := by
      cases m with
      | inl k => rfl
      | inr l => show 1 + szT (n + 1) (txtN n l) = 1 + l.length; rw [txtN_sz]
    simp only [List.map_cons, List.length_cons, List.sum_cons]
    omega
theorem text_sz (n : Nat) (t : Tr (n + 1)) : t.text.length ≤ szT (n + 1) t := by
  have h4 : szT (n + 1) t = t.name.length + t.text.length + szA t.attrs + (t.kids.length + (t.kids.map (szT n)).sum) := rfl
  omega
theorem tidyT_sz : ∀ (n : Nat) (t : Tr n), szT n (tidyT n t) ≤ 2 * szT n t
  | 0, t => by show szT 0 t ≤ _; omega
  | 1, t => by show szT 1 t ≤ _; omega
  | n + 2, t => by
    have h4 : szT (n + 2) t = t.name.length + t.text.length + szA t.attrs + (t.kids.length + (t.kids.map (szT (n + 1))).sum) := rfl
    have hk : ∀ l : List (Tr (n + 1)), ((l.map fun k => if k.kind = 1 then (.inr k.text : Mb (Tr (n + 1))) else .inl (tidyT (n + 1) k)).map (wtK (szT (n + 1)))).sum ≤ 2 * (l.length + (l.map (szT (n + 1))).sum) := by
      intro l
      induction l with
      | nil => simp
      | cons k l ih =>
        have h1 := tidyT_sz (n + 1) k
        have h2 := text_sz n k
        have h3 : wtK (szT (n + 1)) (if k.kind = 1 then (.inr k.text : Mb (Tr (n + 1))) else .inl (tidyT (n + 1) k)) ≤ 2 * (1 + szT (n + 1) k) := by
          split
          · show 2 * k.text.length ≤ _; omega
          · show 1 + szT (n + 1) (tidyT (n + 1) k) ≤ _; omega
        simp only [List.map_cons, List.sum_cons, List.length_cons]
        omega
    have h5 : szT (n + 2) (tidyT (n + 2) t) = t.name.length + t.text.length + szA t.attrs + (((tidyI [] [] (t.kids.map fun k => if k.kind = 1 then (.inr k.text : Mb (Tr (n + 1))) else .inl (tidyT (n + 1) k))).map (unMb n)).length + (((tidyI [] [] (t.kids.map fun k => if k.kind = 1 then (.inr k.text : Mb (Tr (n + 1))) else .inl (tidyT (n + 1) k))).map (unMb n)).map (szT (n + 1))).sum) := rfl
    have h6 := tidyI_wt (szT (n + 1)) (t.kids.map fun k => if k.kind = 1 then (.inr k.text : Mb (Tr (n + 1))) else .inl (tidyT (n + 1) k)) [] []
    have h7 := hk t.kids
    rw [h5, unMb_wt, h4]
    simp only [List.map_nil, List.sum_nil, List.length_nil] at h6
    omega
/-- What Tidy tells of a tree. -/
def tidyOf (n : Nat) (t : Tr (n + 1)) : Tr (n + 1) := if okN n t = true then tidyT (n + 1) t else (⟨0, [], [], [], []⟩ : Nd (Tr n))
theorem tidyOf_sz (n : Nat) (t : Tr (n + 1)) : szT (n + 1) (tidyOf n t) ≤ 3 * szT (n + 1) t := by
  by_cases h : okN n t = true
  · have e : tidyOf n t = tidyT (n + 1) t := by unfold tidyOf; exact if_pos h
    rw [e]
    have := tidyT_sz (n + 1) t
    omega
  · have e : tidyOf n t = (⟨0, [], [], [], []⟩ : Nd (Tr n)) := by unfold tidyOf; exact if_neg h
    have e0 : szT (n + 1) (⟨0, [], [], [], []⟩ : Nd (Tr n)) = 0 := by
      show ([] : List Int).length + ([] : List Int).length + szA [] + (([] : List (Tr n)).length + (([] : List (Tr n)).map (szT n)).sum) = 0
      simp [szA]
    rw [e, e0]
    omega
end Go.Proofs.Yteioihjgjbjmjaa

/- A region that draws its order, by what is said at each point of its way: a step for each operation, in place of a way for each order. Plain, and in a round of a loop over a function. No program. -/
namespace Go.Proofs.Yteioihjgjbjmjaa
open Go.RowKit
set_option linter.unusedVariables false

/-- How many are not yet listed. -/
def todo : List Bool → Nat
  | [] => 0
  | b :: l => (if b then 0 else 1) + todo l
theorem todo_set : ∀ (l : List Bool) (i : Nat), l[i]? = some false → todo (l.set i true) + 1 = todo l
  | [], i, h => by simp at h
  | b :: l, 0, h => by
    have e : b = false := by simpa using h
    subst e
    simp only [List.set_cons_zero, todo, if_true, Bool.false_eq_true, if_false]
    omega
  | b :: l, i + 1, h => by
    have ih := todo_set l i (by simpa using h)
    simp only [List.set_cons_succ, todo]
    omega
theorem todo_none : ∀ (l : List Bool), todo l = 0 → ∀ (i : Nat) (b : Bool), l[i]? = some b → b = true
  | [], _, i, b, h => by simp at h
  | c :: l, h0, 0, b, h => by
    have e : c = b := by simpa using h
    subst e
    cases c with
    | true => rfl
    | false => simp [todo] at h0
  | c :: l, h0, i + 1, b, h => todo_none l (by simp only [todo] at h0; omega) i b (by simpa using h)
theorem todo_all (n : Nat) : todo (List.replicate n false) = n := by
  induction n with
  | zero => rfl
  | succ n ih => rw [List.replicate_succ]; simp only [todo, Bool.false_eq_true, if_false]; omega
theorem ready_off {md : Region.Mode} {ops : Array Oper} {L : Array Bool} {i : Nat} (hs : L.size = ops.size) (h : i ∈ Region.ready md ops L) : L.toList[i]? = some false := by
  unfold Region.ready at h
  rw [List.mem_filter, List.mem_range, Bool.and_eq_true] at h
  obtain ⟨h1, h2, _⟩ := h
  have hi : i < L.size := by omega
  rw [Array.getD_eq_getD_getElem?, Array.getElem?_eq_getElem hi] at h2
  rw [Array.getElem?_toList, Array.getElem?_eq_getElem hi]
  simpa using h2
theorem ready_none {md : Region.Mode} {ops : Array Oper} {L : Array Bool} (hs : L.size = ops.size) (h : todo L.toList = 0) : Region.ready md ops L = [] := by
  rw [List.eq_nil_iff_forall_not_mem]
  intro i hi
  have := todo_none _ h i false (ready_off hs hi)
  cases this

/-- What an operation waits for is listed where it is ready. -/
theorem ready_pred {md : Region.Mode} {ops : Array Oper} {L : Array Bool} {i : Nat} {o : Oper} (h : i ∈ Region.ready md ops L) (ho : ops[i]? = some o) (j : Nat) (he : o.after.any (fun e => Region.binds md e && e.on == j) = true) : L.getD j false = true := by
  unfold Region.ready at h
  rw [List.mem_filter, Bool.and_eq_true, ho] at h
  obtain ⟨_, _, h3⟩ := h
  simp only [Option.map_some, Option.getD_some] at h3
  rw [Array.any_eq_true] at he
  obtain ⟨k, hk, hb⟩ := he
  rw [Bool.and_eq_true, beq_iff_eq] at hb
  rw [Array.all_eq_true] at h3
  have := h3 k hk
  rw [Bool.or_eq_true, hb.1, hb.2] at this
  simpa using this
theorem ready_lt {md : Region.Mode} {ops : Array Oper} {L : Array Bool} {i : Nat} (h : i ∈ Region.ready md ops L) : i < ops.size := by
  unfold Region.ready at h
  rw [List.mem_filter, List.mem_range] at h
  exact h.1
/-- Where each waits for earlier ones alone, none is ready only behind the last. -/
theorem ready_all {md : Region.Mode} {ops : Array Oper} {L : Array Bool} (hs : L.size = ops.size) (hb : (List.range ops.size).all (fun i => ((ops[i]?).map fun o => o.after.all fun e => !Region.binds md e || decide (e.on < i)).getD true) = true)
    (h : Region.ready md ops L = []) : ∀ (n i : Nat), i < n → i < ops.size → L.getD i false = true
  | 0, i, hn, _ => by omega
  | n + 1, i, hn, hi => by
    by_cases hlt : i < n
    · exact ready_all hs hb h n i hlt hi
    have e : i = n := by omega
    subst e
    have hL : i < L.size := by omega
    by_cases hf : L.getD i false = true
    · exact hf
    exfalso
    have hmem : i ∈ Region.ready md ops L := by
      unfold Region.ready
      rw [List.mem_filter, List.mem_range, Bool.and_eq_true]
      refine ⟨hi, ?_, ?_⟩
      · rw [Array.getD_eq_getD_getElem?, Array.getElem?_eq_getElem hL] at hf ⊢
        simpa using hf
      · have hbi := List.all_eq_true.1 hb i (List.mem_range.2 hi)
        rw [Array.getElem?_eq_getElem hi] at hbi ⊢
        simp only [Option.map_some, Option.getD_some] at hbi ⊢
        rw [Array.all_eq_true] at hbi ⊢
        intro k hk
        have hk' := hbi k hk
        rw [Bool.or_eq_true] at hk' ⊢
        rcases hk' with hk' | hk'
        · exact .inl hk'
        · right
          have hlt' : (ops[i].after[k]).on < i := by simpa using hk'
          exact ready_all hs hb h i _ hlt' (by omega)
    rw [h] at hmem
    cases hmem

variable {P : Program} {ops : Array Oper} {Q : Exit → Act → World → Prop}

/-- One operation in a round, by its plain law. -/
theorem opIn_of_op {o : Oper} {n l : Nat} {a : Act} {w : World} {K : Act → World → Prop} (hnd : ∀ c, o.op ≠ .defer c) (h : o.wp P a w K Q) : o.wpIn (Fence.wide.inRound l) n P a w K Q := by
  unfold Oper.wp at h
  unfold Oper.wpIn
  refine ⟨fun _ _ => trivial, ?_⟩
  rw [Oper.semAt_plain _ _ _ hnd]
  generalize (execOp a.eval o).run P w = r at *
  cases r with
  | ok x w' =>
    cases x <;> first
      | exact h
      | exact (h : False).elim
      | exact ⟨(fun hd => by cases hd), callsIn_wide.2 h⟩
      | exact ⟨(fun hd => by cases hd), fun c cs _ => let ⟨v, w', r, s⟩ := h c cs; ⟨v, w', r, stepsIn_wide.2 s⟩⟩
  | halt x w' => cases x <;> exact h

theorem anyIn_inv {n l : Nat} {md : Region.Mode} (hnd : ∀ o ∈ ops, ∀ c, o.op ≠ .defer c) (I : Array Bool → Act → World → Prop) (hsz : ∀ L a w, I L a w → L.size = ops.size)
    (hstep : ∀ L a w i o, I L a w → i ∈ Region.ready md ops L → ops[i]? = some o → if Region.wanted o (yielded ops a.tmps) = true then Oper.wp P o a w (I (L.setIfInBounds i true)) Q else I (L.setIfInBounds i true) (a.put o.dst undef) w)
    (hdone : ∀ L a w, I L a w → Region.ready md ops L = [] → Q .normal a w) :
    ∀ (fuel : Nat) (L : Array Bool) (a : Act) (w : World), todo L.toList ≤ fuel → I L a w → wpAnyIn (Fence.wide.inRound l) n P md ops Q fuel L a w
  | 0, L, a, w, hf, hI => by
    have hr := ready_none (md := md) (hsz L a w hI) (by omega)
    exact ⟨hr, hdone L a w hI hr⟩
  | fuel + 1, L, a, w, hf, hI => by
    refine ⟨fun hr => hdone L a w hI hr, fun i hi => ?_⟩
    have ho := todo_set _ _ (ready_off (hsz L a w hI) hi)
    have key : ∀ a' w', I (L.setIfInBounds i true) a' w' → wpAnyIn (Fence.wide.inRound l) n P md ops Q fuel (L.setIfInBounds i true) a' w' := fun a' w' h' =>
      anyIn_inv hnd I hsz hstep hdone fuel _ a' w' (by rw [Array.toList_setIfInBounds]; omega) h'
    unfold wpOpIn
    cases hoi : ops[i]? with
    | none =>
      unfold Region.ready at hi
      rw [List.mem_filter, List.mem_range] at hi
      rw [Array.getElem?_eq_getElem hi.1] at hoi
      cases hoi
    | some o =>
      have hs := hstep L a w i o hI hi hoi
      simp only []
      split
      · rename_i hw
        rw [if_pos hw] at hs
        exact Oper.wpIn_mono key (opIn_of_op (hnd o (Array.mem_of_getElem? hoi)) hs)
      · rename_i hw
        rw [if_neg hw] at hs
        exact ⟨fun _ _ => trivial, key _ _ hs⟩

/-- The region, in a round. -/
theorem region_round {n l id : Nat} {a : Act} {w : World} (hm : P.follows .mixedOrders = true) (hnd : ∀ o ∈ ops, ∀ c, o.op ≠ .defer c) (I : Array Bool → Act → World → Prop) (hsz : ∀ L a w, I L a w → L.size = ops.size)
    (h0 : I (Array.replicate ops.size false) a w.drew)
    (hstep : ∀ L a w i o, I L a w → i ∈ Region.ready .any ops L → ops[i]? = some o → if Region.wanted o (yielded ops a.tmps) = true then Oper.wp P o a w (I (L.setIfInBounds i true)) Q else I (L.setIfInBounds i true) (a.put o.dst undef) w)
    (hdone : ∀ L a w, I L a w → Region.ready .any ops L = [] → Q .normal a w) : (Code.region id ops true).wpIn (Fence.wide.inRound l) n P Q a w :=
  wpIn_region_any hm (anyIn_inv hnd I hsz hstep hdone _ _ _ _ (by rw [Array.toList_replicate, todo_all]; exact Nat.le_refl _) h0)

theorem any_inv {md : Region.Mode} (I : Array Bool → Act → World → Prop) (hsz : ∀ L a w, I L a w → L.size = ops.size)
    (hstep : ∀ L a w i o, I L a w → i ∈ Region.ready md ops L → ops[i]? = some o → if Region.wanted o (yielded ops a.tmps) = true then Oper.wp P o a w (I (L.setIfInBounds i true)) Q else I (L.setIfInBounds i true) (a.put o.dst undef) w)
    (hdone : ∀ L a w, I L a w → Region.ready md ops L = [] → Q .normal a w) :
    ∀ (fuel : Nat) (L : Array Bool) (a : Act) (w : World), todo L.toList ≤ fuel → I L a w → wpAny P md ops Q fuel L a w
  | 0, L, a, w, hf, hI => by
    have hr := ready_none (md := md) (hsz L a w hI) (by omega)
    exact ⟨hr, hdone L a w hI hr⟩
  | fuel + 1, L, a, w, hf, hI => by
    refine ⟨fun hr => hdone L a w hI hr, fun i hi => ?_⟩
    have ho := todo_set _ _ (ready_off (hsz L a w hI) hi)
    have key : ∀ a' w', I (L.setIfInBounds i true) a' w' → wpAny P md ops Q fuel (L.setIfInBounds i true) a' w' := fun a' w' h' =>
      any_inv I hsz hstep hdone fuel _ a' w' (by rw [Array.toList_setIfInBounds]; omega) h'
    unfold wpOp
    cases hoi : ops[i]? with
    | none =>
      unfold Region.ready at hi
      rw [List.mem_filter, List.mem_range] at hi
      rw [Array.getElem?_eq_getElem hi.1] at hoi
      cases hoi
    | some o =>
      have hs := hstep L a w i o hI hi hoi
      simp only []
      split
      · rename_i hw
        rw [if_pos hw] at hs
        exact .inl (Oper.wp_mono key hs)
      · rename_i hw
        rw [if_neg hw] at hs
        exact key _ _ hs
/-- The region, plain. -/
theorem region_inv {id : Nat} {a : Act} {w : World} (hm : P.follows .mixedOrders = true) (I : Array Bool → Act → World → Prop) (hsz : ∀ L a w, I L a w → L.size = ops.size)
    (h0 : I (Array.replicate ops.size false) a w.drew)
    (hstep : ∀ L a w i o, I L a w → i ∈ Region.ready .any ops L → ops[i]? = some o → if Region.wanted o (yielded ops a.tmps) = true then Oper.wp P o a w (I (L.setIfInBounds i true)) Q else I (L.setIfInBounds i true) (a.put o.dst undef) w)
    (hdone : ∀ L a w, I L a w → Region.ready .any ops L = [] → Q .normal a w) : (Code.region id ops true).wp P Q a w :=
  wp_region_any hm (any_inv I hsz hstep hdone _ _ _ _ (by rw [Array.toList_replicate, todo_all]; exact Nat.le_refl _) h0)
end Go.Proofs.Yteioihjgjbjmjaa

/- The laws' own copy of a slice of attributes, of nodes, of a whole tree, by contracts. -/
namespace Go.Proofs.Yteioihjgjbjmjaa
open Go.RowKit
set_option linter.unusedVariables false

theorem Try.info88 : (Try.prog.info? 88).map (fun i => (i.zero, i.size, i.bytes)) = some (some (.agg #[.slice none 0 0, .slice none 0 0]), 2, 48) := by kernel_rfl
theorem Try.info32 : (Try.prog.info? 32).map (fun i => (i.zero, i.size, i.bytes)) = some (some (.agg #[.int .i64 0, .slice none 0 0, .slice none 0 0, .slice none 0 0, .slice none 0 0]), 5, 104) := by kernel_rfl

theorem take_two (xs : List Value) (m : Nat) (v1 v2 : Value) (h : m + 2 ≤ xs.length) : ((xs.set m v1).set (m + 1) v2).take (m + 2) = xs.take m ++ [v1, v2] := by
  apply List.ext_getElem?
  intro i
  have hl : (xs.take m).length = m := by simp; omega
  rw [List.getElem?_take, List.getElem?_append, hl]
  by_cases h1 : i < m
  · rw [if_pos (by omega), if_pos h1, List.getElem?_set, if_neg (by omega), List.getElem?_set, if_neg (by omega), List.getElem?_take, if_pos h1]
  · rw [if_neg h1]
    by_cases h2 : i = m
    · subst h2
      rw [if_pos (by omega), List.getElem?_set, if_neg (by omega), List.getElem?_set, if_pos rfl, if_pos (by omega)]; simp
    · by_cases h3 : i = m + 1
      · subst h3
        rw [if_pos (by omega), List.getElem?_set, if_pos rfl, if_pos (by simp; omega)]; simp
      · rw [if_neg (by omega), List.getElem?_eq_none (by simp; omega)]
theorem take_more (xs : List Value) (m j : Nat) (ys : List Value) (v : Value) (h : xs.take (m + j) = ys) (hl : m + j < xs.length) : (xs.set (m + j) v).take (m + j + 1) = ys ++ [v] := by
  subst h
  have hl2 : m + j < (xs.set (m + j) v).length := by simpa using hl
  rw [List.take_succ_eq_append_getElem hl2, List.getElem_set_self, List.take_set_of_le (Nat.le_refl _)]
theorem take_five (xs : List Value) (m : Nat) (v0 v1 v2 v3 v4 : Value) (h : m + 5 ≤ xs.length) :
    (((((xs.set m v0).set (m + 1) v1).set (m + 2) v2).set (m + 3) v3).set (m + 4) v4).take (m + 5) = xs.take m ++ [v0, v1, v2, v3, v4] := by
  have h0 := take_more xs m 0 (xs.take m) v0 rfl (by omega)
  have h1 := take_more (xs.set m v0) m 1 _ v1 h0 (by simp; omega)
  have h2 := take_more ((xs.set m v0).set (m + 1) v1) m 2 _ v2 h1 (by simp; omega)
  have h3 := take_more (((xs.set m v0).set (m + 1) v1).set (m + 2) v2) m 3 _ v3 h2 (by simp; omega)
  have h4 := take_more ((((xs.set m v0).set (m + 1) v1).set (m + 2) v2).set (m + 3) v3) m 4 _ v4 h3 (by simp; omega)
  simpa using h4

/-- The elements that have been laid so far in a row of the call's own. -/
structure Half {α : Type} (w : World) (e : TypeId) (size g n : Nat) (l : List α) (R : List Value → α → List Nat → Prop) (lo k : Nat) : Prop where
  laid : ∃ (Cs : List (List Value)) (Fs : List (List Nat)) (xs : List Value), Cs.length = k ∧ Fs.length = k ∧ (∀ i (hi : i < l.length), i < k → (Cs.getD i []).length = size ∧ R (Cs.getD i []) l[i] (Fs.getD i [])) ∧
    w.ownsRow 0 e size (.slice (some ⟨g, 0, none⟩) n n) n xs ∧ xs.take (k * size) = Cs.flatten ∧ Fs.flatten.Nodup ∧ Rng Fs.flatten lo w.heap.size

theorem Half.whole {α : Type} {w : World} {e : TypeId} {size g n : Nat} {l : List α} {R : List Value → α → List Nat → Prop} {lo : Nat} (h : Half w e size g n l R lo n) (hn : l.length = n) (hg : g < lo) :
    ∃ F, OwElems w e size (.slice (some ⟨g, 0, none⟩) n n) l R F ∧ F.Nodup ∧ (∀ q ∈ F, g ≤ q ∧ q < w.heap.size) := by
  obtain ⟨Cs, Fs, xs, h1, h2, h3, h4, h5, h6, h7⟩ := h.laid
  subst hn
  have hx : xs = Cs.flatten := by rw [← h5, List.take_of_length_le (by rw [h4.1]; exact Nat.le_refl _)]
  subst hx
  have hlt := (h4.lt g rfl).2
  refine ⟨FB (.slice (some ⟨g, 0, none⟩) l.length l.length) ++ Fs.flatten, ⟨Cs, Fs, h1, h2, fun i hi => h3 i hi hi, h4, rfl⟩, ?_, fun q hq => ?_⟩
  · rw [List.nodup_append]
    refine ⟨FB_nodup _, h6, fun a ha b hb e => ?_⟩
    have := h7 b hb
    simp [FB, Value.ownBlock] at ha
    omega
  · rcases List.mem_append.1 hq with h' | h'
    · simp [FB, Value.ownBlock] at h'; omega
    · have := h7 q h'; omega

theorem Half.start {α : Type} {w : World} {e : TypeId} {size g n : Nat} {l : List α} {R : List Value → α → List Nat → Prop} (lo : Nat) {xs : List Value} (h : w.ownsRow 0 e size (.slice (some ⟨g, 0, none⟩) n n) n xs) : Half w e size g n l R lo 0 :=
  ⟨[], [], xs, rfl, rfl, fun i hi h0 => by omega, h, by simp, by simp, Rng.nil _ _⟩

theorem flat_snoc {α : Type} (Cs : List (List α)) (C : List α) : (Cs ++ [C]).flatten = Cs.flatten ++ C := by simp
theorem getD_snoc {β : Type} (Cs : List (List β)) (C : List β) (i : Nat) : (Cs ++ [C]).getD i [] = if i < Cs.length then Cs.getD i [] else if i = Cs.length then C else [] := by
  by_cases h : i < Cs.length
  · rw [if_pos h, List.getD_eq_getElem?_getD, List.getElem?_append_left h, ← List.getD_eq_getElem?_getD]
  · rw [if_neg h]
    by_cases h2 : i = Cs.length
    · subst h2; simp
    · rw [if_neg h2, List.getD_eq_getElem?_getD, List.getElem?_eq_none (by simp; omega)]; rfl

/-- One element more. w1: behind the call that made it; w2: behind its store. -/
theorem Half.step {α : Type} {w w1 w2 : World} {e : TypeId} {size g n : Nat} {l : List α} {R R2 : List Value → α → List Nat → Prop} {lo k : Nat} (h : Half w e size g n l R lo k) (hk : k < l.length) (hlo : g < lo) (hlow : lo ≤ w.heap.size)
    (hB : Below w.heap.size w w1) (C : List Value) (G : List Nat) (hC : C.length = size) (hR : R2 C l[k] G) (hG : G.Nodup) (hrng : Rng G w.heap.size w1.heap.size)
    (hmono : ∀ C x G, R C x G → (∀ q ∈ G, q ≠ g) → R2 C x G) (hf : Frm w1 w2 [g]) (hs : ∀ xs : List Value, w1.ownsRow 0 e size (.slice (some ⟨g, 0, none⟩) n n) n xs → ∃ ys, w2.ownsRow 0 e size (.slice (some ⟨g, 0, none⟩) n n) n ys ∧ ys.take (k * size + size) = xs.take (k * size) ++ C) :
    Half w2 e size g n l R2 lo (k + 1) := by
  obtain ⟨Cs, Fs, xs, h1, h2, h3, h4, h5, h6, h7⟩ := h.laid
  have h4' : w1.ownsRow 0 e size (.slice (some ⟨g, 0, none⟩) n n) n xs := ownsRow_frm h4 (Frm.ofBelow hB []) (fun _ _ => by simp)
  obtain ⟨ys, hy1, hy2⟩ := hs xs h4'
  have hsz := hf.size
  have hsz1 := hB.size
  refine ⟨Cs ++ [C], Fs ++ [G], ys, by simp [h1], by simp [h2], fun i hi hik => ?_, hy1, ?_, ?_, ?_⟩
  · rw [getD_snoc, getD_snoc, h1, h2]
    by_cases hlt : i < k
    · rw [if_pos hlt, if_pos hlt]
      have := h3 i hi hlt
      refine ⟨this.1, hmono _ _ _ this.2 (fun q hq => ?_)⟩
      have := h7 q (mem_flat hq)
      omega
    · have e : i = k := by omega
      subst e
      rw [if_neg hlt, if_neg hlt, if_pos rfl, if_pos rfl]
      exact ⟨hC, hR⟩
  · rw [flat_snoc, ← h5, Nat.succ_mul]; exact hy2
  · rw [flat_snoc, List.nodup_append]
    exact ⟨h6, hG, fun a ha b hb e => by have := h7 a ha; have := hrng b hb; omega⟩
  · rw [flat_snoc]
    exact (h7.mono (Nat.le_refl _) (by omega)).app (hrng.mono (by omega) (by omega))

end Go.Proofs.Yteioihjgjbjmjaa

/- impl.putTexts puts the pieces of a row behind kids, as texts. -/
namespace Go.Proofs.Yteioihjgjbjmjaa
open Go.RowKit Go.Shelf
set_option linter.unusedVariables false
set_option maxRecDepth 100000
attribute [local go_sem] Oper.semAt_some

theorem nine {i : Nat} (h : i < 10) : i = 0 ∨ i = 1 ∨ i = 2 ∨ i = 3 ∨ i = 4 ∨ i = 5 ∨ i = 6 ∨ i = 7 ∨ i = 8 ∨ i = 9 := by omega
def zero5 : List Value := [.int .i64 0, .slice none 0 0, .slice none 0 0, .slice none 0 0, .slice none 0 0]
def text5 (cl : Value) : List Value := [.int .i64 1, .slice none 0 0, cl, .slice none 0 0, .slice none 0 0]

/-- Five cells of an owned row's end, stored. -/
theorem set_end (A : List Value) (z0 z1 z2 z3 z4 a b c d e : Value) : (((((A ++ [z0, z1, z2, z3, z4]).set A.length a).set (A.length + 1) b).set (A.length + 2) c).set (A.length + 3) d).set (A.length + 4) e = A ++ [a, b, c, d, e] := by
  simp
theorem own_set5 {w : World} {base g n cap k : Nat} {e : TypeId} {size : Nat} {A : List Value} {z0 z1 z2 z3 z4 : Value} (h : w.ownsRow base e size (.slice (some ⟨g, 0, none⟩) n cap) n (A ++ [z0, z1, z2, z3, z4])) (hk : k = A.length) (y0 y1 y2 y3 y4 : Value) :
    (((((w.setCell ⟨g, k, none⟩ y0).setCell ⟨g, k + 1, none⟩ y1).setCell ⟨g, k + 2, none⟩ y2).setCell ⟨g, k + 3, none⟩ y3).setCell ⟨g, k + 4, none⟩ y4).ownsRow base e size (.slice (some ⟨g, 0, none⟩) n cap) n (A ++ [y0, y1, y2, y3, y4]) ∧
    w.grownBy (((((w.setCell ⟨g, k, none⟩ y0).setCell ⟨g, k + 1, none⟩ y1).setCell ⟨g, k + 2, none⟩ y2).setCell ⟨g, k + 3, none⟩ y3).setCell ⟨g, k + 4, none⟩ y4) (some g) := by
  subst hk
  obtain ⟨r0, g0⟩ := h.stored A.length y0
  obtain ⟨r1, g1⟩ := r0.stored (A.length + 1) y1
  obtain ⟨r2, g2⟩ := r1.stored (A.length + 2) y2
  obtain ⟨r3, g3⟩ := r2.stored (A.length + 3) y3
  obtain ⟨r4, g4⟩ := r3.stored (A.length + 4) y4
  rw [set_end] at r4
  exact ⟨r4, grown_trans (grown_trans (grown_trans (grown_trans g0 g1) g2) g3) g4⟩

/-- A row of elements with one more behind it, where other blocks may have turned too. -/
theorem OwElems.pushF {α : Type} {R : World → List Value → α → List Nat → Prop} (hRf : ∀ {w w' : World} {S : List Nat} {C : List Value} {x : α} {G : List Nat}, R w C x G → Frm w w' S → (∀ g ∈ G, g ∉ S) → R w' C x G)
    {w w' : World} {e : TypeId} {size : Nat} {v : Value} {l : List α} {Cs : List (List Value)} {Fs : List (List Nat)} {C : List Value} {y : α} {G S : List Nat} {g cap m : Nat}
    (h1 : Cs.length = l.length) (h2 : Fs.length = l.length) (h3 : ∀ i (hi : i < l.length), (Cs.getD i []).length = size ∧ R w (Cs.getD i []) l[i] (Fs.getD i []))
    (hN : (FB v ++ Fs.flatten).Nodup) (hC : C.length = size) (hy : R w' C y G) (hGN : G.Nodup) (hG : ∀ q ∈ G, w.heap.size ≤ q ∧ q ≠ g) (hlt : ∀ q ∈ FB v ++ Fs.flatten, q < w.heap.size) (hm : m = l.length)
    (k1 : w'.ownsRow 0 e size (.slice (some ⟨g, 0, none⟩) (m + 1) cap) (m + 1) (Cs.flatten ++ C)) (hf : Frm w w' S) (hS : ∀ q ∈ Fs.flatten, q ∉ S) (k3 : v.ownBlock = some g ∨ w.heap.size ≤ g) :
    OwElems w' e size (.slice (some ⟨g, 0, none⟩) (m + 1) cap) (l ++ [y]) (R w') (g :: (Fs.flatten ++ G)) ∧ (g :: (Fs.flatten ++ G)).Nodup ∧ (∀ q ∈ g :: (Fs.flatten ++ G), q ∈ FB v ++ Fs.flatten ∨ w.heap.size ≤ q) := by
  subst hm
  have hFd : ∀ q ∈ Fs.flatten, q ∉ FB v := fun q hq hv => (List.nodup_append.1 hN).2.2 q hv q hq rfl
  refine ⟨⟨Cs ++ [C], Fs ++ [G], by simp [h1], by simp [h2], fun i hi => ?_, ?_, ?_⟩, ?_, ?_⟩
  · by_cases hil : i < l.length
    · have a := h3 i hil
      have e1 : (Cs ++ [C]).getD i [] = Cs.getD i [] := by rw [List.getD_eq_getElem?_getD, List.getD_eq_getElem?_getD, List.getElem?_append_left (by omega)]
      have e2 : (Fs ++ [G]).getD i [] = Fs.getD i [] := by rw [List.getD_eq_getElem?_getD, List.getD_eq_getElem?_getD, List.getElem?_append_left (by omega)]
      rw [e1, e2, List.getElem_append_left hil]
      exact ⟨a.1, hRf a.2 hf (fun q hq => hS q (mem_flat hq))⟩
    · have e0 : i = l.length := by simp at hi; omega
      subst e0
      have e1 : (Cs ++ [C]).getD l.length [] = C := by rw [← h1]; simp
      have e2 : (Fs ++ [G]).getD l.length [] = G := by rw [← h2]; simp
      rw [e1, e2]
      simp only [List.getElem_concat_length]
      exact ⟨hC, hy⟩
  · simp only [List.length_append, List.length_cons, List.length_nil, List.flatten_append, List.flatten_cons, List.flatten_nil, List.append_nil]
    exact k1
  · simp [FB, Value.ownBlock]
  · rw [List.nodup_cons]
    refine ⟨fun hq => ?_, List.nodup_append.2 ⟨(List.nodup_append.1 hN).2.1, hGN, fun a ha b hb hab => ?_⟩⟩
    · rcases List.mem_append.1 hq with hq | hq
      · rcases k3 with k3 | k3
        · exact hFd g hq (by simp [FB, k3])
        · have := hlt g (List.mem_append_right _ hq); omega
      · exact (hG g hq).2 rfl
    · have := hlt a (List.mem_append_right _ ha)
      have := (hG b hb).1
      omega
  · intro q hq
    rcases List.mem_cons.1 hq with rfl | hq
    · rcases k3 with k3 | k3
      · exact .inl (List.mem_append_left _ (by simp [FB, k3]))
      · exact .inr k3
    · rcases List.mem_append.1 hq with hq | hq
      · exact .inl (List.mem_append_right _ hq)
      · exact .inr (hG q hq).1
theorem OwElems.none {α : Type} (w : World) (e : TypeId) (size : Nat) (R : List Value → α → List Nat → Prop) : OwElems w e size (.slice none 0 0) ([] : List α) R [] :=
  ⟨[], [], rfl, rfl, fun i hi => by simp at hi, World.ownsRow_nil _ _ _ _, rfl⟩
/-- A text that owns its bytes. -/
theorem txt_own {n : Nat} {w : World} {base : Nat} {cl : Value} {l : List Int} (h : Own w base cl l) : OwNode (n + 1) w (text5 cl) (txtN n l) (FB cl) :=
  ⟨.slice none 0 0, cl, .slice none 0 0, .slice none 0 0, [], [], rfl, by show (-9223372036854775808 : Int) ≤ 1; omega, by show (1 : Int) ≤ 9223372036854775807; omega, ⟨okB_nil, World.ownsRow_nil _ _ _ _⟩, h.mono (Nat.zero_le _), OwElems.none _ _ _ _, OwElems.none _ _ _ _, by simp [FB, Value.ownBlock]⟩
theorem pcs_cut (b off : Nat) : ∀ (n : Nat) (l : List Int), l.length ≤ n → (List.range ((l.length + 29) / 30)).map (fun k => (l.drop (30 * k)).take 30) = cutL l
  | 0, l, h => by
    have e : l = [] := List.eq_nil_of_length_eq_zero (by omega)
    subst e; rfl
  | n + 1, l, h => by
    by_cases hl : l = []
    · subst hl; rfl
    have hp : 0 < l.length := List.length_pos_iff.2 hl
    have ih := pcs_cut b off n (l.drop 30) (by rw [List.length_drop]; omega)
    rw [List.length_drop] at ih
    have e : (l.length + 29) / 30 = (l.length - 30 + 29) / 30 + 1 := by omega
    rw [cutL_step l hl, ← ih, e, List.range_succ_eq_map, List.map_cons, List.map_map]
    congr 1
    refine List.map_congr_left (fun k _ => ?_)
    show (l.drop (30 * (k + 1))).take 30 = ((l.drop 30).drop (30 * k)).take 30
    rw [List.drop_drop]
    congr 2
    omega

/-- The way through the body, first half: what the six operations ahead of append have laid. -/
def TxA (V : World) (p1 : Nat) (v1 pv : Value) (m1 : Nat) (pl : List Int) (t0 t1 t3 t4 t6 t7 t8 : Value) (L : Array Bool) (a : Act) (w : World) : Prop :=
  ∃ b0 b1 b2 b3 b4 b5 x9 x10 x11 x12 x13 x14, L = #[b0, b1, b2, b3, b4, b5, false, false, false, false] ∧
    a = { tmps := #[t0, t1, .pointer (some ⟨p1, 0, none⟩), t3, t4, pv, t6, t7, t8, x9, x10, x11, x12, x13, x14, undef, undef, undef], defers := [] } ∧ Below V.heap.size V w ∧
    (b0 = true → x9 = v1) ∧ (b1 = true → x10 = pv) ∧ (b2 = true → Own w V.heap.size x11 pl) ∧ (b3 = true → b2 = true ∧ x12 = .agg #[.int .i64 1, .slice none 0 0, x11, .slice none 0 0, .slice none 0 0]) ∧ (b4 = true → x13 = .int .i64 m1) ∧
    (b5 = true → ∃ z, V.heap.size ≤ z ∧ x14 = .slice (some ⟨z, 0, none⟩) 1 1 ∧ Loc w z #[.int .i64 0, .slice none 0 0, .slice none 0 0, .slice none 0 0, .slice none 0 0] 32)
/-- Second half: append is done. -/
def TxB (V : World) (p1 : Nat) (v1 pv : Value) (m1 : Nat) (pl : List Int) (Cs : List Value) (t0 t1 t3 t4 t6 t7 t8 : Value) (L : Array Bool) (a : Act) (w : World) : Prop :=
  ∃ b7 b8 b9 cl x14 x16 g' cap', L = #[true, true, true, true, true, true, true, b7, b8, b9] ∧
    a = { tmps := #[t0, t1, .pointer (some ⟨p1, 0, none⟩), t3, t4, pv, t6, t7, t8, v1, pv, cl, .agg #[.int .i64 1, .slice none 0 0, cl, .slice none 0 0, .slice none 0 0], .int .i64 m1, x14, .slice (some ⟨g', 0, none⟩) (m1 + 1) cap', x16, undef], defers := [] } ∧
    Frm V w (FB v1 ++ [p1]) ∧ (v1.ownBlock = some g' ∨ V.heap.size ≤ g') ∧ g' ≠ p1 ∧ g' < w.heap.size ∧
    (b7 = true → x16 = .pointer (some ⟨g', m1 * 5, none⟩)) ∧ Own w V.heap.size cl pl ∧
    w.ownsRow 0 32 5 (.slice (some ⟨g', 0, none⟩) (m1 + 1) cap') (m1 + 1) (Cs ++ (if b8 = true then text5 cl else zero5)) ∧
    Loc w p1 #[if b9 = true then .slice (some ⟨g', 0, none⟩) (m1 + 1) cap' else v1] 30

theorem own_notT {w : World} {base b : Nat} {v u : Value} {l : List Int} {g : Nat} {n cap : Nat} {xs : List Value} (ho : Own w b v l) (h : w.ownsRow base 32 5 (.slice (some ⟨g, 0, none⟩) n cap) n xs) : v.ownBlock ≠ some g := by
  intro e
  obtain ⟨cur, hc⟩ := own_obj ho.2 e
  obtain ⟨cur', hc'⟩ := own_obj h (g := g) rfl
  rw [hc] at hc'
  injection hc' with hc'
  injection hc' with _ hc'
  revert hc'
  decide
theorem own_notL {w : World} {b : Nat} {v : Value} {l : List Int} {g : Nat} {cs : Array Value} (ho : Own w b v l) (h : Loc w g cs 30) : v.ownBlock ≠ some g := by
  intro e
  obtain ⟨cur, hc⟩ := own_obj ho.2 e
  unfold Loc at h
  rw [h] at hc
  injection hc with hc
  injection hc with _ hc
  revert hc
  decide

theorem frm_more {V w w' : World} {v : Value} {p g : Nat} (hF : Frm V w (FB v ++ [p])) (hg : v.ownBlock = some g ∨ V.heap.size ≤ g) (k : w.grownBy w' (some g)) : Frm V w' (FB v ++ [p]) := by
  rcases hg with hg | hg
  · exact hF.trans ((Frm.ofGrown k).mono (fun q hq => by
      have e : g = q := by simp at hq; exact hq.symm
      exact List.mem_append_left _ (by simp [FB, hg, e])))
  · exact hF.new (Frm.ofGrown k) (fun q hq => by
      have e : g = q := by simp at hq; exact hq.symm
      rw [← e]; exact hg)
def TxI (V : World) (p1 : Nat) (v1 pv : Value) (m1 : Nat) (pl : List Int) (Cs : List Value) (t0 t1 t3 t4 t6 t7 t8 : Value) (L : Array Bool) (a : Act) (w : World) : Prop :=
  TxA V p1 v1 pv m1 pl t0 t1 t3 t4 t6 t7 t8 L a w ∨ TxB V p1 v1 pv m1 pl Cs t0 t1 t3 t4 t6 t7 t8 L a w

theorem Byt.sub {w : World} {b off cap : Nat} {l : List Int} (h : Byt w (.slice (some ⟨b, off, none⟩) l.length cap) l) (k e : Nat) (hk : k < l.length) (he : e = min 30 (l.length - k)) : Byt w (.slice (some ⟨b, off + k, none⟩) e e) ((l.drop k).take 30) := by
  have hel : ((l.drop k).take 30).length = e := by rw [List.length_take, List.length_drop]; omega
  obtain ⟨hok, hm, ⟨e1, _⟩ | ⟨x, c, e1, _, e2⟩ | ⟨b', off', cap', e1, h1, h2, h3, h4, h5⟩⟩ := h
  · cases e1
  · subst e2; simp at hk
  · injection e1 with e1 _ e3
    injection e1 with e1
    injection e1 with e1 e2
    subst e1 e2 e3
    unfold maxLen at *
    refine ⟨(hok.drop k).take 30, by rw [hel]; unfold maxLen; omega, .inr (.inr ⟨b, off + k, e, by rw [hel], by rw [hel]; exact Nat.le_refl _, by unfold maxLen; omega, ?_, h4, fun i hi => ?_⟩)⟩
    · intro h0
      rw [h0] at hel
      simp at hel
      omega
    · rw [hel] at hi
      have h6 := h5 (k + i) (by omega)
      rw [← Nat.add_assoc] at h6
      rw [h6]
      congr 2
      rw [List.getD_eq_getElem?_getD, List.getD_eq_getElem?_getD, List.getElem?_take_of_lt (by omega), List.getElem?_drop]

set_option maxHeartbeats 3200000 in
theorem putTexts_any (n : Nat) (w : World) (a : Option Addr) (m cap : Nat) (ra : Option Addr) (rb roff rc : Nat) (l : List (Tr (n + 1))) (F : List Nat) (rl : List Int) (h : OwKids (n + 1) w (.slice a m cap) l F) (hN : F.Nodup) (hlt : ∀ g ∈ F, g < w.heap.size)
    (hra : rl = [] ∨ ra = some ⟨rb, roff, none⟩) (hrc : rl.length ≤ rc) (hr : ∀ w', Frm w w' (FB (.slice a m cap)) → Byt w' (.slice ra rl.length rc) rl) (hl : l.length + rl.length ≤ 8388608) :
    Calls Try.prog 65 #[.slice a m cap, .slice ra rl.length rc] w fun e w' => ∃ v', e = .returned v' ∧ ∃ F', OwKids (n + 1) w' v' (l ++ (cutL rl).map (txtN n)) F' ∧ F'.Nodup ∧ (∀ q ∈ F', (q ∈ F ∨ w.heap.size ≤ q) ∧ q < w'.heap.size) ∧ Frm w w' (FB (.slice a m cap)) ∧ (∀ q ∈ FB v', q ∈ FB (.slice a m cap) ∨ w.heap.size ≤ q) := by
  refine (callsIn_wide (n := 5)).1 ?_
  refine callsIn_of_wp_marks Try.func65 rfl trivial ?_ rfl
  simp only [Try.ntmps65, List.size_toArray, List.length_cons, List.length_nil, Nat.reduceAdd, Nat.reduceSub, Array.replicate_succ, Array.replicate_zero, List.push_toArray, List.append_toArray, List.nil_append, List.cons_append]
  gi_wp2_with fail
  refine ⟨trivial, ?_⟩
  refine (callsIn_wide.2 (chunk_any _ _ _ _)).mono ?_
  rintro e W ⟨rfl, hW⟩
  have l0 : Loc W w.heap.size #[.slice a m cap] 30 := by rw [hW]; exact ((Loc.made w _ _).alloc _).alloc _
  obtain ⟨l1, l2, hsW, hBW⟩ := three_new w _ _ _ _ _ _ W hW
  clear hW
  simp only [World.size_alloc]
  obtain ⟨q1, q2, q3⟩ : w.heap.size < w.heap.size + 1 ∧ w.heap.size + 1 < w.heap.size + 1 + 1 ∧ w.heap.size + 1 + 1 < W.heap.size := by omega
  clear hsW
  generalize hp0 : w.heap.size = p0 at *
  gi_wp2_with fail
  refine range_law (gf := 80) (lb := #[.pointer (some ⟨p0 + 1, 0, none⟩), .pointer (some ⟨p0 + 1 + 1, 0, none⟩)]) (Bx := fun _ => False) (Mt := fun i o => i = p0 ∨ i = W.heap.size + 1 ∨ ∃ cs, o = .cells cs 32 (0, 0)) (xs := pcs rb roff rl) (encs := encP) rfl (enters_of Try.func80 (by kernel_rfl) rfl)
    (fun _ => .inr (.inl rfl)) (fun q o hq hb hm => hb)
    (chunk_hand W _ (p0 + 1) _ ra rb roff rc rl hra hrc (by omega) (fun hm => by
      rcases hm with h | h | ⟨cs', h⟩
      · omega
      · omega
      · injection h with _ h2; revert h2; decide) (fun hm => by
      rcases hm with h | h | ⟨cs', h⟩
      · omega
      · omega
      · injection h with _ h2; revert h2; decide) l1 l2) (fun _ => rfl)
    (fun pre V => ∃ a1 m1 c1 F1, Loc V p0 #[.slice a1 m1 c1] 30 ∧ OwKids (n + 1) V (.slice a1 m1 c1) (l ++ pre.map (fun x => txtN n x.2)) F1 ∧ F1.Nodup ∧ (∀ q ∈ F1, q ∈ F ∨ W.heap.size + 2 ≤ q) ∧ (∀ q ∈ FB (.slice a1 m1 c1), q ∈ FB (.slice a m cap) ∨ W.heap.size + 2 ≤ q) ∧ Frm w V (FB (.slice a m cap)))
    (fun pre V => False)
    (fun pre A B row hs hg hr => by
      obtain ⟨a1, m1, c1, F1, h1, h2, h3, h4, h6, h5⟩ := hs
      have hnr : ∀ r, row = some r → r ∉ F1 := fun r e hF => by
        rcases h4 r hF with h | h
        · have := hlt r h
          rcases hr r e with h | h <;> omega
        · rcases hr r e with h | h <;> omega
      have hf : Frm A B row.toList := Frm.ofGrown hg
      refine ⟨a1, m1, c1, F1, h1.stay hg hr (by omega) (by omega), OwKids.frm h2 hf (fun g hgF hgr => hnr g (by simpa using hgr) hgF), h3, h4, h6, h5.new hf (fun g hgr => ?_)⟩
      have e : row = some g := by simpa using hgr
      rcases hr g e with h | h <;> omega)
    (fun pre A B row hs hg hr => hs)
    ⟨a, m, cap, F, l0, by simpa using OwKids.frm h (Frm.ofBelow (by rw [hp0]; exact hBW) []) (fun _ _ => by simp), hN, fun q hq => .inl hq, fun q hq => .inl hq, Frm.ofBelow (by rw [hp0]; exact hBW) _⟩
    (fun x a' V => a' = { tmps := #[.slice a m cap, .slice ra rl.length rc, .pointer (some ⟨p0, 0, none⟩), undef, .slice none 0 0, x.1, .slice ra rl.length rc, .func (.func 80) #[] #[.pointer (some ⟨p0 + 1, 0, none⟩), .pointer (some ⟨p0 + 1 + 1, 0, none⟩)], x.1, undef, undef, undef, undef, undef, undef, undef, undef, undef], defers := [] })
    (fun x a' u A B row hs hg hr => hs)
    ?assign ?body ?done ?stop
  case assign =>
    intro pre x V K hi hV2 hK
    obtain ⟨xv, xl⟩ := x
    simp only [encP] at hK ⊢
    gi_wp2
    exact hK _ _ (Below.refl _ _) rfl
  case body =>
    rintro pre x a' V ⟨a1, m1, c1, F1, h1, h2, h3, h4, h6, h5⟩ rfl hpx hsz2
    obtain ⟨hk, hxe⟩ : ∃ hk : pre.length < (rl.length + 29) / 30, x = pc rb roff rl pre.length := by
      have hle := hpx.length_le
      rw [pcs_len, List.length_append, List.length_singleton] at hle
      refine ⟨by omega, ?_⟩
      obtain ⟨r, hr'⟩ := hpx
      have : (pcs rb roff rl)[pre.length]? = some x := by rw [← hr']; simp
      rw [List.getElem?_eq_getElem (by rw [pcs_len]; omega)] at this
      simp [pcs] at this
      exact this.symm
    have hrb := hr V h5
    rcases hra with rfl | rfl
    · simp at hk
    have hpb := hrb.sub (30 * pre.length) (min 30 (rl.length - 30 * pre.length)) (by omega) rfl
    have hX : x = (.slice (some ⟨rb, roff + 30 * pre.length, none⟩) (min 30 (rl.length - 30 * pre.length)) (min 30 (rl.length - 30 * pre.length)), (rl.drop (30 * pre.length)).take 30) := hxe
    generalize min 30 (rl.length - 30 * pre.length) = pn at *
    generalize roff + 30 * pre.length = po at *
    have hpl30 : ((rl.drop (30 * pre.length)).take 30).length ≤ 30 := by rw [List.length_take]; omega
    generalize (rl.drop (30 * pre.length)).take 30 = pl at *
    subst hX
    obtain ⟨Cs, Fs, e1, e2, e3, e4, e5⟩ := h2
    have hm1 : m1 = (l ++ pre.map (fun x => txtN n x.2)).length := by
      obtain ⟨_, _, e⟩ := own_nil_shape e4
      injection e
    rw [← hm1] at e4
    have hml : m1 ≤ 16777216 := by rw [hm1, List.length_append, List.length_map]; omega
    have HM1 := hide hm1
    clear hm1
    obtain ⟨i0, hi0, hz0, hz1, hz2⟩ := info_parts Try.info32
    gi_wp2_with fail
    refine region_round (by kernel_rfl) ?nd (TxI V p0 (.slice a1 m1 c1) (.slice (some ⟨rb, po, none⟩) pn pn) m1 pl Cs.flatten (.slice a m cap) (.slice (some ⟨rb, roff, none⟩) rl.length rc) undef (.slice none 0 0) (.slice (some ⟨rb, roff, none⟩) rl.length rc) (.func (.func 80) #[] #[.pointer (some ⟨p0 + 1, 0, none⟩), .pointer (some ⟨p0 + 1 + 1, 0, none⟩)]) (.slice (some ⟨rb, po, none⟩) pn pn)) ?sz ?h0 ?step ?dn
    case nd =>
      intro o ho c hc
      simp at ho
      rcases ho with rfl | rfl | rfl | rfl | rfl | rfl | rfl | rfl | rfl | rfl <;> cases hc
    case sz =>
      rintro L a w (⟨b0, b1, b2, b3, b4, b5, x9, x10, x11, x12, x13, x14, rfl, _⟩ | ⟨b7, b8, b9, cl, x14, x16, g', cap', rfl, _⟩) <;> rfl
    case h0 => exact .inl ⟨false, false, false, false, false, false, undef, undef, undef, undef, undef, undef, rfl, rfl, (Below.refl _ _).drew, by simp, by simp, by simp, by simp, by simp, by simp⟩
    case step =>
      intro L a w i o hI hi ho
      have hlt10 : i < 10 := ready_lt hi
      rcases hI with ⟨b0, b1, b2, b3, b4, b5, x9, x10, x11, x12, x13, x14, rfl, rfl, hB, f0, f1, f2, f3, f4, f5⟩ | ⟨b7, b8, b9, cl, x14, x16, g', cap', rfl, rfl, hF, hg1, hg2, hg3, f7, hcl, hrow, hbx⟩
      · rcases nine hlt10 with rfl | rfl | rfl | rfl | rfl | rfl | rfl | rfl | rfl | rfl
        · obtain rfl := Option.some.inj ho
          have c0 : w.cell? ⟨p0, 0, none⟩ = some (.slice a1 m1 c1) := (h1.all hB).cell 0
          go_simp
          exact .inl ⟨true, b1, b2, b3, b4, b5, _, x10, x11, x12, x13, x14, rfl, rfl, hB, fun _ => rfl, f1, f2, f3, f4, f5⟩
        · obtain rfl := Option.some.inj ho
          go_simp
          exact .inl ⟨b0, true, b2, b3, b4, b5, x9, _, x11, x12, x13, x14, rfl, rfl, hB, f0, fun _ => rfl, f2, f3, f4, f5⟩
        · have p1 := ready_pred hi ho 1
          obtain rfl := Option.some.inj ho
          have e10 := f1 (p1 (by kernel_rfl))
          subst e10
          have hb2 : b2 = false := by simpa using ready_off rfl hi
          go_simp
          refine (clone_any w _ pl (hpb.keep hB) (by omega)).mono ?_
          rintro e w' ⟨v', rfl, ho', hb'⟩
          exact .inl ⟨b0, b1, true, b3, b4, b5, x9, _, v', x12, x13, x14, rfl, rfl, bstep hB hb', f0, f1, fun _ => ho'.mono hB.size, (fun h => by rw [(f3 h).1] at hb2; cases hb2), f4, (fun h => by obtain ⟨z, q1, q2, q3⟩ := f5 h; exact ⟨z, q1, q2, q3.all hb'⟩)⟩
        · have p2 := ready_pred hi ho 2
          obtain rfl := Option.some.inj ho
          have e2 : b2 = true := p2 (by kernel_rfl)
          obtain ⟨ca, cc, e11, _, _⟩ := (f2 e2).byt.shape
          subst e11 e2
          go_simp
          exact .inl ⟨b0, b1, true, true, b4, b5, x9, x10, _, _, x13, x14, rfl, rfl, hB, f0, f1, f2, fun _ => ⟨rfl, rfl⟩, f4, f5⟩
        · have p0' := ready_pred hi ho 0
          obtain rfl := Option.some.inj ho
          have e9 := f0 (p0' (by kernel_rfl))
          subst e9
          go_simp
          exact .inl ⟨b0, b1, b2, b3, true, b5, _, x10, x11, x12, _, x14, rfl, rfl, hB, f0, f1, f2, f3, fun _ => rfl, f5⟩
        · obtain rfl := Option.some.inj ho
          have hba : Below w.heap.size w (w.alloc (.cells #[.int .i64 0, .slice none 0 0, .slice none 0 0, .slice none 0 0, .slice none 0 0] 32)) := (Below.refl _ _).alloc (Nat.le_refl _) _
          go_simp
          exact .inl ⟨b0, b1, b2, b3, b4, true, x9, x10, x11, x12, x13, _, rfl, rfl, bstep hB hba, f0, f1, fun h => (f2 h).keep hba, f3, f4, fun _ => ⟨w.heap.size, hB.size, rfl, Loc.made w _ _⟩⟩
        · have g0 := ready_pred hi ho 0
          have g1 := ready_pred hi ho 1
          have g2 := ready_pred hi ho 2
          have g3 := ready_pred hi ho 3
          have g4 := ready_pred hi ho 4
          have g5 := ready_pred hi ho 5
          obtain rfl := Option.some.inj ho
          have s0 : b0 = true := g0 (by kernel_rfl)
          have s1 : b1 = true := g1 (by kernel_rfl)
          have s2 : b2 = true := g2 (by kernel_rfl)
          have s3 : b3 = true := g3 (by kernel_rfl)
          have s4 : b4 = true := g4 (by kernel_rfl)
          have s5 : b5 = true := g5 (by kernel_rfl)
          obtain ⟨z, z1, z2, z3⟩ := f5 s5
          have y0 := f0 s0
          have y1 := f1 s1
          have y2 := f2 s2
          have y3 := (f3 s3).2
          have y4 := f4 s4
          subst s0 s1 s2 s3 s4 s5 y0 y1 y3 y4 z2
          have hr4 := ownsRow_frm e4 (Frm.ofBelow hB []) (fun _ _ => by simp)
          refine step_append_lies w rfl (.tmp 9) (.tmp 14) 30 rfl 0 32 i0 (.agg #[.int .i64 0, .slice none 0 0, .slice none 0 0, .slice none 0 0, .slice none 0 0]) 5 104 Try.underlying30 hi0 hz0 hz1 hz2 rfl (by decide) (.slice a1 m1 c1) m1 Cs.flatten rfl hr4 ⟨z, 0, none⟩ 1 1 zero5 rfl rfl (fun j u hu => World.news_of_block z3 j u (by simpa [zero5] using hu)) (by intro y hy; simp [zero5] at hy; rcases hy with rfl | rfl <;> rfl) (by omega) (by unfold maxLen; omega) (by omega) (Nat.zero_le _) w.heap.size rfl ?_
          intro g' cap' w' k1 k2 k3 k4
          have hbw := h1.all hB
          have hfr := Frm.ofGrown k2
          have hne : ∀ g, (Value.slice a1 m1 c1).ownBlock = some g → g ≠ p0 := fun g hg e => by
            obtain ⟨cur, hc⟩ := own_obj hr4 hg
            subst e
            unfold Loc at hbw
            rw [hbw] at hc
            injection hc with hc
            injection hc with _ hc
            revert hc
            decide
          have hbw' : Loc w' p0 #[.slice a1 m1 c1] 30 := hbw.frm hfr (fun hg => hne p0 (by simpa using hg) rfl)
          have hcl' : Own w' V.heap.size x11 pl := y2.frm hfr (fun g hg hg' => by
            have q1 : x11.ownBlock = some g := by simpa [FB] using hg
            have q2 : (Value.slice a1 m1 c1).ownBlock = some g := by simpa using hg'
            obtain ⟨cur, hc⟩ := own_obj hr4 q2
            obtain ⟨cur', hc'⟩ := own_obj y2.2 q1
            rw [hc] at hc'
            injection hc' with hc'
            injection hc' with _ hc'
            revert hc'
            decide)
          refine .inr ⟨false, false, false, x11, _, undef, g', cap', rfl, rfl, (Frm.ofBelow hB _).trans (hfr.mono (fun g hg => List.mem_append_left _ (by simpa [FB] using hg))), ?_, ?_, k4, by simp, hcl', k1, hbw'⟩
          · rcases k3 with k3 | k3
            · exact .inl k3
            · right; rw [k3]; exact hB.size
          · rcases k3 with k3 | k3
            · exact hne g' k3
            · have := hbw.lt; omega
        all_goals
          have g6 := ready_pred hi ho 6
          have s6 : false = true := g6 (by obtain rfl := Option.some.inj ho; kernel_rfl)
          cases s6
      · rcases nine hlt10 with rfl | rfl | rfl | rfl | rfl | rfl | rfl | rfl | rfl | rfl
        any_goals (have hoff := ready_off rfl hi; simp at hoff; done)
        · obtain rfl := Option.some.inj ho
          go_simp
          rw [if_pos (by omega)]
          exact .inr ⟨true, b8, b9, cl, x14, _, g', cap', rfl, rfl, hF, hg1, hg2, hg3, fun _ => rfl, hcl, hrow, hbx⟩
        · have g7 := ready_pred hi ho 7
          have hb8 : b8 = false := by simpa using ready_off rfl hi
          obtain rfl := Option.some.inj ho
          have s7 : b7 = true := g7 (by kernel_rfl)
          have e16 := f7 s7
          subst s7 e16 hb8
          have hlC : Cs.flatten.length = m1 * 5 := e4.1
          replace hrow : w.ownsRow 0 32 5 (.slice (some ⟨g', 0, none⟩) (m1 + 1) cap') (m1 + 1) (Cs.flatten ++ zero5) := hrow
          have ce : ∀ j, j < 5 → w.cell? ⟨g', m1 * 5 + j, none⟩ = zero5[j]? := fun j hj => by
            rw [hrow.cellAt (m1 * 5 + j) (by omega), List.getElem?_append_right (by omega), hlC]
            congr 1
            omega
          have y0 : w.cell? ⟨g', m1 * 5, none⟩ = some (.int .i64 0) := ce 0 (by omega)
          have y1 : w.cell? ⟨g', m1 * 5 + 1, none⟩ = some (.slice none 0 0) := ce 1 (by omega)
          have y2 : w.cell? ⟨g', m1 * 5 + 2, none⟩ = some (.slice none 0 0) := ce 2 (by omega)
          have y3 : w.cell? ⟨g', m1 * 5 + 3, none⟩ = some (.slice none 0 0) := ce 3 (by omega)
          have y4 : w.cell? ⟨g', m1 * 5 + 4, none⟩ = some (.slice none 0 0) := ce 4 (by omega)
          clear ce
          have z0 := hrow.frozenAt (m1 * 5)
          have z1 := hrow.frozenAt (m1 * 5 + 1)
          have z2 := hrow.frozenAt (m1 * 5 + 2)
          have z3 := hrow.frozenAt (m1 * 5 + 3)
          have z4 := hrow.frozenAt (m1 * 5 + 4)
          obtain ⟨ca, cc, ecl, _, _⟩ := hcl.byt.shape
          obtain ⟨r5, gr5⟩ := own_set5 (k := m1 * 5) hrow hlC.symm (.int .i64 1) (.slice none 0 0) cl (.slice none 0 0) (.slice none 0 0)
          have hcl5 := hcl.keepBy gr5 (.inr (own_notT (u := cl) hcl hrow))
          have hbx5 := hbx.grown gr5 (fun e => hg2 (by simpa using e))
          have hF5 := frm_more hF hg1 gr5
          subst ecl
          generalize pl.length = np at *
          go_simp
          exact .inr ⟨true, true, b9, _, x14, _, g', cap', rfl, rfl, hF5, hg1, hg2, Nat.lt_of_lt_of_le hg3 gr5.size, fun _ => rfl, hcl5, r5, hbx5⟩
        · have hb9 : b9 = false := by simpa using ready_off rfl hi
          obtain rfl := Option.some.inj ho
          subst hb9
          replace hbx : Loc w p0 #[.slice a1 m1 c1] 30 := hbx
          have y0 : w.cell? ⟨p0, 0, none⟩ = some (.slice a1 m1 c1) := hbx.cell 0
          have z0 := hbx.frozen 0
          have gr := grownBy_setCell' w p0 (.slice (some ⟨g', 0, none⟩) (m1 + 1) cap')
          have hcl9 := hcl.keepBy gr (.inr (own_notL hcl hbx))
          have hrow9 := hrow.kept gr (.inr (fun e => hg2 (by simpa [Value.ownBlock] using e)))
          have hF9 : Frm V _ (FB (.slice a1 m1 c1) ++ [p0]) := hF.trans ((Frm.ofGrown gr).mono (fun q hq => List.mem_append_right _ (by simpa using hq)))
          have hbx9 := hbx.set 0 (.slice (some ⟨g', 0, none⟩) (m1 + 1) cap')
          go_simp
          exact .inr ⟨b7, b8, true, cl, x14, x16, g', cap', rfl, rfl, hF9, hg1, hg2, Nat.lt_of_lt_of_le hg3 gr.size, f7, hcl9, hrow9, hbx9⟩
    case dn =>
      intro L a w2 hI hre
      have hall := ready_all (L := L) (by rcases hI with ⟨b0, b1, b2, b3, b4, b5, x9, x10, x11, x12, x13, x14, rfl, _⟩ | ⟨b7, b8, b9, cl, x14, x16, g', cap', rfl, _⟩ <;> rfl) (by kernel_rfl) hre 10
      rcases hI with ⟨b0, b1, b2, b3, b4, b5, x9, x10, x11, x12, x13, x14, rfl, _⟩ | ⟨b7, b8, b9, cl, x14, x16, g', cap', rfl, rfl, hF, hg1, hg2, hg3, f7, hcl, hrow, hbx⟩
      · have := hall 6 (by omega) (by decide)
        cases this
      · have s8 : b8 = true := hall 8 (by omega) (by decide)
        have s9 : b9 = true := hall 9 (by omega) (by decide)
        subst s8 s9
        replace hrow : w2.ownsRow 0 32 5 (.slice (some ⟨g', 0, none⟩) (m1 + 1) cap') (m1 + 1) (Cs.flatten ++ text5 cl) := hrow
        replace hbx : Loc w2 p0 #[.slice (some ⟨g', 0, none⟩) (m1 + 1) cap'] 30 := hbx
        have hV2 : W.heap.size + 2 ≤ V.heap.size := hsz2
        have hFV : ∀ q ∈ F1, q < V.heap.size := OwElems.lt (R := OwNode (n + 1) V) ⟨Cs, Fs, e1, e2, e3, by rw [← unhide HM1]; exact e4, e5⟩ (fun C x G h => OwNode.lt h)
        have hFp : ∀ q ∈ F1, q ≠ p0 ∧ q ≠ W.heap.size ∧ q ≠ W.heap.size + 1 := fun q hq => by
          rcases h4 q hq with h | h
          · have := hlt q h; omega
          · omega
        have hv1 : ∀ q ∈ FB (.slice a1 m1 c1), q ∈ F1 := fun q hq => by rw [e5]; exact List.mem_append_left _ hq
        have hoff : ∀ i, i ≠ p0 → i ∉ F1 → i ∉ FB (.slice a1 m1 c1) ++ [p0] := fun i h h' hm => by
          rcases List.mem_append.1 hm with hm | hm
          · exact h' (hv1 i hm)
          · exact h (by simpa using hm)
        have hbk : ∀ i, i < V.heap.size → i ≠ p0 → i ∉ F1 → w2.heap[i]? = V.heap[i]? := fun i hi h h' => hF.block i hi (hoff i h h')
        obtain ⟨m1', m2', m3'⟩ := OwElems.pushF (R := OwNode (n + 1)) (fun h f d => OwNode.frm h f d) (y := txtN n pl) (G := FB cl) e1 e2 e3 (by rw [← e5]; exact h3) rfl (txt_own hcl) (FB_nodup _) (fun q hq => ⟨(hcl.lt q (by simpa [FB] using hq)).1, fun e => own_notT (u := cl) hcl hrow (by rw [← e]; simpa [FB] using hq)⟩) (fun q hq => hFV q (by rw [e5]; exact hq)) (unhide HM1) hrow hF (fun q hq hq' => by
          have hq1 : q ∈ F1 := by rw [e5]; exact List.mem_append_right _ hq
          rcases List.mem_append.1 hq' with h | h
          · rw [e5] at h3
            exact (List.nodup_append.1 h3).2.2 q h q hq rfl
          · exact (hFp q hq1).1 (by simpa using h)) hg1
        refine ⟨⟨hbk _ (by omega) (by omega) (fun h => (hFp _ h).2.1 rfl), hbk _ (by omega) (by omega) (fun h => (hFp _ h).2.2 rfl)⟩, Frp.ofFrm hF (fun g hg o ho => ?_), _, _, _, _, hbx, by rw [List.map_append, ← List.append_assoc]; exact m1', m2', fun q hq => ?_, fun q hq => ?_, ?_⟩
        · rcases List.mem_append.1 hg with hg | hg
          · obtain ⟨cur, hc⟩ := own_obj e4 (g := g) (by simpa [FB] using hg)
            rw [hc] at ho
            cases ho
            exact .inr (.inr ⟨cur, rfl⟩)
          · exact .inl (by simpa using hg)
        · rcases m3' q hq with h | h
          · exact h4 q (by rw [e5]; exact h)
          · right; omega
        · have e : q = g' := by simpa [FB, Value.ownBlock] using hq
          rw [e]
          rcases hg1 with h | h
          · exact h6 g' (by simp [FB, h])
          · right; omega
        · refine ⟨hF.os.trans h5.os, hF.tape.trans h5.tape, hF.output.trans h5.output, Nat.le_trans h5.size hF.size, fun i hi hn => ?_⟩
          have hsz5 := h5.size
          refine (hF.block i (by omega) (fun hm => ?_)).trans (h5.block i hi hn)
          rcases List.mem_append.1 hm with hm | hm
          · rcases h6 i hm with h | h
            · exact hn h
            · omega
          · have : i = p0 := by simpa using hm
            omega
  case done =>
    rintro V ⟨a1, m1, c1, F1, h1, h2, h3, h4, h6, h5⟩ hD
    have y0 : V.cell? ⟨p0, 0, none⟩ = some (.slice a1 m1 c1) := h1.cell 0
    have hpc : (pcs rb roff rl).map (fun x => txtN n x.2) = (cutL rl).map (txtN n) := by
      rw [← pcs_cut rb roff rl.length rl (Nat.le_refl _), pcs, List.map_map, List.map_map]
      rfl
    rw [hpc] at h2
    gi_wp2
    refine ⟨by simp, .inl ⟨_, _, rfl, run_takeDeferred hD, ?_⟩⟩
    have gr := grownBy_putObj' V W.heap.size (.deferred none)
    have hnF : ∀ q ∈ F1, q ∉ (some W.heap.size).toList := fun q hq hm => by
      have e : q = W.heap.size := by simpa using hm
      rcases h4 q hq with h | h
      · have := hlt q h; omega
      · omega
    have hnew : ∀ q ∈ (some W.heap.size).toList, w.heap.size ≤ q := fun q hq => by
      have e : q = W.heap.size := by simpa using hq
      omega
    have key : ∀ x, x = Value.slice a1 m1 c1 → ∀ Y, Frm V Y (some W.heap.size).toList → V.heap.size ≤ Y.heap.size → ∃ v', Ending.returned x = .returned v' ∧ ∃ F', OwKids (n + 1) Y v' (l ++ (cutL rl).map (txtN n)) F' ∧ F'.Nodup ∧ (∀ q ∈ F', (q ∈ F ∨ w.heap.size ≤ q) ∧ q < Y.heap.size) ∧ Frm w Y (FB (.slice a m cap)) ∧ (∀ q ∈ FB v', q ∈ FB (.slice a m cap) ∨ w.heap.size ≤ q) := by
      intro x hx Y hY hYs
      subst hx
      refine ⟨_, rfl, F1, OwKids.frm h2 hY hnF, h3, fun q hq => ⟨?_, ?_⟩, h5.new hY hnew, fun q hq => (h6 q hq).imp id (fun h => by omega)⟩
      · rcases h4 q hq with h | h
        · exact .inl h
        · right; omega
      · exact Nat.lt_of_lt_of_le (OwElems.lt h2 (fun C x G h => OwNode.lt h) q hq) hYs
    refine ⟨_, results_tmp rfl _ _ _, ?_⟩
    exact key _ rfl _ (Frm.ofGrown gr) gr.size
  case stop =>
    rintro pre V hpre h hD
    exact h.elim
end Go.Proofs.Yteioihjgjbjmjaa

/- What may be has no text but in texts; a node as it grows: its fields and their memory. -/
namespace Go.Proofs.Yteioihjgjbjmjaa
open Go.RowKit
set_option linter.unusedVariables false

/-- No text in what is no text. -/
def NoT : (n : Nat) → Tr n → Prop
  | 0 => fun _ => True
  | 1 => fun t => t.text = []
  | n + 2 => fun t => t.text = [] ∧ ∀ k ∈ t.kids, k.kind ≠ 1 → NoT (n + 1) k
theorem okK_mem {α : Type} {f : α → Int → Bool × Int} : ∀ (l : List α) (left : Int), (okK f l left).1 = true → ∀ k ∈ l, ∃ left', (f k left').1 = true
  | [], _, _, k, hk => by cases hk
  | x :: l, left, h, k, hk => by
    rw [okK] at h
    by_cases hb : (f x left).1 = true
    · rw [if_pos hb] at h
      rcases List.mem_cons.1 hk with rfl | hk
      · exact ⟨left, hb⟩
      · exact okK_mem l _ h k hk
    · rw [if_neg hb] at h
      cases h
theorem okT_elem {n : Nat} {deep : Int} {t : Tr (n + 1)} {left : Int} (h : (okT (n + 1) deep t left).1 = true) (hk : t.kind ≠ 1) : t.text = [] ∧ (okK (okT n (deep + 1)) t.kids (left - 1)).1 = true := by
  rw [okT_succ] at h
  by_cases h1 : left - 1 < 0 ∨ 20 < deep
  · rw [if_pos h1] at h; cases h
  · rw [if_neg h1, if_neg hk] at h
    by_cases h3 : elemB t = true
    · rw [if_pos h3] at h
      exact ⟨List.eq_nil_of_length_eq_zero ((elemB_iff t).1 h3).2.2.1, h⟩
    · rw [if_neg h3] at h; cases h
theorem noT_of : ∀ (n : Nat) (deep : Int) (t : Tr (n + 1)) (left : Int), (okT (n + 1) deep t left).1 = true → t.kind ≠ 1 → NoT (n + 1) t
  | 0, deep, t, left, h, hk => (okT_elem h hk).1
  | n + 1, deep, t, left, h, hk => by
    obtain ⟨h1, h2⟩ := okT_elem h hk
    refine ⟨h1, fun k hm hk' => ?_⟩
    obtain ⟨left', hl⟩ := okK_mem _ _ h2 k hm
    exact noT_of n (deep + 1) k left' hl hk'
theorem noT_ok {n : Nat} {t : Tr (n + 1)} (h : okN n t = true) : NoT (n + 1) t := by
  unfold okN at h
  rw [Bool.and_eq_true, decide_eq_true_eq] at h
  exact noT_of n 1 t 120 h.2 (by rw [h.1]; decide)

/-- A node as it grows, in block po: its fields, and all the memory that they own. -/
structure OutAt (n lo : Nat) (w : World) (po : Nat) (kd : Int) (nm tx at' kv : Value) (ln lt : List Int) (la : List (List Int × List Int)) (A : List (Tr (n + 1))) (Fa Fk : List Nat) : Prop where
  loc : Loc w po #[.int .i64 kd, nm, tx, at', kv] 32
  name : Own w 0 nm ln
  text : Own w 0 tx lt
  attrs : OwAttrs w at' la Fa
  kids : OwKids (n + 1) w kv A Fk
  nodup : (FB nm ++ FB tx ++ Fa ++ Fk).Nodup
  rng : ∀ q ∈ FB nm ++ FB tx ++ Fa ++ Fk, lo ≤ q ∧ q < w.heap.size ∧ q ≠ po

variable {n lo po : Nat} {w w' : World} {kd : Int} {nm tx at' kv : Value} {ln lt : List Int} {la : List (List Int × List Int)} {A : List (Tr (n + 1))} {Fa Fk : List Nat}

theorem OutAt.frm {S : List Nat} (h : OutAt n lo w po kd nm tx at' kv ln lt la A Fa Fk) (f : Frm w w' S) (hp : po ∉ S) (hd : ∀ q ∈ FB nm ++ FB tx ++ Fa ++ Fk, q ∉ S) : OutAt n lo w' po kd nm tx at' kv ln lt la A Fa Fk where
  loc := h.loc.frm f hp
  name := h.name.frm f (fun q hq => hd q (by simp only [List.mem_append]; exact .inl (.inl (.inl hq))))
  text := h.text.frm f (fun q hq => hd q (by simp only [List.mem_append]; exact .inl (.inl (.inr hq))))
  attrs := h.attrs.frm f (fun q hq => hd q (by simp only [List.mem_append]; exact .inl (.inr hq)))
  kids := OwKids.frm h.kids f (fun q hq => hd q (by simp only [List.mem_append]; exact .inr hq))
  nodup := h.nodup
  rng := fun q hq => ⟨(h.rng q hq).1, Nat.lt_of_lt_of_le (h.rng q hq).2.1 f.size, (h.rng q hq).2.2⟩
theorem OutAt.keep (h : OutAt n lo w po kd nm tx at' kv ln lt la A Fa Fk) (hb : Below w.heap.size w w') : OutAt n lo w' po kd nm tx at' kv ln lt la A Fa Fk := h.frm (Frm.ofBelow hb []) (by simp) (fun _ _ => by simp)
/-- The kids turned, and were stored. -/
theorem OutAt.setKids {S : List Nat} {kv' : Value} {A' : List (Tr (n + 1))} {Fk' : List Nat} (h : OutAt n lo w po kd nm tx at' kv ln lt la A Fa Fk) (f : Frm w w' S) (hp : po ∉ S) (hd : ∀ q ∈ FB nm ++ FB tx ++ Fa, q ∉ S)
    (hk : OwKids (n + 1) w' kv' A' Fk') (hN : Fk'.Nodup) (hF : ∀ q ∈ Fk', (q ∈ Fk ∨ w.heap.size ≤ q) ∧ q < w'.heap.size) (hlo : lo ≤ w.heap.size) : OutAt n lo (w'.setCell ⟨po, 4, none⟩ kv') po kd nm tx at' kv' ln lt la A' Fa Fk' := by
  have hpl := h.loc.lt
  have hpk : ∀ q ∈ Fk', q ≠ po := fun q hq e => by
    rcases (hF q hq).1 with h' | h'
    · exact (h.rng q (by simp only [List.mem_append]; exact .inr h')).2.2 e
    · omega
  have fs := Frm.set w' po 4 kv'
  have hl := h.loc.frm f hp
  have hne : ∀ q ∈ FB nm ++ FB tx ++ Fa, q ∉ [po] := fun q hq hm => (h.rng q (by simp only [List.mem_append] at hq ⊢; exact .inl hq)).2.2 (by simpa using hm)
  refine ⟨hl.set 4 kv', (h.name.frm f (fun q hq => hd q (by simp only [List.mem_append]; exact .inl (.inl hq)))).frm fs (fun q hq => hne q (by simp only [List.mem_append]; exact .inl (.inl hq))), (h.text.frm f (fun q hq => hd q (by simp only [List.mem_append]; exact .inl (.inr hq)))).frm fs (fun q hq => hne q (by simp only [List.mem_append]; exact .inl (.inr hq))), (h.attrs.frm f (fun q hq => hd q (by simp only [List.mem_append]; exact .inr hq))).frm fs (fun q hq => hne q (by simp only [List.mem_append]; exact .inr hq)), OwKids.frm hk fs (fun q hq hm => hpk q hq (by simpa using hm)), ?_, ?_⟩
  · obtain ⟨n1, n2, n3⟩ := List.nodup_append.1 h.nodup
    refine List.nodup_append.2 ⟨n1, hN, fun a ha b hb e => ?_⟩
    rcases (hF b hb).1 with h' | h'
    · exact n3 a ha b h' e
    · have := (h.rng a (List.mem_append_left _ ha)).2.1
      omega
  · intro q hq
    rcases List.mem_append.1 hq with hq | hq
    · have := h.rng q (List.mem_append_left _ hq)
      exact ⟨this.1, Nat.lt_of_lt_of_le this.2.1 (Nat.le_trans f.size fs.size), this.2.2⟩
    · refine ⟨?_, Nat.lt_of_lt_of_le (hF q hq).2 fs.size, hpk q hq⟩
      rcases (hF q hq).1 with h' | h'
      · exact (h.rng q (List.mem_append_right _ h')).1
      · omega
/-- The node is whole. -/
theorem OutAt.node (h : OutAt n lo w po kd nm tx at' kv ln lt la A Fa Fk) (k1 : -9223372036854775808 ≤ kd) (k2 : kd ≤ 9223372036854775807) : OwNode (n + 2) w [.int .i64 kd, nm, tx, at', kv] (⟨kd, ln, lt, la, A⟩ : Nd (Tr (n + 1))) (FB nm ++ FB tx ++ Fa ++ Fk) :=
  ⟨nm, tx, at', kv, Fa, Fk, rfl, k1, k2, h.name, h.text, h.attrs, h.kids, rfl⟩

/-- A row of bytes cut to none keeps its memory. -/
theorem Own.cut0 {w : World} {base : Nat} {a : Option Addr} {m cap : Nat} {l : List Int} (h : Own w base (.slice a m cap) l) : Own w base (.slice a 0 cap) [] := by
  refine ⟨okB_nil, rfl, ?_⟩
  rcases h.2.2 with ⟨e, _⟩ | ⟨g, c, cur, e, h1, h2, h3, h4, h5, h6⟩
  · injection e with e1 e2 e3
    subst e1 e3
    exact .inl ⟨rfl, rfl⟩
  · injection e with e1 e2 e3
    subst e1 e3
    exact .inr ⟨g, cap, cur, rfl, h1, h2, Nat.zero_le _, h4, h5, by simp [vals]⟩
/-- How the sum of a row of members stands to its length. -/
theorem wtM_len {α : Type} (sz : α → Nat) : ∀ l : List (Mb α), l.length ≤ (l.map (wtM sz)).sum
  | [] => by simp
  | x :: l => by
    have h1 := wtM_len sz l
    have h2 : 1 ≤ wtM sz x := by
      cases x with
      | inl k => exact Nat.le_add_right 1 _
      | inr l => exact Nat.le_add_right 1 _
    simp only [List.map_cons, List.length_cons, List.sum_cons]
    omega
end Go.Proofs.Yteioihjgjbjmjaa

/- The laws' own copy of a slice of attributes, of nodes, of a whole tree: the walks. -/
namespace Go.Proofs.Yteioihjgjbjmjaa
open Go.RowKit
set_option linter.unusedVariables false

theorem szA_one {l : List (List Int × List Int)} {k : Nat} (h : k < l.length) : l[k].1.length + l[k].2.length ≤ szA l := by
  have h1 := sumTo_step (fun x : List Int × List Int => x.1.length + x.2.length) l k h
  have h2 := sumTo_le (fun x : List Int × List Int => x.1.length + x.2.length) l (k + 1)
  unfold szA
  omega
theorem szK_one {n : Nat} {l : List (Tr n)} {k : Nat} (h : k < l.length) : szT n l[k] ≤ szK n l := by
  have h1 := sumTo_step (szT n) l k h
  have h2 := sumTo_le (szT n) l (k + 1)
  unfold szK
  omega

set_option maxHeartbeats 3200000 in
theorem toAttrS_any (w : World) (v : Value) (l : List (List Int × List Int)) (h : RdAttrs w v l) (hs : szA l ≤ 2097152) :
    Calls Try.prog 28 #[v] w fun e w' => ∃ a c, e = .returned (.slice a l.length c) ∧ ∃ F, OwAttrs w' (.slice a l.length c) l F ∧ F.Nodup ∧ Rng F w.heap.size w'.heap.size ∧ Below w.heap.size w w' := by
  obtain ⟨i0, hi, hz0, hz1, hz2⟩ := info_parts Try.info88
  have hm := h.1
  have hlen : l.length ≤ 2097152 := by unfold szA at hs; omega
  by_cases h0 : l = []
  · obtain ⟨a, cap, rfl, _⟩ := Elems.shape h
    subst h0
    go_enter Try.func28, Try.ntmps28
    go_wp2_with (at_make; refine wpList_make_full _ rfl _ _ 29 rfl w.heap.size 88 i0 _ 2 Try.underlying29 hi hz0 hz1 .i64 .i64 _ _ 0 rfl rfl rfl rfl ?c1 ?c2 ?c3 ?_)
    case c1 => rw [hz2]; omega
    case c2 => exact Nat.zero_le _
    case c3 => exact Nat.le_refl _
    intro w1 hown hgrow
    have hB1 := Below.ofGrown hgrow
    have hH := (Half.start (α := List Int × List Int) (l := []) (R := OwAttr w1) (w.heap.size + 1) (ownsRow_base hown 0 (Nat.zero_le _))).whole rfl (by omega)
    have HH := hide hH
    clear hown hgrow hH
    go_wp2_with fail
    refine wp_loop_rounds 1 ?_
    rw [rounds_succ]
    go_wp2_with fail
    go_ret
    obtain ⟨F, hF, hnd, hr⟩ := unhide HH
    exact ⟨_, _, rfl, F, hF, hnd, hr, hB1⟩
  obtain ⟨_, ⟨_, e⟩ | ⟨_, _, _, _, e⟩ | ⟨b, off, cap, rfl, g1, g2, g3, g4, g5⟩⟩ := h
  · exact absurd e h0
  · exact absurd e h0
  go_enter Try.func28, Try.ntmps28
  go_wp2_with (at_make; refine wpList_make_full _ rfl _ _ 29 rfl w.heap.size 88 i0 _ 2 Try.underlying29 hi hz0 hz1 .i64 .i64 _ _ l.length rfl rfl rfl rfl ?c1 ?c2 ?c3 ?_)
  case c1 => rw [hz2]; omega
  case c2 => exact hm
  case c3 => exact Nat.le_refl _
  intro w1 hown hgrow
  have hB1 := Below.ofGrown hgrow
  have hH := Half.start (α := List Int × List Int) (l := l) (R := OwAttr w1) (w.heap.size + 1) (ownsRow_base hown 0 (Nat.zero_le _))
  have hlt1 := (hown.lt w.heap.size rfl).2
  clear hown hgrow
  go_wp2_with fail
  go_loopw [4] (fun i wr => ∃ k : Nat, k ≤ l.length ∧ i = .int .i64 k ∧ Half wr 88 2 w.heap.size l.length l (OwAttr wr) (w.heap.size + 1) k ∧ Below w.heap.size w wr ∧ w.heap.size + 1 ≤ wr.heap.size) (fun i _ => l.length - (intOf i).toNat)
  case atStart => exact ⟨0, Nat.zero_le _, rfl, hH, hB1, by omega⟩
  case round =>
    obtain ⟨k, hk, rfl, hr, hB, hsz⟩ := hrel
    clear hH hB1 hlt1
    by_cases hlt : k < l.length
    · obtain ⟨c0, c1, e0, e1, hc⟩ := two_of (g5 k hlt)
      obtain ⟨_, _, ee, hc0, hc1⟩ := hc
      simp only [List.cons.injEq, and_true] at ee
      obtain ⟨rfl, rfl⟩ := ee
      replace e0 := (hB.cell (p := ⟨b, off + k * 2, none⟩) g4).trans e0
      replace e1 := (hB.cell (p := ⟨b, off + k * 2 + 1, none⟩) g4).trans e1
      have hlt' : (k : Int) < (l.length : Int) := by omega
      clear g5
      go_wp2_with fail
      refine (toAttr_any wr _ _ l[k] (hc0.keep hB) (hc1.keep hB) (by have := szA_one hlt; omega)).mono ?_
      rintro e w2 ⟨a1, k1, a2, k2, rfl, G, hO, hnd, hrg, hB2⟩
      have hrow : ∃ xs : List Value, w2.ownsRow 0 88 2 (.slice (some ⟨w.heap.size, 0, none⟩) l.length l.length) l.length xs := by
        obtain ⟨_, _, xs, _, _, _, h4, _⟩ := hr.laid
        exact ⟨xs, ownsRow_frm h4 (Frm.ofBelow hB2 []) (fun _ _ => by simp)⟩
      obtain ⟨xs, hx⟩ := hrow
      have hxl := hx.1
      have q0 : w2.cell? ⟨w.heap.size, k * 2, none⟩ = some (xs[k * 2]'(by omega)) := by rw [hx.cellAt (k * 2) (by omega), List.getElem?_eq_getElem (by omega)]
      have q1 : w2.cell? ⟨w.heap.size, k * 2 + 1, none⟩ = some (xs[k * 2 + 1]'(by omega)) := by rw [hx.cellAt (k * 2 + 1) (by omega), List.getElem?_eq_getElem (by omega)]
      have f0 := hx.frozenAt (k * 2)
      have f1 := hx.frozenAt (k * 2 + 1)
      generalize xs[k * 2]'(by omega) = y0 at q0
      generalize xs[k * 2 + 1]'(by omega) = y1 at q1
      have hf : Frm w2 ((w2.setCell ⟨w.heap.size, k * 2, none⟩ (.slice a1 l[k].1.length k1)).setCell ⟨w.heap.size, k * 2 + 1, none⟩ (.slice a2 l[k].2.length k2)) [w.heap.size] := (set_frm w2 _ _ _).trans (set_frm _ _ _ _)
      have hstep : Half ((w2.setCell ⟨w.heap.size, k * 2, none⟩ (.slice a1 l[k].1.length k1)).setCell ⟨w.heap.size, k * 2 + 1, none⟩ (.slice a2 l[k].2.length k2)) 88 2 w.heap.size l.length l (OwAttr ((w2.setCell ⟨w.heap.size, k * 2, none⟩ (.slice a1 l[k].1.length k1)).setCell ⟨w.heap.size, k * 2 + 1, none⟩ (.slice a2 l[k].2.length k2))) (w.heap.size + 1) (k + 1) := by
        refine hr.step hlt (by omega) hsz hB2 [.slice a1 l[k].1.length k1, .slice a2 l[k].2.length k2] G rfl ?_ hnd hrg ?_ hf ?_
        · obtain ⟨_, _, e, o1, o2, rfl⟩ := hO
          exact ⟨_, _, e, o1.frm hf (fun g hg => by have := hrg g (by simp [hg]); simp; omega), o2.frm hf (fun g hg => by have := hrg g (by simp [hg]); simp; omega), rfl⟩
        · rintro C x G' ⟨u1, u2, e, o1, o2, rfl⟩ hne
          have hfb := (Frm.ofBelow hB2 [w.heap.size]).trans hf
          exact ⟨_, _, e, o1.frm hfb (fun g hg => by have := hne g (by simp [hg]); simp; omega), o2.frm hfb (fun g hg => by have := hne g (by simp [hg]); simp; omega), rfl⟩
        · intro zs hz
          have hzl := hz.1
          have t1 := (hz.stored (k * 2) (.slice a1 l[k].1.length k1)).1
          have t2 := (t1.stored (k * 2 + 1) (.slice a2 l[k].2.length k2)).1
          exact ⟨_, t2, take_two zs (k * 2) _ _ (by omega)⟩
      have HS := hide hstep
      have HB := hide (hB.trans ((hB2.mono hB.size).trans (hf.below (by have := hB2.size; have := hB.size; omega) (fun g hg => by simp at hg; omega))))
      have hs2 := hB2.size
      clear hstep hf hx hO hr hB2 hB e0 e1 hc0 hc1 hrg hnd
      go_wp2_with fail
      go_roundw
      case rel => exact ⟨k + 1, by omega, by go_num, unhide HS, unhide HB, by simp; omega⟩
      case measure => simp [intOf]; omega
    · have e : k = l.length := by omega
      subst e
      have HW := hide (hr.whole rfl (by omega))
      clear hr g5
      go_wp2_with fail
      go_ret
      obtain ⟨F, hF, hnd, hrg⟩ := unhide HW
      exact ⟨_, _, rfl, F, hF, hnd, hrg, hB⟩
end Go.Proofs.Yteioihjgjbjmjaa
