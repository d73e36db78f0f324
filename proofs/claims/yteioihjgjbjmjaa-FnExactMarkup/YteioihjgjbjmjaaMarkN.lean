/- The laws' own helpers that write a count into trees, by their contracts. -/
import Derived.Test.YteioihjgjbjmjaaMarkM
namespace Go.Proofs.Yteioihjgjbjmjaa
open Go.RowKit
set_option linter.unusedVariables false
set_option maxRecDepth 100000

def MarkKSaid (n : Nat) : Prop := ∀ (w : World) (v : Value) (l : List (Tr n)) (F : List Nat) (k : Int), OwKids n w v l F → F.Nodup → cntL (cntT n) l ≤ 4194304 → 0 ≤ k → k + (cntL (cntT n) l : Nat) ≤ 800000000 →
    Calls Try.prog 41 #[v, .int .i64 k] w fun e w' => e = .returned (.int .i64 (k + (cntL (cntT n) l : Nat))) ∧ OwKids n w' v (mkK n l k) F ∧ Frm w w' F

theorem markK_nil (w : World) (a : Option Addr) (cap : Nat) (k : Int) :
    Calls Try.prog 41 #[.slice a 0 cap, .int .i64 k] w fun e w' => e = .returned (.int .i64 k) ∧ w' = w := by
  go_enter Try.func41, Try.ntmps41
  go_wp2_with fail
  refine wp_loop_rounds 1 ?_
  rw [rounds_succ]
  go_wp2_with fail
  go_ret
  exact ⟨rfl, rfl⟩
theorem own_nil_shape {w : World} {base : Nat} {e : TypeId} {size n : Nat} {v : Value} {xs : List Value} (h : w.ownsRow base e size v n xs) : ∃ a cap, v = .slice a n cap := by
  rcases h.2 with ⟨rfl, rfl⟩ | ⟨g, cap, cur, rfl, _⟩
  · exact ⟨_, _, rfl⟩
  · exact ⟨_, _, rfl⟩
theorem markK_empty (n : Nat) (w : World) (v : Value) (F : List Nat) (k : Int) (h : OwKids n w v [] F) :
    Calls Try.prog 41 #[v, .int .i64 k] w fun e w' => e = .returned (.int .i64 (k + (cntL (cntT n) [] : Nat))) ∧ OwKids n w' v (mkK n [] k) F ∧ Frm w w' F := by
  obtain ⟨Cs, Fs, hCl, hFl, hR, hrow, hF⟩ := h
  obtain ⟨a, cap, rfl⟩ := own_nil_shape hrow
  refine (markK_nil w a cap k).mono ?_
  rintro e w' ⟨rfl, rfl⟩
  exact ⟨by simp [cntL], ⟨Cs, Fs, hCl, hFl, hR, hrow, hF⟩, Frm.refl _ _⟩

theorem OwKids.cellsLen {n : Nat} {w : World} {C : List Value} {t : Tr n} {F : List Nat} (h : OwNode n w C t F) : C.length = 5 := by
  cases n with
  | zero => exact t.elim
  | succ n => obtain ⟨a, b, c, d, Fc, Fd, rfl, _⟩ := h; rfl
theorem nodup4 {a b c d : List Nat} (h : (a ++ b ++ c ++ d).Nodup) : (∀ g ∈ a, g ∉ b ∧ g ∉ c ∧ g ∉ d) ∧ (∀ g ∈ b, g ∉ c ∧ g ∉ d) ∧ (∀ g ∈ c, g ∉ d) ∧ c.Nodup ∧ d.Nodup := by
  have h1 := List.nodup_append.1 h
  have h2 := List.nodup_append.1 h1.1
  have h3 := List.nodup_append.1 h2.1
  refine ⟨fun g ha => ⟨fun hb => h3.2.2 g ha g hb rfl, fun hc => h2.2.2 g (List.mem_append_left _ ha) g hc rfl, fun hd => h1.2.2 g (List.mem_append_left _ (List.mem_append_left _ ha)) g hd rfl⟩,
    fun g hb => ⟨fun hc => h2.2.2 g (List.mem_append_right _ hb) g hc rfl, fun hd => h1.2.2 g (List.mem_append_left _ (List.mem_append_right _ hb)) g hd rfl⟩,
    fun g hc hd => h1.2.2 g (List.mem_append_right _ hc) g hd rfl, h2.2.1, h1.2.1⟩

set_option maxHeartbeats 6400000 in
theorem markK_succ (n : Nat) (H : MarkKSaid n) : MarkKSaid (n + 1) := by
  intro w v l F k h hF hs h0 h1
  have hml := OwElems.len h
  unfold maxLen at hml
  by_cases hl0 : l = []
  · subst hl0; exact markK_empty (n + 1) w v F k h
  obtain ⟨Cs, Fs, hCl, hFl, hR, hrow, rfl⟩ := h
  have hFv := nodup_part hF
  have hFn := (List.nodup_append.1 hF).2.1
  have hv : ∃ g cap, v = .slice (some ⟨g, 0, none⟩) l.length cap := by
    rcases hrow.2 with ⟨_, h⟩ | ⟨g, cap, cur, rfl, _⟩
    · exact absurd (List.eq_nil_of_length_eq_zero h) hl0
    · exact ⟨g, cap, rfl⟩
  obtain ⟨g, cap, rfl⟩ := hv
  have hgF : ∀ i, g ∉ Fs.getD i [] := fun i hi => hFv g (by simp [FB, Value.ownBlock]) (mem_flat hi)
  have hFB : FB (.slice (some ⟨g, 0, none⟩) l.length cap) = [g] := rfl
  rw [hFB] at hF hFv ⊢
  have HR := hide hR
  have HROW := hide hrow
  have hm' : (l.length : Int) ≤ 9223372036854775807 := by omega
  clear hR hrow hFB
  go_enter Try.func41, Try.ntmps41
  go_wp2_with fail
  go_loopw [1, 5] (fun c i wr => ∃ j : Nat, j ≤ l.length ∧ i = .int .i64 j ∧ c = .int .i64 (k + (cntL (cntT (n + 1)) (l.take j) : Nat)) ∧ ∃ Ds : List (List Value), Ds.length = l.length ∧ wr.ownsRow 0 32 5 (.slice (some ⟨g, 0, none⟩) l.length cap) l.length Ds.flatten ∧
      (∀ i (hi : i < (mkK (n + 1) l k).length), i < j → OwNode (n + 1) wr (Ds.getD i []) (mkK (n + 1) l k)[i] (Fs.getD i [])) ∧ (∀ i (hi : i < l.length), j ≤ i → OwNode (n + 1) wr (Ds.getD i []) l[i] (Fs.getD i [])) ∧ Frm w wr ([g] ++ Fs.flatten)) (fun _ i _ => l.length - (intOf i).toNat)
  case atStart => exact ⟨0, Nat.zero_le _, rfl, by simp [cntL], Cs, hCl, unhide HROW, fun i hi hj => by omega, fun i hi _ => (unhide HR i hi).2, Frm.refl _ _⟩
  case round =>
    obtain ⟨j, hj, rfl, rfl, Ds, hDl, hr, hdone, htodo, hf⟩ := hrel
    have hD : ∀ i, i < Ds.length → (Ds.getD i []).length = 5 := fun i hi => by
      by_cases hij : i < j
      · exact OwKids.cellsLen (hdone i (by rw [mkK_len]; omega) hij)
      · exact OwKids.cellsLen (htodo i (by omega) (by omega))
    by_cases hjl : j < l.length
    · obtain ⟨a, b, c, d, Fc, Fd, hab, hk1, hk2, ha, hb, hc, hd, hFj⟩ := htodo j hjl (Nat.le_refl _)
      have hct := cntL_take (cntT (n + 1)) l j hjl
      have hcl := cntL_le (cntT (n + 1)) l (j + 1)
      have hcs := cntT_succ n l[j]
      have hat := mkK_at (n + 1) l k j hjl (by rw [mkK_len]; exact hjl)
      obtain ⟨x, hx⟩ : ∃ x, x = l[j] := ⟨_, rfl⟩
      rw [← hx] at ha hb hc hd hct hcs hat hab hk1 hk2
      obtain ⟨q, hq⟩ : ∃ q : Int, q = k + (cntL (cntT (n + 1)) (l.take j) : Nat) := ⟨_, rfl⟩
      rw [← hq] at hat ⊢
      have hq0 : 0 ≤ q := by omega
      have hq1 : q + (1 + cntT (n + 1) x : Nat) ≤ 800000000 := by omega
      rw [hcs] at hq1
      obtain ⟨pa, ca, rfl, _, _⟩ := ha.byt.shape
      obtain ⟨pb, cb, rfl, _, _⟩ := hb.byt.shape
      obtain ⟨pc, cc, rfl, _, _⟩ := Elems.shape (OwAttrs.rd hc)
      obtain ⟨pd, cd, rfl, _, _⟩ := Elems.shape (OwKids.rd hd)
      have hFjn := nodup_at (i := j) hFn
      rw [hFj] at hFjn
      obtain ⟨na, nb', nc', hFcn, hFdn⟩ := nodup4 hFjn
      have e0 := own_cellAt hr hD hDl j 0 hjl (by omega)
      rw [hab] at e0
      simp only [List.getElem?_cons_zero, Nat.add_zero] at e0
      have f0 := hr.frozenAt (j * 5)
      have hst := hr.stored (j * 5) (.int .i64 q)
      rw [← flat_set Ds 5 (by omega) hD j (by omega)] at hst
      rw [hab, List.set_cons_zero] at hst
      obtain ⟨Es, hEs⟩ : ∃ Es, Es = Ds.set j [.int .i64 q, .slice pa x.name.length ca, .slice pb x.text.length cb, .slice pc x.attrs.length cc, .slice pd x.kids.length cd] := ⟨_, rfl⟩
      rw [← hEs] at hst
      have hEl : Es.length = l.length := by rw [hEs]; simpa using hDl
      have hEj : Es.getD j [] = [.int .i64 q, .slice pa x.name.length ca, .slice pb x.text.length cb, .slice pc x.attrs.length cc, .slice pd x.kids.length cd] := by rw [hEs]; simp [List.getD_eq_getElem?_getD, show j < Ds.length by omega]
      have hEo : ∀ i, i ≠ j → Es.getD i [] = Ds.getD i [] := fun i hi => by rw [hEs]; simp [List.getD_eq_getElem?_getD, Ne.symm hi]
      have hE : ∀ i, i < Es.length → (Es.getD i []).length = 5 := fun i hi => by
        by_cases e : i = j
        · rw [e, hEj]; rfl
        · rw [hEo i e]; exact hD i (by omega)
      obtain ⟨r1, hg1⟩ := hst
      have F1 : Frm wr (wr.setCell ⟨g, j * 5, none⟩ (.int .i64 q)) [g] := Frm.ofGrown hg1
      have c1 := own_cellAt r1 hE hEl j 1 hjl (by omega)
      rw [hEj] at c1
      simp only [List.getElem?_cons_zero, List.getElem?_cons_succ] at c1
      have HX := hide hx
      have HQ := hide hq
      have HT := hide hat
      have HCT := hide hct
      have HCS := hide hcs
      have HFJ := hide hFj
      have HDN := hide hdone
      have HTD := hide htodo
      have HEJ := hide hEj
      have hx1 : x.name.length ≤ 4194304 := by omega
      have hx2 : x.text.length ≤ 4194304 := by omega
      have hx3 : cntA x.attrs ≤ 4194304 := by omega
      have hx4 : cntL (cntT n) x.kids ≤ 4194304 := by omega
      have hxs : x.name.length + x.text.length + cntA x.attrs + cntL (cntT n) x.kids ≤ 4194304 := by omega
      have hjl' : (j : Int) < (l.length : Int) := by omega
      have hgj : ∀ p ∈ FB (.slice (some ⟨g, 0, none⟩) l.length cap), p ∉ Fs.getD j [] := fun p hp => by
        have : p = g := by simpa [FB, Value.ownBlock] using hp
        rw [this]; exact hgF j
      have hgn : g ∉ Fs.getD j [] := hgF j
      rw [unhide HFJ] at hgn hgj
      simp only [List.mem_append, not_or] at hgn hgj
      obtain ⟨⟨⟨hga, hgb⟩, hgc⟩, hgd⟩ := hgn
      have ha1 := ha.frm F1 (fun p hp hp' => by simp at hp'; subst hp'; exact hga hp)
      have hb1 := hb.frm F1 (fun p hp hp' => by simp at hp'; subst hp'; exact hgb hp)
      have hc1 := OwAttrs.frm hc F1 (fun p hp hp' => by simp at hp'; subst hp'; exact hgc hp)
      have hd1 := OwKids.frm hd F1 (fun p hp hp' => by simp at hp'; subst hp'; exact hgd hp)
      clear hx hq hat hct hcs hFj hdone htodo hcl hr hEj hEs hab ha hb hc hd hFjn
      go_wp2_with fail
      generalize wr.setCell ⟨g, j * 5, none⟩ (.int .i64 q) = w1 at *
      clear e0 f0 c1 hg1
      refine (markB_any w1 0 _ x.name (q + 1) ha1 (Nat.le_trans hx1 (by decide)) (by omega) (by omega)).mono ?_
      rintro e w2 ⟨rfl, ha2, hg2⟩
      have F2 := own_grown_frm hg2
      have r2 := ownsRow_frm r1 F2 (fun p hp hp' => (hgj p hp).1.1.1 hp')
      have hb2 := hb1.frm F2 (fun p hp hp' => (na p hp').1 hp)
      have hc2 := OwAttrs.frm hc1 F2 (fun p hp hp' => (na p hp').2.1 hp)
      have hd2 := OwKids.frm hd1 F2 (fun p hp hp' => (na p hp').2.2 hp)
      have c2 := own_cellAt r2 hE hEl j 2 hjl (by omega)
      rw [unhide HEJ] at c2
      simp only [List.getElem?_cons_zero, List.getElem?_cons_succ] at c2
      clear ha1 hb1 hc1 hd1 hg2
      go_wp2_with fail
      clear c2
      refine (markB_any w2 0 _ x.text (q + 1 + (x.name.length : Nat)) hb2 (Nat.le_trans hx2 (by decide)) (by omega) (by omega)).mono ?_
      rintro e w3 ⟨rfl, hb3, hg3⟩
      have F3 := own_grown_frm hg3
      have r3 := ownsRow_frm r2 F3 (fun p hp hp' => (hgj p hp).1.1.2 hp')
      have ha3 := ha2.frm F3 (fun p hp hp' => (na p hp).1 hp')
      have hc3 := OwAttrs.frm hc2 F3 (fun p hp hp' => (nb' p hp').1 hp)
      have hd3 := OwKids.frm hd2 F3 (fun p hp hp' => (nb' p hp').2 hp)
      have c3 := own_cellAt r3 hE hEl j 3 hjl (by omega)
      rw [unhide HEJ] at c3
      simp only [List.getElem?_cons_zero, List.getElem?_cons_succ] at c3
      clear ha2 hb2 hc2 hd2 hg3
      go_wp2_with fail
      clear c3
      refine (markA_any w3 _ x.attrs Fc (q + 1 + (x.name.length : Nat) + (x.text.length : Nat)) hc3 hFcn hx3 (by omega) (by omega)).mono ?_
      rintro e w4 ⟨rfl, hc4, F4⟩
      have r4 := ownsRow_frm r3 F4 (fun p hp hp' => (hgj p hp).1.2 hp')
      have ha4 := ha3.frm F4 (fun p hp hp' => (na p hp).2.1 hp')
      have hb4 := hb3.frm F4 (fun p hp hp' => (nb' p hp).1 hp')
      have hd4 := OwKids.frm hd3 F4 (fun p hp hp' => nc' p hp' hp)
      have c4 := own_cellAt r4 hE hEl j 4 hjl (by omega)
      rw [unhide HEJ] at c4
      simp only [List.getElem?_cons_zero, List.getElem?_cons_succ] at c4
      clear ha3 hb3 hc3 hd3
      go_wp2_with fail
      clear c4
      refine (H w4 _ x.kids Fd (q + 1 + (x.name.length : Nat) + (x.text.length : Nat) + (cntA x.attrs : Nat)) hd4 hFdn hx4 (by omega) (by omega)).mono ?_
      rintro e w5 ⟨rfl, hd5, F5⟩
      have r5 := ownsRow_frm r4 F5 (fun p hp hp' => (hgj p hp).2 hp')
      have ha5 := ha4.frm F5 (fun p hp hp' => (na p hp).2.2 hp')
      have hb5 := hb4.frm F5 (fun p hp hp' => (nb' p hp).2 hp')
      have hc5 := OwAttrs.frm hc4 F5 (fun p hp hp' => nc' p hp hp')
      have FJ : Frm wr w5 ([g] ++ Fs.getD j []) := by
        have m1 : ∀ p, p ∈ FB (Value.slice pa x.name.length ca) → p ∈ [g] ++ Fs.getD j [] := fun p hp => by rw [unhide HFJ]; simp [hp]
        have m2 : ∀ p, p ∈ FB (Value.slice pb x.text.length cb) → p ∈ [g] ++ Fs.getD j [] := fun p hp => by rw [unhide HFJ]; simp [hp]
        have m3 : ∀ p, p ∈ Fc → p ∈ [g] ++ Fs.getD j [] := fun p hp => by rw [unhide HFJ]; simp [hp]
        have m4 : ∀ p, p ∈ Fd → p ∈ [g] ++ Fs.getD j [] := fun p hp => by rw [unhide HFJ]; simp [hp]
        exact ((((F1.mono (fun p hp => List.mem_append_left _ hp)).trans (F2.mono m1)).trans (F3.mono m2)).trans (F4.mono m3)).trans (F5.mono m4)
      clear ha4 hb4 hc4 hd4 F1 F2 F3 F4 F5 r1 r2 r3 r4
      go_wp2_with fail
      go_roundw
      case rel =>
        refine ⟨j + 1, by omega, by go_num, ?_, Es, hEl, r5, fun i hi hij => ?_, fun i hi hij => ?_, hf.trans (FJ.mono (fun p hp => ?_))⟩
        · rw [unhide HCT, unhide HCS, unhide HQ]; go_num
        · by_cases e : i = j
          · subst e
            rw [unhide HT, unhide HEJ]
            have hl2 : (mkK n x.kids (q + 1 + (x.name.length : Nat) + (x.text.length : Nat) + (cntA x.attrs : Nat))).length = x.kids.length := mkK_len _ _ _
            exact ⟨_, _, _, _, Fc, Fd, rfl, by show (-9223372036854775808 : Int) ≤ q; omega, by show q ≤ (9223372036854775807 : Int); omega, ha5, hb5, hc5, hd5, unhide HFJ⟩
          · rw [hEo i e]
            exact (unhide HDN i hi (by omega)).frm FJ (fun p hp hp' => by
              rcases List.mem_append.1 hp' with h | h
              · simp at h; subst h; exact hgF i hp
              · exact nodup_flat hFn e p hp h)
        · rw [hEo i (by omega)]
          exact (unhide HTD i hi (by omega)).frm FJ (fun p hp hp' => by
            rcases List.mem_append.1 hp' with h | h
            · simp at h; subst h; exact hgF i hp
            · exact nodup_flat hFn (by omega) p hp h)
        · rcases List.mem_append.1 hp with h | h
          · exact List.mem_append_left _ h
          · exact List.mem_append_right _ (mem_flat h)
      case measure => simp [intOf]; omega
    · have e : j = l.length := by omega
      subst e
      have HW := hide (show OwKids (n + 1) wr (.slice (some ⟨g, 0, none⟩) l.length cap) (mkK (n + 1) l k) ([g] ++ Fs.flatten) from
        ⟨Ds, Fs, by rw [mkK_len]; exact hDl, by rw [mkK_len]; exact hFl, fun i hi => ⟨hD i (by rw [mkK_len] at hi; omega), hdone i hi (by rw [mkK_len] at hi; exact hi)⟩, by rw [mkK_len]; exact hr, rfl⟩)
      clear hdone htodo hr hD
      go_wp2_with fail
      go_ret
      exact ⟨by first | rfl | (rw [List.take_length]; rfl), unhide HW, hf⟩
theorem markK_any (n : Nat) : MarkKSaid n := by
  induction n with
  | zero =>
    intro w v l F k h hF _ _ _
    cases l with
    | nil => exact markK_empty 0 w v F k h
    | cons x r => exact x.elim
  | succ n ih => exact markK_succ n ih
end Go.Proofs.Yteioihjgjbjmjaa
