/- Own texts joined: JoinT. -/
import Derived.Test.YteioihjgjbjmjaaJa
import Derived.Test.YteioihjgjbjmjaaJb
import Derived.Test.YteioihjgjbjmjaaJc
import Derived.Test.YteioihjgjbjmjaaJd
import Derived.Test.YteioihjgjbjmjaaJe

/- spec.l2join, walked. -/
namespace Go.Proofs.Yteioihjgjbjmjaa
open Go.RowKit Go.Shelf
set_option linter.unusedVariables false
set_option maxRecDepth 100000

theorem last_of {α : Type} (l : List (Mb α)) : l = [] ∨ (∃ pre k, l = pre ++ [.inl k]) ∨ ∃ pre t, l = pre ++ [.inr t] := by
  by_cases h : l = []
  · exact .inl h
  · have e := List.dropLast_concat_getLast h
    cases hl : l.getLast h with
    | inl k => exact .inr (.inl ⟨l.dropLast, k, by rw [hl] at e; exact e.symm⟩)
    | inr t => exact .inr (.inr ⟨l.dropLast, t, by rw [hl] at e; exact e.symm⟩)
theorem joinB_nil {α : Type} (x : Int) : joinB ([] : List (Mb α)) x = [] ++ [.inr ([] ++ [x])] := rfl
theorem joinB_inl {α : Type} (pre : List (Mb α)) (k : α) (x : Int) : joinB (pre ++ [.inl k]) x = (pre ++ [.inl k]) ++ [.inr ([] ++ [x])] := by
  unfold joinB
  simp
theorem joinB_full {α : Type} (pre : List (Mb α)) (t : List Int) (x : Int) (h : ¬ t.length < 30) : joinB (pre ++ [.inr t]) x = (pre ++ [.inr t]) ++ [.inr ([] ++ [x])] := by
  unfold joinB
  simp only [List.getLast?_append, List.getLast?_singleton, Option.some_or, if_neg h]
  rfl
theorem joinB_more {α : Type} (pre : List (Mb α)) (t : List Int) (x : Int) (h : t.length < 30) : joinB (pre ++ [.inr t]) x = pre ++ [.inr (t ++ [x])] := by
  unfold joinB
  simp only [List.getLast?_append, List.getLast?_singleton, Option.some_or, if_pos h, List.dropLast_concat]
theorem joinL_take {α : Type} (ks : List (Mb α)) (l : List Int) (j : Nat) (h : j < l.length) : joinL ks (l.take (j + 1)) = joinB (joinL ks (l.take j)) l[j] := by
  unfold joinL
  rw [List.take_succ_eq_append_getElem h, List.foldl_append]
  rfl
theorem joinB_len {α : Type} (ks : List (Mb α)) (x : Int) : (joinB ks x).length ≤ ks.length + 1 := by
  rcases last_of ks with rfl | ⟨pre, k, rfl⟩ | ⟨pre, t, rfl⟩
  · simp [joinB_nil]
  · rw [joinB_inl]; simp
  · by_cases h : t.length < 30
    · rw [joinB_more _ _ _ h]; simp
    · rw [joinB_full _ _ _ h]; simp
theorem joinL_len {α : Type} : ∀ (l : List Int) (ks : List (Mb α)), (joinL ks l).length ≤ ks.length + l.length
  | [], ks => by simp [joinL]
  | x :: l, ks => by
    have h1 := joinL_len l (joinB ks x)
    have h2 := joinB_len ks x
    unfold joinL at h1 ⊢
    rw [List.foldl_cons, List.length_cons]
    omega

theorem jn_shape {n : Nat} {w : World} {v : Value} {ks : List (Mb (Tr (n + 1)))} {F : List Nat} (h : Jn n w v ks F) : ∃ a c, v = .slice a ks.length c ∧ (ks ≠ [] → ∃ g, a = some ⟨g, 0, none⟩) := by
  obtain ⟨Cs, Fs, _, _, _, e4, _⟩ := h.1
  rw [List.length_map] at e4
  obtain ⟨a, c, e⟩ := own_nil_shape e4
  refine ⟨a, c, e, fun hk => ?_⟩
  rcases e4.2 with ⟨e', h0⟩ | ⟨g, cap, cur, e', _⟩
  · exact absurd (List.eq_nil_of_length_eq_zero h0) hk
  · rw [e] at e'
    injection e' with e'
    exact ⟨g, e'⟩
theorem jn_kind {n : Nat} {w : World} {g m cap : Nat} {pre : List (Mb (Tr (n + 1)))} {k : Tr (n + 1)} {F : List Nat} (h : Jn n w (.slice (some ⟨g, 0, none⟩) m cap) (pre ++ [.inl k]) F) : w.cell? ⟨g, pre.length * 5, none⟩ = some (.int .i64 k.kind) := by
  have h1' : OwElems w 32 5 (.slice (some ⟨g, 0, none⟩) m cap) (pre.map (unMb n) ++ [k]) (OwNode (n + 1) w) F := by
    have : (pre ++ [(Sum.inl k : Mb (Tr (n + 1)))]).map (unMb n) = pre.map (unMb n) ++ [k] := by rw [List.map_append]; rfl
    rw [← this]; exact h.1
  obtain ⟨Cs, Fs, C, G, e1, e2, e3, eC, hy, e4, e5⟩ := ow_unsnoc h1'
  rw [List.length_map] at e1 e2 e4
  have hm : m = pre.length + 1 := by
    obtain ⟨_, _, e⟩ := own_nil_shape e4
    injection e
  subst hm
  have hlC : Cs.flatten.length = pre.length * 5 := by
    have := e4.1
    rw [List.length_append, eC] at this
    omega
  obtain ⟨nm, vt, at', kd, Fc, Fd, rfl, _⟩ := hy
  have := e4.cellAt (pre.length * 5) (by omega)
  rw [this, List.getElem?_append_right (by omega), hlC, Nat.sub_self]
  rfl
theorem Jn.frm {n : Nat} {w w' : World} {v : Value} {ks : List (Mb (Tr (n + 1)))} {F S : List Nat} (h : Jn n w v ks F) (f : Frm w w' S) (hd : ∀ q ∈ F, q ∉ S) : Jn n w' v ks F := ⟨OwKids.frm h.1 f hd, h.2⟩
theorem Jn.keep {n : Nat} {w w' : World} {v : Value} {ks : List (Mb (Tr (n + 1)))} {F : List Nat} (h : Jn n w v ks F) (hb : Below w.heap.size w w') : Jn n w' v ks F := h.frm (Frm.ofBelow hb []) (fun _ _ => by simp)

theorem jn_storeM {n : Nat} {w w' : World} {g m cap : Nat} {pre : List (Mb (Tr (n + 1)))} {lt : List Int} {F : List Nat} (M : Nat) (hM : pre.length = M) (h : Jn n w (.slice (some ⟨g, 0, none⟩) m cap) (pre ++ [.inr lt]) F) (hlt : ∀ q ∈ F, q < w.heap.size) :
    m = M + 1 ∧ ∃ vt, Own w 0 vt lt ∧ (∀ q ∈ FB vt, q ∈ F) ∧ w.cell? ⟨g, M * 5, none⟩ = some (.int .i64 1) ∧ w.cell? ⟨g, M * 5 + 2, none⟩ = some vt ∧ w.frozen? ⟨g, M * 5 + 2, none⟩ = false ∧
      ∀ (w' : World) (vt' : Value) (lt' : List Int) (x : List Nat), w.heap.size ≤ w'.heap.size → Frm w w' (FB vt) → Own w' 0 vt' lt' → (∀ q ∈ FB vt', q ∈ FB vt ∨ w.heap.size ≤ q) →
        ∃ F', Jn n (w'.setCell ⟨g, M * 5 + 2, none⟩ vt') (.slice (some ⟨g, 0, none⟩) m cap) (pre ++ [.inr lt']) F' ∧ (∀ q ∈ F', (q ∈ F ∨ w.heap.size ≤ q) ∧ q < (w'.setCell ⟨g, M * 5 + 2, none⟩ vt').heap.size) ∧ Frm w (w'.setCell ⟨g, M * 5 + 2, none⟩ vt') F ∧ (w'.cell? ⟨g, M * 5 + 2, none⟩ = some vt ∧ w'.frozen? ⟨g, M * 5 + 2, none⟩ = false) := by
  subst hM
  exact jn_store (w' := w') h hlt

set_option maxHeartbeats 6400000 in
theorem join_any (n : Nat) (w : World) (v tv : Value) (ks : List (Mb (Tr (n + 1)))) (F : List Nat) (tl : List Int) (h : Jn n w v ks F) (hlt : ∀ q ∈ F, q < w.heap.size) (hr : ∀ w', Frm w w' F → Byt w' tv tl) (hlen : ks.length + tl.length ≤ 8388608) :
    Calls Try.prog 62 #[v, tv] w fun e w' => ∃ v', e = .returned v' ∧ ∃ F', Jn n w' v' (joinL ks tl) F' ∧ (∀ q ∈ F', (q ∈ F ∨ w.heap.size ≤ q) ∧ q < w'.heap.size) ∧ Frm w w' F := by
  obtain ⟨ta, tc, rfl, _, _⟩ := (hr w (Frm.refl _ _)).shape
  obtain ⟨va, vc, rfl, _⟩ := jn_shape h
  have hm' : (tl.length : Int) ≤ 9223372036854775807 := by omega
  have HR := hide hr
  have HLT := hide hlt
  clear hr hlt
  obtain ⟨i0, hi0, hz0, hz1, hz2⟩ := info_parts Try.info32
  generalize hkl : ks.length = kl at *
  have HKL := hide hkl
  clear hkl
  go_enter Try.func62, Try.ntmps62
  go_wp2_with fail
  go_loopw [0, 5] (fun kv i wr => ∃ j : Nat, j ≤ tl.length ∧ i = .int .i64 j ∧ ∃ ka km kc F1, kv = .slice ka km kc ∧ Jn n wr (.slice ka km kc) (joinL ks (tl.take j)) F1 ∧ (∀ q ∈ F1, (q ∈ F ∨ w.heap.size ≤ q) ∧ q < wr.heap.size) ∧ Frm w wr F) (fun _ i _ => tl.length - (intOf i).toNat)
  case atStart => exact ⟨0, Nat.zero_le _, rfl, va, kl, vc, F, rfl, by simpa [joinL] using h, fun q hq => ⟨.inl hq, unhide HLT q hq⟩, Frm.refl _ _⟩
  case round =>
    obtain ⟨j, hj, rfl, ka, km, kc, F1, rfl, hJ, hF1, hfr⟩ := hrel
    by_cases hjl : j < tl.length
    · have hjl' : (j : Int) < (tl.length : Int) := by omega
      have hnx := joinL_take ks tl j hjl
      have hbt := unhide HR wr hfr
      obtain ⟨hok, _, ⟨_, e⟩ | ⟨_, _, _, _, e⟩ | ⟨tb, toff, tcap, e, t1, t2, t3, t4, t5⟩⟩ := id hbt
      · subst e; simp at hjl
      · subst e; simp at hjl
      injection e with e1 _ e3
      subst e1 e3
      obtain ⟨x, hx⟩ : ∃ x, x = tl[j] := ⟨_, rfl⟩
      have hx1 : 0 ≤ x := by rw [hx]; exact (hok _ (List.getElem_mem hjl)).1
      have hx2 : x ≤ 255 := by rw [hx]; exact (hok _ (List.getElem_mem hjl)).2
      have hkl2 := joinL_len (tl.take j) ks
      rw [List.length_take, unhide HKL] at hkl2
      have HTC : Hid (∀ W, Frm w W F → W.cell? ⟨tb, toff + j, none⟩ = some (.int .u8 x)) := fun W hW => by
        obtain ⟨_, _, ⟨e', _⟩ | ⟨_, _, e', _, e''⟩ | ⟨tb', toff', tcap', e', _, _, _, _, t5'⟩⟩ := unhide HR W hW
        · cases e'
        · subst e''; simp at hjl
        · injection e' with e1 _ _
          injection e1 with e1
          injection e1 with e1 e2
          subst e1 e2
          have := t5' j hjl
          rw [getD_at hjl, ← hx] at this
          exact this
      rw [← hx] at hnx
      obtain ⟨kk, hkk⟩ : ∃ kk, kk = joinL ks (tl.take j) := ⟨_, rfl⟩
      rw [← hkk] at hJ hnx hkl2
      have HN := hide hnx
      clear hnx hkk hx hbt t5 hok
      have hkml : kk.length ≤ 8388608 := by omega
      obtain ⟨ga, gc, hsh, hsm⟩ := jn_shape hJ
      injection hsh with h1 h2 h3
      subst h1 h3
      have hp0 : kk.length ≤ 8388608 := hkml
      rcases last_of kk with h | ⟨p0, k, h⟩ | ⟨p0, lt0, h⟩
      · have hk0 : km = 0 := by rw [h2, h]; rfl
        have hnn : joinB kk x = kk ++ [.inr ([] ++ [x])] := by rw [h]; exact joinB_nil x
        rw [hnn] at HN
        clear hnn
        have HH := hide (And.intro h h2)
        subst hk0
        clear h h2 hsm hkl2
        have HJ0 := hide hJ
        have hba : Below wr.heap.size wr (wr.alloc (.cells #[.int .i64 1, .slice none 0 0, .slice none 0 0, .slice none 0 0, .slice none 0 0] 32)) := (Below.refl _ _).alloc (Nat.le_refl _) _
        clear hJ
        go_wp2_with (at_builtin; (refine wpList_push (R := OwNode (n + 1)) (fun h f d => OwNode.frm h f d) rfl _ _ 30 rfl 32 i0 (.agg #[.int .i64 0, .slice none 0 0, .slice none 0 0, .slice none 0 0, .slice none 0 0]) 5 104 Try.underlying30 hi0 hz0 hz1 hz2 rfl (by decide) _ (kk.map (unMb n)) F1 rfl ((unhide HJ0).keep hba).1 (unhide HJ0).2.1 ⟨wr.heap.size, 0, none⟩ 1 (text5 (.slice none 0 0)) (txtN n []) [] rfl rfl (five_lies wr _ _ _ _ _ _) (by intro y hy; simp [text5] at hy; rcases hy with rfl | rfl <;> rfl) (txt_own (base := 0) ⟨okB_nil, World.ownsRow_nil _ _ _ _⟩) List.nodup_nil (fun _ _ h => by cases h) (fun q hq => by rcases hq with hq | hq; (have := (hF1 q hq).2; have := hba.size; omega); (cases hq)) (by rw [List.length_map]; unfold maxLen; omega) (by rw [List.length_map]; omega) ?_))
        intro g cap2 W F2 hO2 hN2 hM2 hf2 hg2
        (try rw [List.length_map] at hO2)
        have HJ : Hid (Jn n W (.slice (some ⟨g, 0, none⟩) (kk.length + 1) cap2) (kk ++ [.inr []]) F2) := by
          refine ⟨by rw [List.map_append]; exact hO2, hN2, fun k' hk' => ?_⟩
          rcases List.mem_append.1 hk' with h | h
          · exact (unhide HJ0).2.2 k' h
          · simp at h
        have hkvF : ∀ q ∈ FB (.slice ka 0 kc), q ∈ F1 := fun q hq => by
          obtain ⟨_, _, _, _, _, _, rfl⟩ := (unhide HJ0).1
          exact List.mem_append_left _ hq
        have hF2 : ∀ q ∈ F2, (q ∈ F ∨ w.heap.size ≤ q) ∧ q < W.heap.size := fun q hq => by
          have s1 := hfr.size
          have hq2 : q ∈ F1 ∨ q = wr.heap.size + 1 := by simpa using hM2 q hq
          refine ⟨?_, OwElems.lt hO2 (fun C x G h => OwNode.lt h) q hq⟩
          rcases hq2 with h | h
          · exact (hF1 q h).1
          · right; omega
        have hfr2 : Frm w W F := (hfr.more (Frm.ofBelow hba []) (fun _ h => by cases h)).more hf2 (fun q hq => (hF1 q (hkvF q hq)).1)
        have hkl : kk.length = 0 := by rw [(unhide HH).1]; rfl
        rw [hkl] at HJ
        obtain ⟨_, vt, hov, hvF, ck', ct, ft, _⟩ := jn_storeM (w' := W) 0 hkl (unhide HJ) (fun q hq => (hF2 q hq).2)
        obtain ⟨sa, sc, hvt, _, _⟩ := hov.byt.shape
        replace hvt : vt = .slice sa 0 sc := hvt
        subst hvt
        replace ct : W.cell? ⟨g, 2, none⟩ = some (.slice sa 0 sc) := ct
        clear hF1 hfr hf2 hM2 hO2 hN2 HJ0 hba hkvF hov hvF ck' ft
        have hF1 := hF2
        have hfr := hfr2
        clear hF2 hfr2
        (try rw [hkl])
        (try simp only [hkl])
        go_wp2_with fail
        have hglt : g < W.heap.size := lt_of_cell ct
        have hbz : Below W.heap.size W (W.alloc (.cells #[.int .u8 x] 5)).drew := ((Below.refl _ _).alloc (Nat.le_refl _) _).drew
        have ctd : W.drew.cell? ⟨g, 2, none⟩ = some (.slice sa 0 sc) := ct
        have ctz : (W.alloc (.cells #[.int .u8 x] 5)).drew.cell? ⟨g, 2, none⟩ = some (.slice sa 0 sc) := (hbz.cell (p := ⟨g, 2, none⟩) hglt).trans ct
        have ctz2 : (W.drew.alloc (.cells #[.int .u8 x] 5)).cell? ⟨g, 2, none⟩ = some (.slice sa 0 sc) := ctz
        obtain ⟨_, vt2, hov2, _, _, ct2, _, hst⟩ := jn_storeM (w' := W) 0 hkl ((unhide HJ).keep hbz) (fun q hq => Nat.lt_of_lt_of_le (hF1 q hq).2 hbz.size)
        replace ct2 : (W.alloc (.cells #[.int .u8 x] 5)).drew.cell? ⟨g, 2, none⟩ = some vt2 := ct2
        have evt : vt2 = .slice sa 0 sc := by
          rw [ctz] at ct2
          exact (Option.some.inj ct2).symm
        subst evt
        have HST := hide hst
        have HOV := hide hov2
        have ctb : W.drew.cell? ⟨tb, toff + j, none⟩ = some (.int .u8 x) := unhide HTC W hfr
        have dm1 : (((0 : Nat) : Int) + 1 - 1) = ((0 : Nat) : Int) := by omega
        have wpr : IntKind.i64.wrap (0 : Int) = (0 : Int) := by rw [IntKind.wrap_i64]; omega
        have lpr : (0 : Int) < (0 : Int) + 1 := by omega
        have zpr : (0 : Int) ≤ (0 : Int) := by omega
        have HKL2 := hide hkl
        clear hst hov2 ct2 hkl
        go_region_law
          (first
            | (refine step_appAt (by rfl) (.tmp 50) (.tmp 55) (by rfl) 0 (.slice sa 0 sc) ([] : List Int) (by rfl) (unhide HOV) _ [x] (by rfl) (byt_one W x hx1 hx2) (by simp; try omega) (Nat.zero_le _) ?_; intro v9 w9 ho9 hg9 hat9; obtain ⟨F9, hJ9, hF9, hf9, hc9, hz9⟩ := unhide HST w9 v9 (([] : List Int) ++ [x]) [] hg9.size (Frm.ofGrown hg9) ho9 (fun q hq => by have hq' : v9.ownBlock = some q := (by simpa [FB] using hq); rcases hat9 with h | h; (exact .inl (by rw [h] at hq'; simpa [FB] using hq')); (exact .inr (by rw [h] at hq'; exact Nat.le_of_eq (Option.some.inj hq')))); replace hc9 : w9.cell? ⟨g, 2, none⟩ = some (.slice sa 0 sc) := hc9; replace hz9 : w9.frozen? ⟨g, 2, none⟩ = false := hz9; obtain ⟨a9, c9, hv9, _, _⟩ := ho9.byt.shape; generalize (([] : List Int) ++ [x]).length = n9 at hv9; subst hv9))
        all_goals
          have hfX : Frm w (w9.setCell ⟨g, 2, none⟩ (.slice a9 n9 c9)) F := (hfr.more (Frm.ofBelow hbz []) (fun _ h => by cases h)).more hf9 (fun q hq => (hF1 q hq).1)
          have hFX : ∀ q ∈ F9, (q ∈ F ∨ w.heap.size ≤ q) ∧ q < (w9.setCell ⟨g, 2, none⟩ (.slice a9 n9 c9)).heap.size := fun q hq => ⟨by
            rcases (hF9 q hq).1 with h | h
            · exact (hF1 q h).1
            · right; have h1 := hfr.size; have h2 := hbz.size; omega, (hF9 q hq).2⟩
          have HJ9 := hide (show Jn n (w9.setCell ⟨g, 2, none⟩ (.slice a9 n9 c9)) (.slice (some ⟨g, 0, none⟩) (0 + 1) cap2) (joinL ks (tl.take (j + 1))) F9 by rw [unhide HN]; exact hJ9)
          clear hJ9 hF9 hf9 ho9 hg9 hat9 HST HOV
          go_wp2_with fail
          go_roundw
          case rel => exact ⟨j + 1, by omega, by go_num, some ⟨g, 0, none⟩, 0 + 1, cap2, F9, rfl, unhide HJ9, hFX, hfX⟩
          case measure => simp [intOf]; omega
      · obtain ⟨g0, hka⟩ := hsm (by rw [h]; simp)
        subst hka
        have hkm : km = p0.length + 1 := by rw [h2, h]; simp
        subst hkm
        have hJ2 := hJ
        rw [h] at hJ2
        have ck := jn_kind hJ2
        have dk : (k.kind != 1) = true := by
          have := hJ2.2.2 k (by simp)
          simpa using this
        have dn : (((p0.length : Int) + 1) == 0) = false := by simp; omega
        rw [h, joinB_inl, ← h] at HN
        have hp1 : p0.length ≤ 8388608 := by rw [h] at hp0; simp at hp0; omega
        have HH := hide (And.intro h h2)
        clear h h2 hsm hkl2 hJ2
        have HJ0 := hide hJ
        have hba : Below wr.heap.size wr (wr.alloc (.cells #[.int .i64 1, .slice none 0 0, .slice none 0 0, .slice none 0 0, .slice none 0 0] 32)) := (Below.refl _ _).alloc (Nat.le_refl _) _
        clear hJ
        go_wp2_with (at_builtin; (refine wpList_push (R := OwNode (n + 1)) (fun h f d => OwNode.frm h f d) rfl _ _ 30 rfl 32 i0 (.agg #[.int .i64 0, .slice none 0 0, .slice none 0 0, .slice none 0 0, .slice none 0 0]) 5 104 Try.underlying30 hi0 hz0 hz1 hz2 rfl (by decide) _ (kk.map (unMb n)) F1 rfl ((unhide HJ0).keep hba).1 (unhide HJ0).2.1 ⟨wr.heap.size, 0, none⟩ 1 (text5 (.slice none 0 0)) (txtN n []) [] rfl rfl (five_lies wr _ _ _ _ _ _) (by intro y hy; simp [text5] at hy; rcases hy with rfl | rfl <;> rfl) (txt_own (base := 0) ⟨okB_nil, World.ownsRow_nil _ _ _ _⟩) List.nodup_nil (fun _ _ h => by cases h) (fun q hq => by rcases hq with hq | hq; (have := (hF1 q hq).2; have := hba.size; omega); (cases hq)) (by rw [List.length_map]; unfold maxLen; omega) (by rw [List.length_map]; omega) ?_))
        intro g cap2 W F2 hO2 hN2 hM2 hf2 hg2
        (try rw [List.length_map] at hO2)
        have HJ : Hid (Jn n W (.slice (some ⟨g, 0, none⟩) (kk.length + 1) cap2) (kk ++ [.inr []]) F2) := by
          refine ⟨by rw [List.map_append]; exact hO2, hN2, fun k' hk' => ?_⟩
          rcases List.mem_append.1 hk' with h | h
          · exact (unhide HJ0).2.2 k' h
          · simp at h
        have hkvF : ∀ q ∈ FB (.slice (some ⟨g0, 0, none⟩) (p0.length + 1) kc), q ∈ F1 := fun q hq => by
          obtain ⟨_, _, _, _, _, _, rfl⟩ := (unhide HJ0).1
          exact List.mem_append_left _ hq
        have hF2 : ∀ q ∈ F2, (q ∈ F ∨ w.heap.size ≤ q) ∧ q < W.heap.size := fun q hq => by
          have s1 := hfr.size
          have hq2 : q ∈ F1 ∨ q = wr.heap.size + 1 := by simpa using hM2 q hq
          refine ⟨?_, OwElems.lt hO2 (fun C x G h => OwNode.lt h) q hq⟩
          rcases hq2 with h | h
          · exact (hF1 q h).1
          · right; omega
        have hfr2 : Frm w W F := (hfr.more (Frm.ofBelow hba []) (fun _ h => by cases h)).more hf2 (fun q hq => (hF1 q (hkvF q hq)).1)
        have hkl : kk.length = (p0.length + 1) := by rw [(unhide HH).1]; simp
        rw [hkl] at HJ
        obtain ⟨_, vt, hov, hvF, ck', ct, ft, _⟩ := jn_storeM (w' := W) (p0.length + 1) hkl (unhide HJ) (fun q hq => (hF2 q hq).2)
        obtain ⟨sa, sc, hvt, _, _⟩ := hov.byt.shape
        replace hvt : vt = .slice sa 0 sc := hvt
        subst hvt
        replace ct : W.cell? ⟨g, (p0.length + 1) * 5 + 2, none⟩ = some (.slice sa 0 sc) := ct
        clear hF1 hfr hf2 hM2 hO2 hN2 HJ0 hba hkvF hov hvF ck' ft
        have hF1 := hF2
        have hfr := hfr2
        clear hF2 hfr2
        (try rw [hkl])
        (try simp only [hkl])
        go_wp2_with fail
        have hglt : g < W.heap.size := lt_of_cell ct
        have hbz : Below W.heap.size W (W.alloc (.cells #[.int .u8 x] 5)).drew := ((Below.refl _ _).alloc (Nat.le_refl _) _).drew
        have ctd : W.drew.cell? ⟨g, (p0.length + 1) * 5 + 2, none⟩ = some (.slice sa 0 sc) := ct
        have ctz : (W.alloc (.cells #[.int .u8 x] 5)).drew.cell? ⟨g, (p0.length + 1) * 5 + 2, none⟩ = some (.slice sa 0 sc) := (hbz.cell (p := ⟨g, (p0.length + 1) * 5 + 2, none⟩) hglt).trans ct
        have ctz2 : (W.drew.alloc (.cells #[.int .u8 x] 5)).cell? ⟨g, (p0.length + 1) * 5 + 2, none⟩ = some (.slice sa 0 sc) := ctz
        obtain ⟨_, vt2, hov2, _, _, ct2, _, hst⟩ := jn_storeM (w' := W) (p0.length + 1) hkl ((unhide HJ).keep hbz) (fun q hq => Nat.lt_of_lt_of_le (hF1 q hq).2 hbz.size)
        replace ct2 : (W.alloc (.cells #[.int .u8 x] 5)).drew.cell? ⟨g, (p0.length + 1) * 5 + 2, none⟩ = some vt2 := ct2
        have evt : vt2 = .slice sa 0 sc := by
          rw [ctz] at ct2
          exact (Option.some.inj ct2).symm
        subst evt
        have HST := hide hst
        have HOV := hide hov2
        have ctb : W.drew.cell? ⟨tb, toff + j, none⟩ = some (.int .u8 x) := unhide HTC W hfr
        have dm1 : ((((p0.length + 1) : Nat) : Int) + 1 - 1) = (((p0.length + 1) : Nat) : Int) := by omega
        have wpr : IntKind.i64.wrap ((p0.length : Int) + 1) = ((p0.length : Int) + 1) := by rw [IntKind.wrap_i64]; omega
        have lpr : ((p0.length : Int) + 1) < ((p0.length : Int) + 1) + 1 := by omega
        have zpr : (0 : Int) ≤ ((p0.length : Int) + 1) := by omega
        have HKL2 := hide hkl
        clear hst hov2 ct2 hkl
        go_region_law
          (first
            | (refine step_appAt (by rfl) (.tmp 50) (.tmp 55) (by rfl) 0 (.slice sa 0 sc) ([] : List Int) (by rfl) (unhide HOV) _ [x] (by rfl) (byt_one W x hx1 hx2) (by simp; try omega) (Nat.zero_le _) ?_; intro v9 w9 ho9 hg9 hat9; obtain ⟨F9, hJ9, hF9, hf9, hc9, hz9⟩ := unhide HST w9 v9 (([] : List Int) ++ [x]) [] hg9.size (Frm.ofGrown hg9) ho9 (fun q hq => by have hq' : v9.ownBlock = some q := (by simpa [FB] using hq); rcases hat9 with h | h; (exact .inl (by rw [h] at hq'; simpa [FB] using hq')); (exact .inr (by rw [h] at hq'; exact Nat.le_of_eq (Option.some.inj hq')))); replace hc9 : w9.cell? ⟨g, (p0.length + 1) * 5 + 2, none⟩ = some (.slice sa 0 sc) := hc9; replace hz9 : w9.frozen? ⟨g, (p0.length + 1) * 5 + 2, none⟩ = false := hz9; obtain ⟨a9, c9, hv9, _, _⟩ := ho9.byt.shape; generalize (([] : List Int) ++ [x]).length = n9 at hv9; subst hv9))
        all_goals
          have hfX : Frm w (w9.setCell ⟨g, (p0.length + 1) * 5 + 2, none⟩ (.slice a9 n9 c9)) F := (hfr.more (Frm.ofBelow hbz []) (fun _ h => by cases h)).more hf9 (fun q hq => (hF1 q hq).1)
          have hFX : ∀ q ∈ F9, (q ∈ F ∨ w.heap.size ≤ q) ∧ q < (w9.setCell ⟨g, (p0.length + 1) * 5 + 2, none⟩ (.slice a9 n9 c9)).heap.size := fun q hq => ⟨by
            rcases (hF9 q hq).1 with h | h
            · exact (hF1 q h).1
            · right; have h1 := hfr.size; have h2 := hbz.size; omega, (hF9 q hq).2⟩
          have HJ9 := hide (show Jn n (w9.setCell ⟨g, (p0.length + 1) * 5 + 2, none⟩ (.slice a9 n9 c9)) (.slice (some ⟨g, 0, none⟩) ((p0.length + 1) + 1) cap2) (joinL ks (tl.take (j + 1))) F9 by rw [unhide HN]; exact hJ9)
          clear hJ9 hF9 hf9 ho9 hg9 hat9 HST HOV
          go_wp2_with fail
          go_roundw
          case rel => exact ⟨j + 1, by omega, by go_num, some ⟨g, 0, none⟩, (p0.length + 1) + 1, cap2, F9, rfl, unhide HJ9, hFX, hfX⟩
          case measure => simp [intOf]; omega
      · by_cases h30 : lt0.length < 30
        · subst h
          obtain ⟨g, rfl⟩ := hsm (by simp)
          subst h2
          obtain ⟨hm, vt, hov, hvF, ck, ct, ft, _⟩ := jn_store (w' := wr) hJ (fun q hq => (hF1 q hq).2)
          obtain ⟨sa, sc, hvt, _, _⟩ := hov.byt.shape
          subst hvt
          rw [hm] at hJ ⊢
          have hpb : p0.length ≤ 8388608 := by rw [hm] at hkml; omega
          clear hm hkml hkl2 hp0
          have d30 : ¬ (30 : Int) ≤ (lt0.length : Int) := by omega
          have dn : (((p0.length : Int) + 1) == 0) = false := by simp; omega
          have HJ := hide hJ
          rw [joinB_more _ _ _ h30] at HN
          clear hJ
          go_wp2_with fail
          have hkl : p0.length = p0.length := rfl
          have hglt : g < wr.heap.size := lt_of_cell ct
          have hbz : Below wr.heap.size wr (wr.alloc (.cells #[.int .u8 x] 5)).drew := ((Below.refl _ _).alloc (Nat.le_refl _) _).drew
          have ctd : wr.drew.cell? ⟨g, p0.length * 5 + 2, none⟩ = some (.slice sa lt0.length sc) := ct
          have ctz : (wr.alloc (.cells #[.int .u8 x] 5)).drew.cell? ⟨g, p0.length * 5 + 2, none⟩ = some (.slice sa lt0.length sc) := (hbz.cell (p := ⟨g, p0.length * 5 + 2, none⟩) hglt).trans ct
          have ctz2 : (wr.drew.alloc (.cells #[.int .u8 x] 5)).cell? ⟨g, p0.length * 5 + 2, none⟩ = some (.slice sa lt0.length sc) := ctz
          obtain ⟨_, vt2, hov2, _, _, ct2, _, hst⟩ := jn_storeM (w' := wr) p0.length hkl ((unhide HJ).keep hbz) (fun q hq => Nat.lt_of_lt_of_le (hF1 q hq).2 hbz.size)
          replace ct2 : (wr.alloc (.cells #[.int .u8 x] 5)).drew.cell? ⟨g, p0.length * 5 + 2, none⟩ = some vt2 := ct2
          have evt : vt2 = .slice sa lt0.length sc := by
            rw [ctz] at ct2
            exact (Option.some.inj ct2).symm
          subst evt
          have HST := hide hst
          have HOV := hide hov2
          have ctb : wr.drew.cell? ⟨tb, toff + j, none⟩ = some (.int .u8 x) := unhide HTC wr hfr
          have dm1 : (((p0.length : Nat) : Int) + 1 - 1) = ((p0.length : Nat) : Int) := by omega
          have wpr : IntKind.i64.wrap (p0.length : Int) = (p0.length : Int) := by rw [IntKind.wrap_i64]; omega
          have lpr : (p0.length : Int) < (p0.length : Int) + 1 := by omega
          have zpr : (0 : Int) ≤ (p0.length : Int) := by omega
          have HKL2 := hide hkl
          clear hst hov2 ct2 hkl
          go_region_law
            (first
              | (refine step_appAt (by rfl) (.tmp 50) (.tmp 55) (by rfl) 0 (.slice sa lt0.length sc) lt0 (by rfl) (unhide HOV) _ [x] (by rfl) (byt_one wr x hx1 hx2) (by simp; try omega) (Nat.zero_le _) ?_; intro v9 w9 ho9 hg9 hat9; obtain ⟨F9, hJ9, hF9, hf9, hc9, hz9⟩ := unhide HST w9 v9 (lt0 ++ [x]) [] hg9.size (Frm.ofGrown hg9) ho9 (fun q hq => by have hq' : v9.ownBlock = some q := (by simpa [FB] using hq); rcases hat9 with h | h; (exact .inl (by rw [h] at hq'; simpa [FB] using hq')); (exact .inr (by rw [h] at hq'; exact Nat.le_of_eq (Option.some.inj hq')))); replace hc9 : w9.cell? ⟨g, p0.length * 5 + 2, none⟩ = some (.slice sa lt0.length sc) := hc9; replace hz9 : w9.frozen? ⟨g, p0.length * 5 + 2, none⟩ = false := hz9; obtain ⟨a9, c9, hv9, _, _⟩ := ho9.byt.shape; generalize (lt0 ++ [x]).length = n9 at hv9; subst hv9))
          all_goals
            have hfX : Frm w (w9.setCell ⟨g, p0.length * 5 + 2, none⟩ (.slice a9 n9 c9)) F := (hfr.more (Frm.ofBelow hbz []) (fun _ h => by cases h)).more hf9 (fun q hq => (hF1 q hq).1)
            have hFX : ∀ q ∈ F9, (q ∈ F ∨ w.heap.size ≤ q) ∧ q < (w9.setCell ⟨g, p0.length * 5 + 2, none⟩ (.slice a9 n9 c9)).heap.size := fun q hq => ⟨by
              rcases (hF9 q hq).1 with h | h
              · exact (hF1 q h).1
              · right; have h1 := hfr.size; have h2 := hbz.size; omega, (hF9 q hq).2⟩
            have HJ9 := hide (show Jn n (w9.setCell ⟨g, p0.length * 5 + 2, none⟩ (.slice a9 n9 c9)) (.slice (some ⟨g, 0, none⟩) (p0.length + 1) kc) (joinL ks (tl.take (j + 1))) F9 by rw [unhide HN]; exact hJ9)
            clear hJ9 hF9 hf9 ho9 hg9 hat9 HST HOV
            go_wp2_with fail
            go_roundw
            case rel => exact ⟨j + 1, by omega, by go_num, some ⟨g, 0, none⟩, p0.length + 1, kc, F9, rfl, unhide HJ9, hFX, hfX⟩
            case measure => simp [intOf]; omega
        · obtain ⟨g0, hka⟩ := hsm (by rw [h]; simp)
          subst hka
          have hkm : km = p0.length + 1 := by rw [h2, h]; simp
          subst hkm
          have hJ2 := hJ
          rw [h] at hJ2
          obtain ⟨_, vt0, hov0, _, ck, ct0, _, _⟩ := jn_store (w' := wr) hJ2 (fun q hq => (hF1 q hq).2)
          obtain ⟨sa0, sc0, hvt0, _, _⟩ := hov0.byt.shape
          subst hvt0
          have d30 : (30 : Int) ≤ (lt0.length : Int) := by omega
          have dn : (((p0.length : Int) + 1) == 0) = false := by simp; omega
          rw [h, joinB_full _ _ _ h30, ← h] at HN
          have hp1 : p0.length ≤ 8388608 := by rw [h] at hp0; simp at hp0; omega
          have HH := hide (And.intro h h2)
          clear h h2 hsm hkl2 hJ2 hov0 h30
          have HJ0 := hide hJ
          have hba : Below wr.heap.size wr (wr.alloc (.cells #[.int .i64 1, .slice none 0 0, .slice none 0 0, .slice none 0 0, .slice none 0 0] 32)) := (Below.refl _ _).alloc (Nat.le_refl _) _
          clear hJ
          go_wp2_with (at_builtin; (refine wpList_push (R := OwNode (n + 1)) (fun h f d => OwNode.frm h f d) rfl _ _ 30 rfl 32 i0 (.agg #[.int .i64 0, .slice none 0 0, .slice none 0 0, .slice none 0 0, .slice none 0 0]) 5 104 Try.underlying30 hi0 hz0 hz1 hz2 rfl (by decide) _ (kk.map (unMb n)) F1 rfl ((unhide HJ0).keep hba).1 (unhide HJ0).2.1 ⟨wr.heap.size, 0, none⟩ 1 (text5 (.slice none 0 0)) (txtN n []) [] rfl rfl (five_lies wr _ _ _ _ _ _) (by intro y hy; simp [text5] at hy; rcases hy with rfl | rfl <;> rfl) (txt_own (base := 0) ⟨okB_nil, World.ownsRow_nil _ _ _ _⟩) List.nodup_nil (fun _ _ h => by cases h) (fun q hq => by rcases hq with hq | hq; (have := (hF1 q hq).2; have := hba.size; omega); (cases hq)) (by rw [List.length_map]; unfold maxLen; omega) (by rw [List.length_map]; omega) ?_))
          intro g cap2 W F2 hO2 hN2 hM2 hf2 hg2
          (try rw [List.length_map] at hO2)
          have HJ : Hid (Jn n W (.slice (some ⟨g, 0, none⟩) (kk.length + 1) cap2) (kk ++ [.inr []]) F2) := by
            refine ⟨by rw [List.map_append]; exact hO2, hN2, fun k' hk' => ?_⟩
            rcases List.mem_append.1 hk' with h | h
            · exact (unhide HJ0).2.2 k' h
            · simp at h
          have hkvF : ∀ q ∈ FB (.slice (some ⟨g0, 0, none⟩) (p0.length + 1) kc), q ∈ F1 := fun q hq => by
            obtain ⟨_, _, _, _, _, _, rfl⟩ := (unhide HJ0).1
            exact List.mem_append_left _ hq
          have hF2 : ∀ q ∈ F2, (q ∈ F ∨ w.heap.size ≤ q) ∧ q < W.heap.size := fun q hq => by
            have s1 := hfr.size
            have hq2 : q ∈ F1 ∨ q = wr.heap.size + 1 := by simpa using hM2 q hq
            refine ⟨?_, OwElems.lt hO2 (fun C x G h => OwNode.lt h) q hq⟩
            rcases hq2 with h | h
            · exact (hF1 q h).1
            · right; omega
          have hfr2 : Frm w W F := (hfr.more (Frm.ofBelow hba []) (fun _ h => by cases h)).more hf2 (fun q hq => (hF1 q (hkvF q hq)).1)
          have hkl : kk.length = (p0.length + 1) := by rw [(unhide HH).1]; simp
          rw [hkl] at HJ
          obtain ⟨_, vt, hov, hvF, ck', ct, ft, _⟩ := jn_storeM (w' := W) (p0.length + 1) hkl (unhide HJ) (fun q hq => (hF2 q hq).2)
          obtain ⟨sa, sc, hvt, _, _⟩ := hov.byt.shape
          replace hvt : vt = .slice sa 0 sc := hvt
          subst hvt
          replace ct : W.cell? ⟨g, (p0.length + 1) * 5 + 2, none⟩ = some (.slice sa 0 sc) := ct
          clear hF1 hfr hf2 hM2 hO2 hN2 HJ0 hba hkvF hov hvF ck' ft
          have hF1 := hF2
          have hfr := hfr2
          clear hF2 hfr2
          (try rw [hkl])
          (try simp only [hkl])
          go_wp2_with fail
          have hglt : g < W.heap.size := lt_of_cell ct
          have hbz : Below W.heap.size W (W.alloc (.cells #[.int .u8 x] 5)).drew := ((Below.refl _ _).alloc (Nat.le_refl _) _).drew
          have ctd : W.drew.cell? ⟨g, (p0.length + 1) * 5 + 2, none⟩ = some (.slice sa 0 sc) := ct
          have ctz : (W.alloc (.cells #[.int .u8 x] 5)).drew.cell? ⟨g, (p0.length + 1) * 5 + 2, none⟩ = some (.slice sa 0 sc) := (hbz.cell (p := ⟨g, (p0.length + 1) * 5 + 2, none⟩) hglt).trans ct
          have ctz2 : (W.drew.alloc (.cells #[.int .u8 x] 5)).cell? ⟨g, (p0.length + 1) * 5 + 2, none⟩ = some (.slice sa 0 sc) := ctz
          obtain ⟨_, vt2, hov2, _, _, ct2, _, hst⟩ := jn_storeM (w' := W) (p0.length + 1) hkl ((unhide HJ).keep hbz) (fun q hq => Nat.lt_of_lt_of_le (hF1 q hq).2 hbz.size)
          replace ct2 : (W.alloc (.cells #[.int .u8 x] 5)).drew.cell? ⟨g, (p0.length + 1) * 5 + 2, none⟩ = some vt2 := ct2
          have evt : vt2 = .slice sa 0 sc := by
            rw [ctz] at ct2
            exact (Option.some.inj ct2).symm
          subst evt
          have HST := hide hst
          have HOV := hide hov2
          have ctb : W.drew.cell? ⟨tb, toff + j, none⟩ = some (.int .u8 x) := unhide HTC W hfr
          have dm1 : ((((p0.length + 1) : Nat) : Int) + 1 - 1) = (((p0.length + 1) : Nat) : Int) := by omega
          have wpr : IntKind.i64.wrap ((p0.length : Int) + 1) = ((p0.length : Int) + 1) := by rw [IntKind.wrap_i64]; omega
          have lpr : ((p0.length : Int) + 1) < ((p0.length : Int) + 1) + 1 := by omega
          have zpr : (0 : Int) ≤ ((p0.length : Int) + 1) := by omega
          have HKL2 := hide hkl
          clear hst hov2 ct2 hkl
          go_region_law
            (first
              | (refine step_appAt (by rfl) (.tmp 50) (.tmp 55) (by rfl) 0 (.slice sa 0 sc) ([] : List Int) (by rfl) (unhide HOV) _ [x] (by rfl) (byt_one W x hx1 hx2) (by simp; try omega) (Nat.zero_le _) ?_; intro v9 w9 ho9 hg9 hat9; obtain ⟨F9, hJ9, hF9, hf9, hc9, hz9⟩ := unhide HST w9 v9 (([] : List Int) ++ [x]) [] hg9.size (Frm.ofGrown hg9) ho9 (fun q hq => by have hq' : v9.ownBlock = some q := (by simpa [FB] using hq); rcases hat9 with h | h; (exact .inl (by rw [h] at hq'; simpa [FB] using hq')); (exact .inr (by rw [h] at hq'; exact Nat.le_of_eq (Option.some.inj hq')))); replace hc9 : w9.cell? ⟨g, (p0.length + 1) * 5 + 2, none⟩ = some (.slice sa 0 sc) := hc9; replace hz9 : w9.frozen? ⟨g, (p0.length + 1) * 5 + 2, none⟩ = false := hz9; obtain ⟨a9, c9, hv9, _, _⟩ := ho9.byt.shape; generalize (([] : List Int) ++ [x]).length = n9 at hv9; subst hv9))
          all_goals
            have hfX : Frm w (w9.setCell ⟨g, (p0.length + 1) * 5 + 2, none⟩ (.slice a9 n9 c9)) F := (hfr.more (Frm.ofBelow hbz []) (fun _ h => by cases h)).more hf9 (fun q hq => (hF1 q hq).1)
            have hFX : ∀ q ∈ F9, (q ∈ F ∨ w.heap.size ≤ q) ∧ q < (w9.setCell ⟨g, (p0.length + 1) * 5 + 2, none⟩ (.slice a9 n9 c9)).heap.size := fun q hq => ⟨by
              rcases (hF9 q hq).1 with h | h
              · exact (hF1 q h).1
              · right; have h1 := hfr.size; have h2 := hbz.size; omega, (hF9 q hq).2⟩
            have HJ9 := hide (show Jn n (w9.setCell ⟨g, (p0.length + 1) * 5 + 2, none⟩ (.slice a9 n9 c9)) (.slice (some ⟨g, 0, none⟩) ((p0.length + 1) + 1) cap2) (joinL ks (tl.take (j + 1))) F9 by rw [unhide HN]; exact hJ9)
            clear hJ9 hF9 hf9 ho9 hg9 hat9 HST HOV
            go_wp2_with fail
            go_roundw
            case rel => exact ⟨j + 1, by omega, by go_num, some ⟨g, 0, none⟩, (p0.length + 1) + 1, cap2, F9, rfl, unhide HJ9, hFX, hfX⟩
            case measure => simp [intOf]; omega
    · have e : j = tl.length := by omega
      subst e
      rw [List.take_length] at hJ
      go_wp2_with fail
      go_ret
      exact ⟨_, rfl, F1, hJ, hF1, hfr⟩
end Go.Proofs.Yteioihjgjbjmjaa
