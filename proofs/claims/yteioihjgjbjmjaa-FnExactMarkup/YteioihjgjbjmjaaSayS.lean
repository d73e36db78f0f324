/- spec.l3say puts a text's bytes behind others, with references. -/
import Derived.Test.YteioihjgjbjmjaaApp
import Derived.Test.YteioihjgjbjmjaaFrpT
import Derived.Lib.AppendStr
namespace Go.Proofs.Yteioihjgjbjmjaa
open Go.RowKit
set_option linter.unusedVariables false
set_option maxRecDepth 100000

/-- A byte as markup tells it. -/
def sayB (q : Bool) (x : Int) : List Int := if x = 38 then [38, 97, 109, 112, 59] else if x = 60 then [38, 108, 116, 59] else if x = 34 ∧ q = true then [38, 113, 117, 111, 116, 59] else [x]
def say (q : Bool) (l : List Int) : List Int := (l.map (sayB q)).flatten
theorem say_take (q : Bool) (l : List Int) (j : Nat) (h : j < l.length) : say q (l.take (j + 1)) = say q (l.take j) ++ sayB q l[j] := by
  unfold say
  rw [List.take_succ_eq_append_getElem h, List.map_append, List.flatten_append]
  simp
theorem say_le (q : Bool) (l : List Int) (j : Nat) : (say q (l.take j)).length ≤ (say q l).length := by
  have : say q l = say q (l.take j) ++ say q (l.drop j) := by
    unfold say
    rw [← List.flatten_append, ← List.map_append, List.take_append_drop]
  rw [this, List.length_append]
  omega
theorem sayB_len (q : Bool) (x : Int) : (sayB q x).length ≤ 6 := by
  unfold sayB
  split
  · decide
  · split
    · decide
    · split
      · decide
      · simp
theorem say_len (q : Bool) : ∀ l : List Int, (say q l).length ≤ 6 * l.length
  | [] => by simp [say]
  | x :: l => by
    have h1 := say_len q l
    have h2 := sayB_len q x
    unfold say at h1 ⊢
    simp only [List.map_cons, List.flatten_cons, List.length_append, List.length_cons]
    omega

/-- 'append(out, "..."...)': out owned: what comes is owned, and no block but out's own has been written. -/
theorem wpList_apps {w : World} {ops : Array Oper} {rest : List Oper} {o : Oper} {a : Act} {Q : Exit → Act → World → Prop} (hgd : o.guard = none) (s x : Operand)
    (ho : o.op = .call { callee := .builtin .append, args := #[s, x], argTypes := #[22, 9] })
    (base : Nat) (v : Value) (l : List Int) (hs : a.eval s = v) (hown : Own w base v l) (t : ByteArray) (m : List Int) (hx : a.eval x = .string t) (hm : Lib.strCells t = vals m) (hok : okB m)
    (hlen : l.length + m.length ≤ 134217728) (hbase : base ≤ w.heap.size)
    (h : ∀ v' w', Own w' base v' (l ++ m) → w.grownBy w' v.ownBlock → wpList Try.prog ops Q rest (a.put o.dst v') w') : wpList Try.prog ops Q (o :: rest) a w := by
  obtain ⟨i0, hi, hz0, hz1, hz2⟩ := info_parts Try.info5
  have hsz : t.size = m.length := by rw [← Lib.strCells_length, hm, vals_len]
  refine Lib.wpList_append_own_string _ hgd s x 22 9 ho base 5 i0 Try.underlying22 Try.underlying9 hi hz0 hz1 hz2 v l.length (vals l) hs hown.2 t hx (by rw [hsz]; unfold maxLen; omega) (by omega) hbase ?_
  intro v' w' h1 h2 _
  refine h v' w' ⟨hown.1.app hok, ?_⟩ h2
  rw [vals_app, List.length_append, ← hsz, ← hm]; exact h1

theorem okB_amp : okB [38, 97, 109, 112, 59] := fun x hx => by simp at hx; omega
theorem okB_lt : okB [38, 108, 116, 59] := fun x hx => by simp at hx; omega
theorem okB_quot : okB [38, 113, 117, 111, 116, 59] := fun x hx => by simp at hx; omega

set_option maxHeartbeats 3200000 in
theorem sayS_any (w0 w : World) (B : Nat) (v u : Value) (l t : List Int) (q : Bool) (hB : B ≤ w.heap.size) (ho : Own w B v l) (hu : Byt w0 u t) (hW : Below w0.heap.size w0 w) (h0 : w0.heap.size ≤ B) (hlen : l.length + (say q t).length ≤ 100000000) :
    Calls Try.prog 66 #[v, u, .bool q] w fun e w' => ∃ v', e = .returned v' ∧ Own w' B v' (l ++ say q t) ∧ Frp (MtB B) w w' := by
  obtain ⟨av, cv, rfl, _, _⟩ := ho.byt.shape
  obtain ⟨au, cu, rfl, _, _⟩ := hu.shape
  have hml := hu.2.1
  unfold maxLen at hml
  have hm' : (t.length : Int) ≤ 9223372036854775807 := by omega
  go_enter Try.func66, Try.ntmps66
  go_wp2_with fail
  go_loopw [0, 7] (fun b i wr => ∃ j : Nat, j ≤ t.length ∧ i = .int .i64 j ∧ Own wr B b (l ++ say q (t.take j)) ∧ Frp (MtB B) w wr) (fun _ i _ => t.length - (intOf i).toNat)
  case atStart => exact ⟨0, Nat.zero_le _, rfl, by simpa [say] using ho, Frp.refl _ _⟩
  case round =>
    obtain ⟨j, hj, rfl, hr, hb⟩ := hrel
    by_cases hjl : j < t.length
    · have hst := say_take q t j hjl
      have hle := say_le q t (j + 1)
      obtain ⟨hok, _, ⟨_, e⟩ | ⟨_, _, _, _, e⟩ | ⟨p, off, cap, e, h1, h2, h3, h4, h5⟩⟩ := hu
      · subst e; simp at hjl
      · subst e; simp at hjl
      injection e with e1 _ e3
      subst e1 e3
      have hc := h5 j hjl
      obtain ⟨x, hx⟩ : ∃ x, x = t[j] := ⟨_, rfl⟩
      rw [getD_at hjl, ← hx] at hc
      rw [← hx] at hst
      have hx1 : 0 ≤ x := by rw [hx]; exact (hok _ (List.getElem_mem hjl)).1
      have hx2 : x ≤ 255 := by rw [hx]; exact (hok _ (List.getElem_mem hjl)).2
      have hW2 : Below w0.heap.size w0 wr := hW.trans ((hb.toBelow hB).mono h0)
      have hcx : wr.cell? ⟨p, off + j, none⟩ = some (.int .u8 x) := (hW2.cell (p := ⟨p, off + j, none⟩) h4).trans hc
      have hBr : B ≤ wr.heap.size := Nat.le_trans hB hb.size
      obtain ⟨ab, cb, hbv, _, _⟩ := hr.byt.shape
      subst hbv
      have hl2 : (l ++ say q (t.take j)).length + (sayB q x).length ≤ 100000000 := by
        rw [hst] at hle
        simp only [List.length_append] at hle ⊢
        omega
      have hjl' : (j : Int) < (t.length : Int) := by omega
      have HST := hide hst
      obtain ⟨L, hL⟩ : ∃ L, L = l ++ say q (t.take j) := ⟨_, rfl⟩
      have HL := hide (show l ++ say q (t.take (j + 1)) = L ++ sayB q x by rw [hst, hL, List.append_assoc])
      rw [← hL] at hr hl2 ⊢
      have hl3 : L.length ≤ 100000000 := by omega
      have HR := hide hr
      clear hr hst hx hc hle h5 hL HST
      by_cases k1 : x = 38
      · have d1 : (x == 38) = true := by simpa using k1
        have HY := hide (show sayB q x = [38, 97, 109, 112, 59] by unfold sayB; rw [if_pos k1])
        clear k1
        go_wp2_with (at_builtin; refine wpList_apps rfl _ _ rfl B _ L rfl (unhide HR) _ [38, 97, 109, 112, 59] rfl rfl okB_amp (by first | omega | (simp; omega)) (by first | exact hBr | (simp; omega)) ?_)
        intro v2 w2 ho2 hg2
        have hb2 : Frp (MtB B) w w2 := hb.trans (Frp.ofAppend (unhide HR) hg2)
        have HO := hide (show Own w2 B v2 (l ++ say q (t.take (j + 1))) by rw [unhide HL, unhide HY]; exact ho2)
        obtain ⟨a2, c2, hv2, _, _⟩ := ho2.byt.shape
        subst hv2
        clear ho2 hg2
        go_wp2_with fail
        go_roundw
        case rel => exact ⟨j + 1, by omega, by go_num, unhide HO, hb2⟩
        case measure => simp [intOf]; omega
      · have d1 : (x == 38) = false := by simpa using k1
        by_cases k2 : x = 60
        · have d2 : (x == 60) = true := by simpa using k2
          have HY := hide (show sayB q x = [38, 108, 116, 59] by unfold sayB; rw [if_neg k1, if_pos k2])
          clear k1 k2
          go_wp2_with (at_builtin; refine wpList_apps rfl _ _ rfl B _ L rfl (unhide HR) _ [38, 108, 116, 59] rfl rfl okB_lt (by first | omega | (simp; omega)) (by first | exact hBr | (simp; omega)) ?_)
          intro v2 w2 ho2 hg2
          have hb2 : Frp (MtB B) w w2 := hb.trans (Frp.ofAppend (unhide HR) hg2)
          have HO := hide (show Own w2 B v2 (l ++ say q (t.take (j + 1))) by rw [unhide HL, unhide HY]; exact ho2)
          obtain ⟨a2, c2, hv2, _, _⟩ := ho2.byt.shape
          subst hv2
          clear ho2 hg2
          go_wp2_with fail
          go_roundw
          case rel => exact ⟨j + 1, by omega, by go_num, unhide HO, hb2⟩
          case measure => simp [intOf]; omega
        · have d2 : (x == 60) = false := by simpa using k2
          by_cases k3 : x = 34 ∧ q = true
          · have d3 : (x == 34) = true := by simpa using k3.1
            have HY := hide (show sayB q x = [38, 113, 117, 111, 116, 59] by unfold sayB; rw [if_neg k1, if_neg k2, if_pos k3])
            obtain ⟨_, hq⟩ := k3
            subst hq
            clear k1 k2
            go_wp2_with (at_builtin; refine wpList_apps rfl _ _ rfl B _ L rfl (unhide HR) _ [38, 113, 117, 111, 116, 59] rfl rfl okB_quot (by first | omega | (simp; omega)) (by first | exact hBr | (simp; omega)) ?_)
            intro v2 w2 ho2 hg2
            have hb2 : Frp (MtB B) w w2 := hb.trans (Frp.ofAppend (unhide HR) hg2)
            have HO := hide (show Own w2 B v2 (l ++ say true (t.take (j + 1))) by rw [unhide HL, unhide HY]; exact ho2)
            obtain ⟨a2, c2, hv2, _, _⟩ := ho2.byt.shape
            subst hv2
            clear ho2 hg2
            go_wp2_with fail
            go_roundw
            case rel => exact ⟨j + 1, by omega, by go_num, unhide HO, hb2⟩
            case measure => simp [intOf]; omega
          · have HY := hide (show sayB q x = [x] by unfold sayB; rw [if_neg k1, if_neg k2, if_neg k3])
            have d3 : ((x == 34) = true ∧ q = false) ∨ (x == 34) = false := by
              by_cases h34 : x = 34
              · left
                refine ⟨by simpa using h34, ?_⟩
                cases q with
                | true => exact absurd ⟨h34, rfl⟩ k3
                | false => rfl
              · right; simpa using h34
            clear k1 k2 k3
            rcases d3 with ⟨d3, rfl⟩ | d3
            · go_wp2_with (at_builtin; (refine wpList_app rfl _ _ rfl B _ L rfl ((unhide HR).alloc _) _ [x] rfl (byt_one wr x hx1 hx2) (by first | omega | (simp; omega)) (by first | exact hBr | (simp; omega)) ?_))
              intro v2 w2 ho2 hg2
              have hb2 : Frp (MtB B) w w2 := (hb.trans (Frp.ofBelow ((Below.refl _ _).alloc (Nat.le_refl _) _) _)).trans (Frp.ofAppend ((unhide HR).alloc _) hg2)
              have HO := hide (show Own w2 B v2 (l ++ say false (t.take (j + 1))) by rw [unhide HL, unhide HY]; exact ho2)
              obtain ⟨a2, c2, hv2, _, _⟩ := ho2.byt.shape
              subst hv2
              clear ho2 hg2
              go_wp2_with fail
              go_roundw
              case rel => exact ⟨j + 1, by omega, by go_num, unhide HO, hb2⟩
              case measure => simp [intOf]; omega
            · go_wp2_with (at_builtin; (refine wpList_app rfl _ _ rfl B _ L rfl ((unhide HR).alloc _) _ [x] rfl (byt_one wr x hx1 hx2) (by first | omega | (simp; omega)) (by first | exact hBr | (simp; omega)) ?_))
              intro v2 w2 ho2 hg2
              have hb2 : Frp (MtB B) w w2 := (hb.trans (Frp.ofBelow ((Below.refl _ _).alloc (Nat.le_refl _) _) _)).trans (Frp.ofAppend ((unhide HR).alloc _) hg2)
              have HO := hide (show Own w2 B v2 (l ++ say q (t.take (j + 1))) by rw [unhide HL, unhide HY]; exact ho2)
              obtain ⟨a2, c2, hv2, _, _⟩ := ho2.byt.shape
              subst hv2
              clear ho2 hg2
              go_wp2_with fail
              go_roundw
              case rel => exact ⟨j + 1, by omega, by go_num, unhide HO, hb2⟩
              case measure => simp [intOf]; omega
    · have e : j = t.length := by omega
      subst e
      rw [List.take_length] at hr
      obtain ⟨ab, cb, hbv, _, _⟩ := hr.byt.shape
      subst hbv
      clear hu
      go_wp2_with fail
      go_ret
      exact ⟨_, rfl, hr, hb⟩
end Go.Proofs.Yteioihjgjbjmjaa
