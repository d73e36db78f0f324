/- impl's putBytes puts a text's bytes behind what is written, with references. -/
import Derived.Test.YteioihjgjbjmjaaPutW
namespace Go.Proofs.Yteioihjgjbjmjaa
open Go.RowKit
set_option linter.unusedVariables false
set_option maxRecDepth 100000

theorem word_amp : WordOk (⟨#[38, 97, 109, 112, 59]⟩, [38, 97, 109, 112, 59]) := ⟨rfl, okB_amp⟩
theorem word_lt : WordOk (⟨#[38, 108, 116, 59]⟩, [38, 108, 116, 59]) := ⟨rfl, okB_lt⟩
theorem word_quot : WordOk (⟨#[38, 113, 117, 111, 116, 59]⟩, [38, 113, 117, 111, 116, 59]) := ⟨rfl, okB_quot⟩

/-- put of one word that was laid just now. -/
theorem put_one (B g cap : Nat) (w : World) (L : List Int) (s : ByteArray) (m : List Int) (hw : Wr B w g L) (hB : B ≤ w.heap.size) (hs : WordOk (s, m)) (hlen : L.length + m.length ≤ 100000000) :
    Calls Try.prog 69 #[.pointer (some ⟨g, 0, none⟩), .slice (some ⟨w.heap.size, 0, none⟩) 1 cap] (w.alloc (.cells #[.string s] 9)) fun e w' => e = .returned (.tuple #[]) ∧ Wr B w' g (L ++ m) ∧ Frp (MtW B g) w w' := by
  have hb : Below w.heap.size w (w.alloc (.cells #[.string s] 9)) := (Below.refl _ _).alloc (Nat.le_refl _) _
  have h := put_any B g w.heap.size cap _ L [(s, m)] (hw.keep hb) (Nat.le_trans hB hb.size) (Loc.made w #[.string s] 9) (words1 hs) (by simp) (by simpa using hlen)
  refine h.mono ?_
  rintro e w' ⟨rfl, h1, h2⟩
  exact ⟨rfl, by simpa using h1, (Frp.ofBelow hb _).trans h2⟩

set_option maxHeartbeats 3200000 in
theorem putB_any (w0 w : World) (B g : Nat) (u : Value) (L t : List Int) (q : Bool) (hw : Wr B w g L) (hB : B ≤ w.heap.size) (hu : Byt w0 u t) (hW : Below w0.heap.size w0 w) (h0 : w0.heap.size ≤ B) (hg0 : w0.heap.size ≤ g) (hlen : L.length + (say q t).length ≤ 100000000) :
    Calls Try.prog 67 #[.pointer (some ⟨g, 0, none⟩), u, .bool q] w fun e w' => e = .returned (.tuple #[]) ∧ Wr B w' g (L ++ say q t) ∧ Frp (MtW B g) w w' := by
  obtain ⟨au, cu, rfl, _, _⟩ := hu.shape
  have hml := hu.2.1
  unfold maxLen at hml
  have hm' : (t.length : Int) ≤ 9223372036854775807 := by omega
  go_enter Try.func67, Try.ntmps67
  go_wp2_with fail
  go_loopw [10] (fun i wr => ∃ j : Nat, j ≤ t.length ∧ i = .int .i64 j ∧ Wr B wr g (L ++ say q (t.take j)) ∧ Frp (MtW B g) w wr) (fun i _ => t.length - (intOf i).toNat)
  case atStart => exact ⟨0, Nat.zero_le _, rfl, by simpa [say] using hw, Frp.refl _ _⟩
  case round =>
    obtain ⟨j, hj, rfl, hr, hb⟩ := hrel
    by_cases hjl : j < t.length
    · have hst := say_take q t j hjl
      have hle := say_le q t (j + 1)
      obtain ⟨hok, _, ⟨_, e⟩ | ⟨_, _, _, _, e⟩ | ⟨p, off, cap, e, h1, h2, h3, h4, h5⟩⟩ := hu
      · subst e; simp at hjl
      · subst e; simp at hjl
      injection e with e1 _ e3
      subst e1 e3
      have hc := h5 j hjl
      obtain ⟨x, hx⟩ : ∃ x, x = t[j] := ⟨_, rfl⟩
      rw [getD_at hjl, ← hx] at hc
      rw [← hx] at hst
      have hx1 : 0 ≤ x := by rw [hx]; exact (hok _ (List.getElem_mem hjl)).1
      have hx2 : x ≤ 255 := by rw [hx]; exact (hok _ (List.getElem_mem hjl)).2
      have hW2 : Below w0.heap.size w0 wr := hW.trans (FrpW.toBelow hb hW.size h0 hg0)
      have hcx : wr.cell? ⟨p, off + j, none⟩ = some (.int .u8 x) := (hW2.cell (p := ⟨p, off + j, none⟩) h4).trans hc
      have hBr : B ≤ wr.heap.size := Nat.le_trans hB hb.size
      have hl2 : (L ++ say q (t.take j)).length + (sayB q x).length ≤ 100000000 := by
        rw [hst] at hle
        simp only [List.length_append] at hle ⊢
        omega
      have hjl' : (j : Int) < (t.length : Int) := by omega
      obtain ⟨M, hM⟩ : ∃ M, M = L ++ say q (t.take j) := ⟨_, rfl⟩
      have HL := hide (show L ++ say q (t.take (j + 1)) = M ++ sayB q x by rw [hst, hM, List.append_assoc])
      rw [← hM] at hr hl2
      have hl3 : M.length ≤ 100000000 := by omega
      have HR := hide hr
      clear hr hst hx hc hle h5 hM hw hW hW2
      by_cases k1 : x = 38
      · have d1 : (x == 38) = true := by simpa using k1
        have HY := hide (show sayB q x = [38, 97, 109, 112, 59] by unfold sayB; rw [if_pos k1])
        clear k1
        have HP := hide (put_one B g 1 wr M _ _ (unhide HR) hBr word_amp (by rw [unhide HY] at hl2; exact hl2))
        clear hl2
        go_wp2_with fail
        refine (unhide HP).mono ?_
        rintro e w2 ⟨rfl, W2, F2⟩
        have HO := hide (show Wr B w2 g (L ++ say q (t.take (j + 1))) by rw [unhide HL, unhide HY]; exact W2)
        clear W2
        go_wp2_with fail
        go_roundw
        case rel => exact ⟨j + 1, by omega, by go_num, unhide HO, hb.trans F2⟩
        case measure => simp [intOf]; omega
      · have d1 : (x == 38) = false := by simpa using k1
        by_cases k2 : x = 60
        · have d2 : (x == 60) = true := by simpa using k2
          have HY := hide (show sayB q x = [38, 108, 116, 59] by unfold sayB; rw [if_neg k1, if_pos k2])
          clear k1 k2
          have HP := hide (put_one B g 1 wr M _ _ (unhide HR) hBr word_lt (by rw [unhide HY] at hl2; exact hl2))
          clear hl2
          go_wp2_with fail
          refine (unhide HP).mono ?_
          rintro e w2 ⟨rfl, W2, F2⟩
          have HO := hide (show Wr B w2 g (L ++ say q (t.take (j + 1))) by rw [unhide HL, unhide HY]; exact W2)
          clear W2
          go_wp2_with fail
          go_roundw
          case rel => exact ⟨j + 1, by omega, by go_num, unhide HO, hb.trans F2⟩
          case measure => simp [intOf]; omega
        · have d2 : (x == 60) = false := by simpa using k2
          by_cases k3 : x = 34 ∧ q = true
          · have d3 : (x == 34) = true := by simpa using k3.1
            have HY := hide (show sayB q x = [38, 113, 117, 111, 116, 59] by unfold sayB; rw [if_neg k1, if_neg k2, if_pos k3])
            obtain ⟨_, hq⟩ := k3
            subst hq
            clear k1 k2
            have HP := hide (put_one B g 1 wr M _ _ (unhide HR) hBr word_quot (by rw [unhide HY] at hl2; exact hl2))
            clear hl2
            go_wp2_with fail
            refine (unhide HP).mono ?_
            rintro e w2 ⟨rfl, W2, F2⟩
            have HO := hide (show Wr B w2 g (L ++ say true (t.take (j + 1))) by rw [unhide HL, unhide HY]; exact W2)
            clear W2
            go_wp2_with fail
            go_roundw
            case rel => exact ⟨j + 1, by omega, by go_num, unhide HO, hb.trans F2⟩
            case measure => simp [intOf]; omega
          · have HY := hide (show sayB q x = [x] by unfold sayB; rw [if_neg k1, if_neg k2, if_neg k3])
            have d3 : ((x == 34) = true ∧ q = false) ∨ (x == 34) = false := by
              by_cases h34 : x = 34
              · left
                refine ⟨by simpa using h34, ?_⟩
                cases q with
                | true => exact absurd ⟨h34, rfl⟩ k3
                | false => rfl
              · right; simpa using h34
            clear k1 k2 k3
            obtain ⟨o, hr1, hr2⟩ := unhide HR
            obtain ⟨ab, cb, hbv, _, _⟩ := hr1.byt.shape
            subst hbv
            obtain ⟨cs, _, _, c0, f0⟩ := hr2.loc
            have hba : Below wr.heap.size wr (wr.alloc (.cells #[.int .u8 x] 5)) := (Below.refl _ _).alloc (Nat.le_refl _) _
            have HR1 := hide (hr1.alloc (.cells #[.int .u8 x] 5))
            have HR2 := hide (hr2.keep hba)
            have Fa : Frp (MtW B g) wr (wr.alloc (.cells #[.int .u8 x] 5)) := Frp.ofBelow hba _
            clear hr1 hr2 HR hba hl2
            rcases d3 with ⟨d3, rfl⟩ | d3
            all_goals
              go_wp2_with (at_builtin; (refine wpList_app rfl _ _ rfl B _ M rfl (unhide HR1) _ [x] rfl (byt_one wr x hx1 hx2) (by first | omega | (simp; omega)) (by first | exact hBr | (simp; omega)) ?_))
              intro v2 w2 ho2 hg2
              obtain ⟨⟨c2, f2⟩, W2, F2⟩ := wr_put (unhide HR1) (unhide HR2) ho2 hg2
              rw [← unhide HY, ← unhide HL] at W2
              have HO := hide W2
              obtain ⟨a2, cc2, hv2, _, _⟩ := ho2.byt.shape
              generalize (M ++ [x]).length = N2 at hv2
              subst hv2
              clear ho2 hg2 W2
              go_wp2_with fail
              go_roundw
              case rel => exact ⟨j + 1, by omega, by go_num, unhide HO, (hb.trans Fa).trans F2⟩
              case measure => simp [intOf]; omega
    · have e : j = t.length := by omega
      subst e
      rw [List.take_length] at hr
      clear hu hw
      go_wp2_with fail
      go_end0
      exact ⟨rfl, hr, hb⟩
end Go.Proofs.Yteioihjgjbjmjaa
