/- Own texts joined: AttrS, CmpI, AttrI, OnceI, OnceJ, HasI, NodeS, Tool, PartI, OpenT, Pre. -/
import Derived.Test.YteioihjgjbjmjaaJa
import Derived.WalkLawsBesides
import Derived.Deep.RegionHeld3
import Derived.Deep.QuietTactic
import Derived.BigQuiet
import Derived.Lib.BytesEntry
import Derived.Lib.Bytealg
import Derived.Laws.Externs
import Derived.Test.YteioihjgjbjmjaaChecked
import Derived.WideMake
import Derived.Defers
import Derived.Laws.LoneSync
import Derived.Laws.Pointers
import Derived.RegionTactic
import Derived.RegionCalls
import Derived.Test.YteioihjgjbjmjaaProg
import Derived.ChangeArms
import Derived.ChangeSlices
import Derived.WideShapes

/- spec.l2void and spec.l2attrs answer what the plain tests say. -/
namespace Go.Proofs.Yteioihjgjbjmjaa
open Go.RowKit
set_option linter.unusedVariables false

/-- br, hr. -/
def Void (l : List Int) : Prop := l = [98, 114] ∨ l = [104, 114]
theorem str_br : (str [98, 114]).toList = [98, 114] := by rw [toList_data, str_list]; rfl
theorem str_hr : (str [104, 114]).toList = [104, 114] := by rw [toList_data, str_list]; rfl
theorem okB_br : okB [98, 114] := fun x hx => by simp at hx; omega
theorem okB_hr : okB [104, 114] := fun x hx => by simp at hx; omega

open Classical in
set_option maxHeartbeats 1600000 in
theorem voidS_any (w : World) (v : Value) (l : List Int) (h : Byt w v l) :
    Calls Try.prog 50 #[v] w fun e w' => e = .returned (.bool (decide (Void l))) ∧ w' = w := by
  have c1 := conv_any w v l h
  have b1 : ((str l).toList == [98, 114]) = decide (l = [98, 114]) := by rw [← str_br]; exact str_beq h.1 okB_br
  have b2 : ((str l).toList == [104, 114]) = decide (l = [104, 114]) := by rw [← str_hr]; exact str_beq h.1 okB_hr
  obtain ⟨a1, k1, rfl, _⟩ := h.shape
  generalize str l = s at *
  by_cases h1 : l = [98, 114]
  · have HD := hide (show decide (Void l) = true by simp [Void, h1])
    have d1 : (s.toList == [98, 114]) = true := by rw [b1]; simp [h1]
    clear b1 b2 h1
    go_enter Try.func50, Try.ntmps50
    go_wp2
    go_ret
    exact ⟨by rw [unhide HD]; rfl, rfl⟩
  · have d1 : (s.toList == [98, 114]) = false := by rw [b1]; simp [h1]
    by_cases h2 : l = [104, 114]
    · have HD := hide (show decide (Void l) = true by simp [Void, h2])
      have d2 : (s.toList == [104, 114]) = true := by rw [b2]; simp [h2]
      clear b1 b2 h1 h2
      go_enter Try.func50, Try.ntmps50
      go_wp2
      go_ret
      exact ⟨by rw [unhide HD]; rfl, rfl⟩
    · have HD := hide (show decide (Void l) = false by simp [Void, h1, h2])
      have d2 : (s.toList == [104, 114]) = false := by rw [b2]; simp [h2]
      clear b1 b2 h1 h2
      go_enter Try.func50, Try.ntmps50
      go_wp2
      go_ret
      exact ⟨by rw [unhide HD]; rfl, rfl⟩

/-- By their bytes. -/
def lessB (a b : List Int) : Bool := Op.bytesLess (str a).toList (str b).toList
/-- An attribute that may stand at place i. -/
def attrAt (l : List (List Int × List Int)) (i : Nat) : Prop := NameOk (l.getD i ([], [])).1 ∧ TextOk (l.getD i ([], [])).2 ∧ (0 < i → lessB (l.getD (i - 1) ([], [])).1 (l.getD i ([], [])).1 = true)
def AttrsOk (l : List (List Int × List Int)) : Prop := l.length ≤ 4 ∧ ∀ i, i < l.length → attrAt l i

theorem step_all {p : Nat → Prop} {k : Nat} (h : ∀ i, i < k → p i) (h1 : p k) (i : Nat) (hi : i < k + 1) : p i := by
  by_cases e : i = k
  · subst e; exact h1
  · exact h i (by omega)

open Classical in
set_option maxHeartbeats 3200000 in
theorem attrsS_any (w : World) (v : Value) (l : List (List Int × List Int)) (h : RdAttrs w v l) :
    Calls Try.prog 49 #[v] w fun e w' => e = .returned (.bool (decide (AttrsOk l))) ∧ Below w.heap.size w w' := by
  by_cases hl : 4 < l.length
  · obtain ⟨a, cap, rfl, _⟩ := Elems.shape h
    have HD := hide (show decide (AttrsOk l) = false by simp only [decide_eq_false_iff_not]; rintro ⟨_, _⟩; omega)
    have d2 : (4 : Int) < (l.length : Int) := by omega
    go_enter Try.func49, Try.ntmps49
    go_wp2_with fail
    go_ret
    exact ⟨by rw [unhide HD]; rfl, Below.refl _ _⟩
  have d2 : ¬ (4 : Int) < (l.length : Int) := by omega
  by_cases h0 : l = []
  · obtain ⟨a, cap, rfl, _⟩ := Elems.shape h
    subst h0
    have HD := hide (show decide (AttrsOk []) = true by simp only [decide_eq_true_eq]; exact ⟨by simp, fun i hi => by simp at hi⟩)
    go_enter Try.func49, Try.ntmps49
    go_wp2_with fail
    refine wp_loop_rounds 1 ?_
    rw [rounds_succ]
    go_wp2_with fail
    go_ret
    exact ⟨by rw [unhide HD]; rfl, Below.refl _ _⟩
  obtain ⟨_, ⟨_, e⟩ | ⟨_, _, _, _, e⟩ | ⟨b, off, cap, rfl, g1, g2, g3, g4, g5⟩⟩ := h
  · exact absurd e h0
  · exact absurd e h0
  go_enter Try.func49, Try.ntmps49
  go_wp2_with fail
  go_loopw [3] (fun i wr => ∃ k : Nat, k ≤ l.length ∧ i = .int .i64 k ∧ (∀ i, i < k → attrAt l i) ∧ Below w.heap.size w wr) (fun i _ => l.length - (intOf i).toNat)
  case atStart => exact ⟨0, Nat.zero_le _, rfl, fun i hi => by omega, Below.refl _ _⟩
  case round =>
    obtain ⟨k, hk, rfl, ha, hB⟩ := hrel
    have HA := hide ha
    clear ha
    by_cases hlt : k < l.length
    · obtain ⟨c0, c1, e0, e1, hc⟩ := two_of (g5 k hlt)
      obtain ⟨_, _, ee, hc0, hc1⟩ := hc
      simp only [List.cons.injEq, and_true] at ee
      obtain ⟨rfl, rfl⟩ := ee
      replace e0 := (hB.cell (p := ⟨b, off + k * 2, none⟩) g4).trans e0
      replace e1 := (hB.cell (p := ⟨b, off + k * 2 + 1, none⟩) g4).trans e1
      replace hc0 := hc0.keep hB
      replace hc1 := hc1.keep hB
      have hlt' : (k : Int) < (l.length : Int) := by omega
      have hk0 : (0 : Int) ≤ (k : Int) := by omega
      obtain ⟨x, hx⟩ : ∃ x, x = l[k] := ⟨_, rfl⟩
      rw [← hx] at hc0 hc1
      have hgd : l.getD k ([], []) = x := by rw [hx]; simp [hlt]
      obtain ⟨a0, n0, hv0, _, _⟩ := hc0.shape
      obtain ⟨a1, n1, hv1, _, _⟩ := hc1.shape
      subst hv0 hv1
      by_cases hn : NameOk x.1
      · by_cases ht : TextOk x.2
        · by_cases hkz : k = 0
          · have HT := hide (show attrAt l k from ⟨by rw [hgd]; exact hn, by rw [hgd]; exact ht, fun h => by omega⟩)
            have HN := hide hn
            have HX := hide ht
            subst hkz
            have dk : decide ((0 : Int) < ((0 : Nat) : Int)) = false := by simp
            simp only [Nat.zero_mul, Nat.add_zero] at e0 e1
            clear g5 hn ht hgd hx
            go_wp2_with fail
            go_quiet (first | (go_at_call 48; exact Calls.quiet_of_same (nameS_yes _ _ x.1 (hc0.keep (below_drewN (Below.refl _ _) _)) (unhide HN))) | (go_at_call 47; exact Calls.quiet_of_same (textS_yes _ _ x.2 (hc1.keep (below_drewN (Below.refl _ _) _)) (unhide HX))))
            go_wp2_with fail
            go_roundw
            case rel => exact ⟨1, by omega, by go_num, fun i hi => by obtain rfl : i = 0 := (by omega); exact unhide HT, below_drewN hB _⟩
            case measure => simp [intOf]; omega
          · obtain ⟨p0, p1, u0, u1, hp⟩ := two_of (g5 (k - 1) (by omega))
            obtain ⟨_, _, ee, hp0, hp1⟩ := hp
            simp only [List.cons.injEq, and_true] at ee
            obtain ⟨rfl, rfl⟩ := ee
            replace u0 := (hB.cell (p := ⟨b, off + (k - 1) * 2, none⟩) g4).trans u0
            replace hp0 := hp0.keep hB
            obtain ⟨y, hy⟩ : ∃ y, y = l[k - 1] := ⟨_, rfl⟩
            rw [← hy] at hp0
            have hgy : l.getD (k - 1) ([], []) = y := by rw [hy]; simp [show k - 1 < l.length by omega]
            obtain ⟨a2, n2, hv2, _, _⟩ := hp0.shape
            subst hv2
            have cx := fun q => conv_any (wr.drewN q) _ x.1 (hc0.keep (below_drewN (Below.refl _ _) q))
            have cy := fun q => conv_any (wr.drewN q) _ y.1 (hp0.keep (below_drewN (Below.refl _ _) q))
            have hkp : 0 < k := by omega
            have hkd : decide (0 < k) = true := by simp; omega
            have hk1 : (0 : Int) ≤ (k : Int) - 1 := by omega
            have hk2 : (k : Int) - 1 < (l.length : Int) := by omega
            have hk3 : ((k : Int) - 1).toNat = k - 1 := by omega
            have HN := hide hn
            have HX := hide ht
            by_cases hl2 : lessB y.1 x.1 = true
            · have HT := hide (show attrAt l k from ⟨by rw [hgd]; exact hn, by rw [hgd]; exact ht, fun _ => by rw [hgd, hgy]; exact hl2⟩)
              unfold lessB at hl2
              clear g5 hn ht hgd hx hy hgy
              go_wp2_with fail
              go_quiet (first | (go_at_call 48; exact Calls.quiet_of_same (nameS_yes _ _ x.1 (hc0.keep (below_drewN (Below.refl _ _) _)) (unhide HN))) | (go_at_call 47; exact Calls.quiet_of_same (textS_yes _ _ x.2 (hc1.keep (below_drewN (Below.refl _ _) _)) (unhide HX))))
              go_wp2_with fail
              go_roundw
              case rel => exact ⟨k + 1, by omega, by go_num, fun i hi => step_all (unhide HA) (unhide HT) i hi, below_drewN hB _⟩
              case measure => simp [intOf]; omega
            · have HF := hide (show decide (AttrsOk l) = false by
                simp only [decide_eq_false_iff_not]
                rintro ⟨_, h⟩
                exact hl2 (by have := (h k hlt).2.2 (by omega); rwa [hgd, hgy] at this))
              have hl3 : Op.bytesLess (str y.1).toList (str x.1).toList = false := by unfold lessB at hl2; simpa using hl2
              clear g5 hn ht hgd hx hy hgy hl2
              go_wp2_with fail
              go_quiet (first | (go_at_call 48; exact Calls.quiet_of_same (nameS_yes _ _ x.1 (hc0.keep (below_drewN (Below.refl _ _) _)) (unhide HN))) | (go_at_call 47; exact Calls.quiet_of_same (textS_yes _ _ x.2 (hc1.keep (below_drewN (Below.refl _ _) _)) (unhide HX))))
              go_wp2_with fail
              go_ret
              exact ⟨by rw [unhide HF]; rfl, below_drewN hB _⟩
        · have HF := hide (show decide (AttrsOk l) = false by
            simp only [decide_eq_false_iff_not]
            rintro ⟨_, h⟩
            exact ht (by have := (h k hlt).2.1; rwa [hgd] at this))
          have HN := hide hn
          have HX := hide ht
          clear g5 hn ht hgd hx
          go_wp2_with fail
          go_quiet (first | (go_at_call 48; exact Calls.quiet_of_same (nameS_yes _ _ x.1 (hc0.keep (below_drewN (Below.refl _ _) _)) (unhide HN))) | (go_at_call 47; exact Calls.quiet_of_same (textS_no _ _ x.2 (hc1.keep (below_drewN (Below.refl _ _) _)) (unhide HX))))
          go_wp2_with fail
          go_ret
          exact ⟨by rw [unhide HF]; rfl, below_drewN hB _⟩
      · have HF := hide (show decide (AttrsOk l) = false by
          simp only [decide_eq_false_iff_not]
          rintro ⟨_, h⟩
          exact hn (by have := (h k hlt).1; rwa [hgd] at this))
        have HN := hide hn
        clear g5 hn hgd hx
        go_wp2_with fail
        go_quiet ((go_at_call 48; exact Calls.quiet_of_same (nameS_no _ _ x.1 (hc0.keep (below_drewN (Below.refl _ _) _)) (unhide HN))))
        go_wp2_with fail
        go_ret
        exact ⟨by rw [unhide HF]; rfl, below_drewN hB _⟩
    · have e : k = l.length := by omega
      subst e
      have HF := hide (show decide (AttrsOk l) = true by simp only [decide_eq_true_eq]; exact ⟨by omega, unhide HA⟩)
      clear g5
      go_wp2_with fail
      go_ret
      exact ⟨by rw [unhide HF]; rfl, hB⟩
end Go.Proofs.Yteioihjgjbjmjaa

/- bytes.Compare at readable rows answers the order of the bytes; bytes.Equal whether they are one. -/
namespace Go.Proofs.Yteioihjgjbjmjaa
open Go.RowKit
set_option linter.unusedVariables false
set_option maxRecDepth 100000

theorem run_bytesOfB (w : World) (u : Value) (a : List Int) (h : Byt w u a) : (Extern.Bytes.bytesOf u).run Try.prog w = .ok ⟨(Lib.bytesOf a).toArray⟩ w := by
  obtain ⟨hoka, _, ⟨rfl, rfl⟩ | ⟨x, cap, rfl, hc, rfl⟩ | ⟨p, off, cap, rfl, h1, h2, h3, h4, h5⟩⟩ := h
  · rfl
  · rfl
  · have hl := Lib.run_loadBytesX (P := Try.prog) w a ⟨p, off, none⟩ .empty (fun j x hj => by
      have hjl : j < a.length := (List.getElem?_eq_some_iff.1 hj).1
      rw [add_plain, h5 j hjl, List.getD_eq_getElem?_getD, hj]; rfl)
    have he : (⟨ByteArray.empty.data ++ (Lib.bytesOf a).toArray⟩ : ByteArray) = ⟨(Lib.bytesOf a).toArray⟩ := by
      apply ByteArray.ext
      show (#[] : Array UInt8) ++ (Lib.bytesOf a).toArray = (Lib.bytesOf a).toArray
      simp
    rw [he] at hl
    exact hl

/-- The order of two rows: below 0, 0, above 0. -/
def cmpB (a b : List Int) : Int := Lib.compareBytes (Lib.bytesOf a) (Lib.bytesOf b)

theorem cmp_run (w : World) (u v : Value) (a b : List Int) (hu : Byt w u a) (hv : Byt w v b) : (callFunc 77 #[u, v]).run Try.prog w = .ok (.value (.int .i64 (cmpB a b))) w := by
  rw [run_callFunc_extern Try.func77 (by kernel_rfl) (by kernel_rfl) (by kernel_rfl) (e := Extern.BytealgCompare.compare) (by kernel_rfl)]
  have e : (Extern.BytealgCompare.compare #[u, v]).run Try.prog w = .ok (.int .i64 (cmpB a b)) w := by
    change Sem.run Try.prog (do pure (goInt (Extern.BytealgCompare.cmp (← Extern.Bytes.bytesOf u) (← Extern.Bytes.bytesOf v)))) w = _
    simp only [Sem.run_bind, Sem.run_pure, run_bytesOfB w u a hu, run_bytesOfB w v b hv, Result.andThen]
    rw [Lib.cmp_eq]
    rfl
  rw [e]
  rfl

theorem compare_less : ∀ (a b : List UInt8), Op.bytesLess a b = decide (Lib.compareBytes a b < 0)
  | [], [] => rfl
  | [], _ :: _ => rfl
  | _ :: _, [] => rfl
  | x :: a, y :: b => by
    have ih := compare_less a b
    unfold Op.bytesLess Lib.compareBytes
    by_cases h1 : x < y
    · simp [h1]
    · by_cases h2 : y < x
      · have hne : ¬ x = y := fun e => by subst e; exact h1 h2
        simp [h1, h2, hne]
      · have he : x = y := UInt8.le_antisymm (UInt8.not_lt.1 h2) (UInt8.not_lt.1 h1)
        subst he
        simp [h1, ih]
theorem lessB_cmp (a b : List Int) : lessB a b = decide (cmpB a b < 0) := by
  unfold lessB cmpB
  rw [toList_data, toList_data, str_list, str_list, compare_less]
  rfl
theorem compare_bd : ∀ (a b : List UInt8), -1 ≤ Lib.compareBytes a b ∧ Lib.compareBytes a b ≤ 1
  | [], [] => by decide
  | [], _ :: _ => by simp [Lib.compareBytes]
  | _ :: _, [] => by simp [Lib.compareBytes]
  | x :: a, y :: b => by
    have ih := compare_bd a b
    unfold Lib.compareBytes
    split
    · decide
    · split
      · decide
      · exact ih
theorem cmpB_bd (a b : List Int) : -1 ≤ cmpB a b ∧ cmpB a b ≤ 1 := compare_bd _ _

theorem cmpI_any (w : World) (u v : Value) (a b : List Int) (hu : Byt w u a) (hv : Byt w v b) :
    Calls Try.prog 72 #[u, v] w fun e w' => e = .returned (.int .i64 (cmpB a b)) ∧ w' = w := by
  have hr := cmp_run w u v a b hu hv
  obtain ⟨a1, k1, rfl, _⟩ := hu.shape
  obtain ⟨a2, k2, rfl, _⟩ := hv.shape
  generalize cmpB a b = c at *
  go_enter Try.func72, Try.ntmps72
  go_wp2
  go_ret
  exact ⟨rfl, rfl⟩
theorem equalI_any (w : World) (u v : Value) (a b : List Int) (hu : Byt w u a) (hv : Byt w v b) :
    Calls Try.prog 59 #[u, v] w fun e w' => e = .returned (.bool (decide (a = b))) ∧ w' = w := by
  have d1 := conv_any w u a hu
  have d2 := conv_any w v b hv
  have HB := hide (str_beq hu.1 hv.1)
  obtain ⟨a1, k1, rfl, _⟩ := hu.shape
  obtain ⟨a2, k2, rfl, _⟩ := hv.shape
  generalize str a = s at *
  generalize str b = t at *
  go_enter Try.func59, Try.ntmps59
  go_wp2
  go_ret
  exact ⟨by rw [← unhide HB]; rfl, rfl⟩
end Go.Proofs.Yteioihjgjbjmjaa

/- impl.attrsOk answers what the plain test says. -/
namespace Go.Proofs.Yteioihjgjbjmjaa
open Go.RowKit
set_option linter.unusedVariables false
set_option maxRecDepth 100000

open Classical in
set_option maxHeartbeats 3200000 in
theorem attrsI_any (w : World) (v : Value) (l : List (List Int × List Int)) (h : RdAttrs w v l) :
    Calls Try.prog 55 #[v] w fun e w' => e = .returned (.bool (decide (AttrsOk l))) ∧ Below w.heap.size w w' := by
  by_cases hl : 4 < l.length
  · obtain ⟨a, cap, rfl, _⟩ := Elems.shape h
    have HD := hide (show decide (AttrsOk l) = false by simp only [decide_eq_false_iff_not]; rintro ⟨_, _⟩; omega)
    have d2 : (4 : Int) < (l.length : Int) := by omega
    go_enter Try.func55, Try.ntmps55
    go_wp2_with fail
    go_ret
    exact ⟨by rw [unhide HD]; rfl, Below.refl _ _⟩
  have d2 : ¬ (4 : Int) < (l.length : Int) := by omega
  by_cases h0 : l = []
  · obtain ⟨a, cap, rfl, _⟩ := Elems.shape h
    subst h0
    have HD := hide (show decide (AttrsOk []) = true by simp only [decide_eq_true_eq]; exact ⟨by simp, fun i hi => by simp at hi⟩)
    go_enter Try.func55, Try.ntmps55
    go_wp2_with fail
    refine wp_loop_rounds 1 ?_
    rw [rounds_succ]
    go_wp2_with fail
    go_ret
    exact ⟨by rw [unhide HD]; rfl, Below.refl _ _⟩
  obtain ⟨_, ⟨_, e⟩ | ⟨_, _, _, _, e⟩ | ⟨b, off, cap, rfl, g1, g2, g3, g4, g5⟩⟩ := h
  · exact absurd e h0
  · exact absurd e h0
  go_enter Try.func55, Try.ntmps55
  go_wp2_with fail
  go_loopw [10] (fun i wr => ∃ k : Nat, k ≤ l.length ∧ i = .int .i64 k ∧ (∀ i, i < k → attrAt l i) ∧ Below w.heap.size w wr) (fun i _ => l.length - (intOf i).toNat)
  case atStart => exact ⟨0, Nat.zero_le _, rfl, fun i hi => by omega, Below.refl _ _⟩
  case round =>
    obtain ⟨k, hk, rfl, ha, hB⟩ := hrel
    have HA := hide ha
    clear ha
    by_cases hlt : k < l.length
    · obtain ⟨c0, c1, e0, e1, hc⟩ := two_of (g5 k hlt)
      obtain ⟨_, _, ee, hc0, hc1⟩ := hc
      simp only [List.cons.injEq, and_true] at ee
      obtain ⟨rfl, rfl⟩ := ee
      replace e0 := (hB.cell (p := ⟨b, off + k * 2, none⟩) g4).trans e0
      replace e1 := (hB.cell (p := ⟨b, off + k * 2 + 1, none⟩) g4).trans e1
      replace hc0 := hc0.keep hB
      replace hc1 := hc1.keep hB
      have hlt' : (k : Int) < (l.length : Int) := by omega
      have hk0 : (0 : Int) ≤ (k : Int) := by omega
      obtain ⟨x, hx⟩ : ∃ x, x = l[k] := ⟨_, rfl⟩
      rw [← hx] at hc0 hc1
      have hgd : l.getD k ([], []) = x := by rw [hx]; simp [hlt]
      obtain ⟨a0, n0, hv0, _, _⟩ := hc0.shape
      obtain ⟨a1, n1, hv1, _, _⟩ := hc1.shape
      subst hv0 hv1
      have HGD := hide hgd
      have HX := hide hx
      clear hgd hx
      have hB1 : Below wr.heap.size wr (wr.alloc (.cells #[.slice a0 x.1.length n0, .slice a1 x.2.length n1] 88)) := (Below.refl _ _).alloc (Nat.le_refl _) _
      have l1 := Loc.made wr #[.slice a0 x.1.length n0, .slice a1 x.2.length n1] 88
      have hcell : ∀ j, j < l.length → ∃ y : Value, y ∈ [y] ∧ wr.cell? ⟨b, off + j * 2, none⟩ = some y ∧ Byt wr y (l.getD j ([], [])).1 := by
        intro j hj
        obtain ⟨p0, p1, u0, u1, hp⟩ := two_of (g5 j hj)
        obtain ⟨_, _, ee, hp0, hp1⟩ := hp
        simp only [List.cons.injEq, and_true] at ee
        obtain ⟨rfl, rfl⟩ := ee
        exact ⟨_, by simp, (hB.cell (p := ⟨b, off + j * 2, none⟩) g4).trans u0, by rw [show l.getD j ([], []) = l[j] by simp [hj]]; exact hp0.keep hB⟩
      have HC := hide hcell
      clear hcell g5
      have hbs : b < wr.heap.size := Nat.lt_of_lt_of_le g4 hB.size
      generalize hn0 : x.1.length = m0 at *
      generalize hn1 : x.2.length = m1 at *
      clear hn0 hn1
      go_wp2_with fail
      generalize wr.alloc (.cells #[.slice a0 m0 n0, .slice a1 m1 n1] 88) = w1 at *
      have c0 : w1.cell? ⟨wr.heap.size, 0, none⟩ = some (.slice a0 m0 n0) := l1.cell 0
      have c1 : w1.cell? ⟨wr.heap.size, 1, none⟩ = some (.slice a1 m1 n1) := l1.cell 1
      have hA1 := bstep hB hB1
      have HB1 := hide hB1
      clear hB1 e0 e1
      refine (nameI_any w1 _ x.1 (hc0.keep (unhide HB1))).mono ?_
      rintro e w1 ⟨rfl, rfl⟩
      by_cases hn : NameOk x.1
      · rw [show decide (NameOk x.1) = true by simpa using hn]
        go_wp2_with fail
        refine (textI_any w1 _ x.2 (hc1.keep (unhide HB1))).mono ?_
        rintro e w1 ⟨rfl, rfl⟩
        by_cases ht : TextOk x.2
        · rw [show decide (TextOk x.2) = true by simpa using ht]
          by_cases hkz : k = 0
          · have HT := hide (show attrAt l k from ⟨by rw [unhide HGD]; exact hn, by rw [unhide HGD]; exact ht, fun h => by omega⟩)
            subst hkz
            clear hn ht HC HX HGD hc0 hc1 HB1
            go_wp2_with fail
            go_quiet (fail)
            go_wp2_with fail
            go_roundw
            case rel => exact ⟨1, by omega, by go_num, fun i hi => by obtain rfl : i = 0 := (by omega); exact unhide HT, below_drewN hA1 _⟩
            case measure => simp [intOf]; omega
          · obtain ⟨y, _, u0, hp0⟩ := unhide HC (k - 1) (by omega)
            have hB1 := unhide HB1
            replace u0 := (hB1.cell (p := ⟨b, off + (k - 1) * 2, none⟩) hbs).trans u0
            replace hp0 := hp0.keep hB1
            have hx0 := hc0.keep hB1
            generalize hy : (l.getD (k - 1) ([], [])).1 = yl at *
            obtain ⟨a2, n2, hv2, _, _⟩ := hp0.shape
            subst hv2
            generalize yl.length = m2 at *
            have hkp : 0 < k := by omega
            have hkd : decide (0 < k) = true := by simp; omega
            have hk1 : (0 : Int) ≤ (k : Int) - 1 := by omega
            have hk2 : (k : Int) - 1 < (l.length : Int) := by omega
            have hk3 : ((k : Int) - 1).toNat = k - 1 := by omega
            have hcq : ∀ q, Calls Try.prog 72 #[.slice a2 m2 n2, .slice a0 m0 n0] (w1.drewN q) fun e w' => e = .returned (.int .i64 (cmpB yl x.1)) ∧ w' = w1.drewN q := fun q => cmpI_any _ _ _ _ _ (hp0.keep (below_drewN (Below.refl _ _) q)) (hx0.keep (below_drewN (Below.refl _ _) q))
            have HQ := hide hcq
            have hlc := lessB_cmp yl x.1
            by_cases hl2 : lessB yl x.1 = true
            · have HT := hide (show attrAt l k from ⟨by rw [unhide HGD]; exact hn, by rw [unhide HGD]; exact ht, fun _ => by rw [unhide HGD, hy]; exact hl2⟩)
              have hcz : decide (0 ≤ cmpB yl x.1) = false := by rw [hlc] at hl2; simp at hl2 ⊢; omega
              have hcz' : ¬ 0 ≤ cmpB yl x.1 := by simpa using hcz
              clear hn ht HX HGD hc0 hc1 HB1 HC hcq hlc hl2 hy hp0 hx0 hB1
              generalize cmpB yl x.1 = cm at *
              go_wp2_with fail
              go_quiet ((go_at_call 72; exact Calls.quiet_of_same (unhide HQ _)))
              go_wp2_with fail
              go_roundw
              case rel => exact ⟨k + 1, by omega, by go_num, fun i hi => step_all (unhide HA) (unhide HT) i hi, below_drewN hA1 _⟩
              case measure => simp [intOf]; omega
            · have HF := hide (show decide (AttrsOk l) = false by
                simp only [decide_eq_false_iff_not]
                rintro ⟨_, h⟩
                exact hl2 (by have := (h k hlt).2.2 (by omega); rwa [unhide HGD, hy] at this))
              have hcz : decide (0 ≤ cmpB yl x.1) = true := by rw [hlc] at hl2; simp at hl2 ⊢; omega
              have hcz' : 0 ≤ cmpB yl x.1 := by simpa using hcz
              clear hn ht HX HGD hc0 hc1 HB1 HC hcq hlc hl2 hy hp0 hx0 hB1
              generalize cmpB yl x.1 = cm at *
              go_wp2_with fail
              go_quiet ((go_at_call 72; exact Calls.quiet_of_same (unhide HQ _)))
              go_wp2_with fail
              go_ret
              exact ⟨by rw [unhide HF]; rfl, below_drewN hA1 _⟩
        · rw [show decide (TextOk x.2) = false by simpa using ht]
          have HF := hide (show decide (AttrsOk l) = false by
            simp only [decide_eq_false_iff_not]
            rintro ⟨_, h⟩
            exact ht (by have := (h k hlt).2.1; rwa [unhide HGD] at this))
          clear hn ht
          go_wp2_with fail
          go_ret
          exact ⟨by rw [unhide HF]; rfl, hA1⟩
      · have hd : decide (NameOk x.1) = false := by simpa using hn
        rw [hd]
        have HF := hide (show decide (AttrsOk l) = false by
          simp only [decide_eq_false_iff_not]
          rintro ⟨_, h⟩
          exact hn (by have := (h k hlt).1; rwa [unhide HGD] at this))
        clear hn hd
        go_wp2_with fail
        go_ret
        exact ⟨by rw [unhide HF]; rfl, hA1⟩
    · have e : k = l.length := by omega
      subst e
      have HF := hide (show decide (AttrsOk l) = true by simp only [decide_eq_true_eq]; exact ⟨by omega, unhide HA⟩)
      clear g5
      go_wp2_with fail
      go_ret
      exact ⟨by rw [unhide HF]; rfl, hB⟩
end Go.Proofs.Yteioihjgjbjmjaa

/- The set of void names: the map that fill makes, and sync.Once over it, by contracts: the lock, the two deferred calls, doSlow. -/
namespace Go.Proofs.Yteioihjgjbjmjaa
open Go.RowKit
set_option linter.unusedVariables false
set_option maxRecDepth 100000

/-- The map of br and hr, as it is made. -/
def voidMap : Obj := .map #[{ key := .string ⟨#[98, 114]⟩, val := .agg #[], born := 0 }, { key := .string ⟨#[104, 114]⟩, val := .agg #[], born := 1 }] 2

theorem alloc_put (W : World) (o o' : Obj) : ({ (W.alloc o) with heap := (W.alloc o).heap.setIfInBounds W.heap.size o' } : World) = W.alloc o' := by
  have e : (W.heap.push o).setIfInBounds W.heap.size o' = W.heap.push o' := by
    apply Array.ext'
    rw [Array.toList_setIfInBounds, Array.toList_push, Array.toList_push]
    rw [List.set_append_right _ _ (by simp)]
    simp
  show ({ W with heap := (W.heap.push o).setIfInBounds W.heap.size o' } : World) = { W with heap := W.heap.push o' }
  rw [e]

theorem br_in (W : World) : (Instr.mapUpdate 61 (.map (some W.heap.size)) (.string ⟨#[98, 114]⟩) (.agg #[])).run Try.prog (W.alloc (.map #[] 0)) = .ok () (W.alloc (.map #[{ key := .string ⟨#[98, 114]⟩, val := .agg #[], born := 0 }] 1)) := by
  rw [run_mapUpdate_first (P := Try.prog) (W.alloc (.map #[] 0)) 61 9 49 W.heap.size 0 ⟨#[98, 114]⟩ (.agg #[]) Try.underlying61 Try.underlying9 (heap_alloc_new W _), alloc_put]
theorem hr_in (W : World) : (Instr.mapUpdate 61 (.map (some W.heap.size)) (.string ⟨#[104, 114]⟩) (.agg #[])).run Try.prog (W.alloc (.map #[{ key := .string ⟨#[98, 114]⟩, val := .agg #[], born := 0 }] 1)) = .ok () (W.alloc voidMap) := by
  have hb := heap_alloc_new W (.map #[{ key := .string ⟨#[98, 114]⟩, val := .agg #[], born := 0 }] 1)
  have hf : Instr.findNow .string (.string ⟨#[104, 114]⟩) ([{ key := .string ⟨#[98, 114]⟩, val := .agg #[], born := 0 }] : List MapEntry) 0 = some none := rfl
  have hc : (Instr.checkKey false 10000 9 (.string ⟨#[104, 114]⟩)).run Try.prog (W.alloc (.map #[{ key := .string ⟨#[98, 114]⟩, val := .agg #[], born := 0 }] 1)) = .ok () (W.alloc (.map #[{ key := .string ⟨#[98, 114]⟩, val := .agg #[], born := 0 }] 1)) := MapKept.run_checkKey (k := .string ⟨#[104, 114]⟩) Try.underlying9 (by simp [MapKept.IsKey]) false 9999
  simp [Instr.mapUpdate, run_underlying Try.underlying61, MapKept.run_getObj_map hb, hc, MapKept.run_findKey Try.underlying9 hf, MapKept.run_setObj_map _ hb, Result.andThen]
  exact alloc_put W _ _

theorem fill_any (g : Nat) (w : World) (cs : Array Value) (hl : Loc w g cs 63) (c3 : Value) (h3 : w.cell? ⟨g, 3, none⟩ = some c3) :
    Calls Try.prog 74 #[.pointer (some ⟨g, 0, none⟩)] w fun e w' => e = .returned (.tuple #[]) ∧ w' = (w.setCell ⟨g, 3, none⟩ (.map (some w.heap.size))).alloc voidMap := by
  have hmm := @run_makeMap Try.prog
  have h1 := br_in w
  have h2 := hr_in w
  have hg := hl.lt
  have f3 := hl.frozen 3
  go_enter Try.func74, Try.ntmps74
  go_wp2
  go_end0
  exact ⟨rfl, rfl⟩

theorem disable (w : World) : (callFunc 89 #[]).run Try.prog w = .ok (.value (.tuple #[])) w := run_call_mark0 Try.func89 (by kernel_rfl) (by kernel_rfl) (by kernel_rfl) .disable (by kernel_rfl) w
theorem enable (w : World) : (callFunc 91 #[]).run Try.prog w = .ok (.value (.tuple #[])) w := run_call_mark0 Try.func91 (by kernel_rfl) (by kernel_rfl) (by kernel_rfl) .enable (by kernel_rfl) w
theorem acquire (a : Addr) (w : World) : (callFunc 92 #[.pointer (some a)]).run Try.prog w = .ok (.value (.tuple #[])) w := run_call_marked Try.func92 (by kernel_rfl) (by kernel_rfl) (by kernel_rfl) .acquire (by kernel_rfl) a w
theorem releaseMerge (a : Addr) (w : World) : (callFunc 94 #[.pointer (some a)]).run Try.prog w = .ok (.value (.tuple #[])) w := run_call_marked Try.func94 (by kernel_rfl) (by kernel_rfl) (by kernel_rfl) .releaseMerge (by kernel_rfl) a w

theorem store_deferred (a : Addr) (x : Value) (u : FrameMode) (w : World) (hc : w.cell? a = some x) (hz : w.frozen? a = false) :
    CallsD Try.prog 84 #[.pointer (some a), .bool true] u w fun e u' w' => u' = u ∧ (e = .returned (.tuple #[]) ∧ w' = w.drew.setCell a (.int .u32 1)) := by
  have hc' : w.drew.cell? a = some x := by go_simp
  have hz' : w.drew.frozen? a = false := by go_simp
  have hst := run_call_store (P := Try.prog) Try.func87 (by kernel_rfl) (by kernel_rfl) (by kernel_rfl) (by kernel_rfl) (k := .u32) (y := 1) hc' hz'
  go_enter_d Try.func84, Try.ntmps84
  go_wp2
  go_region_calls
  all_goals (go_end0; exact ⟨rfl, rfl⟩)

theorem unlock_deferred (a : Addr) (u : FrameMode) (w : World) (hc : w.cell? a = some (.int .i32 1)) (hz : w.frozen? a = false) :
    CallsD Try.prog 83 #[.pointer (some a)] u w fun e u' w' => u' = u ∧ (e = .returned (.tuple #[]) ∧ w' = w.setCell a (.int .i32 0)) := by
  have hd := disable
  have he := enable
  have hr := releaseMerge
  have hadd := run_call_add (P := Try.prog) Try.func95 (by kernel_rfl) (by kernel_rfl) (by kernel_rfl) .i32 (by kernel_rfl) (y := -1) (s := 0) hc hz (by simp [go_sem]; rfl)
  have hcv := run_convert_to_unsafe (P := Try.prog) (src := 117) (dst := 121) Try.underlying117 Try.underlying121 (by kernel_rfl) hc
  go_enter_d Try.func83, Try.ntmps83
  go_wp2
  go_end0
  go_wp2
  go_end0
  exact ⟨rfl, rfl⟩

theorem lock_free (a : Addr) (w : World) (hc : w.cell? a = some (.int .i32 0)) (hz : w.frozen? a = false) :
    Calls Try.prog 82 #[.pointer (some a)] w fun e w' => e = .returned (.tuple #[]) ∧ w' = w.setCell a (.int .i32 1) := by
  have hd := disable
  have he := enable
  have ha := acquire
  have hcas := run_call_cas_hit (P := Try.prog) Try.func90 (by kernel_rfl) (by kernel_rfl) (by kernel_rfl) .i32 (by kernel_rfl) (y := 1) hc hz
  have hc' : (w.setCell a (.int .i32 1)).cell? a = some (.int .i32 1) := World.cell?_setCell_same w a _ hc
  have hcv := run_convert_to_unsafe (P := Try.prog) (src := 117) (dst := 121) Try.underlying117 Try.underlying121 (by kernel_rfl) hc'
  go_enter Try.func82, Try.ntmps82
  go_wp2
  first | go_end0 | (simp only [Exit.inBlock, Exit.then]; refine bodyPost_ret (results_none rfl _ _ _) rfl ?_) | refine bodyPost_ret (results_none rfl _ _ _) rfl ?_
  go_wp2
  go_end0
  exact ⟨rfl, rfl⟩

end Go.Proofs.Yteioihjgjbjmjaa

/- sync.Once over the set of void names: doSlow and Do, the first time and later; has. -/
namespace Go.Proofs.Yteioihjgjbjmjaa
open Go.RowKit
set_option linter.unusedVariables false
set_option maxRecDepth 100000

/-- A set that is not yet made; that is made. -/
def vs0 : Array Value := #[.int .u32 0, .int .i32 0, .int .u32 0, .map none]
def vs1 (m : Nat) : Array Value := #[.int .u32 1, .int .i32 0, .int .u32 0, .map (some m)]

theorem load_any (a : Addr) (x : Int) (w : World) (hc : w.cell? a = some (.int .u32 x)) (b : Bool) (hb : (x != 0) = b) :
    Calls Try.prog 78 #[.pointer (some a)] w fun e w' => e = .returned (.bool b) ∧ w' = w := by
  have hlo := run_call_load (P := Try.prog) Try.func81 (by kernel_rfl) (by kernel_rfl) (by kernel_rfl) .u32 (by kernel_rfl) hc
  go_enter Try.func78, Try.ntmps78
  go_wp2
  go_ret
  exact ⟨rfl, rfl⟩

theorem Frm.drew (w : World) (S : List Nat) : Frm w w.drew S := Frm.ofBelow ((Below.refl _ _).drew) S
theorem setCell_os (w : World) (a : Addr) (v : Value) : (w.setCell a v).os = w.os := by unfold World.setCell; repeat (first | rfl | split)
theorem setCell_tape (w : World) (a : Addr) (v : Value) : (w.setCell a v).tape = w.tape := by unfold World.setCell; repeat (first | rfl | split)
theorem setCell_output (w : World) (a : Addr) (v : Value) : (w.setCell a v).output = w.output := by unfold World.setCell; repeat (first | rfl | split)
theorem Frm.set (w : World) (g j : Nat) (v : Value) : Frm w (w.setCell ⟨g, j, none⟩ v) [g] :=
  ⟨setCell_os w _ v, setCell_tape w _ v, setCell_output w _ v, by simp, fun i _ hn => heap_setCell_other w ⟨g, j, none⟩ i v (fun e => hn (by simp; exact e))⟩
theorem Frm.alloc (w : World) (o : Obj) (S : List Nat) : Frm w (w.alloc o) S := Frm.ofBelow ((Below.refl _ _).alloc (Nat.le_refl _) _) S

set_option maxHeartbeats 1600000 in
theorem slow_any (g : Nat) (w : World) (hl : Loc w g vs0 63) :
    Calls Try.prog 79 #[.pointer (some ⟨g, 0, none⟩), .func (.func 74) #[.pointer (some ⟨g, 0, none⟩)] #[]] w fun e w' => e = .returned (.tuple #[]) ∧ ∃ m, w.heap.size ≤ m ∧ Loc w' g (vs1 m) 63 ∧ w'.heap[m]? = some voidMap ∧ Frm w w' [g] := by
  have h1 : w.cell? ⟨g, 1, none⟩ = some (.int .i32 0) := hl.cell 1
  have f1 := hl.frozen 1
  have l1 : Loc (w.setCell ⟨g, 1, none⟩ (.int .i32 1)) g #[.int .u32 0, .int .i32 1, .int .u32 0, .map none] 63 := hl.set 1 (.int .i32 1)
  have F1 := Frm.set w g 1 (.int .i32 1)
  have hnot : ∀ (x : Bool) (w : World), (Op.unary .not (.bool x)).run Try.prog w = .ok (.bool (!x)) w := fun _ _ => rfl
  go_enter_defers Try.func79, Try.ntmps79
  go_wp2_with (go_at_call 82; refine (lock_free ⟨g, 1, none⟩ _ (by go_simp) (by go_simp)).mono ?_; rintro e w' ⟨rfl, rfl⟩)
  generalize w.setCell ⟨g, 1, none⟩ (.int .i32 1) = w1 at *
  refine (load_any ⟨g, 0, none⟩ 0 w1 (l1.cell 0) false (by simp)).mono ?_
  rintro e w1 ⟨rfl, rfl⟩
  go_wp2_with fail
  refine (fill_any g w1 _ l1 _ (l1.cell 3)).mono ?_
  rintro e w2 ⟨rfl, hw2⟩
  have l2 : Loc w2 g #[.int .u32 0, .int .i32 1, .int .u32 0, .map (some w1.heap.size)] 63 := by rw [hw2]; exact (l1.set 3 (.map (some w1.heap.size))).alloc _
  have m2 : w2.heap[w1.heap.size]? = some voidMap := by rw [hw2]; have := heap_alloc_new (w1.setCell ⟨g, 3, none⟩ (.map (some w1.heap.size))) voidMap; rwa [show (w1.setCell ⟨g, 3, none⟩ (.map (some w1.heap.size))).heap.size = w1.heap.size by simp] at this
  have F2 : Frm w1 w2 [g] := by rw [hw2]; exact (Frm.set w1 g 3 _).trans (Frm.alloc _ _ _)
  have hne : w1.heap.size ≠ g := by have := l1.lt; omega
  have F12 := F1.trans F2
  have hmm := F1.size
  clear hw2
  generalize w1.heap.size = m at *
  go_wp2_with fail
  refine leaves_cons (f := 84) (args := #[.pointer (some ⟨g, 0, none⟩), .bool true]) (by simp) (by simp [go_sem]) ?_
  refine (store_deferred ⟨g, 0, none⟩ (.int .u32 0) .returning _ (l2.cell 0) (l2.frozen 0)).mono ?_
  rintro e u' w3 ⟨rfl, rfl, hw3⟩
  have ld : Loc w2.drew g #[.int .u32 0, .int .i32 1, .int .u32 0, .map (some m)] 63 := l2.frm (Frm.drew w2 []) (by simp)
  have l3 : Loc w3 g #[.int .u32 1, .int .i32 1, .int .u32 0, .map (some m)] 63 := by rw [hw3]; exact ld.set 0 (.int .u32 1)
  have F3 : Frm w2 w3 [g] := by rw [hw3]; exact (Frm.drew w2 _).trans (Frm.set _ g 0 _)
  clear hw3
  refine leaves_cons (f := 83) (args := #[.pointer (some ⟨g, 1, none⟩)]) (by simp [settle]) (by simp [go_sem]) ?_
  refine (unlock_deferred ⟨g, 1, none⟩ _ _ (l3.cell 1) (l3.frozen 1)).mono ?_
  rintro e u' w4 ⟨rfl, rfl, hw4⟩
  have l4 : Loc w4 g (vs1 m) 63 := by rw [hw4]; exact l3.set 1 (.int .i32 0)
  have F4 : Frm w3 w4 [g] := by rw [hw4]; exact Frm.set _ g 1 _
  have hm : m < w2.heap.size := by
    by_cases h : m < w2.heap.size
    · exact h
    · rw [Array.getElem?_eq_none (by omega)] at m2; cases m2
  have F34 := F3.trans F4
  have m4 : w4.heap[m]? = some voidMap := (F34.block m hm (by simpa using hne)).trans m2
  simp [Leaves, settle, results, Try.results79]
  exact ⟨m, hmm, l4, m4, F12.trans F34⟩
end Go.Proofs.Yteioihjgjbjmjaa

/- sync.Once.Do over the set of void names, and the set asked: has. -/
namespace Go.Proofs.Yteioihjgjbjmjaa
open Go.RowKit
set_option linter.unusedVariables false
set_option maxRecDepth 100000

/-- The set lies in block g, made or not yet. -/
def VMade (B : Nat) (w : World) (g : Nat) : Prop := ∃ m, B ≤ m ∧ Loc w g (vs1 m) 63 ∧ w.heap[m]? = some voidMap
def VSet (B : Nat) (w : World) (g : Nat) : Prop := Loc w g vs0 63 ∨ VMade B w g

theorem do_any (B g : Nat) (w : World) (h : VSet B w g) (hB : B ≤ w.heap.size) :
    Calls Try.prog 73 #[.pointer (some ⟨g, 0, none⟩), .func (.func 74) #[.pointer (some ⟨g, 0, none⟩)] #[]] w fun e w' => e = .returned (.tuple #[]) ∧ VMade B w' g ∧ Frm w w' [g] := by
  have hnot : ∀ (x : Bool) (w : World), (Op.unary .not (.bool x)).run Try.prog w = .ok (.bool (!x)) w := fun _ _ => rfl
  rcases h with hl | ⟨m, hbm, hl, hm⟩
  · have h0 : w.cell? ⟨g, 0, none⟩ = some (.int .u32 0) := hl.cell 0
    go_enter Try.func73, Try.ntmps73
    go_wp2_with fail
    refine (load_any ⟨g, 0, none⟩ 0 w h0 false (by simp)).mono ?_
    rintro e w ⟨rfl, rfl⟩
    go_wp2_with fail
    refine (slow_any g w hl).mono ?_
    rintro e w' ⟨rfl, m, hbm, l', m', F'⟩
    go_wp2_with fail
    go_end0
    exact ⟨rfl, ⟨m, Nat.le_trans hB hbm, l', m'⟩, F'⟩
  · have h0 : w.cell? ⟨g, 0, none⟩ = some (.int .u32 1) := hl.cell 0
    go_enter Try.func73, Try.ntmps73
    go_wp2_with fail
    refine (load_any ⟨g, 0, none⟩ 1 w h0 true (by simp)).mono ?_
    rintro e w ⟨rfl, rfl⟩
    go_wp2_with fail
    go_end0
    exact ⟨rfl, ⟨m, hbm, hl, hm⟩, Frm.refl _ _⟩

def voidS (s : ByteArray) : Bool := s == ⟨#[98, 114]⟩ || s == ⟨#[104, 114]⟩
theorem look_void (w : World) (m : Nat) (s : ByteArray) (hm : w.heap[m]? = some voidMap) :
    (Instr.lookup 61 (.map (some m)) (.string s) true).run Try.prog w = .ok (.tuple #[.agg #[], .bool (voidS s)]) w := by
  have hc : (Instr.checkKey false 10000 9 (.string s)).run Try.prog w = .ok () w := MapKept.run_checkKey (k := .string s) Try.underlying9 (by simp [MapKept.IsKey]) false 9999
  have hz : (zeroValue 49).run Try.prog w = .ok (.agg #[]) w := by kernel_rfl
  have hb : w.heap[m]? = some (.map #[{ key := .string ⟨#[98, 114]⟩, val := .agg #[], born := 0 }, { key := .string ⟨#[104, 114]⟩, val := .agg #[], born := 1 }] 2) := hm
  by_cases h1 : (s == ⟨#[98, 114]⟩) = true
  · have hf : Instr.findNow .string (.string s) ([{ key := .string ⟨#[98, 114]⟩, val := .agg #[], born := 0 }, { key := .string ⟨#[104, 114]⟩, val := .agg #[], born := 1 }] : List MapEntry) 0 = some (some (0, .agg #[])) := by simp [Instr.findNow, Instr.sameNow, h1]
    simp [Instr.lookup, run_underlying Try.underlying61, MapKept.run_getObj_map hb, hc, MapKept.run_findKey Try.underlying9 hf, Result.andThen, voidS, h1]
  · have h1' : (s == ⟨#[98, 114]⟩) = false := by simpa using h1
    by_cases h2 : (s == ⟨#[104, 114]⟩) = true
    · have hf : Instr.findNow .string (.string s) ([{ key := .string ⟨#[98, 114]⟩, val := .agg #[], born := 0 }, { key := .string ⟨#[104, 114]⟩, val := .agg #[], born := 1 }] : List MapEntry) 0 = some (some (1, .agg #[])) := by simp [Instr.findNow, Instr.sameNow, h1', h2]
      simp [Instr.lookup, run_underlying Try.underlying61, MapKept.run_getObj_map hb, hc, MapKept.run_findKey Try.underlying9 hf, Result.andThen, voidS, h1', h2]
    · have h2' : (s == ⟨#[104, 114]⟩) = false := by simpa using h2
      have hf : Instr.findNow .string (.string s) ([{ key := .string ⟨#[98, 114]⟩, val := .agg #[], born := 0 }, { key := .string ⟨#[104, 114]⟩, val := .agg #[], born := 1 }] : List MapEntry) 0 = some none := by simp [Instr.findNow, Instr.sameNow, h1', h2']
      simp [Instr.lookup, run_underlying Try.underlying61, MapKept.run_getObj_map hb, hc, MapKept.run_findKey Try.underlying9 hf, hz, Result.andThen, voidS, h1', h2']

theorem str_mk (l : List Int) (b : ByteArray) (h : b.data.toList = l.map (fun n => UInt8.ofNat n.toNat)) : str l = b :=
  ByteArray.ext (Array.ext' (by rw [str_list, h]))
open Classical in
theorem voidS_str (l : List Int) (hl : okB l) : voidS (str l) = decide (Void l) := by
  have e1 : (⟨#[98, 114]⟩ : ByteArray) = str [98, 114] := (str_mk _ _ rfl).symm
  have e2 : (⟨#[104, 114]⟩ : ByteArray) = str [104, 114] := (str_mk _ _ rfl).symm
  have hb : ∀ k, okB k → (str l == str k) = decide (l = k) := fun k hk => by
    by_cases h : l = k
    · subst h; rw [(MapKept.bytes_beq _ _).2 rfl]; simp
    · rw [decide_eq_false h, ← Bool.not_eq_true, MapKept.bytes_beq]
      intro e
      exact h (str_inj hl hk (by rw [e]))
  unfold voidS
  rw [e1, e2, hb _ okB_br, hb _ okB_hr]
  unfold Void
  rw [Bool.eq_iff_iff]
  simp

theorem hasmap_drew {w : World} {m : Nat} (h : w.heap[m]? = some voidMap) : w.drew.heap[m]? = some voidMap := h

open Classical in
set_option maxHeartbeats 1600000 in
theorem has_any (B g : Nat) (w : World) (v : Value) (l : List Int) (h : VSet B w g) (hBB : B ≤ w.heap.size) (hv : ∀ w', Frm w w' [g] → Byt w' v l) :
    Calls Try.prog 56 #[.pointer (some ⟨g, 0, none⟩), v] w fun e w' => e = .returned (.bool (decide (Void l))) ∧ VMade B w' g ∧ Frm w w' [g] := by
  have hmf : ∀ (fn : Fn) (first cap : Array Value) (w : World), (Instr.makeFunc fn first cap).run Try.prog w = .ok (.func fn first cap) w := fun _ _ _ _ => rfl
  have hg : g < w.heap.size := by
    rcases h with h | ⟨m, _, h, _⟩
    · exact h.lt
    · exact h.lt
  obtain ⟨a1, k1, rfl, _⟩ := (hv w (Frm.refl _ _)).shape
  have HV := hide hv
  clear hv
  go_enter Try.func56, Try.ntmps56
  go_wp2_with fail
  refine (do_any B g w h hBB).mono ?_
  rintro e w1 ⟨rfl, ⟨m, hbm, l1, m1⟩, F1⟩
  have h3 : w1.cell? ⟨g, 3, none⟩ = some (.map (some m)) := l1.cell 3
  have h3d : w1.drew.cell? ⟨g, 3, none⟩ = some (.map (some m)) := l1.cell 3
  have h3a : (w1.alloc (.cells #[] 49)).cell? ⟨g, 3, none⟩ = some (.map (some m)) := (l1.alloc _).cell 3
  have hlt : m < w1.heap.size := by
    by_cases h : m < w1.heap.size
    · exact h
    · rw [Array.getElem?_eq_none (by omega)] at m1; cases m1
  have hb1 : Byt w1 _ l := unhide HV w1 F1
  have c1 := conv_any w1.drew _ l (hb1.keep ((Below.refl _ _).drew))
  have c2 := conv_any (w1.alloc (.cells #[] 49)).drew _ l (hb1.keep (((Below.refl _ _).alloc (Nat.le_refl _) _).drew))
  have q1 := fun s => look_void w1.drew m s m1
  have q2 := fun s => look_void (w1.alloc (.cells #[] 49)).drew m s ((heap_alloc_old w1 _ hlt).trans m1)
  have HS := hide (voidS_str l hb1.1)
  generalize str l = s at *
  generalize l.length = n at *
  go_wp2_with fail
  go_region
  all_goals
    go_wp2_with fail
    go_ret
    exact ⟨by rw [← unhide HS]; rfl, ⟨m, hbm, (l1.alloc _).all ((Below.refl _ _).drew), (heap_alloc_old w1 _ hlt).trans m1⟩, F1.trans ((Frm.alloc w1 _ _).trans (Frm.drew _ _))⟩
end Go.Proofs.Yteioihjgjbjmjaa

/- spec.l2node and spec.NodeOk answer what the plain test says. -/
namespace Go.Proofs.Yteioihjgjbjmjaa
open Go.RowKit
set_option linter.unusedVariables false

/-- The test of one, of all members, each with what the one before left. -/
def okK {α : Type} (f : α → Int → Bool × Int) : List α → Int → Bool × Int
  | [], left => (true, left)
  | x :: r, left => if (f x left).1 = true then okK f r (f x left).2 else (false, (f x left).2)

/-- The tests as truth values. -/
def allB (f : Nat → Int → Bool) (l : List Int) : Bool := (List.range l.length).all fun i => f i (l.getD i 0)
theorem allB_iff {f : Nat → Int → Bool} {p : Nat → Int → Prop} (h : ∀ i x, f i x = true ↔ p i x) (l : List Int) : allB f l = true ↔ allTo p l l.length := by
  unfold allB allTo
  rw [List.all_eq_true]
  constructor
  · intro k i hi; exact (h _ _).1 (k i (List.mem_range.2 hi))
  · intro k i hi; exact (h _ _).2 (k i (List.mem_range.1 hi))
def nameB (l : List Int) : Bool := decide (1 ≤ l.length) && decide (l.length ≤ 8) && allB (fun i x => decide (97 ≤ x ∧ x ≤ 122) || decide (0 < i ∧ 48 ≤ x ∧ x ≤ 57)) l
theorem nameB_iff (l : List Int) : nameB l = true ↔ NameOk l := by
  unfold nameB NameOk
  rw [Bool.and_eq_true, Bool.and_eq_true, decide_eq_true_eq, decide_eq_true_eq, allB_iff (p := nameCh) (fun i x => by unfold nameCh; rw [Bool.or_eq_true, decide_eq_true_eq, decide_eq_true_eq]), and_assoc]
def textB (l : List Int) : Bool := decide (l.length ≤ 30) && allB (fun _ x => decide (32 ≤ x ∧ x ≤ 126)) l
theorem textB_iff (l : List Int) : textB l = true ↔ TextOk l := by
  unfold textB TextOk
  rw [Bool.and_eq_true, decide_eq_true_eq, allB_iff (p := textCh) (fun i x => by unfold textCh; rw [decide_eq_true_eq])]
def voidB (l : List Int) : Bool := decide (l = [98, 114]) || decide (l = [104, 114])
theorem voidB_iff (l : List Int) : voidB l = true ↔ Void l := by unfold voidB Void; rw [Bool.or_eq_true, decide_eq_true_eq, decide_eq_true_eq]
def attrB (l : List (List Int × List Int)) (i : Nat) : Bool := nameB (l.getD i ([], [])).1 && textB (l.getD i ([], [])).2 && (decide (i = 0) || lessB (l.getD (i - 1) ([], [])).1 (l.getD i ([], [])).1)
theorem attrB_iff (l : List (List Int × List Int)) (i : Nat) : attrB l i = true ↔ attrAt l i := by
  unfold attrB attrAt
  rw [Bool.and_eq_true, Bool.and_eq_true, nameB_iff, textB_iff, Bool.or_eq_true, decide_eq_true_eq, and_assoc]
  constructor
  · rintro ⟨h1, h2, h3⟩
    exact ⟨h1, h2, fun h => h3.resolve_left (by omega)⟩
  · rintro ⟨h1, h2, h3⟩
    refine ⟨h1, h2, ?_⟩
    by_cases h : i = 0
    · exact .inl h
    · exact .inr (h3 (by omega))
def attrsB (l : List (List Int × List Int)) : Bool := decide (l.length ≤ 4) && (List.range l.length).all (attrB l)
theorem attrsB_iff (l : List (List Int × List Int)) : attrsB l = true ↔ AttrsOk l := by
  unfold attrsB AttrsOk
  rw [Bool.and_eq_true, decide_eq_true_eq, List.all_eq_true]
  constructor
  · rintro ⟨h1, h2⟩; exact ⟨h1, fun i hi => (attrB_iff l i).1 (h2 i (List.mem_range.2 hi))⟩
  · rintro ⟨h1, h2⟩; exact ⟨h1, fun i hi => (attrB_iff l i).2 (h2 i (List.mem_range.1 hi))⟩

/-- A text alone. -/
def LeafOk {α : Type} (t : Nd α) : Prop := t.name.length = 0 ∧ t.attrs.length = 0 ∧ t.kids.length = 0 ∧ TextOk t.text
def leafB {α : Type} (t : Nd α) : Bool := decide (t.name.length = 0) && decide (t.attrs.length = 0) && decide (t.kids.length = 0) && textB t.text
theorem leafB_iff {α : Type} (t : Nd α) : leafB t = true ↔ LeafOk t := by
  unfold leafB LeafOk
  rw [Bool.and_eq_true, Bool.and_eq_true, Bool.and_eq_true, textB_iff, decide_eq_true_eq, decide_eq_true_eq, decide_eq_true_eq, and_assoc, and_assoc]
/-- An element, its kids aside. -/
def ElemOk {α : Type} (t : Nd α) : Prop := t.kind = 0 ∧ NameOk t.name ∧ t.text.length = 0 ∧ AttrsOk t.attrs ∧ ¬ (Void t.name ∧ 0 < t.kids.length)
def elemB {α : Type} (t : Nd α) : Bool := decide (t.kind = 0) && nameB t.name && decide (t.text.length = 0) && attrsB t.attrs && !(voidB t.name && decide (0 < t.kids.length))
theorem elemB_iff {α : Type} (t : Nd α) : elemB t = true ↔ ElemOk t := by
  unfold elemB ElemOk
  rw [Bool.and_eq_true, Bool.and_eq_true, Bool.and_eq_true, Bool.and_eq_true, nameB_iff, attrsB_iff, decide_eq_true_eq, decide_eq_true_eq, Bool.not_eq_true', ← Bool.not_eq_true, Bool.and_eq_true, voidB_iff, decide_eq_true_eq, and_assoc, and_assoc, and_assoc]

/-- May the tree be, 'deep' deep, where 'left' nodes are left? And how many are left then. -/
def okT : (n : Nat) → Int → Tr n → Int → Bool × Int
  | 0 => fun _ t _ => t.elim
  | n + 1 => fun deep t left => if left - 1 < 0 ∨ 20 < deep then (false, left - 1) else if t.kind = 1 then (leafB t, left - 1) else if elemB t = true then okK (okT n (deep + 1)) t.kids (left - 1) else (false, left - 1)

theorem okT_succ (n : Nat) (deep : Int) (t : Tr (n + 1)) (left : Int) : okT (n + 1) deep t left = if left - 1 < 0 ∨ 20 < deep then (false, left - 1) else if t.kind = 1 then (leafB t, left - 1) else if elemB t = true then okK (okT n (deep + 1)) t.kids (left - 1) else (false, left - 1) := rfl
theorem okK_drop {α : Type} {f : α → Int → Bool × Int} {l : List α} {k : Nat} {left : Int} (h : k < l.length) : okK f (l.drop k) left = if (f l[k] left).1 = true then okK f (l.drop (k + 1)) (f l[k] left).2 else (false, (f l[k] left).2) := by
  rw [List.drop_eq_getElem_cons h]; rfl
theorem okK_bound {α : Type} {f : α → Int → Bool × Int} (hf : ∀ x left, 0 ≤ left → -1 ≤ (f x left).2 ∧ (f x left).2 ≤ left ∧ ((f x left).1 = true → 0 ≤ (f x left).2)) (l : List α) (left : Int) (h0 : 0 ≤ left) : -1 ≤ (okK f l left).2 ∧ (okK f l left).2 ≤ left ∧ ((okK f l left).1 = true → 0 ≤ (okK f l left).2) := by
  induction l generalizing left with
  | nil => exact ⟨by simp [okK]; omega, by simp [okK], fun _ => by simpa [okK] using h0⟩
  | cons x r ih =>
    have h := hf x left h0
    rw [okK]
    by_cases hb : (f x left).1 = true
    · rw [if_pos hb]
      have := ih (f x left).2 (h.2.2 hb)
      exact ⟨this.1, by omega, this.2.2⟩
    · rw [if_neg hb]
      exact ⟨h.1, h.2.1, fun e => by cases e⟩
theorem okT_bound (n : Nat) (deep : Int) (t : Tr n) (left : Int) (h0 : 0 ≤ left) : -1 ≤ (okT n deep t left).2 ∧ (okT n deep t left).2 ≤ left ∧ ((okT n deep t left).1 = true → 0 ≤ (okT n deep t left).2) := by
  induction n generalizing deep left with
  | zero => exact t.elim
  | succ n ih =>
    unfold okT
    by_cases h1 : left - 1 < 0 ∨ 20 < deep
    · rw [if_pos h1]; exact ⟨by simp; omega, by simp; omega, fun e => by cases e⟩
    · rw [if_neg h1]
      by_cases h2 : t.kind = 1
      · rw [if_pos h2]; exact ⟨by simp; omega, by simp; omega, fun _ => by simp; omega⟩
      · rw [if_neg h2]
        by_cases h3 : elemB t = true
        · rw [if_pos h3]
          have := okK_bound (f := okT n (deep + 1)) (fun x l hl => ih (deep + 1) x l hl) t.kids (left - 1) (by omega)
          exact ⟨this.1, by omega, this.2.2⟩
        · rw [if_neg h3]; exact ⟨by simp; omega, by simp; omega, fun e => by cases e⟩

theorem voidS_yes (w : World) (v : Value) (l : List Int) (h : Byt w v l) (hn : Void l) : Calls Try.prog 50 #[v] w fun e w' => e = .returned (.bool true) ∧ w' = w := by
  refine (voidS_any w v l h).mono ?_
  rintro e w' ⟨rfl, h⟩
  exact ⟨by simp [hn], h⟩
theorem voidS_no (w : World) (v : Value) (l : List Int) (h : Byt w v l) (hn : ¬ Void l) : Calls Try.prog 50 #[v] w fun e w' => e = .returned (.bool false) ∧ w' = w := by
  refine (voidS_any w v l h).mono ?_
  rintro e w' ⟨rfl, h⟩
  exact ⟨by simp [hn], h⟩
theorem attrsS_yes (w : World) (v : Value) (l : List (List Int × List Int)) (h : RdAttrs w v l) (hn : AttrsOk l) : Calls Try.prog 49 #[v] w fun e w' => e = .returned (.bool true) ∧ Below w.heap.size w w' := by
  refine (attrsS_any w v l h).mono ?_
  rintro e w' ⟨rfl, h⟩
  exact ⟨by simp [hn], h⟩
theorem attrsS_no (w : World) (v : Value) (l : List (List Int × List Int)) (h : RdAttrs w v l) (hn : ¬ AttrsOk l) : Calls Try.prog 49 #[v] w fun e w' => e = .returned (.bool false) ∧ Below w.heap.size w w' := by
  refine (attrsS_any w v l h).mono ?_
  rintro e w' ⟨rfl, h⟩
  exact ⟨by simp [hn], h⟩

/-- What l2node does to a node of depth below n. -/
def L2nodeSaid (n : Nat) : Prop := ∀ (w0 w : World) (a b c d e : Value) (t : Tr n) (deep left : Int) (g : Nat), RdNode n w0 [a, b, c, d, e] t → Below w0.heap.size w0 w → w0.heap.size ≤ g → Loc w g #[.int .i64 left] 3 → 0 ≤ left → left ≤ 1000000 → 0 ≤ deep → deep ≤ 1000 →
    Calls Try.prog 26 #[.agg #[a, b, c, d, e], .int .i64 deep, .pointer (some ⟨g, 0, none⟩)] w fun e w' => e = .returned (.bool (okT n deep t left).1) ∧ Loc w' g #[.int .i64 (okT n deep t left).2] 3 ∧ Frm w w' [g]

/-- The world behind the first statement: one less left, the node in a block of its own. -/
theorem l2start (w : World) (g : Nat) (left x : Int) (A : Array Value) (T : TypeId) (h : Loc w g #[.int .i64 left] 3) : Loc ((w.setCell ⟨g, 0, none⟩ (.int .i64 x)).alloc (.cells A T)) g #[.int .i64 x] 3 ∧ Loc ((w.setCell ⟨g, 0, none⟩ (.int .i64 x)).alloc (.cells A T)) w.heap.size A T ∧ Frm w ((w.setCell ⟨g, 0, none⟩ (.int .i64 x)).alloc (.cells A T)) [g] := by
  refine ⟨(h.set 0 _).alloc _, ?_, (set_frm _ _ _ _).trans (Frm.ofBelow ((Below.refl _ _).alloc (Nat.le_refl _) _) [g])⟩
  have := Loc.made (w.setCell ⟨g, 0, none⟩ (.int .i64 x)) A T
  simpa using this

set_option maxHeartbeats 3200000 in
theorem l2node_succ (n : Nat) (H : L2nodeSaid n) : L2nodeSaid (n + 1) := by
  intro w0 w a b c d e t deep left g hr hB hg hl h0 h1 hd0 hd1
  have hr' := hr
  obtain ⟨_, _, _, _, e0, k1, k2, hb, hc, hd, he⟩ := hr
  simp only [List.cons.injEq, and_true] at e0
  obtain ⟨rfl, rfl, rfl, rfl, rfl⟩ := e0
  obtain ⟨ab, cb, rfl, _, _⟩ := hb.shape
  obtain ⟨ac, cc, rfl, _, _⟩ := hc.shape
  obtain ⟨ad, cd, rfl, _, _⟩ := Elems.shape hd
  obtain ⟨ae, ce, rfl, _, _⟩ := Elems.shape he
  obtain ⟨lg, lb, hf⟩ := l2start w g left (left - 1) #[.int .i64 t.kind, .slice ab t.name.length cb, .slice ac t.text.length cc, .slice ad t.attrs.length cd, .slice ae t.kids.length ce] 32 hl
  have hgl := hl.lt
  have hgc := hl.cell 0
  have hgf := hl.frozen 0
  simp at hgc
  have hne : w.heap.size ≠ g := by omega
  by_cases hA : left - 1 < 0
  · have HE := hide (show okT (n + 1) deep t left = (false, left - 1) by unfold okT; rw [if_pos (.inl hA)])
    have HP := hide (And.intro lg hf)
    clear lg lb hf hl
    go_enter Try.func26, Try.ntmps26
    go_wp2_with fail
    go_ret
    exact ⟨by rw [unhide HE]; rfl, by rw [unhide HE]; exact (unhide HP).1, (unhide HP).2⟩
  have hA' : decide (left - 1 < 0) = false := by simpa using hA
  by_cases hD : 20 < deep
  · have HE := hide (show okT (n + 1) deep t left = (false, left - 1) by unfold okT; rw [if_pos (.inr hD)])
    have HP := hide (And.intro lg hf)
    clear lg lb hf hl
    go_enter Try.func26, Try.ntmps26
    go_wp2_with fail
    go_ret
    exact ⟨by rw [unhide HE]; rfl, by rw [unhide HE]; exact (unhide HP).1, (unhide HP).2⟩
  have hD' : ¬ 20 < deep := hD
  have hBW := hB.trans (hf.below hB.size (fun q hq => by simp at hq; omega))
  by_cases hK : t.kind = 1
  · have hEq : okT (n + 1) deep t left = (leafB t, left - 1) := by unfold okT; rw [if_neg (by omega), if_pos hK]
    have dk : (t.kind == 1) = true := by simp [hK]
    have HP := hide (And.intro lg hf)
    have HBW := hide hBW
    clear lg lb hf hl hBW
    by_cases q1 : t.name.length = 0
    · have d1 : ((t.name.length : Int) == 0) = true := beq_iff_eq.2 (by omega)
      by_cases q2 : t.attrs.length = 0
      · have d2 : ((t.attrs.length : Int) == 0) = true := beq_iff_eq.2 (by omega)
        by_cases q3 : t.kids.length = 0
        · have d3 : ((t.kids.length : Int) == 0) = true := beq_iff_eq.2 (by omega)
          by_cases q4 : TextOk t.text
          · have HE := hide (hEq.trans (by rw [(leafB_iff t).2 ⟨q1, q2, q3, q4⟩] : (leafB t, left - 1) = (true, left - 1)))
            have HQ := hide q4
            clear hEq q1 q2 q3 q4 hK
            go_enter Try.func26, Try.ntmps26
            go_wp2_with fail
            refine (textS_yes _ _ t.text (hc.keep (unhide HBW)) (unhide HQ)).mono ?_
            rintro e w1 ⟨rfl, rfl⟩
            go_wp2_with fail
            go_ret
            exact ⟨by rw [unhide HE]; rfl, by rw [unhide HE]; exact (unhide HP).1, (unhide HP).2⟩
          · have HE := hide (hEq.trans (by rw [Bool.eq_false_iff.2 (fun h => q4 ((leafB_iff t).1 h).2.2.2)] : (leafB t, left - 1) = (false, left - 1)))
            have HQ := hide q4
            clear hEq q1 q2 q3 q4 hK
            go_enter Try.func26, Try.ntmps26
            go_wp2_with fail
            refine (textS_no _ _ t.text (hc.keep (unhide HBW)) (unhide HQ)).mono ?_
            rintro e w1 ⟨rfl, rfl⟩
            go_wp2_with fail
            go_ret
            exact ⟨by rw [unhide HE]; rfl, by rw [unhide HE]; exact (unhide HP).1, (unhide HP).2⟩
        · have d3 : ((t.kids.length : Int) == 0) = false := beq_eq_false_iff_ne.2 (by omega)
          have HE := hide (hEq.trans (by rw [Bool.eq_false_iff.2 (fun h => q3 ((leafB_iff t).1 h).2.2.1)] : (leafB t, left - 1) = (false, left - 1)))
          clear hEq q1 q2 q3 hK
          go_enter Try.func26, Try.ntmps26
          go_wp2_with fail
          go_ret
          exact ⟨by rw [unhide HE]; rfl, by rw [unhide HE]; exact (unhide HP).1, (unhide HP).2⟩
      · have d2 : ((t.attrs.length : Int) == 0) = false := beq_eq_false_iff_ne.2 (by omega)
        have HE := hide (hEq.trans (by rw [Bool.eq_false_iff.2 (fun h => q2 ((leafB_iff t).1 h).2.1)] : (leafB t, left - 1) = (false, left - 1)))
        clear hEq q1 q2 hK
        go_enter Try.func26, Try.ntmps26
        go_wp2_with fail
        go_ret
        exact ⟨by rw [unhide HE]; rfl, by rw [unhide HE]; exact (unhide HP).1, (unhide HP).2⟩
    · have d1 : ((t.name.length : Int) == 0) = false := beq_eq_false_iff_ne.2 (by omega)
      have HE := hide (hEq.trans (by rw [Bool.eq_false_iff.2 (fun h => q1 ((leafB_iff t).1 h).1)] : (leafB t, left - 1) = (false, left - 1)))
      clear hEq q1 hK
      go_enter Try.func26, Try.ntmps26
      go_wp2_with fail
      go_ret
      exact ⟨by rw [unhide HE]; rfl, by rw [unhide HE]; exact (unhide HP).1, (unhide HP).2⟩
  have dk : (t.kind == 1) = false := by simpa using hK
  have hbad : ¬ ElemOk t → okT (n + 1) deep t left = (false, left - 1) := fun h => by unfold okT; rw [if_neg (by omega), if_neg hK, if_neg (fun e => h ((elemB_iff t).1 e))]
  have hgood : ElemOk t → okT (n + 1) deep t left = okK (okT n (deep + 1)) t.kids (left - 1) := fun h => by rw [okT_succ, if_neg (by omega), if_neg hK, if_pos ((elemB_iff t).2 h)]
  have HP := hide (And.intro lg (And.intro lb hf))
  have HBW := hide hBW
  clear lg lb hf hl hBW hK
  by_cases z0 : t.kind = 0
  · have dz : (t.kind != 0) = false := by simp [z0]
    by_cases z1 : NameOk t.name
    · by_cases z2 : t.text.length = 0
      · by_cases z3 : AttrsOk t.attrs
        · have H1 := hide z1
          have H3 := hide z3
          by_cases z4 : Void t.name
          · have H4 := hide z4
            by_cases z5 : 0 < t.kids.length
            · have HE := hide (hbad (fun h => h.2.2.2.2 ⟨z4, z5⟩))
              clear hbad hgood z0 z1 z3 z4 hc hr' he
              generalize t.text.length = nT at *
              generalize t.kids.length = nK at *
              subst z2
              have hkd : decide (0 < nK) = true := by simp; omega
              go_enter Try.func26, Try.ntmps26
              go_wp2_with fail
              refine (nameS_yes _ _ t.name (hb.keep (unhide HBW)) (unhide H1)).mono ?_
              rintro e w1 ⟨rfl, rfl⟩
              go_wp2_with fail
              refine (attrsS_yes _ _ t.attrs (hd.keep (unhide HBW)) (unhide H3)).mono ?_
              rintro e w1 ⟨rfl, hB1⟩
              have lb := (unhide HP).2.1.all hB1
              have u1 := lb.cell 1
              have u4 := lb.cell 4
              simp at u1 u4
              have hBW1 := (unhide HBW).trans (hB1.mono (unhide HBW).size)
              have HQ := hide (And.intro ((unhide HP).1.all hB1) ((unhide HP).2.2.trans (Frm.ofBelow hB1 [g])))
              clear lb hB1
              go_wp2_with fail
              refine (voidS_yes _ _ t.name (hb.keep hBW1) (unhide H4)).mono ?_
              rintro e w2 ⟨rfl, rfl⟩
              go_wp2_with fail
              go_ret
              exact ⟨by rw [unhide HE]; rfl, by rw [unhide HE]; exact (unhide HQ).1, (unhide HQ).2⟩
            · have HE := hide (hgood ⟨z0, z1, z2, z3, fun h => z5 h.2⟩)
              have hk0 : t.kids.length = 0 := by omega
              have hke : t.kids = [] := List.eq_nil_of_length_eq_zero hk0
              have HK := hide (show okK (okT n (deep + 1)) t.kids (left - 1) = (true, left - 1) by rw [hke]; rfl)
              clear he z5 hke
              generalize t.kids.length = nK at *
              subst hk0
              clear hbad hgood z0 z1 z3 z4 hc hr'
              generalize t.text.length = nT at *
              subst z2
              go_enter Try.func26, Try.ntmps26
              go_wp2_with fail
              refine (nameS_yes _ _ t.name (hb.keep (unhide HBW)) (unhide H1)).mono ?_
              rintro e w1 ⟨rfl, rfl⟩
              go_wp2_with fail
              refine (attrsS_yes _ _ t.attrs (hd.keep (unhide HBW)) (unhide H3)).mono ?_
              rintro e w1 ⟨rfl, hB1⟩
              have lb := (unhide HP).2.1.all hB1
              have u1 := lb.cell 1
              have u4 := lb.cell 4
              simp at u1 u4
              have hBW1 := (unhide HBW).trans (hB1.mono (unhide HBW).size)
              have HQ := hide (And.intro ((unhide HP).1.all hB1) (And.intro lb ((unhide HP).2.2.trans (Frm.ofBelow hB1 [g]))))
              clear lb hB1
              go_wp2_with fail
              refine (voidS_yes _ _ t.name (hb.keep hBW1) (unhide H4)).mono ?_
              rintro e w2 ⟨rfl, rfl⟩
              go_wp2_with fail
              refine wp_loop_rounds 1 ?_
              rw [rounds_succ]
              go_wp2_with fail
              go_ret
              exact ⟨by rw [unhide HE, unhide HK]; rfl, by rw [unhide HE, unhide HK]; exact (unhide HQ).1, (unhide HQ).2.2⟩
          · have H4 := hide z4
            have HE := hide (hgood ⟨z0, z1, z2, z3, fun h => z4 h.1⟩)
            clear hbad hgood z0 z1 z3 z4 hc hr'
            generalize t.text.length = nT at *
            subst z2
            go_enter Try.func26, Try.ntmps26
            go_wp2_with fail
            refine (nameS_yes _ _ t.name (hb.keep (unhide HBW)) (unhide H1)).mono ?_
            rintro e w1 ⟨rfl, rfl⟩
            go_wp2_with fail
            refine (attrsS_yes _ _ t.attrs (hd.keep (unhide HBW)) (unhide H3)).mono ?_
            rintro e w1 ⟨rfl, hB1⟩
            have lb := (unhide HP).2.1.all hB1
            have u1 := lb.cell 1
            have u4 := lb.cell 4
            simp at u1 u4
            have hBW1 := (unhide HBW).trans (hB1.mono (unhide HBW).size)
            have HQ := hide (And.intro ((unhide HP).1.all hB1) (And.intro lb ((unhide HP).2.2.trans (Frm.ofBelow hB1 [g]))))
            clear lb hB1
            go_wp2_with fail
            refine (voidS_no _ _ t.name (hb.keep hBW1) (unhide H4)).mono ?_
            rintro e w2 ⟨rfl, rfl⟩
            go_wp2_with fail
            go_loopw [7] (fun i wr => ∃ (k : Nat) (lk : Int), k ≤ t.kids.length ∧ i = .int .i64 k ∧ 0 ≤ lk ∧ lk ≤ 1000000 ∧ Loc wr g #[.int .i64 lk] 3 ∧ Loc wr w.heap.size #[.int .i64 t.kind, .slice ab t.name.length cb, .slice ac 0 cc, .slice ad t.attrs.length cd, .slice ae t.kids.length ce] 32 ∧ Frm w wr [g] ∧ Hid (okK (okT n (deep + 1)) t.kids (left - 1) = okK (okT n (deep + 1)) (t.kids.drop k) lk)) (fun i _ => t.kids.length - (intOf i).toNat)
            case atStart => exact ⟨0, left - 1, Nat.zero_le _, rfl, by omega, by omega, (unhide HQ).1, (unhide HQ).2.1, (unhide HQ).2.2, hide rfl⟩
            case round =>
              obtain ⟨k, lk, hk, rfl, hl0, hl1, rg, rb, rf, HK⟩ := hrel
              have v4 := rb.cell 4
              simp at v4
              have hmk := Elems.shape he
              have hBr : Below w0.heap.size w0 wr := hB.trans (rf.below hB.size (fun q hq => by simp at hq; omega))
              by_cases hlt : k < t.kids.length
              · have hkm := he.1
                obtain ⟨_, ⟨_, e⟩ | ⟨_, _, _, _, e⟩ | ⟨b, off, cap, e, g1, g2, g3, g4, g5⟩⟩ := he
                · rw [e] at hlt; simp at hlt
                · rw [e] at hlt; simp at hlt
                simp only [Value.slice.injEq, true_and] at e
                obtain ⟨rfl, rfl⟩ := e
                obtain ⟨c0, c1, c2, c3, c4, e0, e1, e2, e3, e4, hx⟩ := five_of (g5 k hlt)
                replace e0 := (hBr.cell (p := ⟨b, off + k * 5, none⟩) g4).trans e0
                replace e1 := (hBr.cell (p := ⟨b, off + k * 5 + 1, none⟩) g4).trans e1
                replace e2 := (hBr.cell (p := ⟨b, off + k * 5 + 2, none⟩) g4).trans e2
                replace e3 := (hBr.cell (p := ⟨b, off + k * 5 + 3, none⟩) g4).trans e3
                replace e4 := (hBr.cell (p := ⟨b, off + k * 5 + 4, none⟩) g4).trans e4
                have hlt' : (k : Int) < (t.kids.length : Int) := by omega
                have hob := okT_bound n (deep + 1) t.kids[k] lk hl0
                have hkd := okK_drop (f := okT n (deep + 1)) (left := lk) hlt
                have HR := hide (And.intro rg (And.intro rb rf))
                have HKD := hide hkd
                have HOB := hide hob
                unfold maxLen at hkm
                clear g5 rg rb rf hkd hob HQ u1 u4
                go_wp2_with fail
                refine (H w0 wr c0 c1 c2 c3 c4 t.kids[k] (deep + 1) lk g hx hBr hg (unhide HR).1 hl0 hl1 (by omega) (by omega)).mono ?_
                rintro e w3 ⟨rfl, hg3, hf3⟩
                have rb3 := (unhide HR).2.1.frm hf3 (by simp; omega)
                have rf3 := (unhide HR).2.2.trans hf3
                have HR3 := hide (And.intro hg3 (And.intro rb3 rf3))
                clear hg3 hf3 rb3 rf3 e0 e1 e2 e3 e4 hx v4 HR
                generalize okT n (deep + 1) t.kids[k] lk = res at *
                obtain ⟨rb, rl⟩ := res
                cases rb with
                | true =>
                  have q1 : 0 ≤ rl := (unhide HOB).2.2 rfl
                  have q2 : rl ≤ lk := (unhide HOB).2.1
                  have HF := hide ((unhide HK).trans ((unhide HKD).trans (if_pos rfl)))
                  clear HOB HKD HK
                  go_wp2_with fail
                  go_roundw
                  case rel => exact ⟨k + 1, rl, by omega, by go_num, q1, by omega, (unhide HR3).1, (unhide HR3).2.1, (unhide HR3).2.2, HF⟩
                  case measure => simp [intOf]; omega
                | false =>
                  have HF := hide ((unhide HK).trans ((unhide HKD).trans (if_neg (by simp))))
                  go_wp2_with fail
                  go_ret
                  exact ⟨by rw [unhide HE, unhide HF]; rfl, by rw [unhide HE, unhide HF]; exact (unhide HR3).1, (unhide HR3).2.2⟩
              · have HF := hide ((unhide HK).trans (show okK (okT n (deep + 1)) (t.kids.drop k) lk = (true, lk) by rw [List.drop_of_length_le (by omega)]; rfl))
                have hlt' : ¬ (k : Int) < (t.kids.length : Int) := by omega
                have HR := hide (And.intro rg (And.intro rb rf))
                clear rg rb rf he HQ u1 u4 HK
                go_wp2_with fail
                go_ret
                exact ⟨by rw [unhide HE, unhide HF]; rfl, by rw [unhide HE, unhide HF]; exact (unhide HR).1, (unhide HR).2.2⟩
        · have HE := hide (hbad (fun h => z3 h.2.2.2.1))
          have H1 := hide z1
          have H3 := hide z3
          clear hbad hgood z0 z1 z3 hc hr'
          generalize t.text.length = nT at *
          subst z2
          go_enter Try.func26, Try.ntmps26
          go_wp2_with fail
          refine (nameS_yes _ _ t.name (hb.keep (unhide HBW)) (unhide H1)).mono ?_
          rintro e w1 ⟨rfl, rfl⟩
          go_wp2_with fail
          refine (attrsS_no _ _ t.attrs (hd.keep (unhide HBW)) (unhide H3)).mono ?_
          rintro e w1 ⟨rfl, hB1⟩
          go_wp2_with fail
          go_ret
          exact ⟨by rw [unhide HE]; rfl, by rw [unhide HE]; exact (unhide HP).1.all hB1, (unhide HP).2.2.trans (Frm.ofBelow hB1 [g])⟩
      · have HE := hide (hbad (fun h => z2 h.2.2.1))
        have H1 := hide z1
        clear hbad hgood z0 z1 hc hr'
        generalize t.text.length = nT at *
        have hkp : 0 < nT := by omega
        have hkd : decide (0 < nT) = true := by simp; omega
        clear z2
        go_enter Try.func26, Try.ntmps26
        go_wp2_with fail
        refine (nameS_yes _ _ t.name (hb.keep (unhide HBW)) (unhide H1)).mono ?_
        rintro e w1 ⟨rfl, rfl⟩
        go_wp2_with fail
        go_ret
        exact ⟨by rw [unhide HE]; rfl, by rw [unhide HE]; exact (unhide HP).1, (unhide HP).2.2⟩
    · have HE := hide (hbad (fun h => z1 h.2.1))
      have H1 := hide z1
      clear hbad hgood z0 z1
      go_enter Try.func26, Try.ntmps26
      go_wp2_with fail
      refine (nameS_no _ _ t.name (hb.keep (unhide HBW)) (unhide H1)).mono ?_
      rintro e w1 ⟨rfl, rfl⟩
      go_wp2_with fail
      go_ret
      exact ⟨by rw [unhide HE]; rfl, by rw [unhide HE]; exact (unhide HP).1, (unhide HP).2.2⟩
  · have dz : (t.kind != 0) = true := by simp [z0]
    have HE := hide (hbad (fun h => z0 h.1))
    clear hbad hgood z0
    go_enter Try.func26, Try.ntmps26
    go_wp2_with fail
    go_ret
    exact ⟨by rw [unhide HE]; rfl, by rw [unhide HE]; exact (unhide HP).1, (unhide HP).2.2⟩

theorem l2node_any (n : Nat) : L2nodeSaid n := by
  induction n with
  | zero => exact fun _ _ _ _ _ _ _ t => t.elim
  | succ n ih => exact l2node_succ n ih

/-- May the tree be. -/
def okN (n : Nat) (t : Tr (n + 1)) : Bool := decide (t.kind = 0) && (okT (n + 1) 1 t 120).1

set_option maxHeartbeats 1600000 in
/-- spec.NodeOk. -/
theorem nodeS_any (n : Nat) (w : World) (a b c d e : Value) (t : Tr (n + 1)) (h : RdNode (n + 1) w [a, b, c, d, e] t) :
    Calls Try.prog 8 #[.agg #[a, b, c, d, e]] w fun e w' => e = .returned (.bool (okN n t)) ∧ Below w.heap.size w w' := by
  have h' := h
  obtain ⟨_, _, _, _, e0, k1, k2, hb, hc, hd, he⟩ := h
  simp only [List.cons.injEq, and_true] at e0
  obtain ⟨rfl, rfl, rfl, rfl, rfl⟩ := e0
  obtain ⟨ab, cb, rfl, _, _⟩ := hb.shape
  obtain ⟨ac, cc, rfl, _, _⟩ := hc.shape
  obtain ⟨ad, cd, rfl, _, _⟩ := Elems.shape hd
  obtain ⟨ae, ce, rfl, _, _⟩ := Elems.shape he
  have hA : Below w.heap.size w ((w.alloc (.cells #[.int .i64 t.kind, .slice ab t.name.length cb, .slice ac t.text.length cc, .slice ad t.attrs.length cd, .slice ae t.kids.length ce] 32)).alloc (.cells #[.int .i64 120] 3)) := ((Below.refl _ _).alloc (Nat.le_refl _) _).alloc (by simp) _
  have lg := Loc.made (w.alloc (.cells #[.int .i64 t.kind, .slice ab t.name.length cb, .slice ac t.text.length cc, .slice ad t.attrs.length cd, .slice ae t.kids.length ce] 32)) #[.int .i64 120] 3
  simp only [World.size_alloc] at lg
  by_cases hk : t.kind = 0
  · have dk : (t.kind == 0) = true := by simp [hk]
    have HE := hide (show okN n t = (okT (n + 1) 1 t 120).1 by unfold okN; simp [hk])
    have HP := hide (And.intro hA lg)
    clear hA lg hk
    go_enter Try.func8, Try.ntmps8
    go_wp2_with fail
    refine (l2node_any (n + 1) w _ _ _ _ _ _ t 1 120 (w.heap.size + 1) h' (unhide HP).1 (by omega) (unhide HP).2 (by omega) (by omega) (by omega) (by omega)).mono ?_
    rintro e w1 ⟨rfl, hg1, hf1⟩
    have HB := hide ((unhide HP).1.trans (hf1.below (unhide HP).1.size (fun q hq => by simp at hq; omega)))
    clear hg1 hf1
    go_wp2_with fail
    go_ret
    exact ⟨by rw [unhide HE]; rfl, unhide HB⟩
  · have dk : (t.kind == 0) = false := by simpa using hk
    have HE := hide (show okN n t = false by unfold okN; simp [hk])
    have HP := hide hA
    clear hA lg hk
    go_enter Try.func8, Try.ntmps8
    go_wp2_with fail
    go_ret
    exact ⟨by rw [unhide HE]; rfl, unhide HP⟩

end Go.Proofs.Yteioihjgjbjmjaa

/- Small tools: locals made one behind the other, an element at a place, the five cells of a node's local. -/
namespace Go.Proofs.Yteioihjgjbjmjaa
open Go.RowKit
set_option linter.unusedVariables false
set_option maxRecDepth 100000

/-- Two locals of their own, made one behind the other. -/
theorem two (w : World) (A Z : Array Value) (TA T : TypeId) : Loc ((w.alloc (.cells A TA)).alloc (.cells Z T)) w.heap.size A TA ∧ Loc ((w.alloc (.cells A TA)).alloc (.cells Z T)) (w.heap.size + 1) Z T ∧ Below w.heap.size w ((w.alloc (.cells A TA)).alloc (.cells Z T)) := by
  refine ⟨(Loc.made w A TA).alloc _, ?_, ((Below.refl _ _).alloc (Nat.le_refl _) _).alloc (by simp) _⟩
  have := Loc.made (w.alloc (.cells A TA)) Z T
  simp only [World.size_alloc] at this
  exact this

/-- The element at a place, where there is one. -/
theorem Elems.at {α : Type} {w : World} {size m : Nat} {a : Option Addr} {cap k : Nat} {l : List α} {R : List Value → α → Prop} (h : Elems w size (.slice a m cap) l R) (hk : k < l.length) :
    ∃ b off, a = some ⟨b, off, none⟩ ∧ b < w.heap.size ∧ m = l.length ∧ m ≤ cap ∧ ∃ C : List Value, C.length = size ∧ (∀ j, j < size → w.cell? ⟨b, off + k * size + j, none⟩ = C[j]?) ∧ R C l[k] := by
  obtain ⟨_, ⟨_, e⟩ | ⟨_, _, _, _, e⟩ | ⟨b, off, c, e, g1, g2, g3, g4, g5⟩⟩ := h
  · subst e; simp at hk
  · subst e; simp at hk
  · injection e with e1 e2 e3
    subst e1 e2 e3
    exact ⟨b, off, rfl, g4, rfl, g1, g5 k hk⟩

/-- The five cells of a local of its own. -/
theorem Loc.five {w : World} {g : Nat} {a b c d e : Value} {T : TypeId} (h : Loc w g #[a, b, c, d, e] T) :
    w.cell? ⟨g, 0, none⟩ = some a ∧ w.cell? ⟨g, 1, none⟩ = some b ∧ w.cell? ⟨g, 2, none⟩ = some c ∧ w.cell? ⟨g, 3, none⟩ = some d ∧ w.cell? ⟨g, 4, none⟩ = some e :=
  ⟨h.cell 0, h.cell 1, h.cell 2, h.cell 3, h.cell 4⟩

end Go.Proofs.Yteioihjgjbjmjaa

/- impl.partOk answers what the plain test of one node says. -/
namespace Go.Proofs.Yteioihjgjbjmjaa
open Go.RowKit
set_option linter.unusedVariables false
set_option maxRecDepth 100000

/-- May the node be, its kids aside? -/
def partB {α : Type} (t : Nd α) : Bool := if t.kind = 1 then leafB t else elemB t
theorem partB_leaf {α : Type} {t : Nd α} (h : t.kind = 1) : partB t = leafB t := by rw [partB, if_pos h]
theorem partB_elem {α : Type} {t : Nd α} (h : t.kind ≠ 1) : partB t = elemB t := by rw [partB, if_neg h]
theorem elemB_no {α : Type} {t : Nd α} (h : ¬ ElemOk t) : elemB t = false := by rw [← Bool.not_eq_true, elemB_iff]; exact h
theorem leafB_no {α : Type} {t : Nd α} (h : ¬ LeafOk t) : leafB t = false := by rw [← Bool.not_eq_true, leafB_iff]; exact h

theorem VMade.keep {B : Nat} {w w' : World} {g : Nat} (h : VMade B w g) (hb : Below w.heap.size w w') : VMade B w' g := by
  obtain ⟨m, hbm, hl, hm⟩ := h
  have hlt : m < w.heap.size := by
    by_cases h : m < w.heap.size
    · exact h
    · rw [Array.getElem?_eq_none (by omega)] at hm; cases hm
  exact ⟨m, hbm, hl.all hb, (hb.block m hlt).trans hm⟩
theorem VSet.keep {B : Nat} {w w' : World} {g : Nat} (h : VSet B w g) (hb : Below w.heap.size w w') : VSet B w' g := by
  rcases h with h | h
  · exact .inl (h.all hb)
  · exact .inr (h.keep hb)
theorem VSet.lt {B : Nat} {w : World} {g : Nat} (h : VSet B w g) : g < w.heap.size := by
  rcases h with h | ⟨m, _, h, _⟩
  · exact h.lt
  · exact h.lt

open Classical in
set_option maxHeartbeats 3200000 in
theorem partI_elem (B n : Nat) (w0 w : World) (a b c d e : Value) (t : Tr (n + 1)) (g : Nat) (h : RdNode (n + 1) w0 [a, b, c, d, e] t) (hB : Below w0.heap.size w0 w) (hg : w0.heap.size ≤ g) (hV : VSet B w g) (hBB : B ≤ w.heap.size) (hz : t.kind = 0) :
    Calls Try.prog 31 #[.agg #[a, b, c, d, e], .pointer (some ⟨g, 0, none⟩)] w fun e w' => e = .returned (.bool (partB t)) ∧ VSet B w' g ∧ Frm w w' [g] := by
  obtain ⟨_, _, _, _, e0, k1, k2, hb, hc, hd, he⟩ := h
  simp only [List.cons.injEq, and_true] at e0
  obtain ⟨rfl, rfl, rfl, rfl, rfl⟩ := e0
  have HP := hide (show partB t = elemB t from partB_elem (by rw [hz]; decide))
  obtain ⟨ab, cb, rfl, _, _⟩ := hb.shape
  obtain ⟨ac, cc, rfl, _, _⟩ := hc.shape
  obtain ⟨ad, cd, rfl, _, _⟩ := Elems.shape hd
  obtain ⟨ae, ce, rfl, _, _⟩ := Elems.shape he
  have hB1 : Below w.heap.size w (w.alloc (.cells #[.int .i64 t.kind, .slice ab t.name.length cb, .slice ac t.text.length cc, .slice ad t.attrs.length cd, .slice ae t.kids.length ce] 32)) := (Below.refl _ _).alloc (Nat.le_refl _) _
  have l1 := Loc.made w #[.int .i64 t.kind, .slice ab t.name.length cb, .slice ac t.text.length cc, .slice ad t.attrs.length cd, .slice ae t.kids.length ce] 32
  have HX : Hid ((t.text.length ≠ 0 → elemB t = false) ∧ (¬ NameOk t.name → elemB t = false) ∧ (¬ AttrsOk t.attrs → elemB t = false) ∧ (NameOk t.name → t.text.length = 0 → AttrsOk t.attrs → t.kids.length = 0 → elemB t = true) ∧ (NameOk t.name → t.text.length = 0 → AttrsOk t.attrs → t.kids.length ≠ 0 → elemB t = !decide (Void t.name))) := by
    refine ⟨fun h => elemB_no (fun k => h k.2.2.1), fun h => elemB_no (fun k => h k.2.1), fun h => elemB_no (fun k => h k.2.2.2.1), fun h1 h2 h3 h4 => (elemB_iff t).2 ⟨hz, h1, h2, h3, fun k => by omega⟩, fun h1 h2 h3 h4 => ?_⟩
    by_cases hv : Void t.name
    · rw [elemB_no (fun k => k.2.2.2.2 ⟨hv, by omega⟩)]; simp [hv]
    · rw [(elemB_iff t).2 ⟨hz, h1, h2, h3, fun k => hv k.1⟩]; simp [hv]
  rw [hz] at *
  have ha : Below w0.heap.size w0 (w.alloc (.cells #[.int .i64 0, .slice ab t.name.length cb, .slice ac t.text.length cc, .slice ad t.attrs.length cd, .slice ae t.kids.length ce] 32)) := hB.trans (hB1.mono hB.size)
  have hV1 := hV.keep hB1
  have F1 := Frm.ofBelow hB1 [g]
  clear hB1 k1 k2 hB
  go_enter Try.func31, Try.ntmps31
  go_wp2_with fail
  generalize (w.alloc (.cells #[.int .i64 0, .slice ab t.name.length cb, .slice ac t.text.length cc, .slice ad t.attrs.length cd, .slice ae t.kids.length ce] 32)) = w1 at *
  have hBB1 := Nat.le_trans hBB F1.size
  generalize hS : w.heap.size = S at *
  clear hS
  generalize t.name.length = nb at *
  generalize t.text.length = nc at *
  generalize t.attrs.length = nd at *
  generalize t.kids.length = ne at *
  have hbb := hb.keep ha
  have hdd := hd.keep ha
  refine (nameI_any w1 _ t.name hbb).mono ?_
  rintro e w1 ⟨rfl, rfl⟩
  obtain ⟨x0, x1, x2, x3, x4⟩ := l1.five
  by_cases hn : NameOk t.name
  · rw [show decide (NameOk t.name) = true by simpa using hn]
    by_cases htx : nc = 0
    · have dtx : ((nc : Int) == 0) = true := by simpa using htx
      go_wp2_with fail
      refine (attrsI_any w1 _ t.attrs hdd).mono ?_
      rintro e w2 ⟨rfl, hB2⟩
      have hV2 := hV1.keep hB2
      have F2 := F1.trans (Frm.ofBelow hB2 [g])
      have ha2 := ha.trans (hB2.mono ha.size)
      have l2 := l1.all hB2
      clear x0 x1 x2 x3 x4
      obtain ⟨x0, x1, x2, x3, x4⟩ := l2.five
      by_cases hat : AttrsOk t.attrs
      · rw [show decide (AttrsOk t.attrs) = true by simpa using hat]
        by_cases hk : ne = 0
        · have dk : ((ne : Int) == 0) = true := by simpa using hk
          have HE := hide ((unhide HX).2.2.2.1 hn htx hat hk)
          clear hn htx hat hk HX
          go_wp2_with fail
          go_ret
          exact ⟨by rw [unhide HP, unhide HE]; rfl, hV2, F2⟩
        · have dk : ((ne : Int) == 0) = false := by simpa using hk
          have HE := hide ((unhide HX).2.2.2.2 hn htx hat hk)
          clear hn htx hat hk HX
          go_wp2_with fail
          refine (has_any B g w2 _ t.name hV2 (Nat.le_trans hBB1 hB2.size) (fun w' f => hb.keep (ha2.trans (f.below ha2.size (fun q hq => by simp at hq; omega))))).mono ?_
          rintro e w3 ⟨rfl, hV3, F3⟩
          generalize decide (Void t.name) = vb at *
          go_wp2_with fail
          go_ret
          exact ⟨by rw [unhide HP, unhide HE]; rfl, .inr hV3, F2.trans F3⟩
      · rw [show decide (AttrsOk t.attrs) = false by simpa using hat]
        have HE := hide ((unhide HX).2.2.1 hat)
        clear hn htx hat HX
        go_wp2_with fail
        go_ret
        exact ⟨by rw [unhide HP, unhide HE]; rfl, hV2, F2⟩
    · have dtx : ((nc : Int) == 0) = false := by simpa using htx
      have HE := hide ((unhide HX).1 htx)
      clear hn htx HX
      go_wp2_with fail
      go_ret
      exact ⟨by rw [unhide HP, unhide HE]; rfl, hV1, F1⟩
  · rw [show decide (NameOk t.name) = false by simpa using hn]
    have HE := hide ((unhide HX).2.1 hn)
    clear hn HX
    go_wp2_with fail
    go_ret
    exact ⟨by rw [unhide HP, unhide HE]; rfl, hV1, F1⟩

open Classical in
set_option maxHeartbeats 3200000 in
theorem partI_leaf (B n : Nat) (w0 w : World) (a b c d e : Value) (t : Tr (n + 1)) (g : Nat) (h : RdNode (n + 1) w0 [a, b, c, d, e] t) (hB : Below w0.heap.size w0 w) (hg : w0.heap.size ≤ g) (hV : VSet B w g) (hBB : B ≤ w.heap.size) (hz : t.kind = 1) :
    Calls Try.prog 31 #[.agg #[a, b, c, d, e], .pointer (some ⟨g, 0, none⟩)] w fun e w' => e = .returned (.bool (partB t)) ∧ VSet B w' g ∧ Frm w w' [g] := by
  obtain ⟨_, _, _, _, e0, k1, k2, hb, hc, hd, he⟩ := h
  simp only [List.cons.injEq, and_true] at e0
  obtain ⟨rfl, rfl, rfl, rfl, rfl⟩ := e0
  have HP := hide (show partB t = leafB t from partB_leaf hz)
  obtain ⟨ab, cb, rfl, _, _⟩ := hb.shape
  obtain ⟨ac, cc, rfl, _, _⟩ := hc.shape
  obtain ⟨ad, cd, rfl, _, _⟩ := Elems.shape hd
  obtain ⟨ae, ce, rfl, _, _⟩ := Elems.shape he
  have hB1 : Below w.heap.size w (w.alloc (.cells #[.int .i64 t.kind, .slice ab t.name.length cb, .slice ac t.text.length cc, .slice ad t.attrs.length cd, .slice ae t.kids.length ce] 32)) := (Below.refl _ _).alloc (Nat.le_refl _) _
  have l1 := Loc.made w #[.int .i64 t.kind, .slice ab t.name.length cb, .slice ac t.text.length cc, .slice ad t.attrs.length cd, .slice ae t.kids.length ce] 32
  have HX : Hid ((t.name.length ≠ 0 → leafB t = false) ∧ (¬ TextOk t.text → leafB t = false) ∧ (t.attrs.length ≠ 0 → leafB t = false) ∧ (t.kids.length ≠ 0 → leafB t = false) ∧ (t.name.length = 0 → TextOk t.text → t.attrs.length = 0 → t.kids.length = 0 → leafB t = true)) := by
    exact ⟨fun h => leafB_no (fun k => h k.1), fun h => leafB_no (fun k => h k.2.2.2), fun h => leafB_no (fun k => h k.2.1), fun h => leafB_no (fun k => h k.2.2.1), fun h1 h2 h3 h4 => (leafB_iff t).2 ⟨h1, h3, h4, h2⟩⟩
  rw [hz] at *
  have ha : Below w0.heap.size w0 (w.alloc (.cells #[.int .i64 1, .slice ab t.name.length cb, .slice ac t.text.length cc, .slice ad t.attrs.length cd, .slice ae t.kids.length ce] 32)) := hB.trans (hB1.mono hB.size)
  have hV1 := hV.keep hB1
  have F1 := Frm.ofBelow hB1 [g]
  clear hB1 k1 k2 hB
  go_enter Try.func31, Try.ntmps31
  by_cases hnn : t.name.length = 0
  · have dn : ((t.name.length : Int) == 0) = true := by simpa using hnn
    have HN := hide hnn
    clear hnn
    go_wp2_with fail
    generalize (w.alloc (.cells #[.int .i64 1, .slice ab t.name.length cb, .slice ac t.text.length cc, .slice ad t.attrs.length cd, .slice ae t.kids.length ce] 32)) = w1 at *
    generalize hS : w.heap.size = S at *
    clear hS
    generalize t.name.length = nb at *
    generalize t.text.length = nc at *
    generalize t.attrs.length = nd at *
    generalize t.kids.length = ne at *
    refine (textI_any w1 _ t.text (hc.keep ha)).mono ?_
    rintro e w1 ⟨rfl, rfl⟩
    obtain ⟨x0, x1, x2, x3, x4⟩ := l1.five
    by_cases ht : TextOk t.text
    · rw [show decide (TextOk t.text) = true by simpa using ht]
      by_cases hat : nd = 0
      · have dat : ((nd : Int) == 0) = true := by simpa using hat
        by_cases hk : ne = 0
        · have dk : ((ne : Int) == 0) = true := by simpa using hk
          have HE := hide ((unhide HX).2.2.2.2 (unhide HN) ht hat hk)
          clear ht hat hk HX HN
          go_wp2_with fail
          go_ret
          exact ⟨by rw [unhide HP, unhide HE]; rfl, hV1, F1⟩
        · have dk : ((ne : Int) == 0) = false := by simpa using hk
          have HE := hide ((unhide HX).2.2.2.1 hk)
          clear ht hat hk HX HN
          go_wp2_with fail
          go_ret
          exact ⟨by rw [unhide HP, unhide HE]; rfl, hV1, F1⟩
      · have dat : ((nd : Int) == 0) = false := by simpa using hat
        have HE := hide ((unhide HX).2.2.1 hat)
        clear ht hat HX HN
        go_wp2_with fail
        go_ret
        exact ⟨by rw [unhide HP, unhide HE]; rfl, hV1, F1⟩
    · rw [show decide (TextOk t.text) = false by simpa using ht]
      have HE := hide ((unhide HX).2.1 ht)
      clear ht HX HN
      go_wp2_with fail
      go_ret
      exact ⟨by rw [unhide HP, unhide HE]; rfl, hV1, F1⟩
  · have dn : ((t.name.length : Int) == 0) = false := by simpa using hnn
    have HE := hide ((unhide HX).1 hnn)
    clear hnn HX
    go_wp2_with fail
    go_ret
    exact ⟨by rw [unhide HP, unhide HE]; rfl, hV1, F1⟩

set_option maxHeartbeats 3200000 in
theorem partI_none (B n : Nat) (w0 w : World) (a b c d e : Value) (t : Tr (n + 1)) (g : Nat) (h : RdNode (n + 1) w0 [a, b, c, d, e] t) (hV : VSet B w g) (hBB : B ≤ w.heap.size) (hz : t.kind ≠ 0) (hz1 : t.kind ≠ 1) :
    Calls Try.prog 31 #[.agg #[a, b, c, d, e], .pointer (some ⟨g, 0, none⟩)] w fun e w' => e = .returned (.bool (partB t)) ∧ VSet B w' g ∧ Frm w w' [g] := by
  obtain ⟨_, _, _, _, e0, k1, k2, hb, hc, hd, he⟩ := h
  simp only [List.cons.injEq, and_true] at e0
  obtain ⟨rfl, rfl, rfl, rfl, rfl⟩ := e0
  have HP := hide (show partB t = false by rw [partB_elem hz1]; exact elemB_no (fun k => hz k.1))
  obtain ⟨ab, cb, rfl, _, _⟩ := hb.shape
  obtain ⟨ac, cc, rfl, _, _⟩ := hc.shape
  obtain ⟨ad, cd, rfl, _, _⟩ := Elems.shape hd
  obtain ⟨ae, ce, rfl, _, _⟩ := Elems.shape he
  have hB1 : Below w.heap.size w (w.alloc (.cells #[.int .i64 t.kind, .slice ab t.name.length cb, .slice ac t.text.length cc, .slice ad t.attrs.length cd, .slice ae t.kids.length ce] 32)) := (Below.refl _ _).alloc (Nat.le_refl _) _
  have hV1 := hV.keep hB1
  have F1 := Frm.ofBelow hB1 [g]
  have d0 : (t.kind == 0) = false := by simpa using hz
  have d1 : (t.kind == 1) = false := by simpa using hz1
  clear hB1 k1 k2 hz hz1 hb hc hd he
  generalize t.kind = z at *
  go_enter Try.func31, Try.ntmps31
  go_wp2_with fail
  go_ret
  exact ⟨by rw [unhide HP]; rfl, hV1, F1⟩

theorem partI_any (B n : Nat) (w0 w : World) (a b c d e : Value) (t : Tr (n + 1)) (g : Nat) (h : RdNode (n + 1) w0 [a, b, c, d, e] t) (hB : Below w0.heap.size w0 w) (hg : w0.heap.size ≤ g) (hV : VSet B w g) (hBB : B ≤ w.heap.size) :
    Calls Try.prog 31 #[.agg #[a, b, c, d, e], .pointer (some ⟨g, 0, none⟩)] w fun e w' => e = .returned (.bool (partB t)) ∧ VSet B w' g ∧ Frm w w' [g] := by
  by_cases hz : t.kind = 0
  · exact partI_elem B n w0 w a b c d e t g h hB hg hV hBB hz
  · by_cases hz1 : t.kind = 1
    · exact partI_leaf B n w0 w a b c d e t g h hB hg hV hBB hz1
    · exact partI_none B n w0 w a b c d e t g h hV hBB hz hz1
end Go.Proofs.Yteioihjgjbjmjaa

/- An argument of a law that can be read as data is bytes, attributes, a tree: what the data's readings open to. No condition. -/
namespace Go.Proofs.Yteioihjgjbjmjaa
open Go.RowKit Go.ChangeShapes
set_option linter.unusedVariables false
set_option maxRecDepth 100000

variable {H : Type} {enc : TypeId × Value → H} {W : World} {held : Bool}

theorem open_bytes {fuel : Nat} {cs : List Value} {x : DataW H × List MemPlace} (h : DataW.trod enc Try.prog W 0 (fun _ => true) held fuel 22 cs = some x) :
    ∃ v l, cs = [v] ∧ Byt W v l := by
  rcases open_ints Try.underlying22 Try.underlying5 (by kernel_rfl) h with ⟨hcs, _⟩ | ⟨a, len, cap, zs, hcs, _, hl, hm, hz, _, hcell, hwz⟩
  · exact ⟨_, _, hcs, byt_of_row (zs := []) (.inl ⟨rfl, rfl, rfl, rfl⟩)⟩
  · exact ⟨_, _, hcs, byt_of_row (.inr ⟨_, rfl, hl, hm, by simpa using hz, hcell, hwz⟩)⟩

theorem list_of {α : Type} {Q : Nat → α → Prop} : ∀ n : Nat, (∀ i, i < n → ∃ a, Q i a) → ∃ l : List α, l.length = n ∧ ∀ i (hi : i < l.length), Q i l[i]
  | 0, _ => ⟨[], rfl, fun i hi => by cases hi⟩
  | n + 1, h => by
    obtain ⟨l, hl, hq⟩ := list_of n (fun i hi => h i (by omega))
    obtain ⟨a, ha⟩ := h n (by omega)
    refine ⟨l ++ [a], by simp [hl], fun i hi => ?_⟩
    by_cases hi' : i < l.length
    · rw [List.getElem_append_left hi']; exact hq i hi'
    · have : i = l.length := by simp at hi; omega
      subst this
      simp only [List.getElem_append_right (Nat.le_refl _), Nat.sub_self, List.getElem_cons_zero]
      rw [hl]; exact ha

theorem open_elems {α : Type} {t e : TypeId} {sz fuel : Nat} {cs : List Value} {x : DataW H × List MemPlace} {R : List Value → α → Prop} (ht : Try.prog.underlying t = some (.slice e)) (hc : Try.prog.cellsOf e = sz) (hs : 0 < sz)
    (hR : ∀ n C y, fuel = n + 1 → DataW.trod enc Try.prog W 0 (fun _ => true) held n e C = some y → ∃ a : α, R C a)
    (h : DataW.trod enc Try.prog W 0 (fun _ => true) held fuel t cs = some x) : ∃ v l, cs = [v] ∧ Elems W sz v l R := by
  rcases DataW.trod_slice ht h with ⟨rfl, _⟩ | ⟨a, len, cap, elems, rest, n, hf, rfl, _, _, hl, hm, hlen, hel, _, _⟩
  · exact ⟨_, [], rfl, by simp [maxLen], .inl ⟨rfl, rfl⟩⟩
  rw [hc] at hel
  have hall : ∀ i, i < len → ∃ b : α, ∃ C : List Value, C.length = sz ∧ (∀ j, j < sz → W.cell? ((a.add (i * sz)).add j) = C[j]?) ∧ R C b := by
    intro i hi
    have h1 := hel i hi
    rw [List.getElem?_eq_getElem (by omega)] at h1
    obtain ⟨C, hC, hy⟩ := Option.bind_eq_some_iff.1 h1
    obtain ⟨_, hCl, hcell⟩ := World.cells?_some hC
    obtain ⟨b, hb⟩ := hR n C _ hf hy
    exact ⟨b, C, hCl, hcell, hb⟩
  obtain ⟨l, hll, hq⟩ := list_of (Q := fun i b => ∃ C : List Value, C.length = sz ∧ (∀ j, j < sz → W.cell? ((a.add (i * sz)).add j) = C[j]?) ∧ R C b) len hall
  refine ⟨_, l, rfl, by omega, ?_⟩
  by_cases h0 : len = 0
  · have hl0 : l = [] := List.eq_nil_of_length_eq_zero (by omega)
    subst h0
    exact .inr (.inl ⟨a, cap, rfl, hm, hl0⟩)
  · obtain ⟨b, off, spot⟩ := a
    obtain ⟨C, hCl, hcell, _⟩ := hq 0 (by omega)
    have hc0 := hcell 0 hs
    rw [List.getElem?_eq_getElem (by omega)] at hc0
    have hspot : spot = none := by simpa [Addr.add] using World.cell?_spot hc0
    subst hspot
    refine .inr (.inr ⟨b, off, cap, by rw [hll], by omega, hm, fun h => by subst h; simp at hll; omega, ?_, fun i hi => ?_⟩)
    · have := lt_of_cell hc0; simpa [Addr.add] using this
    · obtain ⟨C, hCl, hcell, hr⟩ := hq i hi
      refine ⟨C, hCl, fun j hj => ?_, hr⟩
      have := hcell j hj
      rw [add_plain, add_plain] at this
      exact this

theorem some_at {α : Type} {l : List α} {n i : Nat} (h : l.length = n) (hi : i < n) : ∃ y, l[i]? = some y := ⟨l[i]'(by omega), List.getElem?_eq_getElem (by omega)⟩

theorem open_attr {fuel : Nat} {cs : List Value} {x : DataW H × List MemPlace} (h : DataW.trod enc Try.prog W 0 (fun _ => true) held fuel 85 cs = some x) : ∃ a, RdAttr W cs a := by
  obtain ⟨xs, n, _, _, hlen, hxs, hf⟩ := DataW.trod_struct Try.underlying85 h
  have hlen2 : cs.length = 2 := hlen.trans (by kernel_rfl)
  match cs, hlen2 with
  | [c0, c1], _ =>
    obtain ⟨y0, e0⟩ := some_at (i := 0) hxs (by simp)
    obtain ⟨y1, e1⟩ := some_at (i := 1) hxs (by simp)
    have h0 : DataW.trod enc Try.prog W 0 (fun _ => true) held n 22 (([c0, c1].drop 0).take (Try.prog.cellsOf 22)) = some y0 := (hf 0 _ rfl).trans e0
    have h1 : DataW.trod enc Try.prog W 0 (fun _ => true) held n 22 (([c0, c1].drop 1).take (Try.prog.cellsOf 22)) = some y1 := (hf 1 _ rfl).trans e1
    have k1 : Try.prog.cellsOf 22 = 1 := by kernel_rfl
    simp only [k1, List.drop, List.take] at h0 h1
    obtain ⟨v0, l0, g0, b0⟩ := open_bytes h0
    obtain ⟨v1, l1, g1, b1⟩ := open_bytes h1
    simp at g0 g1
    subst g0; subst g1
    exact ⟨(l0, l1), _, _, rfl, b0, b1⟩

theorem open_node : ∀ (m : Nat) {fuel : Nat} {cs : List Value} {x : DataW H × List MemPlace}, fuel ≤ 2 * m → DataW.trod enc Try.prog W 0 (fun _ => true) held fuel 26 cs = some x → ∃ t, RdNode m W cs t
  | 0, fuel, cs, x, hm, h => by
    obtain rfl : fuel = 0 := by omega
    simp [DataW.trod] at h
  | m + 1, fuel, cs, x, hm, h => by
    obtain ⟨xs, n, hn, _, hlen, hxs, hf⟩ := DataW.trod_struct Try.underlying26 h
    have hlen5 : cs.length = 5 := hlen.trans (by kernel_rfl)
    match cs, hlen5 with
    | [c0, c1, c2, c3, c4], _ =>
      obtain ⟨y0, e0⟩ := some_at (i := 0) hxs (by simp)
      obtain ⟨y1, e1⟩ := some_at (i := 1) hxs (by simp)
      obtain ⟨y2, e2⟩ := some_at (i := 2) hxs (by simp)
      obtain ⟨y3, e3⟩ := some_at (i := 3) hxs (by simp)
      obtain ⟨y4, e4⟩ := some_at (i := 4) hxs (by simp)
      have h0 : DataW.trod enc Try.prog W 0 (fun _ => true) held n 3 (([c0, c1, c2, c3, c4].drop 0).take (Try.prog.cellsOf 3)) = some y0 := (hf 0 _ rfl).trans e0
      have h1 : DataW.trod enc Try.prog W 0 (fun _ => true) held n 22 (([c0, c1, c2, c3, c4].drop 1).take (Try.prog.cellsOf 22)) = some y1 := (hf 1 _ rfl).trans e1
      have h2 : DataW.trod enc Try.prog W 0 (fun _ => true) held n 22 (([c0, c1, c2, c3, c4].drop 2).take (Try.prog.cellsOf 22)) = some y2 := (hf 2 _ rfl).trans e2
      have h3 : DataW.trod enc Try.prog W 0 (fun _ => true) held n 23 (([c0, c1, c2, c3, c4].drop 3).take (Try.prog.cellsOf 23)) = some y3 := (hf 3 _ rfl).trans e3
      have h4 : DataW.trod enc Try.prog W 0 (fun _ => true) held n 24 (([c0, c1, c2, c3, c4].drop 4).take (Try.prog.cellsOf 24)) = some y4 := (hf 4 _ rfl).trans e4
      have ki : Try.prog.cellsOf 3 = 1 := by kernel_rfl
      have k1 : Try.prog.cellsOf 22 = 1 := by kernel_rfl
      have k2 : Try.prog.cellsOf 23 = 1 := by kernel_rfl
      have k3 : Try.prog.cellsOf 24 = 1 := by kernel_rfl
      simp only [ki, k1, k2, k3, List.drop, List.take] at h0 h1 h2 h3 h4
      obtain ⟨k, g0, _, hk⟩ := DataW.trod_int Try.underlying3 h0
      obtain ⟨v1, l1, g1, b1⟩ := open_bytes h1
      obtain ⟨v2, l2, g2, b2⟩ := open_bytes h2
      obtain ⟨v3, l3, g3, b3⟩ := open_elems (sz := 2) Try.underlying23 (by kernel_rfl) (by omega) (fun n C y _ hy => open_attr hy) h3
      obtain ⟨v4, l4, g4, b4⟩ := open_elems (sz := 5) Try.underlying24 (by kernel_rfl) (by omega) (fun n' C y hn' hy => open_node m (by omega) hy) h4
      simp at g0 g1 g2 g3 g4
      subst g0; subst g1; subst g2; subst g3; subst g4
      obtain ⟨q1, q2⟩ := bounds_i64 hk
      exact ⟨(⟨k, l1, l2, l3, l4⟩ : Nd (Tr m)), _, _, _, _, rfl, q1, q2, b1, b2, b3, b4⟩

/-- An argument that is a row of bytes. -/
theorem arg_bytes {r : Reach} {base : Nat} {v : Value} {d : DataW H} {p : List MemPlace} (hv : Value.okWide Try.prog W r base 22 v) (h : DataW.Trod enc Try.prog W 0 (fun _ => true) held 22 v d p) : ∃ l, Byt W v l := by
  obtain ⟨a, len, cap, rfl⟩ := WideShapes.okWide_slice Try.underlying22 hv
  obtain ⟨fuel, hf⟩ := h
  obtain ⟨u, l, hu, hb⟩ := open_bytes hf
  simp [Value.cells] at hu
  subst hu
  exact ⟨l, hb⟩

/-- An argument that is a node. -/
theorem arg_node {r : Reach} {base : Nat} {v : Value} {x : DataW H} {p : List MemPlace} (hv : Value.okWide Try.prog W r base 26 v) (h : DataW.Trod enc Try.prog W 0 (fun _ => true) held 26 v x p) :
    ∃ (a b c d e : Value) (m : Nat) (t : Tr (m + 1)), v = .agg #[a, b, c, d, e] ∧ RdNode (m + 1) W [a, b, c, d, e] t := by
  obtain ⟨cs, rfl, hsz⟩ := WideShapes.okWide_struct Try.underlying26 hv
  obtain ⟨fuel, hf⟩ := h
  have h5 : Try.prog.cellsOf 26 = 5 := by kernel_rfl
  rw [h5] at hsz
  obtain ⟨t, ht⟩ := open_node (fuel + 1) (by omega) hf
  obtain ⟨l⟩ := cs
  match l, hsz with
  | [a, b, c, d, e], _ => exact ⟨a, b, c, d, e, fuel, t, rfl, ht⟩
/-- An argument that is a node: a tree at every depth from some depth on. -/
theorem arg_nodeM {r : Reach} {base : Nat} {v : Value} {x : DataW H} {p : List MemPlace} (hv : Value.okWide Try.prog W r base 26 v) (h : DataW.Trod enc Try.prog W 0 (fun _ => true) held 26 v x p) :
    ∃ (a b c d e : Value) (M : Nat), v = .agg #[a, b, c, d, e] ∧ ∀ m, M ≤ m → ∃ t : Tr (m + 1), RdNode (m + 1) W [a, b, c, d, e] t := by
  obtain ⟨cs, rfl, hsz⟩ := WideShapes.okWide_struct Try.underlying26 hv
  obtain ⟨fuel, hf⟩ := h
  have h5 : Try.prog.cellsOf 26 = 5 := by kernel_rfl
  rw [h5] at hsz
  obtain ⟨l⟩ := cs
  match l, hsz with
  | [a, b, c, d, e], _ => exact ⟨a, b, c, d, e, fuel, rfl, fun m hm => open_node (m + 1) (by omega) hf⟩
end Go.Proofs.Yteioihjgjbjmjaa

/- The nodes of a tree in the markup's order, as they lie in memory: what impl.walk hands on. -/
namespace Go.Proofs.Yteioihjgjbjmjaa
open Go.RowKit
set_option linter.unusedVariables false
set_option maxRecDepth 100000

/-- A node as it is handed on: its depth, its five values, the tree that they read as. -/
structure It (w0 : World) where
  deep : Int
  a : Value
  b : Value
  c : Value
  d : Value
  e : Value
  m : Nat
  t : Tr (m + 1)
  rd : RdNode (m + 1) w0 [a, b, c, d, e] t
def encIt {w0 : World} (x : It w0) : Array Value := #[.int .i64 x.deep, .agg #[x.a, x.b, x.c, x.d, x.e]]

/-- xs are the nodes of the tree t, whose cells are C, in the markup's order. -/
def Pre (w0 : World) : (n : Nat) → Int → List Value → Tr n → List (It w0) → Prop
  | 0 => fun _ _ _ _ => False
  | n + 1 => fun deep C t xs => ∃ (a b c d e : Value) (rd : RdNode (n + 1) w0 [a, b, c, d, e] t) (ks : List (Tr n × List (It w0))), C = [a, b, c, d, e] ∧ xs = ⟨deep, a, b, c, d, e, n, t, rd⟩ :: (ks.map (·.2)).flatten ∧ ks.map (·.1) = t.kids ∧
      Elems w0 5 e ks (fun D k => Pre w0 n (deep + 1) D k.1 k.2)

theorem elems_pair {α β : Type} {w : World} {size : Nat} {v : Value} {l : List α} {R : List Value → α → Prop} {R' : List Value → α × β → Prop} (h : Elems w size v l R) (hR : ∀ C x, R C x → ∃ y, R' C (x, y)) :
    ∃ ks : List (α × β), ks.map (·.1) = l ∧ Elems w size v ks R' := by
  obtain ⟨hm, ⟨rfl, rfl⟩ | ⟨x, cap, rfl, hc, rfl⟩ | ⟨b, off, cap, rfl, h1, h2, h3, h4, h5⟩⟩ := h
  · exact ⟨[], rfl, hm, .inl ⟨rfl, rfl⟩⟩
  · exact ⟨[], rfl, hm, .inr (.inl ⟨x, cap, rfl, hc, rfl⟩)⟩
  · obtain ⟨ks, hl, hk⟩ := list_of (Q := fun i (k : α × β) => ∃ hi : i < l.length, k.1 = l[i] ∧ ∃ C : List Value, C.length = size ∧ (∀ j, j < size → w.cell? ⟨b, off + i * size + j, none⟩ = C[j]?) ∧ R' C k) l.length (fun i hi => by
      obtain ⟨C, hC, hc, hr⟩ := h5 i hi
      obtain ⟨y, hy⟩ := hR C _ hr
      exact ⟨(l[i], y), hi, rfl, C, hC, hc, hy⟩)
    refine ⟨ks, ?_, by omega, .inr (.inr ⟨b, off, cap, by rw [hl], by omega, h2, ?_, h4, fun i hi => ?_⟩)⟩
    · apply List.ext_getElem
      · simp [hl]
      · intro i h1' h2'
        simp only [List.getElem_map]
        exact (hk i (by simpa using h1')).2.1
    · intro e; rw [e] at hl; exact h3 (List.eq_nil_of_length_eq_zero hl.symm)
    · exact (hk i hi).2.2

theorem pre_ex (w0 : World) : ∀ (n : Nat) (deep : Int) (C : List Value) (t : Tr n), RdNode n w0 C t → ∃ xs, Pre w0 n deep C t xs
  | 0, _, _, t, _ => t.elim
  | n + 1, deep, C, t, h => by
    have h' := h
    obtain ⟨a, b, c, d, rfl, k1, k2, hb, hc, hd, he⟩ := h
    obtain ⟨ks, hks, hel⟩ := elems_pair (R' := fun D k => Pre w0 n (deep + 1) D k.1 k.2) he (fun D x hx => pre_ex w0 n (deep + 1) D x hx)
    exact ⟨_, _, _, _, _, _, h', ks, rfl, rfl, hks, hel⟩

/-- Depth and the test of each. -/
def tst {w0 : World} (x : It w0) : Int × Bool := (x.deep, partB x.t)
def pn : (n : Nat) → Int → Tr n → List (Int × Bool)
  | 0 => fun _ _ => []
  | n + 1 => fun deep t => (deep, partB t) :: (t.kids.map (pn n (deep + 1))).flatten

theorem pn_succ (n : Nat) (deep : Int) (t : Tr (n + 1)) : pn (n + 1) deep t = (deep, partB t) :: (t.kids.map (pn n (deep + 1))).flatten := rfl
theorem Elems.mem {α : Type} {w : World} {size : Nat} {v : Value} {l : List α} {R : List Value → α → Prop} (h : Elems w size v l R) : ∀ x ∈ l, ∃ C, R C x := by
  intro x hx
  obtain ⟨i, hi, rfl⟩ := List.getElem_of_mem hx
  obtain ⟨hm, ⟨rfl, rfl⟩ | ⟨_, cap, rfl, hc, rfl⟩ | ⟨b, off, cap, rfl, h1, h2, h3, h4, h5⟩⟩ := h
  · simp at hi
  · simp at hi
  · obtain ⟨C, _, _, hr⟩ := h5 i hi
    exact ⟨C, hr⟩
theorem pre_pn (w0 : World) : ∀ (n : Nat) (deep : Int) (C : List Value) (t : Tr n) (xs : List (It w0)), Pre w0 n deep C t xs → xs.map tst = pn n deep t
  | 0, _, _, t, _, _ => t.elim
  | n + 1, deep, C, t, xs, ⟨a, b, c, d, e, rd, ks, _, hxs, hks, hel⟩ => by
    subst hxs
    rw [List.map_cons, pn_succ, ← hks, List.map_flatten, List.map_map, List.map_map]
    congr 2
    apply List.map_congr_left
    intro k hk
    obtain ⟨D, hD⟩ := hel.mem k hk
    exact pre_pn w0 n (deep + 1) D k.1 k.2 hD

/-- The tests, one behind the other, where 'left' nodes are left. -/
def scan : List (Int × Bool) → Int → Bool × Int
  | [], left => (true, left)
  | x :: r, left => if left - 1 < 0 ∨ 20 < x.1 ∨ x.2 = false then (false, left - 1) else scan r (left - 1)
theorem scan_app (a b : List (Int × Bool)) (left : Int) : scan (a ++ b) left = if (scan a left).1 = true then scan b (scan a left).2 else (false, (scan a left).2) := by
  induction a generalizing left with
  | nil => simp [scan]
  | cons x r ih =>
    rw [List.cons_append, scan, scan]
    by_cases h : left - 1 < 0 ∨ 20 < x.1 ∨ x.2 = false
    · rw [if_pos h, if_pos h]; simp
    · rw [if_neg h, if_neg h, ih]
theorem scan_no {a b : List (Int × Bool)} {left : Int} (h : (scan a left).1 = false) (hp : a <+: b) : (scan b left).1 = false := by
  obtain ⟨r, rfl⟩ := hp
  rw [scan_app, h]
  simp
theorem scan_yes {a : List (Int × Bool)} {left : Int} (h : (scan a left).1 = true) : (scan a left).2 = left - a.length := by
  induction a generalizing left with
  | nil => simp [scan]
  | cons x r ih =>
    rw [scan] at h ⊢
    by_cases hc : left - 1 < 0 ∨ 20 < x.1 ∨ x.2 = false
    · rw [if_pos hc] at h; cases h
    · rw [if_neg hc] at h ⊢; rw [ih h]; simp; omega
theorem okK_scan {α : Type} {f : α → Int → Bool × Int} {p : α → List (Int × Bool)} (h : ∀ x left, f x left = scan (p x) left) : ∀ (l : List α) (left : Int), okK f l left = scan (l.map p).flatten left
  | [], left => rfl
  | x :: r, left => by
    rw [okK, List.map_cons, List.flatten_cons, scan_app, h, okK_scan h r]
theorem okT_scan : ∀ (n : Nat) (deep : Int) (t : Tr n) (left : Int), okT n deep t left = scan (pn n deep t) left
  | 0, _, t, _ => t.elim
  | n + 1, deep, t, left => by
    rw [okT_succ, pn_succ, scan]
    by_cases h1 : left - 1 < 0 ∨ 20 < deep
    · rw [if_pos h1, if_pos (by rcases h1 with h | h <;> simp [h])]
    · rw [if_neg h1]
      by_cases h2 : t.kind = 1
      · rw [if_pos h2]
        have hp : partB t = leafB t := partB_leaf h2
        by_cases h3 : leafB t = true
        · have hk : t.kids = [] := List.eq_nil_of_length_eq_zero ((leafB_iff t).1 h3).2.2.1
          rw [if_neg (by simp only [hp, h3]; simp; omega), hk, h3]; rfl
        · have h3' : leafB t = false := by simpa using h3
          rw [if_pos (by simp only [hp, h3']; simp), h3']
      · rw [if_neg h2]
        have hp : partB t = elemB t := partB_elem h2
        by_cases h3 : elemB t = true
        · rw [if_pos h3, if_neg (by simp only [hp, h3]; simp; omega)]
          exact okK_scan (okT_scan n (deep + 1)) t.kids (left - 1)
        · have h3' : elemB t = false := by simpa using h3
          rw [if_neg h3, if_pos (by simp only [hp, h3']; simp)]
end Go.Proofs.Yteioihjgjbjmjaa
