/- bytes.Compare at readable rows answers the order of the bytes; bytes.Equal whether they are one. -/
import Derived.Test.YteioihjgjbjmjaaAttrS
import Derived.Lib.BytesEntry
import Derived.Lib.Bytealg
import Derived.Laws.Externs
namespace Go.Proofs.Yteioihjgjbjmjaa
open Go.RowKit
set_option linter.unusedVariables false
set_option maxRecDepth 100000

theorem run_bytesOfB (w : World) (u : Value) (a : List Int) (h : Byt w u a) : (Extern.Bytes.bytesOf u).run Try.prog w = .ok ⟨(Lib.bytesOf a).toArray⟩ w := by
  obtain ⟨hoka, _, ⟨rfl, rfl⟩ | ⟨x, cap, rfl, hc, rfl⟩ | ⟨p, off, cap, rfl, h1, h2, h3, h4, h5⟩⟩ := h
  · rfl
  · rfl
  · have hl := Lib.run_loadBytesX (P := Try.prog) w a ⟨p, off, none⟩ .empty (fun j x hj => by
      have hjl : j < a.length := (List.getElem?_eq_some_iff.1 hj).1
      rw [add_plain, h5 j hjl, List.getD_eq_getElem?_getD, hj]; rfl)
    have he : (⟨ByteArray.empty.data ++ (Lib.bytesOf a).toArray⟩ : ByteArray) = ⟨(Lib.bytesOf a).toArray⟩ := by
      apply ByteArray.ext
      show (#[] : Array UInt8) ++ (Lib.bytesOf a).toArray = (Lib.bytesOf a).toArray
      simp
    rw [he] at hl
    exact hl

/-- The order of two rows: below 0, 0, above 0. -/
def cmpB (a b : List Int) : Int := Lib.compareBytes (Lib.bytesOf a) (Lib.bytesOf b)

theorem cmp_run (w : World) (u v : Value) (a b : List Int) (hu : Byt w u a) (hv : Byt w v b) : (callFunc 77 #[u, v]).run Try.prog w = .ok (.value (.int .i64 (cmpB a b))) w := by
  rw [run_callFunc_extern Try.func77 (by kernel_rfl) (by kernel_rfl) (by kernel_rfl) (e := Extern.BytealgCompare.compare) (by kernel_rfl)]
  have e : (Extern.BytealgCompare.compare #[u, v]).run Try.prog w = .ok (.int .i64 (cmpB a b)) w := by
    change Sem.run Try.prog (do pure (goInt (Extern.BytealgCompare.cmp (← Extern.Bytes.bytesOf u) (← Extern.Bytes.bytesOf v)))) w = _
    simp only [Sem.run_bind, Sem.run_pure, run_bytesOfB w u a hu, run_bytesOfB w v b hv, Result.andThen]
    rw [Lib.cmp_eq]
    rfl
  rw [e]
  rfl

theorem compare_less : ∀ (a b : List UInt8), Op.bytesLess a b = decide (Lib.compareBytes a b < 0)
  | [], [] => rfl
  | [], _ :: _ => rfl
  | _ :: _, [] => rfl
  | x :: a, y :: b => by
    have ih := compare_less a b
    unfold Op.bytesLess Lib.compareBytes
    by_cases h1 : x < y
    · simp [h1]
    · by_cases h2 : y < x
      · have hne : ¬ x = y := fun e => by subst e; exact h1 h2
        simp [h1, h2, hne]
      · have he : x = y := UInt8.le_antisymm (UInt8.not_lt.1 h2) (UInt8.not_lt.1 h1)
        subst he
        simp [h1, ih]
theorem lessB_cmp (a b : List Int) : lessB a b = decide (cmpB a b < 0) := by
  unfold lessB cmpB
  rw [toList_data, toList_data, str_list, str_list, compare_less]
  rfl
theorem compare_bd : ∀ (a b : List UInt8), -1 ≤ Lib.compareBytes a b ∧ Lib.compareBytes a b ≤ 1
  | [], [] => by decide
  | [], _ :: _ => by simp [Lib.compareBytes]
  | _ :: _, [] => by simp [Lib.compareBytes]
  | x :: a, y :: b => by
    have ih := compare_bd a b
    unfold Lib.compareBytes
    split
    · decide
    · split
      · decide
      · exact ih
theorem cmpB_bd (a b : List Int) : -1 ≤ cmpB a b ∧ cmpB a b ≤ 1 := compare_bd _ _

theorem cmpI_any (w : World) (u v : Value) (a b : List Int) (hu : Byt w u a) (hv : Byt w v b) :
    Calls Try.prog 72 #[u, v] w fun e w' => e = .returned (.int .i64 (cmpB a b)) ∧ w' = w := by
  have hr := cmp_run w u v a b hu hv
  obtain ⟨a1, k1, rfl, _⟩ := hu.shape
  obtain ⟨a2, k2, rfl, _⟩ := hv.shape
  generalize cmpB a b = c at *
  go_enter Try.func72, Try.ntmps72
  go_wp2
  go_ret
  exact ⟨rfl, rfl⟩
theorem equalI_any (w : World) (u v : Value) (a b : List Int) (hu : Byt w u a) (hv : Byt w v b) :
    Calls Try.prog 59 #[u, v] w fun e w' => e = .returned (.bool (decide (a = b))) ∧ w' = w := by
  have d1 := conv_any w u a hu
  have d2 := conv_any w v b hv
  have HB := hide (str_beq hu.1 hv.1)
  obtain ⟨a1, k1, rfl, _⟩ := hu.shape
  obtain ⟨a2, k2, rfl, _⟩ := hv.shape
  generalize str a = s at *
  generalize str b = t at *
  go_enter Try.func59, Try.ntmps59
  go_wp2
  go_ret
  exact ⟨by rw [← unhide HB]; rfl, rfl⟩
end Go.Proofs.Yteioihjgjbjmjaa
