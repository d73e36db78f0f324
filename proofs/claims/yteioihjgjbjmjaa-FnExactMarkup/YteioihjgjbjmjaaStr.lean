/- Rows of bytes as strings: the conversion, and when two are one. -/
import Derived.Test.YteioihjgjbjmjaaTo
namespace Go.Proofs.Yteioihjgjbjmjaa
open Go.RowKit
set_option linter.unusedVariables false

/-- The string of a row of bytes. -/
def str (l : List Int) : ByteArray := l.foldl (fun r n => r.push (UInt8.ofNat n.toNat)) ByteArray.empty
theorem str_go (l : List Int) (s : ByteArray) : (l.foldl (fun r n => r.push (UInt8.ofNat n.toNat)) s).data.toList = s.data.toList ++ l.map (fun n => UInt8.ofNat n.toNat) := by
  induction l generalizing s with
  | nil => simp
  | cons x l ih => rw [List.foldl_cons, ih]; simp [ByteArray.push]
theorem str_list (l : List Int) : (str l).data.toList = l.map (fun n => UInt8.ofNat n.toNat) := by
  unfold str; rw [str_go]; rfl
theorem toList_data (s : ByteArray) : s.toList = s.data.toList := Go.ByteArray.toList_eq s
theorem str_inj {a b : List Int} (ha : okB a) (hb : okB b) (h : (str a).toList = (str b).toList) : a = b := by
  rw [toList_data, toList_data, str_list, str_list] at h
  have hg : ∀ l : List Int, okB l → (l.map (fun n => UInt8.ofNat n.toNat)).map (fun u => (u.toNat : Int)) = l := by
    intro l hl
    induction l with
    | nil => rfl
    | cons x l ih =>
      have hx := hl x (by simp)
      have e : ((UInt8.ofNat x.toNat).toNat : Int) = x := by
        rw [UInt8.toNat_ofNat']; omega
      rw [List.map_cons, List.map_cons, ih (fun y hy => hl y (by simp [hy])), e]
  rw [← hg a ha, ← hg b hb, h]
theorem str_beq {a b : List Int} (ha : okB a) (hb : okB b) : ((str a).toList == (str b).toList) = decide (a = b) := by
  by_cases h : a = b
  · subst h; simp
  · have : ¬ (str a).toList = (str b).toList := fun e => h (str_inj ha hb e)
    rw [decide_eq_false h, beq_eq_false_iff_ne]; exact this

theorem conv_any (w : World) (u : Value) (a : List Int) (hu : Byt w u a) : (convert 22 9 u).run Try.prog w = .ok (.string (str a)) w := by
  have hfull : ∀ (x : Addr) (c : Nat), (∀ j, j < a.length → w.cell? (x.add j) = some (.int .u8 (a.getD j 0))) → (convert 22 9 (.slice (some x) a.length c)).run Try.prog w = .ok (.string (str a)) w := by
    intro x c hc
    rw [run_convert_bytes_string w 22 9 5 (some x) a.length c Try.underlying22 Try.underlying5 Try.underlying9]
    refine run_bytesToString w x a.length c a ?_
    have h := run_loadCells_list (P := Try.prog) (w := w) x (vals a) (fun j v hj => by
      have hlt : j < a.length := by
        by_cases hlt : j < a.length
        · exact hlt
        · rw [List.getElem?_eq_none (by rw [vals_len]; omega)] at hj; cases hj
      rw [vals_at hlt] at hj
      rw [hc j hlt]; exact hj)
    rw [vals_len] at h
    exact h
  obtain ⟨hoka, _, ⟨rfl, rfl⟩ | ⟨x, cap, rfl, hc, rfl⟩ | ⟨p, off, cap, rfl, h1, h2, h3, h4, h5⟩⟩ := hu
  · rw [run_convert_bytes_string w 22 9 5 none 0 0 Try.underlying22 Try.underlying5 Try.underlying9]
    simp [Conv.bytesToString, str]
  · exact hfull x cap (fun j hj => by simp at hj)
  · exact hfull _ cap (fun j hj => by rw [add_plain]; exact h5 j hj)

end Go.Proofs.Yteioihjgjbjmjaa
