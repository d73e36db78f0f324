/- impl's putTag puts an element's first tag behind what is written. -/
import Derived.Test.YteioihjgjbjmjaaSayW
import Derived.Test.YteioihjgjbjmjaaMkupS
namespace Go.Proofs.Yteioihjgjbjmjaa
open Go.RowKit
set_option linter.unusedVariables false
set_option maxRecDepth 100000

theorem word_60 : WordOk (⟨#[60]⟩, [60]) := ⟨rfl, okB_60⟩
theorem word_32 : WordOk (⟨#[32]⟩, [32]) := ⟨rfl, fun x hx => by simp at hx; omega⟩
theorem word_34 : WordOk (⟨#[34]⟩, [34]) := ⟨rfl, fun x hx => by simp at hx; omega⟩
theorem word_62 : WordOk (⟨#[62]⟩, [62]) := ⟨rfl, fun x hx => by simp at hx; omega⟩
theorem word_eq : WordOk (⟨#[61, 34]⟩, [61, 34]) := ⟨rfl, okB_eq⟩
theorem word_end : WordOk (⟨#[60, 47]⟩, [60, 47]) := ⟨rfl, okB_end⟩

theorem put_two (B g cap : Nat) (w : World) (L : List Int) (s1 s2 : ByteArray) (m1 m2 : List Int) (hw : Wr B w g L) (hB : B ≤ w.heap.size) (h1 : WordOk (s1, m1)) (h2 : WordOk (s2, m2)) (hlen : L.length + m1.length + m2.length ≤ 100000000) :
    Calls Try.prog 69 #[.pointer (some ⟨g, 0, none⟩), .slice (some ⟨w.heap.size, 0, none⟩) 2 cap] (w.alloc (.cells #[.string s1, .string s2] 9)) fun e w' => e = .returned (.tuple #[]) ∧ Wr B w' g (L ++ m1 ++ m2) ∧ Frp (MtW B g) w w' := by
  have hb : Below w.heap.size w (w.alloc (.cells #[.string s1, .string s2] 9)) := (Below.refl _ _).alloc (Nat.le_refl _) _
  have h := put_any B g w.heap.size cap _ L [(s1, m1), (s2, m2)] (hw.keep hb) (Nat.le_trans hB hb.size) (Loc.made w #[.string s1, .string s2] 9) (words2 h1 h2) (by simp) (by simp; omega)
  refine h.mono ?_
  rintro e w' ⟨rfl, h1, h2⟩
  exact ⟨rfl, by simpa using h1, (Frp.ofBelow hb _).trans h2⟩
theorem put_three (B g cap : Nat) (w : World) (L : List Int) (s1 s2 s3 : ByteArray) (m1 m2 m3 : List Int) (hw : Wr B w g L) (hB : B ≤ w.heap.size) (h1 : WordOk (s1, m1)) (h2 : WordOk (s2, m2)) (h3 : WordOk (s3, m3)) (hlen : L.length + m1.length + m2.length + m3.length ≤ 100000000) :
    Calls Try.prog 69 #[.pointer (some ⟨g, 0, none⟩), .slice (some ⟨w.heap.size, 0, none⟩) 3 cap] (w.alloc (.cells #[.string s1, .string s2, .string s3] 9)) fun e w' => e = .returned (.tuple #[]) ∧ Wr B w' g (L ++ m1 ++ m2 ++ m3) ∧ Frp (MtW B g) w w' := by
  have hb : Below w.heap.size w (w.alloc (.cells #[.string s1, .string s2, .string s3] 9)) := (Below.refl _ _).alloc (Nat.le_refl _) _
  have h := put_any B g w.heap.size cap _ L [(s1, m1), (s2, m2), (s3, m3)] (hw.keep hb) (Nat.le_trans hB hb.size) (Loc.made w #[.string s1, .string s2, .string s3] 9) (words3 h1 h2 h3) (by simp) (by simp; omega)
  refine h.mono ?_
  rintro e w' ⟨rfl, h1, h2⟩
  exact ⟨rfl, by simpa using h1, (Frp.ofBelow hb _).trans h2⟩
theorem node_notW (B g i : Nat) (cs : Array Value) : ¬ MtW B g i (.cells cs 32 (0, 0)) := not_mtW (by decide) (by decide)
theorem attr_notW (B g i : Nat) (cs : Array Value) : ¬ MtW B g i (.cells cs 88 (0, 0)) := not_mtW (by decide) (by decide)

set_option maxHeartbeats 6400000 in
theorem tag_any (w0 w : World) (B g : Nat) (L : List Int) (kd : Int) (b c d e : Value) (name text : List Int) (attrs : List (List Int × List Int)) (a5 : Option Addr) (n5 c5 : Nat) (hw : Wr B w g L) (hB : B ≤ w.heap.size) (hb : Byt w0 b name) (hc : Byt w0 c text) (hd : RdAttrs w0 d attrs) (he : e = .slice a5 n5 c5)
    (hW : Below w0.heap.size w0 w) (h0 : w0.heap.size ≤ B) (hg0 : w0.heap.size ≤ g) (hlen : L.length + 1 + name.length + (attrsM attrs).length + 1 ≤ 100000000) :
    Calls Try.prog 68 #[.pointer (some ⟨g, 0, none⟩), .agg #[.int .i64 kd, b, c, d, e]] w fun e w' => e = .returned (.tuple #[]) ∧ Wr B w' g (L ++ [60] ++ name ++ attrsM attrs ++ [62]) ∧ Frp (MtW B g) w w' := by
  subst he
  obtain ⟨ab, cb, rfl, _, _⟩ := hb.shape
  obtain ⟨ac, cc, rfl, _, _⟩ := hc.shape
  obtain ⟨ad, cd, rfl, _, _⟩ := Elems.shape hd
  have hB1 : Below w.heap.size w (w.alloc (.cells #[.int .i64 kd, .slice ab name.length cb, .slice ac text.length cc, .slice ad attrs.length cd, .slice a5 n5 c5] 32)) := (Below.refl _ _).alloc (Nat.le_refl _) _
  have l1 := Loc.made w #[.int .i64 kd, .slice ab name.length cb, .slice ac text.length cc, .slice ad attrs.length cd, .slice a5 n5 c5] 32
  have F1 : Frp (MtW B g) w _ := Frp.ofBelow hB1 (MtW B g)
  have HW1 := hide (hw.keep hB1)
  have hW1 := hW.trans (hB1.mono hW.size)
  have hBw1 := Nat.le_trans hB hB1.size
  have v1 := conv_any _ _ name (hb.keep hW1)
  obtain ⟨x0, x1, x2, x3, x4⟩ := l1.five
  have hmA : (attrs.length : Int) ≤ 9223372036854775807 := by have := hd.1; unfold maxLen at this; omega
  have hp := put_two B g 2 _ L ⟨#[60]⟩ (str name) [60] name (unhide HW1) hBw1 word_60 (word_str hb.1) (by simp; omega)
  simp only [World.size_alloc] at hp
  have HP := hide hp
  clear hp
  clear hw HW1
  generalize str name = sn at *
  go_enter Try.func68, Try.ntmps68
  go_wp2_with fail
  refine (unhide HP).mono ?_
  clear HP
  rintro e w2 ⟨rfl, hw2, F2⟩
  have F2' := F1.trans F2
  have l2 := l1.frp F2 (node_notW _ _ _ _)
  clear x0 x1 x2 x3 x4 v1
  have c3 : w2.cell? ⟨w.heap.size, 3, none⟩ = some (.slice ad attrs.length cd) := l2.cell 3
  have hB2 : B ≤ w2.heap.size := Nat.le_trans hB F2'.size
  obtain ⟨A0, hA0⟩ : ∃ A0, A0 = L ++ [60] ++ name := ⟨_, rfl⟩
  rw [← hA0] at hw2
  have HA0 := hide hA0
  have hlA : A0.length + (attrsM attrs).length + 1 ≤ 100000000 := by
    rw [hA0]; simp only [List.length_append, List.length_cons, List.length_nil]; omega
  have HW := hide (fun (W : World) (F : Frp (MtW B g) w W) => hW.trans (FrpW.toBelow F hW.size h0 hg0))
  clear hA0 l1 l2 F1 F2
  go_wp2_with fail
  go_loopw [15] (fun i wr => ∃ j : Nat, j ≤ attrs.length ∧ i = .int .i64 j ∧ Wr B wr g (A0 ++ attrsM (attrs.take j)) ∧ Frp (MtW B g) w wr) (fun i _ => attrs.length - (intOf i).toNat)
  case atStart => exact ⟨0, Nat.zero_le _, rfl, by simpa [attrsM] using hw2, F2'⟩
  case round =>
    obtain ⟨j, hj, rfl, hr, hf⟩ := hrel
    have hBr : B ≤ wr.heap.size := Nat.le_trans hB hf.size
    by_cases hjl : j < attrs.length
    · have hst : attrsM (attrs.take (j + 1)) = attrsM (attrs.take j) ++ attrM attrs[j] := flatL_take attrM attrs j hjl
      have hle : (attrsM (attrs.take (j + 1))).length ≤ (attrsM attrs).length := flatL_le attrM attrs (j + 1)
      obtain ⟨pb, poff, rfl, hpl, hun, _, C, hC, hcell, hra⟩ := hd.at hjl
      clear hun
      obtain ⟨x, hx⟩ : ∃ x, x = attrs[j] := ⟨_, rfl⟩
      rw [← hx] at hra hst
      obtain ⟨y0, y1, rfl, hy0, hy1⟩ := hra
      have q0 := hcell 0 (by omega)
      have q1 := hcell 1 (by omega)
      simp only [List.getElem?_cons_zero, List.getElem?_cons_succ, Nat.add_zero] at q0 q1
      obtain ⟨s0, g0, rfl, _, _⟩ := hy0.shape
      obtain ⟨s1, g1, rfl, _, _⟩ := hy1.shape
      obtain ⟨M, hM⟩ : ∃ M, M = A0 ++ attrsM (attrs.take j) := ⟨_, rfl⟩
      have HL := hide (show A0 ++ attrsM (attrs.take (j + 1)) = M ++ [32] ++ x.1 ++ [61, 34] ++ say true x.2 ++ [34] by rw [hst, hM]; simp [attrM])
      have hll : M.length + 4 + x.1.length + (say true x.2).length ≤ 100000000 := by
        rw [hst] at hle
        rw [hM]
        simp only [List.length_append, attrM, List.length_cons, List.length_nil] at hle ⊢
        omega
      rw [← hM] at hr
      have hjl' : (j : Int) < (attrs.length : Int) := by omega
      have hBx := unhide HW wr hf
      have u0 : wr.cell? ⟨pb, poff + j * 2, none⟩ = some (.slice s0 x.1.length g0) := (hBx.cell (p := ⟨pb, poff + j * 2, none⟩) hpl).trans q0
      have u1 : wr.cell? ⟨pb, poff + j * 2 + 1, none⟩ = some (.slice s1 x.2.length g1) := (hBx.cell (p := ⟨pb, poff + j * 2 + 1, none⟩) hpl).trans q1
      have hBa : Below wr.heap.size wr (wr.alloc (.cells #[.slice s0 x.1.length g0, .slice s1 x.2.length g1] 88)) := (Below.refl _ _).alloc (Nat.le_refl _) _
      have a1 := Loc.made wr #[.slice s0 x.1.length g0, .slice s1 x.2.length g1] 88
      have Fa := hf.trans (Frp.ofBelow hBa (MtW B g))
      have vx := conv_any _ _ x.1 (hy0.keep (unhide HW _ Fa))
      have b0 : (wr.alloc (.cells #[.slice s0 x.1.length g0, .slice s1 x.2.length g1] 88)).cell? ⟨wr.heap.size, 0, none⟩ = some (.slice s0 x.1.length g0) := a1.cell 0
      have hp := put_three B g 3 _ M ⟨#[32]⟩ (str x.1) ⟨#[61, 34]⟩ [32] x.1 [61, 34] (hr.keep hBa) (Nat.le_trans hBr hBa.size) word_32 (word_str hy0.1) word_eq (by simp; omega)
      simp only [World.size_alloc] at hp
      have HP := hide hp
      clear hp
      generalize str x.1 = sx at *
      clear hr hst hle hx hM hcell hw2 hd hBa q0 q1 c3
      go_wp2_with fail
      refine (unhide HP).mono ?_
      clear HP
      rintro e w3 ⟨rfl, hw3, F3⟩
      have F3' := Fa.trans F3
      have a3 := a1.frp F3 (attr_notW _ _ _ _)
      have b1 : w3.cell? ⟨wr.heap.size, 1, none⟩ = some (.slice s1 x.2.length g1) := a3.cell 1
      obtain ⟨M3, hM3⟩ : ∃ M3, M3 = M ++ [32] ++ x.1 ++ [61, 34] := ⟨_, rfl⟩
      have hl3 : M3.length + (say true x.2).length + 1 ≤ 100000000 := by rw [hM3]; simp only [List.length_append, List.length_cons, List.length_nil]; omega
      rw [← hM3] at hw3 HL
      clear b0 vx hM3 hll u0 u1
      go_wp2_with fail
      refine (putB_any w0 w3 B g _ M3 x.2 true hw3 (Nat.le_trans hB F3'.size) hy1 (unhide HW _ F3') h0 hg0 (by omega)).mono ?_
      rintro e w4 ⟨rfl, hw4, F4⟩
      have F4' := F3'.trans F4
      obtain ⟨M4, hM4⟩ : ∃ M4, M4 = M3 ++ say true x.2 := ⟨_, rfl⟩
      have hl4 : M4.length + 1 ≤ 100000000 := by rw [hM4, List.length_append]; omega
      rw [← hM4] at hw4 HL
      have HP4 := hide (put_one B g 1 w4 M4 ⟨#[34]⟩ [34] hw4 (Nat.le_trans hB F4'.size) word_34 (by simpa using hl4))
      clear hw3 hw4 b1 hM4
      go_wp2_with fail
      refine (unhide HP4).mono ?_
      clear HP4
      rintro e w5 ⟨rfl, hw5, F5⟩
      rw [← unhide HL] at hw5
      have HW5 := hide hw5
      clear hw5
      go_wp2_with fail
      go_roundw
      case rel => exact ⟨j + 1, by omega, by go_num, unhide HW5, F4'.trans F5⟩
      case measure => simp [intOf]; omega
    · have hje : j = attrs.length := by omega
      subst hje
      rw [List.take_length] at hr
      obtain ⟨A1, hA1⟩ : ∃ A1, A1 = A0 ++ attrsM attrs := ⟨_, rfl⟩
      have hl1 : A1.length + 1 ≤ 100000000 := by rw [hA1, List.length_append]; omega
      rw [← hA1] at hr
      have HA1 := hide hA1
      have HP := hide (put_one B g 1 wr A1 ⟨#[62]⟩ [62] hr hBr word_62 (by simpa using hl1))
      clear hr hd hA1 hw2 c3
      go_wp2_with fail
      refine (unhide HP).mono ?_
      clear HP
      rintro e w5 ⟨rfl, hw5, F5⟩
      go_wp2_with fail
      go_end0
      exact ⟨rfl, by rw [← unhide HA0, ← unhide HA1]; exact hw5, hf.trans F5⟩
end Go.Proofs.Yteioihjgjbjmjaa
