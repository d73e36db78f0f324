/- Own texts joined: BsI, KlM, Str, RlB, Num, PutM, TextM, BackM, OpM, PutS, Cat, Row, PutI, TextP, PutOS. -/
import Derived.Test.YtkmmhlimihkgfaaGreatJa
import Derived.Test.YtkmmhlimihkgfaaGreatJb
import Derived.Test.YtkmmhlimihkgfaaGreatChecked
import Derived.Deep.QuietTactic
import Derived.BigQuiet
import Derived.Lib.AppendZeros
import Derived.Deep.RegionHeld3

/- slices.BinarySearchFunc over operations, by their stamps. -/
namespace Go.Proofs.YtkmmhlimihkgfaaGreat
open Go.RowKit
set_option linter.unusedVariables false
set_option maxRecDepth 100000

set_option maxHeartbeats 3200000 in
theorem byStamp_any (w : World) (o : OpV) (a1 a2 a3 : Option Addr) (c1 c2 c3 : Nat) (n r : Int) :
    Calls Tryz.prog 89 #[opVal o (.slice a1 o.key.length c1) (.slice a2 o.name.length c2) (.slice a3 o.text.length c3), .agg #[.int .i64 n, .int .i64 r]] w fun e w' => e = .returned (.int .i64 (ordI o.atN o.atR n r)) ∧ Below w.heap.size w w' := by
  have hB := ((Below.refl w.heap.size w).alloc (Nat.le_refl _) (.cells #[.int .i64 o.kind, .int .i64 o.atN, .int .i64 o.atR, .int .i64 o.nodeN, .int .i64 o.nodeR, .int .i64 o.parN, .int .i64 o.parR, .slice a1 o.key.length c1, .int .i64 o.elem, .slice a2 o.name.length c2, .slice a3 o.text.length c3, .bool o.gone] 28)).alloc (by simp) (.cells #[.int .i64 n, .int .i64 r] 25)
  have HH := hide (orderI_any ((w.alloc (.cells #[.int .i64 o.kind, .int .i64 o.atN, .int .i64 o.atR, .int .i64 o.nodeN, .int .i64 o.nodeR, .int .i64 o.parN, .int .i64 o.parR, .slice a1 o.key.length c1, .int .i64 o.elem, .slice a2 o.name.length c2, .slice a3 o.text.length c3, .bool o.gone] 28)).alloc (.cells #[.int .i64 n, .int .i64 r] 25)) o.atN o.atR n r)
  have HB := hide hB
  clear hB
  unfold opVal
  generalize ordI o.atN o.atR n r = z at *
  go_enter Tryz.func89, Tryz.ntmps89
  go_wp2_with fail
  refine (unhide HH).mono ?_
  rintro e w1 ⟨rfl, hB1⟩
  have hB2 := bstep (unhide HB) hB1
  clear hB1 HB HH
  go_wp2_with fail
  go_ret
  exact ⟨rfl, hB2⟩
theorem ord_zero (a b c d : Int) : (ordI a b c d == 0) = decide (a = c ∧ b = d) := by
  unfold ordI
  split
  · rename_i h; simp [h]
  · rename_i h
    split <;> simp [h]
theorem ord_neg (n r : Int) (p : OpV) : decide (ordI p.atN p.atR n r < 0) = ahead n r p := ordI_lt _ _ _ _

set_option maxHeartbeats 6400000 in
theorem search_any (w : World) (v : Value) (l : List OpV) (n r : Int) (h : RdOps w v l) (hs : opsB l = true) :
    Calls Tryz.prog 88 #[v, .agg #[.int .i64 n, .int .i64 r], .func (.func 89) #[] #[]] w fun e w' => e = .returned (.tuple #[.int .i64 (posO l n r), .bool (there l n r)]) ∧ Below w.heap.size w w' := by
  obtain ⟨hl, _⟩ := opsB_parts hs
  have HS := hide hs
  have hA := (Below.refl w.heap.size w).alloc (Nat.le_refl _) (.cells #[.int .i64 n, .int .i64 r] 25)
  have lt := Loc.made w #[.int .i64 n, .int .i64 r] 25
  have hR := h.keep hA
  obtain ⟨av, cv, rfl, _, _⟩ := Elems.shape h
  have HAT := hide (fun j (hj : j < l.length) => (show ∃ b off cap, (Value.slice av l.length cv) = .slice (some ⟨b, off, none⟩) l.length cap ∧ b < (w.alloc (.cells #[.int .i64 n, .int .i64 r] 25)).heap.size ∧ ∃ C : List Value, C.length = 12 ∧ (∀ i, i < 12 → (w.alloc (.cells #[.int .i64 n, .int .i64 r] 25)).cell? ⟨b, off + j * 12 + i, none⟩ = C[i]?) ∧ RdOpC (w.alloc (.cells #[.int .i64 n, .int .i64 r] 25)) C l[j] by
    obtain ⟨_, ⟨_, e⟩ | ⟨_, _, _, _, e⟩ | ⟨b, off, cap, ev, g1, g2, g3, g4, g5⟩⟩ := hR
    · subst e; simp at hj
    · subst e; simp at hj
    · exact ⟨b, off, cap, ev, g4, g5 j hj⟩))
  have LL := hide (And.intro hA lt)
  clear hs hA lt hR h
  go_enter Tryz.func88, Tryz.ntmps88
  go_wp2_with fail
  obtain ⟨hA, lt⟩ := unhide LL
  clear LL
  generalize (w.alloc (.cells #[.int .i64 n, .int .i64 r] 25)) = wa at *
  generalize hSS : w.heap.size = S at *
  have hSl := lt.lt
  have HA := hide hA
  clear hA
  go_loopw [9, 10, 11] (fun i j _ wr => ∃ a b : Nat, a ≤ b ∧ b ≤ l.length ∧ i = .int .i64 a ∧ j = .int .i64 b ∧ Hid ((∀ k (hk : k < l.length), k < a → ahead n r l[k] = true) ∧ (∀ k (hk : k < l.length), b ≤ k → ahead n r l[k] = false)) ∧ Below wa.heap.size wa wr) (fun i j _ _ => (intOf j).toNat - (intOf i).toNat)
  case atStart => exact ⟨0, l.length, Nat.zero_le _, Nat.le_refl _, rfl, rfl, hide ⟨fun k _ hk => by omega, fun k hk hb => by omega⟩, Below.refl _ _⟩
  case round =>
    obtain ⟨a, b, hab, hbl, rfl, rfl, HI, hB⟩ := hrel
    by_cases hlt : a < b
    · have hlt' : (a : Int) < (b : Int) := by omega
      obtain ⟨m, hm⟩ : ∃ m : Nat, m = (a + b) / 2 := ⟨_, rfl⟩
      have hml : m < l.length := by omega
      have hma : a ≤ m := by omega
      have hmb : m < b := by omega
      have hmz : ((a : Int) + (b : Int)) / 2 = (m : Int) := by omega
      have HMZ := hide (And.intro hmz (And.intro hml (And.intro hma hmb)))
      clear hmz hml hma hmb hm
      go_wp2_with fail
      obtain ⟨hmz, hml, hma, hmb⟩ := unhide HMZ
      clear HMZ
      rw [hmz]
      clear hmz
      have hm0 : (0 : Int) ≤ (m : Int) := by omega
      have hml' : (m : Int) < (l.length : Int) := by omega
      obtain ⟨pb, poff, pcap, epv, hpl, hel⟩ := unhide HAT m hml
      cases epv
      obtain ⟨a1, c1, a2, c2, a3, c3, e0, e1, e2, e3, e4, e5, e6, e7, e8, e9, e10, e11, hro⟩ := opc_at (w := wa) (W := wr) hB hpl hel
      have HC := hide (fun W => byStamp_any W l[m] a1 a2 a3 c1 c2 c3 n r)
      have hzz := ord_neg n r l[m]
      have hz0 := ord_zero l[m].atN l[m].atR n r
      unfold opVal at HC
      have lt1 := lt.all hB
      have t0 : wr.cell? ⟨S, 0, none⟩ = some (.int .i64 n) := lt1.cell 0
      have t1 : wr.cell? ⟨S, 1, none⟩ = some (.int .i64 r) := lt1.cell 1
      have hSr : S < wr.heap.size := lt1.lt
      have hpr : pb < wr.heap.size := Nat.lt_of_lt_of_le hpl hB.size
      replace e0 := Gr.cell hpr e0
      replace e1 := Gr.cell hpr e1
      replace e2 := Gr.cell hpr e2
      replace e3 := Gr.cell hpr e3
      replace e4 := Gr.cell hpr e4
      replace e5 := Gr.cell hpr e5
      replace e6 := Gr.cell hpr e6
      replace e7 := Gr.cell hpr e7
      replace e8 := Gr.cell hpr e8
      replace e9 := Gr.cell hpr e9
      replace e10 := Gr.cell hpr e10
      replace e11 := Gr.cell hpr e11
      replace t0 := Gr.cell hSr t0
      replace t1 := Gr.cell hSr t1
      have hNE : Nonempty (Gr wr) := ⟨⟨wr, Below.refl _ _⟩⟩
      clear hel hro lt1
      have HD := hide (And.intro (fun (ha : ahead n r l[m] = true) => (show ((∀ k (hk : k < l.length), k < m + 1 → ahead n r l[k] = true) ∧ (∀ k (hk : k < l.length), b ≤ k → ahead n r l[k] = false)) from ⟨fun k hk hkm => ahead_down (unhide HS) (by omega) hml ha, (unhide HI).2⟩)) (fun (ha : ahead n r l[m] = false) => (show ((∀ k (hk : k < l.length), k < a → ahead n r l[k] = true) ∧ (∀ k (hk : k < l.length), m ≤ k → ahead n r l[k] = false)) from ⟨(unhide HI).1, fun k hk hkm => by
        cases hak : ahead n r l[k] with
        | false => rfl
        | true => have := ahead_down (unhide HS) hkm hk hak; rw [ha] at this; cases this⟩)))
      generalize ahead n r l[m] = am at *
      generalize ordI l[m].atN l[m].atR n r = z at *
      clear hz0
      generalize l[m] = o at *
      refine wp_region_gr (by kernel_rfl) (by kernel_rfl) ?_
      repeat (go_big_quiet_step ((rename_i p; exact calls_gr (unhide HC _))))
      refine wpQuiet_nil ?_
      rintro _ ⟨p, rfl⟩
      have hB3 := bstep hB p.h
      clear e0 e1 e2 e3 e4 e5 e6 e7 e8 e9 e10 e11 t0 t1 HC
      cases am with
      | true =>
        have hz1 : z < 0 := by simpa using hzz
        clear hzz
        have HD1 := hide ((unhide HD).1 rfl)
        clear HD HI
        go_wp2_with fail
        go_roundw
        case rel => exact ⟨m + 1, b, by omega, hbl, by go_num, rfl, HD1, hB3⟩
        case measure => simp [intOf]; omega
      | false =>
        have hz1 : ¬ z < 0 := by simpa using hzz
        clear hzz
        have HD1 := hide ((unhide HD).2 rfl)
        clear HD HI
        go_wp2_with fail
        go_roundw
        case rel => exact ⟨a, m, hma, by omega, rfl, rfl, HD1, hB3⟩
        case measure => simp [intOf]; omega
    · have e : b = a := by omega
      subst e
      have hpos : posO l n r = b := posO_of hbl (unhide HI).1 (fun hk => (unhide HI).2 b hk (Nat.le_refl _))
      clear HI
      by_cases hbn : b < l.length
      · have hth : there l n r = decide (l[b].atN = n ∧ l[b].atR = r) := by unfold there; simp only [hpos, hbn, dite_true]
        have hb0 : (0 : Int) ≤ (b : Int) := by omega
        have hbn' : (b : Int) < (l.length : Int) := by omega
        have HH := hide (And.intro hpos (And.intro hth (And.intro hbn' hb0)))
        clear hpos hth hbn' hb0
        go_wp2_with fail
        obtain ⟨hpos, hth, hbn', hb0⟩ := unhide HH
        clear HH
        have hdb : decide (b < l.length) = true := by simpa using hbn
        obtain ⟨pb, poff, pcap, epv, hpl, hel⟩ := unhide HAT b hbn
        cases epv
        obtain ⟨a1, c1, a2, c2, a3, c3, e0, e1, e2, e3, e4, e5, e6, e7, e8, e9, e10, e11, hro⟩ := opc_at (w := wa) (W := wr) hB hpl hel
        have HC := hide (fun W => byStamp_any W l[b] a1 a2 a3 c1 c2 c3 n r)
        have hz0 := ord_zero l[b].atN l[b].atR n r
        unfold opVal at HC
        have lt1 := lt.all hB
        have t0 : wr.cell? ⟨S, 0, none⟩ = some (.int .i64 n) := lt1.cell 0
        have t1 : wr.cell? ⟨S, 1, none⟩ = some (.int .i64 r) := lt1.cell 1
        have hSr : S < wr.heap.size := lt1.lt
        have hpr : pb < wr.heap.size := Nat.lt_of_lt_of_le hpl hB.size
        replace e0 := Gr.cell hpr e0
        replace e1 := Gr.cell hpr e1
        replace e2 := Gr.cell hpr e2
        replace e3 := Gr.cell hpr e3
        replace e4 := Gr.cell hpr e4
        replace e5 := Gr.cell hpr e5
        replace e6 := Gr.cell hpr e6
        replace e7 := Gr.cell hpr e7
        replace e8 := Gr.cell hpr e8
        replace e9 := Gr.cell hpr e9
        replace e10 := Gr.cell hpr e10
        replace e11 := Gr.cell hpr e11
        replace t0 := Gr.cell hSr t0
        replace t1 := Gr.cell hSr t1
        have hNE : Nonempty (Gr wr) := ⟨⟨wr, Below.refl _ _⟩⟩
        clear hel hro lt1
        have HT := hide (hth.trans hz0.symm)
        have HP := hide hpos
        clear hth hz0 hpos
        generalize ordI l[b].atN l[b].atR n r = z at *
        generalize l[b] = o at *
        refine wp_region_gr (by kernel_rfl) (by kernel_rfl) ?_
        repeat (go_big_quiet_step ((rename_i p; exact calls_gr (unhide HC _))))
        refine wpQuiet_nil ?_
        rintro _ ⟨p, rfl⟩
        have hB3 := (unhide HA).trans ((bstep hB p.h).mono (Nat.le_of_lt hSl))
        clear e0 e1 e2 e3 e4 e5 e6 e7 e8 e9 e10 e11 t0 t1 HC
        go_wp2_with fail
        go_ret2
        exact ⟨by rw [unhide HP, unhide HT]; rfl, by rw [hSS]; exact hB3⟩
      · have hth : there l n r = false := by unfold there; simp only [hpos, hbn, dite_false]
        have hbe : b = l.length := by omega
        have HH := hide (And.intro hpos hth)
        clear hpos hth hbn
        subst hbe
        go_wp2_with fail
        have hNE : Nonempty (Gr wr) := ⟨⟨wr, Below.refl _ _⟩⟩
        refine wp_region_gr (by kernel_rfl) (by kernel_rfl) ?_
        repeat (go_big_quiet_step (fail))
        refine wpQuiet_nil ?_
        rintro _ ⟨p, rfl⟩
        have hB3 := (unhide HA).trans ((bstep hB p.h).mono (Nat.le_of_lt hSl))
        go_wp2_with fail
        go_ret2
        exact ⟨by rw [(unhide HH).1, (unhide HH).2]; rfl, by rw [hSS]; exact hB3⟩
end Go.Proofs.YtkmmhlimihkgfaaGreat

/- The order of keys, in plain mathematics. -/
namespace Go.Proofs.YtkmmhlimihkgfaaGreat
set_option linter.unusedVariables false

/-- By the first number in which they differ; the one that begins the other one is less. -/
def klB : List Int → List Int → Bool
  | [], [] => false
  | [], _ :: _ => true
  | _ :: _, [] => false
  | x :: a, y :: b => if x = y then klB a b else decide (x < y)

theorem klB_end {a b : List Int} (h : a = [] ∨ b = []) : klB a b = decide (a.length < b.length) := by
  cases a <;> cases b <;> simp [klB] at *
theorem drop_cons {l : List Int} {k : Nat} (h : k < l.length) : l.drop k = l.getD k 0 :: l.drop (k + 1) := by
  rw [List.drop_eq_getElem_cons h, getD_at h]
theorem klB_same {a b : List Int} {k : Nat} (ha : k < a.length) (hb : k < b.length) (e : a.getD k 0 = b.getD k 0) : klB (a.drop k) (b.drop k) = klB (a.drop (k + 1)) (b.drop (k + 1)) := by
  rw [drop_cons ha, drop_cons hb, klB, if_pos e]
theorem klB_diff {a b : List Int} {k : Nat} (ha : k < a.length) (hb : k < b.length) (e : a.getD k 0 ≠ b.getD k 0) : klB (a.drop k) (b.drop k) = decide (a.getD k 0 < b.getD k 0) := by
  rw [drop_cons ha, drop_cons hb, klB, if_neg e]
theorem klB_over {a b : List Int} {k : Nat} (ha : k ≤ a.length) (hb : k ≤ b.length) (h : k = a.length ∨ k = b.length) : klB (a.drop k) (b.drop k) = decide (a.length < b.length) := by
  rw [klB_end (by rcases h with rfl | rfl <;> simp)]
  simp only [List.length_drop]
  rw [Bool.eq_iff_iff]
  simp only [decide_eq_true_eq]
  omega
theorem klB_irr (a : List Int) : klB a a = false := by
  induction a with
  | nil => rfl
  | cons x a ih => rw [klB, if_pos rfl, ih]
theorem klB_anti (a b : List Int) : (klB a b && klB b a) = false := by
  induction a generalizing b with
  | nil => cases b <;> rfl
  | cons x a ih =>
    cases b with
    | nil => rfl
    | cons y b =>
      by_cases e : x = y
      · rw [klB, if_pos e, klB, if_pos e.symm]; exact ih b
      · rw [klB, if_neg e, klB, if_neg (fun h => e h.symm)]
        by_cases h : x < y
        · have : ¬ y < x := by omega
          simp [this]
        · simp [h]
theorem klB_tri (a b : List Int) : (klB a b || klB b a) = !decide (a = b) := by
  induction a generalizing b with
  | nil => cases b <;> simp [klB]
  | cons x a ih =>
    cases b with
    | nil => simp [klB]
    | cons y b =>
      by_cases e : x = y
      · rw [klB, if_pos e, klB, if_pos e.symm, ih b]; simp [e]
      · rw [klB, if_neg e, klB, if_neg (fun h => e h.symm)]
        have : x < y ∨ y < x := by omega
        simp [e, this]
end Go.Proofs.YtkmmhlimihkgfaaGreat

/- Rows of bytes as strings: the conversion, and when two are one. -/
namespace Go.Proofs.YtkmmhlimihkgfaaGreat
open Go.RowKit
set_option linter.unusedVariables false

/-- The string of a row of bytes. -/
def str (l : List Int) : ByteArray := l.foldl (fun r n => r.push (UInt8.ofNat n.toNat)) ByteArray.empty
theorem str_go (l : List Int) (s : ByteArray) : (l.foldl (fun r n => r.push (UInt8.ofNat n.toNat)) s).data.toList = s.data.toList ++ l.map (fun n => UInt8.ofNat n.toNat) := by
  induction l generalizing s with
  | nil => simp
  | cons x l ih => rw [List.foldl_cons, ih]; simp [ByteArray.push]
theorem str_list (l : List Int) : (str l).data.toList = l.map (fun n => UInt8.ofNat n.toNat) := by
  unfold str; rw [str_go]; rfl
theorem toList_data (s : ByteArray) : s.toList = s.data.toList := Go.ByteArray.toList_eq s
theorem str_inj {a b : List Int} (ha : okB a) (hb : okB b) (h : (str a).toList = (str b).toList) : a = b := by
  rw [toList_data, toList_data, str_list, str_list] at h
  have hg : ∀ l : List Int, okB l → (l.map (fun n => UInt8.ofNat n.toNat)).map (fun u => (u.toNat : Int)) = l := by
    intro l hl
    induction l with
    | nil => rfl
    | cons x l ih =>
      have hx := hl x (by simp)
      have e : ((UInt8.ofNat x.toNat).toNat : Int) = x := by
        rw [UInt8.toNat_ofNat']; omega
      rw [List.map_cons, List.map_cons, ih (fun y hy => hl y (by simp [hy])), e]
  rw [← hg a ha, ← hg b hb, h]
theorem str_beq {a b : List Int} (ha : okB a) (hb : okB b) : ((str a).toList == (str b).toList) = decide (a = b) := by
  by_cases h : a = b
  · subst h; simp
  · have : ¬ (str a).toList = (str b).toList := fun e => h (str_inj ha hb e)
    rw [decide_eq_false h, beq_eq_false_iff_ne]; exact this

theorem conv_any (w : World) (u : Value) (a : List Int) (hu : Byt w u a) : (convert 22 9 u).run Tryz.prog w = .ok (.string (str a)) w := by
  have hfull : ∀ (x : Addr) (c : Nat), (∀ j, j < a.length → w.cell? (x.add j) = some (.int .u8 (a.getD j 0))) → (convert 22 9 (.slice (some x) a.length c)).run Tryz.prog w = .ok (.string (str a)) w := by
    intro x c hc
    rw [run_convert_bytes_string w 22 9 5 (some x) a.length c Tryz.underlying22 Tryz.underlying5 Tryz.underlying9]
    refine run_bytesToString w x a.length c a ?_
    have h := run_loadCells_list (P := Tryz.prog) (w := w) x (vals a) (fun j v hj => by
      have hlt : j < a.length := by
        by_cases hlt : j < a.length
        · exact hlt
        · rw [List.getElem?_eq_none (by rw [vals_len]; omega)] at hj; cases hj
      rw [vals_at hlt] at hj
      rw [hc j hlt]; exact hj)
    rw [vals_len] at h
    exact h
  obtain ⟨hoka, _, ⟨rfl, rfl⟩ | ⟨x, cap, rfl, hc, rfl⟩ | ⟨p, off, cap, rfl, h1, h2, h3, h4, h5⟩⟩ := hu
  · rw [run_convert_bytes_string w 22 9 5 none 0 0 Tryz.underlying22 Tryz.underlying5 Tryz.underlying9]
    simp [Conv.bytesToString, str]
  · exact hfull x cap (fun j hj => by simp at hj)
  · exact hfull _ cap (fun j hj => by rw [add_plain]; exact h5 j hj)

end Go.Proofs.YtkmmhlimihkgfaaGreat

/- impl.rowLess over bytes answers the order of rows; strings are in that order, too. -/
namespace Go.Proofs.YtkmmhlimihkgfaaGreat
open Go.RowKit
set_option linter.unusedVariables false

set_option maxHeartbeats 1600000 in
set_option maxRecDepth 1000000 in
theorem rowLessB_any (w : World) (u v : Value) (a b : List Int) (hu : Byt w u a) (hv : Byt w v b) :
    Calls Tryz.prog 123 #[u, v] w fun e w' => e = .returned (.bool (klB a b)) ∧ Below w.heap.size w w' := by
  have hma := hu.2.1
  have hmb := hv.2.1
  unfold maxLen at hma hmb
  by_cases h0 : a = [] ∨ b = []
  · have HE := hide (klB_end h0)
    have h0' : a.length = 0 ∨ b.length = 0 := by rcases h0 with rfl | rfl <;> simp
    obtain ⟨a1, c1, rfl, _⟩ := hu.shape
    obtain ⟨a2, c2, rfl, _⟩ := hv.shape
    clear hu hv h0
    generalize a.length = n at *
    generalize b.length = m at *
    rcases h0' with rfl | rfl <;> rcases a1 with _ | a1
    all_goals
      go_enter Tryz.func123, Tryz.ntmps123
      go_wp2
      all_goals
        refine wp_loop_rounds 1 ?_
        rw [rounds_succ]
        go_wp2
        go_ret
        exact ⟨by rw [unhide HE]; simp, Below.refl _ _⟩
  have ha0 : a ≠ [] := fun h => h0 (.inl h)
  have hb0 : b ≠ [] := fun h => h0 (.inr h)
  obtain ⟨hoka, _, ⟨rfl, rfl⟩ | ⟨x, cap, rfl, hc, rfl⟩ | ⟨p, off, cap, rfl, h1, h2, h3, h4, h5⟩⟩ := hu
  · exact absurd rfl ha0
  · exact absurd rfl ha0
  obtain ⟨hokb, _, ⟨rfl, rfl⟩ | ⟨x, cap, rfl, hc, rfl⟩ | ⟨q, off', cap', rfl, g1, g2, g3, g4, g5⟩⟩ := hv
  · exact absurd rfl hb0
  · exact absurd rfl hb0
  generalize hA : a.length = n at *
  generalize hC : b.length = m at *
  clear h0
  go_enter Tryz.func123, Tryz.ntmps123
  go_wp2
  all_goals
    go_loopw [15] (fun i wr => ∃ k : Nat, k ≤ n ∧ k ≤ m ∧ i = .int .i64 k ∧ Hid (klB a b = klB (a.drop k) (b.drop k)) ∧ Below w.heap.size w wr) (fun i _ => n - (intOf i).toNat)
    case atStart => exact ⟨0, Nat.zero_le _, Nat.zero_le _, rfl, hide rfl, Below.refl _ _⟩
    case round =>
      obtain ⟨k, hk, hk', rfl, ht, hB⟩ := hrel
      by_cases hlt : k < n ∧ k < m
      · obtain ⟨hka, hkb⟩ := hlt
        obtain ⟨x, hx⟩ : ∃ x, x = a.getD k 0 := ⟨_, rfl⟩
        obtain ⟨y, hy⟩ : ∃ y, y = b.getD k 0 := ⟨_, rfl⟩
        have c1 : wr.cell? ⟨p, off + k, none⟩ = some (.int .u8 x) := by rw [hx]; exact (hB.cell (p := ⟨p, off + k, none⟩) h4).trans (h5 k hka)
        have c2 : wr.cell? ⟨q, off' + k, none⟩ = some (.int .u8 y) := by rw [hy]; exact (hB.cell (p := ⟨q, off' + k, none⟩) g4).trans (g5 k hkb)
        have HX := hide hx
        have HY := hide hy
        have hlt' : (k : Int) < (n : Int) := by omega
        have hlt2 : (k : Int) < (m : Int) := by omega
        clear hx hy h5 g5
        by_cases hxy : x = y
        · have HT := hide ((unhide ht).trans (klB_same (by omega) (by omega) (by rw [← unhide HX, ← unhide HY]; exact hxy)))
          have hne : (x != y) = false := by simp [hxy]
          clear hxy
          go_wp2
          go_roundw
          case rel => exact ⟨k + 1, by omega, by omega, by go_num, HT, hB⟩
          case measure => simp [intOf]; omega
        · have HD := hide ((unhide ht).trans (klB_diff (by omega) (by omega) (by rw [← unhide HX, ← unhide HY]; exact hxy)))
          rw [← unhide HX, ← unhide HY] at HD
          have hne : (x != y) = true := by simp [hxy]
          clear hxy ht
          go_wp2
          go_ret
          exact ⟨by rw [unhide HD]; rfl, hB⟩
      · have HD := hide ((unhide ht).trans (klB_over (by omega) (by omega) (by omega)))
        rw [hA, hC] at HD
        clear h5 g5 ht
        rcases (show k = n ∨ (k < n ∧ k = m) by omega) with rfl | ⟨hlt', rfl⟩ <;> first | (exfalso; omega) | skip
        all_goals
          go_wp2
          go_ret
          exact ⟨by rw [unhide HD]; simp, hB⟩


theorem u8_lt {x y : Int} (hx : 0 ≤ x ∧ x ≤ 255) (hy : 0 ≤ y ∧ y ≤ 255) : (UInt8.ofNat x.toNat < UInt8.ofNat y.toNat) ↔ x < y := by
  rw [UInt8.lt_iff_toNat_lt]
  simp only [UInt8.toNat_ofNat']
  omega
theorem strL_less : ∀ (a b : List Int), okB a → okB b → Op.bytesLess (a.map fun n => UInt8.ofNat n.toNat) (b.map fun n => UInt8.ofNat n.toNat) = klB a b
  | [], [], _, _ => rfl
  | [], _ :: _, _, _ => rfl
  | _ :: _, [], _, _ => rfl
  | x :: a, y :: b, ha, hb => by
    have hx := ha x (by simp)
    have hy := hb y (by simp)
    have ih := strL_less a b (fun z hz => ha z (by simp [hz])) (fun z hz => hb z (by simp [hz]))
    simp only [List.map_cons]
    unfold Op.bytesLess klB
    rw [ih]
    have h1 := u8_lt hx hy
    have h2 := u8_lt hy hx
    by_cases e : x = y
    · subst e; simp
    · have e2 : ¬ UInt8.ofNat x.toNat = UInt8.ofNat y.toNat := fun h => by
        have h3 : ¬ UInt8.ofNat x.toNat < UInt8.ofNat y.toNat := by rw [h]; exact UInt8.lt_irrefl _
        have h4 : ¬ UInt8.ofNat y.toNat < UInt8.ofNat x.toNat := by rw [h]; exact UInt8.lt_irrefl _
        rw [h1] at h3
        rw [h2] at h4
        omega
      by_cases hl : x < y
      · simp [h1.2 hl, e, hl]
      · have h5 : ¬ UInt8.ofNat x.toNat < UInt8.ofNat y.toNat := fun h => hl (h1.1 h)
        simp [h5, e, hl, e2]
theorem str_less {a b : List Int} (ha : okB a) (hb : okB b) : Op.bytesLess (str a).toList (str b).toList = klB a b := by
  rw [toList_data, toList_data, str_list, str_list]
  exact strL_less a b ha hb
end Go.Proofs.YtkmmhlimihkgfaaGreat

/- Numbers as rows of bytes, in plain mathematics: what a row is read as. -/
namespace Go.Proofs.YtkmmhlimihkgfaaGreat

/-- 128 to the power k, for k up to 5. -/
def sc : Nat → Int
  | 0 => 1
  | 1 => 128
  | 2 => 16384
  | 3 => 2097152
  | 4 => 268435456
  | _ => 34359738368

/-- The number whose bytes begin the row, and how many they are; i bytes have been read, they came to acc. -/
def numGo : Nat → List Int → Nat → Int → Option (Int × Nat)
  | 0, _, _, _ => none
  | _ + 1, [], _, _ => none
  | f + 1, x :: r, i, acc => if x < 128 then (if (x = 0 ∧ 0 < i) ∨ 2147483647 < acc + x % 128 * sc i then none else some (acc + x % 128 * sc i, i + 1)) else numGo f r (i + 1) (acc + x % 128 * sc i)

def num (r : List Int) : Option (Int × Nat) := numGo 5 r 0 0

def getN (l : List Int) (p : Int) : Int × Int := if p < 0 then (0, -1) else match num (l.drop p.toNat) with
  | some (n, k) => (n, p + (k : Int))
  | none => (0, -1)

theorem sc_step (k : Nat) (h : k < 5) : sc (k + 1) = sc k * 128 := by
  have : k = 0 ∨ k = 1 ∨ k = 2 ∨ k = 3 ∨ k = 4 := by omega
  rcases this with rfl | rfl | rfl | rfl | rfl <;> rfl
theorem sc_le (k : Nat) : 1 ≤ sc k ∧ sc k ≤ 34359738368 := by unfold sc; split <;> omega
theorem part_le {x s : Int} (h0 : 1 ≤ s) (h1 : s ≤ 34359738368) : 0 ≤ x % 128 * s ∧ x % 128 * s ≤ 127 * s ∧ x % 128 * s ≤ 4363686772736 := by
  have a : 0 ≤ x % 128 * s := Int.mul_nonneg (by omega) (by omega)
  have b : x % 128 * s ≤ 127 * s := Int.mul_le_mul_of_nonneg_right (by omega) (by omega)
  omega

theorem numGo_nil (f i : Nat) (acc : Int) : numGo f [] i acc = none := by cases f <;> rfl
theorem numGo_end {f i : Nat} {acc x : Int} {r : List Int} (h : x < 128) (h1 : ¬ ((x = 0 ∧ 0 < i) ∨ 2147483647 < acc + x % 128 * sc i)) : numGo (f + 1) (x :: r) i acc = some (acc + x % 128 * sc i, i + 1) := by
  rw [numGo, if_pos h, if_neg h1]
theorem numGo_bad {f i : Nat} {acc x : Int} {r : List Int} (h : x < 128) (h1 : (x = 0 ∧ 0 < i) ∨ 2147483647 < acc + x % 128 * sc i) : numGo (f + 1) (x :: r) i acc = none := by
  rw [numGo, if_pos h, if_pos h1]
theorem numGo_on {f i : Nat} {acc x : Int} {r : List Int} (h : ¬ x < 128) : numGo (f + 1) (x :: r) i acc = numGo f r (i + 1) (acc + x % 128 * sc i) := by
  rw [numGo, if_neg h]

/-- What is read is a number that may be, of one to five bytes, and not more than are there. -/
theorem numGo_some {f i : Nat} {acc : Int} {r : List Int} {n : Int} {k : Nat} (ha : 0 ≤ acc) (hr : okB r) (h : numGo f r i acc = some (n, k)) : 0 ≤ n ∧ n ≤ 2147483647 ∧ i < k ∧ k ≤ i + f ∧ k ≤ i + r.length := by
  induction f generalizing i acc r with
  | zero => simp [numGo] at h
  | succ f ih =>
    cases r with
    | nil => simp [numGo] at h
    | cons x r =>
      have hx := hr x (by simp)
      have hs : 0 ≤ sc i := by unfold sc; split <;> omega
      have hm : 0 ≤ x % 128 * sc i := Int.mul_nonneg (by omega) hs
      by_cases h1 : x < 128
      · by_cases h2 : (x = 0 ∧ 0 < i) ∨ 2147483647 < acc + x % 128 * sc i
        · rw [numGo_bad h1 h2] at h; cases h
        · rw [numGo_end h1 h2] at h
          simp only [Option.some.injEq, Prod.mk.injEq] at h
          obtain ⟨rfl, rfl⟩ := h
          refine ⟨by omega, by omega, by omega, by omega, by simp⟩
      · rw [numGo_on h1] at h
        have := ih (by omega) (fun y hy => hr y (by simp [hy])) h
        simp only [List.length_cons]
        omega
theorem num_some {r : List Int} {n : Int} {k : Nat} (hr : okB r) (h : num r = some (n, k)) : 0 ≤ n ∧ n ≤ 2147483647 ∧ 0 < k ∧ k ≤ 5 ∧ k ≤ r.length := by
  have := numGo_some (Int.le_refl 0) hr h
  omega

theorem getN_neg {l : List Int} {p : Int} (h : p < 0) : getN l p = (0, -1) := by rw [getN, if_pos h]
theorem getN_none {l : List Int} {p : Nat} (h : num (l.drop p) = none) : getN l (p : Int) = (0, -1) := by
  rw [getN, if_neg (by omega), Int.toNat_natCast, h]
theorem getN_some {l : List Int} {p : Nat} {n : Int} {k : Nat} (h : num (l.drop p) = some (n, k)) : getN l (p : Int) = (n, (p : Int) + (k : Int)) := by
  rw [getN, if_neg (by omega), Int.toNat_natCast, h]

end Go.Proofs.YtkmmhlimihkgfaaGreat

/- The bytes of a number, in plain mathematics. -/
namespace Go.Proofs.YtkmmhlimihkgfaaGreat

/-- The bytes of n, at most f + 1 of them. -/
def putGo : Nat → Int → List Int
  | 0, n => [n]
  | f + 1, n => if 127 < n then (n % 128 + 128) :: putGo f (n / 128) else [n]
def putN (n : Int) : List Int := putGo 4 n
/-- b and the bytes of n, where n may be put. -/
def putAll (l : List Int) (n : Int) : List Int := if n < 0 ∨ 2147483647 < n then l else l ++ putN n

theorem putGo_on {f : Nat} {n : Int} (h : 127 < n) : putGo (f + 1) n = (n % 128 + 128) :: putGo f (n / 128) := by rw [putGo, if_pos h]
theorem putGo_end {f : Nat} {n : Int} (h : ¬ 127 < n) : putGo f n = [n] := by cases f with
  | zero => rfl
  | succ f => rw [putGo, if_neg h]
theorem putGo_len (f : Nat) (n : Int) : (putGo f n).length ≤ f + 1 := by
  induction f generalizing n with
  | zero => simp [putGo]
  | succ f ih =>
    by_cases h : 127 < n
    · rw [putGo_on h]; have := ih (n / 128); simp; omega
    · rw [putGo_end h]; simp
theorem putGo_pos (f : Nat) (n : Int) : 0 < (putGo f n).length := by
  cases f with
  | zero => simp [putGo]
  | succ f =>
    by_cases h : 127 < n
    · rw [putGo_on h]; simp
    · rw [putGo_end h]; simp
theorem putGo_ok (f : Nat) (n : Int) (h0 : 0 ≤ n) (h1 : n < sc (f + 1)) (hf : f ≤ 4) : okB (putGo f n) := by
  induction f generalizing n with
  | zero => intro x hx; simp [putGo] at hx; subst hx; simp [sc] at h1; omega
  | succ f ih =>
    by_cases h : 127 < n
    · rw [putGo_on h]
      have := sc_step (f + 1) (by omega)
      intro x hx
      rcases List.mem_cons.1 hx with rfl | hx
      · omega
      · exact ih (n / 128) (by omega) (by omega) (by omega) x hx
    · rw [putGo_end h]; intro x hx; simp at hx; omega
theorem putN_ok {n : Int} (h0 : 0 ≤ n) (h1 : n ≤ 2147483647) : okB (putN n) := putGo_ok 4 n h0 (by simp only [sc]; omega) (by omega)
theorem putN_len (n : Int) : (putN n).length ≤ 5 := putGo_len 4 n
theorem putAll_in {l : List Int} {n : Int} (h0 : 0 ≤ n) (h1 : n ≤ 2147483647) : putAll l n = l ++ putN n := by rw [putAll, if_neg (by omega)]
theorem putAll_out {l : List Int} {n : Int} (h : n < 0 ∨ 2147483647 < n) : putAll l n = l := by rw [putAll, if_pos h]
theorem putAll_len (l : List Int) (n : Int) : (putAll l n).length ≤ l.length + 5 := by
  unfold putAll
  split
  · omega
  · have := putN_len n; simp; omega

end Go.Proofs.YtkmmhlimihkgfaaGreat

/- Texts as rows of bytes, in plain mathematics, and a cut of a readable row. -/
namespace Go.Proofs.YtkmmhlimihkgfaaGreat
open Go.RowKit
set_option linter.unusedVariables false

/-- b, how many bytes t has, and t, where t may be put. -/
def putT (l t : List Int) : List Int := if 30 < t.length then l else l ++ putN t.length ++ t
/-- The text that stands at p, and the place behind it. -/
def getT (l : List Int) (p : Int) : List Int × Int := if (getN l p).2 < 0 ∨ 30 < (getN l p).1 ∨ (l.length : Int) - (getN l p).2 < (getN l p).1 then ([], -1)
  else ((l.drop (getN l p).2.toNat).take (getN l p).1.toNat, (getN l p).2 + (getN l p).1)

theorem putT_out {l t : List Int} (h : 30 < t.length) : putT l t = l := by rw [putT, if_pos h]
theorem putT_in {l t : List Int} (h : ¬ 30 < t.length) : putT l t = l ++ putN t.length ++ t := by rw [putT, if_neg h]
theorem putT_len (l t : List Int) : (putT l t).length ≤ l.length + 40 := by
  unfold putT
  split
  · omega
  · have := putN_len t.length; simp; omega
theorem getT_out {l : List Int} {p : Int} (h : (getN l p).2 < 0 ∨ 30 < (getN l p).1 ∨ (l.length : Int) - (getN l p).2 < (getN l p).1) : getT l p = ([], -1) := by rw [getT, if_pos h]
theorem getT_in {l : List Int} {p : Int} {n k : Nat} (e : getN l p = ((n : Int), (k : Int))) (h1 : n ≤ 30) (h2 : k + n ≤ l.length) : getT l p = ((l.drop k).take n, (k : Int) + (n : Int)) := by
  rw [getT, e, if_neg (by simp only; omega)]
  simp

/-- What getN says is the refusal, or a number that may be and a place within the row behind its first byte. -/
theorem getN_cases {l : List Int} (hok : okB l) (p : Int) : getN l p = (0, -1) ∨ ∃ n k : Nat, getN l p = ((n : Int), (k : Int)) ∧ n ≤ 2147483647 ∧ 1 ≤ k ∧ k ≤ l.length := by
  by_cases h0 : p < 0
  · exact .inl (getN_neg h0)
  · obtain ⟨p, rfl⟩ := Int.eq_ofNat_of_zero_le (show 0 ≤ p by omega)
    cases hq : num (l.drop p) with
    | none => exact .inl (getN_none hq)
    | some y =>
      obtain ⟨n, k⟩ := y
      obtain ⟨a1, a2, a3, a4, a5⟩ := num_some (hok.drop p) hq
      right
      have hlen : (l.drop p).length = l.length - p := by simp
      refine ⟨n.toNat, p + k, ?_, by omega, by omega, by omega⟩
      rw [getN_some hq]
      simp only [Prod.mk.injEq]
      omega

/-- A slice cut out of a row can be read. -/
theorem Byt.cut2 {w : World} {b off cap p n : Nat} {l : List Int} (hok : okB l) (hm : l.length ≤ maxLen) (hp : p + n ≤ l.length) (hlc : l.length ≤ cap) (hcm : cap ≤ maxLen) (hb : b < w.heap.size)
    (hc : ∀ i, i < l.length → w.cell? ⟨b, off + i, none⟩ = some (.int .u8 (l.getD i 0))) : Byt w (.slice (some ⟨b, off + p, none⟩) n (cap - p)) ((l.drop p).take n) := by
  have hl : ((l.drop p).take n).length = n := by simp; omega
  refine ⟨(hok.drop p).take n, by omega, .inr ?_⟩
  by_cases h0 : n = 0
  · subst h0
    exact .inl ⟨⟨b, off + p, none⟩, cap - p, rfl, by omega, by simp⟩
  · refine .inr ⟨b, off + p, cap - p, by rw [hl], by omega, by omega, fun e => by rw [e] at hl; simp at hl; omega, hb, fun i hi => ?_⟩
    rw [Nat.add_assoc, hc (p + i) (by omega), List.getD_eq_getElem?_getD, List.getD_eq_getElem?_getD, List.getElem?_take, if_pos (by omega), List.getElem?_drop]

end Go.Proofs.YtkmmhlimihkgfaaGreat

/- What was put is got, what is got was put: numbers and texts as rows of bytes, in plain mathematics. -/
namespace Go.Proofs.YtkmmhlimihkgfaaGreat

theorem mod_part {n : Int} : (n % 128 + 128) % 128 = n % 128 := by omega

/-- The bytes of n, whatever stands behind them, are read as n. -/
theorem go_back (f i : Nat) (acc n : Int) (r : List Int) (h0 : 0 ≤ n) (h1 : n < sc (f + 1)) (hif : i + f = 4) (ha : 0 ≤ acc) (hmax : acc + n * sc i ≤ 2147483647) (hn : 0 < i → 0 < n) :
    numGo (f + 1) (putGo f n ++ r) i acc = some (acc + n * sc i, i + (putGo f n).length) := by
  induction f generalizing i acc n with
  | zero =>
    have h2 : n < 128 := h1
    rw [show putGo 0 n ++ r = n :: r from rfl, numGo_end h2]
    · rw [show n % 128 = n by omega]; simp [putGo]
    · rw [show n % 128 = n by omega]
      intro hc
      rcases hc with ⟨e, hi⟩ | hc
      · have := hn hi; omega
      · omega
  | succ f ih =>
    by_cases hb : 127 < n
    · rw [putGo_on hb, List.cons_append, numGo_on (by omega), mod_part]
      have hs := sc_step i (by omega)
      have hss := sc_step (f + 1) (by omega)
      have hpos := (sc_le i).1
      have e : acc + n % 128 * sc i + n / 128 * sc (i + 1) = acc + n * sc i := by
        rw [hs]
        have hd : n = n / 128 * 128 + n % 128 := by omega
        have : n * sc i = (n / 128 * 128 + n % 128) * sc i := by rw [← hd]
        rw [this, Int.add_mul, Int.mul_comm (sc i) 128, ← Int.mul_assoc]
        omega
      have hm0 : 0 ≤ n % 128 * sc i := Int.mul_nonneg (by omega) (by omega)
      rw [ih (i + 1) (acc + n % 128 * sc i) (n / 128) (by omega) (by omega) (by omega) (by omega) (by rw [e]; exact hmax) (by omega), e]
      simp only [List.length_cons, Option.some.injEq, Prod.mk.injEq, true_and]
      omega
    · have h2 : n < 128 := by omega
      rw [putGo_end hb, List.cons_append, numGo_end h2]
      · rw [show n % 128 = n by omega]; simp
      · rw [show n % 128 = n by omega]
        intro hc
        rcases hc with ⟨e, hi⟩ | hc
        · have := hn hi; omega
        · omega

theorem num_back {n : Int} (h0 : 0 ≤ n) (h1 : n ≤ 2147483647) (r : List Int) : num (putN n ++ r) = some (n, (putN n).length) := by
  have h := go_back 4 0 0 n r h0 (by simp only [sc]; omega) rfl (Int.le_refl 0) (by simp only [sc]; omega) (by omega)
  simpa [num, putN, sc] using h

/-- Whatever bytes are read as a number are just its bytes. -/
theorem go_just (f i : Nat) (acc n : Int) (k : Nat) (r : List Int) (hok : okB r) (hif : i + f = 4) (h : numGo (f + 1) r i acc = some (n, k)) :
    ∃ q : Int, 0 ≤ q ∧ n = acc + q * sc i ∧ r.take (k - i) = putGo f q ∧ i < k ∧ (0 < i → 0 < q) := by
  induction f generalizing i acc r with
  | zero =>
    cases r with
    | nil => simp [numGo] at h
    | cons x r =>
      have hx := hok x (by simp)
      by_cases h1 : x < 128
      · by_cases h2 : (x = 0 ∧ 0 < i) ∨ 2147483647 < acc + x % 128 * sc i
        · rw [numGo_bad h1 h2] at h; cases h
        · rw [numGo_end h1 h2] at h
          simp only [Option.some.injEq, Prod.mk.injEq] at h
          obtain ⟨rfl, rfl⟩ := h
          refine ⟨x, hx.1, by rw [show x % 128 = x by omega], ?_, by omega, by omega⟩
          rw [show i + 1 - i = 1 by omega]; rfl
      · rw [numGo_on h1] at h; simp [numGo] at h
  | succ f ih =>
    cases r with
    | nil => simp [numGo] at h
    | cons x r =>
      have hx := hok x (by simp)
      by_cases h1 : x < 128
      · by_cases h2 : (x = 0 ∧ 0 < i) ∨ 2147483647 < acc + x % 128 * sc i
        · rw [numGo_bad h1 h2] at h; cases h
        · rw [numGo_end h1 h2] at h
          simp only [Option.some.injEq, Prod.mk.injEq] at h
          obtain ⟨rfl, rfl⟩ := h
          refine ⟨x, hx.1, by rw [show x % 128 = x by omega], ?_, by omega, by omega⟩
          rw [show i + 1 - i = 1 by omega, putGo_end (by omega)]; rfl
      · rw [numGo_on h1] at h
        obtain ⟨q, hq0, hqn, hqr, hik, hqp⟩ := ih (i + 1) _ r (fun y hy => hok y (by simp [hy])) (by omega) h
        have hq1 := hqp (by omega)
        have hs := sc_step i (by omega)
        refine ⟨x % 128 + q * 128, by omega, ?_, ?_, by omega, by omega⟩
        · rw [hqn, hs, Int.add_mul, Int.mul_comm (sc i) 128, ← Int.mul_assoc]; omega
        · rw [show k - i = (k - (i + 1)) + 1 by omega, List.take_succ_cons, hqr, putGo_on (by omega)]
          congr 1
          · omega
          · rw [show (x % 128 + q * 128) / 128 = q by omega]

theorem num_just {r : List Int} {n : Int} {k : Nat} (hok : okB r) (h : num r = some (n, k)) : r.take k = putN n := by
  obtain ⟨q, _, hqn, hqr, _, _⟩ := go_just 4 0 0 n k r hok rfl h
  have e : q = n := by simp only [sc] at hqn; omega
  rw [e] at hqr
  simpa [putN] using hqr

/-- A text that was put is got. -/
theorem getT_back {l t : List Int} (ht : t.length ≤ 30) : getT (putT l t) (l.length : Int) = (t, ((putT l t).length : Int)) := by
  have hp := putT_in (l := l) (t := t) (by omega)
  have hn := num_back (n := (t.length : Int)) (by omega) (by omega) t
  have e : getN (putT l t) (l.length : Int) = ((t.length : Int), ((l.length + (putN t.length).length : Nat) : Int)) := by
    rw [hp, List.append_assoc, getN_some (n := (t.length : Int)) (k := (putN t.length).length)]
    · simp
    · rw [List.drop_left]; exact hn
  rw [getT_in e ht (by rw [hp]; simp; omega)]
  rw [hp]
  have hd : (l ++ putN t.length ++ t).drop (l.length + (putN t.length).length) = t := by
    rw [← List.length_append, List.drop_left]
  rw [hd, List.take_of_length_le (Nat.le_refl _)]
  simp
  omega
end Go.Proofs.YtkmmhlimihkgfaaGreat

/- Operations as rows of bytes, in plain mathematics: what was put is got. -/
namespace Go.Proofs.YtkmmhlimihkgfaaGreat
set_option linter.unusedVariables false

/-- What lies at the place p of l and behind it is r. -/
def At (l : List Int) (p : Nat) (r : List Int) : Prop := p ≤ l.length ∧ l.drop p = r

theorem At.skip {l a r : List Int} {p : Nat} (h : At l p (a ++ r)) : At l (p + a.length) r := by
  obtain ⟨h1, h2⟩ := h
  have hl : l.length - p = a.length + r.length := by rw [← List.length_drop, h2, List.length_append]
  refine ⟨by omega, ?_⟩
  rw [← List.drop_drop, h2, List.drop_left]

theorem num_at {l r : List Int} {p : Nat} {n : Int} (h : At l p (putN n ++ r)) (h0 : 0 ≤ n) (h1 : n ≤ 2147483647) : ∃ q : Nat, getN l (p : Int) = (n, (q : Int)) ∧ At l q r := by
  refine ⟨p + (putN n).length, ?_, h.skip⟩
  rw [getN_some (n := n) (k := (putN n).length)]
  · simp
  · rw [h.2]; exact num_back h0 h1 r

theorem text_at {l r t : List Int} {p : Nat} (h : At l p (putN t.length ++ (t ++ r))) (ht : t.length ≤ 30) : ∃ q : Nat, getT l (p : Int) = (t, (q : Int)) ∧ At l q r := by
  obtain ⟨q, e, hq⟩ := num_at h (by omega) (by omega)
  have hs := hq.skip
  refine ⟨q + t.length, ?_, hs⟩
  rw [getT_in e ht hs.1, hq.2, List.take_left]
  simp

theorem text_end {l t : List Int} {p : Nat} (h : At l p (putN t.length ++ t)) (ht : t.length ≤ 30) : ∃ q : Nat, getT l (p : Int) = (t, (q : Int)) ∧ At l q [] :=
  text_at (r := []) (by rw [List.append_nil]; exact h) ht

/-- The numbers of k, one behind the other. -/
def putNs (l : List Int) : List Int → List Int
  | [] => l
  | x :: k => putNs (putAll l x) k
def putId (l : List Int) (n r : Int) : List Int := putAll (putAll l n) r
def putKey (l k : List Int) : List Int := putNs (putAll l k.length) k
def opHd (o : OpV) : List Int := putId (putAll [] o.kind) o.atN o.atR
def opBytes (o : OpV) : List Int :=
  if o.kind = 0 then putT (putT (putAll (putKey (putId (opHd o) o.parN o.parR) o.key) o.elem) o.name) o.text
  else if o.kind = 1 then putKey (putId (putId (opHd o) o.nodeN o.nodeR) o.parN o.parR) o.key
  else if o.kind = 2 then putT (putId (opHd o) o.nodeN o.nodeR) o.text
  else if o.gone then putAll (putT (putId (opHd o) o.nodeN o.nodeR) o.name) 1
  else putT (putAll (putT (putId (opHd o) o.nodeN o.nodeR) o.name) 0) o.text

def inR (n : Int) : Prop := 0 ≤ n ∧ n ≤ 2147483647
def keyR (k : List Int) : Prop := k.length ≤ 12 ∧ ∀ x ∈ k, inR x

def flatN : List Int → List Int
  | [] => []
  | x :: k => putN x ++ flatN k

theorem putNs_in {k : List Int} (h : ∀ x ∈ k, inR x) (l : List Int) : putNs l k = l ++ flatN k := by
  induction k generalizing l with
  | nil => simp [putNs, flatN]
  | cons x k ih =>
    have hx := h x (by simp)
    rw [putNs, putAll_in hx.1 hx.2, ih (fun y hy => h y (by simp [hy])), flatN, List.append_assoc]
theorem putId_in {n r : Int} (hn : inR n) (hr : inR r) (l : List Int) : putId l n r = l ++ (putN n ++ putN r) := by
  rw [putId, putAll_in hr.1 hr.2, putAll_in hn.1 hn.2, List.append_assoc]
theorem putKey_in {k : List Int} (h : keyR k) (l : List Int) : putKey l k = l ++ (putN k.length ++ flatN k) := by
  rw [putKey, putNs_in h.2, putAll_in (by omega) (by have := h.1; omega), List.append_assoc]
theorem putT_in' {t : List Int} (h : t.length ≤ 30) (l : List Int) : putT l t = l ++ (putN t.length ++ t) := by
  rw [putT_in (by omega), List.append_assoc]
theorem putAll_in' {n : Int} (h : inR n) (l : List Int) : putAll l n = l ++ putN n := putAll_in h.1 h.2

/-- What an operation that may be has. -/
theorem opB_facts {o : OpV} (h : opB o = true) :
    (inR o.atN ∧ inR o.atR) ∧ o.text.length ≤ 30 ∧
    ((o.kind = 0 ∧ (o.nodeN = 0 ∧ o.nodeR = 0) ∧ (inR o.parN ∧ inR o.parR) ∧ keyR o.key ∧ inR o.elem ∧ o.name.length ≤ 30 ∧ o.gone = false) ∨
     (o.kind = 1 ∧ (inR o.nodeN ∧ inR o.nodeR) ∧ (inR o.parN ∧ inR o.parR) ∧ keyR o.key ∧ o.elem = 0 ∧ o.name = [] ∧ o.text = [] ∧ o.gone = false) ∨
     (o.kind = 2 ∧ (inR o.nodeN ∧ inR o.nodeR) ∧ (o.parN = 0 ∧ o.parR = 0) ∧ o.key = [] ∧ o.elem = 0 ∧ o.name = [] ∧ o.gone = false) ∨
     (o.kind = 3 ∧ (inR o.nodeN ∧ inR o.nodeR) ∧ (o.parN = 0 ∧ o.parR = 0) ∧ o.key = [] ∧ o.elem = 0 ∧ o.name.length ≤ 30 ∧ (o.gone = true → o.text = []))) := by
  have idF : ∀ n r, idB n r = true → inR n ∧ inR r := by
    intro n r hi
    unfold idB at hi
    unfold inR
    simp only [Bool.and_eq_true, Bool.or_eq_true, decide_eq_true_eq] at hi
    omega
  have zF : ∀ n r, zeroB n r = true → n = 0 ∧ r = 0 := by
    intro n r hi
    unfold zeroB at hi
    simpa using hi
  have kF : ∀ k, keyB k = true → keyR k := by
    intro k hk
    obtain ⟨h1, h2, h3, h4⟩ := (keyB_iff k).1 hk
    refine ⟨h2, fun x hx => ?_⟩
    obtain ⟨i, hi, rfl⟩ := List.getElem_of_mem hx
    have := h4 i hi
    unfold keyCh at this
    unfold inR
    rw [getD_at hi] at this
    omega
  have nF : ∀ k, nameB k = true → k.length ≤ 30 := by
    intro k hk
    obtain ⟨h1, h2, h3⟩ := (nameB_iff k).1 hk
    omega
  have l0 : ∀ k : List Int, ((k.length : Int) == 0) = true → k = [] := by
    intro k hk
    simp at hk
    exact hk
  have hh : opHeadB o = false := by
    cases hc : opHeadB o
    · rfl
    · unfold opB at h; rw [hc] at h; simp at h
  unfold opB at h
  rw [hh] at h
  unfold opHeadB at hh
  simp only [Bool.or_eq_false_iff, decide_eq_false_iff_not, Bool.not_eq_false'] at hh
  obtain ⟨q1, q2, q3, q4, q5, q6, q7⟩ := hh
  have ht := ((textB_iff _).1 q7).1
  refine ⟨⟨⟨by omega, by omega⟩, ⟨by omega, by omega⟩⟩, ht, ?_⟩
  simp only [Bool.false_eq_true, if_false] at h
  by_cases k0 : o.kind = 0
  · left
    rw [if_pos (by simp [k0])] at h
    unfold opNewB at h
    by_cases hc : (!zeroB o.nodeN o.nodeR || (!idB o.parN o.parR || (!keyB o.key || o.gone))) = true
    · rw [if_pos hc] at h; cases h
    rw [if_neg hc] at h
    simp only [Bool.or_eq_true, not_or, Bool.not_eq_true', Bool.not_eq_false, Bool.not_eq_true] at hc
    obtain ⟨c1, c2, c3, c4⟩ := hc
    refine ⟨k0, zF _ _ c1, idF _ _ c2, kF _ c3, ?_⟩
    by_cases e1 : o.elem = 1
    · rw [if_pos (by simp [e1])] at h
      exact ⟨⟨by omega, by omega⟩, by rw [l0 _ h]; simp, c4⟩
    · rw [if_neg (by simp [e1])] at h
      simp only [Bool.and_eq_true] at h
      have e0 : o.elem = 0 := by simpa using h.1
      exact ⟨⟨by omega, by omega⟩, nF _ h.2.1, c4⟩
  · right
    rw [if_neg (by simp [k0])] at h
    by_cases k1 : o.kind = 1
    · left
      rw [if_pos (by simp [k1])] at h
      unfold opMoveB at h
      simp only [Bool.and_eq_true, Bool.not_eq_true'] at h
      obtain ⟨c1, c2, c3, c4, c5, c6, c7⟩ := h
      exact ⟨k1, idF _ _ c1, idF _ _ c2, kF _ c3, by simpa using c4, l0 _ c5, l0 _ c6, c7⟩
    · right
      rw [if_neg (by simp [k1])] at h
      unfold opRestB at h
      by_cases hc : (!idB o.nodeN o.nodeR || (!zeroB o.parN o.parR || (decide (0 < (o.key.length : Int)) || !(o.elem == 0)))) = true
      · rw [if_pos hc] at h; cases h
      rw [if_neg hc] at h
      simp only [Bool.or_eq_true, not_or, Bool.not_eq_true', Bool.not_eq_false, decide_eq_true_eq] at hc
      obtain ⟨c1, c2, c3, c4⟩ := hc
      have ck : o.key = [] := List.eq_nil_of_length_eq_zero (by omega)
      have ce : o.elem = 0 := by simpa using c4
      by_cases k2 : o.kind = 2
      · left
        rw [if_pos (by simp [k2])] at h
        simp only [Bool.and_eq_true, Bool.not_eq_true'] at h
        exact ⟨k2, idF _ _ c1, zF _ _ c2, ck, ce, l0 _ h.1, h.2⟩
      · right
        rw [if_neg (by simp [k2])] at h
        simp only [Bool.and_eq_true, Bool.or_eq_true, Bool.not_eq_true'] at h
        refine ⟨by omega, idF _ _ c1, zF _ _ c2, ck, ce, nF _ h.1, fun hg => ?_⟩
        rcases h.2 with h' | h'
        · rw [hg] at h'; cases h'
        · exact l0 _ h'

def rdId (l : List Int) (p : Int) : (Int × Int) × Int := (((getN l p).1, (getN l (getN l p).2).1), (getN l (getN l p).2).2)
/-- n numbers, whatever is there. -/
def rdMany (l : List Int) : Nat → Int → List Int × Int
  | 0, p => ([], p)
  | n + 1, p => ((getN l p).1 :: (rdMany l n (getN l p).2).1, (rdMany l n (getN l p).2).2)
/-- At most n numbers, as long as something is there. -/
def rdSome (l : List Int) : Nat → Int → List Int × Int
  | 0, p => ([], p)
  | n + 1, p => if p < 0 then ([], p) else ((getN l p).1 :: (rdSome l n (getN l p).2).1, (rdSome l n (getN l p).2).2)
def rdKeyI (l : List Int) (p : Int) : List Int × Int := rdMany l (min (getN l p).1 12).toNat (getN l p).2
def rdKeyS (l : List Int) (p : Int) : List Int × Int := rdSome l (min (getN l p).1 13).toNat (getN l p).2

theorem id_at {l r : List Int} {p : Nat} {n m : Int} (h : At l p (putN n ++ (putN m ++ r))) (h0 : inR n) (h1 : inR m) : ∃ q : Nat, rdId l (p : Int) = ((n, m), (q : Int)) ∧ At l q r := by
  obtain ⟨q, e, hq⟩ := num_at h h0.1 h0.2
  obtain ⟨q', e', hq'⟩ := num_at hq h1.1 h1.2
  refine ⟨q', ?_, hq'⟩
  unfold rdId
  rw [e, e']
theorem many_at {l r k : List Int} {p : Nat} (h : At l p (flatN k ++ r)) (hk : ∀ x ∈ k, inR x) : ∃ q : Nat, rdMany l k.length (p : Int) = (k, (q : Int)) ∧ At l q r := by
  induction k generalizing p with
  | nil => exact ⟨p, rfl, h⟩
  | cons x k ih =>
    rw [flatN, List.append_assoc] at h
    have hx := hk x (by simp)
    obtain ⟨q, e, hq⟩ := num_at h hx.1 hx.2
    obtain ⟨q', e', hq'⟩ := ih hq (fun y hy => hk y (by simp [hy]))
    refine ⟨q', ?_, hq'⟩
    rw [List.length_cons, rdMany, e, e']
theorem some_atM {l r k : List Int} {p : Nat} (h : At l p (flatN k ++ r)) (hk : ∀ x ∈ k, inR x) : ∃ q : Nat, rdSome l k.length (p : Int) = (k, (q : Int)) ∧ At l q r := by
  induction k generalizing p with
  | nil => exact ⟨p, rfl, h⟩
  | cons x k ih =>
    rw [flatN, List.append_assoc] at h
    have hx := hk x (by simp)
    obtain ⟨q, e, hq⟩ := num_at h hx.1 hx.2
    obtain ⟨q', e', hq'⟩ := ih hq (fun y hy => hk y (by simp [hy]))
    refine ⟨q', ?_, hq'⟩
    rw [List.length_cons, rdSome, if_neg (by omega), e, e']

/-- A reader of keys that gets what was put. -/
def KeyBack (K : List Int → Int → List Int × Int) : Prop := ∀ (l r k : List Int) (p : Nat), At l p (putN k.length ++ (flatN k ++ r)) → keyR k → ∃ q : Nat, K l (p : Int) = (k, (q : Int)) ∧ At l q r
theorem keyI_back : KeyBack rdKeyI := by
  intro l r k p h hk
  have h12 := hk.1
  obtain ⟨q, e, hq⟩ := num_at h (by omega) (by omega)
  unfold rdKeyI
  rw [e]
  have em : (min (k.length : Int) 12).toNat = k.length := by omega
  simp only [em]
  exact many_at hq hk.2
theorem keyS_back : KeyBack rdKeyS := by
  intro l r k p h hk
  have h12 := hk.1
  obtain ⟨q, e, hq⟩ := num_at h (by omega) (by omega)
  unfold rdKeyS
  rw [e]
  have em : (min (k.length : Int) 13).toNat = k.length := by omega
  simp only [em]
  exact some_atM hq hk.2

/-- The parts behind the stamp, by kind, from the place p on. -/
def rdRest (K : List Int → Int → List Int × Int) (l : List Int) (k n r p : Int) : OpV × Int :=
  if k = 0 then (⟨k, n, r, 0, 0, (rdId l p).1.1, (rdId l p).1.2, (K l (rdId l p).2).1, (getN l (K l (rdId l p).2).2).1, (getT l (getN l (K l (rdId l p).2).2).2).1, (getT l (getT l (getN l (K l (rdId l p).2).2).2).2).1, false⟩, (getT l (getT l (getN l (K l (rdId l p).2).2).2).2).2)
  else if k = 1 then (⟨k, n, r, (rdId l p).1.1, (rdId l p).1.2, (rdId l (rdId l p).2).1.1, (rdId l (rdId l p).2).1.2, (K l (rdId l (rdId l p).2).2).1, 0, [], [], false⟩, (K l (rdId l (rdId l p).2).2).2)
  else if k = 2 then (⟨k, n, r, (rdId l p).1.1, (rdId l p).1.2, 0, 0, [], 0, [], (getT l (rdId l p).2).1, false⟩, (getT l (rdId l p).2).2)
  else if k = 3 then
    if (getN l (getT l (rdId l p).2).2).1 = 1 then (⟨k, n, r, (rdId l p).1.1, (rdId l p).1.2, 0, 0, [], 0, (getT l (rdId l p).2).1, [], true⟩, (getN l (getT l (rdId l p).2).2).2)
    else (⟨k, n, r, (rdId l p).1.1, (rdId l p).1.2, 0, 0, [], 0, (getT l (rdId l p).2).1, (getT l (getN l (getT l (rdId l p).2).2).2).1, false⟩, (getT l (getN l (getT l (rdId l p).2).2).2).2)
  else (⟨k, n, r, 0, 0, 0, 0, [], 0, [], [], false⟩, p)
def opRd (K : List Int → Int → List Int × Int) (l : List Int) : OpV × Int := rdRest K l (getN l 0).1 (rdId l (getN l 0).2).1.1 (rdId l (getN l 0).2).1.2 (rdId l (getN l 0).2).2

theorem opRd_back {K : List Int → Int → List Int × Int} (hK : KeyBack K) (o : OpV) (h : opB o = true) : opRd K (opBytes o) = (o, ((opBytes o).length : Int)) := by
  obtain ⟨⟨a1, a2⟩, ht, hc⟩ := opB_facts h
  obtain ⟨l, hl⟩ : ∃ l, l = opBytes o := ⟨_, rfl⟩
  rw [← hl]
  have hst : At l 0 l := ⟨by omega, rfl⟩
  have hend : ∀ q : Nat, At l q [] → (q : Int) = (l.length : Int) := by
    intro q ⟨h1, h2⟩
    have := List.length_drop (i := q) (l := l)
    rw [h2, List.length_nil] at this
    omega
  obtain ⟨kind, atN, atR, nodeN, nodeR, parN, parR, key, elem, name, text, gone⟩ := o
  unfold opBytes opHd at hl
  unfold opRd rdRest
  simp only at *
  rcases hc with ⟨rfl, ⟨rfl, rfl⟩, ⟨c1, c2⟩, ck, ce, cn, rfl⟩ | ⟨rfl, ⟨n1, n2⟩, ⟨c1, c2⟩, ck, rfl, rfl, rfl, rfl⟩ | ⟨rfl, ⟨n1, n2⟩, ⟨rfl, rfl⟩, rfl, rfl, rfl, rfl⟩ | ⟨rfl, ⟨n1, n2⟩, ⟨rfl, rfl⟩, rfl, rfl, cn, cg⟩
  · rw [if_pos rfl, putT_in' ht, putT_in' cn, putAll_in' ce, putKey_in ck, putId_in c1 c2, putId_in a1 a2, putAll_in' (show inR 0 from ⟨by decide, by decide⟩)] at hl
    simp only [List.nil_append, List.append_assoc] at hl
    conv at hst => arg 3; rw [hl]
    obtain ⟨q0, e0, h0⟩ := num_at hst (by decide) (by decide)
    obtain ⟨q1, e1, h1⟩ := id_at h0 a1 a2
    obtain ⟨q2, e2, h2⟩ := id_at h1 c1 c2
    obtain ⟨q3, e3, h3⟩ := hK _ _ _ _ h2 ck
    obtain ⟨q4, e4, h4⟩ := num_at h3 ce.1 ce.2
    obtain ⟨q5, e5, h5⟩ := text_at h4 cn
    obtain ⟨q6, e6, h6⟩ := text_end h5 ht
    have e0' : getN l 0 = (0, (q0 : Int)) := e0
    simp only [e0', e1, e2, e3, e4, e5, e6, hend _ h6, if_true]
  · rw [if_neg (by decide), if_pos rfl, putKey_in ck, putId_in c1 c2, putId_in n1 n2, putId_in a1 a2, putAll_in' (show inR 1 from ⟨by decide, by decide⟩)] at hl
    simp only [List.nil_append, List.append_assoc] at hl
    conv at hst => arg 3; rw [hl, ← List.append_nil (flatN key)]
    obtain ⟨q0, e0, h0⟩ := num_at hst (by decide) (by decide)
    obtain ⟨q1, e1, h1⟩ := id_at h0 a1 a2
    obtain ⟨q2, e2, h2⟩ := id_at h1 n1 n2
    obtain ⟨q3, e3, h3⟩ := id_at h2 c1 c2
    obtain ⟨q4, e4, h4⟩ := hK _ _ _ _ h3 ck
    have e0' : getN l 0 = (1, (q0 : Int)) := e0
    simp only [e0', e1, e2, e3, e4, hend _ h4, if_true]
    rw [if_neg (by decide)]
  · rw [if_neg (by decide), if_neg (by decide), if_pos rfl, putT_in' ht, putId_in n1 n2, putId_in a1 a2, putAll_in' (show inR 2 from ⟨by decide, by decide⟩)] at hl
    simp only [List.nil_append, List.append_assoc] at hl
    conv at hst => arg 3; rw [hl]
    obtain ⟨q0, e0, h0⟩ := num_at hst (by decide) (by decide)
    obtain ⟨q1, e1, h1⟩ := id_at h0 a1 a2
    obtain ⟨q2, e2, h2⟩ := id_at h1 n1 n2
    obtain ⟨q3, e3, h3⟩ := text_end h2 ht
    have e0' : getN l 0 = (2, (q0 : Int)) := e0
    simp only [e0', e1, e2, e3, hend _ h3, if_true]
    rw [if_neg (by decide), if_neg (by decide)]
  · rw [if_neg (by decide), if_neg (by decide), if_neg (by decide)] at hl
    cases gone
    · rw [if_neg (by decide), putT_in' ht, putAll_in' (show inR 0 from ⟨by decide, by decide⟩), putT_in' cn, putId_in n1 n2, putId_in a1 a2, putAll_in' (show inR 3 from ⟨by decide, by decide⟩)] at hl
      simp only [List.nil_append, List.append_assoc] at hl
      conv at hst => arg 3; rw [hl]
      obtain ⟨q0, e0, h0⟩ := num_at hst (by decide) (by decide)
      obtain ⟨q1, e1, h1⟩ := id_at h0 a1 a2
      obtain ⟨q2, e2, h2⟩ := id_at h1 n1 n2
      obtain ⟨q3, e3, h3⟩ := text_at h2 cn
      obtain ⟨q4, e4, h4⟩ := num_at h3 (by decide) (by decide)
      obtain ⟨q5, e5, h5⟩ := text_end h4 ht
      have e0' : getN l 0 = (3, (q0 : Int)) := e0
      simp only [e0', e1, e2, e3, e4, e5, hend _ h5, if_true]
      rw [if_neg (by decide), if_neg (by decide), if_neg (by decide), if_neg (by decide)]
    · obtain rfl := cg rfl
      rw [if_pos rfl, putAll_in' (show inR 1 from ⟨by decide, by decide⟩), putT_in' cn, putId_in n1 n2, putId_in a1 a2, putAll_in' (show inR 3 from ⟨by decide, by decide⟩)] at hl
      simp only [List.nil_append, List.append_assoc] at hl
      conv at hst => arg 3; rw [hl, ← List.append_nil (putN 1)]
      obtain ⟨q0, e0, h0⟩ := num_at hst (by decide) (by decide)
      obtain ⟨q1, e1, h1⟩ := id_at h0 a1 a2
      obtain ⟨q2, e2, h2⟩ := id_at h1 n1 n2
      obtain ⟨q3, e3, h3⟩ := text_at h2 cn
      obtain ⟨q4, e4, h4⟩ := num_at h3 (by decide) (by decide)
      have e0' : getN l 0 = (3, (q0 : Int)) := e0
      simp only [e0', e1, e2, e3, e4, hend _ h4, if_true]
      rw [if_neg (by decide), if_neg (by decide), if_neg (by decide)]

def zeroV : OpV := ⟨0, 0, 0, 0, 0, 0, 0, [], 0, [], [], false⟩
/-- The operation whose bytes l are. -/
def readOk (l : List Int) : Bool := opB (opRd rdKeyI l).1 && (opBytes (opRd rdKeyI l).1 == l)
def readV (l : List Int) : OpV := if readOk l then (opRd rdKeyI l).1 else zeroV
def readSOk (l : List Int) : Bool := (opRd rdKeyS l).2 == (l.length : Int) && (opB (opRd rdKeyS l).1 && (opBytes (opRd rdKeyS l).1 == l))

theorem read_one {K K' : List Int → Int → List Int × Int} (hK' : KeyBack K') {l : List Int} (h : opB (opRd K l).1 = true) (hb : opBytes (opRd K l).1 = l) : opRd K' l = ((opRd K l).1, (l.length : Int)) := by
  have := opRd_back hK' _ h
  rw [hb] at this
  exact this
theorem readS_ok (l : List Int) : readSOk l = readOk l := by
  rw [Bool.eq_iff_iff]
  unfold readSOk readOk
  simp only [Bool.and_eq_true, beq_iff_eq]
  constructor
  · rintro ⟨_, h1, h2⟩
    rw [read_one keyI_back h1 h2]
    exact ⟨h1, h2⟩
  · rintro ⟨h1, h2⟩
    rw [read_one keyS_back h1 h2]
    exact ⟨rfl, h1, h2⟩
theorem readS_v {l : List Int} (h : readOk l = true) : (opRd rdKeyS l).1 = (opRd rdKeyI l).1 := by
  unfold readOk at h
  simp only [Bool.and_eq_true, beq_iff_eq] at h
  rw [read_one keyS_back h.1 h.2]
theorem read_just {l : List Int} (h : readOk l = true) : opB (readV l) = true ∧ opBytes (readV l) = l := by
  unfold readV
  rw [if_pos h]
  unfold readOk at h
  simpa only [Bool.and_eq_true, beq_iff_eq] using h
theorem read_back {o : OpV} (h : opB o = true) : readOk (opBytes o) = true ∧ readV (opBytes o) = o := by
  have e := opRd_back keyI_back o h
  have hr : readOk (opBytes o) = true := by
    unfold readOk
    rw [e]
    simp [h]
  refine ⟨hr, ?_⟩
  unfold readV
  rw [if_pos hr, e]

end Go.Proofs.YtkmmhlimihkgfaaGreat

/- spec.PutNum answers what the plain function putAll says. -/
namespace Go.Proofs.YtkmmhlimihkgfaaGreat
open Go.RowKit
set_option linter.unusedVariables false

set_option maxHeartbeats 1600000 in
theorem putS_out (w : World) (v : Value) (l : List Int) (n : Int) (h : Byt w v l) (hl : l.length ≤ 67108864) (hn : n < 0 ∨ 2147483647 < n) :
    Calls Tryz.prog 129 #[v, .int .i64 n] w fun e w' => ∃ v', e = .returned v' ∧ Own w' w.heap.size v' l ∧ Below w.heap.size w w' := by
  go_enter Tryz.func129, Tryz.ntmps129
  go_wp2_with (at_builtin; refine wpList_app rfl _ _ rfl w.heap.size _ [] rfl (own_none w) v l rfl (h.alloc _) ?c1 ?c2 ?_)
  case c1 => first | omega | (simp; omega)
  case c2 => simp
  intro v1 w1 ho1 hg1
  have hB1 : Below w.heap.size w w1 := bstepBy ((Below.refl _ _).alloc (Nat.le_refl _) _) hg1 (fun g hg => by simp [Value.ownBlock] at hg; omega)
  clear hg1
  by_cases hneg : n < 0
  · go_wp2
    go_ret
    exact ⟨_, rfl, ho1, hB1⟩
  · have h2 : 2147483647 < n := by omega
    have h3 : decide (n < 0) = false := by simpa using hneg
    go_wp2
    go_ret
    exact ⟨_, rfl, ho1, hB1⟩

set_option maxHeartbeats 1600000 in
theorem putS_in (w : World) (v : Value) (l : List Int) (n : Int) (h : Byt w v l) (hl : l.length ≤ 67108864) (hn0 : 0 ≤ n) (hn1 : n ≤ 2147483647) :
    Calls Tryz.prog 129 #[v, .int .i64 n] w fun e w' => ∃ v', e = .returned v' ∧ Own w' w.heap.size v' (l ++ putN n) ∧ Below w.heap.size w w' := by
  have h3 : decide (n < 0) = false := by simp; omega
  go_enter Tryz.func129, Tryz.ntmps129
  go_wp2_with (at_builtin; refine wpList_app rfl _ _ rfl w.heap.size _ [] rfl (own_none w) v l rfl (h.alloc _) ?c1 ?c2 ?_)
  case c1 => first | omega | (simp; omega)
  case c2 => simp
  intro v1 w1 ho1 hg1
  have hB1 : Below w.heap.size w w1 := bstepBy ((Below.refl _ _).alloc (Nat.le_refl _) _) hg1 (fun g hg => by simp [Value.ownBlock] at hg; omega)
  clear hg1
  go_wp2
  go_loopw [1, 5] (fun m u wr => ∃ (f : Nat) (k : Int) (pre : List Int), f ≤ 4 ∧ m = .int .i64 k ∧ 0 ≤ k ∧ k ≤ 2147483647 ∧ k < sc (f + 1) ∧ Own wr w.heap.size u (l ++ pre) ∧ pre.length ≤ 4 ∧ pre.length + f = 4 ∧ Hid (putN n = pre ++ putGo f k) ∧ Below w.heap.size w wr) (fun m _ _ => (intOf m).toNat)
  case atStart => exact ⟨4, n, [], by omega, rfl, hn0, hn1, by simp only [sc]; omega, by rw [List.append_nil]; exact ho1, by simp, by simp, hide rfl, hB1⟩
  case round =>
    obtain ⟨f, k, pre, hf, rfl, hk0, hk1, hk2, ho, hp, hpf, HP, hB⟩ := hrel
    clear ho1 hB1
    by_cases hk : 127 < k
    · cases f with
      | zero => simp [sc] at hk2; omega
      | succ f =>
        have hss := sc_step (f + 1) (by omega)
        have hk3 : k / 128 < sc (f + 1) := by omega
        clear hss hk2
        have HK3 := hide hk3
        clear hk3
        go_wp2_with (at_builtin; refine wpList_app rfl _ _ rfl w.heap.size _ (l ++ pre) rfl (ho.alloc _) _ [k % 128 + 128] rfl (byt_one wr (k % 128 + 128) (by omega) (by omega)) ?c1 ?c2 ?_)
        case c1 => first | omega | (simp; omega)
        case c2 => have := hB.size; first | omega | (simp; omega)
        intro v2 w2 ho2 hg2
        have hB2 : Below w.heap.size w w2 := bstepBy (hB.alloc hB.size _) hg2 ho.base_le
        go_wp2
        go_roundw
        case rel => exact ⟨f, k / 128, pre ++ [k % 128 + 128], by omega, rfl, by omega, by omega, unhide HK3, ho2, by simp; omega, by simp; omega, hide (by rw [unhide HP, putGo_on hk]; simp), hB2⟩
        case measure => simp [intOf]; omega
    · have HR := hide (show putN n = pre ++ [k] by rw [unhide HP, putGo_end hk])
      clear HP hk2
      have hk' : ¬ (127 : Int) < k := hk
      go_wp2_with (at_builtin; refine wpList_app rfl _ _ rfl w.heap.size _ (l ++ pre) rfl (ho.alloc _) _ [k] rfl (byt_one wr k (by omega) (by omega)) ?c1 ?c2 ?_)
      case c1 => first | omega | (simp; omega)
      case c2 => have := hB.size; first | omega | (simp; omega)
      intro v2 w2 ho2 hg2
      have hB2 : Below w.heap.size w w2 := bstepBy (hB.alloc hB.size _) hg2 ho.base_le
      go_wp2
      go_ret
      exact ⟨_, rfl, by rw [unhide HR]; exact ho2, hB2⟩

/-- spec.PutNum, whatever it is asked. -/
theorem putS_any (w : World) (v : Value) (l : List Int) (n : Int) (h : Byt w v l) (hl : l.length ≤ 67108864) :
    Calls Tryz.prog 129 #[v, .int .i64 n] w fun e w' => ∃ v', e = .returned v' ∧ Own w' w.heap.size v' (putAll l n) ∧ Below w.heap.size w w' := by
  by_cases hn : n < 0 ∨ 2147483647 < n
  · rw [putAll_out hn]; exact putS_out w v l n h hl hn
  · rw [putAll_in (by omega) (by omega)]; exact putS_in w v l n h hl (by omega) (by omega)

end Go.Proofs.YtkmmhlimihkgfaaGreat

/- slices.Grow of nothing and slices.Concat over rows of bytes, by their contracts. -/
namespace Go.Proofs.YtkmmhlimihkgfaaGreat
open Go.RowKit
set_option linter.unusedVariables false

theorem grow_nil (w : World) : Calls Tryz.prog 160 #[.slice none 0 0, .int .i64 0] w fun e w' => e = .returned (.slice none 0 0) ∧ w' = w := by
  go_enter Tryz.func160, Tryz.ntmps160
  go_wp2
  go_ret
  exact ⟨rfl, rfl⟩

set_option maxHeartbeats 1600000 in
theorem grow_some (w : World) (n : Nat) (h0 : 0 < n) (hn : n ≤ 134217728) :
    Calls Tryz.prog 160 #[.slice none 0 0, .int .i64 n] w fun e w' => ∃ v, e = .returned v ∧ w'.ownsRow w.heap.size 5 1 v 0 [] ∧ Below w.heap.size w w' := by
  obtain ⟨i0, hi, hz0, hz1, hz2⟩ := info_parts Tryz.info5
  obtain ⟨G, hG⟩ : ∃ G, G = grownCap w n 0 5 := ⟨_, rfl⟩
  have hGn : n ≤ G := by rw [hG]; exact grownCap_ge w _ _ _
  have hGm : G ≤ maxLen := by rw [hG]; exact grownCap_le_maxLen w _ _ _ (by unfold maxLen; omega)
  have hr := fun ty => Lib.run_append_nil_zeros w 22 3 ty 5 i0 (.int .u8 0) .i64 .i64 Tryz.underlying22 Tryz.underlying3 hi hz0 n h0 (by omega) (by omega) (by rw [hz2]; omega)
  rw [← hG] at hr
  obtain ⟨cs, hcs⟩ : ∃ cs, cs = Builtin.zeroCells (Value.int .u8 0).cells n ++ Builtin.zeroCells (Value.int .u8 0).cells (G - n) := ⟨_, rfl⟩
  have hsz : cs.size = G * 1 := by
    have h1 : (Value.int .u8 0).cells.size = 1 := rfl
    rw [hcs, Array.size_append, size_zeroCells, size_zeroCells, h1]; omega
  rw [← hcs] at hr
  clear hcs hG
  have hn0 : (0 : Int) < (n : Int) := by omega
  have hn1 : ¬ (n : Int) < 0 := by omega
  have hGz : G ≠ 0 := by omega
  have hGm' := hGm
  unfold maxLen at hGm'
  go_enter Tryz.func160, Tryz.ntmps160
  go_wp2_with (at_builtin; refine Lib.wpList_append_run _ rfl _ _ _ _ rfl _ _ rfl rfl _ _ (hr _) ?_)
  go_ret
  refine ⟨_, rfl, ?_, ((Below.refl _ _).drew).alloc (Nat.le_refl _) _⟩
  exact ⟨rfl, .inr ⟨w.heap.size, G, cs, rfl, Nat.le_refl _, heap_alloc_new w.drew _, Nat.zero_le _, hGm, hsz, by simp⟩⟩

theorem grow_any (w : World) (n : Nat) (hn : n ≤ 134217728) :
    Calls Tryz.prog 160 #[.slice none 0 0, .int .i64 n] w fun e w' => ∃ v, e = .returned v ∧ Own w' w.heap.size v [] ∧ Below w.heap.size w w' := by
  by_cases h0 : n = 0
  · subst h0
    refine (grow_nil w).mono ?_
    rintro e w' ⟨rfl, rfl⟩
    exact ⟨_, rfl, ⟨okB_nil, World.ownsRow_nil _ _ _ _⟩, Below.refl _ _⟩
  · refine (grow_some w n (by omega) hn).mono ?_
    rintro e w' ⟨v, rfl, h1, h2⟩
    exact ⟨_, rfl, ⟨okB_nil, h1⟩, h2⟩

/-- How many bytes the rows have together. -/
def sumLen (ls : List (List Int)) : Nat := (ls.map List.length).sum
theorem sumLen_take (ls : List (List Int)) (k : Nat) (h : k < ls.length) : sumLen (ls.take (k + 1)) = sumLen (ls.take k) + (ls[k]).length := by
  unfold sumLen
  rw [List.take_succ_eq_append_getElem h]
  simp only [List.map_append, List.sum_append, List.map_cons, List.map_nil, List.sum_cons, List.sum_nil, Nat.add_zero]
theorem sumLen_le (ls : List (List Int)) (k : Nat) : sumLen (ls.take k) ≤ sumLen ls := by
  have h : sumLen ls = sumLen (ls.take k) + sumLen (ls.drop k) := by
    unfold sumLen
    rw [← List.sum_append, ← List.map_append, List.take_append_drop]
  omega
theorem flatten_take (ls : List (List Int)) (k : Nat) (h : k < ls.length) : (ls.take (k + 1)).flatten = (ls.take k).flatten ++ ls[k] := by
  rw [List.take_succ_eq_append_getElem h]
  simp only [List.flatten_append, List.flatten_cons, List.flatten_nil, List.append_nil]
theorem flatten_len (ls : List (List Int)) : ls.flatten.length = sumLen ls := by unfold sumLen; rw [List.length_flatten]

set_option maxHeartbeats 1600000 in
theorem concat_any (w : World) (b off cap : Nat) (n : Nat) (vs : List Value) (ls : List (List Int)) (hn : n = ls.length) (hn1 : n ≤ 1000) (hb : b < w.heap.size)
    (hc : ∀ i, i < n → w.cell? ⟨b, off + i, none⟩ = some (vs.getD i undef)) (hv : ∀ i, i < n → Byt w (vs.getD i undef) (ls.getD i [])) (hs : sumLen ls ≤ 67108864) :
    Calls Tryz.prog 153 #[.slice (some ⟨b, off, none⟩) n cap] w fun e w' => ∃ v, e = .returned v ∧ Own w' w.heap.size v ls.flatten ∧ Below w.heap.size w w' := by
  have HN := hide hn
  clear hn
  go_enter Tryz.func153, Tryz.ntmps153
  go_wp2
  go_loop [3, 11] (fun s i => ∃ k : Nat, k ≤ n ∧ i = .int .i64 k ∧ s = .int .i64 (sumLen (ls.take k) : Nat)) (fun _ i => n - (intOf i).toNat)
  case atStart => exact ⟨0, Nat.zero_le _, rfl, rfl⟩
  case round =>
    obtain ⟨k, hk, rfl, rfl⟩ := hrel
    by_cases hlt : k < n
    · have hkl : k < ls.length := by have := unhide HN; omega
      have hvk := hv k hlt
      have hck := hc k hlt
      obtain ⟨a, c, hsh, hl1, hl2⟩ := hvk.shape
      rw [hsh] at hck
      have hqm : sumLen (ls.take (k + 1)) = sumLen (ls.take k) + (ls.getD k []).length := by rw [sumLen_take ls k hkl]; simp [hkl]
      have hle := sumLen_le ls (k + 1)
      rw [hqm] at hle
      generalize sumLen (ls.take k) = q at *
      generalize (ls.getD k []).length = m at *
      have HQ := hide hqm
      have hlt' : (k : Int) < (n : Int) := by omega
      have hpos : ¬ ((q : Int) + (m : Int)) < 0 := by omega
      clear hqm hvk hsh hc hv
      go_wp2
      go_round
      case rel => exact ⟨k + 1, by omega, by go_num, by rw [unhide HQ]; go_num⟩
      case measure => simp [intOf]; omega
    · have e : k = n := by omega
      subst e
      have hall : ls.take k = ls := List.take_of_length_le (by have := unhide HN; omega)
      rw [hall]
      clear hall
      go_wp2_with fail
      refine (grow_any w (sumLen ls) (by omega)).mono ?_
      rintro e w1 ⟨v1, rfl, ho1, hB1⟩
      go_wp2
      go_loopw [6, 27] (fun u i wr => ∃ j : Nat, j ≤ k ∧ i = .int .i64 j ∧ Own wr w.heap.size u (ls.take j).flatten ∧ Below w.heap.size w wr) (fun _ i _ => k - (intOf i).toNat)
      case atStart => exact ⟨0, Nat.zero_le _, rfl, ho1, hB1⟩
      case round =>
        obtain ⟨j, hj, rfl, ho, hB⟩ := hrel
        clear ho1 hB1
        by_cases hlt2 : j < k
        · have hkl : j < ls.length := by have := unhide HN; omega
          have hvk := (hv j hlt2)
          have hck := (hB.cell (p := ⟨b, off + j, none⟩) hb).trans (hc j hlt2)
          have hvr : Byt wr (vs.getD j undef) (ls.getD j []) := hvk.keep hB
          have hqm : sumLen (ls.take (j + 1)) = sumLen (ls.take j) + (ls.getD j []).length := by rw [sumLen_take ls j hkl]; simp [hkl]
          have hle := sumLen_le ls (j + 1)
          rw [hqm, ← flatten_len] at hle
          have hfl := flatten_take ls j hkl
          rw [show ls[j] = ls.getD j [] by simp [hkl]] at hfl
          have HF := hide hfl
          have hlt' : (j : Int) < (k : Int) := by omega
          generalize vs.getD j undef = u at *
          generalize ls.getD j [] = m at *
          generalize (ls.take j).flatten = L at *
          clear hqm hvk hc hv hfl
          go_wp2_with (at_builtin; refine wpList_app rfl _ _ rfl w.heap.size _ L rfl ho u m rfl hvr ?c1 ?c2 ?_)
          case c1 => omega
          case c2 => exact hB.size
          intro v2 w2 ho2 hg2
          have hB2 : Below w.heap.size w w2 := bstepBy hB hg2 ho.base_le
          go_wp2
          go_roundw
          case rel => exact ⟨j + 1, by omega, by go_num, by rw [unhide HF]; exact ho2, hB2⟩
          case measure => simp [intOf]; omega
        · have e : j = k := by omega
          subst e
          rw [List.take_of_length_le (by have := unhide HN; omega)] at ho
          clear hc hv
          go_wp2
          go_ret
          exact ⟨_, rfl, ho, hB⟩
end Go.Proofs.YtkmmhlimihkgfaaGreat

/- impl.numRow: the bytes of a number in a new array of five, by its contract. -/
namespace Go.Proofs.YtkmmhlimihkgfaaGreat
open Go.RowKit
set_option linter.unusedVariables false

/-- An array of five bytes in a new block. -/
def five (c0 c1 c2 c3 c4 : Int) : Obj := .cells #[.int .u8 c0, .int .u8 c1, .int .u8 c2, .int .u8 c3, .int .u8 c4] 169

set_option maxHeartbeats 1600000 in
set_option maxRecDepth 1000000 in
theorem numRow_any (w : World) (n : Int) (h0 : 0 ≤ n) (h1 : n ≤ 2147483647) :
    Calls Tryz.prog 154 #[.int .i64 n] w fun e w' => ∃ c0 c1 c2 c3 c4 : Int, e = .returned (.tuple #[.agg #[.int .u8 c0, .int .u8 c1, .int .u8 c2, .int .u8 c3, .int .u8 c4], .int .i64 ((putN n).length : Nat)]) ∧
      [c0, c1, c2, c3, c4].take (putN n).length = putN n ∧ Below w.heap.size w w' := by
  go_enter Tryz.func154, Tryz.ntmps154
  go_wp2
  go_loopw [0, 3] (fun m s wr => ∃ (k f : Nat) (q c0 c1 c2 c3 c4 : Int), k + f = 4 ∧ m = .int .i64 q ∧ s = .int .i64 k ∧ 0 ≤ q ∧ q ≤ 2147483647 ∧ q < sc (f + 1) ∧ wr = w.alloc (.cells #[.int .u8 c0, .int .u8 c1, .int .u8 c2, .int .u8 c3, .int .u8 c4] 169) ∧ Hid (putN n = [c0, c1, c2, c3, c4].take k ++ putGo f q)) (fun m _ _ => (intOf m).toNat)
  case atStart => exact ⟨0, 4, n, 0, 0, 0, 0, 0, rfl, rfl, rfl, h0, h1, by simp only [sc]; omega, rfl, hide rfl⟩
  case round =>
    obtain ⟨k, f, q, c0, c1, c2, c3, c4, hkf, rfl, rfl, hq0, hq1, hq2, rfl, HP⟩ := hrel
    by_cases hq : 128 ≤ q
    · have hf : 1 ≤ f := by
        cases f with
        | zero => simp [sc] at hq2; omega
        | succ f => omega
      obtain ⟨f, rfl⟩ : ∃ g, f = g + 1 := ⟨f - 1, by omega⟩
      have hss := sc_step (f + 1) (by omega)
      have HQ := hide (show q / 128 < sc (f + 1) by omega)
      have HP2 := hide ((unhide HP).trans (congrArg ([c0, c1, c2, c3, c4].take k ++ ·) (putGo_on (f := f) (show 127 < q by omega))))
      clear hss hq2 HP
      have : k = 0 ∨ k = 1 ∨ k = 2 ∨ k = 3 := by omega
      rcases this with rfl | rfl | rfl | rfl
      all_goals
        go_wp2
        go_roundw
        case measure => simp [intOf]; omega
      case rel => exact ⟨1, f, q / 128, _, _, _, _, _, by omega, rfl, rfl, by omega, by omega, unhide HQ, rfl, hide (by simpa using unhide HP2)⟩
      case rel => exact ⟨2, f, q / 128, _, _, _, _, _, by omega, rfl, rfl, by omega, by omega, unhide HQ, rfl, hide (by simpa using unhide HP2)⟩
      case rel => exact ⟨3, f, q / 128, _, _, _, _, _, by omega, rfl, rfl, by omega, by omega, unhide HQ, rfl, hide (by simpa using unhide HP2)⟩
      case rel => exact ⟨4, f, q / 128, _, _, _, _, _, by omega, rfl, rfl, by omega, by omega, unhide HQ, rfl, hide (by simpa using unhide HP2)⟩
    · have HP2 := hide ((unhide HP).trans (congrArg ([c0, c1, c2, c3, c4].take k ++ ·) (putGo_end (f := f) (show ¬ 127 < q by omega))))
      clear HP hq2
      have hq' : ¬ (128 : Int) ≤ q := hq
      have : k = 0 ∨ k = 1 ∨ k = 2 ∨ k = 3 ∨ k = 4 := by omega
      rcases this with rfl | rfl | rfl | rfl | rfl
      · go_wp2
        rw [unhide HP2]
        exact bodyPost_ret (v := .tuple #[.agg #[.int .u8 q, .int .u8 c1, .int .u8 c2, .int .u8 c3, .int .u8 c4], .int .i64 1]) (by simp [results, Tryz.results154, go_sem]) rfl ⟨q, c1, c2, c3, c4, rfl, by simp, (Below.refl _ _).alloc (Nat.le_refl _) _⟩
      · go_wp2
        rw [unhide HP2]
        exact bodyPost_ret (v := .tuple #[.agg #[.int .u8 c0, .int .u8 q, .int .u8 c2, .int .u8 c3, .int .u8 c4], .int .i64 2]) (by simp [results, Tryz.results154, go_sem]) rfl ⟨c0, q, c2, c3, c4, rfl, by simp, (Below.refl _ _).alloc (Nat.le_refl _) _⟩
      · go_wp2
        rw [unhide HP2]
        exact bodyPost_ret (v := .tuple #[.agg #[.int .u8 c0, .int .u8 c1, .int .u8 q, .int .u8 c3, .int .u8 c4], .int .i64 3]) (by simp [results, Tryz.results154, go_sem]) rfl ⟨c0, c1, q, c3, c4, rfl, by simp, (Below.refl _ _).alloc (Nat.le_refl _) _⟩
      · go_wp2
        rw [unhide HP2]
        exact bodyPost_ret (v := .tuple #[.agg #[.int .u8 c0, .int .u8 c1, .int .u8 c2, .int .u8 q, .int .u8 c4], .int .i64 4]) (by simp [results, Tryz.results154, go_sem]) rfl ⟨c0, c1, c2, q, c4, rfl, by simp, (Below.refl _ _).alloc (Nat.le_refl _) _⟩
      · go_wp2
        rw [unhide HP2]
        exact bodyPost_ret (v := .tuple #[.agg #[.int .u8 c0, .int .u8 c1, .int .u8 c2, .int .u8 c3, .int .u8 q], .int .i64 5]) (by simp [results, Tryz.results154, go_sem]) rfl ⟨c0, c1, c2, c3, q, rfl, by simp, (Below.refl _ _).alloc (Nat.le_refl _) _⟩
end Go.Proofs.YtkmmhlimihkgfaaGreat

/- impl.PutNum answers what the plain function putAll says. -/
namespace Go.Proofs.YtkmmhlimihkgfaaGreat
open Go.RowKit
set_option linter.unusedVariables false

theorem Tryz.arr169 : Tryz.prog.arrayLen 169 = 5 := by kernel_rfl
theorem Tryz.elem169 : Tryz.prog.elem 169 = 5 := by kernel_rfl
theorem slice5 (b k : Nat) (hk : k ≤ 5) (w : World) : (Instr.sliceAt 169 (.pointer (some ⟨b, 0, none⟩)) none (some (.int .i64 (k : Int))) none).run Tryz.prog w = .ok (.slice (some ⟨b, 0, none⟩) k 5) w := by
  obtain ⟨i0, hi, hz0, hz1, hz2⟩ := info_parts Tryz.info5
  have h := run_sliceAt_array_h (P := Tryz.prog) w 169 ⟨b, 0, none⟩ (by kernel_rfl) .i64 (k : Int) (by omega) (by rw [Tryz.arr169]; omega)
  rw [h, Tryz.arr169, Tryz.elem169]
  simp [sizeOf, typeInfo, hi, slicedAt, add_plain]

/-- The first k of five bytes in a new block can be read. -/
theorem byt_five (w : World) (c0 c1 c2 c3 c4 : Int) (k : Nat) (hk : k ≤ 5) (l : List Int) (hl : [c0, c1, c2, c3, c4].take k = l) (hok : okB l) :
    Byt (w.alloc (.cells #[.int .u8 c0, .int .u8 c1, .int .u8 c2, .int .u8 c3, .int .u8 c4] 169)) (.slice (some ⟨w.heap.size, 0, none⟩) k 5) l := by
  have hlen : l.length = k := by rw [← hl]; simp; omega
  by_cases h0 : k = 0
  · subst h0
    have e : l = [] := List.eq_nil_of_length_eq_zero hlen
    subst e
    exact ⟨okB_nil, by simp [maxLen], .inr (.inl ⟨_, 5, rfl, by simp [maxLen], rfl⟩)⟩
  · refine ⟨hok, by unfold maxLen; omega, .inr (.inr ⟨w.heap.size, 0, 5, by rw [hlen], by omega, by simp [maxLen], fun e => by rw [e] at hlen; simp at hlen; omega, by simp, fun i hi => ?_⟩)⟩
    have hi5 : i = 0 ∨ i = 1 ∨ i = 2 ∨ i = 3 ∨ i = 4 := by omega
    have hik : i < k := by omega
    rw [← hl, List.getD_eq_getElem?_getD, List.getElem?_take, if_pos hik]
    rcases hi5 with rfl | rfl | rfl | rfl | rfl <;> simp

set_option maxHeartbeats 1600000 in
theorem putI_out (w : World) (v : Value) (l : List Int) (n : Int) (h : Byt w v l) (hl : l.length ≤ 60000000) (hn : n < 0 ∨ 2147483647 < n) :
    Calls Tryz.prog 152 #[v, .int .i64 n] w fun e w' => ∃ v', e = .returned v' ∧ Own w' w.heap.size v' l ∧ Below w.heap.size w w' := by
  have hcat := concat_any (w.alloc (.cells #[v] 22)) w.heap.size 0 1 1 [v] [l] rfl (by omega) (by simp) (fun i hi => by obtain rfl : i = 0 := (by omega); simp) (fun i hi => by obtain rfl : i = 0 := (by omega); exact h.alloc _) (by simp [sumLen]; omega)
  obtain ⟨a, c, rfl, _, _⟩ := h.shape
  by_cases hneg : n < 0
  · go_enter Tryz.func152, Tryz.ntmps152
    go_wp2_with fail
    refine hcat.mono ?_
    rintro e w1 ⟨v1, rfl, ho1, hB1⟩
    have hb : Below w.heap.size w w1 := bstep ((Below.refl _ _).alloc (Nat.le_refl _) _) hB1
    clear hB1 hcat
    go_wp2
    go_ret
    exact ⟨_, rfl, by simpa using ho1.mono (by simp), hb⟩
  · have h2 : 2147483647 < n := by omega
    have h3 : decide (n < 0) = false := by simpa using hneg
    go_enter Tryz.func152, Tryz.ntmps152
    go_wp2_with fail
    refine hcat.mono ?_
    rintro e w1 ⟨v1, rfl, ho1, hB1⟩
    have hb : Below w.heap.size w w1 := bstep ((Below.refl _ _).alloc (Nat.le_refl _) _) hB1
    clear hB1 hcat
    go_wp2
    go_ret
    exact ⟨_, rfl, by simpa using ho1.mono (by simp), hb⟩

set_option maxHeartbeats 1600000 in
theorem putI_in (w : World) (v : Value) (l : List Int) (n : Int) (h : Byt w v l) (hl : l.length ≤ 60000000) (hn0 : 0 ≤ n) (hn1 : n ≤ 2147483647) :
    Calls Tryz.prog 152 #[v, .int .i64 n] w fun e w' => ∃ v', e = .returned v' ∧ Own w' w.heap.size v' (l ++ putN n) ∧ Below w.heap.size w w' := by
  have h3 : decide (n < 0) = false := by simp; omega
  obtain ⟨a, c, hv, _, _⟩ := h.shape
  subst hv
  go_enter Tryz.func152, Tryz.ntmps152
  go_wp2_with fail
  refine (numRow_any w n hn0 hn1).mono ?_
  rintro e w1 ⟨c0, c1, c2, c3, c4, rfl, htk, hB1⟩
  have hp5 := putN_len n
  have hfive := byt_five w1 c0 c1 c2 c3 c4 (putN n).length hp5 (putN n) htk (putN_ok hn0 hn1)
  have hsl := fun wx => slice5 w1.heap.size (putN n).length hp5 wx
  generalize ht : putN n = t at *
  have HT := hide ht
  clear htk ht
  go_wp2_with fail
  refine (concat_any _ (w1.heap.size + 1) 0 2 2 [.slice a l.length c, .slice (some ⟨w1.heap.size, 0, none⟩) t.length 5] [l, t] rfl (by omega) ?c1 ?c2 ?c3 ?c4).mono ?_
  case c1 => simp
  case c2 => 
    intro i hi
    have : i = 0 ∨ i = 1 := by omega
    rcases this with rfl | rfl <;> simp
  case c3 =>
    intro i hi
    have : i = 0 ∨ i = 1 := by omega
    rcases this with rfl | rfl
    · exact ((h.keep hB1).alloc _).alloc _
    · exact hfive.alloc _
  case c4 => simp [sumLen]; omega
  rintro e w2 ⟨v2, rfl, ho2, hB2⟩
  have hb : Below w.heap.size w w2 := bstep ((hB1.alloc hB1.size _).alloc (by have := hB1.size; simp; omega) _) hB2
  have ho3 : Own w2 w.heap.size v2 (l ++ t) := by simpa using ho2.mono (by have := hB1.size; simp; omega)
  clear hB2 ho2 hfive
  go_wp2
  go_ret
  exact ⟨_, rfl, by rw [unhide HT]; exact ho3, hb⟩

/-- impl.PutNum, whatever it is asked. -/
theorem putI_any (w : World) (v : Value) (l : List Int) (n : Int) (h : Byt w v l) (hl : l.length ≤ 60000000) :
    Calls Tryz.prog 152 #[v, .int .i64 n] w fun e w' => ∃ v', e = .returned v' ∧ Own w' w.heap.size v' (putAll l n) ∧ Below w.heap.size w w' := by
  by_cases hn : n < 0 ∨ 2147483647 < n
  · rw [putAll_out hn]; exact putI_out w v l n h hl hn
  · rw [putAll_in (by omega) (by omega)]; exact putI_in w v l n h hl (by omega) (by omega)

end Go.Proofs.YtkmmhlimihkgfaaGreat

/- spec.PutText and impl.PutText answer what the plain function putT says. -/
namespace Go.Proofs.YtkmmhlimihkgfaaGreat
open Go.RowKit
set_option linter.unusedVariables false

set_option maxHeartbeats 1600000 in
theorem putTS_any (w : World) (v u : Value) (l t : List Int) (h : Byt w v l) (hu : Byt w u t) (hl : l.length ≤ 60000000) :
    Calls Tryz.prog 131 #[v, u] w fun e w' => ∃ v', e = .returned v' ∧ Own w' w.heap.size v' (putT l t) ∧ Below w.heap.size w w' := by
  obtain ⟨a, c, rfl, _, _⟩ := hu.shape
  have hm := hu.2.1
  unfold maxLen at hm
  by_cases ht : 30 < t.length
  · have ht' : (30 : Int) < (t.length : Int) := by omega
    have HR := hide (putT_out (l := l) ht)
    go_enter Tryz.func131, Tryz.ntmps131
    go_wp2_with (at_builtin; refine wpList_app rfl _ _ rfl w.heap.size _ [] rfl (own_none w) v l rfl (h.alloc _) ?c1 ?c2 ?_)
    case c1 => first | omega | (simp; omega)
    case c2 => simp
    intro v1 w1 ho1 hg1
    have hB1 : Below w.heap.size w w1 := bstepBy ((Below.refl _ _).alloc (Nat.le_refl _) _) hg1 (fun g hg => by simp [Value.ownBlock] at hg; omega)
    clear hg1
    go_wp2
    go_ret
    exact ⟨_, rfl, by rw [unhide HR]; exact ho1, hB1⟩
  · have ht' : ¬ (30 : Int) < (t.length : Int) := by omega
    have HR := hide (putT_in (l := l) ht)
    have hp := putN_len t.length
    have HA := hide (putAll_in (l := l) (n := (t.length : Int)) (by omega) (by omega))
    go_enter Tryz.func131, Tryz.ntmps131
    go_wp2_with fail
    refine (putS_any w v l (t.length : Int) h (by omega)).mono ?_
    rintro e w1 ⟨v1, rfl, ho1, hB1⟩
    rw [unhide HA] at ho1
    go_wp2_with (at_builtin; refine wpList_app rfl _ _ rfl w.heap.size _ (l ++ putN t.length) rfl ho1 _ t rfl (hu.keep hB1) ?c1 ?c2 ?_)
    case c1 => first | omega | (simp; omega)
    case c2 => exact hB1.size
    intro v2 w2 ho2 hg2
    have hB2 : Below w.heap.size w w2 := bstepBy hB1 hg2 ho1.base_le
    clear hg2
    go_wp2
    go_ret
    exact ⟨_, rfl, by rw [unhide HR]; first | exact ho2 | (rw [List.append_assoc]; exact ho2), hB2⟩

set_option maxHeartbeats 1600000 in
theorem putTI_any (w : World) (v u : Value) (l t : List Int) (h : Byt w v l) (hu : Byt w u t) (hl : l.length ≤ 60000000) :
    Calls Tryz.prog 143 #[v, u] w fun e w' => ∃ v', e = .returned v' ∧ Own w' w.heap.size v' (putT l t) ∧ Below w.heap.size w w' := by
  obtain ⟨a', c', rfl, _, _⟩ := h.shape
  obtain ⟨a, c, rfl, _, _⟩ := hu.shape
  have hm := hu.2.1
  unfold maxLen at hm
  by_cases ht : 30 < t.length
  · have ht' : (30 : Int) < (t.length : Int) := by omega
    have HR := hide (putT_out (l := l) ht)
    have hcat := concat_any (w.alloc (.cells #[.slice a' l.length c'] 22)) w.heap.size 0 1 1 [.slice a' l.length c'] [l] rfl (by omega) (by simp) (fun i hi => by obtain rfl : i = 0 := (by omega); simp) (fun i hi => by obtain rfl : i = 0 := (by omega); exact h.alloc _) (by simp [sumLen]; omega)
    go_enter Tryz.func143, Tryz.ntmps143
    go_wp2_with fail
    refine hcat.mono ?_
    rintro e w1 ⟨v1, rfl, ho1, hB1⟩
    have hb : Below w.heap.size w w1 := bstep ((Below.refl _ _).alloc (Nat.le_refl _) _) hB1
    clear hB1 hcat
    go_wp2
    go_ret
    exact ⟨_, rfl, by rw [unhide HR]; simpa using ho1.mono (by simp), hb⟩
  · have ht' : ¬ (30 : Int) < (t.length : Int) := by omega
    have HR := hide (putT_in (l := l) ht)
    go_enter Tryz.func143, Tryz.ntmps143
    go_wp2_with fail
    refine (numRow_any w (t.length : Int) (by omega) (by omega)).mono ?_
    rintro e w1 ⟨c0, c1, c2, c3, c4, rfl, htk, hB1⟩
    have hp5 := putN_len t.length
    have hfive := byt_five w1 c0 c1 c2 c3 c4 (putN t.length).length hp5 (putN t.length) htk (putN_ok (by omega) (by omega))
    have hsl := fun wx => slice5 w1.heap.size (putN t.length).length hp5 wx
    generalize hs : putN t.length = s at *
    have HS := hide hs
    clear htk hs
    go_wp2_with fail
    refine (concat_any _ (w1.heap.size + 1) 0 3 3 [.slice a' l.length c', .slice (some ⟨w1.heap.size, 0, none⟩) s.length 5, .slice a t.length c] [l, s, t] rfl (by omega) ?c1 ?c2 ?c3 ?c4).mono ?_
    case c1 => simp
    case c2 =>
      intro i hi
      have : i = 0 ∨ i = 1 ∨ i = 2 := by omega
      rcases this with rfl | rfl | rfl <;> simp
    case c3 =>
      intro i hi
      have : i = 0 ∨ i = 1 ∨ i = 2 := by omega
      rcases this with rfl | rfl | rfl
      · exact ((h.keep hB1).alloc _).alloc _
      · exact hfive.alloc _
      · exact ((hu.keep hB1).alloc _).alloc _
    case c4 => simp [sumLen]; omega
    rintro e w2 ⟨v2, rfl, ho2, hB2⟩
    have hb : Below w.heap.size w w2 := bstep ((hB1.alloc hB1.size _).alloc (by have := hB1.size; simp; omega) _) hB2
    have ho3 : Own w2 w.heap.size v2 (l ++ s ++ t) := by simpa using ho2.mono (by have := hB1.size; simp; omega)
    have HO := hide ho3
    clear hB2 ho2 hfive ho3
    go_wp2
    go_ret
    exact ⟨_, rfl, by rw [unhide HR]; exact unhide HO, hb⟩

end Go.Proofs.YtkmmhlimihkgfaaGreat

/- spec.l4putId and spec.l4putKey, by their contracts. -/
namespace Go.Proofs.YtkmmhlimihkgfaaGreat
open Go.RowKit
set_option linter.unusedVariables false
set_option maxRecDepth 100000

theorem putS_own (w : World) (v : Value) (l : List Int) (n : Int) (h : Byt w v l) (hl : l.length ≤ 60000000) :
    Calls Tryz.prog 129 #[v, .int .i64 n] w fun e w' => ∃ a c, e = .returned (.slice a (putAll l n).length c) ∧ Own w' w.heap.size (.slice a (putAll l n).length c) (putAll l n) ∧ Below w.heap.size w w' := by
  refine (putS_any w v l n h (by omega)).mono ?_
  rintro e w' ⟨v', rfl, ho, hB⟩
  obtain ⟨a, c, rfl, _, _⟩ := ho.byt.shape
  exact ⟨a, c, rfl, ho, hB⟩

theorem putId_len (l : List Int) (n r : Int) : (putId l n r).length ≤ l.length + 10 := by
  unfold putId
  have := putAll_len (putAll l n) r
  have := putAll_len l n
  omega
theorem putNs_len (l k : List Int) : (putNs l k).length ≤ l.length + 5 * k.length := by
  induction k generalizing l with
  | nil => simp [putNs]
  | cons x k ih =>
    rw [putNs, List.length_cons]
    have := ih (putAll l x)
    have := putAll_len l x
    omega
theorem putKey_len (l k : List Int) : (putKey l k).length ≤ l.length + 5 + 5 * k.length := by
  unfold putKey
  have := putNs_len (putAll l k.length) k
  have := putAll_len l (k.length : Int)
  omega

/-- Put a step further. -/
theorem putNs_step (l k : List Int) (j : Nat) (h : j < k.length) : putNs l (k.take (j + 1)) = putAll (putNs l (k.take j)) (k.getD j 0) := by
  induction k generalizing l j with
  | nil => simp at h
  | cons x k ih =>
    cases j with
    | zero => simp [putNs]
    | succ j =>
      rw [List.take_succ_cons, List.take_succ_cons, putNs, putNs, ih _ j (by simpa using h)]
      simp

set_option maxHeartbeats 3200000 in
theorem putIdS_any (w : World) (v : Value) (l : List Int) (n r : Int) (h : Byt w v l) (hl : l.length ≤ 50000000) :
    Calls Tryz.prog 128 #[v, .agg #[.int .i64 n, .int .i64 r]] w fun e w' => ∃ a c, e = .returned (.slice a (putId l n r).length c) ∧ Own w' w.heap.size (.slice a (putId l n r).length c) (putId l n r) ∧ Below w.heap.size w w' := by
  have hA := (Below.refl w.heap.size w).alloc (Nat.le_refl _) (.cells #[.int .i64 n, .int .i64 r] 25)
  have l0 := Loc.made w #[.int .i64 n, .int .i64 r] 25
  have hp := putAll_len l n
  have HV := hide (h.keep hA)
  obtain ⟨a, c, rfl, _, _⟩ := h.shape
  clear h
  go_enter Tryz.func128, Tryz.ntmps128
  go_wp2_with fail
  generalize (w.alloc (.cells #[.int .i64 n, .int .i64 r] 25)) = w0 at *
  have H1 := hide (fun (W : World) (hW : Below w0.heap.size w0 W) => putS_own W _ l n ((unhide HV).keep hW) (by omega))
  clear HV
  have x0 := l0.cell 0
  have x1 := l0.cell 1
  go_region_held3 (fun w' => w'.cell? ⟨w.heap.size, 0, none⟩ = some (.int .i64 n) ∧ w'.cell? ⟨w.heap.size, 1, none⟩ = some (.int .i64 r))
    (first | exact ⟨by assumption, by assumption⟩ | simp [*])
    (first
      | (go_at_call 129; refine (unhide H1 _ ((Below.refl _ _).drew)).mono ?_; clear H1; rintro e w1 ⟨a1, c1, rfl, ho1, hB1⟩; have hD1 := bstep ((Below.refl w0.heap.size w0).drew) hB1; have x0 := (l0.all hD1).cell 0; have x1 := (l0.all hD1).cell 1)
      | (go_at_call 129; refine (putS_own w1 _ (putAll l n) r ho1.byt (by omega)).mono ?_; rintro e w2 ⟨a2, c2, rfl, ho2, hB2⟩; have hD2 := bstep hD1 hB2; have x0 := (l0.all hD2).cell 0; have x1 := (l0.all hD2).cell 1))
  all_goals
    go_wp2
    go_ret
    exact ⟨a2, c2, rfl, ho2.mono (by have := hA.size; have := hD1.size; omega), bstep hA hD2⟩

set_option maxHeartbeats 3200000 in
theorem putKeyS_any (w : World) (v u : Value) (l k : List Int) (h : Byt w v l) (hu : Ints w u k) (hl : l.length ≤ 20000000) (hk : k.length ≤ 2097152) :
    Calls Tryz.prog 130 #[v, u] w fun e w' => ∃ a c, e = .returned (.slice a (putKey l k).length c) ∧ Own w' w.heap.size (.slice a (putKey l k).length c) (putKey l k) ∧ Below w.heap.size w w' := by
  have H1 := hide (putS_own w v l (k.length : Int) h (by omega))
  have HU := hide hu
  have hp := putAll_len l (k.length : Int)
  obtain ⟨a, c, rfl, _, _⟩ := h.shape
  obtain ⟨a', c', rfl, _, _⟩ := hu.shape
  clear h hu
  unfold putKey
  generalize putAll l (k.length : Int) = lp at *
  go_enter Tryz.func130, Tryz.ntmps130
  go_wp2_with fail
  refine (unhide H1).mono ?_
  clear H1
  rintro e w1 ⟨a1, c1, rfl, ho1, hB1⟩
  go_wp2_with fail
  go_loopw [0, 5] (fun b i wr => ∃ (j : Nat) (a2 : Option Addr) (c2 : Nat), j ≤ k.length ∧ i = .int .i64 j ∧ b = .slice a2 (putNs lp (k.take j)).length c2 ∧ Own wr w.heap.size (.slice a2 (putNs lp (k.take j)).length c2) (putNs lp (k.take j)) ∧ Below w.heap.size w wr) (fun _ i _ => k.length - (intOf i).toNat)
  case atStart => exact ⟨0, a1, c1, Nat.zero_le _, rfl, rfl, ho1, hB1⟩
  case round =>
    obtain ⟨j, a2, c2, hj, rfl, rfl, ho, hB⟩ := hrel
    clear ho1 hB1
    by_cases hlt : j < k.length
    · have HS := hide (putNs_step lp k j hlt)
      have hq := putNs_len lp (k.take j)
      rw [List.length_take, Nat.min_eq_left hj] at hq
      generalize hpt : putNs lp (k.take j) = lj at *
      clear hpt
      have hlt' : (j : Int) < (k.length : Int) := by omega
      obtain ⟨x, hx⟩ : ∃ x, x = k.getD j 0 := ⟨_, rfl⟩
      rw [← hx] at HS
      obtain ⟨hok, hm, ⟨_, e⟩ | ⟨_, _, _, _, e⟩ | ⟨b, off, cap, e, h1, h2, h3, h4, h5⟩⟩ := (unhide HU).keep hB
      · rw [e] at hlt; simp at hlt
      · rw [e] at hlt; simp at hlt
      have e1 : a' = some ⟨b, off, none⟩ := by injection e
      have hcx := h5 j hlt
      rw [← hx] at hcx
      clear hx h5 e HU
      subst e1
      go_wp2_with fail
      refine (putS_own wr _ lj x ho.byt (by omega)).mono ?_
      rintro e w2 ⟨a3, c3, rfl, ho3, hB3⟩
      rw [← unhide HS] at ho3 ⊢
      go_wp2_with fail
      go_roundw
      case rel => exact ⟨j + 1, a3, c3, by omega, by go_num, rfl, ho3.mono hB.size, bstep hB hB3⟩
      case measure => simp [intOf]; omega
    · obtain rfl : j = k.length := by omega
      have HE := hide (show putNs lp (k.take k.length) = putNs lp k by rw [List.take_of_length_le (Nat.le_refl _)])
      rw [unhide HE] at ho ⊢
      clear HE
      go_wp2_with fail
      go_ret
      exact ⟨a2, c2, rfl, ho, hB⟩
end Go.Proofs.YtkmmhlimihkgfaaGreat
