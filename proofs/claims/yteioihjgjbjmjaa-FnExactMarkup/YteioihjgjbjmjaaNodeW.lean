/- impl's putNode puts a tree's markup behind what is written. -/
import Derived.Test.YteioihjgjbjmjaaTagW
namespace Go.Proofs.Yteioihjgjbjmjaa
open Go.RowKit
set_option linter.unusedVariables false
set_option maxRecDepth 100000

open Classical in
theorem hasW_wr (B g : Nat) (w : World) (v : Value) (l L : List Int) (h : Wr B w g L) (hB : B ≤ w.heap.size) (hv : ∀ w', Frm w w' [g] → Byt w' v l) :
    Calls Try.prog 56 #[.pointer (some ⟨g, 1, none⟩), v] w fun e w' => e = .returned (.bool (voidB l)) ∧ Wr B w' g L ∧ Frp (MtW B g) w w' := by
  obtain ⟨o, ho, hs⟩ := h
  obtain ⟨cs, hl, _, _, _⟩ := hs.loc
  refine (hasW_any B o g w v l hs hB hv).mono ?_
  rintro e w' ⟨rfl, hm, hf⟩
  have hd : decide (Void l) = voidB l := by
    rw [Bool.eq_iff_iff, voidB_iff]
    simp
  refine ⟨by rw [← hd], ⟨o, ho.frm hf (fun i hi hi' => ?_), .inr hm⟩, FrpW.ofFrm hl hf⟩
  have e1 : i = g := by simpa using hi'
  have e2 : o.ownBlock = some i := by simpa [FB] using hi
  exact own_notw (B := B) ho hl (by rw [e2, e1])

def PnSaid (n : Nat) : Prop := ∀ (w0 w : World) (B g : Nat) (L : List Int) (a b c d e : Value) (t : Tr n), RdNode n w0 [a, b, c, d, e] t → Below w0.heap.size w0 w → w0.heap.size ≤ B → w0.heap.size ≤ g → B ≤ w.heap.size → Wr B w g L → L.length + (mkup n t).length ≤ 100000000 →
    Calls Try.prog 45 #[.pointer (some ⟨g, 0, none⟩), .agg #[a, b, c, d, e]] w fun e w' => e = .returned (.tuple #[]) ∧ Wr B w' g (L ++ mkup n t) ∧ Frp (MtW B g) w w'

theorem rd_five {n : Nat} {w : World} {a b c d e : Value} {t : Tr n} (h : RdNode n w [a, b, c, d, e] t) : ∃ z ab nb cb ac nc cc ad nd cd ae ne ce, a = .int .i64 z ∧ b = .slice ab nb cb ∧ c = .slice ac nc cc ∧ d = .slice ad nd cd ∧ e = .slice ae ne ce := by
  cases n with
  | zero => exact absurd h (by unfold RdNode; exact id)
  | succ n =>
    obtain ⟨_, _, _, _, e0, k1, k2, hb, hc, hd, he⟩ := h
    simp only [List.cons.injEq, and_true] at e0
    obtain ⟨rfl, rfl, rfl, rfl, rfl⟩ := e0
    obtain ⟨ab, cb, rfl, _, _⟩ := hb.shape
    obtain ⟨ac, cc, rfl, _, _⟩ := hc.shape
    obtain ⟨ad, cd, rfl, _, _⟩ := Elems.shape hd
    obtain ⟨ae, ce, rfl, _, _⟩ := Elems.shape he
    exact ⟨_, _, _, _, _, _, _, _, _, _, _, _, _, rfl, rfl, rfl, rfl, rfl⟩

set_option maxHeartbeats 6400000 in
theorem putN_succ (n : Nat) (H : PnSaid n) : PnSaid (n + 1) := by
  intro w0 w B g L a b c d e t hrd hW h0 hg0 hB hw hlen
  obtain ⟨_, _, _, _, e0, k1, k2, hb, hc, hd, he⟩ := hrd
  simp only [List.cons.injEq, and_true] at e0
  obtain ⟨rfl, rfl, rfl, rfl, rfl⟩ := e0
  obtain ⟨ab, cb, rfl, _, _⟩ := hb.shape
  obtain ⟨ac, cc, rfl, _, _⟩ := hc.shape
  obtain ⟨ad, cd, rfl, _, _⟩ := Elems.shape hd
  obtain ⟨ae, ce, rfl, _, _⟩ := Elems.shape he
  have hB1 : Below w.heap.size w (w.alloc (.cells #[.int .i64 t.kind, .slice ab t.name.length cb, .slice ac t.text.length cc, .slice ad t.attrs.length cd, .slice ae t.kids.length ce] 32)) := (Below.refl _ _).alloc (Nat.le_refl _) _
  have l1 := Loc.made w #[.int .i64 t.kind, .slice ab t.name.length cb, .slice ac t.text.length cc, .slice ad t.attrs.length cd, .slice ae t.kids.length ce] 32
  have F1 : Frp (MtW B g) w _ := Frp.ofBelow hB1 (MtW B g)
  have HW1 := hide (hw.keep hB1)
  have hW1 := hW.trans (hB1.mono hW.size)
  have hBw1 := Nat.le_trans hB hB1.size
  have hmk := mkup_succ n t
  obtain ⟨x0, x1, x2, x3, x4⟩ := l1.five
  by_cases hz : t.kind = 1
  · have dz : (t.kind == 1) = true := by simpa using hz
    rw [if_pos hz] at hmk
    rw [hmk] at hlen ⊢
    have HP := hide (putB_any w0 _ B g _ L t.text false (unhide HW1) hBw1 hc hW1 h0 hg0 hlen)
    clear hz hmk hw HW1
    go_enter Try.func45, Try.ntmps45
    go_wp2_with fail
    refine (unhide HP).mono ?_
    rintro e w2 ⟨rfl, hw2, F2⟩
    go_wp2_with fail
    (first | go_end0 | (simp only [Exit.inBlock, Exit.then]; refine bodyPost_ret (results_none rfl _ _ _) rfl ?_) | refine bodyPost_ret (results_none rfl _ _ _) rfl ?_)
    exact ⟨rfl, hw2, F1.trans F2⟩
  · have dz : (t.kind == 1) = false := by simpa using hz
    rw [if_neg hz] at hmk
    rw [hmk] at hlen ⊢
    obtain ⟨G, hG⟩ : ∃ G, G = L ++ ([60] ++ t.name ++ attrsM t.attrs ++ [62] ++ (if voidB t.name = true then [] else (t.kids.map (mkup n)).flatten ++ [60, 47] ++ t.name ++ [62])) := ⟨_, rfl⟩
    rw [← hG]
    have hlt : L.length + 1 + t.name.length + (attrsM t.attrs).length + 1 ≤ 100000000 := by
      simp only [List.length_append, List.length_cons, List.length_nil] at hlen
      omega
    have HP := hide (tag_any w0 _ B g L t.kind _ _ _ _ t.name t.text t.attrs ae t.kids.length ce (unhide HW1) hBw1 hb hc hd rfl hW1 h0 hg0 hlt)
    have HG := hide hG
    have hmK : (t.kids.length : Int) ≤ 9223372036854775807 := by have := he.1; unfold maxLen at this; omega
    clear hz hmk hG hw HW1
    go_enter Try.func45, Try.ntmps45
    go_wp2_with fail
    refine (unhide HP).mono ?_
    clear HP
    rintro e w2 ⟨rfl, hw2, F2⟩
    have F2' := F1.trans F2
    have l2 := l1.frp F2 (node_notW _ _ _ _)
    have HW := hide (fun (W : World) (F : Frp (MtW B g) w W) => hW.trans (FrpW.toBelow F hW.size h0 hg0))
    clear x0 x1 x2 x3 x4
    obtain ⟨x0, x1, x2, x3, x4⟩ := l2.five
    obtain ⟨A2, hA2⟩ : ∃ A2, A2 = L ++ [60] ++ t.name ++ attrsM t.attrs ++ [62] := ⟨_, rfl⟩
    rw [← hA2] at hw2
    have hbd : Below w2.heap.size w2 w2.drew := (Below.refl _ _).drew
    have Fd : Frp (MtW B g) w2 w2.drew := Frp.ofBelow hbd _
    have hwd := unhide HW _ (F2'.trans Fd)
    have hvn : ∀ w', Frm w2.drew w' [g] → Byt w' (.slice ab t.name.length cb) t.name := fun w' hf => hb.keep (hwd.trans (hf.below hwd.size (fun q hq => by
      have e : q = g := by simpa using hq
      rw [e]; exact hg0)))
    have HH := hide (hasW_wr B g w2.drew _ t.name A2 (hw2.keep hbd) (Nat.le_trans hB F2'.size) hvn)
    clear hvn hwd
    go_wp2_with fail
    by_cases hv : voidB t.name = true
    · have HE := hide (show L ++ ([60] ++ t.name ++ attrsM t.attrs ++ [62] ++ (if voidB t.name = true then [] else (t.kids.map (mkup n)).flatten ++ [60, 47] ++ t.name ++ [62])) = A2 by rw [if_pos hv, hA2]; simp)
      have HE2 := hide ((unhide HG).trans (unhide HE))
      rw [hv] at HH
      clear hv hA2 HE HG hlen hlt hw2 l1 F2
      go_region_held3 (fun w' => w'.cell? ⟨w.heap.size, 1, none⟩ = some (.slice ab t.name.length cb))
        (first | assumption | simp [*])
        ((go_at_call 56; refine (unhide HH).mono ?_; rintro e w3 ⟨rfl, hw3, F3⟩; have x1 : w3.cell? ⟨w.heap.size, 1, none⟩ = some (.slice ab t.name.length cb) := (l2.frp (Fd.trans F3) (node_notW _ _ _ _)).cell 1))
      all_goals
        go_wp2_with fail
        (first | go_end0 | (simp only [Exit.inBlock, Exit.then]; refine bodyPost_ret (results_none rfl _ _ _) rfl ?_) | refine bodyPost_ret (results_none rfl _ _ _) rfl ?_)
        exact ⟨rfl, by rw [unhide HE2]; exact hw3, F2'.trans (Fd.trans F3)⟩
    · have hv' : voidB t.name = false := by simpa using hv
      have HE := hide (show L ++ ([60] ++ t.name ++ attrsM t.attrs ++ [62] ++ (if voidB t.name = true then [] else (t.kids.map (mkup n)).flatten ++ [60, 47] ++ t.name ++ [62])) = A2 ++ (t.kids.map (mkup n)).flatten ++ [60, 47] ++ t.name ++ [62] by rw [if_neg hv, hA2]; simp)
      have HE2 := hide ((unhide HG).trans (unhide HE))
      have hlK : A2.length + (t.kids.map (mkup n)).flatten.length + 3 + t.name.length ≤ 100000000 := by
        rw [if_neg hv] at hlen
        rw [hA2]
        simp only [List.length_append, List.length_cons, List.length_nil] at hlen ⊢
        omega
      rw [hv'] at HH
      clear hv hv' hA2 HE HG hlen hlt hw2 l1 F2
      go_region_held3 (fun w' => w'.cell? ⟨w.heap.size, 1, none⟩ = some (.slice ab t.name.length cb))
        (first | assumption | simp [*])
        ((go_at_call 56; refine (unhide HH).mono ?_; rintro e w3 ⟨rfl, hw3, F3⟩; have x1 : w3.cell? ⟨w.heap.size, 1, none⟩ = some (.slice ab t.name.length cb) := (l2.frp (Fd.trans F3) (node_notW _ _ _ _)).cell 1))
      have l3 := l2.frp (Fd.trans F3) (node_notW _ _ _ _)
      have F3' := F2'.trans (Fd.trans F3)
      have c4 : w3.cell? ⟨w.heap.size, 4, none⟩ = some (.slice ae t.kids.length ce) := l3.cell 4
      clear x0 x2 x3 x4 x1 Fd F3 hbd HH
      go_wp2_with fail
      go_loopw [25] (fun i wr => ∃ j : Nat, j ≤ t.kids.length ∧ i = .int .i64 j ∧ Wr B wr g (A2 ++ ((t.kids.take j).map (mkup n)).flatten) ∧ Frp (MtW B g) w3 wr) (fun i _ => t.kids.length - (intOf i).toNat)
      case atStart => exact ⟨0, Nat.zero_le _, rfl, by simpa using hw3, Frp.refl _ _⟩
      case round =>
        obtain ⟨j, hj, rfl, hr, hf⟩ := hrel
        have hfw := F3'.trans hf
        have hBr : B ≤ wr.heap.size := Nat.le_trans hB hfw.size
        by_cases hjl : j < t.kids.length
        · have hst := flatL_take (mkup n) t.kids j hjl
          have hle := flatL_le (mkup n) t.kids (j + 1)
          obtain ⟨pb, poff, rfl, hpl, hun, _, hC⟩ := he.at hjl
          clear hun
          obtain ⟨c0, c1, c2, c3, c4', e0, e1, e2, e3, e4, hx⟩ := five_of hC
          have hBx := unhide HW wr hfw
          replace e0 := (hBx.cell (p := ⟨pb, poff + j * 5, none⟩) hpl).trans e0
          replace e1 := (hBx.cell (p := ⟨pb, poff + j * 5 + 1, none⟩) hpl).trans e1
          replace e2 := (hBx.cell (p := ⟨pb, poff + j * 5 + 2, none⟩) hpl).trans e2
          replace e3 := (hBx.cell (p := ⟨pb, poff + j * 5 + 3, none⟩) hpl).trans e3
          replace e4 := (hBx.cell (p := ⟨pb, poff + j * 5 + 4, none⟩) hpl).trans e4
          obtain ⟨z, ab', nb', cb', ac', nc', cc', ad', nd', cd', ae', ne', ce', rfl, rfl, rfl, rfl, rfl⟩ := rd_five hx
          have hBa : Below wr.heap.size wr (wr.alloc (.cells #[.int .i64 z, .slice ab' nb' cb', .slice ac' nc' cc', .slice ad' nd' cd', .slice ae' ne' ce'] 32)) := (Below.refl _ _).alloc (Nat.le_refl _) _
          have Fa : Frp (MtW B g) wr _ := Frp.ofBelow hBa (MtW B g)
          have hjl' : (j : Int) < (t.kids.length : Int) := by omega
          have hl2 : (A2 ++ ((t.kids.take j).map (mkup n)).flatten).length + (mkup n t.kids[j]).length ≤ 100000000 := by
            rw [hst] at hle
            simp only [List.length_append] at hle ⊢
            omega
          have HST := hide (show A2 ++ ((t.kids.take (j + 1)).map (mkup n)).flatten = A2 ++ ((t.kids.take j).map (mkup n)).flatten ++ mkup n t.kids[j] by rw [hst, List.append_assoc])
          have HC := hide (H w0 _ B g _ _ _ _ _ _ t.kids[j] hx (unhide HW _ (hfw.trans Fa)) h0 hg0 (Nat.le_trans hBr hBa.size) (hr.keep hBa) hl2)
          clear hr hst hle hC hl2 hx hBa c4 hw3 he
          go_wp2_with fail
          refine (unhide HC).mono ?_
          clear HC
          rintro e w9 ⟨rfl, hw9, F9⟩
          have HO := hide (show Wr B w9 g (A2 ++ ((t.kids.take (j + 1)).map (mkup n)).flatten) by rw [unhide HST]; exact hw9)
          clear hw9 e0 e1 e2 e3 e4
          go_wp2_with fail
          go_roundw
          case rel => exact ⟨j + 1, by omega, by go_num, unhide HO, hf.trans (Fa.trans F9)⟩
          case measure => simp [intOf]; omega
        · have hje : j = t.kids.length := by omega
          subst hje
          rw [List.take_length] at hr
          have x1 : wr.cell? ⟨w.heap.size, 1, none⟩ = some (.slice ab t.name.length cb) := (l3.frp hf (node_notW _ _ _ _)).cell 1
          have vx := conv_any wr _ t.name (hb.keep (unhide HW _ hfw))
          have HP := hide (put_three B g 3 wr _ ⟨#[60, 47]⟩ (str t.name) ⟨#[62]⟩ [60, 47] t.name [62] hr hBr word_end (word_str hb.1) word_62 (by simp only [List.length_append, List.length_cons, List.length_nil]; omega))
          generalize str t.name = sn at *
          clear hr he hw3 c4 l3
          go_wp2_with fail
          refine (unhide HP).mono ?_
          clear HP
          rintro e w5 ⟨rfl, hw5, F5⟩
          go_wp2_with fail
          go_end0
          exact ⟨rfl, by rw [unhide HE2]; exact hw5, hfw.trans F5⟩

theorem putN_any : ∀ n, PnSaid n
  | 0 => fun w0 w B g L a b c d e t hrd => absurd hrd (by unfold RdNode; exact id)
  | n + 1 => putN_succ n (putN_any n)
end Go.Proofs.Yteioihjgjbjmjaa
