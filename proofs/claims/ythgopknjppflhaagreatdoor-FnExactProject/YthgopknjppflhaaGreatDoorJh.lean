/- Own texts joined: TpI, KeyI, OtI, PjP, FoA, FqA, SdM, L5sd, FoP, IdJ, PrI, OpsT, L5fo, QGr. -/
import Derived.Test.YthgopknjppflhaaGreatDoorJa
import Derived.Test.YthgopknjppflhaaGreatDoorJb
import Derived.Test.YthgopknjppflhaaGreatDoorJc
import Derived.Test.YthgopknjppflhaaGreatDoorJd
import Derived.Test.YthgopknjppflhaaGreatDoorJe
import Derived.Test.YthgopknjppflhaaGreatDoorJf
import Derived.Test.YthgopknjppflhaaGreatDoorJg
import Derived.Test.YthgopknjppflhaaGreatDoorChecked
import Derived.Deep.RegionLaw
import Derived.BigQuiet

/- impl's topsOk. -/
namespace Go.Proofs.YthgopknjppflhaaGreatDoor
open Go.RowKit
set_option linter.unusedVariables false
set_option maxRecDepth 100000

theorem topI_at {l : List PlV} {i : Nat} {p : PlV} {id : IdV} (hp : l[i]? = some p) : topI l i id = (decide (p.id = id) && decide (p.par = (0, 0)) && decide (p.key.length = 0) && takesV l id) := by
  unfold topI
  rw [hp]
theorem okI_root : okI rootV := ⟨by kernel_rfl, by kernel_rfl⟩
theorem okI_trash : okI trashV := ⟨by kernel_rfl, by kernel_rfl⟩
set_option maxHeartbeats 6400000 in
theorem topsOk_any {w0 w : World} {g mb gr : Nat} {c : Nat} {l : List PlV} {F : List Nat} (h : FoQ w0 w g mb (some ⟨gr, 0, none⟩) c l F) (hB0 : Below w0.heap.size w0 w) (hG : Glo w) (h2 : 2 ≤ l.length) :
    Calls Tryz.prog 24 #[.pointer (some ⟨g, 0, none⟩)] w fun e w' => e = .returned (.bool (topI l 0 rootV && topI l 1 trashV)) ∧ FoQ w0 w' g mb (some ⟨gr, 0, none⟩) c l F ∧ Frm w w' [g] := by
  refine calls_via ?_
  intro Q HQ
  obtain ⟨y0, y1, y2, y3⟩ := hG
  have hA := (Below.refl w.heap.size w).alloc (Nat.le_refl _) (.cells #[.int .i64 0, .int .i64 0, .int .i64 0, .int .i64 1] 51)
  have ls := Loc.made w #[.int .i64 0, .int .i64 0, .int .i64 0, .int .i64 1] 51
  have hgl : g < w.heap.size := h.set.lt
  have HX := hide (And.intro hA (And.intro ls (And.intro (h.keep hA) (And.intro hB0 hgl))))
  have hgw := h.geg
  clear hA ls h hB0 hgl
  go_enter Tryz.func24, Tryz.ntmps24
  go_wp2_with fail
  obtain ⟨hA, ls, h1, hB0, hgl⟩ := unhide HX
  clear HX y0 y1 y2 y3
  generalize (w.alloc (.cells #[.int .i64 0, .int .i64 0, .int .i64 0, .int .i64 1] 51)) = w1 at *
  have hlw := ls.lt
  have hB01 := hB0.trans (hA.mono hB0.size)
  go_loopw [10] (fun i wr => ∃ j : Nat, j ≤ 2 ∧ i = .int .i64 (j : Int) ∧ (0 < j → topI l 0 rootV = true) ∧ (1 < j → topI l 1 trashV = true) ∧ FoQ w0 wr g mb (some ⟨gr, 0, none⟩) c l F ∧ Frm w1 wr [g]) (fun i _ => 2 - (intOf i).toNat)
  case atStart => exact ⟨0, by omega, rfl, fun h => by omega, fun h => by omega, h1, Frm.refl _ _⟩
  case round =>
    obtain ⟨j, hj, rfl, ht0, ht1, hq, hf⟩ := hrel
    have hb0r : Below w0.heap.size w0 wr := hB01.trans (hf.below hB01.size (fun q hq => by simp at hq; omega))
    have lsr := ls.frm hf (by simp; omega)
    have hswr := hf.size
    have hgr : g < wr.heap.size := by omega
    obtain ⟨cs, lg, hc0, _⟩ := hq.set.loc
    have g0 : wr.cell? ⟨g, 0, none⟩ = some (.slice (some ⟨gr, 0, none⟩) l.length c) := (lg.cell 0).trans hc0
    clear lg hc0
    have hcases : j = 0 ∨ j = 1 ∨ j = 2 := by omega
    rcases hcases with rfl | rfl | rfl
    · have hJ : 0 < l.length := by omega
      obtain ⟨k1, ck, n1, cn, t1, ct, a1, ca, -, e0, e1, e2, e3, e4, e5, e6, e7, e8, r1, r2, r3, r4⟩ := hq.own (k := 0) hJ
      have hp : l[0]? = some l[0] := by simp [hJ]
      generalize l[0] = p at *
      clear r1 r2 r3 r4
      have hti := topI_at (id := rootV) hp
      have hzl : ((0 : Nat) : Int) < (l.length : Int) := by omega
      have s0 := lsr.cell 0
      have s1 := lsr.cell 1
      simp at s0 s1
      simp only [Nat.zero_mul, Nat.zero_add] at e0 e1 e2 e3 e4 e5 e6 e7 e8
      have hgrl : gr < wr.heap.size := lt_of_cell e0
      have li := (Loc.made wr #[.int .i64 0, .int .i64 0] 51).alloc (.cells #[.int .i64 p.idN, .int .i64 p.idR, .int .i64 p.parN, .int .i64 p.parR, .slice k1 p.key.length ck, .int .i64 p.kind, .slice n1 p.name.length cn, .slice t1 p.text.length ct, .slice a1 p.attrs.length ca] 54)
      have lp := Loc.made (wr.alloc (.cells #[.int .i64 0, .int .i64 0] 51)) #[.int .i64 p.idN, .int .i64 p.idR, .int .i64 p.parN, .int .i64 p.parR, .slice k1 p.key.length ck, .int .i64 p.kind, .slice n1 p.name.length cn, .slice t1 p.text.length ct, .slice a1 p.attrs.length ca] 54
      have hA3 : Below wr.heap.size wr ((wr.alloc (.cells #[.int .i64 0, .int .i64 0] 51)).alloc (.cells #[.int .i64 p.idN, .int .i64 p.idR, .int .i64 p.parN, .int .i64 p.parR, .slice k1 p.key.length ck, .int .i64 p.kind, .slice n1 p.name.length cn, .slice t1 p.text.length ct, .slice a1 p.attrs.length ca] 54)) := ((Below.refl _ _).alloc (Nat.le_refl _) _).alloc (by simp) _
      have hq3 := hq.keep hA3
      have hb03 := hb0r.trans (hA3.mono hb0r.size)
      have hf3 := hf.trans (Frm.ofBelow hA3 [g])
      have HT := hide (takesQ_any hq3 hb03 rootV okI_root)
      have HB := hide (And.intro hq3 hf3)
      have HF := hide (fun (hh : topI l 0 rootV = false) W (hq : FoQ w0 W g mb (some ⟨gr, 0, none⟩) c l F) (hf : Frm w1 W [g]) => (show Q (.returned (.bool false)) W by
        have := unhide HQ (.returned (.bool (topI l 0 rootV && topI l 1 trashV))) W ⟨rfl, hq, (Frm.ofBelow hA [g]).trans hf⟩
        rw [hh, Bool.false_and] at this
        exact this))
      have HTI := hide hti
      have HTT := hide (And.intro ht0 ht1)
      clear li lp hA3 hq3 hb03 hf3 hq hf hp lsr hti ht0 ht1 h1 ls hb0r hB0 hB01 hA
      generalize hnK : p.key.length = nK at *
      clear hnK
      by_cases q1 : p.idN = 0
      case neg =>
        have d1 : (p.idN == 0) = false := by simpa using q1
        have HE := hide (unhide HF (by rw [unhide HTI, decide_eq_false (show ¬ p.id = rootV from fun e => q1 (Prod.mk.inj e).1)]; rfl) _ (unhide HB).1 (unhide HB).2)
        clear q1
        go_wp2_with fail
        exact unhide HE
      by_cases q2 : p.idR = 0
      case neg =>
        have d1 : (p.idN == 0) = true := by simpa using q1
        have d2 : (p.idR == 0) = false := by simpa using q2
        have HE := hide (unhide HF (by rw [unhide HTI, decide_eq_false (show ¬ p.id = rootV from fun e => q2 (Prod.mk.inj e).2)]; rfl) _ (unhide HB).1 (unhide HB).2)
        clear q1 q2
        go_wp2_with fail
        exact unhide HE
      have d1 : (p.idN == 0) = true := by simpa using q1
      have d2 : (p.idR == 0) = true := by simpa using q2
      have hid : decide (p.id = rootV) = true := decide_eq_true (show (p.idN, p.idR) = _ by rw [q1, q2]; rfl)
      rw [hid, Bool.true_and] at HTI
      clear hid q1 q2
      by_cases q3 : p.parN = 0
      case neg =>
        have d3 : (p.parN == 0) = false := by simpa using q3
        have HE := hide (unhide HF (by rw [unhide HTI, decide_eq_false (show ¬ p.par = (0, 0) from fun e => q3 (Prod.mk.inj e).1)]; rfl) _ (unhide HB).1 (unhide HB).2)
        clear q3
        go_wp2_with fail
        exact unhide HE
      by_cases q4 : p.parR = 0
      case neg =>
        have d3 : (p.parN == 0) = true := by simpa using q3
        have d4 : (p.parR == 0) = false := by simpa using q4
        have HE := hide (unhide HF (by rw [unhide HTI, decide_eq_false (show ¬ p.par = (0, 0) from fun e => q4 (Prod.mk.inj e).2)]; rfl) _ (unhide HB).1 (unhide HB).2)
        clear q3 q4
        go_wp2_with fail
        exact unhide HE
      have d3 : (p.parN == 0) = true := by simpa using q3
      have d4 : (p.parR == 0) = true := by simpa using q4
      have hid : decide (p.par = (0, 0)) = true := decide_eq_true (show (p.parN, p.parR) = _ by rw [q3, q4])
      rw [hid, Bool.true_and] at HTI
      clear hid q3 q4
      by_cases q5 : nK = 0
      case neg =>
        have d5 : 0 < nK := by omega
        have HE := hide (unhide HF (by rw [unhide HTI, decide_eq_false q5]; rfl) _ (unhide HB).1 (unhide HB).2)
        clear q5
        go_wp2_with fail
        exact unhide HE
      subst q5
      rw [show decide ((0 : Nat) = 0) = true from rfl, Bool.true_and] at HTI
      unfold idVal at HT
      go_wp2_with fail
      refine (unhide HT).mono ?_
      rintro e W ⟨rfl, hqW, hfW⟩
      have hfw := (unhide HB).2.trans hfW
      have hti := unhide HTI
      rw [← hti]
      clear HT HB
      cases htv : topI l 0 rootV with
      | false =>
        have HE := hide (unhide HF htv W hqW hfw)
        clear hqW hfw hfW hti htv
        go_wp2_with fail
        exact unhide HE
      | true =>
        have HE := hide (And.intro hqW hfw)
        have HV := hide htv
        clear hqW hfw hfW hti htv
        go_wp2_with fail
        go_roundw
        case rel => exact ⟨0 + 1, by omega, by go_num, fun _ => unhide HV, fun h => by omega, (unhide HE).1, (unhide HE).2⟩
        case measure => simp [intOf]
    · have hJ : 1 < l.length := by omega
      obtain ⟨k1, ck, n1, cn, t1, ct, a1, ca, -, e0, e1, e2, e3, e4, e5, e6, e7, e8, r1, r2, r3, r4⟩ := hq.own (k := 1) hJ
      have hp : l[1]? = some l[1] := by simp [hJ]
      generalize l[1] = p at *
      clear r1 r2 r3 r4
      have hti := topI_at (id := trashV) hp
      have hzl : ((1 : Nat) : Int) < (l.length : Int) := by omega
      have s0 := lsr.cell 2
      have s1 := lsr.cell 3
      simp at s0 s1
      simp only [Nat.one_mul] at e0 e1 e2 e3 e4 e5 e6 e7 e8
      have hgrl : gr < wr.heap.size := lt_of_cell e0
      have li := (Loc.made wr #[.int .i64 0, .int .i64 1] 51).alloc (.cells #[.int .i64 p.idN, .int .i64 p.idR, .int .i64 p.parN, .int .i64 p.parR, .slice k1 p.key.length ck, .int .i64 p.kind, .slice n1 p.name.length cn, .slice t1 p.text.length ct, .slice a1 p.attrs.length ca] 54)
      have lp := Loc.made (wr.alloc (.cells #[.int .i64 0, .int .i64 1] 51)) #[.int .i64 p.idN, .int .i64 p.idR, .int .i64 p.parN, .int .i64 p.parR, .slice k1 p.key.length ck, .int .i64 p.kind, .slice n1 p.name.length cn, .slice t1 p.text.length ct, .slice a1 p.attrs.length ca] 54
      have hA3 : Below wr.heap.size wr ((wr.alloc (.cells #[.int .i64 0, .int .i64 1] 51)).alloc (.cells #[.int .i64 p.idN, .int .i64 p.idR, .int .i64 p.parN, .int .i64 p.parR, .slice k1 p.key.length ck, .int .i64 p.kind, .slice n1 p.name.length cn, .slice t1 p.text.length ct, .slice a1 p.attrs.length ca] 54)) := ((Below.refl _ _).alloc (Nat.le_refl _) _).alloc (by simp) _
      have hq3 := hq.keep hA3
      have hb03 := hb0r.trans (hA3.mono hb0r.size)
      have hf3 := hf.trans (Frm.ofBelow hA3 [g])
      have HT := hide (takesQ_any hq3 hb03 trashV okI_trash)
      have HB := hide (And.intro hq3 hf3)
      have HF := hide (fun (hh : topI l 1 trashV = false) W (hq : FoQ w0 W g mb (some ⟨gr, 0, none⟩) c l F) (hf : Frm w1 W [g]) => (show Q (.returned (.bool false)) W by
        have := unhide HQ (.returned (.bool (topI l 0 rootV && topI l 1 trashV))) W ⟨rfl, hq, (Frm.ofBelow hA [g]).trans hf⟩
        rw [hh, Bool.and_false] at this
        exact this))
      have HTI := hide hti
      have HTT := hide (And.intro ht0 ht1)
      clear li lp hA3 hq3 hb03 hf3 hq hf hp lsr hti ht0 ht1 h1 ls hb0r hB0 hB01 hA
      generalize hnK : p.key.length = nK at *
      clear hnK
      by_cases q1 : p.idN = 0
      case neg =>
        have d1 : (p.idN == 0) = false := by simpa using q1
        have HE := hide (unhide HF (by rw [unhide HTI, decide_eq_false (show ¬ p.id = trashV from fun e => q1 (Prod.mk.inj e).1)]; rfl) _ (unhide HB).1 (unhide HB).2)
        clear q1
        go_wp2_with fail
        exact unhide HE
      by_cases q2 : p.idR = 1
      case neg =>
        have d1 : (p.idN == 0) = true := by simpa using q1
        have d2 : (p.idR == 1) = false := by simpa using q2
        have HE := hide (unhide HF (by rw [unhide HTI, decide_eq_false (show ¬ p.id = trashV from fun e => q2 (Prod.mk.inj e).2)]; rfl) _ (unhide HB).1 (unhide HB).2)
        clear q1 q2
        go_wp2_with fail
        exact unhide HE
      have d1 : (p.idN == 0) = true := by simpa using q1
      have d2 : (p.idR == 1) = true := by simpa using q2
      have hid : decide (p.id = trashV) = true := decide_eq_true (show (p.idN, p.idR) = _ by rw [q1, q2]; rfl)
      rw [hid, Bool.true_and] at HTI
      clear hid q1 q2
      by_cases q3 : p.parN = 0
      case neg =>
        have d3 : (p.parN == 0) = false := by simpa using q3
        have HE := hide (unhide HF (by rw [unhide HTI, decide_eq_false (show ¬ p.par = (0, 0) from fun e => q3 (Prod.mk.inj e).1)]; rfl) _ (unhide HB).1 (unhide HB).2)
        clear q3
        go_wp2_with fail
        exact unhide HE
      by_cases q4 : p.parR = 0
      case neg =>
        have d3 : (p.parN == 0) = true := by simpa using q3
        have d4 : (p.parR == 0) = false := by simpa using q4
        have HE := hide (unhide HF (by rw [unhide HTI, decide_eq_false (show ¬ p.par = (0, 0) from fun e => q4 (Prod.mk.inj e).2)]; rfl) _ (unhide HB).1 (unhide HB).2)
        clear q3 q4
        go_wp2_with fail
        exact unhide HE
      have d3 : (p.parN == 0) = true := by simpa using q3
      have d4 : (p.parR == 0) = true := by simpa using q4
      have hid : decide (p.par = (0, 0)) = true := decide_eq_true (show (p.parN, p.parR) = _ by rw [q3, q4])
      rw [hid, Bool.true_and] at HTI
      clear hid q3 q4
      by_cases q5 : nK = 0
      case neg =>
        have d5 : 0 < nK := by omega
        have HE := hide (unhide HF (by rw [unhide HTI, decide_eq_false q5]; rfl) _ (unhide HB).1 (unhide HB).2)
        clear q5
        go_wp2_with fail
        exact unhide HE
      subst q5
      rw [show decide ((0 : Nat) = 0) = true from rfl, Bool.true_and] at HTI
      unfold idVal at HT
      go_wp2_with fail
      refine (unhide HT).mono ?_
      rintro e W ⟨rfl, hqW, hfW⟩
      have hfw := (unhide HB).2.trans hfW
      have hti := unhide HTI
      rw [← hti]
      clear HT HB
      cases htv : topI l 1 trashV with
      | false =>
        have HE := hide (unhide HF htv W hqW hfw)
        clear hqW hfw hfW hti htv
        go_wp2_with fail
        exact unhide HE
      | true =>
        have HE := hide (And.intro hqW hfw)
        have HV := hide htv
        clear hqW hfw hfW hti htv
        go_wp2_with fail
        go_roundw
        case rel => exact ⟨1 + 1, by omega, by go_num, fun _ => (unhide HTT).1 (by omega), fun _ => unhide HV, (unhide HE).1, (unhide HE).2⟩
        case measure => simp [intOf]
    · have HE := hide (unhide HQ (.returned (.bool (topI l 0 rootV && topI l 1 trashV))) wr ⟨rfl, hq, (Frm.ofBelow hA [g]).trans hf⟩)
      rw [ht0 (by omega), ht1 (by omega)] at HE
      clear hq hf h1 ls lsr hb0r hB0 hB01 hA g0
      go_wp2_with fail
      exact unhide HE

end Go.Proofs.YthgopknjppflhaaGreatDoor

/- impl.keyOk answers what the plain test says. -/
namespace Go.Proofs.YthgopknjppflhaaGreatDoor
open Go.RowKit
set_option linter.unusedVariables false
set_option maxRecDepth 100000

theorem keyI_short (w : World) (a : Option Addr) (n cap : Nat) (h : n < 1 ∨ 12 < n) :
    Calls Tryz.prog 54 #[.slice a n cap] w fun e w' => e = .returned (.bool false) ∧ w' = w := by
  by_cases h1 : n < 1
  · have h1' : (n : Int) < 1 := by omega
    go_enter Tryz.func54, Tryz.ntmps54
    go_wp2
    go_ret
    exact ⟨rfl, rfl⟩
  · have h1' : decide ((n : Int) < 1) = false := by simp; omega
    have h2 : (12 : Int) < (n : Int) := by omega
    go_enter Tryz.func54, Tryz.ntmps54
    go_wp2
    go_ret
    exact ⟨rfl, rfl⟩

open Classical in
set_option maxHeartbeats 1600000 in
theorem keyI_row (w : World) (b off cap : Nat) (l : List Int) (hok : okZ l) (h1 : 1 ≤ l.length) (h8 : l.length ≤ 12)
    (hc : ∀ i, i < l.length → w.cell? ⟨b, off + i, none⟩ = some (.int .i64 (l.getD i 0))) :
    Calls Tryz.prog 54 #[.slice (some ⟨b, off, none⟩) l.length cap] w fun e w' => e = .returned (.bool (decide (KeyOk l))) ∧ w' = w := by
  have d1 : decide ((l.length : Int) < 1) = false := by simp; omega
  have d2 : decide ((12 : Int) < (l.length : Int)) = false := by simp; omega
  obtain ⟨n, hn⟩ : ∃ n, l.length = n + 1 := ⟨l.length - 1, by omega⟩
  obtain ⟨z, hz⟩ : ∃ z, z = l.getD n 0 := ⟨_, rfl⟩
  have hcz : w.cell? ⟨b, off + n, none⟩ = some (.int .i64 z) := by rw [hz]; exact hc _ (by omega)
  have HZ := hide hz
  have HC := hide hc
  have HN := hide hn
  have e1 : (l.length : Int) - 1 = (n : Int) := by omega
  have hlt0 : n < l.length := by omega
  clear hc hz hn
  go_enter Tryz.func54, Tryz.ntmps54
  go_wp2
  go_loop [15] (fun i => ∃ k : Nat, k ≤ l.length ∧ i = .int .i64 k ∧ allTo keyCh l k) (fun i => l.length - (intOf i).toNat)
  case atStart => exact ⟨0, Nat.zero_le _, rfl, fun i hi => by omega⟩
  case round =>
    obtain ⟨k, hk, rfl, ha⟩ := hrel
    have HA := hide ha
    clear ha
    by_cases hlt : k < l.length
    · obtain ⟨x, hx⟩ : ∃ x, x = l.getD k 0 := ⟨_, rfl⟩
      have hcx : w.cell? ⟨b, off + k, none⟩ = some (.int .i64 x) := by rw [hx]; exact unhide HC _ hlt
      have HX := hide hx
      have hlt' : (k : Int) < (l.length : Int) := by omega
      clear hx hcz
      by_cases hn : keyCh k x
      · have HN := hide hn
        have q1 : decide (x < 0) = false := by unfold keyCh at hn; simp; omega
        have q2 : decide (999 < x) = false := by unfold keyCh at hn; simp; omega
        clear hn
        go_wp2
        go_round
        case rel => exact ⟨k + 1, by omega, by go_num, allTo_step (unhide HA) (by rw [← unhide HX]; exact unhide HN)⟩
        case measure => simp [intOf]; omega
      · have HF := hide (show decide (KeyOk l) = false by
          simp only [decide_eq_false_iff_not]
          rintro ⟨_, _, _, h⟩
          exact hn (by rw [unhide HX]; exact h k hlt))
        have hcase : decide (x < 0) = true ∨ (decide (x < 0) = false ∧ decide (999 < x) = true) := by
          unfold keyCh at hn; simp; omega
        clear hn
        rcases hcase with q1 | ⟨q1, q2⟩
        all_goals
          go_wp2
          go_ret
          exact ⟨by rw [unhide HF]; rfl, rfl⟩
    · have e : k = l.length := by omega
      subst e
      by_cases hz0 : z = 0
      · have HF := hide (show decide (KeyOk l) = false by
          simp only [decide_eq_false_iff_not]
          rintro ⟨_, _, h, _⟩
          rw [unhide HN, Nat.add_sub_cancel, ← unhide HZ] at h
          exact h hz0)
        have dz : (z != 0) = false := by simp [hz0]
        clear hz0
        go_wp2
        go_ret
        exact ⟨by rw [unhide HF]; rfl, rfl⟩
      · have HF := hide (show decide (KeyOk l) = true by
          simp only [decide_eq_true_eq]
          exact ⟨h1, h8, by rw [unhide HN, Nat.add_sub_cancel, ← unhide HZ]; exact hz0, unhide HA⟩)
        have dz : (z != 0) = true := by simp [hz0]
        clear hz0
        go_wp2
        go_ret
        exact ⟨by rw [unhide HF]; rfl, rfl⟩

open Classical in
theorem keyI_any (w : World) (v : Value) (l : List Int) (h : Ints w v l) :
    Calls Tryz.prog 54 #[v] w fun e w' => e = .returned (.bool (decide (KeyOk l))) ∧ w' = w := by
  by_cases hl : l.length < 1 ∨ 12 < l.length
  · obtain ⟨a, cap, rfl, _⟩ := h.shape
    have hd : decide (KeyOk l) = false := by simp only [decide_eq_false_iff_not]; rintro ⟨_, _, _⟩; omega
    rw [hd]
    exact keyI_short w a _ cap hl
  · obtain ⟨hok, hm, ⟨rfl, rfl⟩ | ⟨x, cap, rfl, hc, rfl⟩ | ⟨b, off, cap, rfl, _, _, _, _, h5⟩⟩ := h
    · simp at hl
    · simp at hl
    · exact keyI_row w b off cap l hok (by omega) (by omega) h5
theorem keyI_b (w : World) (v : Value) (l : List Int) (h : Ints w v l) : Calls Tryz.prog 54 #[v] w fun e w' => e = .returned (.bool (keyB l)) ∧ w' = w := by
  refine (keyI_any w v l h).mono ?_
  rintro e w' ⟨rfl, h⟩
  refine ⟨?_, h⟩
  by_cases hn : KeyOk l
  · rw [(keyB_iff l).2 hn]; simp [hn]
  · rw [Bool.eq_false_iff.2 (fun k => hn ((keyB_iff l).1 k))]; simp [hn]
end Go.Proofs.YthgopknjppflhaaGreatDoor

/- impl's othersOk. -/
namespace Go.Proofs.YthgopknjppflhaaGreatDoor
open Go.RowKit
set_option linter.unusedVariables false
set_option maxRecDepth 100000

theorem eachB_no {l : List PlV} {f : Nat → PlV → Bool} {i : Nat} {p : PlV} (hp : l[i]? = some p) (h : f i p = false) : eachB l f = false := by
  rw [Bool.eq_false_iff]
  intro h'
  rw [(eachB_iff l f).1 h' i p hp] at h
  cases h
theorem keysI_at {l : List PlV} {i : Nat} {p : PlV} (h : 2 ≤ i) : keysI l i p = (keyB p.key && takesV l p.par) := by unfold keysI; rw [decide_eq_false (by omega), Bool.false_or]
theorem freeI_at {l : List PlV} {i : Nat} {p : PlV} (h : 2 ≤ i) : freeI l i p = !within l l.length p.par p.id := by unfold freeI; rw [decide_eq_false (by omega), Bool.false_or]
theorem keysI_lo {l : List PlV} {i : Nat} {p : PlV} (h : i < 2) : keysI l i p = true := by unfold keysI; rw [decide_eq_true h, Bool.true_or]
theorem freeI_lo {l : List PlV} {i : Nat} {p : PlV} (h : i < 2) : freeI l i p = true := by unfold freeI; rw [decide_eq_true h, Bool.true_or]
set_option maxHeartbeats 6400000 in
theorem othersOk_any {w0 w : World} {g mb gr : Nat} {c : Nat} {l : List PlV} {F : List Nat} (h : FoQ w0 w g mb (some ⟨gr, 0, none⟩) c l F) (hB0 : Below w0.heap.size w0 w) (hG : Glo w) (h2 : 2 ≤ l.length) (hgw2 : 2 ≤ g) (hr : ∀ p, l[0]? = some p → p.id = rootV) (ht : ∀ p, l[1]? = some p → p.id = trashV) (hu : (l.map PlV.id).Nodup) :
    Calls Tryz.prog 25 #[.pointer (some ⟨g, 0, none⟩)] w fun e w' => e = .returned (.bool (eachB l (keysI l) && eachB l (freeI l))) ∧ FoQ w0 w' g mb (some ⟨gr, 0, none⟩) c l F ∧ Frm w w' [g] := by
  refine calls_via ?_
  intro Q HQ
  obtain ⟨cs, lg, hc0, _⟩ := h.set.loc
  have g0 : w.cell? ⟨g, 0, none⟩ = some (.slice (some ⟨gr, 0, none⟩) l.length c) := (lg.cell 0).trans hc0
  have hcap : l.length ≤ c := by
    obtain ⟨_, _, _, _, _, hrow, _⟩ := h.row
    rcases hrow.2 with ⟨e, _⟩ | ⟨g', cap', cur, e, _, _, hn, _⟩
    · cases e
    · injection e with _ _ e3; omega
  have hgw := h.geg
  have hgl : g < w.heap.size := h.set.lt
  have z2 : (2 : Int) ≤ (l.length : Int) := by omega
  have zc : (l.length : Int) ≤ (c : Int) := by omega
  have HX := hide (And.intro h (And.intro hB0 hG))
  clear h hB0 hG lg hc0
  by_cases hc2 : c = 2
  · have hl2 : l.length - 2 = 0 := by omega
    have HE := hide (unhide HQ (.returned (.bool (eachB l (keysI l) && eachB l (freeI l)))) w ⟨rfl, (unhide HX).1, Frm.refl _ _⟩)
    rw [(eachB_iff l _).2 (fun i p hp => keysI_lo (by have := (List.getElem?_eq_some_iff.1 hp).1; omega)), (eachB_iff l _).2 (fun i p hp => freeI_lo (by have := (List.getElem?_eq_some_iff.1 hp).1; omega))] at HE
    subst hc2
    go_enter Tryz.func25, Tryz.ntmps25
    go_wp2_with fail
    refine wp_loop_rounds 1 ?_
    rw [rounds_succ]
    go_wp2_with fail
    refine wp_loop_rounds 1 ?_
    rw [rounds_succ]
    go_wp2_with fail
    exact unhide HE
  obtain ⟨m, hm⟩ : ∃ m, l.length = m + 2 := ⟨l.length - 2, by omega⟩
  have hm2 : l.length - 2 = m := by omega
  have HMM := hide hm
  have hmb : m ≤ 100000 := by have := (unhide HX).1.len; omega
  clear hm
  go_enter Tryz.func25, Tryz.ntmps25
  go_wp2_with fail
  obtain ⟨h, hB0, hG⟩ := unhide HX
  clear g0
  try rw [hm2]
  clear hm2
  go_loopw [15] (fun i wr => ∃ j : Nat, j ≤ m ∧ i = .int .i64 (j : Int) ∧ (∀ i p, i < j + 2 → l[i]? = some p → keysI l i p = true) ∧ FoQ w0 wr g mb (some ⟨gr, 0, none⟩) c l F ∧ Frm w wr [g]) (fun i _ => m - (intOf i).toNat)
  case atStart => exact ⟨0, Nat.zero_le _, rfl, fun i p hi hp => keysI_lo (by omega), h, Frm.refl _ _⟩
  case round =>
    obtain ⟨j, hj, rfl, hok, hq, hf⟩ := hrel
    have hm := unhide HMM
    have hb0r : Below w0.heap.size w0 wr := hB0.trans (hf.below hB0.size (fun q hq => by simp at hq; omega))
    have hswr := hf.size
    by_cases hlt : j < m
    · have hj2 : j + 2 < l.length := by omega
      obtain ⟨k1, ck, n1, cn, t1, ct, a1, ca, -, e0, e1, e2, e3, e4, e5, e6, e7, e8, r1, r2, r3, r4⟩ := hq.own hj2
      rw [show (j + 2) * 9 = 18 + j * 9 by omega] at e0 e1 e2 e3 e4 e5 e6 e7 e8
      have hp : l[j + 2]? = some l[j + 2] := by simp [hj2]
      have hids := hq.ids l[j + 2] (List.getElem_mem _)
      generalize l[j + 2] = p at *
      have hlt' : (j : Int) < (m : Int) := by omega
      have hj0 : (0 : Int) ≤ (j : Int) := by omega
      have hgrl : gr < wr.heap.size := lt_of_cell e0
      have lp := Loc.made wr #[.int .i64 p.idN, .int .i64 p.idR, .int .i64 p.parN, .int .i64 p.parR, .slice k1 p.key.length ck, .int .i64 p.kind, .slice n1 p.name.length cn, .slice t1 p.text.length ct, .slice a1 p.attrs.length ca] 54
      have hA3 : Below wr.heap.size wr (wr.alloc (.cells #[.int .i64 p.idN, .int .i64 p.idR, .int .i64 p.parN, .int .i64 p.parR, .slice k1 p.key.length ck, .int .i64 p.kind, .slice n1 p.name.length cn, .slice t1 p.text.length ct, .slice a1 p.attrs.length ca] 54)) := (Below.refl _ _).alloc (Nat.le_refl _) _
      have hq3 := hq.keep hA3
      have hb03 := hb0r.trans (hA3.mono hb0r.size)
      have hf3 := hf.trans (Frm.ofBelow hA3 [g])
      obtain ⟨x0, x1, x2, x3, x4, x5, x6, x7, x8⟩ := ninesP lp _ _ _ _ _ _ _ _ _ rfl
      clear hm
      have hki := keysI_at (l := l) (p := p) (show 2 ≤ j + 2 by omega)
      have HK := hide (fun (hh : keysI l (j + 2) p = true) i q (hi : i < j + 1 + 2) (hq : l[i]? = some q) => (show keysI l i q = true by
        rcases Nat.lt_or_ge i (j + 2) with h1 | h1
        · exact hok i q h1 hq
        · have e : i = j + 2 := by omega
          subst e
          rw [hp] at hq
          exact Option.some.inj hq ▸ hh))
      have HF := hide (fun (hh : keysI l (j + 2) p = false) W (hq : FoQ w0 W g mb (some ⟨gr, 0, none⟩) c l F) (hf : Frm w W [g]) => (show Q (.returned (.bool false)) W by
        have := unhide HQ (.returned (.bool (eachB l (keysI l) && eachB l (freeI l)))) W ⟨rfl, hq, hf⟩
        rw [eachB_no hp hh, Bool.false_and] at this
        exact this))
      have HKY := hide (keyI_b _ _ p.key (r1.keep hb03))
      have HT := hide (takesQ_any hq3 hb03 p.par hids.2)
      have HB := hide (And.intro hq3 hf3)
      clear r1 r2 r3 r4 lp hA3 hq3 hb03 hf3 hq hf hp hok hids hb0r hB0 h
      unfold idVal at HT
      go_wp2_with fail
      refine (unhide HKY).mono ?_
      rintro e W ⟨rfl, rfl⟩
      clear HKY
      cases hkb : keyB p.key with
      | false =>
        have HE := hide (unhide HF (by rw [hki, hkb]; rfl) _ (unhide HB).1 (unhide HB).2)
        clear hki hkb
        go_wp2_with fail
        exact unhide HE
      | true =>
        rw [hkb, Bool.true_and] at hki
        have HKI := hide hki
        clear hki hkb
        go_wp2_with fail
        refine (unhide HT).mono ?_
        rintro e W ⟨rfl, hqW, hfW⟩
        have hfw := (unhide HB).2.trans hfW
        rw [← unhide HKI]
        clear HT HB HKI
        cases htv : keysI l (j + 2) p with
        | false =>
          have HE := hide (unhide HF htv W hqW hfw)
          clear hqW hfw hfW htv
          go_wp2_with fail
          exact unhide HE
        | true =>
          have HE := hide (And.intro hqW hfw)
          have HV := hide (unhide HK htv)
          clear hqW hfw hfW htv
          go_wp2_with fail
          go_roundw
          case rel => exact ⟨j + 1, by omega, by go_num, unhide HV, (unhide HE).1, (unhide HE).2⟩
          case measure => simp [intOf]; omega
    · have hnl : ¬ (j : Int) < (m : Int) := by omega
      have hkeys : ∀ i p, l[i]? = some p → keysI l i p = true := fun i p hp => hok i p (by have := (List.getElem?_eq_some_iff.1 hp).1; omega) hp
      have hFW : FrW l := ⟨h2, hr, ht, hu, fun i p hi hp => by
        have := hkeys i p hp
        rw [keysI_at hi, Bool.and_eq_true] at this
        exact takes_posS this.2⟩
      have hek : eachB l (keysI l) = true := (eachB_iff l _).2 hkeys
      have hGr := hG.frm hf (fun q hq => by simp at hq; omega)
      have HQ2 := hide (fun e W (hh : e = .returned (.bool (eachB l (freeI l))) ∧ FoQ w0 W g mb (some ⟨gr, 0, none⟩) c l F ∧ Frm w W [g]) => unhide HQ e W ⟨by rw [hek, Bool.true_and]; exact hh.1, hh.2.1, hh.2.2⟩)
      have HY := hide (And.intro hq (And.intro hf (And.intro hb0r (And.intro hGr (And.intro hkeys hFW)))))
      clear hok hek hkeys hFW hGr hq hf hb0r hB0 h hG hm HQ
      go_wp2_with fail
      obtain ⟨hq, hf, hb0r, hGr, hkeys, hFW⟩ := unhide HY
      clear HY
      generalize wr = w5 at *
      go_loopw [33] (fun i wr' => ∃ j' : Nat, j' ≤ m ∧ i = .int .i64 (j' : Int) ∧ (∀ i p, i < j' + 2 → l[i]? = some p → freeI l i p = true) ∧ Below w5.heap.size w5 wr') (fun i _ => m - (intOf i).toNat)
      case atStart => exact ⟨0, Nat.zero_le _, rfl, fun i p hi hp => freeI_lo (by omega), Below.refl _ _⟩
      case round =>
        clear hnl hlt hj
        obtain ⟨j, hj, rfl, hok, hB5⟩ := hrel
        have hm := unhide HMM
        replace hq := hq.keep hB5
        replace hf := hf.trans (Frm.ofBelow hB5 [g])
        replace hb0r := hb0r.trans (hB5.mono hb0r.size)
        replace hGr := hGr.keep hB5
        by_cases hlt : j < m
        · have hj2 : j + 2 < l.length := by omega
          obtain ⟨k1, ck, n1, cn, t1, ct, a1, ca, -, e0, e1, e2, e3, e4, e5, e6, e7, e8, r1, r2, r3, r4⟩ := hq.own hj2
          rw [show (j + 2) * 9 = 18 + j * 9 by omega] at e0 e1 e2 e3 e4 e5 e6 e7 e8
          have hp : l[j + 2]? = some l[j + 2] := by simp [hj2]
          have hids := hq.ids l[j + 2] (List.getElem_mem _)
          generalize l[j + 2] = p at *
          have hlt' : (j : Int) < (m : Int) := by omega
          have hj0 : (0 : Int) ≤ (j : Int) := by omega
          have hgrl : gr < wr.heap.size := lt_of_cell e0
          have lp := Loc.made wr #[.int .i64 p.idN, .int .i64 p.idR, .int .i64 p.parN, .int .i64 p.parR, .slice k1 p.key.length ck, .int .i64 p.kind, .slice n1 p.name.length cn, .slice t1 p.text.length ct, .slice a1 p.attrs.length ca] 54
          have hA3 : Below wr.heap.size wr (wr.alloc (.cells #[.int .i64 p.idN, .int .i64 p.idR, .int .i64 p.parN, .int .i64 p.parR, .slice k1 p.key.length ck, .int .i64 p.kind, .slice n1 p.name.length cn, .slice t1 p.text.length ct, .slice a1 p.attrs.length ca] 54)) := (Below.refl _ _).alloc (Nat.le_refl _) _
          have hq3 := hq.keep hA3
          have hb03 := hb0r.trans (hA3.mono hb0r.size)
          have hf3 := hf.trans (Frm.ofBelow hA3 [g])
          obtain ⟨x0, x1, x2, x3, x4, x5, x6, x7, x8⟩ := ninesP lp _ _ _ _ _ _ _ _ _ rfl
          clear hm
          have hki := freeI_at (l := l) (p := p) (show 2 ≤ j + 2 by omega)
          have hkk := hkeys _ _ hp
          rw [keysI_at (by omega), Bool.and_eq_true] at hkk
          obtain ⟨kp, hkp⟩ := takes_posS hkk.2
          have HK := hide (fun (hh : freeI l (j + 2) p = true) i q (hi : i < j + 1 + 2) (hq : l[i]? = some q) => (show freeI l i q = true by
            rcases Nat.lt_or_ge i (j + 2) with h1 | h1
            · exact hok i q h1 hq
            · have e : i = j + 2 := by omega
              subst e
              rw [hp] at hq
              exact Option.some.inj hq ▸ hh))
          have HF := hide (fun (hh : freeI l (j + 2) p = false) W (hq : FoQ w0 W g mb (some ⟨gr, 0, none⟩) c l F) (hf : Frm w W [g]) => (show Q (.returned (.bool false)) W by
            have := unhide HQ2 (.returned (.bool (eachB l (freeI l)))) W ⟨rfl, hq, hf⟩
            rw [eachB_no hp hh] at this
            exact this))
          have HT := hide (withinQ_any hq3 hFW (hGr.keep hA3) p.par p.id hids.2 kp hkp)
          have HB := hide (And.intro hq3 (And.intro hf3 (bstep hB5 hA3)))
          have HY := hide (And.intro hkeys hFW)
          clear r1 r2 r3 r4 lp hA3 hq3 hb03 hf3 hq hf hp hok hids hb0r hkeys hFW hkk hkp hGr
          unfold idVal at HT
          go_wp2_with fail
          refine (unhide HT).mono ?_
          rintro e W ⟨rfl, hbW⟩
          have hqW := (unhide HB).1.keep hbW
          have hfw := (unhide HB).2.1.trans (Frm.ofBelow hbW [g])
          have h5W := bstep (unhide HB).2.2 hbW
          clear HT HB
          cases htv : within l l.length p.par p.id with
          | true =>
            have HE := hide (unhide HF (by rw [hki, htv]; rfl) W hqW hfw)
            clear hqW hfw h5W hbW htv hki
            go_wp2_with fail
            exact unhide HE
          | false =>
            have HE := hide h5W
            have HV := hide (unhide HK (by rw [hki, htv]; rfl))
            clear hqW hfw h5W hbW htv hki
            go_wp2_with fail
            go_roundw
            case rel => exact ⟨j + 1, by omega, by go_num, unhide HV, unhide HE⟩
            case measure => simp [intOf]; omega
        · have hnl : ¬ (j : Int) < (m : Int) := by omega
          have HE := hide (unhide HQ2 (.returned (.bool (eachB l (freeI l)))) wr ⟨rfl, hq, hf⟩)
          rw [(eachB_iff l _).2 (fun i p hp => hok i p (by have := (List.getElem?_eq_some_iff.1 hp).1; omega) hp)] at HE
          clear hq hf hok hkeys hFW hb0r hGr hm
          go_wp2_with fail
          exact unhide HE

end Go.Proofs.YthgopknjppflhaaGreatDoor

/- What Project tells. No function of the program. -/
namespace Go.Proofs.YthgopknjppflhaaGreatDoor
open Go.RowKit
set_option linter.unusedVariables false
set_option maxRecDepth 100000

def PjA (w : World) (l : List PlV) (e : Ending) (w' : World) : Prop := ∃ (kd : Int) (a1 : Option Addr) (n1 c1 : Nat) (a2 : Option Addr) (n2 c2 : Nat) (a3 : Option Addr) (n3 c3 : Nat) (a4 : Option Addr) (n4 c4 : Nat), e = .returned (.tuple #[.agg #[.int .i64 kd, .slice a1 n1 c1, .slice a2 n2 c2, .slice a3 n3 c3, .slice a4 n4 c4], .bool (stB l)]) ∧ ∃ G, OwNode 20 w' [.int .i64 kd, .slice a1 n1 c1, .slice a2 n2 c2, .slice a3 n3 c3, .slice a4 n4 c4] (pjR l) G ∧ G.Nodup ∧ Rng G w.heap.size w'.heap.size ∧ Below w.heap.size w w'
theorem own_nilP (w : World) (base : Nat) : Own w base (.slice none 0 0) [] := ⟨okB_nil, rfl, .inl ⟨rfl, rfl⟩⟩
theorem PjA.no {w w' : World} {l : List PlV} (h : stB l = false) (hb : Below w.heap.size w w') : PjA w l (.returned (.tuple #[.agg #[.int .i64 0, .slice none 0 0, .slice none 0 0, .slice none 0 0, .slice none 0 0], .bool false])) w' := by
  refine ⟨0, none, 0, 0, none, 0, 0, none, 0, 0, none, 0, 0, by rw [h], [], ?_, List.nodup_nil, fun q hq => (by cases hq), hb⟩
  rw [pjR_no h]
  exact ⟨_, _, _, _, [], [], rfl, by show (-9223372036854775808 : Int) ≤ 0; omega, by show (0 : Int) ≤ 9223372036854775807; omega, own_nilP _ _, own_nilP _ _, OwElems.naught _ _ _ _, OwElems.naught _ _ _ _, rfl⟩

end Go.Proofs.YthgopknjppflhaaGreatDoor

/- The forest's add. -/
namespace Go.Proofs.YthgopknjppflhaaGreatDoor
open Go.RowKit Go.Maps
set_option linter.unusedVariables false
set_option maxRecDepth 100000

theorem FSet.store {B : Nat} {o p : Value} {w : World} {g : Nat} (h : FSet B o p w g) (o' : Value) : FSet B o' p (w.setCell ⟨g, 0, none⟩ o') g := by
  rcases h with h | ⟨m, hm, h, hv⟩
  · exact .inl (h.set 0 o')
  · refine .inr ⟨m, hm, h.set 0 o', (heap_setCell_other w ⟨g, 0, none⟩ m o' (fun e => ?_)).trans hv⟩
    have e : m = g := e
    unfold Loc at h
    obtain ⟨es, c, ev⟩ := void_map
    rw [← e, hv, ev] at h
    cases h
end Go.Proofs.YthgopknjppflhaaGreatDoor

/- The forest's add. -/
namespace Go.Proofs.YthgopknjppflhaaGreatDoor
open Go.RowKit Go.Maps
set_option linter.unusedVariables false
set_option maxRecDepth 100000

set_option maxHeartbeats 6400000 in
theorem addQ_any {w0 : World} {w : World} {g mb : Nat} {a : Option Addr} {c : Nat} {l : List PlV} {F : List Nat} (h : FoQ w0 w g mb a c l F) (p : PlV) (k n t s : Option Addr) (ck cn ct cs : Nat) (G : List Nat)
    (hp : PlQ w0 w [.int .i64 p.idN, .int .i64 p.idR, .int .i64 p.parN, .int .i64 p.parR, .slice k p.key.length ck, .int .i64 p.kind, .slice n p.name.length cn, .slice t p.text.length ct, .slice s p.attrs.length cs] p G) (hGn : G.Nodup) (hGB : ∀ q ∈ G, w0.heap.size ≤ q) (hFG : ∀ q ∈ F, q ∉ G) (hid : okI p.id) (hpar : okI p.par) (hnew : posP l p.id = none) (hlen : l.length + 1 ≤ 100000) :
    Calls Tryz.prog 23 #[.pointer (some ⟨g, 0, none⟩), .agg #[.int .i64 p.idN, .int .i64 p.idR, .int .i64 p.parN, .int .i64 p.parR, .slice k p.key.length ck, .int .i64 p.kind, .slice n p.name.length cn, .slice t p.text.length ct, .slice s p.attrs.length cs]] w fun e w' => e = .returned (.tuple #[]) ∧ ∃ a' c' F', FoQ w0 w' g mb a' c' (l ++ [p]) F' ∧ Frm w w' (g :: mb :: F) ∧ ∀ q ∈ F', q ∈ F ∨ q ∈ G ∨ w.heap.size ≤ q := by
  refine calls_via ?_
  intro Q HQ
  obtain ⟨i0, hi0, hz0, hz1, hz2⟩ := info_parts pl_info
  have hA : Below w.heap.size w (w.alloc (.cells #[.int .i64 p.idN, .int .i64 p.idR, .int .i64 p.parN, .int .i64 p.parR, .slice k p.key.length ck, .int .i64 p.kind, .slice n p.name.length cn, .slice t p.text.length ct, .slice s p.attrs.length cs] 54)) := (Below.refl _ _).alloc (Nat.le_refl _) _
  have hA1 : Below w.heap.size w (w.alloc (.cells #[.int .i64 p.idN, .int .i64 p.idR, .int .i64 p.parN, .int .i64 p.parR, .slice k p.key.length ck, .int .i64 p.kind, .slice n p.name.length cn, .slice t p.text.length ct, .slice s p.attrs.length cs] 54)).drew := hA.drew
  have lb := (Loc.made w #[.int .i64 p.idN, .int .i64 p.idR, .int .i64 p.parN, .int .i64 p.parR, .slice k p.key.length ck, .int .i64 p.kind, .slice n p.name.length cn, .slice t p.text.length ct, .slice s p.attrs.length cs] 54).all ((Below.refl _ _).drew)
  have h1 := h.keep hA1
  obtain ⟨w2, hrun, hm2, hg2⟩ := h1.map.put p hid hnew (by omega)
  obtain ⟨cs1, lg, hc0, hc1⟩ := h1.set.loc
  have g0 := (lg.cell 0).trans hc0
  have g1 := (lg.cell 1).trans hc1
  have b0 := lb.cell 0
  have b1 := lb.cell 1
  have f2 : Frm (w.alloc (.cells #[.int .i64 p.idN, .int .i64 p.idR, .int .i64 p.parN, .int .i64 p.parR, .slice k p.key.length ck, .int .i64 p.kind, .slice n p.name.length cn, .slice t p.text.length ct, .slice s p.attrs.length cs] 54)).drew w2 [mb] := Frm.ofGrown hg2
  have hgm := h1.gm
  have hmF := h1.mF
  have hgF := h1.gF
  have s2 : FSet (mb + 1) (.slice a l.length c) (.map (some mb)) w2 g := h1.set.frm f2 (by simpa using hgm) (fun q hq => .inl (by have e : q = mb := (by simpa using hq); omega))
  have r2 := h1.row.frm f2 (fun q hq e => hmF (by have e9 : q = mb := (by simpa using e); rw [← e9]; exact hq))
  have hnb : w.heap.size ∉ [mb] := fun e => by have e9 : w.heap.size = mb := (by simpa using e); have := h.map.lt; omega
  have lb2 := lb.frm f2 hnb
  have p2 : PlQ w0 w2 [.int .i64 p.idN, .int .i64 p.idR, .int .i64 p.parN, .int .i64 p.parR, .slice k p.key.length ck, .int .i64 p.kind, .slice n p.name.length cn, .slice t p.text.length ct, .slice s p.attrs.length cs] p G := (hp.frm (Frm.ofBelow hA1 []) (fun _ _ => by simp)).frm f2 (fun q hq e => by
    have e9 : q = mb := by simpa using e
    subst e9
    obtain ⟨es, k', e'⟩ := h.map.isMap
    exact (hp.typ q hq).notMap e')
  have hl63 := h.len
  have HX := hide (And.intro h (And.intro hA1 (And.intro f2 (And.intro s2 (And.intro r2 (And.intro lb2 (And.intro p2 hm2)))))))
  have HG := hide (And.intro hGn (And.intro hGB (And.intro hFG (And.intro hid hpar))))
  have HM := hide (And.intro hgm (And.intro hmF hgF))
  unfold idVal at hrun
  have hrun' : (Instr.mapUpdate 88 (.map (some mb)) (.agg #[.int .i64 p.idN, .int .i64 p.idR]) (.int .i64 (l.length : Int))).run Tryz.prog (w.alloc (.cells #[.int .i64 p.idN, .int .i64 p.idR, .int .i64 p.parN, .int .i64 p.parR, .slice k p.key.length ck, .int .i64 p.kind, .slice n p.name.length cn, .slice t p.text.length ct, .slice s p.attrs.length cs] 54)).drew = .ok () w2 := hrun
  clear h hp hGn hGB hFG hid hpar hnew hA hA1 h1 lg hc0 hc1 lb f2 hgm hmF hgF s2 r2 lb2 p2 hm2 hg2 hrun
  go_enter Tryz.func23, Tryz.ntmps23
  go_wp2_with fail
  go_region
  clear g0 g1 b0 b1 hrun'
  obtain ⟨h, hA1, f2, s2, r2, lb2, p2, hm2⟩ := unhide HX
  obtain ⟨hGn, hGB, hFG, hid, hpar⟩ := unhide HG
  obtain ⟨hgm, hmF, hgF⟩ := unhide HM
  have hd2 : Below w2.heap.size w2 w2.drew := (Below.refl _ _).drew
  have hb23 : Below w2.heap.size w2 (w2.alloc (.cells #[.int .i64 p.idN, .int .i64 p.idR, .int .i64 p.parN, .int .i64 p.parR, .slice k p.key.length ck, .int .i64 p.kind, .slice n p.name.length cn, .slice t p.text.length ct, .slice s p.attrs.length cs] 54)).drew := ((Below.refl _ _).alloc (Nat.le_refl _) _).drew
  have hb3 := hb23
  have s3 := s2.frm (Frm.ofBelow hb23 []) (by simp) (fun q hq => by cases hq)
  have s2d := s2.frm (Frm.ofBelow hd2 []) (by simp) (fun q hq => by cases hq)
  obtain ⟨cs2, lg2, hc2, _⟩ := s2d.loc
  obtain ⟨cs3, lg3, hc3, _⟩ := s3.loc
  have g0 : w2.drew.cell? ⟨g, 0, none⟩ = some (.slice a l.length c) := (lg2.cell 0).trans hc2
  have g0' : (w2.alloc (.cells #[.int .i64 p.idN, .int .i64 p.idR, .int .i64 p.parN, .int .i64 p.parR, .slice k p.key.length ck, .int .i64 p.kind, .slice n p.name.length cn, .slice t p.text.length ct, .slice s p.attrs.length cs] 54)).drew.cell? ⟨g, 0, none⟩ = some (.slice a l.length c) := (lg3.cell 0).trans hc3
  have lbd := lb2.all hd2
  have p0 : w2.drew.cell? ⟨w.heap.size, 0, none⟩ = _ := lbd.cell 0
  have p1 : w2.drew.cell? ⟨w.heap.size, 1, none⟩ = _ := lbd.cell 1
  have p2_ : w2.drew.cell? ⟨w.heap.size, 2, none⟩ = _ := lbd.cell 2
  have p3 : w2.drew.cell? ⟨w.heap.size, 3, none⟩ = _ := lbd.cell 3
  have p4 : w2.drew.cell? ⟨w.heap.size, 4, none⟩ = _ := lbd.cell 4
  have p5 : w2.drew.cell? ⟨w.heap.size, 5, none⟩ = _ := lbd.cell 5
  have p6 : w2.drew.cell? ⟨w.heap.size, 6, none⟩ = _ := lbd.cell 6
  have p7 : w2.drew.cell? ⟨w.heap.size, 7, none⟩ = _ := lbd.cell 7
  have p8 : w2.drew.cell? ⟨w.heap.size, 8, none⟩ = _ := lbd.cell 8
  have hsz2 : w2.drew.heap.size = w2.heap.size := rfl
  have hvF : ∀ q ∈ FB (.slice a l.length c), q ∈ F := fun q hq => by
    obtain ⟨_, _, _, _, _, _, e⟩ := r2
    rw [e]
    exact List.mem_append_left _ hq
  have HP := hide (show PlsQ w0 (w2.alloc (.cells #[.int .i64 p.idN, .int .i64 p.idR, .int .i64 p.parN, .int .i64 p.parR, .slice k p.key.length ck, .int .i64 p.kind, .slice n p.name.length cn, .slice t p.text.length ct, .slice s p.attrs.length cs] 54)).drew (.slice a l.length c) l F ∧ F.Nodup ∧ PlQ w0 (w2.alloc (.cells #[.int .i64 p.idN, .int .i64 p.idR, .int .i64 p.parN, .int .i64 p.parR, .slice k p.key.length ck, .int .i64 p.kind, .slice n p.name.length cn, .slice t p.text.length ct, .slice s p.attrs.length cs] 54)).drew [.int .i64 p.idN, .int .i64 p.idR, .int .i64 p.parN, .int .i64 p.parR, .slice k p.key.length ck, .int .i64 p.kind, .slice n p.name.length cn, .slice t p.text.length ct, .slice s p.attrs.length cs] p G ∧ G.Nodup ∧ (∀ g ∈ F, g ∉ G) ∧ (∀ q, q ∈ F ∨ q ∈ G → q < (w2.alloc (.cells #[.int .i64 p.idN, .int .i64 p.idR, .int .i64 p.parN, .int .i64 p.parR, .slice k p.key.length ck, .int .i64 p.kind, .slice n p.name.length cn, .slice t p.text.length ct, .slice s p.attrs.length cs] 54)).drew.heap.size) from by
    refine ⟨PlsQ.frm r2 (Frm.ofBelow hb23 []) (fun _ _ => by simp), h.nd, p2.frm (Frm.ofBelow hb23 []) (fun _ _ => by simp), hGn, hFG, fun q hq => ?_⟩
    have := hb23.size
    rcases hq with hq | hq
    · have := PlsQ.lt r2 q hq
      omega
    · have := p2.lt q hq
      omega)
  have hcl : ∀ (i : Nat) (u : Value), ([.int .i64 p.idN, .int .i64 p.idR, .int .i64 p.parN, .int .i64 p.parR, .slice k p.key.length ck, .int .i64 p.kind, .slice n p.name.length cn, .slice t p.text.length ct, .slice s p.attrs.length cs])[i]? = some u → (w2.alloc (.cells #[.int .i64 p.idN, .int .i64 p.idR, .int .i64 p.parN, .int .i64 p.parR, .slice k p.key.length ck, .int .i64 p.kind, .slice n p.name.length cn, .slice t p.text.length ct, .slice s p.attrs.length cs] 54)).drew.cell? ((⟨w2.heap.size, 0, none⟩ : Addr).add i) = some u := fun i u hu => World.news_of_block (w := (w2.alloc (.cells #[.int .i64 p.idN, .int .i64 p.idR, .int .i64 p.parN, .int .i64 p.parR, .slice k p.key.length ck, .int .i64 p.kind, .slice n p.name.length cn, .slice t p.text.length ct, .slice s p.attrs.length cs] 54)).drew) (heap_alloc_new w2 (.cells #[.int .i64 p.idN, .int .i64 p.idR, .int .i64 p.parN, .int .i64 p.parR, .slice k p.key.length ck, .int .i64 p.kind, .slice n p.name.length cn, .slice t p.text.length ct, .slice s p.attrs.length cs] 54)) i u (by simpa using hu)
  have HF2 := hide f2
  have HS3 := hide (And.intro s3 (And.intro (hm2.frm (Frm.ofBelow hb23 []) (by simp)) (And.intro hcl (f2.trans (Frm.ofBelow hb23 _)))))
  have hgv : g ∉ FB (.slice a l.length c) := fun e => hgF (hvF g e)
  have hmv : mb ∉ FB (.slice a l.length c) := fun e => hmF (hvF mb e)
  clear hcl s3 s2 s2d lg2 lg3 hc2 hc3 lbd lb2 r2 p2 hm2 f2 hb23 hd2 HX HG HM
  go_wp2_with fail
  go_region_law (refine step_push (R := PlQ w0) (fun h f d => PlQ.frm h f d) (by rfl) (.tmp 19) (.tmp 21) 33 (by rfl) 54 i0 (.agg #[.int .i64 0, .int .i64 0, .int .i64 0, .int .i64 0, .slice none 0 0, .int .i64 0, .slice none 0 0, .slice none 0 0, .slice none 0 0]) 9 136 Tryz.underlying33 hi0 hz0 hz1 hz2 rfl (by decide) _ l F (by rfl) (unhide HP).1 (unhide HP).2.1 ⟨w2.heap.size, 0, none⟩ 1 [.int .i64 p.idN, .int .i64 p.idR, .int .i64 p.parN, .int .i64 p.parR, .slice k p.key.length ck, .int .i64 p.kind, .slice n p.name.length cn, .slice t p.text.length ct, .slice s p.attrs.length cs] p G (by rfl) rfl (unhide HS3).2.2.1 (by intro y hy; simp at hy; rcases hy with rfl | rfl | rfl | rfl | rfl | rfl | rfl | rfl | rfl <;> rfl) (unhide HP).2.2.1 (unhide HP).2.2.2.1 (unhide HP).2.2.2.2.1 (unhide HP).2.2.2.2.2 (by unfold maxLen; omega) (by omega) ?_; intro g9 cap9 w9 F9 hF9 hN9 hM9 hf9 hg9; have s9 := (unhide HS3).1.frm hf9 hgv (fun q hq => .inr ((PlsQ.typ (unhide HP).1 q (hvF q hq)).cells)); obtain ⟨cs9, lg9, hc9, _⟩ := s9.loc; have c09 := (lg9.cell 0).trans hc9; have z09 := lg9.frozen 0)
  all_goals
    have fs := set_frm w9 g 0 (.slice (some ⟨g9, 0, none⟩) (l.length + 1) cap9)
    have hgF9 : g ∉ F9 := fun e => (PlsQ.typ hF9 g e).notL (by decide) lg9
    have h9 : FoQ w0 (w9.setCell ⟨g, 0, none⟩ (.slice (some ⟨g9, 0, none⟩) (l.length + 1) cap9)) g mb (some ⟨g9, 0, none⟩) cap9 (l ++ [p]) F9 := by
      have hll : (l ++ [p]).length = l.length + 1 := by simp
      refine ⟨by rw [hll]; exact s9.store _, ((unhide HS3).2.1.frm hf9 hmv).frm fs (by simpa using fun e => hgm e.symm), by rw [hll]; exact PlsQ.frm hF9 fs (fun q hq e => hgF9 (by have e9 : q = g := (by simpa using e); rw [← e9]; exact hq)), hN9, fun q hq => ?_, h.geg, h.gem, fun q hq => ?_, by rw [hll]; exact hlen⟩
      · rcases hM9 q hq with e | e | e
        · exact h.ge q e
        · exact hGB q e
        · have := h.geg
          have := h.set.lt
          have := hA1.size
          have := (unhide HS3).2.2.2.size
          have e1 : (w2.alloc (.cells #[.int .i64 p.idN, .int .i64 p.idR, .int .i64 p.parN, .int .i64 p.parR, .slice k p.key.length ck, .int .i64 p.kind, .slice n p.name.length cn, .slice t p.text.length ct, .slice s p.attrs.length cs] 54)).drew.heap.size = w2.heap.size + 1 := by simp [World.drew]
          have := hb3.size
          have e2 := (show Frm _ w2 [mb] from unhide HF2).size
          omega
      · rcases List.mem_append.1 hq with hq | hq
        · exact h.ids q hq
        · have e : q = p := by simpa using hq
          rw [e]
          exact ⟨hid, hpar⟩
    have hfr : Frm w (w9.setCell ⟨g, 0, none⟩ (.slice (some ⟨g9, 0, none⟩) (l.length + 1) cap9)) (g :: mb :: F) := by
      refine (Frm.ofBelow hA1 _).trans (((unhide HS3).2.2.2.mono ?_).trans ((hf9.mono ?_).trans (fs.mono ?_)))
      · intro q hq; have e : q = mb := (by simpa using hq); simp [e]
      · intro q hq; simp [hvF q hq]
      · intro q hq; have e : q = g := (by simpa using hq); simp [e]
    have hsub : ∀ q ∈ F9, q ∈ F ∨ q ∈ G ∨ w.heap.size ≤ q := fun q hq => by
      rcases hM9 q hq with e | e | e
      · exact .inl e
      · exact .inr (.inl e)
      · right; right
        have := hA1.size
        have := (unhide HS3).2.2.2.size
        have := hb3.size
        have e2 := (show Frm _ w2 [mb] from unhide HF2).size
        omega
    have HE := hide (unhide HQ (.returned (.tuple #[])) _ ⟨rfl, _, _, F9, h9, hfr, hsub⟩)
    clear h9 hfr hsub fs HQ hF9 hN9 hM9 hf9 s9 lg9 hc9 HP HS3
    go_wp2_with fail
    go_end0
    exact unhide HE
end Go.Proofs.YthgopknjppflhaaGreatDoor

/- The places of the first tree, one kid after another. Mathematics; and what the specification's seeding promises. No function of the program. -/
namespace Go.Proofs.YthgopknjppflhaaGreatDoor
open Go.RowKit
set_option linter.unusedVariables false
set_option maxRecDepth 100000

/-- What is promised of a function that lets the state grow. -/
def SdR (w0 w : World) (sb : Nat) (F : List Nat) (m : List PlV) (w' : World) : Prop := ∃ a' c' F', StB w0 w' sb a' c' m F' ∧ Frm w w' (sb :: F) ∧ ∀ q ∈ F', q ∈ F ∨ w.heap.size ≤ q
theorem Frm.moreS {a b c : World} {S S' : List Nat} (h : Frm a b S) (k : Frm b c S') (hs : ∀ q ∈ S', q ∈ S ∨ a.heap.size ≤ q) : Frm a c S :=
  ⟨k.os.trans h.os, k.tape.trans h.tape, k.output.trans h.output, Nat.le_trans h.size k.size, fun i hi hn => (k.block i (Nat.lt_of_lt_of_le hi h.size) (fun e => (hs i e).elim hn (fun h' => by omega))).trans (h.block i hi hn)⟩
theorem SdR.trans {w0 w w1 w2 : World} {sb : Nat} {F F1 : List Nat} {m : List PlV} (f : Frm w w1 (sb :: F)) (hF : ∀ q ∈ F1, q ∈ F ∨ w.heap.size ≤ q) (h : SdR w0 w1 sb F1 m w2) : SdR w0 w sb F m w2 := by
  obtain ⟨a', c', F', h1, h2, h3⟩ := h
  refine ⟨a', c', F', h1, f.moreS h2 (fun q hq => ?_), fun q hq => ?_⟩
  · rcases List.mem_cons.1 hq with rfl | hq
    · exact .inl (List.mem_cons_self ..)
    · exact (hF q hq).imp (fun h => List.mem_cons_of_mem _ h) id
  · rcases h3 q hq with h | h
    · exact hF q h
    · exact .inr (Nat.le_trans f.size h)
end Go.Proofs.YthgopknjppflhaaGreatDoor

/- spec.l5seed: the places of the first tree. -/
namespace Go.Proofs.YthgopknjppflhaaGreatDoor
open Go.RowKit
set_option linter.unusedVariables false
set_option maxRecDepth 100000

def AfS (w0 w3 w : World) (sb : Nat) (a : Option Addr) (c : Nat) (m : List PlV) (y : PlV) (F : List Nat) (gq cq : Nat) : Prop := ∃ F', Loc w sb #[.slice a m.length c] 35 ∧ PlsF w0 w (.slice (some ⟨gq, 0, none⟩) (m.length + 1) cq) (m ++ [y]) F' ∧ F'.Nodup ∧ (∀ q ∈ F', w0.heap.size ≤ q ∧ q < w.heap.size ∧ q ≠ sb) ∧ w0.heap.size ≤ sb ∧ Below w0.heap.size w0 w ∧ ∀ q ∈ F', q ∈ F ∨ w3.heap.size ≤ q
def SdE (w0 w3 : World) (sb : Nat) (m : List PlV) (F : List Nat) (w : World) : Prop := ∃ a c F', StB w0 w sb a c m F' ∧ ∀ q ∈ F', q ∈ F ∨ w3.heap.size ≤ q
theorem AfS.done {w0 w3 w : World} {sb : Nat} {a : Option Addr} {c : Nat} {m : List PlV} {y : PlV} {F : List Nat} {gq cq : Nat} (h : AfS w0 w3 w sb a c m y F gq cq) : SdE w0 w3 sb (m ++ [y]) F (w.setCell ⟨sb, 0, none⟩ (.slice (some ⟨gq, 0, none⟩) (m.length + 1) cq)) := by
  obtain ⟨F', h1, h2, h3, h4, h5, h6, h7⟩ := h
  have f := set_frm w sb 0 (.slice (some ⟨gq, 0, none⟩) (m.length + 1) cq)
  have hlen : (m ++ [y]).length = m.length + 1 := by simp
  refine ⟨some ⟨gq, 0, none⟩, cq, F', ⟨?_, ?_, h3, fun q hq => ⟨(h4 q hq).1, Nat.lt_of_lt_of_le (h4 q hq).2.1 f.size, (h4 q hq).2.2⟩, h5, h6.trans (f.below h6.size (fun q hq => by simp at hq; omega))⟩, h7⟩
  · rw [hlen]; exact h1.set 0 _
  · rw [hlen]; exact h2.frm f (fun q hq e => (h4 q hq).2.2 (by simpa using e))
end Go.Proofs.YthgopknjppflhaaGreatDoor

/- impl.newForest, copyKey, placeOf. -/
namespace Go.Proofs.YthgopknjppflhaaGreatDoor
open Go.RowKit Go.Maps
set_option linter.unusedVariables false
set_option maxRecDepth 100000

theorem newForest_any (w : World) : Calls Tryz.prog 18 #[] w fun e w' => e = .returned (.pointer (some ⟨w.heap.size + 1, 0, none⟩)) ∧ FoS w.heap.size w' (w.heap.size + 1) w.heap.size none 0 [] [] ∧ Below w.heap.size w w' := by
  refine calls_via ?_
  intro Q HQ
  have hmm := @run_makeMap Tryz.prog
  have hA : Below w.heap.size w ((w.alloc (.map #[] 0)).alloc (.cells (fs0 (.slice none 0 0) (.map (some w.heap.size))) 105)) := bstep ((Below.refl _ _).alloc (Nat.le_refl _) _) ((Below.refl _ _).alloc (Nat.le_refl _) _)
  have lg := Loc.made (w.alloc (.map #[] 0)) (fs0 (.slice none 0 0) (.map (some w.heap.size))) 105
  simp only [World.size_alloc] at lg
  have hb : Below (w.alloc (.map #[] 0)).heap.size (w.alloc (.map #[] 0)) ((w.alloc (.map #[] 0)).alloc (.cells (fs0 (.slice none 0 0) (.map (some w.heap.size))) 105)) := (Below.refl _ _).alloc (Nat.le_refl _) _
  have hS : FoS w.heap.size ((w.alloc (.map #[] 0)).alloc (.cells (fs0 (.slice none 0 0) (.map (some w.heap.size))) 105)) (w.heap.size + 1) w.heap.size none 0 [] [] :=
    ⟨.inl lg, (AtM.made w).frm (Frm.ofBelow hb []) (by simp), ⟨[], [], rfl, rfl, fun i hi => (by cases hi), World.ownsRow_nil _ _ _ _, rfl⟩, List.nodup_nil, fun q hq => (by cases hq), by omega, Nat.le_refl _, fun p hp => (by cases hp), Nat.zero_le _⟩
  have HE := hide (unhide HQ (.returned (.pointer (some ⟨w.heap.size + 1, 0, none⟩))) _ ⟨rfl, hS, hA⟩)
  unfold fs0 at HE
  clear hA lg hb hS HQ
  go_enter Tryz.func18, Tryz.ntmps18
  go_wp2_with fail
  exact unhide HE
end Go.Proofs.YthgopknjppflhaaGreatDoor

/- impl.stampOk, impl.idOk, impl.NameOk, impl.textOk, impl.valueOk, impl.loneOk answer what the plain tests say. -/
namespace Go.Proofs.YthgopknjppflhaaGreatDoor
open Go.RowKit
set_option linter.unusedVariables false
set_option maxRecDepth 100000

def stampB (n r : Int) : Bool := decide (1 ≤ n) && (decide (n ≤ 1000000) && (decide (0 ≤ r) && decide (r < 8)))
theorem stampB_cases (n r : Int) :
    (stampB n r = false ∧ decide (1 ≤ n) = false) ∨
    (stampB n r = false ∧ decide (1 ≤ n) = true ∧ decide (n ≤ 1000000) = false) ∨
    (stampB n r = false ∧ decide (1 ≤ n) = true ∧ decide (n ≤ 1000000) = true ∧ decide (0 ≤ r) = false) ∨
    (stampB n r = true ∧ decide (1 ≤ n) = true ∧ decide (n ≤ 1000000) = true ∧ decide (0 ≤ r) = true ∧ decide (r < 8) = true) ∨
    (stampB n r = false ∧ decide (1 ≤ n) = true ∧ decide (n ≤ 1000000) = true ∧ decide (0 ≤ r) = true ∧ decide (r < 8) = false) := by
  unfold stampB
  cases decide (1 ≤ n) <;> cases decide (n ≤ 1000000) <;> cases decide (0 ≤ r) <;> cases decide (r < 8) <;> simp

set_option maxHeartbeats 1600000 in
theorem stampI_any (w : World) (n r : Int) :
    Calls Tryz.prog 51 #[.agg #[.int .i64 n, .int .i64 r]] w fun e w' => e = .returned (.bool (stampB n r)) ∧ w' = w.alloc (.cells #[.int .i64 n, .int .i64 r] 51) := by
  rcases stampB_cases n r with ⟨h, q1⟩ | ⟨h, q1, q2⟩ | ⟨h, q1, q2, q3⟩ | ⟨h, q1, q2, q3, q4⟩ | ⟨h, q1, q2, q3, q4⟩
  all_goals
    have HE := hide h
    clear h
    go_enter Tryz.func51, Tryz.ntmps51
    go_wp2
    go_ret
    exact ⟨by rw [unhide HE]; rfl, rfl⟩

theorem idB_stamp (n r : Int) :
    (stampB n r = true ∧ idB n r = true) ∨
    (stampB n r = false ∧ idB n r = false ∧ (n == 0) = false) ∨
    (stampB n r = false ∧ idB n r = false ∧ n = 0 ∧ (n == 0) = true ∧ decide (0 ≤ r) = false) ∨
    (stampB n r = false ∧ idB n r = decide (r ≤ 121) ∧ n = 0 ∧ (n == 0) = true ∧ decide (0 ≤ r) = true) := by
  unfold stampB idB
  by_cases a : n = 0
  · subst a
    by_cases b : 0 ≤ r
    · right; right; right
      refine ⟨by simp, ?_, rfl, rfl, by simpa using b⟩
      rw [Bool.eq_iff_iff]
      simp
      omega
    · right; right; left
      refine ⟨by simp, ?_, rfl, rfl, by simpa using b⟩
      rw [Bool.eq_false_iff]
      simp only [ne_eq, Bool.and_eq_true, Bool.or_eq_true, decide_eq_true_eq]
      omega
  · by_cases c : 1 ≤ n ∧ n ≤ 1000000 ∧ 0 ≤ r ∧ r < 8
    · left
      simp only [Bool.and_eq_true, Bool.or_eq_true, decide_eq_true_eq]
      omega
    · right; left
      refine ⟨?_, ?_, by simpa using a⟩
      · rw [Bool.eq_false_iff]
        simp only [ne_eq, Bool.and_eq_true, decide_eq_true_eq]
        omega
      · rw [Bool.eq_false_iff]
        simp only [ne_eq, Bool.and_eq_true, Bool.or_eq_true, decide_eq_true_eq]
        omega

set_option maxHeartbeats 1600000 in
theorem idI_any (w : World) (n r : Int) :
    Calls Tryz.prog 20 #[.agg #[.int .i64 n, .int .i64 r]] w fun e w' => e = .returned (.bool (idB n r)) ∧ w' = (w.alloc (.cells #[.int .i64 n, .int .i64 r] 51)).alloc (.cells #[.int .i64 n, .int .i64 r] 51) := by
  have HS := hide (stampI_any (w.alloc (.cells #[.int .i64 n, .int .i64 r] 51)) n r)
  rcases idB_stamp n r with ⟨h, k⟩ | ⟨h, k, q1⟩ | ⟨h, k, rfl, q1, q2⟩ | ⟨h, k, rfl, q1, q2⟩
  all_goals
    rw [h] at HS
    have HE := hide k
    clear h k
    go_enter Tryz.func20, Tryz.ntmps20
    go_wp2_with fail
    refine (unhide HS).mono ?_
    rintro e w1 ⟨rfl, rfl⟩
    go_wp2
    go_ret
    exact ⟨by rw [unhide HE]; rfl, rfl⟩

end Go.Proofs.YthgopknjppflhaaGreatDoor

/- impl.Project. -/
namespace Go.Proofs.YthgopknjppflhaaGreatDoor
open Go.RowKit
set_option linter.unusedVariables false
set_option maxRecDepth 100000

theorem idIB_any (w : World) (n r : Int) : Calls Tryz.prog 20 #[.agg #[.int .i64 n, .int .i64 r]] w fun e w' => e = .returned (.bool (idB n r)) ∧ Below w.heap.size w w' :=
  (idI_any w n r).mono fun e w' ⟨h1, h2⟩ => ⟨h1, by rw [h2]; exact ((Below.refl _ _).alloc (Nat.le_refl _) _).alloc (by simp) _⟩
theorem stI_len {l : List PlV} (h : l.length < 2 ∨ 272 < l.length) : stB l = false := by
  rw [st_eq]
  unfold stI
  rcases h with h | h
  · rw [decide_eq_false (show ¬ 2 ≤ l.length by omega)]; simp
  · rw [decide_eq_false (show ¬ l.length ≤ 272 by omega)]; simp
theorem stI_new {l : List PlV} {i : Nat} {p : PlV} (hp : l[i]? = some p) (h : newB l i p = false) : stB l = false := by
  rw [st_eq]
  unfold stI
  rw [eachB_no hp h]
  simp
theorem stI_tops {l : List PlV} (h : (topI l 0 rootV && topI l 1 trashV) = false) : stB l = false := by
  rw [st_eq]
  unfold stI
  rw [Bool.and_assoc (decide (2 ≤ l.length) && decide (l.length ≤ 272) && eachB l (newB l)), h]
  simp
theorem stI_others {l : List PlV} (h : (eachB l (keysI l) && eachB l (freeI l)) = false) : stB l = false := by
  rw [st_eq]
  unfold stI
  rw [Bool.and_assoc _ (eachB l (keysI l)), h]
  simp
theorem stI_all {l : List PlV} (h2 : 2 ≤ l.length) (hm : l.length ≤ 272) (hn : ∀ i p, l[i]? = some p → newB l i p = true) (ht : (topI l 0 rootV && topI l 1 trashV) = true) (ho : (eachB l (keysI l) && eachB l (freeI l)) = true) : stB l = true := by
  rw [st_eq]
  unfold stI
  rw [Bool.and_eq_true] at ht ho
  rw [decide_eq_true h2, decide_eq_true hm, (eachB_iff l _).2 hn, ht.1, ht.2, ho.1, ho.2]
  rfl
theorem topI_id {l : List PlV} {i : Nat} {id : IdV} (h : topI l i id = true) : ∀ p, l[i]? = some p → p.id = id := fun p hp => by
  rw [topI_at hp] at h
  simp only [Bool.and_eq_true, decide_eq_true_eq] at h
  exact h.1.1.1
/-- All of a forest lies in what is there. -/
theorem FoQ.lt7 {w0 w : World} {g mb : Nat} {a : Option Addr} {c : Nat} {l : List PlV} {F : List Nat} (h : FoQ w0 w g mb a c l F) : ∀ q ∈ g :: mb :: F, q < w.heap.size := fun q hq => by
  rcases List.mem_cons.1 hq with rfl | hq
  · exact h.set.lt
  · rcases List.mem_cons.1 hq with rfl | hq
    · exact h.map.lt
    · exact PlsQ.lt h.row q hq
theorem rdpl_all {w w' : World} {b off i : Nat} {p : PlV} {k n t q : Option Addr} {ck cn ct cq : Nat} (hb : Below w.heap.size w w') (hbl : b < w.heap.size) (h : ∃ C : List Value, C.length = 9 ∧ (∀ j, j < 9 → w.cell? ⟨b, off + i * 9 + j, none⟩ = C[j]?) ∧ RdPlC w C p)
    (e4 : w'.cell? ⟨b, off + i * 9 + 4, none⟩ = some (.slice k p.key.length ck)) (e6 : w'.cell? ⟨b, off + i * 9 + 6, none⟩ = some (.slice n p.name.length cn)) (e7 : w'.cell? ⟨b, off + i * 9 + 7, none⟩ = some (.slice t p.text.length ct)) (e8 : w'.cell? ⟨b, off + i * 9 + 8, none⟩ = some (.slice q p.attrs.length cq)) : Ints w (.slice k p.key.length ck) p.key ∧ Byt w (.slice n p.name.length cn) p.name ∧ Byt w (.slice t p.text.length ct) p.text ∧ RdAttrs w (.slice q p.attrs.length cq) p.attrs := by
  refine ⟨?_, rdpl_old hb hbl h e4 e6 e7 e8⟩
  obtain ⟨C, _, hc, K, N, X, A, rfl, h1, h2, h3, h4⟩ := h
  have f4 := (hb.cell (p := ⟨b, off + i * 9 + 4, none⟩) hbl).trans (hc 4 (by omega))
  rw [e4] at f4
  injection f4 with f4
  rw [f4]
  exact h1
theorem FoQ.new {B : Nat} {w0 w : World} {g mb : Nat} (h : FoS B w g mb none 0 [] []) (hB : w0.heap.size ≤ B) : FoQ w0 w g mb none 0 [] [] :=
  ⟨h.set, h.map, OwElems.naught _ _ _ _, List.nodup_nil, fun q hq => (by cases hq), by have := h.geg; omega, by have := h.gem; omega, fun p hp => (by cases hp), by simp⟩
set_option maxHeartbeats 12800000 in
theorem pjI_any (w : World) (a : Option Addr) (c : Nat) (l : List PlV) (h : RdPls w (.slice a l.length c) l) (hK : ∀ p ∈ l, -9223372036854775808 ≤ p.kind ∧ p.kind ≤ 9223372036854775807) (hI : ∀ p ∈ l, okI p.id ∧ okI p.par) (hG : Glo w) :
    Calls Tryz.prog 7 #[.agg #[.slice a l.length c]] w fun e w' => PjA w l e w' := by
  refine calls_via ?_
  intro Q HQ
  have ls := (Loc.made w #[.slice a l.length c] 35).alloc (.cells #[.int .i64 0, .slice none 0 0, .slice none 0 0, .slice none 0 0, .slice none 0 0] 30)
  have lr := Loc.made (w.alloc (.cells #[.slice a l.length c] 35)) #[.int .i64 0, .slice none 0 0, .slice none 0 0, .slice none 0 0, .slice none 0 0] 30
  have hA : Below w.heap.size w ((w.alloc (.cells #[.slice a l.length c] 35)).alloc (.cells #[.int .i64 0, .slice none 0 0, .slice none 0 0, .slice none 0 0, .slice none 0 0] 30)) := ((Below.refl _ _).alloc (Nat.le_refl _) _).alloc (by simp) _
  simp only [World.size_alloc] at lr
  have hs2 : ((w.alloc (.cells #[.slice a l.length c] 35)).alloc (.cells #[.int .i64 0, .slice none 0 0, .slice none 0 0, .slice none 0 0, .slice none 0 0] 30)).heap.size = w.heap.size + 2 := by simp
  have HX := hide (And.intro ls (And.intro lr (And.intro hA (And.intro (h.keep hA) (And.intro (hG.keep hA) hs2)))))
  have x0 := ls.cell 0
  simp at x0
  have hgl : 2 ≤ w.heap.size := by have := lt_of_cell hG.2.2.1; exact this
  clear ls lr hA h hG hs2
  by_cases hsh : l.length < 2 ∨ 272 < l.length
  · have hst := stI_len hsh
    obtain ⟨ls, lr, hA, -, -, -⟩ := unhide HX
    have HR := hide (And.intro lr hA)
    clear HX lr ls hA
    have d2 : decide ((l.length : Int) < 2) = decide (l.length < 2) := by congr 1; simp; omega
    obtain ⟨lr, hA⟩ := unhide HR
    have HE := hide (unhide HQ _ _ (PjA.no hst hA))
    rcases hsh with hsh | hsh
    · have e2 : (l.length : Int) < 2 := by omega
      clear d2 hst hK hI HR lr hA
      go_enter Tryz.func7, Tryz.ntmps7
      go_wp2_with fail
      exact bodyPost_ret (v := .tuple #[.agg #[.int .i64 0, .slice none 0 0, .slice none 0 0, .slice none 0 0, .slice none 0 0], .bool false]) (by simp [results, Tryz.results7, go_sem]) rfl (unhide HE)
    · have e2 : ¬ (l.length : Int) < 2 := by omega
      have e3 : (272 : Int) < (l.length : Int) := by omega
      clear d2 hst hK hI HR lr hA
      go_enter Tryz.func7, Tryz.ntmps7
      go_wp2_with fail
      exact bodyPost_ret (v := .tuple #[.agg #[.int .i64 0, .slice none 0 0, .slice none 0 0, .slice none 0 0, .slice none 0 0], .bool false]) (by simp [results, Tryz.results7, go_sem]) rfl (unhide HE)
  have hn2 : ¬ (l.length : Int) < 2 := by omega
  have hn3 : ¬ (272 : Int) < (l.length : Int) := by omega
  have hle2 : 2 ≤ l.length := by omega
  have hle3 : l.length ≤ 272 := by omega
  clear hsh
  go_enter Tryz.func7, Tryz.ntmps7
  go_wp2_with fail
  obtain ⟨ls, lr, hA, h, hG, hs2⟩ := unhide HX
  have HKK := hide hK
  have HII := hide hI
  clear HX hK hI
  generalize ((w.alloc (.cells #[.slice a l.length c] 35)).alloc (.cells #[.int .i64 0, .slice none 0 0, .slice none 0 0, .slice none 0 0, .slice none 0 0] 30)) = w2 at *
  refine (newForest_any w2).mono ?_
  rintro e w3 ⟨rfl, hS, hb3⟩
  have hq3 : FoQ w2 w3 (w2.heap.size + 1) w2.heap.size none 0 [] [] := FoQ.new hS (Nat.le_refl _)
  clear hS
  obtain ⟨g, hg⟩ : ∃ g, g = w2.heap.size + 1 := ⟨_, rfl⟩
  rw [← hg] at hq3 ⊢
  obtain ⟨mb, hmb⟩ : ∃ mb, mb = w2.heap.size := ⟨_, rfl⟩
  rw [← hmb] at hq3
  have x3 := (ls.all hb3).cell 0
  simp at x3
  have HX := hide (And.intro ls (And.intro lr (And.intro hA (And.intro h (And.intro hG (And.intro hq3 hb3))))))
  have hs2' : w.heap.size + 2 ≤ w2.heap.size := by omega
  clear x0 ls lr hA h hG hq3 hb3 hmb hs2 hg
  go_wp2_with fail
  obtain ⟨ls, lr, hA, h, hG, hq3, hb3⟩ := unhide HX
  clear HX x3
  obtain ⟨h0_, _⟩ | ⟨b, off, cap, hv, _, hbl, hel⟩ := h.cases
  · rw [h0_] at hle2; simp at hle2
  cases hv
  have hgm : g < w3.heap.size := hq3.set.lt
  have hgw : w2.heap.size ≤ g := hq3.geg
  have HEL := hide hel
  clear hel h ls
  go_loopw [23] (fun i wr => ∃ (j : Nat) (a' : Option Addr) (c' : Nat) (F' : List Nat), j ≤ l.length ∧ i = .int .i64 (j : Int) ∧ (∀ i p, i < j → l[i]? = some p → newB l i p = true) ∧ FoQ w2 wr g mb a' c' (l.take j) F' ∧ Below w2.heap.size w2 wr) (fun i _ => l.length - (intOf i).toNat)
  case atStart => exact ⟨0, none, 0, [], Nat.zero_le _, rfl, fun i p hi => by omega, hq3, hb3⟩
  case round =>
    obtain ⟨j, a', c', F', hj, rfl, hok, hq, hb⟩ := hrel
    replace hA := hA.trans (hb.mono (by omega))
    have HGG := hide hG
    have HQ3 := hide (And.intro hq3 hb3)
    clear hq3 hb3
    replace lr := lr.all hb
    clear hG
    by_cases hlt : j < l.length
    · obtain ⟨k0, ck0, n0, cn0, t0, ct0, q0, cq0, e0, e1, e2, e3, e4, e5, e6, e7, e8, hrd⟩ := plc_at hb hbl (unhide HEL j hlt)
      have hro := rdpl_all hb hbl (unhide HEL j hlt) e4 e6 e7 e8
      have hp : l[j]? = some l[j] := by simp [hlt]
      have hKj := unhide HKK l[j] (List.getElem_mem _)
      have hIj := unhide HII l[j] (List.getElem_mem _)
      have hst1 := fun (hh : newB l j l[j] = false) => stI_new hp hh
      have hnx : newB l j l[j] = true → ∀ i p, i < j + 1 → l[i]? = some p → newB l i p = true := fun hh i p hi hq => by
        rcases Nat.lt_succ_iff_lt_or_eq.1 hi with h1 | h1
        · exact hok i p h1 hq
        · rw [h1, hp] at hq
          rw [h1]
          exact Option.some.inj hq ▸ hh
      have htk : l.take (j + 1) = l.take j ++ [l[j]] := List.take_succ_eq_append_getElem hlt
      have hnb : newB l j l[j] = (decide (posP (l.take j) l[j].id = none) && idB l[j].idN l[j].idR && loneP l[j]) := rfl
      clear hrd hok hp
      generalize l[j] = p at *
      have hlt' : (j : Int) < (l.length : Int) := by omega
      have hj0 : (0 : Int) ≤ (j : Int) := by omega
      have hbw : b < wr.heap.size := lt_of_cell e0
      have lx := Loc.made wr #[.int .i64 p.idN, .int .i64 p.idR, .int .i64 p.parN, .int .i64 p.parR, .slice k0 p.key.length ck0, .int .i64 p.kind, .slice n0 p.name.length cn0, .slice t0 p.text.length ct0, .slice q0 p.attrs.length cq0] 54
      have hx : Below wr.heap.size wr (wr.alloc (.cells #[.int .i64 p.idN, .int .i64 p.idR, .int .i64 p.parN, .int .i64 p.parR, .slice k0 p.key.length ck0, .int .i64 p.kind, .slice n0 p.name.length cn0, .slice t0 p.text.length ct0, .slice q0 p.attrs.length cq0] 54)) := (Below.refl _ _).alloc (Nat.le_refl _) _
      obtain ⟨x0, x1, x2, x3, x4, x5, x6, x7, x8⟩ := ninesP lx _ _ _ _ _ _ _ _ _ rfl
      have hqx := hq.keep hx
      have hAx := bstep hA hx
      have hbx := bstep hb hx
      have lrx := lr.all hx
      have HX := hide (And.intro hqx (And.intro hAx (And.intro hbx (And.intro lrx (And.intro lx (And.intro hro (And.intro hKj hIj)))))))
      have HN := hide (And.intro hst1 (And.intro hnx (And.intro htk hnb)))
      have HFD := hide (findQ_any hqx p.id hIj.1)
      clear hq hA hb lr lx hx hqx hAx hbx lrx hro hKj hIj hst1 hnx htk hnb
      unfold idVal at HFD
      go_wp2_with fail
      clear e0 e1 e2 e3 e4 e5 e6 e7 e8
      obtain ⟨hq, hA, hb, lr, lx, hro, hKj, hIj⟩ := unhide HX
      obtain ⟨hst1, hnx, htk, hnb⟩ := unhide HN
      clear HX HN
      generalize (wr.alloc (.cells #[.int .i64 p.idN, .int .i64 p.idR, .int .i64 p.parN, .int .i64 p.parR, .slice k0 p.key.length ck0, .int .i64 p.kind, .slice n0 p.name.length cn0, .slice t0 p.text.length ct0, .slice q0 p.attrs.length cq0] 54)) = wx at *
      refine (unhide HFD).mono ?_
      rintro e w5 ⟨hf0, hf1, hb5⟩
      clear HFD
      replace hq := hq.keep hb5
      replace hA := bstep hA hb5
      replace hb := bstep hb hb5
      replace lr := lr.all hb5
      replace lx := lx.all hb5
      clear x0 x1 x2 x3 x4 x5 x6 x7 x8 hb5
      cases hpos : posP (l.take j) p.id with
      | some k =>
        obtain ⟨gr, -, rfl⟩ := hf1 k hpos
        have hst := hst1 (by rw [hnb, hpos]; simp)
        clear hnx htk hnb hq hro lx hpos hf0 hf1 hb hst1
        obtain ⟨z0, z1, z2, z3, z4⟩ := lr.five
        have i0_ := lr.frozen 0
        have i1_ := lr.frozen 1
        have i2_ := lr.frozen 2
        have i3_ := lr.frozen 3
        have i4_ := lr.frozen 4
        obtain ⟨lX, fX⟩ := store5 lr (.int .i64 0) (.slice none 0 0) (.slice none 0 0) (.slice none 0 0) (.slice none 0 0)
        have HE := hide (unhide HQ _ _ (PjA.no hst (hA.trans (fX.below hA.size (fun q hq => by simp at hq; omega)))))
        clear lX fX hst lr hA
        go_wp2_with fail
        exact bodyPost_ret (v := .tuple #[.agg #[.int .i64 0, .slice none 0 0, .slice none 0 0, .slice none 0 0, .slice none 0 0], .bool false]) (by simp [results, Tryz.results7, go_sem, z0, z1, z2, z3, z4]) rfl (unhide HE)
      | none =>
        obtain rfl := hf0 hpos
        rw [hpos, show decide ((none : Option Nat) = none) = true from rfl, Bool.true_and] at hnb
        obtain ⟨x0, x1, x2, x3, x4, x5, x6, x7, x8⟩ := ninesP lx _ _ _ _ _ _ _ _ _ rfl
        have HX := hide (And.intro hq (And.intro hA (And.intro hb (And.intro lr (And.intro lx (And.intro hro (And.intro hKj hIj)))))))
        have HN := hide (And.intro hst1 (And.intro hnx (And.intro htk (And.intro hnb hpos))))
        clear hq hA hb lr lx hro hKj hIj hst1 hnx htk hnb hpos hf0 hf1
        go_wp2_with fail
        refine (idIB_any _ p.idN p.idR).mono ?_
        rintro e w6 ⟨rfl, hb6⟩
        obtain ⟨hq, hA, hb, lr, lx, hro, hKj, hIj⟩ := unhide HX
        obtain ⟨hst1, hnx, htk, hnb, hpos⟩ := unhide HN
        clear HX HN x0 x1 x2 x3 x4 x5 x6 x7 x8
        replace hq := hq.keep hb6
        replace hA := bstep hA hb6
        replace hb := bstep hb hb6
        replace lr := lr.all hb6
        replace lx := lx.all hb6
        clear hb6
        cases hid : idB p.idN p.idR with
        | false =>
          have hst := hst1 (by rw [hnb, hid, Bool.false_and])
          clear hnx htk hnb hq hro lx hpos hb hst1 hid
          obtain ⟨z0, z1, z2, z3, z4⟩ := lr.five
          have i0_ := lr.frozen 0
          have i1_ := lr.frozen 1
          have i2_ := lr.frozen 2
          have i3_ := lr.frozen 3
          have i4_ := lr.frozen 4
          obtain ⟨lX, fX⟩ := store5 lr (.int .i64 0) (.slice none 0 0) (.slice none 0 0) (.slice none 0 0) (.slice none 0 0)
          have HE := hide (unhide HQ _ _ (PjA.no hst (hA.trans (fX.below hA.size (fun q hq => by simp at hq; omega)))))
          clear lX fX hst lr hA
          skip
          go_wp2_with fail
          exact bodyPost_ret (v := .tuple #[.agg #[.int .i64 0, .slice none 0 0, .slice none 0 0, .slice none 0 0, .slice none 0 0], .bool false]) (by simp [results, Tryz.results7, go_sem, z0, z1, z2, z3, z4]) rfl (unhide HE)
        | true =>
          rw [hid, Bool.true_and] at hnb
          obtain ⟨x0, x1, x2, x3, x4, x5, x6, x7, x8⟩ := ninesP lx _ _ _ _ _ _ _ _ _ rfl
          have HX := hide (And.intro hq (And.intro hA (And.intro hb (And.intro lr (And.intro lx (And.intro hro (And.intro hKj hIj)))))))
          have HN := hide (And.intro hst1 (And.intro hnx (And.intro htk (And.intro hnb hpos))))
          clear hq hA hb lr lx hro hKj hIj hst1 hnx htk hnb hpos hid
          go_wp2_with fail
          refine (nodeOf_any _ p k0 n0 t0 q0 ck0 cn0 ct0 cq0).mono ?_
          rintro e w7 ⟨rfl, hb7⟩
          go_wp2_with fail
          obtain ⟨hq, hA, hb, lr, lx, hro, hKj, hIj⟩ := unhide HX
          obtain ⟨hst1, hnx, htk, hnb, hpos⟩ := unhide HN
          clear HX HN x0 x1 x2 x3 x4 x5 x6 x7 x8
          replace hb := bstep hb hb7
          refine (loneQ_any w2 w7 p n0 t0 q0 cn0 ct0 cq0 hro.2.1 hro.2.2.1 hro.2.2.2 hb hKj).mono ?_
          rintro e w8 ⟨rfl, hb8⟩
          have hb78 := bstep hb7 hb8
          replace hq := hq.keep hb78
          replace hA := bstep hA hb78
          replace hb := bstep hb hb8
          replace lr := lr.all hb78
          replace lx := lx.all hb78
          rw [← hnb]
          clear hb7 hb8 hb78
          cases hnv : newB l j p with
          | false =>
            have hst := hst1 hnv
            clear hnx htk hnb hq hro lx hpos hb hst1 hnv
            obtain ⟨z0, z1, z2, z3, z4⟩ := lr.five
            have i0_ := lr.frozen 0
            have i1_ := lr.frozen 1
            have i2_ := lr.frozen 2
            have i3_ := lr.frozen 3
            have i4_ := lr.frozen 4
            obtain ⟨lX, fX⟩ := store5 lr (.int .i64 0) (.slice none 0 0) (.slice none 0 0) (.slice none 0 0) (.slice none 0 0)
            have HE := hide (unhide HQ _ _ (PjA.no hst (hA.trans (fX.below hA.size (fun q hq => by simp at hq; omega)))))
            clear lX fX hst lr hA
            skip
            go_wp2_with fail
            exact bodyPost_ret (v := .tuple #[.agg #[.int .i64 0, .slice none 0 0, .slice none 0 0, .slice none 0 0, .slice none 0 0], .bool false]) (by simp [results, Tryz.results7, go_sem, z0, z1, z2, z3, z4]) rfl (unhide HE)
          | true =>
            obtain ⟨x0, x1, x2, x3, x4, x5, x6, x7, x8⟩ := ninesP lx _ _ _ _ _ _ _ _ _ rfl
            have hlj : (l.take j).length = j := by rw [List.length_take]; omega
            have HAD := hide (addQ_any hq p k0 n0 t0 q0 ck0 cn0 ct0 cq0 [] ⟨⟨_, _, _, _, rfl, hro.1, hro.2.1, hro.2.2.1, hro.2.2.2⟩, rfl⟩ List.nodup_nil (fun q hq => (by cases hq)) (fun q hq => by simp) hIj.1 hIj.2 hpos (by omega))
            have hFg := hq.ge
            have hgg := hq.geg
            have hgm2 := hq.gem
            have HX := hide (And.intro hA (And.intro hb (hnx hnv)))
            have HTK := hide htk
            have HFG := hide hFg
            clear hq hA hb lr lx hro hKj hIj hst1 hnx htk hnb hpos hnv hFg hlj
            go_wp2_with fail
            refine (unhide HAD).mono ?_
            rintro e w9 ⟨rfl, a9, c9, F9, hq9, hf9, -⟩
            obtain ⟨hA, hb, hnx⟩ := unhide HX
            rw [← unhide HTK] at hq9
            have hb9 : Below w2.heap.size w2 w9 := hb.trans (hf9.below hb.size (fun q hq => by
              rcases List.mem_cons.1 hq with rfl | hq
              · exact hgg
              · rcases List.mem_cons.1 hq with rfl | hq
                · exact hgm2
                · exact unhide HFG q hq))
            have HE := hide (And.intro hq9 (And.intro hb9 hnx))
            clear HX HAD hA hb hnx hq9 hf9 hb9 x0 x1 x2 x3 x4 x5 x6 x7 x8
            go_wp2_with fail
            go_roundw
            case rel => exact ⟨j + 1, a9, c9, F9, by omega, by go_num, (unhide HE).2.2, (unhide HE).1, (unhide HE).2.1⟩
            case measure => simp [intOf]; omega
    · have hnl : ¬ (j : Int) < (l.length : Int) := by omega
      have hnew : ∀ i p, l[i]? = some p → newB l i p = true := fun i p hp => hok i p (by have := (List.getElem?_eq_some_iff.1 hp).1; omega) hp
      rw [List.take_of_length_le (by omega)] at hq
      have hu : (l.map PlV.id).Nodup := uniq_of_pos (fun i p hp => pos_of_new (fun i p hp => by
        have := hnew i p hp
        unfold newB at this
        simp only [Bool.and_eq_true, decide_eq_true_eq] at this
        exact this.1.1) hp)
      obtain ⟨gr, rfl, -⟩ := hq.at (by omega)
      have hGr := ((unhide HGG).keep hb)
      have hTP := topsOk_any hq hb hGr hle2
      have HTP := hide hTP
      have HX := hide (And.intro hq (And.intro hA (And.intro hb (And.intro lr (And.intro hGr (And.intro hnew hu))))))
      clear hq hA hb lr hGr hnew hu hok hTP
      go_wp2_with fail
      refine (unhide HTP).mono ?_
      rintro e w5 ⟨rfl, hq, hf5⟩
      obtain ⟨hq_, hA, hb, lr, hGr, hnew, hu⟩ := unhide HX
      have hgg := hq_.geg
      clear hq_ HTP HX
      replace hb := hb.trans (hf5.below hb.size (fun q hq => by simp at hq; omega))
      replace hA := hA.trans (hf5.below hA.size (fun q hq => by simp at hq; omega))
      replace lr := lr.frm hf5 (by simp; omega)
      replace hGr := hGr.frm hf5 (fun q hq => by simp at hq; omega)
      clear hf5
      cases htp : (topI l 0 rootV && topI l 1 trashV) with
      | false =>
        have hst := stI_tops htp
        clear hq hb hGr hnew hu htp
        obtain ⟨z0, z1, z2, z3, z4⟩ := lr.five
        have i0_ := lr.frozen 0
        have i1_ := lr.frozen 1
        have i2_ := lr.frozen 2
        have i3_ := lr.frozen 3
        have i4_ := lr.frozen 4
        obtain ⟨lX, fX⟩ := store5 lr (.int .i64 0) (.slice none 0 0) (.slice none 0 0) (.slice none 0 0) (.slice none 0 0)
        have HE := hide (unhide HQ _ _ (PjA.no hst (hA.trans (fX.below hA.size (fun q hq => by simp at hq; omega)))))
        clear lX fX hst lr hA
        skip
        go_wp2_with fail
        exact bodyPost_ret (v := .tuple #[.agg #[.int .i64 0, .slice none 0 0, .slice none 0 0, .slice none 0 0, .slice none 0 0], .bool false]) (by simp [results, Tryz.results7, go_sem, z0, z1, z2, z3, z4]) rfl (unhide HE)
      | true =>
        have htp' := htp
        rw [Bool.and_eq_true] at htp'
        have HOT := hide (othersOk_any hq hb hGr hle2 (by omega) (topI_id htp'.1) (topI_id htp'.2) hu)
        have HX := hide (And.intro hq (And.intro hA (And.intro hb (And.intro lr (And.intro hGr (And.intro hnew (And.intro hu (And.intro htp (topI_id htp'.1)))))))))
        clear hq hA hb lr hGr hnew hu htp htp'
        go_wp2_with fail
        refine (unhide HOT).mono ?_
        rintro e w6 ⟨rfl, hq, hf5⟩
        obtain ⟨hq_, hA, hb, lr, hGr, hnew, hu, htp, hroot⟩ := unhide HX
        clear hq_ HOT HX
        replace hb := hb.trans (hf5.below hb.size (fun q hq => by simp at hq; omega))
        replace hA := hA.trans (hf5.below hA.size (fun q hq => by simp at hq; omega))
        replace lr := lr.frm hf5 (by simp; omega)
        replace hGr := hGr.frm hf5 (fun q hq => by simp at hq; omega)
        clear hf5
        cases hot : (eachB l (keysI l) && eachB l (freeI l)) with
        | false =>
          have hst := stI_others hot
          clear hq hb hGr hnew hu htp hroot hot
          obtain ⟨z0, z1, z2, z3, z4⟩ := lr.five
          have i0_ := lr.frozen 0
          have i1_ := lr.frozen 1
          have i2_ := lr.frozen 2
          have i3_ := lr.frozen 3
          have i4_ := lr.frozen 4
          obtain ⟨lX, fX⟩ := store5 lr (.int .i64 0) (.slice none 0 0) (.slice none 0 0) (.slice none 0 0) (.slice none 0 0)
          have HE := hide (unhide HQ _ _ (PjA.no hst (hA.trans (fX.below hA.size (fun q hq => by simp at hq; omega)))))
          clear lX fX hst lr hA
          skip
          go_wp2_with fail
          exact bodyPost_ret (v := .tuple #[.agg #[.int .i64 0, .slice none 0 0, .slice none 0 0, .slice none 0 0, .slice none 0 0], .bool false]) (by simp [results, Tryz.results7, go_sem, z0, z1, z2, z3, z4]) rfl (unhide HE)
        | true =>
          have hst := stI_all hle2 hle3 hnew htp hot
          have hsm := st_small hst
          have lp := Loc.made w6 #[.int .i64 0] 3
          have h7 : Below w6.heap.size w6 (w6.alloc (.cells #[.int .i64 0] 3)) := (Below.refl _ _).alloc (Nat.le_refl _) _
          have hp0 : l[0]? = some l[0] := by simp [show 0 < l.length by omega]
          have hid0 := hroot _ hp0
          have hin : l[0].idN = 0 ∧ l[0].idR = 0 := ⟨(Prod.mk.inj hid0).1, (Prod.mk.inj hid0).2⟩
          have hHt := hq.lt7
          have HTR := hide (tree_any 19 w2 (w6.alloc (.cells #[.int .i64 0] 3)) g mb gr c' l F' 0 l[0] 120 0 1 w6.heap.size (hq.keep h7) (bstep hb h7) hle2 hu (unhide HKK) hsm (fun e => by have := hHt _ e; omega) hb.size lp (by omega) hp0 (by omega) (by omega) (by decide) (by omega))
          rw [hin.1, hin.2] at HTR
          obtain ⟨y0, y1, -, -⟩ := hGr.keep h7
          have HX := hide (And.intro hA (And.intro (lr.all h7) (And.intro h7 hst)))
          have hlr := lr.lt
          clear hq hA hb lr hGr hnew hu htp hroot hot hsm lp h7 hp0 hid0 hin hst hHt
          go_wp2_with fail
          refine (unhide HTR).mono ?_
          rintro e w9 ⟨kd, a1, n1, c1, a2, n2, c2, a3, n3, c3, a4, n4, c4, rfl, G, hG, ndG, rG, -, hf9⟩
          obtain ⟨hA, lr7, h7, hst⟩ := unhide HX
          have lr9 := lr7.frm hf9 (by simp; omega)
          have hA9 : Below w.heap.size w w9 := (bstep hA h7).trans (hf9.below (bstep hA h7).size (fun q hq => by simp at hq; have := hA.size; omega))
          have s6 := h7.size
          have s60 := hA.size
          obtain ⟨z0, z1, z2, z3, z4⟩ := lr9.five
          have i0_ := lr9.frozen 0
          have i1_ := lr9.frozen 1
          have i2_ := lr9.frozen 2
          have i3_ := lr9.frozen 3
          have i4_ := lr9.frozen 4
          obtain ⟨lX, fX⟩ := store5 lr9 (.int .i64 kd) (.slice a1 n1 c1) (.slice a2 n2 c2) (.slice a3 n3 c3) (.slice a4 n4 c4)
          have hGX := OwNode.frm hG fX (fun q hq => by have := (rG q hq).1; simp; omega)
          have hAX := hA9.trans (fX.below hA9.size (fun q hq => by simp at hq; omega))
          have HE := hide (unhide HQ (.returned (.tuple #[.agg #[.int .i64 kd, .slice a1 n1 c1, .slice a2 n2 c2, .slice a3 n3 c3, .slice a4 n4 c4], .bool true])) _ ⟨kd, a1, n1, c1, a2, n2, c2, a3, n3, c3, a4, n4, c4, by rw [hst], G, by rw [pjR_yes hst]; exact hGX, ndG, rG.mono (by omega) fX.size, hAX⟩)
          clear lX fX hGX hAX lr9 hA9 rG hG lr7 h7 hA HX HTR hst hf9
          go_wp2_with fail
          exact bodyPost_ret (v := .tuple #[.agg #[.int .i64 kd, .slice a1 n1 c1, .slice a2 n2 c2, .slice a3 n3 c3, .slice a4 n4 c4], .bool true]) (by simp [results, Tryz.results7, go_sem, z0, z1, z2, z3, z4]) rfl (unhide HE)

end Go.Proofs.YthgopknjppflhaaGreatDoor

/- Rows of operations: what it is for one to be readable in memory. -/
namespace Go.Proofs.YthgopknjppflhaaGreatDoor
open Go.RowKit
set_option linter.unusedVariables false

/-- The twelve cells of an operation. -/
def RdOpC (w : World) (C : List Value) (o : OpV) : Prop := ∃ k n t, C = [.int .i64 o.kind, .int .i64 o.atN, .int .i64 o.atR, .int .i64 o.nodeN, .int .i64 o.nodeR, .int .i64 o.parN, .int .i64 o.parR, k, .int .i64 o.elem, n, t, .bool o.gone] ∧ Ints w k o.key ∧ Byt w n o.name ∧ Byt w t o.text
def RdOps (w : World) (v : Value) (l : List OpV) : Prop := Elems w 12 v l (RdOpC w)
theorem RdOps.keep {w w' : World} {v : Value} {l : List OpV} (h : RdOps w v l) (hb : Below w.heap.size w w') : RdOps w' v l :=
  Elems.keep h hb (fun C x _ ⟨k, n, t, e, h1, h2, h3⟩ => ⟨k, n, t, e, h1.keep hb, h2.keep hb, h3.keep hb⟩)

end Go.Proofs.YthgopknjppflhaaGreatDoor

/- spec.l5fold: all operations over the first tree. -/
namespace Go.Proofs.YthgopknjppflhaaGreatDoor
open Go.RowKit
set_option linter.unusedVariables false
set_option maxRecDepth 100000

theorem l4root_any (w : World) : Calls Tryz.prog 39 #[] w fun e w' => e = .returned (.agg #[.int .i64 0, .int .i64 0]) ∧ Below w.heap.size w w' := by
  have hA := (Below.refl w.heap.size w).alloc (Nat.le_refl _) (.cells #[.int .i64 0, .int .i64 0] 51)
  have e0 := (Loc.made w #[.int .i64 0, .int .i64 0] 51).cell 0
  have e1 := (Loc.made w #[.int .i64 0, .int .i64 0] 51).cell 1
  go_enter Tryz.func39, Tryz.ntmps39
  go_wp2
  exact bodyPost_ret (v := .agg #[.int .i64 0, .int .i64 0]) (by simp [results, Tryz.results39, go_sem, e0, e1]) rfl ⟨rfl, hA⟩
theorem l4trash_any (w : World) : Calls Tryz.prog 40 #[] w fun e w' => e = .returned (.agg #[.int .i64 0, .int .i64 1]) ∧ Below w.heap.size w w' := by
  have hA := (Below.refl w.heap.size w).alloc (Nat.le_refl _) (.cells #[.int .i64 0, .int .i64 1] 51)
  have e0 := (Loc.made w #[.int .i64 0, .int .i64 1] 51).cell 0
  have e1 := (Loc.made w #[.int .i64 0, .int .i64 1] 51).cell 1
  go_enter Tryz.func40, Tryz.ntmps40
  go_wp2
  exact bodyPost_ret (v := .agg #[.int .i64 0, .int .i64 1]) (by simp [results, Tryz.results40, go_sem, e0, e1]) rfl ⟨rfl, hA⟩
theorem AfS.keep {w0 w3 w w' : World} {sb : Nat} {a : Option Addr} {c : Nat} {m : List PlV} {y : PlV} {F : List Nat} {gq cq : Nat} (h : AfS w0 w3 w sb a c m y F gq cq) (hb : Below w.heap.size w w') : AfS w0 w3 w' sb a c m y F gq cq := by
  obtain ⟨F', h1, h2, h3, h4, h5, h6, h7⟩ := h
  exact ⟨F', h1.all hb, h2.frm (Frm.ofBelow hb []) (fun _ _ => by simp), h3, fun q hq => ⟨(h4 q hq).1, Nat.lt_of_lt_of_le (h4 q hq).2.1 hb.size, (h4 q hq).2.2⟩, h5, bstep h6 hb, h7⟩
theorem SdE.keep {w0 w3 w w' : World} {sb : Nat} {m : List PlV} {F : List Nat} (h : SdE w0 w3 sb m F w) (hb : Below w.heap.size w w') : SdE w0 w3 sb m F w' := by
  obtain ⟨a, c, F', h1, h2⟩ := h
  exact ⟨a, c, F', h1.keep hb, h2⟩
end Go.Proofs.YthgopknjppflhaaGreatDoor

/- A region that draws its order, whose operations only read and whose callees leave what was there as it was: one walk, in the order of the text. No program. -/
namespace Go.Proofs.YthgopknjppflhaaGreatDoor
open Go.RowKit
set_option linter.unusedVariables false

/-- A world in which all that was there in w is as it was. -/
structure Gr (w : World) where
  W : World
  h : Below w.heap.size w W
theorem wp_region_gr {P : Program} {id : Nat} {Q : Exit → Act → World → Prop} {a : Act} {w : World} {l : List Oper} (hm : P.follows .mixedOrders = true) (hB : Region.lexB .any l.toArray = true)
    (h : wpQuiet P l.toArray (fun w' => ∃ p : Gr w, w' = p.W) (fun a' => ∀ w', (∃ p : Gr w, w' = p.W) → Q .normal a' w') l a) : (Code.region id l.toArray true).wp P Q a w :=
  wp_region_quiet (C := fun w' => ∃ p : Gr w, w' = p.W) hm hB ⟨⟨w.drew, (Below.refl _ _).drew⟩, rfl⟩ (by simpa using h)
theorem Gr.cell {w : World} {a : Addr} {v : Value} (hb : a.block < w.heap.size) (h : w.cell? a = some v) (p : Gr w) : p.W.cell? a = some v := (p.h.cell hb).trans h
/-- A callee's contract, met in such a world. -/
theorem calls_gr {P : Program} {f : FuncId} {args : Array Value} {w : World} {p : Gr w} {v : Value} (h : Calls P f args p.W fun e w' => e = .returned v ∧ Below p.W.heap.size p.W w') : Calls P f args p.W fun e w'' => e = .returned v ∧ ∃ q : Gr w, w'' = q.W :=
  h.mono fun _ _ ⟨he, hB⟩ => ⟨he, ⟨⟨_, bstep p.h hB⟩, rfl⟩⟩
end Go.Proofs.YthgopknjppflhaaGreatDoor
