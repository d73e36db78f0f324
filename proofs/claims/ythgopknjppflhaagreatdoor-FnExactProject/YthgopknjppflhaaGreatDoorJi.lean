/- Own texts joined: L5ok. -/
import Derived.Test.YthgopknjppflhaaGreatDoorJa
import Derived.Test.YthgopknjppflhaaGreatDoorJb
import Derived.Test.YthgopknjppflhaaGreatDoorJc
import Derived.Test.YthgopknjppflhaaGreatDoorJd
import Derived.Test.YthgopknjppflhaaGreatDoorJe
import Derived.Test.YthgopknjppflhaaGreatDoorJf
import Derived.Test.YthgopknjppflhaaGreatDoorJg
import Derived.Test.YthgopknjppflhaaGreatDoorJh

/- spec.l5ok: is a state one that Fold may tell? -/
namespace Go.Proofs.YthgopknjppflhaaGreatDoor
open Go.RowKit
set_option linter.unusedVariables false
set_option maxRecDepth 100000

theorem idSB_any (w : World) (n r : Int) : Calls Tryz.prog 42 #[.agg #[.int .i64 n, .int .i64 r]] w fun e w' => e = .returned (.bool (idB n r)) ∧ Below w.heap.size w w' :=
  (idS_any w n r).mono fun e w' ⟨h1, h2⟩ => ⟨h1, by rw [h2]; exact (Below.refl _ _).alloc (Nat.le_refl _) _⟩
theorem zeroSB_any (w : World) (n r : Int) : Calls Tryz.prog 45 #[.agg #[.int .i64 n, .int .i64 r]] w fun e w' => e = .returned (.bool (zeroB n r)) ∧ Below w.heap.size w w' :=
  (zeroS_any w n r).mono fun e w' ⟨h1, h2⟩ => ⟨h1, by rw [h2]; exact (Below.refl _ _).alloc (Nat.le_refl _) _⟩
theorem cell_laterO {w w' : World} (hB : Below w.heap.size w w') {p : Addr} {v : Value} (h : w.cell? p = some v) : w'.cell? p = some v := (hB.cell (lt_of_cell h)).trans h
theorem stB_few {l : List PlV} (h : l.length < 2) : stB l = false := by unfold stB; simp [show ¬ 2 ≤ l.length by omega]
theorem stB_many {l : List PlV} (h : 272 < l.length) : stB l = false := by unfold stB; simp [show ¬ l.length ≤ 272 by omega]
theorem stB_root {l : List PlV} {p : PlV} (hp : l[0]? = some p) (h : p.id ≠ rootV) : stB l = false := by unfold stB idAt; rw [hp]; simp [h]
theorem stB_trash {l : List PlV} {p : PlV} (hp : l[1]? = some p) (h : p.id ≠ trashV) : stB l = false := by
  have e : idAt l 1 trashV = false := by unfold idAt; rw [hp]; simp [h]
  unfold stB
  rw [e]
  simp
theorem stB_one {l : List PlV} {i : Nat} {p : PlV} (hp : l[i]? = some p) (h : placeB l i p = false) : stB l = false := by
  rw [Bool.eq_false_iff]
  intro h'
  unfold stB at h'
  simp only [Bool.and_eq_true, eachB_iff] at h'
  rw [h'.2 i p hp] at h
  cases h
theorem stB_all {l : List PlV} (h2 : 2 ≤ l.length) (hm : l.length ≤ 272) (h0 : ∀ p, l[0]? = some p → p.id = rootV) (h1 : ∀ p, l[1]? = some p → p.id = trashV) (h : ∀ i p, l[i]? = some p → placeB l i p = true) : stB l = true := by
  unfold stB
  simp only [Bool.and_eq_true, decide_eq_true_eq, eachB_iff]
  exact ⟨⟨⟨⟨h2, hm⟩, (idAt_iff (by omega)).2 h0⟩, (idAt_iff (by omega)).2 h1⟩, h⟩
theorem id_ne {p : PlV} {x y : Int} (h : p.id ≠ (x, y)) : (p.idN == x) = false ∨ ((p.idN == x) = true ∧ (p.idR == y) = false) := by
  cases h1 : (p.idN == x) with
  | false => exact .inl rfl
  | true =>
    refine .inr ⟨rfl, ?_⟩
    cases h2 : (p.idR == y) with
    | false => rfl
    | true => exact absurd (show (p.idN, p.idR) = (x, y) by rw [beq_iff_eq.1 h1, beq_iff_eq.1 h2]) h

set_option maxHeartbeats 12800000 in
theorem l5ok_any (w : World) (a : Option Addr) (c : Nat) (l : List PlV) (F : List Nat) (h : OwPlsM w (.slice a l.length c) l F) (hK : ∀ p ∈ l, -9223372036854775808 ≤ p.kind ∧ p.kind ≤ 9223372036854775807) :
    Calls Tryz.prog 14 #[.agg #[.slice a l.length c]] w fun e w' => e = .returned (.bool (stB l)) ∧ Below w.heap.size w w' := by
  refine calls_via ?_
  intro Q HQ
  have hA := (Below.refl w.heap.size w).alloc (Nat.le_refl _) (.cells #[.slice a l.length c] 35)
  have l0 := Loc.made w #[.slice a l.length c] 35
  have hs : StR _ w.heap.size a c l F := ⟨l0, OwPlsM.frm h (Frm.ofBelow hA []) (fun _ _ => by simp)⟩
  have y0 := l0.cell 0
  simp only [List.getElem?_toArray, List.getElem?_cons_zero] at y0
  have LL := hide (And.intro hA hs)
  have HK := hide hK
  clear hA l0 hs h hK
  go_enter Tryz.func14, Tryz.ntmps14
  go_wp2_with fail
  obtain ⟨hA, hs⟩ := unhide LL
  clear LL
  generalize (w.alloc (.cells #[.slice a l.length c] 35)) = w1 at *
  by_cases h2 : l.length < 2
  · have d2 : decide ((l.length : Int) < 2) = true := decide_eq_true (by omega)
    have HE := hide (fun n => unhide HQ (.returned (.bool (stB l))) (w1.drewN n) ⟨rfl, below_drewN hA _⟩)
    rw [stB_few h2] at HE
    clear HQ hA hs h2 HK
    go_quiet (fail)
    go_wp2_with fail
    exact unhide HE _
  have d2 : decide ((l.length : Int) < 2) = false := decide_eq_false (by omega)
  by_cases hm : 272 < l.length
  · have d3 : decide ((272 : Int) < (l.length : Int)) = true := decide_eq_true (by omega)
    have HE := hide (fun n => unhide HQ (.returned (.bool (stB l))) (w1.drewN n) ⟨rfl, below_drewN hA _⟩)
    rw [stB_many hm] at HE
    clear HQ hA hs h2 HK hm
    go_quiet (fail)
    go_wp2_with fail
    exact unhide HE _
  have d3 : decide ((272 : Int) < (l.length : Int)) = false := decide_eq_false (by omega)
  obtain ⟨h0_, _⟩ | ⟨b, off, cap, hv, _, hbl, hel⟩ := (OwPlsM.rd hs.2).cases
  · rw [h0_] at h2; simp at h2
  cases hv
  have hi0 : 0 < l.length := by omega
  have hi1 : 1 < l.length := by omega
  obtain ⟨k0, ck0, n0, cn0, t0, ct0, q0, cq0, u0, u1, -⟩ := plc_at (Below.refl _ _) hbl (hel 0 hi0)
  obtain ⟨k1, ck1, n1, cn1, t1, ct1, q1, cq1, v0, v1, -⟩ := plc_at (Below.refl _ _) hbl (hel 1 hi1)
  have hp0 : l[0]? = some l[0] := by simp [hi0]
  have hp1 : l[1]? = some l[1] := by simp [hi1]
  have HEL := hide hel
  clear hel
  generalize l[0] = p0 at *
  generalize l[1] = p1 at *
  simp only [Nat.zero_mul, Nat.add_zero, Nat.one_mul] at u0 u1 v0 v1
  have hsb : w.heap.size < w1.heap.size := hs.1.lt
  replace y0 := Gr.cell hsb y0
  replace u0 := Gr.cell hbl u0
  replace u1 := Gr.cell hbl u1
  replace v0 := Gr.cell hbl v0
  replace v1 := Gr.cell hbl v1
  have hNE : Nonempty (Gr w1) := ⟨⟨w1, Below.refl _ _⟩⟩
  have HRT := hide (fun W => l4root_any W)
  have HTT := hide (fun W => l4trash_any W)
  have hj0 : (0 : Int) < (l.length : Int) := by omega
  have hj1 : (1 : Int) < (l.length : Int) := by omega
  by_cases hr : p0.id = rootV
  case neg =>
    have HE := hide (fun W (hW : Below w1.heap.size w1 W) => unhide HQ (.returned (.bool (stB l))) W ⟨rfl, bstep hA hW⟩)
    rw [stB_root hp0 hr] at HE
    have hne := id_ne (x := 0) (y := 0) hr
    clear HQ hA hs h2 HK hm hp0 hp1 hr HEL v0 v1
    rcases hne with g1 | ⟨g1, g2⟩
    all_goals
      refine wp_region_gr (by kernel_rfl) (by kernel_rfl) ?_
      repeat (go_big_quiet_step ((rename_i p; exact calls_gr (unhide HRT p.W))))
      refine wpQuiet_nil ?_
      rintro _ ⟨p, rfl⟩
      have HD := hide p.h
      clear y0 u0 u1
      go_wp2_with fail
      exact unhide HE _ (unhide HD)
  by_cases ht : p1.id = trashV
  case neg =>
    have HE := hide (fun W (hW : Below w1.heap.size w1 W) => unhide HQ (.returned (.bool (stB l))) W ⟨rfl, bstep hA hW⟩)
    rw [stB_trash hp1 ht] at HE
    have hne := id_ne (x := 0) (y := 1) ht
    have g3 : (p0.idN == 0) = true := by rw [beq_iff_eq]; exact (Prod.mk.inj hr).1
    have g4 : (p0.idR == 0) = true := by rw [beq_iff_eq]; exact (Prod.mk.inj hr).2
    clear HQ hA hs h2 HK hm hp0 hp1 hr HEL ht
    rcases hne with g1 | ⟨g1, g2⟩
    all_goals
      refine wp_region_gr (by kernel_rfl) (by kernel_rfl) ?_
      repeat (go_big_quiet_step ((rename_i p; first | exact calls_gr (unhide HRT p.W) | exact calls_gr (unhide HTT p.W))))
      refine wpQuiet_nil ?_
      rintro _ ⟨p, rfl⟩
      have HD := hide p.h
      clear y0 u0 u1 v0 v1
      go_wp2_with fail
      exact unhide HE _ (unhide HD)
  have g3 : (p0.idN == 0) = true := by rw [beq_iff_eq]; exact (Prod.mk.inj hr).1
  have g4 : (p0.idR == 0) = true := by rw [beq_iff_eq]; exact (Prod.mk.inj hr).2
  have g5 : (p1.idN == 0) = true := by rw [beq_iff_eq]; exact (Prod.mk.inj ht).1
  have g6 : (p1.idR == 1) = true := by rw [beq_iff_eq]; exact (Prod.mk.inj ht).2
  have HI := hide (And.intro hp0 (And.intro hr (And.intro hp1 (And.intro ht (And.intro hA (And.intro hs hbl))))))
  have HM := hide (And.intro h2 hm)
  clear hA hs hp0 hp1 hr ht h2 hm hbl
  refine wp_region_gr (by kernel_rfl) (by kernel_rfl) ?_
  repeat (go_big_quiet_step ((rename_i p; first | exact calls_gr (unhide HRT p.W) | exact calls_gr (unhide HTT p.W))))
  refine wpQuiet_nil ?_
  rintro _ ⟨p_, rfl⟩
  obtain ⟨hp0, hr, hp1, ht, hA, hs0, hbl0⟩ := unhide HI
  obtain ⟨hm2, hm3⟩ := unhide HM
  have hs := hs0.keep p_.h
  have hBw := bstep hA p_.h
  have hel := unhide HEL
  have hel2 := fun k hk W hW => plc_at (W := W) hW hbl0 (hel k hk)
  have h1W := p_.h
  clear y0 u0 u1 v0 v1 HI HEL hA hs0 HM g3 g4 g5 g6 hj0 hj1 hNE HRT HTT d2 d3 hel hsb
  generalize p_.W = w2 at *
  clear p_
  go_wp2_with fail
  go_loopw [4] (fun i wr => ∃ k : Nat, k ≤ l.length ∧ i = .int .i64 k ∧ (∀ j p, j < k → l[j]? = some p → placeB l j p = true) ∧ Below w2.heap.size w2 wr) (fun i _ => l.length - (intOf i).toNat)
  case atStart => exact ⟨0, Nat.zero_le _, rfl, fun j p hj => by omega, Below.refl _ _⟩
  case round =>
    obtain ⟨k, hk, rfl, hok, hB⟩ := hrel
    have hs' := hs.keep hB
    have hB1 := bstep h1W hB
    have hBr := bstep hBw hB
    by_cases hlt : k < l.length
    · obtain ⟨k0, ck0, n0, cn0, t0, ct0, q0, cq0, e0, e1, e2, e3, e4, e5, e6, e7, e8, hrd⟩ := hel2 k hlt wr hB1
      have hp : l[k]? = some l[k] := by simp [hlt]
      have hlt' : (k : Int) < (l.length : Int) := by omega
      have hk0 : (0 : Int) ≤ (k : Int) := by omega
      have hK := unhide HK l[k] (List.getElem_mem _)
      have HNX := hide (fun (hh : placeB l k l[k] = true) j p (hj : j < k + 1) (hq : l[j]? = some p) => (show placeB l j p = true by
        rcases Nat.lt_succ_iff_lt_or_eq.1 hj with h1 | rfl
        · exact hok j p h1 hq
        · rw [hp] at hq; exact Option.some.inj hq ▸ hh))
      have HNO := hide (fun (hh : placeB l k l[k] = false) W (hW : Below w.heap.size w W) => (show Q (.returned (.bool false)) W by
        have := unhide HQ (.returned (.bool (stB l))) W ⟨rfl, hW⟩
        rw [stB_one hp hh] at this
        exact this))
      have hs0 := hs'.1.cell 0
      simp only [List.getElem?_toArray, List.getElem?_cons_zero] at hs0
      have hpb : placeB l k l[k] = (loneP l[k] && idB l[k].idN l[k].idR && decide (posP l l[k].id = some k) && (if k < 2 then topB l[k] else restB l l[k])) := rfl
      obtain ⟨PL, hPL⟩ : ∃ b, b = placeB l k l[k] := ⟨_, rfl⟩
      rw [← hPL] at HNX HNO hpb
      generalize hpp : l[k] = p at *
      have HPP := hide hpp
      have la := Loc.made wr #[.int .i64 p.idN, .int .i64 p.idR, .int .i64 p.parN, .int .i64 p.parR, .slice k0 p.key.length ck0, .int .i64 p.kind, .slice n0 p.name.length cn0, .slice t0 p.text.length ct0, .slice q0 p.attrs.length cq0] 54
      have lb := Loc.made (wr.alloc (.cells #[.int .i64 p.idN, .int .i64 p.idR, .int .i64 p.parN, .int .i64 p.parR, .slice k0 p.key.length ck0, .int .i64 p.kind, .slice n0 p.name.length cn0, .slice t0 p.text.length ct0, .slice q0 p.attrs.length cq0] 54)) #[.int .i64 2] 3
      have lc := Loc.made ((wr.alloc (.cells #[.int .i64 p.idN, .int .i64 p.idR, .int .i64 p.parN, .int .i64 p.parR, .slice k0 p.key.length ck0, .int .i64 p.kind, .slice n0 p.name.length cn0, .slice t0 p.text.length ct0, .slice q0 p.attrs.length cq0] 54)).alloc (.cells #[.int .i64 2] 3)) #[.int .i64 p.kind, .slice n0 p.name.length cn0, .slice t0 p.text.length ct0, .slice q0 p.attrs.length cq0, .slice none 0 0] 30
      have hC : Below wr.heap.size wr (((wr.alloc (.cells #[.int .i64 p.idN, .int .i64 p.idR, .int .i64 p.parN, .int .i64 p.parR, .slice k0 p.key.length ck0, .int .i64 p.kind, .slice n0 p.name.length cn0, .slice t0 p.text.length ct0, .slice q0 p.attrs.length cq0] 54)).alloc (.cells #[.int .i64 2] 3)).alloc (.cells #[.int .i64 p.kind, .slice n0 p.name.length cn0, .slice t0 p.text.length ct0, .slice q0 p.attrs.length cq0, .slice none 0 0] 30)) := ((((Below.refl _ _).alloc (Nat.le_refl _) _).alloc (by simp) _).alloc (by simp; omega) _)
      replace la := (la.alloc (.cells #[.int .i64 2] 3)).alloc (.cells #[.int .i64 p.kind, .slice n0 p.name.length cn0, .slice t0 p.text.length ct0, .slice q0 p.attrs.length cq0, .slice none 0 0] 30)
      replace lb := lb.alloc (.cells #[.int .i64 p.kind, .slice n0 p.name.length cn0, .slice t0 p.text.length ct0, .slice q0 p.attrs.length cq0, .slice none 0 0] 30)
      simp only [World.size_alloc] at lb lc
      have LL := hide (And.intro la (And.intro lb (And.intro lc hC)))
      clear la lb lc hC hok hp hpp
      have hN : RdNode 1 wr [.int .i64 p.kind, .slice n0 p.name.length cn0, .slice t0 p.text.length ct0, .slice q0 p.attrs.length cq0, .slice none 0 0] (flatP p) := by
        obtain ⟨_, _, _, _, hv, r1, r2, r3, r4⟩ := hrd
        cases hv
        exact ⟨_, _, _, _, rfl, hK.1, hK.2, r2, r3, r4, Nat.zero_le _, .inl ⟨rfl, rfl⟩⟩
      have HRD := hide (show Ints wr (.slice k0 p.key.length ck0) p.key ∧ Byt wr (.slice n0 p.name.length cn0) p.name ∧ True by
        obtain ⟨_, _, _, _, hv, r1, r2, r3, r4⟩ := hrd
        cases hv
        exact ⟨r1, r2, trivial⟩)
      have HN := hide hN
      have HS := hide (And.intro hs' hBr)
      clear hN hrd hs' hK
      go_wp2_with fail
      obtain ⟨la, lb, lc, hC⟩ := unhide LL
      obtain ⟨hs', hBr⟩ := unhide HS
      clear LL HS e0 e1 e2 e3 e4 e5 e6 e7 e8 hs0
      generalize (((wr.alloc (.cells #[.int .i64 p.idN, .int .i64 p.idR, .int .i64 p.parN, .int .i64 p.parR, .slice k0 p.key.length ck0, .int .i64 p.kind, .slice n0 p.name.length cn0, .slice t0 p.text.length ct0, .slice q0 p.attrs.length cq0] 54)).alloc (.cells #[.int .i64 2] 3)).alloc (.cells #[.int .i64 p.kind, .slice n0 p.name.length cn0, .slice t0 p.text.length ct0, .slice q0 p.attrs.length cq0, .slice none 0 0] 30)) = w4 at *
      refine (l2node_any 1 wr w4 _ _ _ _ _ (flatP p) 1 2 (wr.heap.size + 1) (unhide HN) hC (by omega) lb (by omega) (by omega) (by omega) (by omega)).mono ?_
      rintro e w5 ⟨rfl, -, hF5⟩
      have hw4 := lb.lt
      have hFl := OwPlsM.lt hs'.2
      have hsl := hs'.1.lt
      have la5 := la.frm hF5 (by simp)
      have hst := (hs'.keep hC).frm hF5 (by simp; omega) (fun g hg => by have := hFl g hg; simp; omega)
      have hbd : Below wr.heap.size wr w5 := hC.trans (hF5.below hC.size (fun g hg => by simp at hg; omega))
      have x0 := la5.cell 0
      have x1 := la5.cell 1
      have x2 := la5.cell 2
      have x3 := la5.cell 3
      have x4 := la5.cell 4
      have x5 := la5.cell 5
      have x6 := la5.cell 6
      simp at x0 x1 x2 x3 x4 x5 x6
      have hlo : (okT 1 1 (flatP p) 2).1 = loneP p := rfl
      rw [hlo]
      have hll : l.length ≤ 100000 := by omega
      have hfi : findI l (p.idN, p.idR) = (k : Int) ↔ posP l p.id = some k := by
        show findI l p.id = _ ↔ _
        unfold findI
        cases posP l p.id with
        | none => simp <;> omega
        | some j => simp; omega
      clear la5 la lb lc hC hF5 hw4 hFl hsl hs hs' HN hlo hel2 h1W hbl0
      have HST := hide (And.intro hst hbd)
      have HBR := hide hBr
      have HFI := hide hfi
      clear hst hbd hfi hBr
      by_cases c1 : loneP p = true
      case neg =>
        rw [Bool.not_eq_true] at c1
        rw [c1]
        have HPL := hide (show PL = false by rw [hpb]; simp [*])
        clear hpb
        go_wp2_with fail
        obtain ⟨hst, hbd⟩ := unhide HST
        clear HST
        exact unhide HNO (unhide HPL) _ (bstep (unhide HBR) hbd)
      rw [c1]
      by_cases c2 : idB p.idN p.idR = true
      case neg =>
        rw [Bool.not_eq_true] at c2
        have HPL := hide (show PL = false by rw [hpb]; simp [*])
        clear hpb
        go_wp2_with fail
        obtain ⟨hst, hbd⟩ := unhide HST
        clear HST
        refine (idSB_any _ p.idN p.idR).mono ?_
        rintro e W0 ⟨rfl, hb⟩
        replace x0 := cell_laterO hb x0
        replace x1 := cell_laterO hb x1
        replace x2 := cell_laterO hb x2
        replace x3 := cell_laterO hb x3
        replace x4 := cell_laterO hb x4
        replace x5 := cell_laterO hb x5
        replace x6 := cell_laterO hb x6
        replace hst := hst.keep hb
        replace hbd := bstep hbd hb
        clear hb
        have HST := hide (And.intro hst hbd)
        clear hst hbd
        go_wp2_with fail
        obtain ⟨hst, hbd⟩ := unhide HST
        clear HST
        exact unhide HNO (unhide HPL) _ (bstep (unhide HBR) hbd)
      by_cases c3 : posP l p.id = some k
      case neg =>
        have c3b : decide (posP l p.id = some k) = false := by simpa using c3
        have z3 : ¬ findI l (p.idN, p.idR) = (k : Int) := fun e => c3 ((unhide HFI).1 e)
        have z4 : (findI l (p.idN, p.idR) != (k : Int)) = true := by simpa using z3
        have HPL := hide (show PL = false by rw [hpb]; simp [*])
        clear hpb
        go_wp2_with fail
        obtain ⟨hst, hbd⟩ := unhide HST
        clear HST
        refine (idSB_any _ p.idN p.idR).mono ?_
        rintro e W0 ⟨rfl, hb⟩
        replace x0 := cell_laterO hb x0
        replace x1 := cell_laterO hb x1
        replace x2 := cell_laterO hb x2
        replace x3 := cell_laterO hb x3
        replace x4 := cell_laterO hb x4
        replace x5 := cell_laterO hb x5
        replace x6 := cell_laterO hb x6
        replace hst := hst.keep hb
        replace hbd := bstep hbd hb
        clear hb
        have HST := hide (And.intro hst hbd)
        clear hst hbd
        go_wp2_with fail
        obtain ⟨hst, hbd⟩ := unhide HST
        clear HST
        refine (l5findR_any _ w.heap.size _ c l F (p.idN, p.idR) hst (by omega)).mono ?_
        rintro e W1 ⟨rfl, hb⟩
        replace x0 := cell_laterO hb x0
        replace x1 := cell_laterO hb x1
        replace x2 := cell_laterO hb x2
        replace x3 := cell_laterO hb x3
        replace x4 := cell_laterO hb x4
        replace x5 := cell_laterO hb x5
        replace x6 := cell_laterO hb x6
        replace hst := hst.keep hb
        replace hbd := bstep hbd hb
        clear hb
        have HST := hide (And.intro hst hbd)
        clear hst hbd
        go_wp2_with fail
        obtain ⟨hst, hbd⟩ := unhide HST
        clear HST
        exact unhide HNO (unhide HPL) _ (bstep (unhide HBR) hbd)
      have z3 := (unhide HFI).2 c3
      by_cases c4 : k < 2
      · have k2 : (k : Int) < 2 := by omega
        have k3 : ¬ (2 : Int) ≤ (k : Int) := by omega
        by_cases c5 : p.kind = 0
        case neg =>
          rw [if_pos c4] at hpb
          unfold topB at hpb
          have z5 : (p.kind != 0) = true := by simpa using c5
          have c5b : decide (p.kind = 0) = false := by simpa using c5
          have HPL := hide (show PL = false by rw [hpb]; simp [*])
          clear hpb
          go_wp2_with fail
          obtain ⟨hst, hbd⟩ := unhide HST
          clear HST
          refine (idSB_any _ p.idN p.idR).mono ?_
          rintro e W0 ⟨rfl, hb⟩
          replace x0 := cell_laterO hb x0
          replace x1 := cell_laterO hb x1
          replace x2 := cell_laterO hb x2
          replace x3 := cell_laterO hb x3
          replace x4 := cell_laterO hb x4
          replace x5 := cell_laterO hb x5
          replace x6 := cell_laterO hb x6
          replace hst := hst.keep hb
          replace hbd := bstep hbd hb
          clear hb
          have HST := hide (And.intro hst hbd)
          clear hst hbd
          go_wp2_with fail
          obtain ⟨hst, hbd⟩ := unhide HST
          clear HST
          refine (l5findR_any _ w.heap.size _ c l F (p.idN, p.idR) hst (by omega)).mono ?_
          rintro e W1 ⟨rfl, hb⟩
          replace x0 := cell_laterO hb x0
          replace x1 := cell_laterO hb x1
          replace x2 := cell_laterO hb x2
          replace x3 := cell_laterO hb x3
          replace x4 := cell_laterO hb x4
          replace x5 := cell_laterO hb x5
          replace x6 := cell_laterO hb x6
          replace hst := hst.keep hb
          replace hbd := bstep hbd hb
          clear hb
          have HST := hide (And.intro hst hbd)
          clear hst hbd
          go_wp2_with fail
          obtain ⟨hst, hbd⟩ := unhide HST
          clear HST
          exact unhide HNO (unhide HPL) _ (bstep (unhide HBR) hbd)
        by_cases c6 : voidB p.name = true
        case pos =>
          rw [if_pos c4] at hpb
          unfold topB at hpb
          have z5 : (p.kind != 0) = false := by simpa using c5
          have HPL := hide (show PL = false by rw [hpb]; simp [*])
          clear hpb
          go_wp2_with fail
          obtain ⟨hst, hbd⟩ := unhide HST
          clear HST
          refine (idSB_any _ p.idN p.idR).mono ?_
          rintro e W0 ⟨rfl, hb⟩
          replace x0 := cell_laterO hb x0
          replace x1 := cell_laterO hb x1
          replace x2 := cell_laterO hb x2
          replace x3 := cell_laterO hb x3
          replace x4 := cell_laterO hb x4
          replace x5 := cell_laterO hb x5
          replace x6 := cell_laterO hb x6
          replace hst := hst.keep hb
          replace hbd := bstep hbd hb
          clear hb
          have HST := hide (And.intro hst hbd)
          clear hst hbd
          go_wp2_with fail
          obtain ⟨hst, hbd⟩ := unhide HST
          clear HST
          refine (l5findR_any _ w.heap.size _ c l F (p.idN, p.idR) hst (by omega)).mono ?_
          rintro e W1 ⟨rfl, hb⟩
          replace x0 := cell_laterO hb x0
          replace x1 := cell_laterO hb x1
          replace x2 := cell_laterO hb x2
          replace x3 := cell_laterO hb x3
          replace x4 := cell_laterO hb x4
          replace x5 := cell_laterO hb x5
          replace x6 := cell_laterO hb x6
          replace hst := hst.keep hb
          replace hbd := bstep hbd hb
          clear hb
          have HST := hide (And.intro hst hbd)
          clear hst hbd
          go_wp2_with fail
          obtain ⟨hst, hbd⟩ := unhide HST
          clear HST
          refine (voidS_b _ _ p.name ((unhide HRD).2.1.keep hbd)).mono ?_
          rintro e W2 ⟨rfl, rfl⟩
          have HST := hide (And.intro hst hbd)
          clear hst hbd
          go_wp2_with fail
          obtain ⟨hst, hbd⟩ := unhide HST
          clear HST
          exact unhide HNO (unhide HPL) _ (bstep (unhide HBR) hbd)
        rw [Bool.not_eq_true] at c6
        by_cases c7 : zeroB p.parN p.parR = true
        case neg =>
          rw [Bool.not_eq_true] at c7
          rw [if_pos c4] at hpb
          unfold topB at hpb
          have z5 : (p.kind != 0) = false := by simpa using c5
          have HPL := hide (show PL = false by rw [hpb]; simp [*])
          clear hpb
          go_wp2_with fail
          obtain ⟨hst, hbd⟩ := unhide HST
          clear HST
          refine (idSB_any _ p.idN p.idR).mono ?_
          rintro e W0 ⟨rfl, hb⟩
          replace x0 := cell_laterO hb x0
          replace x1 := cell_laterO hb x1
          replace x2 := cell_laterO hb x2
          replace x3 := cell_laterO hb x3
          replace x4 := cell_laterO hb x4
          replace x5 := cell_laterO hb x5
          replace x6 := cell_laterO hb x6
          replace hst := hst.keep hb
          replace hbd := bstep hbd hb
          clear hb
          have HST := hide (And.intro hst hbd)
          clear hst hbd
          go_wp2_with fail
          obtain ⟨hst, hbd⟩ := unhide HST
          clear HST
          refine (l5findR_any _ w.heap.size _ c l F (p.idN, p.idR) hst (by omega)).mono ?_
          rintro e W1 ⟨rfl, hb⟩
          replace x0 := cell_laterO hb x0
          replace x1 := cell_laterO hb x1
          replace x2 := cell_laterO hb x2
          replace x3 := cell_laterO hb x3
          replace x4 := cell_laterO hb x4
          replace x5 := cell_laterO hb x5
          replace x6 := cell_laterO hb x6
          replace hst := hst.keep hb
          replace hbd := bstep hbd hb
          clear hb
          have HST := hide (And.intro hst hbd)
          clear hst hbd
          go_wp2_with fail
          obtain ⟨hst, hbd⟩ := unhide HST
          clear HST
          refine (voidS_b _ _ p.name ((unhide HRD).2.1.keep hbd)).mono ?_
          rintro e W2 ⟨rfl, rfl⟩
          have HST := hide (And.intro hst hbd)
          clear hst hbd
          go_wp2_with fail
          obtain ⟨hst, hbd⟩ := unhide HST
          clear HST
          refine (zeroSB_any _ p.parN p.parR).mono ?_
          rintro e W3 ⟨rfl, hb⟩
          replace x0 := cell_laterO hb x0
          replace x1 := cell_laterO hb x1
          replace x2 := cell_laterO hb x2
          replace x3 := cell_laterO hb x3
          replace x4 := cell_laterO hb x4
          replace x5 := cell_laterO hb x5
          replace x6 := cell_laterO hb x6
          replace hst := hst.keep hb
          replace hbd := bstep hbd hb
          clear hb
          have HST := hide (And.intro hst hbd)
          clear hst hbd
          go_wp2_with fail
          obtain ⟨hst, hbd⟩ := unhide HST
          clear HST
          exact unhide HNO (unhide HPL) _ (bstep (unhide HBR) hbd)
        by_cases c8 : p.key.length = 0
        case neg =>
          rw [if_pos c4] at hpb
          unfold topB at hpb
          have z5 : (p.kind != 0) = false := by simpa using c5
          have z8 : (0 : Int) < (p.key.length : Int) := by omega
          have HPL := hide (show PL = false by rw [hpb]; simp [*])
          clear hpb
          go_wp2_with fail
          obtain ⟨hst, hbd⟩ := unhide HST
          clear HST
          refine (idSB_any _ p.idN p.idR).mono ?_
          rintro e W0 ⟨rfl, hb⟩
          replace x0 := cell_laterO hb x0
          replace x1 := cell_laterO hb x1
          replace x2 := cell_laterO hb x2
          replace x3 := cell_laterO hb x3
          replace x4 := cell_laterO hb x4
          replace x5 := cell_laterO hb x5
          replace x6 := cell_laterO hb x6
          replace hst := hst.keep hb
          replace hbd := bstep hbd hb
          clear hb
          have HST := hide (And.intro hst hbd)
          clear hst hbd
          go_wp2_with fail
          obtain ⟨hst, hbd⟩ := unhide HST
          clear HST
          refine (l5findR_any _ w.heap.size _ c l F (p.idN, p.idR) hst (by omega)).mono ?_
          rintro e W1 ⟨rfl, hb⟩
          replace x0 := cell_laterO hb x0
          replace x1 := cell_laterO hb x1
          replace x2 := cell_laterO hb x2
          replace x3 := cell_laterO hb x3
          replace x4 := cell_laterO hb x4
          replace x5 := cell_laterO hb x5
          replace x6 := cell_laterO hb x6
          replace hst := hst.keep hb
          replace hbd := bstep hbd hb
          clear hb
          have HST := hide (And.intro hst hbd)
          clear hst hbd
          go_wp2_with fail
          obtain ⟨hst, hbd⟩ := unhide HST
          clear HST
          refine (voidS_b _ _ p.name ((unhide HRD).2.1.keep hbd)).mono ?_
          rintro e W2 ⟨rfl, rfl⟩
          have HST := hide (And.intro hst hbd)
          clear hst hbd
          go_wp2_with fail
          obtain ⟨hst, hbd⟩ := unhide HST
          clear HST
          refine (zeroSB_any _ p.parN p.parR).mono ?_
          rintro e W3 ⟨rfl, hb⟩
          replace x0 := cell_laterO hb x0
          replace x1 := cell_laterO hb x1
          replace x2 := cell_laterO hb x2
          replace x3 := cell_laterO hb x3
          replace x4 := cell_laterO hb x4
          replace x5 := cell_laterO hb x5
          replace x6 := cell_laterO hb x6
          replace hst := hst.keep hb
          replace hbd := bstep hbd hb
          clear hb
          have HST := hide (And.intro hst hbd)
          clear hst hbd
          go_wp2_with fail
          obtain ⟨hst, hbd⟩ := unhide HST
          clear HST
          exact unhide HNO (unhide HPL) _ (bstep (unhide HBR) hbd)
        rw [if_pos c4] at hpb
        unfold topB at hpb
        have z5 : (p.kind != 0) = false := by simpa using c5
        have z8 : ¬ (0 : Int) < (p.key.length : Int) := by omega
        have HPL := hide (show PL = true by rw [hpb]; simp [*])
        clear hpb
        go_wp2_with fail
        obtain ⟨hst, hbd⟩ := unhide HST
        clear HST
        refine (idSB_any _ p.idN p.idR).mono ?_
        rintro e W0 ⟨rfl, hb⟩
        replace x0 := cell_laterO hb x0
        replace x1 := cell_laterO hb x1
        replace x2 := cell_laterO hb x2
        replace x3 := cell_laterO hb x3
        replace x4 := cell_laterO hb x4
        replace x5 := cell_laterO hb x5
        replace x6 := cell_laterO hb x6
        replace hst := hst.keep hb
        replace hbd := bstep hbd hb
        clear hb
        have HST := hide (And.intro hst hbd)
        clear hst hbd
        go_wp2_with fail
        obtain ⟨hst, hbd⟩ := unhide HST
        clear HST
        refine (l5findR_any _ w.heap.size _ c l F (p.idN, p.idR) hst (by omega)).mono ?_
        rintro e W1 ⟨rfl, hb⟩
        replace x0 := cell_laterO hb x0
        replace x1 := cell_laterO hb x1
        replace x2 := cell_laterO hb x2
        replace x3 := cell_laterO hb x3
        replace x4 := cell_laterO hb x4
        replace x5 := cell_laterO hb x5
        replace x6 := cell_laterO hb x6
        replace hst := hst.keep hb
        replace hbd := bstep hbd hb
        clear hb
        have HST := hide (And.intro hst hbd)
        clear hst hbd
        go_wp2_with fail
        obtain ⟨hst, hbd⟩ := unhide HST
        clear HST
        refine (voidS_b _ _ p.name ((unhide HRD).2.1.keep hbd)).mono ?_
        rintro e W2 ⟨rfl, rfl⟩
        have HST := hide (And.intro hst hbd)
        clear hst hbd
        go_wp2_with fail
        obtain ⟨hst, hbd⟩ := unhide HST
        clear HST
        refine (zeroSB_any _ p.parN p.parR).mono ?_
        rintro e W3 ⟨rfl, hb⟩
        replace x0 := cell_laterO hb x0
        replace x1 := cell_laterO hb x1
        replace x2 := cell_laterO hb x2
        replace x3 := cell_laterO hb x3
        replace x4 := cell_laterO hb x4
        replace x5 := cell_laterO hb x5
        replace x6 := cell_laterO hb x6
        replace hst := hst.keep hb
        replace hbd := bstep hbd hb
        clear hb
        have HST := hide (And.intro hst hbd)
        clear hst hbd
        go_wp2_with fail
        obtain ⟨hst, hbd⟩ := unhide HST
        clear HST
        have HB2 := hide (bstep hB hbd)
        clear hst hbd x0 x1 x2 x3 x4 x5 x6
        go_roundw
        case rel => exact ⟨k + 1, by omega, by go_num, unhide HNX (unhide HPL), unhide HB2⟩
        case measure => simp [intOf]; omega
      · have k2 : ¬ (k : Int) < 2 := by omega
        have k3 : (2 : Int) ≤ (k : Int) := by omega
        by_cases d5 : keyB p.key = true
        case neg =>
          rw [Bool.not_eq_true] at d5
          rw [if_neg c4] at hpb
          unfold restB at hpb
          have HPL := hide (show PL = false by rw [hpb]; simp [*])
          clear hpb
          go_wp2_with fail
          obtain ⟨hst, hbd⟩ := unhide HST
          clear HST
          refine (idSB_any _ p.idN p.idR).mono ?_
          rintro e W0 ⟨rfl, hb⟩
          replace x0 := cell_laterO hb x0
          replace x1 := cell_laterO hb x1
          replace x2 := cell_laterO hb x2
          replace x3 := cell_laterO hb x3
          replace x4 := cell_laterO hb x4
          replace x5 := cell_laterO hb x5
          replace x6 := cell_laterO hb x6
          replace hst := hst.keep hb
          replace hbd := bstep hbd hb
          clear hb
          have HST := hide (And.intro hst hbd)
          clear hst hbd
          go_wp2_with fail
          obtain ⟨hst, hbd⟩ := unhide HST
          clear HST
          refine (l5findR_any _ w.heap.size _ c l F (p.idN, p.idR) hst (by omega)).mono ?_
          rintro e W1 ⟨rfl, hb⟩
          replace x0 := cell_laterO hb x0
          replace x1 := cell_laterO hb x1
          replace x2 := cell_laterO hb x2
          replace x3 := cell_laterO hb x3
          replace x4 := cell_laterO hb x4
          replace x5 := cell_laterO hb x5
          replace x6 := cell_laterO hb x6
          replace hst := hst.keep hb
          replace hbd := bstep hbd hb
          clear hb
          have HST := hide (And.intro hst hbd)
          clear hst hbd
          go_wp2_with fail
          obtain ⟨hst, hbd⟩ := unhide HST
          clear HST
          refine (keyS_b _ _ p.key ((unhide HRD).1.keep hbd)).mono ?_
          rintro e W2 ⟨rfl, rfl⟩
          have HST := hide (And.intro hst hbd)
          clear hst hbd
          go_wp2_with fail
          obtain ⟨hst, hbd⟩ := unhide HST
          clear HST
          exact unhide HNO (unhide HPL) _ (bstep (unhide HBR) hbd)
        by_cases d6 : takesV l p.par = true
        case neg =>
          rw [Bool.not_eq_true] at d6
          have d6b : takesV l (p.parN, p.parR) = false := d6
          rw [if_neg c4] at hpb
          unfold restB at hpb
          have HPL := hide (show PL = false by rw [hpb]; simp [*])
          clear hpb
          go_wp2_with fail
          obtain ⟨hst, hbd⟩ := unhide HST
          clear HST
          refine (idSB_any _ p.idN p.idR).mono ?_
          rintro e W0 ⟨rfl, hb⟩
          replace x0 := cell_laterO hb x0
          replace x1 := cell_laterO hb x1
          replace x2 := cell_laterO hb x2
          replace x3 := cell_laterO hb x3
          replace x4 := cell_laterO hb x4
          replace x5 := cell_laterO hb x5
          replace x6 := cell_laterO hb x6
          replace hst := hst.keep hb
          replace hbd := bstep hbd hb
          clear hb
          have HST := hide (And.intro hst hbd)
          clear hst hbd
          go_wp2_with fail
          obtain ⟨hst, hbd⟩ := unhide HST
          clear HST
          refine (l5findR_any _ w.heap.size _ c l F (p.idN, p.idR) hst (by omega)).mono ?_
          rintro e W1 ⟨rfl, hb⟩
          replace x0 := cell_laterO hb x0
          replace x1 := cell_laterO hb x1
          replace x2 := cell_laterO hb x2
          replace x3 := cell_laterO hb x3
          replace x4 := cell_laterO hb x4
          replace x5 := cell_laterO hb x5
          replace x6 := cell_laterO hb x6
          replace hst := hst.keep hb
          replace hbd := bstep hbd hb
          clear hb
          have HST := hide (And.intro hst hbd)
          clear hst hbd
          go_wp2_with fail
          obtain ⟨hst, hbd⟩ := unhide HST
          clear HST
          refine (keyS_b _ _ p.key ((unhide HRD).1.keep hbd)).mono ?_
          rintro e W2 ⟨rfl, rfl⟩
          have HST := hide (And.intro hst hbd)
          clear hst hbd
          go_wp2_with fail
          obtain ⟨hst, hbd⟩ := unhide HST
          clear HST
          refine (l5findR_any _ w.heap.size _ c l F (p.parN, p.parR) hst (by omega)).mono ?_
          rintro e W3 ⟨rfl, hb⟩
          replace x0 := cell_laterO hb x0
          replace x1 := cell_laterO hb x1
          replace x2 := cell_laterO hb x2
          replace x3 := cell_laterO hb x3
          replace x4 := cell_laterO hb x4
          replace x5 := cell_laterO hb x5
          replace x6 := cell_laterO hb x6
          replace hst := hst.keep hb
          replace hbd := bstep hbd hb
          clear hb
          have HST := hide (And.intro hst hbd)
          clear hst hbd
          go_wp2_with fail
          obtain ⟨hst, hbd⟩ := unhide HST
          clear HST
          refine (l5takesR_any _ w.heap.size _ c l F (p.parN, p.parR) hst (by omega) _ rfl).mono ?_
          rintro e W4 ⟨rfl, rfl⟩
          have HST := hide (And.intro hst hbd)
          clear hst hbd
          go_wp2_with fail
          obtain ⟨hst, hbd⟩ := unhide HST
          clear HST
          exact unhide HNO (unhide HPL) _ (bstep (unhide HBR) hbd)
        have d6b : takesV l (p.parN, p.parR) = true := d6
        by_cases d7 : underS l (l.length + 1) p.par p.id = true
        case pos =>
          have d7b : underS l (l.length + 1) (p.parN, p.parR) (p.idN, p.idR) = true := d7
          rw [if_neg c4] at hpb
          unfold restB at hpb
          have HPL := hide (show PL = false by rw [hpb]; simp [*])
          clear hpb
          go_wp2_with fail
          obtain ⟨hst, hbd⟩ := unhide HST
          clear HST
          refine (idSB_any _ p.idN p.idR).mono ?_
          rintro e W0 ⟨rfl, hb⟩
          replace x0 := cell_laterO hb x0
          replace x1 := cell_laterO hb x1
          replace x2 := cell_laterO hb x2
          replace x3 := cell_laterO hb x3
          replace x4 := cell_laterO hb x4
          replace x5 := cell_laterO hb x5
          replace x6 := cell_laterO hb x6
          replace hst := hst.keep hb
          replace hbd := bstep hbd hb
          clear hb
          have HST := hide (And.intro hst hbd)
          clear hst hbd
          go_wp2_with fail
          obtain ⟨hst, hbd⟩ := unhide HST
          clear HST
          refine (l5findR_any _ w.heap.size _ c l F (p.idN, p.idR) hst (by omega)).mono ?_
          rintro e W1 ⟨rfl, hb⟩
          replace x0 := cell_laterO hb x0
          replace x1 := cell_laterO hb x1
          replace x2 := cell_laterO hb x2
          replace x3 := cell_laterO hb x3
          replace x4 := cell_laterO hb x4
          replace x5 := cell_laterO hb x5
          replace x6 := cell_laterO hb x6
          replace hst := hst.keep hb
          replace hbd := bstep hbd hb
          clear hb
          have HST := hide (And.intro hst hbd)
          clear hst hbd
          go_wp2_with fail
          obtain ⟨hst, hbd⟩ := unhide HST
          clear HST
          refine (keyS_b _ _ p.key ((unhide HRD).1.keep hbd)).mono ?_
          rintro e W2 ⟨rfl, rfl⟩
          have HST := hide (And.intro hst hbd)
          clear hst hbd
          go_wp2_with fail
          obtain ⟨hst, hbd⟩ := unhide HST
          clear HST
          refine (l5findR_any _ w.heap.size _ c l F (p.parN, p.parR) hst (by omega)).mono ?_
          rintro e W3 ⟨rfl, hb⟩
          replace x0 := cell_laterO hb x0
          replace x1 := cell_laterO hb x1
          replace x2 := cell_laterO hb x2
          replace x3 := cell_laterO hb x3
          replace x4 := cell_laterO hb x4
          replace x5 := cell_laterO hb x5
          replace x6 := cell_laterO hb x6
          replace hst := hst.keep hb
          replace hbd := bstep hbd hb
          clear hb
          have HST := hide (And.intro hst hbd)
          clear hst hbd
          go_wp2_with fail
          obtain ⟨hst, hbd⟩ := unhide HST
          clear HST
          refine (l5takesR_any _ w.heap.size _ c l F (p.parN, p.parR) hst (by omega) _ rfl).mono ?_
          rintro e W4 ⟨rfl, rfl⟩
          have HST := hide (And.intro hst hbd)
          clear hst hbd
          go_wp2_with fail
          obtain ⟨hst, hbd⟩ := unhide HST
          clear HST
          refine (l5underR_any _ w.heap.size _ c l F (p.parN, p.parR) (p.idN, p.idR) hst (by omega)).mono ?_
          rintro e W5 ⟨rfl, hb⟩
          replace x0 := cell_laterO hb x0
          replace x1 := cell_laterO hb x1
          replace x2 := cell_laterO hb x2
          replace x3 := cell_laterO hb x3
          replace x4 := cell_laterO hb x4
          replace x5 := cell_laterO hb x5
          replace x6 := cell_laterO hb x6
          replace hst := hst.keep hb
          replace hbd := bstep hbd hb
          clear hb
          have HST := hide (And.intro hst hbd)
          clear hst hbd
          go_wp2_with fail
          obtain ⟨hst, hbd⟩ := unhide HST
          clear HST
          exact unhide HNO (unhide HPL) _ (bstep (unhide HBR) hbd)
        rw [Bool.not_eq_true] at d7
        have d7b : underS l (l.length + 1) (p.parN, p.parR) (p.idN, p.idR) = false := d7
        rw [if_neg c4] at hpb
        unfold restB at hpb
        have HPL := hide (show PL = true by rw [hpb]; simp [*])
        clear hpb
        go_wp2_with fail
        obtain ⟨hst, hbd⟩ := unhide HST
        clear HST
        refine (idSB_any _ p.idN p.idR).mono ?_
        rintro e W0 ⟨rfl, hb⟩
        replace x0 := cell_laterO hb x0
        replace x1 := cell_laterO hb x1
        replace x2 := cell_laterO hb x2
        replace x3 := cell_laterO hb x3
        replace x4 := cell_laterO hb x4
        replace x5 := cell_laterO hb x5
        replace x6 := cell_laterO hb x6
        replace hst := hst.keep hb
        replace hbd := bstep hbd hb
        clear hb
        have HST := hide (And.intro hst hbd)
        clear hst hbd
        go_wp2_with fail
        obtain ⟨hst, hbd⟩ := unhide HST
        clear HST
        refine (l5findR_any _ w.heap.size _ c l F (p.idN, p.idR) hst (by omega)).mono ?_
        rintro e W1 ⟨rfl, hb⟩
        replace x0 := cell_laterO hb x0
        replace x1 := cell_laterO hb x1
        replace x2 := cell_laterO hb x2
        replace x3 := cell_laterO hb x3
        replace x4 := cell_laterO hb x4
        replace x5 := cell_laterO hb x5
        replace x6 := cell_laterO hb x6
        replace hst := hst.keep hb
        replace hbd := bstep hbd hb
        clear hb
        have HST := hide (And.intro hst hbd)
        clear hst hbd
        go_wp2_with fail
        obtain ⟨hst, hbd⟩ := unhide HST
        clear HST
        refine (keyS_b _ _ p.key ((unhide HRD).1.keep hbd)).mono ?_
        rintro e W2 ⟨rfl, rfl⟩
        have HST := hide (And.intro hst hbd)
        clear hst hbd
        go_wp2_with fail
        obtain ⟨hst, hbd⟩ := unhide HST
        clear HST
        refine (l5findR_any _ w.heap.size _ c l F (p.parN, p.parR) hst (by omega)).mono ?_
        rintro e W3 ⟨rfl, hb⟩
        replace x0 := cell_laterO hb x0
        replace x1 := cell_laterO hb x1
        replace x2 := cell_laterO hb x2
        replace x3 := cell_laterO hb x3
        replace x4 := cell_laterO hb x4
        replace x5 := cell_laterO hb x5
        replace x6 := cell_laterO hb x6
        replace hst := hst.keep hb
        replace hbd := bstep hbd hb
        clear hb
        have HST := hide (And.intro hst hbd)
        clear hst hbd
        go_wp2_with fail
        obtain ⟨hst, hbd⟩ := unhide HST
        clear HST
        refine (l5takesR_any _ w.heap.size _ c l F (p.parN, p.parR) hst (by omega) _ rfl).mono ?_
        rintro e W4 ⟨rfl, rfl⟩
        have HST := hide (And.intro hst hbd)
        clear hst hbd
        go_wp2_with fail
        obtain ⟨hst, hbd⟩ := unhide HST
        clear HST
        refine (l5underR_any _ w.heap.size _ c l F (p.parN, p.parR) (p.idN, p.idR) hst (by omega)).mono ?_
        rintro e W5 ⟨rfl, hb⟩
        replace x0 := cell_laterO hb x0
        replace x1 := cell_laterO hb x1
        replace x2 := cell_laterO hb x2
        replace x3 := cell_laterO hb x3
        replace x4 := cell_laterO hb x4
        replace x5 := cell_laterO hb x5
        replace x6 := cell_laterO hb x6
        replace hst := hst.keep hb
        replace hbd := bstep hbd hb
        clear hb
        have HST := hide (And.intro hst hbd)
        clear hst hbd
        go_wp2_with fail
        obtain ⟨hst, hbd⟩ := unhide HST
        clear HST
        have HB2 := hide (bstep hB hbd)
        clear hst hbd x0 x1 x2 x3 x4 x5 x6
        go_roundw
        case rel => exact ⟨k + 1, by omega, by go_num, unhide HNX (unhide HPL), unhide HB2⟩
        case measure => simp [intOf]; omega
    · have e : k = l.length := by omega
      have HF := hide (unhide HQ (.returned (.bool (stB l))) wr ⟨rfl, hBr⟩)
      rw [stB_all (by omega) (by omega) (fun p hq => by rw [hp0] at hq; exact Option.some.inj hq ▸ hr) (fun p hq => by rw [hp1] at hq; exact Option.some.inj hq ▸ ht) (fun i p hq => hok i p (by have := (List.getElem?_eq_some_iff.1 hq).1; omega) hq)] at HF
      have hnl : ¬ (k : Int) < (l.length : Int) := by omega
      clear hs hs' hok hel2
      go_wp2_with fail
      exact unhide HF

end Go.Proofs.YthgopknjppflhaaGreatDoor
