/- Own texts joined: RepS, HearU, SzOs, SzIs, SzR, ToT4, ToT5, ToOs, ToIs, ToR, EqT, EqIs, EqR, IPut. -/
import Derived.Test.YtkmmhlimihkgfaaGreatJa
import Derived.Test.YtkmmhlimihkgfaaGreatJb
import Derived.Test.YtkmmhlimihkgfaaGreatJc
import Derived.Test.YtkmmhlimihkgfaaGreatJd
import Derived.Test.YtkmmhlimihkgfaaGreatJe
import Derived.Test.YtkmmhlimihkgfaaGreatJf
import Derived.Test.YtkmmhlimihkgfaaGreatJg
import Derived.Test.YtkmmhlimihkgfaaGreatJh
import Derived.Test.YtkmmhlimihkgfaaGreatJi
import Derived.Test.YtkmmhlimihkgfaaGreatJj
import Derived.Test.YtkmmhlimihkgfaaGreatJk
import Derived.Test.YtkmmhlimihkgfaaGreatJl
import Derived.Test.YtkmmhlimihkgfaaGreatJm
import Derived.Deep.CutBlock
import Derived.Deep.RegionHeld3

/- spec.ReplicaOk. -/
namespace Go.Proofs.YtkmmhlimihkgfaaGreat
open Go.RowKit
set_option linter.unusedVariables false
set_option maxRecDepth 100000

theorem voidS_b (w : World) (v : Value) (l : List Int) (h : Byt w v l) : Calls Tryz.prog 98 #[v] w fun e w' => e = .returned (.bool (voidB l)) ∧ w' = w := by
  cases hv : voidB l with
  | true => exact voidS_yes w v l h ((voidB_iff l).1 hv)
  | false => exact voidS_no w v l h (fun hh => by rw [(voidB_iff l).2 hh] at hv; cases hv)
set_option maxHeartbeats 20000000 in
theorem repS_any (n : Nat) (w : World) (a b c d e vo vu : Value) (r : RepV n) (h : RdRep n w a b c d e vo vu r) :
    Calls Tryz.prog 60 #[repVal r a b c d e vo vu] w fun e w' => e = .returned (.bool (repB r)) ∧ Below w.heap.size w w' := by
  obtain ⟨z, ab, nb, cb, ac, nc, cc, ad, nd, cd, ae, ne, ce, rfl, rfl, rfl, rfl, rfl⟩ := rd5 h.1
  obtain ⟨ao, co, rfl, _, _⟩ := Elems.shape h.2.1
  obtain ⟨au, cu, rfl, _, _⟩ := Elems.shape h.2.2
  have HN := hide (fun W (hW : Below w.heap.size w W) => nodeS_any n W _ _ _ _ _ r.first (h.1.keep hW))
  have HV := hide (fun W (hW : Below w.heap.size w W) => (show Calls Tryz.prog 98 #[.slice ab nb cb] W fun e w' => e = .returned (.bool (voidB r.first.name)) ∧ w' = W from by
    have hnm : Byt w (.slice ab nb cb) r.first.name := by
      obtain ⟨_, _, _, _, e0, _, _, hb, _⟩ := h.1
      simp only [List.cons.injEq, and_true] at e0
      obtain ⟨_, rfl, _⟩ := e0
      exact hb
    exact voidS_b W _ _ (hnm.keep hW)))
  have HO := hide (fun W (hW : Below w.heap.size w W) => opsS_any W _ r.ops (h.2.1.keep hW))
  have hmo := h.2.1.1
  have hmu := h.2.2.1
  unfold maxLen at hmo hmu
  have HAT := hide (fun W (hW : Below w.heap.size w W) j (hj : j < r.ops.length) => (show ∃ b off cap, (Value.slice ao r.ops.length co) = .slice (some ⟨b, off, none⟩) r.ops.length cap ∧ b < W.heap.size ∧ W.cell? ⟨b, off + j * 12 + 1, none⟩ = some (.int .i64 r.ops[j].atN) by
    rcases h.2.1.cases with ⟨e, _⟩ | ⟨b, off, cap, e, _, g4, g5⟩
    · rw [e] at hj; simp at hj
    · obtain ⟨_, _, _, _, _, _, _, e1, _⟩ := opc_at hW g4 (g5 j hj)
      exact ⟨b, off, cap, e, Nat.lt_of_lt_of_le g4 hW.size, e1⟩))
  have HAU := hide (fun W (hW : Below w.heap.size w W) (hp : 0 < r.und.length) => (show ∃ b off cap, (Value.slice au r.und.length cu) = .slice (some ⟨b, off, none⟩) r.und.length cap ∧ b < W.heap.size ∧ ∀ j (hj : j < r.und.length), W.cell? ⟨b, off + j * 2, none⟩ = some (.int .i64 r.und[j].1) ∧ W.cell? ⟨b, off + j * 2 + 1, none⟩ = some (.int .i64 r.und[j].2) by
    rcases h.2.2.cases with ⟨e, _⟩ | ⟨b, off, cap, e, _, g4, g5⟩
    · rw [e] at hp; simp at hp
    · exact ⟨b, off, cap, e, Nat.lt_of_lt_of_le g4 hW.size, fun j hj => ⟨(hW.cell (p := ⟨b, off + j * 2, none⟩) g4).trans (g5 j hj).1, (hW.cell (p := ⟨b, off + j * 2 + 1, none⟩) g4).trans (g5 j hj).2⟩⟩))
  unfold repVal
  have HRB := hide (show ∀ res, res = repB r → (res = (decide (0 ≤ r.id) && decide (r.id < 8) && (okN n r.first && !voidB r.first.name) && decide (0 ≤ r.clock) && decide (r.clock ≤ 1000000) && opsB r.ops && stampsB r.ops r.clock && undB r.und r.id r.clock)) from fun res e => e)
  obtain ⟨res, hres⟩ : ∃ res, res = repB r := ⟨_, rfl⟩
  rw [← hres]
  replace HRB := hide (unhide HRB res hres)
  clear hres
  have HG1 := hide (fun hh => stampsB_good (l := r.ops) (c := r.clock) hh)
  have HN1 := hide (fun k hk hh => stampsB_bad (l := r.ops) (c := r.clock) (k := k) hk hh)
  have HLG := hide (fun hh => undB_long (l := r.und) (id := r.id) (clk := r.clock) hh)
  have HG2 := hide (fun hn hh => undB_good (l := r.und) (id := r.id) (clk := r.clock) hn hh)
  have HN2 := hide (fun k hk hh => undB_bad (l := r.und) (id := r.id) (clk := r.clock) (k := k) hk hh)
  have HE := hide (fun k hk => undAt_eq (l := r.und) (id := r.id) (clk := r.clock) (k := k) hk)
  generalize okN n r.first = nb' at *
  generalize voidB r.first.name = vb at *
  generalize opsB r.ops = ob at *
  generalize stampsB r.ops r.clock = tb at *
  generalize undB r.und r.id r.clock = ub at *
  generalize hol : r.ops = l at *
  generalize hul : r.und = m at *
  clear hol hul h
  have hA := (Below.refl w.heap.size w).alloc (Nat.le_refl _) (.cells #[.int .i64 r.id, .int .i64 r.clock, .int .i64 z, .slice ab nb cb, .slice ac nc cc, .slice ad nd cd, .slice ae ne ce, .slice ao l.length co, .slice au m.length cu, .bool r.lost] 64)
  have l0 := Loc.made w #[.int .i64 r.id, .int .i64 r.clock, .int .i64 z, .slice ab nb cb, .slice ac nc cc, .slice ad nd cd, .slice ae ne ce, .slice ao l.length co, .slice au m.length cu, .bool r.lost] 64
  by_cases q1 : 0 ≤ r.id
  case neg =>
    have p1 : r.id < 0 := by omega
    have HF := hide (show res = false by rw [unhide HRB, decide_eq_false q1]; rfl)
    go_enter Tryz.func60, Tryz.ntmps60
    go_wp2_with fail
    go_ret
    exact ⟨by rw [unhide HF]; rfl, hA⟩
  have p1 : ¬ r.id < 0 := by omega
  by_cases q2 : r.id < 8
  case neg =>
    have p2 : 8 ≤ r.id := by omega
    have HF := hide (show res = false by rw [unhide HRB, decide_eq_false q2, Bool.and_false]; rfl)
    go_enter Tryz.func60, Tryz.ntmps60
    go_wp2_with fail
    go_ret
    exact ⟨by rw [unhide HF]; rfl, hA⟩
  have p2 : ¬ 8 ≤ r.id := by omega
  by_cases q3 : 0 ≤ r.clock
  case neg =>
    have p3 : r.clock < 0 := by omega
    have HF := hide (show res = false by rw [unhide HRB, decide_eq_false q3, Bool.and_false]; rfl)
    go_enter Tryz.func60, Tryz.ntmps60
    go_wp2_with fail
    go_ret
    exact ⟨by rw [unhide HF]; rfl, hA⟩
  have p3 : ¬ r.clock < 0 := by omega
  by_cases q4 : r.clock ≤ 1000000
  case neg =>
    have p4 : 1000000 < r.clock := by omega
    have HF := hide (show res = false by rw [unhide HRB, decide_eq_false q4, Bool.and_false]; rfl)
    go_enter Tryz.func60, Tryz.ntmps60
    go_wp2_with fail
    go_ret
    exact ⟨by rw [unhide HF]; rfl, hA⟩
  have p4 : ¬ 1000000 < r.clock := by omega
  rw [decide_eq_true q1, decide_eq_true q2, decide_eq_true q3, decide_eq_true q4, Bool.and_self, Bool.true_and, Bool.and_true, Bool.and_true] at HRB
  go_enter Tryz.func60, Tryz.ntmps60
  go_wp2_with fail
  generalize (w.alloc (.cells #[.int .i64 r.id, .int .i64 r.clock, .int .i64 z, .slice ab nb cb, .slice ac nc cc, .slice ad nd cd, .slice ae ne ce, .slice ao l.length co, .slice au m.length cu, .bool r.lost] 64)) = wa at *
  refine (unhide HN _ hA).mono ?_
  rintro e w1 ⟨rfl, hB⟩
  have hA1 := bstep hA hB
  replace l0 := l0.all hB
  clear hA hB HN
  obtain ⟨x0, x1, x2, x3, x4, x5, x6, x7, x8, x9⟩ := l0.ten
  cases hs : nb' with
  | false =>
    have HF := hide (show res = false by rw [unhide HRB, hs]; rfl)
    go_wp2_with fail
    go_ret
    exact ⟨by rw [unhide HF]; rfl, hA1⟩
  | true =>
  rw [hs, Bool.true_and] at HRB
  go_wp2_with fail
  refine (unhide HV _ hA1).mono ?_
  rintro e w1 ⟨rfl, rfl⟩
  cases hv : vb with
  | true =>
    have HF := hide (show res = false by rw [unhide HRB, hv]; rfl)
    go_wp2_with fail
    go_ret
    exact ⟨by rw [unhide HF]; rfl, hA1⟩
  | false =>
  rw [hv, Bool.not_false, Bool.true_and] at HRB
  go_wp2_with fail
  clear x0 x1 x2 x3 x4 x5 x6 x7 x8 x9
  refine (unhide HO _ hA1).mono ?_
  rintro e w2 ⟨rfl, hB⟩
  have hA2 := bstep hA1 hB
  replace l0 := l0.all hB
  clear hA1 hB HO
  obtain ⟨x0, x1, x2, x3, x4, x5, x6, x7, x8, x9⟩ := l0.ten
  cases ho : ob with
  | false =>
    have HF := hide (show res = false by rw [unhide HRB, ho]; rfl)
    go_wp2_with fail
    go_ret
    exact ⟨by rw [unhide HF]; rfl, hA2⟩
  | true =>
  rw [ho, Bool.true_and] at HRB
  by_cases hlong : 150 < m.length
  case pos =>
    have hd : (150 : Int) < (m.length : Int) := by omega
    have HF := hide (show res = false by rw [unhide HRB, unhide HLG hlong, Bool.and_false])
    go_wp2_with fail
    go_ret
    exact ⟨by rw [unhide HF]; rfl, hA2⟩
  have hd : ¬ (150 : Int) < (m.length : Int) := by omega
  go_wp2_with fail
  clear x0 x1 x2 x3 x4 x5 x6 x7 x8 x9
  have hSl : w.heap.size < w2.heap.size := l0.lt
  go_loopw [3] (fun i wr => ∃ k : Nat, k ≤ l.length ∧ i = .int .i64 k ∧ (∀ j (hj : j < l.length), j < k → l[j].atN ≤ r.clock) ∧ Below w2.heap.size w2 wr) (fun i _ => l.length - (intOf i).toNat)
  case atStart => exact ⟨0, Nat.zero_le _, rfl, fun j _ hj => by omega, Below.refl _ _⟩
  case round =>
    obtain ⟨k, hk, rfl, hok, hB⟩ := hrel
    have hAB := bstep hA2 hB
    obtain ⟨x0, x1, _, _, _, _, _, x7, x8, _⟩ := (l0.all hB).ten
    by_cases hlt : k < l.length
    · obtain ⟨pb, poff, pcap, epv, hpl, e1⟩ := unhide HAT wr hAB k hlt
      cases epv
      have hlt' : (k : Int) < (l.length : Int) := by omega
      have hk0 : (0 : Int) ≤ (k : Int) := by omega
      have hSr : w.heap.size < wr.heap.size := Nat.lt_of_lt_of_le hSl hB.size
      have hNE : Nonempty (Gr wr) := ⟨⟨wr, Below.refl _ _⟩⟩
      have HJ := hide (fun (hh : l[k].atN ≤ r.clock) j (hj : j < l.length) (hjk : j < k + 1) => (show l[j].atN ≤ r.clock by rcases Nat.lt_succ_iff_lt_or_eq.1 hjk with h1 | rfl; exact hok j hj h1; exact hh))
      have HNK := hide (fun (hh : r.clock < l[k].atN) => (show res = false by rw [unhide HRB, unhide HN1 k hlt hh]; rfl))
      generalize l[k].atN = oN at *
      clear HAT HAU HG1 HN1 HLG HG2 HN2 HE HRB hok
      go_wp2_with fail
      replace x1 := Gr.cell hSr x1
      replace x7 := Gr.cell hSr x7
      replace e1 := Gr.cell hpl e1
      by_cases hq : r.clock < oN
      · have HF := hide (unhide HNK hq)
        clear HNK HJ
        refine wp_region_gr (by kernel_rfl) (by kernel_rfl) ?_
        repeat (go_big_quiet_step (fail))
        refine wpQuiet_nil ?_
        rintro _ ⟨p, rfl⟩
        have hB3 := bstep hAB p.h
        clear x0 x1 x7 x8 e1
        go_wp2_with fail
        go_ret
        exact ⟨by rw [unhide HF]; rfl, hB3⟩
      · have HJ' := hide (unhide HJ (by omega))
        clear HNK HJ
        refine wp_region_gr (by kernel_rfl) (by kernel_rfl) ?_
        repeat (go_big_quiet_step (fail))
        refine wpQuiet_nil ?_
        rintro _ ⟨p, rfl⟩
        have hB3 := bstep hB p.h
        clear x0 x1 x7 x8 e1
        go_wp2_with fail
        go_roundw
        case rel => exact ⟨k + 1, by omega, by go_num, unhide HJ', hB3⟩
        case measure => simp [intOf]; omega
    · have htb := unhide HG1 (fun j hj => hok j hj (by omega))
      rw [htb, Bool.true_and] at HRB
      have e : k = l.length := by omega
      subst e
      replace l0 := l0.all hB
      clear HAT HG1 HN1 HLG hok htb hSl hA2 hB hlt hk
      go_wp2_with fail
      clear x0 x1 x7 x8
      generalize wr = wq at *
      have hSl : w.heap.size < wq.heap.size := l0.lt
      go_loopw [4] (fun i wr => ∃ k : Nat, k ≤ m.length ∧ i = .int .i64 k ∧ (∀ j, j < k → undAt m r.id r.clock j = true) ∧ Below wq.heap.size wq wr) (fun i _ => m.length - (intOf i).toNat)
      case atStart => exact ⟨0, Nat.zero_le _, rfl, fun j hj => by omega, Below.refl _ _⟩
      case round =>
        obtain ⟨k, hk, rfl, hok, hB⟩ := hrel
        have hABv := bstep hAB hB
        obtain ⟨x0, x1, _, _, _, _, _, x7, x8, _⟩ := (l0.all hB).ten
        by_cases hlt : k < m.length
        · obtain ⟨pb, poff, pcap, epv, hpl, hel⟩ := unhide HAU wr hABv (by omega)
          cases epv
          obtain ⟨e0, e1⟩ := hel k hlt
          have hlt' : (k : Int) < (m.length : Int) := by omega
          have hk0 : (0 : Int) ≤ (k : Int) := by omega
          have hSr : w.heap.size < wr.heap.size := Nat.lt_of_lt_of_le hSl hB.size
          have hNE : Nonempty (Gr wr) := ⟨⟨wr, Below.refl _ _⟩⟩
          have HE' := hide (unhide HE k hlt)
          have HJ := hide (fun (hh : undAt m r.id r.clock k = true) j (hj : j < k + 1) => (show undAt m r.id r.clock j = true by rcases Nat.lt_succ_iff_lt_or_eq.1 hj with h1 | rfl; exact hok j h1; exact hh))
          have HNK := hide (fun (hh : undAt m r.id r.clock k = false) => (show res = false by rw [unhide HRB, unhide HN2 k hlt hh]))
          have HP := hide (fun j (ej : k = j + 1) => (show ∃ q : Int × Int, m[k - 1]'(by omega) = q ∧ wr.cell? ⟨pb, poff + j * 2, none⟩ = some (.int .i64 q.1) ∧ wr.cell? ⟨pb, poff + j * 2 + 1, none⟩ = some (.int .i64 q.2) by
            obtain ⟨p0, p1⟩ := hel j (by omega)
            exact ⟨m[j], by subst ej; rfl, p0, p1⟩))
          generalize undAt m r.id r.clock k = okk at *
          generalize hoo : m[k] = o at *
          clear hoo hel HAU HG2 HN2 HE HRB hok
          go_wp2_with fail
          replace x0 := Gr.cell hSr x0
          replace x1 := Gr.cell hSr x1
          replace x8 := Gr.cell hSr x8
          replace e0 := Gr.cell hpl e0
          replace e1 := Gr.cell hpl e1
          by_cases hq : o.2 = r.id ∧ 1 ≤ o.1 ∧ o.1 ≤ r.clock
          case neg =>
            have HF := hide (unhide HNK (by
              rw [unhide HE']
              have : (decide (o.2 = r.id) && decide (1 ≤ o.1) && decide (o.1 ≤ r.clock)) = false := by
                rw [Bool.and_eq_false_iff, Bool.and_eq_false_iff]
                simp only [decide_eq_false_iff_not]
                omega
              rw [this, Bool.false_and]))
            clear HE' HJ HNK HP
            by_cases q1 : o.2 = r.id
            · by_cases q2 : 1 ≤ o.1
              · have q3 : r.clock < o.1 := by omega
                have d1 : (o.2 != r.id) = false := by simpa using q1
                have d2 : ¬ o.1 < 1 := by omega
                clear q1 hq
                refine wp_region_gr (by kernel_rfl) (by kernel_rfl) ?_
                repeat (go_big_quiet_step (fail))
                refine wpQuiet_nil ?_
                rintro _ ⟨p, rfl⟩
                have hB3 := bstep hABv p.h
                clear x0 x1 x7 x8 e0 e1
                go_wp2_with fail
                go_ret
                exact ⟨by rw [unhide HF]; rfl, hB3⟩
              · have q2' : o.1 < 1 := by omega
                have d1 : (o.2 != r.id) = false := by simpa using q1
                clear q1 hq
                refine wp_region_gr (by kernel_rfl) (by kernel_rfl) ?_
                repeat (go_big_quiet_step (fail))
                refine wpQuiet_nil ?_
                rintro _ ⟨p, rfl⟩
                have hB3 := bstep hABv p.h
                clear x0 x1 x7 x8 e0 e1
                go_wp2_with fail
                go_ret
                exact ⟨by rw [unhide HF]; rfl, hB3⟩
            · have d1 : (o.2 != r.id) = true := by simpa using q1
              clear hq
              refine wp_region_gr (by kernel_rfl) (by kernel_rfl) ?_
              repeat (go_big_quiet_step (fail))
              refine wpQuiet_nil ?_
              rintro _ ⟨p, rfl⟩
              have hB3 := bstep hABv p.h
              clear x0 x1 x7 x8 e0 e1
              go_wp2_with fail
              go_ret
              exact ⟨by rw [unhide HF]; rfl, hB3⟩
          obtain ⟨q1, q2, q3⟩ := hq
          have HE2 : okk = (decide (k = 0) || lessB (m[k - 1]'(by omega)).1 (m[k - 1]'(by omega)).2 o.1 o.2) := by
            rw [unhide HE', decide_eq_true q1, decide_eq_true q2, decide_eq_true q3]; rfl
          have d1 : (o.2 != r.id) = false := by simpa using q1
          have d2 : ¬ o.1 < 1 := by omega
          have d3 : ¬ r.clock < o.1 := by omega
          clear q1 HE'
          rcases Nat.eq_zero_or_pos k with hz | hpos
          · have HY := hide (unhide HJ (by rw [HE2, decide_eq_true hz]; rfl))
            have dz3 : ¬ 0 < k := by omega
            have dz4 : decide (0 < k) = false := by simp; omega
            clear HP HE2 HJ HNK hz
            refine wp_region_gr (by kernel_rfl) (by kernel_rfl) ?_
            repeat (go_big_quiet_step (fail))
            refine wpQuiet_nil ?_
            rintro _ ⟨p, rfl⟩
            have hB3 := bstep hB p.h
            clear x0 x1 x7 x8 e0 e1
            go_wp2_with fail
            go_roundw
            case rel => exact ⟨k + 1, by omega, by go_num, unhide HY, hB3⟩
            case measure => simp [intOf]; omega
          · obtain ⟨j, ej⟩ : ∃ j, k = j + 1 := ⟨k - 1, by omega⟩
            have dz3 : 0 < k := hpos
            have dz4 : decide (0 < k) = true := by simp; omega
            have hj1 : (k : Int) - 1 = (j : Int) := by omega
            have hj0 : (0 : Int) ≤ (j : Int) := by omega
            have hjl : (j : Int) < (m.length : Int) := by omega
            obtain ⟨q, eq, i1, i2⟩ := unhide HP j ej
            have HE3 : okk = lessB q.1 q.2 o.1 o.2 := by rw [HE2, eq, decide_eq_false (by omega), Bool.false_or]
            replace i1 := Gr.cell hpl i1
            replace i2 := Gr.cell hpl i2
            have HLL := hide (fun W => lessS_any W q.1 q.2 o.1 o.2)
            clear HE2 HP eq hpos
            generalize lessB q.1 q.2 o.1 o.2 = lb at *
            subst HE3
            clear ej
            refine wp_region_gr (by kernel_rfl) (by kernel_rfl) ?_
            repeat (go_big_quiet_step ((rename_i p; exact calls_gr (unhide HLL _))))
            refine wpQuiet_nil ?_
            rintro _ ⟨p, rfl⟩
            have hB3 := bstep hB p.h
            have hB4 := bstep hABv p.h
            clear x0 x1 x7 x8 e0 e1 i1 i2
            cases okk with
            | true =>
              go_wp2_with fail
              go_roundw
              case rel => exact ⟨k + 1, by omega, by go_num, unhide HJ rfl, hB3⟩
              case measure => simp [intOf]; omega
            | false =>
              have HF := hide (unhide HNK rfl)
              clear HNK
              go_wp2_with fail
              go_ret
              exact ⟨by rw [unhide HF]; rfl, hB4⟩
        · have HY := hide (show res = true by rw [unhide HRB, unhide HG2 (by omega) (fun j hj => hok j (by omega))])
          clear HAU
          go_wp2_with fail
          go_ret
          exact ⟨by rw [unhide HY]; rfl, hABv⟩
end Go.Proofs.YtkmmhlimihkgfaaGreat

/- spec.Hear. -/
namespace Go.Proofs.YtkmmhlimihkgfaaGreat
open Go.RowKit
set_option linter.unusedVariables false
set_option maxRecDepth 100000

theorem hearR_len {n : Nat} (r : RepV n) (o : OpV) : (hearR r o).ops.length ≤ r.ops.length + 1 := by
  rcases hearR_ops r o with e | e
  · rw [e]; exact putL_len _ _
  · rw [e]; omega
theorem hearR_mem {n : Nat} {r : RepV n} {o x : OpV} (h : x ∈ (hearR r o).ops) : x = o ∨ x ∈ r.ops := by
  rcases hearR_ops r o with e | e
  · rw [e] at h; exact putL_mem h
  · rw [e] at h; exact .inr h
set_option maxHeartbeats 12800000 in
theorem hearS_any (n : Nat) (w : World) (a b c d e vo vu vop : Value) (r : RepV n) (o : OpV) (h : RdRep n w a b c d e vo vu r) (ho : RdOp w vop o) (hsz : szT (n + 1) r.first ≤ 2097152) (hs : szO o ≤ 2097152) (hls : ∀ x ∈ r.ops, szO x ≤ 2097152) :
    Calls Tryz.prog 23 #[repVal r a b c d e vo vu, vop] w fun e' w' => ∃ (zk : Int) (pk : Option Addr) (npk cpk : Nat) (qk : Option Addr) (nqk cqk : Nat) (rk : Option Addr) (nrk crk : Nat) (uk : Option Addr) (nuk cuk : Nat) (ok : Option Addr) (nok cok : Nat) (ik : Option Addr) (nik cik : Nat), e' = .returned (.tuple #[repVal (hearV r o) (.int .i64 zk) (.slice pk npk cpk) (.slice qk nqk cqk) (.slice rk nrk crk) (.slice uk nuk cuk) (.slice ok nok cok) (.slice ik nik cik), .bool (hearB r o)]) ∧ ∃ F, OwRep n w' (.int .i64 zk) (.slice pk npk cpk) (.slice qk nqk cqk) (.slice rk nrk crk) (.slice uk nuk cuk) (.slice ok nok cok) (.slice ik nik cik) (hearV r o) F ∧ F.Nodup ∧ Rng F w.heap.size w'.heap.size ∧ Below w.heap.size w w' := by
  have HN := hide (fun W (hW : Below w.heap.size w W) => repS_any n W _ _ _ _ _ _ _ r (h.keep hW))
  have HO := hide (fun W (hW : Below w.heap.size w W) => opS_any W _ o (ho.keep hW))
  have HR := hide (fun (hl : r.ops.length ≤ 150) W (hW : Below w.heap.size w W) => l6hear_any n W _ _ _ _ _ _ _ _ r o (h.keep hW) (ho.keep hW) hl (by unfold szO at hs; omega) (fun x hx => by have := hls x hx; unfold szO at this; omega))
  have HC := hide (fun (hl : r.ops.length ≤ 150) (hm : r.und.length ≤ 150) W (a b c d e vo vu : Value) (hr : RdRep n W a b c d e vo vu (hearR r o)) => ownRep_any n W a b c d e vo vu (hearR r o) hr (by rw [hearR_first]; exact hsz) (by have := hearR_len r o; omega) (fun x hx => (hearR_mem hx).elim (fun e => by rw [e]; omega) (fun hx => by have := hls x hx; omega)) (by rw [hearR_und]; omega))
  obtain ⟨za, pa, npa, cpa, qa, nqa, cqa, ra, nra, cra, ua, nua, cua, rfl, rfl, rfl, rfl, rfl⟩ := rd5 h.1
  obtain ⟨oa, oc, rfl, _, _⟩ := Elems.shape h.2.1
  obtain ⟨ia, ic, rfl, _, _⟩ := Elems.shape h.2.2
  obtain ⟨k, nn, t, rfl, hk0, hn0, ht0⟩ := ho
  obtain ⟨a1, c1, rfl, _, _⟩ := hk0.shape
  obtain ⟨a2, c2, rfl, _, _⟩ := hn0.shape
  obtain ⟨a3, c3, rfl, _, _⟩ := ht0.shape
  obtain ⟨l0, l1, l2, hA, hs3⟩ := threeH w #[.int .i64 r.id, .int .i64 r.clock, .int .i64 za, .slice pa npa cpa, .slice qa nqa cqa, .slice ra nra cra, .slice ua nua cua, .slice oa r.ops.length oc, .slice ia r.und.length ic, .bool r.lost] #[.int .i64 o.kind, .int .i64 o.atN, .int .i64 o.atR, .int .i64 o.nodeN, .int .i64 o.nodeR, .int .i64 o.parN, .int .i64 o.parR, .slice a1 o.key.length c1, .int .i64 o.elem, .slice a2 o.name.length c2, .slice a3 o.text.length c3, .bool o.gone] #[.int .i64 0, .int .i64 0, .int .i64 0, .slice none 0 0, .slice none 0 0, .slice none 0 0, .slice none 0 0, .slice none 0 0, .slice none 0 0, .bool false] 64 28 64
  clear h hk0 hn0 ht0 hs hls hsz
  unfold opVal at HO HR
  unfold repVal at HN HC
  simp only [repVal] at HR
  unfold repVal opVal
  go_enter Tryz.func23, Tryz.ntmps23
  go_wp2_with fail
  generalize (((w.alloc (.cells #[.int .i64 r.id, .int .i64 r.clock, .int .i64 za, .slice pa npa cpa, .slice qa nqa cqa, .slice ra nra cra, .slice ua nua cua, .slice oa r.ops.length oc, .slice ia r.und.length ic, .bool r.lost] 64)).alloc (.cells #[.int .i64 o.kind, .int .i64 o.atN, .int .i64 o.atR, .int .i64 o.nodeN, .int .i64 o.nodeR, .int .i64 o.parN, .int .i64 o.parR, .slice a1 o.key.length c1, .int .i64 o.elem, .slice a2 o.name.length c2, .slice a3 o.text.length c3, .bool o.gone] 28)).alloc (.cells #[.int .i64 0, .int .i64 0, .int .i64 0, .slice none 0 0, .slice none 0 0, .slice none 0 0, .slice none 0 0, .slice none 0 0, .slice none 0 0, .bool false] 64)) = wa at *
  refine (unhide HN _ hA).mono ?_
  rintro e w1 ⟨rfl, hB⟩
  have hD := bstep hA hB
  replace l0 := l0.all hB
  replace l1 := l1.all hB
  replace l2 := l2.all hB
  clear hA hB HN
  cases hb : repB r with
  | false =>
    have HV := hide (show hearV r o = zeroR n by unfold hearV; rw [hb]; rfl)
    have HW := hide (show hearB r o = false by unfold hearB; rw [hb]; rfl)
    obtain ⟨lX, fX⟩ := store10r l2 (.int .i64 0) (.int .i64 0) (.int .i64 0) (.slice none 0 0) (.slice none 0 0) (.slice none 0 0) (.slice none 0 0) (.slice none 0 0) (.slice none 0 0) (.bool false)
    have bX := hD.trans (fX.below hD.size (fun g hg => by simp at hg; omega))
    have HF := hide bX
    obtain ⟨y0, y1, y2, y3, y4, y5, y6, y7, y8, y9⟩ := l2.ten
    have j0 := l2.frozen 0
    have j1 := l2.frozen 1
    have j2 := l2.frozen 2
    have j3 := l2.frozen 3
    have j4 := l2.frozen 4
    have j5 := l2.frozen 5
    have j6 := l2.frozen 6
    have j7 := l2.frozen 7
    have j8 := l2.frozen 8
    have j9 := l2.frozen 9
    obtain ⟨g0, g1, g2, g3, g4, g5, g6, g7, g8, g9⟩ := lX.ten
    clear lX fX bX l0 l1 l2 hD
    go_wp2_with fail
    exact bodyPost_ret (v := .tuple #[.agg #[.int .i64 0, .int .i64 0, .int .i64 0, .slice none 0 0, .slice none 0 0, .slice none 0 0, .slice none 0 0, .slice none 0 0, .slice none 0 0, .bool false], .bool false]) (by simp [results, Tryz.results23, go_sem, g0, g1, g2, g3, g4, g5, g6, g7, g8, g9]) rfl ⟨0, none, 0, 0, none, 0, 0, none, 0, 0, none, 0, 0, none, 0, 0, none, 0, 0, by rw [unhide HV, unhide HW]; rfl, [], by rw [unhide HV]; exact zeroR_own n _, List.nodup_nil, Rng.nil _ _, unhide HF⟩
  | true =>
  obtain ⟨x0, x1, x2, x3, x4, x5, x6, x7, x8, x9, x10, x11⟩ := l1.twelve
  go_wp2_with fail
  clear x0 x1 x2 x3 x4 x5 x6 x7 x8 x9 x10 x11
  refine (unhide HO _ hD).mono ?_
  rintro e w2 ⟨rfl, hB⟩
  replace hD := bstep hD hB
  replace l0 := l0.all hB
  replace l1 := l1.all hB
  replace l2 := l2.all hB
  clear hB HO
  cases hc : opB o with
  | false =>
    have HV := hide (show hearV r o = zeroR n by unfold hearV; rw [hb, hc]; rfl)
    have HW := hide (show hearB r o = false by unfold hearB; rw [hb, hc]; rfl)
    obtain ⟨lX, fX⟩ := store10r l2 (.int .i64 0) (.int .i64 0) (.int .i64 0) (.slice none 0 0) (.slice none 0 0) (.slice none 0 0) (.slice none 0 0) (.slice none 0 0) (.slice none 0 0) (.bool false)
    have bX := hD.trans (fX.below hD.size (fun g hg => by simp at hg; omega))
    have HF := hide bX
    obtain ⟨y0, y1, y2, y3, y4, y5, y6, y7, y8, y9⟩ := l2.ten
    have j0 := l2.frozen 0
    have j1 := l2.frozen 1
    have j2 := l2.frozen 2
    have j3 := l2.frozen 3
    have j4 := l2.frozen 4
    have j5 := l2.frozen 5
    have j6 := l2.frozen 6
    have j7 := l2.frozen 7
    have j8 := l2.frozen 8
    have j9 := l2.frozen 9
    obtain ⟨g0, g1, g2, g3, g4, g5, g6, g7, g8, g9⟩ := lX.ten
    clear lX fX bX l0 l1 l2 hD
    go_wp2_with fail
    exact bodyPost_ret (v := .tuple #[.agg #[.int .i64 0, .int .i64 0, .int .i64 0, .slice none 0 0, .slice none 0 0, .slice none 0 0, .slice none 0 0, .slice none 0 0, .slice none 0 0, .bool false], .bool false]) (by simp [results, Tryz.results23, go_sem, g0, g1, g2, g3, g4, g5, g6, g7, g8, g9]) rfl ⟨0, none, 0, 0, none, 0, 0, none, 0, 0, none, 0, 0, none, 0, 0, none, 0, 0, by rw [unhide HV, unhide HW]; rfl, [], by rw [unhide HV]; exact zeroR_own n _, List.nodup_nil, Rng.nil _ _, unhide HF⟩
  | true =>
  have HV := hide (show hearV r o = hearR r o by unfold hearV; rw [hb, hc]; rfl)
  have HW := hide (show hearB r o = putOk r.ops o by unfold hearB; rw [hb, hc]; rfl)
  have hob := repB_ops hb
  have hl := opsB_len hob
  have hm := repB_und hb
  clear hob hb hc
  generalize hearR r o = rr at *
  obtain ⟨x0, x1, x2, x3, x4, x5, x6, x7, x8, x9⟩ := l0.ten
  obtain ⟨z0, z1, z2, z3, z4, z5, z6, z7, z8, z9, z10, z11⟩ := l1.twelve
  go_wp2_with fail
  clear x0 x1 x2 x3 x4 x5 x6 x7 x8 x9 z0 z1 z2 z3 z4 z5 z6 z7 z8 z9 z10 z11
  refine (unhide HR hl _ hD).mono ?_
  rintro e w3 ⟨u, rfl, hrd, hB⟩
  obtain ⟨pu, cu, rfl, _, _⟩ := Elems.shape hrd.2.1
  have hlow : w.heap.size + 3 ≤ w2.heap.size := l2.lt
  replace hD := bstep hD hB
  replace l2 := l2.all hB
  have b34 : Below w3.heap.size w3 (w3.alloc (.cells #[.int .i64 rr.id, .int .i64 rr.clock, .int .i64 za, .slice pa npa cpa, .slice qa nqa cqa, .slice ra nra cra, .slice ua nua cua, .slice pu rr.ops.length cu, .slice ia r.und.length ic, .bool rr.lost] 64)) := (Below.refl _ _).alloc (Nat.le_refl _) _
  replace hD := bstep hD b34
  replace l2 := l2.all b34
  have hrd4 := hrd.keep b34
  have HL := hide (And.intro l2 (And.intro hD hrd4))
  clear b34 hrd hrd4 hB HR l0 l1 l2 hD
  go_wp2_with fail
  generalize (w3.alloc (.cells #[.int .i64 rr.id, .int .i64 rr.clock, .int .i64 za, .slice pa npa cpa, .slice qa nqa cqa, .slice ra nra cra, .slice ua nua cua, .slice pu rr.ops.length cu, .slice ia r.und.length ic, .bool rr.lost] 64)) = w4 at *
  obtain ⟨l2, hD, hrd4⟩ := unhide HL
  have h24 : w.heap.size + 3 ≤ w4.heap.size := l2.lt
  refine (unhide HC hl hm w4 _ _ _ _ _ _ _ hrd4).mono ?_
  rintro e w5 ⟨zk, pk, npk, cpk, qk, nqk, cqk, rk, nrk, crk, uk, nuk, cuk, ok, kk, ik, jk, rfl, F, ho', nd', rg', hB⟩
  replace hD := bstep hD hB
  replace l2 := l2.all hB
  clear HL HC hrd4 hB
  obtain ⟨lX, fX⟩ := store10r l2 (.int .i64 rr.id) (.int .i64 rr.clock) (.int .i64 zk) (.slice pk npk cpk) (.slice qk nqk cqk) (.slice rk nrk crk) (.slice uk nuk cuk) (.slice ok rr.ops.length kk) (.slice ik rr.und.length jk) (.bool rr.lost)
  have oX := ho'.frm fX (fun g hg hg' => by have := (rg' g hg).1; simp at hg'; omega)
  have rX := rg'.mono (lo' := w.heap.size) (by omega) fX.size
  have bX := hD.trans (fX.below hD.size (fun g hg => by simp at hg; omega))
  have HF := hide (And.intro oX (And.intro rX bX))
  obtain ⟨y0, y1, y2, y3, y4, y5, y6, y7, y8, y9⟩ := l2.ten
  have j0 := l2.frozen 0
  have j1 := l2.frozen 1
  have j2 := l2.frozen 2
  have j3 := l2.frozen 3
  have j4 := l2.frozen 4
  have j5 := l2.frozen 5
  have j6 := l2.frozen 6
  have j7 := l2.frozen 7
  have j8 := l2.frozen 8
  have j9 := l2.frozen 9
  obtain ⟨g0, g1, g2, g3, g4, g5, g6, g7, g8, g9⟩ := lX.ten
  clear lX fX oX rX bX l2 hD ho' rg'
  go_wp2_with fail
  obtain ⟨oX, rX, bX⟩ := unhide HF
  exact bodyPost_ret (v := .tuple #[.agg #[.int .i64 rr.id, .int .i64 rr.clock, .int .i64 zk, .slice pk npk cpk, .slice qk nqk cqk, .slice rk nrk crk, .slice uk nuk cuk, .slice ok rr.ops.length kk, .slice ik rr.und.length jk, .bool rr.lost], .bool (putOk r.ops o)]) (by simp [results, Tryz.results23, go_sem, g0, g1, g2, g3, g4, g5, g6, g7, g8, g9]) rfl ⟨zk, pk, npk, cpk, qk, nqk, cqk, rk, nrk, crk, uk, nuk, cuk, ok, _, kk, ik, _, jk, by rw [unhide HV, unhide HW], F, by rw [unhide HV]; exact oX, nd', rX, bX⟩
end Go.Proofs.YtkmmhlimihkgfaaGreat

/- The laws' own count of how great a row of operations is. -/
namespace Go.Proofs.YtkmmhlimihkgfaaGreat
open Go.RowKit
set_option linter.unusedVariables false
set_option maxRecDepth 100000

theorem ret_i64O {a b : Int} (h : a = b) : Ending.returned (.int .i64 a) = .returned (.int .i64 b) := by rw [h]

set_option maxHeartbeats 1600000 in
theorem szOps_any (w : World) (v : Value) (l : List OpV) (left : Int) (h : RdOps w v l) (h0 : 0 ≤ left) (h1 : left ≤ 1000000000) :
    Calls Tryz.prog 12 #[v, .int .i64 left] w fun e w' => e = .returned (.int .i64 (rest (szOs l) left)) ∧ Below w.heap.size w w' := by
  have hm := h.1
  unfold maxLen at hm
  by_cases h2 : (l.length : Int) ≤ left
  · have hd : ¬ left - (l.length : Int) < 0 := by omega
    obtain ⟨_, ⟨rfl, rfl⟩ | ⟨x, cap, rfl, hc, rfl⟩ | ⟨b, off, cap, rfl, g1, g2, g3, g4, g5⟩⟩ := h
    · go_enter Tryz.func12, Tryz.ntmps12
      go_wp2_with fail
      refine wp_loop_rounds 1 ?_
      rw [rounds_succ]
      go_wp2_with fail
      go_ret
      exact ⟨ret_i64O (by rw [rest_in (by simpa [szOs] using h0)]; simp [szOs]), Below.refl _ _⟩
    · go_enter Tryz.func12, Tryz.ntmps12
      go_wp2_with fail
      refine wp_loop_rounds 1 ?_
      rw [rounds_succ]
      go_wp2_with fail
      go_ret
      exact ⟨ret_i64O (by rw [rest_in (by simpa [szOs] using h0)]; simp [szOs]), Below.refl _ _⟩
    · have HE := hide (rest_rest (b := (l.map szO).sum) h2)
      go_enter Tryz.func12, Tryz.ntmps12
      go_wp2_with fail
      go_loopw [1, 5] (fun q i wr => ∃ k : Nat, k ≤ l.length ∧ i = .int .i64 k ∧ ((sumO l k : Nat) : Int) ≤ left - (l.length : Int) ∧ q = .int .i64 (left - (l.length : Int) - (sumO l k : Nat)) ∧ Below w.heap.size w wr) (fun _ i _ => l.length - (intOf i).toNat)
      case atStart => exact ⟨0, Nat.zero_le _, rfl, by simp [sumO]; omega, by simp [sumO], Below.refl _ _⟩
      case round =>
        obtain ⟨k, hk, rfl, hs, rfl, hB⟩ := hrel
        by_cases hlt : k < l.length
        · obtain ⟨a1, c1, a2, c2, a3, c3, e0, e1, e2, e3, e4, e5, e6, e7, e8, e9, e10, e11, hr⟩ := opc_at hB g4 (g5 k hlt)
          have hlt' : (k : Int) < (l.length : Int) := by omega
          have hst := sumO_step l k hlt
          have hle := sumO_le l (k + 1)
          rw [hst] at hle
          have HR := hide (szOp_any wr _ l[k] (left - (l.length : Int) - (sumO l k : Nat)) hr (by omega) (by omega))
          change Hid (Calls _ _ _ _ fun e w' => e = .returned (.int .i64 (left4 (szO l[k]) _)) ∧ _) at HR
          unfold opVal at HR
          generalize l[k] = o at *
          generalize o.key.length = nK at *
          generalize o.name.length = nN at *
          generalize o.text.length = nT at *
          generalize hq : sumO l k = q at *
          have HQ := hide hq
          have HST := hide hst
          clear g5 hq hst hr
          go_wp2_with fail
          refine (unhide HR).mono ?_
          rintro e w2 ⟨rfl, hB2⟩
          have hB3 := hB.trans (hB2.mono hB.size)
          clear e0 e1 e2 e3 e4 e5 e6 e7 e8 e9 e10 e11 HR
          generalize szO o = m at *
          by_cases h3 : (m : Int) ≤ left - (l.length : Int) - (q : Int)
          · rw [left4_in h3]
            have hd3 : ¬ left - (l.length : Int) - (q : Int) - (m : Int) < 0 := by omega
            go_wp2_with fail
            go_roundw
            case rel => exact ⟨k + 1, by omega, by go_num, by rw [unhide HST]; omega, by rw [unhide HST]; exact congrArg (Value.int .i64) (by omega), hB3⟩
            case measure => simp [intOf]; omega
          · rw [left4_out h3]
            have HF := hide (show rest (szOs l) left = -1 by unfold szOs; rw [unhide HE, rest_out (by omega)])
            go_wp2_with fail
            go_ret
            exact ⟨by rw [unhide HF]; rfl, hB3⟩
        · have e : k = l.length := by omega
          subst e
          rw [sumO_all] at hs ⊢
          have HF := hide (show rest (szOs l) left = left - (l.length : Int) - ((l.map szO).sum : Nat) by unfold szOs; rw [unhide HE, rest_in hs])
          go_wp2_with fail
          go_ret
          exact ⟨by rw [unhide HF]; rfl, hB⟩
  · have HF := hide (show rest (szOs l) left = -1 from rest_bad h2)
    obtain ⟨a, cap, rfl, _, _⟩ := Elems.shape h
    have hd : left - (l.length : Int) < 0 := by omega
    go_enter Tryz.func12, Tryz.ntmps12
    go_wp2_with fail
    go_ret
    exact ⟨by rw [unhide HF]; rfl, Below.refl _ _⟩
end Go.Proofs.YtkmmhlimihkgfaaGreat

/- The laws' own count of how great a row of ids is. -/
namespace Go.Proofs.YtkmmhlimihkgfaaGreat
open Go.RowKit
set_option linter.unusedVariables false
set_option maxRecDepth 100000

theorem szIds_any (w : World) (v : Value) (l : List (Int × Int)) (left : Int) (h : RdIds w v l) (h0 : 0 ≤ left) (h1 : left ≤ 1000000000) :
    Calls Tryz.prog 59 #[v, .int .i64 left] w fun e w' => e = .returned (.int .i64 (rest l.length left)) ∧ w' = w := by
  have hm := h.1
  unfold maxLen at hm
  obtain ⟨a, cap, rfl, _, _⟩ := Elems.shape h
  by_cases h2 : (l.length : Int) ≤ left
  · have hd : ¬ left - (l.length : Int) < 0 := by omega
    rw [rest_in h2]
    go_enter Tryz.func59, Tryz.ntmps59
    go_wp2_with fail
    go_ret
    exact ⟨rfl, rfl⟩
  · have hd : left - (l.length : Int) < 0 := by omega
    rw [rest_out h2]
    go_enter Tryz.func59, Tryz.ntmps59
    go_wp2_with fail
    go_ret
    exact ⟨rfl, rfl⟩
end Go.Proofs.YtkmmhlimihkgfaaGreat

/- laws.szReplica. -/
namespace Go.Proofs.YtkmmhlimihkgfaaGreat
open Go.RowKit
set_option linter.unusedVariables false
set_option maxRecDepth 100000

def szR {n : Nat} (r : RepV n) : Nat := szT (n + 1) r.first + szOs r.ops + r.und.length
set_option maxHeartbeats 6400000 in
theorem szRep_any (n : Nat) (w : World) (a b c d e vo vu : Value) (r : RepV n) (left : Int) (h : RdRep n w a b c d e vo vu r) (h0 : 0 ≤ left) (h1 : left ≤ 1000000000) :
    Calls Tryz.prog 22 #[repVal r a b c d e vo vu, .int .i64 left] w fun e w' => e = .returned (.int .i64 (rest (szR r) left)) ∧ Below w.heap.size w w' := by
  obtain ⟨z, ab, nb, cb, ac, nc, cc, ad, nd, cd, ae, ne, ce, rfl, rfl, rfl, rfl, rfl⟩ := rd5 h.1
  obtain ⟨ao, co, rfl, _, _⟩ := Elems.shape h.2.1
  obtain ⟨au, cu, rfl, _, _⟩ := Elems.shape h.2.2
  have H1 := hide (fun W (hW : Below w.heap.size w W) => szNode_any (n + 1) W _ _ _ _ _ r.first left (h.1.keep hW) h0 h1)
  have H2 := hide (fun W (hW : Below w.heap.size w W) left h0 h1 => szOps_any W _ r.ops left (h.2.1.keep hW) h0 h1)
  have H3 := hide (fun W (hW : Below w.heap.size w W) left h0 h1 => szIds_any W _ r.und left (h.2.2.keep hW) h0 h1)
  clear h
  unfold repVal
  have hszR : szR r = szT (n + 1) r.first + szOs r.ops + r.und.length := rfl
  have HR := hide hszR
  generalize hq : szR r = q at *
  clear hq hszR
  generalize szT (n + 1) r.first = m1 at *
  generalize hm2 : szOs r.ops = m2 at *
  clear hm2
  generalize r.ops.length = no at *
  generalize r.und.length = nu at *
  have hA := (Below.refl w.heap.size w).alloc (Nat.le_refl _) (.cells #[.int .i64 r.id, .int .i64 r.clock, .int .i64 z, .slice ab nb cb, .slice ac nc cc, .slice ad nd cd, .slice ae ne ce, .slice ao no co, .slice au nu cu, .bool r.lost] 56)
  have l1 := Loc.made w #[.int .i64 r.id, .int .i64 r.clock, .int .i64 z, .slice ab nb cb, .slice ac nc cc, .slice ad nd cd, .slice ae ne ce, .slice ao no co, .slice au nu cu, .bool r.lost] 56
  go_enter Tryz.func22, Tryz.ntmps22
  go_wp2_with fail
  generalize (w.alloc (.cells #[.int .i64 r.id, .int .i64 r.clock, .int .i64 z, .slice ab nb cb, .slice ac nc cc, .slice ad nd cd, .slice ae ne ce, .slice ao no co, .slice au nu cu, .bool r.lost] 56)) = wa at *
  refine (unhide H1 _ hA).mono ?_
  rintro e w1 ⟨rfl, hB⟩
  have hA1 := bstep hA hB
  replace l1 := l1.all hB
  clear hA hB H1
  obtain ⟨x0, x1, x2, x3, x4, x5, x6, x7, x8, x9⟩ := l1.ten
  by_cases q1 : (m1 : Int) ≤ left
  case neg =>
    have HF := hide (show rest q left = -1 from rest_out (by rw [unhide HR]; omega))
    rw [rest_out q1]
    go_wp2_with fail
    go_ret
    exact ⟨by rw [unhide HF]; rfl, hA1⟩
  rw [rest_in q1]
  have d1 : ¬ left - (m1 : Int) < 0 := by omega
  go_wp2_with fail
  clear x0 x1 x2 x3 x4 x5 x6 x7 x8 x9
  refine (unhide H2 _ hA1 _ (by omega) (by omega)).mono ?_
  rintro e w2 ⟨rfl, hB⟩
  have hA2 := bstep hA1 hB
  replace l1 := l1.all hB
  clear hA1 hB H2
  obtain ⟨x0, x1, x2, x3, x4, x5, x6, x7, x8, x9⟩ := l1.ten
  by_cases q2 : (m2 : Int) ≤ left - (m1 : Int)
  case neg =>
    have HF := hide (show rest q left = -1 from rest_out (by rw [unhide HR]; omega))
    rw [rest_out q2]
    go_wp2_with fail
    go_ret
    exact ⟨by rw [unhide HF]; rfl, hA2⟩
  rw [rest_in q2]
  have d2 : ¬ left - (m1 : Int) - (m2 : Int) < 0 := by omega
  go_wp2_with fail
  clear x0 x1 x2 x3 x4 x5 x6 x7 x8 x9
  refine (unhide H3 _ hA2 _ (by omega) (by omega)).mono ?_
  rintro e w2 ⟨rfl, rfl⟩
  by_cases q3 : (nu : Int) ≤ left - (m1 : Int) - (m2 : Int)
  case neg =>
    have HF := hide (show rest q left = -1 from rest_out (by rw [unhide HR]; omega))
    rw [rest_out q3]
    go_wp2_with fail
    go_ret
    exact ⟨by rw [unhide HF]; rfl, hA2⟩
  rw [rest_in q3]
  have d3 : ¬ left - (m1 : Int) - (m2 : Int) - (nu : Int) < 0 := by omega
  have HF := hide (show rest q left = left - (m1 : Int) - (m2 : Int) - (nu : Int) by rw [rest_in (by rw [unhide HR]; omega), unhide HR]; omega)
  go_wp2_with fail
  go_ret
  exact ⟨by rw [unhide HF]; rfl, hA2⟩
end Go.Proofs.YtkmmhlimihkgfaaGreat

/- The laws' own copy of a tree, whole: by induction on its depth. -/
namespace Go.Proofs.YtkmmhlimihkgfaaGreat
open Go.RowKit
set_option linter.unusedVariables false

/-- What toNode does to a node of depth below n. -/
def ToNodeSaid (n : Nat) : Prop := ∀ (w : World) (a b c d e : Value) (t : Tr n), RdNode n w [a, b, c, d, e] t → szT n t ≤ 2097152 →
    Calls Tryz.prog 63 #[.agg #[a, b, c, d, e]] w fun e w' => ∃ (kd : Int) (a1 : Option Addr) (n1 c1 : Nat) (a2 : Option Addr) (n2 c2 : Nat) (a3 : Option Addr) (n3 c3 : Nat) (a4 : Option Addr) (n4 c4 : Nat),
      e = .returned (.agg #[.int .i64 kd, .slice a1 n1 c1, .slice a2 n2 c2, .slice a3 n3 c3, .slice a4 n4 c4]) ∧ ∃ F, OwNode n w' [.int .i64 kd, .slice a1 n1 c1, .slice a2 n2 c2, .slice a3 n3 c3, .slice a4 n4 c4] t F ∧ F.Nodup ∧ Rng F w.heap.size w'.heap.size ∧ Below w.heap.size w w'

set_option maxHeartbeats 3200000 in
theorem toNodeS_any (n : Nat) (H : ToNodeSaid n) (w : World) (v : Value) (l : List (Tr n)) (h : RdKids n w v l) (hs : szK n l ≤ 2097152) :
    Calls Tryz.prog 101 #[v] w fun e w' => ∃ a c, e = .returned (.slice a l.length c) ∧ ∃ F, OwKids n w' (.slice a l.length c) l F ∧ F.Nodup ∧ Rng F w.heap.size w'.heap.size ∧ Below w.heap.size w w' := by
  obtain ⟨i0, hi, hz0, hz1, hz2⟩ := info_parts Tryz.info61
  have hm := h.1
  have hlen : l.length ≤ 2097152 := by unfold szK at hs; omega
  by_cases h0 : l = []
  · obtain ⟨a, cap, rfl, _⟩ := Elems.shape h
    subst h0
    go_enter Tryz.func101, Tryz.ntmps101
    go_wp2_with (at_make; refine wpList_make_full _ rfl _ _ 59 rfl w.heap.size 61 i0 _ 5 Tryz.underlying59 hi hz0 hz1 .i64 .i64 _ _ 0 rfl rfl rfl rfl ?c1 ?c2 ?c3 ?_)
    case c1 => rw [hz2]; omega
    case c2 => exact Nat.zero_le _
    case c3 => exact Nat.le_refl _
    intro w1 hown hgrow
    have hB1 := Below.ofGrown hgrow
    have hH := (Half.start (α := Tr n) (l := []) (R := OwNode n w1) (w.heap.size + 1) (ownsRow_base hown 0 (Nat.zero_le _))).whole rfl (by omega)
    have HH := hide hH
    clear hown hgrow hH
    go_wp2_with fail
    refine wp_loop_rounds 1 ?_
    rw [rounds_succ]
    go_wp2_with fail
    go_ret
    obtain ⟨F, hF, hnd, hr⟩ := unhide HH
    exact ⟨_, _, rfl, F, hF, hnd, hr, hB1⟩
  obtain ⟨_, ⟨_, e⟩ | ⟨_, _, _, _, e⟩ | ⟨b, off, cap, rfl, g1, g2, g3, g4, g5⟩⟩ := h
  · exact absurd e h0
  · exact absurd e h0
  go_enter Tryz.func101, Tryz.ntmps101
  go_wp2_with (at_make; refine wpList_make_full _ rfl _ _ 59 rfl w.heap.size 61 i0 _ 5 Tryz.underlying59 hi hz0 hz1 .i64 .i64 _ _ l.length rfl rfl rfl rfl ?c1 ?c2 ?c3 ?_)
  case c1 => rw [hz2]; omega
  case c2 => exact hm
  case c3 => exact Nat.le_refl _
  intro w1 hown hgrow
  have hB1 := Below.ofGrown hgrow
  have hH := Half.start (α := Tr n) (l := l) (R := OwNode n w1) (w.heap.size + 1) (ownsRow_base hown 0 (Nat.zero_le _))
  have hlt1 := (hown.lt w.heap.size rfl).2
  clear hown hgrow
  go_wp2_with fail
  go_loopw [4] (fun i wr => ∃ k : Nat, k ≤ l.length ∧ i = .int .i64 k ∧ Half wr 61 5 w.heap.size l.length l (OwNode n wr) (w.heap.size + 1) k ∧ Below w.heap.size w wr ∧ w.heap.size + 1 ≤ wr.heap.size) (fun i _ => l.length - (intOf i).toNat)
  case atStart => exact ⟨0, Nat.zero_le _, rfl, hH, hB1, by omega⟩
  case round =>
    obtain ⟨k, hk, rfl, hr, hB, hsz⟩ := hrel
    clear hH hB1 hlt1
    by_cases hlt : k < l.length
    · obtain ⟨c0, c1, c2, c3, c4, e0, e1, e2, e3, e4, hc⟩ := five_of (g5 k hlt)
      replace e0 := (hB.cell (p := ⟨b, off + k * 5, none⟩) g4).trans e0
      replace e1 := (hB.cell (p := ⟨b, off + k * 5 + 1, none⟩) g4).trans e1
      replace e2 := (hB.cell (p := ⟨b, off + k * 5 + 2, none⟩) g4).trans e2
      replace e3 := (hB.cell (p := ⟨b, off + k * 5 + 3, none⟩) g4).trans e3
      replace e4 := (hB.cell (p := ⟨b, off + k * 5 + 4, none⟩) g4).trans e4
      have hlt' : (k : Int) < (l.length : Int) := by omega
      clear g5
      go_wp2_with fail
      refine (H wr _ _ _ _ _ l[k] (hc.keep hB) (by have := szK_one hlt; omega)).mono ?_
      rintro e w2 ⟨kd, a1, n1, k1, a2, n2, k2, a3, n3, k3, a4, n4, k4, rfl, G, hO, hnd, hrg, hB2⟩
      have hrow : ∃ xs : List Value, w2.ownsRow 0 61 5 (.slice (some ⟨w.heap.size, 0, none⟩) l.length l.length) l.length xs := by
        obtain ⟨_, _, xs, _, _, _, h4, _⟩ := hr.laid
        exact ⟨xs, ownsRow_frm h4 (Frm.ofBelow hB2 []) (fun _ _ => by simp)⟩
      obtain ⟨xs, hx⟩ := hrow
      have hxl := hx.1
      have hcell : ∀ j, j < 5 → ∃ y, w2.cell? ⟨w.heap.size, k * 5 + j, none⟩ = some y := fun j hj => ⟨xs[k * 5 + j]'(by omega), by rw [hx.cellAt (k * 5 + j) (by omega), List.getElem?_eq_getElem (by omega)]⟩
      obtain ⟨y0, q0⟩ := hcell 0 (by omega)
      obtain ⟨y1, q1⟩ := hcell 1 (by omega)
      obtain ⟨y2, q2⟩ := hcell 2 (by omega)
      obtain ⟨y3, q3⟩ := hcell 3 (by omega)
      obtain ⟨y4, q4⟩ := hcell 4 (by omega)
      rw [Nat.add_zero] at q0
      have f0 := hx.frozenAt (k * 5)
      have f1 := hx.frozenAt (k * 5 + 1)
      have f2 := hx.frozenAt (k * 5 + 2)
      have f3 := hx.frozenAt (k * 5 + 3)
      have f4 := hx.frozenAt (k * 5 + 4)
      obtain ⟨W, hW⟩ : ∃ W, W = ((((w2.setCell ⟨w.heap.size, k * 5, none⟩ (.int .i64 kd)).setCell ⟨w.heap.size, k * 5 + 1, none⟩ (.slice a1 n1 k1)).setCell ⟨w.heap.size, k * 5 + 2, none⟩ (.slice a2 n2 k2)).setCell ⟨w.heap.size, k * 5 + 3, none⟩ (.slice a3 n3 k3)).setCell ⟨w.heap.size, k * 5 + 4, none⟩ (.slice a4 n4 k4) := ⟨_, rfl⟩
      have hf : Frm w2 W [w.heap.size] := by rw [hW]; exact ((((set_frm w2 _ _ _).trans (set_frm _ _ _ _)).trans (set_frm _ _ _ _)).trans (set_frm _ _ _ _)).trans (set_frm _ _ _ _)
      have hstep : Half W 61 5 w.heap.size l.length l (OwNode n W) (w.heap.size + 1) (k + 1) := by
        refine hr.step hlt (by omega) hsz hB2 [.int .i64 kd, .slice a1 n1 k1, .slice a2 n2 k2, .slice a3 n3 k3, .slice a4 n4 k4] G rfl ?_ hnd hrg ?_ hf ?_
        · exact hO.frm hf (fun g hg => by have := hrg g hg; simp; omega)
        · intro C x G' hx' hne
          exact OwNode.frm hx' ((Frm.ofBelow hB2 [w.heap.size]).trans hf) (fun g hg => by have := hne g hg; simp; omega)
        · intro zs hz
          have hzl := hz.1
          have t1 := (hz.stored (k * 5) (.int .i64 kd)).1
          have t2 := (t1.stored (k * 5 + 1) (.slice a1 n1 k1)).1
          have t3 := (t2.stored (k * 5 + 2) (.slice a2 n2 k2)).1
          have t4 := (t3.stored (k * 5 + 3) (.slice a3 n3 k3)).1
          have t5 := (t4.stored (k * 5 + 4) (.slice a4 n4 k4)).1
          rw [hW]
          exact ⟨_, t5, take_five zs (k * 5) _ _ _ _ _ (by omega)⟩
      have HB0 := hB.trans ((hB2.mono hB.size).trans (hf.below (by have := hB2.size; have := hB.size; omega) (fun g hg => by simp at hg; omega)))
      have hs2 : w.heap.size + 1 ≤ W.heap.size := by have := hf.size; have := hB2.size; omega
      subst hW
      have HS := hide hstep
      have HB := hide HB0
      have HS2 := hide hs2
      clear hstep hf hx hO hr hB2 hB HB0 hs2 e0 e1 e2 e3 e4 hc hrg hnd hcell
      go_wp2_with fail
      go_roundw
      case rel => exact ⟨k + 1, by omega, by go_num, unhide HS, unhide HB, unhide HS2⟩
      case measure => simp [intOf]; omega
    · have e : k = l.length := by omega
      subst e
      have HW := hide (hr.whole rfl (by omega))
      clear hr g5
      go_wp2_with fail
      go_ret
      obtain ⟨F, hF, hnd, hrg⟩ := unhide HW
      exact ⟨_, _, rfl, F, hF, hnd, hrg, hB⟩
end Go.Proofs.YtkmmhlimihkgfaaGreat

/- The laws' own copy of a tree, whole: the node itself. -/
namespace Go.Proofs.YtkmmhlimihkgfaaGreat
open Go.RowKit
set_option linter.unusedVariables false

/-- Three new blocks. -/
theorem three (w : World) (A Z Y : Array Value) (TA T : TypeId) : Loc (((w.alloc (.cells A TA)).alloc (.cells Z T)).alloc (.cells Y T)) w.heap.size A TA ∧ Loc (((w.alloc (.cells A TA)).alloc (.cells Z T)).alloc (.cells Y T)) (w.heap.size + 1) Z T ∧
    Loc (((w.alloc (.cells A TA)).alloc (.cells Z T)).alloc (.cells Y T)) (w.heap.size + 1 + 1) Y T ∧ Below w.heap.size w (((w.alloc (.cells A TA)).alloc (.cells Z T)).alloc (.cells Y T)) ∧ (((w.alloc (.cells A TA)).alloc (.cells Z T)).alloc (.cells Y T)).heap.size = w.heap.size + 3 := by
  have l0 := ((Loc.made w A TA).alloc (.cells Z T)).alloc (.cells Y T)
  have l1 := (Loc.made (w.alloc (.cells A TA)) Z T).alloc (.cells Y T)
  have l2 := Loc.made ((w.alloc (.cells A TA)).alloc (.cells Z T)) Y T
  simp only [World.size_alloc] at l1 l2
  exact ⟨l0, l1, l2, (((Below.refl _ _).alloc (Nat.le_refl _) _).alloc (by simp) _).alloc (by simp; omega) _, by simp⟩

/-- A field of a local struct is stored. -/
theorem Loc3.store {w : World} {S : Nat} {A Z Y : Array Value} {TA T : TypeId} (h0 : Loc w S A TA) (h1 : Loc w (S + 1) Z T) (h2 : Loc w (S + 1 + 1) Y T) (j : Nat) (v : Value) :
    Loc (w.setCell ⟨S + 1 + 1, j, none⟩ v) S A TA ∧ Loc (w.setCell ⟨S + 1 + 1, j, none⟩ v) (S + 1) Z T ∧ Loc (w.setCell ⟨S + 1 + 1, j, none⟩ v) (S + 1 + 1) (Y.setIfInBounds j v) T :=
  ⟨h0.other _ _ _ (by omega), h1.other _ _ _ (by omega), h2.set j v⟩

set_option maxHeartbeats 3200000 in
theorem toNode_succ (n : Nat) (H : ToNodeSaid n) : ToNodeSaid (n + 1) := by
  intro w a b c d e t hr hs
  obtain ⟨_, _, _, _, e0, k1, k2, hb, hc, hd, he⟩ := hr
  simp only [List.cons.injEq, and_true] at e0
  obtain ⟨rfl, rfl, rfl, rfl, rfl⟩ := e0
  obtain ⟨ab, cb, rfl, _, _⟩ := hb.shape
  obtain ⟨ac, cc, rfl, _, _⟩ := hc.shape
  obtain ⟨ad, cd, rfl, _, _⟩ := Elems.shape hd
  obtain ⟨ae, ce, rfl, _, _⟩ := Elems.shape he
  have hz : t.name.length + t.text.length + szA t.attrs + szK n t.kids ≤ 2097152 := hs
  clear hs
  go_enter Tryz.func63, Tryz.ntmps63
  go_wp2_with fail
  obtain ⟨l0, l1, l2, hA, hWs⟩ := three w #[.int .i64 t.kind, .slice ab t.name.length cb, .slice ac t.text.length cc, .slice ad t.attrs.length cd, .slice ae t.kids.length ce] #[.int .i64 0, .slice none 0 0, .slice none 0 0, .slice none 0 0, .slice none 0 0] #[.int .i64 t.kind, .slice none 0 0, .slice none 0 0, .slice none 0 0, .slice none 0 0] 53 61
  generalize hW : (((w.alloc (.cells #[.int .i64 t.kind, .slice ab t.name.length cb, .slice ac t.text.length cc, .slice ad t.attrs.length cd, .slice ae t.kids.length ce] 53)).alloc (.cells #[.int .i64 0, .slice none 0 0, .slice none 0 0, .slice none 0 0, .slice none 0 0] 61)).alloc (.cells #[.int .i64 t.kind, .slice none 0 0, .slice none 0 0, .slice none 0 0, .slice none 0 0] 61)) = W at *
  have HWs := hide hWs
  clear hW hWs
  -- the name
  refine (toB_any W _ t.name (hb.keep hA) (by omega)).mono ?_
  rintro e w1 ⟨v1, rfl, ho1, _, hB1⟩
  obtain ⟨a1, c1, hv1, _, _⟩ := ho1.byt.shape
  subst hv1
  have r1 := ho1.rng
  have hA1 := bstep hA hB1
  replace l0 := l0.all hB1
  replace l1 := l1.all hB1
  replace l2 := l2.all hB1
  have p := l0.cell 2
  have q := l2.cell 1
  have f := l2.frozen 1
  simp at p q
  have s1 := hB1.size
  have M := hide (And.intro (Loc3.store l0 l1 l2 1 (.slice a1 t.name.length c1)) (And.intro (ho1.frm (set_frm w1 (w.heap.size + 1 + 1) 1 (.slice a1 t.name.length c1)) (fun g hg => by have := r1 g hg; have := unhide HWs; simp; omega)) (hA1.setCell (p := ⟨w.heap.size + 1 + 1, 1, none⟩) (by simp; omega) (.slice a1 t.name.length c1))))
  clear l0 l1 l2 ho1 hA hA1 hB1
  go_wp2_with fail
  -- the text
  obtain ⟨⟨l0, l1, l2⟩, ho1, hA1⟩ := unhide M
  clear M
  refine (toB_any _ _ t.text (hc.keep hA1) (by omega)).mono ?_
  rintro e w2 ⟨v2, rfl, ho2, _, hB2⟩
  obtain ⟨a2, c2, hv2, _, _⟩ := ho2.byt.shape
  subst hv2
  have r2 := ho2.rng
  have hA2 := bstep hA1 hB2
  replace l0 := l0.all hB2
  replace l1 := l1.all hB2
  replace l2 := l2.all hB2
  replace ho1 := ho1.keep hB2
  have s2 := hB2.size
  simp only [World.size_setCell] at s2 r2 ho2
  replace p := l0.cell 3
  replace q := l2.cell 2
  replace f := l2.frozen 2
  simp at p q
  have M := hide (And.intro (Loc3.store l0 l1 l2 2 (.slice a2 t.text.length c2)) (And.intro (And.intro (ho1.frm (set_frm w2 (w.heap.size + 1 + 1) 2 (.slice a2 t.text.length c2)) (fun g hg => by have := r1 g hg; have := unhide HWs; simp; omega)) (ho2.frm (set_frm w2 (w.heap.size + 1 + 1) 2 (.slice a2 t.text.length c2)) (fun g hg => by have := r2 g hg; have := unhide HWs; simp; omega))) (hA2.setCell (p := ⟨w.heap.size + 1 + 1, 2, none⟩) (by simp; omega) (.slice a2 t.text.length c2))))
  clear l0 l1 l2 ho1 ho2 hA1 hA2 hB2
  go_wp2_with fail
  -- the attributes
  obtain ⟨⟨l0, l1, l2⟩, ⟨ho1, ho2⟩, hA2⟩ := unhide M
  clear M
  refine (toAttrS_any _ _ t.attrs (hd.keep hA2) (by omega)).mono ?_
  rintro e w3 ⟨a3, c3, rfl, F3, ho3, nd3, r3, hB3⟩
  have hA3 := bstep hA2 hB3
  replace l0 := l0.all hB3
  replace l1 := l1.all hB3
  replace l2 := l2.all hB3
  replace ho1 := ho1.keep hB3
  replace ho2 := ho2.keep hB3
  have s3 := hB3.size
  simp only [World.size_setCell] at s3 r3
  replace p := l0.cell 4
  replace q := l2.cell 3
  replace f := l2.frozen 3
  simp at p q
  have M := hide (And.intro (Loc3.store l0 l1 l2 3 (.slice a3 t.attrs.length c3)) (And.intro (And.intro (ho1.frm (set_frm w3 (w.heap.size + 1 + 1) 3 (.slice a3 t.attrs.length c3)) (fun g hg => by have := r1 g hg; have := unhide HWs; simp; omega)) (And.intro (ho2.frm (set_frm w3 (w.heap.size + 1 + 1) 3 (.slice a3 t.attrs.length c3)) (fun g hg => by have := r2 g hg; have := unhide HWs; simp; omega)) (ho3.frm (set_frm w3 (w.heap.size + 1 + 1) 3 (.slice a3 t.attrs.length c3)) (fun g hg => by have := r3 g hg; have := unhide HWs; simp; omega)))) (hA3.setCell (p := ⟨w.heap.size + 1 + 1, 3, none⟩) (by simp; omega) (.slice a3 t.attrs.length c3))))
  clear l0 l1 l2 ho1 ho2 ho3 hA2 hA3 hB3
  go_wp2_with fail
  -- the kids
  obtain ⟨⟨l0, l1, l2⟩, ⟨ho1, ho2, ho3⟩, hA3⟩ := unhide M
  clear M
  refine (toNodeS_any n H _ _ t.kids (RdKids.keep he hA3) (by omega)).mono ?_
  rintro e w4 ⟨a4, c4, rfl, F4, ho4, nd4, r4, hB4⟩
  have hA4 := bstep hA3 hB4
  replace l0 := l0.all hB4
  replace l1 := l1.all hB4
  replace l2 := l2.all hB4
  replace ho1 := ho1.keep hB4
  replace ho2 := ho2.keep hB4
  replace ho3 := ho3.frm (Frm.ofBelow hB4 []) (fun _ _ => by simp)
  have s4 := hB4.size
  simp only [World.size_setCell] at s4 r4
  have g0 := l1.cell 0
  have g1 := l1.cell 1
  have g2 := l1.cell 2
  have g3 := l1.cell 3
  have g4 := l1.cell 4
  have b0 := l1.frozen 0
  have b1 := l1.frozen 1
  have b2 := l1.frozen 2
  have b3 := l1.frozen 3
  have b4 := l1.frozen 4
  have d0 := l2.cell 0
  have d1 := l2.cell 1
  have d2 := l2.cell 2
  have d3 := l2.cell 3
  have d4 := l2.cell 4
  have i4 := l2.frozen 4
  simp at g0 g1 g2 g3 g4 d0 d1 d2 d3 d4
  have hsz := unhide HWs
  obtain ⟨X, hX⟩ : ∃ X, X = (((((w4.setCell ⟨w.heap.size + 1 + 1, 4, none⟩ (.slice a4 t.kids.length c4)).setCell ⟨w.heap.size + 1, 0, none⟩ (.int .i64 t.kind)).setCell ⟨w.heap.size + 1, 1, none⟩ (.slice a1 t.name.length c1)).setCell ⟨w.heap.size + 1, 2, none⟩ (.slice a2 t.text.length c2)).setCell ⟨w.heap.size + 1, 3, none⟩ (.slice a3 t.attrs.length c3)).setCell ⟨w.heap.size + 1, 4, none⟩ (.slice a4 t.kids.length c4) := ⟨_, rfl⟩
  have hf : Frm w4 X [w.heap.size + 1 + 1, w.heap.size + 1] := by
    rw [hX]
    exact ((((((set_frm w4 _ _ _).mono (by simp)).trans ((set_frm _ _ _ _).mono (by simp))).trans ((set_frm _ _ _ _).mono (by simp))).trans ((set_frm _ _ _ _).mono (by simp))).trans ((set_frm _ _ _ _).mono (by simp))).trans ((set_frm _ _ _ _).mono (by simp))
  have fin : OwNode (n + 1) X [.int .i64 t.kind, .slice a1 t.name.length c1, .slice a2 t.text.length c2, .slice a3 t.attrs.length c3, .slice a4 t.kids.length c4] t (FB (.slice a1 t.name.length c1) ++ FB (.slice a2 t.text.length c2) ++ F3 ++ F4) :=
    ⟨_, _, _, _, F3, F4, rfl, k1, k2, (ho1.frm hf (fun g hg => by have := r1 g hg; simp; omega)).mono (Nat.zero_le _), (ho2.frm hf (fun g hg => by have := r2 g hg; simp; omega)).mono (Nat.zero_le _),
      ho3.frm hf (fun g hg => by have := r3 g hg; simp; omega), OwKids.frm ho4 hf (fun g hg => by have := r4 g hg; simp; omega), rfl⟩
  have nd : (FB (.slice a1 t.name.length c1) ++ FB (.slice a2 t.text.length c2) ++ F3 ++ F4).Nodup :=
    nodup_app (nodup_app (nodup_app (FB_nodup _) (FB_nodup _) r1 r2) nd3 ((r1.mono (Nat.le_refl _) (by omega)).app (r2.mono (by omega) (Nat.le_refl _))) r3) nd4 (((r1.mono (Nat.le_refl _) (by omega)).app (r2.mono (by omega) (by omega))).app (r3.mono (by omega) (Nat.le_refl _))) r4
  have rg : Rng (FB (.slice a1 t.name.length c1) ++ FB (.slice a2 t.text.length c2) ++ F3 ++ F4) w.heap.size X.heap.size := by
    have := hf.size
    exact (((r1.mono (by omega) (by omega)).app (r2.mono (by omega) (by omega))).app (r3.mono (by omega) (by omega))).app (r4.mono (by omega) (by omega))
  have bel := hA4.trans (hf.below hA4.size (fun g hg => by simp at hg; omega))
  subst hX
  have HP := hide (And.intro fin (And.intro nd (And.intro rg bel)))
  clear fin nd rg bel hf l0 l1 l2 ho1 ho2 ho3 ho4 hA3 hA4 hB4 r1 r2 r3 r4 nd3 nd4 hsz
  go_wp2_with fail
  obtain ⟨fin, nd, rg, bel⟩ := unhide HP
  exact bodyPost_ret (v := .agg #[.int .i64 t.kind, .slice a1 t.name.length c1, .slice a2 t.text.length c2, .slice a3 t.attrs.length c3, .slice a4 t.kids.length c4]) (by simp [results, Tryz.results63, go_sem, g0, g1, g2, g3, g4]) rfl ⟨t.kind, a1, _, c1, a2, _, c2, a3, _, c3, a4, _, c4, rfl, _, fin, nd, rg, bel⟩

theorem toNode_any (n : Nat) : ToNodeSaid n := by
  induction n with
  | zero => exact fun _ _ _ _ _ _ t => t.elim
  | succ n ih => exact toNode_succ n ih

end Go.Proofs.YtkmmhlimihkgfaaGreat

/- The laws' own copy of a row of operations. -/
namespace Go.Proofs.YtkmmhlimihkgfaaGreat
open Go.RowKit
set_option linter.unusedVariables false
set_option maxRecDepth 100000

set_option maxHeartbeats 12800000 in
theorem toOps_any (w : World) (v : Value) (l : List OpV) (h : RdOps w v l) (hs : szOs l ≤ 2097152) :
    Calls Tryz.prog 15 #[v] w fun e w' => ∃ a c, e = .returned (.slice a l.length c) ∧ ∃ F, OwOps w' (.slice a l.length c) l F ∧ F.Nodup ∧ Rng F w.heap.size w'.heap.size ∧ Below w.heap.size w w' := by
  obtain ⟨i0, hi, hz0, hz1, hz2⟩ := info_parts Tryz.info28
  have hm := h.1
  have hlen : l.length ≤ 2097152 := by unfold szOs at hs; omega
  by_cases h0 : l = []
  · obtain ⟨a, cap, rfl, _⟩ := Elems.shape h
    subst h0
    go_enter Tryz.func15, Tryz.ntmps15
    go_wp2_with (at_make; refine wpList_make_full _ rfl _ _ 23 rfl w.heap.size 28 i0 _ 12 Tryz.underlying23 hi hz0 hz1 .i64 .i64 _ _ 0 rfl rfl rfl rfl ?c1 ?c2 ?c3 ?_)
    case c1 => rw [hz2]; omega
    case c2 => exact Nat.zero_le _
    case c3 => exact Nat.le_refl _
    intro w1 hown hgrow
    have hB1 := Below.ofGrown hgrow
    have hH := (Half.start (α := OpV) (l := []) (R := OwOpC w1) (w.heap.size + 1) (ownsRow_base hown 0 (Nat.zero_le _))).whole rfl (by omega)
    have HH := hide hH
    clear hown hgrow hH
    go_wp2_with fail
    refine wp_loop_rounds 1 ?_
    rw [rounds_succ]
    go_wp2_with fail
    go_ret
    obtain ⟨F, hF, hnd, hr⟩ := unhide HH
    exact ⟨_, _, rfl, F, hF, hnd, hr, hB1⟩
  obtain ⟨_, ⟨_, e⟩ | ⟨_, _, _, _, e⟩ | ⟨b, off, cap, rfl, g1, g2, g3, g4, g5⟩⟩ := h
  · exact absurd e h0
  · exact absurd e h0
  have hone : ∀ i (hi : i < l.length), szO l[i] ≤ 2097152 := fun i hi => by have := szO_le l i hi; unfold szOs at hs; omega
  go_enter Tryz.func15, Tryz.ntmps15
  go_wp2_with (at_make; refine wpList_make_full _ rfl _ _ 23 rfl w.heap.size 28 i0 _ 12 Tryz.underlying23 hi hz0 hz1 .i64 .i64 _ _ l.length rfl rfl rfl rfl ?c1 ?c2 ?c3 ?_)
  case c1 => rw [hz2]; omega
  case c2 => exact hm
  case c3 => exact Nat.le_refl _
  intro w1 hown hgrow
  have hB1 := Below.ofGrown hgrow
  have hH := Half.start (α := OpV) (l := l) (R := OwOpC w1) (w.heap.size + 1) (ownsRow_base hown 0 (Nat.zero_le _))
  have hlt1 := (hown.lt w.heap.size rfl).2
  clear hown hgrow
  go_wp2_with fail
  go_loopw [4] (fun i wr => ∃ k : Nat, k ≤ l.length ∧ i = .int .i64 k ∧ Half wr 28 12 w.heap.size l.length l (OwOpC wr) (w.heap.size + 1) k ∧ Below w.heap.size w wr ∧ w.heap.size + 1 ≤ wr.heap.size) (fun i _ => l.length - (intOf i).toNat)
  case atStart => exact ⟨0, Nat.zero_le _, rfl, hH, hB1, by omega⟩
  case round =>
    obtain ⟨k, hk, rfl, hr, hB, hsz⟩ := hrel
    clear hH hB1 hlt1
    by_cases hlt : k < l.length
    · obtain ⟨p1, u1, p2, u2, p3, u3, e0, e1, e2, e3, e4, e5, e6, e7, e8, e9, e10, e11, hro⟩ := opc_at hB g4 (g5 k hlt)
      have hlt' : (k : Int) < (l.length : Int) := by omega
      have HT := hide (toOp_own wr _ l[k] hro (by have := hone k hlt; unfold szO at this; exact this))
      have HR0 := hide hr
      have HRW := hide (fun (w2 : World) (hB2 : Below wr.heap.size wr w2) => (show ∃ xs : List Value, w2.ownsRow 0 28 12 (.slice (some ⟨w.heap.size, 0, none⟩) l.length l.length) l.length xs by
        obtain ⟨_, _, xs, _, _, _, h4, _⟩ := hr.laid
        exact ⟨xs, ownsRow_frm h4 (Frm.ofBelow hB2 []) (fun _ _ => by simp)⟩))
      unfold opVal at HT
      generalize hoo : l[k] = o at *
      have HOO := hide hoo.symm
      clear g5 hoo hr hro hone
      go_wp2_with fail
      clear e0 e1 e2 e3 e4 e5 e6 e7 e8 e9 e10 e11
      refine (unhide HT).mono ?_
      rintro e w2 ⟨a1, c1, a2, c2, a3, c3, rfl, hO, hB2⟩
      obtain ⟨hO1, hO2, hO3, hO4⟩ := hO
      have rK : ∀ g ∈ FB (.slice a1 o.key.length c1), wr.heap.size ≤ g ∧ g < w2.heap.size := fun g hg => hO1.lt g (by simpa [FB] using hg)
      have rN := hO2.rng
      have rT := hO3.rng
      have o1 := hO1.mono (base' := 0) (Nat.zero_le _)
      have o2 := hO2.mono (base' := 0) (Nat.zero_le _)
      have o3 := hO3.mono (base' := 0) (Nat.zero_le _)
      clear hO1 hO2 hO3
      generalize hnK : o.key.length = nK at *
      generalize hnN : o.name.length = nN at *
      generalize hnT : o.text.length = nT at *
      clear hnK hnN hnT
      obtain ⟨xs, hx⟩ := unhide HRW w2 hB2
      have hxl := hx.1
      have hcell : ∀ j, j < 12 → ∃ y, w2.cell? ⟨w.heap.size, k * 12 + j, none⟩ = some y := fun j hj => ⟨xs[k * 12 + j]'(by omega), by rw [hx.cellAt (k * 12 + j) (by omega), List.getElem?_eq_getElem (by omega)]⟩
      obtain ⟨y0, q0⟩ := hcell 0 (by omega)
      obtain ⟨y1, q1⟩ := hcell 1 (by omega)
      obtain ⟨y2, q2⟩ := hcell 2 (by omega)
      obtain ⟨y3, q3⟩ := hcell 3 (by omega)
      obtain ⟨y4, q4⟩ := hcell 4 (by omega)
      obtain ⟨y5, q5⟩ := hcell 5 (by omega)
      obtain ⟨y6, q6⟩ := hcell 6 (by omega)
      obtain ⟨y7, q7⟩ := hcell 7 (by omega)
      obtain ⟨y8, q8⟩ := hcell 8 (by omega)
      obtain ⟨y9, q9⟩ := hcell 9 (by omega)
      obtain ⟨y10, q10⟩ := hcell 10 (by omega)
      obtain ⟨y11, q11⟩ := hcell 11 (by omega)
      rw [Nat.add_zero] at q0
      have f0 := hx.frozenAt (k * 12)
      have f1 := hx.frozenAt (k * 12 + 1)
      have f2 := hx.frozenAt (k * 12 + 2)
      have f3 := hx.frozenAt (k * 12 + 3)
      have f4 := hx.frozenAt (k * 12 + 4)
      have f5 := hx.frozenAt (k * 12 + 5)
      have f6 := hx.frozenAt (k * 12 + 6)
      have f7 := hx.frozenAt (k * 12 + 7)
      have f8 := hx.frozenAt (k * 12 + 8)
      have f9 := hx.frozenAt (k * 12 + 9)
      have f10 := hx.frozenAt (k * 12 + 10)
      have f11 := hx.frozenAt (k * 12 + 11)
      obtain ⟨W, hW⟩ : ∃ W, W = ((((((((((((w2.setCell ⟨w.heap.size, k * 12, none⟩ (.int .i64 o.kind)).setCell ⟨w.heap.size, k * 12 + 1, none⟩ (.int .i64 o.atN)).setCell ⟨w.heap.size, k * 12 + 2, none⟩ (.int .i64 o.atR)).setCell ⟨w.heap.size, k * 12 + 3, none⟩ (.int .i64 o.nodeN)).setCell ⟨w.heap.size, k * 12 + 4, none⟩ (.int .i64 o.nodeR)).setCell ⟨w.heap.size, k * 12 + 5, none⟩ (.int .i64 o.parN)).setCell ⟨w.heap.size, k * 12 + 6, none⟩ (.int .i64 o.parR)).setCell ⟨w.heap.size, k * 12 + 7, none⟩ (.slice a1 nK c1)).setCell ⟨w.heap.size, k * 12 + 8, none⟩ (.int .i64 o.elem)).setCell ⟨w.heap.size, k * 12 + 9, none⟩ (.slice a2 nN c2)).setCell ⟨w.heap.size, k * 12 + 10, none⟩ (.slice a3 nT c3)).setCell ⟨w.heap.size, k * 12 + 11, none⟩ (.bool o.gone)) := ⟨_, rfl⟩
      have hf : Frm w2 W [w.heap.size] := by rw [hW]; exact ((((((((((((set_frm w2 _ _ _).trans (set_frm _ _ _ _)).trans (set_frm _ _ _ _)).trans (set_frm _ _ _ _)).trans (set_frm _ _ _ _)).trans (set_frm _ _ _ _)).trans (set_frm _ _ _ _)).trans (set_frm _ _ _ _)).trans (set_frm _ _ _ _)).trans (set_frm _ _ _ _)).trans (set_frm _ _ _ _)).trans (set_frm _ _ _ _))
      have hrg : Rng (FB (.slice a1 nK c1) ++ FB (.slice a2 nN c2) ++ FB (.slice a3 nT c3)) wr.heap.size w2.heap.size := (Rng.app (Rng.app rK rN) rT)
      have hstep : Half W 28 12 w.heap.size l.length l (OwOpC W) (w.heap.size + 1) (k + 1) := by
        refine (unhide HR0).step hlt (by omega) hsz hB2 [.int .i64 o.kind, .int .i64 o.atN, .int .i64 o.atR, .int .i64 o.nodeN, .int .i64 o.nodeR, .int .i64 o.parN, .int .i64 o.parR, .slice a1 nK c1, .int .i64 o.elem, .slice a2 nN c2, .slice a3 nT c3, .bool o.gone] (FB (.slice a1 nK c1) ++ FB (.slice a2 nN c2) ++ FB (.slice a3 nT c3)) rfl ?_ hO4 hrg ?_ hf ?_
        · rw [← unhide HOO]
          exact OwOpC.frm (w := w2) ⟨_, _, _, rfl, o1, o2, o3, rfl⟩ hf (fun g hg => by have := hrg g hg; simp; omega)
        · intro C x G' hx' hne
          exact OwOpC.frm hx' ((Frm.ofBelow hB2 [w.heap.size]).trans hf) (fun g hg => by have := hne g hg; simp; omega)
        · intro zs hz
          have hzl := hz.1
          have t0 := (hz.stored (k * 12) (.int .i64 o.kind)).1
          have t1 := (t0.stored (k * 12 + 1) (.int .i64 o.atN)).1
          have t2 := (t1.stored (k * 12 + 2) (.int .i64 o.atR)).1
          have t3 := (t2.stored (k * 12 + 3) (.int .i64 o.nodeN)).1
          have t4 := (t3.stored (k * 12 + 4) (.int .i64 o.nodeR)).1
          have t5 := (t4.stored (k * 12 + 5) (.int .i64 o.parN)).1
          have t6 := (t5.stored (k * 12 + 6) (.int .i64 o.parR)).1
          have t7 := (t6.stored (k * 12 + 7) (.slice a1 nK c1)).1
          have t8 := (t7.stored (k * 12 + 8) (.int .i64 o.elem)).1
          have t9 := (t8.stored (k * 12 + 9) (.slice a2 nN c2)).1
          have t10 := (t9.stored (k * 12 + 10) (.slice a3 nT c3)).1
          have t11 := (t10.stored (k * 12 + 11) (.bool o.gone)).1
          rw [hW]
          exact ⟨_, t11, take_twelve zs (k * 12) _ _ _ _ _ _ _ _ _ _ _ _ (by omega)⟩
      have HB0 := hB.trans ((hB2.mono hB.size).trans (hf.below (by have := hB2.size; have := hB.size; omega) (fun g hg => by simp at hg; omega)))
      have hs2 : w.heap.size + 1 ≤ W.heap.size := by have := hf.size; have := hB2.size; omega
      subst hW
      have HS := hide hstep
      have HB := hide HB0
      have HS2 := hide hs2
      clear hstep hf hx o1 o2 o3 hO4 hB2 hB HB0 hs2 hrg hcell rK rN rT HT HR0 HRW HOO
      go_wp2_with fail
      go_roundw
      case rel => exact ⟨k + 1, by omega, by go_num, unhide HS, unhide HB, unhide HS2⟩
      case measure => simp [intOf]; omega
    · have e : k = l.length := by omega
      subst e
      have HW := hide (hr.whole rfl (by omega))
      clear hr g5 hone
      go_wp2_with fail
      go_ret
      obtain ⟨F, hF, hnd, hrg⟩ := unhide HW
      exact ⟨_, _, rfl, F, hF, hnd, hrg, hB⟩
end Go.Proofs.YtkmmhlimihkgfaaGreat

/- The laws' own copy of a row of ids. -/
namespace Go.Proofs.YtkmmhlimihkgfaaGreat
open Go.RowKit
set_option linter.unusedVariables false
set_option maxRecDepth 100000

set_option maxHeartbeats 3200000 in
theorem toIds_any (w : World) (v : Value) (l : List (Int × Int)) (h : RdIds w v l) (hs : l.length ≤ 2097152) :
    Calls Tryz.prog 64 #[v] w fun e w' => ∃ a c, e = .returned (.slice a l.length c) ∧ ∃ F, OwIds w' (.slice a l.length c) l F ∧ F.Nodup ∧ Rng F w.heap.size w'.heap.size ∧ Below w.heap.size w w' := by
  obtain ⟨i0, hi, hz0, hz1, hz2⟩ := info_parts Tryz.info25
  have hm := h.1
  obtain ⟨rfl, a, cap, rfl⟩ | ⟨b, off, cap, rfl, h0, g4, g5⟩ := h.cases
  · go_enter Tryz.func64, Tryz.ntmps64
    go_wp2_with (at_make; refine wpList_make_full _ rfl _ _ 62 rfl w.heap.size 25 i0 _ 2 Tryz.underlying62 hi hz0 hz1 .i64 .i64 _ _ 0 rfl rfl rfl rfl ?c1 ?c2 ?c3 ?_)
    case c1 => rw [hz2]; omega
    case c2 => exact Nat.zero_le _
    case c3 => exact Nat.le_refl _
    intro w1 hown hgrow
    have hB1 := Below.ofGrown hgrow
    have hH := (Half.start (α := Int × Int) (l := []) (R := OwIdC) (w.heap.size + 1) (ownsRow_base hown 0 (Nat.zero_le _))).whole rfl (by omega)
    have HH := hide hH
    clear hown hgrow hH
    go_wp2_with fail
    refine wp_loop_rounds 1 ?_
    rw [rounds_succ]
    go_wp2_with fail
    go_ret
    obtain ⟨F, hF, hnd, hr⟩ := unhide HH
    exact ⟨_, _, rfl, F, hF, hnd, hr, hB1⟩
  go_enter Tryz.func64, Tryz.ntmps64
  go_wp2_with (at_make; refine wpList_make_full _ rfl _ _ 62 rfl w.heap.size 25 i0 _ 2 Tryz.underlying62 hi hz0 hz1 .i64 .i64 _ _ l.length rfl rfl rfl rfl ?c1 ?c2 ?c3 ?_)
  case c1 => rw [hz2]; omega
  case c2 => exact hm
  case c3 => exact Nat.le_refl _
  intro w1 hown hgrow
  have hB1 := Below.ofGrown hgrow
  have hH := Half.start (α := Int × Int) (l := l) (R := OwIdC) (w.heap.size + 1) (ownsRow_base hown 0 (Nat.zero_le _))
  have hlt1 := (hown.lt w.heap.size rfl).2
  clear hown hgrow
  go_wp2_with fail
  go_loopw [4] (fun i wr => ∃ k : Nat, k ≤ l.length ∧ i = .int .i64 k ∧ Half wr 25 2 w.heap.size l.length l OwIdC (w.heap.size + 1) k ∧ Below w.heap.size w wr ∧ w.heap.size + 1 ≤ wr.heap.size) (fun i _ => l.length - (intOf i).toNat)
  case atStart => exact ⟨0, Nat.zero_le _, rfl, hH, hB1, by omega⟩
  case round =>
    obtain ⟨k, hk, rfl, hr, hB, hsz⟩ := hrel
    clear hH hB1 hlt1
    by_cases hlt : k < l.length
    · obtain ⟨c0, c1⟩ := g5 k hlt
      have e0 := (hB.cell (p := ⟨b, off + k * 2, none⟩) g4).trans c0
      have e1 := (hB.cell (p := ⟨b, off + k * 2 + 1, none⟩) g4).trans c1
      have hlt' : (k : Int) < (l.length : Int) := by omega
      have HT := hide (toId_any wr l[k].1 l[k].2)
      have HR0 := hide hr
      have HRW := hide (fun (w2 : World) (hB2 : Below wr.heap.size wr w2) => (show ∃ xs : List Value, w2.ownsRow 0 25 2 (.slice (some ⟨w.heap.size, 0, none⟩) l.length l.length) l.length xs by
        obtain ⟨_, _, xs, _, _, _, h4, _⟩ := hr.laid
        exact ⟨xs, ownsRow_frm h4 (Frm.ofBelow hB2 []) (fun _ _ => by simp)⟩))
      generalize hoo : l[k] = o at *
      have HOO := hide hoo.symm
      clear g5 hoo hr c0 c1
      go_wp2_with fail
      clear e0 e1
      refine (unhide HT).mono ?_
      rintro e w2 ⟨rfl, hB2⟩
      obtain ⟨xs, hx⟩ := unhide HRW w2 hB2
      have hxl := hx.1
      have hcell : ∀ j, j < 2 → ∃ y, w2.cell? ⟨w.heap.size, k * 2 + j, none⟩ = some y := fun j hj => ⟨xs[k * 2 + j]'(by omega), by rw [hx.cellAt (k * 2 + j) (by omega), List.getElem?_eq_getElem (by omega)]⟩
      obtain ⟨y0, q0⟩ := hcell 0 (by omega)
      obtain ⟨y1, q1⟩ := hcell 1 (by omega)
      rw [Nat.add_zero] at q0
      have f0 := hx.frozenAt (k * 2)
      have f1 := hx.frozenAt (k * 2 + 1)
      obtain ⟨W, hW⟩ : ∃ W, W = ((w2.setCell ⟨w.heap.size, k * 2, none⟩ (.int .i64 o.1)).setCell ⟨w.heap.size, k * 2 + 1, none⟩ (.int .i64 o.2)) := ⟨_, rfl⟩
      have hf : Frm w2 W [w.heap.size] := by rw [hW]; exact (set_frm w2 _ _ _).trans (set_frm _ _ _ _)
      have hstep : Half W 25 2 w.heap.size l.length l OwIdC (w.heap.size + 1) (k + 1) := by
        refine (unhide HR0).step hlt (by omega) hsz hB2 [.int .i64 o.1, .int .i64 o.2] [] rfl ?_ List.nodup_nil (Rng.nil _ _) (fun C x G h _ => h) hf ?_
        · rw [← unhide HOO]; exact ⟨rfl, rfl⟩
        · intro zs hz
          have hzl := hz.1
          have t0 := (hz.stored (k * 2) (.int .i64 o.1)).1
          have t1 := (t0.stored (k * 2 + 1) (.int .i64 o.2)).1
          rw [hW]
          exact ⟨_, t1, take_two zs (k * 2) _ _ (by omega)⟩
      have HB0 := hB.trans ((hB2.mono hB.size).trans (hf.below (by have := hB2.size; have := hB.size; omega) (fun g hg => by simp at hg; omega)))
      have hs2 : w.heap.size + 1 ≤ W.heap.size := by have := hf.size; have := hB2.size; omega
      subst hW
      have HS := hide hstep
      have HB := hide HB0
      have HS2 := hide hs2
      clear hstep hf hx hB2 hB HB0 hs2 hcell HT HR0 HRW HOO
      go_wp2_with fail
      go_roundw
      case rel => exact ⟨k + 1, by omega, by go_num, unhide HS, unhide HB, unhide HS2⟩
      case measure => simp [intOf]; omega
    · have e : k = l.length := by omega
      subst e
      have HW := hide (hr.whole rfl (by omega))
      clear hr g5
      go_wp2_with fail
      go_ret
      obtain ⟨F, hF, hnd, hrg⟩ := unhide HW
      exact ⟨_, _, rfl, F, hF, hnd, hrg, hB⟩
end Go.Proofs.YtkmmhlimihkgfaaGreat

/- laws.toReplica, by its contract. -/
namespace Go.Proofs.YtkmmhlimihkgfaaGreat
open Go.RowKit
set_option linter.unusedVariables false
set_option maxRecDepth 100000

set_option maxHeartbeats 12800000 in
theorem toRep_any (n : Nat) (w : World) (a b c d e vo vu : Value) (r : RepV n) (h : RdRep n w a b c d e vo vu r) (hs1 : szT (n + 1) r.first ≤ 2097152) (hs2 : szOs r.ops ≤ 2097152) (hs3 : r.und.length ≤ 2097152) :
    Calls Tryz.prog 24 #[repVal r a b c d e vo vu] w fun e w' => ∃ (kd : Int) (a1 : Option Addr) (n1 c1 : Nat) (a2 : Option Addr) (n2 c2 : Nat) (a3 : Option Addr) (n3 c3 : Nat) (a4 : Option Addr) (n4 c4 : Nat) (a5 : Option Addr) (c5 : Nat) (a6 : Option Addr) (c6 : Nat),
      e = .returned (.agg #[.int .i64 r.id, .int .i64 r.clock, .int .i64 kd, .slice a1 n1 c1, .slice a2 n2 c2, .slice a3 n3 c3, .slice a4 n4 c4, .slice a5 r.ops.length c5, .slice a6 r.und.length c6, .bool r.lost]) ∧ ∃ F, OwRep n w' (.int .i64 kd) (.slice a1 n1 c1) (.slice a2 n2 c2) (.slice a3 n3 c3) (.slice a4 n4 c4) (.slice a5 r.ops.length c5) (.slice a6 r.und.length c6) r F ∧ F.Nodup ∧ Rng F w.heap.size w'.heap.size ∧ Below w.heap.size w w' := by
  obtain ⟨z, ab, nb, cb, ac, nc, cc, ad, nd, cd, ae, ne, ce, rfl, rfl, rfl, rfl, rfl⟩ := rd5 h.1
  obtain ⟨ao, co, rfl, _, _⟩ := Elems.shape h.2.1
  obtain ⟨au, cu, rfl, _, _⟩ := Elems.shape h.2.2
  obtain ⟨h1, h2, h3⟩ := h
  have H1 := hide (fun W (hW : Below w.heap.size w W) => toNode_any (n + 1) W _ _ _ _ _ r.first (h1.keep hW) hs1)
  have H2 := hide (fun W (hW : Below w.heap.size w W) => toOps_any W _ r.ops (h2.keep hW) hs2)
  have H3 := hide (fun W (hW : Below w.heap.size w W) => toIds_any W _ r.und (h3.keep hW) hs3)
  clear h1 h2 h3
  unfold repVal
  go_enter Tryz.func24, Tryz.ntmps24
  go_wp2_with fail
  obtain ⟨l0, l1, l2, hA, hWs⟩ := three w #[.int .i64 r.id, .int .i64 r.clock, .int .i64 z, .slice ab nb cb, .slice ac nc cc, .slice ad nd cd, .slice ae ne ce, .slice ao r.ops.length co, .slice au r.und.length cu, .bool r.lost] #[.int .i64 0, .int .i64 0, .int .i64 0, .slice none 0 0, .slice none 0 0, .slice none 0 0, .slice none 0 0, .slice none 0 0, .slice none 0 0, .bool false] #[.int .i64 r.id, .int .i64 r.clock, .int .i64 0, .slice none 0 0, .slice none 0 0, .slice none 0 0, .slice none 0 0, .slice none 0 0, .slice none 0 0, .bool false] 56 64
  generalize hW : (((w.alloc (.cells #[.int .i64 r.id, .int .i64 r.clock, .int .i64 z, .slice ab nb cb, .slice ac nc cc, .slice ad nd cd, .slice ae ne ce, .slice ao r.ops.length co, .slice au r.und.length cu, .bool r.lost] 56)).alloc (.cells #[.int .i64 0, .int .i64 0, .int .i64 0, .slice none 0 0, .slice none 0 0, .slice none 0 0, .slice none 0 0, .slice none 0 0, .slice none 0 0, .bool false] 64)).alloc (.cells #[.int .i64 r.id, .int .i64 r.clock, .int .i64 0, .slice none 0 0, .slice none 0 0, .slice none 0 0, .slice none 0 0, .slice none 0 0, .slice none 0 0, .bool false] 64)) = W at *
  have HWs := hide hWs
  clear hW hWs
  refine (unhide H1 W hA).mono ?_
  rintro e w1 ⟨kd, a1, n1, c1, a2, n2, c2, a3, n3, c3, a4, n4, c4, rfl, F1, ho1, nd1, r1, hB1⟩
  have hA1 := bstep hA hB1
  replace l0 := l0.all hB1
  replace l1 := l1.all hB1
  replace l2 := l2.all hB1
  have s1 := hB1.size
  have p := l0.cell 7
  have q2 := l2.cell 2
  have f2 := l2.frozen 2
  have q3 := l2.cell 3
  have f3 := l2.frozen 3
  have q4 := l2.cell 4
  have f4 := l2.frozen 4
  have q5 := l2.cell 5
  have f5 := l2.frozen 5
  have q6 := l2.cell 6
  have f6 := l2.frozen 6
  simp at p q2 q3 q4 q5 q6
  have f1 : Frm w1 (((((w1.setCell ⟨w.heap.size + 1 + 1, 2, none⟩ (.int .i64 kd)).setCell ⟨w.heap.size + 1 + 1, 3, none⟩ (.slice a1 n1 c1)).setCell ⟨w.heap.size + 1 + 1, 4, none⟩ (.slice a2 n2 c2)).setCell ⟨w.heap.size + 1 + 1, 5, none⟩ (.slice a3 n3 c3)).setCell ⟨w.heap.size + 1 + 1, 6, none⟩ (.slice a4 n4 c4)) [w.heap.size + 1 + 1] := (((((set_frm w1 (w.heap.size + 1 + 1) 2 (.int .i64 kd)).trans (set_frm _ (w.heap.size + 1 + 1) 3 (.slice a1 n1 c1))).trans (set_frm _ (w.heap.size + 1 + 1) 4 (.slice a2 n2 c2))).trans (set_frm _ (w.heap.size + 1 + 1) 5 (.slice a3 n3 c3))).trans (set_frm _ (w.heap.size + 1 + 1) 6 (.slice a4 n4 c4)))
  have m2 := (((((l2.set 2 (.int .i64 kd)).set 3 (.slice a1 n1 c1)).set 4 (.slice a2 n2 c2)).set 5 (.slice a3 n3 c3)).set 6 (.slice a4 n4 c4))
  simp only [List.setIfInBounds_toArray, List.set_cons_zero, List.set_cons_succ] at m2
  have hsz := unhide HWs
  have M := hide (And.intro (And.intro (l0.frm f1 (by simp only [List.mem_singleton]; omega)) (And.intro (l1.frm f1 (by simp only [List.mem_singleton]; omega)) m2)) (And.intro (ho1.frm f1 (fun g hg => by have := r1 g hg; simp; omega)) (And.intro (hA1.trans (f1.below hA1.size (fun g hg => by simp at hg; omega))) f1.size)))
  clear l0 l1 l2 ho1 hA hA1 hB1 m2 f1
  go_wp2_with fail
  clear p q2 q3 q4 q5 q6 f2 f3 f4 f5 f6
  obtain ⟨⟨l0, l1, l2⟩, ho1, hA1, s1'⟩ := unhide M
  clear M
  generalize (((((w1.setCell ⟨w.heap.size + 1 + 1, 2, none⟩ (.int .i64 kd)).setCell ⟨w.heap.size + 1 + 1, 3, none⟩ (.slice a1 n1 c1)).setCell ⟨w.heap.size + 1 + 1, 4, none⟩ (.slice a2 n2 c2)).setCell ⟨w.heap.size + 1 + 1, 5, none⟩ (.slice a3 n3 c3)).setCell ⟨w.heap.size + 1 + 1, 6, none⟩ (.slice a4 n4 c4)) = w1' at *
  refine (unhide H2 w1' hA1).mono ?_
  rintro e w2 ⟨a5, c5, rfl, F2, ho2, nd2, r2, hB2⟩
  have hA2 := bstep hA1 hB2
  replace l0 := l0.all hB2
  replace l1 := l1.all hB2
  replace l2 := l2.all hB2
  replace ho1 := ho1.keep hB2
  have s2 := hB2.size
  have p := l0.cell 8
  have q := l2.cell 7
  have f := l2.frozen 7
  simp at p q
  have f2 := set_frm w2 (w.heap.size + 1 + 1) 7 (.slice a5 r.ops.length c5)
  have m2 := l2.set 7 (.slice a5 r.ops.length c5)
  simp only [List.setIfInBounds_toArray, List.set_cons_zero, List.set_cons_succ] at m2
  have M := hide (And.intro (And.intro (l0.frm f2 (by simp only [List.mem_singleton]; omega)) (And.intro (l1.frm f2 (by simp only [List.mem_singleton]; omega)) m2)) (And.intro (And.intro (ho1.frm f2 (fun g hg => by have := r1 g hg; simp; omega)) (OwOps.frm ho2 f2 (fun g hg => by have := r2 g hg; simp; omega))) (And.intro (hA2.trans (f2.below hA2.size (fun g hg => by simp at hg; omega))) f2.size)))
  clear l0 l1 l2 ho1 ho2 hA1 hA2 hB2 m2 f2
  go_wp2_with fail
  clear p q f
  obtain ⟨⟨l0, l1, l2⟩, ⟨ho1, ho2⟩, hA2, s2'⟩ := unhide M
  clear M
  generalize (w2.setCell ⟨w.heap.size + 1 + 1, 7, none⟩ (.slice a5 r.ops.length c5)) = w2' at *
  refine (unhide H3 w2' hA2).mono ?_
  rintro e w3 ⟨a6, c6, rfl, F3, ho3, nd3, r3, hB3⟩
  have hA3 := bstep hA2 hB3
  replace l0 := l0.all hB3
  replace l1 := l1.all hB3
  replace l2 := l2.all hB3
  replace ho1 := ho1.keep hB3
  replace ho2 := OwOps.frm ho2 (Frm.ofBelow hB3 []) (fun _ _ => by simp)
  have s3 := hB3.size
  have p := l0.cell 9
  have g0 := l1.cell 0
  have b0 := l1.frozen 0
  have d0 := l2.cell 0
  have g1 := l1.cell 1
  have b1 := l1.frozen 1
  have d1 := l2.cell 1
  have g2 := l1.cell 2
  have b2 := l1.frozen 2
  have d2 := l2.cell 2
  have g3 := l1.cell 3
  have b3 := l1.frozen 3
  have d3 := l2.cell 3
  have g4 := l1.cell 4
  have b4 := l1.frozen 4
  have d4 := l2.cell 4
  have g5 := l1.cell 5
  have b5 := l1.frozen 5
  have d5 := l2.cell 5
  have g6 := l1.cell 6
  have b6 := l1.frozen 6
  have d6 := l2.cell 6
  have g7 := l1.cell 7
  have b7 := l1.frozen 7
  have d7 := l2.cell 7
  have g8 := l1.cell 8
  have b8 := l1.frozen 8
  have d8 := l2.cell 8
  have g9 := l1.cell 9
  have b9 := l1.frozen 9
  have d9 := l2.cell 9
  have i8 := l2.frozen 8
  have i9 := l2.frozen 9
  simp at p g0 d0 g1 d1 g2 d2 g3 d3 g4 d4 g5 d5 g6 d6 g7 d7 g8 d8 g9 d9
  obtain ⟨X, hX⟩ : ∃ X, X = ((((((((((((w3.setCell ⟨w.heap.size + 1 + 1, 8, none⟩ (.slice a6 r.und.length c6)).setCell ⟨w.heap.size + 1 + 1, 9, none⟩ (.bool r.lost)).setCell ⟨w.heap.size + 1, 0, none⟩ (.int .i64 r.id)).setCell ⟨w.heap.size + 1, 1, none⟩ (.int .i64 r.clock)).setCell ⟨w.heap.size + 1, 2, none⟩ (.int .i64 kd)).setCell ⟨w.heap.size + 1, 3, none⟩ (.slice a1 n1 c1)).setCell ⟨w.heap.size + 1, 4, none⟩ (.slice a2 n2 c2)).setCell ⟨w.heap.size + 1, 5, none⟩ (.slice a3 n3 c3)).setCell ⟨w.heap.size + 1, 6, none⟩ (.slice a4 n4 c4)).setCell ⟨w.heap.size + 1, 7, none⟩ (.slice a5 r.ops.length c5)).setCell ⟨w.heap.size + 1, 8, none⟩ (.slice a6 r.und.length c6)).setCell ⟨w.heap.size + 1, 9, none⟩ (.bool r.lost)) := ⟨_, rfl⟩
  have hf : Frm w3 X [w.heap.size + 1 + 1, w.heap.size + 1] := by
    rw [hX]
    exact (((((((((((((set_frm w3 _ _ _).mono (by simp)).trans ((set_frm _ _ _ _).mono (by simp))).trans ((set_frm _ _ _ _).mono (by simp))).trans ((set_frm _ _ _ _).mono (by simp))).trans ((set_frm _ _ _ _).mono (by simp))).trans ((set_frm _ _ _ _).mono (by simp))).trans ((set_frm _ _ _ _).mono (by simp))).trans ((set_frm _ _ _ _).mono (by simp))).trans ((set_frm _ _ _ _).mono (by simp))).trans ((set_frm _ _ _ _).mono (by simp))).trans ((set_frm _ _ _ _).mono (by simp))).trans ((set_frm _ _ _ _).mono (by simp)))
  have fin : OwRep n X (.int .i64 kd) (.slice a1 n1 c1) (.slice a2 n2 c2) (.slice a3 n3 c3) (.slice a4 n4 c4) (.slice a5 r.ops.length c5) (.slice a6 r.und.length c6) r (F1 ++ F2 ++ F3) :=
    ⟨F1, F2, F3, ho1.frm hf (fun g hg => by have := r1 g hg; simp; omega), OwOps.frm ho2 hf (fun g hg => by have := r2 g hg; simp; omega), OwIds.frm ho3 hf (fun g hg => by have := r3 g hg; simp; omega), rfl⟩
  have nd : (F1 ++ F2 ++ F3).Nodup := nodup_app (nodup_app nd1 nd2 (r1.mono (Nat.le_refl _) (by omega : w1.heap.size ≤ w1'.heap.size)) r2) nd3 ((r1.mono (Nat.le_refl _) (by omega : w1.heap.size ≤ w2'.heap.size)).app (r2.mono (by omega) (by omega))) r3
  have rg : Rng (F1 ++ F2 ++ F3) w.heap.size X.heap.size := by
    have := hf.size
    exact ((r1.mono (by omega) (by omega)).app (r2.mono (by omega) (by omega))).app (r3.mono (by omega) (by omega))
  have bel := hA3.trans (hf.below hA3.size (fun g hg => by simp at hg; omega))
  subst hX
  have HP := hide (And.intro fin (And.intro nd (And.intro rg bel)))
  clear fin nd rg bel hf l0 l1 l2 ho1 ho2 ho3 hA2 hA3 hB3 r1 r2 r3 nd1 nd2 nd3 hsz
  go_wp2_with fail
  obtain ⟨fin, nd, rg, bel⟩ := unhide HP
  exact bodyPost_ret (v := .agg #[.int .i64 r.id, .int .i64 r.clock, .int .i64 kd, .slice a1 n1 c1, .slice a2 n2 c2, .slice a3 n3 c3, .slice a4 n4 c4, .slice a5 r.ops.length c5, .slice a6 r.und.length c6, .bool r.lost]) (by simp [results, Tryz.results24, go_sem, g0, g1, g2, g3, g4, g5, g6, g7, g8, g9]) rfl ⟨kd, a1, _, c1, a2, _, c2, a3, _, c3, a4, _, c4, a5, c5, a6, c6, rfl, _, fin, nd, rg, bel⟩
end Go.Proofs.YtkmmhlimihkgfaaGreat

/- The laws' own comparison of two trees, where both are the same: by contracts. -/
namespace Go.Proofs.YtkmmhlimihkgfaaGreat
open Go.RowKit
set_option linter.unusedVariables false

theorem eqB_true (w : World) (u v : Value) (a : List Int) (hu : Byt w u a) (hv : Byt w v a) : Calls Tryz.prog 53 #[u, v] w fun e w' => e = .returned (.bool true) ∧ Below w.heap.size w w' := by
  refine (eqB_any w u v a a hu hv).mono ?_
  rintro e w' ⟨rfl, h⟩
  exact ⟨by simp, h⟩

set_option maxHeartbeats 1600000 in
theorem eqAttr_any (w : World) (a b c d : Value) (x : List Int × List Int) (ha : Byt w a x.1) (hb : Byt w b x.2) (hc : Byt w c x.1) (hd : Byt w d x.2) :
    Calls Tryz.prog 137 #[.agg #[a, b], .agg #[c, d]] w fun e w' => e = .returned (.bool true) ∧ Below w.heap.size w w' := by
  obtain ⟨a1, k1, rfl, _, _⟩ := ha.shape
  obtain ⟨a2, k2, rfl, _, _⟩ := hb.shape
  obtain ⟨a3, k3, rfl, _, _⟩ := hc.shape
  obtain ⟨a4, k4, rfl, _, _⟩ := hd.shape
  have hA : Below w.heap.size w ((w.alloc (.cells #[.slice a1 x.1.length k1, .slice a2 x.2.length k2] 157)).alloc (.cells #[.slice a3 x.1.length k3, .slice a4 x.2.length k4] 157)) := ((Below.refl _ _).alloc (Nat.le_refl _) _).alloc (by simp) _
  go_enter Tryz.func137, Tryz.ntmps137
  go_wp2_with fail
  refine (eqB_true _ _ _ x.1 (ha.keep hA) (hc.keep hA)).mono ?_
  rintro e w1 ⟨rfl, hB1⟩
  have hA1 := bstep hA hB1
  have e1 := cell_later hB1 (show ((w.alloc (.cells #[.slice a1 x.1.length k1, .slice a2 x.2.length k2] 157)).alloc (.cells #[.slice a3 x.1.length k3, .slice a4 x.2.length k4] 157)).cell? ⟨w.heap.size, 1, none⟩ = some (.slice a2 x.2.length k2) by simp)
  have e2 := cell_later hB1 (show ((w.alloc (.cells #[.slice a1 x.1.length k1, .slice a2 x.2.length k2] 157)).alloc (.cells #[.slice a3 x.1.length k3, .slice a4 x.2.length k4] 157)).cell? ⟨w.heap.size + 1, 1, none⟩ = some (.slice a4 x.2.length k4) by simp)
  clear hB1 hA
  go_wp2_with fail
  refine (eqB_true _ _ _ x.2 (hb.keep hA1) (hd.keep hA1)).mono ?_
  rintro e w2 ⟨rfl, hB2⟩
  have hA2 := bstep hA1 hB2
  clear hB2 hA1 e1 e2
  go_wp2
  go_ret
  exact ⟨rfl, hA2⟩

set_option maxHeartbeats 1600000 in
theorem eqAttrS_any (w : World) (u v : Value) (l : List (List Int × List Int)) (hu : RdAttrs w u l) (hv : RdAttrs w v l) :
    Calls Tryz.prog 106 #[u, v] w fun e w' => e = .returned (.bool true) ∧ Below w.heap.size w w' := by
  have hm := hu.1
  unfold maxLen at hm
  by_cases h0 : l = []
  · obtain ⟨a1, c1, rfl, _⟩ := Elems.shape hu
    obtain ⟨a2, c2, rfl, _⟩ := Elems.shape hv
    subst h0
    go_enter Tryz.func106, Tryz.ntmps106
    go_wp2
    refine wp_loop_rounds 1 ?_
    rw [rounds_succ]
    go_wp2
    go_ret
    exact ⟨rfl, Below.refl _ _⟩
  obtain ⟨_, ⟨_, e⟩ | ⟨_, _, _, _, e⟩ | ⟨b, off, cap, rfl, g1, g2, g3, g4, g5⟩⟩ := hu
  · exact absurd e h0
  · exact absurd e h0
  obtain ⟨_, ⟨_, e⟩ | ⟨_, _, _, _, e⟩ | ⟨b', off', cap', rfl, f1, f2, f3, f4, f5⟩⟩ := hv
  · exact absurd e h0
  · exact absurd e h0
  go_enter Tryz.func106, Tryz.ntmps106
  go_wp2
  go_loopw [5] (fun i wr => ∃ k : Nat, k ≤ l.length ∧ i = .int .i64 k ∧ Below w.heap.size w wr) (fun i _ => l.length - (intOf i).toNat)
  case atStart => exact ⟨0, Nat.zero_le _, rfl, Below.refl _ _⟩
  case round =>
    obtain ⟨k, hk, rfl, hB⟩ := hrel
    by_cases hlt : k < l.length
    · obtain ⟨C, hC, hcell, c0, c1, rfl, hc0, hc1⟩ := g5 k hlt
      obtain ⟨D, hD, hdell, d0, d1, rfl, hd0, hd1⟩ := f5 k hlt
      have e0 := (hB.cell (p := ⟨b, off + k * 2, none⟩) g4).trans (hcell 0 (by omega))
      have e1 := (hB.cell (p := ⟨b, off + k * 2 + 1, none⟩) g4).trans (hcell 1 (by omega))
      have e2 := (hB.cell (p := ⟨b', off' + k * 2, none⟩) f4).trans (hdell 0 (by omega))
      have e3 := (hB.cell (p := ⟨b', off' + k * 2 + 1, none⟩) f4).trans (hdell 1 (by omega))
      simp only [List.getElem?_cons_zero, List.getElem?_cons_succ] at e0 e1 e2 e3
      have hk0 : (0 : Int) ≤ (k : Int) := by omega
      have hlt' : (k : Int) < (l.length : Int) := by omega
      clear hcell hdell g5 f5 hC hD
      go_wp2
      go_region_held3 (fun w' => w'.cell? ⟨b, off + k * 2, none⟩ = some c0 ∧ w'.cell? ⟨b, off + k * 2 + 1, none⟩ = some c1 ∧ w'.cell? ⟨b', off' + k * 2, none⟩ = some d0 ∧ w'.cell? ⟨b', off' + k * 2 + 1, none⟩ = some d1) (first | exact ⟨by assumption, by assumption, by assumption, by assumption⟩ | simp [*])
        ((go_at_call 137; refine (eqAttr_any _ c0 c1 d0 d1 l[k] (by exact (hc0.keep hB).keep ((Below.refl _ _).drew)) (by exact (hc1.keep hB).keep ((Below.refl _ _).drew)) (by exact (hd0.keep hB).keep ((Below.refl _ _).drew)) (by exact (hd1.keep hB).keep ((Below.refl _ _).drew))).mono ?_; rintro e w2 ⟨rfl, hB2⟩; have s0 := cell_later hB2 e0; have s1 := cell_later hB2 e1; have s2 := cell_later hB2 e2; have s3 := cell_later hB2 e3))
      have hB3 := hB.trans ((Below.drew (Below.refl wr.heap.size wr)).trans hB2 |>.mono hB.size)
      clear e0 e1 e2 e3 s0 s1 s2 s3 hB2
      go_wp2
      go_roundw
      case rel => exact ⟨k + 1, by omega, by go_num, hB3⟩
      case measure => simp [intOf]; omega
    · clear g5 f5
      go_wp2
      go_ret
      exact ⟨rfl, hB⟩

/-- What eqNode does to two nodes of depth below n that are the same. -/
def EqNodeSaid (n : Nat) : Prop := ∀ (w : World) (a b c d e a' b' c' d' e' : Value) (t : Tr n), RdNode n w [a, b, c, d, e] t → RdNode n w [a', b', c', d', e'] t →
    Calls Tryz.prog 68 #[.agg #[a, b, c, d, e], .agg #[a', b', c', d', e']] w fun e w' => e = .returned (.bool true) ∧ Below w.heap.size w w'

set_option maxHeartbeats 3200000 in
theorem eqNodeS_any (n : Nat) (H : EqNodeSaid n) (w : World) (u v : Value) (l : List (Tr n)) (hu : RdKids n w u l) (hv : RdKids n w v l) :
    Calls Tryz.prog 107 #[u, v] w fun e w' => e = .returned (.bool true) ∧ Below w.heap.size w w' := by
  have hm := hu.1
  unfold maxLen at hm
  by_cases h0 : l = []
  · obtain ⟨a1, c1, rfl, _⟩ := Elems.shape hu
    obtain ⟨a2, c2, rfl, _⟩ := Elems.shape hv
    subst h0
    go_enter Tryz.func107, Tryz.ntmps107
    go_wp2_with fail
    refine wp_loop_rounds 1 ?_
    rw [rounds_succ]
    go_wp2_with fail
    go_ret
    exact ⟨rfl, Below.refl _ _⟩
  obtain ⟨_, ⟨_, e⟩ | ⟨_, _, _, _, e⟩ | ⟨b, off, cap, rfl, g1, g2, g3, g4, g5⟩⟩ := hu
  · exact absurd e h0
  · exact absurd e h0
  obtain ⟨_, ⟨_, e⟩ | ⟨_, _, _, _, e⟩ | ⟨b', off', cap', rfl, f1, f2, f3, f4, f5⟩⟩ := hv
  · exact absurd e h0
  · exact absurd e h0
  go_enter Tryz.func107, Tryz.ntmps107
  go_wp2_with fail
  go_loopw [5] (fun i wr => ∃ k : Nat, k ≤ l.length ∧ i = .int .i64 k ∧ Below w.heap.size w wr) (fun i _ => l.length - (intOf i).toNat)
  case atStart => exact ⟨0, Nat.zero_le _, rfl, Below.refl _ _⟩
  case round =>
    obtain ⟨k, hk, rfl, hB⟩ := hrel
    by_cases hlt : k < l.length
    · obtain ⟨c0, c1, c2, c3, c4, e0, e1, e2, e3, e4, hc⟩ := five_of (g5 k hlt)
      obtain ⟨d0, d1, d2, d3, d4, i0, i1, i2, i3, i4, hd⟩ := five_of (f5 k hlt)
      replace e0 := (hB.cell (p := ⟨b, off + k * 5, none⟩) g4).trans e0
      replace e1 := (hB.cell (p := ⟨b, off + k * 5 + 1, none⟩) g4).trans e1
      replace e2 := (hB.cell (p := ⟨b, off + k * 5 + 2, none⟩) g4).trans e2
      replace e3 := (hB.cell (p := ⟨b, off + k * 5 + 3, none⟩) g4).trans e3
      replace e4 := (hB.cell (p := ⟨b, off + k * 5 + 4, none⟩) g4).trans e4
      replace i0 := (hB.cell (p := ⟨b', off' + k * 5, none⟩) f4).trans i0
      replace i1 := (hB.cell (p := ⟨b', off' + k * 5 + 1, none⟩) f4).trans i1
      replace i2 := (hB.cell (p := ⟨b', off' + k * 5 + 2, none⟩) f4).trans i2
      replace i3 := (hB.cell (p := ⟨b', off' + k * 5 + 3, none⟩) f4).trans i3
      replace i4 := (hB.cell (p := ⟨b', off' + k * 5 + 4, none⟩) f4).trans i4
      have hk0 : (0 : Int) ≤ (k : Int) := by omega
      have hlt' : (k : Int) < (l.length : Int) := by omega
      clear g5 f5
      go_wp2_with fail
      go_region_held3 (fun w' => w'.cell? ⟨b, off + k * 5, none⟩ = some c0 ∧ w'.cell? ⟨b, off + k * 5 + 1, none⟩ = some c1 ∧ w'.cell? ⟨b, off + k * 5 + 2, none⟩ = some c2 ∧ w'.cell? ⟨b, off + k * 5 + 3, none⟩ = some c3 ∧ w'.cell? ⟨b, off + k * 5 + 4, none⟩ = some c4 ∧ w'.cell? ⟨b', off' + k * 5, none⟩ = some d0 ∧ w'.cell? ⟨b', off' + k * 5 + 1, none⟩ = some d1 ∧ w'.cell? ⟨b', off' + k * 5 + 2, none⟩ = some d2 ∧ w'.cell? ⟨b', off' + k * 5 + 3, none⟩ = some d3 ∧ w'.cell? ⟨b', off' + k * 5 + 4, none⟩ = some d4) (first | exact ⟨by assumption, by assumption, by assumption, by assumption, by assumption, by assumption, by assumption, by assumption, by assumption, by assumption⟩ | simp [*])
        ((go_at_call 68; refine (H _ c0 c1 c2 c3 c4 d0 d1 d2 d3 d4 l[k] (by exact (hc.keep hB).keep ((Below.refl _ _).drew)) (by exact (hd.keep hB).keep ((Below.refl _ _).drew))).mono ?_; rintro e w2 ⟨rfl, hB2⟩; have s0 := cell_later hB2 e0; have s1 := cell_later hB2 e1; have s2 := cell_later hB2 e2; have s3 := cell_later hB2 e3; have s4 := cell_later hB2 e4; have r0 := cell_later hB2 i0; have r1 := cell_later hB2 i1; have r2 := cell_later hB2 i2; have r3 := cell_later hB2 i3; have r4 := cell_later hB2 i4))
      have hB3 := hB.trans ((Below.drew (Below.refl wr.heap.size wr)).trans hB2 |>.mono hB.size)
      clear e0 e1 e2 e3 e4 i0 i1 i2 i3 i4 s0 s1 s2 s3 s4 r0 r1 r2 r3 r4 hB2 hc hd
      go_wp2_with fail
      go_roundw
      case rel => exact ⟨k + 1, by omega, by go_num, hB3⟩
      case measure => simp [intOf]; omega
    · clear g5 f5
      go_wp2_with fail
      go_ret
      exact ⟨rfl, hB⟩

set_option maxHeartbeats 3200000 in
theorem eqNode_succ (n : Nat) (H : EqNodeSaid n) : EqNodeSaid (n + 1) := by
  intro w a b c d e a' b' c' d' e' t hr hr'
  obtain ⟨_, _, _, _, e0, k1, k2, hb, hc, hd, he⟩ := hr
  obtain ⟨_, _, _, _, e1, _, _, hb', hc', hd', he'⟩ := hr'
  simp only [List.cons.injEq, and_true] at e0 e1
  obtain ⟨rfl, rfl, rfl, rfl, rfl⟩ := e0
  obtain ⟨rfl, rfl, rfl, rfl, rfl⟩ := e1
  obtain ⟨ab, cb, rfl, _, _⟩ := hb.shape
  obtain ⟨ac, cc, rfl, _, _⟩ := hc.shape
  obtain ⟨ad, cd, rfl, _, _⟩ := Elems.shape hd
  obtain ⟨ae, ce, rfl, _, _⟩ := Elems.shape he
  obtain ⟨ab', cb', rfl, _, _⟩ := hb'.shape
  obtain ⟨ac', cc', rfl, _, _⟩ := hc'.shape
  obtain ⟨ad', cd', rfl, _, _⟩ := Elems.shape hd'
  obtain ⟨ae', ce', rfl, _, _⟩ := Elems.shape he'
  generalize hO : (Obj.cells #[.int .i64 t.kind, .slice ab t.name.length cb, .slice ac t.text.length cc, .slice ad t.attrs.length cd, .slice ae t.kids.length ce] 61) = O
  generalize hO' : (Obj.cells #[.int .i64 t.kind, .slice ab' t.name.length cb', .slice ac' t.text.length cc', .slice ad' t.attrs.length cd', .slice ae' t.kids.length ce'] 61) = O'
  have hA : Below w.heap.size w ((w.alloc O).alloc O') := ((Below.refl _ _).alloc (Nat.le_refl _) _).alloc (by simp) _
  have p2 : ((w.alloc O).alloc O').cell? ⟨w.heap.size, 2, none⟩ = some (.slice ac t.text.length cc) := by rw [← hO, ← hO']; simp
  have q2 : ((w.alloc O).alloc O').cell? ⟨w.heap.size + 1, 2, none⟩ = some (.slice ac' t.text.length cc') := by rw [← hO, ← hO']; simp
  have p3 : ((w.alloc O).alloc O').cell? ⟨w.heap.size, 3, none⟩ = some (.slice ad t.attrs.length cd) := by rw [← hO, ← hO']; simp
  have q3 : ((w.alloc O).alloc O').cell? ⟨w.heap.size + 1, 3, none⟩ = some (.slice ad' t.attrs.length cd') := by rw [← hO, ← hO']; simp
  have p4 : ((w.alloc O).alloc O').cell? ⟨w.heap.size, 4, none⟩ = some (.slice ae t.kids.length ce) := by rw [← hO, ← hO']; simp
  have q4 : ((w.alloc O).alloc O').cell? ⟨w.heap.size + 1, 4, none⟩ = some (.slice ae' t.kids.length ce') := by rw [← hO, ← hO']; simp
  have P := hide (And.intro p2 (And.intro q2 (And.intro p3 (And.intro q3 (And.intro p4 q4)))))
  clear p2 q2 p3 q3 p4 q4
  subst hO hO'
  have HA := hide hA
  clear hA
  have hkk : (t.kind != t.kind) = false := by simp
  go_enter Tryz.func68, Tryz.ntmps68
  go_wp2_with fail
  refine (eqB_true _ _ _ t.name (hb.keep (unhide HA)) (hb'.keep (unhide HA))).mono ?_
  rintro e w1 ⟨rfl, hB1⟩
  have hA1 := bstep (unhide HA) hB1
  have p2 := cell_later hB1 (unhide P).1
  have q2 := cell_later hB1 (unhide P).2.1
  have p3 := cell_later hB1 (unhide P).2.2.1
  have q3 := cell_later hB1 (unhide P).2.2.2.1
  have p4 := cell_later hB1 (unhide P).2.2.2.2.1
  have q4 := cell_later hB1 (unhide P).2.2.2.2.2
  clear hB1 P HA
  go_wp2_with fail
  refine (eqB_true _ _ _ t.text (hc.keep hA1) (hc'.keep hA1)).mono ?_
  rintro e w2 ⟨rfl, hB2⟩
  have hA2 := bstep hA1 hB2
  replace p3 := cell_later hB2 p3
  replace q3 := cell_later hB2 q3
  replace p4 := cell_later hB2 p4
  replace q4 := cell_later hB2 q4
  clear hB2 hA1 p2 q2
  go_wp2_with fail
  refine (eqAttrS_any _ _ _ t.attrs (hd.keep hA2) (hd'.keep hA2)).mono ?_
  rintro e w3 ⟨rfl, hB3⟩
  have hA3 := bstep hA2 hB3
  replace p4 := cell_later hB3 p4
  replace q4 := cell_later hB3 q4
  clear hB3 hA2 p3 q3
  go_wp2_with fail
  refine (eqNodeS_any n H _ _ _ t.kids (RdKids.keep he hA3) (RdKids.keep he' hA3)).mono ?_
  rintro e w4 ⟨rfl, hB4⟩
  have hA4 := bstep hA3 hB4
  clear hB4 hA3 p4 q4
  go_wp2_with fail
  go_ret
  exact ⟨rfl, hA4⟩

theorem eqNode_any (n : Nat) : EqNodeSaid n := by
  induction n with
  | zero => exact fun _ _ _ _ _ _ _ _ _ _ _ t => t.elim
  | succ n ih => exact eqNode_succ n ih

end Go.Proofs.YtkmmhlimihkgfaaGreat

/- Rows of the same ids are alike. -/
namespace Go.Proofs.YtkmmhlimihkgfaaGreat
open Go.RowKit
set_option linter.unusedVariables false
set_option maxRecDepth 100000

theorem idEqB_refl (n r : Int) : idEqB n r n r = true := by simp [idEqB]
set_option maxHeartbeats 3200000 in
theorem eqIds_same (w : World) (u v : Value) (l : List (Int × Int)) (hu : RdIds w u l) (hv : RdIds w v l) :
    Calls Tryz.prog 69 #[u, v] w fun e w' => e = .returned (.bool true) ∧ Below w.heap.size w w' := by
  have hm := hu.1
  unfold maxLen at hm
  obtain ⟨rfl, a, cap, rfl⟩ | ⟨b, off, cap, rfl, hnil, g4, g5⟩ := hu.cases
  · obtain ⟨a', cap', rfl, _, _⟩ := Elems.shape hv
    go_enter Tryz.func69, Tryz.ntmps69
    go_wp2_with fail
    refine wp_loop_rounds 1 ?_
    rw [rounds_succ]
    go_wp2_with fail
    go_ret
    exact ⟨rfl, Below.refl _ _⟩
  obtain ⟨rfl, _⟩ | ⟨b', off', cap', rfl, _, f4, f5⟩ := hv.cases
  · exact absurd rfl hnil
  go_enter Tryz.func69, Tryz.ntmps69
  go_wp2_with fail
  go_loopw [5] (fun i wr => ∃ k : Nat, k ≤ l.length ∧ i = .int .i64 k ∧ Below w.heap.size w wr) (fun i _ => l.length - (intOf i).toNat)
  case atStart => exact ⟨0, Nat.zero_le _, rfl, Below.refl _ _⟩
  case round =>
    obtain ⟨k, hk, rfl, hB⟩ := hrel
    by_cases hlt : k < l.length
    · have HE := hide (fun W => eqId_any W l[k].1 l[k].2 l[k].1 l[k].2)
      rw [idEqB_refl] at HE
      obtain ⟨c0, c1⟩ := g5 k hlt
      obtain ⟨d0, d1⟩ := f5 k hlt
      have e0 := (hB.cell (p := ⟨b, off + k * 2, none⟩) g4).trans c0
      have e1 := (hB.cell (p := ⟨b, off + k * 2 + 1, none⟩) g4).trans c1
      have i0 := (hB.cell (p := ⟨b', off' + k * 2, none⟩) f4).trans d0
      have i1 := (hB.cell (p := ⟨b', off' + k * 2 + 1, none⟩) f4).trans d1
      have hlt' : (k : Int) < (l.length : Int) := by omega
      have hk0 : (0 : Int) ≤ (k : Int) := by omega
      generalize l[k] = o at *
      clear g5 f5 c0 c1 d0 d1 hnil
      go_wp2_with fail
      go_region_held3 (fun w' => w'.cell? ⟨b, off + k * 2, none⟩ = some (.int .i64 o.1) ∧ w'.cell? ⟨b, off + k * 2 + 1, none⟩ = some (.int .i64 o.2) ∧ w'.cell? ⟨b', off' + k * 2, none⟩ = some (.int .i64 o.1) ∧ w'.cell? ⟨b', off' + k * 2 + 1, none⟩ = some (.int .i64 o.2)) (first | exact ⟨by assumption, by assumption, by assumption, by assumption⟩ | simp [*])
        ((go_at_call 51; refine (unhide HE _).mono ?_; rintro e w2 ⟨rfl, hB2⟩; have s0 := cell_later hB2 e0; have s1 := cell_later hB2 e1; have r0 := cell_later hB2 i0; have r1 := cell_later hB2 i1))
      have hB3 := hB.trans ((Below.drew (Below.refl wr.heap.size wr)).trans hB2 |>.mono hB.size)
      clear e0 e1 i0 i1 s0 s1 r0 r1 hB2
      go_wp2_with fail
      go_roundw
      case rel => exact ⟨k + 1, by omega, by go_num, hB3⟩
      case measure => simp [intOf]; omega
    · clear g5 f5
      go_wp2_with fail
      go_ret
      exact ⟨rfl, hB⟩
end Go.Proofs.YtkmmhlimihkgfaaGreat

/- laws.eqReplica: the same replicas are alike. -/
namespace Go.Proofs.YtkmmhlimihkgfaaGreat
open Go.RowKit
set_option linter.unusedVariables false
set_option maxRecDepth 100000

set_option maxHeartbeats 6400000 in
theorem eqRep_same (n : Nat) (w : World) (a b c d e vo vu a' b' c' d' e' vo' vu' : Value) (r : RepV n) (h : RdRep n w a b c d e vo vu r) (h' : RdRep n w a' b' c' d' e' vo' vu' r) :
    Calls Tryz.prog 26 #[repVal r a b c d e vo vu, repVal r a' b' c' d' e' vo' vu'] w fun e w' => e = .returned (.bool true) ∧ Below w.heap.size w w' := by
  obtain ⟨z, ab, nb, cb, ac, nc, cc, ad, nd, cd, ae, ne, ce, rfl, rfl, rfl, rfl, rfl⟩ := rd5 h.1
  obtain ⟨ao, co, rfl, _, _⟩ := Elems.shape h.2.1
  obtain ⟨au, cu, rfl, _, _⟩ := Elems.shape h.2.2
  obtain ⟨z', ab', nb', cb', ac', nc', cc', ad', nd', cd', ae', ne', ce', rfl, rfl, rfl, rfl, rfl⟩ := rd5 h'.1
  obtain ⟨ao', co', rfl, _, _⟩ := Elems.shape h'.2.1
  obtain ⟨au', cu', rfl, _, _⟩ := Elems.shape h'.2.2
  have H1 := hide (fun W (hW : Below w.heap.size w W) => eqNode_any (n + 1) W _ _ _ _ _ _ _ _ _ _ r.first (h.1.keep hW) (h'.1.keep hW))
  have H2 := hide (fun W (hW : Below w.heap.size w W) => eqOps_same W _ _ r.ops (h.2.1.keep hW) (h'.2.1.keep hW))
  have H3 := hide (fun W (hW : Below w.heap.size w W) => eqIds_same W _ _ r.und (h.2.2.keep hW) (h'.2.2.keep hW))
  clear h h'
  unfold repVal
  obtain ⟨l1, l2, hA⟩ := two w #[.int .i64 r.id, .int .i64 r.clock, .int .i64 z, .slice ab nb cb, .slice ac nc cc, .slice ad nd cd, .slice ae ne ce, .slice ao r.ops.length co, .slice au r.und.length cu, .bool r.lost] #[.int .i64 r.id, .int .i64 r.clock, .int .i64 z', .slice ab' nb' cb', .slice ac' nc' cc', .slice ad' nd' cd', .slice ae' ne' ce', .slice ao' r.ops.length co', .slice au' r.und.length cu', .bool r.lost] 64 64
  have hn1 : (r.id != r.id) = false := by simp
  have hn2 : (r.clock != r.clock) = false := by simp
  have hn3 : (r.lost != r.lost) = false := by simp
  go_enter Tryz.func26, Tryz.ntmps26
  go_wp2_with fail
  generalize ((w.alloc (.cells #[.int .i64 r.id, .int .i64 r.clock, .int .i64 z, .slice ab nb cb, .slice ac nc cc, .slice ad nd cd, .slice ae ne ce, .slice ao r.ops.length co, .slice au r.und.length cu, .bool r.lost] 64)).alloc (.cells #[.int .i64 r.id, .int .i64 r.clock, .int .i64 z', .slice ab' nb' cb', .slice ac' nc' cc', .slice ad' nd' cd', .slice ae' ne' ce', .slice ao' r.ops.length co', .slice au' r.und.length cu', .bool r.lost] 64)) = wa at *
  refine (unhide H1 _ hA).mono ?_
  rintro e w1 ⟨rfl, hB⟩
  have hA1 := bstep hA hB
  replace l1 := l1.all hB
  replace l2 := l2.all hB
  clear hA hB H1
  obtain ⟨x0, x1, x2, x3, x4, x5, x6, x7, x8, x9⟩ := l1.ten
  obtain ⟨y0, y1, y2, y3, y4, y5, y6, y7, y8, y9⟩ := l2.ten
  go_wp2_with fail
  clear x0 x1 x2 x3 x4 x5 x6 x7 x8 x9 y0 y1 y2 y3 y4 y5 y6 y7 y8 y9
  refine (unhide H2 _ hA1).mono ?_
  rintro e w2 ⟨rfl, hB⟩
  have hA2 := bstep hA1 hB
  replace l1 := l1.all hB
  replace l2 := l2.all hB
  clear hA1 hB H2
  obtain ⟨x0, x1, x2, x3, x4, x5, x6, x7, x8, x9⟩ := l1.ten
  obtain ⟨y0, y1, y2, y3, y4, y5, y6, y7, y8, y9⟩ := l2.ten
  go_wp2_with fail
  clear x0 x1 x2 x3 x4 x5 x6 x7 x8 x9 y0 y1 y2 y3 y4 y5 y6 y7 y8 y9
  refine (unhide H3 _ hA2).mono ?_
  rintro e w3 ⟨rfl, hB⟩
  have hA3 := bstep hA2 hB
  replace l1 := l1.all hB
  replace l2 := l2.all hB
  clear hA2 hB H3
  obtain ⟨x0, x1, x2, x3, x4, x5, x6, x7, x8, x9⟩ := l1.ten
  obtain ⟨y0, y1, y2, y3, y4, y5, y6, y7, y8, y9⟩ := l2.ten
  go_wp2_with fail
  go_ret
  exact ⟨rfl, hA3⟩
end Go.Proofs.YtkmmhlimihkgfaaGreat

/- impl.Put. -/
namespace Go.Proofs.YtkmmhlimihkgfaaGreat
open Go.RowKit
set_option linter.unusedVariables false
set_option maxRecDepth 100000

set_option maxHeartbeats 40000000 in
theorem iput_any (w : World) (v vo : Value) (l : List OpV) (o : OpV) (h : RdOps w v l) (ho : RdOp w vo o) (hs : szO o ≤ 2097152) (hls : ∀ x ∈ l, szO x ≤ 2097152) :
    Calls Tryz.prog 9 #[v, vo] w fun e w' => ∃ u, e = .returned (.tuple #[u, .bool (putAns l o)]) ∧ ∃ F, OwOps w' u (putV l o) F ∧ F.Nodup ∧ Rng F w.heap.size w'.heap.size ∧ Below w.heap.size w w' := by
  have HO := hide (fun (W : World) (hW : Below w.heap.size w W) => opI_any W vo o (ho.keep hW))
  have HS := hide (fun (W : World) (hW : Below w.heap.size w W) => opsI_any W v l (h.keep hW))
  have HP := hide (fun (hl : l.length ≤ 150) (W : World) (hW : Below w.heap.size w W) => copyOps_any W v l (h.keep hW) (by omega) (fun x hx => by have := hls x hx; omega))
  have HN := hide (fun (hc : opsB l = true) (hb : opB o = true) (W : World) (hW : Below w.heap.size w W) u F (hF : OwOps W u l F) (hN : F.Nodup) => putInto_any W u vo l o F hF hN hc (ho.keep hW) hb hs hls)
  obtain ⟨k, n, t, rfl, hk, hn, ht⟩ := ho
  obtain ⟨ak, ck, rfl, _, _⟩ := hk.shape
  obtain ⟨an, cn, rfl, _, _⟩ := hn.shape
  obtain ⟨tt, ct, rfl, _, _⟩ := ht.shape
  obtain ⟨av, cv, rfl, _, _⟩ := Elems.shape h
  clear hk hn ht h hs hls
  have hA0 := (Below.refl w.heap.size w).alloc (Nat.le_refl _) (.cells #[.int .i64 o.kind, .int .i64 o.atN, .int .i64 o.atR, .int .i64 o.nodeN, .int .i64 o.nodeR, .int .i64 o.parN, .int .i64 o.parR, .slice ak o.key.length ck, .int .i64 o.elem, .slice an o.name.length cn, .slice tt o.text.length ct, .bool o.gone] 28)
  have l0 := Loc.made w #[.int .i64 o.kind, .int .i64 o.atN, .int .i64 o.atR, .int .i64 o.nodeN, .int .i64 o.nodeR, .int .i64 o.parN, .int .i64 o.parR, .slice ak o.key.length ck, .int .i64 o.elem, .slice an o.name.length cn, .slice tt o.text.length ct, .bool o.gone] 28
  unfold opVal at HO HN
  unfold putV putAns
  refine calls_via ?_
  intro Q HQ
  unfold opVal
  go_enter Tryz.func9, Tryz.ntmps9
  go_wp2_with fail
  generalize (w.alloc (.cells #[.int .i64 o.kind, .int .i64 o.atN, .int .i64 o.atR, .int .i64 o.nodeN, .int .i64 o.nodeR, .int .i64 o.parN, .int .i64 o.parR, .slice ak o.key.length ck, .int .i64 o.elem, .slice an o.name.length cn, .slice tt o.text.length ct, .bool o.gone] 28)) = wa at *
  refine (unhide HO _ hA0).mono ?_
  rintro e w1 ⟨rfl, hB⟩
  replace hA0 := bstep hA0 hB
  replace l0 := l0.all hB
  clear hB HO
  cases hb : opB o with
  | false =>
    rw [hb] at HQ
    rw [Bool.and_false] at HQ
    have KK := hide (unhide HQ (.returned (.tuple #[.slice none 0 0, .bool false])) w1 ⟨.slice none 0 0, rfl, [], owOps_none _, List.nodup_nil, Rng.nil _ _, hA0⟩)
    clear HQ
    go_wp2_with fail
    exact unhide KK
  | true =>
    go_wp2_with fail
    refine (unhide HS _ hA0).mono ?_
    rintro e w2 ⟨rfl, hB⟩
    replace hA0 := bstep hA0 hB
    replace l0 := l0.all hB
    clear hB HS
    cases hc : opsB l with
    | false =>
      rw [hb, hc] at HQ
      rw [Bool.false_and] at HQ
      have KK := hide (unhide HQ (.returned (.tuple #[.slice none 0 0, .bool false])) w2 ⟨.slice none 0 0, rfl, [], owOps_none _, List.nodup_nil, Rng.nil _ _, hA0⟩)
      clear HQ
      go_wp2_with fail
      exact unhide KK
    | true =>
      rw [hb, hc] at HQ
      have hl := opsB_len hc
      have HQ2 := hide (fun u kk w9 (hkk : kk = putOk l o) (z : ∃ F, OwOps w9 u (putL l o) F ∧ F.Nodup ∧ Rng F w.heap.size w9.heap.size ∧ Below w.heap.size w w9) => unhide HQ (.returned (.tuple #[u, .bool kk])) w9 ⟨u, by rw [hkk]; rfl, z⟩)
      replace HN := hide (unhide HN hc hb)
      clear HQ
      have HLO := hide l0
      have hlow := hA0.size
      obtain ⟨x0, x1, x2, x3, x4, x5, x6, x7, x8, x9, x10, x11⟩ := l0.twelve
      go_wp2_with fail
      go_region_with (first
        | (go_at_call 41; refine (unhide HP hl _ (hA0.drew)).mono ?_; clear HP; rintro e w3 ⟨u, rfl, F, hF, hN, hRng, hB⟩; have hK3 := bstep ((Below.refl w2.heap.size w2).drew) hB; obtain ⟨x0, x1, x2, x3, x4, x5, x6, x7, x8, x9, x10, x11⟩ := ((unhide HLO).all hK3).twelve; have hRng' := hRng.mono (lo' := w.heap.size) (by simpa using hlow) (Nat.le_refl _); obtain ⟨au, cu, rfl, _, _⟩ := Elems.shape hF.rd)
        | (go_at_call 40; refine (unhide HN _ (bstep hA0 hK3) _ F hF hN).mono ?_; clear HN; rintro e w4 ⟨u, rfl, _, F', hO, hN', hsub, hf⟩; obtain ⟨bu, du, rfl, _, _⟩ := Elems.shape hO.rd))
      all_goals
        have hA3 := bstep hA0 hK3
        have hFv : ∀ q ∈ FB (.slice au l.length cu), w.heap.size ≤ q := fun q hq => (hRng' q (by obtain ⟨Cs, Fs, _, _, _, _, rfl⟩ := hF; exact List.mem_append_left _ hq)).1
        have hs4 := hf.size
        have KK := hide (unhide HQ2 _ _ w4 rfl ⟨F', hO, hN', fun q hq => by
          rcases hsub q hq with h | h
          · have := hRng' q h; omega
          · have := hA3.size; omega, hA3.trans (hf.below hA3.size hFv)⟩)
        clear HQ2 hO hF hf x0 x1 x2 x3 x4 x5 x6 x7 x8 x9 x10 x11
        go_wp2_with fail
        first | exact unhide KK | (go_ret; exact unhide KK) | exact bodyPost_ret (v := .tuple #[.slice bu (putL l o).length du, .bool (putOk l o)]) (by simp [results, Tryz.results9, go_sem]) rfl (unhide KK)
end Go.Proofs.YtkmmhlimihkgfaaGreat
