/- spec.OpsOk answers what the plain test of a row says. -/
import Derived.Test.YtcabolcfoijglaaOpsM
import Derived.Test.YtcabolcfoijglaaLesI
import Derived.Test.YtcabolcfoijglaaQGr
namespace Go.Proofs.Ytcabolcfoijglaa
open Go.RowKit
set_option linter.unusedVariables false
set_option maxRecDepth 100000

set_option maxHeartbeats 6400000 in
theorem opsS_any (w : World) (v : Value) (l : List OpV) (h : RdOps w v l) :
    Calls Try.prog 22 #[v] w fun e w' => e = .returned (.bool (opsB l)) ∧ Below w.heap.size w w' := by
  have hm := h.1
  unfold maxLen at hm
  by_cases hlong : 150 < l.length
  · obtain ⟨a, cap, rfl, _, _⟩ := Elems.shape h
    have hd : (150 : Int) < (l.length : Int) := by omega
    rw [opsB_long hlong]
    go_enter Try.func22, Try.ntmps22
    go_wp2_with fail
    go_ret
    exact ⟨rfl, Below.refl _ _⟩
  have hd : ¬ (150 : Int) < (l.length : Int) := by omega
  obtain ⟨rfl, a, cap, rfl⟩ | ⟨b, off, cap, rfl, hnil, g4, g5⟩ := h.cases
  · go_enter Try.func22, Try.ntmps22
    go_wp2_with fail
    refine wp_loop_rounds 1 ?_
    rw [rounds_succ]
    go_wp2_with fail
    go_ret
    exact ⟨rfl, Below.refl _ _⟩
  have HG := hide (fun hh => opsB_good (l := l) (by omega) hh)
  have HN := hide (fun k hk hh => opsB_bad (l := l) (k := k) hk hh)
  generalize opsB l = res at *
  go_enter Try.func22, Try.ntmps22
  go_wp2_with fail
  go_loopw [3] (fun i wr => ∃ k : Nat, k ≤ l.length ∧ i = .int .i64 k ∧ (∀ j, j < k → okAt l j = true) ∧ Below w.heap.size w wr) (fun i _ => l.length - (intOf i).toNat)
  case atStart => exact ⟨0, Nat.zero_le _, rfl, fun j hj => by omega, Below.refl _ _⟩
  case round =>
    obtain ⟨k, hk, rfl, hok, hB⟩ := hrel
    by_cases hlt : k < l.length
    · have HX := hide (fun W u (hu : RdOp W u l[k]) => opS_any W u l[k] hu)
      have HL := hide (fun W n r n' r' => lessS_any W n r n' r')
      have H0 := hide (fun (h : opB l[k] = false) => okAt_no hlt h)
      have HZ := hide (fun (h : opB l[k] = true) (e : k = 0) => (show okAt l k = true by subst e; exact okAt_0 hlt h))
      have HS := hide (fun j (e : k = j + 1) (h : opB l[k] = true) => (show okAt l k = lessB (l[j]'(by omega)).atN (l[j]'(by omega)).atR l[k].atN l[k].atR by subst e; exact okAt_s hlt h))
      have HP := hide (fun j (e : k = j + 1) => opc_at hB g4 (g5 j (by omega)))
      have HJ := hide (fun j (hj : j < k + 1) (h : okAt l k = true) => (show okAt l j = true by rcases Nat.lt_succ_iff_lt_or_eq.1 hj with h1 | rfl; exact hok j h1; exact h))
      have HNK := hide (fun (h : okAt l k = false) => unhide HN k hlt h)
      obtain ⟨a1, c1, a2, c2, a3, c3, e0, e1, e2, e3, e4, e5, e6, e7, e8, e9, e10, e11, hr⟩ := opc_at hB g4 (g5 k hlt)
      have hlt' : (k : Int) < (l.length : Int) := by omega
      have hk0 : (0 : Int) ≤ (k : Int) := by omega
      have HR := hide hr
      unfold opVal at HR
      generalize hoo : l[k] = o at *
      generalize o.key.length = nK at *
      generalize o.name.length = nN at *
      generalize o.text.length = nT at *
      clear g5 hr hnil hoo HG HN hok
      generalize okAt l k = okk at *
      have g4' : b < wr.heap.size := Nat.lt_of_lt_of_le g4 hB.size
      have hNE : Nonempty (Gr wr) := ⟨⟨wr, Below.refl _ _⟩⟩
      replace e0 := Gr.cell g4' e0
      replace e1 := Gr.cell g4' e1
      replace e2 := Gr.cell g4' e2
      replace e3 := Gr.cell g4' e3
      replace e4 := Gr.cell g4' e4
      replace e5 := Gr.cell g4' e5
      replace e6 := Gr.cell g4' e6
      replace e7 := Gr.cell g4' e7
      replace e8 := Gr.cell g4' e8
      replace e9 := Gr.cell g4' e9
      replace e10 := Gr.cell g4' e10
      replace e11 := Gr.cell g4' e11
      by_cases hq : opB o = true
      · rw [hq] at HX
        rcases Nat.eq_zero_or_pos k with hz | hpos
        · have HY := hide (unhide HZ hq hz)
          have dz3 : ¬ 0 < k := by omega
          have dz4 : decide (0 < k) = false := by simp; omega
          clear H0 HZ HS HP hq HL hz
          go_wp2_with fail
          refine wp_region_gr (by kernel_rfl) (by kernel_rfl) ?_
          repeat (go_big_quiet_step ((rename_i p; exact calls_gr (unhide HX _ _ ((unhide HR).keep p.h)))))
          refine wpQuiet_nil ?_
          rintro _ ⟨p, rfl⟩
          have hB3 := bstep hB p.h
          clear e0 e1 e2 e3 e4 e5 e6 e7 e8 e9 e10 e11 HR
          go_wp2_with fail
          go_roundw
          case rel => exact ⟨k + 1, by omega, by go_num, fun j hj => unhide HJ j hj (unhide HY), hB3⟩
          case measure => simp [intOf]; omega
        · obtain ⟨j, ej⟩ : ∃ j, k = j + 1 := ⟨k - 1, by omega⟩
          have dz3 : 0 < k := hpos
          have dz4 : decide (0 < k) = true := by simp; omega
          have hj1 : (k : Int) - 1 = (j : Int) := by omega
          have hj0 : (0 : Int) ≤ (j : Int) := by omega
          have hjl : (j : Int) < (l.length : Int) := by omega
          obtain ⟨pn, pr, i1, i2, HE⟩ : ∃ pn pr, wr.cell? ⟨b, off + j * 12 + 1, none⟩ = some (.int .i64 pn) ∧ wr.cell? ⟨b, off + j * 12 + 2, none⟩ = some (.int .i64 pr) ∧ okk = lessB pn pr o.atN o.atR := by
            obtain ⟨_, _, _, _, _, _, _, i1, i2, _⟩ := unhide HP j ej
            exact ⟨_, _, i1, i2, unhide HS j ej hq⟩
          replace i1 := Gr.cell g4' i1
          replace i2 := Gr.cell g4' i2
          clear H0 HZ HS HP hq hpos
          have HLL := hide (fun W => unhide HL W pn pr o.atN o.atR)
          generalize lessB pn pr o.atN o.atR = lb at *
          subst HE
          clear HL ej
          go_wp2_with fail
          refine wp_region_gr (by kernel_rfl) (by kernel_rfl) ?_
          repeat (go_big_quiet_step ((rename_i p; first | exact calls_gr (unhide HX _ _ ((unhide HR).keep p.h)) | exact calls_gr (unhide HLL _))))
          refine wpQuiet_nil ?_
          rintro _ ⟨p, rfl⟩
          have hB3 := bstep hB p.h
          clear e0 e1 e2 e3 e4 e5 e6 e7 e8 e9 e10 e11 HR i1 i2
          cases okk with
          | true =>
            go_wp2_with fail
            go_roundw
            case rel => exact ⟨k + 1, by omega, by go_num, fun j hj => unhide HJ j hj rfl, hB3⟩
            case measure => simp [intOf]; omega
          | false =>
            have HF := hide (unhide HNK rfl)
            clear HNK
            go_wp2_with fail
            go_ret
            exact ⟨by rw [unhide HF]; rfl, hB3⟩
      · have hq' : opB o = false := by simpa using hq
        rw [hq'] at HX
        have HY := hide (unhide HNK (unhide H0 hq'))
        clear H0 HZ HS HP hq hq' HL HNK
        go_wp2_with fail
        refine wp_region_gr (by kernel_rfl) (by kernel_rfl) ?_
        repeat (go_big_quiet_step ((rename_i p; exact calls_gr (unhide HX _ _ ((unhide HR).keep p.h)))))
        refine wpQuiet_nil ?_
        rintro _ ⟨p, rfl⟩
        have hB3 := bstep hB p.h
        clear e0 e1 e2 e3 e4 e5 e6 e7 e8 e9 e10 e11 HR
        go_wp2_with fail
        go_ret
        exact ⟨by rw [unhide HY]; rfl, hB3⟩
    · have HY := hide (unhide HG (fun j hj => hok j (by omega)))
      clear g5
      go_wp2_with fail
      go_ret
      exact ⟨by rw [unhide HY]; rfl, hB⟩
end Go.Proofs.Ytcabolcfoijglaa
