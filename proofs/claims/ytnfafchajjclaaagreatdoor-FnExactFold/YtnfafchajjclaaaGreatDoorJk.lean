/- Own texts joined: OpsS, SFo, L5os. -/
import Derived.Test.YtnfafchajjclaaaGreatDoorJa
import Derived.Test.YtnfafchajjclaaaGreatDoorJb
import Derived.Test.YtnfafchajjclaaaGreatDoorJc
import Derived.Test.YtnfafchajjclaaaGreatDoorJd
import Derived.Test.YtnfafchajjclaaaGreatDoorJe
import Derived.Test.YtnfafchajjclaaaGreatDoorJf
import Derived.Test.YtnfafchajjclaaaGreatDoorJg
import Derived.Test.YtnfafchajjclaaaGreatDoorJh
import Derived.Test.YtnfafchajjclaaaGreatDoorJi
import Derived.Test.YtnfafchajjclaaaGreatDoorJj

/- spec.OpsOk answers what the plain test of a row says. -/
namespace Go.Proofs.YtnfafchajjclaaaGreatDoor
open Go.RowKit
set_option linter.unusedVariables false
set_option maxRecDepth 100000

set_option maxHeartbeats 6400000 in
theorem opsS_any (w : World) (v : Value) (l : List OpV) (h : RdOps w v l) :
    Calls Tryz.prog 23 #[v] w fun e w' => e = .returned (.bool (opsB l)) ∧ Below w.heap.size w w' := by
  have hm := h.1
  unfold maxLen at hm
  by_cases hlong : 150 < l.length
  · obtain ⟨a, cap, rfl, _, _⟩ := Elems.shape h
    have hd : (150 : Int) < (l.length : Int) := by omega
    rw [opsB_long hlong]
    go_enter Tryz.func23, Tryz.ntmps23
    go_wp2_with fail
    go_ret
    exact ⟨rfl, Below.refl _ _⟩
  have hd : ¬ (150 : Int) < (l.length : Int) := by omega
  obtain ⟨rfl, a, cap, rfl⟩ | ⟨b, off, cap, rfl, hnil, g4, g5⟩ := h.cases
  · go_enter Tryz.func23, Tryz.ntmps23
    go_wp2_with fail
    refine wp_loop_rounds 1 ?_
    rw [rounds_succ]
    go_wp2_with fail
    go_ret
    exact ⟨rfl, Below.refl _ _⟩
  have HG := hide (fun hh => opsB_good (l := l) (by omega) hh)
  have HN := hide (fun k hk hh => opsB_bad (l := l) (k := k) hk hh)
  generalize opsB l = res at *
  go_enter Tryz.func23, Tryz.ntmps23
  go_wp2_with fail
  go_loopw [3] (fun i wr => ∃ k : Nat, k ≤ l.length ∧ i = .int .i64 k ∧ (∀ j, j < k → okAt l j = true) ∧ Below w.heap.size w wr) (fun i _ => l.length - (intOf i).toNat)
  case atStart => exact ⟨0, Nat.zero_le _, rfl, fun j hj => by omega, Below.refl _ _⟩
  case round =>
    obtain ⟨k, hk, rfl, hok, hB⟩ := hrel
    by_cases hlt : k < l.length
    · have HX := hide (fun W u (hu : RdOp W u l[k]) => opS_any W u l[k] hu)
      have HL := hide (fun W n r n' r' => lessS_any W n r n' r')
      have H0 := hide (fun (h : opB l[k] = false) => okAt_no hlt h)
      have HZ := hide (fun (h : opB l[k] = true) (e : k = 0) => (show okAt l k = true by subst e; exact okAt_0 hlt h))
      have HS := hide (fun j (e : k = j + 1) (h : opB l[k] = true) => (show okAt l k = lessB (l[j]'(by omega)).atN (l[j]'(by omega)).atR l[k].atN l[k].atR by subst e; exact okAt_s hlt h))
      have HP := hide (fun j (e : k = j + 1) => opc_at hB g4 (g5 j (by omega)))
      have HJ := hide (fun j (hj : j < k + 1) (h : okAt l k = true) => (show okAt l j = true by rcases Nat.lt_succ_iff_lt_or_eq.1 hj with h1 | rfl; exact hok j h1; exact h))
      have HNK := hide (fun (h : okAt l k = false) => unhide HN k hlt h)
      obtain ⟨a1, c1, a2, c2, a3, c3, e0, e1, e2, e3, e4, e5, e6, e7, e8, e9, e10, e11, hr⟩ := opc_at hB g4 (g5 k hlt)
      have hlt' : (k : Int) < (l.length : Int) := by omega
      have hk0 : (0 : Int) ≤ (k : Int) := by omega
      have HR := hide hr
      unfold opVal at HR
      generalize hoo : l[k] = o at *
      generalize o.key.length = nK at *
      generalize o.name.length = nN at *
      generalize o.text.length = nT at *
      clear g5 hr hnil hoo HG HN hok
      generalize okAt l k = okk at *
      have g4' : b < wr.heap.size := Nat.lt_of_lt_of_le g4 hB.size
      have hNE : Nonempty (Gr wr) := ⟨⟨wr, Below.refl _ _⟩⟩
      replace e0 := Gr.cell g4' e0
      replace e1 := Gr.cell g4' e1
      replace e2 := Gr.cell g4' e2
      replace e3 := Gr.cell g4' e3
      replace e4 := Gr.cell g4' e4
      replace e5 := Gr.cell g4' e5
      replace e6 := Gr.cell g4' e6
      replace e7 := Gr.cell g4' e7
      replace e8 := Gr.cell g4' e8
      replace e9 := Gr.cell g4' e9
      replace e10 := Gr.cell g4' e10
      replace e11 := Gr.cell g4' e11
      by_cases hq : opB o = true
      · rw [hq] at HX
        rcases Nat.eq_zero_or_pos k with hz | hpos
        · have HY := hide (unhide HZ hq hz)
          have dz3 : ¬ 0 < k := by omega
          have dz4 : decide (0 < k) = false := by simp; omega
          clear H0 HZ HS HP hq HL hz
          go_wp2_with fail
          refine wp_region_gr (by kernel_rfl) (by kernel_rfl) ?_
          repeat (go_big_quiet_step ((rename_i p; exact calls_gr (unhide HX _ _ ((unhide HR).keep p.h)))))
          refine wpQuiet_nil ?_
          rintro _ ⟨p, rfl⟩
          have hB3 := bstep hB p.h
          clear e0 e1 e2 e3 e4 e5 e6 e7 e8 e9 e10 e11 HR
          go_wp2_with fail
          go_roundw
          case rel => exact ⟨k + 1, by omega, by go_num, fun j hj => unhide HJ j hj (unhide HY), hB3⟩
          case measure => simp [intOf]; omega
        · obtain ⟨j, ej⟩ : ∃ j, k = j + 1 := ⟨k - 1, by omega⟩
          have dz3 : 0 < k := hpos
          have dz4 : decide (0 < k) = true := by simp; omega
          have hj1 : (k : Int) - 1 = (j : Int) := by omega
          have hj0 : (0 : Int) ≤ (j : Int) := by omega
          have hjl : (j : Int) < (l.length : Int) := by omega
          obtain ⟨pn, pr, i1, i2, HE⟩ : ∃ pn pr, wr.cell? ⟨b, off + j * 12 + 1, none⟩ = some (.int .i64 pn) ∧ wr.cell? ⟨b, off + j * 12 + 2, none⟩ = some (.int .i64 pr) ∧ okk = lessB pn pr o.atN o.atR := by
            obtain ⟨_, _, _, _, _, _, _, i1, i2, _⟩ := unhide HP j ej
            exact ⟨_, _, i1, i2, unhide HS j ej hq⟩
          replace i1 := Gr.cell g4' i1
          replace i2 := Gr.cell g4' i2
          clear H0 HZ HS HP hq hpos
          have HLL := hide (fun W => unhide HL W pn pr o.atN o.atR)
          generalize lessB pn pr o.atN o.atR = lb at *
          subst HE
          clear HL ej
          go_wp2_with fail
          refine wp_region_gr (by kernel_rfl) (by kernel_rfl) ?_
          repeat (go_big_quiet_step ((rename_i p; first | exact calls_gr (unhide HX _ _ ((unhide HR).keep p.h)) | exact calls_gr (unhide HLL _))))
          refine wpQuiet_nil ?_
          rintro _ ⟨p, rfl⟩
          have hB3 := bstep hB p.h
          clear e0 e1 e2 e3 e4 e5 e6 e7 e8 e9 e10 e11 HR i1 i2
          cases okk with
          | true =>
            go_wp2_with fail
            go_roundw
            case rel => exact ⟨k + 1, by omega, by go_num, fun j hj => unhide HJ j hj rfl, hB3⟩
            case measure => simp [intOf]; omega
          | false =>
            have HF := hide (unhide HNK rfl)
            clear HNK
            go_wp2_with fail
            go_ret
            exact ⟨by rw [unhide HF]; rfl, hB3⟩
      · have hq' : opB o = false := by simpa using hq
        rw [hq'] at HX
        have HY := hide (unhide HNK (unhide H0 hq'))
        clear H0 HZ HS HP hq hq' HL HNK
        go_wp2_with fail
        refine wp_region_gr (by kernel_rfl) (by kernel_rfl) ?_
        repeat (go_big_quiet_step ((rename_i p; exact calls_gr (unhide HX _ _ ((unhide HR).keep p.h)))))
        refine wpQuiet_nil ?_
        rintro _ ⟨p, rfl⟩
        have hB3 := bstep hB p.h
        clear e0 e1 e2 e3 e4 e5 e6 e7 e8 e9 e10 e11 HR
        go_wp2_with fail
        go_ret
        exact ⟨by rw [unhide HY]; rfl, hB3⟩
    · have HY := hide (unhide HG (fun j hj => hok j (by omega)))
      clear g5
      go_wp2_with fail
      go_ret
      exact ⟨by rw [unhide HY]; rfl, hB⟩
end Go.Proofs.YtnfafchajjclaaaGreatDoor

/- spec.Fold, given what it asks of spec.l5ownState. -/
namespace Go.Proofs.YtnfafchajjclaaaGreatDoor
open Go.RowKit
set_option linter.unusedVariables false
set_option maxRecDepth 100000

def OwnStSaid (Bd : List PlV → Prop) : Prop := ∀ (w : World) (a : Option Addr) (c : Nat) (l : List PlV), RdPls w (.slice a l.length c) l → Bd l →
    Calls Tryz.prog 24 #[.agg #[.slice a l.length c]] w fun e w' => ∃ a' c' F, e = .returned (.agg #[.slice a' l.length c']) ∧ OwPls w' (.slice a' l.length c') l F ∧ F.Nodup ∧ (∀ q ∈ F, w.heap.size ≤ q ∧ q < w'.heap.size) ∧ Below w.heap.size w w'
def foldB {n : Nat} (t : Tr (n + 1)) (ops : List OpV) : Bool := okN n t && !voidB t.name && opsB ops
def foldR {n : Nat} (t : Tr (n + 1)) (ops : List OpV) : List PlV := if foldB t ops = true then foldW t ops else []
def FoR (w : World) (b : Bool) (R : List PlV) (e : Ending) (w' : World) : Prop := ∃ a c F, e = .returned (.tuple #[.agg #[.slice a R.length c], .bool b]) ∧ OwPls w' (.slice a R.length c) R F ∧ F.Nodup ∧ (∀ q ∈ F, w.heap.size ≤ q ∧ q < w'.heap.size) ∧ Below w.heap.size w w'
theorem FoR.no {w w' : World} (h : Below w.heap.size w w') : FoR w false [] (.returned (.tuple #[.agg #[.slice none 0 0], .bool false])) w' :=
  ⟨none, 0, [], rfl, ⟨[], [], rfl, rfl, fun i hi => (by cases hi), World.ownsRow_nil _ _ _ _, rfl⟩, List.nodup_nil, fun q hq => (by cases hq), h⟩
set_option maxHeartbeats 3200000 in
theorem foldS_any (Bd : List PlV → Prop) (hO : OwnStSaid Bd) (n : Nat) (w : World) (t : Tr (n + 1)) (a1 a2 a3 a4 a5 : Option Addr) (c1 c2 c3 c4 c5 : Nat) (ops : List OpV)
    (hN : RdNode (n + 1) w [.int .i64 t.kind, .slice a1 t.name.length c1, .slice a2 t.text.length c2, .slice a3 t.attrs.length c3, .slice a4 t.kids.length c4] t) (h1_ : Byt w (.slice a1 t.name.length c1) t.name) (h3_ : RdAttrs w (.slice a3 t.attrs.length c3) t.attrs) (h4_ : RdKids n w (.slice a4 t.kids.length c4) t.kids) (h5_ : RdOps w (.slice a5 ops.length c5) ops) (hBd : foldB t ops = true → Bd (foldW t ops)) :
    Calls Tryz.prog 6 #[.agg #[.int .i64 t.kind, .slice a1 t.name.length c1, .slice a2 t.text.length c2, .slice a3 t.attrs.length c3, .slice a4 t.kids.length c4], .slice a5 ops.length c5] w fun e w' => FoR w (foldB t ops) (foldR t ops) e w' := by
  have hA : Below w.heap.size w ((w.alloc (.cells #[.int .i64 t.kind, .slice a1 t.name.length c1, .slice a2 t.text.length c2, .slice a3 t.attrs.length c3, .slice a4 t.kids.length c4] 38)).alloc (.cells #[.slice none 0 0] 32)) := bstep ((Below.refl _ _).alloc (Nat.le_refl _) _) ((Below.refl _ _).alloc (Nat.le_refl _) _)
  have lf := (Loc.made w #[.int .i64 t.kind, .slice a1 t.name.length c1, .slice a2 t.text.length c2, .slice a3 t.attrs.length c3, .slice a4 t.kids.length c4] 38).all (((Below.refl _ _).alloc (Nat.le_refl _) (.cells #[.slice none 0 0] 32)))
  have lr := Loc.made (w.alloc (.cells #[.int .i64 t.kind, .slice a1 t.name.length c1, .slice a2 t.text.length c2, .slice a3 t.attrs.length c3, .slice a4 t.kids.length c4] 38)) #[.slice none 0 0] 32
  simp only [World.size_alloc] at lr
  have LL := hide (And.intro hA (And.intro lf lr))
  obtain ⟨B, hB⟩ : ∃ B, B = foldB t ops := ⟨_, rfl⟩
  obtain ⟨R, hR⟩ : ∃ R, R = foldR t ops := ⟨_, rfl⟩
  rw [← hB, ← hR]
  have HB := hide (And.intro hB hR)
  clear hA lf lr hB hR
  go_enter Tryz.func6, Tryz.ntmps6
  go_wp2_with fail
  obtain ⟨hA, lf, lr⟩ := unhide LL
  clear LL
  generalize ((w.alloc (.cells #[.int .i64 t.kind, .slice a1 t.name.length c1, .slice a2 t.text.length c2, .slice a3 t.attrs.length c3, .slice a4 t.kids.length c4] 38)).alloc (.cells #[.slice none 0 0] 32)) = w1 at *
  refine (nodeS_any n w1 _ _ _ _ _ t (hN.keep hA)).mono ?_
  rintro e w2 ⟨rfl, hb2⟩
  replace hA := bstep hA hb2
  replace lf := lf.all hb2
  replace lr := lr.all hb2
  clear hb2
  cases hn : okN n t with
  | false =>
    have HE := hide (And.intro hA (And.intro (show B = false by rw [(unhide HB).1]; unfold foldB; rw [hn]; rfl) (show R = [] by rw [(unhide HB).2]; unfold foldR foldB; rw [hn]; rfl)))
    clear hA lf hN h1_ h3_ h4_ h5_ hn
    have r0 := lr.cell 0
    have rf := lr.frozen 0
    have lrX := lr.set 0 (.slice none 0 0)
    have fX := set_frm w2 (w.heap.size + 1) 0 (.slice none 0 0)
    have hAX := (unhide HE).1.trans (fX.below (unhide HE).1.size (fun q hq => by simp at hq; omega))
    have eX := lrX.cell 0
    have HF := hide (And.intro hAX eX)
    clear lr lrX fX hAX eX
    go_wp2_with fail
    exact bodyPost_ret (v := .tuple #[.agg #[.slice none 0 0], .bool false]) (by simp [results, Tryz.results6, go_sem, (unhide HF).2]) rfl (by rw [(unhide HE).2.1, (unhide HE).2.2]; exact FoR.no (unhide HF).1)
  | true =>
    have f1 : w2.cell? ⟨w.heap.size, 1, none⟩ = some (.slice a1 t.name.length c1) := lf.cell 1
    go_wp2_with fail
    refine (voidS_b w2 _ t.name (h1_.keep hA)).mono ?_
    rintro e w3 ⟨rfl, hw3⟩
    subst w3
    cases hv : voidB t.name with
    | true =>
      have HE := hide (And.intro hA (And.intro (show B = false by rw [(unhide HB).1]; unfold foldB; rw [hn, hv]; rfl) (show R = [] by rw [(unhide HB).2]; unfold foldR foldB; rw [hn, hv]; rfl)))
      clear hA lf hN h1_ h3_ h4_ h5_ hn hv
      have r0 := lr.cell 0
      have rf := lr.frozen 0
      have lrX := lr.set 0 (.slice none 0 0)
      have fX := set_frm w2 (w.heap.size + 1) 0 (.slice none 0 0)
      have hAX := (unhide HE).1.trans (fX.below (unhide HE).1.size (fun q hq => by simp at hq; omega))
      have eX := lrX.cell 0
      have HF := hide (And.intro hAX eX)
      clear lr lrX fX hAX eX
      go_wp2_with fail
      exact bodyPost_ret (v := .tuple #[.agg #[.slice none 0 0], .bool false]) (by simp [results, Tryz.results6, go_sem, (unhide HF).2]) rfl (by rw [(unhide HE).2.1, (unhide HE).2.2]; exact FoR.no (unhide HF).1)
    | false =>
      go_wp2_with fail
      refine (opsS_any w2 _ ops (h5_.keep hA)).mono ?_
      rintro e w3 ⟨rfl, hb3⟩
      replace hA := bstep hA hb3
      replace lf := lf.all hb3
      replace lr := lr.all hb3
      clear hb3 f1
      cases ho : opsB ops with
      | false =>
        have HE := hide (And.intro hA (And.intro (show B = false by rw [(unhide HB).1]; unfold foldB; rw [hn, hv, ho]; rfl) (show R = [] by rw [(unhide HB).2]; unfold foldR foldB; rw [hn, hv, ho]; rfl)))
        clear hA lf hN h1_ h3_ h4_ h5_ hn hv ho
        have r0 := lr.cell 0
        have rf := lr.frozen 0
        have lrX := lr.set 0 (.slice none 0 0)
        have fX := set_frm w3 (w.heap.size + 1) 0 (.slice none 0 0)
        have hAX := (unhide HE).1.trans (fX.below (unhide HE).1.size (fun q hq => by simp at hq; omega))
        have eX := lrX.cell 0
        have HF := hide (And.intro hAX eX)
        clear lr lrX fX hAX eX
        go_wp2_with fail
        exact bodyPost_ret (v := .tuple #[.agg #[.slice none 0 0], .bool false]) (by simp [results, Tryz.results6, go_sem, (unhide HF).2]) rfl (by rw [(unhide HE).2.1, (unhide HE).2.2]; exact FoR.no (unhide HF).1)
      | true =>
        have hBt : foldB t ops = true := by unfold foldB; rw [hn, hv, ho]; rfl
        have hol : ops.length ≤ 150 := by
          have h9 := ho
          unfold opsB at h9
          rw [Bool.and_eq_true, decide_eq_true_eq] at h9
          exact h9.1
        have ha4 := (okT_parts (by unfold okN at hn; rw [Bool.and_eq_true] at hn; exact hn.2)).1
        obtain ⟨s1, s2⟩ := seed_bd hn [⟨0, 0, 0, 0, [], 0, t.name, [], t.attrs⟩, trashP] (fun p hp => by simp at hp; rcases hp with rfl | rfl; exact ha4; simp [trashP])
        simp only [List.length_cons, List.length_nil] at s1
        have hBd' := hBd hBt
        have HE := hide (And.intro (show B = true from (unhide HB).1.trans hBt) (show R = foldW t ops by rw [(unhide HB).2]; unfold foldR; rw [if_pos hBt]))
        have f0 := lf.cell 0
        have f1 := lf.cell 1
        have f2 := lf.cell 2
        have f3 := lf.cell 3
        have f4 := lf.cell 4
        have HC := hide (l5fold_any n w3 t a1 a2 a3 a4 a5 c1 c2 c3 c4 c5 ops (h1_.keep hA) (h3_.keep hA) (RdKids.keep h4_ hA) (RdOps.keep h5_ hA) (by omega) (fun p hp => by have := s2 p hp; omega))
        have HX := hide (And.intro hA lr)
        clear hA lf lr s1 s2 ha4 hol hN h1_ h3_ h4_ h5_ hn hv ho
        go_wp2_with fail
        refine (unhide HC).mono ?_
        rintro e w4 ⟨a, c, rfl, hrd, hb4⟩
        obtain ⟨hA, lr⟩ := unhide HX
        replace hA := bstep hA hb4
        replace lr := lr.all hb4
        have HX2 := hide (And.intro hA lr)
        have HC2 := hide (hO w4 a c (foldW t ops) hrd hBd')
        clear HX HC hb4 hrd hA lr f0 f1 f2 f3 f4
        go_wp2_with fail
        refine (unhide HC2).mono ?_
        rintro e w5 ⟨a', c', F, rfl, hpl, hnd, hrg, hb5⟩
        obtain ⟨hA, lr⟩ := unhide HX2
        have hrl := lr.lt
        have hwl := hA.size
        replace hA := bstep hA hb5
        replace lr := lr.all hb5
        have r0 := lr.cell 0
        have rf := lr.frozen 0
        have lrX := lr.set 0 (.slice a' (foldW t ops).length c')
        have fX := set_frm w5 (w.heap.size + 1) 0 (.slice a' (foldW t ops).length c')
        have hplX := hpl.frm fX (fun g hg e => by simp at e; have := (hrg g hg).1; omega)
        have hAX := hA.trans (fX.below hA.size (fun q hq => by simp at hq; omega))
        have eX := lrX.cell 0
        have hs5 := fX.size
        have HF := hide (And.intro hplX (And.intro hnd (And.intro (show ∀ q ∈ F, w.heap.size ≤ q ∧ q < (w5.setCell ⟨w.heap.size + 1, 0, none⟩ (.slice a' (foldW t ops).length c')).heap.size from fun q hq => ⟨by have := (hrg q hq).1; omega, Nat.lt_of_lt_of_le (hrg q hq).2 hs5⟩) (And.intro hAX eX))))
        clear hpl hnd hrg hb5 hA lr lrX fX hplX hAX eX HX2 HC2
        go_wp2_with fail
        obtain ⟨hplX, hnd, hrg, hAX, eX⟩ := unhide HF
        exact bodyPost_ret (v := .tuple #[.agg #[.slice a' (foldW t ops).length c'], .bool true]) (by simp [results, Tryz.results6, go_sem, eX]) rfl (by rw [(unhide HE).1, (unhide HE).2]; exact ⟨a', c', F, rfl, hplX, hnd, hrg, hAX⟩)
end Go.Proofs.YtnfafchajjclaaaGreatDoor

/- spec.l5ownState: a state all of whose memory is the call's own. -/
namespace Go.Proofs.YtnfafchajjclaaaGreatDoor
open Go.RowKit
set_option linter.unusedVariables false
set_option maxRecDepth 100000

/-- What the appends want of the rows' lengths. -/
def BdA (x : List Int × List Int) : Prop := x.1.length ≤ 100000000 ∧ x.2.length ≤ 100000000
def BdP (p : PlV) : Prop := p.key.length ≤ 100000000 ∧ p.name.length ≤ 100000000 ∧ p.text.length ≤ 100000000 ∧ p.attrs.length ≤ 100000000 ∧ ∀ x ∈ p.attrs, BdA x
def BdO (l : List PlV) : Prop := l.length ≤ 100000000 ∧ ∀ p ∈ l, BdP p
/-- A place as it is copied. -/
def PoAt (S : Nat) (w : World) (pb : Nat) (p : PlV) (K N T A : Value) (la : List (List Int × List Int)) (Fa : List Nat) : Prop := Loc w pb #[.int .i64 p.idN, .int .i64 p.idR, .int .i64 p.parN, .int .i64 p.parR, K, .int .i64 p.kind, N, T, A] 107 ∧ OwnZ w 0 K p.key ∧ Own w 0 N p.name ∧ Own w 0 T p.text ∧ OwAttrs w A la Fa ∧ (FB K ++ FB N ++ FB T ++ Fa).Nodup ∧ (∀ q ∈ FB K ++ FB N ++ FB T ++ Fa, S ≤ q ∧ q < w.heap.size ∧ q ≠ pb) ∧ S ≤ pb
def Os6 (w5 : World) (bp : Nat) (p : PlV) (ak an tt : Option Addr) (ck cn ct : Nat) (s0 s1 s2 s3 s4 s7 s8 s9 s10 s11 s12 s13 s14 s15 s16 s17 s18 s19 s39 s40 s41 s42 s43 s44 s45 s46 s47 s48 s49 s50 s51 s52 s53 s54 s55 s56 s57 s58 s59 s60 s61 s62 s63 s64 s65 s66 s67 s68 s69 s70 s71 s72 s73 s74 : Value) (L : Array Bool) (a : Act) (w : World) : Prop :=
  ∀ C : Prop, (∀ (b0 b1 b2 b3 b4 b5 b6 b7 b8 b9 b10 b11 b12 b13 b14 b15 b16 b17 b18 b19 b20 : Bool) (x6 x20 x21 x22 x23 x24 x25 x26 x27 x28 x29 x30 x31 x32 x33 x34 x35 x36 x37 x38 : Value), L = #[b0, b1, b2, b3, b4, b5, b6, b7, b8, b9, b10, b11, b12, b13, b14, b15, b16, b17, b18, b19, b20] → a = { tmps := #[s0, s1, s2, s3, s4, .pointer (some ⟨bp, 0, none⟩), x6, s7, s8, s9, s10, s11, s12, s13, s14, s15, s16, s17, s18, s19, x20, x21, x22, x23, x24, x25, x26, x27, x28, x29, x30, x31, x32, x33, x34, x35, x36, x37, x38, s39, s40, s41, s42, s43, s44, s45, s46, s47, s48, s49, s50, s51, s52, s53, s54, s55, s56, s57, s58, s59, s60, s61, s62, s63, s64, s65, s66, s67, s68, s69, s70, s71, s72, s73, s74], defers := [] } → Below w5.heap.size w5 w → RwZ w w5.heap.size b4 b7 x24 x27 p.key → RwB w w5.heap.size b10 b13 x30 x33 p.name → RwB w w5.heap.size b14 b17 x34 x37 p.text → (∀ q ∈ Cb b10 b13 x30 x33, q ∉ Cb b14 b17 x34 x37) → (b0 = true → x20 = .pointer (some ⟨bp, 0, none⟩)) → (b1 = true → x21 = .agg #[.int .i64 p.idN, .int .i64 p.idR]) → (b2 = true → x22 = .pointer (some ⟨bp, 2, none⟩)) → (b3 = true → x23 = .agg #[.int .i64 p.parN, .int .i64 p.parR]) → (b5 = true → x25 = .pointer (some ⟨bp, 4, none⟩)) → (b6 = true → x26 = .slice ak p.key.length ck) → (b8 = true → x28 = .pointer (some ⟨bp, 5, none⟩)) → (b9 = true → x29 = .int .i64 p.kind) → (b11 = true → x31 = .pointer (some ⟨bp, 6, none⟩)) → (b12 = true → x32 = .slice an p.name.length cn) → (b15 = true → x35 = .pointer (some ⟨bp, 7, none⟩)) → (b16 = true → x36 = .slice tt p.text.length ct) → (b18 = true → b7 = true ∧ b13 = true ∧ b17 = true ∧ x38 = .agg #[.int .i64 p.idN, .int .i64 p.idR, .int .i64 p.parN, .int .i64 p.parR, x27, .int .i64 p.kind, x33, x37, .slice none 0 0]) → (b19 = true → ∃ pb, x6 = .pointer (some ⟨pb, 0, none⟩) ∧ w5.heap.size ≤ pb ∧ (b20 = false → Loc w pb #[.int .i64 0, .int .i64 0, .int .i64 0, .int .i64 0, .slice none 0 0, .int .i64 0, .slice none 0 0, .slice none 0 0, .slice none 0 0] 107)) → (b20 = true → b18 = true ∧ b19 = true ∧ ∃ pb, x6 = .pointer (some ⟨pb, 0, none⟩) ∧ Loc w pb #[.int .i64 p.idN, .int .i64 p.idR, .int .i64 p.parN, .int .i64 p.parR, x27, .int .i64 p.kind, x33, x37, .slice none 0 0] 107) → C) → C
theorem Os6_cases {i : Nat} (h : i < 21) : i = 0 ∨ i = 1 ∨ i = 2 ∨ i = 3 ∨ i = 4 ∨ i = 5 ∨ i = 6 ∨ i = 7 ∨ i = 8 ∨ i = 9 ∨ i = 10 ∨ i = 11 ∨ i = 12 ∨ i = 13 ∨ i = 14 ∨ i = 15 ∨ i = 16 ∨ i = 17 ∨ i = 18 ∨ i = 19 ∨ i = 20 := by omega
def Os10 (wr : World) (bp pb ab aoff k ca vn vc n2 v2 c7 c8 c9 : Nat) (va n1 v1 a7 a8 a9 : Option Addr) (p : PlV) (x : List Int × List Int) (Fa : List Nat) (s0 s1 s2 s3 s4 s8 s9 s10 s11 s12 s13 s14 s15 s16 s17 s18 s19 s20 s21 s22 s23 s24 s25 s26 s27 s28 s29 s30 s31 s32 s33 s34 s35 s36 s37 s38 s39 s40 s41 s42 s43 s44 s45 s68 s69 s70 s71 s72 s73 s74 : Value) (L : Array Bool) (a : Act) (w : World) : Prop :=
  ∀ C : Prop, (∀ (b0 b1 b2 b3 b4 b5 b6 b7 b8 b9 b10 b11 b12 b13 b14 b15 b16 b17 b18 b19 b20 b21 b22 : Bool) (x46 x47 x48 x49 x50 x51 x52 x53 x54 x55 x56 x57 x58 x59 x60 x61 x62 x63 x64 x65 x66 x67 : Value), L = #[b0, b1, b2, b3, b4, b5, b6, b7, b8, b9, b10, b11, b12, b13, b14, b15, b16, b17, b18, b19, b20, b21, b22] → a = { tmps := #[s0, s1, s2, s3, s4, .pointer (some ⟨bp, 0, none⟩), .pointer (some ⟨pb, 0, none⟩), .int .i64 (k : Int), s8, s9, s10, s11, s12, s13, s14, s15, s16, s17, s18, s19, s20, s21, s22, s23, s24, s25, s26, s27, s28, s29, s30, s31, s32, s33, s34, s35, s36, s37, s38, s39, s40, s41, s42, s43, s44, s45, x46, x47, x48, x49, x50, x51, x52, x53, x54, x55, x56, x57, x58, x59, x60, x61, x62, x63, x64, x65, x66, x67, s68, s69, s70, s71, s72, s73, s74], defers := [] } → Frm wr w (FB (.slice va vn vc) ++ [pb]) → RwB w wr.heap.size b2 b9 x48 x55 x.1 → RwB w wr.heap.size b10 b17 x56 x63 x.2 → (∀ q ∈ Cb b2 b9 x48 x55, q ∉ Cb b10 b17 x56 x63) → Loc w pb #[.int .i64 p.idN, .int .i64 p.idR, .int .i64 p.parN, .int .i64 p.parR, .slice a7 p.key.length c7, .int .i64 p.kind, .slice a8 p.name.length c8, .slice a9 p.text.length c9, (if b22 = true then x66 else .slice va vn vc)] 107 → (b20 = false → OwAttrs w (.slice va vn vc) (p.attrs.take k) Fa) → (b0 = true → x46 = .pointer (some ⟨pb, 8, none⟩)) → (b1 = true → x47 = .slice va vn vc) → (b3 = true → x49 = .pointer (some ⟨bp, 8, none⟩)) → (b4 = true → x50 = .slice (some ⟨ab, aoff, none⟩) p.attrs.length ca) → (b5 = true → x51 = .int .i64 (k : Int)) → (b6 = true → x52 = .pointer (some ⟨ab, aoff + k * 2, none⟩)) → (b7 = true → x53 = .pointer (some ⟨ab, aoff + k * 2, none⟩)) → (b8 = true → x54 = .slice n1 x.1.length n2) → (b11 = true → x57 = .pointer (some ⟨bp, 8, none⟩)) → (b12 = true → x58 = .slice (some ⟨ab, aoff, none⟩) p.attrs.length ca) → (b13 = true → x59 = .int .i64 (k : Int)) → (b14 = true → x60 = .pointer (some ⟨ab, aoff + k * 2, none⟩)) → (b15 = true → x61 = .pointer (some ⟨ab, aoff + k * 2 + 1, none⟩)) → (b16 = true → x62 = .slice v1 x.2.length v2) → (b18 = true → b9 = true ∧ b17 = true ∧ x64 = .agg #[x55, x63]) → (b19 = true → b18 = true ∧ ∃ z, wr.heap.size ≤ z ∧ x65 = .slice (some ⟨z, 0, none⟩) 1 1 ∧ Loc w z #[x55, x63] 108) → (b20 = true → b1 = true ∧ b19 = true ∧ ∃ g9 cap9 F9, x66 = .slice (some ⟨g9, 0, none⟩) (k + 1) cap9 ∧ OwAttrs w x66 (p.attrs.take k ++ [x]) F9 ∧ F9.Nodup ∧ ∀ q ∈ F9, (q ∈ Fa ∨ wr.heap.size ≤ q) ∧ q < w.heap.size) → (b21 = true → x67 = .pointer (some ⟨pb, 8, none⟩)) → (b22 = true → b20 = true) → C) → C
theorem Os10_cases {i : Nat} (h : i < 23) : i = 0 ∨ i = 1 ∨ i = 2 ∨ i = 3 ∨ i = 4 ∨ i = 5 ∨ i = 6 ∨ i = 7 ∨ i = 8 ∨ i = 9 ∨ i = 10 ∨ i = 11 ∨ i = 12 ∨ i = 13 ∨ i = 14 ∨ i = 15 ∨ i = 16 ∨ i = 17 ∨ i = 18 ∨ i = 19 ∨ i = 20 ∨ i = 21 ∨ i = 22 := by omega
set_option maxHeartbeats 25600000 in
theorem ownSt_any : OwnStSaid BdO := by
  intro w a c l h hBd
  have hA : Below w.heap.size w (((w.alloc (.cells #[.slice a l.length c] 32)).alloc (.cells #[.slice none 0 0] 32)).alloc (.cells #[.slice none 0 0] 32)) := bstep (bstep ((Below.refl _ _).alloc (Nat.le_refl _) _) ((Below.refl _ _).alloc (Nat.le_refl _) _)) ((Below.refl _ _).alloc (Nat.le_refl _) _)
  have l0 := ((Loc.made w #[.slice a l.length c] 32).alloc (.cells #[.slice none 0 0] 32)).alloc (.cells #[.slice none 0 0] 32)
  have l1 := (Loc.made (w.alloc (.cells #[.slice a l.length c] 32)) #[.slice none 0 0] 32).alloc (.cells #[.slice none 0 0] 32)
  have l2 := Loc.made ((w.alloc (.cells #[.slice a l.length c] 32)).alloc (.cells #[.slice none 0 0] 32)) #[.slice none 0 0] 32
  simp only [World.size_alloc] at l1 l2
  have hsz : (((w.alloc (.cells #[.slice a l.length c] 32)).alloc (.cells #[.slice none 0 0] 32)).alloc (.cells #[.slice none 0 0] 32)).heap.size = w.heap.size + 3 := by simp
  have LL := hide (And.intro hA (And.intro l0 (And.intro l1 (And.intro l2 hsz))))
  have HR := hide h
  have HB := hide hBd
  have hl63 : l.length ≤ 100000000 := hBd.1
  clear hA l0 l1 l2 hsz h hBd
  go_enter Tryz.func24, Tryz.ntmps24
  go_wp2_with fail
  obtain ⟨hA, l0, l1, l2, hsz⟩ := unhide LL
  clear LL
  generalize (((w.alloc (.cells #[.slice a l.length c] 32)).alloc (.cells #[.slice none 0 0] 32)).alloc (.cells #[.slice none 0 0] 32)) = w1 at *
  go_loopw [4] (fun iv wr => ∃ (j : Nat) (a' : Option Addr) (c' : Nat) (F : List Nat), j ≤ l.length ∧ iv = .int .i64 (j : Int) ∧ Loc wr w.heap.size #[.slice a l.length c] 32 ∧ Loc wr (w.heap.size + 1) #[.slice none 0 0] 32 ∧ Loc wr (w.heap.size + 2) #[.slice a' j c'] 32 ∧ OwPls wr (.slice a' j c') (l.take j) F ∧ F.Nodup ∧ (∀ q ∈ F, w.heap.size + 3 ≤ q ∧ q < wr.heap.size) ∧ Below w.heap.size w wr) (fun iv _ => ((l.length : Int) - intOf iv).toNat)
  case atStart => exact ⟨0, none, 0, [], Nat.zero_le _, rfl, l0, l1, l2, ⟨[], [], rfl, rfl, fun i hi => (by cases hi), World.ownsRow_nil _ _ _ _, rfl⟩, List.nodup_nil, fun q hq => (by cases hq), hA⟩
  case round =>
    clear l0 l1 l2 hA hsz
    obtain ⟨j, a', c', F, hj, rfl, l0, l1, l2, hpl, hnd, hrg, hA⟩ := hrel
    have v0 : wr.cell? ⟨w.heap.size, 0, none⟩ = some (.slice a l.length c) := l0.cell 0
    by_cases hlt : j < l.length
    · have hlt' : (j : Int) < (l.length : Int) := by omega
      have hj0 : (0 : Int) ≤ (j : Int) := by omega
      obtain ⟨bk, off, rfl, hb9, _, _, C, hC, hcell, hrd⟩ := Elems.at (unhide HR) hlt
      obtain ⟨p, hp⟩ : ∃ p : PlV, p = l[j] := ⟨_, rfl⟩
      have hnext : l.take (j + 1) = l.take j ++ [p] := by rw [List.take_succ_eq_append_getElem hlt, ← hp]
      have hbp : BdP p := (unhide HB).2 p (by rw [hp]; exact List.getElem_mem hlt)
      rw [← hp] at hrd
      obtain ⟨_, _, _, _, eC, hk0, hn0, ht0, ha0⟩ := hrd
      obtain ⟨ak, ck, rfl, _⟩ := hk0.shape
      obtain ⟨an, cn, rfl, _⟩ := hn0.shape
      obtain ⟨tt, ct, rfl, _⟩ := ht0.shape
      obtain ⟨aa, ca, rfl, _⟩ := Elems.shape ha0
      have u0_ : wr.cell? ⟨bk, off + j * 9, none⟩ = some (.int .i64 p.idN) := by have h7 := hcell 0 (by decide); rw [eC] at h7; simp only [List.getElem?_cons_zero, Nat.add_zero] at h7; exact (hA.cell (p := ⟨bk, off + j * 9, none⟩) hb9).trans h7
      have u1_ : wr.cell? ⟨bk, off + j * 9 + 1, none⟩ = some (.int .i64 p.idR) := by have h7 := hcell 1 (by decide); rw [eC] at h7; simp only [List.getElem?_cons_zero, List.getElem?_cons_succ] at h7; exact (hA.cell (p := ⟨bk, off + j * 9 + 1, none⟩) hb9).trans h7
      have u2_ : wr.cell? ⟨bk, off + j * 9 + 2, none⟩ = some (.int .i64 p.parN) := by have h7 := hcell 2 (by decide); rw [eC] at h7; simp only [List.getElem?_cons_zero, List.getElem?_cons_succ] at h7; exact (hA.cell (p := ⟨bk, off + j * 9 + 2, none⟩) hb9).trans h7
      have u3_ : wr.cell? ⟨bk, off + j * 9 + 3, none⟩ = some (.int .i64 p.parR) := by have h7 := hcell 3 (by decide); rw [eC] at h7; simp only [List.getElem?_cons_zero, List.getElem?_cons_succ] at h7; exact (hA.cell (p := ⟨bk, off + j * 9 + 3, none⟩) hb9).trans h7
      have u4_ : wr.cell? ⟨bk, off + j * 9 + 4, none⟩ = some (.slice ak p.key.length ck) := by have h7 := hcell 4 (by decide); rw [eC] at h7; simp only [List.getElem?_cons_zero, List.getElem?_cons_succ] at h7; exact (hA.cell (p := ⟨bk, off + j * 9 + 4, none⟩) hb9).trans h7
      have u5_ : wr.cell? ⟨bk, off + j * 9 + 5, none⟩ = some (.int .i64 p.kind) := by have h7 := hcell 5 (by decide); rw [eC] at h7; simp only [List.getElem?_cons_zero, List.getElem?_cons_succ] at h7; exact (hA.cell (p := ⟨bk, off + j * 9 + 5, none⟩) hb9).trans h7
      have u6_ : wr.cell? ⟨bk, off + j * 9 + 6, none⟩ = some (.slice an p.name.length cn) := by have h7 := hcell 6 (by decide); rw [eC] at h7; simp only [List.getElem?_cons_zero, List.getElem?_cons_succ] at h7; exact (hA.cell (p := ⟨bk, off + j * 9 + 6, none⟩) hb9).trans h7
      have u7_ : wr.cell? ⟨bk, off + j * 9 + 7, none⟩ = some (.slice tt p.text.length ct) := by have h7 := hcell 7 (by decide); rw [eC] at h7; simp only [List.getElem?_cons_zero, List.getElem?_cons_succ] at h7; exact (hA.cell (p := ⟨bk, off + j * 9 + 7, none⟩) hb9).trans h7
      have u8_ : wr.cell? ⟨bk, off + j * 9 + 8, none⟩ = some (.slice aa p.attrs.length ca) := by have h7 := hcell 8 (by decide); rw [eC] at h7; simp only [List.getElem?_cons_zero, List.getElem?_cons_succ] at h7; exact (hA.cell (p := ⟨bk, off + j * 9 + 8, none⟩) hb9).trans h7
      have hAa : Below wr.heap.size wr (wr.alloc (.cells #[.int .i64 p.idN, .int .i64 p.idR, .int .i64 p.parN, .int .i64 p.parR, .slice ak p.key.length ck, .int .i64 p.kind, .slice an p.name.length cn, .slice tt p.text.length ct, .slice aa p.attrs.length ca] 107)) := (Below.refl _ _).alloc (Nat.le_refl _) _
      have LL := hide (And.intro (Loc.made wr #[.int .i64 p.idN, .int .i64 p.idR, .int .i64 p.parN, .int .i64 p.parR, .slice ak p.key.length ck, .int .i64 p.kind, .slice an p.name.length cn, .slice tt p.text.length ct, .slice aa p.attrs.length ca] 107) (And.intro (l0.all hAa) (And.intro (l1.all hAa) (And.intro (l2.all hAa) (And.intro (OwPls.frm hpl (Frm.ofBelow hAa []) (fun _ _ => by simp)) (And.intro (bstep hA hAa) (show (wr.alloc (.cells #[.int .i64 p.idN, .int .i64 p.idR, .int .i64 p.parN, .int .i64 p.parR, .slice ak p.key.length ck, .int .i64 p.kind, .slice an p.name.length cn, .slice tt p.text.length ct, .slice aa p.attrs.length ca] 107)).heap.size = wr.heap.size + 1 by simp)))))))
      have HK := hide (And.intro (hk0.keep (bstep hA hAa)) (And.intro (hn0.keep (bstep hA hAa)) (And.intro (ht0.keep (bstep hA hAa)) ha0)))
      have HN := hide hnext
      have HF := hide (And.intro hnd hrg)
      have LW := hide (show w.heap.size + 3 ≤ wr.heap.size from l2.lt)
      have HBP := hide hbp
      clear hpl hA l0 l1 l2 hAa hnext hk0 hn0 ht0 ha0 eC hcell hp hnd hrg hbp
      go_upto_region 6 with fail
      obtain ⟨lb, l0, l1, l2, hpl, hA, hw5⟩ := unhide LL
      clear LL u0_ u1_ u2_ u3_ u4_ u5_ u6_ u7_ u8_
      obtain ⟨hk5, hn5, ht5, ha0⟩ := unhide HK
      obtain ⟨hnd, hrg⟩ := unhide HF
      have hwr3 := unhide LW
      clear LW HK HF
      generalize wr.alloc (.cells #[.int .i64 p.idN, .int .i64 p.idR, .int .i64 p.parN, .int .i64 p.parR, .slice ak p.key.length ck, .int .i64 p.kind, .slice an p.name.length cn, .slice tt p.text.length ct, .slice aa p.attrs.length ca] 107) = w5 at *
      generalize wr.heap.size = bp at *
      have k0 := lb.cell 0
      have k1 := lb.cell 1
      have k2 := lb.cell 2
      have k3 := lb.cell 3
      have k4 := lb.cell 4
      have k5 := lb.cell 5
      have k6 := lb.cell 6
      have k7 := lb.cell 7
      have bp5 := lb.lt
      have hbp9 := unhide HBP
      obtain ⟨hq1, hq2, hq3, hq4, _⟩ := hbp9
      have HX := hide (And.intro lb (And.intro l0 (And.intro l1 (And.intro l2 (And.intro hpl (And.intro hnd hrg))))))
      clear lb l0 l1 l2 hpl hnd hrg
      refine region_inv (by kernel_rfl) (Os6 w5 bp p ak an tt ck cn ct (.agg #[.slice (some ⟨bk, off, none⟩) l.length c]) (.pointer (some ⟨w.heap.size, 0, none⟩)) (.pointer (some ⟨w.heap.size + 1, 0, none⟩)) (.pointer (some ⟨w.heap.size + 2, 0, none⟩)) (.int .i64 (j : Int)) (u7) (.int .i64 (j : Int)) (.pointer (some ⟨w.heap.size, 0, none⟩)) (.slice (some ⟨bk, off, none⟩) l.length c) (.int .i64 (l.length : Int)) (.bool true) (u13) (u14) (.pointer (some ⟨w.heap.size, 0, none⟩)) (.slice (some ⟨bk, off, none⟩) l.length c) (.int .i64 (j : Int)) (.pointer (some ⟨bk, off + j * 9, none⟩)) (.agg #[.int .i64 p.idN, .int .i64 p.idR, .int .i64 p.parN, .int .i64 p.parR, .slice ak p.key.length ck, .int .i64 p.kind, .slice an p.name.length cn, .slice tt p.text.length ct, .slice aa p.attrs.length ca]) (u39) (u40) (u41) (u42) (u43) (u44) (u45) (u46) (u47) (u48) (u49) (u50) (u51) (u52) (u53) (u54) (u55) (u56) (u57) (u58) (u59) (u60) (u61) (u62) (u63) (u64) (u65) (u66) (u67) (u68) (u69) (u70) (u71) (u72) (u73) (undef)) ?sz ?h0 ?stp ?dn
      case sz =>
        intro L a w hI
        refine hI _ ?_
        intro b0 b1 b2 b3 b4 b5 b6 b7 b8 b9 b10 b11 b12 b13 b14 b15 b16 b17 b18 b19 b20 x6 x20 x21 x22 x23 x24 x25 x26 x27 x28 x29 x30 x31 x32 x33 x34 x35 x36 x37 x38 eL eA h0 h1 h2 h3 h4 f0 f1 f2 f3 f5 f6 f8 f9 f11 f12 f15 f16 f18 f19 f20
        subst eL
        rfl
      case h0 =>
        exact fun _ k_ => k_ false false false false false false false false false false false false false false false false false false false false false _ _ _ _ _ _ _ _ _ _ _ _ _ _ _ _ _ _ _ _ rfl rfl ((Below.refl _ _).drew) (RwZ.start _ _ _ _ _) (RwB.start _ _ _ _ _) (RwB.start _ _ _ _ _) (fun q hq => by simp [Cb] at hq) (fun h => by cases h) (fun h => by cases h) (fun h => by cases h) (fun h => by cases h) (fun h => by cases h) (fun h => by cases h) (fun h => by cases h) (fun h => by cases h) (fun h => by cases h) (fun h => by cases h) (fun h => by cases h) (fun h => by cases h) (fun h => by cases h) (fun h => by cases h) (fun h => by cases h)
      case stp =>
        intro L a_9 w9_ i_ o_ hI hi ho
        refine hI _ ?_
        clear hI
        intro b0 b1 b2 b3 b4 b5 b6 b7 b8 b9 b10 b11 b12 b13 b14 b15 b16 b17 b18 b19 b20 x6 x20 x21 x22 x23 x24 x25 x26 x27 x28 x29 x30 x31 x32 x33 x34 x35 x36 x37 x38 eL eA h0 h1 h2 h3 h4 f0 f1 f2 f3 f5 f6 f8 f9 f11 f12 f15 f16 f18 f19 f20
        subst eL eA
        rcases Os6_cases (ready_lt hi) with rfl | rfl | rfl | rfl | rfl | rfl | rfl | rfl | rfl | rfl | rfl | rfl | rfl | rfl | rfl | rfl | rfl | rfl | rfl | rfl | rfl
        · obtain rfl := Option.some.inj ho
          go_simp
          exact fun _ k_ => k_ true b1 b2 b3 b4 b5 b6 b7 b8 b9 b10 b11 b12 b13 b14 b15 b16 b17 b18 b19 b20 x6 _ x21 x22 x23 x24 x25 x26 x27 x28 x29 x30 x31 x32 x33 x34 x35 x36 x37 x38 rfl rfl h0 h1 h2 h3 h4 (fun _ => rfl) f1 f2 f3 f5 f6 f8 f9 f11 f12 f15 f16 f18 f19 f20
        · have g0 := ready_pred hi ho 0
          obtain rfl := Option.some.inj ho
          have e0 := f0 (g0 (by kernel_rfl))
          subst e0
          have k0_ := (h0.cell (p := ⟨bp, 0, none⟩) bp5).trans k0
          have k1_ := (h0.cell (p := ⟨bp, 1, none⟩) bp5).trans k1
          go_simp
          exact fun _ k_ => k_ b0 true b2 b3 b4 b5 b6 b7 b8 b9 b10 b11 b12 b13 b14 b15 b16 b17 b18 b19 b20 x6 _ _ x22 x23 x24 x25 x26 x27 x28 x29 x30 x31 x32 x33 x34 x35 x36 x37 x38 rfl rfl h0 h1 h2 h3 h4 f0 (fun _ => rfl) f2 f3 f5 f6 f8 f9 f11 f12 f15 f16 f18 f19 f20
        · obtain rfl := Option.some.inj ho
          go_simp
          exact fun _ k_ => k_ b0 b1 true b3 b4 b5 b6 b7 b8 b9 b10 b11 b12 b13 b14 b15 b16 b17 b18 b19 b20 x6 x20 x21 _ x23 x24 x25 x26 x27 x28 x29 x30 x31 x32 x33 x34 x35 x36 x37 x38 rfl rfl h0 h1 h2 h3 h4 f0 f1 (fun _ => rfl) f3 f5 f6 f8 f9 f11 f12 f15 f16 f18 f19 f20
        · have g2 := ready_pred hi ho 2
          obtain rfl := Option.some.inj ho
          have e2 := f2 (g2 (by kernel_rfl))
          subst e2
          have k2_ := (h0.cell (p := ⟨bp, 2, none⟩) bp5).trans k2
          have k3_ := (h0.cell (p := ⟨bp, 3, none⟩) bp5).trans k3
          go_simp
          exact fun _ k_ => k_ b0 b1 b2 true b4 b5 b6 b7 b8 b9 b10 b11 b12 b13 b14 b15 b16 b17 b18 b19 b20 x6 x20 x21 _ _ x24 x25 x26 x27 x28 x29 x30 x31 x32 x33 x34 x35 x36 x37 x38 rfl rfl h0 h1 h2 h3 h4 f0 f1 f2 (fun _ => rfl) f5 f6 f8 f9 f11 f12 f15 f16 f18 f19 f20
        · have hbz : b4 = false := by simpa using ready_off rfl hi
          obtain rfl := Option.some.inj ho
          subst hbz
          have hb9 : Below w9_.heap.size w9_ (w9_.alloc (.cells #[] 3)) := (Below.refl _ _).alloc (Nat.le_refl _) _
          go_simp
          exact fun _ k_ => k_ b0 b1 b2 b3 true b5 b6 b7 b8 b9 b10 b11 b12 b13 b14 b15 b16 b17 b18 b19 b20 x6 x20 x21 x22 x23 _ x25 x26 x27 x28 x29 x30 x31 x32 x33 x34 x35 x36 x37 x38 rfl rfl (bstep h0 hb9) (h1.make h0.size) (h2.keep hb9) (h3.keep hb9) h4 f0 f1 f2 f3 f5 f6 f8 f9 f11 f12 f15 f16 f18 (fun h => by obtain ⟨pb, e, hz, t⟩ := f19 h; exact ⟨pb, e, hz, fun h => (t h).all hb9⟩) (fun h => by obtain ⟨p1, p2, pb, e, t⟩ := f20 h; exact ⟨p1, p2, pb, e, t.all hb9⟩)
        · obtain rfl := Option.some.inj ho
          go_simp
          exact fun _ k_ => k_ b0 b1 b2 b3 b4 true b6 b7 b8 b9 b10 b11 b12 b13 b14 b15 b16 b17 b18 b19 b20 x6 x20 x21 x22 x23 x24 _ x26 x27 x28 x29 x30 x31 x32 x33 x34 x35 x36 x37 x38 rfl rfl h0 h1 h2 h3 h4 f0 f1 f2 f3 (fun _ => rfl) f6 f8 f9 f11 f12 f15 f16 f18 f19 f20
        · have g5 := ready_pred hi ho 5
          obtain rfl := Option.some.inj ho
          have e5 := f5 (g5 (by kernel_rfl))
          subst e5
          have k4_ := (h0.cell (p := ⟨bp, 4, none⟩) bp5).trans k4
          go_simp
          exact fun _ k_ => k_ b0 b1 b2 b3 b4 b5 true b7 b8 b9 b10 b11 b12 b13 b14 b15 b16 b17 b18 b19 b20 x6 x20 x21 x22 x23 x24 _ _ x27 x28 x29 x30 x31 x32 x33 x34 x35 x36 x37 x38 rfl rfl h0 h1 h2 h3 h4 f0 f1 f2 f3 f5 (fun _ => rfl) f8 f9 f11 f12 f15 f16 f18 f19 f20
        · have gs := ready_pred hi ho 6
          have gr := ready_pred hi ho 4
          obtain rfl := Option.some.inj ho
          have es := f6 (gs (by kernel_rfl))
          have er : b4 = true := gr (by kernel_rfl)
          have hbi : b7 = false := by simpa using ready_off rfl hi
          subst es er hbi
          have hown := h1.1 rfl rfl
          have hcz : ∀ q ∈ FB x24, q ∈ Cb true false x24 x27 := fun q hq => by simpa [Cb] using hq
          refine step_appZ (by rfl) (.tmp 24) (.tmp 26) (by rfl) w5.heap.size x24 [] (by rfl) hown (.slice ak p.key.length ck) p.key (by rfl) (hk5.keep h0) (by simp; omega) h0.size ?_
          intro v9 w9b ho9 hg9 hat9
          rw [List.nil_append] at ho9
          have hF9 : Frm w9_ w9b (FB x24) := Frm.ofGrown hg9
          have hB9 := h0.trans (hF9.below h0.size (fun q hq => (hown.lt q (by simpa [FB] using hq)).1))
          exact fun _ k_ => k_ b0 b1 b2 b3 true b5 b6 true b8 b9 b10 b11 b12 b13 b14 b15 b16 b17 b18 b19 b20 x6 x20 x21 x22 x23 x24 x25 _ _ x28 x29 x30 x31 x32 x33 x34 x35 x36 x37 x38 rfl rfl hB9 (⟨fun _ e => (by cases e), fun _ => ⟨rfl, ho9⟩⟩) (h2.frm hF9 (fun q hq hq' => Rw.zb h1 h2 q (hcz q hq') hq)) (h3.frm hF9 (fun q hq hq' => Rw.zb h1 h3 q (hcz q hq') hq)) h4 f0 f1 f2 f3 f5 (fun _ => rfl) f8 f9 f11 f12 f15 f16 (fun h => by have := (f18 h).1; cases this) (fun h => by obtain ⟨pb, e, hz, t⟩ := f19 h; exact ⟨pb, e, hz, fun e9 => (t e9).frm hF9 (own_loc hown.2 (t e9) (by decide))⟩) (fun h => by have := (f18 (f20 h).1).1; cases this)
        · obtain rfl := Option.some.inj ho
          go_simp
          exact fun _ k_ => k_ b0 b1 b2 b3 b4 b5 b6 b7 true b9 b10 b11 b12 b13 b14 b15 b16 b17 b18 b19 b20 x6 x20 x21 x22 x23 x24 x25 x26 x27 _ x29 x30 x31 x32 x33 x34 x35 x36 x37 x38 rfl rfl h0 h1 h2 h3 h4 f0 f1 f2 f3 f5 f6 (fun _ => rfl) f9 f11 f12 f15 f16 f18 f19 f20
        · have g8 := ready_pred hi ho 8
          obtain rfl := Option.some.inj ho
          have e8 := f8 (g8 (by kernel_rfl))
          subst e8
          have k5_ := (h0.cell (p := ⟨bp, 5, none⟩) bp5).trans k5
          go_simp
          exact fun _ k_ => k_ b0 b1 b2 b3 b4 b5 b6 b7 b8 true b10 b11 b12 b13 b14 b15 b16 b17 b18 b19 b20 x6 x20 x21 x22 x23 x24 x25 x26 x27 _ _ x30 x31 x32 x33 x34 x35 x36 x37 x38 rfl rfl h0 h1 h2 h3 h4 f0 f1 f2 f3 f5 f6 f8 (fun _ => rfl) f11 f12 f15 f16 f18 f19 f20
        · have hbz : b10 = false := by simpa using ready_off rfl hi
          obtain rfl := Option.some.inj ho
          subst hbz
          have hb9 : Below w9_.heap.size w9_ (w9_.alloc (.cells #[] 5)) := (Below.refl _ _).alloc (Nat.le_refl _) _
          go_simp
          exact fun _ k_ => k_ b0 b1 b2 b3 b4 b5 b6 b7 b8 b9 true b11 b12 b13 b14 b15 b16 b17 b18 b19 b20 x6 x20 x21 x22 x23 x24 x25 x26 x27 x28 x29 _ x31 x32 x33 x34 x35 x36 x37 x38 rfl rfl (bstep h0 hb9) (h1.keep hb9) (h2.make h0.size) (h3.keep hb9) (fun q hq hq' => by have e1 := h2.here hq; have e2 := (h3.lt hq').2; omega) f0 f1 f2 f3 f5 f6 f8 f9 f11 f12 f15 f16 f18 (fun h => by obtain ⟨pb, e, hz, t⟩ := f19 h; exact ⟨pb, e, hz, fun h => (t h).all hb9⟩) (fun h => by obtain ⟨p1, p2, pb, e, t⟩ := f20 h; exact ⟨p1, p2, pb, e, t.all hb9⟩)
        · obtain rfl := Option.some.inj ho
          go_simp
          exact fun _ k_ => k_ b0 b1 b2 b3 b4 b5 b6 b7 b8 b9 b10 true b12 b13 b14 b15 b16 b17 b18 b19 b20 x6 x20 x21 x22 x23 x24 x25 x26 x27 x28 x29 x30 _ x32 x33 x34 x35 x36 x37 x38 rfl rfl h0 h1 h2 h3 h4 f0 f1 f2 f3 f5 f6 f8 f9 (fun _ => rfl) f12 f15 f16 f18 f19 f20
        · have g11 := ready_pred hi ho 11
          obtain rfl := Option.some.inj ho
          have e11 := f11 (g11 (by kernel_rfl))
          subst e11
          have k6_ := (h0.cell (p := ⟨bp, 6, none⟩) bp5).trans k6
          go_simp
          exact fun _ k_ => k_ b0 b1 b2 b3 b4 b5 b6 b7 b8 b9 b10 b11 true b13 b14 b15 b16 b17 b18 b19 b20 x6 x20 x21 x22 x23 x24 x25 x26 x27 x28 x29 x30 _ _ x33 x34 x35 x36 x37 x38 rfl rfl h0 h1 h2 h3 h4 f0 f1 f2 f3 f5 f6 f8 f9 f11 (fun _ => rfl) f15 f16 f18 f19 f20
        · have gs := ready_pred hi ho 12
          have gr := ready_pred hi ho 10
          obtain rfl := Option.some.inj ho
          have es := f12 (gs (by kernel_rfl))
          have er : b10 = true := gr (by kernel_rfl)
          have hbi : b13 = false := by simpa using ready_off rfl hi
          subst es er hbi
          have hown := h2.1 rfl rfl
          have hcz : ∀ q ∈ FB x30, q ∈ Cb true false x30 x33 := fun q hq => by simpa [Cb] using hq
          refine step_appAt (by rfl) (.tmp 30) (.tmp 32) (by rfl) w5.heap.size x30 [] (by rfl) hown (.slice an p.name.length cn) p.name (by rfl) (hn5.keep h0) (by simp; omega) h0.size ?_
          intro v9 w9b ho9 hg9 hat9
          rw [List.nil_append] at ho9
          have hF9 : Frm w9_ w9b (FB x30) := Frm.ofGrown hg9
          have hB9 := h0.trans (hF9.below h0.size (fun q hq => (hown.lt q (by simpa [FB] using hq)).1))
          exact fun _ k_ => k_ b0 b1 b2 b3 b4 b5 b6 b7 b8 b9 true b11 b12 true b14 b15 b16 b17 b18 b19 b20 x6 x20 x21 x22 x23 x24 x25 x26 x27 x28 x29 x30 x31 _ _ x34 x35 x36 x37 x38 rfl rfl hB9 (h1.frm hF9 (fun q hq hq' => Rw.zb h1 h2 q hq (hcz q hq'))) (⟨fun _ e => (by cases e), fun _ => ⟨rfl, ho9⟩⟩) (h3.frm hF9 (fun q hq hq' => h4 q (hcz q hq') hq)) (fun q hq hq' => by rcases at_of hat9 q (by simpa [Cb] using hq) with e | e; (exact h4 q (hcz q e) hq'); (have := (h3.lt hq').2; omega)) f0 f1 f2 f3 f5 f6 f8 f9 f11 (fun _ => rfl) f15 f16 (fun h => by have := (f18 h).2.1; cases this) (fun h => by obtain ⟨pb, e, hz, t⟩ := f19 h; exact ⟨pb, e, hz, fun e9 => (t e9).frm hF9 (own_loc hown.2 (t e9) (by decide))⟩) (fun h => by have := (f18 (f20 h).1).2.1; cases this)
        · have hbz : b14 = false := by simpa using ready_off rfl hi
          obtain rfl := Option.some.inj ho
          subst hbz
          have hb9 : Below w9_.heap.size w9_ (w9_.alloc (.cells #[] 5)) := (Below.refl _ _).alloc (Nat.le_refl _) _
          go_simp
          exact fun _ k_ => k_ b0 b1 b2 b3 b4 b5 b6 b7 b8 b9 b10 b11 b12 b13 true b15 b16 b17 b18 b19 b20 x6 x20 x21 x22 x23 x24 x25 x26 x27 x28 x29 x30 x31 x32 x33 _ x35 x36 x37 x38 rfl rfl (bstep h0 hb9) (h1.keep hb9) (h2.keep hb9) (h3.make h0.size) (fun q hq hq' => by have e1 := h3.here hq'; have e2 := (h2.lt hq).2; omega) f0 f1 f2 f3 f5 f6 f8 f9 f11 f12 f15 f16 f18 (fun h => by obtain ⟨pb, e, hz, t⟩ := f19 h; exact ⟨pb, e, hz, fun h => (t h).all hb9⟩) (fun h => by obtain ⟨p1, p2, pb, e, t⟩ := f20 h; exact ⟨p1, p2, pb, e, t.all hb9⟩)
        · obtain rfl := Option.some.inj ho
          go_simp
          exact fun _ k_ => k_ b0 b1 b2 b3 b4 b5 b6 b7 b8 b9 b10 b11 b12 b13 b14 true b16 b17 b18 b19 b20 x6 x20 x21 x22 x23 x24 x25 x26 x27 x28 x29 x30 x31 x32 x33 x34 _ x36 x37 x38 rfl rfl h0 h1 h2 h3 h4 f0 f1 f2 f3 f5 f6 f8 f9 f11 f12 (fun _ => rfl) f16 f18 f19 f20
        · have g15 := ready_pred hi ho 15
          obtain rfl := Option.some.inj ho
          have e15 := f15 (g15 (by kernel_rfl))
          subst e15
          have k7_ := (h0.cell (p := ⟨bp, 7, none⟩) bp5).trans k7
          go_simp
          exact fun _ k_ => k_ b0 b1 b2 b3 b4 b5 b6 b7 b8 b9 b10 b11 b12 b13 b14 b15 true b17 b18 b19 b20 x6 x20 x21 x22 x23 x24 x25 x26 x27 x28 x29 x30 x31 x32 x33 x34 _ _ x37 x38 rfl rfl h0 h1 h2 h3 h4 f0 f1 f2 f3 f5 f6 f8 f9 f11 f12 f15 (fun _ => rfl) f18 f19 f20
        · have gs := ready_pred hi ho 16
          have gr := ready_pred hi ho 14
          obtain rfl := Option.some.inj ho
          have es := f16 (gs (by kernel_rfl))
          have er : b14 = true := gr (by kernel_rfl)
          have hbi : b17 = false := by simpa using ready_off rfl hi
          subst es er hbi
          have hown := h3.1 rfl rfl
          have hcz : ∀ q ∈ FB x34, q ∈ Cb true false x34 x37 := fun q hq => by simpa [Cb] using hq
          refine step_appAt (by rfl) (.tmp 34) (.tmp 36) (by rfl) w5.heap.size x34 [] (by rfl) hown (.slice tt p.text.length ct) p.text (by rfl) (ht5.keep h0) (by simp; omega) h0.size ?_
          intro v9 w9b ho9 hg9 hat9
          rw [List.nil_append] at ho9
          have hF9 : Frm w9_ w9b (FB x34) := Frm.ofGrown hg9
          have hB9 := h0.trans (hF9.below h0.size (fun q hq => (hown.lt q (by simpa [FB] using hq)).1))
          exact fun _ k_ => k_ b0 b1 b2 b3 b4 b5 b6 b7 b8 b9 b10 b11 b12 b13 true b15 b16 true b18 b19 b20 x6 x20 x21 x22 x23 x24 x25 x26 x27 x28 x29 x30 x31 x32 x33 x34 x35 _ _ x38 rfl rfl hB9 (h1.frm hF9 (fun q hq hq' => Rw.zb h1 h3 q hq (hcz q hq'))) (h2.frm hF9 (fun q hq hq' => h4 q hq (hcz q hq'))) (⟨fun _ e => (by cases e), fun _ => ⟨rfl, ho9⟩⟩) (fun q hq hq' => by rcases at_of hat9 q (by simpa [Cb] using hq') with e | e; (exact h4 q hq (hcz q e)); (have := (h2.lt hq).2; omega)) f0 f1 f2 f3 f5 f6 f8 f9 f11 f12 f15 (fun _ => rfl) (fun h => by have := (f18 h).2.2.1; cases this) (fun h => by obtain ⟨pb, e, hz, t⟩ := f19 h; exact ⟨pb, e, hz, fun e9 => (t e9).frm hF9 (own_loc hown.2 (t e9) (by decide))⟩) (fun h => by have := (f18 (f20 h).1).2.2.1; cases this)
        · have g1 := ready_pred hi ho 1
          have g3 := ready_pred hi ho 3
          have g9 := ready_pred hi ho 9
          have g7 := ready_pred hi ho 7
          have g13 := ready_pred hi ho 13
          have g17 := ready_pred hi ho 17
          obtain rfl := Option.some.inj ho
          have e1_ := f1 (g1 (by kernel_rfl))
          have e3_ := f3 (g3 (by kernel_rfl))
          have e9_ := f9 (g9 (by kernel_rfl))
          have t7 : b7 = true := g7 (by kernel_rfl)
          have t13 : b13 = true := g13 (by kernel_rfl)
          have t17 : b17 = true := g17 (by kernel_rfl)
          obtain ⟨a7, c7, hv7, _, _⟩ := (h1.2 t7).2.ints.shape
          obtain ⟨a8, c8, hv8, _, _⟩ := (h2.2 t13).2.byt.shape
          obtain ⟨a9, c9, hv9, _, _⟩ := (h3.2 t17).2.byt.shape
          subst hv7 hv8 hv9 e1_ e3_ e9_
          have T9 := hide (And.intro t7 (And.intro t13 t17))
          clear t7 t13 t17
          go_simp
          exact fun _ k_ => k_ b0 b1 b2 b3 b4 b5 b6 b7 b8 b9 b10 b11 b12 b13 b14 b15 b16 b17 true b19 b20 x6 x20 _ x22 _ x24 x25 x26 _ x28 _ x30 x31 x32 _ x34 x35 x36 _ _ rfl rfl h0 h1 h2 h3 h4 f0 (fun _ => rfl) f2 (fun _ => rfl) f5 f6 f8 (fun _ => rfl) f11 f12 f15 f16 (fun _ => ⟨(unhide T9).1, (unhide T9).2.1, (unhide T9).2.2, rfl⟩) f19 (fun h => ⟨rfl, (f20 h).2⟩)
        · have hbz : b19 = false := by simpa using ready_off rfl hi
          obtain rfl := Option.some.inj ho
          have hb9 : Below w9_.heap.size w9_ (w9_.alloc (.cells #[.int .i64 0, .int .i64 0, .int .i64 0, .int .i64 0, .slice none 0 0, .int .i64 0, .slice none 0 0, .slice none 0 0, .slice none 0 0] 107)) := (Below.refl _ _).alloc (Nat.le_refl _) _
          have lm9 := Loc.made w9_ #[.int .i64 0, .int .i64 0, .int .i64 0, .int .i64 0, .slice none 0 0, .int .i64 0, .slice none 0 0, .slice none 0 0, .slice none 0 0] 107
          have hw9 := h0.size
          have HBZ := hide hbz
          clear hbz
          go_simp
          exact fun _ k_ => k_ b0 b1 b2 b3 b4 b5 b6 b7 b8 b9 b10 b11 b12 b13 b14 b15 b16 b17 b18 true b20 _ x20 x21 x22 x23 x24 x25 x26 x27 x28 x29 x30 x31 x32 x33 x34 x35 x36 x37 x38 rfl rfl (bstep h0 hb9) (h1.keep hb9) (h2.keep hb9) (h3.keep hb9) h4 f0 f1 f2 f3 f5 f6 f8 f9 f11 f12 f15 f16 f18 (fun _ => ⟨w9_.heap.size, rfl, hw9, fun _ => lm9⟩) (fun h => by have := (f20 h).2.1; rw [unhide HBZ] at this; cases this)
        · have g18 := ready_pred hi ho 18
          have g19 := ready_pred hi ho 19
          have hbz : b20 = false := by simpa using ready_off rfl hi
          obtain rfl := Option.some.inj ho
          have t18 : b18 = true := g18 (by kernel_rfl)
          have t19 : b19 = true := g19 (by kernel_rfl)
          obtain ⟨t7, t13, t17, en⟩ := f18 t18
          obtain ⟨pb, ep, hp, lp0⟩ := f19 t19
          have lp := lp0 hbz
          obtain ⟨a7, c7, hv7, _, _⟩ := (h1.2 t7).2.ints.shape
          obtain ⟨a8, c8, hv8, _, _⟩ := (h2.2 t13).2.byt.shape
          obtain ⟨a9, c9, hv9, _, _⟩ := (h3.2 t17).2.byt.shape
          subst hv7 hv8 hv9
          obtain ⟨lpn, fpn⟩ := store9 lp (.int .i64 p.idN) (.int .i64 p.idR) (.int .i64 p.parN) (.int .i64 p.parR) (.slice a7 p.key.length c7) (.int .i64 p.kind) (.slice a8 p.name.length c8) (.slice a9 p.text.length c9) (.slice none 0 0)
          have hB9 := h0.trans (fpn.below h0.size (fun q hq => by simp at hq; omega))
          have n1 := h1.frm fpn (fun q hq hq' => h1.notL lp (by decide) (by have e9 : q = pb := (by simpa using hq'); rw [← e9]; exact hq))
          have n2 := h2.frm fpn (fun q hq hq' => h2.notL lp (by decide) (by have e9 : q = pb := (by simpa using hq'); rw [← e9]; exact hq))
          have n3 := h3.frm fpn (fun q hq hq' => h3.notL lp (by decide) (by have e9 : q = pb := (by simpa using hq'); rw [← e9]; exact hq))
          have fz0 := lp.frozen 0
          have fz1 := lp.frozen 1
          have fz2 := lp.frozen 2
          have fz3 := lp.frozen 3
          have fz4 := lp.frozen 4
          have fz5 := lp.frozen 5
          have fz6 := lp.frozen 6
          have fz7 := lp.frozen 7
          have fz8 := lp.frozen 8
          have cz0 := lp.cell 0
          have cz1 := lp.cell 1
          have cz2 := lp.cell 2
          have cz3 := lp.cell 3
          have cz4 := lp.cell 4
          have cz5 := lp.cell 5
          have cz6 := lp.cell 6
          have cz7 := lp.cell 7
          have cz8 := lp.cell 8
          have HW := hide (And.intro t18 (And.intro t19 (And.intro t7 (And.intro t13 (And.intro t17 (And.intro lpn (And.intro hB9 (And.intro n1 (And.intro n2 n3)))))))))
          clear t18 t19 t7 t13 t17 lpn fpn hB9 n1 n2 n3 hbz lp lp0
          subst ep en
          go_simp
          exact fun _ k_ => k_ b0 b1 b2 b3 b4 b5 b6 b7 b8 b9 b10 b11 b12 b13 b14 b15 b16 b17 b18 b19 true _ x20 x21 x22 x23 x24 x25 x26 _ x28 x29 x30 x31 x32 _ x34 x35 x36 _ _ rfl rfl ((unhide HW).2.2.2.2.2.2.1) ((unhide HW).2.2.2.2.2.2.2.1) ((unhide HW).2.2.2.2.2.2.2.2.1) ((unhide HW).2.2.2.2.2.2.2.2.2) h4 f0 f1 f2 f3 f5 f6 f8 f9 f11 f12 f15 f16 (fun _ => ⟨(unhide HW).2.2.1, (unhide HW).2.2.2.1, (unhide HW).2.2.2.2.1, rfl⟩) (fun _ => ⟨pb, rfl, hp, fun h => by cases h⟩) (fun _ => ⟨(unhide HW).1, (unhide HW).2.1, pb, rfl, (unhide HW).2.2.2.2.2.1⟩)
      case dn =>
        intro L a_9 w9_ hI hre
        have hall := ready_all (L := L) (by refine hI _ ?_; intro b0 b1 b2 b3 b4 b5 b6 b7 b8 b9 b10 b11 b12 b13 b14 b15 b16 b17 b18 b19 b20 x6 x20 x21 x22 x23 x24 x25 x26 x27 x28 x29 x30 x31 x32 x33 x34 x35 x36 x37 x38 eL eA h0 h1 h2 h3 h4 f0 f1 f2 f3 f5 f6 f8 f9 f11 f12 f15 f16 f18 f19 f20; subst eL; rfl) (by kernel_rfl) hre 21
        refine hI _ ?_
        clear hI
        intro b0 b1 b2 b3 b4 b5 b6 b7 b8 b9 b10 b11 b12 b13 b14 b15 b16 b17 b18 b19 b20 x6 x20 x21 x22 x23 x24 x25 x26 x27 x28 x29 x30 x31 x32 x33 x34 x35 x36 x37 x38 eL eA h0 h1 h2 h3 h4 f0 f1 f2 f3 f5 f6 f8 f9 f11 f12 f15 f16 f18 f19 f20
        subst eL eA
        have t20 : b20 = true := hall 20 (by omega) (by decide)
        obtain ⟨t18, t19, pb, ep, lp⟩ := f20 t20
        obtain ⟨t7, t13, t17, _⟩ := f18 t18
        obtain ⟨pb9, ep9, hp9, _⟩ := f19 t19
        have EP := ep9.symm.trans ep
        injection EP with y1
        injection y1 with y1
        injection y1 with y1 _ _
        subst y1
        clear ep9
        subst ep
        subst t7 t13 t17
        have o1 := (h1.2 rfl).2
        have o2 := (h2.2 rfl).2
        have o3 := (h3.2 rfl).2
        have d1 : ∀ q ∈ FB x27, q ∉ FB x33 := row_apart o1.2 o2.2 (by decide)
        have d2 : ∀ q ∈ FB x27, q ∉ FB x37 := row_apart o1.2 o3.2 (by decide)
        have d3 : ∀ q ∈ FB x33, q ∉ FB x37 := fun q hq hq' => h4 q (by simpa [Cb] using hq) (by simpa [Cb] using hq')
        have hPo : PoAt w5.heap.size w9_ pb9 p x27 x33 x37 (.slice none 0 0) (p.attrs.take 0) [] := by
          refine ⟨lp, o1.mono (Nat.zero_le _), o2.mono (Nat.zero_le _), o3.mono (Nat.zero_le _), ⟨[], [], rfl, rfl, fun i hi => (by cases hi), World.ownsRow_nil _ _ _ _, rfl⟩, ?_, fun q hq => ?_, hp9⟩
          · rw [List.append_nil]
            refine List.nodup_append.2 ⟨List.nodup_append.2 ⟨FB_nodup _, FB_nodup _, fun x hx y hy e => d1 x hx (e ▸ hy)⟩, FB_nodup _, fun x hx y hy e => ?_⟩
            rcases List.mem_append.1 hx with hx | hx
            · exact d2 x hx (e ▸ hy)
            · exact d3 x hx (e ▸ hy)
          · rw [List.append_nil] at hq
            rcases List.mem_append.1 hq with hq | hq
            · rcases List.mem_append.1 hq with hq | hq
              · exact ⟨(o1.lt q (by simpa [FB] using hq)).1, (o1.lt q (by simpa [FB] using hq)).2, fun e => own_loc o1.2 lp (by decide) (e ▸ hq)⟩
              · exact ⟨(o2.lt q (by simpa [FB] using hq)).1, (o2.lt q (by simpa [FB] using hq)).2, fun e => own_loc o2.2 lp (by decide) (e ▸ hq)⟩
            · exact ⟨(o3.lt q (by simpa [FB] using hq)).1, (o3.lt q (by simpa [FB] using hq)).2, fun e => own_loc o3.2 lp (by decide) (e ▸ hq)⟩
        obtain ⟨a7, c7, hv7, _, _⟩ := o1.ints.shape
        obtain ⟨a8, c8, hv8, _, _⟩ := o2.byt.shape
        obtain ⟨a9, c9, hv9, _, _⟩ := o3.byt.shape
        subst hv7 hv8 hv9
        obtain ⟨w6, hw6⟩ : ∃ w6, w6 = w9_ := ⟨_, rfl⟩
        obtain ⟨pb, hpb⟩ : ∃ pb, pb = pb9 := ⟨_, rfl⟩
        rw [← hw6] at hPo h0 ⊢
        rw [← hpb] at hPo ⊢
        clear h1 h2 h3 h4 lp o1 o2 o3 d1 d2 d3 hp9 hall hre t20 t18 t19 hpb hw6 f0 f1 f2 f3 f5 f6 f8 f9 f11 f12 f15 f16 f18 f19 f20 k0 k1 k2 k3 k4 k5 k6 k7
        obtain ⟨iA, hiA, hzA, hzB, hzC⟩ := info_parts (show (Tryz.prog.info? 108).map (fun i => (i.zero, i.size, i.bytes)) = some (some (.agg #[.slice none 0 0, .slice none 0 0]), 2, 48) by kernel_rfl)
        obtain ⟨iP, hiP, hyA, hyB, hyC⟩ := info_parts pl_info
        go_wp2_with fail
        go_loopw [7] (fun kv wq => ∃ (k : Nat) (va : Option Addr) (vn vc : Nat) (Fa : List Nat), k ≤ p.attrs.length ∧ kv = .int .i64 (k : Int) ∧ PoAt w5.heap.size wq pb p (.slice a7 p.key.length c7) (.slice a8 p.name.length c8) (.slice a9 p.text.length c9) (.slice va vn vc) (p.attrs.take k) Fa ∧ Below w5.heap.size w5 wq) (fun kv _ => ((p.attrs.length : Int) - intOf kv).toNat)
        case atStart => exact ⟨0, none, 0, 0, [], Nat.zero_le _, rfl, hPo, h0⟩
        case round =>
          clear hPo h0
          obtain ⟨k, va, vn, vc, Fa, hk, rfl, hPo, hB⟩ := hrel
          obtain ⟨lb, l0, l1, l2, hpl, hnd, hrg⟩ := unhide HX
          replace lb := lb.all hB
          have cA8 : wr.cell? ⟨bp, 8, none⟩ = some (.slice aa p.attrs.length ca) := lb.cell 8
          by_cases hkl : k < p.attrs.length
          · have hkl' : (k : Int) < (p.attrs.length : Int) := by omega
            have hk0 : (0 : Int) ≤ (k : Int) := by omega
            clear l0 l1 l2 hpl hnd hrg
            obtain ⟨ab, aoff, rfl, hab, _, _, C2, hC2, hcell2, hra⟩ := Elems.at ha0 hkl
            obtain ⟨x, hx⟩ : ∃ x, x = p.attrs[k] := ⟨_, rfl⟩
            have HTK := hide (show p.attrs.take (k + 1) = p.attrs.take k ++ [x] by rw [List.take_succ_eq_append_getElem hkl, ← hx])
            obtain ⟨hx1, hx2⟩ : BdA x := (unhide HBP).2.2.2.2 x (by rw [hx]; exact List.getElem_mem hkl)
            rw [← hx] at hra
            obtain ⟨y0, y1, rfl, hy0, hy1⟩ := hra
            have q0 := hcell2 0 (by omega)
            have q1 := hcell2 1 (by omega)
            simp only [List.getElem?_cons_zero, List.getElem?_cons_succ, Nat.add_zero] at q0 q1
            obtain ⟨n1, n2, rfl, _, _⟩ := hy0.shape
            obtain ⟨v1, v2, rfl, _, _⟩ := hy1.shape
            obtain ⟨lp, oK, oN, oT, oA, hNdA, hRg, hSp⟩ := hPo
            have hvF : ∀ q ∈ FB (.slice va vn vc), q ∈ Fa := fun q hq => by
              obtain ⟨_, _, _, _, _, _, rfl⟩ := oA
              exact List.mem_append_left _ hq
            have hFlt : ∀ q ∈ Fa, q < wr.heap.size := fun q hq => (hRg q (List.mem_append_right _ hq)).2.1
            have hNd : Fa.Nodup := (List.nodup_append.1 hNdA).2.1
            have hpv : pb ∉ FB (.slice va vn vc) := fun h => (hRg pb (List.mem_append_right _ (hvF pb h))).2.2 rfl
            have hbS : bp ∉ FB (.slice va vn vc) ++ [pb] := fun h => by
              rcases List.mem_append.1 h with h | h
              · have := (hRg bp (List.mem_append_right _ (hvF bp h))).1; omega
              · have e : bp = pb := by simpa using h
                omega
            have hSge : ∀ q ∈ FB (.slice va vn vc) ++ [pb], w5.heap.size ≤ q := fun q hq => by
              rcases List.mem_append.1 hq with h | h
              · exact (hRg q (List.mem_append_right _ (hvF q h))).1
              · have e : q = pb := by simpa using h
                omega
            have hBw : ∀ {w9 : World}, Frm wr w9 (FB (.slice va vn vc) ++ [pb]) → Below w.heap.size w w9 := fun f => bstep hA (hB.trans (f.below hB.size hSge))
            have HP := hide (And.intro oK (And.intro oN (And.intro oT (And.intro hNdA (And.intro hRg hSp)))))
            have HZ := hide (And.intro lp oA)
            clear hC2 hcell2 hx oK oN oT hNdA hRg lp oA
            go_upto_region 10 with fail
            refine region_inv (by kernel_rfl) (Os10 wr bp pb ab aoff k ca vn vc n2 v2 c7 c8 c9 va n1 v1 a7 a8 a9 p x Fa (.agg #[.slice (some ⟨bk, off, none⟩) l.length c]) (.pointer (some ⟨w.heap.size, 0, none⟩)) (.pointer (some ⟨w.heap.size + 1, 0, none⟩)) (.pointer (some ⟨w.heap.size + 2, 0, none⟩)) (.int .i64 (j : Int)) (.int .i64 (j : Int)) (.pointer (some ⟨w.heap.size, 0, none⟩)) (.slice (some ⟨bk, off, none⟩) l.length c) (.int .i64 (l.length : Int)) (.bool true) (u13) (u14) (.pointer (some ⟨w.heap.size, 0, none⟩)) (.slice (some ⟨bk, off, none⟩) l.length c) (.int .i64 (j : Int)) (.pointer (some ⟨bk, off + j * 9, none⟩)) (.agg #[.int .i64 p.idN, .int .i64 p.idR, .int .i64 p.parN, .int .i64 p.parR, .slice ak p.key.length ck, .int .i64 p.kind, .slice an p.name.length cn, .slice tt p.text.length ct, .slice (some ⟨ab, aoff, none⟩) p.attrs.length ca]) (x20) (x21) (x22) (x23) (x24) (x25) (x26) (.slice a7 p.key.length c7) (x28) (x29) (x30) (x31) (x32) (.slice a8 p.name.length c8) (x34) (x35) (x36) (.slice a9 p.text.length c9) (.agg #[.int .i64 p.idN, .int .i64 p.idR, .int .i64 p.parN, .int .i64 p.parR, .slice a7 p.key.length c7, .int .i64 p.kind, .slice a8 p.name.length c8, .slice a9 p.text.length c9, .slice none 0 0]) (.int .i64 (k : Int)) (.pointer (some ⟨bp, 8, none⟩)) (.slice (some ⟨ab, aoff, none⟩) p.attrs.length ca) (.int .i64 (p.attrs.length : Int)) (.bool true) (u44) (u45) (u68) (u69) (u70) (u71) (u72) (u73) (undef)) ?sz ?h0 ?stp ?dn
            case sz =>
              intro L a w hI
              refine hI _ ?_
              intro b0 b1 b2 b3 b4 b5 b6 b7 b8 b9 b10 b11 b12 b13 b14 b15 b16 b17 b18 b19 b20 b21 b22 x46 x47 x48 x49 x50 x51 x52 x53 x54 x55 x56 x57 x58 x59 x60 x61 x62 x63 x64 x65 x66 x67 eL eA h0 h1 h2 h3 h4 h5 f0 f1 f3 f4 f5 f6 f7 f8 f11 f12 f13 f14 f15 f16 f18 f19 f20 f21 f22
              subst eL
              rfl
            case h0 =>
              exact fun _ k_ => k_ false false false false false false false false false false false false false false false false false false false false false false false _ _ _ _ _ _ _ _ _ _ _ _ _ _ _ _ _ _ _ _ _ _ rfl rfl (Frm.ofBelow ((Below.refl _ _).drew) _) (RwB.start _ _ _ _ _) (RwB.start _ _ _ _ _) (fun q hq => by simp [Cb] at hq) ((unhide HZ).1.all ((Below.refl _ _).drew)) (fun _ => OwAttrs.frm (unhide HZ).2 (Frm.ofBelow ((Below.refl _ _).drew) []) (fun _ _ => by simp)) (fun h => by cases h) (fun h => by cases h) (fun h => by cases h) (fun h => by cases h) (fun h => by cases h) (fun h => by cases h) (fun h => by cases h) (fun h => by cases h) (fun h => by cases h) (fun h => by cases h) (fun h => by cases h) (fun h => by cases h) (fun h => by cases h) (fun h => by cases h) (fun h => by cases h) (fun h => by cases h) (fun h => by cases h) (fun h => by cases h) (fun h => by cases h)
            case stp =>
              intro L a_9 w9_ i_ o_ hI hi ho
              refine hI _ ?_
              clear hI
              intro b0 b1 b2 b3 b4 b5 b6 b7 b8 b9 b10 b11 b12 b13 b14 b15 b16 b17 b18 b19 b20 b21 b22 x46 x47 x48 x49 x50 x51 x52 x53 x54 x55 x56 x57 x58 x59 x60 x61 x62 x63 x64 x65 x66 x67 eL eA h0 h1 h2 h3 h4 h5 f0 f1 f3 f4 f5 f6 f7 f8 f11 f12 f13 f14 f15 f16 f18 f19 f20 f21 f22
              subst eL eA
              rcases Os10_cases (ready_lt hi) with rfl | rfl | rfl | rfl | rfl | rfl | rfl | rfl | rfl | rfl | rfl | rfl | rfl | rfl | rfl | rfl | rfl | rfl | rfl | rfl | rfl | rfl | rfl
              · obtain rfl := Option.some.inj ho
                go_simp
                exact fun _ k_ => k_ true b1 b2 b3 b4 b5 b6 b7 b8 b9 b10 b11 b12 b13 b14 b15 b16 b17 b18 b19 b20 b21 b22 _ x47 x48 x49 x50 x51 x52 x53 x54 x55 x56 x57 x58 x59 x60 x61 x62 x63 x64 x65 x66 x67 rfl rfl h0 h1 h2 h3 h4 h5 (fun _ => rfl) f1 f3 f4 f5 f6 f7 f8 f11 f12 f13 f14 f15 f16 f18 f19 f20 f21 f22
              · have g0 := ready_pred hi ho 0
                obtain rfl := Option.some.inj ho
                have e0 := f0 (g0 (by kernel_rfl))
                subst e0
                have hbi : b1 = false := by simpa using ready_off rfl hi
                have hb22 : b22 = false := by
                  cases b22 with
                  | false => rfl
                  | true => have := (f20 (f22 rfl)).1; rw [hbi] at this; cases this
                subst hb22
                have c0 : w9_.cell? ⟨pb, 8, none⟩ = some (.slice va vn vc) := h4.cell 8
                have HBI := hide hbi
                clear hbi
                go_simp
                exact fun _ k_ => k_ b0 true b2 b3 b4 b5 b6 b7 b8 b9 b10 b11 b12 b13 b14 b15 b16 b17 b18 b19 b20 b21 false _ _ x48 x49 x50 x51 x52 x53 x54 x55 x56 x57 x58 x59 x60 x61 x62 x63 x64 x65 x66 x67 rfl rfl h0 h1 h2 h3 h4 h5 f0 (fun _ => rfl) f3 f4 f5 f6 f7 f8 f11 f12 f13 f14 f15 f16 f18 f19 (fun h => by have := (f20 h).1; rw [unhide HBI] at this; cases this) f21 (fun h => by cases h)
              · have hbz : b2 = false := by simpa using ready_off rfl hi
                obtain rfl := Option.some.inj ho
                subst hbz
                have hb9 : Below w9_.heap.size w9_ (w9_.alloc (.cells #[] 5)) := (Below.refl _ _).alloc (Nat.le_refl _) _
                go_simp
                exact fun _ k_ => k_ b0 b1 true b3 b4 b5 b6 b7 b8 b9 b10 b11 b12 b13 b14 b15 b16 b17 b18 b19 b20 b21 b22 x46 x47 _ x49 x50 x51 x52 x53 x54 x55 x56 x57 x58 x59 x60 x61 x62 x63 x64 x65 x66 x67 rfl rfl (h0.trans (Frm.ofBelow hb9 _)) (h1.make h0.size) (h2.keep hb9) (fun q hq hq' => by have e1 := h1.here hq; have e2 := (h2.lt hq').2; omega) (h4.all hb9) (fun e => OwAttrs.frm (h5 e) (Frm.ofBelow hb9 []) (fun _ _ => by simp)) f0 f1 f3 f4 f5 f6 f7 f8 f11 f12 f13 f14 f15 f16 f18 (fun h => by obtain ⟨z0, z, q1, q2, q3⟩ := f19 h; exact ⟨z0, z, q1, q2, q3.all hb9⟩) (fun h => by obtain ⟨z0, z1, g9, cap9, F9, q1, q2, q3, q4⟩ := f20 h; exact ⟨z0, z1, g9, cap9, F9, q1, OwAttrs.frm q2 (Frm.ofBelow hb9 []) (fun _ _ => by simp), q3, fun q hq => ⟨(q4 q hq).1, Nat.lt_of_lt_of_le (q4 q hq).2 hb9.size⟩⟩) f21 f22
              · obtain rfl := Option.some.inj ho
                go_simp
                exact fun _ k_ => k_ b0 b1 b2 true b4 b5 b6 b7 b8 b9 b10 b11 b12 b13 b14 b15 b16 b17 b18 b19 b20 b21 b22 x46 x47 x48 _ x50 x51 x52 x53 x54 x55 x56 x57 x58 x59 x60 x61 x62 x63 x64 x65 x66 x67 rfl rfl h0 h1 h2 h3 h4 h5 f0 f1 (fun _ => rfl) f4 f5 f6 f7 f8 f11 f12 f13 f14 f15 f16 f18 f19 f20 f21 f22
              · have g3 := ready_pred hi ho 3
                obtain rfl := Option.some.inj ho
                have e3 := f3 (g3 (by kernel_rfl))
                subst e3
                have c0 : w9_.cell? ⟨bp, 8, none⟩ = some (.slice (some ⟨ab, aoff, none⟩) p.attrs.length ca) := (lb.frm h0 hbS).cell 8
                go_simp
                exact fun _ k_ => k_ b0 b1 b2 b3 true b5 b6 b7 b8 b9 b10 b11 b12 b13 b14 b15 b16 b17 b18 b19 b20 b21 b22 x46 x47 x48 _ _ x51 x52 x53 x54 x55 x56 x57 x58 x59 x60 x61 x62 x63 x64 x65 x66 x67 rfl rfl h0 h1 h2 h3 h4 h5 f0 f1 f3 (fun _ => rfl) f5 f6 f7 f8 f11 f12 f13 f14 f15 f16 f18 f19 f20 f21 f22
              · obtain rfl := Option.some.inj ho
                go_simp
                exact fun _ k_ => k_ b0 b1 b2 b3 b4 true b6 b7 b8 b9 b10 b11 b12 b13 b14 b15 b16 b17 b18 b19 b20 b21 b22 x46 x47 x48 x49 x50 _ x52 x53 x54 x55 x56 x57 x58 x59 x60 x61 x62 x63 x64 x65 x66 x67 rfl rfl h0 h1 h2 h3 h4 h5 f0 f1 f3 f4 (fun _ => rfl) f6 f7 f8 f11 f12 f13 f14 f15 f16 f18 f19 f20 f21 f22
              · have g4 := ready_pred hi ho 4
                have g5 := ready_pred hi ho 5
                obtain rfl := Option.some.inj ho
                have e4 := f4 (g4 (by kernel_rfl))
                subst e4
                have e5 := f5 (g5 (by kernel_rfl))
                subst e5
                go_simp
                exact fun _ k_ => k_ b0 b1 b2 b3 b4 b5 true b7 b8 b9 b10 b11 b12 b13 b14 b15 b16 b17 b18 b19 b20 b21 b22 x46 x47 x48 x49 _ _ _ x53 x54 x55 x56 x57 x58 x59 x60 x61 x62 x63 x64 x65 x66 x67 rfl rfl h0 h1 h2 h3 h4 h5 f0 f1 f3 f4 f5 (fun _ => rfl) f7 f8 f11 f12 f13 f14 f15 f16 f18 f19 f20 f21 f22
              · have g6 := ready_pred hi ho 6
                obtain rfl := Option.some.inj ho
                have e6 := f6 (g6 (by kernel_rfl))
                subst e6
                go_simp
                exact fun _ k_ => k_ b0 b1 b2 b3 b4 b5 b6 true b8 b9 b10 b11 b12 b13 b14 b15 b16 b17 b18 b19 b20 b21 b22 x46 x47 x48 x49 x50 x51 _ _ x54 x55 x56 x57 x58 x59 x60 x61 x62 x63 x64 x65 x66 x67 rfl rfl h0 h1 h2 h3 h4 h5 f0 f1 f3 f4 f5 f6 (fun _ => rfl) f8 f11 f12 f13 f14 f15 f16 f18 f19 f20 f21 f22
              · have g7 := ready_pred hi ho 7
                obtain rfl := Option.some.inj ho
                have e7 := f7 (g7 (by kernel_rfl))
                subst e7
                have c0 : w9_.cell? ⟨ab, aoff + k * 2, none⟩ = some (.slice n1 x.1.length n2) := ((hBw h0).cell (p := ⟨ab, aoff + k * 2, none⟩) hab).trans q0
                go_simp
                exact fun _ k_ => k_ b0 b1 b2 b3 b4 b5 b6 b7 true b9 b10 b11 b12 b13 b14 b15 b16 b17 b18 b19 b20 b21 b22 x46 x47 x48 x49 x50 x51 x52 _ _ x55 x56 x57 x58 x59 x60 x61 x62 x63 x64 x65 x66 x67 rfl rfl h0 h1 h2 h3 h4 h5 f0 f1 f3 f4 f5 f6 f7 (fun _ => rfl) f11 f12 f13 f14 f15 f16 f18 f19 f20 f21 f22
              · have gs := ready_pred hi ho 8
                have gr := ready_pred hi ho 2
                obtain rfl := Option.some.inj ho
                have es := f8 (gs (by kernel_rfl))
                have er : b2 = true := gr (by kernel_rfl)
                have hbi : b9 = false := by simpa using ready_off rfl hi
                subst es er hbi
                have hown := h1.1 rfl rfl
                have hcz : ∀ q ∈ FB x48, q ∈ Cb true false x48 x55 := fun q hq => by simpa [Cb] using hq
                refine step_appAt (by rfl) (.tmp 48) (.tmp 54) (by rfl) wr.heap.size x48 [] (by rfl) hown (.slice n1 x.1.length n2) x.1 (by rfl) (hy0.keep (hBw h0)) (by simp; omega) h0.size ?_
                intro v9 w9b ho9 hg9 hat9
                rw [List.nil_append] at ho9
                have hF9 : Frm w9_ w9b (FB x48) := Frm.ofGrown hg9
                have hFS := h0.more hF9 (fun q hq => .inr (hown.lt q (by simpa [FB] using hq)).1)
                exact fun _ k_ => k_ b0 b1 true b3 b4 b5 b6 b7 b8 true b10 b11 b12 b13 b14 b15 b16 b17 b18 b19 b20 b21 b22 x46 x47 x48 x49 x50 x51 x52 x53 _ _ x56 x57 x58 x59 x60 x61 x62 x63 x64 x65 x66 x67 rfl rfl hFS (⟨fun _ e => (by cases e), fun _ => ⟨rfl, ho9⟩⟩) (h2.frm hF9 (fun q hq hq' => h3 q (hcz q hq') hq)) (fun q hq hq' => by rcases at_of hat9 q (by simpa [Cb] using hq) with e | e; (exact h3 q (hcz q e) hq'); (have := (h2.lt hq').2; omega)) (h4.frm hF9 (own_loc hown.2 h4 (by decide))) (fun e => OwAttrs.frm (h5 e) hF9 (fun q hq hq' => by have := hFlt q hq; have := (hown.lt q (by simpa [FB] using hq')).1; omega)) f0 f1 f3 f4 f5 f6 f7 (fun _ => rfl) f11 f12 f13 f14 f15 f16 (fun h => by have := (f18 h).1; cases this) (fun h => by have := (f18 (f19 h).1).1; cases this) (fun h => by have := (f18 (f19 (f20 h).2.1).1).1; cases this) f21 f22
              · have hbz : b10 = false := by simpa using ready_off rfl hi
                obtain rfl := Option.some.inj ho
                subst hbz
                have hb9 : Below w9_.heap.size w9_ (w9_.alloc (.cells #[] 5)) := (Below.refl _ _).alloc (Nat.le_refl _) _
                go_simp
                exact fun _ k_ => k_ b0 b1 b2 b3 b4 b5 b6 b7 b8 b9 true b11 b12 b13 b14 b15 b16 b17 b18 b19 b20 b21 b22 x46 x47 x48 x49 x50 x51 x52 x53 x54 x55 _ x57 x58 x59 x60 x61 x62 x63 x64 x65 x66 x67 rfl rfl (h0.trans (Frm.ofBelow hb9 _)) (h1.keep hb9) (h2.make h0.size) (fun q hq hq' => by have e1 := h2.here hq'; have e2 := (h1.lt hq).2; omega) (h4.all hb9) (fun e => OwAttrs.frm (h5 e) (Frm.ofBelow hb9 []) (fun _ _ => by simp)) f0 f1 f3 f4 f5 f6 f7 f8 f11 f12 f13 f14 f15 f16 f18 (fun h => by obtain ⟨z0, z, q1, q2, q3⟩ := f19 h; exact ⟨z0, z, q1, q2, q3.all hb9⟩) (fun h => by obtain ⟨z0, z1, g9, cap9, F9, q1, q2, q3, q4⟩ := f20 h; exact ⟨z0, z1, g9, cap9, F9, q1, OwAttrs.frm q2 (Frm.ofBelow hb9 []) (fun _ _ => by simp), q3, fun q hq => ⟨(q4 q hq).1, Nat.lt_of_lt_of_le (q4 q hq).2 hb9.size⟩⟩) f21 f22
              · obtain rfl := Option.some.inj ho
                go_simp
                exact fun _ k_ => k_ b0 b1 b2 b3 b4 b5 b6 b7 b8 b9 b10 true b12 b13 b14 b15 b16 b17 b18 b19 b20 b21 b22 x46 x47 x48 x49 x50 x51 x52 x53 x54 x55 x56 _ x58 x59 x60 x61 x62 x63 x64 x65 x66 x67 rfl rfl h0 h1 h2 h3 h4 h5 f0 f1 f3 f4 f5 f6 f7 f8 (fun _ => rfl) f12 f13 f14 f15 f16 f18 f19 f20 f21 f22
              · have g11 := ready_pred hi ho 11
                obtain rfl := Option.some.inj ho
                have e11 := f11 (g11 (by kernel_rfl))
                subst e11
                have c0 : w9_.cell? ⟨bp, 8, none⟩ = some (.slice (some ⟨ab, aoff, none⟩) p.attrs.length ca) := (lb.frm h0 hbS).cell 8
                go_simp
                exact fun _ k_ => k_ b0 b1 b2 b3 b4 b5 b6 b7 b8 b9 b10 b11 true b13 b14 b15 b16 b17 b18 b19 b20 b21 b22 x46 x47 x48 x49 x50 x51 x52 x53 x54 x55 x56 _ _ x59 x60 x61 x62 x63 x64 x65 x66 x67 rfl rfl h0 h1 h2 h3 h4 h5 f0 f1 f3 f4 f5 f6 f7 f8 f11 (fun _ => rfl) f13 f14 f15 f16 f18 f19 f20 f21 f22
              · obtain rfl := Option.some.inj ho
                go_simp
                exact fun _ k_ => k_ b0 b1 b2 b3 b4 b5 b6 b7 b8 b9 b10 b11 b12 true b14 b15 b16 b17 b18 b19 b20 b21 b22 x46 x47 x48 x49 x50 x51 x52 x53 x54 x55 x56 x57 x58 _ x60 x61 x62 x63 x64 x65 x66 x67 rfl rfl h0 h1 h2 h3 h4 h5 f0 f1 f3 f4 f5 f6 f7 f8 f11 f12 (fun _ => rfl) f14 f15 f16 f18 f19 f20 f21 f22
              · have g12 := ready_pred hi ho 12
                have g13 := ready_pred hi ho 13
                obtain rfl := Option.some.inj ho
                have e12 := f12 (g12 (by kernel_rfl))
                subst e12
                have e13 := f13 (g13 (by kernel_rfl))
                subst e13
                go_simp
                exact fun _ k_ => k_ b0 b1 b2 b3 b4 b5 b6 b7 b8 b9 b10 b11 b12 b13 true b15 b16 b17 b18 b19 b20 b21 b22 x46 x47 x48 x49 x50 x51 x52 x53 x54 x55 x56 x57 _ _ _ x61 x62 x63 x64 x65 x66 x67 rfl rfl h0 h1 h2 h3 h4 h5 f0 f1 f3 f4 f5 f6 f7 f8 f11 f12 f13 (fun _ => rfl) f15 f16 f18 f19 f20 f21 f22
              · have g14 := ready_pred hi ho 14
                obtain rfl := Option.some.inj ho
                have e14 := f14 (g14 (by kernel_rfl))
                subst e14
                go_simp
                exact fun _ k_ => k_ b0 b1 b2 b3 b4 b5 b6 b7 b8 b9 b10 b11 b12 b13 b14 true b16 b17 b18 b19 b20 b21 b22 x46 x47 x48 x49 x50 x51 x52 x53 x54 x55 x56 x57 x58 x59 _ _ x62 x63 x64 x65 x66 x67 rfl rfl h0 h1 h2 h3 h4 h5 f0 f1 f3 f4 f5 f6 f7 f8 f11 f12 f13 f14 (fun _ => rfl) f16 f18 f19 f20 f21 f22
              · have g15 := ready_pred hi ho 15
                obtain rfl := Option.some.inj ho
                have e15 := f15 (g15 (by kernel_rfl))
                subst e15
                have c0 : w9_.cell? ⟨ab, aoff + k * 2 + 1, none⟩ = some (.slice v1 x.2.length v2) := ((hBw h0).cell (p := ⟨ab, aoff + k * 2 + 1, none⟩) hab).trans q1
                go_simp
                exact fun _ k_ => k_ b0 b1 b2 b3 b4 b5 b6 b7 b8 b9 b10 b11 b12 b13 b14 b15 true b17 b18 b19 b20 b21 b22 x46 x47 x48 x49 x50 x51 x52 x53 x54 x55 x56 x57 x58 x59 x60 _ _ x63 x64 x65 x66 x67 rfl rfl h0 h1 h2 h3 h4 h5 f0 f1 f3 f4 f5 f6 f7 f8 f11 f12 f13 f14 f15 (fun _ => rfl) f18 f19 f20 f21 f22
              · have gs := ready_pred hi ho 16
                have gr := ready_pred hi ho 10
                obtain rfl := Option.some.inj ho
                have es := f16 (gs (by kernel_rfl))
                have er : b10 = true := gr (by kernel_rfl)
                have hbi : b17 = false := by simpa using ready_off rfl hi
                subst es er hbi
                have hown := h2.1 rfl rfl
                have hcz : ∀ q ∈ FB x56, q ∈ Cb true false x56 x63 := fun q hq => by simpa [Cb] using hq
                refine step_appAt (by rfl) (.tmp 56) (.tmp 62) (by rfl) wr.heap.size x56 [] (by rfl) hown (.slice v1 x.2.length v2) x.2 (by rfl) (hy1.keep (hBw h0)) (by simp; omega) h0.size ?_
                intro v9 w9b ho9 hg9 hat9
                rw [List.nil_append] at ho9
                have hF9 : Frm w9_ w9b (FB x56) := Frm.ofGrown hg9
                have hFS := h0.more hF9 (fun q hq => .inr (hown.lt q (by simpa [FB] using hq)).1)
                exact fun _ k_ => k_ b0 b1 b2 b3 b4 b5 b6 b7 b8 b9 true b11 b12 b13 b14 b15 b16 true b18 b19 b20 b21 b22 x46 x47 x48 x49 x50 x51 x52 x53 x54 x55 x56 x57 x58 x59 x60 x61 _ _ x64 x65 x66 x67 rfl rfl hFS (h1.frm hF9 (fun q hq hq' => h3 q hq (hcz q hq'))) (⟨fun _ e => (by cases e), fun _ => ⟨rfl, ho9⟩⟩) (fun q hq hq' => by rcases at_of hat9 q (by simpa [Cb] using hq') with e | e; (exact h3 q hq (hcz q e)); (have := (h1.lt hq).2; omega)) (h4.frm hF9 (own_loc hown.2 h4 (by decide))) (fun e => OwAttrs.frm (h5 e) hF9 (fun q hq hq' => by have := hFlt q hq; have := (hown.lt q (by simpa [FB] using hq')).1; omega)) f0 f1 f3 f4 f5 f6 f7 f8 f11 f12 f13 f14 f15 (fun _ => rfl) (fun h => by have := (f18 h).2.1; cases this) (fun h => by have := (f18 (f19 h).1).2.1; cases this) (fun h => by have := (f18 (f19 (f20 h).2.1).1).2.1; cases this) f21 f22
              · have g9 := ready_pred hi ho 9
                have g17 := ready_pred hi ho 17
                obtain rfl := Option.some.inj ho
                have t9 : b9 = true := g9 (by kernel_rfl)
                have t17 : b17 = true := g17 (by kernel_rfl)
                obtain ⟨p4, k4, hv4, _, _⟩ := (h1.2 t9).2.byt.shape
                obtain ⟨p5, k5, hv5, _, _⟩ := (h2.2 t17).2.byt.shape
                subst hv4 hv5
                have hbi : b18 = false := by simpa using ready_off rfl hi
                have T9 := hide (And.intro t9 (And.intro t17 hbi))
                clear t9 t17 hbi
                go_simp
                exact fun _ k_ => k_ b0 b1 b2 b3 b4 b5 b6 b7 b8 b9 b10 b11 b12 b13 b14 b15 b16 b17 true b19 b20 b21 b22 x46 x47 x48 x49 x50 x51 x52 x53 x54 _ x56 x57 x58 x59 x60 x61 x62 _ _ x65 x66 x67 rfl rfl h0 h1 h2 h3 h4 h5 f0 f1 f3 f4 f5 f6 f7 f8 f11 f12 f13 f14 f15 f16 (fun _ => ⟨(unhide T9).1, (unhide T9).2.1, rfl⟩) (fun h => by have := (f19 h).1; rw [(unhide T9).2.2] at this; cases this) f20 f21 f22
              · have g18 := ready_pred hi ho 18
                have hbi : b19 = false := by simpa using ready_off rfl hi
                obtain rfl := Option.some.inj ho
                have t18 : b18 = true := g18 (by kernel_rfl)
                obtain ⟨t9, t17, e64⟩ := f18 t18
                obtain ⟨p4, k4, hv4, _, _⟩ := (h1.2 t9).2.byt.shape
                obtain ⟨p5, k5, hv5, _, _⟩ := (h2.2 t17).2.byt.shape
                subst hv4 hv5 e64
                have hb9 : Below w9_.heap.size w9_ (w9_.alloc (.cells #[.slice p4 x.1.length k4, .slice p5 x.2.length k5] 108)) := (Below.refl _ _).alloc (Nat.le_refl _) _
                have lm9 := Loc.made w9_ #[.slice p4 x.1.length k4, .slice p5 x.2.length k5] 108
                have T9 := hide (And.intro t18 (And.intro t9 (And.intro t17 hbi)))
                clear t18 t9 t17 hbi
                go_simp
                exact fun _ k_ => k_ b0 b1 b2 b3 b4 b5 b6 b7 b8 b9 b10 b11 b12 b13 b14 b15 b16 b17 b18 true b20 b21 b22 x46 x47 x48 x49 x50 x51 x52 x53 x54 _ x56 x57 x58 x59 x60 x61 x62 _ _ _ x66 x67 rfl rfl (h0.trans (Frm.ofBelow hb9 _)) (h1.keep hb9) (h2.keep hb9) h3 (h4.all hb9) (fun e => OwAttrs.frm (h5 e) (Frm.ofBelow hb9 []) (fun _ _ => by simp)) f0 f1 f3 f4 f5 f6 f7 f8 f11 f12 f13 f14 f15 f16 (fun _ => ⟨(unhide T9).2.1, (unhide T9).2.2.1, rfl⟩) (fun _ => ⟨(unhide T9).1, w9_.heap.size, h0.size, rfl, lm9⟩) (fun h => by have := (f20 h).2.1; rw [(unhide T9).2.2.2] at this; cases this) f21 f22
              · have g1 := ready_pred hi ho 1
                have g19 := ready_pred hi ho 19
                have hbi : b20 = false := by simpa using ready_off rfl hi
                obtain rfl := Option.some.inj ho
                have t1 : b1 = true := g1 (by kernel_rfl)
                have t19 : b19 = true := g19 (by kernel_rfl)
                have e47 := f1 t1
                obtain ⟨t18, z, z1, z2, z3⟩ := f19 t19
                obtain ⟨t9, t17, _⟩ := f18 t18
                have hb22 : b22 = false := by
                  cases b22 with
                  | false => rfl
                  | true => have := f22 rfl; rw [hbi] at this; cases this
                subst e47 z2 hb22
                have o1 := (h1.2 t9).2
                have o2 := (h2.2 t17).2
                have r1 := o1.mono (Nat.zero_le _)
                have r2 := o2.mono (Nat.zero_le _)
                have hat := h5 hbi
                have hd12 : ∀ q ∈ FB x55, q ∉ FB x63 := fun q hq hq' => h3 q (by unfold Cb; rw [if_pos t9]; exact hq) (by unfold Cb; rw [if_pos t17]; exact hq')
                have hndx : (FB x55 ++ FB x63).Nodup := List.nodup_append.2 ⟨FB_nodup _, FB_nodup _, fun a ha b hb e => hd12 a ha (e ▸ hb)⟩
                have hge : ∀ q ∈ FB x55 ++ FB x63, wr.heap.size ≤ q ∧ q < w9_.heap.size := fun q hq => by
                  rcases List.mem_append.1 hq with h | h
                  · exact o1.lt q (by simpa [FB] using h)
                  · exact o2.lt q (by simpa [FB] using h)
                have hszw := h0.size
                refine step_push (R := OwAttr) (fun h f d => OwAttr.frm h f d) (by rfl) (.tmp 47) (.tmp 65) 35 (by rfl) 108 iA (.agg #[.slice none 0 0, .slice none 0 0]) 2 48 Tryz.underlying35 hiA hzA hzB hzC rfl (by decide) _ (p.attrs.take k) Fa (by rfl) hat hNd ⟨z, 0, none⟩ 1 [x55, x63] x (FB x55 ++ FB x63) (by rfl) rfl (fun i u hu => World.news_of_block z3 i u (by simpa using hu)) (by intro y hy; obtain ⟨p4, k4, hv4, _, _⟩ := o1.byt.shape; obtain ⟨p5, k5, hv5, _, _⟩ := o2.byt.shape; simp at hy; rcases hy with rfl | rfl; (rw [hv4]; rfl); (rw [hv5]; rfl)) ⟨x55, x63, rfl, r1, r2, rfl⟩ hndx (fun g hg hg_ => by have := hFlt g hg; have := (hge g hg_).1; omega) (fun q hq => by rcases hq with hq | hq; (have := hFlt q hq; omega); (exact (hge q hq).2)) (by rw [List.length_take]; unfold maxLen; omega) (by rw [List.length_take]; omega) ?_
                intro g9 cap9 w9b F9 hF9 hN9 hM9 hf9 hg9
                have hjl9 : (p.attrs.take k).length + 1 = k + 1 := by rw [List.length_take]; omega
                rw [hjl9] at hF9 ⊢
                have hdv : ∀ q, wr.heap.size ≤ q → q ∉ FB (.slice va vn vc) := fun q hq h => by have := hFlt q (hvF q h); omega
                have hkw : ∀ q ∈ F9, (q ∈ Fa ∨ wr.heap.size ≤ q) ∧ q < w9b.heap.size := fun q hq => by
                  refine ⟨?_, OwAttrs.lt hF9 q hq⟩
                  rcases hM9 q hq with h | h | h
                  · exact .inl h
                  · exact .inr (hge q h).1
                  · right; omega
                exact fun _ k_ => k_ b0 b1 b2 b3 b4 b5 b6 b7 b8 b9 b10 b11 b12 b13 b14 b15 b16 b17 b18 b19 true b21 false x46 _ x48 x49 x50 x51 x52 x53 x54 x55 x56 x57 x58 x59 x60 x61 x62 x63 x64 _ _ x67 rfl rfl (h0.more hf9 (fun q hq => .inl (List.mem_append_left _ hq))) (h1.frm hf9 (fun q hq => hdv q (h1.lt hq).1)) (h2.frm hf9 (fun q hq => hdv q (h2.lt hq).1)) h3 (h4.frm hf9 hpv) (fun e => by cases e) f0 (fun _ => rfl) f3 f4 f5 f6 f7 f8 f11 f12 f13 f14 f15 f16 f18 (fun _ => ⟨t18, z, z1, rfl, z3.frm hf9 (hdv z z1)⟩) (fun _ => ⟨t1, t19, g9, cap9, F9, rfl, hF9, hN9, hkw⟩) f21 (fun _ => rfl)
              · obtain rfl := Option.some.inj ho
                go_simp
                exact fun _ k_ => k_ b0 b1 b2 b3 b4 b5 b6 b7 b8 b9 b10 b11 b12 b13 b14 b15 b16 b17 b18 b19 b20 true b22 x46 x47 x48 x49 x50 x51 x52 x53 x54 x55 x56 x57 x58 x59 x60 x61 x62 x63 x64 x65 x66 _ rfl rfl h0 h1 h2 h3 h4 h5 f0 f1 f3 f4 f5 f6 f7 f8 f11 f12 f13 f14 f15 f16 f18 f19 f20 (fun _ => rfl) f22
              · have g21 := ready_pred hi ho 21
                have g20 := ready_pred hi ho 20
                have hb22 : b22 = false := by simpa using ready_off rfl hi
                obtain rfl := Option.some.inj ho
                have t20 : b20 = true := g20 (by kernel_rfl)
                have e67 := f21 (g21 (by kernel_rfl))
                subst e67 hb22
                obtain ⟨t1, t19, g9, cap9, F9, q1, q2, q3, q4⟩ := f20 t20
                subst q1
                obtain ⟨t18, z, z1, z2, z3⟩ := f19 t19
                replace h4 : Loc w9_ pb #[.int .i64 p.idN, .int .i64 p.idR, .int .i64 p.parN, .int .i64 p.parR, .slice a7 p.key.length c7, .int .i64 p.kind, .slice a8 p.name.length c8, .slice a9 p.text.length c9, .slice va vn vc] 107 := h4
                have c0 : w9_.cell? ⟨pb, 8, none⟩ = some (.slice va vn vc) := h4.cell 8
                have z0 := h4.frozen 8
                have fs := set_frm w9_ pb 8 (.slice (some ⟨g9, 0, none⟩) (k + 1) cap9)
                have n1_ := h1.frm fs (fun q hq hq' => h1.notL h4 (by decide) (by have e9 : q = pb := (by simpa using hq'); rw [← e9]; exact hq))
                have n2_ := h2.frm fs (fun q hq hq' => h2.notL h4 (by decide) (by have e9 : q = pb := (by simpa using hq'); rw [← e9]; exact hq))
                have q2' := OwAttrs.frm q2 fs (fun q hq hq' => attrs_notL q2 h4 (by have e9 : q = pb := (by simpa using hq'); rw [← e9]; exact hq))
                have h2_ := h4.set 8 (.slice (some ⟨g9, 0, none⟩) (k + 1) cap9)
                have z3_ := z3.other pb 8 (.slice (some ⟨g9, 0, none⟩) (k + 1) cap9) (fun e => by
                  subst e
                  unfold Loc at z3 h4
                  rw [z3] at h4
                  injection h4 with h4
                  injection h4 with _ h4
                  revert h4
                  decide)
                have HW := hide (And.intro t20 (And.intro t1 (And.intro t19 (And.intro t18 (And.intro n1_ (And.intro n2_ (And.intro q2' (And.intro h2_ (And.intro z3_ fs)))))))))
                clear t20 t1 t19 t18 n1_ n2_ q2 q2' h2_ z3_ fs z3 h1 h2
                subst z2
                go_simp
                exact fun _ k_ => k_ b0 b1 b2 b3 b4 b5 b6 b7 b8 b9 b10 b11 b12 b13 b14 b15 b16 b17 b18 b19 b20 b21 true x46 x47 x48 x49 x50 x51 x52 x53 x54 x55 x56 x57 x58 x59 x60 x61 x62 x63 x64 _ _ _ rfl rfl (h0.trans ((unhide HW).2.2.2.2.2.2.2.2.2.mono (fun q hq => List.mem_append_right _ hq))) ((unhide HW).2.2.2.2.1) ((unhide HW).2.2.2.2.2.1) h3 ((unhide HW).2.2.2.2.2.2.2.1) (fun e => by rw [(unhide HW).1] at e; cases e) f0 f1 f3 f4 f5 f6 f7 f8 f11 f12 f13 f14 f15 f16 f18 (fun _ => ⟨(unhide HW).2.2.2.1, z, z1, rfl, (unhide HW).2.2.2.2.2.2.2.2.1⟩) (fun _ => ⟨(unhide HW).2.1, (unhide HW).2.2.1, g9, cap9, F9, rfl, (unhide HW).2.2.2.2.2.2.1, q3, fun q hq => ⟨(q4 q hq).1, Nat.lt_of_lt_of_le (q4 q hq).2 (unhide HW).2.2.2.2.2.2.2.2.2.size⟩⟩) (fun _ => rfl) (fun _ => (unhide HW).1)
            case dn =>
              intro L a_9 w9_ hI hre
              have hall := ready_all (L := L) (by refine hI _ ?_; intro b0 b1 b2 b3 b4 b5 b6 b7 b8 b9 b10 b11 b12 b13 b14 b15 b16 b17 b18 b19 b20 b21 b22 x46 x47 x48 x49 x50 x51 x52 x53 x54 x55 x56 x57 x58 x59 x60 x61 x62 x63 x64 x65 x66 x67 eL eA h0 h1 h2 h3 h4 h5 f0 f1 f3 f4 f5 f6 f7 f8 f11 f12 f13 f14 f15 f16 f18 f19 f20 f21 f22; subst eL; rfl) (by kernel_rfl) hre 23
              refine hI _ ?_
              clear hI
              intro b0 b1 b2 b3 b4 b5 b6 b7 b8 b9 b10 b11 b12 b13 b14 b15 b16 b17 b18 b19 b20 b21 b22 x46 x47 x48 x49 x50 x51 x52 x53 x54 x55 x56 x57 x58 x59 x60 x61 x62 x63 x64 x65 x66 x67 eL eA h0 h1 h2 h3 h4 h5 f0 f1 f3 f4 f5 f6 f7 f8 f11 f12 f13 f14 f15 f16 f18 f19 f20 f21 f22
              subst eL eA
              have t20 : b20 = true := hall 20 (by omega) (by decide)
              have t22 : b22 = true := hall 22 (by omega) (by decide)
              obtain ⟨t1, t19, g9, cap9, F9, q1_, q2_, q3_, q4_⟩ := f20 t20
              clear f22
              subst t22
              subst q1_
              replace h4 : Loc w9_ pb #[.int .i64 p.idN, .int .i64 p.idR, .int .i64 p.parN, .int .i64 p.parR, .slice a7 p.key.length c7, .int .i64 p.kind, .slice a8 p.name.length c8, .slice a9 p.text.length c9, .slice (some ⟨g9, 0, none⟩) (k + 1) cap9] 107 := h4
              obtain ⟨oK, oN, oT, hNdA, hRg, hSp⟩ := unhide HP
              have hd : ∀ q ∈ FB (.slice a7 p.key.length c7) ++ FB (.slice a8 p.name.length c8) ++ FB (.slice a9 p.text.length c9), q ∉ FB (.slice va vn vc) ++ [pb] := fun q hq hq_ => by
                rcases List.mem_append.1 hq_ with h | h
                · exact (List.nodup_append.1 hNdA).2.2 q hq q (hvF q h) rfl
                · have e : q = pb := by simpa using h
                  exact (hRg q (List.mem_append_left _ hq)).2.2 e
              have hlN : ∀ q ∈ FB (.slice a7 p.key.length c7) ++ FB (.slice a8 p.name.length c8) ++ FB (.slice a9 p.text.length c9), q < wr.heap.size := fun q hq => (hRg q (List.mem_append_left _ hq)).2.1
              have hP9 : PoAt w5.heap.size w9_ pb p (.slice a7 p.key.length c7) (.slice a8 p.name.length c8) (.slice a9 p.text.length c9) (.slice (some ⟨g9, 0, none⟩) (k + 1) cap9) (p.attrs.take (k + 1)) F9 := by
                rw [unhide HTK]
                refine ⟨h4, ⟨oK.1, ownsRow_frm oK.2 h0 (fun q hq => hd q (List.mem_append_left _ (List.mem_append_left _ hq)))⟩, oN.frm h0 (fun q hq => hd q (List.mem_append_left _ (List.mem_append_right _ hq))), oT.frm h0 (fun q hq => hd q (List.mem_append_right _ hq)), q2_, ?_, fun q hq => ?_, hSp⟩
                · refine List.nodup_append.2 ⟨(List.nodup_append.1 hNdA).1, q3_, fun q hq q9 hq9 e => ?_⟩
                  subst e
                  rcases (q4_ q hq9).1 with h | h
                  · exact (List.nodup_append.1 hNdA).2.2 q hq q h rfl
                  · have := hlN q hq
                    omega
                · rcases List.mem_append.1 hq with hq | hq
                  · exact ⟨(hRg q (List.mem_append_left _ hq)).1, Nat.lt_of_lt_of_le (hlN q hq) h0.size, (hRg q (List.mem_append_left _ hq)).2.2⟩
                  · refine ⟨?_, (q4_ q hq).2, fun e => attrs_notL q2_ h4 (e ▸ hq)⟩
                    rcases (q4_ q hq).1 with h | h
                    · exact (hRg q (List.mem_append_right _ h)).1
                    · have := hB.size
                      omega
              have hB9 := hB.trans (h0.below hB.size hSge)
              have HE := hide (And.intro hP9 hB9)
              clear hP9 hB9 h0 h1 h2 h3 h4 h5 hd hlN q2_ q3_ q4_ t20 t1 t19 hall hre HP HZ oK oN oT hNdA hRg hSp hBw f0 f1 f3 f4 f5 f6 f7 f8 f11 f12 f13 f14 f15 f16 f18 f19 f20 f21 q0 q1 cA8 lb hy0 hy1
              go_wp2_with fail
              go_roundw
              case rel => exact ⟨k + 1, _, _, _, F9, by omega, by go_num, (unhide HE).1, (unhide HE).2⟩
              case measure => simp [intOf]; omega
          · have hkl' : ¬ (k : Int) < (p.attrs.length : Int) := by omega
            have hPe : p.attrs.take k = p.attrs := List.take_of_length_le (by omega)
            rw [hPe] at hPo
            clear hPe
            obtain ⟨lp, oK, oN, oT, oA, hNdA, hRg, hSp⟩ := hPo
            replace l0 := l0.all hB
            replace l1 := l1.all hB
            replace l2 := l2.all hB
            replace hpl := OwPls.frm hpl (Frm.ofBelow (hB.mono (Nat.le_refl _)) []) (fun _ _ => by simp)
            have hz0_ : wr.cell? ⟨w.heap.size + 2, 0, none⟩ = some (.slice a' j c') := l2.cell 0
            have p0 := lp.cell 0
            have p1 := lp.cell 1
            have p2 := lp.cell 2
            have p3 := lp.cell 3
            have p4 := lp.cell 4
            have p5 := lp.cell 5
            have p6 := lp.cell 6
            have p7 := lp.cell 7
            have p8 := lp.cell 8
            have hBa : Below wr.heap.size wr (wr.alloc (.cells #[.int .i64 p.idN, .int .i64 p.idR, .int .i64 p.parN, .int .i64 p.parR, .slice a7 p.key.length c7, .int .i64 p.kind, .slice a8 p.name.length c8, .slice a9 p.text.length c9, .slice va vn vc] 107)) := (Below.refl _ _).alloc (Nat.le_refl _) _
            have hsB := hB.size
            have hfr : wr.frozen? ⟨w.heap.size + 2, 0, none⟩ = false := l2.frozen 0
            have hwrl := l2.lt
            have HP := hide (show OwPls (wr.alloc (.cells #[.int .i64 p.idN, .int .i64 p.idR, .int .i64 p.parN, .int .i64 p.parR, .slice a7 p.key.length c7, .int .i64 p.kind, .slice a8 p.name.length c8, .slice a9 p.text.length c9, .slice va vn vc] 107)) (.slice a' j c') (l.take j) F ∧ F.Nodup ∧ OwPlC (wr.alloc (.cells #[.int .i64 p.idN, .int .i64 p.idR, .int .i64 p.parN, .int .i64 p.parR, .slice a7 p.key.length c7, .int .i64 p.kind, .slice a8 p.name.length c8, .slice a9 p.text.length c9, .slice va vn vc] 107)) [.int .i64 p.idN, .int .i64 p.idR, .int .i64 p.parN, .int .i64 p.parR, .slice a7 p.key.length c7, .int .i64 p.kind, .slice a8 p.name.length c8, .slice a9 p.text.length c9, .slice va vn vc] p (FB (.slice a7 p.key.length c7) ++ FB (.slice a8 p.name.length c8) ++ FB (.slice a9 p.text.length c9) ++ Fa) ∧ ((FB (.slice a7 p.key.length c7) ++ FB (.slice a8 p.name.length c8) ++ FB (.slice a9 p.text.length c9) ++ Fa)).Nodup ∧ (∀ g ∈ F, g ∉ (FB (.slice a7 p.key.length c7) ++ FB (.slice a8 p.name.length c8) ++ FB (.slice a9 p.text.length c9) ++ Fa)) ∧ (∀ q, q ∈ F ∨ q ∈ (FB (.slice a7 p.key.length c7) ++ FB (.slice a8 p.name.length c8) ++ FB (.slice a9 p.text.length c9) ++ Fa) → q < (wr.alloc (.cells #[.int .i64 p.idN, .int .i64 p.idR, .int .i64 p.parN, .int .i64 p.parR, .slice a7 p.key.length c7, .int .i64 p.kind, .slice a8 p.name.length c8, .slice a9 p.text.length c9, .slice va vn vc] 107)).heap.size) from by
              have hsa : (wr.alloc (.cells #[.int .i64 p.idN, .int .i64 p.idR, .int .i64 p.parN, .int .i64 p.parR, .slice a7 p.key.length c7, .int .i64 p.kind, .slice a8 p.name.length c8, .slice a9 p.text.length c9, .slice va vn vc] 107)).heap.size = wr.heap.size + 1 := by simp
              have hF5 : ∀ q ∈ F, q < w5.heap.size := fun q hq => by have := (hrg q hq).2; omega
              refine ⟨OwPls.frm hpl (Frm.ofBelow hBa []) (fun _ _ => by simp), hnd, ⟨_, _, _, _, Fa, rfl, oK.keep hBa, oN.keep hBa, oT.keep hBa, OwAttrs.frm oA (Frm.ofBelow hBa []) (fun _ _ => by simp), rfl⟩, hNdA, fun g hg hg_ => ?_, fun q hq => ?_⟩
              · have := hF5 g hg
                have := (hRg g hg_).1
                omega
              · rcases hq with hq | hq
                · have := hF5 q hq
                  omega
                · have := (hRg q hq).2.1
                  omega)
            have hcl : ∀ (i : Nat) (u : Value), ([.int .i64 p.idN, .int .i64 p.idR, .int .i64 p.parN, .int .i64 p.parR, .slice a7 p.key.length c7, .int .i64 p.kind, .slice a8 p.name.length c8, .slice a9 p.text.length c9, .slice va vn vc])[i]? = some u → (wr.alloc (.cells #[.int .i64 p.idN, .int .i64 p.idR, .int .i64 p.parN, .int .i64 p.parR, .slice a7 p.key.length c7, .int .i64 p.kind, .slice a8 p.name.length c8, .slice a9 p.text.length c9, .slice va vn vc] 107)).cell? ((⟨wr.heap.size, 0, none⟩ : Addr).add i) = some u := fun i u hu => World.news_of_block (heap_alloc_new wr (.cells #[.int .i64 p.idN, .int .i64 p.idR, .int .i64 p.parN, .int .i64 p.parR, .slice a7 p.key.length c7, .int .i64 p.kind, .slice a8 p.name.length c8, .slice a9 p.text.length c9, .slice va vn vc] 107)) i u (by simpa using hu)
            have hL1 : (l.take j).length = j := by rw [List.length_take]; omega
            have HY := hide (And.intro l0 (And.intro l1 (And.intro l2 (And.intro (bstep hA hB) (And.intro hBa (And.intro hRg (And.intro hrg hcl)))))))
            clear l0 l1 l2 hpl hnd oK oN oT oA hNdA hRg hrg lp hBa hcl lb
            go_wp2_with (at_builtin; go_loud (refine wpList_push (R := OwPlC) (fun h f d => OwPlC.frm h f d) rfl _ _ 30 rfl 107 iP (.agg #[.int .i64 0, .int .i64 0, .int .i64 0, .int .i64 0, .slice none 0 0, .int .i64 0, .slice none 0 0, .slice none 0 0, .slice none 0 0]) 9 136 Tryz.underlying30 hiP hyA hyB hyC rfl (by decide) _ (l.take j) F ?he (unhide HP).1 (unhide HP).2.1 ⟨wr.heap.size, 0, none⟩ 1 [.int .i64 p.idN, .int .i64 p.idR, .int .i64 p.parN, .int .i64 p.parR, .slice a7 p.key.length c7, .int .i64 p.kind, .slice a8 p.name.length c8, .slice a9 p.text.length c9, .slice va vn vc] p (FB (.slice a7 p.key.length c7) ++ FB (.slice a8 p.name.length c8) ++ FB (.slice a9 p.text.length c9) ++ Fa) ?hx rfl (unhide HY).2.2.2.2.2.2.2 ?c0 (unhide HP).2.2.1 (unhide HP).2.2.2.1 (unhide HP).2.2.2.2.1 (unhide HP).2.2.2.2.2 ?c1 ?c2 ?_))
            case c0 => exact ⟨rfl, rfl, rfl, rfl, rfl, rfl, rfl, rfl, rfl⟩
            case c1 => unfold maxLen; omega
            case c2 => omega
            intro g9 cap9 w9 F9 hF9 hN9 hM9 hf9 hg9
            obtain ⟨l0, l1, l2, hA9, hBa, hRg, hrg, _⟩ := unhide HY
            try simp only [hL1] at hF9
            rw [← unhide HN] at hF9
            have hFv : ∀ q ∈ FB (.slice a' j c'), q ∈ F := fun q hq => by
              obtain ⟨_, _, _, _, _, _, e⟩ := (unhide HP).1
              rw [e]
              exact List.mem_append_left _ hq
            have hF5 : ∀ q ∈ FB (.slice a' j c'), w.heap.size + 3 ≤ q := fun q hq => (hrg q (hFv q hq)).1
            replace l0 := (l0.all hBa).frm hf9 (fun h => by have := hF5 _ h; omega)
            replace l1 := (l1.all hBa).frm hf9 (fun h => by have := hF5 _ h; omega)
            replace l2 := (l2.all hBa).frm hf9 (fun h => by have := hF5 _ h; omega)
            have hA10 := (bstep hA9 hBa).trans (hf9.below (bstep hA9 hBa).size (fun q hq => by have := hF5 q hq; omega))
            have hsa : (wr.alloc (.cells #[.int .i64 p.idN, .int .i64 p.idR, .int .i64 p.parN, .int .i64 p.parR, .slice a7 p.key.length c7, .int .i64 p.kind, .slice a8 p.name.length c8, .slice a9 p.text.length c9, .slice va vn vc] 107)).heap.size = wr.heap.size + 1 := by simp
            have r9 : ∀ q ∈ F9, w.heap.size + 3 ≤ q ∧ q < w9.heap.size := fun q hq => by
              refine ⟨?_, OwPls.lt hF9 q hq⟩
              rcases hM9 q hq with h | h | h
              · exact (hrg q h).1
              · have := (hRg q (by simpa [List.mem_append, or_assoc] using h)).1
                omega
              · omega
            have z0_ : w9.cell? ⟨w.heap.size + 2, 0, none⟩ = some (.slice a' j c') := l2.cell 0
            have zf_ := l2.frozen 0
            have fs := set_frm w9 (w.heap.size + 2) 0 (.slice (some ⟨g9, 0, none⟩) (j + 1) cap9)
            have m2 := l2.set 0 (.slice (some ⟨g9, 0, none⟩) (j + 1) cap9)
            have m0 := l0.frm fs (by simp)
            have m1 := l1.frm fs (by simp)
            have mp := OwPls.frm hF9 fs (fun q hq e => by have e9 : q = w.heap.size + 2 := (by simpa using e); have := (r9 q hq).1; omega)
            have mA := hA10.trans (fs.below hA10.size (fun q hq => by have e9 : q = w.heap.size + 2 := (by simpa using hq); omega))
            have mr : ∀ q ∈ F9, w.heap.size + 3 ≤ q ∧ q < (w9.setCell ⟨w.heap.size + 2, 0, none⟩ (.slice (some ⟨g9, 0, none⟩) (j + 1) cap9)).heap.size := fun q hq => ⟨(r9 q hq).1, Nat.lt_of_lt_of_le (r9 q hq).2 fs.size⟩
            have HE := hide (And.intro m0 (And.intro m1 (And.intro m2 (And.intro mp (And.intro hN9 (And.intro mr mA))))))
            clear l0 l1 l2 hA9 hBa hRg hrg HY HP m0 m1 m2 mp mA mr fs hA10 r9 hF9 hM9 hf9 hF5 hFv
            go_wp2_with fail
            go_roundw
            case rel => refine ⟨_, _, _, _, _, _, _, _, _, _, _, _, _, _, _, _, _, _, _, _, _, _, _, _, _, _, _, _, _, _, _, _, _, _, _, _, _, _, _, _, _, _, _, _, _, _, _, _, _, _, _, _, _, _, _, _, _, _, _, _, _, _, _, _, _, _, _, _, _, _, ?_, rfl⟩; exact ⟨j + 1, _, _, F9, by omega, by go_num, (unhide HE).1, (unhide HE).2.1, (unhide HE).2.2.1, (unhide HE).2.2.2.1, (unhide HE).2.2.2.2.1, (unhide HE).2.2.2.2.2.1, (unhide HE).2.2.2.2.2.2⟩
            case measure => simp [intOf]; omega
    · have hlt' : ¬ (j : Int) < (l.length : Int) := by omega
      have he : j = l.length := by omega
      subst he
      rw [List.take_length] at hpl
      have r0 := l1.cell 0
      have rf := l1.frozen 0
      have o0 : wr.cell? ⟨w.heap.size + 2, 0, none⟩ = some (.slice a' l.length c') := l2.cell 0
      have lrX := l1.set 0 (.slice a' l.length c')
      have fX := set_frm wr (w.heap.size + 1) 0 (.slice a' l.length c')
      have hplX := hpl.frm fX (fun g hg e => by simp at e; have := (hrg g hg).1; omega)
      have hAX := hA.trans (fX.below hA.size (fun q hq => by simp at hq; omega))
      have eX := lrX.cell 0
      have hs5 := fX.size
      have HX := hide (And.intro hplX (And.intro hnd (And.intro (show ∀ q ∈ F, w.heap.size ≤ q ∧ q < (wr.setCell ⟨w.heap.size + 1, 0, none⟩ (.slice a' l.length c')).heap.size from fun q hq => ⟨by have := (hrg q hq).1; omega, Nat.lt_of_lt_of_le (hrg q hq).2 hs5⟩) (And.intro hAX eX))))
      clear hpl hnd hrg hA l0 l1 l2 lrX fX hplX hAX eX hs5
      go_wp2_with fail
      obtain ⟨hplX, hnd, hrg, hAX, eX⟩ := unhide HX
      exact bodyPost_ret (v := .agg #[.slice a' l.length c']) (by simp [results, Tryz.results24, go_sem, eX]) rfl ⟨a', c', rfl, F, hplX, hnd, hrg, hAX⟩
end Go.Proofs.YtnfafchajjclaaaGreatDoor
