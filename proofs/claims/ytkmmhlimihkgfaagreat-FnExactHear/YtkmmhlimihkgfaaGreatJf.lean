/- Own texts joined: L5put, HearT, RegI, St10. -/
import Derived.Test.YtkmmhlimihkgfaaGreatJa
import Derived.Test.YtkmmhlimihkgfaaGreatJb
import Derived.Test.YtkmmhlimihkgfaaGreatJc
import Derived.Test.YtkmmhlimihkgfaaGreatJd
import Derived.Test.YtkmmhlimihkgfaaGreatJe
import Derived.Deep.CutBlock
import Derived.OrdersIn
import Derived.OwnWalkIn

/- spec.l5put. -/
namespace Go.Proofs.YtkmmhlimihkgfaaGreat
open Go.RowKit
set_option linter.unusedVariables false
set_option maxRecDepth 100000

theorem bstepF {a b c : World} {S : List Nat} (h : Below a.heap.size a b) (f : Frm b c S) (hs : ∀ g ∈ S, a.heap.size ≤ g) : Below a.heap.size a c := h.trans (f.below h.size hs)
/-- The operations with one more put among them. -/
def putL (l : List OpV) (o : OpV) : List OpV :=
  if there l o.atN o.atR then (if klB (opBytes o) (opBytes (l.getD (posO l o.atN o.atR) o)) then l.set (posO l o.atN o.atR) o else l)
  else if 150 ≤ l.length then l else l.take (posO l o.atN o.atR) ++ [o] ++ l.drop (posO l o.atN o.atR)
def putOk (l : List OpV) (o : OpV) : Bool := there l o.atN o.atR || decide (l.length < 150)

/-- What l5put hands on: the row that it got, or one of its own of operations that were there. -/
def PutR (w0 : World) (B : Nat) (w' : World) (v u : Value) (l pl : List OpV) : Prop := (u = v ∧ pl = l) ∨ ShOps w0 w' B u pl
theorem ShOps.low {w0 w : World} {b b' : Nat} {v : Value} {l : List OpV} (h : ShOps w0 w b v l) (hb : b' ≤ b) : ShOps w0 w b' v l := by
  obtain ⟨Cs, z1, z2, z3⟩ := h
  exact ⟨Cs, z1, z2, ownsRow_base z3 b' hb⟩

set_option maxHeartbeats 200000000 in
theorem l5put_sh (w0 w : World) (hB00 : Below w0.heap.size w0 w) (v vo : Value) (l : List OpV) (o : OpV) (h : RdOps w0 v l) (ho : RdOp w0 vo o) (hl : l.length ≤ 150) (hk : o.key.length ≤ 2097152) (hkl : ∀ x ∈ l, x.key.length ≤ 2097152) :
    Calls Tryz.prog 46 #[v, vo] w fun e w' => ∃ u, e = .returned (.tuple #[u, .bool (putOk l o)]) ∧ PutR w0 w.heap.size w' v u l (putL l o) ∧ Below w.heap.size w w' := by
  have HBO := hide (fun W (hW : Below w.heap.size w W) => bytesS_any W vo o ((ho.keep hB00).keep hW) hk)
  obtain ⟨k, n, t, rfl, hk0, hn0, ht0⟩ := ho
  obtain ⟨ak, ck, rfl, _, _⟩ := hk0.shape
  obtain ⟨an, cn, rfl, _, _⟩ := hn0.shape
  obtain ⟨tt, ct, rfl, _, _⟩ := ht0.shape
  have HRD := hide (And.intro hk0 (And.intro hn0 ht0))
  clear hk0 hn0 ht0
  unfold opVal at HBO ⊢
  have hA := (Below.refl w.heap.size w).alloc (Nat.le_refl _) (.cells #[.int .i64 o.kind, .int .i64 o.atN, .int .i64 o.atR, .int .i64 o.nodeN, .int .i64 o.nodeR, .int .i64 o.parN, .int .i64 o.parR, .slice ak o.key.length ck, .int .i64 o.elem, .slice an o.name.length cn, .slice tt o.text.length ct, .bool o.gone] 28)
  have lo := Loc.made w #[.int .i64 o.kind, .int .i64 o.atN, .int .i64 o.atR, .int .i64 o.nodeN, .int .i64 o.nodeR, .int .i64 o.parN, .int .i64 o.parR, .slice ak o.key.length ck, .int .i64 o.elem, .slice an o.name.length cn, .slice tt o.text.length ct, .bool o.gone] 28
  have hR := (h.keep hB00).keep hA
  have HRO := hide hR
  have HR0 := hide h
  have HZ0 := hide (bstep hB00 hA)
  obtain ⟨av, cv, rfl, _, _⟩ := Elems.shape h
  have HAT := hide (fun j (hj : j < l.length) => (show ∃ b off cap, (Value.slice av l.length cv) = .slice (some ⟨b, off, none⟩) l.length cap ∧ b < (w.alloc (.cells #[.int .i64 o.kind, .int .i64 o.atN, .int .i64 o.atR, .int .i64 o.nodeN, .int .i64 o.nodeR, .int .i64 o.parN, .int .i64 o.parR, .slice ak o.key.length ck, .int .i64 o.elem, .slice an o.name.length cn, .slice tt o.text.length ct, .bool o.gone] 28)).heap.size ∧ ∃ C : List Value, C.length = 12 ∧ (∀ i, i < 12 → (w.alloc (.cells #[.int .i64 o.kind, .int .i64 o.atN, .int .i64 o.atR, .int .i64 o.nodeN, .int .i64 o.nodeR, .int .i64 o.parN, .int .i64 o.parR, .slice ak o.key.length ck, .int .i64 o.elem, .slice an o.name.length cn, .slice tt o.text.length ct, .bool o.gone] 28)).cell? ⟨b, off + j * 12 + i, none⟩ = C[i]?) ∧ RdOpC (w.alloc (.cells #[.int .i64 o.kind, .int .i64 o.atN, .int .i64 o.atR, .int .i64 o.nodeN, .int .i64 o.nodeR, .int .i64 o.parN, .int .i64 o.parR, .slice ak o.key.length ck, .int .i64 o.elem, .slice an o.name.length cn, .slice tt o.text.length ct, .bool o.gone] 28)) C l[j] by
    obtain ⟨_, ⟨_, e⟩ | ⟨_, _, _, _, e⟩ | ⟨b, off, cap, ev, g1, g2, g3, g4, g5⟩⟩ := hR
    · subst e; simp at hj
    · subst e; simp at hj
    · exact ⟨b, off, cap, ev, g4, g5 j hj⟩))
  have LL := hide (And.intro hA lo)
  clear hA lo hR h hB00
  have hll : (l.length : Int) ≤ 150 := by omega
  refine calls_via ?_
  intro Q HQ
  go_enter Tryz.func46, Tryz.ntmps46
  go_upto_block 0 with fail
  obtain ⟨hA, lo⟩ := unhide LL
  clear LL
  generalize (w.alloc (.cells #[.int .i64 o.kind, .int .i64 o.atN, .int .i64 o.atR, .int .i64 o.nodeN, .int .i64 o.nodeR, .int .i64 o.parN, .int .i64 o.parR, .slice ak o.key.length ck, .int .i64 o.elem, .slice an o.name.length cn, .slice tt o.text.length ct, .bool o.gone] 28)) = wa at *
  generalize hSS : w.heap.size = S at *
  have hSl := lo.lt
  have hA' : Below w.heap.size w wa := by rw [hSS]; exact hA
  go_cut [6] from 8 to 23 (fun s6 wx => s6 = .int .i64 (posO l o.atN o.atR) ∧ Below wa.heap.size wa wx)
  case first =>
    go_wp2_with fail
    go_loopw [6] (fun i wr => ∃ a : Nat, a ≤ l.length ∧ i = .int .i64 a ∧ Hid (∀ k (hk : k < l.length), k < a → ahead o.atN o.atR l[k] = true) ∧ Below wa.heap.size wa wr) (fun i _ => l.length - (intOf i).toNat)
    case atStart => exact ⟨0, Nat.zero_le _, rfl, hide (fun k _ hk => by omega), Below.refl _ _⟩
    case round =>
      obtain ⟨a, hal, rfl, HI, hB⟩ := hrel
      by_cases hlt : a < l.length
      · have hlt' : (a : Int) < (l.length : Int) := by omega
        have ha0 : (0 : Int) ≤ (a : Int) := by omega
        have hda : decide (a < l.length) = true := by simpa using hlt
        obtain ⟨pb, poff, pcap, epv, hpl, hel⟩ := unhide HAT a hlt
        cases epv
        obtain ⟨b1, d1, b2, d2, b3, d3, e0, e1, e2, e3, e4, e5, e6, e7, e8, e9, e10, e11, hro⟩ := opc_at (w := wa) (W := wr) hB hpl hel
        have lt1 := lo.all hB
        have t1 : wr.cell? ⟨S, 1, none⟩ = some (.int .i64 o.atN) := lt1.cell 1
        have t2 : wr.cell? ⟨S, 2, none⟩ = some (.int .i64 o.atR) := lt1.cell 2
        have hSr : S < wr.heap.size := lt1.lt
        have hpr : pb < wr.heap.size := Nat.lt_of_lt_of_le hpl hB.size
        replace e1 := Gr.cell hpr e1
        replace e2 := Gr.cell hpr e2
        replace t1 := Gr.cell hSr t1
        replace t2 := Gr.cell hSr t2
        have hNE : Nonempty (Gr wr) := ⟨⟨wr, Below.refl _ _⟩⟩
        clear hel hro lt1 e0 e3 e4 e5 e6 e7 e8 e9 e10 e11
        have HC := hide (fun W => lessS_any W l[a].atN l[a].atR o.atN o.atR)
        have HD := hide (And.intro (fun (hh : ahead o.atN o.atR l[a] = true) => (show ∀ k (hk : k < l.length), k < a + 1 → ahead o.atN o.atR l[k] = true from fun k hk hka => by
          rcases Nat.lt_succ_iff_lt_or_eq.1 hka with h1 | rfl
          · exact unhide HI k hk h1
          · exact hh)) (fun (hh : ahead o.atN o.atR l[a] = false) => (show posO l o.atN o.atR = a from posO_of hal (unhide HI) (fun _ => hh))))
        change Hid (∀ W, Calls _ _ _ W fun e w' => e = .returned (.bool (ahead o.atN o.atR l[a])) ∧ _) at HC
        generalize ahead o.atN o.atR l[a] = am at *
        generalize l[a] = p0 at *
        go_wp2_with fail
        refine wp_region_gr (by kernel_rfl) (by kernel_rfl) ?_
        repeat (go_big_quiet_step ((rename_i p; exact calls_gr (unhide HC _))))
        refine wpQuiet_nil ?_
        rintro _ ⟨p, rfl⟩
        have hB3 := bstep hB p.h
        clear e1 e2 t1 t2 HC HI
        cases am with
        | true =>
          have HD1 := hide ((unhide HD).1 rfl)
          clear HD
          go_wp2_with fail
          go_roundw
          case rel => exact ⟨a + 1, by omega, by go_num, HD1, hB3⟩
          case measure => simp [intOf]; omega
        | false =>
          have HD1 := hide ((unhide HD).2 rfl)
          clear HD
          go_wp2_with fail
          go_meet
          exact ⟨by rw [unhide HD1], hB3⟩
      · have hae : a = l.length := by omega
        subst hae
        have HD1 := hide (show posO l o.atN o.atR = l.length from posO_of hal (unhide HI) (fun hk => by omega))
        clear HI hlt
        have hNE : Nonempty (Gr wr) := ⟨⟨wr, Below.refl _ _⟩⟩
        go_wp2_with fail
        refine wp_region_gr (by kernel_rfl) (by kernel_rfl) ?_
        repeat (go_big_quiet_step (fail))
        refine wpQuiet_nil ?_
        rintro _ ⟨p, rfl⟩
        have hB3 := bstep hB p.h
        go_wp2_with fail
        go_meet
        exact ⟨by rw [unhide HD1], hB3⟩
  case rest =>
    obtain ⟨rfl, hB⟩ := hcut
    have hple := posO_le l o.atN o.atR
    generalize hpp : posO l o.atN o.atR = p at *
    have HPP := hide hpp
    clear hpp
    have hpI : (p : Int) ≤ (l.length : Int) := by omega
    have hp0 : (0 : Int) ≤ (p : Int) := by omega
    go_upto_region 5 with fail
    go_cut [37] from 24 to 36 (fun s37 wx => s37 = .bool (there l o.atN o.atR) ∧ Below wa.heap.size wa wx)
    case first =>
      have hNE : Nonempty (Gr wc) := ⟨⟨wc, Below.refl _ _⟩⟩
      by_cases hlt : p < l.length
      · have hlt' : (p : Int) < (l.length : Int) := by omega
        have hda : decide (p < l.length) = true := by simpa using hlt
        have HT := hide (show there l o.atN o.atR = (l[p].atN == o.atN && l[p].atR == o.atR) by
          have e := unhide HPP
          unfold there
          simp only [e, hlt, dite_true]
          rw [Bool.eq_iff_iff]
          simp)
        obtain ⟨pb, poff, pcap, epv, hpl, hel⟩ := unhide HAT p hlt
        cases epv
        obtain ⟨b1, d1, b2, d2, b3, d3, e0, e1, e2, e3, e4, e5, e6, e7, e8, e9, e10, e11, hro⟩ := opc_at (w := wa) (W := wc) hB hpl hel
        have lt1 := lo.all hB
        have t1 : wc.cell? ⟨S, 1, none⟩ = some (.int .i64 o.atN) := lt1.cell 1
        have t2 : wc.cell? ⟨S, 2, none⟩ = some (.int .i64 o.atR) := lt1.cell 2
        have hSr : S < wc.heap.size := lt1.lt
        have hpr : pb < wc.heap.size := Nat.lt_of_lt_of_le hpl hB.size
        replace e1 := Gr.cell hpr e1
        replace e2 := Gr.cell hpr e2
        replace t1 := Gr.cell hSr t1
        replace t2 := Gr.cell hSr t2
        skip
        clear hel hro lt1 e0 e3 e4 e5 e6 e7 e8 e9 e10 e11
        generalize l[p] = p0 at *
        generalize p0.atN = pn at *
        generalize p0.atR = pr at *
        have HM := hide (fun b => (show there l o.atN o.atR = b → ∀ W, Below wc.heap.size wc W → (Value.bool b = .bool (there l o.atN o.atR) ∧ Below wa.heap.size wa W) from fun e W hW => ⟨by rw [e], bstep hB hW⟩))
        by_cases h1 : pn = o.atN
        · by_cases h2 : pr = o.atR
          · have HT2 := hide ((unhide HT).trans (show _ = true by rw [h1, h2]; simp))
            subst h1 h2
            clear HT
            refine wp_region_gr (by kernel_rfl) (by kernel_rfl) ?_
            repeat (go_big_quiet_step (fail))
            refine wpQuiet_nil ?_
            rintro _ ⟨q, rfl⟩
            clear e1 e2 t1 t2
            go_wp2_with fail
            go_meet
            exact unhide HM true (unhide HT2) _ q.h
          · have HT2 := hide ((unhide HT).trans (show _ = false by simp [h2]))
            subst h1
            have q2 : (pr == o.atR) = false := by simpa using h2
            clear HT h2
            refine wp_region_gr (by kernel_rfl) (by kernel_rfl) ?_
            repeat (go_big_quiet_step (fail))
            refine wpQuiet_nil ?_
            rintro _ ⟨q, rfl⟩
            clear e1 e2 t1 t2
            go_wp2_with fail
            go_meet
            exact unhide HM false (unhide HT2) _ q.h
        · have HT2 := hide ((unhide HT).trans (show _ = false by simp [h1]))
          have q1 : (pn == o.atN) = false := by simpa using h1
          clear HT h1
          refine wp_region_gr (by kernel_rfl) (by kernel_rfl) ?_
          repeat (go_big_quiet_step (fail))
          refine wpQuiet_nil ?_
          rintro _ ⟨q, rfl⟩
          clear e1 e2 t1 t2
          go_wp2_with fail
          go_meet
          exact unhide HM false (unhide HT2) _ q.h
      · have hae : p = l.length := by omega
        have HT := hide (show there l o.atN o.atR = false by
          have e := unhide HPP
          unfold there
          simp only [e, hlt, dite_false])
        subst hae
        clear hlt
        refine wp_region_gr (by kernel_rfl) (by kernel_rfl) ?_
        repeat (go_big_quiet_step (fail))
        refine wpQuiet_nil ?_
        rintro _ ⟨q, rfl⟩
        have hB3 := bstep hB q.h
        go_wp2_with fail
        go_meet
        exact ⟨by rw [unhide HT], hB3⟩
    case rest =>
      obtain ⟨rfl, hB2⟩ := hcut
      clear hB
      have hBw : Below S w wc := hA.trans (hB2.mono (Nat.le_of_lt hSl))
      cases hth : there l o.atN o.atR with
      | false =>
        have HV := hide (show putL l o = (if 150 ≤ l.length then l else l.take p ++ [o] ++ l.drop p) by unfold putL; rw [hth, unhide HPP, if_neg (by decide)])
        have HK := hide (show putOk l o = decide (l.length < 150) by unfold putOk; rw [hth]; rfl)
        by_cases h150 : 150 ≤ l.length
        · have hd : (150 : Int) ≤ (l.length : Int) := by omega
          have KK := hide (show ∃ u, Ending.returned (.tuple #[(Value.slice av l.length cv), .bool false]) = .returned (.tuple #[u, .bool (putOk l o)]) ∧ PutR w0 S wc (Value.slice av l.length cv) u l (putL l o) ∧ Below S w wc from ⟨_, by rw [unhide HK, decide_eq_false (by omega)], by rw [unhide HV, if_pos h150]; exact .inl ⟨rfl, rfl⟩, hBw⟩)
          clear hBw hB2 hA lo
          go_wp2_with fail
          exact unhide HQ _ _ (unhide KK)
        · have hd : ¬ (150 : Int) ≤ (l.length : Int) := by omega
          rw [if_neg h150] at HV
          have hks : putOk l o = true := by rw [unhide HK]; simpa using h150
          have HKS := hide hks
          clear hks HK
          have HO1 := hide (show RdOpC w0 [.int .i64 o.kind, .int .i64 o.atN, .int .i64 o.atR, .int .i64 o.nodeN, .int .i64 o.nodeR, .int .i64 o.parN, .int .i64 o.parR, .slice ak o.key.length ck, .int .i64 o.elem, .slice an o.name.length cn, .slice tt o.text.length ct, .bool o.gone] o by obtain ⟨r1, r2, r3⟩ := unhide HRD; exact ⟨_, _, _, rfl, r1, r2, r3⟩)
          obtain ⟨hml, ⟨ev, el⟩ | ⟨x, cap, ev, hc, el⟩ | ⟨b, off, cap, ev, g1, g2, g3, g4, g5⟩⟩ := unhide HR0
          · subst el
            have hp00 : p = 0 := by simpa using hple
            subst hp00
            cases ev
            have hwc := hB2.size
            have HX := hide (And.intro hB2 hBw)
            have HSZ := hide (show ∀ W, Seg w0 W (.slice none 0 0) [] from fun W => .inl ⟨rfl, rfl⟩)
            clear hB2 hBw
            go_wp2_with (at_builtin; refine wpList_appSh (w0 := w0) rfl _ _ rfl wc.heap.size _ [] rfl (sh_none _ _ _) _ [] rfl (unhide HSZ _) ?hole1 (Nat.le_refl _) ?_)
            intro u1 w1 hs1 hg1
            have hB1 := Below.ofGrown hg1
            have hBa1 := bstep (unhide HX).1 hB1
            have hBw1 : Below S w w1 := (unhide HX).2.trans (hB1.mono (by have := (unhide HX).2.size; omega))
            have lo1 := lo.all hBa1
            obtain ⟨a9, c9, ev9⟩ : ∃ a9 c9, u1 = .slice a9 0 c9 := by
              obtain ⟨Cs, _, _, hown⟩ := hs1
              rcases hown.2 with ⟨e, e0⟩ | ⟨g, cap', cur, e, _⟩
              · exact ⟨none, 0, e⟩
              · exact ⟨_, _, by simpa using e⟩
            subst ev9
            obtain ⟨x0, x1, x2, x3, x4, x5, x6, x7, x8, x9, x10, x11⟩ := lo1.twelve
            have hAe := (Below.refl w1.heap.size w1).alloc (Nat.le_refl _) (.cells #[.int .i64 o.kind, .int .i64 o.atN, .int .i64 o.atR, .int .i64 o.nodeN, .int .i64 o.nodeR, .int .i64 o.parN, .int .i64 o.parR, .slice ak o.key.length ck, .int .i64 o.elem, .slice an o.name.length cn, .slice tt o.text.length ct, .bool o.gone] 28)
            have lE := Loc.made w1 #[.int .i64 o.kind, .int .i64 o.atN, .int .i64 o.atR, .int .i64 o.nodeN, .int .i64 o.nodeR, .int .i64 o.parN, .int .i64 o.parR, .slice ak o.key.length ck, .int .i64 o.elem, .slice an o.name.length cn, .slice tt o.text.length ct, .bool o.gone] 28
            have HS2 := hide (Seg.one (w0 := w0) (w := (w1.alloc (.cells #[.int .i64 o.kind, .int .i64 o.atN, .int .i64 o.atR, .int .i64 o.nodeN, .int .i64 o.nodeR, .int .i64 o.parN, .int .i64 o.parR, .slice ak o.key.length ck, .int .i64 o.elem, .slice an o.name.length cn, .slice tt o.text.length ct, .bool o.gone] 28))) (g := w1.heap.size) (C := [.int .i64 o.kind, .int .i64 o.atN, .int .i64 o.atR, .int .i64 o.nodeN, .int .i64 o.nodeR, .int .i64 o.parN, .int .i64 o.parR, .slice ak o.key.length ck, .int .i64 o.elem, .slice an o.name.length cn, .slice tt o.text.length ct, .bool o.gone]) (o := o) rfl lE (unhide HO1))
            have HSH := hide (show ShOps w0 (w1.alloc (.cells #[.int .i64 o.kind, .int .i64 o.atN, .int .i64 o.atR, .int .i64 o.nodeN, .int .i64 o.nodeR, .int .i64 o.parN, .int .i64 o.parR, .slice ak o.key.length ck, .int .i64 o.elem, .slice an o.name.length cn, .slice tt o.text.length ct, .bool o.gone] 28)) wc.heap.size (.slice a9 0 c9) [] by
              obtain ⟨Cs, z1, z2, z3⟩ := hs1
              exact ⟨Cs, by simpa using z1, fun i hi => by simp at hi, ownsRow_frm (by simpa using z3) (Frm.ofBelow hAe []) (fun _ _ => by simp)⟩)
            have HY := hide (And.intro (bstep hBa1 hAe) (And.intro (hBw1.trans (hAe.mono (by have := hBw1.size; omega))) (show wc.heap.size ≤ (w1.alloc (.cells #[.int .i64 o.kind, .int .i64 o.atN, .int .i64 o.atR, .int .i64 o.nodeN, .int .i64 o.nodeR, .int .i64 o.parN, .int .i64 o.parR, .slice ak o.key.length ck, .int .i64 o.elem, .slice an o.name.length cn, .slice tt o.text.length ct, .bool o.gone] 28)).heap.size by have := hB1.size; have := hAe.size; omega)))
            clear hs1 hg1 hB1 hBa1 hBw1 lo1 hAe lE HX
            go_wp2_with (at_builtin; refine wpList_appSh (w0 := w0) rfl _ _ rfl wc.heap.size _ [] rfl (unhide HSH) _ [o] rfl (unhide HS2) ?hole2 (unhide HY).2.2 ?_)
            case hole2 => first | omega | simp
            intro u2 w2 hs2 hg2
            clear x0 x1 x2 x3 x4 x5 x6 x7 x8 x9 x10 x11
            have hlt9 : ∀ q, (Value.slice a9 0 c9).ownBlock = some q → wc.heap.size ≤ q := fun q hq => by
              obtain ⟨Cs, _, _, z3⟩ := unhide HSH
              exact (z3.lt q hq).1
            have hBa2 := bstepBy (unhide HY).1 hg2 (fun q hq => by have := hlt9 q hq; omega)
            have hsz2 : wc.heap.size ≤ w2.heap.size := Nat.le_trans (unhide HY).2.2 hg2.size
            obtain ⟨a8, c8, ev8⟩ : ∃ a8 c8, u2 = .slice a8 1 c8 := by
              obtain ⟨Cs, _, _, hown⟩ := hs2
              rcases hown.2 with ⟨e, e0⟩ | ⟨g, cap', cur, e, _⟩
              · simp at e0
              · exact ⟨_, _, by simpa using e⟩
            subst ev8
            replace hs2 : ShOps w0 w2 wc.heap.size (.slice a8 1 c8) [o] := by simpa using hs2
            have HSH2 := hide (And.intro hs2 hsz2)
            have HEND := hide (fun u3 w3 (hs3 : ShOps w0 w3 wc.heap.size u3 [o]) (hB3 : Below wa.heap.size wa w3) => (show ∃ u, Ending.returned (.tuple #[u3, .bool true]) = .returned (.tuple #[u, .bool (putOk [] o)]) ∧ PutR w0 S w3 (Value.slice none 0 0) u [] (putL [] o) ∧ Below S w w3 from ⟨u3, by rw [unhide HKS], by rw [unhide HV]; exact .inr (hs3.low (by omega)), hA.trans (hB3.mono (Nat.le_of_lt hSl))⟩))
            have HG2 := hide (fun w3 (hg3 : w2.grownBy w3 (Value.slice a8 1 c8).ownBlock) => (show Below wa.heap.size wa w3 from bstepBy hBa2 hg3 (fun q hq => by
              obtain ⟨Cs, _, _, z3⟩ := hs2
              have := (z3.lt q hq).1
              omega)))
            clear hs2 hg2 hBa2 hlt9 HSH HY HS2
            go_wp2_with (at_builtin; refine wpList_appSh (w0 := w0) rfl _ _ rfl wc.heap.size _ [o] rfl (unhide HSH2).1 _ [] rfl (unhide HSZ _) ?hole3 (unhide HSH2).2 ?_)
            case hole3 => first | omega | simp
            intro u3 w3 hs3 hg3
            have KK := hide (unhide HEND u3 w3 (by simpa using hs3) (unhide HG2 w3 hg3))
            clear hs3 hg3
            go_wp2_with fail
            exact unhide HQ _ _ (unhide KK)
          · subst el
            have hp00 : p = 0 := by simpa using hple
            subst hp00
            cases ev
            have hwc := hB2.size
            have HX := hide (And.intro hB2 hBw)
            have HSZ := hide (show ∀ W, Seg w0 W (.slice (some x) 0 cv) [] from fun W => .inr (.inl ⟨_, _, rfl, rfl⟩))
            clear hB2 hBw
            go_wp2_with (at_builtin; refine wpList_appSh (w0 := w0) rfl _ _ rfl wc.heap.size _ [] rfl (sh_none _ _ _) _ [] rfl (unhide HSZ _) ?hole4 (Nat.le_refl _) ?_)
            intro u1 w1 hs1 hg1
            have hB1 := Below.ofGrown hg1
            have hBa1 := bstep (unhide HX).1 hB1
            have hBw1 : Below S w w1 := (unhide HX).2.trans (hB1.mono (by have := (unhide HX).2.size; omega))
            have lo1 := lo.all hBa1
            obtain ⟨a9, c9, ev9⟩ : ∃ a9 c9, u1 = .slice a9 0 c9 := by
              obtain ⟨Cs, _, _, hown⟩ := hs1
              rcases hown.2 with ⟨e, e0⟩ | ⟨g, cap', cur, e, _⟩
              · exact ⟨none, 0, e⟩
              · exact ⟨_, _, by simpa using e⟩
            subst ev9
            obtain ⟨x0, x1, x2, x3, x4, x5, x6, x7, x8, x9, x10, x11⟩ := lo1.twelve
            have hAe := (Below.refl w1.heap.size w1).alloc (Nat.le_refl _) (.cells #[.int .i64 o.kind, .int .i64 o.atN, .int .i64 o.atR, .int .i64 o.nodeN, .int .i64 o.nodeR, .int .i64 o.parN, .int .i64 o.parR, .slice ak o.key.length ck, .int .i64 o.elem, .slice an o.name.length cn, .slice tt o.text.length ct, .bool o.gone] 28)
            have lE := Loc.made w1 #[.int .i64 o.kind, .int .i64 o.atN, .int .i64 o.atR, .int .i64 o.nodeN, .int .i64 o.nodeR, .int .i64 o.parN, .int .i64 o.parR, .slice ak o.key.length ck, .int .i64 o.elem, .slice an o.name.length cn, .slice tt o.text.length ct, .bool o.gone] 28
            have HS2 := hide (Seg.one (w0 := w0) (w := (w1.alloc (.cells #[.int .i64 o.kind, .int .i64 o.atN, .int .i64 o.atR, .int .i64 o.nodeN, .int .i64 o.nodeR, .int .i64 o.parN, .int .i64 o.parR, .slice ak o.key.length ck, .int .i64 o.elem, .slice an o.name.length cn, .slice tt o.text.length ct, .bool o.gone] 28))) (g := w1.heap.size) (C := [.int .i64 o.kind, .int .i64 o.atN, .int .i64 o.atR, .int .i64 o.nodeN, .int .i64 o.nodeR, .int .i64 o.parN, .int .i64 o.parR, .slice ak o.key.length ck, .int .i64 o.elem, .slice an o.name.length cn, .slice tt o.text.length ct, .bool o.gone]) (o := o) rfl lE (unhide HO1))
            have HSH := hide (show ShOps w0 (w1.alloc (.cells #[.int .i64 o.kind, .int .i64 o.atN, .int .i64 o.atR, .int .i64 o.nodeN, .int .i64 o.nodeR, .int .i64 o.parN, .int .i64 o.parR, .slice ak o.key.length ck, .int .i64 o.elem, .slice an o.name.length cn, .slice tt o.text.length ct, .bool o.gone] 28)) wc.heap.size (.slice a9 0 c9) [] by
              obtain ⟨Cs, z1, z2, z3⟩ := hs1
              exact ⟨Cs, by simpa using z1, fun i hi => by simp at hi, ownsRow_frm (by simpa using z3) (Frm.ofBelow hAe []) (fun _ _ => by simp)⟩)
            have HY := hide (And.intro (bstep hBa1 hAe) (And.intro (hBw1.trans (hAe.mono (by have := hBw1.size; omega))) (show wc.heap.size ≤ (w1.alloc (.cells #[.int .i64 o.kind, .int .i64 o.atN, .int .i64 o.atR, .int .i64 o.nodeN, .int .i64 o.nodeR, .int .i64 o.parN, .int .i64 o.parR, .slice ak o.key.length ck, .int .i64 o.elem, .slice an o.name.length cn, .slice tt o.text.length ct, .bool o.gone] 28)).heap.size by have := hB1.size; have := hAe.size; omega)))
            clear hs1 hg1 hB1 hBa1 hBw1 lo1 hAe lE HX
            go_wp2_with (at_builtin; refine wpList_appSh (w0 := w0) rfl _ _ rfl wc.heap.size _ [] rfl (unhide HSH) _ [o] rfl (unhide HS2) ?hole5 (unhide HY).2.2 ?_)
            case hole5 => first | omega | simp
            intro u2 w2 hs2 hg2
            clear x0 x1 x2 x3 x4 x5 x6 x7 x8 x9 x10 x11
            have hlt9 : ∀ q, (Value.slice a9 0 c9).ownBlock = some q → wc.heap.size ≤ q := fun q hq => by
              obtain ⟨Cs, _, _, z3⟩ := unhide HSH
              exact (z3.lt q hq).1
            have hBa2 := bstepBy (unhide HY).1 hg2 (fun q hq => by have := hlt9 q hq; omega)
            have hsz2 : wc.heap.size ≤ w2.heap.size := Nat.le_trans (unhide HY).2.2 hg2.size
            obtain ⟨a8, c8, ev8⟩ : ∃ a8 c8, u2 = .slice a8 1 c8 := by
              obtain ⟨Cs, _, _, hown⟩ := hs2
              rcases hown.2 with ⟨e, e0⟩ | ⟨g, cap', cur, e, _⟩
              · simp at e0
              · exact ⟨_, _, by simpa using e⟩
            subst ev8
            replace hs2 : ShOps w0 w2 wc.heap.size (.slice a8 1 c8) [o] := by simpa using hs2
            have HSH2 := hide (And.intro hs2 hsz2)
            have HEND := hide (fun u3 w3 (hs3 : ShOps w0 w3 wc.heap.size u3 [o]) (hB3 : Below wa.heap.size wa w3) => (show ∃ u, Ending.returned (.tuple #[u3, .bool true]) = .returned (.tuple #[u, .bool (putOk [] o)]) ∧ PutR w0 S w3 (Value.slice (some x) 0 cv) u [] (putL [] o) ∧ Below S w w3 from ⟨u3, by rw [unhide HKS], by rw [unhide HV]; exact .inr (hs3.low (by omega)), hA.trans (hB3.mono (Nat.le_of_lt hSl))⟩))
            have HG2 := hide (fun w3 (hg3 : w2.grownBy w3 (Value.slice a8 1 c8).ownBlock) => (show Below wa.heap.size wa w3 from bstepBy hBa2 hg3 (fun q hq => by
              obtain ⟨Cs, _, _, z3⟩ := hs2
              have := (z3.lt q hq).1
              omega)))
            clear hs2 hg2 hBa2 hlt9 HSH HY HS2
            go_wp2_with (at_builtin; refine wpList_appSh (w0 := w0) rfl _ _ rfl wc.heap.size _ [o] rfl (unhide HSH2).1 _ [] rfl (unhide HSZ _) ?hole6 (unhide HSH2).2 ?_)
            case hole6 => first | omega | simp
            intro u3 w3 hs3 hg3
            have KK := hide (unhide HEND u3 w3 (by simpa using hs3) (unhide HG2 w3 hg3))
            clear hs3 hg3
            go_wp2_with fail
            exact unhide HQ _ _ (unhide KK)
          · cases ev
            have hpl : (l.take p).length = p := by rw [List.length_take]; omega
            have HS1 := hide (Seg.at (w0 := w0) (w := wc) (b := b) (off := off) (n := p) (c := cv) (m := l.take p) hpl (bstep (unhide HZ0) hB2) g4 (fun i hi => by
              rw [List.getElem_take]
              exact g5 i (by omega)))
            have HS3 := hide (fun W (hW : Below wa.heap.size wa W) c => Seg.at (w0 := w0) (w := W) (b := b) (off := off + p * 12) (n := l.length - p) (c := c) (m := l.drop p) (by rw [List.length_drop]) (bstep (unhide HZ0) hW) g4 (fun i hi => by
              rw [List.getElem_drop]
              obtain ⟨C, hC, hc, hr⟩ := g5 (p + i) (by rw [List.length_drop] at hi; omega)
              exact ⟨C, hC, fun j hj => by rw [← hc j hj]; congr 2; omega, hr⟩))
            have hpc : (p : Int) ≤ (cv : Int) := by omega
            have hwc := hB2.size
            have HX := hide (And.intro hB2 hBw)
            clear hB2 hBw g5
            go_wp2_with (at_builtin; refine wpList_appSh (w0 := w0) rfl _ _ rfl wc.heap.size _ [] rfl (sh_none _ _ _) _ (l.take p) rfl (unhide HS1) ?hole7 (Nat.le_refl _) ?_)
            case hole7 => first | omega | (simp; omega)
            intro u1 w1 hs1 hg1
            try rw [List.nil_append] at hs1
            have hB1 := Below.ofGrown hg1
            have hBa1 := bstep (unhide HX).1 hB1
            have hBw1 : Below S w w1 := (unhide HX).2.trans (hB1.mono (by have := (unhide HX).2.size; omega))
            have lo1 := lo.all hBa1
            obtain ⟨a9, c9, ev9⟩ : ∃ a9 c9, u1 = .slice a9 p c9 := by
              obtain ⟨Cs, _, _, hown⟩ := hs1
              rw [hpl] at hown
              rcases hown.2 with ⟨e, e0⟩ | ⟨g, cap', cur, e, _⟩
              · exact ⟨none, 0, by rw [e, e0]⟩
              · exact ⟨_, _, e⟩
            subst ev9
            obtain ⟨x0, x1, x2, x3, x4, x5, x6, x7, x8, x9, x10, x11⟩ := lo1.twelve
            have hAe := (Below.refl w1.heap.size w1).alloc (Nat.le_refl _) (.cells #[.int .i64 o.kind, .int .i64 o.atN, .int .i64 o.atR, .int .i64 o.nodeN, .int .i64 o.nodeR, .int .i64 o.parN, .int .i64 o.parR, .slice ak o.key.length ck, .int .i64 o.elem, .slice an o.name.length cn, .slice tt o.text.length ct, .bool o.gone] 28)
            have lE := Loc.made w1 #[.int .i64 o.kind, .int .i64 o.atN, .int .i64 o.atR, .int .i64 o.nodeN, .int .i64 o.nodeR, .int .i64 o.parN, .int .i64 o.parR, .slice ak o.key.length ck, .int .i64 o.elem, .slice an o.name.length cn, .slice tt o.text.length ct, .bool o.gone] 28
            have HS2 := hide (Seg.one (w0 := w0) (w := (w1.alloc (.cells #[.int .i64 o.kind, .int .i64 o.atN, .int .i64 o.atR, .int .i64 o.nodeN, .int .i64 o.nodeR, .int .i64 o.parN, .int .i64 o.parR, .slice ak o.key.length ck, .int .i64 o.elem, .slice an o.name.length cn, .slice tt o.text.length ct, .bool o.gone] 28))) (g := w1.heap.size) (C := [.int .i64 o.kind, .int .i64 o.atN, .int .i64 o.atR, .int .i64 o.nodeN, .int .i64 o.nodeR, .int .i64 o.parN, .int .i64 o.parR, .slice ak o.key.length ck, .int .i64 o.elem, .slice an o.name.length cn, .slice tt o.text.length ct, .bool o.gone]) (o := o) rfl lE (unhide HO1))
            have HSH := hide (show ShOps w0 (w1.alloc (.cells #[.int .i64 o.kind, .int .i64 o.atN, .int .i64 o.atR, .int .i64 o.nodeN, .int .i64 o.nodeR, .int .i64 o.parN, .int .i64 o.parR, .slice ak o.key.length ck, .int .i64 o.elem, .slice an o.name.length cn, .slice tt o.text.length ct, .bool o.gone] 28)) wc.heap.size (.slice a9 p c9) (l.take p) by
              obtain ⟨Cs, z1, z2, z3⟩ := hs1
              exact ⟨Cs, z1, z2, ownsRow_frm z3 (Frm.ofBelow hAe []) (fun _ _ => by simp)⟩)
            have HY := hide (And.intro (bstep hBa1 hAe) (And.intro (hBw1.trans (hAe.mono (by have := hBw1.size; omega))) (show wc.heap.size ≤ (w1.alloc (.cells #[.int .i64 o.kind, .int .i64 o.atN, .int .i64 o.atR, .int .i64 o.nodeN, .int .i64 o.nodeR, .int .i64 o.parN, .int .i64 o.parR, .slice ak o.key.length ck, .int .i64 o.elem, .slice an o.name.length cn, .slice tt o.text.length ct, .bool o.gone] 28)).heap.size by have := hB1.size; have := hAe.size; omega)))
            clear hs1 hg1 hB1 hBa1 hBw1 lo1 hAe lE HX
            go_wp2_with (at_builtin; refine wpList_appSh (w0 := w0) rfl _ _ rfl wc.heap.size _ (l.take p) rfl (unhide HSH) _ [o] rfl (unhide HS2) ?hole8 (unhide HY).2.2 ?_)
            case hole8 => first | omega | (simp; omega)
            intro u2 w2 hs2 hg2
            clear x0 x1 x2 x3 x4 x5 x6 x7 x8 x9 x10 x11
            have hlt9 : ∀ q, (Value.slice a9 p c9).ownBlock = some q → wc.heap.size ≤ q := fun q hq => by
              obtain ⟨Cs, _, _, z3⟩ := unhide HSH
              exact (z3.lt q hq).1
            have hBa2 := bstepBy (unhide HY).1 hg2 (fun q hq => by have := hlt9 q hq; omega)
            have hBw2 : Below S w w2 := hA.trans (hBa2.mono (Nat.le_of_lt hSl))
            have hsz2 : wc.heap.size ≤ w2.heap.size := Nat.le_trans (unhide HY).2.2 hg2.size
            have hl2 : (l.take p ++ [o]).length = p + 1 := by rw [List.length_append, hpl]; rfl
            obtain ⟨a8, c8, ev8⟩ : ∃ a8 c8, u2 = .slice a8 (p + 1) c8 := by
              obtain ⟨Cs, _, _, hown⟩ := hs2
              rw [hl2] at hown
              rcases hown.2 with ⟨e, e0⟩ | ⟨g, cap', cur, e, _⟩
              · omega
              · exact ⟨_, _, e⟩
            subst ev8
            have HS3' := hide (unhide HS3 w2 hBa2)
            have HSH2 := hide (And.intro hs2 (And.intro hBw2 hsz2))
            have HEND := hide (fun u3 w3 (hs3 : ShOps w0 w3 wc.heap.size u3 ((l.take p ++ [o]) ++ l.drop p)) (hB3 : Below wa.heap.size wa w3) => (show ∃ u, Ending.returned (.tuple #[u3, .bool true]) = .returned (.tuple #[u, .bool (putOk l o)]) ∧ PutR w0 S w3 (Value.slice (some ⟨b, off, none⟩) l.length cv) u l (putL l o) ∧ Below S w w3 from ⟨u3, by rw [unhide HKS], by rw [unhide HV]; exact .inr (hs3.low (by omega)), hA.trans (hB3.mono (Nat.le_of_lt hSl))⟩))
            have HG2 := hide (fun w3 (hg3 : w2.grownBy w3 (Value.slice a8 (p + 1) c8).ownBlock) => (show Below wa.heap.size wa w3 from bstepBy hBa2 hg3 (fun q hq => by
              obtain ⟨Cs, _, _, z3⟩ := hs2
              have := (z3.lt q hq).1
              omega)))
            clear hs2 hg2 hBa2 hBw2 hlt9 HSH HY HS1 HS2 HS3
            by_cases hcp : cv = p
            · subst hcp
              have hdr : l.drop cv = [] := List.drop_of_length_le g1
              have hll2 : l.length = cv := by omega
              rw [hdr] at HEND
              have HSZ := hide (show ∀ x c, Seg w0 w2 (.slice (some x) 0 c) [] from fun x c => .inr (.inl ⟨x, c, rfl, rfl⟩))
              go_wp2_with (at_builtin; refine wpList_appSh (w0 := w0) rfl _ _ rfl wc.heap.size _ (l.take cv ++ [o]) rfl (unhide HSH2).1 _ [] rfl (unhide HSZ _ _) ?hole9 (unhide HSH2).2.2 ?_)
              case hole9 => first | omega | (rw [hl2]; simp; omega)
              intro u3 w3 hs3 hg3
              have KK := hide (unhide HEND u3 w3 (by simpa using hs3) (unhide HG2 w3 hg3))
              clear hs3 hg3
              go_wp2_with fail
              exact unhide HQ _ _ (unhide KK)
            · have hlp : (p : Int) ≤ (l.length : Int) := by omega
              go_wp2_with (at_builtin; refine wpList_appSh (w0 := w0) rfl _ _ rfl wc.heap.size _ (l.take p ++ [o]) rfl (unhide HSH2).1 _ (l.drop p) rfl (unhide HS3' _) ?hole10 (unhide HSH2).2.2 ?_)
              case hole10 => first | omega | (rw [hl2, List.length_drop]; omega) | (simp; omega)
              intro u3 w3 hs3 hg3
              have KK := hide (unhide HEND u3 w3 (by simpa using hs3) (unhide HG2 w3 hg3))
              clear hs3 hg3
              go_wp2_with fail
              exact unhide HQ _ _ (unhide KK)
      | true =>
        have hlt : p < l.length := by
          unfold there at hth
          simp only [unhide HPP] at hth
          by_cases hh : p < l.length
          · exact hh
          · rw [dif_neg hh] at hth; cases hth
        have hge : l.getD p o = l[p] := by simp [List.getD_eq_getElem?_getD, hlt]
        have HV := hide (show putL l o = (if klB (opBytes o) (opBytes l[p]) then l.set p o else l) by unfold putL; rw [hth, unhide HPP, if_pos rfl, hge])
        have HK := hide (show putOk l o = true by unfold putOk; rw [hth]; rfl)
        have HO1 := hide (show RdOpC w0 [.int .i64 o.kind, .int .i64 o.atN, .int .i64 o.atR, .int .i64 o.nodeN, .int .i64 o.nodeR, .int .i64 o.parN, .int .i64 o.parR, .slice ak o.key.length ck, .int .i64 o.elem, .slice an o.name.length cn, .slice tt o.text.length ct, .bool o.gone] o by obtain ⟨r1, r2, r3⟩ := unhide HRD; exact ⟨_, _, _, rfl, r1, r2, r3⟩)
        have hlt' : (p : Int) < (l.length : Int) := by omega
        have HS1 := hide ((unhide HR0).seg (bstep (unhide HZ0) hB2))
        have hwc := hB2.size
        have HX := hide (And.intro hB2 hBw)
        clear hge hB2 hBw
        go_wp2_with (at_builtin; refine wpList_appSh (w0 := w0) rfl _ _ rfl wc.heap.size _ [] rfl (sh_none _ _ _) _ l rfl (unhide HS1) ?hole11 (Nat.le_refl _) ?_)
        case hole11 => first | omega | (simp; omega)
        intro u1 w1 hs1 hg1
        try rw [List.nil_append] at hs1
        have hB1 := Below.ofGrown hg1
        have hBa1 := bstep (unhide HX).1 hB1
        have hBw1 : Below S w w1 := hA.trans (hBa1.mono (Nat.le_of_lt hSl))
        obtain ⟨gg, c9, ev9, hgg⟩ : ∃ gg c9, u1 = .slice (some ⟨gg, 0, none⟩) l.length c9 ∧ wc.heap.size ≤ gg := by
          obtain ⟨Cs, _, _, hown⟩ := hs1
          rcases hown.2 with ⟨e, e0⟩ | ⟨g, cap', cur, e, hge, _⟩
          · omega
          · exact ⟨_, _, e, hge⟩
        subst ev9
        obtain ⟨B0, hB0⟩ : ∃ B0, B0 = wc.heap.size := ⟨_, rfl⟩
        rw [← hB0] at hs1 hgg hwc
        clear hB0
        have HSH := hide hs1
        clear hs1 hg1 hB1
        obtain ⟨pb, poff, pcap, epv, hpl, hel⟩ := unhide HAT p hlt
        cases epv
        obtain ⟨b1, d1, b2, d2, b3, d3, e0, e1, e2, e3, e4, e5, e6, e7, e8, e9, e10, e11, hro⟩ := opc_at (w := wa) (W := w1) hBa1 hpl hel
        have hpr : pb < w1.heap.size := Nat.lt_of_lt_of_le hpl hBa1.size
        have HB1 := hide (fun W (hW : Below w1.heap.size w1 W) => unhide HBO W (hBw1.trans (hW.mono (by have := hBw1.size; omega))))
        have HB2 := hide (fun W (hW : Below w1.heap.size w1 W) => bytesS_any W _ l[p] (hro.keep hW) (hkl _ (List.getElem_mem hlt)))
        have lo1 := lo.all hBa1
        obtain ⟨x0, x1, x2, x3, x4, x5, x6, x7, x8, x9, x10, x11⟩ := lo1.twelve
        unfold opVal at HB2
        clear hel hro
        have HW1 := hide (And.intro hBa1 hBw1)
        have HLO1 := hide lo1
        clear hBa1 hBw1 lo1
        generalize hlp : l[p] = p0 at *
        clear hlp
        have HOK := hide (fun (a b : List Int) (ha : okB a) (hb : okB b) => str_less ha hb)
        go_upto_region 7 with fail
        go_cut [50] from 41 to 49 (fun s50 wx => s50 = .bool (klB (opBytes o) (opBytes p0)) ∧ Below w1.heap.size w1 wx)
        case first =>
          generalize opBytes o = r1 at *
          generalize opBytes p0 = r2 at *
          go_region_with (first
            | (go_at_call 93; refine (unhide HB1 _ ((Below.refl _ _).drew)).mono ?_; clear HB1; rintro e w2 ⟨ab, cb, rfl, hob, hB2⟩; have hK2 := bstep ((Below.refl w1.heap.size w1).drew) hB2; have v1 := conv_any w2 _ _ hob.byt; replace e0 := cell_later hK2 e0; replace e1 := cell_later hK2 e1; replace e2 := cell_later hK2 e2; replace e3 := cell_later hK2 e3; replace e4 := cell_later hK2 e4; replace e5 := cell_later hK2 e5; replace e6 := cell_later hK2 e6; replace e7 := cell_later hK2 e7; replace e8 := cell_later hK2 e8; replace e9 := cell_later hK2 e9; replace e10 := cell_later hK2 e10; replace e11 := cell_later hK2 e11)
            | (go_at_call 93; refine (unhide HB2 _ hK2).mono ?_; clear HB2; rintro e w3 ⟨ac, cc, rfl, hoc, hB3⟩; have hK3 := bstep hK2 hB3; have v2 := conv_any w3 _ _ (hob.keep hB3).byt; have v3 := conv_any w3 _ _ hoc.byt))
          all_goals
            go_wp2_with fail
            go_meet
            exact ⟨congrArg Value.bool (unhide HOK r1 r2 hob.1 hoc.1), hK3⟩
        case rest =>
          obtain ⟨rfl, hB3⟩ := hcut
          obtain ⟨hBa1, hBw1⟩ := unhide HW1
          have hBa3 := bstep hBa1 hB3
          have lo3 := (unhide HLO1).all hB3
          have hsh3 : ShOps w0 wc B0 (.slice (some ⟨gg, 0, none⟩) l.length c9) l := by
            obtain ⟨Cs, z1, z2, z3⟩ := unhide HSH
            exact ⟨Cs, z1, z2, ownsRow_frm z3 (Frm.ofBelow hB3 []) (fun _ _ => by simp)⟩
          clear HB1 HB2 HSH HLO1 HW1 HX HS1 HBO hBa1 hBw1 hB3 HAT HRO x0 x1 x2 x3 x4 x5 x6 x7 x8 x9 x10 x11 e0 e1 e2 e3 e4 e5 e6 e7 e8 e9 e10 e11
          cases hkk : klB (opBytes o) (opBytes p0) with
          | false =>
            have KK := hide (show ∃ u, Ending.returned (.tuple #[(Value.slice (some ⟨gg, 0, none⟩) l.length c9), .bool true]) = .returned (.tuple #[u, .bool (putOk l o)]) ∧ PutR w0 S wc (Value.slice (some ⟨pb, poff, none⟩) l.length cv) u l (putL l o) ∧ Below S w wc from ⟨_, by rw [unhide HK], by rw [unhide HV, hkk, if_neg (by decide)]; exact .inr (hsh3.low (by omega)), hA.trans (hBa3.mono (Nat.le_of_lt hSl))⟩)
            clear hsh3 lo3 hBa3
            go_wp2_with fail
            exact unhide HQ _ _ (unhide KK)
          | true =>
            obtain ⟨⟨y0, q0⟩, f0⟩ := hsh3.cells p hlt 0 (by omega)
            obtain ⟨⟨y1, q1⟩, f1⟩ := hsh3.cells p hlt 1 (by omega)
            obtain ⟨⟨y2, q2⟩, f2⟩ := hsh3.cells p hlt 2 (by omega)
            obtain ⟨⟨y3, q3⟩, f3⟩ := hsh3.cells p hlt 3 (by omega)
            obtain ⟨⟨y4, q4⟩, f4⟩ := hsh3.cells p hlt 4 (by omega)
            obtain ⟨⟨y5, q5⟩, f5⟩ := hsh3.cells p hlt 5 (by omega)
            obtain ⟨⟨y6, q6⟩, f6⟩ := hsh3.cells p hlt 6 (by omega)
            obtain ⟨⟨y7, q7⟩, f7⟩ := hsh3.cells p hlt 7 (by omega)
            obtain ⟨⟨y8, q8⟩, f8⟩ := hsh3.cells p hlt 8 (by omega)
            obtain ⟨⟨y9, q9⟩, f9⟩ := hsh3.cells p hlt 9 (by omega)
            obtain ⟨⟨y10, q10⟩, f10⟩ := hsh3.cells p hlt 10 (by omega)
            obtain ⟨⟨y11, q11⟩, f11⟩ := hsh3.cells p hlt 11 (by omega)
            rw [Nat.add_zero] at q0 f0
            obtain ⟨x0, x1, x2, x3, x4, x5, x6, x7, x8, x9, x10, x11⟩ := lo3.twelve
            obtain ⟨hset, hfrm⟩ := hsh3.set p hlt (.int .i64 o.kind) (.int .i64 o.atN) (.int .i64 o.atR) (.int .i64 o.nodeN) (.int .i64 o.nodeR) (.int .i64 o.parN) (.int .i64 o.parR) (.slice ak o.key.length ck) (.int .i64 o.elem) (.slice an o.name.length cn) (.slice tt o.text.length ct) (.bool o.gone) o (unhide HO1)
            rw [List.length_set] at hset
            have hBz := bstepF hBa3 hfrm (fun q hq => by simp at hq; omega)
            have KK := hide (show ∃ u, Ending.returned (.tuple #[(Value.slice (some ⟨gg, 0, none⟩) l.length c9), .bool true]) = .returned (.tuple #[u, .bool (putOk l o)]) ∧ PutR w0 S ((((((((((((wc.setCell ⟨gg, p * 12, none⟩ (.int .i64 o.kind)).setCell ⟨gg, p * 12 + 1, none⟩ (.int .i64 o.atN)).setCell ⟨gg, p * 12 + 2, none⟩ (.int .i64 o.atR)).setCell ⟨gg, p * 12 + 3, none⟩ (.int .i64 o.nodeN)).setCell ⟨gg, p * 12 + 4, none⟩ (.int .i64 o.nodeR)).setCell ⟨gg, p * 12 + 5, none⟩ (.int .i64 o.parN)).setCell ⟨gg, p * 12 + 6, none⟩ (.int .i64 o.parR)).setCell ⟨gg, p * 12 + 7, none⟩ (.slice ak o.key.length ck)).setCell ⟨gg, p * 12 + 8, none⟩ (.int .i64 o.elem)).setCell ⟨gg, p * 12 + 9, none⟩ (.slice an o.name.length cn)).setCell ⟨gg, p * 12 + 10, none⟩ (.slice tt o.text.length ct)).setCell ⟨gg, p * 12 + 11, none⟩ (.bool o.gone)) (Value.slice (some ⟨pb, poff, none⟩) l.length cv) u l (putL l o) ∧ Below S w ((((((((((((wc.setCell ⟨gg, p * 12, none⟩ (.int .i64 o.kind)).setCell ⟨gg, p * 12 + 1, none⟩ (.int .i64 o.atN)).setCell ⟨gg, p * 12 + 2, none⟩ (.int .i64 o.atR)).setCell ⟨gg, p * 12 + 3, none⟩ (.int .i64 o.nodeN)).setCell ⟨gg, p * 12 + 4, none⟩ (.int .i64 o.nodeR)).setCell ⟨gg, p * 12 + 5, none⟩ (.int .i64 o.parN)).setCell ⟨gg, p * 12 + 6, none⟩ (.int .i64 o.parR)).setCell ⟨gg, p * 12 + 7, none⟩ (.slice ak o.key.length ck)).setCell ⟨gg, p * 12 + 8, none⟩ (.int .i64 o.elem)).setCell ⟨gg, p * 12 + 9, none⟩ (.slice an o.name.length cn)).setCell ⟨gg, p * 12 + 10, none⟩ (.slice tt o.text.length ct)).setCell ⟨gg, p * 12 + 11, none⟩ (.bool o.gone)) from ⟨_, by rw [unhide HK], by rw [unhide HV, hkk, if_pos rfl]; exact .inr (hset.low (by omega)), hA.trans (hBz.mono (Nat.le_of_lt hSl))⟩)
            clear hset hfrm hsh3 lo3 hBa3 hBz hkk
            go_wp2_with fail
            exact unhide HQ _ _ (unhide KK)
theorem l5put_any (w : World) (v vo : Value) (l : List OpV) (o : OpV) (h : RdOps w v l) (ho : RdOp w vo o) (hl : l.length ≤ 150) (hk : o.key.length ≤ 2097152) (hkl : ∀ x ∈ l, x.key.length ≤ 2097152) :
    Calls Tryz.prog 46 #[v, vo] w fun e w' => ∃ u, e = .returned (.tuple #[u, .bool (putOk l o)]) ∧ RdOps w' u (putL l o) ∧ Below w.heap.size w w' := by
  refine (l5put_sh w w (Below.refl _ _) v vo l o h ho hl hk hkl).mono ?_
  rintro e w' ⟨u, rfl, hp, hB⟩
  refine ⟨u, rfl, ?_, hB⟩
  rcases hp with ⟨rfl, e⟩ | hs
  · rw [e]; exact h.keep hB
  · exact hs.rd hB
end Go.Proofs.YtkmmhlimihkgfaaGreat

/- What Hear answers. No function of the program. -/
namespace Go.Proofs.YtkmmhlimihkgfaaGreat
open Go.RowKit
set_option linter.unusedVariables false
set_option maxRecDepth 100000

def hearR {n : Nat} (r : RepV n) (o : OpV) : RepV n := if putOk r.ops o then { r with ops := putL r.ops o, clock := if r.clock < o.atN then o.atN else r.clock } else { r with lost := true }
def zeroR (n : Nat) : RepV n := ⟨0, 0, (⟨0, [], [], [], []⟩ : Nd (Tr n)), [], [], false⟩
def hearV {n : Nat} (r : RepV n) (o : OpV) : RepV n := if repB r && opB o then hearR r o else zeroR n
def hearB {n : Nat} (r : RepV n) (o : OpV) : Bool := repB r && opB o && putOk r.ops o
theorem hearR_no {n : Nat} {r : RepV n} {o : OpV} (h : putOk r.ops o = false) : hearR r o = { r with lost := true } := by unfold hearR; rw [h]; rfl
theorem hearR_gt {n : Nat} {r : RepV n} {o : OpV} (h : putOk r.ops o = true) (p : r.clock < o.atN) : hearR r o = { r with ops := putL r.ops o, clock := o.atN } := by unfold hearR; rw [if_pos h, if_pos p]
theorem hearR_le {n : Nat} {r : RepV n} {o : OpV} (h : putOk r.ops o = true) (p : ¬ r.clock < o.atN) : hearR r o = { r with ops := putL r.ops o } := by unfold hearR; rw [if_pos h, if_neg p]
theorem hearR_max {n : Nat} {r : RepV n} {o : OpV} (h : putOk r.ops o = true) : hearR r o = { r with ops := putL r.ops o, clock := max r.clock o.atN } := by
  by_cases p : r.clock < o.atN
  · rw [hearR_gt h p, Int.max_eq_right (by omega)]
  · rw [hearR_le h p, Int.max_eq_left (by omega)]
theorem repB_ops {n : Nat} {r : RepV n} (h : repB r = true) : opsB r.ops = true := by
  unfold repB at h
  simp only [Bool.and_eq_true] at h
  exact h.1.1.2
theorem repB_und {n : Nat} {r : RepV n} (h : repB r = true) : r.und.length ≤ 150 := by
  unfold repB undB at h
  simp only [Bool.and_eq_true, decide_eq_true_eq] at h
  exact h.2.1
theorem zeroR_own (n : Nat) (W : World) : OwRep n W (.int .i64 0) (.slice none 0 0) (.slice none 0 0) (.slice none 0 0) (.slice none 0 0) (.slice none 0 0) (.slice none 0 0) (zeroR n) [] :=
  ⟨[], [], [], ⟨.slice none 0 0, .slice none 0 0, .slice none 0 0, .slice none 0 0, [], [], rfl, by show (-9223372036854775808 : Int) ≤ 0; omega, by show (0 : Int) ≤ 9223372036854775807; omega, ⟨okB_nil, World.ownsRow_nil _ _ _ _⟩, ⟨okB_nil, World.ownsRow_nil _ _ _ _⟩, ⟨[], [], rfl, rfl, fun i hi => (Nat.not_lt_zero i hi).elim, World.ownsRow_nil _ _ _ _, rfl⟩, ⟨[], [], rfl, rfl, fun i hi => (Nat.not_lt_zero i hi).elim, World.ownsRow_nil _ _ _ _, rfl⟩, rfl⟩, ⟨[], [], rfl, rfl, fun i hi => (Nat.not_lt_zero i hi).elim, World.ownsRow_nil _ _ _ _, rfl⟩, ⟨[], [], rfl, rfl, fun i hi => (Nat.not_lt_zero i hi).elim, World.ownsRow_nil _ _ _ _, rfl⟩, rfl⟩
/-- What l5put handed on is readable still when boxes are written that were there before the call. -/
theorem PutR.rd {w w1 w2 : World} {B : Nat} {v u : Value} {l pl : List OpV} {S : List Nat} (hp : PutR w B w1 v u l pl) (h : RdOps w v l) (hB : Below w.heap.size w w2) (f : Frm w1 w2 S) (hS : ∀ g ∈ S, g < B) : RdOps w2 u pl := by
  rcases hp with ⟨rfl, e⟩ | ⟨Cs, z1, z2, z3⟩
  · rw [e]; exact h.keep hB
  · have hs : ShOps w w2 B u pl := ⟨Cs, z1, z2, ownsRow_frm z3 f (fun g hg hg' => by have := hS g hg'; have := (z3.lt g (by simpa [FB] using hg)).1; omega)⟩
    exact hs.rd hB
theorem PutR.shape {w w1 : World} {B : Nat} {v u : Value} {l pl : List OpV} (hp : PutR w B w1 v u l pl) (h : RdOps w v l) : ∃ a c, u = .slice a pl.length c := by
  rcases hp with ⟨rfl, e⟩ | ⟨Cs, z1, z2, z3⟩
  · obtain ⟨a, c, e', _⟩ := Elems.shape h
    exact ⟨a, c, by rw [e', e]⟩
  · rcases z3.2 with ⟨e, e0⟩ | ⟨g, cap', cur, e, _⟩
    · exact ⟨none, 0, by rw [e, e0]⟩
    · exact ⟨_, _, e⟩
theorem threeH (w : World) (A B Z : Array Value) (TA TB T : TypeId) : Loc (((w.alloc (.cells A TA)).alloc (.cells B TB)).alloc (.cells Z T)) w.heap.size A TA ∧ Loc (((w.alloc (.cells A TA)).alloc (.cells B TB)).alloc (.cells Z T)) (w.heap.size + 1) B TB ∧ Loc (((w.alloc (.cells A TA)).alloc (.cells B TB)).alloc (.cells Z T)) (w.heap.size + 2) Z T ∧ Below w.heap.size w (((w.alloc (.cells A TA)).alloc (.cells B TB)).alloc (.cells Z T)) ∧ (((w.alloc (.cells A TA)).alloc (.cells B TB)).alloc (.cells Z T)).heap.size = w.heap.size + 3 := by
  obtain ⟨h1, h2, h3⟩ := two w A B TA TB
  refine ⟨h1.alloc _, h2.alloc _, ?_, h3.alloc h3.size _, by simp⟩
  have := Loc.made ((w.alloc (.cells A TA)).alloc (.cells B TB)) Z T
  have e : ((w.alloc (.cells A TA)).alloc (.cells B TB)).heap.size = w.heap.size + 2 := by simp
  rw [e] at this
  exact this
theorem hearR_first {n : Nat} (r : RepV n) (o : OpV) : (hearR r o).first = r.first := by unfold hearR; split <;> rfl
theorem hearR_und {n : Nat} (r : RepV n) (o : OpV) : (hearR r o).und = r.und := by unfold hearR; split <;> rfl
theorem hearR_ops {n : Nat} (r : RepV n) (o : OpV) : (hearR r o).ops = putL r.ops o ∨ (hearR r o).ops = r.ops := by
  unfold hearR
  split
  · exact .inl rfl
  · exact .inr rfl
end Go.Proofs.YtkmmhlimihkgfaaGreat

/- A region that draws its order, by what is said at each point of its way: a step for each operation, in place of a way for each order. Plain, and in a round of a loop over a function. No program. -/
namespace Go.Proofs.YtkmmhlimihkgfaaGreat
open Go.RowKit
set_option linter.unusedVariables false

/-- How many are not yet listed. -/
def todo : List Bool → Nat
  | [] => 0
  | b :: l => (if b then 0 else 1) + todo l
theorem todo_set : ∀ (l : List Bool) (i : Nat), l[i]? = some false → todo (l.set i true) + 1 = todo l
  | [], i, h => by simp at h
  | b :: l, 0, h => by
    have e : b = false := by simpa using h
    subst e
    simp only [List.set_cons_zero, todo, if_true, Bool.false_eq_true, if_false]
    omega
  | b :: l, i + 1, h => by
    have ih := todo_set l i (by simpa using h)
    simp only [List.set_cons_succ, todo]
    omega
theorem todo_none : ∀ (l : List Bool), todo l = 0 → ∀ (i : Nat) (b : Bool), l[i]? = some b → b = true
  | [], _, i, b, h => by simp at h
  | c :: l, h0, 0, b, h => by
    have e : c = b := by simpa using h
    subst e
    cases c with
    | true => rfl
    | false => simp [todo] at h0
  | c :: l, h0, i + 1, b, h => todo_none l (by simp only [todo] at h0; omega) i b (by simpa using h)
theorem todo_all (n : Nat) : todo (List.replicate n false) = n := by
  induction n with
  | zero => rfl
  | succ n ih => rw [List.replicate_succ]; simp only [todo, Bool.false_eq_true, if_false]; omega
theorem ready_off {md : Region.Mode} {ops : Array Oper} {L : Array Bool} {i : Nat} (hs : L.size = ops.size) (h : i ∈ Region.ready md ops L) : L.toList[i]? = some false := by
  unfold Region.ready at h
  rw [List.mem_filter, List.mem_range, Bool.and_eq_true] at h
  obtain ⟨h1, h2, _⟩ := h
  have hi : i < L.size := by omega
  rw [Array.getD_eq_getD_getElem?, Array.getElem?_eq_getElem hi] at h2
  rw [Array.getElem?_toList, Array.getElem?_eq_getElem hi]
  simpa using h2
theorem ready_none {md : Region.Mode} {ops : Array Oper} {L : Array Bool} (hs : L.size = ops.size) (h : todo L.toList = 0) : Region.ready md ops L = [] := by
  rw [List.eq_nil_iff_forall_not_mem]
  intro i hi
  have := todo_none _ h i false (ready_off hs hi)
  cases this

/-- What an operation waits for is listed where it is ready. -/
theorem ready_pred {md : Region.Mode} {ops : Array Oper} {L : Array Bool} {i : Nat} {o : Oper} (h : i ∈ Region.ready md ops L) (ho : ops[i]? = some o) (j : Nat) (he : o.after.any (fun e => Region.binds md e && e.on == j) = true) : L.getD j false = true := by
  unfold Region.ready at h
  rw [List.mem_filter, Bool.and_eq_true, ho] at h
  obtain ⟨_, _, h3⟩ := h
  simp only [Option.map_some, Option.getD_some] at h3
  rw [Array.any_eq_true] at he
  obtain ⟨k, hk, hb⟩ := he
  rw [Bool.and_eq_true, beq_iff_eq] at hb
  rw [Array.all_eq_true] at h3
  have := h3 k hk
  rw [Bool.or_eq_true, hb.1, hb.2] at this
  simpa using this
theorem ready_lt {md : Region.Mode} {ops : Array Oper} {L : Array Bool} {i : Nat} (h : i ∈ Region.ready md ops L) : i < ops.size := by
  unfold Region.ready at h
  rw [List.mem_filter, List.mem_range] at h
  exact h.1
/-- Where each waits for earlier ones alone, none is ready only behind the last. -/
theorem ready_all {md : Region.Mode} {ops : Array Oper} {L : Array Bool} (hs : L.size = ops.size) (hb : (List.range ops.size).all (fun i => ((ops[i]?).map fun o => o.after.all fun e => !Region.binds md e || decide (e.on < i)).getD true) = true)
    (h : Region.ready md ops L = []) : ∀ (n i : Nat), i < n → i < ops.size → L.getD i false = true
  | 0, i, hn, _ => by omega
  | n + 1, i, hn, hi => by
    by_cases hlt : i < n
    · exact ready_all hs hb h n i hlt hi
    have e : i = n := by omega
    subst e
    have hL : i < L.size := by omega
    by_cases hf : L.getD i false = true
    · exact hf
    exfalso
    have hmem : i ∈ Region.ready md ops L := by
      unfold Region.ready
      rw [List.mem_filter, List.mem_range, Bool.and_eq_true]
      refine ⟨hi, ?_, ?_⟩
      · rw [Array.getD_eq_getD_getElem?, Array.getElem?_eq_getElem hL] at hf ⊢
        simpa using hf
      · have hbi := List.all_eq_true.1 hb i (List.mem_range.2 hi)
        rw [Array.getElem?_eq_getElem hi] at hbi ⊢
        simp only [Option.map_some, Option.getD_some] at hbi ⊢
        rw [Array.all_eq_true] at hbi ⊢
        intro k hk
        have hk' := hbi k hk
        rw [Bool.or_eq_true] at hk' ⊢
        rcases hk' with hk' | hk'
        · exact .inl hk'
        · right
          have hlt' : (ops[i].after[k]).on < i := by simpa using hk'
          exact ready_all hs hb h i _ hlt' (by omega)
    rw [h] at hmem
    cases hmem

variable {P : Program} {ops : Array Oper} {Q : Exit → Act → World → Prop}

/-- One operation in a round, by its plain law. -/
theorem opIn_of_op {o : Oper} {n l : Nat} {a : Act} {w : World} {K : Act → World → Prop} (hnd : ∀ c, o.op ≠ .defer c) (h : o.wp P a w K Q) : o.wpIn (Fence.wide.inRound l) n P a w K Q := by
  unfold Oper.wp at h
  unfold Oper.wpIn
  refine ⟨fun _ _ => trivial, ?_⟩
  rw [Oper.semAt_plain _ _ _ hnd]
  generalize (execOp a.eval o).run P w = r at *
  cases r with
  | ok x w' =>
    cases x <;> first
      | exact h
      | exact (h : False).elim
      | exact ⟨(fun hd => by cases hd), callsIn_wide.2 h⟩
      | exact ⟨(fun hd => by cases hd), fun c cs _ => let ⟨v, w', r, s⟩ := h c cs; ⟨v, w', r, stepsIn_wide.2 s⟩⟩
  | halt x w' => cases x <;> exact h

theorem anyIn_inv {n l : Nat} {md : Region.Mode} (hnd : ∀ o ∈ ops, ∀ c, o.op ≠ .defer c) (I : Array Bool → Act → World → Prop) (hsz : ∀ L a w, I L a w → L.size = ops.size)
    (hstep : ∀ L a w i o, I L a w → i ∈ Region.ready md ops L → ops[i]? = some o → if Region.wanted o (yielded ops a.tmps) = true then Oper.wp P o a w (I (L.setIfInBounds i true)) Q else I (L.setIfInBounds i true) (a.put o.dst undef) w)
    (hdone : ∀ L a w, I L a w → Region.ready md ops L = [] → Q .normal a w) :
    ∀ (fuel : Nat) (L : Array Bool) (a : Act) (w : World), todo L.toList ≤ fuel → I L a w → wpAnyIn (Fence.wide.inRound l) n P md ops Q fuel L a w
  | 0, L, a, w, hf, hI => by
    have hr := ready_none (md := md) (hsz L a w hI) (by omega)
    exact ⟨hr, hdone L a w hI hr⟩
  | fuel + 1, L, a, w, hf, hI => by
    refine ⟨fun hr => hdone L a w hI hr, fun i hi => ?_⟩
    have ho := todo_set _ _ (ready_off (hsz L a w hI) hi)
    have key : ∀ a' w', I (L.setIfInBounds i true) a' w' → wpAnyIn (Fence.wide.inRound l) n P md ops Q fuel (L.setIfInBounds i true) a' w' := fun a' w' h' =>
      anyIn_inv hnd I hsz hstep hdone fuel _ a' w' (by rw [Array.toList_setIfInBounds]; omega) h'
    unfold wpOpIn
    cases hoi : ops[i]? with
    | none =>
      unfold Region.ready at hi
      rw [List.mem_filter, List.mem_range] at hi
      rw [Array.getElem?_eq_getElem hi.1] at hoi
      cases hoi
    | some o =>
      have hs := hstep L a w i o hI hi hoi
      simp only []
      split
      · rename_i hw
        rw [if_pos hw] at hs
        exact Oper.wpIn_mono key (opIn_of_op (hnd o (Array.mem_of_getElem? hoi)) hs)
      · rename_i hw
        rw [if_neg hw] at hs
        exact ⟨fun _ _ => trivial, key _ _ hs⟩

/-- The region, in a round. -/
theorem region_round {n l id : Nat} {a : Act} {w : World} (hm : P.follows .mixedOrders = true) (hnd : ∀ o ∈ ops, ∀ c, o.op ≠ .defer c) (I : Array Bool → Act → World → Prop) (hsz : ∀ L a w, I L a w → L.size = ops.size)
    (h0 : I (Array.replicate ops.size false) a w.drew)
    (hstep : ∀ L a w i o, I L a w → i ∈ Region.ready .any ops L → ops[i]? = some o → if Region.wanted o (yielded ops a.tmps) = true then Oper.wp P o a w (I (L.setIfInBounds i true)) Q else I (L.setIfInBounds i true) (a.put o.dst undef) w)
    (hdone : ∀ L a w, I L a w → Region.ready .any ops L = [] → Q .normal a w) : (Code.region id ops true).wpIn (Fence.wide.inRound l) n P Q a w :=
  wpIn_region_any hm (anyIn_inv hnd I hsz hstep hdone _ _ _ _ (by rw [Array.toList_replicate, todo_all]; exact Nat.le_refl _) h0)

theorem any_inv {md : Region.Mode} (I : Array Bool → Act → World → Prop) (hsz : ∀ L a w, I L a w → L.size = ops.size)
    (hstep : ∀ L a w i o, I L a w → i ∈ Region.ready md ops L → ops[i]? = some o → if Region.wanted o (yielded ops a.tmps) = true then Oper.wp P o a w (I (L.setIfInBounds i true)) Q else I (L.setIfInBounds i true) (a.put o.dst undef) w)
    (hdone : ∀ L a w, I L a w → Region.ready md ops L = [] → Q .normal a w) :
    ∀ (fuel : Nat) (L : Array Bool) (a : Act) (w : World), todo L.toList ≤ fuel → I L a w → wpAny P md ops Q fuel L a w
  | 0, L, a, w, hf, hI => by
    have hr := ready_none (md := md) (hsz L a w hI) (by omega)
    exact ⟨hr, hdone L a w hI hr⟩
  | fuel + 1, L, a, w, hf, hI => by
    refine ⟨fun hr => hdone L a w hI hr, fun i hi => ?_⟩
    have ho := todo_set _ _ (ready_off (hsz L a w hI) hi)
    have key : ∀ a' w', I (L.setIfInBounds i true) a' w' → wpAny P md ops Q fuel (L.setIfInBounds i true) a' w' := fun a' w' h' =>
      any_inv I hsz hstep hdone fuel _ a' w' (by rw [Array.toList_setIfInBounds]; omega) h'
    unfold wpOp
    cases hoi : ops[i]? with
    | none =>
      unfold Region.ready at hi
      rw [List.mem_filter, List.mem_range] at hi
      rw [Array.getElem?_eq_getElem hi.1] at hoi
      cases hoi
    | some o =>
      have hs := hstep L a w i o hI hi hoi
      simp only []
      split
      · rename_i hw
        rw [if_pos hw] at hs
        exact .inl (Oper.wp_mono key hs)
      · rename_i hw
        rw [if_neg hw] at hs
        exact key _ _ hs
/-- The region, plain. -/
theorem region_inv {id : Nat} {a : Act} {w : World} (hm : P.follows .mixedOrders = true) (I : Array Bool → Act → World → Prop) (hsz : ∀ L a w, I L a w → L.size = ops.size)
    (h0 : I (Array.replicate ops.size false) a w.drew)
    (hstep : ∀ L a w i o, I L a w → i ∈ Region.ready .any ops L → ops[i]? = some o → if Region.wanted o (yielded ops a.tmps) = true then Oper.wp P o a w (I (L.setIfInBounds i true)) Q else I (L.setIfInBounds i true) (a.put o.dst undef) w)
    (hdone : ∀ L a w, I L a w → Region.ready .any ops L = [] → Q .normal a w) : (Code.region id ops true).wp P Q a w :=
  wp_region_any hm (any_inv I hsz hstep hdone _ _ _ _ (by rw [Array.toList_replicate, todo_all]; exact Nat.le_refl _) h0)
end Go.Proofs.YtkmmhlimihkgfaaGreat

/- Stores into a replica's ten cells. No function of the program. -/
namespace Go.Proofs.YtkmmhlimihkgfaaGreat
open Go.RowKit
set_option linter.unusedVariables false
set_option maxRecDepth 100000

theorem store10r {w : World} {g : Nat} {u0 u1 u2 u3 u4 u5 u6 u7 u8 u9 : Value} {T : TypeId} (h : Loc w g #[u0, u1, u2, u3, u4, u5, u6, u7, u8, u9] T) (v0 v1 v2 v3 v4 v5 v6 v7 v8 v9 : Value) :
    Loc ((((((((((w.setCell ⟨g, 0, none⟩ v0).setCell ⟨g, 1, none⟩ v1).setCell ⟨g, 2, none⟩ v2).setCell ⟨g, 3, none⟩ v3).setCell ⟨g, 4, none⟩ v4).setCell ⟨g, 5, none⟩ v5).setCell ⟨g, 6, none⟩ v6).setCell ⟨g, 7, none⟩ v7).setCell ⟨g, 8, none⟩ v8).setCell ⟨g, 9, none⟩ v9) g #[v0, v1, v2, v3, v4, v5, v6, v7, v8, v9] T ∧ Frm w ((((((((((w.setCell ⟨g, 0, none⟩ v0).setCell ⟨g, 1, none⟩ v1).setCell ⟨g, 2, none⟩ v2).setCell ⟨g, 3, none⟩ v3).setCell ⟨g, 4, none⟩ v4).setCell ⟨g, 5, none⟩ v5).setCell ⟨g, 6, none⟩ v6).setCell ⟨g, 7, none⟩ v7).setCell ⟨g, 8, none⟩ v8).setCell ⟨g, 9, none⟩ v9) [g] := by
  have h0 : Loc (w.setCell ⟨g, 0, none⟩ v0) g #[v0, u1, u2, u3, u4, u5, u6, u7, u8, u9] T := h.set 0 v0
  have h1 : Loc ((w.setCell ⟨g, 0, none⟩ v0).setCell ⟨g, 1, none⟩ v1) g #[v0, v1, u2, u3, u4, u5, u6, u7, u8, u9] T := h0.set 1 v1
  have h2 : Loc (((w.setCell ⟨g, 0, none⟩ v0).setCell ⟨g, 1, none⟩ v1).setCell ⟨g, 2, none⟩ v2) g #[v0, v1, v2, u3, u4, u5, u6, u7, u8, u9] T := h1.set 2 v2
  have h3 : Loc ((((w.setCell ⟨g, 0, none⟩ v0).setCell ⟨g, 1, none⟩ v1).setCell ⟨g, 2, none⟩ v2).setCell ⟨g, 3, none⟩ v3) g #[v0, v1, v2, v3, u4, u5, u6, u7, u8, u9] T := h2.set 3 v3
  have h4 : Loc (((((w.setCell ⟨g, 0, none⟩ v0).setCell ⟨g, 1, none⟩ v1).setCell ⟨g, 2, none⟩ v2).setCell ⟨g, 3, none⟩ v3).setCell ⟨g, 4, none⟩ v4) g #[v0, v1, v2, v3, v4, u5, u6, u7, u8, u9] T := h3.set 4 v4
  have h5 : Loc ((((((w.setCell ⟨g, 0, none⟩ v0).setCell ⟨g, 1, none⟩ v1).setCell ⟨g, 2, none⟩ v2).setCell ⟨g, 3, none⟩ v3).setCell ⟨g, 4, none⟩ v4).setCell ⟨g, 5, none⟩ v5) g #[v0, v1, v2, v3, v4, v5, u6, u7, u8, u9] T := h4.set 5 v5
  have h6 : Loc (((((((w.setCell ⟨g, 0, none⟩ v0).setCell ⟨g, 1, none⟩ v1).setCell ⟨g, 2, none⟩ v2).setCell ⟨g, 3, none⟩ v3).setCell ⟨g, 4, none⟩ v4).setCell ⟨g, 5, none⟩ v5).setCell ⟨g, 6, none⟩ v6) g #[v0, v1, v2, v3, v4, v5, v6, u7, u8, u9] T := h5.set 6 v6
  have h7 : Loc ((((((((w.setCell ⟨g, 0, none⟩ v0).setCell ⟨g, 1, none⟩ v1).setCell ⟨g, 2, none⟩ v2).setCell ⟨g, 3, none⟩ v3).setCell ⟨g, 4, none⟩ v4).setCell ⟨g, 5, none⟩ v5).setCell ⟨g, 6, none⟩ v6).setCell ⟨g, 7, none⟩ v7) g #[v0, v1, v2, v3, v4, v5, v6, v7, u8, u9] T := h6.set 7 v7
  have h8 : Loc (((((((((w.setCell ⟨g, 0, none⟩ v0).setCell ⟨g, 1, none⟩ v1).setCell ⟨g, 2, none⟩ v2).setCell ⟨g, 3, none⟩ v3).setCell ⟨g, 4, none⟩ v4).setCell ⟨g, 5, none⟩ v5).setCell ⟨g, 6, none⟩ v6).setCell ⟨g, 7, none⟩ v7).setCell ⟨g, 8, none⟩ v8) g #[v0, v1, v2, v3, v4, v5, v6, v7, v8, u9] T := h7.set 8 v8
  have h9 : Loc ((((((((((w.setCell ⟨g, 0, none⟩ v0).setCell ⟨g, 1, none⟩ v1).setCell ⟨g, 2, none⟩ v2).setCell ⟨g, 3, none⟩ v3).setCell ⟨g, 4, none⟩ v4).setCell ⟨g, 5, none⟩ v5).setCell ⟨g, 6, none⟩ v6).setCell ⟨g, 7, none⟩ v7).setCell ⟨g, 8, none⟩ v8).setCell ⟨g, 9, none⟩ v9) g #[v0, v1, v2, v3, v4, v5, v6, v7, v8, v9] T := h8.set 9 v9
  exact ⟨h9, ((((((((((set_frm w _ _ _).trans (set_frm _ _ _ _)).trans (set_frm _ _ _ _)).trans (set_frm _ _ _ _)).trans (set_frm _ _ _ _)).trans (set_frm _ _ _ _)).trans (set_frm _ _ _ _)).trans (set_frm _ _ _ _)).trans (set_frm _ _ _ _)).trans (set_frm _ _ _ _))⟩
theorem store5at2 {w : World} {g : Nat} {u0 u1 u2 u3 u4 u5 u6 u7 u8 u9 : Value} {T : TypeId} (h : Loc w g #[u0, u1, u2, u3, u4, u5, u6, u7, u8, u9] T) (v0 v1 v2 v3 v4 : Value) :
    Loc (((((w.setCell ⟨g, 2, none⟩ v0).setCell ⟨g, 3, none⟩ v1).setCell ⟨g, 4, none⟩ v2).setCell ⟨g, 5, none⟩ v3).setCell ⟨g, 6, none⟩ v4) g #[u0, u1, v0, v1, v2, v3, v4, u7, u8, u9] T ∧ Frm w (((((w.setCell ⟨g, 2, none⟩ v0).setCell ⟨g, 3, none⟩ v1).setCell ⟨g, 4, none⟩ v2).setCell ⟨g, 5, none⟩ v3).setCell ⟨g, 6, none⟩ v4) [g] := by
  have h0 : Loc (w.setCell ⟨g, 2, none⟩ v0) g #[u0, u1, v0, u3, u4, u5, u6, u7, u8, u9] T := h.set 2 v0
  have h1 : Loc ((w.setCell ⟨g, 2, none⟩ v0).setCell ⟨g, 3, none⟩ v1) g #[u0, u1, v0, v1, u4, u5, u6, u7, u8, u9] T := h0.set 3 v1
  have h2 : Loc (((w.setCell ⟨g, 2, none⟩ v0).setCell ⟨g, 3, none⟩ v1).setCell ⟨g, 4, none⟩ v2) g #[u0, u1, v0, v1, v2, u5, u6, u7, u8, u9] T := h1.set 4 v2
  have h3 : Loc ((((w.setCell ⟨g, 2, none⟩ v0).setCell ⟨g, 3, none⟩ v1).setCell ⟨g, 4, none⟩ v2).setCell ⟨g, 5, none⟩ v3) g #[u0, u1, v0, v1, v2, v3, u6, u7, u8, u9] T := h2.set 5 v3
  have h4 : Loc (((((w.setCell ⟨g, 2, none⟩ v0).setCell ⟨g, 3, none⟩ v1).setCell ⟨g, 4, none⟩ v2).setCell ⟨g, 5, none⟩ v3).setCell ⟨g, 6, none⟩ v4) g #[u0, u1, v0, v1, v2, v3, v4, u7, u8, u9] T := h3.set 6 v4
  exact ⟨h4, (((((set_frm w _ _ _).trans (set_frm _ _ _ _)).trans (set_frm _ _ _ _)).trans (set_frm _ _ _ _)).trans (set_frm _ _ _ _))⟩
end Go.Proofs.YtkmmhlimihkgfaaGreat
