/- Own texts joined: L5putP, AppZ, DrawK. -/
import Derived.Test.YtaoodcielfabdaaGreatJa
import Derived.Test.YtaoodcielfabdaaGreatJb
import Derived.Test.YtaoodcielfabdaaGreatJc
import Derived.Test.YtaoodcielfabdaaGreatJd
import Derived.Test.YtaoodcielfabdaaGreatJe
import Derived.Test.YtaoodcielfabdaaGreatJf
import Derived.Test.YtaoodcielfabdaaGreatJg
import Derived.Test.YtaoodcielfabdaaGreatJh
import Derived.Test.YtaoodcielfabdaaGreatJi
import Derived.Test.YtaoodcielfabdaaGreatJj

/- spec.l5put over operations of whatever kind P. -/
namespace Go.Proofs.YtaoodcielfabdaaGreat
open Go.RowKit
set_option linter.unusedVariables false
set_option maxRecDepth 100000

theorem Elems.imp {α : Type} {w : World} {m : Nat} {v : Value} {l : List α} {R R' : List Value → α → Prop} (h : Elems w m v l R) (hp : ∀ C o, R C o → R' C o) : Elems w m v l R' := by
  obtain ⟨hm, h | h | ⟨b, off, cap, e, g1, g2, g3, g4, g5⟩⟩ := h
  · exact ⟨hm, .inl h⟩
  · exact ⟨hm, .inr (.inl h)⟩
  · exact ⟨hm, .inr (.inr ⟨b, off, cap, e, g1, g2, g3, g4, fun i hi => by
      obtain ⟨C, c1, c2, c3⟩ := g5 i hi
      exact ⟨C, c1, c2, hp _ _ c3⟩⟩)⟩
def PutRP (P : List Value → OpV → Prop) (B : Nat) (w' : World) (v u : Value) (l pl : List OpV) : Prop := (u = v ∧ pl = l) ∨ ShOpsP P w' B u pl
set_option maxHeartbeats 200000000 in
theorem l5put_shP (P : List Value → OpV → Prop) (w0 w : World) (hP : ∀ C o, P C o → RdOpC w0 C o) (hB00 : Below w0.heap.size w0 w) (v vo : Value) (l : List OpV) (o : OpV) (hE : Elems w0 12 v l P) (ho : RdOp w0 vo o) (hoP : ∀ k n t, vo = opVal o k n t → P [.int .i64 o.kind, .int .i64 o.atN, .int .i64 o.atR, .int .i64 o.nodeN, .int .i64 o.nodeR, .int .i64 o.parN, .int .i64 o.parR, k, .int .i64 o.elem, n, t, .bool o.gone] o) (hl : l.length ≤ 150) (hk : o.key.length ≤ 2097152) (hkl : ∀ x ∈ l, x.key.length ≤ 2097152) :
    Calls Tryz.prog 44 #[v, vo] w fun e w' => ∃ u, e = .returned (.tuple #[u, .bool (putOk l o)]) ∧ PutRP P w.heap.size w' v u l (putL l o) ∧ Below w.heap.size w w' := by
  have h : RdOps w0 v l := Elems.imp hE hP
  have HBO := hide (fun W (hW : Below w.heap.size w W) => bytesS_any W vo o ((ho.keep hB00).keep hW) hk)
  obtain ⟨k, n, t, rfl, hk0, hn0, ht0⟩ := ho
  obtain ⟨ak, ck, rfl, _, _⟩ := hk0.shape
  obtain ⟨an, cn, rfl, _, _⟩ := hn0.shape
  obtain ⟨tt, ct, rfl, _, _⟩ := ht0.shape
  have HRD := hide (hoP _ _ _ rfl)
  have HKIND := hide hP
  clear hoP hP
  clear hk0 hn0 ht0
  unfold opVal at HBO ⊢
  have hA := (Below.refl w.heap.size w).alloc (Nat.le_refl _) (.cells #[.int .i64 o.kind, .int .i64 o.atN, .int .i64 o.atR, .int .i64 o.nodeN, .int .i64 o.nodeR, .int .i64 o.parN, .int .i64 o.parR, .slice ak o.key.length ck, .int .i64 o.elem, .slice an o.name.length cn, .slice tt o.text.length ct, .bool o.gone] 38)
  have lo := Loc.made w #[.int .i64 o.kind, .int .i64 o.atN, .int .i64 o.atR, .int .i64 o.nodeN, .int .i64 o.nodeR, .int .i64 o.parN, .int .i64 o.parR, .slice ak o.key.length ck, .int .i64 o.elem, .slice an o.name.length cn, .slice tt o.text.length ct, .bool o.gone] 38
  have hR := (h.keep hB00).keep hA
  have HRO := hide hR
  have HR0 := hide hE
  have HZ0 := hide (bstep hB00 hA)
  obtain ⟨av, cv, rfl, _, _⟩ := Elems.shape h
  have HAT := hide (fun j (hj : j < l.length) => (show ∃ b off cap, (Value.slice av l.length cv) = .slice (some ⟨b, off, none⟩) l.length cap ∧ b < (w.alloc (.cells #[.int .i64 o.kind, .int .i64 o.atN, .int .i64 o.atR, .int .i64 o.nodeN, .int .i64 o.nodeR, .int .i64 o.parN, .int .i64 o.parR, .slice ak o.key.length ck, .int .i64 o.elem, .slice an o.name.length cn, .slice tt o.text.length ct, .bool o.gone] 38)).heap.size ∧ ∃ C : List Value, C.length = 12 ∧ (∀ i, i < 12 → (w.alloc (.cells #[.int .i64 o.kind, .int .i64 o.atN, .int .i64 o.atR, .int .i64 o.nodeN, .int .i64 o.nodeR, .int .i64 o.parN, .int .i64 o.parR, .slice ak o.key.length ck, .int .i64 o.elem, .slice an o.name.length cn, .slice tt o.text.length ct, .bool o.gone] 38)).cell? ⟨b, off + j * 12 + i, none⟩ = C[i]?) ∧ RdOpC (w.alloc (.cells #[.int .i64 o.kind, .int .i64 o.atN, .int .i64 o.atR, .int .i64 o.nodeN, .int .i64 o.nodeR, .int .i64 o.parN, .int .i64 o.parR, .slice ak o.key.length ck, .int .i64 o.elem, .slice an o.name.length cn, .slice tt o.text.length ct, .bool o.gone] 38)) C l[j] by
    obtain ⟨_, ⟨_, e⟩ | ⟨_, _, _, _, e⟩ | ⟨b, off, cap, ev, g1, g2, g3, g4, g5⟩⟩ := hR
    · subst e; simp at hj
    · subst e; simp at hj
    · exact ⟨b, off, cap, ev, g4, g5 j hj⟩))
  have LL := hide (And.intro hA lo)
  clear hA lo hR h hE hB00
  have hll : (l.length : Int) ≤ 150 := by omega
  refine calls_via ?_
  intro Q HQ
  go_enter Tryz.func44, Tryz.ntmps44
  go_upto_block 0 with fail
  obtain ⟨hA, lo⟩ := unhide LL
  clear LL
  generalize (w.alloc (.cells #[.int .i64 o.kind, .int .i64 o.atN, .int .i64 o.atR, .int .i64 o.nodeN, .int .i64 o.nodeR, .int .i64 o.parN, .int .i64 o.parR, .slice ak o.key.length ck, .int .i64 o.elem, .slice an o.name.length cn, .slice tt o.text.length ct, .bool o.gone] 38)) = wa at *
  generalize hSS : w.heap.size = S at *
  have hSl := lo.lt
  have hA' : Below w.heap.size w wa := by rw [hSS]; exact hA
  go_cut [6] from 8 to 23 (fun s6 wx => s6 = .int .i64 (posO l o.atN o.atR) ∧ Below wa.heap.size wa wx)
  case first =>
    go_wp2_with fail
    go_loopw [6] (fun i wr => ∃ a : Nat, a ≤ l.length ∧ i = .int .i64 a ∧ Hid (∀ k (hk : k < l.length), k < a → ahead o.atN o.atR l[k] = true) ∧ Below wa.heap.size wa wr) (fun i _ => l.length - (intOf i).toNat)
    case atStart => exact ⟨0, Nat.zero_le _, rfl, hide (fun k _ hk => by omega), Below.refl _ _⟩
    case round =>
      obtain ⟨a, hal, rfl, HI, hB⟩ := hrel
      by_cases hlt : a < l.length
      · have hlt' : (a : Int) < (l.length : Int) := by omega
        have ha0 : (0 : Int) ≤ (a : Int) := by omega
        have hda : decide (a < l.length) = true := by simpa using hlt
        obtain ⟨pb, poff, pcap, epv, hpl, hel⟩ := unhide HAT a hlt
        cases epv
        obtain ⟨b1, d1, b2, d2, b3, d3, e0, e1, e2, e3, e4, e5, e6, e7, e8, e9, e10, e11, hro⟩ := opc_at (w := wa) (W := wr) hB hpl hel
        have lt1 := lo.all hB
        have t1 : wr.cell? ⟨S, 1, none⟩ = some (.int .i64 o.atN) := lt1.cell 1
        have t2 : wr.cell? ⟨S, 2, none⟩ = some (.int .i64 o.atR) := lt1.cell 2
        have hSr : S < wr.heap.size := lt1.lt
        have hpr : pb < wr.heap.size := Nat.lt_of_lt_of_le hpl hB.size
        replace e1 := Gr.cell hpr e1
        replace e2 := Gr.cell hpr e2
        replace t1 := Gr.cell hSr t1
        replace t2 := Gr.cell hSr t2
        have hNE : Nonempty (Gr wr) := ⟨⟨wr, Below.refl _ _⟩⟩
        clear hel hro lt1 e0 e3 e4 e5 e6 e7 e8 e9 e10 e11
        have HC := hide (fun W => lessS_any W l[a].atN l[a].atR o.atN o.atR)
        have HD := hide (And.intro (fun (hh : ahead o.atN o.atR l[a] = true) => (show ∀ k (hk : k < l.length), k < a + 1 → ahead o.atN o.atR l[k] = true from fun k hk hka => by
          rcases Nat.lt_succ_iff_lt_or_eq.1 hka with h1 | rfl
          · exact unhide HI k hk h1
          · exact hh)) (fun (hh : ahead o.atN o.atR l[a] = false) => (show posO l o.atN o.atR = a from posO_of hal (unhide HI) (fun _ => hh))))
        change Hid (∀ W, Calls _ _ _ W fun e w' => e = .returned (.bool (ahead o.atN o.atR l[a])) ∧ _) at HC
        generalize ahead o.atN o.atR l[a] = am at *
        generalize l[a] = p0 at *
        go_wp2_with fail
        refine wp_region_gr (by kernel_rfl) (by kernel_rfl) ?_
        repeat (go_big_quiet_step ((rename_i p; exact calls_gr (unhide HC _))))
        refine wpQuiet_nil ?_
        rintro _ ⟨p, rfl⟩
        have hB3 := bstep hB p.h
        clear e1 e2 t1 t2 HC HI
        cases am with
        | true =>
          have HD1 := hide ((unhide HD).1 rfl)
          clear HD
          go_wp2_with fail
          go_roundw
          case rel => exact ⟨a + 1, by omega, by go_num, HD1, hB3⟩
          case measure => simp [intOf]; omega
        | false =>
          have HD1 := hide ((unhide HD).2 rfl)
          clear HD
          go_wp2_with fail
          go_meet
          exact ⟨by rw [unhide HD1], hB3⟩
      · have hae : a = l.length := by omega
        subst hae
        have HD1 := hide (show posO l o.atN o.atR = l.length from posO_of hal (unhide HI) (fun hk => by omega))
        clear HI hlt
        have hNE : Nonempty (Gr wr) := ⟨⟨wr, Below.refl _ _⟩⟩
        go_wp2_with fail
        refine wp_region_gr (by kernel_rfl) (by kernel_rfl) ?_
        repeat (go_big_quiet_step (fail))
        refine wpQuiet_nil ?_
        rintro _ ⟨p, rfl⟩
        have hB3 := bstep hB p.h
        go_wp2_with fail
        go_meet
        exact ⟨by rw [unhide HD1], hB3⟩
  case rest =>
    obtain ⟨rfl, hB⟩ := hcut
    have hple := posO_le l o.atN o.atR
    generalize hpp : posO l o.atN o.atR = p at *
    have HPP := hide hpp
    clear hpp
    have hpI : (p : Int) ≤ (l.length : Int) := by omega
    have hp0 : (0 : Int) ≤ (p : Int) := by omega
    go_upto_region 5 with fail
    go_cut [37] from 24 to 36 (fun s37 wx => s37 = .bool (there l o.atN o.atR) ∧ Below wa.heap.size wa wx)
    case first =>
      have hNE : Nonempty (Gr wc) := ⟨⟨wc, Below.refl _ _⟩⟩
      by_cases hlt : p < l.length
      · have hlt' : (p : Int) < (l.length : Int) := by omega
        have hda : decide (p < l.length) = true := by simpa using hlt
        have HT := hide (show there l o.atN o.atR = (l[p].atN == o.atN && l[p].atR == o.atR) by
          have e := unhide HPP
          unfold there
          simp only [e, hlt, dite_true]
          rw [Bool.eq_iff_iff]
          simp)
        obtain ⟨pb, poff, pcap, epv, hpl, hel⟩ := unhide HAT p hlt
        cases epv
        obtain ⟨b1, d1, b2, d2, b3, d3, e0, e1, e2, e3, e4, e5, e6, e7, e8, e9, e10, e11, hro⟩ := opc_at (w := wa) (W := wc) hB hpl hel
        have lt1 := lo.all hB
        have t1 : wc.cell? ⟨S, 1, none⟩ = some (.int .i64 o.atN) := lt1.cell 1
        have t2 : wc.cell? ⟨S, 2, none⟩ = some (.int .i64 o.atR) := lt1.cell 2
        have hSr : S < wc.heap.size := lt1.lt
        have hpr : pb < wc.heap.size := Nat.lt_of_lt_of_le hpl hB.size
        replace e1 := Gr.cell hpr e1
        replace e2 := Gr.cell hpr e2
        replace t1 := Gr.cell hSr t1
        replace t2 := Gr.cell hSr t2
        skip
        clear hel hro lt1 e0 e3 e4 e5 e6 e7 e8 e9 e10 e11
        generalize l[p] = p0 at *
        generalize p0.atN = pn at *
        generalize p0.atR = pr at *
        have HM := hide (fun b => (show there l o.atN o.atR = b → ∀ W, Below wc.heap.size wc W → (Value.bool b = .bool (there l o.atN o.atR) ∧ Below wa.heap.size wa W) from fun e W hW => ⟨by rw [e], bstep hB hW⟩))
        by_cases h1 : pn = o.atN
        · by_cases h2 : pr = o.atR
          · have HT2 := hide ((unhide HT).trans (show _ = true by rw [h1, h2]; simp))
            subst h1 h2
            clear HT
            refine wp_region_gr (by kernel_rfl) (by kernel_rfl) ?_
            repeat (go_big_quiet_step (fail))
            refine wpQuiet_nil ?_
            rintro _ ⟨q, rfl⟩
            clear e1 e2 t1 t2
            go_wp2_with fail
            go_meet
            exact unhide HM true (unhide HT2) _ q.h
          · have HT2 := hide ((unhide HT).trans (show _ = false by simp [h2]))
            subst h1
            have q2 : (pr == o.atR) = false := by simpa using h2
            clear HT h2
            refine wp_region_gr (by kernel_rfl) (by kernel_rfl) ?_
            repeat (go_big_quiet_step (fail))
            refine wpQuiet_nil ?_
            rintro _ ⟨q, rfl⟩
            clear e1 e2 t1 t2
            go_wp2_with fail
            go_meet
            exact unhide HM false (unhide HT2) _ q.h
        · have HT2 := hide ((unhide HT).trans (show _ = false by simp [h1]))
          have q1 : (pn == o.atN) = false := by simpa using h1
          clear HT h1
          refine wp_region_gr (by kernel_rfl) (by kernel_rfl) ?_
          repeat (go_big_quiet_step (fail))
          refine wpQuiet_nil ?_
          rintro _ ⟨q, rfl⟩
          clear e1 e2 t1 t2
          go_wp2_with fail
          go_meet
          exact unhide HM false (unhide HT2) _ q.h
      · have hae : p = l.length := by omega
        have HT := hide (show there l o.atN o.atR = false by
          have e := unhide HPP
          unfold there
          simp only [e, hlt, dite_false])
        subst hae
        clear hlt
        refine wp_region_gr (by kernel_rfl) (by kernel_rfl) ?_
        repeat (go_big_quiet_step (fail))
        refine wpQuiet_nil ?_
        rintro _ ⟨q, rfl⟩
        have hB3 := bstep hB q.h
        go_wp2_with fail
        go_meet
        exact ⟨by rw [unhide HT], hB3⟩
    case rest =>
      obtain ⟨rfl, hB2⟩ := hcut
      clear hB
      have hBw : Below S w wc := hA.trans (hB2.mono (Nat.le_of_lt hSl))
      cases hth : there l o.atN o.atR with
      | false =>
        have HV := hide (show putL l o = (if 150 ≤ l.length then l else l.take p ++ [o] ++ l.drop p) by unfold putL; rw [hth, unhide HPP, if_neg (by decide)])
        have HK := hide (show putOk l o = decide (l.length < 150) by unfold putOk; rw [hth]; rfl)
        by_cases h150 : 150 ≤ l.length
        · have hd : (150 : Int) ≤ (l.length : Int) := by omega
          have KK := hide (show ∃ u, Ending.returned (.tuple #[(Value.slice av l.length cv), .bool false]) = .returned (.tuple #[u, .bool (putOk l o)]) ∧ PutRP P S wc (Value.slice av l.length cv) u l (putL l o) ∧ Below S w wc from ⟨_, by rw [unhide HK, decide_eq_false (by omega)], by rw [unhide HV, if_pos h150]; exact .inl ⟨rfl, rfl⟩, hBw⟩)
          clear hBw hB2 hA lo
          go_wp2_with fail
          exact unhide HQ _ _ (unhide KK)
        · have hd : ¬ (150 : Int) ≤ (l.length : Int) := by omega
          rw [if_neg h150] at HV
          have hks : putOk l o = true := by rw [unhide HK]; simpa using h150
          have HKS := hide hks
          clear hks HK
          have HO1 := hide (show P [.int .i64 o.kind, .int .i64 o.atN, .int .i64 o.atR, .int .i64 o.nodeN, .int .i64 o.nodeR, .int .i64 o.parN, .int .i64 o.parR, .slice ak o.key.length ck, .int .i64 o.elem, .slice an o.name.length cn, .slice tt o.text.length ct, .bool o.gone] o from unhide HRD)
          obtain ⟨hml, ⟨ev, el⟩ | ⟨x, cap, ev, hc, el⟩ | ⟨b, off, cap, ev, g1, g2, g3, g4, g5⟩⟩ := unhide HR0
          · subst el
            have hp00 : p = 0 := by simpa using hple
            subst hp00
            cases ev
            have hwc := hB2.size
            have HX := hide (And.intro hB2 hBw)
            have HSZ := hide (show ∀ W, SegP P W (.slice none 0 0) [] from fun W => .inl ⟨rfl, rfl⟩)
            clear hB2 hBw
            go_wp2_with (at_builtin; refine wpList_appShP (P := P) (w0 := w0) (unhide HKIND) rfl _ _ rfl wc.heap.size _ [] rfl (sh_noneP _ _ _) _ [] rfl (unhide HSZ _) ?hole1 (Nat.le_refl _) ?_)
            intro u1 w1 hs1 hg1
            have hB1 := Below.ofGrown hg1
            have hBa1 := bstep (unhide HX).1 hB1
            have hBw1 : Below S w w1 := (unhide HX).2.trans (hB1.mono (by have := (unhide HX).2.size; omega))
            have lo1 := lo.all hBa1
            obtain ⟨a9, c9, ev9⟩ : ∃ a9 c9, u1 = .slice a9 0 c9 := by
              obtain ⟨Cs, _, _, hown⟩ := hs1
              rcases hown.2 with ⟨e, e0⟩ | ⟨g, cap', cur, e, _⟩
              · exact ⟨none, 0, e⟩
              · exact ⟨_, _, by simpa using e⟩
            subst ev9
            obtain ⟨x0, x1, x2, x3, x4, x5, x6, x7, x8, x9, x10, x11⟩ := lo1.twelve
            have hAe := (Below.refl w1.heap.size w1).alloc (Nat.le_refl _) (.cells #[.int .i64 o.kind, .int .i64 o.atN, .int .i64 o.atR, .int .i64 o.nodeN, .int .i64 o.nodeR, .int .i64 o.parN, .int .i64 o.parR, .slice ak o.key.length ck, .int .i64 o.elem, .slice an o.name.length cn, .slice tt o.text.length ct, .bool o.gone] 38)
            have lE := Loc.made w1 #[.int .i64 o.kind, .int .i64 o.atN, .int .i64 o.atR, .int .i64 o.nodeN, .int .i64 o.nodeR, .int .i64 o.parN, .int .i64 o.parR, .slice ak o.key.length ck, .int .i64 o.elem, .slice an o.name.length cn, .slice tt o.text.length ct, .bool o.gone] 38
            have HS2 := hide (SegP.one (P := P) (w := (w1.alloc (.cells #[.int .i64 o.kind, .int .i64 o.atN, .int .i64 o.atR, .int .i64 o.nodeN, .int .i64 o.nodeR, .int .i64 o.parN, .int .i64 o.parR, .slice ak o.key.length ck, .int .i64 o.elem, .slice an o.name.length cn, .slice tt o.text.length ct, .bool o.gone] 38))) (g := w1.heap.size) (C := [.int .i64 o.kind, .int .i64 o.atN, .int .i64 o.atR, .int .i64 o.nodeN, .int .i64 o.nodeR, .int .i64 o.parN, .int .i64 o.parR, .slice ak o.key.length ck, .int .i64 o.elem, .slice an o.name.length cn, .slice tt o.text.length ct, .bool o.gone]) (o := o) rfl lE (unhide HO1))
            have HSH := hide (show ShOpsP P (w1.alloc (.cells #[.int .i64 o.kind, .int .i64 o.atN, .int .i64 o.atR, .int .i64 o.nodeN, .int .i64 o.nodeR, .int .i64 o.parN, .int .i64 o.parR, .slice ak o.key.length ck, .int .i64 o.elem, .slice an o.name.length cn, .slice tt o.text.length ct, .bool o.gone] 38)) wc.heap.size (.slice a9 0 c9) [] by
              obtain ⟨Cs, z1, z2, z3⟩ := hs1
              exact ⟨Cs, by simpa using z1, fun i hi => by simp at hi, ownsRow_frm (by simpa using z3) (Frm.ofBelow hAe []) (fun _ _ => by simp)⟩)
            have HY := hide (And.intro (bstep hBa1 hAe) (And.intro (hBw1.trans (hAe.mono (by have := hBw1.size; omega))) (show wc.heap.size ≤ (w1.alloc (.cells #[.int .i64 o.kind, .int .i64 o.atN, .int .i64 o.atR, .int .i64 o.nodeN, .int .i64 o.nodeR, .int .i64 o.parN, .int .i64 o.parR, .slice ak o.key.length ck, .int .i64 o.elem, .slice an o.name.length cn, .slice tt o.text.length ct, .bool o.gone] 38)).heap.size by have := hB1.size; have := hAe.size; omega)))
            clear hs1 hg1 hB1 hBa1 hBw1 lo1 hAe lE HX
            go_wp2_with (at_builtin; refine wpList_appShP (P := P) (w0 := w0) (unhide HKIND) rfl _ _ rfl wc.heap.size _ [] rfl (unhide HSH) _ [o] rfl (unhide HS2) ?hole2 (unhide HY).2.2 ?_)
            case hole2 => first | omega | simp
            intro u2 w2 hs2 hg2
            clear x0 x1 x2 x3 x4 x5 x6 x7 x8 x9 x10 x11
            have hlt9 : ∀ q, (Value.slice a9 0 c9).ownBlock = some q → wc.heap.size ≤ q := fun q hq => by
              obtain ⟨Cs, _, _, z3⟩ := unhide HSH
              exact (z3.lt q hq).1
            have hBa2 := bstepBy (unhide HY).1 hg2 (fun q hq => by have := hlt9 q hq; omega)
            have hsz2 : wc.heap.size ≤ w2.heap.size := Nat.le_trans (unhide HY).2.2 hg2.size
            obtain ⟨a8, c8, ev8⟩ : ∃ a8 c8, u2 = .slice a8 1 c8 := by
              obtain ⟨Cs, _, _, hown⟩ := hs2
              rcases hown.2 with ⟨e, e0⟩ | ⟨g, cap', cur, e, _⟩
              · simp at e0
              · exact ⟨_, _, by simpa using e⟩
            subst ev8
            replace hs2 : ShOpsP P w2 wc.heap.size (.slice a8 1 c8) [o] := by simpa using hs2
            have HSH2 := hide (And.intro hs2 hsz2)
            have HEND := hide (fun u3 w3 (hs3 : ShOpsP P w3 wc.heap.size u3 [o]) (hB3 : Below wa.heap.size wa w3) => (show ∃ u, Ending.returned (.tuple #[u3, .bool true]) = .returned (.tuple #[u, .bool (putOk [] o)]) ∧ PutRP P S w3 (Value.slice none 0 0) u [] (putL [] o) ∧ Below S w w3 from ⟨u3, by rw [unhide HKS], by rw [unhide HV]; exact .inr (hs3.low (by omega)), hA.trans (hB3.mono (Nat.le_of_lt hSl))⟩))
            have HG2 := hide (fun w3 (hg3 : w2.grownBy w3 (Value.slice a8 1 c8).ownBlock) => (show Below wa.heap.size wa w3 from bstepBy hBa2 hg3 (fun q hq => by
              obtain ⟨Cs, _, _, z3⟩ := hs2
              have := (z3.lt q hq).1
              omega)))
            clear hs2 hg2 hBa2 hlt9 HSH HY HS2
            go_wp2_with (at_builtin; refine wpList_appShP (P := P) (w0 := w0) (unhide HKIND) rfl _ _ rfl wc.heap.size _ [o] rfl (unhide HSH2).1 _ [] rfl (unhide HSZ _) ?hole3 (unhide HSH2).2 ?_)
            case hole3 => first | omega | simp
            intro u3 w3 hs3 hg3
            have KK := hide (unhide HEND u3 w3 (by simpa using hs3) (unhide HG2 w3 hg3))
            clear hs3 hg3
            go_wp2_with fail
            exact unhide HQ _ _ (unhide KK)
          · subst el
            have hp00 : p = 0 := by simpa using hple
            subst hp00
            cases ev
            have hwc := hB2.size
            have HX := hide (And.intro hB2 hBw)
            have HSZ := hide (show ∀ W, SegP P W (.slice (some x) 0 cv) [] from fun W => .inr (.inl ⟨_, _, rfl, rfl⟩))
            clear hB2 hBw
            go_wp2_with (at_builtin; refine wpList_appShP (P := P) (w0 := w0) (unhide HKIND) rfl _ _ rfl wc.heap.size _ [] rfl (sh_noneP _ _ _) _ [] rfl (unhide HSZ _) ?hole4 (Nat.le_refl _) ?_)
            intro u1 w1 hs1 hg1
            have hB1 := Below.ofGrown hg1
            have hBa1 := bstep (unhide HX).1 hB1
            have hBw1 : Below S w w1 := (unhide HX).2.trans (hB1.mono (by have := (unhide HX).2.size; omega))
            have lo1 := lo.all hBa1
            obtain ⟨a9, c9, ev9⟩ : ∃ a9 c9, u1 = .slice a9 0 c9 := by
              obtain ⟨Cs, _, _, hown⟩ := hs1
              rcases hown.2 with ⟨e, e0⟩ | ⟨g, cap', cur, e, _⟩
              · exact ⟨none, 0, e⟩
              · exact ⟨_, _, by simpa using e⟩
            subst ev9
            obtain ⟨x0, x1, x2, x3, x4, x5, x6, x7, x8, x9, x10, x11⟩ := lo1.twelve
            have hAe := (Below.refl w1.heap.size w1).alloc (Nat.le_refl _) (.cells #[.int .i64 o.kind, .int .i64 o.atN, .int .i64 o.atR, .int .i64 o.nodeN, .int .i64 o.nodeR, .int .i64 o.parN, .int .i64 o.parR, .slice ak o.key.length ck, .int .i64 o.elem, .slice an o.name.length cn, .slice tt o.text.length ct, .bool o.gone] 38)
            have lE := Loc.made w1 #[.int .i64 o.kind, .int .i64 o.atN, .int .i64 o.atR, .int .i64 o.nodeN, .int .i64 o.nodeR, .int .i64 o.parN, .int .i64 o.parR, .slice ak o.key.length ck, .int .i64 o.elem, .slice an o.name.length cn, .slice tt o.text.length ct, .bool o.gone] 38
            have HS2 := hide (SegP.one (P := P) (w := (w1.alloc (.cells #[.int .i64 o.kind, .int .i64 o.atN, .int .i64 o.atR, .int .i64 o.nodeN, .int .i64 o.nodeR, .int .i64 o.parN, .int .i64 o.parR, .slice ak o.key.length ck, .int .i64 o.elem, .slice an o.name.length cn, .slice tt o.text.length ct, .bool o.gone] 38))) (g := w1.heap.size) (C := [.int .i64 o.kind, .int .i64 o.atN, .int .i64 o.atR, .int .i64 o.nodeN, .int .i64 o.nodeR, .int .i64 o.parN, .int .i64 o.parR, .slice ak o.key.length ck, .int .i64 o.elem, .slice an o.name.length cn, .slice tt o.text.length ct, .bool o.gone]) (o := o) rfl lE (unhide HO1))
            have HSH := hide (show ShOpsP P (w1.alloc (.cells #[.int .i64 o.kind, .int .i64 o.atN, .int .i64 o.atR, .int .i64 o.nodeN, .int .i64 o.nodeR, .int .i64 o.parN, .int .i64 o.parR, .slice ak o.key.length ck, .int .i64 o.elem, .slice an o.name.length cn, .slice tt o.text.length ct, .bool o.gone] 38)) wc.heap.size (.slice a9 0 c9) [] by
              obtain ⟨Cs, z1, z2, z3⟩ := hs1
              exact ⟨Cs, by simpa using z1, fun i hi => by simp at hi, ownsRow_frm (by simpa using z3) (Frm.ofBelow hAe []) (fun _ _ => by simp)⟩)
            have HY := hide (And.intro (bstep hBa1 hAe) (And.intro (hBw1.trans (hAe.mono (by have := hBw1.size; omega))) (show wc.heap.size ≤ (w1.alloc (.cells #[.int .i64 o.kind, .int .i64 o.atN, .int .i64 o.atR, .int .i64 o.nodeN, .int .i64 o.nodeR, .int .i64 o.parN, .int .i64 o.parR, .slice ak o.key.length ck, .int .i64 o.elem, .slice an o.name.length cn, .slice tt o.text.length ct, .bool o.gone] 38)).heap.size by have := hB1.size; have := hAe.size; omega)))
            clear hs1 hg1 hB1 hBa1 hBw1 lo1 hAe lE HX
            go_wp2_with (at_builtin; refine wpList_appShP (P := P) (w0 := w0) (unhide HKIND) rfl _ _ rfl wc.heap.size _ [] rfl (unhide HSH) _ [o] rfl (unhide HS2) ?hole5 (unhide HY).2.2 ?_)
            case hole5 => first | omega | simp
            intro u2 w2 hs2 hg2
            clear x0 x1 x2 x3 x4 x5 x6 x7 x8 x9 x10 x11
            have hlt9 : ∀ q, (Value.slice a9 0 c9).ownBlock = some q → wc.heap.size ≤ q := fun q hq => by
              obtain ⟨Cs, _, _, z3⟩ := unhide HSH
              exact (z3.lt q hq).1
            have hBa2 := bstepBy (unhide HY).1 hg2 (fun q hq => by have := hlt9 q hq; omega)
            have hsz2 : wc.heap.size ≤ w2.heap.size := Nat.le_trans (unhide HY).2.2 hg2.size
            obtain ⟨a8, c8, ev8⟩ : ∃ a8 c8, u2 = .slice a8 1 c8 := by
              obtain ⟨Cs, _, _, hown⟩ := hs2
              rcases hown.2 with ⟨e, e0⟩ | ⟨g, cap', cur, e, _⟩
              · simp at e0
              · exact ⟨_, _, by simpa using e⟩
            subst ev8
            replace hs2 : ShOpsP P w2 wc.heap.size (.slice a8 1 c8) [o] := by simpa using hs2
            have HSH2 := hide (And.intro hs2 hsz2)
            have HEND := hide (fun u3 w3 (hs3 : ShOpsP P w3 wc.heap.size u3 [o]) (hB3 : Below wa.heap.size wa w3) => (show ∃ u, Ending.returned (.tuple #[u3, .bool true]) = .returned (.tuple #[u, .bool (putOk [] o)]) ∧ PutRP P S w3 (Value.slice (some x) 0 cv) u [] (putL [] o) ∧ Below S w w3 from ⟨u3, by rw [unhide HKS], by rw [unhide HV]; exact .inr (hs3.low (by omega)), hA.trans (hB3.mono (Nat.le_of_lt hSl))⟩))
            have HG2 := hide (fun w3 (hg3 : w2.grownBy w3 (Value.slice a8 1 c8).ownBlock) => (show Below wa.heap.size wa w3 from bstepBy hBa2 hg3 (fun q hq => by
              obtain ⟨Cs, _, _, z3⟩ := hs2
              have := (z3.lt q hq).1
              omega)))
            clear hs2 hg2 hBa2 hlt9 HSH HY HS2
            go_wp2_with (at_builtin; refine wpList_appShP (P := P) (w0 := w0) (unhide HKIND) rfl _ _ rfl wc.heap.size _ [o] rfl (unhide HSH2).1 _ [] rfl (unhide HSZ _) ?hole6 (unhide HSH2).2 ?_)
            case hole6 => first | omega | simp
            intro u3 w3 hs3 hg3
            have KK := hide (unhide HEND u3 w3 (by simpa using hs3) (unhide HG2 w3 hg3))
            clear hs3 hg3
            go_wp2_with fail
            exact unhide HQ _ _ (unhide KK)
          · cases ev
            have hpl : (l.take p).length = p := by rw [List.length_take]; omega
            have HS1 := hide (SegP.at (P := P) (w0 := w0) (w := wc) (b := b) (off := off) (n := p) (c := cv) (m := l.take p) hpl (bstep (unhide HZ0) hB2) g4 (fun i hi => by
              rw [List.getElem_take]
              exact g5 i (by omega)))
            have HS3 := hide (fun W (hW : Below wa.heap.size wa W) c => SegP.at (P := P) (w0 := w0) (w := W) (b := b) (off := off + p * 12) (n := l.length - p) (c := c) (m := l.drop p) (by rw [List.length_drop]) (bstep (unhide HZ0) hW) g4 (fun i hi => by
              rw [List.getElem_drop]
              obtain ⟨C, hC, hc, hr⟩ := g5 (p + i) (by rw [List.length_drop] at hi; omega)
              exact ⟨C, hC, fun j hj => by rw [← hc j hj]; congr 2; omega, hr⟩))
            have hpc : (p : Int) ≤ (cv : Int) := by omega
            have hwc := hB2.size
            have HX := hide (And.intro hB2 hBw)
            clear hB2 hBw g5
            go_wp2_with (at_builtin; refine wpList_appShP (P := P) (w0 := w0) (unhide HKIND) rfl _ _ rfl wc.heap.size _ [] rfl (sh_noneP _ _ _) _ (l.take p) rfl (unhide HS1) ?hole7 (Nat.le_refl _) ?_)
            case hole7 => first | omega | (simp; omega)
            intro u1 w1 hs1 hg1
            try rw [List.nil_append] at hs1
            have hB1 := Below.ofGrown hg1
            have hBa1 := bstep (unhide HX).1 hB1
            have hBw1 : Below S w w1 := (unhide HX).2.trans (hB1.mono (by have := (unhide HX).2.size; omega))
            have lo1 := lo.all hBa1
            obtain ⟨a9, c9, ev9⟩ : ∃ a9 c9, u1 = .slice a9 p c9 := by
              obtain ⟨Cs, _, _, hown⟩ := hs1
              rw [hpl] at hown
              rcases hown.2 with ⟨e, e0⟩ | ⟨g, cap', cur, e, _⟩
              · exact ⟨none, 0, by rw [e, e0]⟩
              · exact ⟨_, _, e⟩
            subst ev9
            obtain ⟨x0, x1, x2, x3, x4, x5, x6, x7, x8, x9, x10, x11⟩ := lo1.twelve
            have hAe := (Below.refl w1.heap.size w1).alloc (Nat.le_refl _) (.cells #[.int .i64 o.kind, .int .i64 o.atN, .int .i64 o.atR, .int .i64 o.nodeN, .int .i64 o.nodeR, .int .i64 o.parN, .int .i64 o.parR, .slice ak o.key.length ck, .int .i64 o.elem, .slice an o.name.length cn, .slice tt o.text.length ct, .bool o.gone] 38)
            have lE := Loc.made w1 #[.int .i64 o.kind, .int .i64 o.atN, .int .i64 o.atR, .int .i64 o.nodeN, .int .i64 o.nodeR, .int .i64 o.parN, .int .i64 o.parR, .slice ak o.key.length ck, .int .i64 o.elem, .slice an o.name.length cn, .slice tt o.text.length ct, .bool o.gone] 38
            have HS2 := hide (SegP.one (P := P) (w := (w1.alloc (.cells #[.int .i64 o.kind, .int .i64 o.atN, .int .i64 o.atR, .int .i64 o.nodeN, .int .i64 o.nodeR, .int .i64 o.parN, .int .i64 o.parR, .slice ak o.key.length ck, .int .i64 o.elem, .slice an o.name.length cn, .slice tt o.text.length ct, .bool o.gone] 38))) (g := w1.heap.size) (C := [.int .i64 o.kind, .int .i64 o.atN, .int .i64 o.atR, .int .i64 o.nodeN, .int .i64 o.nodeR, .int .i64 o.parN, .int .i64 o.parR, .slice ak o.key.length ck, .int .i64 o.elem, .slice an o.name.length cn, .slice tt o.text.length ct, .bool o.gone]) (o := o) rfl lE (unhide HO1))
            have HSH := hide (show ShOpsP P (w1.alloc (.cells #[.int .i64 o.kind, .int .i64 o.atN, .int .i64 o.atR, .int .i64 o.nodeN, .int .i64 o.nodeR, .int .i64 o.parN, .int .i64 o.parR, .slice ak o.key.length ck, .int .i64 o.elem, .slice an o.name.length cn, .slice tt o.text.length ct, .bool o.gone] 38)) wc.heap.size (.slice a9 p c9) (l.take p) by
              obtain ⟨Cs, z1, z2, z3⟩ := hs1
              exact ⟨Cs, z1, z2, ownsRow_frm z3 (Frm.ofBelow hAe []) (fun _ _ => by simp)⟩)
            have HY := hide (And.intro (bstep hBa1 hAe) (And.intro (hBw1.trans (hAe.mono (by have := hBw1.size; omega))) (show wc.heap.size ≤ (w1.alloc (.cells #[.int .i64 o.kind, .int .i64 o.atN, .int .i64 o.atR, .int .i64 o.nodeN, .int .i64 o.nodeR, .int .i64 o.parN, .int .i64 o.parR, .slice ak o.key.length ck, .int .i64 o.elem, .slice an o.name.length cn, .slice tt o.text.length ct, .bool o.gone] 38)).heap.size by have := hB1.size; have := hAe.size; omega)))
            clear hs1 hg1 hB1 hBa1 hBw1 lo1 hAe lE HX
            go_wp2_with (at_builtin; refine wpList_appShP (P := P) (w0 := w0) (unhide HKIND) rfl _ _ rfl wc.heap.size _ (l.take p) rfl (unhide HSH) _ [o] rfl (unhide HS2) ?hole8 (unhide HY).2.2 ?_)
            case hole8 => first | omega | (simp; omega)
            intro u2 w2 hs2 hg2
            clear x0 x1 x2 x3 x4 x5 x6 x7 x8 x9 x10 x11
            have hlt9 : ∀ q, (Value.slice a9 p c9).ownBlock = some q → wc.heap.size ≤ q := fun q hq => by
              obtain ⟨Cs, _, _, z3⟩ := unhide HSH
              exact (z3.lt q hq).1
            have hBa2 := bstepBy (unhide HY).1 hg2 (fun q hq => by have := hlt9 q hq; omega)
            have hBw2 : Below S w w2 := hA.trans (hBa2.mono (Nat.le_of_lt hSl))
            have hsz2 : wc.heap.size ≤ w2.heap.size := Nat.le_trans (unhide HY).2.2 hg2.size
            have hl2 : (l.take p ++ [o]).length = p + 1 := by rw [List.length_append, hpl]; rfl
            obtain ⟨a8, c8, ev8⟩ : ∃ a8 c8, u2 = .slice a8 (p + 1) c8 := by
              obtain ⟨Cs, _, _, hown⟩ := hs2
              rw [hl2] at hown
              rcases hown.2 with ⟨e, e0⟩ | ⟨g, cap', cur, e, _⟩
              · omega
              · exact ⟨_, _, e⟩
            subst ev8
            have HS3' := hide (unhide HS3 w2 hBa2)
            have HSH2 := hide (And.intro hs2 (And.intro hBw2 hsz2))
            have HEND := hide (fun u3 w3 (hs3 : ShOpsP P w3 wc.heap.size u3 ((l.take p ++ [o]) ++ l.drop p)) (hB3 : Below wa.heap.size wa w3) => (show ∃ u, Ending.returned (.tuple #[u3, .bool true]) = .returned (.tuple #[u, .bool (putOk l o)]) ∧ PutRP P S w3 (Value.slice (some ⟨b, off, none⟩) l.length cv) u l (putL l o) ∧ Below S w w3 from ⟨u3, by rw [unhide HKS], by rw [unhide HV]; exact .inr (hs3.low (by omega)), hA.trans (hB3.mono (Nat.le_of_lt hSl))⟩))
            have HG2 := hide (fun w3 (hg3 : w2.grownBy w3 (Value.slice a8 (p + 1) c8).ownBlock) => (show Below wa.heap.size wa w3 from bstepBy hBa2 hg3 (fun q hq => by
              obtain ⟨Cs, _, _, z3⟩ := hs2
              have := (z3.lt q hq).1
              omega)))
            clear hs2 hg2 hBa2 hBw2 hlt9 HSH HY HS1 HS2 HS3
            by_cases hcp : cv = p
            · subst hcp
              have hdr : l.drop cv = [] := List.drop_of_length_le g1
              have hll2 : l.length = cv := by omega
              rw [hdr] at HEND
              have HSZ := hide (show ∀ x c, SegP P w2 (.slice (some x) 0 c) [] from fun x c => .inr (.inl ⟨x, c, rfl, rfl⟩))
              go_wp2_with (at_builtin; refine wpList_appShP (P := P) (w0 := w0) (unhide HKIND) rfl _ _ rfl wc.heap.size _ (l.take cv ++ [o]) rfl (unhide HSH2).1 _ [] rfl (unhide HSZ _ _) ?hole9 (unhide HSH2).2.2 ?_)
              case hole9 => first | omega | (rw [hl2]; simp; omega)
              intro u3 w3 hs3 hg3
              have KK := hide (unhide HEND u3 w3 (by simpa using hs3) (unhide HG2 w3 hg3))
              clear hs3 hg3
              go_wp2_with fail
              exact unhide HQ _ _ (unhide KK)
            · have hlp : (p : Int) ≤ (l.length : Int) := by omega
              go_wp2_with (at_builtin; refine wpList_appShP (P := P) (w0 := w0) (unhide HKIND) rfl _ _ rfl wc.heap.size _ (l.take p ++ [o]) rfl (unhide HSH2).1 _ (l.drop p) rfl (unhide HS3' _) ?hole10 (unhide HSH2).2.2 ?_)
              case hole10 => first | omega | (rw [hl2, List.length_drop]; omega) | (simp; omega)
              intro u3 w3 hs3 hg3
              have KK := hide (unhide HEND u3 w3 (by simpa using hs3) (unhide HG2 w3 hg3))
              clear hs3 hg3
              go_wp2_with fail
              exact unhide HQ _ _ (unhide KK)
      | true =>
        have hlt : p < l.length := by
          unfold there at hth
          simp only [unhide HPP] at hth
          by_cases hh : p < l.length
          · exact hh
          · rw [dif_neg hh] at hth; cases hth
        have hge : l.getD p o = l[p] := by simp [List.getD_eq_getElem?_getD, hlt]
        have HV := hide (show putL l o = (if klB (opBytes o) (opBytes l[p]) then l.set p o else l) by unfold putL; rw [hth, unhide HPP, if_pos rfl, hge])
        have HK := hide (show putOk l o = true by unfold putOk; rw [hth]; rfl)
        have HO1 := hide (show P [.int .i64 o.kind, .int .i64 o.atN, .int .i64 o.atR, .int .i64 o.nodeN, .int .i64 o.nodeR, .int .i64 o.parN, .int .i64 o.parR, .slice ak o.key.length ck, .int .i64 o.elem, .slice an o.name.length cn, .slice tt o.text.length ct, .bool o.gone] o from unhide HRD)
        have hlt' : (p : Int) < (l.length : Int) := by omega
        have HS1 := hide (elems_segP (unhide HR0) (bstep (unhide HZ0) hB2))
        have hwc := hB2.size
        have HX := hide (And.intro hB2 hBw)
        clear hge hB2 hBw
        go_wp2_with (at_builtin; refine wpList_appShP (P := P) (w0 := w0) (unhide HKIND) rfl _ _ rfl wc.heap.size _ [] rfl (sh_noneP _ _ _) _ l rfl (unhide HS1) ?hole11 (Nat.le_refl _) ?_)
        case hole11 => first | omega | (simp; omega)
        intro u1 w1 hs1 hg1
        try rw [List.nil_append] at hs1
        have hB1 := Below.ofGrown hg1
        have hBa1 := bstep (unhide HX).1 hB1
        have hBw1 : Below S w w1 := hA.trans (hBa1.mono (Nat.le_of_lt hSl))
        obtain ⟨gg, c9, ev9, hgg⟩ : ∃ gg c9, u1 = .slice (some ⟨gg, 0, none⟩) l.length c9 ∧ wc.heap.size ≤ gg := by
          obtain ⟨Cs, _, _, hown⟩ := hs1
          rcases hown.2 with ⟨e, e0⟩ | ⟨g, cap', cur, e, hge, _⟩
          · omega
          · exact ⟨_, _, e, hge⟩
        subst ev9
        obtain ⟨B0, hB0⟩ : ∃ B0, B0 = wc.heap.size := ⟨_, rfl⟩
        rw [← hB0] at hs1 hgg hwc
        clear hB0
        have HSH := hide hs1
        clear hs1 hg1 hB1
        obtain ⟨pb, poff, pcap, epv, hpl, hel⟩ := unhide HAT p hlt
        cases epv
        obtain ⟨b1, d1, b2, d2, b3, d3, e0, e1, e2, e3, e4, e5, e6, e7, e8, e9, e10, e11, hro⟩ := opc_at (w := wa) (W := w1) hBa1 hpl hel
        have hpr : pb < w1.heap.size := Nat.lt_of_lt_of_le hpl hBa1.size
        have HB1 := hide (fun W (hW : Below w1.heap.size w1 W) => unhide HBO W (hBw1.trans (hW.mono (by have := hBw1.size; omega))))
        have HB2 := hide (fun W (hW : Below w1.heap.size w1 W) => bytesS_any W _ l[p] (hro.keep hW) (hkl _ (List.getElem_mem hlt)))
        have lo1 := lo.all hBa1
        obtain ⟨x0, x1, x2, x3, x4, x5, x6, x7, x8, x9, x10, x11⟩ := lo1.twelve
        unfold opVal at HB2
        clear hel hro
        have HW1 := hide (And.intro hBa1 hBw1)
        have HLO1 := hide lo1
        clear hBa1 hBw1 lo1
        generalize hlp : l[p] = p0 at *
        clear hlp
        have HOK := hide (fun (a b : List Int) (ha : okB a) (hb : okB b) => str_less ha hb)
        go_upto_region 7 with fail
        go_cut [50] from 41 to 49 (fun s50 wx => s50 = .bool (klB (opBytes o) (opBytes p0)) ∧ Below w1.heap.size w1 wx)
        case first =>
          generalize opBytes o = r1 at *
          generalize opBytes p0 = r2 at *
          go_region_with (first
            | (go_at_call 98; refine (unhide HB1 _ ((Below.refl _ _).drew)).mono ?_; clear HB1; rintro e w2 ⟨ab, cb, rfl, hob, hB2⟩; have hK2 := bstep ((Below.refl w1.heap.size w1).drew) hB2; have v1 := conv_any w2 _ _ hob.byt; replace e0 := cell_later hK2 e0; replace e1 := cell_later hK2 e1; replace e2 := cell_later hK2 e2; replace e3 := cell_later hK2 e3; replace e4 := cell_later hK2 e4; replace e5 := cell_later hK2 e5; replace e6 := cell_later hK2 e6; replace e7 := cell_later hK2 e7; replace e8 := cell_later hK2 e8; replace e9 := cell_later hK2 e9; replace e10 := cell_later hK2 e10; replace e11 := cell_later hK2 e11)
            | (go_at_call 98; refine (unhide HB2 _ hK2).mono ?_; clear HB2; rintro e w3 ⟨ac, cc, rfl, hoc, hB3⟩; have hK3 := bstep hK2 hB3; have v2 := conv_any w3 _ _ (hob.keep hB3).byt; have v3 := conv_any w3 _ _ hoc.byt))
          all_goals
            go_wp2_with fail
            go_meet
            exact ⟨congrArg Value.bool (unhide HOK r1 r2 hob.1 hoc.1), hK3⟩
        case rest =>
          obtain ⟨rfl, hB3⟩ := hcut
          obtain ⟨hBa1, hBw1⟩ := unhide HW1
          have hBa3 := bstep hBa1 hB3
          have lo3 := (unhide HLO1).all hB3
          have hsh3 : ShOpsP P wc B0 (.slice (some ⟨gg, 0, none⟩) l.length c9) l := by
            obtain ⟨Cs, z1, z2, z3⟩ := unhide HSH
            exact ⟨Cs, z1, z2, ownsRow_frm z3 (Frm.ofBelow hB3 []) (fun _ _ => by simp)⟩
          clear HB1 HB2 HSH HLO1 HW1 HX HS1 HBO hBa1 hBw1 hB3 HAT HRO x0 x1 x2 x3 x4 x5 x6 x7 x8 x9 x10 x11 e0 e1 e2 e3 e4 e5 e6 e7 e8 e9 e10 e11
          cases hkk : klB (opBytes o) (opBytes p0) with
          | false =>
            have KK := hide (show ∃ u, Ending.returned (.tuple #[(Value.slice (some ⟨gg, 0, none⟩) l.length c9), .bool true]) = .returned (.tuple #[u, .bool (putOk l o)]) ∧ PutRP P S wc (Value.slice (some ⟨pb, poff, none⟩) l.length cv) u l (putL l o) ∧ Below S w wc from ⟨_, by rw [unhide HK], by rw [unhide HV, hkk, if_neg (by decide)]; exact .inr (hsh3.low (by omega)), hA.trans (hBa3.mono (Nat.le_of_lt hSl))⟩)
            clear hsh3 lo3 hBa3
            go_wp2_with fail
            exact unhide HQ _ _ (unhide KK)
          | true =>
            obtain ⟨⟨y0, q0⟩, f0⟩ := hsh3.cells p hlt 0 (by omega)
            obtain ⟨⟨y1, q1⟩, f1⟩ := hsh3.cells p hlt 1 (by omega)
            obtain ⟨⟨y2, q2⟩, f2⟩ := hsh3.cells p hlt 2 (by omega)
            obtain ⟨⟨y3, q3⟩, f3⟩ := hsh3.cells p hlt 3 (by omega)
            obtain ⟨⟨y4, q4⟩, f4⟩ := hsh3.cells p hlt 4 (by omega)
            obtain ⟨⟨y5, q5⟩, f5⟩ := hsh3.cells p hlt 5 (by omega)
            obtain ⟨⟨y6, q6⟩, f6⟩ := hsh3.cells p hlt 6 (by omega)
            obtain ⟨⟨y7, q7⟩, f7⟩ := hsh3.cells p hlt 7 (by omega)
            obtain ⟨⟨y8, q8⟩, f8⟩ := hsh3.cells p hlt 8 (by omega)
            obtain ⟨⟨y9, q9⟩, f9⟩ := hsh3.cells p hlt 9 (by omega)
            obtain ⟨⟨y10, q10⟩, f10⟩ := hsh3.cells p hlt 10 (by omega)
            obtain ⟨⟨y11, q11⟩, f11⟩ := hsh3.cells p hlt 11 (by omega)
            rw [Nat.add_zero] at q0 f0
            obtain ⟨x0, x1, x2, x3, x4, x5, x6, x7, x8, x9, x10, x11⟩ := lo3.twelve
            obtain ⟨hset, hfrm⟩ := hsh3.set p hlt (.int .i64 o.kind) (.int .i64 o.atN) (.int .i64 o.atR) (.int .i64 o.nodeN) (.int .i64 o.nodeR) (.int .i64 o.parN) (.int .i64 o.parR) (.slice ak o.key.length ck) (.int .i64 o.elem) (.slice an o.name.length cn) (.slice tt o.text.length ct) (.bool o.gone) o (unhide HO1)
            rw [List.length_set] at hset
            have hBz := bstepF hBa3 hfrm (fun q hq => by simp at hq; omega)
            have KK := hide (show ∃ u, Ending.returned (.tuple #[(Value.slice (some ⟨gg, 0, none⟩) l.length c9), .bool true]) = .returned (.tuple #[u, .bool (putOk l o)]) ∧ PutRP P S ((((((((((((wc.setCell ⟨gg, p * 12, none⟩ (.int .i64 o.kind)).setCell ⟨gg, p * 12 + 1, none⟩ (.int .i64 o.atN)).setCell ⟨gg, p * 12 + 2, none⟩ (.int .i64 o.atR)).setCell ⟨gg, p * 12 + 3, none⟩ (.int .i64 o.nodeN)).setCell ⟨gg, p * 12 + 4, none⟩ (.int .i64 o.nodeR)).setCell ⟨gg, p * 12 + 5, none⟩ (.int .i64 o.parN)).setCell ⟨gg, p * 12 + 6, none⟩ (.int .i64 o.parR)).setCell ⟨gg, p * 12 + 7, none⟩ (.slice ak o.key.length ck)).setCell ⟨gg, p * 12 + 8, none⟩ (.int .i64 o.elem)).setCell ⟨gg, p * 12 + 9, none⟩ (.slice an o.name.length cn)).setCell ⟨gg, p * 12 + 10, none⟩ (.slice tt o.text.length ct)).setCell ⟨gg, p * 12 + 11, none⟩ (.bool o.gone)) (Value.slice (some ⟨pb, poff, none⟩) l.length cv) u l (putL l o) ∧ Below S w ((((((((((((wc.setCell ⟨gg, p * 12, none⟩ (.int .i64 o.kind)).setCell ⟨gg, p * 12 + 1, none⟩ (.int .i64 o.atN)).setCell ⟨gg, p * 12 + 2, none⟩ (.int .i64 o.atR)).setCell ⟨gg, p * 12 + 3, none⟩ (.int .i64 o.nodeN)).setCell ⟨gg, p * 12 + 4, none⟩ (.int .i64 o.nodeR)).setCell ⟨gg, p * 12 + 5, none⟩ (.int .i64 o.parN)).setCell ⟨gg, p * 12 + 6, none⟩ (.int .i64 o.parR)).setCell ⟨gg, p * 12 + 7, none⟩ (.slice ak o.key.length ck)).setCell ⟨gg, p * 12 + 8, none⟩ (.int .i64 o.elem)).setCell ⟨gg, p * 12 + 9, none⟩ (.slice an o.name.length cn)).setCell ⟨gg, p * 12 + 10, none⟩ (.slice tt o.text.length ct)).setCell ⟨gg, p * 12 + 11, none⟩ (.bool o.gone)) from ⟨_, by rw [unhide HK], by rw [unhide HV, hkk, if_pos rfl]; exact .inr (hset.low (by omega)), hA.trans (hBz.mono (Nat.le_of_lt hSl))⟩)
            clear hset hfrm hsh3 lo3 hBa3 hBz hkk
            go_wp2_with fail
            exact unhide HQ _ _ (unhide KK)
end Go.Proofs.YtaoodcielfabdaaGreat

/- An append of a readable row of ints to an owned one, as one law for the walk. -/
namespace Go.Proofs.YtaoodcielfabdaaGreat
open Go.RowKit
set_option linter.unusedVariables false

/-- 'append(out, src...)': out owned, src readable: what comes is owned, and no block but out's own has been written. -/
theorem wpList_appZ {w : World} {ops : Array Oper} {rest : List Oper} {o : Oper} {a : Act} {Q : Exit → Act → World → Prop} (hgd : o.guard = none) (s x : Operand)
    (ho : o.op = .call { callee := .builtin .append, args := #[s, x], argTypes := #[36, 36] })
    (base : Nat) (v : Value) (l : List Int) (hs : a.eval s = v) (hown : OwnZ w base v l) (u : Value) (m : List Int) (hx : a.eval x = u) (hu : Ints w u m)
    (hlen : l.length + m.length ≤ 134217728) (hbase : base ≤ w.heap.size)
    (h : ∀ v' w', OwnZ w' base v' (l ++ m) → w.grownBy w' v.ownBlock → wpList Tryz.prog ops Q rest (a.put o.dst v') w') : wpList Tryz.prog ops Q (o :: rest) a w := by
  obtain ⟨i0, hi, hz0, hz1, hz2⟩ := info_parts Tryz.info3
  have hfull : ∀ (ad : Addr) (c : Nat), a.eval x = .slice (some ad) m.length c → (∀ j, j < m.length → w.cell? (ad.add j) = some (.int .i64 (m.getD j 0))) → wpList Tryz.prog ops Q (o :: rest) a w := by
    intro ad c hx' hc
    refine wpList_append_own _ hgd s x 36 ho base 3 i0 (.int .i64 0) 1 8 Tryz.underlying36 hi hz0 hz1 hz2 rfl (by decide) v l.length (valz l) hs hown.2 ad m.length c (valz m) hx' (by rw [valz_len]; omega) ?_ (valz_one m) (by unfold maxLen; omega) (by omega) hbase ?_
    · intro j y hj
      have hlt : j < m.length := by
        by_cases hlt : j < m.length
        · exact hlt
        · rw [List.getElem?_eq_none (by rw [valz_len]; omega)] at hj; cases hj
      rw [valz_at hlt] at hj
      rw [hc j hlt]; exact hj
    · intro v' w' h1 h2 _
      refine h v' w' ⟨hown.1.app hu.1, ?_⟩ h2
      rw [valz_app, List.length_append]; exact h1
  obtain ⟨hok, hm, ⟨rfl, rfl⟩ | ⟨y, cap, rfl, hc, rfl⟩ | ⟨b, off, cap, rfl, h1, h2, h3, h4, h5⟩⟩ := hu
  · refine wpList_append_own_none hgd s x 36 ho base 3 i0 1 Tryz.underlying36 hi v l.length (valz l) hs hown.2 hx ?_
    exact h v w (by rw [List.append_nil]; exact hown) (World.grownBy.refl _ _)
  · exact hfull y cap hx (fun j hj => by simp at hj)
  · exact hfull ⟨b, off, none⟩ cap hx (fun j hj => by rw [add_plain]; exact h5 j hj)

/-- A new block of one int. -/
theorem int_one (w : World) (x : Int) (h0 : -9223372036854775808 ≤ x) (h1 : x ≤ 9223372036854775807) : Ints (w.alloc (.cells #[.int .i64 x] 3)) (.slice (some ⟨w.heap.size, 0, none⟩) 1 1) [x] := by
  refine ⟨okZ.one h0 h1, by simp [maxLen], .inr (.inr ⟨w.heap.size, 0, 1, rfl, by simp, by simp [maxLen], by simp, by simp, fun i hi => ?_⟩)⟩
  have e : i = 0 := by simpa using hi
  subst e
  simp
/-- No row at all. -/
theorem ownz_nil (w : World) (base : Nat) : OwnZ w base (.slice none 0 0) [] := ⟨okZ_nil, rfl, .inl ⟨rfl, rfl⟩⟩
theorem OwnZ.alloc {w : World} {base : Nat} {v : Value} {l : List Int} (h : OwnZ w base v l) (o : Obj) : OwnZ (w.alloc o) base v l := ⟨h.1, h.2.alloc o⟩
theorem Ints.alloc {w : World} {v : Value} {l : List Int} (h : Ints w v l) (o : Obj) : Ints (w.alloc o) v l := h.keep ((Below.refl _ _).alloc (Nat.le_refl _) o)
/-- A block of the call's own that was there when the row was made is no older than 'base'. -/
theorem OwnZ.base_le {w : World} {base : Nat} {v : Value} {l : List Int} (h : OwnZ w base v l) : ∀ g, v.ownBlock = some g → base ≤ g := fun g hg => (h.lt g hg).1

end Go.Proofs.YtaoodcielfabdaaGreat

/- spec.l4drawKey: a row of numbers that is drawn. -/
namespace Go.Proofs.YtaoodcielfabdaaGreat
open Go.RowKit
set_option linter.unusedVariables false
set_option maxRecDepth 100000

theorem OwnZ.past {w w' : World} {base g : Nat} {v : Value} {l : List Int} (h : OwnZ w base v l) (hg : w.grownBy w' (some g)) (hb : g < base) : OwnZ w' base v l :=
  h.keepBy hg (.inr (fun e => by have := h.base_le g e; omega))
theorem intsC_made (w : World) (m : List Int) (n : Nat) (hn : m.length = n) : IntsC (w.alloc (.cells (m.map (Value.int .i64)).toArray 3)) (.slice (some ⟨w.heap.size, 0, none⟩) n n) m := by
  subst hn
  refine ⟨w.heap.size, 0, m.length, rfl, by simp, fun i hi => ?_⟩
  rw [World.cell?_alloc_at _ _ _ _ rfl]
  simp [hi]

/-- A slice's length. -/
def slen : Value → Nat
  | .slice _ n _ => n
  | _ => 0

set_option maxHeartbeats 6400000 in
theorem drawKey_any (w0 w : World) (g : Nat) (code : Value) (l : List Int) (h : Cur w0 w g code l) :
    Calls Tryz.prog 158 #[.pointer (some ⟨g, 0, none⟩)] w fun e w' => ∃ a c k, e = .returned (.slice a k.length c) ∧ OwnZ w' w.heap.size (.slice a k.length c) k ∧ k.length ≤ 13 ∧ Cur w0 w' g code l ∧ w.grownBy w' (some g) := by
  have hgl := h.lt
  go_enter Tryz.func158, Tryz.ntmps158
  go_wp2_with fail
  refine (l1Below_any w0 w g code l 3 h (by omega) (by omega)).mono ?_
  rintro e w1 ⟨n, hn0, hn1, rfl, hC1, hG1⟩
  go_wp2_with fail
  obtain ⟨n, rfl⟩ := Int.eq_ofNat_of_zero_le hn0
  have hn2 : n < 3 := by omega
  clear hn0 hn1
  go_loopw [3, 5] (fun o i wr => ∃ (j : Nat) (a : Option Addr) (c : Nat) (k : List Int), j ≤ 1 + n ∧ i = .int .i64 j ∧ o = .slice a k.length c ∧ OwnZ wr w.heap.size (.slice a k.length c) k ∧ k.length = j ∧ Cur w0 wr g code l ∧ w.grownBy wr (some g)) (fun _ i _ => 1 + n - (intOf i).toNat)
  case atStart => exact ⟨0, none, 0, [], Nat.zero_le _, rfl, rfl, ownz_nil _ _, rfl, hC1, hG1⟩
  case round =>
    obtain ⟨j, a, c, k, hj, rfl, rfl, ho, hk, hC, hG⟩ := hrel
    clear hC1 hG1
    subst hk
    by_cases hlt : k.length < 1 + n
    · have hlt' : (k.length : Int) < 1 + (n : Int) := by omega
      go_wp2_with fail
      refine (l1Below_any w0 wr g code l 9 hC (by omega) (by omega)).mono ?_
      rintro e w2 ⟨x, hx0, hx1, rfl, hC2, hG2⟩
      have ho2 := ho.past hG2 hgl
      have hG2' := grown_trans hG hG2
      clear hC hG hG2 ho
      go_wp2_with fail
      have hA3 := (Below.refl w2.heap.size w2).alloc (Nat.le_refl _) (.cells #[.int .i64 0, .int .i64 1, .int .i64 2, .int .i64 500, .int .i64 999, .int .i64 998, .int .i64 x] 3)
      have hi3 : IntsC (w2.alloc (.cells #[.int .i64 0, .int .i64 1, .int .i64 2, .int .i64 500, .int .i64 999, .int .i64 998, .int .i64 x] 3)) (.slice (some ⟨w2.heap.size, 0, none⟩) 7 7) [0, 1, 2, 500, 999, 998, x] := intsC_made w2 [0, 1, 2, 500, 999, 998, x] 7 rfl
      refine (l1PickInt_any w0 _ g code l _ [0, 1, 2, 500, 999, 998, x] (hC2.keepAll hA3) (by simp) (by simp) hi3 (fun a n c e => by injection e with e; injection e with e; subst e; have := hC2.lt; simp; omega)).mono ?_
      rintro e w4 ⟨y, hy, rfl, hC4, hG4⟩
      have hy0 : 0 ≤ y ∧ y ≤ 999 := by simp at hy; omega
      have ho4 := (ho2.keep hA3).past hG4 hgl
      have hG4' := grown_trans (grown_below hG2' hA3) hG4
      clear hC2 hG2' hA3 hi3 hG4 ho2 hy
      have hY := hide (int_one w4 y (by omega) (by omega))
      go_wp2_with (at_builtin; refine wpList_appZ rfl _ _ rfl w.heap.size _ k rfl (ho4.alloc _) _ [y] rfl (unhide hY) ?c1 ?c2 ?_)
      case c1 => first | omega | (simp; omega)
      case c2 => have := hG4'.size; first | omega | (simp; omega)
      intro v5 w5 ho5 hg5
      have hgn : ∀ q, (Value.slice a k.length c).ownBlock = some q → w.heap.size ≤ q := fun q hq => (ho4.lt q hq).1
      have hA5 := grown_trans (Below.toGrown ((Below.refl w4.heap.size w4).alloc (Nat.le_refl _) (.cells #[.int .i64 y] 3)) _) hg5
      have hG5 := grown_new hG4' hA5 hgn
      have hC5 := hC4.keep hA5 (fun e => by have := hgn g e.symm; omega) (fun q hq => by have := hgn q hq; have := h.below.size; omega)
      obtain ⟨a5, c5, rfl, _, _⟩ := ho5.ints.shape
      clear hY hg5 hA5 hgn ho4 hC4 hG4'
      go_wp2_with fail
      go_roundw
      case rel => exact ⟨k.length + 1, a5, c5, k ++ [y], by omega, by go_num, rfl, ho5, by simp, hC5, hG5⟩
      case measure => simp [intOf]; omega
    · obtain ⟨z, hz⟩ : ∃ z, z = k.getD n 0 := ⟨_, rfl⟩
      have hlk : k.length = n + 1 := by omega
      obtain ⟨q, rfl⟩ : ∃ q, a = some ⟨q, 0, none⟩ := by
        obtain ⟨_, hr⟩ := ho
        rcases hr.2 with ⟨e, h0⟩ | ⟨q, cap, cur, e, _⟩
        · omega
        · exact ⟨q, by injection e⟩
      have hq := ho.lt q rfl
      have hcz : wr.cell? ⟨q, n, none⟩ = some (.int .i64 z) := by rw [hz, ho.2.cellAt n (by omega), valz_at (by omega)]
      have hfz := ho.2.frozenAt n
      have hst := ho.2.stored n (.int .i64 1)
      have hset : (valz k).set n (.int .i64 1) = valz (k.set n 1) := by unfold valz; rw [List.map_set]
      rw [hset] at hst
      have e1 : (k.length : Int) - 1 = (n : Int) := by omega
      have hltn : n < k.length := by omega
      have HS := hide (show OwnZ (wr.setCell ⟨q, n, none⟩ (.int .i64 1)) w.heap.size (.slice (some ⟨q, 0, none⟩) (k.set n 1).length c) (k.set n 1) ∧ wr.grownBy (wr.setCell ⟨q, n, none⟩ (.int .i64 1)) (some q) from ⟨⟨fun y hy => by
          rcases List.mem_or_eq_of_mem_set hy with h' | h'
          · exact ho.1 y h'
          · omega, by rw [List.length_set]; exact hst.1⟩, hst.2⟩)
      clear hst hset hz
      rw [List.length_set] at HS
      have HO := hide ho
      clear ho
      clear hlk
      obtain ⟨N, hN⟩ : ∃ N, N = k.length := ⟨_, rfl⟩
      have HN := hide (show k.length = N ∧ N ≤ 3 from ⟨hN.symm, by omega⟩)
      rw [← hN] at hj hlt e1 hltn HS HO ⊢
      clear hN
      have hlt' : ¬ (N : Int) < 1 + (n : Int) := by omega
      by_cases hz0 : z = 0
      · have dz : (z == 0) = true := by simp [hz0]
        clear hz0
        go_wp2_with fail
        obtain ⟨hoB, hgB⟩ := unhide HS
        have hCB := hC.keep hgB (by simp; omega) (fun r hr => by simp at hr; have := h.below.size; omega)
        have hGB := grown_new hG hgB (fun r hr => by simp at hr; omega)
        have HNB := hide (show (k.set n 1).length = N ∧ N ≤ 3 by rw [List.length_set]; exact unhide HN)
        clear hC hG hgB HS HO HN hcz hfz
        generalize (wr.setCell ⟨q, n, none⟩ (.int .i64 1)) = wB at *
        generalize k.set n 1 = kB at *
        refine (l1Once_any w0 wB g code l 15 hCB (by omega) (by omega)).mono ?_
        rintro e w6 ⟨b6, rfl, hC6, hG6⟩
        have ho6 := hoB.past hG6 hgl
        have hG6' := grown_trans hGB hG6
        clear hoB hCB hGB hG6
        cases b6
        · have HNk := hide (show kB.length = N ∧ N ≤ 4 from ⟨(unhide HNB).1, by have := (unhide HNB).2; omega⟩)
          clear HNB
          generalize kB = kD at *
          go_wp2_with fail
          refine (l1Once_any w0 w6 g code l 30 hC6 (by omega) (by omega)).mono ?_
          rintro e w9 ⟨b9, rfl, hC9, hG9⟩
          have ho9 := ho6.past hG9 hgl
          have hG9' := grown_trans hG6' hG9
          cases b9
          · go_wp2_with fail
            go_ret
            exact ⟨_, _, kD, by rw [(unhide HNk).1]; rfl, by rw [(unhide HNk).1]; exact ho9, by have := unhide HNk; omega, hC9, hG9'⟩
          · go_wp2_with fail
            go_loopw [3] (fun o wr => ∃ (a : Option Addr) (c m : Nat) (k : List Int), o = .slice a m c ∧ OwnZ wr w.heap.size (.slice a m c) k ∧ Hid (k.length = m) ∧ m ≤ 13 ∧ Cur w0 wr g code l ∧ w.grownBy wr (some g)) (fun o _ => 13 - slen o)
            case atStart => exact ⟨_, _, _, kD, rfl, ho9, hide (unhide HNk).1, by have := unhide HNk; omega, hC9, hG9'⟩
            case round =>
              clear ho9 hC9 hG9 hG9'
              obtain ⟨a, c, m, k, rfl, ho, HNk, hm, hC, hG⟩ := hrel
              go_wp2_with fail
              refine (l1Below_any w0 _ g code l 2 hC (by omega) (by omega)).mono ?_
              rintro e wx ⟨x, hx0, hx1, rfl, hCx, hGx⟩
              have hox := ho.past hGx hgl
              have hGx' := grown_trans hG hGx
              clear ho hC hG hGx
              by_cases hlt : (m : Int) < 12 + x
              · have hY := hide (int_one wx 1 (by omega) (by omega))
                go_wp2_with (at_builtin; refine wpList_appZ rfl _ _ rfl w.heap.size _ k rfl (hox.alloc _) _ [1] rfl (unhide hY) ?c1 ?c2 ?_)
                case c1 => have := unhide HNk; first | omega | (simp; omega)
                case c2 => have := hGx'.size; first | omega | (simp; omega)
                intro v7 w7 ho7 hg7
                have hgn := fun q hq => (hox.lt q hq).1
                have hA7 := grown_trans (Below.toGrown ((Below.refl wx.heap.size wx).alloc (Nat.le_refl _) (.cells #[.int .i64 1] 3)) _) hg7
                have hG7 := grown_new hGx' hA7 hgn
                have hC7 := hCx.keep hA7 (fun e => by have := hgn g e.symm; omega) (fun q hq => by have := hgn q hq; have := h.below.size; omega)
                obtain ⟨a7, c7, rfl, _, _⟩ := ho7.ints.shape
                clear hY hg7 hA7 hgn
                go_wp2_with fail
                go_roundw
                case rel => exact ⟨a7, c7, _, k ++ [1], rfl, ho7, hide rfl, by have := unhide HNk; simp; omega, hC7, hG7⟩
                case measure => have := unhide HNk; simp [slen]; omega
              · go_wp2_with fail
                go_ret
                exact ⟨a, c, k, by rw [unhide HNk]; rfl, by rw [unhide HNk]; exact hox, by have := unhide HNk; omega, hCx, hGx'⟩
        · go_wp2_with fail
          have hA7 := (Below.refl w6.heap.size w6).alloc (Nat.le_refl _) (.cells #[.int .i64 0, .int .i64 (-1), .int .i64 1000] 3)
          have hi7 : IntsC (w6.alloc (.cells #[.int .i64 0, .int .i64 (-1), .int .i64 1000] 3)) (.slice (some ⟨w6.heap.size, 0, none⟩) 3 3) [0, -1, 1000] := intsC_made w6 [0, -1, 1000] 3 rfl
          refine (l1PickInt_any w0 _ g code l _ [0, -1, 1000] (hC6.keepAll hA7) (by simp) (by simp) hi7 (fun a n c e => by injection e with e; injection e with e; subst e; have := hC6.lt; simp; omega)).mono ?_
          rintro e w7 ⟨y, hy, rfl, hC7, hG7⟩
          have hy0 : -1 ≤ y ∧ y ≤ 1000 := by simp at hy; omega
          have ho7 := (ho6.keep hA7).past hG7 hgl
          have hG7' := grown_trans (grown_below hG6' hA7) hG7
          clear hA7 hi7 hG7 hy ho6 hC6 hG6'
          have hY := hide (int_one w7 y (by omega) (by omega))
          go_wp2_with (at_builtin; refine wpList_appZ rfl _ _ rfl w.heap.size _ kB rfl (ho7.alloc _) _ [y] rfl (unhide hY) ?c1 ?c2 ?_)
          case c1 => have := unhide HNB; first | omega | (simp; omega)
          case c2 => have := hG7'.size; first | omega | (simp; omega)
          intro v8 w8 ho8 hg8
          have hgn := fun q hq => (ho7.lt q hq).1
          have hA8 := grown_trans (Below.toGrown ((Below.refl w7.heap.size w7).alloc (Nat.le_refl _) (.cells #[.int .i64 y] 3)) _) hg8
          have hG8 := grown_new hG7' hA8 hgn
          have hC8 := hC7.keep hA8 (fun e => by have := hgn g e.symm; omega) (fun q hq => by have := hgn q hq; have := h.below.size; omega)
          obtain ⟨a8, c8, rfl, _, _⟩ := ho8.ints.shape
          obtain ⟨M, hM⟩ : ∃ M, M = (kB ++ [y]).length := ⟨_, rfl⟩
          have HNk := hide (show (kB ++ [y]).length = M ∧ M ≤ 4 from ⟨hM.symm, by rw [hM]; have := unhide HNB; simp; omega⟩)
          rw [← hM] at ho8 ⊢
          clear hM HNB
          generalize kB ++ [y] = kD at *
          clear hY hg8 hA8 hgn ho7 hC7 hG7'
          go_wp2_with fail
          refine (l1Once_any w0 w8 g code l 30 hC8 (by omega) (by omega)).mono ?_
          rintro e w9 ⟨b9, rfl, hC9, hG9⟩
          have ho9 := ho8.past hG9 hgl
          have hG9' := grown_trans hG8 hG9
          cases b9
          · go_wp2_with fail
            go_ret
            exact ⟨_, _, kD, by rw [(unhide HNk).1]; rfl, by rw [(unhide HNk).1]; exact ho9, by have := unhide HNk; omega, hC9, hG9'⟩
          · go_wp2_with fail
            go_loopw [3] (fun o wr => ∃ (a : Option Addr) (c m : Nat) (k : List Int), o = .slice a m c ∧ OwnZ wr w.heap.size (.slice a m c) k ∧ Hid (k.length = m) ∧ m ≤ 13 ∧ Cur w0 wr g code l ∧ w.grownBy wr (some g)) (fun o _ => 13 - slen o)
            case atStart => exact ⟨_, _, _, kD, rfl, ho9, hide (unhide HNk).1, by have := unhide HNk; omega, hC9, hG9'⟩
            case round =>
              clear ho9 hC9 hG9 hG9'
              obtain ⟨a, c, m, k, rfl, ho, HNk, hm, hC, hG⟩ := hrel
              go_wp2_with fail
              refine (l1Below_any w0 _ g code l 2 hC (by omega) (by omega)).mono ?_
              rintro e wx ⟨x, hx0, hx1, rfl, hCx, hGx⟩
              have hox := ho.past hGx hgl
              have hGx' := grown_trans hG hGx
              clear ho hC hG hGx
              by_cases hlt : (m : Int) < 12 + x
              · have hY := hide (int_one wx 1 (by omega) (by omega))
                go_wp2_with (at_builtin; refine wpList_appZ rfl _ _ rfl w.heap.size _ k rfl (hox.alloc _) _ [1] rfl (unhide hY) ?c1 ?c2 ?_)
                case c1 => have := unhide HNk; first | omega | (simp; omega)
                case c2 => have := hGx'.size; first | omega | (simp; omega)
                intro v7 w7 ho7 hg7
                have hgn := fun q hq => (hox.lt q hq).1
                have hA7 := grown_trans (Below.toGrown ((Below.refl wx.heap.size wx).alloc (Nat.le_refl _) (.cells #[.int .i64 1] 3)) _) hg7
                have hG7 := grown_new hGx' hA7 hgn
                have hC7 := hCx.keep hA7 (fun e => by have := hgn g e.symm; omega) (fun q hq => by have := hgn q hq; have := h.below.size; omega)
                obtain ⟨a7, c7, rfl, _, _⟩ := ho7.ints.shape
                clear hY hg7 hA7 hgn
                go_wp2_with fail
                go_roundw
                case rel => exact ⟨a7, c7, _, k ++ [1], rfl, ho7, hide rfl, by have := unhide HNk; simp; omega, hC7, hG7⟩
                case measure => have := unhide HNk; simp [slen]; omega
              · go_wp2_with fail
                go_ret
                exact ⟨a, c, k, by rw [unhide HNk]; rfl, by rw [unhide HNk]; exact hox, by have := unhide HNk; omega, hCx, hGx'⟩
      · have dz : (z == 0) = false := by simpa using hz0
        clear hz0
        go_wp2_with fail
        have hoB := unhide HO
        have hCB := hC
        have hGB := hG
        have HNB := HN
        clear hC hG HS HO HN hcz hfz
        obtain ⟨wB, ewB⟩ : ∃ x, x = wr := ⟨_, rfl⟩
        subst ewB
        generalize k = kB at *
        refine (l1Once_any w0 wB g code l 15 hCB (by omega) (by omega)).mono ?_
        rintro e w6 ⟨b6, rfl, hC6, hG6⟩
        have ho6 := hoB.past hG6 hgl
        have hG6' := grown_trans hGB hG6
        clear hoB hCB hGB hG6
        cases b6
        · have HNk := hide (show kB.length = N ∧ N ≤ 4 from ⟨(unhide HNB).1, by have := (unhide HNB).2; omega⟩)
          clear HNB
          generalize kB = kD at *
          go_wp2_with fail
          refine (l1Once_any w0 w6 g code l 30 hC6 (by omega) (by omega)).mono ?_
          rintro e w9 ⟨b9, rfl, hC9, hG9⟩
          have ho9 := ho6.past hG9 hgl
          have hG9' := grown_trans hG6' hG9
          cases b9
          · go_wp2_with fail
            go_ret
            exact ⟨_, _, kD, by rw [(unhide HNk).1]; rfl, by rw [(unhide HNk).1]; exact ho9, by have := unhide HNk; omega, hC9, hG9'⟩
          · go_wp2_with fail
            go_loopw [3] (fun o wr => ∃ (a : Option Addr) (c m : Nat) (k : List Int), o = .slice a m c ∧ OwnZ wr w.heap.size (.slice a m c) k ∧ Hid (k.length = m) ∧ m ≤ 13 ∧ Cur w0 wr g code l ∧ w.grownBy wr (some g)) (fun o _ => 13 - slen o)
            case atStart => exact ⟨_, _, _, kD, rfl, ho9, hide (unhide HNk).1, by have := unhide HNk; omega, hC9, hG9'⟩
            case round =>
              clear ho9 hC9 hG9 hG9'
              obtain ⟨a, c, m, k, rfl, ho, HNk, hm, hC, hG⟩ := hrel
              go_wp2_with fail
              refine (l1Below_any w0 _ g code l 2 hC (by omega) (by omega)).mono ?_
              rintro e wx ⟨x, hx0, hx1, rfl, hCx, hGx⟩
              have hox := ho.past hGx hgl
              have hGx' := grown_trans hG hGx
              clear ho hC hG hGx
              by_cases hlt : (m : Int) < 12 + x
              · have hY := hide (int_one wx 1 (by omega) (by omega))
                go_wp2_with (at_builtin; refine wpList_appZ rfl _ _ rfl w.heap.size _ k rfl (hox.alloc _) _ [1] rfl (unhide hY) ?c1 ?c2 ?_)
                case c1 => have := unhide HNk; first | omega | (simp; omega)
                case c2 => have := hGx'.size; first | omega | (simp; omega)
                intro v7 w7 ho7 hg7
                have hgn := fun q hq => (hox.lt q hq).1
                have hA7 := grown_trans (Below.toGrown ((Below.refl wx.heap.size wx).alloc (Nat.le_refl _) (.cells #[.int .i64 1] 3)) _) hg7
                have hG7 := grown_new hGx' hA7 hgn
                have hC7 := hCx.keep hA7 (fun e => by have := hgn g e.symm; omega) (fun q hq => by have := hgn q hq; have := h.below.size; omega)
                obtain ⟨a7, c7, rfl, _, _⟩ := ho7.ints.shape
                clear hY hg7 hA7 hgn
                go_wp2_with fail
                go_roundw
                case rel => exact ⟨a7, c7, _, k ++ [1], rfl, ho7, hide rfl, by have := unhide HNk; simp; omega, hC7, hG7⟩
                case measure => have := unhide HNk; simp [slen]; omega
              · go_wp2_with fail
                go_ret
                exact ⟨a, c, k, by rw [unhide HNk]; rfl, by rw [unhide HNk]; exact hox, by have := unhide HNk; omega, hCx, hGx'⟩
        · go_wp2_with fail
          have hA7 := (Below.refl w6.heap.size w6).alloc (Nat.le_refl _) (.cells #[.int .i64 0, .int .i64 (-1), .int .i64 1000] 3)
          have hi7 : IntsC (w6.alloc (.cells #[.int .i64 0, .int .i64 (-1), .int .i64 1000] 3)) (.slice (some ⟨w6.heap.size, 0, none⟩) 3 3) [0, -1, 1000] := intsC_made w6 [0, -1, 1000] 3 rfl
          refine (l1PickInt_any w0 _ g code l _ [0, -1, 1000] (hC6.keepAll hA7) (by simp) (by simp) hi7 (fun a n c e => by injection e with e; injection e with e; subst e; have := hC6.lt; simp; omega)).mono ?_
          rintro e w7 ⟨y, hy, rfl, hC7, hG7⟩
          have hy0 : -1 ≤ y ∧ y ≤ 1000 := by simp at hy; omega
          have ho7 := (ho6.keep hA7).past hG7 hgl
          have hG7' := grown_trans (grown_below hG6' hA7) hG7
          clear hA7 hi7 hG7 hy ho6 hC6 hG6'
          have hY := hide (int_one w7 y (by omega) (by omega))
          go_wp2_with (at_builtin; refine wpList_appZ rfl _ _ rfl w.heap.size _ kB rfl (ho7.alloc _) _ [y] rfl (unhide hY) ?c1 ?c2 ?_)
          case c1 => have := unhide HNB; first | omega | (simp; omega)
          case c2 => have := hG7'.size; first | omega | (simp; omega)
          intro v8 w8 ho8 hg8
          have hgn := fun q hq => (ho7.lt q hq).1
          have hA8 := grown_trans (Below.toGrown ((Below.refl w7.heap.size w7).alloc (Nat.le_refl _) (.cells #[.int .i64 y] 3)) _) hg8
          have hG8 := grown_new hG7' hA8 hgn
          have hC8 := hC7.keep hA8 (fun e => by have := hgn g e.symm; omega) (fun q hq => by have := hgn q hq; have := h.below.size; omega)
          obtain ⟨a8, c8, rfl, _, _⟩ := ho8.ints.shape
          obtain ⟨M, hM⟩ : ∃ M, M = (kB ++ [y]).length := ⟨_, rfl⟩
          have HNk := hide (show (kB ++ [y]).length = M ∧ M ≤ 4 from ⟨hM.symm, by rw [hM]; have := unhide HNB; simp; omega⟩)
          rw [← hM] at ho8 ⊢
          clear hM HNB
          generalize kB ++ [y] = kD at *
          clear hY hg8 hA8 hgn ho7 hC7 hG7'
          go_wp2_with fail
          refine (l1Once_any w0 w8 g code l 30 hC8 (by omega) (by omega)).mono ?_
          rintro e w9 ⟨b9, rfl, hC9, hG9⟩
          have ho9 := ho8.past hG9 hgl
          have hG9' := grown_trans hG8 hG9
          cases b9
          · go_wp2_with fail
            go_ret
            exact ⟨_, _, kD, by rw [(unhide HNk).1]; rfl, by rw [(unhide HNk).1]; exact ho9, by have := unhide HNk; omega, hC9, hG9'⟩
          · go_wp2_with fail
            go_loopw [3] (fun o wr => ∃ (a : Option Addr) (c m : Nat) (k : List Int), o = .slice a m c ∧ OwnZ wr w.heap.size (.slice a m c) k ∧ Hid (k.length = m) ∧ m ≤ 13 ∧ Cur w0 wr g code l ∧ w.grownBy wr (some g)) (fun o _ => 13 - slen o)
            case atStart => exact ⟨_, _, _, kD, rfl, ho9, hide (unhide HNk).1, by have := unhide HNk; omega, hC9, hG9'⟩
            case round =>
              clear ho9 hC9 hG9 hG9'
              obtain ⟨a, c, m, k, rfl, ho, HNk, hm, hC, hG⟩ := hrel
              go_wp2_with fail
              refine (l1Below_any w0 _ g code l 2 hC (by omega) (by omega)).mono ?_
              rintro e wx ⟨x, hx0, hx1, rfl, hCx, hGx⟩
              have hox := ho.past hGx hgl
              have hGx' := grown_trans hG hGx
              clear ho hC hG hGx
              by_cases hlt : (m : Int) < 12 + x
              · have hY := hide (int_one wx 1 (by omega) (by omega))
                go_wp2_with (at_builtin; refine wpList_appZ rfl _ _ rfl w.heap.size _ k rfl (hox.alloc _) _ [1] rfl (unhide hY) ?c1 ?c2 ?_)
                case c1 => have := unhide HNk; first | omega | (simp; omega)
                case c2 => have := hGx'.size; first | omega | (simp; omega)
                intro v7 w7 ho7 hg7
                have hgn := fun q hq => (hox.lt q hq).1
                have hA7 := grown_trans (Below.toGrown ((Below.refl wx.heap.size wx).alloc (Nat.le_refl _) (.cells #[.int .i64 1] 3)) _) hg7
                have hG7 := grown_new hGx' hA7 hgn
                have hC7 := hCx.keep hA7 (fun e => by have := hgn g e.symm; omega) (fun q hq => by have := hgn q hq; have := h.below.size; omega)
                obtain ⟨a7, c7, rfl, _, _⟩ := ho7.ints.shape
                clear hY hg7 hA7 hgn
                go_wp2_with fail
                go_roundw
                case rel => exact ⟨a7, c7, _, k ++ [1], rfl, ho7, hide rfl, by have := unhide HNk; simp; omega, hC7, hG7⟩
                case measure => have := unhide HNk; simp [slen]; omega
              · go_wp2_with fail
                go_ret
                exact ⟨a, c, k, by rw [unhide HNk]; rfl, by rw [unhide HNk]; exact hox, by have := unhide HNk; omega, hCx, hGx'⟩
end Go.Proofs.YtaoodcielfabdaaGreat
