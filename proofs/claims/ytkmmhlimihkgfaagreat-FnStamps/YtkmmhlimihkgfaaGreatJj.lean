/- Own texts joined: PutIn, OpsI, IPut, LStamps, OpenO. -/
import Derived.Test.YtkmmhlimihkgfaaGreatJa
import Derived.Test.YtkmmhlimihkgfaaGreatJb
import Derived.Test.YtkmmhlimihkgfaaGreatJc
import Derived.Test.YtkmmhlimihkgfaaGreatJd
import Derived.Test.YtkmmhlimihkgfaaGreatJe
import Derived.Test.YtkmmhlimihkgfaaGreatJf
import Derived.Test.YtkmmhlimihkgfaaGreatJg
import Derived.Test.YtkmmhlimihkgfaaGreatJh
import Derived.Test.YtkmmhlimihkgfaaGreatJi
import Derived.Test.YtkmmhlimihkgfaaGreatProg
import Derived.ChangeArms
import Derived.ChangeSlices
import Derived.WideShapes

/- impl.opLess, impl.putInto. -/
namespace Go.Proofs.YtkmmhlimihkgfaaGreat
open Go.RowKit
set_option linter.unusedVariables false
set_option maxRecDepth 100000

theorem there_lt {l : List OpV} {n r : Int} (h : there l n r = true) : posO l n r < l.length := by
  unfold there at h
  split at h
  · assumption
  · cases h
theorem obV_of {o : OpV} (h : opB o = true) : obV o = opBytes o := by unfold obV; rw [if_pos h]
theorem OwOp.cells {w : World} {base : Nat} {o : OpV} {k n t : Value} (h : OwOp w base o k n t) : OwOpC w [.int .i64 o.kind, .int .i64 o.atN, .int .i64 o.atR, .int .i64 o.nodeN, .int .i64 o.nodeR, .int .i64 o.parN, .int .i64 o.parR, k, .int .i64 o.elem, n, t, .bool o.gone] o (FB k ++ FB n ++ FB t) :=
  ⟨k, n, t, rfl, h.1.mono (Nat.zero_le _), h.2.1.mono (Nat.zero_le _), h.2.2.1.mono (Nat.zero_le _), rfl⟩
theorem OwOp.rng {w : World} {base : Nat} {o : OpV} {k n t : Value} (h : OwOp w base o k n t) : Rng (FB k ++ FB n ++ FB t) base w.heap.size := (h.1.rng.app h.2.1.rng).app h.2.2.1.rng

set_option maxHeartbeats 12800000 in
theorem opLess_any (w : World) (va vb : Value) (a b : OpV) (ha : RdOp w va a) (hb : RdOp w vb b) (ka : opB a = true) (kb : opB b = true) (sa : szO a ≤ 2097152) (sb : szO b ≤ 2097152) :
    Calls Tryz.prog 90 #[va, vb] w fun e w' => e = .returned (.bool (klB (opBytes a) (opBytes b))) ∧ Below w.heap.size w w' := by
  have HA := hide (fun (W : World) (hW : Below w.heap.size w W) => bytesI_any W va a (ha.keep hW) (by unfold szO at sa; omega))
  have HB := hide (fun (W : World) (hW : Below w.heap.size w W) => bytesI_any W vb b (hb.keep hW) (by unfold szO at sb; omega))
  have KA := hide (And.intro ka (obV_of ka))
  have KB := hide (And.intro kb (obV_of kb))
  obtain ⟨k, n, t, rfl, hk, hn, ht⟩ := ha
  obtain ⟨ka', ca, rfl, _, _⟩ := hk.shape
  obtain ⟨na, da, rfl, _, _⟩ := hn.shape
  obtain ⟨ta, fa, rfl, _, _⟩ := ht.shape
  clear hk hn ht
  obtain ⟨k, n, t, rfl, hk, hn, ht⟩ := hb
  obtain ⟨kb', cb, rfl, _, _⟩ := hk.shape
  obtain ⟨nb, db, rfl, _, _⟩ := hn.shape
  obtain ⟨tb, fb, rfl, _, _⟩ := ht.shape
  clear hk hn ht ka kb sa sb
  obtain ⟨l0, l1, hA0⟩ := two w #[.int .i64 a.kind, .int .i64 a.atN, .int .i64 a.atR, .int .i64 a.nodeN, .int .i64 a.nodeR, .int .i64 a.parN, .int .i64 a.parR, .slice ka' a.key.length ca, .int .i64 a.elem, .slice na a.name.length da, .slice ta a.text.length fa, .bool a.gone] #[.int .i64 b.kind, .int .i64 b.atN, .int .i64 b.atR, .int .i64 b.nodeN, .int .i64 b.nodeR, .int .i64 b.parN, .int .i64 b.parR, .slice kb' b.key.length cb, .int .i64 b.elem, .slice nb b.name.length db, .slice tb b.text.length fb, .bool b.gone] 28 28
  unfold opVal at HA HB ⊢
  go_enter Tryz.func90, Tryz.ntmps90
  go_wp2_with fail
  generalize ((w.alloc (.cells #[.int .i64 a.kind, .int .i64 a.atN, .int .i64 a.atR, .int .i64 a.nodeN, .int .i64 a.nodeR, .int .i64 a.parN, .int .i64 a.parR, .slice ka' a.key.length ca, .int .i64 a.elem, .slice na a.name.length da, .slice ta a.text.length fa, .bool a.gone] 28)).alloc (.cells #[.int .i64 b.kind, .int .i64 b.atN, .int .i64 b.atR, .int .i64 b.nodeN, .int .i64 b.nodeR, .int .i64 b.parN, .int .i64 b.parR, .slice kb' b.key.length cb, .int .i64 b.elem, .slice nb b.name.length db, .slice tb b.text.length fb, .bool b.gone] 28)) = wa at *
  refine (unhide HA _ hA0).mono ?_
  rintro e w1 ⟨pg, cg, rfl, og, hB⟩
  replace hA0 := bstep hA0 hB
  replace l1 := l1.all hB
  clear hB l0 HA
  obtain ⟨x0, x1, x2, x3, x4, x5, x6, x7, x8, x9, x10, x11⟩ := l1.twelve
  go_wp2_with fail
  clear x0 x1 x2 x3 x4 x5 x6 x7 x8 x9 x10 x11
  refine (unhide HB _ hA0).mono ?_
  rintro e w2 ⟨ph, ch, rfl, oh, hB⟩
  replace hA0 := bstep hA0 hB
  replace og := og.keep hB
  clear hB l1 HB
  rw [(unhide KA).2] at og ⊢
  rw [(unhide KB).2] at oh ⊢
  go_wp2_with fail
  refine (rowLessB_any w2 _ _ _ _ og.byt oh.byt).mono ?_
  rintro e w3 ⟨rfl, hB⟩
  replace hA0 := bstep hA0 hB
  go_wp2_with fail
  go_ret
  exact ⟨rfl, hA0⟩

set_option maxHeartbeats 40000000 in
theorem putInto_any (w : World) (v vo : Value) (l : List OpV) (o : OpV) (F : List Nat) (hF : OwOps w v l F) (hN : F.Nodup) (hc : opsB l = true) (ho : RdOp w vo o) (hb : opB o = true) (hs : szO o ≤ 2097152) (hls : ∀ x ∈ l, szO x ≤ 2097152) :
    Calls Tryz.prog 40 #[v, vo] w fun e w' => ∃ u, e = .returned (.tuple #[u, .bool (putOk l o)]) ∧ (putOk l o = false → u = v) ∧ ∃ F', OwOps w' u (putL l o) F' ∧ F'.Nodup ∧ (∀ q ∈ F', q ∈ F ∨ (w.heap.size ≤ q ∧ q < w'.heap.size)) ∧ Frm w w' (FB v) := by
  have HC := hide (fun (W : World) (hW : Below w.heap.size w W) => copyOp_any W vo o (ho.keep hW) (by omega))
  have HL := hide (fun (W : World) (hW : Below w.heap.size w W) (vx : Value) (x : OpV) (hx : RdOp W vx x) (kx : opB x = true) (sx : szO x ≤ 2097152) => opLess_any W vo vx o x (ho.keep hW) hx hb kx hs sx)
  have HLS := hide hls
  have hlt : ∀ q ∈ F, q < w.heap.size := hF.ltI
  have hl := opsB_len hc
  obtain ⟨k, n, t, rfl, hk, hn, ht⟩ := ho
  obtain ⟨ak, ck, rfl, _, _⟩ := hk.shape
  obtain ⟨an, cn, rfl, _, _⟩ := hn.shape
  obtain ⟨tt, ct, rfl, _, _⟩ := ht.shape
  obtain ⟨au, cu, rfl, _, _⟩ := Elems.shape hF.rd
  clear hk hn ht hs hls hb
  have hA0 := (Below.refl w.heap.size w).alloc (Nat.le_refl _) (.cells #[.int .i64 o.kind, .int .i64 o.atN, .int .i64 o.atR, .int .i64 o.nodeN, .int .i64 o.nodeR, .int .i64 o.parN, .int .i64 o.parR, .slice ak o.key.length ck, .int .i64 o.elem, .slice an o.name.length cn, .slice tt o.text.length ct, .bool o.gone] 28)
  have l0 := Loc.made w #[.int .i64 o.kind, .int .i64 o.atN, .int .i64 o.atR, .int .i64 o.nodeN, .int .i64 o.nodeR, .int .i64 o.parN, .int .i64 o.parR, .slice ak o.key.length ck, .int .i64 o.elem, .slice an o.name.length cn, .slice tt o.text.length ct, .bool o.gone] 28
  unfold opVal at HC HL
  refine calls_via ?_
  intro Q HQ
  have HQ2 := hide (fun u kk w9 (hkk : kk = putOk l o) (hno : kk = false → u = .slice au l.length cu) (z : ∃ F', OwOps w9 u (putL l o) F' ∧ F'.Nodup ∧ (∀ q ∈ F', q ∈ F ∨ (w.heap.size ≤ q ∧ q < w9.heap.size)) ∧ Frm w w9 (FB (.slice au l.length cu))) => unhide HQ (.returned (.tuple #[u, .bool kk])) w9 ⟨u, by rw [hkk], by rw [← hkk]; exact hno, z⟩)
  clear HQ
  unfold opVal
  go_enter Tryz.func40, Tryz.ntmps40
  go_wp2_with fail
  generalize (w.alloc (.cells #[.int .i64 o.kind, .int .i64 o.atN, .int .i64 o.atR, .int .i64 o.nodeN, .int .i64 o.nodeR, .int .i64 o.parN, .int .i64 o.parR, .slice ak o.key.length ck, .int .i64 o.elem, .slice an o.name.length cn, .slice tt o.text.length ct, .bool o.gone] 28)) = wa at *
  generalize hSS : w.heap.size = S at *
  have BS := hide (show ∀ (b c : World), Below S w b → Below b.heap.size b c → Below S w c from fun b c h k => h.trans (k.mono (by have := h.size; omega)))
  have hFa : OwOps wa (.slice au l.length cu) l F := OwOps.frm hF (Frm.ofBelow (by rw [hSS]; exact hA0) []) (fun _ _ => by simp)
  refine (search_any wa _ l o.atN o.atR hFa.rd hc).mono ?_
  rintro e w4 ⟨rfl, hB⟩
  have hB4 := unhide BS _ _ hA0 hB
  have l4 := l0.all hB
  have hF4 : OwOps w4 (.slice au l.length cu) l F := OwOps.frm hFa (Frm.ofBelow hB []) (fun _ _ => by simp)
  clear hA0 hB l0 hFa hF
  have hS4 : S ≤ w4.heap.size := Nat.le_of_lt l4.lt
  have F0 : ∀ W, Below S w W → Frm w W (FB (.slice au l.length cu)) := fun W h => Frm.ofBelow (by rw [hSS]; exact h) _
  cases hth : there l o.atN o.atR with
  | true =>
    have hpos := there_lt hth
    have hput : putL l o = if klB (opBytes o) (opBytes (l.getD (posO l o.atN o.atR) o)) then l.set (posO l o.atN o.atR) o else l := by unfold putL; rw [if_pos hth]
    have hok : putOk l o = true := by unfold putOk; rw [hth]; rfl
    generalize posO l o.atN o.atR = p at *
    obtain ⟨b, off, cap, eu, _, hbl, hel⟩ : ∃ b off cap, (Value.slice au l.length cu) = .slice (some ⟨b, off, none⟩) l.length cap ∧ l ≠ [] ∧ b < w4.heap.size ∧ ∀ i (hi : i < l.length), ∃ C : List Value, C.length = 12 ∧ (∀ j, j < 12 → w4.cell? ⟨b, off + i * 12 + j, none⟩ = C[j]?) ∧ RdOpC w4 C l[i] := by
      rcases hF4.rd.cases with ⟨e, _⟩ | h
      · subst e; simp at hpos
      · exact h
    have hoff : off = 0 := by
      obtain ⟨Cs, Fs, _, _, _, hrow, _⟩ := hF4
      rcases hrow.2 with ⟨e, _⟩ | ⟨g, cap', cur, e, _⟩
      · rw [eu] at e; cases e
      · rw [eu] at e; cases e; rfl
    subst hoff
    cases eu
    obtain ⟨b1, d1, b2, d2, b3, d3, e0, e1, e2, e3, e4, e5, e6, e7, e8, e9, e10, e11, hro⟩ := opc_at (w := w4) (W := w4) (Below.refl _ _) hbl (hel p hpos)
    have hx : l.getD p o = l[p] := by simp [List.getD_eq_getElem?_getD, hpos]
    rw [hx] at hput
    have hbx := opsB_each hc hpos
    have hsx := unhide HLS l[p] (List.getElem_mem hpos)
    simp only [Nat.zero_add] at e0 e1 e2 e3 e4 e5 e6 e7 e8 e9 e10 e11
    have HL5 := hide (fun (g : Gr w4) => unhide HL g.W (unhide BS _ _ hB4 g.h) _ l[p] (hro.keep g.h) hbx hsx)
    unfold opVal at HL5
    have hSl : S < w4.heap.size := l4.lt
    have hpl : (p : Int) < (l.length : Int) := by omega
    have hp0 : (0 : Int) ≤ (p : Int) := by omega
    clear hro hel HL
    obtain ⟨x0, x1, x2, x3, x4, x5, x6, x7, x8, x9, x10, x11⟩ := l4.twelve
    go_wp2_with fail
    replace x0 := Gr.cell hSl x0
    replace e0 := Gr.cell hbl e0
    replace x1 := Gr.cell hSl x1
    replace e1 := Gr.cell hbl e1
    replace x2 := Gr.cell hSl x2
    replace e2 := Gr.cell hbl e2
    replace x3 := Gr.cell hSl x3
    replace e3 := Gr.cell hbl e3
    replace x4 := Gr.cell hSl x4
    replace e4 := Gr.cell hbl e4
    replace x5 := Gr.cell hSl x5
    replace e5 := Gr.cell hbl e5
    replace x6 := Gr.cell hSl x6
    replace e6 := Gr.cell hbl e6
    replace x7 := Gr.cell hSl x7
    replace e7 := Gr.cell hbl e7
    replace x8 := Gr.cell hSl x8
    replace e8 := Gr.cell hbl e8
    replace x9 := Gr.cell hSl x9
    replace e9 := Gr.cell hbl e9
    replace x10 := Gr.cell hSl x10
    replace e10 := Gr.cell hbl e10
    replace x11 := Gr.cell hSl x11
    replace e11 := Gr.cell hbl e11
    have hne : Nonempty (Gr w4) := ⟨⟨w4, Below.refl _ _⟩⟩
    refine wp_region_gr (by kernel_rfl) (by kernel_rfl) ?_
    repeat (go_big_quiet_step ((rename_i g; exact calls_gr (unhide HL5 g))))
    refine wpQuiet_nil ?_
    rintro _ ⟨g, rfl⟩
    clear x0 x1 x2 x3 x4 x5 x6 x7 x8 x9 x10 x11
    obtain ⟨w6, hB⟩ := g
    dsimp only
    have hB6 := unhide BS _ _ hB4 hB
    have l6 := l4.all hB
    have hF6 : OwOps w6 (.slice (some ⟨b, 0, none⟩) l.length cu) l F := OwOps.frm hF4 (Frm.ofBelow hB []) (fun _ _ => by simp)
    clear hB4 hB l4 hF4 HL5 e0 e1 e2 e3 e4 e5 e6 e7 e8 e9 e10 e11
    cases hkl : klB (opBytes o) (opBytes l[p]) with
    | false =>
      rw [hkl] at hput
      have KK := hide (unhide HQ2 (.slice (some ⟨b, 0, none⟩) l.length cu) true w6 hok.symm (fun h => by cases h) ⟨F, by rw [hput]; exact hF6, hN, fun q hq => .inl hq, F0 _ hB6⟩)
      clear HQ2 hput
      go_wp2_with fail
      exact unhide KK
    | true =>
      rw [hkl, if_pos rfl] at hput
      obtain ⟨x0, x1, x2, x3, x4, x5, x6, x7, x8, x9, x10, x11⟩ := l6.twelve
      go_wp2_with fail
      clear x0 x1 x2 x3 x4 x5 x6 x7 x8 x9 x10 x11
      refine (unhide HC _ hB6).mono ?_
      rintro e w7 ⟨a1, c1, a2, c2, a3, c3, rfl, oc, hB⟩
      have hB7 := unhide BS _ _ hB6 hB
      have hF7 : OwOps w7 (.slice (some ⟨b, 0, none⟩) l.length cu) l F := OwOps.frm hF6 (Frm.ofBelow hB []) (fun _ _ => by simp)
      have hcr := oc.rng
      have hS6 : S ≤ w6.heap.size := Nat.le_of_lt l6.lt
      have hs67 := hB.size
      have hcF : ∀ q ∈ F, q ∉ FB (.slice a1 o.key.length c1) ++ FB (.slice a2 o.name.length c2) ++ FB (.slice a3 o.text.length c3) := fun q hq hq' => by have := hcr q hq'; have := hlt q hq; omega
      obtain ⟨F', hO, hN', hsub, hfs⟩ := OwOps.setAt hF7 hN p hpos (.int .i64 o.kind) (.int .i64 o.atN) (.int .i64 o.atR) (.int .i64 o.nodeN) (.int .i64 o.nodeR) (.int .i64 o.parN) (.int .i64 o.parR) (.slice a1 o.key.length c1) (.int .i64 o.elem) (.slice a2 o.name.length c2) (.slice a3 o.text.length c3) (.bool o.gone) o _ oc.cells oc.2.2.2 hcF
      obtain ⟨xs, hx⟩ : ∃ xs : List Value, w7.ownsRow 0 28 12 (.slice (some ⟨b, 0, none⟩) l.length cu) l.length xs := by
        obtain ⟨Cs, Fs, _, _, _, hrow, _⟩ := hF7
        exact ⟨_, hrow⟩
      have hxl := hx.1
      have hcell : ∀ j, j < 12 → ∃ y, w7.cell? ⟨b, p * 12 + j, none⟩ = some y := fun j hj => ⟨xs[p * 12 + j]'(by omega), by rw [hx.cellAt (p * 12 + j) (by omega), List.getElem?_eq_getElem (by omega)]⟩
      obtain ⟨y0, q0⟩ := hcell 0 (by omega)
      obtain ⟨y1, q1⟩ := hcell 1 (by omega)
      obtain ⟨y2, q2⟩ := hcell 2 (by omega)
      obtain ⟨y3, q3⟩ := hcell 3 (by omega)
      obtain ⟨y4, q4⟩ := hcell 4 (by omega)
      obtain ⟨y5, q5⟩ := hcell 5 (by omega)
      obtain ⟨y6, q6⟩ := hcell 6 (by omega)
      obtain ⟨y7, q7⟩ := hcell 7 (by omega)
      obtain ⟨y8, q8⟩ := hcell 8 (by omega)
      obtain ⟨y9, q9⟩ := hcell 9 (by omega)
      obtain ⟨y10, q10⟩ := hcell 10 (by omega)
      obtain ⟨y11, q11⟩ := hcell 11 (by omega)
      rw [Nat.add_zero] at q0
      have f0 := hx.frozenAt (p * 12)
      have f1 := hx.frozenAt (p * 12 + 1)
      have f2 := hx.frozenAt (p * 12 + 2)
      have f3 := hx.frozenAt (p * 12 + 3)
      have f4 := hx.frozenAt (p * 12 + 4)
      have f5 := hx.frozenAt (p * 12 + 5)
      have f6 := hx.frozenAt (p * 12 + 6)
      have f7 := hx.frozenAt (p * 12 + 7)
      have f8 := hx.frozenAt (p * 12 + 8)
      have f9 := hx.frozenAt (p * 12 + 9)
      have f10 := hx.frozenAt (p * 12 + 10)
      have f11 := hx.frozenAt (p * 12 + 11)
      have hf8 := (F0 _ hB7).trans (hfs.mono (S' := FB (.slice (some ⟨b, 0, none⟩) l.length cu)) (fun q hq => by simp at hq; simp [FB, Value.ownBlock, hq]))
      have KK := hide (unhide HQ2 (.slice (some ⟨b, 0, none⟩) l.length cu) true _ hok.symm (fun h => by cases h) ⟨F', by rw [hput]; exact hO, hN', fun q hq => by
        have s8 := hfs.size
        rcases hsub q hq with h | h
        · exact .inl h
        · have := hcr q h; exact .inr (by omega), hf8⟩)
      clear HQ2 hput hO hF6 hF7 hx hcell hfs hf8 hB7 hB6 oc HC F0
      go_wp2_with fail
      exact unhide KK
  | false =>
    have hput : putL l o = if 150 ≤ l.length then l else l.take (posO l o.atN o.atR) ++ [o] ++ l.drop (posO l o.atN o.atR) := by unfold putL; rw [hth]; rfl
    have hok : putOk l o = decide (l.length < 150) := by unfold putOk; rw [hth]; rfl
    have hple := posO_le l o.atN o.atR
    generalize posO l o.atN o.atR = p at *
    clear HL
    by_cases hfull : l.length = 150
    · rw [if_pos (by omega)] at hput
      have hok' : putOk l o = false := by rw [hok]; simp; omega
      have KK := hide (unhide HQ2 (.slice au l.length cu) false w4 hok'.symm (fun _ => rfl) ⟨F, by rw [hput]; exact hF4, hN, fun q hq => .inl hq, F0 _ hB4⟩)
      have hfi : (l.length : Int) = 150 := by omega
      rw [hfull] at KK
      clear HQ2 hput
      go_wp2_with fail
      exact unhide KK
    · rw [if_neg (by omega)] at hput
      have hok' : putOk l o = true := by rw [hok]; simp; omega
      have hfi : ¬ ((l.length : Int) = 150) := by omega
      obtain ⟨x0, x1, x2, x3, x4, x5, x6, x7, x8, x9, x10, x11⟩ := l4.twelve
      go_wp2_with fail
      clear x0 x1 x2 x3 x4 x5 x6 x7 x8 x9 x10 x11
      refine (unhide HC _ hB4).mono ?_
      rintro e w5 ⟨a1, c1, a2, c2, a3, c3, rfl, oc, hB⟩
      have hB5 := unhide BS _ _ hB4 hB
      have hF5 : OwOps w5 (.slice au l.length cu) l F := OwOps.frm hF4 (Frm.ofBelow hB []) (fun _ _ => by simp)
      have hcr := oc.rng
      have hcF : ∀ q ∈ F, q ∉ FB (.slice a1 o.key.length c1) ++ FB (.slice a2 o.name.length c2) ++ FB (.slice a3 o.text.length c3) := fun q hq hq' => by have := hcr q hq'; have := hlt q hq; omega
      have hsz5 := hB.size
      have hA6 := hB5.alloc (by omega) (.cells #[.int .i64 o.kind, .int .i64 o.atN, .int .i64 o.atR, .int .i64 o.nodeN, .int .i64 o.nodeR, .int .i64 o.parN, .int .i64 o.parR, .slice a1 o.key.length c1, .int .i64 o.elem, .slice a2 o.name.length c2, .slice a3 o.text.length c3, .bool o.gone] 28)
      have lv := Loc.made w5 #[.int .i64 o.kind, .int .i64 o.atN, .int .i64 o.atR, .int .i64 o.nodeN, .int .i64 o.nodeR, .int .i64 o.parN, .int .i64 o.parR, .slice a1 o.key.length c1, .int .i64 o.elem, .slice a2 o.name.length c2, .slice a3 o.text.length c3, .bool o.gone] 28
      have oc6 := oc.keep ((Below.refl w5.heap.size w5).alloc (Nat.le_refl _) (.cells #[.int .i64 o.kind, .int .i64 o.atN, .int .i64 o.atR, .int .i64 o.nodeN, .int .i64 o.nodeR, .int .i64 o.parN, .int .i64 o.parR, .slice a1 o.key.length c1, .int .i64 o.elem, .slice a2 o.name.length c2, .slice a3 o.text.length c3, .bool o.gone] 28))
      have hF6 : OwOps (w5.alloc (.cells #[.int .i64 o.kind, .int .i64 o.atN, .int .i64 o.atR, .int .i64 o.nodeN, .int .i64 o.nodeR, .int .i64 o.parN, .int .i64 o.parR, .slice a1 o.key.length c1, .int .i64 o.elem, .slice a2 o.name.length c2, .slice a3 o.text.length c3, .bool o.gone] 28)) (.slice au l.length cu) l F := OwOps.frm hF5 (Frm.ofBelow ((Below.refl w5.heap.size w5).alloc (Nat.le_refl _) _) []) (fun _ _ => by simp)
      have hvF : w5.heap.size ∉ F := fun hq => by have := hlt _ hq; omega
      clear hB4 hF4 hF5 oc HC
      go_wp2_with fail
      generalize (w5.alloc (.cells #[.int .i64 o.kind, .int .i64 o.atN, .int .i64 o.atR, .int .i64 o.nodeN, .int .i64 o.nodeR, .int .i64 o.parN, .int .i64 o.parR, .slice a1 o.key.length c1, .int .i64 o.elem, .slice a2 o.name.length c2, .slice a3 o.text.length c3, .bool o.gone] 28)) = w6 at *
      refine (insO_any w6 _ l F p w5.heap.size [.int .i64 o.kind, .int .i64 o.atN, .int .i64 o.atR, .int .i64 o.nodeN, .int .i64 o.nodeR, .int .i64 o.parN, .int .i64 o.parR, .slice a1 o.key.length c1, .int .i64 o.elem, .slice a2 o.name.length c2, .slice a3 o.text.length c3, .bool o.gone] o _ hF6 hN hple (by omega) lv oc6.cells oc6.2.2.2 hcF hvF).mono ?_
      rintro e w7 ⟨u, F', rfl, hO, hN', hsub, hf⟩
      have hf7 := (F0 _ hA6).trans hf
      have KK := hide (unhide HQ2 u true w7 hok'.symm (fun h => by cases h) ⟨F', by rw [hput, List.append_assoc]; exact hO, hN', fun q hq => by
        have s7 := hf.size
        have lvlt := lv.lt
        rcases hsub q hq with h | h | h
        · exact .inl h
        · have := hcr q h; exact .inr (by omega)
        · exact .inr (by omega), hf7⟩)
      clear HQ2 hput hO hF6 F0
      go_wp2_with fail
      exact unhide KK
end Go.Proofs.YtkmmhlimihkgfaaGreat

/- impl.OpsOk answers what the plain test of a row says. -/
namespace Go.Proofs.YtkmmhlimihkgfaaGreat
open Go.RowKit
set_option linter.unusedVariables false
set_option maxRecDepth 100000

set_option maxHeartbeats 6400000 in
theorem opsI_any (w : World) (v : Value) (l : List OpV) (h : RdOps w v l) :
    Calls Tryz.prog 39 #[v] w fun e w' => e = .returned (.bool (opsB l)) ∧ Below w.heap.size w w' := by
  have hm := h.1
  unfold maxLen at hm
  by_cases hlong : 150 < l.length
  · obtain ⟨a, cap, rfl, _, _⟩ := Elems.shape h
    have hd : (150 : Int) < (l.length : Int) := by omega
    rw [opsB_long hlong]
    go_enter Tryz.func39, Tryz.ntmps39
    go_wp2_with fail
    go_ret
    exact ⟨rfl, Below.refl _ _⟩
  have hd : ¬ (150 : Int) < (l.length : Int) := by omega
  obtain ⟨rfl, a, cap, rfl⟩ | ⟨b, off, cap, rfl, hnil, g4, g5⟩ := h.cases
  · go_enter Tryz.func39, Tryz.ntmps39
    go_wp2_with fail
    refine wp_loop_rounds 1 ?_
    rw [rounds_succ]
    go_wp2_with fail
    go_ret
    exact ⟨rfl, Below.refl _ _⟩
  have HG := hide (fun hh => opsB_good (l := l) (by omega) hh)
  have HN := hide (fun k hk hh => opsB_bad (l := l) (k := k) hk hh)
  generalize opsB l = res at *
  go_enter Tryz.func39, Tryz.ntmps39
  go_wp2_with fail
  go_loopw [3, 4, 10] (fun _ _ i wr => ∃ k : Nat, k ≤ l.length ∧ i = .int .i64 k ∧ (∀ j, j < k → okAt l j = true) ∧ Below w.heap.size w wr) (fun _ _ i _ => l.length - (intOf i).toNat)
  case atStart => exact ⟨0, Nat.zero_le _, rfl, fun j hj => by omega, Below.refl _ _⟩
  case round =>
    obtain ⟨k, hk, rfl, hok, hB⟩ := hrel
    by_cases hlt : k < l.length
    · have HX := hide (fun W u (hu : RdOp W u l[k]) => opI_any W u l[k] hu)
      have HL := hide (fun W n r n' r' => lessI_any W n r n' r')
      have H0 := hide (fun (h : opB l[k] = false) => okAt_no hlt h)
      have HZ := hide (fun (h : opB l[k] = true) (e : k = 0) => (show okAt l k = true by subst e; exact okAt_0 hlt h))
      have HS := hide (fun j (e : k = j + 1) (h : opB l[k] = true) => (show okAt l k = lessB (l[j]'(by omega)).atN (l[j]'(by omega)).atR l[k].atN l[k].atR by subst e; exact okAt_s hlt h))
      have HP := hide (fun j (e : k = j + 1) => opc_at hB g4 (g5 j (by omega)))
      have HJ := hide (fun j (hj : j < k + 1) (h : okAt l k = true) => (show okAt l j = true by rcases Nat.lt_succ_iff_lt_or_eq.1 hj with h1 | rfl; exact hok j h1; exact h))
      have HNK := hide (fun (h : okAt l k = false) => unhide HN k hlt h)
      obtain ⟨a1, c1, a2, c2, a3, c3, e0, e1, e2, e3, e4, e5, e6, e7, e8, e9, e10, e11, hr⟩ := opc_at hB g4 (g5 k hlt)
      have hlt' : (k : Int) < (l.length : Int) := by omega
      have hk0 : (0 : Int) ≤ (k : Int) := by omega
      have HR := hide hr
      unfold opVal at HR
      generalize hoo : l[k] = o at *
      generalize o.key.length = nK at *
      generalize o.name.length = nN at *
      generalize o.text.length = nT at *
      clear g5 hr hnil hoo HG HN hok
      generalize okAt l k = okk at *
      have lo := Loc.made wr #[.int .i64 o.kind, .int .i64 o.atN, .int .i64 o.atR, .int .i64 o.nodeN, .int .i64 o.nodeR, .int .i64 o.parN, .int .i64 o.parR, .slice a1 nK c1, .int .i64 o.elem, .slice a2 nN c2, .slice a3 nT c3, .bool o.gone] 28
      have hAb := (Below.refl wr.heap.size wr).alloc (Nat.le_refl _) (.cells #[.int .i64 o.kind, .int .i64 o.atN, .int .i64 o.atR, .int .i64 o.nodeN, .int .i64 o.nodeR, .int .i64 o.parN, .int .i64 o.parR, .slice a1 nK c1, .int .i64 o.elem, .slice a2 nN c2, .slice a3 nT c3, .bool o.gone] 28)
      have LL := hide (And.intro lo hAb)
      clear lo hAb
      go_wp2_with fail
      obtain ⟨lo, hAb⟩ := unhide LL
      clear LL
      have hB' := bstep hB hAb
      have HRb := hide ((unhide HR).keep hAb)
      have g4' : b < wr.heap.size := Nat.lt_of_lt_of_le g4 hB.size
      have hcb := fun a v (hb : a.block < wr.heap.size) (h : wr.cell? a = some v) => (hAb.cell hb).trans h
      have hzz := hAb.size
      have HCB := hide hcb
      clear hcb hAb HR
      generalize (wr.alloc (.cells #[.int .i64 o.kind, .int .i64 o.atN, .int .i64 o.atR, .int .i64 o.nodeN, .int .i64 o.nodeR, .int .i64 o.parN, .int .i64 o.parR, .slice a1 nK c1, .int .i64 o.elem, .slice a2 nN c2, .slice a3 nT c3, .bool o.gone] 28)) = wb at *
      have hSl : wr.heap.size < wb.heap.size := lo.lt
      generalize wr.heap.size = S at *
      have hNE : Nonempty (Gr wb) := ⟨⟨wb, Below.refl _ _⟩⟩
      obtain ⟨y0, y1, y2, y3, y4, y5, y6, y7, y8, y9, y10, y11⟩ := lo.twelve
      replace y0 := Gr.cell hSl y0
      replace y1 := Gr.cell hSl y1
      replace y2 := Gr.cell hSl y2
      replace y3 := Gr.cell hSl y3
      replace y4 := Gr.cell hSl y4
      replace y5 := Gr.cell hSl y5
      replace y6 := Gr.cell hSl y6
      replace y7 := Gr.cell hSl y7
      replace y8 := Gr.cell hSl y8
      replace y9 := Gr.cell hSl y9
      replace y10 := Gr.cell hSl y10
      replace y11 := Gr.cell hSl y11
      clear lo e0 e1 e2 e3 e4 e5 e6 e7 e8 e9 e10 e11
      by_cases hq : opB o = true
      · rw [hq] at HX
        rcases Nat.eq_zero_or_pos k with hz | hpos
        · have HY := hide (unhide HZ hq hz)
          have dz3 : ¬ 0 < k := by omega
          have dz4 : decide (0 < k) = false := by simp; omega
          clear H0 HZ HS HP hq HL hz
          refine wp_region_gr (by kernel_rfl) (by kernel_rfl) ?_
          repeat (go_big_quiet_step ((rename_i p; exact calls_gr (unhide HX _ _ ((unhide HRb).keep p.h)))))
          refine wpQuiet_nil ?_
          rintro _ ⟨p, rfl⟩
          have hB3 := bstep hB' p.h
          clear y0 y1 y2 y3 y4 y5 y6 y7 y8 y9 y10 y11 HRb
          go_wp2_with fail
          go_roundw
          case rel => exact ⟨k + 1, by omega, by go_num, fun j hj => unhide HJ j hj (unhide HY), hB3⟩
          case measure => simp [intOf]; omega
        · obtain ⟨j, ej⟩ : ∃ j, k = j + 1 := ⟨k - 1, by omega⟩
          have dz3 : 0 < k := hpos
          have dz4 : decide (0 < k) = true := by simp; omega
          have hj1 : (k : Int) - 1 = (j : Int) := by omega
          have hj0 : (0 : Int) ≤ (j : Int) := by omega
          have hjl : (j : Int) < (l.length : Int) := by omega
          obtain ⟨pn, pr, i1, i2, HE⟩ : ∃ pn pr, wb.cell? ⟨b, off + j * 12 + 1, none⟩ = some (.int .i64 pn) ∧ wb.cell? ⟨b, off + j * 12 + 2, none⟩ = some (.int .i64 pr) ∧ okk = lessB pn pr o.atN o.atR := by
            obtain ⟨_, _, _, _, _, _, _, i1, i2, _⟩ := unhide HP j ej
            exact ⟨_, _, unhide HCB _ _ g4' i1, unhide HCB _ _ g4' i2, unhide HS j ej hq⟩
          replace i1 := Gr.cell (Nat.lt_trans g4' hSl) i1
          replace i2 := Gr.cell (Nat.lt_trans g4' hSl) i2
          clear H0 HZ HS HP hq hpos
          have HLL := hide (fun W => unhide HL W pn pr o.atN o.atR)
          generalize lessB pn pr o.atN o.atR = lb at *
          subst HE
          clear HL ej
          refine wp_region_gr (by kernel_rfl) (by kernel_rfl) ?_
          repeat (go_big_quiet_step ((rename_i p; first | exact calls_gr (unhide HX _ _ ((unhide HRb).keep p.h)) | exact calls_gr (unhide HLL _))))
          refine wpQuiet_nil ?_
          rintro _ ⟨p, rfl⟩
          have hB3 := bstep hB' p.h
          clear y0 y1 y2 y3 y4 y5 y6 y7 y8 y9 y10 y11 HRb i1 i2
          cases okk with
          | true =>
            go_wp2_with fail
            go_roundw
            case rel => exact ⟨k + 1, by omega, by go_num, fun j hj => unhide HJ j hj rfl, hB3⟩
            case measure => simp [intOf]; omega
          | false =>
            have HF := hide (unhide HNK rfl)
            clear HNK
            go_wp2_with fail
            go_ret
            exact ⟨by rw [unhide HF]; rfl, hB3⟩
      · have hq' : opB o = false := by simpa using hq
        rw [hq'] at HX
        have HY := hide (unhide HNK (unhide H0 hq'))
        clear H0 HZ HS HP hq hq' HL HNK
        refine wp_region_gr (by kernel_rfl) (by kernel_rfl) ?_
        repeat (go_big_quiet_step ((rename_i p; exact calls_gr (unhide HX _ _ ((unhide HRb).keep p.h)))))
        refine wpQuiet_nil ?_
        rintro _ ⟨p, rfl⟩
        have hB3 := bstep hB' p.h
        clear y0 y1 y2 y3 y4 y5 y6 y7 y8 y9 y10 y11 HRb
        go_wp2_with fail
        go_ret
        exact ⟨by rw [unhide HY]; rfl, hB3⟩
    · have HY := hide (unhide HG (fun j hj => hok j (by omega)))
      clear g5
      go_wp2_with fail
      go_ret
      exact ⟨by rw [unhide HY]; rfl, hB⟩
end Go.Proofs.YtkmmhlimihkgfaaGreat

/- impl.Put. -/
namespace Go.Proofs.YtkmmhlimihkgfaaGreat
open Go.RowKit
set_option linter.unusedVariables false
set_option maxRecDepth 100000

set_option maxHeartbeats 40000000 in
theorem iput_any (w : World) (v vo : Value) (l : List OpV) (o : OpV) (h : RdOps w v l) (ho : RdOp w vo o) (hs : szO o ≤ 2097152) (hls : ∀ x ∈ l, szO x ≤ 2097152) :
    Calls Tryz.prog 9 #[v, vo] w fun e w' => ∃ u, e = .returned (.tuple #[u, .bool (putAns l o)]) ∧ ∃ F, OwOps w' u (putV l o) F ∧ F.Nodup ∧ Rng F w.heap.size w'.heap.size ∧ Below w.heap.size w w' := by
  have HO := hide (fun (W : World) (hW : Below w.heap.size w W) => opI_any W vo o (ho.keep hW))
  have HS := hide (fun (W : World) (hW : Below w.heap.size w W) => opsI_any W v l (h.keep hW))
  have HP := hide (fun (hl : l.length ≤ 150) (W : World) (hW : Below w.heap.size w W) => copyOps_any W v l (h.keep hW) (by omega) (fun x hx => by have := hls x hx; omega))
  have HN := hide (fun (hc : opsB l = true) (hb : opB o = true) (W : World) (hW : Below w.heap.size w W) u F (hF : OwOps W u l F) (hN : F.Nodup) => putInto_any W u vo l o F hF hN hc (ho.keep hW) hb hs hls)
  obtain ⟨k, n, t, rfl, hk, hn, ht⟩ := ho
  obtain ⟨ak, ck, rfl, _, _⟩ := hk.shape
  obtain ⟨an, cn, rfl, _, _⟩ := hn.shape
  obtain ⟨tt, ct, rfl, _, _⟩ := ht.shape
  obtain ⟨av, cv, rfl, _, _⟩ := Elems.shape h
  clear hk hn ht h hs hls
  have hA0 := (Below.refl w.heap.size w).alloc (Nat.le_refl _) (.cells #[.int .i64 o.kind, .int .i64 o.atN, .int .i64 o.atR, .int .i64 o.nodeN, .int .i64 o.nodeR, .int .i64 o.parN, .int .i64 o.parR, .slice ak o.key.length ck, .int .i64 o.elem, .slice an o.name.length cn, .slice tt o.text.length ct, .bool o.gone] 28)
  have l0 := Loc.made w #[.int .i64 o.kind, .int .i64 o.atN, .int .i64 o.atR, .int .i64 o.nodeN, .int .i64 o.nodeR, .int .i64 o.parN, .int .i64 o.parR, .slice ak o.key.length ck, .int .i64 o.elem, .slice an o.name.length cn, .slice tt o.text.length ct, .bool o.gone] 28
  unfold opVal at HO HN
  unfold putV putAns
  refine calls_via ?_
  intro Q HQ
  unfold opVal
  go_enter Tryz.func9, Tryz.ntmps9
  go_wp2_with fail
  generalize (w.alloc (.cells #[.int .i64 o.kind, .int .i64 o.atN, .int .i64 o.atR, .int .i64 o.nodeN, .int .i64 o.nodeR, .int .i64 o.parN, .int .i64 o.parR, .slice ak o.key.length ck, .int .i64 o.elem, .slice an o.name.length cn, .slice tt o.text.length ct, .bool o.gone] 28)) = wa at *
  refine (unhide HO _ hA0).mono ?_
  rintro e w1 ⟨rfl, hB⟩
  replace hA0 := bstep hA0 hB
  replace l0 := l0.all hB
  clear hB HO
  cases hb : opB o with
  | false =>
    rw [hb] at HQ
    rw [Bool.and_false] at HQ
    have KK := hide (unhide HQ (.returned (.tuple #[.slice none 0 0, .bool false])) w1 ⟨.slice none 0 0, rfl, [], owOps_none _, List.nodup_nil, Rng.nil _ _, hA0⟩)
    clear HQ
    go_wp2_with fail
    exact unhide KK
  | true =>
    go_wp2_with fail
    refine (unhide HS _ hA0).mono ?_
    rintro e w2 ⟨rfl, hB⟩
    replace hA0 := bstep hA0 hB
    replace l0 := l0.all hB
    clear hB HS
    cases hc : opsB l with
    | false =>
      rw [hb, hc] at HQ
      rw [Bool.false_and] at HQ
      have KK := hide (unhide HQ (.returned (.tuple #[.slice none 0 0, .bool false])) w2 ⟨.slice none 0 0, rfl, [], owOps_none _, List.nodup_nil, Rng.nil _ _, hA0⟩)
      clear HQ
      go_wp2_with fail
      exact unhide KK
    | true =>
      rw [hb, hc] at HQ
      have hl := opsB_len hc
      have HQ2 := hide (fun u kk w9 (hkk : kk = putOk l o) (z : ∃ F, OwOps w9 u (putL l o) F ∧ F.Nodup ∧ Rng F w.heap.size w9.heap.size ∧ Below w.heap.size w w9) => unhide HQ (.returned (.tuple #[u, .bool kk])) w9 ⟨u, by rw [hkk]; rfl, z⟩)
      replace HN := hide (unhide HN hc hb)
      clear HQ
      have HLO := hide l0
      have hlow := hA0.size
      obtain ⟨x0, x1, x2, x3, x4, x5, x6, x7, x8, x9, x10, x11⟩ := l0.twelve
      go_wp2_with fail
      go_region_with (first
        | (go_at_call 41; refine (unhide HP hl _ (hA0.drew)).mono ?_; clear HP; rintro e w3 ⟨u, rfl, F, hF, hN, hRng, hB⟩; have hK3 := bstep ((Below.refl w2.heap.size w2).drew) hB; obtain ⟨x0, x1, x2, x3, x4, x5, x6, x7, x8, x9, x10, x11⟩ := ((unhide HLO).all hK3).twelve; have hRng' := hRng.mono (lo' := w.heap.size) (by simpa using hlow) (Nat.le_refl _); obtain ⟨au, cu, rfl, _, _⟩ := Elems.shape hF.rd)
        | (go_at_call 40; refine (unhide HN _ (bstep hA0 hK3) _ F hF hN).mono ?_; clear HN; rintro e w4 ⟨u, rfl, _, F', hO, hN', hsub, hf⟩; obtain ⟨bu, du, rfl, _, _⟩ := Elems.shape hO.rd))
      all_goals
        have hA3 := bstep hA0 hK3
        have hFv : ∀ q ∈ FB (.slice au l.length cu), w.heap.size ≤ q := fun q hq => (hRng' q (by obtain ⟨Cs, Fs, _, _, _, _, rfl⟩ := hF; exact List.mem_append_left _ hq)).1
        have hs4 := hf.size
        have KK := hide (unhide HQ2 _ _ w4 rfl ⟨F', hO, hN', fun q hq => by
          rcases hsub q hq with h | h
          · have := hRng' q h; omega
          · have := hA3.size; omega, hA3.trans (hf.below hA3.size hFv)⟩)
        clear HQ2 hO hF hf x0 x1 x2 x3 x4 x5 x6 x7 x8 x9 x10 x11
        go_wp2_with fail
        first | exact unhide KK | (go_ret; exact unhide KK) | exact bodyPost_ret (v := .tuple #[.slice bu (putL l o).length du, .bool (putOk l o)]) (by simp [results, Tryz.results9, go_sem]) rfl (unhide KK)
end Go.Proofs.YtkmmhlimihkgfaaGreat

/- The law FnStamps, walked by its callees' contracts. -/
namespace Go.Proofs.YtkmmhlimihkgfaaGreat
open Go.RowKit
set_option linter.unusedVariables false
set_option maxRecDepth 100000

theorem one_ops {w : World} {g : Nat} {o : OpV} {k n t : Value} (hl : Loc w g #[.int .i64 o.kind, .int .i64 o.atN, .int .i64 o.atR, .int .i64 o.nodeN, .int .i64 o.nodeR, .int .i64 o.parN, .int .i64 o.parR, k, .int .i64 o.elem, n, t, .bool o.gone] 28) (hr : RdOp w (opVal o k n t) o) : RdOps w (.slice (some ⟨g, 0, none⟩) 1 1) [o] := by
  obtain ⟨k', n', t', e, h1, h2, h3⟩ := hr
  unfold opVal at e
  simp at e
  obtain ⟨rfl, rfl, rfl⟩ := e
  refine ⟨by simp [maxLen], .inr (.inr ⟨g, 0, 1, rfl, by simp, by simp [maxLen], by simp, hl.lt, fun i hi => ?_⟩)⟩
  have e : i = 0 := by simpa using hi
  subst e
  exact ⟨_, rfl, fun j hj => by rw [Nat.zero_mul, Nat.zero_add, hl.cell j]; simp, _, _, _, rfl, h1, h2, h3⟩
theorem SmO.sz {o : OpV} {n : Nat} (h : SmO o n) : szO o ≤ 13 + n + n := by
  unfold szO
  have := h.1
  have := h.2.1
  have := h.2.2
  omega

set_option maxHeartbeats 40000000 in
theorem law_stamps (w : World) (code : Value) (l : List Int) (h : Byt w code l) :
    Calls Tryz.prog 3 #[code] w fun e w' => e = .returned (.bool true) ∧ Below w.heap.size w w' := by
  have HD := hide (drawPut_any w code l h)
  have HAT := hide (fun W (hW : Below w.heap.size w W) => at_any W code l 2 (by omega) (h.keep hW))
  obtain ⟨a0, c0, rfl, _, _⟩ := h.shape
  clear h
  go_enter Tryz.func3, Tryz.ntmps3
  go_wp2_with fail
  refine (unhide HD).mono ?_
  rintro e w1 ⟨am, cm, m, o, k, n, t, rfl, hM, hO, hSm, hml, hSo, hB⟩
  have hO' := hO
  obtain ⟨k', n', t', e', hk, hn, ht⟩ := hO'
  unfold opVal at e'
  simp at e'
  obtain ⟨rfl, rfl, rfl⟩ := e'
  obtain ⟨ak, ck, rfl, _, _⟩ := hk.shape
  obtain ⟨an, cn, rfl, _, _⟩ := hn.shape
  obtain ⟨tt, ct, rfl, _, _⟩ := ht.shape
  clear hk hn ht HD
  have hX : ∀ {W : World}, Below w1.heap.size w1 W → Below w.heap.size w W := fun hW => bstep hB hW
  have hsm : ∀ x ∈ m, szO x ≤ 2097152 := fun x hx => by have := (hSm x hx).sz; omega
  have hso : szO o ≤ 2097152 := by have := hSo.sz; omega
  have HOPS := hide (fun W (hW : Below w1.heap.size w1 W) => opsS_any W _ m (hM.keep hW))
  have HOP := hide (fun W (hW : Below w1.heap.size w1 W) => opS_any W _ o (hO.keep hW))
  have HPUT := hide (fun W (hW : Below w1.heap.size w1 W) => iput_any W _ _ m o (hM.keep hW) (hO.keep hW) hso hsm)
  have HP2 := hide (fun W (hW : Below w1.heap.size w1 W) vx vy x y (hx : RdOps W vx [x]) (hy : RdOp W vy y) (sx : szO x ≤ 2097152) (sy : szO y ≤ 2097152) => iput_any W vx vy [x] y hx hy sy (fun z hz => by simp at hz; rw [hz]; exact sx))
  have HOR := hide (fun W (hW : Below w1.heap.size w1 W) => hO.keep hW)
  have HEL := hide (fun j (hj : j < m.length) => hM.elem rfl hj)
  unfold opVal at HOP HPUT HOR ⊢
  have hD : Below w1.heap.size w1 (w1.alloc (.cells #[.int .i64 o.kind, .int .i64 o.atN, .int .i64 o.atR, .int .i64 o.nodeN, .int .i64 o.nodeR, .int .i64 o.parN, .int .i64 o.parR, .slice ak o.key.length ck, .int .i64 o.elem, .slice an o.name.length cn, .slice tt o.text.length ct, .bool o.gone] 28)) := (Below.refl _ _).alloc (Nat.le_refl _) _
  have l2 := Loc.made w1 #[.int .i64 o.kind, .int .i64 o.atN, .int .i64 o.atR, .int .i64 o.nodeN, .int .i64 o.nodeR, .int .i64 o.parN, .int .i64 o.parR, .slice ak o.key.length ck, .int .i64 o.elem, .slice an o.name.length cn, .slice tt o.text.length ct, .bool o.gone] 28
  have LL := hide (And.intro hD l2)
  clear hD l2 hM hO hB
  go_upto_region 2 with fail
  obtain ⟨hD, l2⟩ := unhide LL
  clear LL
  generalize (w1.alloc (.cells #[.int .i64 o.kind, .int .i64 o.atN, .int .i64 o.atR, .int .i64 o.nodeN, .int .i64 o.nodeR, .int .i64 o.parN, .int .i64 o.parR, .slice ak o.key.length ck, .int .i64 o.elem, .slice an o.name.length cn, .slice tt o.text.length ct, .bool o.gone] 28)) = w2 at *
  have hSl := l2.lt
  go_wp2_with fail
  refine (unhide HOPS _ hD).mono ?_
  rintro e w3 ⟨rfl, hB⟩
  replace hD := bstep hD hB
  replace l2 := l2.all hB
  clear hB
  cases h1 : opsB m with
  | false =>
    have HPA := hide (show putAns m o = false by unfold putAns; rw [h1]; rfl)
    obtain ⟨x0, x1, x2, x3, x4, x5, x6, x7, x8, x9, x10, x11⟩ := l2.twelve
    go_wp2_with fail
    clear x0 x1 x2 x3 x4 x5 x6 x7 x8 x9 x10 x11
    refine (unhide HPUT _ hD).mono ?_
    rintro e w5 ⟨u, rfl, F, hF, _, _, hB⟩
    replace hD := bstep hD hB
    replace l2 := l2.all hB
    obtain ⟨pu, cu, rfl, _, _⟩ := Elems.shape hF.rd
    rw [unhide HPA]
    clear hB HPUT hF
    go_wp2_with fail
    refine (unhide HOPS _ hD).mono ?_
    rintro e w6 ⟨rfl, hB⟩
    replace hD := bstep hD hB
    replace l2 := l2.all hB
    clear hB
    rw [h1]
    go_wp2_with fail
    go_ret
    exact ⟨rfl, hX hD⟩
  | true =>
  obtain ⟨x0, x1, x2, x3, x4, x5, x6, x7, x8, x9, x10, x11⟩ := l2.twelve
  go_wp2_with fail
  clear x0 x1 x2 x3 x4 x5 x6 x7 x8 x9 x10 x11
  refine (unhide HOP _ hD).mono ?_
  rintro e w4 ⟨rfl, hB⟩
  replace hD := bstep hD hB
  replace l2 := l2.all hB
  clear hB
  cases h2 : opB o with
  | false =>
    have HPA := hide (show putAns m o = false by unfold putAns; rw [h1, h2]; rfl)
    obtain ⟨x0, x1, x2, x3, x4, x5, x6, x7, x8, x9, x10, x11⟩ := l2.twelve
    go_wp2_with fail
    clear x0 x1 x2 x3 x4 x5 x6 x7 x8 x9 x10 x11
    refine (unhide HPUT _ hD).mono ?_
    rintro e w5 ⟨u, rfl, F, hF, _, _, hB⟩
    replace hD := bstep hD hB
    replace l2 := l2.all hB
    obtain ⟨pu, cu, rfl, _, _⟩ := Elems.shape hF.rd
    rw [unhide HPA]
    clear hB HPUT hF
    go_wp2_with fail
    refine (unhide HOPS _ hD).mono ?_
    rintro e w6 ⟨rfl, hB⟩
    replace hD := bstep hD hB
    replace l2 := l2.all hB
    clear hB
    rw [h1]
    obtain ⟨x0, x1, x2, x3, x4, x5, x6, x7, x8, x9, x10, x11⟩ := l2.twelve
    go_wp2_with fail
    clear x0 x1 x2 x3 x4 x5 x6 x7 x8 x9 x10 x11
    refine (unhide HOP _ hD).mono ?_
    rintro e w7 ⟨rfl, hB⟩
    replace hD := bstep hD hB
    clear hB
    rw [h2]
    go_wp2_with fail
    go_ret
    exact ⟨rfl, hX hD⟩
  | true =>
  by_cases hz : m.length = 0
  case pos =>
    have hm : m = [] := List.eq_nil_of_length_eq_zero hz
    clear hz
    subst hm
    have HPA := hide (show putAns [] o = true by unfold putAns; rw [h1, h2]; rfl)
    rw [List.length_nil] at HPUT HOPS ⊢
    obtain ⟨x0, x1, x2, x3, x4, x5, x6, x7, x8, x9, x10, x11⟩ := l2.twelve
    go_wp2_with fail
    clear x0 x1 x2 x3 x4 x5 x6 x7 x8 x9 x10 x11
    refine (unhide HPUT _ hD).mono ?_
    rintro e w5 ⟨u, rfl, F, hF, _, _, hB⟩
    replace hD := bstep hD hB
    replace l2 := l2.all hB
    obtain ⟨pu, cu, rfl, _, _⟩ := Elems.shape hF.rd
    rw [unhide HPA]
    clear hB HPUT hF
    go_wp2_with fail
    refine (unhide HOPS _ hD).mono ?_
    rintro e w6 ⟨rfl, hB⟩
    replace hD := bstep hD hB
    replace l2 := l2.all hB
    clear hB
    rw [h1]
    obtain ⟨x0, x1, x2, x3, x4, x5, x6, x7, x8, x9, x10, x11⟩ := l2.twelve
    go_wp2_with fail
    clear x0 x1 x2 x3 x4 x5 x6 x7 x8 x9 x10 x11
    refine (unhide HOP _ hD).mono ?_
    rintro e w7 ⟨rfl, hB⟩
    replace hD := bstep hD hB
    clear hB
    rw [h2]
    go_wp2_with fail
    go_ret
    exact ⟨rfl, hX hD⟩
  have hz' : ((m.length : Int) == 0) = false := by simpa using hz
  have hzi : ¬ (m.length : Int) = 0 := by omega
  go_wp2_with fail
  refine (unhide HAT _ (hX hD)).mono ?_
  rintro e w5 ⟨x, hx0, hx1, rfl, rfl⟩
  obtain ⟨x, rfl⟩ := Int.eq_ofNat_of_zero_le hx0
  have hmod : x % m.length < m.length := Nat.mod_lt _ (by omega)
  have hmi : ((x % m.length : Nat) : Int) < (m.length : Int) := by omega
  have hb0 := opsB_each h1 hmod
  have hs0 := hSm _ (List.getElem_mem hmod)
  obtain ⟨b, off, rfl, hbl, C, hCl, hcc, hRC⟩ := unhide HEL _ hmod
  obtain ⟨p, hp⟩ : ∃ p, p = m[x % m.length] := ⟨_, rfl⟩
  rw [← hp] at hb0 hs0 hRC
  clear hp HAT
  obtain ⟨k', n', t', rfl, r1, r2, r3⟩ := hRC
  obtain ⟨a1, c1, rfl, _, _⟩ := r1.shape
  obtain ⟨a2, c2, rfl, _, _⟩ := r2.shape
  obtain ⟨a3, c3, rfl, _, _⟩ := r3.shape
  have hq := opB_at hb0 h2
  have y0 := (hD.cell (p := ⟨b, off + x % m.length * 12 + 0, none⟩) hbl).trans (hcc 0 (by omega))
  have y1 := (hD.cell (p := ⟨b, off + x % m.length * 12 + 1, none⟩) hbl).trans (hcc 1 (by omega))
  have y2 := (hD.cell (p := ⟨b, off + x % m.length * 12 + 2, none⟩) hbl).trans (hcc 2 (by omega))
  have y3 := (hD.cell (p := ⟨b, off + x % m.length * 12 + 3, none⟩) hbl).trans (hcc 3 (by omega))
  have y4 := (hD.cell (p := ⟨b, off + x % m.length * 12 + 4, none⟩) hbl).trans (hcc 4 (by omega))
  have y5 := (hD.cell (p := ⟨b, off + x % m.length * 12 + 5, none⟩) hbl).trans (hcc 5 (by omega))
  have y6 := (hD.cell (p := ⟨b, off + x % m.length * 12 + 6, none⟩) hbl).trans (hcc 6 (by omega))
  have y7 := (hD.cell (p := ⟨b, off + x % m.length * 12 + 7, none⟩) hbl).trans (hcc 7 (by omega))
  have y8 := (hD.cell (p := ⟨b, off + x % m.length * 12 + 8, none⟩) hbl).trans (hcc 8 (by omega))
  have y9 := (hD.cell (p := ⟨b, off + x % m.length * 12 + 9, none⟩) hbl).trans (hcc 9 (by omega))
  have y10 := (hD.cell (p := ⟨b, off + x % m.length * 12 + 10, none⟩) hbl).trans (hcc 10 (by omega))
  have y11 := (hD.cell (p := ⟨b, off + x % m.length * 12 + 11, none⟩) hbl).trans (hcc 11 (by omega))
  simp at y0 y1 y2 y3 y4 y5 y6 y7 y8 y9 y10 y11
  have hB6 : Below w5.heap.size w5 (w5.alloc (.cells #[.int .i64 p.kind, .int .i64 p.atN, .int .i64 p.atR, .int .i64 p.nodeN, .int .i64 p.nodeR, .int .i64 p.parN, .int .i64 p.parR, .slice a1 p.key.length c1, .int .i64 p.elem, .slice a2 p.name.length c2, .slice a3 p.text.length c3, .bool p.gone] 28)) := (Below.refl _ _).alloc (Nat.le_refl _) _
  have l6 := Loc.made w5 #[.int .i64 p.kind, .int .i64 p.atN, .int .i64 p.atR, .int .i64 p.nodeN, .int .i64 p.nodeR, .int .i64 p.parN, .int .i64 p.parR, .slice a1 p.key.length c1, .int .i64 p.elem, .slice a2 p.name.length c2, .slice a3 p.text.length c3, .bool p.gone] 28
  have LL := hide (And.intro (bstep hD hB6) (And.intro (l2.all hB6) l6))
  have hne : w1.heap.size < w5.heap.size := l2.lt
  clear hD l2 l6 hB6 hcc
  go_upto_region 6 with fail
  obtain ⟨hD, l2, l6⟩ := unhide LL
  clear LL y0 y1 y2 y3 y4 y5 y6 y7 y8 y9 y10 y11
  generalize (w5.alloc (.cells #[.int .i64 p.kind, .int .i64 p.atN, .int .i64 p.atR, .int .i64 p.nodeN, .int .i64 p.nodeR, .int .i64 p.parN, .int .i64 p.parR, .slice a1 p.key.length c1, .int .i64 p.elem, .slice a2 p.name.length c2, .slice a3 p.text.length c3, .bool p.gone] 28)) = w6 at *
  generalize hS6 : w5.heap.size = S6 at *
  obtain ⟨x0, x1, x2, x3, x4, x5, x6, x7, x8, x9, x10, x11⟩ := l2.twelve
  obtain ⟨y0, y1, y2, y3, y4, y5, y6, y7, y8, y9, y10, y11⟩ := l6.twelve
  have g1 := l6.frozen 1
  have g2 := l6.frozen 2
  have hfr : Frm w6 ((w6.setCell ⟨S6, 1, none⟩ (.int .i64 o.atN)).setCell ⟨S6, 2, none⟩ (.int .i64 o.atR)) [S6] := (set_frm _ _ _ _).trans (set_frm _ _ _ _)
  have l6' : Loc ((w6.setCell ⟨S6, 1, none⟩ (.int .i64 o.atN)).setCell ⟨S6, 2, none⟩ (.int .i64 o.atR)) S6 #[.int .i64 p.kind, .int .i64 o.atN, .int .i64 o.atR, .int .i64 p.nodeN, .int .i64 p.nodeR, .int .i64 p.parN, .int .i64 p.parR, .slice a1 p.key.length c1, .int .i64 p.elem, .slice a2 p.name.length c2, .slice a3 p.text.length c3, .bool p.gone] 28 := (l6.set 1 (.int .i64 o.atN)).set 2 (.int .i64 o.atR)
  have l2' := l2.frm hfr (by simp; omega)
  have hD' : Below w1.heap.size w1 ((w6.setCell ⟨S6, 1, none⟩ (.int .i64 o.atN)).setCell ⟨S6, 2, none⟩ (.int .i64 o.atR)) := hD.trans (hfr.below hD.size (fun q hq => by simp at hq; omega))
  have hRq : RdOp ((w6.setCell ⟨S6, 1, none⟩ (.int .i64 o.atN)).setCell ⟨S6, 2, none⟩ (.int .i64 o.atR)) (.agg #[.int .i64 p.kind, .int .i64 o.atN, .int .i64 o.atR, .int .i64 p.nodeN, .int .i64 p.nodeR, .int .i64 p.parN, .int .i64 p.parR, .slice a1 p.key.length c1, .int .i64 p.elem, .slice a2 p.name.length c2, .slice a3 p.text.length c3, .bool p.gone]) { p with atN := o.atN, atR := o.atR } := ⟨_, _, _, rfl, r1.keep hD', r2.keep hD', r3.keep hD'⟩
  have LL := hide (And.intro hD' (And.intro l2' (And.intro l6' hRq)))
  clear hD l2 l6 hfr l6' l2' hD' hRq r1 r2 r3
  go_upto_region 7 with fail
  obtain ⟨hD, l2, l6, hRq⟩ := unhide LL
  clear LL x0 x1 x2 x3 x4 x5 x6 x7 x8 x9 x10 x11 y0 y1 y2 y3 y4 y5 y6 y7 y8 y9 y10 y11 g1 g2
  generalize ((w6.setCell ⟨S6, 1, none⟩ (.int .i64 o.atN)).setCell ⟨S6, 2, none⟩ (.int .i64 o.atR)) = w6 at *
  -- the two puts
  have hB7 : Below w6.heap.size w6 (w6.alloc (.cells #[.int .i64 o.kind, .int .i64 o.atN, .int .i64 o.atR, .int .i64 o.nodeN, .int .i64 o.nodeR, .int .i64 o.parN, .int .i64 o.parR, .slice ak o.key.length ck, .int .i64 o.elem, .slice an o.name.length cn, .slice tt o.text.length ct, .bool o.gone] 28)) := (Below.refl _ _).alloc (Nat.le_refl _) _
  have l7 := Loc.made w6 #[.int .i64 o.kind, .int .i64 o.atN, .int .i64 o.atR, .int .i64 o.nodeN, .int .i64 o.nodeR, .int .i64 o.parN, .int .i64 o.parR, .slice ak o.key.length ck, .int .i64 o.elem, .slice an o.name.length cn, .slice tt o.text.length ct, .bool o.gone] 28
  have hD7 := bstep hD hB7
  obtain ⟨hA1, hA2⟩ := putV_one h2 hq rfl rfl
  obtain ⟨hA3, hA4⟩ := putV_one hq h2 rfl rfl
  have hst := stay_same h2 hq rfl rfl
  have hzo : szO { p with atN := o.atN, atR := o.atR } ≤ 2097152 := by have e : szO { p with atN := o.atN, atR := o.atR } = szO p := rfl; rw [e]; have := hs0.sz; omega
  have HA := hide (unhide HP2 _ hD7 _ _ o { p with atN := o.atN, atR := o.atR } (one_ops l7 (unhide HOR _ hD7)) (hRq.keep hB7) hso hzo)
  rw [hA1, hA2] at HA
  obtain ⟨x0, x1, x2, x3, x4, x5, x6, x7, x8, x9, x10, x11⟩ := l2.twelve
  obtain ⟨y0, y1, y2, y3, y4, y5, y6, y7, y8, y9, y10, y11⟩ := l6.twelve
  obtain ⟨v0, v1, v2, v3, v4, v5, v6, v7, v8, v9, v10, v11⟩ := (l6.all hB7).twelve
  have LL := hide (And.intro hD7 (And.intro (l2.all hB7) (And.intro (l6.all hB7) (hRq.keep hB7))))
  clear hB7 l7 hD7 hD l2 l6 hRq
  go_wp2_with fail
  refine (unhide HA).mono ?_
  rintro e w8 ⟨u, rfl, F8, hF8, _, _, hB⟩
  obtain ⟨hD, l2, l6, hRq⟩ := unhide LL
  clear LL x0 x1 x2 x3 x4 x5 x6 x7 x8 x9 x10 x11 y0 y1 y2 y3 y4 y5 y6 y7 y8 y9 y10 y11 v0 v1 v2 v3 v4 v5 v6 v7 v8 v9 v10 v11 HA
  replace hD := bstep hD hB
  replace l2 := l2.all hB
  replace l6 := l6.all hB
  replace hRq := hRq.keep hB
  have hR8 := hF8.rd
  obtain ⟨u8, c8, rfl, _, _⟩ := Elems.shape hR8
  clear hB hF8
  have hB9 : Below w8.heap.size w8 (w8.alloc (.cells #[.int .i64 p.kind, .int .i64 o.atN, .int .i64 o.atR, .int .i64 p.nodeN, .int .i64 p.nodeR, .int .i64 p.parN, .int .i64 p.parR, .slice a1 p.key.length c1, .int .i64 p.elem, .slice a2 p.name.length c2, .slice a3 p.text.length c3, .bool p.gone] 28)) := (Below.refl _ _).alloc (Nat.le_refl _) _
  have l9 := Loc.made w8 #[.int .i64 p.kind, .int .i64 o.atN, .int .i64 o.atR, .int .i64 p.nodeN, .int .i64 p.nodeR, .int .i64 p.parN, .int .i64 p.parR, .slice a1 p.key.length c1, .int .i64 p.elem, .slice a2 p.name.length c2, .slice a3 p.text.length c3, .bool p.gone] 28
  have hD9 := bstep hD hB9
  have HA := hide (unhide HP2 _ hD9 _ _ { p with atN := o.atN, atR := o.atR } o (one_ops (o := { p with atN := o.atN, atR := o.atR }) l9 (hRq.keep hB9)) (unhide HOR _ hD9) hzo hso)
  rw [hA3, hA4] at HA
  obtain ⟨x0, x1, x2, x3, x4, x5, x6, x7, x8, x9, x10, x11⟩ := l2.twelve
  obtain ⟨y0, y1, y2, y3, y4, y5, y6, y7, y8, y9, y10, y11⟩ := l6.twelve
  obtain ⟨v0, v1, v2, v3, v4, v5, v6, v7, v8, v9, v10, v11⟩ := (l2.all hB9).twelve
  have LL := hide (And.intro hD9 (hR8.keep hB9))
  clear hB9 l9 hD9 hD l2 l6 hRq hR8
  go_wp2_with fail
  refine (unhide HA).mono ?_
  rintro e w10 ⟨u, rfl, F10, hF10, _, _, hB⟩
  obtain ⟨hD, hR8⟩ := unhide LL
  clear LL x0 x1 x2 x3 x4 x5 x6 x7 x8 x9 x10 x11 y0 y1 y2 y3 y4 y5 y6 y7 y8 y9 y10 y11 v0 v1 v2 v3 v4 v5 v6 v7 v8 v9 v10 v11 HA
  replace hD := bstep hD hB
  replace hR8 := hR8.keep hB
  have hR10 := hF10.rd
  obtain ⟨u10, c10, rfl, _, _⟩ := Elems.shape hR10
  have HS := hide (sameOps_true w10 _ _ _ _ hR8 hR10 rfl (by simp) (fun z hz => by
    simp at hz; rw [hz]; exact stay_small (n := 2097152) (by have := hSo.1; omega) (by show p.key.length ≤ _; have := hs0.1; omega)) (fun z hz => by
    simp at hz; rw [hz]; exact stay_small (n := 2097152) (by show p.key.length ≤ _; have := hs0.1; omega) (by have := hSo.1; omega)) (fun i hi hi' => by
    have e : i = 0 := by simpa using hi
    subst e
    exact hst))
  clear hB hF10 hst hA1 hA2 hA3 hA4
  generalize stay o { p with atN := o.atN, atR := o.atR } = s1 at *
  generalize stay { p with atN := o.atN, atR := o.atR } o = s2 at *
  go_wp2_with fail
  refine (unhide HS).mono ?_
  rintro e w11 ⟨rfl, hB⟩
  replace hD := bstep hD hB
  go_wp2_with fail
  go_ret
  exact ⟨rfl, hX hD⟩
end Go.Proofs.YtkmmhlimihkgfaaGreat

/- An argument of a law that can be read as data is a row of numbers, a stamp, an operation: what the data's readings open to. No condition. -/
namespace Go.Proofs.YtkmmhlimihkgfaaGreat
open Go.RowKit Go.ChangeShapes
set_option linter.unusedVariables false
set_option maxRecDepth 100000

variable {H : Type} {enc : TypeId × Value → H} {W : World} {held : Bool}

theorem open_bytesO {fuel : Nat} {cs : List Value} {x : DataW H × List MemPlace} (h : DataW.trod enc Tryz.prog W 0 (fun _ => true) held fuel 22 cs = some x) :
    ∃ v l, cs = [v] ∧ Byt W v l := by
  rcases open_ints Tryz.underlying22 Tryz.underlying5 (by kernel_rfl) h with ⟨hcs, _⟩ | ⟨a, len, cap, zs, hcs, _, hl, hm, hz, _, hcell, hwz⟩
  · exact ⟨_, _, hcs, byt_of_row (zs := []) (.inl ⟨rfl, rfl, rfl, rfl⟩)⟩
  · exact ⟨_, _, hcs, byt_of_row (.inr ⟨_, rfl, hl, hm, by simpa using hz, hcell, hwz⟩)⟩
theorem open_intsO {fuel : Nat} {cs : List Value} {x : DataW H × List MemPlace} (h : DataW.trod enc Tryz.prog W 0 (fun _ => true) held fuel 26 cs = some x) :
    ∃ v l, cs = [v] ∧ Ints W v l := by
  rcases open_ints Tryz.underlying26 Tryz.underlying3 (by kernel_rfl) h with ⟨hcs, _⟩ | ⟨a, len, cap, zs, hcs, _, hl, hm, hz, _, hcell, hwz⟩
  · exact ⟨_, _, hcs, ints_of_row (zs := []) (.inl ⟨rfl, rfl, rfl, rfl⟩)⟩
  · exact ⟨_, _, hcs, ints_of_row (.inr ⟨_, rfl, hl, hm, by simpa using hz, hcell, hwz⟩)⟩

theorem some_atO {α : Type} {l : List α} {n i : Nat} (h : l.length = n) (hi : i < n) : ∃ y, l[i]? = some y := ⟨l[i]'(by omega), List.getElem?_eq_getElem (by omega)⟩

/-- An argument that is a row of bytes. -/
theorem arg_bytesO {r : Reach} {base : Nat} {v : Value} {d : DataW H} {p : List MemPlace} (hv : Value.okWide Tryz.prog W r base 22 v) (h : DataW.Trod enc Tryz.prog W 0 (fun _ => true) held 22 v d p) : ∃ l, Byt W v l := by
  obtain ⟨a, len, cap, rfl⟩ := WideShapes.okWide_slice Tryz.underlying22 hv
  obtain ⟨fuel, hf⟩ := h
  obtain ⟨u, l, hu, hb⟩ := open_bytesO hf
  simp [Value.cells] at hu
  subst hu
  exact ⟨l, hb⟩
/-- An argument that is a row of numbers. -/
theorem arg_ints {r : Reach} {base : Nat} {v : Value} {d : DataW H} {p : List MemPlace} (hv : Value.okWide Tryz.prog W r base 26 v) (h : DataW.Trod enc Tryz.prog W 0 (fun _ => true) held 26 v d p) : ∃ l, Ints W v l := by
  obtain ⟨a, len, cap, rfl⟩ := WideShapes.okWide_slice Tryz.underlying26 hv
  obtain ⟨fuel, hf⟩ := h
  obtain ⟨u, l, hu, hb⟩ := open_intsO hf
  simp [Value.cells] at hu
  subst hu
  exact ⟨l, hb⟩

theorem open_id {fuel : Nat} {cs : List Value} {x : DataW H × List MemPlace} (h : DataW.trod enc Tryz.prog W 0 (fun _ => true) held fuel 39 cs = some x) : ∃ n r : Int, cs = [.int .i64 n, .int .i64 r] := by
  obtain ⟨xs, n, _, _, hlen, hxs, hf⟩ := DataW.trod_struct Tryz.underlying39 h
  have hlen2 : cs.length = 2 := hlen.trans (by kernel_rfl)
  match cs, hlen2 with
  | [c0, c1], _ =>
    obtain ⟨y0, e0⟩ := some_atO (i := 0) hxs (by simp)
    obtain ⟨y1, e1⟩ := some_atO (i := 1) hxs (by simp)
    have h0 : DataW.trod enc Tryz.prog W 0 (fun _ => true) held n 3 (([c0, c1].drop 0).take (Tryz.prog.cellsOf 3)) = some y0 := (hf 0 _ rfl).trans e0
    have h1 : DataW.trod enc Tryz.prog W 0 (fun _ => true) held n 3 (([c0, c1].drop 1).take (Tryz.prog.cellsOf 3)) = some y1 := (hf 1 _ rfl).trans e1
    have k1 : Tryz.prog.cellsOf 3 = 1 := by kernel_rfl
    simp only [k1, List.drop, List.take] at h0 h1
    obtain ⟨z0, g0, _, _⟩ := DataW.trod_int Tryz.underlying3 h0
    obtain ⟨z1, g1, _, _⟩ := DataW.trod_int Tryz.underlying3 h1
    simp at g0 g1
    subst g0; subst g1
    exact ⟨z0, z1, rfl⟩
/-- An argument that is a stamp. -/
theorem arg_id {r : Reach} {base : Nat} {v : Value} {x : DataW H} {p : List MemPlace} (hv : Value.okWide Tryz.prog W r base 39 v) (h : DataW.Trod enc Tryz.prog W 0 (fun _ => true) held 39 v x p) :
    ∃ n m : Int, v = .agg #[.int .i64 n, .int .i64 m] := by
  obtain ⟨cs, rfl, hsz⟩ := WideShapes.okWide_struct Tryz.underlying39 hv
  obtain ⟨fuel, hf⟩ := h
  obtain ⟨n, m, e⟩ := open_id hf
  refine ⟨n, m, ?_⟩
  obtain ⟨l⟩ := cs
  have e' : l = [.int .i64 n, .int .i64 m] := e
  rw [e']
end Go.Proofs.YtkmmhlimihkgfaaGreat
