/- Own texts joined: RopS. -/
import Derived.Test.YtcabolcfoijglaaJa
import Derived.Test.YtcabolcfoijglaaJb
import Derived.Test.YtcabolcfoijglaaJc
import Derived.Test.YtcabolcfoijglaaJd
import Derived.Test.YtcabolcfoijglaaJe
import Derived.Deep.CutBlock

/- spec.OpRead. -/
namespace Go.Proofs.Ytcabolcfoijglaa
open Go.RowKit
set_option linter.unusedVariables false
set_option maxRecDepth 100000

theorem calls_via {P : Program} {f : FuncId} {args : Array Value} {w : World} {R : Ending → World → Prop} (h : ∀ Q : Ending → World → Prop, Hid (∀ e w', R e w' → Q e w') → Calls P f args w Q) : Calls P f args w R := h R (hide fun _ _ h => h)
def ansOk (q : OpV × Int) (l : List Int) : Bool := q.2 == (l.length : Int) && (opB q.1 && (opBytes q.1 == l))
def ansV (q : OpV × Int) (l : List Int) : OpV := if ansOk q l then q.1 else zeroV
theorem ansOk_p {o : OpV} {p : Int} {l : List Int} (h : ¬ p = (l.length : Int)) : ansOk (o, p) l = false := by
  unfold ansOk
  simp [h]
theorem ansOk_b {o : OpV} {p : Int} {l : List Int} (h : opB o = false) : ansOk (o, p) l = false := by
  unfold ansOk
  simp [h]
theorem ansOk_n {o : OpV} {p : Int} {l : List Int} (h : ¬ opBytes o = l) : ansOk (o, p) l = false := by
  unfold ansOk
  simp [h]
theorem ansOk_y {o : OpV} {l : List Int} (h : opB o = true) (hb : opBytes o = l) : ansOk (o, (l.length : Int)) l = true := by
  unfold ansOk
  simp [h, hb]
theorem ros_no {w w' : World} {q : OpV × Int} {l : List Int} (h : ansOk q l = false) (hB : Below w.heap.size w w') :
    ∃ k n t, Ending.returned (.tuple #[.agg #[.int .i64 0, .int .i64 0, .int .i64 0, .int .i64 0, .int .i64 0, .int .i64 0, .int .i64 0, .slice none 0 0, .int .i64 0, .slice none 0 0, .slice none 0 0, .bool false], .bool false]) = .returned (.tuple #[opVal (ansV q l) k n t, .bool (ansOk q l)]) ∧ OwOp w' w.heap.size (ansV q l) k n t ∧ Below w.heap.size w w' := by
  unfold ansV
  rw [h, if_neg (by decide)]
  exact ⟨.slice none 0 0, .slice none 0 0, .slice none 0 0, rfl, ⟨ownz_nil _ _, own_nilB _ _, own_nilB _ _, List.nodup_nil⟩, hB⟩
theorem ros_yes {w w' : World} {q : OpV × Int} {l : List Int} {k n t : Value} (h : ansOk q l = true) (ho : OwOp w' w.heap.size q.1 k n t) (hB : Below w.heap.size w w') :
    ∃ k' n' t', Ending.returned (.tuple #[opVal q.1 k n t, .bool true]) = .returned (.tuple #[opVal (ansV q l) k' n' t', .bool (ansOk q l)]) ∧ OwOp w' w.heap.size (ansV q l) k' n' t' ∧ Below w.heap.size w w' := by
  unfold ansV
  rw [h, if_pos rfl]
  exact ⟨k, n, t, rfl, ho, hB⟩
/-- What stands behind the switch: the operation read, in its box S, the reader at g, the result's box. -/
def RosAt (w wx : World) (g S : Nat) (code : Value) (l : List Int) (Z : OpV × Int) : Prop := ∃ (o : OpV) (p : Int) (k n t : Value), Z = (o, p) ∧ o.key.length ≤ 13 ∧ Rd 72 w wx g code l p ∧ Loc wx S #[.int .i64 o.kind, .int .i64 o.atN, .int .i64 o.atR, .int .i64 o.nodeN, .int .i64 o.nodeR, .int .i64 o.parN, .int .i64 o.parR, k, .int .i64 o.elem, n, t, .bool o.gone] 27 ∧ Loc wx w.heap.size #[.int .i64 0, .int .i64 0, .int .i64 0, .int .i64 0, .int .i64 0, .int .i64 0, .int .i64 0, .slice none 0 0, .int .i64 0, .slice none 0 0, .slice none 0 0, .bool false] 27 ∧ OwOp wx (w.heap.size + 1) o k n t

set_option maxHeartbeats 12800000 in
theorem readS_any (w : World) (code : Value) (l : List Int) (hb : Byt w code l) :
    Calls Try.prog 14 #[code] w fun e w' => ∃ k n t, e = .returned (.tuple #[opVal (ansV (opRd rdKeyS l) l) k n t, .bool (ansOk (opRd rdKeyS l) l)]) ∧ OwOp w' w.heap.size (ansV (opRd rdKeyS l) l) k n t ∧ Below w.heap.size w w' := by
  have HCB := hide (fun (W : World) (hW : Below w.heap.size w W) => conv_any W code l (hb.keep hW))
  have HOK := hide hb.1
  have lr := Loc.made w #[.int .i64 0, .int .i64 0, .int .i64 0, .int .i64 0, .int .i64 0, .int .i64 0, .int .i64 0, .slice none 0 0, .int .i64 0, .slice none 0 0, .slice none 0 0, .bool false] 27
  have hA := (Below.refl w.heap.size w).alloc (Nat.le_refl _) (.cells #[.int .i64 0, .int .i64 0, .int .i64 0, .int .i64 0, .int .i64 0, .int .i64 0, .int .i64 0, .slice none 0 0, .int .i64 0, .slice none 0 0, .slice none 0 0, .bool false] 27)
  have hsz : (w.alloc (.cells #[.int .i64 0, .int .i64 0, .int .i64 0, .int .i64 0, .int .i64 0, .int .i64 0, .int .i64 0, .slice none 0 0, .int .i64 0, .slice none 0 0, .slice none 0 0, .bool false] 27)).heap.size = w.heap.size + 1 := by simp
  have hbx := Loc.made (w.alloc (.cells #[.int .i64 0, .int .i64 0, .int .i64 0, .int .i64 0, .int .i64 0, .int .i64 0, .int .i64 0, .slice none 0 0, .int .i64 0, .slice none 0 0, .slice none 0 0, .bool false] 27)) #[code, .int .i64 0] 72
  rw [hsz] at hbx
  have hAA := hA.alloc (by simp) (.cells #[code, .int .i64 0] 72)
  have lr2 := lr.alloc (.cells #[code, .int .i64 0] 72)
  have hR : Rd 72 w ((w.alloc (.cells #[.int .i64 0, .int .i64 0, .int .i64 0, .int .i64 0, .int .i64 0, .int .i64 0, .int .i64 0, .slice none 0 0, .int .i64 0, .slice none 0 0, .slice none 0 0, .bool false] 27)).alloc (.cells #[code, .int .i64 0] 72)) (w.heap.size + 1) code l 0 := ⟨hb, hAA, by omega, hbx, by omega, by omega⟩
  clear hA hsz hbx hAA lr
  obtain ⟨a, c, rfl, hl1, hl2⟩ := hb.shape
  have hln := hb.2.1
  clear hb
  unfold maxLen at hln hl2
  have H0 := hide (fun g W (hW : Rd 72 w W g (.slice a l.length c) l 0) => l4get_any w W g (.slice a l.length c) l 0 hW)
  have H1 := hide (fun g W (hW : Rd 72 w W g (.slice a l.length c) l (getN l 0).2) => l4getId_any w W g (.slice a l.length c) l (getN l 0).2 hW)
  have HX : Hid (opRd rdKeyS l = rdRest rdKeyS l (getN l 0).1 (rdId l (getN l 0).2).1.1 (rdId l (getN l 0).2).1.2 (rdId l (getN l 0).2).2) := hide rfl
  generalize opRd rdKeyS l = Z at *
  generalize (rdId l (getN l 0).2) = q1 at *
  generalize (getN l 0) = q0 at *
  obtain ⟨kz, p1⟩ := q0
  obtain ⟨⟨vn, vr⟩, p2⟩ := q1
  simp only at *
  refine calls_via ?_
  intro Q HQ
  have LL := hide (And.intro hR lr2)
  clear hR lr2
  go_enter Try.func14, Try.ntmps14
  go_wp2_with fail
  obtain ⟨hR, lr⟩ := unhide LL
  clear LL
  generalize ((w.alloc (.cells #[.int .i64 0, .int .i64 0, .int .i64 0, .int .i64 0, .int .i64 0, .int .i64 0, .int .i64 0, .slice none 0 0, .int .i64 0, .slice none 0 0, .slice none 0 0, .bool false] 27)).alloc (.cells #[(.slice a l.length c), .int .i64 0] 72)) = wa at *
  generalize hgg : w.heap.size + 1 = g at *
  refine (unhide H0 g wa hR).mono ?_
  rintro e w1 ⟨rfl, hRn, hGn⟩
  have lrn := lr.frm (Frm.ofGrown hGn) (by simp; omega)
  have hgS := hRn.box.lt
  have hAb := (Below.refl w1.heap.size w1).alloc (Nat.le_refl _) (.cells #[.int .i64 kz, .int .i64 0, .int .i64 0, .int .i64 0, .int .i64 0, .int .i64 0, .int .i64 0, .slice none 0 0, .int .i64 0, .slice none 0 0, .slice none 0 0, .bool false] 27)
  have lo := Loc.made w1 #[.int .i64 kz, .int .i64 0, .int .i64 0, .int .i64 0, .int .i64 0, .int .i64 0, .int .i64 0, .slice none 0 0, .int .i64 0, .slice none 0 0, .slice none 0 0, .bool false] 27
  have LL := hide (And.intro (hRn.keep hAb) (And.intro (lrn.all hAb) lo))
  clear hR lr hRn hGn lrn hAb lo
  go_wp2_with fail
  obtain ⟨hR, lr, lo⟩ := unhide LL
  clear LL
  generalize (w1.alloc (.cells #[.int .i64 kz, .int .i64 0, .int .i64 0, .int .i64 0, .int .i64 0, .int .i64 0, .int .i64 0, .slice none 0 0, .int .i64 0, .slice none 0 0, .slice none 0 0, .bool false] 27)) = wb at *
  generalize w1.heap.size = S at *
  refine (unhide H1 g wb hR).mono ?_
  rintro e w2 ⟨rfl, hRn, hGn⟩
  have lrn := lr.frm (Frm.ofGrown hGn) (by simp; omega)
  have lon := lo.frm (Frm.ofGrown hGn) (by simp; omega)
  have loz : Loc ((w2.setCell ⟨S, 1, none⟩ (.int .i64 vn)).setCell ⟨S, 2, none⟩ (.int .i64 vr)) S #[.int .i64 kz, .int .i64 vn, .int .i64 vr, .int .i64 0, .int .i64 0, .int .i64 0, .int .i64 0, .slice none 0 0, .int .i64 0, .slice none 0 0, .slice none 0 0, .bool false] 27 := (lon.set 1 (.int .i64 vn)).set 2 (.int .i64 vr)
  have hsS : w2.grownBy ((w2.setCell ⟨S, 1, none⟩ (.int .i64 vn)).setCell ⟨S, 2, none⟩ (.int .i64 vr)) (some S) := grown_trans (setG w2 S 1 (.int .i64 vn)) (setG _ S 2 (.int .i64 vr))
  obtain ⟨x0, x1, x2, x3, x4, x5, x6, x7, x8, x9, x10, x11⟩ := lon.twelve
  have f1 := lon.frozen 1
  have f2 := lon.frozen 2
  have y0 := loz.cell 0
  have LL := hide (And.intro (hRn.keepG hsS (by simp; omega) (fun k hk => by simp at hk; omega)) (And.intro (lrn.frm (Frm.ofGrown hsS) (by simp; omega)) loz))
  clear hR lr lo hRn hGn lrn lon loz hsS H0 H1
  go_upto_block 0 with fail
  obtain ⟨hR, lr, lo⟩ := unhide LL
  clear LL x0 x1 x2 x3 x4 x5 x6 x7 x8 x9 x10 x11 f1 f2 y0
  generalize ((w2.setCell ⟨S, 1, none⟩ (.int .i64 vn)).setCell ⟨S, 2, none⟩ (.int .i64 vr)) = wc0 at *
  go_cut [] from 15 to 70 (fun wx => RosAt w wx g S (.slice a l.length c) l Z)
  case first =>
    by_cases hk : kz = 0
    ·
      have HX' := hide (show Z = _ from (unhide HX).trans (by unfold rdRest; rw [hk, if_pos rfl]))
      clear HX
      have H0 := hide (fun W (hW : Rd 72 w W g (.slice a l.length c) l p2) => l4getId_any w W g (.slice a l.length c) l p2 hW)
      have H1 := hide (fun W (hW : Rd 72 w W g (.slice a l.length c) l (rdId l p2).2) => l4getKey_any w W g (.slice a l.length c) l (rdId l p2).2 hW)
      have H2 := hide (fun W (hW : Rd 72 w W g (.slice a l.length c) l (rdKeyS l (rdId l p2).2).2) => l4get_any w W g (.slice a l.length c) l (rdKeyS l (rdId l p2).2).2 hW)
      have H3 := hide (fun W (hW : Rd 72 w W g (.slice a l.length c) l (getN l (rdKeyS l (rdId l p2).2).2).2) => l4text_any w W g (.slice a l.length c) l (getN l (rdKeyS l (rdId l p2).2).2).2 hW)
      have H4 := hide (fun W (hW : Rd 72 w W g (.slice a l.length c) l (getT l (getN l (rdKeyS l (rdId l p2).2).2).2).2) => l4text_any w W g (.slice a l.length c) l (getT l (getN l (rdKeyS l (rdId l p2).2).2).2).2 hW)
      generalize (getT l (getT l (getN l (rdKeyS l (rdId l p2).2).2).2).2) = q4 at *
      generalize (getT l (getN l (rdKeyS l (rdId l p2).2).2).2) = q3 at *
      generalize (getN l (rdKeyS l (rdId l p2).2).2) = q2 at *
      generalize (rdKeyS l (rdId l p2).2) = q1 at *
      generalize (rdId l p2) = q0 at *
      obtain ⟨⟨pn, pr⟩, p3⟩ := q0
      obtain ⟨ks, p4⟩ := q1
      obtain ⟨el, p5⟩ := q2
      obtain ⟨nm, p6⟩ := q3
      obtain ⟨tx, p7⟩ := q4
      simp only at *
      subst hk
      have LL := hide (And.intro hR (And.intro lr lo))
      clear hR lr lo
      go_wp2_with fail
      obtain ⟨hR, lr, lo⟩ := unhide LL
      clear LL
      refine (unhide H0 wc0 hR).mono ?_
      rintro e v0 ⟨rfl, hRn, hGn⟩
      have sz0 := hGn.size
      have lrn := lr.frm (Frm.ofGrown hGn) (by simp; omega)
      have lon := lo.frm (Frm.ofGrown hGn) (by simp; omega)
      clear hGn hR lo lr
      have hR := hRn
      have lo := lon
      have lr := lrn
      clear hRn lon lrn
      have lon : Loc ((v0.setCell ⟨S, 5, none⟩ (.int .i64 pn)).setCell ⟨S, 6, none⟩ (.int .i64 pr)) S #[.int .i64 0, .int .i64 vn, .int .i64 vr, .int .i64 0, .int .i64 0, .int .i64 pn, .int .i64 pr, .slice none 0 0, .int .i64 0, .slice none 0 0, .slice none 0 0, .bool false] 27 := ((lo.set 5 (.int .i64 pn)).set 6 (.int .i64 pr))
      have hsS : v0.grownBy ((v0.setCell ⟨S, 5, none⟩ (.int .i64 pn)).setCell ⟨S, 6, none⟩ (.int .i64 pr)) (some S) := (grown_trans (setG v0 S 5 (.int .i64 pn)) (setG _ S 6 (.int .i64 pr)))
      obtain ⟨x0, x1, x2, x3, x4, x5, x6, x7, x8, x9, x10, x11⟩ := lo.twelve
      have f5 := lo.frozen 5
      have f6 := lo.frozen 6
      have hRn := hR.keepG hsS (by simp; omega) (fun k hk => by simp at hk; omega)
      have lrn := lr.frm (Frm.ofGrown hsS) (by simp; omega)
      have szs0 := hsS.size
      clear hR lo lr hsS
      have hR := hRn
      have lo := lon
      have lr := lrn
      clear hRn lon lrn
      have LL := hide (And.intro hR (And.intro lr lo))
      clear hR lr lo
      go_wp2_with fail
      obtain ⟨hR, lr, lo⟩ := unhide LL
      clear LL
      clear x0 x1 x2 x3 x4 x5 x6 x7 x8 x9 x10 x11 f5 f6
      generalize ((v0.setCell ⟨S, 5, none⟩ (.int .i64 pn)).setCell ⟨S, 6, none⟩ (.int .i64 pr)) = ws1 at *
      refine (unhide H1 ws1 hR).mono ?_
      rintro e v1 ⟨a1, c1, k1, rfl, ho1, hk1, hkl, hRn, hGn⟩
      obtain rfl := unhide hk1
      have HKL := hide hkl
      clear hkl hk1
      have sz1 := hGn.size
      have lrn := lr.frm (Frm.ofGrown hGn) (by simp; omega)
      have lon := lo.frm (Frm.ofGrown hGn) (by simp; omega)
      have hs1 : S < ws1.heap.size := lo.lt
      have hg1 : g < ws1.heap.size := hR.box.lt
      have hw1 : w.heap.size < ws1.heap.size := lr.lt
      have hz1 := ho1.rng
      clear hGn hR lo lr
      have hR := hRn
      have lo := lon
      have lr := lrn
      clear hRn lon lrn
      have lon : Loc (v1.setCell ⟨S, 7, none⟩ (.slice a1 ks.length c1)) S #[.int .i64 0, .int .i64 vn, .int .i64 vr, .int .i64 0, .int .i64 0, .int .i64 pn, .int .i64 pr, .slice a1 ks.length c1, .int .i64 0, .slice none 0 0, .slice none 0 0, .bool false] 27 := (lo.set 7 (.slice a1 ks.length c1))
      have hsS : v1.grownBy (v1.setCell ⟨S, 7, none⟩ (.slice a1 ks.length c1)) (some S) := (setG v1 S 7 (.slice a1 ks.length c1))
      obtain ⟨x0, x1, x2, x3, x4, x5, x6, x7, x8, x9, x10, x11⟩ := lo.twelve
      have f7 := lo.frozen 7
      have hRn := hR.keepG hsS (by simp; omega) (fun k hk => by simp at hk; omega)
      have lrn := lr.frm (Frm.ofGrown hsS) (by simp; omega)
      replace ho1 := ho1.keepBy hsS (.inr (fun e => by have := (ho1.lt S e).1; omega))
      have szs1 := hsS.size
      clear hR lo lr hsS
      have hR := hRn
      have lo := lon
      have lr := lrn
      clear hRn lon lrn
      have HO1 := hide ho1
      clear ho1
      have LL := hide (And.intro hR (And.intro lr lo))
      clear hR lr lo
      go_wp2_with fail
      obtain ⟨hR, lr, lo⟩ := unhide LL
      clear LL
      have ho1 := unhide HO1
      clear HO1
      clear x0 x1 x2 x3 x4 x5 x6 x7 x8 x9 x10 x11 f7
      generalize (v1.setCell ⟨S, 7, none⟩ (.slice a1 ks.length c1)) = ws2 at *
      refine (unhide H2 ws2 hR).mono ?_
      rintro e v2 ⟨rfl, hRn, hGn⟩
      have sz2 := hGn.size
      have lrn := lr.frm (Frm.ofGrown hGn) (by simp; omega)
      have lon := lo.frm (Frm.ofGrown hGn) (by simp; omega)
      replace ho1 := ho1.keepBy hGn (.inr (fun e => by have := (ho1.lt _ e).1; omega))
      clear hGn hR lo lr
      have hR := hRn
      have lo := lon
      have lr := lrn
      clear hRn lon lrn
      have lon : Loc (v2.setCell ⟨S, 8, none⟩ (.int .i64 el)) S #[.int .i64 0, .int .i64 vn, .int .i64 vr, .int .i64 0, .int .i64 0, .int .i64 pn, .int .i64 pr, .slice a1 ks.length c1, .int .i64 el, .slice none 0 0, .slice none 0 0, .bool false] 27 := (lo.set 8 (.int .i64 el))
      have hsS : v2.grownBy (v2.setCell ⟨S, 8, none⟩ (.int .i64 el)) (some S) := (setG v2 S 8 (.int .i64 el))
      obtain ⟨x0, x1, x2, x3, x4, x5, x6, x7, x8, x9, x10, x11⟩ := lo.twelve
      have f8 := lo.frozen 8
      have hRn := hR.keepG hsS (by simp; omega) (fun k hk => by simp at hk; omega)
      have lrn := lr.frm (Frm.ofGrown hsS) (by simp; omega)
      replace ho1 := ho1.keepBy hsS (.inr (fun e => by have := (ho1.lt S e).1; omega))
      have szs2 := hsS.size
      clear hR lo lr hsS
      have hR := hRn
      have lo := lon
      have lr := lrn
      clear hRn lon lrn
      have HO1 := hide ho1
      clear ho1
      have LL := hide (And.intro hR (And.intro lr lo))
      clear hR lr lo
      go_wp2_with fail
      obtain ⟨hR, lr, lo⟩ := unhide LL
      clear LL
      have ho1 := unhide HO1
      clear HO1
      clear x0 x1 x2 x3 x4 x5 x6 x7 x8 x9 x10 x11 f8
      generalize (v2.setCell ⟨S, 8, none⟩ (.int .i64 el)) = ws3 at *
      refine (unhide H3 ws3 hR).mono ?_
      rintro e v3 ⟨a3, c3, rfl, ho3, hRn, hGn⟩
      have sz3 := hGn.size
      have lrn := lr.frm (Frm.ofGrown hGn) (by simp; omega)
      have lon := lo.frm (Frm.ofGrown hGn) (by simp; omega)
      replace ho1 := ho1.keepBy hGn (.inr (fun e => by have := (ho1.lt _ e).1; omega))
      have hs3 : S < ws3.heap.size := lo.lt
      have hg3 : g < ws3.heap.size := hR.box.lt
      have hw3 : w.heap.size < ws3.heap.size := lr.lt
      have hz3 := ho3.rng
      clear hGn hR lo lr
      have hR := hRn
      have lo := lon
      have lr := lrn
      clear hRn lon lrn
      have lon : Loc (v3.setCell ⟨S, 9, none⟩ (.slice a3 nm.length c3)) S #[.int .i64 0, .int .i64 vn, .int .i64 vr, .int .i64 0, .int .i64 0, .int .i64 pn, .int .i64 pr, .slice a1 ks.length c1, .int .i64 el, .slice a3 nm.length c3, .slice none 0 0, .bool false] 27 := (lo.set 9 (.slice a3 nm.length c3))
      have hsS : v3.grownBy (v3.setCell ⟨S, 9, none⟩ (.slice a3 nm.length c3)) (some S) := (setG v3 S 9 (.slice a3 nm.length c3))
      obtain ⟨x0, x1, x2, x3, x4, x5, x6, x7, x8, x9, x10, x11⟩ := lo.twelve
      have f9 := lo.frozen 9
      have hRn := hR.keepG hsS (by simp; omega) (fun k hk => by simp at hk; omega)
      have lrn := lr.frm (Frm.ofGrown hsS) (by simp; omega)
      replace ho1 := ho1.keepBy hsS (.inr (fun e => by have := (ho1.lt S e).1; omega))
      replace ho3 := ho3.keepBy hsS (.inr (fun e => by have := (ho3.lt S e).1; omega))
      have szs3 := hsS.size
      clear hR lo lr hsS
      have hR := hRn
      have lo := lon
      have lr := lrn
      clear hRn lon lrn
      have HO1 := hide ho1
      clear ho1
      have HO3 := hide ho3
      clear ho3
      have LL := hide (And.intro hR (And.intro lr lo))
      clear hR lr lo
      go_wp2_with fail
      obtain ⟨hR, lr, lo⟩ := unhide LL
      clear LL
      have ho1 := unhide HO1
      clear HO1
      have ho3 := unhide HO3
      clear HO3
      clear x0 x1 x2 x3 x4 x5 x6 x7 x8 x9 x10 x11 f9
      generalize (v3.setCell ⟨S, 9, none⟩ (.slice a3 nm.length c3)) = ws4 at *
      refine (unhide H4 ws4 hR).mono ?_
      rintro e v4 ⟨a4, c4, rfl, ho4, hRn, hGn⟩
      have sz4 := hGn.size
      have lrn := lr.frm (Frm.ofGrown hGn) (by simp; omega)
      have lon := lo.frm (Frm.ofGrown hGn) (by simp; omega)
      replace ho1 := ho1.keepBy hGn (.inr (fun e => by have := (ho1.lt _ e).1; omega))
      replace ho3 := ho3.keepBy hGn (.inr (fun e => by have := (ho3.lt _ e).1; omega))
      have hs4 : S < ws4.heap.size := lo.lt
      have hg4 : g < ws4.heap.size := hR.box.lt
      have hw4 : w.heap.size < ws4.heap.size := lr.lt
      have hz4 := ho4.rng
      clear hGn hR lo lr
      have hR := hRn
      have lo := lon
      have lr := lrn
      clear hRn lon lrn
      have lon : Loc (v4.setCell ⟨S, 10, none⟩ (.slice a4 tx.length c4)) S #[.int .i64 0, .int .i64 vn, .int .i64 vr, .int .i64 0, .int .i64 0, .int .i64 pn, .int .i64 pr, .slice a1 ks.length c1, .int .i64 el, .slice a3 nm.length c3, .slice a4 tx.length c4, .bool false] 27 := (lo.set 10 (.slice a4 tx.length c4))
      have hsS : v4.grownBy (v4.setCell ⟨S, 10, none⟩ (.slice a4 tx.length c4)) (some S) := (setG v4 S 10 (.slice a4 tx.length c4))
      obtain ⟨x0, x1, x2, x3, x4, x5, x6, x7, x8, x9, x10, x11⟩ := lo.twelve
      have f10 := lo.frozen 10
      have hRn := hR.keepG hsS (by simp; omega) (fun k hk => by simp at hk; omega)
      have lrn := lr.frm (Frm.ofGrown hsS) (by simp; omega)
      replace ho1 := ho1.keepBy hsS (.inr (fun e => by have := (ho1.lt S e).1; omega))
      replace ho3 := ho3.keepBy hsS (.inr (fun e => by have := (ho3.lt S e).1; omega))
      replace ho4 := ho4.keepBy hsS (.inr (fun e => by have := (ho4.lt S e).1; omega))
      have szs4 := hsS.size
      clear hR lo lr hsS
      have hR := hRn
      have lo := lon
      have lr := lrn
      clear hRn lon lrn
      have hnd : (FB (.slice a1 ks.length c1) ++ FB (.slice a3 nm.length c3) ++ FB (.slice a4 tx.length c4)).Nodup := by
        have e0 : FB (.slice none 0 0) = [] := rfl
        skip
        exact nodup_app (lo := 0) (nodup_app (FB_nodup _) (FB_nodup _) hz1 (hz3.mono (by omega) (Nat.le_refl _))) (FB_nodup _) ((hz1.mono (Nat.zero_le _) (by omega)).app (hz3.mono (Nat.zero_le _) (Nat.le_refl _))) (hz4.mono (by omega) (Nat.le_refl _))
      replace ho1 := ho1.mono (show w.heap.size + 1 ≤ _ by omega)
      replace ho3 := ho3.mono (show w.heap.size + 1 ≤ _ by omega)
      replace ho4 := ho4.mono (show w.heap.size + 1 ≤ _ by omega)
      have KK := hide (show RosAt w (v4.setCell ⟨S, 10, none⟩ (.slice a4 tx.length c4)) g S (.slice a l.length c) l Z from ⟨_, _, _, _, _, unhide HX', unhide HKL, hR, lo, lr, ⟨ho1, ho3, ho4, hnd⟩⟩)
      clear hR lo lr hnd ho1 hz1 ho3 hz3 ho4 hz4
      go_wp2_with fail
      go_meet
      exact unhide KK
    by_cases h1 : kz = 1
    · have hk := h1
      clear h1
      have HX' := hide (show Z = _ from (unhide HX).trans (by unfold rdRest; rw [hk, if_neg (by decide), if_pos rfl]))
      clear HX
      have H0 := hide (fun W (hW : Rd 72 w W g (.slice a l.length c) l p2) => l4getId_any w W g (.slice a l.length c) l p2 hW)
      have H1 := hide (fun W (hW : Rd 72 w W g (.slice a l.length c) l (rdId l p2).2) => l4getId_any w W g (.slice a l.length c) l (rdId l p2).2 hW)
      have H2 := hide (fun W (hW : Rd 72 w W g (.slice a l.length c) l (rdId l (rdId l p2).2).2) => l4getKey_any w W g (.slice a l.length c) l (rdId l (rdId l p2).2).2 hW)
      generalize (rdKeyS l (rdId l (rdId l p2).2).2) = q2 at *
      generalize (rdId l (rdId l p2).2) = q1 at *
      generalize (rdId l p2) = q0 at *
      obtain ⟨⟨nn, nr⟩, p3⟩ := q0
      obtain ⟨⟨pn, pr⟩, p4⟩ := q1
      obtain ⟨ks, p5⟩ := q2
      simp only at *
      subst hk
      have LL := hide (And.intro hR (And.intro lr lo))
      clear hR lr lo
      go_wp2_with fail
      obtain ⟨hR, lr, lo⟩ := unhide LL
      clear LL
      refine (unhide H0 wc0 hR).mono ?_
      rintro e v0 ⟨rfl, hRn, hGn⟩
      have sz0 := hGn.size
      have lrn := lr.frm (Frm.ofGrown hGn) (by simp; omega)
      have lon := lo.frm (Frm.ofGrown hGn) (by simp; omega)
      clear hGn hR lo lr
      have hR := hRn
      have lo := lon
      have lr := lrn
      clear hRn lon lrn
      have lon : Loc ((v0.setCell ⟨S, 3, none⟩ (.int .i64 nn)).setCell ⟨S, 4, none⟩ (.int .i64 nr)) S #[.int .i64 1, .int .i64 vn, .int .i64 vr, .int .i64 nn, .int .i64 nr, .int .i64 0, .int .i64 0, .slice none 0 0, .int .i64 0, .slice none 0 0, .slice none 0 0, .bool false] 27 := ((lo.set 3 (.int .i64 nn)).set 4 (.int .i64 nr))
      have hsS : v0.grownBy ((v0.setCell ⟨S, 3, none⟩ (.int .i64 nn)).setCell ⟨S, 4, none⟩ (.int .i64 nr)) (some S) := (grown_trans (setG v0 S 3 (.int .i64 nn)) (setG _ S 4 (.int .i64 nr)))
      obtain ⟨x0, x1, x2, x3, x4, x5, x6, x7, x8, x9, x10, x11⟩ := lo.twelve
      have f3 := lo.frozen 3
      have f4 := lo.frozen 4
      have hRn := hR.keepG hsS (by simp; omega) (fun k hk => by simp at hk; omega)
      have lrn := lr.frm (Frm.ofGrown hsS) (by simp; omega)
      have szs0 := hsS.size
      clear hR lo lr hsS
      have hR := hRn
      have lo := lon
      have lr := lrn
      clear hRn lon lrn
      have LL := hide (And.intro hR (And.intro lr lo))
      clear hR lr lo
      go_wp2_with fail
      obtain ⟨hR, lr, lo⟩ := unhide LL
      clear LL
      clear x0 x1 x2 x3 x4 x5 x6 x7 x8 x9 x10 x11 f3 f4
      generalize ((v0.setCell ⟨S, 3, none⟩ (.int .i64 nn)).setCell ⟨S, 4, none⟩ (.int .i64 nr)) = ws1 at *
      refine (unhide H1 ws1 hR).mono ?_
      rintro e v1 ⟨rfl, hRn, hGn⟩
      have sz1 := hGn.size
      have lrn := lr.frm (Frm.ofGrown hGn) (by simp; omega)
      have lon := lo.frm (Frm.ofGrown hGn) (by simp; omega)
      clear hGn hR lo lr
      have hR := hRn
      have lo := lon
      have lr := lrn
      clear hRn lon lrn
      have lon : Loc ((v1.setCell ⟨S, 5, none⟩ (.int .i64 pn)).setCell ⟨S, 6, none⟩ (.int .i64 pr)) S #[.int .i64 1, .int .i64 vn, .int .i64 vr, .int .i64 nn, .int .i64 nr, .int .i64 pn, .int .i64 pr, .slice none 0 0, .int .i64 0, .slice none 0 0, .slice none 0 0, .bool false] 27 := ((lo.set 5 (.int .i64 pn)).set 6 (.int .i64 pr))
      have hsS : v1.grownBy ((v1.setCell ⟨S, 5, none⟩ (.int .i64 pn)).setCell ⟨S, 6, none⟩ (.int .i64 pr)) (some S) := (grown_trans (setG v1 S 5 (.int .i64 pn)) (setG _ S 6 (.int .i64 pr)))
      obtain ⟨x0, x1, x2, x3, x4, x5, x6, x7, x8, x9, x10, x11⟩ := lo.twelve
      have f5 := lo.frozen 5
      have f6 := lo.frozen 6
      have hRn := hR.keepG hsS (by simp; omega) (fun k hk => by simp at hk; omega)
      have lrn := lr.frm (Frm.ofGrown hsS) (by simp; omega)
      have szs1 := hsS.size
      clear hR lo lr hsS
      have hR := hRn
      have lo := lon
      have lr := lrn
      clear hRn lon lrn
      have LL := hide (And.intro hR (And.intro lr lo))
      clear hR lr lo
      go_wp2_with fail
      obtain ⟨hR, lr, lo⟩ := unhide LL
      clear LL
      clear x0 x1 x2 x3 x4 x5 x6 x7 x8 x9 x10 x11 f5 f6
      generalize ((v1.setCell ⟨S, 5, none⟩ (.int .i64 pn)).setCell ⟨S, 6, none⟩ (.int .i64 pr)) = ws2 at *
      refine (unhide H2 ws2 hR).mono ?_
      rintro e v2 ⟨a2, c2, k2, rfl, ho2, hk2, hkl, hRn, hGn⟩
      obtain rfl := unhide hk2
      have HKL := hide hkl
      clear hkl hk2
      have sz2 := hGn.size
      have lrn := lr.frm (Frm.ofGrown hGn) (by simp; omega)
      have lon := lo.frm (Frm.ofGrown hGn) (by simp; omega)
      have hs2 : S < ws2.heap.size := lo.lt
      have hg2 : g < ws2.heap.size := hR.box.lt
      have hw2 : w.heap.size < ws2.heap.size := lr.lt
      have hz2 := ho2.rng
      clear hGn hR lo lr
      have hR := hRn
      have lo := lon
      have lr := lrn
      clear hRn lon lrn
      have lon : Loc (v2.setCell ⟨S, 7, none⟩ (.slice a2 ks.length c2)) S #[.int .i64 1, .int .i64 vn, .int .i64 vr, .int .i64 nn, .int .i64 nr, .int .i64 pn, .int .i64 pr, .slice a2 ks.length c2, .int .i64 0, .slice none 0 0, .slice none 0 0, .bool false] 27 := (lo.set 7 (.slice a2 ks.length c2))
      have hsS : v2.grownBy (v2.setCell ⟨S, 7, none⟩ (.slice a2 ks.length c2)) (some S) := (setG v2 S 7 (.slice a2 ks.length c2))
      obtain ⟨x0, x1, x2, x3, x4, x5, x6, x7, x8, x9, x10, x11⟩ := lo.twelve
      have f7 := lo.frozen 7
      have hRn := hR.keepG hsS (by simp; omega) (fun k hk => by simp at hk; omega)
      have lrn := lr.frm (Frm.ofGrown hsS) (by simp; omega)
      replace ho2 := ho2.keepBy hsS (.inr (fun e => by have := (ho2.lt S e).1; omega))
      have szs2 := hsS.size
      clear hR lo lr hsS
      have hR := hRn
      have lo := lon
      have lr := lrn
      clear hRn lon lrn
      have hnd : (FB (.slice a2 ks.length c2) ++ FB (.slice none 0 0) ++ FB (.slice none 0 0)).Nodup := by
        have e0 : FB (.slice none 0 0) = [] := rfl
        simp only [e0, List.append_nil]
        exact FB_nodup _
      replace ho2 := ho2.mono (show w.heap.size + 1 ≤ _ by omega)
      have KK := hide (show RosAt w (v2.setCell ⟨S, 7, none⟩ (.slice a2 ks.length c2)) g S (.slice a l.length c) l Z from ⟨_, _, _, _, _, unhide HX', unhide HKL, hR, lo, lr, ⟨ho2, own_nilB _ _, own_nilB _ _, hnd⟩⟩)
      clear hR lo lr hnd ho2 hz2
      go_wp2_with fail
      go_meet
      exact unhide KK
    by_cases h2 : kz = 2
    · have hk := h2
      clear h1 h2
      have HX' := hide (show Z = _ from (unhide HX).trans (by unfold rdRest; rw [hk, if_neg (by decide), if_neg (by decide), if_pos rfl]))
      clear HX
      have H0 := hide (fun W (hW : Rd 72 w W g (.slice a l.length c) l p2) => l4getId_any w W g (.slice a l.length c) l p2 hW)
      have H1 := hide (fun W (hW : Rd 72 w W g (.slice a l.length c) l (rdId l p2).2) => l4text_any w W g (.slice a l.length c) l (rdId l p2).2 hW)
      generalize (getT l (rdId l p2).2) = q1 at *
      generalize (rdId l p2) = q0 at *
      obtain ⟨⟨nn, nr⟩, p3⟩ := q0
      obtain ⟨tx, p4⟩ := q1
      simp only at *
      subst hk
      have LL := hide (And.intro hR (And.intro lr lo))
      clear hR lr lo
      go_wp2_with fail
      obtain ⟨hR, lr, lo⟩ := unhide LL
      clear LL
      refine (unhide H0 wc0 hR).mono ?_
      rintro e v0 ⟨rfl, hRn, hGn⟩
      have sz0 := hGn.size
      have lrn := lr.frm (Frm.ofGrown hGn) (by simp; omega)
      have lon := lo.frm (Frm.ofGrown hGn) (by simp; omega)
      clear hGn hR lo lr
      have hR := hRn
      have lo := lon
      have lr := lrn
      clear hRn lon lrn
      have lon : Loc ((v0.setCell ⟨S, 3, none⟩ (.int .i64 nn)).setCell ⟨S, 4, none⟩ (.int .i64 nr)) S #[.int .i64 2, .int .i64 vn, .int .i64 vr, .int .i64 nn, .int .i64 nr, .int .i64 0, .int .i64 0, .slice none 0 0, .int .i64 0, .slice none 0 0, .slice none 0 0, .bool false] 27 := ((lo.set 3 (.int .i64 nn)).set 4 (.int .i64 nr))
      have hsS : v0.grownBy ((v0.setCell ⟨S, 3, none⟩ (.int .i64 nn)).setCell ⟨S, 4, none⟩ (.int .i64 nr)) (some S) := (grown_trans (setG v0 S 3 (.int .i64 nn)) (setG _ S 4 (.int .i64 nr)))
      obtain ⟨x0, x1, x2, x3, x4, x5, x6, x7, x8, x9, x10, x11⟩ := lo.twelve
      have f3 := lo.frozen 3
      have f4 := lo.frozen 4
      have hRn := hR.keepG hsS (by simp; omega) (fun k hk => by simp at hk; omega)
      have lrn := lr.frm (Frm.ofGrown hsS) (by simp; omega)
      have szs0 := hsS.size
      clear hR lo lr hsS
      have hR := hRn
      have lo := lon
      have lr := lrn
      clear hRn lon lrn
      have LL := hide (And.intro hR (And.intro lr lo))
      clear hR lr lo
      go_wp2_with fail
      obtain ⟨hR, lr, lo⟩ := unhide LL
      clear LL
      clear x0 x1 x2 x3 x4 x5 x6 x7 x8 x9 x10 x11 f3 f4
      generalize ((v0.setCell ⟨S, 3, none⟩ (.int .i64 nn)).setCell ⟨S, 4, none⟩ (.int .i64 nr)) = ws1 at *
      refine (unhide H1 ws1 hR).mono ?_
      rintro e v1 ⟨a1, c1, rfl, ho1, hRn, hGn⟩
      have sz1 := hGn.size
      have lrn := lr.frm (Frm.ofGrown hGn) (by simp; omega)
      have lon := lo.frm (Frm.ofGrown hGn) (by simp; omega)
      have hs1 : S < ws1.heap.size := lo.lt
      have hg1 : g < ws1.heap.size := hR.box.lt
      have hw1 : w.heap.size < ws1.heap.size := lr.lt
      have hz1 := ho1.rng
      clear hGn hR lo lr
      have hR := hRn
      have lo := lon
      have lr := lrn
      clear hRn lon lrn
      have lon : Loc (v1.setCell ⟨S, 10, none⟩ (.slice a1 tx.length c1)) S #[.int .i64 2, .int .i64 vn, .int .i64 vr, .int .i64 nn, .int .i64 nr, .int .i64 0, .int .i64 0, .slice none 0 0, .int .i64 0, .slice none 0 0, .slice a1 tx.length c1, .bool false] 27 := (lo.set 10 (.slice a1 tx.length c1))
      have hsS : v1.grownBy (v1.setCell ⟨S, 10, none⟩ (.slice a1 tx.length c1)) (some S) := (setG v1 S 10 (.slice a1 tx.length c1))
      obtain ⟨x0, x1, x2, x3, x4, x5, x6, x7, x8, x9, x10, x11⟩ := lo.twelve
      have f10 := lo.frozen 10
      have hRn := hR.keepG hsS (by simp; omega) (fun k hk => by simp at hk; omega)
      have lrn := lr.frm (Frm.ofGrown hsS) (by simp; omega)
      replace ho1 := ho1.keepBy hsS (.inr (fun e => by have := (ho1.lt S e).1; omega))
      have szs1 := hsS.size
      clear hR lo lr hsS
      have hR := hRn
      have lo := lon
      have lr := lrn
      clear hRn lon lrn
      have hnd : (FB (.slice none 0 0) ++ FB (.slice none 0 0) ++ FB (.slice a1 tx.length c1)).Nodup := by
        have e0 : FB (.slice none 0 0) = [] := rfl
        simp only [e0, List.nil_append, List.append_nil]
        exact FB_nodup _
      replace ho1 := ho1.mono (show w.heap.size + 1 ≤ _ by omega)
      have KK := hide (show RosAt w (v1.setCell ⟨S, 10, none⟩ (.slice a1 tx.length c1)) g S (.slice a l.length c) l Z from ⟨_, _, _, _, _, unhide HX', (Nat.zero_le _), hR, lo, lr, ⟨ownz_nil _ _, own_nilB _ _, ho1, hnd⟩⟩)
      clear hR lo lr hnd ho1 hz1
      go_wp2_with fail
      go_meet
      exact unhide KK
    by_cases h3 : kz = 3
    · have hk := h3
      clear h1 h2 h3
      by_cases hg : (getN l (getT l (rdId l p2).2).2).1 = 1
      · skip
        have HX' := hide (show Z = _ from (unhide HX).trans (by unfold rdRest; rw [hk, if_neg (by decide), if_neg (by decide), if_neg (by decide), if_pos rfl, if_pos hg]))
        clear HX
        have H0 := hide (fun W (hW : Rd 72 w W g (.slice a l.length c) l p2) => l4getId_any w W g (.slice a l.length c) l p2 hW)
        have H1 := hide (fun W (hW : Rd 72 w W g (.slice a l.length c) l (rdId l p2).2) => l4text_any w W g (.slice a l.length c) l (rdId l p2).2 hW)
        have H2 := hide (fun W (hW : Rd 72 w W g (.slice a l.length c) l (getT l (rdId l p2).2).2) => l4get_any w W g (.slice a l.length c) l (getT l (rdId l p2).2).2 hW)
        generalize (getN l (getT l (rdId l p2).2).2) = q2 at *
        generalize (getT l (rdId l p2).2) = q1 at *
        generalize (rdId l p2) = q0 at *
        obtain ⟨⟨nn, nr⟩, p3⟩ := q0
        obtain ⟨nm, p4⟩ := q1
        obtain ⟨gz, p5⟩ := q2
        simp only at *
        subst hk
        subst hg
        have LL := hide (And.intro hR (And.intro lr lo))
        clear hR lr lo
        go_wp2_with fail
        obtain ⟨hR, lr, lo⟩ := unhide LL
        clear LL
        refine (unhide H0 wc0 hR).mono ?_
        rintro e v0 ⟨rfl, hRn, hGn⟩
        have sz0 := hGn.size
        have lrn := lr.frm (Frm.ofGrown hGn) (by simp; omega)
        have lon := lo.frm (Frm.ofGrown hGn) (by simp; omega)
        clear hGn hR lo lr
        have hR := hRn
        have lo := lon
        have lr := lrn
        clear hRn lon lrn
        have lon : Loc ((v0.setCell ⟨S, 3, none⟩ (.int .i64 nn)).setCell ⟨S, 4, none⟩ (.int .i64 nr)) S #[.int .i64 3, .int .i64 vn, .int .i64 vr, .int .i64 nn, .int .i64 nr, .int .i64 0, .int .i64 0, .slice none 0 0, .int .i64 0, .slice none 0 0, .slice none 0 0, .bool false] 27 := ((lo.set 3 (.int .i64 nn)).set 4 (.int .i64 nr))
        have hsS : v0.grownBy ((v0.setCell ⟨S, 3, none⟩ (.int .i64 nn)).setCell ⟨S, 4, none⟩ (.int .i64 nr)) (some S) := (grown_trans (setG v0 S 3 (.int .i64 nn)) (setG _ S 4 (.int .i64 nr)))
        obtain ⟨x0, x1, x2, x3, x4, x5, x6, x7, x8, x9, x10, x11⟩ := lo.twelve
        have f3 := lo.frozen 3
        have f4 := lo.frozen 4
        have hRn := hR.keepG hsS (by simp; omega) (fun k hk => by simp at hk; omega)
        have lrn := lr.frm (Frm.ofGrown hsS) (by simp; omega)
        have szs0 := hsS.size
        clear hR lo lr hsS
        have hR := hRn
        have lo := lon
        have lr := lrn
        clear hRn lon lrn
        have LL := hide (And.intro hR (And.intro lr lo))
        clear hR lr lo
        go_wp2_with fail
        obtain ⟨hR, lr, lo⟩ := unhide LL
        clear LL
        clear x0 x1 x2 x3 x4 x5 x6 x7 x8 x9 x10 x11 f3 f4
        generalize ((v0.setCell ⟨S, 3, none⟩ (.int .i64 nn)).setCell ⟨S, 4, none⟩ (.int .i64 nr)) = ws1 at *
        refine (unhide H1 ws1 hR).mono ?_
        rintro e v1 ⟨a1, c1, rfl, ho1, hRn, hGn⟩
        have sz1 := hGn.size
        have lrn := lr.frm (Frm.ofGrown hGn) (by simp; omega)
        have lon := lo.frm (Frm.ofGrown hGn) (by simp; omega)
        have hs1 : S < ws1.heap.size := lo.lt
        have hg1 : g < ws1.heap.size := hR.box.lt
        have hw1 : w.heap.size < ws1.heap.size := lr.lt
        have hz1 := ho1.rng
        clear hGn hR lo lr
        have hR := hRn
        have lo := lon
        have lr := lrn
        clear hRn lon lrn
        have lon : Loc (v1.setCell ⟨S, 9, none⟩ (.slice a1 nm.length c1)) S #[.int .i64 3, .int .i64 vn, .int .i64 vr, .int .i64 nn, .int .i64 nr, .int .i64 0, .int .i64 0, .slice none 0 0, .int .i64 0, .slice a1 nm.length c1, .slice none 0 0, .bool false] 27 := (lo.set 9 (.slice a1 nm.length c1))
        have hsS : v1.grownBy (v1.setCell ⟨S, 9, none⟩ (.slice a1 nm.length c1)) (some S) := (setG v1 S 9 (.slice a1 nm.length c1))
        obtain ⟨x0, x1, x2, x3, x4, x5, x6, x7, x8, x9, x10, x11⟩ := lo.twelve
        have f9 := lo.frozen 9
        have hRn := hR.keepG hsS (by simp; omega) (fun k hk => by simp at hk; omega)
        have lrn := lr.frm (Frm.ofGrown hsS) (by simp; omega)
        replace ho1 := ho1.keepBy hsS (.inr (fun e => by have := (ho1.lt S e).1; omega))
        have szs1 := hsS.size
        clear hR lo lr hsS
        have hR := hRn
        have lo := lon
        have lr := lrn
        clear hRn lon lrn
        have HO1 := hide ho1
        clear ho1
        have LL := hide (And.intro hR (And.intro lr lo))
        clear hR lr lo
        go_wp2_with fail
        obtain ⟨hR, lr, lo⟩ := unhide LL
        clear LL
        have ho1 := unhide HO1
        clear HO1
        clear x0 x1 x2 x3 x4 x5 x6 x7 x8 x9 x10 x11 f9
        generalize (v1.setCell ⟨S, 9, none⟩ (.slice a1 nm.length c1)) = ws2 at *
        refine (unhide H2 ws2 hR).mono ?_
        rintro e v2 ⟨rfl, hRn, hGn⟩
        have sz2 := hGn.size
        have lrn := lr.frm (Frm.ofGrown hGn) (by simp; omega)
        have lon := lo.frm (Frm.ofGrown hGn) (by simp; omega)
        replace ho1 := ho1.keepBy hGn (.inr (fun e => by have := (ho1.lt _ e).1; omega))
        clear hGn hR lo lr
        have hR := hRn
        have lo := lon
        have lr := lrn
        clear hRn lon lrn
        have lon : Loc (v2.setCell ⟨S, 11, none⟩ (.bool true)) S #[.int .i64 3, .int .i64 vn, .int .i64 vr, .int .i64 nn, .int .i64 nr, .int .i64 0, .int .i64 0, .slice none 0 0, .int .i64 0, .slice a1 nm.length c1, .slice none 0 0, .bool true] 27 := (lo.set 11 (.bool true))
        have hsS : v2.grownBy (v2.setCell ⟨S, 11, none⟩ (.bool true)) (some S) := (setG v2 S 11 (.bool true))
        obtain ⟨x0, x1, x2, x3, x4, x5, x6, x7, x8, x9, x10, x11⟩ := lo.twelve
        have f11 := lo.frozen 11
        have hRn := hR.keepG hsS (by simp; omega) (fun k hk => by simp at hk; omega)
        have lrn := lr.frm (Frm.ofGrown hsS) (by simp; omega)
        replace ho1 := ho1.keepBy hsS (.inr (fun e => by have := (ho1.lt S e).1; omega))
        have szs2 := hsS.size
        clear hR lo lr hsS
        have hR := hRn
        have lo := lon
        have lr := lrn
        clear hRn lon lrn
        have hnd : (FB (.slice none 0 0) ++ FB (.slice a1 nm.length c1) ++ FB (.slice none 0 0)).Nodup := by
          have e0 : FB (.slice none 0 0) = [] := rfl
          simp only [e0, List.nil_append, List.append_nil]
          exact FB_nodup _
        replace ho1 := ho1.mono (show w.heap.size + 1 ≤ _ by omega)
        have KK := hide (show RosAt w (v2.setCell ⟨S, 11, none⟩ (.bool true)) g S (.slice a l.length c) l Z from ⟨_, _, _, _, _, unhide HX', (Nat.zero_le _), hR, lo, lr, ⟨ownz_nil _ _, ho1, own_nilB _ _, hnd⟩⟩)
        clear hR lo lr hnd ho1 hz1
        go_wp2_with fail
        go_meet
        exact unhide KK
      · skip
        have HX' := hide (show Z = _ from (unhide HX).trans (by unfold rdRest; rw [hk, if_neg (by decide), if_neg (by decide), if_neg (by decide), if_pos rfl, if_neg hg]))
        clear HX
        have H0 := hide (fun W (hW : Rd 72 w W g (.slice a l.length c) l p2) => l4getId_any w W g (.slice a l.length c) l p2 hW)
        have H1 := hide (fun W (hW : Rd 72 w W g (.slice a l.length c) l (rdId l p2).2) => l4text_any w W g (.slice a l.length c) l (rdId l p2).2 hW)
        have H2 := hide (fun W (hW : Rd 72 w W g (.slice a l.length c) l (getT l (rdId l p2).2).2) => l4get_any w W g (.slice a l.length c) l (getT l (rdId l p2).2).2 hW)
        have H3 := hide (fun W (hW : Rd 72 w W g (.slice a l.length c) l (getN l (getT l (rdId l p2).2).2).2) => l4text_any w W g (.slice a l.length c) l (getN l (getT l (rdId l p2).2).2).2 hW)
        generalize (getT l (getN l (getT l (rdId l p2).2).2).2) = q3 at *
        generalize (getN l (getT l (rdId l p2).2).2) = q2 at *
        generalize (getT l (rdId l p2).2) = q1 at *
        generalize (rdId l p2) = q0 at *
        obtain ⟨⟨nn, nr⟩, p3⟩ := q0
        obtain ⟨nm, p4⟩ := q1
        obtain ⟨gz, p5⟩ := q2
        obtain ⟨tx, p6⟩ := q3
        simp only at *
        subst hk
        have dg : (gz == 1) = false := by simpa using hg
        clear hg
        have LL := hide (And.intro hR (And.intro lr lo))
        clear hR lr lo
        go_wp2_with fail
        obtain ⟨hR, lr, lo⟩ := unhide LL
        clear LL
        refine (unhide H0 wc0 hR).mono ?_
        rintro e v0 ⟨rfl, hRn, hGn⟩
        have sz0 := hGn.size
        have lrn := lr.frm (Frm.ofGrown hGn) (by simp; omega)
        have lon := lo.frm (Frm.ofGrown hGn) (by simp; omega)
        clear hGn hR lo lr
        have hR := hRn
        have lo := lon
        have lr := lrn
        clear hRn lon lrn
        have lon : Loc ((v0.setCell ⟨S, 3, none⟩ (.int .i64 nn)).setCell ⟨S, 4, none⟩ (.int .i64 nr)) S #[.int .i64 3, .int .i64 vn, .int .i64 vr, .int .i64 nn, .int .i64 nr, .int .i64 0, .int .i64 0, .slice none 0 0, .int .i64 0, .slice none 0 0, .slice none 0 0, .bool false] 27 := ((lo.set 3 (.int .i64 nn)).set 4 (.int .i64 nr))
        have hsS : v0.grownBy ((v0.setCell ⟨S, 3, none⟩ (.int .i64 nn)).setCell ⟨S, 4, none⟩ (.int .i64 nr)) (some S) := (grown_trans (setG v0 S 3 (.int .i64 nn)) (setG _ S 4 (.int .i64 nr)))
        obtain ⟨x0, x1, x2, x3, x4, x5, x6, x7, x8, x9, x10, x11⟩ := lo.twelve
        have f3 := lo.frozen 3
        have f4 := lo.frozen 4
        have hRn := hR.keepG hsS (by simp; omega) (fun k hk => by simp at hk; omega)
        have lrn := lr.frm (Frm.ofGrown hsS) (by simp; omega)
        have szs0 := hsS.size
        clear hR lo lr hsS
        have hR := hRn
        have lo := lon
        have lr := lrn
        clear hRn lon lrn
        have LL := hide (And.intro hR (And.intro lr lo))
        clear hR lr lo
        go_wp2_with fail
        obtain ⟨hR, lr, lo⟩ := unhide LL
        clear LL
        clear x0 x1 x2 x3 x4 x5 x6 x7 x8 x9 x10 x11 f3 f4
        generalize ((v0.setCell ⟨S, 3, none⟩ (.int .i64 nn)).setCell ⟨S, 4, none⟩ (.int .i64 nr)) = ws1 at *
        refine (unhide H1 ws1 hR).mono ?_
        rintro e v1 ⟨a1, c1, rfl, ho1, hRn, hGn⟩
        have sz1 := hGn.size
        have lrn := lr.frm (Frm.ofGrown hGn) (by simp; omega)
        have lon := lo.frm (Frm.ofGrown hGn) (by simp; omega)
        have hs1 : S < ws1.heap.size := lo.lt
        have hg1 : g < ws1.heap.size := hR.box.lt
        have hw1 : w.heap.size < ws1.heap.size := lr.lt
        have hz1 := ho1.rng
        clear hGn hR lo lr
        have hR := hRn
        have lo := lon
        have lr := lrn
        clear hRn lon lrn
        have lon : Loc (v1.setCell ⟨S, 9, none⟩ (.slice a1 nm.length c1)) S #[.int .i64 3, .int .i64 vn, .int .i64 vr, .int .i64 nn, .int .i64 nr, .int .i64 0, .int .i64 0, .slice none 0 0, .int .i64 0, .slice a1 nm.length c1, .slice none 0 0, .bool false] 27 := (lo.set 9 (.slice a1 nm.length c1))
        have hsS : v1.grownBy (v1.setCell ⟨S, 9, none⟩ (.slice a1 nm.length c1)) (some S) := (setG v1 S 9 (.slice a1 nm.length c1))
        obtain ⟨x0, x1, x2, x3, x4, x5, x6, x7, x8, x9, x10, x11⟩ := lo.twelve
        have f9 := lo.frozen 9
        have hRn := hR.keepG hsS (by simp; omega) (fun k hk => by simp at hk; omega)
        have lrn := lr.frm (Frm.ofGrown hsS) (by simp; omega)
        replace ho1 := ho1.keepBy hsS (.inr (fun e => by have := (ho1.lt S e).1; omega))
        have szs1 := hsS.size
        clear hR lo lr hsS
        have hR := hRn
        have lo := lon
        have lr := lrn
        clear hRn lon lrn
        have HO1 := hide ho1
        clear ho1
        have LL := hide (And.intro hR (And.intro lr lo))
        clear hR lr lo
        go_wp2_with fail
        obtain ⟨hR, lr, lo⟩ := unhide LL
        clear LL
        have ho1 := unhide HO1
        clear HO1
        clear x0 x1 x2 x3 x4 x5 x6 x7 x8 x9 x10 x11 f9
        generalize (v1.setCell ⟨S, 9, none⟩ (.slice a1 nm.length c1)) = ws2 at *
        refine (unhide H2 ws2 hR).mono ?_
        rintro e v2 ⟨rfl, hRn, hGn⟩
        have sz2 := hGn.size
        have lrn := lr.frm (Frm.ofGrown hGn) (by simp; omega)
        have lon := lo.frm (Frm.ofGrown hGn) (by simp; omega)
        replace ho1 := ho1.keepBy hGn (.inr (fun e => by have := (ho1.lt _ e).1; omega))
        clear hGn hR lo lr
        have hR := hRn
        have lo := lon
        have lr := lrn
        clear hRn lon lrn
        have lon : Loc (v2.setCell ⟨S, 11, none⟩ (.bool false)) S #[.int .i64 3, .int .i64 vn, .int .i64 vr, .int .i64 nn, .int .i64 nr, .int .i64 0, .int .i64 0, .slice none 0 0, .int .i64 0, .slice a1 nm.length c1, .slice none 0 0, .bool false] 27 := (lo.set 11 (.bool false))
        have hsS : v2.grownBy (v2.setCell ⟨S, 11, none⟩ (.bool false)) (some S) := (setG v2 S 11 (.bool false))
        obtain ⟨x0, x1, x2, x3, x4, x5, x6, x7, x8, x9, x10, x11⟩ := lo.twelve
        have f11 := lo.frozen 11
        have hRn := hR.keepG hsS (by simp; omega) (fun k hk => by simp at hk; omega)
        have lrn := lr.frm (Frm.ofGrown hsS) (by simp; omega)
        replace ho1 := ho1.keepBy hsS (.inr (fun e => by have := (ho1.lt S e).1; omega))
        have szs2 := hsS.size
        clear hR lo lr hsS
        have hR := hRn
        have lo := lon
        have lr := lrn
        clear hRn lon lrn
        have HO1 := hide ho1
        clear ho1
        have y11 := lo.cell 11
        have LL := hide (And.intro hR (And.intro lr lo))
        clear hR lr lo
        go_wp2_with fail
        obtain ⟨hR, lr, lo⟩ := unhide LL
        clear LL
        have ho1 := unhide HO1
        clear HO1
        clear x0 x1 x2 x3 x4 x5 x6 x7 x8 x9 x10 x11 f11 y11
        generalize (v2.setCell ⟨S, 11, none⟩ (.bool false)) = ws3 at *
        refine (unhide H3 ws3 hR).mono ?_
        rintro e v3 ⟨a3, c3, rfl, ho3, hRn, hGn⟩
        have sz3 := hGn.size
        have lrn := lr.frm (Frm.ofGrown hGn) (by simp; omega)
        have lon := lo.frm (Frm.ofGrown hGn) (by simp; omega)
        replace ho1 := ho1.keepBy hGn (.inr (fun e => by have := (ho1.lt _ e).1; omega))
        have hs3 : S < ws3.heap.size := lo.lt
        have hg3 : g < ws3.heap.size := hR.box.lt
        have hw3 : w.heap.size < ws3.heap.size := lr.lt
        have hz3 := ho3.rng
        clear hGn hR lo lr
        have hR := hRn
        have lo := lon
        have lr := lrn
        clear hRn lon lrn
        have lon : Loc (v3.setCell ⟨S, 10, none⟩ (.slice a3 tx.length c3)) S #[.int .i64 3, .int .i64 vn, .int .i64 vr, .int .i64 nn, .int .i64 nr, .int .i64 0, .int .i64 0, .slice none 0 0, .int .i64 0, .slice a1 nm.length c1, .slice a3 tx.length c3, .bool false] 27 := (lo.set 10 (.slice a3 tx.length c3))
        have hsS : v3.grownBy (v3.setCell ⟨S, 10, none⟩ (.slice a3 tx.length c3)) (some S) := (setG v3 S 10 (.slice a3 tx.length c3))
        obtain ⟨x0, x1, x2, x3, x4, x5, x6, x7, x8, x9, x10, x11⟩ := lo.twelve
        have f10 := lo.frozen 10
        have hRn := hR.keepG hsS (by simp; omega) (fun k hk => by simp at hk; omega)
        have lrn := lr.frm (Frm.ofGrown hsS) (by simp; omega)
        replace ho1 := ho1.keepBy hsS (.inr (fun e => by have := (ho1.lt S e).1; omega))
        replace ho3 := ho3.keepBy hsS (.inr (fun e => by have := (ho3.lt S e).1; omega))
        have szs3 := hsS.size
        clear hR lo lr hsS
        have hR := hRn
        have lo := lon
        have lr := lrn
        clear hRn lon lrn
        have hnd : (FB (.slice none 0 0) ++ FB (.slice a1 nm.length c1) ++ FB (.slice a3 tx.length c3)).Nodup := by
          have e0 : FB (.slice none 0 0) = [] := rfl
          simp only [e0, List.nil_append]
          exact nodup_app (FB_nodup _) (FB_nodup _) hz1 (hz3.mono (by omega) (Nat.le_refl _))
        replace ho1 := ho1.mono (show w.heap.size + 1 ≤ _ by omega)
        replace ho3 := ho3.mono (show w.heap.size + 1 ≤ _ by omega)
        have KK := hide (show RosAt w (v3.setCell ⟨S, 10, none⟩ (.slice a3 tx.length c3)) g S (.slice a l.length c) l Z from ⟨_, _, _, _, _, unhide HX', (Nat.zero_le _), hR, lo, lr, ⟨ownz_nil _ _, ho1, ho3, hnd⟩⟩)
        clear hR lo lr hnd ho1 hz1 ho3 hz3
        go_wp2_with fail
        go_meet
        exact unhide KK
    have d0 : (kz == 0) = false := by simpa using hk
    have d1 : (kz == 1) = false := by simpa using h1
    have d2 : (kz == 2) = false := by simpa using h2
    have d3 : (kz == 3) = false := by simpa using h3
    have HX' := hide (show Z = _ from (unhide HX).trans (by unfold rdRest; rw [if_neg hk, if_neg h1, if_neg h2, if_neg h3]))
    have KK := hide (show RosAt w wc0 g S (.slice a l.length c) l Z from ⟨_, _, _, _, _, unhide HX', (Nat.zero_le _), hR, lo, lr, ⟨ownz_nil _ _, own_nilB _ _, own_nilB _ _, List.nodup_nil⟩⟩)
    clear hR lr lo hk h1 h2 h3 HX HX'
    go_wp2_with fail
    go_meet
    exact unhide KK
  case rest =>
  obtain ⟨o, p, k, n, t, rfl, hkl, hR, lo, lr, hOw⟩ := hcut
  clear HX
  have HKL := hide hkl
  clear hkl
  obtain ⟨a1, c1, rfl, _, _⟩ := hOw.1.ints.shape
  obtain ⟨a2, c2, rfl, _, _⟩ := hOw.2.1.byt.shape
  obtain ⟨a3, c3, rfl, _, _⟩ := hOw.2.2.1.byt.shape
  generalize hnK : o.key.length = nK at *
  generalize hnN : o.name.length = nN at *
  generalize hnT : o.text.length = nT at *
  have HNK := hide hnK
  clear hnK hnN hnT
  have hat := hR.box.cell 1
  have hgS := hR.box.lt
  have hwl := lr.lt
  have hSl := lo.lt
  simp only [List.getElem?_toArray, List.getElem?_cons_succ, List.getElem?_cons_zero] at hat
  have HO := hide (fun (W : World) (hW : Below wc.heap.size wc W) => opS_any W _ o (hOw.keep hW).rd)
  have HBy := hide (fun (W : World) (hW : Below wc.heap.size wc W) => bytesS_any W _ o (hOw.keep hW).rd (by have := unhide HKL; have := unhide HNK; omega))
  have HOW := hide hOw
  clear hOw
  unfold opVal at HO HBy
  obtain ⟨x0, x1, x2, x3, x4, x5, x6, x7, x8, x9, x10, x11⟩ := lo.twelve
  have HLO := hide lo
  have HR := hide hR
  have HLR := hide lr
  clear lo hR lr
  go_upto_region 24 with fail
  go_cut [90] from 71 to 89 (fun s90 wx => s90 = .bool (!ansOk (o, p) l) ∧ Below wc.heap.size wc wx)
  case first =>
    by_cases hp : p = (l.length : Int)
    · by_cases hq : opB o = true
      · subst hp
        rw [hq] at HO
        have HEQ := hide (fun h => str_beq (a := opBytes o) h (unhide HOK))
        have HCS := hide (fun (W : World) (u : Value) (hu : Byt W u (opBytes o)) => conv_any W u _ hu)
        have HY := hide (show ansOk (o, (l.length : Int)) l = decide (opBytes o = l) by unfold ansOk; rw [Bool.eq_iff_iff]; simp [hq])
        clear hq
        generalize opBytes o = rb at *
        have d0 := unhide HCB wc.drew ((unhide HR).below.drew)
        go_region_with (first
            | (go_at_call 8; refine (unhide HO _ ((Below.refl _ _).drew)).mono ?_; clear HO; rintro e w7 ⟨rfl, hB7⟩; have hK7 := bstep ((Below.refl wc.heap.size wc).drew) hB7; obtain ⟨x0, x1, x2, x3, x4, x5, x6, x7, x8, x9, x10, x11⟩ := ((unhide HLO).all hK7).twelve; have hat := ((unhide HR).keep hK7).box.cell 1; simp only [List.getElem?_toArray, List.getElem?_cons_succ, List.getElem?_cons_zero] at hat; have d7 := unhide HCB w7 (bstep (unhide HR).below hK7))
            | (go_at_call 48; refine (unhide HBy _ hK7).mono ?_; clear HBy; rintro e w8 ⟨ab, cb, rfl, hob, hB8⟩; have hK8 := bstep hK7 hB8; obtain ⟨x0, x1, x2, x3, x4, x5, x6, x7, x8, x9, x10, x11⟩ := ((unhide HLO).all hK8).twelve; have hat := ((unhide HR).keep hK8).box.cell 1; simp only [List.getElem?_toArray, List.getElem?_cons_succ, List.getElem?_cons_zero] at hat; have d8 := unhide HCB w8 (bstep (unhide HR).below hK8); have d9 := unhide HCS w8 _ hob.byt))
        all_goals
          go_wp2_with fail
          go_meet
          exact ⟨by rw [unhide HY]; exact congrArg (fun b => Value.bool (!b)) (unhide HEQ hob.byt.1), hK8⟩
      · have hq' : opB o = false := by simpa using hq
        subst hp
        rw [hq'] at HO
        have HY := hide (ansOk_b (p := (l.length : Int)) (l := l) hq')
        clear hq hq' HBy
        first | go_region_with (first | (go_at_call 8; refine (unhide HO _ ((Below.refl _ _).drew)).mono ?_; clear HO; rintro e w7 ⟨rfl, hB7⟩; have hK7 := bstep ((Below.refl wc.heap.size wc).drew) hB7; obtain ⟨x0, x1, x2, x3, x4, x5, x6, x7, x8, x9, x10, x11⟩ := ((unhide HLO).all hK7).twelve; have hat := ((unhide HR).keep hK7).box.cell 1; simp only [List.getElem?_toArray, List.getElem?_cons_succ, List.getElem?_cons_zero] at hat)) | fail
        all_goals
          go_wp2_with fail
          go_meet
          exact ⟨by rw [unhide HY]; rfl, hK7⟩
    · have HY := hide (ansOk_p (o := o) hp)
      have dp : (p == (l.length : Int)) = false := by simpa using hp
      have dp2 : (p != (l.length : Int)) = true := by simpa using hp
      have dp3 : decide (p = (l.length : Int)) = false := by simpa using hp
      clear HO HBy
      go_region
      all_goals
        go_wp2_with fail
        go_meet
        exact ⟨by rw [unhide HY]; rfl, (Below.refl _ _).drew⟩
  case rest =>
    obtain ⟨rfl, hK⟩ := hcut
    have hR := (unhide HR).keep hK
    have lo := (unhide HLO).all hK
    have lr := (unhide HLR).all hK
    have hO := (unhide HOW).keep hK
    clear HR HLO HLR HOW hK HO HBy x0 x1 x2 x3 x4 x5 x6 x7 x8 x9 x10 x11 hat
    cases hans : ansOk (o, p) l with
    | true =>
      have HZ := hide hans
      clear hans
      obtain ⟨y0, y1, y2, y3, y4, y5, y6, y7, y8, y9, y10, y11⟩ := lo.twelve
      have lrz : Loc ((((((((((((wc.setCell ⟨w.heap.size, 0, none⟩ (.int .i64 o.kind)).setCell ⟨w.heap.size, 1, none⟩ (.int .i64 o.atN)).setCell ⟨w.heap.size, 2, none⟩ (.int .i64 o.atR)).setCell ⟨w.heap.size, 3, none⟩ (.int .i64 o.nodeN)).setCell ⟨w.heap.size, 4, none⟩ (.int .i64 o.nodeR)).setCell ⟨w.heap.size, 5, none⟩ (.int .i64 o.parN)).setCell ⟨w.heap.size, 6, none⟩ (.int .i64 o.parR)).setCell ⟨w.heap.size, 7, none⟩ (.slice a1 nK c1)).setCell ⟨w.heap.size, 8, none⟩ (.int .i64 o.elem)).setCell ⟨w.heap.size, 9, none⟩ (.slice a2 nN c2)).setCell ⟨w.heap.size, 10, none⟩ (.slice a3 nT c3)).setCell ⟨w.heap.size, 11, none⟩ (.bool o.gone)) w.heap.size #[.int .i64 o.kind, .int .i64 o.atN, .int .i64 o.atR, .int .i64 o.nodeN, .int .i64 o.nodeR, .int .i64 o.parN, .int .i64 o.parR, .slice a1 nK c1, .int .i64 o.elem, .slice a2 nN c2, .slice a3 nT c3, .bool o.gone] 27 := set_twelve lr (.int .i64 o.kind) (.int .i64 o.atN) (.int .i64 o.atR) (.int .i64 o.nodeN) (.int .i64 o.nodeR) (.int .i64 o.parN) (.int .i64 o.parR) (.slice a1 nK c1) (.int .i64 o.elem) (.slice a2 nN c2) (.slice a3 nT c3) (.bool o.gone)
      have hsR : wc.grownBy ((((((((((((wc.setCell ⟨w.heap.size, 0, none⟩ (.int .i64 o.kind)).setCell ⟨w.heap.size, 1, none⟩ (.int .i64 o.atN)).setCell ⟨w.heap.size, 2, none⟩ (.int .i64 o.atR)).setCell ⟨w.heap.size, 3, none⟩ (.int .i64 o.nodeN)).setCell ⟨w.heap.size, 4, none⟩ (.int .i64 o.nodeR)).setCell ⟨w.heap.size, 5, none⟩ (.int .i64 o.parN)).setCell ⟨w.heap.size, 6, none⟩ (.int .i64 o.parR)).setCell ⟨w.heap.size, 7, none⟩ (.slice a1 nK c1)).setCell ⟨w.heap.size, 8, none⟩ (.int .i64 o.elem)).setCell ⟨w.heap.size, 9, none⟩ (.slice a2 nN c2)).setCell ⟨w.heap.size, 10, none⟩ (.slice a3 nT c3)).setCell ⟨w.heap.size, 11, none⟩ (.bool o.gone)) (some w.heap.size) := grow_twelve _ _ (.int .i64 o.kind) (.int .i64 o.atN) (.int .i64 o.atR) (.int .i64 o.nodeN) (.int .i64 o.nodeR) (.int .i64 o.parN) (.int .i64 o.parR) (.slice a1 nK c1) (.int .i64 o.elem) (.slice a2 nN c2) (.slice a3 nT c3) (.bool o.gone)
      have hBz := (bstepBy hR.below hsR (fun k hk => by simp at hk; omega))
      obtain ⟨z0, z1, z2, z3, z4, z5, z6, z7, z8, z9, z10, z11⟩ := lr.twelve
      have g0 := lr.frozen 0
      have g1 := lr.frozen 1
      have g2 := lr.frozen 2
      have g3 := lr.frozen 3
      have g4 := lr.frozen 4
      have g5 := lr.frozen 5
      have g6 := lr.frozen 6
      have g7 := lr.frozen 7
      have g8 := lr.frozen 8
      have g9 := lr.frozen 9
      have g10 := lr.frozen 10
      have g11 := lr.frozen 11
      have hO9 : OwOp ((((((((((((wc.setCell ⟨w.heap.size, 0, none⟩ (.int .i64 o.kind)).setCell ⟨w.heap.size, 1, none⟩ (.int .i64 o.atN)).setCell ⟨w.heap.size, 2, none⟩ (.int .i64 o.atR)).setCell ⟨w.heap.size, 3, none⟩ (.int .i64 o.nodeN)).setCell ⟨w.heap.size, 4, none⟩ (.int .i64 o.nodeR)).setCell ⟨w.heap.size, 5, none⟩ (.int .i64 o.parN)).setCell ⟨w.heap.size, 6, none⟩ (.int .i64 o.parR)).setCell ⟨w.heap.size, 7, none⟩ (.slice a1 nK c1)).setCell ⟨w.heap.size, 8, none⟩ (.int .i64 o.elem)).setCell ⟨w.heap.size, 9, none⟩ (.slice a2 nN c2)).setCell ⟨w.heap.size, 10, none⟩ (.slice a3 nT c3)).setCell ⟨w.heap.size, 11, none⟩ (.bool o.gone)) w.heap.size o (.slice a1 nK c1) (.slice a2 nN c2) (.slice a3 nT c3) := ⟨(hO.1.keepBy hsR (.inr (fun e => by have := (hO.1.lt _ e).1; omega))).mono (Nat.le_succ _), (hO.2.1.keepBy hsR (.inr (fun e => by have := (hO.2.1.lt _ e).1; omega))).mono (Nat.le_succ _), (hO.2.2.1.keepBy hsR (.inr (fun e => by have := (hO.2.2.1.lt _ e).1; omega))).mono (Nat.le_succ _), hO.2.2.2⟩
      have KK := hide (And.intro lrz (And.intro hBz hO9))
      clear lrz hsR hBz hO9 hR lo lr hO
      go_upto_region 26 with fail
      go_cut [3] from 92 to 92 (fun s3 wx => s3 = .bool true ∧ Loc wx w.heap.size #[.int .i64 o.kind, .int .i64 o.atN, .int .i64 o.atR, .int .i64 o.nodeN, .int .i64 o.nodeR, .int .i64 o.parN, .int .i64 o.parR, .slice a1 nK c1, .int .i64 o.elem, .slice a2 nN c2, .slice a3 nT c3, .bool o.gone] 27 ∧ Below w.heap.size w wx ∧ OwOp wx w.heap.size o (.slice a1 nK c1) (.slice a2 nN c2) (.slice a3 nT c3))
      case first =>
        go_wp2_with fail
        go_meet
        exact ⟨rfl, unhide KK⟩
      case rest =>
        obtain ⟨rfl, hL, hB9, hO9⟩ := hcut
        clear KK z0 z1 z2 z3 z4 z5 z6 z7 z8 z9 z10 z11 g0 g1 g2 g3 g4 g5 g6 g7 g8 g9 g10 g11 y0 y1 y2 y3 y4 y5 y6 y7 y8 y9 y10 y11
        obtain ⟨e0, e1, e2, e3, e4, e5, e6, e7, e8, e9, e10, e11⟩ := hL.twelve
        clear hL
        go_wp2_with fail
        exact bodyPost_ret (v := .tuple #[.agg #[.int .i64 o.kind, .int .i64 o.atN, .int .i64 o.atR, .int .i64 o.nodeN, .int .i64 o.nodeR, .int .i64 o.parN, .int .i64 o.parR, .slice a1 nK c1, .int .i64 o.elem, .slice a2 nN c2, .slice a3 nT c3, .bool o.gone], .bool true]) (by simp [results, Try.results14, go_sem, e0, e1, e2, e3, e4, e5, e6, e7, e8, e9, e10, e11]) rfl (unhide HQ _ _ (ros_yes (q := (o, p)) (unhide HZ) hO9 hB9))
    | false =>
      have HZ := hide hans
      clear hans
      have lrz : Loc ((((((((((((wc.setCell ⟨w.heap.size, 0, none⟩ (.int .i64 0)).setCell ⟨w.heap.size, 1, none⟩ (.int .i64 0)).setCell ⟨w.heap.size, 2, none⟩ (.int .i64 0)).setCell ⟨w.heap.size, 3, none⟩ (.int .i64 0)).setCell ⟨w.heap.size, 4, none⟩ (.int .i64 0)).setCell ⟨w.heap.size, 5, none⟩ (.int .i64 0)).setCell ⟨w.heap.size, 6, none⟩ (.int .i64 0)).setCell ⟨w.heap.size, 7, none⟩ (.slice none 0 0)).setCell ⟨w.heap.size, 8, none⟩ (.int .i64 0)).setCell ⟨w.heap.size, 9, none⟩ (.slice none 0 0)).setCell ⟨w.heap.size, 10, none⟩ (.slice none 0 0)).setCell ⟨w.heap.size, 11, none⟩ (.bool false)) w.heap.size #[.int .i64 0, .int .i64 0, .int .i64 0, .int .i64 0, .int .i64 0, .int .i64 0, .int .i64 0, .slice none 0 0, .int .i64 0, .slice none 0 0, .slice none 0 0, .bool false] 27 := set_twelve lr (.int .i64 0) (.int .i64 0) (.int .i64 0) (.int .i64 0) (.int .i64 0) (.int .i64 0) (.int .i64 0) (.slice none 0 0) (.int .i64 0) (.slice none 0 0) (.slice none 0 0) (.bool false)
      have hsR : wc.grownBy ((((((((((((wc.setCell ⟨w.heap.size, 0, none⟩ (.int .i64 0)).setCell ⟨w.heap.size, 1, none⟩ (.int .i64 0)).setCell ⟨w.heap.size, 2, none⟩ (.int .i64 0)).setCell ⟨w.heap.size, 3, none⟩ (.int .i64 0)).setCell ⟨w.heap.size, 4, none⟩ (.int .i64 0)).setCell ⟨w.heap.size, 5, none⟩ (.int .i64 0)).setCell ⟨w.heap.size, 6, none⟩ (.int .i64 0)).setCell ⟨w.heap.size, 7, none⟩ (.slice none 0 0)).setCell ⟨w.heap.size, 8, none⟩ (.int .i64 0)).setCell ⟨w.heap.size, 9, none⟩ (.slice none 0 0)).setCell ⟨w.heap.size, 10, none⟩ (.slice none 0 0)).setCell ⟨w.heap.size, 11, none⟩ (.bool false)) (some w.heap.size) := grow_twelve _ _ (.int .i64 0) (.int .i64 0) (.int .i64 0) (.int .i64 0) (.int .i64 0) (.int .i64 0) (.int .i64 0) (.slice none 0 0) (.int .i64 0) (.slice none 0 0) (.slice none 0 0) (.bool false)
      have hBz := (bstepBy hR.below hsR (fun k hk => by simp at hk; omega))
      obtain ⟨z0, z1, z2, z3, z4, z5, z6, z7, z8, z9, z10, z11⟩ := lr.twelve
      have g0 := lr.frozen 0
      have g1 := lr.frozen 1
      have g2 := lr.frozen 2
      have g3 := lr.frozen 3
      have g4 := lr.frozen 4
      have g5 := lr.frozen 5
      have g6 := lr.frozen 6
      have g7 := lr.frozen 7
      have g8 := lr.frozen 8
      have g9 := lr.frozen 9
      have g10 := lr.frozen 10
      have g11 := lr.frozen 11
      have KK := hide (And.intro lrz hBz)
      clear lrz hsR hBz hR lo lr hO
      go_upto_region 25 with fail
      go_cut [3] from 91 to 91 (fun s3 wx => s3 = .bool false ∧ Loc wx w.heap.size #[.int .i64 0, .int .i64 0, .int .i64 0, .int .i64 0, .int .i64 0, .int .i64 0, .int .i64 0, .slice none 0 0, .int .i64 0, .slice none 0 0, .slice none 0 0, .bool false] 27 ∧ Below w.heap.size w wx)
      case first =>
        go_wp2_with fail
        go_meet
        exact ⟨rfl, unhide KK⟩
      case rest =>
        obtain ⟨rfl, hL, hB9⟩ := hcut
        clear KK z0 z1 z2 z3 z4 z5 z6 z7 z8 z9 z10 z11 g0 g1 g2 g3 g4 g5 g6 g7 g8 g9 g10 g11
        obtain ⟨e0, e1, e2, e3, e4, e5, e6, e7, e8, e9, e10, e11⟩ := hL.twelve
        clear hL
        go_wp2_with fail
        exact bodyPost_ret (v := .tuple #[.agg #[.int .i64 0, .int .i64 0, .int .i64 0, .int .i64 0, .int .i64 0, .int .i64 0, .int .i64 0, .slice none 0 0, .int .i64 0, .slice none 0 0, .slice none 0 0, .bool false], .bool false]) (by simp [results, Try.results14, go_sem, e0, e1, e2, e3, e4, e5, e6, e7, e8, e9, e10, e11]) rfl (unhide HQ _ _ (ros_no (unhide HZ) hB9))
end Go.Proofs.Ytcabolcfoijglaa
