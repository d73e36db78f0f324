/- Own texts joined: RopS, PutOI, NameI, IdI, OpN, KeyI. -/
import Derived.Test.YtcabolcfoijglaaJa
import Derived.Test.YtcabolcfoijglaaJb
import Derived.Test.YtcabolcfoijglaaJc
import Derived.Test.YtcabolcfoijglaaJd
import Derived.Deep.CutBlock
import Derived.Test.YtcabolcfoijglaaChecked

/- spec.OpRead. -/
namespace Go.Proofs.Ytcabolcfoijglaa
open Go.RowKit
set_option linter.unusedVariables false
set_option maxRecDepth 100000

theorem calls_via {P : Program} {f : FuncId} {args : Array Value} {w : World} {R : Ending → World → Prop} (h : ∀ Q : Ending → World → Prop, Hid (∀ e w', R e w' → Q e w') → Calls P f args w Q) : Calls P f args w R := h R (hide fun _ _ h => h)
def ansOk (q : OpV × Int) (l : List Int) : Bool := q.2 == (l.length : Int) && (opB q.1 && (opBytes q.1 == l))
def ansV (q : OpV × Int) (l : List Int) : OpV := if ansOk q l then q.1 else zeroV
theorem ansOk_p {o : OpV} {p : Int} {l : List Int} (h : ¬ p = (l.length : Int)) : ansOk (o, p) l = false := by
  unfold ansOk
  simp [h]
theorem ansOk_b {o : OpV} {p : Int} {l : List Int} (h : opB o = false) : ansOk (o, p) l = false := by
  unfold ansOk
  simp [h]
theorem ansOk_n {o : OpV} {p : Int} {l : List Int} (h : ¬ opBytes o = l) : ansOk (o, p) l = false := by
  unfold ansOk
  simp [h]
theorem ansOk_y {o : OpV} {l : List Int} (h : opB o = true) (hb : opBytes o = l) : ansOk (o, (l.length : Int)) l = true := by
  unfold ansOk
  simp [h, hb]
theorem ros_no {w w' : World} {q : OpV × Int} {l : List Int} (h : ansOk q l = false) (hB : Below w.heap.size w w') :
    ∃ k n t, Ending.returned (.tuple #[.agg #[.int .i64 0, .int .i64 0, .int .i64 0, .int .i64 0, .int .i64 0, .int .i64 0, .int .i64 0, .slice none 0 0, .int .i64 0, .slice none 0 0, .slice none 0 0, .bool false], .bool false]) = .returned (.tuple #[opVal (ansV q l) k n t, .bool (ansOk q l)]) ∧ OwOp w' w.heap.size (ansV q l) k n t ∧ Below w.heap.size w w' := by
  unfold ansV
  rw [h, if_neg (by decide)]
  exact ⟨.slice none 0 0, .slice none 0 0, .slice none 0 0, rfl, ⟨ownz_nil _ _, own_nilB _ _, own_nilB _ _, List.nodup_nil⟩, hB⟩
theorem ros_yes {w w' : World} {q : OpV × Int} {l : List Int} {k n t : Value} (h : ansOk q l = true) (ho : OwOp w' w.heap.size q.1 k n t) (hB : Below w.heap.size w w') :
    ∃ k' n' t', Ending.returned (.tuple #[opVal q.1 k n t, .bool true]) = .returned (.tuple #[opVal (ansV q l) k' n' t', .bool (ansOk q l)]) ∧ OwOp w' w.heap.size (ansV q l) k' n' t' ∧ Below w.heap.size w w' := by
  unfold ansV
  rw [h, if_pos rfl]
  exact ⟨k, n, t, rfl, ho, hB⟩
/-- What stands behind the switch: the operation read, in its box S, the reader at g, the result's box. -/
def RosAt (w wx : World) (g S : Nat) (code : Value) (l : List Int) (Z : OpV × Int) : Prop := ∃ (o : OpV) (p : Int) (k n t : Value), Z = (o, p) ∧ o.key.length ≤ 13 ∧ Rd 72 w wx g code l p ∧ Loc wx S #[.int .i64 o.kind, .int .i64 o.atN, .int .i64 o.atR, .int .i64 o.nodeN, .int .i64 o.nodeR, .int .i64 o.parN, .int .i64 o.parR, k, .int .i64 o.elem, n, t, .bool o.gone] 27 ∧ Loc wx w.heap.size #[.int .i64 0, .int .i64 0, .int .i64 0, .int .i64 0, .int .i64 0, .int .i64 0, .int .i64 0, .slice none 0 0, .int .i64 0, .slice none 0 0, .slice none 0 0, .bool false] 27 ∧ OwOp wx (w.heap.size + 1) o k n t

set_option maxHeartbeats 12800000 in
theorem readS_any (w : World) (code : Value) (l : List Int) (hb : Byt w code l) :
    Calls Try.prog 14 #[code] w fun e w' => ∃ k n t, e = .returned (.tuple #[opVal (ansV (opRd rdKeyS l) l) k n t, .bool (ansOk (opRd rdKeyS l) l)]) ∧ OwOp w' w.heap.size (ansV (opRd rdKeyS l) l) k n t ∧ Below w.heap.size w w' := by
  have HCB := hide (fun (W : World) (hW : Below w.heap.size w W) => conv_any W code l (hb.keep hW))
  have HOK := hide hb.1
  have lr := Loc.made w #[.int .i64 0, .int .i64 0, .int .i64 0, .int .i64 0, .int .i64 0, .int .i64 0, .int .i64 0, .slice none 0 0, .int .i64 0, .slice none 0 0, .slice none 0 0, .bool false] 27
  have hA := (Below.refl w.heap.size w).alloc (Nat.le_refl _) (.cells #[.int .i64 0, .int .i64 0, .int .i64 0, .int .i64 0, .int .i64 0, .int .i64 0, .int .i64 0, .slice none 0 0, .int .i64 0, .slice none 0 0, .slice none 0 0, .bool false] 27)
  have hsz : (w.alloc (.cells #[.int .i64 0, .int .i64 0, .int .i64 0, .int .i64 0, .int .i64 0, .int .i64 0, .int .i64 0, .slice none 0 0, .int .i64 0, .slice none 0 0, .slice none 0 0, .bool false] 27)).heap.size = w.heap.size + 1 := by simp
  have hbx := Loc.made (w.alloc (.cells #[.int .i64 0, .int .i64 0, .int .i64 0, .int .i64 0, .int .i64 0, .int .i64 0, .int .i64 0, .slice none 0 0, .int .i64 0, .slice none 0 0, .slice none 0 0, .bool false] 27)) #[code, .int .i64 0] 72
  rw [hsz] at hbx
  have hAA := hA.alloc (by simp) (.cells #[code, .int .i64 0] 72)
  have lr2 := lr.alloc (.cells #[code, .int .i64 0] 72)
  have hR : Rd 72 w ((w.alloc (.cells #[.int .i64 0, .int .i64 0, .int .i64 0, .int .i64 0, .int .i64 0, .int .i64 0, .int .i64 0, .slice none 0 0, .int .i64 0, .slice none 0 0, .slice none 0 0, .bool false] 27)).alloc (.cells #[code, .int .i64 0] 72)) (w.heap.size + 1) code l 0 := ⟨hb, hAA, by omega, hbx, by omega, by omega⟩
  clear hA hsz hbx hAA lr
  obtain ⟨a, c, rfl, hl1, hl2⟩ := hb.shape
  have hln := hb.2.1
  clear hb
  unfold maxLen at hln hl2
  have H0 := hide (fun g W (hW : Rd 72 w W g (.slice a l.length c) l 0) => l4get_any w W g (.slice a l.length c) l 0 hW)
  have H1 := hide (fun g W (hW : Rd 72 w W g (.slice a l.length c) l (getN l 0).2) => l4getId_any w W g (.slice a l.length c) l (getN l 0).2 hW)
  have HX : Hid (opRd rdKeyS l = rdRest rdKeyS l (getN l 0).1 (rdId l (getN l 0).2).1.1 (rdId l (getN l 0).2).1.2 (rdId l (getN l 0).2).2) := hide rfl
  generalize opRd rdKeyS l = Z at *
  generalize (rdId l (getN l 0).2) = q1 at *
  generalize (getN l 0) = q0 at *
  obtain ⟨kz, p1⟩ := q0
  obtain ⟨⟨vn, vr⟩, p2⟩ := q1
  simp only at *
  refine calls_via ?_
  intro Q HQ
  have LL := hide (And.intro hR lr2)
  clear hR lr2
  go_enter Try.func14, Try.ntmps14
  go_wp2_with fail
  obtain ⟨hR, lr⟩ := unhide LL
  clear LL
  generalize ((w.alloc (.cells #[.int .i64 0, .int .i64 0, .int .i64 0, .int .i64 0, .int .i64 0, .int .i64 0, .int .i64 0, .slice none 0 0, .int .i64 0, .slice none 0 0, .slice none 0 0, .bool false] 27)).alloc (.cells #[(.slice a l.length c), .int .i64 0] 72)) = wa at *
  generalize hgg : w.heap.size + 1 = g at *
  refine (unhide H0 g wa hR).mono ?_
  rintro e w1 ⟨rfl, hRn, hGn⟩
  have lrn := lr.frm (Frm.ofGrown hGn) (by simp; omega)
  have hgS := hRn.box.lt
  have hAb := (Below.refl w1.heap.size w1).alloc (Nat.le_refl _) (.cells #[.int .i64 kz, .int .i64 0, .int .i64 0, .int .i64 0, .int .i64 0, .int .i64 0, .int .i64 0, .slice none 0 0, .int .i64 0, .slice none 0 0, .slice none 0 0, .bool false] 27)
  have lo := Loc.made w1 #[.int .i64 kz, .int .i64 0, .int .i64 0, .int .i64 0, .int .i64 0, .int .i64 0, .int .i64 0, .slice none 0 0, .int .i64 0, .slice none 0 0, .slice none 0 0, .bool false] 27
  have LL := hide (And.intro (hRn.keep hAb) (And.intro (lrn.all hAb) lo))
  clear hR lr hRn hGn lrn hAb lo
  go_wp2_with fail
  obtain ⟨hR, lr, lo⟩ := unhide LL
  clear LL
  generalize (w1.alloc (.cells #[.int .i64 kz, .int .i64 0, .int .i64 0, .int .i64 0, .int .i64 0, .int .i64 0, .int .i64 0, .slice none 0 0, .int .i64 0, .slice none 0 0, .slice none 0 0, .bool false] 27)) = wb at *
  generalize w1.heap.size = S at *
  refine (unhide H1 g wb hR).mono ?_
  rintro e w2 ⟨rfl, hRn, hGn⟩
  have lrn := lr.frm (Frm.ofGrown hGn) (by simp; omega)
  have lon := lo.frm (Frm.ofGrown hGn) (by simp; omega)
  have loz : Loc ((w2.setCell ⟨S, 1, none⟩ (.int .i64 vn)).setCell ⟨S, 2, none⟩ (.int .i64 vr)) S #[.int .i64 kz, .int .i64 vn, .int .i64 vr, .int .i64 0, .int .i64 0, .int .i64 0, .int .i64 0, .slice none 0 0, .int .i64 0, .slice none 0 0, .slice none 0 0, .bool false] 27 := (lon.set 1 (.int .i64 vn)).set 2 (.int .i64 vr)
  have hsS : w2.grownBy ((w2.setCell ⟨S, 1, none⟩ (.int .i64 vn)).setCell ⟨S, 2, none⟩ (.int .i64 vr)) (some S) := grown_trans (setG w2 S 1 (.int .i64 vn)) (setG _ S 2 (.int .i64 vr))
  obtain ⟨x0, x1, x2, x3, x4, x5, x6, x7, x8, x9, x10, x11⟩ := lon.twelve
  have f1 := lon.frozen 1
  have f2 := lon.frozen 2
  have y0 := loz.cell 0
  have LL := hide (And.intro (hRn.keepG hsS (by simp; omega) (fun k hk => by simp at hk; omega)) (And.intro (lrn.frm (Frm.ofGrown hsS) (by simp; omega)) loz))
  clear hR lr lo hRn hGn lrn lon loz hsS H0 H1
  go_upto_block 0 with fail
  obtain ⟨hR, lr, lo⟩ := unhide LL
  clear LL x0 x1 x2 x3 x4 x5 x6 x7 x8 x9 x10 x11 f1 f2 y0
  generalize ((w2.setCell ⟨S, 1, none⟩ (.int .i64 vn)).setCell ⟨S, 2, none⟩ (.int .i64 vr)) = wc0 at *
  go_cut [] from 15 to 70 (fun wx => RosAt w wx g S (.slice a l.length c) l Z)
  case first =>
    by_cases hk : kz = 0
    ·
      have HX' := hide (show Z = _ from (unhide HX).trans (by unfold rdRest; rw [hk, if_pos rfl]))
      clear HX
      have H0 := hide (fun W (hW : Rd 72 w W g (.slice a l.length c) l p2) => l4getId_any w W g (.slice a l.length c) l p2 hW)
      have H1 := hide (fun W (hW : Rd 72 w W g (.slice a l.length c) l (rdId l p2).2) => l4getKey_any w W g (.slice a l.length c) l (rdId l p2).2 hW)
      have H2 := hide (fun W (hW : Rd 72 w W g (.slice a l.length c) l (rdKeyS l (rdId l p2).2).2) => l4get_any w W g (.slice a l.length c) l (rdKeyS l (rdId l p2).2).2 hW)
      have H3 := hide (fun W (hW : Rd 72 w W g (.slice a l.length c) l (getN l (rdKeyS l (rdId l p2).2).2).2) => l4text_any w W g (.slice a l.length c) l (getN l (rdKeyS l (rdId l p2).2).2).2 hW)
      have H4 := hide (fun W (hW : Rd 72 w W g (.slice a l.length c) l (getT l (getN l (rdKeyS l (rdId l p2).2).2).2).2) => l4text_any w W g (.slice a l.length c) l (getT l (getN l (rdKeyS l (rdId l p2).2).2).2).2 hW)
      generalize (getT l (getT l (getN l (rdKeyS l (rdId l p2).2).2).2).2) = q4 at *
      generalize (getT l (getN l (rdKeyS l (rdId l p2).2).2).2) = q3 at *
      generalize (getN l (rdKeyS l (rdId l p2).2).2) = q2 at *
      generalize (rdKeyS l (rdId l p2).2) = q1 at *
      generalize (rdId l p2) = q0 at *
      obtain ⟨⟨pn, pr⟩, p3⟩ := q0
      obtain ⟨ks, p4⟩ := q1
      obtain ⟨el, p5⟩ := q2
      obtain ⟨nm, p6⟩ := q3
      obtain ⟨tx, p7⟩ := q4
      simp only at *
      subst hk
      have LL := hide (And.intro hR (And.intro lr lo))
      clear hR lr lo
      go_wp2_with fail
      obtain ⟨hR, lr, lo⟩ := unhide LL
      clear LL
      refine (unhide H0 wc0 hR).mono ?_
      rintro e v0 ⟨rfl, hRn, hGn⟩
      have sz0 := hGn.size
      have lrn := lr.frm (Frm.ofGrown hGn) (by simp; omega)
      have lon := lo.frm (Frm.ofGrown hGn) (by simp; omega)
      clear hGn hR lo lr
      have hR := hRn
      have lo := lon
      have lr := lrn
      clear hRn lon lrn
      have lon : Loc ((v0.setCell ⟨S, 5, none⟩ (.int .i64 pn)).setCell ⟨S, 6, none⟩ (.int .i64 pr)) S #[.int .i64 0, .int .i64 vn, .int .i64 vr, .int .i64 0, .int .i64 0, .int .i64 pn, .int .i64 pr, .slice none 0 0, .int .i64 0, .slice none 0 0, .slice none 0 0, .bool false] 27 := ((lo.set 5 (.int .i64 pn)).set 6 (.int .i64 pr))
      have hsS : v0.grownBy ((v0.setCell ⟨S, 5, none⟩ (.int .i64 pn)).setCell ⟨S, 6, none⟩ (.int .i64 pr)) (some S) := (grown_trans (setG v0 S 5 (.int .i64 pn)) (setG _ S 6 (.int .i64 pr)))
      obtain ⟨x0, x1, x2, x3, x4, x5, x6, x7, x8, x9, x10, x11⟩ := lo.twelve
      have f5 := lo.frozen 5
      have f6 := lo.frozen 6
      have hRn := hR.keepG hsS (by simp; omega) (fun k hk => by simp at hk; omega)
      have lrn := lr.frm (Frm.ofGrown hsS) (by simp; omega)
      have szs0 := hsS.size
      clear hR lo lr hsS
      have hR := hRn
      have lo := lon
      have lr := lrn
      clear hRn lon lrn
      have LL := hide (And.intro hR (And.intro lr lo))
      clear hR lr lo
      go_wp2_with fail
      obtain ⟨hR, lr, lo⟩ := unhide LL
      clear LL
      clear x0 x1 x2 x3 x4 x5 x6 x7 x8 x9 x10 x11 f5 f6
      generalize ((v0.setCell ⟨S, 5, none⟩ (.int .i64 pn)).setCell ⟨S, 6, none⟩ (.int .i64 pr)) = ws1 at *
      refine (unhide H1 ws1 hR).mono ?_
      rintro e v1 ⟨a1, c1, k1, rfl, ho1, hk1, hkl, hRn, hGn⟩
      obtain rfl := unhide hk1
      have HKL := hide hkl
      clear hkl hk1
      have sz1 := hGn.size
      have lrn := lr.frm (Frm.ofGrown hGn) (by simp; omega)
      have lon := lo.frm (Frm.ofGrown hGn) (by simp; omega)
      have hs1 : S < ws1.heap.size := lo.lt
      have hg1 : g < ws1.heap.size := hR.box.lt
      have hw1 : w.heap.size < ws1.heap.size := lr.lt
      have hz1 := ho1.rng
      clear hGn hR lo lr
      have hR := hRn
      have lo := lon
      have lr := lrn
      clear hRn lon lrn
      have lon : Loc (v1.setCell ⟨S, 7, none⟩ (.slice a1 ks.length c1)) S #[.int .i64 0, .int .i64 vn, .int .i64 vr, .int .i64 0, .int .i64 0, .int .i64 pn, .int .i64 pr, .slice a1 ks.length c1, .int .i64 0, .slice none 0 0, .slice none 0 0, .bool false] 27 := (lo.set 7 (.slice a1 ks.length c1))
      have hsS : v1.grownBy (v1.setCell ⟨S, 7, none⟩ (.slice a1 ks.length c1)) (some S) := (setG v1 S 7 (.slice a1 ks.length c1))
      obtain ⟨x0, x1, x2, x3, x4, x5, x6, x7, x8, x9, x10, x11⟩ := lo.twelve
      have f7 := lo.frozen 7
      have hRn := hR.keepG hsS (by simp; omega) (fun k hk => by simp at hk; omega)
      have lrn := lr.frm (Frm.ofGrown hsS) (by simp; omega)
      replace ho1 := ho1.keepBy hsS (.inr (fun e => by have := (ho1.lt S e).1; omega))
      have szs1 := hsS.size
      clear hR lo lr hsS
      have hR := hRn
      have lo := lon
      have lr := lrn
      clear hRn lon lrn
      have HO1 := hide ho1
      clear ho1
      have LL := hide (And.intro hR (And.intro lr lo))
      clear hR lr lo
      go_wp2_with fail
      obtain ⟨hR, lr, lo⟩ := unhide LL
      clear LL
      have ho1 := unhide HO1
      clear HO1
      clear x0 x1 x2 x3 x4 x5 x6 x7 x8 x9 x10 x11 f7
      generalize (v1.setCell ⟨S, 7, none⟩ (.slice a1 ks.length c1)) = ws2 at *
      refine (unhide H2 ws2 hR).mono ?_
      rintro e v2 ⟨rfl, hRn, hGn⟩
      have sz2 := hGn.size
      have lrn := lr.frm (Frm.ofGrown hGn) (by simp; omega)
      have lon := lo.frm (Frm.ofGrown hGn) (by simp; omega)
      replace ho1 := ho1.keepBy hGn (.inr (fun e => by have := (ho1.lt _ e).1; omega))
      clear hGn hR lo lr
      have hR := hRn
      have lo := lon
      have lr := lrn
      clear hRn lon lrn
      have lon : Loc (v2.setCell ⟨S, 8, none⟩ (.int .i64 el)) S #[.int .i64 0, .int .i64 vn, .int .i64 vr, .int .i64 0, .int .i64 0, .int .i64 pn, .int .i64 pr, .slice a1 ks.length c1, .int .i64 el, .slice none 0 0, .slice none 0 0, .bool false] 27 := (lo.set 8 (.int .i64 el))
      have hsS : v2.grownBy (v2.setCell ⟨S, 8, none⟩ (.int .i64 el)) (some S) := (setG v2 S 8 (.int .i64 el))
      obtain ⟨x0, x1, x2, x3, x4, x5, x6, x7, x8, x9, x10, x11⟩ := lo.twelve
      have f8 := lo.frozen 8
      have hRn := hR.keepG hsS (by simp; omega) (fun k hk => by simp at hk; omega)
      have lrn := lr.frm (Frm.ofGrown hsS) (by simp; omega)
      replace ho1 := ho1.keepBy hsS (.inr (fun e => by have := (ho1.lt S e).1; omega))
      have szs2 := hsS.size
      clear hR lo lr hsS
      have hR := hRn
      have lo := lon
      have lr := lrn
      clear hRn lon lrn
      have HO1 := hide ho1
      clear ho1
      have LL := hide (And.intro hR (And.intro lr lo))
      clear hR lr lo
      go_wp2_with fail
      obtain ⟨hR, lr, lo⟩ := unhide LL
      clear LL
      have ho1 := unhide HO1
      clear HO1
      clear x0 x1 x2 x3 x4 x5 x6 x7 x8 x9 x10 x11 f8
      generalize (v2.setCell ⟨S, 8, none⟩ (.int .i64 el)) = ws3 at *
      refine (unhide H3 ws3 hR).mono ?_
      rintro e v3 ⟨a3, c3, rfl, ho3, hRn, hGn⟩
      have sz3 := hGn.size
      have lrn := lr.frm (Frm.ofGrown hGn) (by simp; omega)
      have lon := lo.frm (Frm.ofGrown hGn) (by simp; omega)
      replace ho1 := ho1.keepBy hGn (.inr (fun e => by have := (ho1.lt _ e).1; omega))
      have hs3 : S < ws3.heap.size := lo.lt
      have hg3 : g < ws3.heap.size := hR.box.lt
      have hw3 : w.heap.size < ws3.heap.size := lr.lt
      have hz3 := ho3.rng
      clear hGn hR lo lr
      have hR := hRn
      have lo := lon
      have lr := lrn
      clear hRn lon lrn
      have lon : Loc (v3.setCell ⟨S, 9, none⟩ (.slice a3 nm.length c3)) S #[.int .i64 0, .int .i64 vn, .int .i64 vr, .int .i64 0, .int .i64 0, .int .i64 pn, .int .i64 pr, .slice a1 ks.length c1, .int .i64 el, .slice a3 nm.length c3, .slice none 0 0, .bool false] 27 := (lo.set 9 (.slice a3 nm.length c3))
      have hsS : v3.grownBy (v3.setCell ⟨S, 9, none⟩ (.slice a3 nm.length c3)) (some S) := (setG v3 S 9 (.slice a3 nm.length c3))
      obtain ⟨x0, x1, x2, x3, x4, x5, x6, x7, x8, x9, x10, x11⟩ := lo.twelve
      have f9 := lo.frozen 9
      have hRn := hR.keepG hsS (by simp; omega) (fun k hk => by simp at hk; omega)
      have lrn := lr.frm (Frm.ofGrown hsS) (by simp; omega)
      replace ho1 := ho1.keepBy hsS (.inr (fun e => by have := (ho1.lt S e).1; omega))
      replace ho3 := ho3.keepBy hsS (.inr (fun e => by have := (ho3.lt S e).1; omega))
      have szs3 := hsS.size
      clear hR lo lr hsS
      have hR := hRn
      have lo := lon
      have lr := lrn
      clear hRn lon lrn
      have HO1 := hide ho1
      clear ho1
      have HO3 := hide ho3
      clear ho3
      have LL := hide (And.intro hR (And.intro lr lo))
      clear hR lr lo
      go_wp2_with fail
      obtain ⟨hR, lr, lo⟩ := unhide LL
      clear LL
      have ho1 := unhide HO1
      clear HO1
      have ho3 := unhide HO3
      clear HO3
      clear x0 x1 x2 x3 x4 x5 x6 x7 x8 x9 x10 x11 f9
      generalize (v3.setCell ⟨S, 9, none⟩ (.slice a3 nm.length c3)) = ws4 at *
      refine (unhide H4 ws4 hR).mono ?_
      rintro e v4 ⟨a4, c4, rfl, ho4, hRn, hGn⟩
      have sz4 := hGn.size
      have lrn := lr.frm (Frm.ofGrown hGn) (by simp; omega)
      have lon := lo.frm (Frm.ofGrown hGn) (by simp; omega)
      replace ho1 := ho1.keepBy hGn (.inr (fun e => by have := (ho1.lt _ e).1; omega))
      replace ho3 := ho3.keepBy hGn (.inr (fun e => by have := (ho3.lt _ e).1; omega))
      have hs4 : S < ws4.heap.size := lo.lt
      have hg4 : g < ws4.heap.size := hR.box.lt
      have hw4 : w.heap.size < ws4.heap.size := lr.lt
      have hz4 := ho4.rng
      clear hGn hR lo lr
      have hR := hRn
      have lo := lon
      have lr := lrn
      clear hRn lon lrn
      have lon : Loc (v4.setCell ⟨S, 10, none⟩ (.slice a4 tx.length c4)) S #[.int .i64 0, .int .i64 vn, .int .i64 vr, .int .i64 0, .int .i64 0, .int .i64 pn, .int .i64 pr, .slice a1 ks.length c1, .int .i64 el, .slice a3 nm.length c3, .slice a4 tx.length c4, .bool false] 27 := (lo.set 10 (.slice a4 tx.length c4))
      have hsS : v4.grownBy (v4.setCell ⟨S, 10, none⟩ (.slice a4 tx.length c4)) (some S) := (setG v4 S 10 (.slice a4 tx.length c4))
      obtain ⟨x0, x1, x2, x3, x4, x5, x6, x7, x8, x9, x10, x11⟩ := lo.twelve
      have f10 := lo.frozen 10
      have hRn := hR.keepG hsS (by simp; omega) (fun k hk => by simp at hk; omega)
      have lrn := lr.frm (Frm.ofGrown hsS) (by simp; omega)
      replace ho1 := ho1.keepBy hsS (.inr (fun e => by have := (ho1.lt S e).1; omega))
      replace ho3 := ho3.keepBy hsS (.inr (fun e => by have := (ho3.lt S e).1; omega))
      replace ho4 := ho4.keepBy hsS (.inr (fun e => by have := (ho4.lt S e).1; omega))
      have szs4 := hsS.size
      clear hR lo lr hsS
      have hR := hRn
      have lo := lon
      have lr := lrn
      clear hRn lon lrn
      have hnd : (FB (.slice a1 ks.length c1) ++ FB (.slice a3 nm.length c3) ++ FB (.slice a4 tx.length c4)).Nodup := by
        have e0 : FB (.slice none 0 0) = [] := rfl
        skip
        exact nodup_app (lo := 0) (nodup_app (FB_nodup _) (FB_nodup _) hz1 (hz3.mono (by omega) (Nat.le_refl _))) (FB_nodup _) ((hz1.mono (Nat.zero_le _) (by omega)).app (hz3.mono (Nat.zero_le _) (Nat.le_refl _))) (hz4.mono (by omega) (Nat.le_refl _))
      replace ho1 := ho1.mono (show w.heap.size + 1 ≤ _ by omega)
      replace ho3 := ho3.mono (show w.heap.size + 1 ≤ _ by omega)
      replace ho4 := ho4.mono (show w.heap.size + 1 ≤ _ by omega)
      have KK := hide (show RosAt w (v4.setCell ⟨S, 10, none⟩ (.slice a4 tx.length c4)) g S (.slice a l.length c) l Z from ⟨_, _, _, _, _, unhide HX', unhide HKL, hR, lo, lr, ⟨ho1, ho3, ho4, hnd⟩⟩)
      clear hR lo lr hnd ho1 hz1 ho3 hz3 ho4 hz4
      go_wp2_with fail
      go_meet
      exact unhide KK
    by_cases h1 : kz = 1
    · have hk := h1
      clear h1
      have HX' := hide (show Z = _ from (unhide HX).trans (by unfold rdRest; rw [hk, if_neg (by decide), if_pos rfl]))
      clear HX
      have H0 := hide (fun W (hW : Rd 72 w W g (.slice a l.length c) l p2) => l4getId_any w W g (.slice a l.length c) l p2 hW)
      have H1 := hide (fun W (hW : Rd 72 w W g (.slice a l.length c) l (rdId l p2).2) => l4getId_any w W g (.slice a l.length c) l (rdId l p2).2 hW)
      have H2 := hide (fun W (hW : Rd 72 w W g (.slice a l.length c) l (rdId l (rdId l p2).2).2) => l4getKey_any w W g (.slice a l.length c) l (rdId l (rdId l p2).2).2 hW)
      generalize (rdKeyS l (rdId l (rdId l p2).2).2) = q2 at *
      generalize (rdId l (rdId l p2).2) = q1 at *
      generalize (rdId l p2) = q0 at *
      obtain ⟨⟨nn, nr⟩, p3⟩ := q0
      obtain ⟨⟨pn, pr⟩, p4⟩ := q1
      obtain ⟨ks, p5⟩ := q2
      simp only at *
      subst hk
      have LL := hide (And.intro hR (And.intro lr lo))
      clear hR lr lo
      go_wp2_with fail
      obtain ⟨hR, lr, lo⟩ := unhide LL
      clear LL
      refine (unhide H0 wc0 hR).mono ?_
      rintro e v0 ⟨rfl, hRn, hGn⟩
      have sz0 := hGn.size
      have lrn := lr.frm (Frm.ofGrown hGn) (by simp; omega)
      have lon := lo.frm (Frm.ofGrown hGn) (by simp; omega)
      clear hGn hR lo lr
      have hR := hRn
      have lo := lon
      have lr := lrn
      clear hRn lon lrn
      have lon : Loc ((v0.setCell ⟨S, 3, none⟩ (.int .i64 nn)).setCell ⟨S, 4, none⟩ (.int .i64 nr)) S #[.int .i64 1, .int .i64 vn, .int .i64 vr, .int .i64 nn, .int .i64 nr, .int .i64 0, .int .i64 0, .slice none 0 0, .int .i64 0, .slice none 0 0, .slice none 0 0, .bool false] 27 := ((lo.set 3 (.int .i64 nn)).set 4 (.int .i64 nr))
      have hsS : v0.grownBy ((v0.setCell ⟨S, 3, none⟩ (.int .i64 nn)).setCell ⟨S, 4, none⟩ (.int .i64 nr)) (some S) := (grown_trans (setG v0 S 3 (.int .i64 nn)) (setG _ S 4 (.int .i64 nr)))
      obtain ⟨x0, x1, x2, x3, x4, x5, x6, x7, x8, x9, x10, x11⟩ := lo.twelve
      have f3 := lo.frozen 3
      have f4 := lo.frozen 4
      have hRn := hR.keepG hsS (by simp; omega) (fun k hk => by simp at hk; omega)
      have lrn := lr.frm (Frm.ofGrown hsS) (by simp; omega)
      have szs0 := hsS.size
      clear hR lo lr hsS
      have hR := hRn
      have lo := lon
      have lr := lrn
      clear hRn lon lrn
      have LL := hide (And.intro hR (And.intro lr lo))
      clear hR lr lo
      go_wp2_with fail
      obtain ⟨hR, lr, lo⟩ := unhide LL
      clear LL
      clear x0 x1 x2 x3 x4 x5 x6 x7 x8 x9 x10 x11 f3 f4
      generalize ((v0.setCell ⟨S, 3, none⟩ (.int .i64 nn)).setCell ⟨S, 4, none⟩ (.int .i64 nr)) = ws1 at *
      refine (unhide H1 ws1 hR).mono ?_
      rintro e v1 ⟨rfl, hRn, hGn⟩
      have sz1 := hGn.size
      have lrn := lr.frm (Frm.ofGrown hGn) (by simp; omega)
      have lon := lo.frm (Frm.ofGrown hGn) (by simp; omega)
      clear hGn hR lo lr
      have hR := hRn
      have lo := lon
      have lr := lrn
      clear hRn lon lrn
      have lon : Loc ((v1.setCell ⟨S, 5, none⟩ (.int .i64 pn)).setCell ⟨S, 6, none⟩ (.int .i64 pr)) S #[.int .i64 1, .int .i64 vn, .int .i64 vr, .int .i64 nn, .int .i64 nr, .int .i64 pn, .int .i64 pr, .slice none 0 0, .int .i64 0, .slice none 0 0, .slice none 0 0, .bool false] 27 := ((lo.set 5 (.int .i64 pn)).set 6 (.int .i64 pr))
      have hsS : v1.grownBy ((v1.setCell ⟨S, 5, none⟩ (.int .i64 pn)).setCell ⟨S, 6, none⟩ (.int .i64 pr)) (some S) := (grown_trans (setG v1 S 5 (.int .i64 pn)) (setG _ S 6 (.int .i64 pr)))
      obtain ⟨x0, x1, x2, x3, x4, x5, x6, x7, x8, x9, x10, x11⟩ := lo.twelve
      have f5 := lo.frozen 5
      have f6 := lo.frozen 6
      have hRn := hR.keepG hsS (by simp; omega) (fun k hk => by simp at hk; omega)
      have lrn := lr.frm (Frm.ofGrown hsS) (by simp; omega)
      have szs1 := hsS.size
      clear hR lo lr hsS
      have hR := hRn
      have lo := lon
      have lr := lrn
      clear hRn lon lrn
      have LL := hide (And.intro hR (And.intro lr lo))
      clear hR lr lo
      go_wp2_with fail
      obtain ⟨hR, lr, lo⟩ := unhide LL
      clear LL
      clear x0 x1 x2 x3 x4 x5 x6 x7 x8 x9 x10 x11 f5 f6
      generalize ((v1.setCell ⟨S, 5, none⟩ (.int .i64 pn)).setCell ⟨S, 6, none⟩ (.int .i64 pr)) = ws2 at *
      refine (unhide H2 ws2 hR).mono ?_
      rintro e v2 ⟨a2, c2, k2, rfl, ho2, hk2, hkl, hRn, hGn⟩
      obtain rfl := unhide hk2
      have HKL := hide hkl
      clear hkl hk2
      have sz2 := hGn.size
      have lrn := lr.frm (Frm.ofGrown hGn) (by simp; omega)
      have lon := lo.frm (Frm.ofGrown hGn) (by simp; omega)
      have hs2 : S < ws2.heap.size := lo.lt
      have hg2 : g < ws2.heap.size := hR.box.lt
      have hw2 : w.heap.size < ws2.heap.size := lr.lt
      have hz2 := ho2.rng
      clear hGn hR lo lr
      have hR := hRn
      have lo := lon
      have lr := lrn
      clear hRn lon lrn
      have lon : Loc (v2.setCell ⟨S, 7, none⟩ (.slice a2 ks.length c2)) S #[.int .i64 1, .int .i64 vn, .int .i64 vr, .int .i64 nn, .int .i64 nr, .int .i64 pn, .int .i64 pr, .slice a2 ks.length c2, .int .i64 0, .slice none 0 0, .slice none 0 0, .bool false] 27 := (lo.set 7 (.slice a2 ks.length c2))
      have hsS : v2.grownBy (v2.setCell ⟨S, 7, none⟩ (.slice a2 ks.length c2)) (some S) := (setG v2 S 7 (.slice a2 ks.length c2))
      obtain ⟨x0, x1, x2, x3, x4, x5, x6, x7, x8, x9, x10, x11⟩ := lo.twelve
      have f7 := lo.frozen 7
      have hRn := hR.keepG hsS (by simp; omega) (fun k hk => by simp at hk; omega)
      have lrn := lr.frm (Frm.ofGrown hsS) (by simp; omega)
      replace ho2 := ho2.keepBy hsS (.inr (fun e => by have := (ho2.lt S e).1; omega))
      have szs2 := hsS.size
      clear hR lo lr hsS
      have hR := hRn
      have lo := lon
      have lr := lrn
      clear hRn lon lrn
      have hnd : (FB (.slice a2 ks.length c2) ++ FB (.slice none 0 0) ++ FB (.slice none 0 0)).Nodup := by
        have e0 : FB (.slice none 0 0) = [] := rfl
        simp only [e0, List.append_nil]
        exact FB_nodup _
      replace ho2 := ho2.mono (show w.heap.size + 1 ≤ _ by omega)
      have KK := hide (show RosAt w (v2.setCell ⟨S, 7, none⟩ (.slice a2 ks.length c2)) g S (.slice a l.length c) l Z from ⟨_, _, _, _, _, unhide HX', unhide HKL, hR, lo, lr, ⟨ho2, own_nilB _ _, own_nilB _ _, hnd⟩⟩)
      clear hR lo lr hnd ho2 hz2
      go_wp2_with fail
      go_meet
      exact unhide KK
    by_cases h2 : kz = 2
    · have hk := h2
      clear h1 h2
      have HX' := hide (show Z = _ from (unhide HX).trans (by unfold rdRest; rw [hk, if_neg (by decide), if_neg (by decide), if_pos rfl]))
      clear HX
      have H0 := hide (fun W (hW : Rd 72 w W g (.slice a l.length c) l p2) => l4getId_any w W g (.slice a l.length c) l p2 hW)
      have H1 := hide (fun W (hW : Rd 72 w W g (.slice a l.length c) l (rdId l p2).2) => l4text_any w W g (.slice a l.length c) l (rdId l p2).2 hW)
      generalize (getT l (rdId l p2).2) = q1 at *
      generalize (rdId l p2) = q0 at *
      obtain ⟨⟨nn, nr⟩, p3⟩ := q0
      obtain ⟨tx, p4⟩ := q1
      simp only at *
      subst hk
      have LL := hide (And.intro hR (And.intro lr lo))
      clear hR lr lo
      go_wp2_with fail
      obtain ⟨hR, lr, lo⟩ := unhide LL
      clear LL
      refine (unhide H0 wc0 hR).mono ?_
      rintro e v0 ⟨rfl, hRn, hGn⟩
      have sz0 := hGn.size
      have lrn := lr.frm (Frm.ofGrown hGn) (by simp; omega)
      have lon := lo.frm (Frm.ofGrown hGn) (by simp; omega)
      clear hGn hR lo lr
      have hR := hRn
      have lo := lon
      have lr := lrn
      clear hRn lon lrn
      have lon : Loc ((v0.setCell ⟨S, 3, none⟩ (.int .i64 nn)).setCell ⟨S, 4, none⟩ (.int .i64 nr)) S #[.int .i64 2, .int .i64 vn, .int .i64 vr, .int .i64 nn, .int .i64 nr, .int .i64 0, .int .i64 0, .slice none 0 0, .int .i64 0, .slice none 0 0, .slice none 0 0, .bool false] 27 := ((lo.set 3 (.int .i64 nn)).set 4 (.int .i64 nr))
      have hsS : v0.grownBy ((v0.setCell ⟨S, 3, none⟩ (.int .i64 nn)).setCell ⟨S, 4, none⟩ (.int .i64 nr)) (some S) := (grown_trans (setG v0 S 3 (.int .i64 nn)) (setG _ S 4 (.int .i64 nr)))
      obtain ⟨x0, x1, x2, x3, x4, x5, x6, x7, x8, x9, x10, x11⟩ := lo.twelve
      have f3 := lo.frozen 3
      have f4 := lo.frozen 4
      have hRn := hR.keepG hsS (by simp; omega) (fun k hk => by simp at hk; omega)
      have lrn := lr.frm (Frm.ofGrown hsS) (by simp; omega)
      have szs0 := hsS.size
      clear hR lo lr hsS
      have hR := hRn
      have lo := lon
      have lr := lrn
      clear hRn lon lrn
      have LL := hide (And.intro hR (And.intro lr lo))
      clear hR lr lo
      go_wp2_with fail
      obtain ⟨hR, lr, lo⟩ := unhide LL
      clear LL
      clear x0 x1 x2 x3 x4 x5 x6 x7 x8 x9 x10 x11 f3 f4
      generalize ((v0.setCell ⟨S, 3, none⟩ (.int .i64 nn)).setCell ⟨S, 4, none⟩ (.int .i64 nr)) = ws1 at *
      refine (unhide H1 ws1 hR).mono ?_
      rintro e v1 ⟨a1, c1, rfl, ho1, hRn, hGn⟩
      have sz1 := hGn.size
      have lrn := lr.frm (Frm.ofGrown hGn) (by simp; omega)
      have lon := lo.frm (Frm.ofGrown hGn) (by simp; omega)
      have hs1 : S < ws1.heap.size := lo.lt
      have hg1 : g < ws1.heap.size := hR.box.lt
      have hw1 : w.heap.size < ws1.heap.size := lr.lt
      have hz1 := ho1.rng
      clear hGn hR lo lr
      have hR := hRn
      have lo := lon
      have lr := lrn
      clear hRn lon lrn
      have lon : Loc (v1.setCell ⟨S, 10, none⟩ (.slice a1 tx.length c1)) S #[.int .i64 2, .int .i64 vn, .int .i64 vr, .int .i64 nn, .int .i64 nr, .int .i64 0, .int .i64 0, .slice none 0 0, .int .i64 0, .slice none 0 0, .slice a1 tx.length c1, .bool false] 27 := (lo.set 10 (.slice a1 tx.length c1))
      have hsS : v1.grownBy (v1.setCell ⟨S, 10, none⟩ (.slice a1 tx.length c1)) (some S) := (setG v1 S 10 (.slice a1 tx.length c1))
      obtain ⟨x0, x1, x2, x3, x4, x5, x6, x7, x8, x9, x10, x11⟩ := lo.twelve
      have f10 := lo.frozen 10
      have hRn := hR.keepG hsS (by simp; omega) (fun k hk => by simp at hk; omega)
      have lrn := lr.frm (Frm.ofGrown hsS) (by simp; omega)
      replace ho1 := ho1.keepBy hsS (.inr (fun e => by have := (ho1.lt S e).1; omega))
      have szs1 := hsS.size
      clear hR lo lr hsS
      have hR := hRn
      have lo := lon
      have lr := lrn
      clear hRn lon lrn
      have hnd : (FB (.slice none 0 0) ++ FB (.slice none 0 0) ++ FB (.slice a1 tx.length c1)).Nodup := by
        have e0 : FB (.slice none 0 0) = [] := rfl
        simp only [e0, List.nil_append, List.append_nil]
        exact FB_nodup _
      replace ho1 := ho1.mono (show w.heap.size + 1 ≤ _ by omega)
      have KK := hide (show RosAt w (v1.setCell ⟨S, 10, none⟩ (.slice a1 tx.length c1)) g S (.slice a l.length c) l Z from ⟨_, _, _, _, _, unhide HX', (Nat.zero_le _), hR, lo, lr, ⟨ownz_nil _ _, own_nilB _ _, ho1, hnd⟩⟩)
      clear hR lo lr hnd ho1 hz1
      go_wp2_with fail
      go_meet
      exact unhide KK
    by_cases h3 : kz = 3
    · have hk := h3
      clear h1 h2 h3
      by_cases hg : (getN l (getT l (rdId l p2).2).2).1 = 1
      · skip
        have HX' := hide (show Z = _ from (unhide HX).trans (by unfold rdRest; rw [hk, if_neg (by decide), if_neg (by decide), if_neg (by decide), if_pos rfl, if_pos hg]))
        clear HX
        have H0 := hide (fun W (hW : Rd 72 w W g (.slice a l.length c) l p2) => l4getId_any w W g (.slice a l.length c) l p2 hW)
        have H1 := hide (fun W (hW : Rd 72 w W g (.slice a l.length c) l (rdId l p2).2) => l4text_any w W g (.slice a l.length c) l (rdId l p2).2 hW)
        have H2 := hide (fun W (hW : Rd 72 w W g (.slice a l.length c) l (getT l (rdId l p2).2).2) => l4get_any w W g (.slice a l.length c) l (getT l (rdId l p2).2).2 hW)
        generalize (getN l (getT l (rdId l p2).2).2) = q2 at *
        generalize (getT l (rdId l p2).2) = q1 at *
        generalize (rdId l p2) = q0 at *
        obtain ⟨⟨nn, nr⟩, p3⟩ := q0
        obtain ⟨nm, p4⟩ := q1
        obtain ⟨gz, p5⟩ := q2
        simp only at *
        subst hk
        subst hg
        have LL := hide (And.intro hR (And.intro lr lo))
        clear hR lr lo
        go_wp2_with fail
        obtain ⟨hR, lr, lo⟩ := unhide LL
        clear LL
        refine (unhide H0 wc0 hR).mono ?_
        rintro e v0 ⟨rfl, hRn, hGn⟩
        have sz0 := hGn.size
        have lrn := lr.frm (Frm.ofGrown hGn) (by simp; omega)
        have lon := lo.frm (Frm.ofGrown hGn) (by simp; omega)
        clear hGn hR lo lr
        have hR := hRn
        have lo := lon
        have lr := lrn
        clear hRn lon lrn
        have lon : Loc ((v0.setCell ⟨S, 3, none⟩ (.int .i64 nn)).setCell ⟨S, 4, none⟩ (.int .i64 nr)) S #[.int .i64 3, .int .i64 vn, .int .i64 vr, .int .i64 nn, .int .i64 nr, .int .i64 0, .int .i64 0, .slice none 0 0, .int .i64 0, .slice none 0 0, .slice none 0 0, .bool false] 27 := ((lo.set 3 (.int .i64 nn)).set 4 (.int .i64 nr))
        have hsS : v0.grownBy ((v0.setCell ⟨S, 3, none⟩ (.int .i64 nn)).setCell ⟨S, 4, none⟩ (.int .i64 nr)) (some S) := (grown_trans (setG v0 S 3 (.int .i64 nn)) (setG _ S 4 (.int .i64 nr)))
        obtain ⟨x0, x1, x2, x3, x4, x5, x6, x7, x8, x9, x10, x11⟩ := lo.twelve
        have f3 := lo.frozen 3
        have f4 := lo.frozen 4
        have hRn := hR.keepG hsS (by simp; omega) (fun k hk => by simp at hk; omega)
        have lrn := lr.frm (Frm.ofGrown hsS) (by simp; omega)
        have szs0 := hsS.size
        clear hR lo lr hsS
        have hR := hRn
        have lo := lon
        have lr := lrn
        clear hRn lon lrn
        have LL := hide (And.intro hR (And.intro lr lo))
        clear hR lr lo
        go_wp2_with fail
        obtain ⟨hR, lr, lo⟩ := unhide LL
        clear LL
        clear x0 x1 x2 x3 x4 x5 x6 x7 x8 x9 x10 x11 f3 f4
        generalize ((v0.setCell ⟨S, 3, none⟩ (.int .i64 nn)).setCell ⟨S, 4, none⟩ (.int .i64 nr)) = ws1 at *
        refine (unhide H1 ws1 hR).mono ?_
        rintro e v1 ⟨a1, c1, rfl, ho1, hRn, hGn⟩
        have sz1 := hGn.size
        have lrn := lr.frm (Frm.ofGrown hGn) (by simp; omega)
        have lon := lo.frm (Frm.ofGrown hGn) (by simp; omega)
        have hs1 : S < ws1.heap.size := lo.lt
        have hg1 : g < ws1.heap.size := hR.box.lt
        have hw1 : w.heap.size < ws1.heap.size := lr.lt
        have hz1 := ho1.rng
        clear hGn hR lo lr
        have hR := hRn
        have lo := lon
        have lr := lrn
        clear hRn lon lrn
        have lon : Loc (v1.setCell ⟨S, 9, none⟩ (.slice a1 nm.length c1)) S #[.int .i64 3, .int .i64 vn, .int .i64 vr, .int .i64 nn, .int .i64 nr, .int .i64 0, .int .i64 0, .slice none 0 0, .int .i64 0, .slice a1 nm.length c1, .slice none 0 0, .bool false] 27 := (lo.set 9 (.slice a1 nm.length c1))
        have hsS : v1.grownBy (v1.setCell ⟨S, 9, none⟩ (.slice a1 nm.length c1)) (some S) := (setG v1 S 9 (.slice a1 nm.length c1))
        obtain ⟨x0, x1, x2, x3, x4, x5, x6, x7, x8, x9, x10, x11⟩ := lo.twelve
        have f9 := lo.frozen 9
        have hRn := hR.keepG hsS (by simp; omega) (fun k hk => by simp at hk; omega)
        have lrn := lr.frm (Frm.ofGrown hsS) (by simp; omega)
        replace ho1 := ho1.keepBy hsS (.inr (fun e => by have := (ho1.lt S e).1; omega))
        have szs1 := hsS.size
        clear hR lo lr hsS
        have hR := hRn
        have lo := lon
        have lr := lrn
        clear hRn lon lrn
        have HO1 := hide ho1
        clear ho1
        have LL := hide (And.intro hR (And.intro lr lo))
        clear hR lr lo
        go_wp2_with fail
        obtain ⟨hR, lr, lo⟩ := unhide LL
        clear LL
        have ho1 := unhide HO1
        clear HO1
        clear x0 x1 x2 x3 x4 x5 x6 x7 x8 x9 x10 x11 f9
        generalize (v1.setCell ⟨S, 9, none⟩ (.slice a1 nm.length c1)) = ws2 at *
        refine (unhide H2 ws2 hR).mono ?_
        rintro e v2 ⟨rfl, hRn, hGn⟩
        have sz2 := hGn.size
        have lrn := lr.frm (Frm.ofGrown hGn) (by simp; omega)
        have lon := lo.frm (Frm.ofGrown hGn) (by simp; omega)
        replace ho1 := ho1.keepBy hGn (.inr (fun e => by have := (ho1.lt _ e).1; omega))
        clear hGn hR lo lr
        have hR := hRn
        have lo := lon
        have lr := lrn
        clear hRn lon lrn
        have lon : Loc (v2.setCell ⟨S, 11, none⟩ (.bool true)) S #[.int .i64 3, .int .i64 vn, .int .i64 vr, .int .i64 nn, .int .i64 nr, .int .i64 0, .int .i64 0, .slice none 0 0, .int .i64 0, .slice a1 nm.length c1, .slice none 0 0, .bool true] 27 := (lo.set 11 (.bool true))
        have hsS : v2.grownBy (v2.setCell ⟨S, 11, none⟩ (.bool true)) (some S) := (setG v2 S 11 (.bool true))
        obtain ⟨x0, x1, x2, x3, x4, x5, x6, x7, x8, x9, x10, x11⟩ := lo.twelve
        have f11 := lo.frozen 11
        have hRn := hR.keepG hsS (by simp; omega) (fun k hk => by simp at hk; omega)
        have lrn := lr.frm (Frm.ofGrown hsS) (by simp; omega)
        replace ho1 := ho1.keepBy hsS (.inr (fun e => by have := (ho1.lt S e).1; omega))
        have szs2 := hsS.size
        clear hR lo lr hsS
        have hR := hRn
        have lo := lon
        have lr := lrn
        clear hRn lon lrn
        have hnd : (FB (.slice none 0 0) ++ FB (.slice a1 nm.length c1) ++ FB (.slice none 0 0)).Nodup := by
          have e0 : FB (.slice none 0 0) = [] := rfl
          simp only [e0, List.nil_append, List.append_nil]
          exact FB_nodup _
        replace ho1 := ho1.mono (show w.heap.size + 1 ≤ _ by omega)
        have KK := hide (show RosAt w (v2.setCell ⟨S, 11, none⟩ (.bool true)) g S (.slice a l.length c) l Z from ⟨_, _, _, _, _, unhide HX', (Nat.zero_le _), hR, lo, lr, ⟨ownz_nil _ _, ho1, own_nilB _ _, hnd⟩⟩)
        clear hR lo lr hnd ho1 hz1
        go_wp2_with fail
        go_meet
        exact unhide KK
      · skip
        have HX' := hide (show Z = _ from (unhide HX).trans (by unfold rdRest; rw [hk, if_neg (by decide), if_neg (by decide), if_neg (by decide), if_pos rfl, if_neg hg]))
        clear HX
        have H0 := hide (fun W (hW : Rd 72 w W g (.slice a l.length c) l p2) => l4getId_any w W g (.slice a l.length c) l p2 hW)
        have H1 := hide (fun W (hW : Rd 72 w W g (.slice a l.length c) l (rdId l p2).2) => l4text_any w W g (.slice a l.length c) l (rdId l p2).2 hW)
        have H2 := hide (fun W (hW : Rd 72 w W g (.slice a l.length c) l (getT l (rdId l p2).2).2) => l4get_any w W g (.slice a l.length c) l (getT l (rdId l p2).2).2 hW)
        have H3 := hide (fun W (hW : Rd 72 w W g (.slice a l.length c) l (getN l (getT l (rdId l p2).2).2).2) => l4text_any w W g (.slice a l.length c) l (getN l (getT l (rdId l p2).2).2).2 hW)
        generalize (getT l (getN l (getT l (rdId l p2).2).2).2) = q3 at *
        generalize (getN l (getT l (rdId l p2).2).2) = q2 at *
        generalize (getT l (rdId l p2).2) = q1 at *
        generalize (rdId l p2) = q0 at *
        obtain ⟨⟨nn, nr⟩, p3⟩ := q0
        obtain ⟨nm, p4⟩ := q1
        obtain ⟨gz, p5⟩ := q2
        obtain ⟨tx, p6⟩ := q3
        simp only at *
        subst hk
        have dg : (gz == 1) = false := by simpa using hg
        clear hg
        have LL := hide (And.intro hR (And.intro lr lo))
        clear hR lr lo
        go_wp2_with fail
        obtain ⟨hR, lr, lo⟩ := unhide LL
        clear LL
        refine (unhide H0 wc0 hR).mono ?_
        rintro e v0 ⟨rfl, hRn, hGn⟩
        have sz0 := hGn.size
        have lrn := lr.frm (Frm.ofGrown hGn) (by simp; omega)
        have lon := lo.frm (Frm.ofGrown hGn) (by simp; omega)
        clear hGn hR lo lr
        have hR := hRn
        have lo := lon
        have lr := lrn
        clear hRn lon lrn
        have lon : Loc ((v0.setCell ⟨S, 3, none⟩ (.int .i64 nn)).setCell ⟨S, 4, none⟩ (.int .i64 nr)) S #[.int .i64 3, .int .i64 vn, .int .i64 vr, .int .i64 nn, .int .i64 nr, .int .i64 0, .int .i64 0, .slice none 0 0, .int .i64 0, .slice none 0 0, .slice none 0 0, .bool false] 27 := ((lo.set 3 (.int .i64 nn)).set 4 (.int .i64 nr))
        have hsS : v0.grownBy ((v0.setCell ⟨S, 3, none⟩ (.int .i64 nn)).setCell ⟨S, 4, none⟩ (.int .i64 nr)) (some S) := (grown_trans (setG v0 S 3 (.int .i64 nn)) (setG _ S 4 (.int .i64 nr)))
        obtain ⟨x0, x1, x2, x3, x4, x5, x6, x7, x8, x9, x10, x11⟩ := lo.twelve
        have f3 := lo.frozen 3
        have f4 := lo.frozen 4
        have hRn := hR.keepG hsS (by simp; omega) (fun k hk => by simp at hk; omega)
        have lrn := lr.frm (Frm.ofGrown hsS) (by simp; omega)
        have szs0 := hsS.size
        clear hR lo lr hsS
        have hR := hRn
        have lo := lon
        have lr := lrn
        clear hRn lon lrn
        have LL := hide (And.intro hR (And.intro lr lo))
        clear hR lr lo
        go_wp2_with fail
        obtain ⟨hR, lr, lo⟩ := unhide LL
        clear LL
        clear x0 x1 x2 x3 x4 x5 x6 x7 x8 x9 x10 x11 f3 f4
        generalize ((v0.setCell ⟨S, 3, none⟩ (.int .i64 nn)).setCell ⟨S, 4, none⟩ (.int .i64 nr)) = ws1 at *
        refine (unhide H1 ws1 hR).mono ?_
        rintro e v1 ⟨a1, c1, rfl, ho1, hRn, hGn⟩
        have sz1 := hGn.size
        have lrn := lr.frm (Frm.ofGrown hGn) (by simp; omega)
        have lon := lo.frm (Frm.ofGrown hGn) (by simp; omega)
        have hs1 : S < ws1.heap.size := lo.lt
        have hg1 : g < ws1.heap.size := hR.box.lt
        have hw1 : w.heap.size < ws1.heap.size := lr.lt
        have hz1 := ho1.rng
        clear hGn hR lo lr
        have hR := hRn
        have lo := lon
        have lr := lrn
        clear hRn lon lrn
        have lon : Loc (v1.setCell ⟨S, 9, none⟩ (.slice a1 nm.length c1)) S #[.int .i64 3, .int .i64 vn, .int .i64 vr, .int .i64 nn, .int .i64 nr, .int .i64 0, .int .i64 0, .slice none 0 0, .int .i64 0, .slice a1 nm.length c1, .slice none 0 0, .bool false] 27 := (lo.set 9 (.slice a1 nm.length c1))
        have hsS : v1.grownBy (v1.setCell ⟨S, 9, none⟩ (.slice a1 nm.length c1)) (some S) := (setG v1 S 9 (.slice a1 nm.length c1))
        obtain ⟨x0, x1, x2, x3, x4, x5, x6, x7, x8, x9, x10, x11⟩ := lo.twelve
        have f9 := lo.frozen 9
        have hRn := hR.keepG hsS (by simp; omega) (fun k hk => by simp at hk; omega)
        have lrn := lr.frm (Frm.ofGrown hsS) (by simp; omega)
        replace ho1 := ho1.keepBy hsS (.inr (fun e => by have := (ho1.lt S e).1; omega))
        have szs1 := hsS.size
        clear hR lo lr hsS
        have hR := hRn
        have lo := lon
        have lr := lrn
        clear hRn lon lrn
        have HO1 := hide ho1
        clear ho1
        have LL := hide (And.intro hR (And.intro lr lo))
        clear hR lr lo
        go_wp2_with fail
        obtain ⟨hR, lr, lo⟩ := unhide LL
        clear LL
        have ho1 := unhide HO1
        clear HO1
        clear x0 x1 x2 x3 x4 x5 x6 x7 x8 x9 x10 x11 f9
        generalize (v1.setCell ⟨S, 9, none⟩ (.slice a1 nm.length c1)) = ws2 at *
        refine (unhide H2 ws2 hR).mono ?_
        rintro e v2 ⟨rfl, hRn, hGn⟩
        have sz2 := hGn.size
        have lrn := lr.frm (Frm.ofGrown hGn) (by simp; omega)
        have lon := lo.frm (Frm.ofGrown hGn) (by simp; omega)
        replace ho1 := ho1.keepBy hGn (.inr (fun e => by have := (ho1.lt _ e).1; omega))
        clear hGn hR lo lr
        have hR := hRn
        have lo := lon
        have lr := lrn
        clear hRn lon lrn
        have lon : Loc (v2.setCell ⟨S, 11, none⟩ (.bool false)) S #[.int .i64 3, .int .i64 vn, .int .i64 vr, .int .i64 nn, .int .i64 nr, .int .i64 0, .int .i64 0, .slice none 0 0, .int .i64 0, .slice a1 nm.length c1, .slice none 0 0, .bool false] 27 := (lo.set 11 (.bool false))
        have hsS : v2.grownBy (v2.setCell ⟨S, 11, none⟩ (.bool false)) (some S) := (setG v2 S 11 (.bool false))
        obtain ⟨x0, x1, x2, x3, x4, x5, x6, x7, x8, x9, x10, x11⟩ := lo.twelve
        have f11 := lo.frozen 11
        have hRn := hR.keepG hsS (by simp; omega) (fun k hk => by simp at hk; omega)
        have lrn := lr.frm (Frm.ofGrown hsS) (by simp; omega)
        replace ho1 := ho1.keepBy hsS (.inr (fun e => by have := (ho1.lt S e).1; omega))
        have szs2 := hsS.size
        clear hR lo lr hsS
        have hR := hRn
        have lo := lon
        have lr := lrn
        clear hRn lon lrn
        have HO1 := hide ho1
        clear ho1
        have y11 := lo.cell 11
        have LL := hide (And.intro hR (And.intro lr lo))
        clear hR lr lo
        go_wp2_with fail
        obtain ⟨hR, lr, lo⟩ := unhide LL
        clear LL
        have ho1 := unhide HO1
        clear HO1
        clear x0 x1 x2 x3 x4 x5 x6 x7 x8 x9 x10 x11 f11 y11
        generalize (v2.setCell ⟨S, 11, none⟩ (.bool false)) = ws3 at *
        refine (unhide H3 ws3 hR).mono ?_
        rintro e v3 ⟨a3, c3, rfl, ho3, hRn, hGn⟩
        have sz3 := hGn.size
        have lrn := lr.frm (Frm.ofGrown hGn) (by simp; omega)
        have lon := lo.frm (Frm.ofGrown hGn) (by simp; omega)
        replace ho1 := ho1.keepBy hGn (.inr (fun e => by have := (ho1.lt _ e).1; omega))
        have hs3 : S < ws3.heap.size := lo.lt
        have hg3 : g < ws3.heap.size := hR.box.lt
        have hw3 : w.heap.size < ws3.heap.size := lr.lt
        have hz3 := ho3.rng
        clear hGn hR lo lr
        have hR := hRn
        have lo := lon
        have lr := lrn
        clear hRn lon lrn
        have lon : Loc (v3.setCell ⟨S, 10, none⟩ (.slice a3 tx.length c3)) S #[.int .i64 3, .int .i64 vn, .int .i64 vr, .int .i64 nn, .int .i64 nr, .int .i64 0, .int .i64 0, .slice none 0 0, .int .i64 0, .slice a1 nm.length c1, .slice a3 tx.length c3, .bool false] 27 := (lo.set 10 (.slice a3 tx.length c3))
        have hsS : v3.grownBy (v3.setCell ⟨S, 10, none⟩ (.slice a3 tx.length c3)) (some S) := (setG v3 S 10 (.slice a3 tx.length c3))
        obtain ⟨x0, x1, x2, x3, x4, x5, x6, x7, x8, x9, x10, x11⟩ := lo.twelve
        have f10 := lo.frozen 10
        have hRn := hR.keepG hsS (by simp; omega) (fun k hk => by simp at hk; omega)
        have lrn := lr.frm (Frm.ofGrown hsS) (by simp; omega)
        replace ho1 := ho1.keepBy hsS (.inr (fun e => by have := (ho1.lt S e).1; omega))
        replace ho3 := ho3.keepBy hsS (.inr (fun e => by have := (ho3.lt S e).1; omega))
        have szs3 := hsS.size
        clear hR lo lr hsS
        have hR := hRn
        have lo := lon
        have lr := lrn
        clear hRn lon lrn
        have hnd : (FB (.slice none 0 0) ++ FB (.slice a1 nm.length c1) ++ FB (.slice a3 tx.length c3)).Nodup := by
          have e0 : FB (.slice none 0 0) = [] := rfl
          simp only [e0, List.nil_append]
          exact nodup_app (FB_nodup _) (FB_nodup _) hz1 (hz3.mono (by omega) (Nat.le_refl _))
        replace ho1 := ho1.mono (show w.heap.size + 1 ≤ _ by omega)
        replace ho3 := ho3.mono (show w.heap.size + 1 ≤ _ by omega)
        have KK := hide (show RosAt w (v3.setCell ⟨S, 10, none⟩ (.slice a3 tx.length c3)) g S (.slice a l.length c) l Z from ⟨_, _, _, _, _, unhide HX', (Nat.zero_le _), hR, lo, lr, ⟨ownz_nil _ _, ho1, ho3, hnd⟩⟩)
        clear hR lo lr hnd ho1 hz1 ho3 hz3
        go_wp2_with fail
        go_meet
        exact unhide KK
    have d0 : (kz == 0) = false := by simpa using hk
    have d1 : (kz == 1) = false := by simpa using h1
    have d2 : (kz == 2) = false := by simpa using h2
    have d3 : (kz == 3) = false := by simpa using h3
    have HX' := hide (show Z = _ from (unhide HX).trans (by unfold rdRest; rw [if_neg hk, if_neg h1, if_neg h2, if_neg h3]))
    have KK := hide (show RosAt w wc0 g S (.slice a l.length c) l Z from ⟨_, _, _, _, _, unhide HX', (Nat.zero_le _), hR, lo, lr, ⟨ownz_nil _ _, own_nilB _ _, own_nilB _ _, List.nodup_nil⟩⟩)
    clear hR lr lo hk h1 h2 h3 HX HX'
    go_wp2_with fail
    go_meet
    exact unhide KK
  case rest =>
  obtain ⟨o, p, k, n, t, rfl, hkl, hR, lo, lr, hOw⟩ := hcut
  clear HX
  have HKL := hide hkl
  clear hkl
  obtain ⟨a1, c1, rfl, _, _⟩ := hOw.1.ints.shape
  obtain ⟨a2, c2, rfl, _, _⟩ := hOw.2.1.byt.shape
  obtain ⟨a3, c3, rfl, _, _⟩ := hOw.2.2.1.byt.shape
  generalize hnK : o.key.length = nK at *
  generalize hnN : o.name.length = nN at *
  generalize hnT : o.text.length = nT at *
  have HNK := hide hnK
  clear hnK hnN hnT
  have hat := hR.box.cell 1
  have hgS := hR.box.lt
  have hwl := lr.lt
  have hSl := lo.lt
  simp only [List.getElem?_toArray, List.getElem?_cons_succ, List.getElem?_cons_zero] at hat
  have HO := hide (fun (W : World) (hW : Below wc.heap.size wc W) => opS_any W _ o (hOw.keep hW).rd)
  have HBy := hide (fun (W : World) (hW : Below wc.heap.size wc W) => bytesS_any W _ o (hOw.keep hW).rd (by have := unhide HKL; have := unhide HNK; omega))
  have HOW := hide hOw
  clear hOw
  unfold opVal at HO HBy
  obtain ⟨x0, x1, x2, x3, x4, x5, x6, x7, x8, x9, x10, x11⟩ := lo.twelve
  have HLO := hide lo
  have HR := hide hR
  have HLR := hide lr
  clear lo hR lr
  go_upto_region 24 with fail
  go_cut [90] from 71 to 89 (fun s90 wx => s90 = .bool (!ansOk (o, p) l) ∧ Below wc.heap.size wc wx)
  case first =>
    by_cases hp : p = (l.length : Int)
    · by_cases hq : opB o = true
      · subst hp
        rw [hq] at HO
        have HEQ := hide (fun h => str_beq (a := opBytes o) h (unhide HOK))
        have HCS := hide (fun (W : World) (u : Value) (hu : Byt W u (opBytes o)) => conv_any W u _ hu)
        have HY := hide (show ansOk (o, (l.length : Int)) l = decide (opBytes o = l) by unfold ansOk; rw [Bool.eq_iff_iff]; simp [hq])
        clear hq
        generalize opBytes o = rb at *
        have d0 := unhide HCB wc.drew ((unhide HR).below.drew)
        go_region_with (first
            | (go_at_call 8; refine (unhide HO _ ((Below.refl _ _).drew)).mono ?_; clear HO; rintro e w7 ⟨rfl, hB7⟩; have hK7 := bstep ((Below.refl wc.heap.size wc).drew) hB7; obtain ⟨x0, x1, x2, x3, x4, x5, x6, x7, x8, x9, x10, x11⟩ := ((unhide HLO).all hK7).twelve; have hat := ((unhide HR).keep hK7).box.cell 1; simp only [List.getElem?_toArray, List.getElem?_cons_succ, List.getElem?_cons_zero] at hat; have d7 := unhide HCB w7 (bstep (unhide HR).below hK7))
            | (go_at_call 48; refine (unhide HBy _ hK7).mono ?_; clear HBy; rintro e w8 ⟨ab, cb, rfl, hob, hB8⟩; have hK8 := bstep hK7 hB8; obtain ⟨x0, x1, x2, x3, x4, x5, x6, x7, x8, x9, x10, x11⟩ := ((unhide HLO).all hK8).twelve; have hat := ((unhide HR).keep hK8).box.cell 1; simp only [List.getElem?_toArray, List.getElem?_cons_succ, List.getElem?_cons_zero] at hat; have d8 := unhide HCB w8 (bstep (unhide HR).below hK8); have d9 := unhide HCS w8 _ hob.byt))
        all_goals
          go_wp2_with fail
          go_meet
          exact ⟨by rw [unhide HY]; exact congrArg (fun b => Value.bool (!b)) (unhide HEQ hob.byt.1), hK8⟩
      · have hq' : opB o = false := by simpa using hq
        subst hp
        rw [hq'] at HO
        have HY := hide (ansOk_b (p := (l.length : Int)) (l := l) hq')
        clear hq hq' HBy
        first | go_region_with (first | (go_at_call 8; refine (unhide HO _ ((Below.refl _ _).drew)).mono ?_; clear HO; rintro e w7 ⟨rfl, hB7⟩; have hK7 := bstep ((Below.refl wc.heap.size wc).drew) hB7; obtain ⟨x0, x1, x2, x3, x4, x5, x6, x7, x8, x9, x10, x11⟩ := ((unhide HLO).all hK7).twelve; have hat := ((unhide HR).keep hK7).box.cell 1; simp only [List.getElem?_toArray, List.getElem?_cons_succ, List.getElem?_cons_zero] at hat)) | fail
        all_goals
          go_wp2_with fail
          go_meet
          exact ⟨by rw [unhide HY]; rfl, hK7⟩
    · have HY := hide (ansOk_p (o := o) hp)
      have dp : (p == (l.length : Int)) = false := by simpa using hp
      have dp2 : (p != (l.length : Int)) = true := by simpa using hp
      have dp3 : decide (p = (l.length : Int)) = false := by simpa using hp
      clear HO HBy
      go_region
      all_goals
        go_wp2_with fail
        go_meet
        exact ⟨by rw [unhide HY]; rfl, (Below.refl _ _).drew⟩
  case rest =>
    obtain ⟨rfl, hK⟩ := hcut
    have hR := (unhide HR).keep hK
    have lo := (unhide HLO).all hK
    have lr := (unhide HLR).all hK
    have hO := (unhide HOW).keep hK
    clear HR HLO HLR HOW hK HO HBy x0 x1 x2 x3 x4 x5 x6 x7 x8 x9 x10 x11 hat
    cases hans : ansOk (o, p) l with
    | true =>
      have HZ := hide hans
      clear hans
      obtain ⟨y0, y1, y2, y3, y4, y5, y6, y7, y8, y9, y10, y11⟩ := lo.twelve
      have lrz : Loc ((((((((((((wc.setCell ⟨w.heap.size, 0, none⟩ (.int .i64 o.kind)).setCell ⟨w.heap.size, 1, none⟩ (.int .i64 o.atN)).setCell ⟨w.heap.size, 2, none⟩ (.int .i64 o.atR)).setCell ⟨w.heap.size, 3, none⟩ (.int .i64 o.nodeN)).setCell ⟨w.heap.size, 4, none⟩ (.int .i64 o.nodeR)).setCell ⟨w.heap.size, 5, none⟩ (.int .i64 o.parN)).setCell ⟨w.heap.size, 6, none⟩ (.int .i64 o.parR)).setCell ⟨w.heap.size, 7, none⟩ (.slice a1 nK c1)).setCell ⟨w.heap.size, 8, none⟩ (.int .i64 o.elem)).setCell ⟨w.heap.size, 9, none⟩ (.slice a2 nN c2)).setCell ⟨w.heap.size, 10, none⟩ (.slice a3 nT c3)).setCell ⟨w.heap.size, 11, none⟩ (.bool o.gone)) w.heap.size #[.int .i64 o.kind, .int .i64 o.atN, .int .i64 o.atR, .int .i64 o.nodeN, .int .i64 o.nodeR, .int .i64 o.parN, .int .i64 o.parR, .slice a1 nK c1, .int .i64 o.elem, .slice a2 nN c2, .slice a3 nT c3, .bool o.gone] 27 := set_twelve lr (.int .i64 o.kind) (.int .i64 o.atN) (.int .i64 o.atR) (.int .i64 o.nodeN) (.int .i64 o.nodeR) (.int .i64 o.parN) (.int .i64 o.parR) (.slice a1 nK c1) (.int .i64 o.elem) (.slice a2 nN c2) (.slice a3 nT c3) (.bool o.gone)
      have hsR : wc.grownBy ((((((((((((wc.setCell ⟨w.heap.size, 0, none⟩ (.int .i64 o.kind)).setCell ⟨w.heap.size, 1, none⟩ (.int .i64 o.atN)).setCell ⟨w.heap.size, 2, none⟩ (.int .i64 o.atR)).setCell ⟨w.heap.size, 3, none⟩ (.int .i64 o.nodeN)).setCell ⟨w.heap.size, 4, none⟩ (.int .i64 o.nodeR)).setCell ⟨w.heap.size, 5, none⟩ (.int .i64 o.parN)).setCell ⟨w.heap.size, 6, none⟩ (.int .i64 o.parR)).setCell ⟨w.heap.size, 7, none⟩ (.slice a1 nK c1)).setCell ⟨w.heap.size, 8, none⟩ (.int .i64 o.elem)).setCell ⟨w.heap.size, 9, none⟩ (.slice a2 nN c2)).setCell ⟨w.heap.size, 10, none⟩ (.slice a3 nT c3)).setCell ⟨w.heap.size, 11, none⟩ (.bool o.gone)) (some w.heap.size) := grow_twelve _ _ (.int .i64 o.kind) (.int .i64 o.atN) (.int .i64 o.atR) (.int .i64 o.nodeN) (.int .i64 o.nodeR) (.int .i64 o.parN) (.int .i64 o.parR) (.slice a1 nK c1) (.int .i64 o.elem) (.slice a2 nN c2) (.slice a3 nT c3) (.bool o.gone)
      have hBz := (bstepBy hR.below hsR (fun k hk => by simp at hk; omega))
      obtain ⟨z0, z1, z2, z3, z4, z5, z6, z7, z8, z9, z10, z11⟩ := lr.twelve
      have g0 := lr.frozen 0
      have g1 := lr.frozen 1
      have g2 := lr.frozen 2
      have g3 := lr.frozen 3
      have g4 := lr.frozen 4
      have g5 := lr.frozen 5
      have g6 := lr.frozen 6
      have g7 := lr.frozen 7
      have g8 := lr.frozen 8
      have g9 := lr.frozen 9
      have g10 := lr.frozen 10
      have g11 := lr.frozen 11
      have hO9 : OwOp ((((((((((((wc.setCell ⟨w.heap.size, 0, none⟩ (.int .i64 o.kind)).setCell ⟨w.heap.size, 1, none⟩ (.int .i64 o.atN)).setCell ⟨w.heap.size, 2, none⟩ (.int .i64 o.atR)).setCell ⟨w.heap.size, 3, none⟩ (.int .i64 o.nodeN)).setCell ⟨w.heap.size, 4, none⟩ (.int .i64 o.nodeR)).setCell ⟨w.heap.size, 5, none⟩ (.int .i64 o.parN)).setCell ⟨w.heap.size, 6, none⟩ (.int .i64 o.parR)).setCell ⟨w.heap.size, 7, none⟩ (.slice a1 nK c1)).setCell ⟨w.heap.size, 8, none⟩ (.int .i64 o.elem)).setCell ⟨w.heap.size, 9, none⟩ (.slice a2 nN c2)).setCell ⟨w.heap.size, 10, none⟩ (.slice a3 nT c3)).setCell ⟨w.heap.size, 11, none⟩ (.bool o.gone)) w.heap.size o (.slice a1 nK c1) (.slice a2 nN c2) (.slice a3 nT c3) := ⟨(hO.1.keepBy hsR (.inr (fun e => by have := (hO.1.lt _ e).1; omega))).mono (Nat.le_succ _), (hO.2.1.keepBy hsR (.inr (fun e => by have := (hO.2.1.lt _ e).1; omega))).mono (Nat.le_succ _), (hO.2.2.1.keepBy hsR (.inr (fun e => by have := (hO.2.2.1.lt _ e).1; omega))).mono (Nat.le_succ _), hO.2.2.2⟩
      have KK := hide (And.intro lrz (And.intro hBz hO9))
      clear lrz hsR hBz hO9 hR lo lr hO
      go_upto_region 26 with fail
      go_cut [3] from 92 to 92 (fun s3 wx => s3 = .bool true ∧ Loc wx w.heap.size #[.int .i64 o.kind, .int .i64 o.atN, .int .i64 o.atR, .int .i64 o.nodeN, .int .i64 o.nodeR, .int .i64 o.parN, .int .i64 o.parR, .slice a1 nK c1, .int .i64 o.elem, .slice a2 nN c2, .slice a3 nT c3, .bool o.gone] 27 ∧ Below w.heap.size w wx ∧ OwOp wx w.heap.size o (.slice a1 nK c1) (.slice a2 nN c2) (.slice a3 nT c3))
      case first =>
        go_wp2_with fail
        go_meet
        exact ⟨rfl, unhide KK⟩
      case rest =>
        obtain ⟨rfl, hL, hB9, hO9⟩ := hcut
        clear KK z0 z1 z2 z3 z4 z5 z6 z7 z8 z9 z10 z11 g0 g1 g2 g3 g4 g5 g6 g7 g8 g9 g10 g11 y0 y1 y2 y3 y4 y5 y6 y7 y8 y9 y10 y11
        obtain ⟨e0, e1, e2, e3, e4, e5, e6, e7, e8, e9, e10, e11⟩ := hL.twelve
        clear hL
        go_wp2_with fail
        exact bodyPost_ret (v := .tuple #[.agg #[.int .i64 o.kind, .int .i64 o.atN, .int .i64 o.atR, .int .i64 o.nodeN, .int .i64 o.nodeR, .int .i64 o.parN, .int .i64 o.parR, .slice a1 nK c1, .int .i64 o.elem, .slice a2 nN c2, .slice a3 nT c3, .bool o.gone], .bool true]) (by simp [results, Try.results14, go_sem, e0, e1, e2, e3, e4, e5, e6, e7, e8, e9, e10, e11]) rfl (unhide HQ _ _ (ros_yes (q := (o, p)) (unhide HZ) hO9 hB9))
    | false =>
      have HZ := hide hans
      clear hans
      have lrz : Loc ((((((((((((wc.setCell ⟨w.heap.size, 0, none⟩ (.int .i64 0)).setCell ⟨w.heap.size, 1, none⟩ (.int .i64 0)).setCell ⟨w.heap.size, 2, none⟩ (.int .i64 0)).setCell ⟨w.heap.size, 3, none⟩ (.int .i64 0)).setCell ⟨w.heap.size, 4, none⟩ (.int .i64 0)).setCell ⟨w.heap.size, 5, none⟩ (.int .i64 0)).setCell ⟨w.heap.size, 6, none⟩ (.int .i64 0)).setCell ⟨w.heap.size, 7, none⟩ (.slice none 0 0)).setCell ⟨w.heap.size, 8, none⟩ (.int .i64 0)).setCell ⟨w.heap.size, 9, none⟩ (.slice none 0 0)).setCell ⟨w.heap.size, 10, none⟩ (.slice none 0 0)).setCell ⟨w.heap.size, 11, none⟩ (.bool false)) w.heap.size #[.int .i64 0, .int .i64 0, .int .i64 0, .int .i64 0, .int .i64 0, .int .i64 0, .int .i64 0, .slice none 0 0, .int .i64 0, .slice none 0 0, .slice none 0 0, .bool false] 27 := set_twelve lr (.int .i64 0) (.int .i64 0) (.int .i64 0) (.int .i64 0) (.int .i64 0) (.int .i64 0) (.int .i64 0) (.slice none 0 0) (.int .i64 0) (.slice none 0 0) (.slice none 0 0) (.bool false)
      have hsR : wc.grownBy ((((((((((((wc.setCell ⟨w.heap.size, 0, none⟩ (.int .i64 0)).setCell ⟨w.heap.size, 1, none⟩ (.int .i64 0)).setCell ⟨w.heap.size, 2, none⟩ (.int .i64 0)).setCell ⟨w.heap.size, 3, none⟩ (.int .i64 0)).setCell ⟨w.heap.size, 4, none⟩ (.int .i64 0)).setCell ⟨w.heap.size, 5, none⟩ (.int .i64 0)).setCell ⟨w.heap.size, 6, none⟩ (.int .i64 0)).setCell ⟨w.heap.size, 7, none⟩ (.slice none 0 0)).setCell ⟨w.heap.size, 8, none⟩ (.int .i64 0)).setCell ⟨w.heap.size, 9, none⟩ (.slice none 0 0)).setCell ⟨w.heap.size, 10, none⟩ (.slice none 0 0)).setCell ⟨w.heap.size, 11, none⟩ (.bool false)) (some w.heap.size) := grow_twelve _ _ (.int .i64 0) (.int .i64 0) (.int .i64 0) (.int .i64 0) (.int .i64 0) (.int .i64 0) (.int .i64 0) (.slice none 0 0) (.int .i64 0) (.slice none 0 0) (.slice none 0 0) (.bool false)
      have hBz := (bstepBy hR.below hsR (fun k hk => by simp at hk; omega))
      obtain ⟨z0, z1, z2, z3, z4, z5, z6, z7, z8, z9, z10, z11⟩ := lr.twelve
      have g0 := lr.frozen 0
      have g1 := lr.frozen 1
      have g2 := lr.frozen 2
      have g3 := lr.frozen 3
      have g4 := lr.frozen 4
      have g5 := lr.frozen 5
      have g6 := lr.frozen 6
      have g7 := lr.frozen 7
      have g8 := lr.frozen 8
      have g9 := lr.frozen 9
      have g10 := lr.frozen 10
      have g11 := lr.frozen 11
      have KK := hide (And.intro lrz hBz)
      clear lrz hsR hBz hR lo lr hO
      go_upto_region 25 with fail
      go_cut [3] from 91 to 91 (fun s3 wx => s3 = .bool false ∧ Loc wx w.heap.size #[.int .i64 0, .int .i64 0, .int .i64 0, .int .i64 0, .int .i64 0, .int .i64 0, .int .i64 0, .slice none 0 0, .int .i64 0, .slice none 0 0, .slice none 0 0, .bool false] 27 ∧ Below w.heap.size w wx)
      case first =>
        go_wp2_with fail
        go_meet
        exact ⟨rfl, unhide KK⟩
      case rest =>
        obtain ⟨rfl, hL, hB9⟩ := hcut
        clear KK z0 z1 z2 z3 z4 z5 z6 z7 z8 z9 z10 z11 g0 g1 g2 g3 g4 g5 g6 g7 g8 g9 g10 g11
        obtain ⟨e0, e1, e2, e3, e4, e5, e6, e7, e8, e9, e10, e11⟩ := hL.twelve
        clear hL
        go_wp2_with fail
        exact bodyPost_ret (v := .tuple #[.agg #[.int .i64 0, .int .i64 0, .int .i64 0, .int .i64 0, .int .i64 0, .int .i64 0, .int .i64 0, .slice none 0 0, .int .i64 0, .slice none 0 0, .slice none 0 0, .bool false], .bool false]) (by simp [results, Try.results14, go_sem, e0, e1, e2, e3, e4, e5, e6, e7, e8, e9, e10, e11]) rfl (unhide HQ _ _ (ros_no (unhide HZ) hB9))
end Go.Proofs.Ytcabolcfoijglaa

/- impl.putNums, impl.putIds, impl.putKey and impl.putValue, by their contracts. -/
namespace Go.Proofs.Ytcabolcfoijglaa
open Go.RowKit
set_option linter.unusedVariables false
set_option maxRecDepth 100000

theorem own_nil' (w : World) (base : Nat) : Own w base (.slice none 0 0) [] := ⟨okB_nil, rfl, .inl ⟨rfl, rfl⟩⟩
theorem putI_own (w : World) (v : Value) (l : List Int) (n : Int) (h : Byt w v l) (hl : l.length ≤ 60000000) :
    Calls Try.prog 67 #[v, .int .i64 n] w fun e w' => ∃ a c, e = .returned (.slice a (putAll l n).length c) ∧ Own w' w.heap.size (.slice a (putAll l n).length c) (putAll l n) ∧ Below w.heap.size w w' := by
  refine (putI_any w v l n h (by omega)).mono ?_
  rintro e w' ⟨v', rfl, ho, hB⟩
  obtain ⟨a, c, rfl, _, _⟩ := ho.byt.shape
  exact ⟨a, c, rfl, ho, hB⟩

set_option maxHeartbeats 3200000 in
theorem putNums_any (w : World) (base : Nat) (v u : Value) (l k : List Int) (h : Own w base v l) (hb : base ≤ w.heap.size) (hu : Ints w u k) (hl : l.length ≤ 20000000) (hk : k.length ≤ 2097152) :
    Calls Try.prog 29 #[v, u] w fun e w' => ∃ a c, e = .returned (.slice a (putNs l k).length c) ∧ Own w' base (.slice a (putNs l k).length c) (putNs l k) ∧ Below w.heap.size w w' := by
  have HU := hide hu
  obtain ⟨a1, c1, rfl, _, _⟩ := h.byt.shape
  obtain ⟨a', c', rfl, _, _⟩ := hu.shape
  clear hu
  go_enter Try.func29, Try.ntmps29
  go_wp2_with fail
  go_loopw [0, 9] (fun b i wr => ∃ (j : Nat) (a2 : Option Addr) (c2 : Nat), j ≤ k.length ∧ i = .int .i64 j ∧ b = .slice a2 (putNs l (k.take j)).length c2 ∧ Own wr base (.slice a2 (putNs l (k.take j)).length c2) (putNs l (k.take j)) ∧ Below w.heap.size w wr) (fun _ i _ => k.length - (intOf i).toNat)
  case atStart => exact ⟨0, a1, c1, Nat.zero_le _, rfl, rfl, h, Below.refl _ _⟩
  case round =>
    obtain ⟨j, a2, c2, hj, rfl, rfl, ho, hB⟩ := hrel
    clear h
    by_cases hlt : j < k.length
    · have HS := hide (putNs_step l k j hlt)
      have hq := putNs_len l (k.take j)
      rw [List.length_take, Nat.min_eq_left hj] at hq
      generalize hpt : putNs l (k.take j) = lj at *
      clear hpt
      have hlt' : (j : Int) < (k.length : Int) := by omega
      obtain ⟨x, hx⟩ : ∃ x, x = k.getD j 0 := ⟨_, rfl⟩
      rw [← hx] at HS
      obtain ⟨hok, hm, ⟨_, e⟩ | ⟨_, _, _, _, e⟩ | ⟨b, off, cap, e, h1, h2, h3, h4, h5⟩⟩ := (unhide HU).keep hB
      · rw [e] at hlt; simp at hlt
      · rw [e] at hlt; simp at hlt
      have e1 : a' = some ⟨b, off, none⟩ := by injection e
      have hcx := h5 j hlt
      rw [← hx] at hcx
      clear hx h5 e HU
      subst e1
      go_wp2_with fail
      refine (putI_own wr _ lj x ho.byt (by omega)).mono ?_
      rintro e w2 ⟨a3, c3, rfl, ho3, hB3⟩
      rw [← unhide HS] at ho3 ⊢
      go_wp2_with fail
      go_roundw
      case rel => exact ⟨j + 1, a3, c3, by omega, by go_num, rfl, ho3.mono (by have := hB.size; omega), bstep hB hB3⟩
      case measure => simp [intOf]; omega
    · obtain rfl : j = k.length := by omega
      have HE := hide (show putNs l (k.take k.length) = putNs l k by rw [List.take_of_length_le (Nat.le_refl _)])
      rw [unhide HE] at ho ⊢
      clear HE
      go_wp2_with fail
      go_ret
      exact ⟨a2, c2, rfl, ho, hB⟩

/-- Ids, one behind the other. -/
def putIdL (l : List Int) : List (Int × Int) → List Int
  | [] => l
  | x :: t => putIdL (putId l x.1 x.2) t
theorem putIdL_step (l : List Int) (t : List (Int × Int)) (j : Nat) (h : j < t.length) : putIdL l (t.take (j + 1)) = putId (putIdL l (t.take j)) (t[j]).1 (t[j]).2 := by
  induction t generalizing l j with
  | nil => simp at h
  | cons x t ih =>
    cases j with
    | zero => simp [putIdL]
    | succ j =>
      rw [List.take_succ_cons, List.take_succ_cons, putIdL, putIdL, ih _ j (by simpa using h)]
      simp
theorem putIdL_len (l : List Int) (t : List (Int × Int)) : (putIdL l t).length ≤ l.length + 10 * t.length := by
  induction t generalizing l with
  | nil => simp [putIdL]
  | cons x t ih =>
    rw [putIdL, List.length_cons]
    have := ih (putId l x.1 x.2)
    have := putId_len l x.1 x.2
    omega
theorem putId_two (l : List Int) (n r : Int) : putNs l [n, r] = putId l n r := rfl
theorem ints_two (w : World) (n r : Int) (h : okZ [n, r]) : Ints (w.alloc (.cells #[.int .i64 n, .int .i64 r] 3)) (.slice (some ⟨w.heap.size, 0, none⟩) 2 2) [n, r] := by
  refine ⟨h, by simp [maxLen], .inr (.inr ⟨w.heap.size, 0, 2, rfl, by simp, by simp [maxLen], by simp, by simp, fun i hi => ?_⟩)⟩
  have : i = 0 ∨ i = 1 := by simp at hi; omega
  rcases this with rfl | rfl <;> simp

set_option maxHeartbeats 3200000 in
theorem putIds_any (w : World) (base : Nat) (v : Value) (l : List Int) (t : List (Int × Int)) (b off cap : Nat) (h : Own w base v l) (hb : base ≤ w.heap.size) (hl : l.length ≤ 10000000) (hk : t.length ≤ 1000)
    (hw : b < w.heap.size) (hz : ∀ x ∈ t, okZ [x.1, x.2]) (h0 : ∀ j (hj : j < t.length), w.cell? ⟨b, off + j * 2, none⟩ = some (.int .i64 (t[j]).1)) (h1 : ∀ j (hj : j < t.length), w.cell? ⟨b, off + j * 2 + 1, none⟩ = some (.int .i64 (t[j]).2)) :
    Calls Try.prog 28 #[v, .slice (some ⟨b, off, none⟩) t.length cap] w fun e w' => ∃ a c, e = .returned (.slice a (putIdL l t).length c) ∧ Own w' base (.slice a (putIdL l t).length c) (putIdL l t) ∧ Below w.heap.size w w' := by
  obtain ⟨a1, c1, rfl, _, _⟩ := h.byt.shape
  go_enter Try.func28, Try.ntmps28
  go_wp2_with fail
  go_loopw [0, 9] (fun b i wr => ∃ (j : Nat) (a2 : Option Addr) (c2 : Nat), j ≤ t.length ∧ i = .int .i64 j ∧ b = .slice a2 (putIdL l (t.take j)).length c2 ∧ Own wr base (.slice a2 (putIdL l (t.take j)).length c2) (putIdL l (t.take j)) ∧ Below w.heap.size w wr) (fun _ i _ => t.length - (intOf i).toNat)
  case atStart => exact ⟨0, a1, c1, Nat.zero_le _, rfl, rfl, h, Below.refl _ _⟩
  case round =>
    obtain ⟨j, a2, c2, hj, rfl, rfl, ho, hB⟩ := hrel
    clear h
    by_cases hlt : j < t.length
    · have HS := hide (putIdL_step l t j hlt)
      have hq := putIdL_len l (t.take j)
      rw [List.length_take, Nat.min_eq_left hj] at hq
      generalize hpt : putIdL l (t.take j) = lj at *
      clear hpt
      have hlt' : (j : Int) < (t.length : Int) := by omega
      have hzj := hz _ (List.getElem_mem hlt)
      have x0 : wr.cell? ⟨b, off + j * 2, none⟩ = some (.int .i64 (t[j]).1) := (hB.cell (p := ⟨b, off + j * 2, none⟩) hw).trans (h0 j hlt)
      have x1 : wr.cell? ⟨b, off + j * 2 + 1, none⟩ = some (.int .i64 (t[j]).2) := (hB.cell (p := ⟨b, off + j * 2 + 1, none⟩) hw).trans (h1 j hlt)
      generalize (t[j]).1 = n at *
      generalize (t[j]).2 = r at *
      clear h0 h1 hz
      go_wp2_with fail
      have hi : Ints ((wr.alloc (.cells #[.int .i64 n, .int .i64 r] 24)).alloc (.cells #[.int .i64 n, .int .i64 r] 3)) (.slice (some ⟨wr.heap.size + 1, 0, none⟩) 2 2) [n, r] := by
        have h := ints_two (wr.alloc (.cells #[.int .i64 n, .int .i64 r] 24)) n r hzj
        rw [show (wr.alloc (.cells #[.int .i64 n, .int .i64 r] 24)).heap.size = wr.heap.size + 1 by simp] at h
        exact h
      have hB2 := ((Below.refl wr.heap.size wr).alloc (Nat.le_refl _) (.cells #[.int .i64 n, .int .i64 r] 24)).alloc (by simp) (.cells #[.int .i64 n, .int .i64 r] 3)
      refine (putNums_any _ base _ _ lj [n, r] (ho.keep hB2) (by have := hB.size; have := hB2.size; omega) hi (by omega) (by simp)).mono ?_
      rintro e w2 ⟨a3, c3, rfl, ho3, hB3⟩
      have hB4 := bstep hB2 hB3
      clear hB2 hB3 hi
      rw [putId_two, ← unhide HS] at ho3 ⊢
      go_wp2_with fail
      go_roundw
      case rel => exact ⟨j + 1, a3, c3, by omega, by go_num, rfl, ho3, bstep hB hB4⟩
      case measure => simp [intOf]; omega
    · obtain rfl : j = t.length := by omega
      have HE := hide (show putIdL l (t.take t.length) = putIdL l t by rw [List.take_of_length_le (Nat.le_refl _)])
      rw [unhide HE] at ho ⊢
      clear HE
      go_wp2_with fail
      go_ret
      exact ⟨a2, c2, rfl, ho, hB⟩

theorem ints_one (w : World) (n : Int) (h : okZ [n]) : Ints (w.alloc (.cells #[.int .i64 n] 3)) (.slice (some ⟨w.heap.size, 0, none⟩) 1 1) [n] := by
  refine ⟨h, by simp [maxLen], .inr (.inr ⟨w.heap.size, 0, 1, rfl, by simp, by simp [maxLen], by simp, by simp, fun i hi => ?_⟩)⟩
  have : i = 0 := by simpa using hi
  subst this
  simp
theorem okZ_in {n : Int} (h : inR n) : okZ [n] := okZ.one (by have := h.1; omega) (by have := h.2; omega)
theorem okZ_in2 {n r : Int} (h : inR n) (k : inR r) : okZ [n, r] := (okZ_in h).app (okZ_in k)

/-- One number more. -/
theorem putNum1 (w : World) (base : Nat) (v : Value) (l : List Int) (n : Int) (h : Own w base v l) (hb : base ≤ w.heap.size) (hn : inR n) (hl : l.length ≤ 20000000) :
    Calls Try.prog 29 #[v, .slice (some ⟨w.heap.size, 0, none⟩) 1 1] (w.alloc (.cells #[.int .i64 n] 3)) fun e w' => ∃ a c, e = .returned (.slice a (putAll l n).length c) ∧ Own w' base (.slice a (putAll l n).length c) (putAll l n) ∧ Below w.heap.size w w' := by
  have hB2 := (Below.refl w.heap.size w).alloc (Nat.le_refl _) (.cells #[.int .i64 n] 3)
  refine (putNums_any _ base _ _ l [n] (h.keep hB2) (by have := hB2.size; omega) (ints_one w n (okZ_in hn)) hl (by simp)).mono ?_
  rintro e w' ⟨a, c, rfl, ho, hB⟩
  exact ⟨a, c, rfl, ho, bstep hB2 hB⟩

set_option maxHeartbeats 3200000 in
theorem putKey_any (w : World) (base : Nat) (v u : Value) (l k : List Int) (h : Own w base v l) (hb : base ≤ w.heap.size) (hu : Ints w u k) (hl : l.length ≤ 10000000) (hk : k.length ≤ 2097152) :
    Calls Try.prog 30 #[v, u] w fun e w' => ∃ a c, e = .returned (.slice a (putKey l k).length c) ∧ Own w' base (.slice a (putKey l k).length c) (putKey l k) ∧ Below w.heap.size w w' := by
  have hp := putAll_len l (k.length : Int)
  have H1 := hide (putNum1 w base v l (k.length : Int) h hb ⟨by omega, by omega⟩ (by omega))
  have HU := hide hu
  obtain ⟨a1, c1, rfl, _, _⟩ := h.byt.shape
  obtain ⟨a', c', rfl, _, _⟩ := hu.shape
  clear h hu
  unfold putKey
  generalize putAll l (k.length : Int) = lp at *
  go_enter Try.func30, Try.ntmps30
  go_wp2_with fail
  refine (unhide H1).mono ?_
  clear H1
  rintro e w1 ⟨a2, c2, rfl, ho, hB⟩
  go_wp2_with fail
  refine (putNums_any w1 base _ _ lp k ho (by have := hB.size; omega) ((unhide HU).keep hB) (by omega) hk).mono ?_
  rintro e w2 ⟨a3, c3, rfl, ho3, hB3⟩
  have hB4 := bstep hB hB3
  clear ho hB hB3
  go_wp2_with fail
  go_ret
  exact ⟨a3, c3, rfl, ho3, hB4⟩

theorem putTI_own (w : World) (v u : Value) (l t : List Int) (h : Byt w v l) (hu : Byt w u t) (hl : l.length ≤ 60000000) :
    Calls Try.prog 31 #[v, u] w fun e w' => ∃ a c, e = .returned (.slice a (putT l t).length c) ∧ Own w' w.heap.size (.slice a (putT l t).length c) (putT l t) ∧ Below w.heap.size w w' := by
  refine (putTI_any w v u l t h hu hl).mono ?_
  rintro e w' ⟨v', rfl, ho, hB⟩
  obtain ⟨a, c, rfl, _, _⟩ := ho.byt.shape
  exact ⟨a, c, rfl, ho, hB⟩
theorem putTS_own (w : World) (v u : Value) (l t : List Int) (h : Byt w v l) (hu : Byt w u t) (hl : l.length ≤ 60000000) :
    Calls Try.prog 81 #[v, u] w fun e w' => ∃ a c, e = .returned (.slice a (putT l t).length c) ∧ Own w' w.heap.size (.slice a (putT l t).length c) (putT l t) ∧ Below w.heap.size w w' := by
  refine (putTS_any w v u l t h hu hl).mono ?_
  rintro e w' ⟨v', rfl, ho, hB⟩
  obtain ⟨a, c, rfl, _, _⟩ := ho.byt.shape
  exact ⟨a, c, rfl, ho, hB⟩

def putVal (l t : List Int) (gone : Bool) : List Int := if gone then putAll l 1 else putT (putAll l 0) t
set_option maxHeartbeats 3200000 in
theorem putVal_any (w : World) (base : Nat) (v u : Value) (l t : List Int) (gone : Bool) (h : Own w base v l) (hb : base ≤ w.heap.size) (hu : Byt w u t) (hl : l.length ≤ 10000000) :
    Calls Try.prog 32 #[v, u, .bool gone] w fun e w' => ∃ a c, e = .returned (.slice a (putVal l t gone).length c) ∧ Own w' base (.slice a (putVal l t gone).length c) (putVal l t gone) ∧ Below w.heap.size w w' := by
  have H1 := hide (fun n hn => putNum1 w base v l n h hb hn (by omega))
  have HU := hide hu
  obtain ⟨a1, c1, rfl, _, _⟩ := h.byt.shape
  obtain ⟨a', c', rfl, _, _⟩ := hu.shape
  clear h hu
  cases gone
  · have hp := putAll_len l 0
    unfold putVal
    rw [if_neg (by decide)]
    have H2 := hide (unhide H1 0 ⟨by decide, by decide⟩)
    clear H1
    generalize putAll l 0 = lp at *
    go_enter Try.func32, Try.ntmps32
    go_wp2_with fail
    refine (unhide H2).mono ?_
    clear H2
    rintro e w1 ⟨a2, c2, rfl, ho, hB⟩
    go_wp2_with fail
    refine (putTI_own w1 _ _ lp t ho.byt ((unhide HU).keep hB) (by omega)).mono ?_
    rintro e w2 ⟨a3, c3, rfl, ho3, hB3⟩
    have hB4 := bstep hB hB3
    have ho4 := ho3.mono (base' := base) (by have := hB.size; omega)
    clear ho hB hB3 ho3
    go_wp2_with fail
    go_ret
    exact ⟨a3, c3, rfl, ho4, hB4⟩
  · unfold putVal
    rw [if_pos rfl]
    have H2 := hide (unhide H1 1 ⟨by decide, by decide⟩)
    clear H1
    generalize putAll l 1 = lp at *
    go_enter Try.func32, Try.ntmps32
    go_wp2_with fail
    refine (unhide H2).mono ?_
    clear H2
    rintro e w1 ⟨a2, c2, rfl, ho, hB⟩
    go_wp2_with fail
    go_ret
    exact ⟨a2, c2, rfl, ho, hB⟩
end Go.Proofs.Ytcabolcfoijglaa

/- impl.isSmall, impl.isDigit, impl.NameOk and impl.textOk answer what the plain tests say. -/
namespace Go.Proofs.Ytcabolcfoijglaa
open Go.RowKit
set_option linter.unusedVariables false

def smallB (x : Int) : Bool := decide (97 ≤ x ∧ x ≤ 122)
def digB (x : Int) : Bool := decide (48 ≤ x ∧ x ≤ 57)
theorem smallB_yes {x : Int} (h : 97 ≤ x ∧ x ≤ 122) : smallB x = true := by unfold smallB; simpa using h
theorem smallB_no {x : Int} (h : ¬ (97 ≤ x ∧ x ≤ 122)) : smallB x = false := by unfold smallB; simpa using h
theorem digB_yes {x : Int} (h : 48 ≤ x ∧ x ≤ 57) : digB x = true := by unfold digB; simpa using h
theorem digB_no {x : Int} (h : ¬ (48 ≤ x ∧ x ≤ 57)) : digB x = false := by unfold digB; simpa using h

theorem small_any (x : Int) (w : World) : Calls Try.prog 72 #[.int .u8 x] w fun e w' => e = .returned (.bool (smallB x)) ∧ w' = w := by
  by_cases h1 : 97 ≤ x
  · by_cases h2 : x ≤ 122
    · have HD := hide (smallB_yes ⟨h1, h2⟩)
      go_enter Try.func72, Try.ntmps72
      go_wp2
      go_ret
      exact ⟨by rw [unhide HD]; rfl, rfl⟩
    · have HD := hide (smallB_no (x := x) (by omega))
      go_enter Try.func72, Try.ntmps72
      go_wp2
      go_ret
      exact ⟨by rw [unhide HD]; rfl, rfl⟩
  · have HD := hide (smallB_no (x := x) (by omega))
    have d1 : decide (97 ≤ x) = false := by simpa using h1
    go_enter Try.func72, Try.ntmps72
    go_wp2
    go_ret
    exact ⟨by rw [unhide HD]; rfl, rfl⟩
theorem dig_any (x : Int) (w : World) : Calls Try.prog 73 #[.int .u8 x] w fun e w' => e = .returned (.bool (digB x)) ∧ w' = w := by
  by_cases h1 : 48 ≤ x
  · by_cases h2 : x ≤ 57
    · have HD := hide (digB_yes ⟨h1, h2⟩)
      go_enter Try.func73, Try.ntmps73
      go_wp2
      go_ret
      exact ⟨by rw [unhide HD]; rfl, rfl⟩
    · have HD := hide (digB_no (x := x) (by omega))
      go_enter Try.func73, Try.ntmps73
      go_wp2
      go_ret
      exact ⟨by rw [unhide HD]; rfl, rfl⟩
  · have HD := hide (digB_no (x := x) (by omega))
    have d1 : decide (48 ≤ x) = false := by simpa using h1
    go_enter Try.func73, Try.ntmps73
    go_wp2
    go_ret
    exact ⟨by rw [unhide HD]; rfl, rfl⟩

def standB (x : Int) : Bool := decide (32 ≤ x ∧ x ≤ 126)
theorem standB_yes {x : Int} (h : 32 ≤ x ∧ x ≤ 126) : standB x = true := by unfold standB; simpa using h
theorem standB_no {x : Int} (h : ¬ (32 ≤ x ∧ x ≤ 126)) : standB x = false := by unfold standB; simpa using h
theorem stand_any (x : Int) (w : World) : Calls Try.prog 71 #[.int .u8 x] w fun e w' => e = .returned (.bool (standB x)) ∧ w' = w := by
  by_cases h1 : 32 ≤ x
  · by_cases h2 : x ≤ 126
    · have HD := hide (standB_yes ⟨h1, h2⟩)
      go_enter Try.func71, Try.ntmps71
      go_wp2
      go_ret
      exact ⟨by rw [unhide HD]; rfl, rfl⟩
    · have HD := hide (standB_no (x := x) (by omega))
      go_enter Try.func71, Try.ntmps71
      go_wp2
      go_ret
      exact ⟨by rw [unhide HD]; rfl, rfl⟩
  · have HD := hide (standB_no (x := x) (by omega))
    have d1 : decide (32 ≤ x) = false := by simpa using h1
    go_enter Try.func71, Try.ntmps71
    go_wp2
    go_ret
    exact ⟨by rw [unhide HD]; rfl, rfl⟩

theorem nameI_short (w : World) (a : Option Addr) (n cap : Nat) (h : n < 1 ∨ 8 < n) :
    Calls Try.prog 42 #[.slice a n cap] w fun e w' => e = .returned (.bool false) ∧ w' = w := by
  by_cases h1 : n < 1
  · have h1' : (n : Int) < 1 := by omega
    go_enter Try.func42, Try.ntmps42
    go_wp2_with fail
    go_ret
    exact ⟨rfl, rfl⟩
  · have h1' : decide ((n : Int) < 1) = false := by simp; omega
    have h2 : (8 : Int) < (n : Int) := by omega
    go_enter Try.func42, Try.ntmps42
    go_wp2_with fail
    go_ret
    exact ⟨rfl, rfl⟩

open Classical in
set_option maxHeartbeats 1600000 in
theorem nameI_row (w : World) (b off cap : Nat) (l : List Int) (hok : okB l) (h1 : 1 ≤ l.length) (h8 : l.length ≤ 8)
    (hc : ∀ i, i < l.length → w.cell? ⟨b, off + i, none⟩ = some (.int .u8 (l.getD i 0))) :
    Calls Try.prog 42 #[.slice (some ⟨b, off, none⟩) l.length cap] w fun e w' => e = .returned (.bool (decide (NameOk l))) ∧ w' = w := by
  have d1 : decide ((l.length : Int) < 1) = false := by simp; omega
  have d2 : decide ((8 : Int) < (l.length : Int)) = false := by simp; omega
  have hl0 : (0 : Int) < (l.length : Int) := by omega
  obtain ⟨y, hy⟩ : ∃ y, y = l.getD 0 0 := ⟨_, rfl⟩
  have hcy : w.cell? ⟨b, off, none⟩ = some (.int .u8 y) := by rw [hy]; exact hc 0 (by omega)
  have HY := hide hy
  clear hy
  by_cases hs : 97 ≤ y ∧ y ≤ 122
  · have sy := smallB_yes hs
    go_enter Try.func42, Try.ntmps42
    go_wp2_with (go_at_call 72; refine (small_any y w).mono ?_; rintro e w' ⟨rfl, rfl⟩)
    go_loop [22] (fun i => ∃ k : Nat, k ≤ l.length ∧ i = .int .i64 k ∧ allTo nameCh l k) (fun i => l.length - (intOf i).toNat)
    case atStart => exact ⟨0, Nat.zero_le _, rfl, fun i hi => by omega⟩
    case round =>
      obtain ⟨k, hk, rfl, ha⟩ := hrel
      have HA := hide ha
      clear ha
      by_cases hlt : k < l.length
      · obtain ⟨x, hx⟩ : ∃ x, x = l.getD k 0 := ⟨_, rfl⟩
        have hcx : w'.cell? ⟨b, off + k, none⟩ = some (.int .u8 x) := by rw [hx]; exact hc _ hlt
        have HX := hide hx
        have hlt' : (k : Int) < (l.length : Int) := by omega
        clear hc hcy sy hx
        by_cases hn : 97 ≤ x ∧ x ≤ 122
        · have HN := hide (show nameCh k x from .inl hn)
          have sx := smallB_yes hn
          clear hn
          go_wp2_with (go_at_call 72; refine (small_any x _).mono ?_; rintro e w' ⟨rfl, rfl⟩)
          go_round
          case rel => exact ⟨k + 1, by omega, by go_num, allTo_step (unhide HA) (by rw [← unhide HX]; exact unhide HN)⟩
          case measure => simp [intOf]; omega
        · have sx := smallB_no hn
          by_cases hd : 48 ≤ x ∧ x ≤ 57
          · have hk0 : 0 < k := by
              by_cases e : k = 0
              · subst e; exact absurd hs (by rw [unhide HY, ← unhide HX]; exact hn)
              · omega
            have HN := hide (show nameCh k x from .inr ⟨hk0, hd⟩)
            have sd := digB_yes hd
            clear hn hd
            go_wp2_with (first | (go_at_call 72; refine (small_any x _).mono ?_; rintro e w' ⟨rfl, rfl⟩) | (go_at_call 73; refine (dig_any x _).mono ?_; rintro e w' ⟨rfl, rfl⟩))
            go_round
            case rel => exact ⟨k + 1, by omega, by go_num, allTo_step (unhide HA) (by rw [← unhide HX]; exact unhide HN)⟩
            case measure => simp [intOf]; omega
          · have sd := digB_no hd
            have HF := hide (show decide (NameOk l) = false by
              simp only [decide_eq_false_iff_not]
              rintro ⟨_, _, h⟩
              have := h k hlt
              rw [← unhide HX] at this
              rcases this with h | ⟨_, h⟩
              · exact hn h
              · exact hd h)
            clear hn hd
            go_wp2_with (first | (go_at_call 72; refine (small_any x _).mono ?_; rintro e w' ⟨rfl, rfl⟩) | (go_at_call 73; refine (dig_any x _).mono ?_; rintro e w' ⟨rfl, rfl⟩))
            go_ret
            exact ⟨by rw [unhide HF]; rfl, rfl⟩
      · have e : k = l.length := by omega
        subst e
        have HF := hide (show decide (NameOk l) = true by simp only [decide_eq_true_eq]; exact ⟨h1, h8, unhide HA⟩)
        clear hc
        go_wp2_with fail
        go_ret
        exact ⟨by rw [unhide HF]; rfl, rfl⟩
  · have sy := smallB_no hs
    have HF := hide (show decide (NameOk l) = false by
      simp only [decide_eq_false_iff_not]
      rintro ⟨_, _, h⟩
      have := h 0 (by omega)
      rw [← unhide HY] at this
      rcases this with h | ⟨h, _⟩
      · exact hs h
      · omega)
    clear hc hs
    go_enter Try.func42, Try.ntmps42
    go_wp2_with (go_at_call 72; refine (small_any y w).mono ?_; rintro e w' ⟨rfl, rfl⟩)
    go_ret
    exact ⟨by rw [unhide HF]; rfl, rfl⟩

open Classical in
theorem nameI_any (w : World) (v : Value) (l : List Int) (h : Byt w v l) :
    Calls Try.prog 42 #[v] w fun e w' => e = .returned (.bool (decide (NameOk l))) ∧ w' = w := by
  by_cases hl : l.length < 1 ∨ 8 < l.length
  · obtain ⟨a, cap, rfl, _⟩ := h.shape
    have hd : decide (NameOk l) = false := by simp only [decide_eq_false_iff_not]; rintro ⟨_, _, _⟩; omega
    rw [hd]
    exact nameI_short w a _ cap hl
  · obtain ⟨hok, hm, ⟨rfl, rfl⟩ | ⟨x, cap, rfl, hc, rfl⟩ | ⟨b, off, cap, rfl, _, _, _, _, h5⟩⟩ := h
    · simp at hl
    · simp at hl
    · exact nameI_row w b off cap l hok (by omega) (by omega) h5

theorem nameI_yes (w : World) (v : Value) (l : List Int) (h : Byt w v l) (hn : NameOk l) : Calls Try.prog 42 #[v] w fun e w' => e = .returned (.bool true) ∧ w' = w := by
  refine (nameI_any w v l h).mono ?_
  rintro e w' ⟨rfl, h⟩
  exact ⟨by simp [hn], h⟩
theorem nameI_no (w : World) (v : Value) (l : List Int) (h : Byt w v l) (hn : ¬ NameOk l) : Calls Try.prog 42 #[v] w fun e w' => e = .returned (.bool false) ∧ w' = w := by
  refine (nameI_any w v l h).mono ?_
  rintro e w' ⟨rfl, h⟩
  exact ⟨by simp [hn], h⟩
open Classical in
set_option maxHeartbeats 1600000 in
theorem textI_any (w : World) (v : Value) (l : List Int) (h : Byt w v l) :
    Calls Try.prog 41 #[v] w fun e w' => e = .returned (.bool (decide (TextOk l))) ∧ w' = w := by
  by_cases hl : 30 < l.length
  · obtain ⟨a, cap, rfl, _⟩ := h.shape
    have HD := hide (show decide (TextOk l) = false by simp only [decide_eq_false_iff_not]; rintro ⟨_, _⟩; omega)
    have d2 : (30 : Int) < (l.length : Int) := by omega
    go_enter Try.func41, Try.ntmps41
    go_wp2
    go_ret
    exact ⟨by rw [unhide HD]; rfl, rfl⟩
  have d2 : ¬ (30 : Int) < (l.length : Int) := by omega
  by_cases h0 : l = []
  · obtain ⟨a, cap, rfl, _⟩ := h.shape
    subst h0
    have HD := hide (show decide (TextOk []) = true by simp only [decide_eq_true_eq]; exact ⟨by simp, fun i hi => by simp at hi⟩)
    go_enter Try.func41, Try.ntmps41
    go_wp2
    refine wp_loop_rounds 1 ?_
    rw [rounds_succ]
    go_wp2
    go_ret
    exact ⟨by rw [unhide HD]; rfl, rfl⟩
  obtain ⟨hok, hm, ⟨_, e⟩ | ⟨_, _, _, _, e⟩ | ⟨b, off, cap, rfl, _, _, _, _, hc⟩⟩ := h
  · exact absurd e h0
  · exact absurd e h0
  go_enter Try.func41, Try.ntmps41
  go_wp2
  go_loop [10] (fun i => ∃ k : Nat, k ≤ l.length ∧ i = .int .i64 k ∧ allTo textCh l k) (fun i => l.length - (intOf i).toNat)
  case atStart => exact ⟨0, Nat.zero_le _, rfl, fun i hi => by omega⟩
  case round =>
    obtain ⟨k, hk, rfl, ha⟩ := hrel
    have HA := hide ha
    clear ha
    by_cases hlt : k < l.length
    · obtain ⟨x, hx⟩ : ∃ x, x = l.getD k 0 := ⟨_, rfl⟩
      have hcx : w.cell? ⟨b, off + k, none⟩ = some (.int .u8 x) := by rw [hx]; exact hc _ hlt
      have HX := hide hx
      have hlt' : (k : Int) < (l.length : Int) := by omega
      clear hc hx
      by_cases hn : textCh k x
      · have HN := hide hn
        have sx := standB_yes (x := x) (by unfold textCh at hn; omega)
        clear hn
        go_wp2_with (go_at_call 71; refine (stand_any x _).mono ?_; rintro e w' ⟨rfl, rfl⟩)
        go_round
        case rel => exact ⟨k + 1, by omega, by go_num, allTo_step (unhide HA) (by rw [← unhide HX]; exact unhide HN)⟩
        case measure => simp [intOf]; omega
      · have HF := hide (show decide (TextOk l) = false by
          simp only [decide_eq_false_iff_not]
          rintro ⟨_, h⟩
          exact hn (by rw [unhide HX]; exact h k hlt))
        have sx := standB_no (x := x) (by unfold textCh at hn; omega)
        clear hn
        go_wp2_with (go_at_call 71; refine (stand_any x _).mono ?_; rintro e w' ⟨rfl, rfl⟩)
        go_ret
        exact ⟨by rw [unhide HF]; rfl, rfl⟩
    · have e : k = l.length := by omega
      subst e
      have HF := hide (show decide (TextOk l) = true by simp only [decide_eq_true_eq]; exact ⟨by omega, unhide HA⟩)
      clear hc
      go_wp2
      go_ret
      exact ⟨by rw [unhide HF]; rfl, rfl⟩

theorem textI_yes (w : World) (v : Value) (l : List Int) (h : Byt w v l) (hn : TextOk l) : Calls Try.prog 41 #[v] w fun e w' => e = .returned (.bool true) ∧ w' = w := by
  refine (textI_any w v l h).mono ?_
  rintro e w' ⟨rfl, h⟩
  exact ⟨by simp [hn], h⟩
theorem textI_no (w : World) (v : Value) (l : List Int) (h : Byt w v l) (hn : ¬ TextOk l) : Calls Try.prog 41 #[v] w fun e w' => e = .returned (.bool false) ∧ w' = w := by
  refine (textI_any w v l h).mono ?_
  rintro e w' ⟨rfl, h⟩
  exact ⟨by simp [hn], h⟩

end Go.Proofs.Ytcabolcfoijglaa

/- impl.stampOk, impl.idOk, impl.valueOk, impl.isZeroOp answer what the plain tests say. -/
namespace Go.Proofs.Ytcabolcfoijglaa
open Go.RowKit
set_option linter.unusedVariables false
set_option maxRecDepth 100000

def stampB (n r : Int) : Bool := decide (1 ≤ n) && (decide (n ≤ 1000000) && (decide (0 ≤ r) && decide (r < 8)))
theorem stampB_cases (n r : Int) :
    (stampB n r = false ∧ decide (1 ≤ n) = false) ∨
    (stampB n r = false ∧ decide (1 ≤ n) = true ∧ decide (n ≤ 1000000) = false) ∨
    (stampB n r = false ∧ decide (1 ≤ n) = true ∧ decide (n ≤ 1000000) = true ∧ decide (0 ≤ r) = false) ∨
    (stampB n r = true ∧ decide (1 ≤ n) = true ∧ decide (n ≤ 1000000) = true ∧ decide (0 ≤ r) = true ∧ decide (r < 8) = true) ∨
    (stampB n r = false ∧ decide (1 ≤ n) = true ∧ decide (n ≤ 1000000) = true ∧ decide (0 ≤ r) = true ∧ decide (r < 8) = false) := by
  unfold stampB
  cases decide (1 ≤ n) <;> cases decide (n ≤ 1000000) <;> cases decide (0 ≤ r) <;> cases decide (r < 8) <;> simp

set_option maxHeartbeats 1600000 in
theorem stampI_any (w : World) (n r : Int) :
    Calls Try.prog 44 #[.agg #[.int .i64 n, .int .i64 r]] w fun e w' => e = .returned (.bool (stampB n r)) ∧ w' = w.alloc (.cells #[.int .i64 n, .int .i64 r] 24) := by
  rcases stampB_cases n r with ⟨h, q1⟩ | ⟨h, q1, q2⟩ | ⟨h, q1, q2, q3⟩ | ⟨h, q1, q2, q3, q4⟩ | ⟨h, q1, q2, q3, q4⟩
  all_goals
    have HE := hide h
    clear h
    go_enter Try.func44, Try.ntmps44
    go_wp2
    go_ret
    exact ⟨by rw [unhide HE]; rfl, rfl⟩

theorem idB_stamp (n r : Int) :
    (stampB n r = true ∧ idB n r = true) ∨
    (stampB n r = false ∧ idB n r = false ∧ (n == 0) = false) ∨
    (stampB n r = false ∧ idB n r = false ∧ n = 0 ∧ (n == 0) = true ∧ decide (0 ≤ r) = false) ∨
    (stampB n r = false ∧ idB n r = decide (r ≤ 121) ∧ n = 0 ∧ (n == 0) = true ∧ decide (0 ≤ r) = true) := by
  unfold stampB idB
  by_cases a : n = 0
  · subst a
    by_cases b : 0 ≤ r
    · right; right; right
      refine ⟨by simp, ?_, rfl, rfl, by simpa using b⟩
      rw [Bool.eq_iff_iff]
      simp
      omega
    · right; right; left
      refine ⟨by simp, ?_, rfl, rfl, by simpa using b⟩
      rw [Bool.eq_false_iff]
      simp only [ne_eq, Bool.and_eq_true, Bool.or_eq_true, decide_eq_true_eq]
      omega
  · by_cases c : 1 ≤ n ∧ n ≤ 1000000 ∧ 0 ≤ r ∧ r < 8
    · left
      simp only [Bool.and_eq_true, Bool.or_eq_true, decide_eq_true_eq]
      omega
    · right; left
      refine ⟨?_, ?_, by simpa using a⟩
      · rw [Bool.eq_false_iff]
        simp only [ne_eq, Bool.and_eq_true, decide_eq_true_eq]
        omega
      · rw [Bool.eq_false_iff]
        simp only [ne_eq, Bool.and_eq_true, Bool.or_eq_true, decide_eq_true_eq]
        omega

set_option maxHeartbeats 1600000 in
theorem idI_any (w : World) (n r : Int) :
    Calls Try.prog 38 #[.agg #[.int .i64 n, .int .i64 r]] w fun e w' => e = .returned (.bool (idB n r)) ∧ w' = (w.alloc (.cells #[.int .i64 n, .int .i64 r] 24)).alloc (.cells #[.int .i64 n, .int .i64 r] 24) := by
  have HS := hide (stampI_any (w.alloc (.cells #[.int .i64 n, .int .i64 r] 24)) n r)
  rcases idB_stamp n r with ⟨h, k⟩ | ⟨h, k, q1⟩ | ⟨h, k, rfl, q1, q2⟩ | ⟨h, k, rfl, q1, q2⟩
  all_goals
    rw [h] at HS
    have HE := hide k
    clear h k
    go_enter Try.func38, Try.ntmps38
    go_wp2_with fail
    refine (unhide HS).mono ?_
    rintro e w1 ⟨rfl, rfl⟩
    go_wp2
    go_ret
    exact ⟨by rw [unhide HE]; rfl, rfl⟩

theorem nameI_b (w : World) (v : Value) (l : List Int) (h : Byt w v l) : Calls Try.prog 42 #[v] w fun e w' => e = .returned (.bool (nameB l)) ∧ w' = w := by
  by_cases hn : NameOk l
  · rw [(nameB_iff l).2 hn]; exact nameI_yes w v l h hn
  · rw [Bool.eq_false_iff.2 (fun k => hn ((nameB_iff l).1 k))]; exact nameI_no w v l h hn
theorem textI_b (w : World) (v : Value) (l : List Int) (h : Byt w v l) : Calls Try.prog 41 #[v] w fun e w' => e = .returned (.bool (textB l)) ∧ w' = w := by
  by_cases hn : TextOk l
  · rw [(textB_iff l).2 hn]; exact textI_yes w v l h hn
  · rw [Bool.eq_false_iff.2 (fun k => hn ((textB_iff l).1 k))]; exact textI_no w v l h hn

def valB (t : List Int) (gone : Bool) : Bool := if gone then (t.length : Int) == 0 else textB t
set_option maxHeartbeats 1600000 in
theorem valI_any (w : World) (v : Value) (t : List Int) (gone : Bool) (h : Byt w v t) :
    Calls Try.prog 43 #[v, .bool gone] w fun e w' => e = .returned (.bool (valB t gone)) ∧ w' = w := by
  have HT := hide (textI_b w v t h)
  obtain ⟨a, c, rfl, _, _⟩ := h.shape
  clear h
  cases gone
  · go_enter Try.func43, Try.ntmps43
    go_wp2_with fail
    refine (unhide HT).mono ?_
    rintro e w1 ⟨rfl, rfl⟩
    go_wp2
    go_ret
    exact ⟨rfl, rfl⟩
  · go_enter Try.func43, Try.ntmps43
    go_wp2_with fail
    go_ret
    exact ⟨rfl, rfl⟩

/-- Elem, Name and Text of a node without Kids. -/
def loneB (k : Int) (n t : List Int) : Bool := if k = 0 then nameB n && (t.length : Int) == 0 else if k = 1 then (n.length : Int) == 0 && textB t else false

theorem attrsI_none (w : World) : Calls Try.prog 95 #[.slice none 0 0] w fun e w' => e = .returned (.bool true) ∧ w' = w := by
  go_enter Try.func95, Try.ntmps95
  go_wp2
  refine wp_loop_rounds 1 ?_
  rw [rounds_succ]
  go_wp2
  go_ret
  exact ⟨rfl, rfl⟩

set_option maxHeartbeats 3200000 in
theorem partI_lone (w : World) (k : Int) (vn vt : Value) (n t : List Int) (g : Nat) (hn : Byt w vn n) (ht : Byt w vt t) :
    Calls Try.prog 70 #[.agg #[.int .i64 k, vn, vt, .slice none 0 0, .slice none 0 0], .pointer (some ⟨g, 0, none⟩)] w fun e w' => e = .returned (.bool (loneB k n t)) ∧ w' = w.alloc (.cells #[.int .i64 k, vn, vt, .slice none 0 0, .slice none 0 0] 62) := by
  have HA := hide ((Below.refl w.heap.size w).alloc (Nat.le_refl _) (.cells #[.int .i64 k, vn, vt, .slice none 0 0, .slice none 0 0] 62))
  have HN := hide (nameI_b _ vn n (hn.keep (unhide HA)))
  have HT := hide (textI_b _ vt t (ht.keep (unhide HA)))
  obtain ⟨a1, c1, rfl, _, _⟩ := hn.shape
  obtain ⟨a2, c2, rfl, _, _⟩ := ht.shape
  clear hn ht
  by_cases k0 : k = 0
  · subst k0
    have HE := hide (show loneB 0 n t = (nameB n && (t.length : Int) == 0) from rfl)
    generalize nameB n = x at *
    generalize n.length = ln at *
    generalize t.length = lt at *
    cases x
    · go_enter Try.func70, Try.ntmps70
      go_wp2_with fail
      refine (unhide HN).mono ?_
      rintro e w1 ⟨rfl, rfl⟩
      go_wp2_with fail
      go_ret
      exact ⟨by rw [unhide HE]; rfl, rfl⟩
    · by_cases h0 : lt = 0
      · subst h0
        go_enter Try.func70, Try.ntmps70
        go_wp2_with fail
        refine (unhide HN).mono ?_
        rintro e w1 ⟨rfl, rfl⟩
        go_wp2_with fail
        refine (attrsI_none _).mono ?_
        rintro e w1 ⟨rfl, rfl⟩
        go_wp2_with fail
        go_ret
        exact ⟨by rw [unhide HE]; rfl, rfl⟩
      · have h0' : ((lt : Int) == 0) = false := by simpa using h0
        go_enter Try.func70, Try.ntmps70
        go_wp2_with fail
        refine (unhide HN).mono ?_
        rintro e w1 ⟨rfl, rfl⟩
        go_wp2_with fail
        go_ret
        exact ⟨by rw [unhide HE, h0']; rfl, rfl⟩
  · by_cases k1 : k = 1
    · subst k1
      have HE := hide (show loneB 1 n t = ((n.length : Int) == 0 && textB t) from rfl)
      generalize textB t = x at *
      generalize n.length = ln at *
      generalize t.length = lt at *
      by_cases h0 : ln = 0
      · subst h0
        cases x
        · go_enter Try.func70, Try.ntmps70
          go_wp2_with fail
          refine (unhide HT).mono ?_
          rintro e w1 ⟨rfl, rfl⟩
          go_wp2_with fail
          go_ret
          exact ⟨by rw [unhide HE]; rfl, rfl⟩
        · go_enter Try.func70, Try.ntmps70
          go_wp2_with fail
          refine (unhide HT).mono ?_
          rintro e w1 ⟨rfl, rfl⟩
          go_wp2_with fail
          go_ret
          exact ⟨by rw [unhide HE]; rfl, rfl⟩
      · have h0' : ((ln : Int) == 0) = false := by simpa using h0
        go_enter Try.func70, Try.ntmps70
        go_wp2_with fail
        go_ret
        exact ⟨by rw [unhide HE, h0']; rfl, rfl⟩
    · have HE := hide (show loneB k n t = false by unfold loneB; rw [if_neg k0, if_neg k1])
      have q0 : (k == 0) = false := by simpa using k0
      have q1 : (k == 1) = false := by simpa using k1
      go_enter Try.func70, Try.ntmps70
      go_wp2_with fail
      go_ret
      exact ⟨by rw [unhide HE]; rfl, rfl⟩

set_option maxHeartbeats 3200000 in
theorem loneI_any (w : World) (k : Int) (vn vt : Value) (n t : List Int) (hn : Byt w vn n) (ht : Byt w vt t) :
    Calls Try.prog 40 #[.agg #[.int .i64 k, vn, vt, .slice none 0 0, .slice none 0 0]] w fun e w' => e = .returned (.bool (loneB k n t)) ∧ w' = ((w.alloc (.cells #[.int .i64 k, vn, vt, .slice none 0 0, .slice none 0 0] 62)).alloc (.cells #[.int .u32 0, .int .i32 0, .int .u32 0, .map none] 108)).alloc (.cells #[.int .i64 k, vn, vt, .slice none 0 0, .slice none 0 0] 62) := by
  have HN := hide (fun W (h : Below w.heap.size w W) => hn.keep h)
  have HT := hide (fun W (h : Below w.heap.size w W) => ht.keep h)
  obtain ⟨a1, c1, rfl, _, _⟩ := hn.shape
  obtain ⟨a2, c2, rfl, _, _⟩ := ht.shape
  clear hn ht
  go_enter Try.func40, Try.ntmps40
  go_wp2_with fail
  have HB := hide (((Below.refl w.heap.size w).alloc (Nat.le_refl _) (.cells #[.int .i64 k, .slice a1 n.length c1, .slice a2 t.length c2, .slice none 0 0, .slice none 0 0] 62)).alloc (by simp) (.cells #[.int .u32 0, .int .i32 0, .int .u32 0, .map none] 108))
  refine (partI_lone _ k _ _ n t _ (unhide HN _ (unhide HB)) (unhide HT _ (unhide HB))).mono ?_
  rintro e w1 ⟨rfl, rfl⟩
  go_wp2
  go_ret
  exact ⟨rfl, rfl⟩

def zeroOpB (o : OpV) : Bool := (o.kind == 0) && (zeroB o.atN o.atR && (zeroB o.nodeN o.nodeR && (zeroB o.parN o.parR && ((o.key.length : Int) == 0 && ((o.elem == 0) && ((o.name.length : Int) == 0 && ((o.text.length : Int) == 0 && !o.gone)))))))

set_option maxHeartbeats 3200000 in
theorem zeroI_any (w : World) (o : OpV) (a1 a2 a3 : Option Addr) (c1 c2 c3 : Nat) :
    Calls Try.prog 45 #[opVal o (.slice a1 o.key.length c1) (.slice a2 o.name.length c2) (.slice a3 o.text.length c3)] w fun e w' => e = .returned (.bool (zeroOpB o)) ∧ Below w.heap.size w w' := by
  unfold opVal
  go_enter Try.func45, Try.ntmps45
  go_wp2_with fail
  all_goals
    go_ret
    exact ⟨by simp [zeroOpB, zeroB, *], (Below.refl w.heap.size w).alloc (Nat.le_refl _) _⟩
end Go.Proofs.Ytcabolcfoijglaa

/- The test of an operation, the two ways round, in plain mathematics. -/
namespace Go.Proofs.Ytcabolcfoijglaa
set_option linter.unusedVariables false

theorem headB_eq (o : OpV) : opHeadB o = (decide (o.kind < 0) || (decide (3 < o.kind) || (!stampB o.atN o.atR || !textB o.text))) := by
  unfold opHeadB stampB
  have e1 : decide (1 ≤ o.atN) = !decide (o.atN < 1) := by rw [Bool.eq_iff_iff]; simp
  have e2 : decide (o.atN ≤ 1000000) = !decide (1000000 < o.atN) := by rw [Bool.eq_iff_iff]; simp
  have e3 : decide (0 ≤ o.atR) = !decide (o.atR < 0) := by rw [Bool.eq_iff_iff]; simp
  have e4 : decide (o.atR < 8) = !decide (8 ≤ o.atR) := by rw [Bool.eq_iff_iff]; simp
  rw [e1, e2, e3, e4]
  cases decide (o.kind < 0) <;> cases decide (3 < o.kind) <;> cases decide (o.atN < 1) <;> cases decide (1000000 < o.atN) <;> cases decide (o.atR < 0) <;> cases decide (8 ≤ o.atR) <;> rfl
theorem text_none {t : List Int} (h : ((t.length : Int) == 0) = true) : textB t = true := by
  have : t = [] := by simpa using h
  subst this
  rfl
theorem len_nil : ((([] : List Int).length : Int) == 0) = true := rfl
theorem zero_zero : zeroB 0 0 = true := rfl

def rest0 (o : OpV) : OpV := ⟨0, 0, 0, o.nodeN, o.nodeR, 0, 0, [], 0, [], [], o.gone⟩
def rest1 (o : OpV) : OpV := ⟨0, 0, 0, 0, 0, 0, 0, [], o.elem, o.name, o.text, o.gone⟩
def rest2 (o : OpV) : OpV := ⟨0, 0, 0, 0, 0, o.parN, o.parR, o.key, o.elem, o.name, [], o.gone⟩
def rest3 (o : OpV) : OpV := ⟨0, 0, 0, 0, 0, o.parN, o.parR, o.key, o.elem, [], [], false⟩

theorem opB_0 {o : OpV} (h : o.kind = 0) : opB o = (stampB o.atN o.atR && ((idB o.parN o.parR && (keyB o.key && loneB o.elem o.name o.text)) && zeroOpB (rest0 o))) := by
  unfold opB
  rw [headB_eq, h]
  simp only [Int.lt_irrefl, decide_false, Bool.false_or, beq_self_eq_true, if_true, show decide ((3 : Int) < 0) = false from rfl]
  unfold opNewB zeroOpB rest0
  simp only [zero_zero, len_nil, beq_self_eq_true, Bool.true_and]
  unfold loneB
  cases hs : stampB o.atN o.atR
  · simp
  cases idB o.parN o.parR
  · simp
  cases keyB o.key
  · simp
  cases zeroB o.nodeN o.nodeR
  · simp
  cases o.gone
  · by_cases e1 : o.elem = 1
    · rw [e1]
      cases textB o.text <;> simp
    · by_cases e0 : o.elem = 0
      · rw [e0]
        cases ht : textB o.text
        · cases hl : ((o.text.length : Int) == 0)
          · simp
          · rw [text_none hl] at ht; cases ht
        · simp
      · simp [e0, e1]
  · simp

theorem opB_1 {o : OpV} (h : o.kind = 1) : opB o = (stampB o.atN o.atR && ((idB o.nodeN o.nodeR && (idB o.parN o.parR && keyB o.key)) && zeroOpB (rest1 o))) := by
  unfold opB
  rw [headB_eq, h]
  simp only [show decide ((1 : Int) < 0) = false from rfl, Bool.false_or, show ((1 : Int) == 0) = false from rfl, show ((1 : Int) == 1) = true from rfl, show decide ((3 : Int) < 1) = false from rfl, if_true]
  unfold opMoveB zeroOpB rest1
  simp only [zero_zero, len_nil, beq_self_eq_true, Bool.true_and]
  cases hs : stampB o.atN o.atR
  · simp
  cases idB o.nodeN o.nodeR
  · simp
  cases idB o.parN o.parR
  · simp
  cases keyB o.key
  · simp
  cases hl : ((o.text.length : Int) == 0)
  · simp
  · rw [text_none hl]; simp

theorem opB_2 {o : OpV} (h : o.kind = 2) : opB o = (stampB o.atN o.atR && ((idB o.nodeN o.nodeR && textB o.text) && zeroOpB (rest2 o))) := by
  unfold opB
  rw [headB_eq, h]
  simp only [show decide ((2 : Int) < 0) = false from rfl, Bool.false_or, show ((2 : Int) == 0) = false from rfl, show ((2 : Int) == 1) = false from rfl, show decide ((3 : Int) < 2) = false from rfl]
  unfold opRestB zeroOpB rest2
  rw [h]
  simp only [zero_zero, len_nil, beq_self_eq_true, Bool.true_and, if_true]
  have ek : decide (0 < (o.key.length : Int)) = !((o.key.length : Int) == 0) := by rw [Bool.eq_iff_iff]; simp [Nat.pos_iff_ne_zero]
  rw [ek]
  cases hs : stampB o.atN o.atR
  · simp
  cases idB o.nodeN o.nodeR
  · simp
  cases textB o.text
  · simp
  cases zeroB o.parN o.parR
  · simp
  cases ((o.key.length : Int) == 0)
  · simp
  cases (o.elem == 0)
  · simp
  simp

theorem opB_3 {o : OpV} (h : o.kind = 3) : opB o = (stampB o.atN o.atR && ((idB o.nodeN o.nodeR && (nameB o.name && valB o.text o.gone)) && zeroOpB (rest3 o))) := by
  unfold opB
  rw [headB_eq, h]
  simp only [show decide ((3 : Int) < 0) = false from rfl, Bool.false_or, show ((3 : Int) == 0) = false from rfl, show ((3 : Int) == 1) = false from rfl, show decide ((3 : Int) < 3) = false from rfl]
  unfold opRestB zeroOpB rest3 valB
  rw [h]
  simp only [zero_zero, len_nil, beq_self_eq_true, Bool.true_and, show ((3 : Int) == 2) = false from rfl]
  have ek : decide (0 < (o.key.length : Int)) = !((o.key.length : Int) == 0) := by rw [Bool.eq_iff_iff]; simp [Nat.pos_iff_ne_zero]
  rw [ek]
  cases hs : stampB o.atN o.atR
  · simp
  cases idB o.nodeN o.nodeR
  · simp
  cases zeroB o.parN o.parR
  · simp
  cases ((o.key.length : Int) == 0)
  · simp
  cases (o.elem == 0)
  · simp
  cases nameB o.name
  · simp
  cases o.gone
  · cases textB o.text <;> simp
  · cases hl : ((o.text.length : Int) == 0)
    · simp
    · rw [text_none hl]; simp

theorem opB_4 {o : OpV} (h0 : o.kind ≠ 0) (h1 : o.kind ≠ 1) (h2 : o.kind ≠ 2) (h3 : o.kind ≠ 3) : opB o = false := by
  have : (decide (o.kind < 0) || decide (3 < o.kind)) = true := by
    simp only [Bool.or_eq_true, decide_eq_true_eq]
    omega
  unfold opB
  rw [headB_eq, ← Bool.or_assoc, this]
  rfl
end Go.Proofs.Ytcabolcfoijglaa

/- impl.keyOk answers what the plain test says. -/
namespace Go.Proofs.Ytcabolcfoijglaa
open Go.RowKit
set_option linter.unusedVariables false
set_option maxRecDepth 100000

theorem keyI_short (w : World) (a : Option Addr) (n cap : Nat) (h : n < 1 ∨ 12 < n) :
    Calls Try.prog 39 #[.slice a n cap] w fun e w' => e = .returned (.bool false) ∧ w' = w := by
  by_cases h1 : n < 1
  · have h1' : (n : Int) < 1 := by omega
    go_enter Try.func39, Try.ntmps39
    go_wp2
    go_ret
    exact ⟨rfl, rfl⟩
  · have h1' : decide ((n : Int) < 1) = false := by simp; omega
    have h2 : (12 : Int) < (n : Int) := by omega
    go_enter Try.func39, Try.ntmps39
    go_wp2
    go_ret
    exact ⟨rfl, rfl⟩

open Classical in
set_option maxHeartbeats 1600000 in
theorem keyI_row (w : World) (b off cap : Nat) (l : List Int) (hok : okZ l) (h1 : 1 ≤ l.length) (h8 : l.length ≤ 12)
    (hc : ∀ i, i < l.length → w.cell? ⟨b, off + i, none⟩ = some (.int .i64 (l.getD i 0))) :
    Calls Try.prog 39 #[.slice (some ⟨b, off, none⟩) l.length cap] w fun e w' => e = .returned (.bool (decide (KeyOk l))) ∧ w' = w := by
  have d1 : decide ((l.length : Int) < 1) = false := by simp; omega
  have d2 : decide ((12 : Int) < (l.length : Int)) = false := by simp; omega
  obtain ⟨n, hn⟩ : ∃ n, l.length = n + 1 := ⟨l.length - 1, by omega⟩
  obtain ⟨z, hz⟩ : ∃ z, z = l.getD n 0 := ⟨_, rfl⟩
  have hcz : w.cell? ⟨b, off + n, none⟩ = some (.int .i64 z) := by rw [hz]; exact hc _ (by omega)
  have HZ := hide hz
  have HC := hide hc
  have HN := hide hn
  have e1 : (l.length : Int) - 1 = (n : Int) := by omega
  have hlt0 : n < l.length := by omega
  clear hc hz hn
  go_enter Try.func39, Try.ntmps39
  go_wp2
  go_loop [15] (fun i => ∃ k : Nat, k ≤ l.length ∧ i = .int .i64 k ∧ allTo keyCh l k) (fun i => l.length - (intOf i).toNat)
  case atStart => exact ⟨0, Nat.zero_le _, rfl, fun i hi => by omega⟩
  case round =>
    obtain ⟨k, hk, rfl, ha⟩ := hrel
    have HA := hide ha
    clear ha
    by_cases hlt : k < l.length
    · obtain ⟨x, hx⟩ : ∃ x, x = l.getD k 0 := ⟨_, rfl⟩
      have hcx : w.cell? ⟨b, off + k, none⟩ = some (.int .i64 x) := by rw [hx]; exact unhide HC _ hlt
      have HX := hide hx
      have hlt' : (k : Int) < (l.length : Int) := by omega
      clear hx hcz
      by_cases hn : keyCh k x
      · have HN := hide hn
        have q1 : decide (x < 0) = false := by unfold keyCh at hn; simp; omega
        have q2 : decide (999 < x) = false := by unfold keyCh at hn; simp; omega
        clear hn
        go_wp2
        go_round
        case rel => exact ⟨k + 1, by omega, by go_num, allTo_step (unhide HA) (by rw [← unhide HX]; exact unhide HN)⟩
        case measure => simp [intOf]; omega
      · have HF := hide (show decide (KeyOk l) = false by
          simp only [decide_eq_false_iff_not]
          rintro ⟨_, _, _, h⟩
          exact hn (by rw [unhide HX]; exact h k hlt))
        have hcase : decide (x < 0) = true ∨ (decide (x < 0) = false ∧ decide (999 < x) = true) := by
          unfold keyCh at hn; simp; omega
        clear hn
        rcases hcase with q1 | ⟨q1, q2⟩
        all_goals
          go_wp2
          go_ret
          exact ⟨by rw [unhide HF]; rfl, rfl⟩
    · have e : k = l.length := by omega
      subst e
      by_cases hz0 : z = 0
      · have HF := hide (show decide (KeyOk l) = false by
          simp only [decide_eq_false_iff_not]
          rintro ⟨_, _, h, _⟩
          rw [unhide HN, Nat.add_sub_cancel, ← unhide HZ] at h
          exact h hz0)
        have dz : (z != 0) = false := by simp [hz0]
        clear hz0
        go_wp2
        go_ret
        exact ⟨by rw [unhide HF]; rfl, rfl⟩
      · have HF := hide (show decide (KeyOk l) = true by
          simp only [decide_eq_true_eq]
          exact ⟨h1, h8, by rw [unhide HN, Nat.add_sub_cancel, ← unhide HZ]; exact hz0, unhide HA⟩)
        have dz : (z != 0) = true := by simp [hz0]
        clear hz0
        go_wp2
        go_ret
        exact ⟨by rw [unhide HF]; rfl, rfl⟩

open Classical in
theorem keyI_any (w : World) (v : Value) (l : List Int) (h : Ints w v l) :
    Calls Try.prog 39 #[v] w fun e w' => e = .returned (.bool (decide (KeyOk l))) ∧ w' = w := by
  by_cases hl : l.length < 1 ∨ 12 < l.length
  · obtain ⟨a, cap, rfl, _⟩ := h.shape
    have hd : decide (KeyOk l) = false := by simp only [decide_eq_false_iff_not]; rintro ⟨_, _, _⟩; omega
    rw [hd]
    exact keyI_short w a _ cap hl
  · obtain ⟨hok, hm, ⟨rfl, rfl⟩ | ⟨x, cap, rfl, hc, rfl⟩ | ⟨b, off, cap, rfl, _, _, _, _, h5⟩⟩ := h
    · simp at hl
    · simp at hl
    · exact keyI_row w b off cap l hok (by omega) (by omega) h5
theorem keyI_b (w : World) (v : Value) (l : List Int) (h : Ints w v l) : Calls Try.prog 39 #[v] w fun e w' => e = .returned (.bool (keyB l)) ∧ w' = w := by
  refine (keyI_any w v l h).mono ?_
  rintro e w' ⟨rfl, h⟩
  refine ⟨?_, h⟩
  by_cases hn : KeyOk l
  · rw [(keyB_iff l).2 hn]; simp [hn]
  · rw [Bool.eq_false_iff.2 (fun k => hn ((keyB_iff l).1 k))]; simp [hn]
end Go.Proofs.Ytcabolcfoijglaa
