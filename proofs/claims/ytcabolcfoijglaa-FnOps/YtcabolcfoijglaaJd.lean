/- Own texts joined: RopI, PutS, Row, PutI, TextP. -/
import Derived.Test.YtcabolcfoijglaaJa
import Derived.Test.YtcabolcfoijglaaJb
import Derived.Test.YtcabolcfoijglaaJc

/- impl's reader: an operation. -/
namespace Go.Proofs.Ytcabolcfoijglaa
open Go.RowKit
set_option linter.unusedVariables false
set_option maxRecDepth 100000

theorem own_nilB (w : World) (base : Nat) : Own w base (.slice none 0 0) [] := ⟨okB_nil, rfl, .inl ⟨rfl, rfl⟩⟩
theorem set_twelve {w : World} {g : Nat} {T : TypeId} {u0 u1 u2 u3 u4 u5 u6 u7 u8 u9 u10 u11 : Value} (h : Loc w g #[u0, u1, u2, u3, u4, u5, u6, u7, u8, u9, u10, u11] T) (v0 v1 v2 v3 v4 v5 v6 v7 v8 v9 v10 v11 : Value) : Loc ((((((((((((w.setCell ⟨g, 0, none⟩ v0).setCell ⟨g, 1, none⟩ v1).setCell ⟨g, 2, none⟩ v2).setCell ⟨g, 3, none⟩ v3).setCell ⟨g, 4, none⟩ v4).setCell ⟨g, 5, none⟩ v5).setCell ⟨g, 6, none⟩ v6).setCell ⟨g, 7, none⟩ v7).setCell ⟨g, 8, none⟩ v8).setCell ⟨g, 9, none⟩ v9).setCell ⟨g, 10, none⟩ v10).setCell ⟨g, 11, none⟩ v11) g #[v0, v1, v2, v3, v4, v5, v6, v7, v8, v9, v10, v11] T := by
  have h0 : Loc (w.setCell ⟨g, 0, none⟩ v0) g #[v0, u1, u2, u3, u4, u5, u6, u7, u8, u9, u10, u11] T := h.set 0 v0
  have h1 : Loc ((w.setCell ⟨g, 0, none⟩ v0).setCell ⟨g, 1, none⟩ v1) g #[v0, v1, u2, u3, u4, u5, u6, u7, u8, u9, u10, u11] T := h0.set 1 v1
  have h2 : Loc (((w.setCell ⟨g, 0, none⟩ v0).setCell ⟨g, 1, none⟩ v1).setCell ⟨g, 2, none⟩ v2) g #[v0, v1, v2, u3, u4, u5, u6, u7, u8, u9, u10, u11] T := h1.set 2 v2
  have h3 : Loc ((((w.setCell ⟨g, 0, none⟩ v0).setCell ⟨g, 1, none⟩ v1).setCell ⟨g, 2, none⟩ v2).setCell ⟨g, 3, none⟩ v3) g #[v0, v1, v2, v3, u4, u5, u6, u7, u8, u9, u10, u11] T := h2.set 3 v3
  have h4 : Loc (((((w.setCell ⟨g, 0, none⟩ v0).setCell ⟨g, 1, none⟩ v1).setCell ⟨g, 2, none⟩ v2).setCell ⟨g, 3, none⟩ v3).setCell ⟨g, 4, none⟩ v4) g #[v0, v1, v2, v3, v4, u5, u6, u7, u8, u9, u10, u11] T := h3.set 4 v4
  have h5 : Loc ((((((w.setCell ⟨g, 0, none⟩ v0).setCell ⟨g, 1, none⟩ v1).setCell ⟨g, 2, none⟩ v2).setCell ⟨g, 3, none⟩ v3).setCell ⟨g, 4, none⟩ v4).setCell ⟨g, 5, none⟩ v5) g #[v0, v1, v2, v3, v4, v5, u6, u7, u8, u9, u10, u11] T := h4.set 5 v5
  have h6 : Loc (((((((w.setCell ⟨g, 0, none⟩ v0).setCell ⟨g, 1, none⟩ v1).setCell ⟨g, 2, none⟩ v2).setCell ⟨g, 3, none⟩ v3).setCell ⟨g, 4, none⟩ v4).setCell ⟨g, 5, none⟩ v5).setCell ⟨g, 6, none⟩ v6) g #[v0, v1, v2, v3, v4, v5, v6, u7, u8, u9, u10, u11] T := h5.set 6 v6
  have h7 : Loc ((((((((w.setCell ⟨g, 0, none⟩ v0).setCell ⟨g, 1, none⟩ v1).setCell ⟨g, 2, none⟩ v2).setCell ⟨g, 3, none⟩ v3).setCell ⟨g, 4, none⟩ v4).setCell ⟨g, 5, none⟩ v5).setCell ⟨g, 6, none⟩ v6).setCell ⟨g, 7, none⟩ v7) g #[v0, v1, v2, v3, v4, v5, v6, v7, u8, u9, u10, u11] T := h6.set 7 v7
  have h8 : Loc (((((((((w.setCell ⟨g, 0, none⟩ v0).setCell ⟨g, 1, none⟩ v1).setCell ⟨g, 2, none⟩ v2).setCell ⟨g, 3, none⟩ v3).setCell ⟨g, 4, none⟩ v4).setCell ⟨g, 5, none⟩ v5).setCell ⟨g, 6, none⟩ v6).setCell ⟨g, 7, none⟩ v7).setCell ⟨g, 8, none⟩ v8) g #[v0, v1, v2, v3, v4, v5, v6, v7, v8, u9, u10, u11] T := h7.set 8 v8
  have h9 : Loc ((((((((((w.setCell ⟨g, 0, none⟩ v0).setCell ⟨g, 1, none⟩ v1).setCell ⟨g, 2, none⟩ v2).setCell ⟨g, 3, none⟩ v3).setCell ⟨g, 4, none⟩ v4).setCell ⟨g, 5, none⟩ v5).setCell ⟨g, 6, none⟩ v6).setCell ⟨g, 7, none⟩ v7).setCell ⟨g, 8, none⟩ v8).setCell ⟨g, 9, none⟩ v9) g #[v0, v1, v2, v3, v4, v5, v6, v7, v8, v9, u10, u11] T := h8.set 9 v9
  have h10 : Loc (((((((((((w.setCell ⟨g, 0, none⟩ v0).setCell ⟨g, 1, none⟩ v1).setCell ⟨g, 2, none⟩ v2).setCell ⟨g, 3, none⟩ v3).setCell ⟨g, 4, none⟩ v4).setCell ⟨g, 5, none⟩ v5).setCell ⟨g, 6, none⟩ v6).setCell ⟨g, 7, none⟩ v7).setCell ⟨g, 8, none⟩ v8).setCell ⟨g, 9, none⟩ v9).setCell ⟨g, 10, none⟩ v10) g #[v0, v1, v2, v3, v4, v5, v6, v7, v8, v9, v10, u11] T := h9.set 10 v10
  have h11 : Loc ((((((((((((w.setCell ⟨g, 0, none⟩ v0).setCell ⟨g, 1, none⟩ v1).setCell ⟨g, 2, none⟩ v2).setCell ⟨g, 3, none⟩ v3).setCell ⟨g, 4, none⟩ v4).setCell ⟨g, 5, none⟩ v5).setCell ⟨g, 6, none⟩ v6).setCell ⟨g, 7, none⟩ v7).setCell ⟨g, 8, none⟩ v8).setCell ⟨g, 9, none⟩ v9).setCell ⟨g, 10, none⟩ v10).setCell ⟨g, 11, none⟩ v11) g #[v0, v1, v2, v3, v4, v5, v6, v7, v8, v9, v10, v11] T := h10.set 11 v11
  exact h11
theorem grow_twelve (w : World) (g : Nat) (v0 v1 v2 v3 v4 v5 v6 v7 v8 v9 v10 v11 : Value) : w.grownBy ((((((((((((w.setCell ⟨g, 0, none⟩ v0).setCell ⟨g, 1, none⟩ v1).setCell ⟨g, 2, none⟩ v2).setCell ⟨g, 3, none⟩ v3).setCell ⟨g, 4, none⟩ v4).setCell ⟨g, 5, none⟩ v5).setCell ⟨g, 6, none⟩ v6).setCell ⟨g, 7, none⟩ v7).setCell ⟨g, 8, none⟩ v8).setCell ⟨g, 9, none⟩ v9).setCell ⟨g, 10, none⟩ v10).setCell ⟨g, 11, none⟩ v11) (some g) := by
  have h0 : w.grownBy (w.setCell ⟨g, 0, none⟩ v0) (some g) := setG w g 0 v0
  have h1 : w.grownBy ((w.setCell ⟨g, 0, none⟩ v0).setCell ⟨g, 1, none⟩ v1) (some g) := grown_trans h0 (setG _ g 1 v1)
  have h2 : w.grownBy (((w.setCell ⟨g, 0, none⟩ v0).setCell ⟨g, 1, none⟩ v1).setCell ⟨g, 2, none⟩ v2) (some g) := grown_trans h1 (setG _ g 2 v2)
  have h3 : w.grownBy ((((w.setCell ⟨g, 0, none⟩ v0).setCell ⟨g, 1, none⟩ v1).setCell ⟨g, 2, none⟩ v2).setCell ⟨g, 3, none⟩ v3) (some g) := grown_trans h2 (setG _ g 3 v3)
  have h4 : w.grownBy (((((w.setCell ⟨g, 0, none⟩ v0).setCell ⟨g, 1, none⟩ v1).setCell ⟨g, 2, none⟩ v2).setCell ⟨g, 3, none⟩ v3).setCell ⟨g, 4, none⟩ v4) (some g) := grown_trans h3 (setG _ g 4 v4)
  have h5 : w.grownBy ((((((w.setCell ⟨g, 0, none⟩ v0).setCell ⟨g, 1, none⟩ v1).setCell ⟨g, 2, none⟩ v2).setCell ⟨g, 3, none⟩ v3).setCell ⟨g, 4, none⟩ v4).setCell ⟨g, 5, none⟩ v5) (some g) := grown_trans h4 (setG _ g 5 v5)
  have h6 : w.grownBy (((((((w.setCell ⟨g, 0, none⟩ v0).setCell ⟨g, 1, none⟩ v1).setCell ⟨g, 2, none⟩ v2).setCell ⟨g, 3, none⟩ v3).setCell ⟨g, 4, none⟩ v4).setCell ⟨g, 5, none⟩ v5).setCell ⟨g, 6, none⟩ v6) (some g) := grown_trans h5 (setG _ g 6 v6)
  have h7 : w.grownBy ((((((((w.setCell ⟨g, 0, none⟩ v0).setCell ⟨g, 1, none⟩ v1).setCell ⟨g, 2, none⟩ v2).setCell ⟨g, 3, none⟩ v3).setCell ⟨g, 4, none⟩ v4).setCell ⟨g, 5, none⟩ v5).setCell ⟨g, 6, none⟩ v6).setCell ⟨g, 7, none⟩ v7) (some g) := grown_trans h6 (setG _ g 7 v7)
  have h8 : w.grownBy (((((((((w.setCell ⟨g, 0, none⟩ v0).setCell ⟨g, 1, none⟩ v1).setCell ⟨g, 2, none⟩ v2).setCell ⟨g, 3, none⟩ v3).setCell ⟨g, 4, none⟩ v4).setCell ⟨g, 5, none⟩ v5).setCell ⟨g, 6, none⟩ v6).setCell ⟨g, 7, none⟩ v7).setCell ⟨g, 8, none⟩ v8) (some g) := grown_trans h7 (setG _ g 8 v8)
  have h9 : w.grownBy ((((((((((w.setCell ⟨g, 0, none⟩ v0).setCell ⟨g, 1, none⟩ v1).setCell ⟨g, 2, none⟩ v2).setCell ⟨g, 3, none⟩ v3).setCell ⟨g, 4, none⟩ v4).setCell ⟨g, 5, none⟩ v5).setCell ⟨g, 6, none⟩ v6).setCell ⟨g, 7, none⟩ v7).setCell ⟨g, 8, none⟩ v8).setCell ⟨g, 9, none⟩ v9) (some g) := grown_trans h8 (setG _ g 9 v9)
  have h10 : w.grownBy (((((((((((w.setCell ⟨g, 0, none⟩ v0).setCell ⟨g, 1, none⟩ v1).setCell ⟨g, 2, none⟩ v2).setCell ⟨g, 3, none⟩ v3).setCell ⟨g, 4, none⟩ v4).setCell ⟨g, 5, none⟩ v5).setCell ⟨g, 6, none⟩ v6).setCell ⟨g, 7, none⟩ v7).setCell ⟨g, 8, none⟩ v8).setCell ⟨g, 9, none⟩ v9).setCell ⟨g, 10, none⟩ v10) (some g) := grown_trans h9 (setG _ g 10 v10)
  have h11 : w.grownBy ((((((((((((w.setCell ⟨g, 0, none⟩ v0).setCell ⟨g, 1, none⟩ v1).setCell ⟨g, 2, none⟩ v2).setCell ⟨g, 3, none⟩ v3).setCell ⟨g, 4, none⟩ v4).setCell ⟨g, 5, none⟩ v5).setCell ⟨g, 6, none⟩ v6).setCell ⟨g, 7, none⟩ v7).setCell ⟨g, 8, none⟩ v8).setCell ⟨g, 9, none⟩ v9).setCell ⟨g, 10, none⟩ v10).setCell ⟨g, 11, none⟩ v11) (some g) := grown_trans h10 (setG _ g 11 v11)
  exact h11

set_option maxHeartbeats 12800000 in
theorem rop_2 (w0 w : World) (g : Nat) (code : Value) (l : List Int) (p : Int) (h : Rd 65 w0 w g code l p) (hk : (getN l p).1 = 2) :
    Calls Try.prog 46 #[.pointer (some ⟨g, 0, none⟩)] w fun e w' => ∃ k n t, e = .returned (opVal (rdRest rdKeyI l (getN l p).1 (rdId l (getN l p).2).1.1 (rdId l (getN l p).2).1.2 (rdId l (getN l p).2).2).1 k n t) ∧ OwOp w' w.heap.size (rdRest rdKeyI l (getN l p).1 (rdId l (getN l p).2).1.1 (rdId l (getN l p).2).1.2 (rdId l (getN l p).2).2).1 k n t ∧ Below w0.heap.size w0 w' := by
  have hgl := h.box.lt
  have hnew := h.below.size
  have HBL := hide h.below
  have hgn := h.new
  have H0 := hide (fun W (hW : Rd 65 w0 W g code l p) => rnum_any w0 W g code l p hW)
  have H1 := hide (fun W (hW : Rd 65 w0 W g code l (getN l p).2) => rid_any w0 W g code l (getN l p).2 hW)
  have H2 := hide (fun W (hW : Rd 65 w0 W g code l (rdId l (getN l p).2).2) => rid_any w0 W g code l (rdId l (getN l p).2).2 hW)
  have H3 := hide (fun W (hW : Rd 65 w0 W g code l (rdId l (rdId l (getN l p).2).2).2) => rtext_any w0 W g code l (rdId l (rdId l (getN l p).2).2).2 hW)
  have hR := h.keep ((Below.refl w.heap.size w).alloc (Nat.le_refl _) (.cells #[.int .i64 0, .int .i64 0, .int .i64 0, .int .i64 0, .int .i64 0, .int .i64 0, .int .i64 0, .slice none 0 0, .int .i64 0, .slice none 0 0, .slice none 0 0, .bool false] 27))
  have lr := Loc.made w #[.int .i64 0, .int .i64 0, .int .i64 0, .int .i64 0, .int .i64 0, .int .i64 0, .int .i64 0, .slice none 0 0, .int .i64 0, .slice none 0 0, .slice none 0 0, .bool false] 27
  have hG := Below.toGrown ((Below.refl w.heap.size w).alloc (Nat.le_refl _) (.cells #[.int .i64 0, .int .i64 0, .int .i64 0, .int .i64 0, .int .i64 0, .int .i64 0, .int .i64 0, .slice none 0 0, .int .i64 0, .slice none 0 0, .slice none 0 0, .bool false] 27)) (some g)
  clear h
  unfold rdRest
  rw [hk, if_neg (by decide), if_neg (by decide), if_pos rfl]
  generalize (getT l (rdId l (rdId l (getN l p).2).2).2) = q3 at *
  generalize (rdId l (rdId l (getN l p).2).2) = q2 at *
  generalize (rdId l (getN l p).2) = q1 at *
  generalize (getN l p) = q0 at *
  obtain ⟨kz, p1⟩ := q0
  obtain ⟨⟨n, r⟩, p2⟩ := q1
  obtain ⟨⟨nn, nr⟩, p3⟩ := q2
  obtain ⟨tx, p4⟩ := q3
  simp only at *
  subst hk
  have LL := hide (And.intro hR (And.intro lr hG))
  clear hR lr hG
  go_enter Try.func46, Try.ntmps46
  go_wp2_with fail
  obtain ⟨hR, lr, hG⟩ := unhide LL
  clear LL
  generalize (w.alloc (.cells #[.int .i64 0, .int .i64 0, .int .i64 0, .int .i64 0, .int .i64 0, .int .i64 0, .int .i64 0, .slice none 0 0, .int .i64 0, .slice none 0 0, .slice none 0 0, .bool false] 27)) = wa at *
  refine (unhide H0 wa hR).mono ?_
  rintro e w1 ⟨rfl, hRn, hGn⟩
  have sz0 := hGn.size
  have lrn := lr.frm (Frm.ofGrown hGn) (by simp; omega)
  have hGm := grown_trans hG hGn
  clear hG hGn lr hR
  have hG := hGm
  have hR := hRn
  have lr := lrn
  clear hGm hRn lrn
  go_wp2_with fail
  refine (unhide H1 w1 hR).mono ?_
  rintro e w2 ⟨rfl, hRn, hGn⟩
  have sz1 := hGn.size
  have lrn := lr.frm (Frm.ofGrown hGn) (by simp; omega)
  have hGm := grown_trans hG hGn
  clear hG hGn lr hR
  have hG := hGm
  have hR := hRn
  have lr := lrn
  clear hGm hRn lrn
  have hAb := (Below.refl w2.heap.size w2).alloc (Nat.le_refl _) (.cells #[.int .i64 2, .int .i64 n, .int .i64 r, .int .i64 0, .int .i64 0, .int .i64 0, .int .i64 0, .slice none 0 0, .int .i64 0, .slice none 0 0, .slice none 0 0, .bool false] 27)
  have lo := Loc.made w2 #[.int .i64 2, .int .i64 n, .int .i64 r, .int .i64 0, .int .i64 0, .int .i64 0, .int .i64 0, .slice none 0 0, .int .i64 0, .slice none 0 0, .slice none 0 0, .bool false] 27
  have hrS := lr.lt
  have hgS := hR.box.lt
  have LL := hide (And.intro (hR.keep hAb) (And.intro (lr.all hAb) (And.intro (grown_trans hG (Below.toGrown hAb (some g))) lo)))
  clear hR lr hG hAb lo
  go_wp2_with fail
  obtain ⟨hR, lr, hG, lo⟩ := unhide LL
  clear LL
  generalize (w2.alloc (.cells #[.int .i64 2, .int .i64 n, .int .i64 r, .int .i64 0, .int .i64 0, .int .i64 0, .int .i64 0, .slice none 0 0, .int .i64 0, .slice none 0 0, .slice none 0 0, .bool false] 27)) = wb at *
  generalize w2.heap.size = S at *
  refine (unhide H2 wb hR).mono ?_
  rintro e w3 ⟨rfl, hRn, hGn⟩
  have sz2 := hGn.size
  have lrn := lr.frm (Frm.ofGrown hGn) (by simp; omega)
  have lon := lo.frm (Frm.ofGrown hGn) (by simp; omega)
  have hGm := grown_trans hG hGn
  clear hG hGn lr hR lo
  have hG := hGm
  have hR := hRn
  have lr := lrn
  have lo := lon
  clear hGm hRn lrn lon
  go_wp2_with fail
  refine (unhide H3 w3 hR).mono ?_
  rintro e w4 ⟨a3, c3, rfl, ho3, hRn, hGn⟩
  have sz3 := hGn.size
  have lrn := lr.frm (Frm.ofGrown hGn) (by simp; omega)
  have lon := lo.frm (Frm.ofGrown hGn) (by simp; omega)
  have hs3 : S < w3.heap.size := lo.lt
  have hz3 := ho3.rng
  have hGm := grown_trans hG hGn
  clear hG hGn lr hR lo
  have hG := hGm
  have hR := hRn
  have lr := lrn
  have lo := lon
  clear hGm hRn lrn lon
  have lon : Loc (((w4.setCell ⟨S, 3, none⟩ (.int .i64 nn)).setCell ⟨S, 4, none⟩ (.int .i64 nr)).setCell ⟨S, 10, none⟩ (.slice a3 tx.length c3)) S #[.int .i64 2, .int .i64 n, .int .i64 r, .int .i64 nn, .int .i64 nr, .int .i64 0, .int .i64 0, .slice none 0 0, .int .i64 0, .slice none 0 0, .slice a3 tx.length c3, .bool false] 27 := (((lo.set 3 (.int .i64 nn)).set 4 (.int .i64 nr)).set 10 (.slice a3 tx.length c3))
  have hsS : w4.grownBy (((w4.setCell ⟨S, 3, none⟩ (.int .i64 nn)).setCell ⟨S, 4, none⟩ (.int .i64 nr)).setCell ⟨S, 10, none⟩ (.slice a3 tx.length c3)) (some S) := (grown_trans (grown_trans (setG w4 S 3 (.int .i64 nn)) (setG _ S 4 (.int .i64 nr))) (setG _ S 10 (.slice a3 tx.length c3)))
  have x0 := lo.cell 0
  have x1 := lo.cell 1
  have x2 := lo.cell 2
  have x3 := lo.cell 3
  have x4 := lo.cell 4
  have x5 := lo.cell 5
  have x6 := lo.cell 6
  have x7 := lo.cell 7
  have x8 := lo.cell 8
  have x9 := lo.cell 9
  have x10 := lo.cell 10
  have x11 := lo.cell 11
  have f3 := lo.frozen 3
  have f4 := lo.frozen 4
  have f10 := lo.frozen 10
  have hRn := hR.keepG hsS (by simp; omega) (fun k hk => by simp at hk; omega)
  have lrn := lr.frm (Frm.ofGrown hsS) (by simp; omega)
  have hGn := grow_new hG hsS (fun q hq => by simp at hq; omega)
  replace ho3 := ho3.keepBy hsS (.inr (fun e => by have := (ho3.lt S e).1; omega))
  have szs0 := hsS.size
  clear hR lr hG lo hsS
  have hR := hRn
  have lr := lrn
  have hG := hGn
  have lo := lon
  clear hRn lrn hGn lon
  have lrz : Loc (((((((((((((((w4.setCell ⟨S, 3, none⟩ (.int .i64 nn)).setCell ⟨S, 4, none⟩ (.int .i64 nr)).setCell ⟨S, 10, none⟩ (.slice a3 tx.length c3)).setCell ⟨w.heap.size, 0, none⟩ (.int .i64 2)).setCell ⟨w.heap.size, 1, none⟩ (.int .i64 n)).setCell ⟨w.heap.size, 2, none⟩ (.int .i64 r)).setCell ⟨w.heap.size, 3, none⟩ (.int .i64 nn)).setCell ⟨w.heap.size, 4, none⟩ (.int .i64 nr)).setCell ⟨w.heap.size, 5, none⟩ (.int .i64 0)).setCell ⟨w.heap.size, 6, none⟩ (.int .i64 0)).setCell ⟨w.heap.size, 7, none⟩ (.slice none 0 0)).setCell ⟨w.heap.size, 8, none⟩ (.int .i64 0)).setCell ⟨w.heap.size, 9, none⟩ (.slice none 0 0)).setCell ⟨w.heap.size, 10, none⟩ (.slice a3 tx.length c3)).setCell ⟨w.heap.size, 11, none⟩ (.bool false)) w.heap.size #[.int .i64 2, .int .i64 n, .int .i64 r, .int .i64 nn, .int .i64 nr, .int .i64 0, .int .i64 0, .slice none 0 0, .int .i64 0, .slice none 0 0, .slice a3 tx.length c3, .bool false] 27 := set_twelve lr (.int .i64 2) (.int .i64 n) (.int .i64 r) (.int .i64 nn) (.int .i64 nr) (.int .i64 0) (.int .i64 0) (.slice none 0 0) (.int .i64 0) (.slice none 0 0) (.slice a3 tx.length c3) (.bool false)
  have hsR : (((w4.setCell ⟨S, 3, none⟩ (.int .i64 nn)).setCell ⟨S, 4, none⟩ (.int .i64 nr)).setCell ⟨S, 10, none⟩ (.slice a3 tx.length c3)).grownBy (((((((((((((((w4.setCell ⟨S, 3, none⟩ (.int .i64 nn)).setCell ⟨S, 4, none⟩ (.int .i64 nr)).setCell ⟨S, 10, none⟩ (.slice a3 tx.length c3)).setCell ⟨w.heap.size, 0, none⟩ (.int .i64 2)).setCell ⟨w.heap.size, 1, none⟩ (.int .i64 n)).setCell ⟨w.heap.size, 2, none⟩ (.int .i64 r)).setCell ⟨w.heap.size, 3, none⟩ (.int .i64 nn)).setCell ⟨w.heap.size, 4, none⟩ (.int .i64 nr)).setCell ⟨w.heap.size, 5, none⟩ (.int .i64 0)).setCell ⟨w.heap.size, 6, none⟩ (.int .i64 0)).setCell ⟨w.heap.size, 7, none⟩ (.slice none 0 0)).setCell ⟨w.heap.size, 8, none⟩ (.int .i64 0)).setCell ⟨w.heap.size, 9, none⟩ (.slice none 0 0)).setCell ⟨w.heap.size, 10, none⟩ (.slice a3 tx.length c3)).setCell ⟨w.heap.size, 11, none⟩ (.bool false)) (some w.heap.size) := grow_twelve _ _ (.int .i64 2) (.int .i64 n) (.int .i64 r) (.int .i64 nn) (.int .i64 nr) (.int .i64 0) (.int .i64 0) (.slice none 0 0) (.int .i64 0) (.slice none 0 0) (.slice a3 tx.length c3) (.bool false)
  obtain ⟨e0, e1, e2, e3, e4, e5, e6, e7, e8, e9, e10, e11⟩ := lrz.twelve
  obtain ⟨y0, y1, y2, y3, y4, y5, y6, y7, y8, y9, y10, y11⟩ := lo.twelve
  obtain ⟨z0, z1, z2, z3, z4, z5, z6, z7, z8, z9, z10, z11⟩ := lr.twelve
  have g0 := lr.frozen 0
  have g1 := lr.frozen 1
  have g2 := lr.frozen 2
  have g3 := lr.frozen 3
  have g4 := lr.frozen 4
  have g5 := lr.frozen 5
  have g6 := lr.frozen 6
  have g7 := lr.frozen 7
  have g8 := lr.frozen 8
  have g9 := lr.frozen 9
  have g10 := lr.frozen 10
  have g11 := lr.frozen 11
  have hGz := grow_new hG hsR (fun q hq => by simp at hq; omega)
  have hBz := bstepBy (unhide HBL) hGz (fun k hk => by cases hk; exact hgn)
  replace ho3 := (ho3.keepBy hsR (.inr (fun e => by have := (ho3.lt _ e).1; omega))).mono (show w.heap.size ≤ _ by omega)
  have hnd : (FB (.slice none 0 0) ++ FB (.slice none 0 0) ++ FB (.slice a3 tx.length c3)).Nodup := by
    have e0 : FB (.slice none 0 0) = [] := rfl
    simp only [e0, List.nil_append, List.append_nil]
    exact FB_nodup _
  have KK := hide (show OwnZ (((((((((((((((w4.setCell ⟨S, 3, none⟩ (.int .i64 nn)).setCell ⟨S, 4, none⟩ (.int .i64 nr)).setCell ⟨S, 10, none⟩ (.slice a3 tx.length c3)).setCell ⟨w.heap.size, 0, none⟩ (.int .i64 2)).setCell ⟨w.heap.size, 1, none⟩ (.int .i64 n)).setCell ⟨w.heap.size, 2, none⟩ (.int .i64 r)).setCell ⟨w.heap.size, 3, none⟩ (.int .i64 nn)).setCell ⟨w.heap.size, 4, none⟩ (.int .i64 nr)).setCell ⟨w.heap.size, 5, none⟩ (.int .i64 0)).setCell ⟨w.heap.size, 6, none⟩ (.int .i64 0)).setCell ⟨w.heap.size, 7, none⟩ (.slice none 0 0)).setCell ⟨w.heap.size, 8, none⟩ (.int .i64 0)).setCell ⟨w.heap.size, 9, none⟩ (.slice none 0 0)).setCell ⟨w.heap.size, 10, none⟩ (.slice a3 tx.length c3)).setCell ⟨w.heap.size, 11, none⟩ (.bool false)) w.heap.size (.slice none 0 0) _ ∧ Own (((((((((((((((w4.setCell ⟨S, 3, none⟩ (.int .i64 nn)).setCell ⟨S, 4, none⟩ (.int .i64 nr)).setCell ⟨S, 10, none⟩ (.slice a3 tx.length c3)).setCell ⟨w.heap.size, 0, none⟩ (.int .i64 2)).setCell ⟨w.heap.size, 1, none⟩ (.int .i64 n)).setCell ⟨w.heap.size, 2, none⟩ (.int .i64 r)).setCell ⟨w.heap.size, 3, none⟩ (.int .i64 nn)).setCell ⟨w.heap.size, 4, none⟩ (.int .i64 nr)).setCell ⟨w.heap.size, 5, none⟩ (.int .i64 0)).setCell ⟨w.heap.size, 6, none⟩ (.int .i64 0)).setCell ⟨w.heap.size, 7, none⟩ (.slice none 0 0)).setCell ⟨w.heap.size, 8, none⟩ (.int .i64 0)).setCell ⟨w.heap.size, 9, none⟩ (.slice none 0 0)).setCell ⟨w.heap.size, 10, none⟩ (.slice a3 tx.length c3)).setCell ⟨w.heap.size, 11, none⟩ (.bool false)) w.heap.size (.slice none 0 0) _ ∧ Own (((((((((((((((w4.setCell ⟨S, 3, none⟩ (.int .i64 nn)).setCell ⟨S, 4, none⟩ (.int .i64 nr)).setCell ⟨S, 10, none⟩ (.slice a3 tx.length c3)).setCell ⟨w.heap.size, 0, none⟩ (.int .i64 2)).setCell ⟨w.heap.size, 1, none⟩ (.int .i64 n)).setCell ⟨w.heap.size, 2, none⟩ (.int .i64 r)).setCell ⟨w.heap.size, 3, none⟩ (.int .i64 nn)).setCell ⟨w.heap.size, 4, none⟩ (.int .i64 nr)).setCell ⟨w.heap.size, 5, none⟩ (.int .i64 0)).setCell ⟨w.heap.size, 6, none⟩ (.int .i64 0)).setCell ⟨w.heap.size, 7, none⟩ (.slice none 0 0)).setCell ⟨w.heap.size, 8, none⟩ (.int .i64 0)).setCell ⟨w.heap.size, 9, none⟩ (.slice none 0 0)).setCell ⟨w.heap.size, 10, none⟩ (.slice a3 tx.length c3)).setCell ⟨w.heap.size, 11, none⟩ (.bool false)) w.heap.size (.slice a3 tx.length c3) _ ∧ _ ∧ _ from ⟨ownz_nil _ _, own_nilB _ _, ho3, hnd, hBz⟩)
  clear hR lr hG lo lrz hsR hGz hBz hnd ho3 hz3
  go_wp2_with fail
  obtain ⟨k1, k2, k3, k4, k5⟩ := unhide KK
  exact bodyPost_ret (v := .agg #[.int .i64 2, .int .i64 n, .int .i64 r, .int .i64 nn, .int .i64 nr, .int .i64 0, .int .i64 0, .slice none 0 0, .int .i64 0, .slice none 0 0, .slice a3 tx.length c3, .bool false]) (by simp [results, Try.results46, go_sem, e0, e1, e2, e3, e4, e5, e6, e7, e8, e9, e10, e11]) rfl ⟨_, _, _, rfl, ⟨k1, k2, k3, k4⟩, k5⟩

set_option maxHeartbeats 12800000 in
theorem rop_0 (w0 w : World) (g : Nat) (code : Value) (l : List Int) (p : Int) (h : Rd 65 w0 w g code l p) (hk : (getN l p).1 = 0) :
    Calls Try.prog 46 #[.pointer (some ⟨g, 0, none⟩)] w fun e w' => ∃ k n t, e = .returned (opVal (rdRest rdKeyI l (getN l p).1 (rdId l (getN l p).2).1.1 (rdId l (getN l p).2).1.2 (rdId l (getN l p).2).2).1 k n t) ∧ OwOp w' w.heap.size (rdRest rdKeyI l (getN l p).1 (rdId l (getN l p).2).1.1 (rdId l (getN l p).2).1.2 (rdId l (getN l p).2).2).1 k n t ∧ Below w0.heap.size w0 w' := by
  have hgl := h.box.lt
  have hnew := h.below.size
  have HBL := hide h.below
  have hgn := h.new
  have H0 := hide (fun W (hW : Rd 65 w0 W g code l p) => rnum_any w0 W g code l p hW)
  have H1 := hide (fun W (hW : Rd 65 w0 W g code l (getN l p).2) => rid_any w0 W g code l (getN l p).2 hW)
  have H2 := hide (fun W (hW : Rd 65 w0 W g code l (rdId l (getN l p).2).2) => rid_any w0 W g code l (rdId l (getN l p).2).2 hW)
  have H3 := hide (fun W (hW : Rd 65 w0 W g code l (rdId l (rdId l (getN l p).2).2).2) => rkey_any w0 W g code l (rdId l (rdId l (getN l p).2).2).2 hW)
  have H4 := hide (fun W (hW : Rd 65 w0 W g code l (rdKeyI l (rdId l (rdId l (getN l p).2).2).2).2) => rnum_any w0 W g code l (rdKeyI l (rdId l (rdId l (getN l p).2).2).2).2 hW)
  have H5 := hide (fun W (hW : Rd 65 w0 W g code l (getN l (rdKeyI l (rdId l (rdId l (getN l p).2).2).2).2).2) => rtext_any w0 W g code l (getN l (rdKeyI l (rdId l (rdId l (getN l p).2).2).2).2).2 hW)
  have H6 := hide (fun W (hW : Rd 65 w0 W g code l (getT l (getN l (rdKeyI l (rdId l (rdId l (getN l p).2).2).2).2).2).2) => rtext_any w0 W g code l (getT l (getN l (rdKeyI l (rdId l (rdId l (getN l p).2).2).2).2).2).2 hW)
  have hR := h.keep ((Below.refl w.heap.size w).alloc (Nat.le_refl _) (.cells #[.int .i64 0, .int .i64 0, .int .i64 0, .int .i64 0, .int .i64 0, .int .i64 0, .int .i64 0, .slice none 0 0, .int .i64 0, .slice none 0 0, .slice none 0 0, .bool false] 27))
  have lr := Loc.made w #[.int .i64 0, .int .i64 0, .int .i64 0, .int .i64 0, .int .i64 0, .int .i64 0, .int .i64 0, .slice none 0 0, .int .i64 0, .slice none 0 0, .slice none 0 0, .bool false] 27
  have hG := Below.toGrown ((Below.refl w.heap.size w).alloc (Nat.le_refl _) (.cells #[.int .i64 0, .int .i64 0, .int .i64 0, .int .i64 0, .int .i64 0, .int .i64 0, .int .i64 0, .slice none 0 0, .int .i64 0, .slice none 0 0, .slice none 0 0, .bool false] 27)) (some g)
  clear h
  unfold rdRest
  rw [hk, if_pos rfl]
  generalize (getT l (getT l (getN l (rdKeyI l (rdId l (rdId l (getN l p).2).2).2).2).2).2) = q6 at *
  generalize (getT l (getN l (rdKeyI l (rdId l (rdId l (getN l p).2).2).2).2).2) = q5 at *
  generalize (getN l (rdKeyI l (rdId l (rdId l (getN l p).2).2).2).2) = q4 at *
  generalize (rdKeyI l (rdId l (rdId l (getN l p).2).2).2) = q3 at *
  generalize (rdId l (rdId l (getN l p).2).2) = q2 at *
  generalize (rdId l (getN l p).2) = q1 at *
  generalize (getN l p) = q0 at *
  obtain ⟨kz, p1⟩ := q0
  obtain ⟨⟨n, r⟩, p2⟩ := q1
  obtain ⟨⟨pn, pr⟩, p3⟩ := q2
  obtain ⟨ks, p4⟩ := q3
  obtain ⟨el, p5⟩ := q4
  obtain ⟨nm, p6⟩ := q5
  obtain ⟨tx, p7⟩ := q6
  simp only at *
  subst hk
  have LL := hide (And.intro hR (And.intro lr hG))
  clear hR lr hG
  go_enter Try.func46, Try.ntmps46
  go_wp2_with fail
  obtain ⟨hR, lr, hG⟩ := unhide LL
  clear LL
  generalize (w.alloc (.cells #[.int .i64 0, .int .i64 0, .int .i64 0, .int .i64 0, .int .i64 0, .int .i64 0, .int .i64 0, .slice none 0 0, .int .i64 0, .slice none 0 0, .slice none 0 0, .bool false] 27)) = wa at *
  refine (unhide H0 wa hR).mono ?_
  rintro e w1 ⟨rfl, hRn, hGn⟩
  have sz0 := hGn.size
  have lrn := lr.frm (Frm.ofGrown hGn) (by simp; omega)
  have hGm := grown_trans hG hGn
  clear hG hGn lr hR
  have hG := hGm
  have hR := hRn
  have lr := lrn
  clear hGm hRn lrn
  go_wp2_with fail
  refine (unhide H1 w1 hR).mono ?_
  rintro e w2 ⟨rfl, hRn, hGn⟩
  have sz1 := hGn.size
  have lrn := lr.frm (Frm.ofGrown hGn) (by simp; omega)
  have hGm := grown_trans hG hGn
  clear hG hGn lr hR
  have hG := hGm
  have hR := hRn
  have lr := lrn
  clear hGm hRn lrn
  have hAb := (Below.refl w2.heap.size w2).alloc (Nat.le_refl _) (.cells #[.int .i64 0, .int .i64 n, .int .i64 r, .int .i64 0, .int .i64 0, .int .i64 0, .int .i64 0, .slice none 0 0, .int .i64 0, .slice none 0 0, .slice none 0 0, .bool false] 27)
  have lo := Loc.made w2 #[.int .i64 0, .int .i64 n, .int .i64 r, .int .i64 0, .int .i64 0, .int .i64 0, .int .i64 0, .slice none 0 0, .int .i64 0, .slice none 0 0, .slice none 0 0, .bool false] 27
  have hrS := lr.lt
  have hgS := hR.box.lt
  have LL := hide (And.intro (hR.keep hAb) (And.intro (lr.all hAb) (And.intro (grown_trans hG (Below.toGrown hAb (some g))) lo)))
  clear hR lr hG hAb lo
  go_wp2_with fail
  obtain ⟨hR, lr, hG, lo⟩ := unhide LL
  clear LL
  generalize (w2.alloc (.cells #[.int .i64 0, .int .i64 n, .int .i64 r, .int .i64 0, .int .i64 0, .int .i64 0, .int .i64 0, .slice none 0 0, .int .i64 0, .slice none 0 0, .slice none 0 0, .bool false] 27)) = wb at *
  generalize w2.heap.size = S at *
  refine (unhide H2 wb hR).mono ?_
  rintro e w3 ⟨rfl, hRn, hGn⟩
  have sz2 := hGn.size
  have lrn := lr.frm (Frm.ofGrown hGn) (by simp; omega)
  have lon := lo.frm (Frm.ofGrown hGn) (by simp; omega)
  have hGm := grown_trans hG hGn
  clear hG hGn lr hR lo
  have hG := hGm
  have hR := hRn
  have lr := lrn
  have lo := lon
  clear hGm hRn lrn lon
  go_wp2_with fail
  refine (unhide H3 w3 hR).mono ?_
  rintro e w4 ⟨a3, c3, k3, rfl, ho3, hk3, _, hRn, hGn⟩
  obtain rfl := unhide hk3
  have sz3 := hGn.size
  have lrn := lr.frm (Frm.ofGrown hGn) (by simp; omega)
  have lon := lo.frm (Frm.ofGrown hGn) (by simp; omega)
  have hs3 : S < w3.heap.size := lo.lt
  have hz3 := ho3.rng
  have hGm := grown_trans hG hGn
  clear hG hGn lr hR lo
  have hG := hGm
  have hR := hRn
  have lr := lrn
  have lo := lon
  clear hGm hRn lrn lon
  go_wp2_with fail
  refine (unhide H4 w4 hR).mono ?_
  rintro e w5 ⟨rfl, hRn, hGn⟩
  have sz4 := hGn.size
  have lrn := lr.frm (Frm.ofGrown hGn) (by simp; omega)
  have lon := lo.frm (Frm.ofGrown hGn) (by simp; omega)
  replace ho3 := ho3.keepBy hGn (.inr (fun e => by have := (ho3.lt g e).1; omega))
  have hGm := grown_trans hG hGn
  clear hG hGn lr hR lo
  have hG := hGm
  have hR := hRn
  have lr := lrn
  have lo := lon
  clear hGm hRn lrn lon
  have lon : Loc ((((w5.setCell ⟨S, 5, none⟩ (.int .i64 pn)).setCell ⟨S, 6, none⟩ (.int .i64 pr)).setCell ⟨S, 7, none⟩ (.slice a3 ks.length c3)).setCell ⟨S, 8, none⟩ (.int .i64 el)) S #[.int .i64 0, .int .i64 n, .int .i64 r, .int .i64 0, .int .i64 0, .int .i64 pn, .int .i64 pr, .slice a3 ks.length c3, .int .i64 el, .slice none 0 0, .slice none 0 0, .bool false] 27 := ((((lo.set 5 (.int .i64 pn)).set 6 (.int .i64 pr)).set 7 (.slice a3 ks.length c3)).set 8 (.int .i64 el))
  have hsS : w5.grownBy ((((w5.setCell ⟨S, 5, none⟩ (.int .i64 pn)).setCell ⟨S, 6, none⟩ (.int .i64 pr)).setCell ⟨S, 7, none⟩ (.slice a3 ks.length c3)).setCell ⟨S, 8, none⟩ (.int .i64 el)) (some S) := (grown_trans (grown_trans (grown_trans (setG w5 S 5 (.int .i64 pn)) (setG _ S 6 (.int .i64 pr))) (setG _ S 7 (.slice a3 ks.length c3))) (setG _ S 8 (.int .i64 el)))
  have x0 := lo.cell 0
  have x1 := lo.cell 1
  have x2 := lo.cell 2
  have x3 := lo.cell 3
  have x4 := lo.cell 4
  have x5 := lo.cell 5
  have x6 := lo.cell 6
  have x7 := lo.cell 7
  have x8 := lo.cell 8
  have x9 := lo.cell 9
  have x10 := lo.cell 10
  have x11 := lo.cell 11
  have f5 := lo.frozen 5
  have f6 := lo.frozen 6
  have f7 := lo.frozen 7
  have f8 := lo.frozen 8
  have hRn := hR.keepG hsS (by simp; omega) (fun k hk => by simp at hk; omega)
  have lrn := lr.frm (Frm.ofGrown hsS) (by simp; omega)
  have hGn := grow_new hG hsS (fun q hq => by simp at hq; omega)
  replace ho3 := ho3.keepBy hsS (.inr (fun e => by have := (ho3.lt S e).1; omega))
  have szs0 := hsS.size
  clear hR lr hG lo hsS
  have hR := hRn
  have lr := lrn
  have hG := hGn
  have lo := lon
  clear hRn lrn hGn lon
  have LL := hide (And.intro hR (And.intro lr (And.intro hG lo)))
  clear hR lr hG lo
  have HO3 := hide ho3
  clear ho3
  go_wp2_with fail
  obtain ⟨hR, lr, hG, lo⟩ := unhide LL
  clear LL
  have ho3 := unhide HO3
  clear HO3
  clear x0 x1 x2 x3 x4 x5 x6 x7 x8 x9 x10 x11 f5 f6 f7 f8
  generalize ((((w5.setCell ⟨S, 5, none⟩ (.int .i64 pn)).setCell ⟨S, 6, none⟩ (.int .i64 pr)).setCell ⟨S, 7, none⟩ (.slice a3 ks.length c3)).setCell ⟨S, 8, none⟩ (.int .i64 el)) = ws0 at *
  refine (unhide H5 ws0 hR).mono ?_
  rintro e w6 ⟨a5, c5, rfl, ho5, hRn, hGn⟩
  have sz5 := hGn.size
  have lrn := lr.frm (Frm.ofGrown hGn) (by simp; omega)
  have lon := lo.frm (Frm.ofGrown hGn) (by simp; omega)
  replace ho3 := ho3.keepBy hGn (.inr (fun e => by have := (ho3.lt g e).1; omega))
  have hs5 : S < ws0.heap.size := lo.lt
  have hz5 := ho5.rng
  have hGm := grown_trans hG hGn
  clear hG hGn lr hR lo
  have hG := hGm
  have hR := hRn
  have lr := lrn
  have lo := lon
  clear hGm hRn lrn lon
  go_wp2_with fail
  refine (unhide H6 w6 hR).mono ?_
  rintro e w7 ⟨a6, c6, rfl, ho6, hRn, hGn⟩
  have sz6 := hGn.size
  have lrn := lr.frm (Frm.ofGrown hGn) (by simp; omega)
  have lon := lo.frm (Frm.ofGrown hGn) (by simp; omega)
  replace ho3 := ho3.keepBy hGn (.inr (fun e => by have := (ho3.lt g e).1; omega))
  replace ho5 := ho5.keepBy hGn (.inr (fun e => by have := (ho5.lt g e).1; omega))
  have hs6 : S < w6.heap.size := lo.lt
  have hz6 := ho6.rng
  have hGm := grown_trans hG hGn
  clear hG hGn lr hR lo
  have hG := hGm
  have hR := hRn
  have lr := lrn
  have lo := lon
  clear hGm hRn lrn lon
  have lon : Loc ((w7.setCell ⟨S, 9, none⟩ (.slice a5 nm.length c5)).setCell ⟨S, 10, none⟩ (.slice a6 tx.length c6)) S #[.int .i64 0, .int .i64 n, .int .i64 r, .int .i64 0, .int .i64 0, .int .i64 pn, .int .i64 pr, .slice a3 ks.length c3, .int .i64 el, .slice a5 nm.length c5, .slice a6 tx.length c6, .bool false] 27 := ((lo.set 9 (.slice a5 nm.length c5)).set 10 (.slice a6 tx.length c6))
  have hsS : w7.grownBy ((w7.setCell ⟨S, 9, none⟩ (.slice a5 nm.length c5)).setCell ⟨S, 10, none⟩ (.slice a6 tx.length c6)) (some S) := (grown_trans (setG w7 S 9 (.slice a5 nm.length c5)) (setG _ S 10 (.slice a6 tx.length c6)))
  have x0 := lo.cell 0
  have x1 := lo.cell 1
  have x2 := lo.cell 2
  have x3 := lo.cell 3
  have x4 := lo.cell 4
  have x5 := lo.cell 5
  have x6 := lo.cell 6
  have x7 := lo.cell 7
  have x8 := lo.cell 8
  have x9 := lo.cell 9
  have x10 := lo.cell 10
  have x11 := lo.cell 11
  have f9 := lo.frozen 9
  have f10 := lo.frozen 10
  have hRn := hR.keepG hsS (by simp; omega) (fun k hk => by simp at hk; omega)
  have lrn := lr.frm (Frm.ofGrown hsS) (by simp; omega)
  have hGn := grow_new hG hsS (fun q hq => by simp at hq; omega)
  replace ho3 := ho3.keepBy hsS (.inr (fun e => by have := (ho3.lt S e).1; omega))
  replace ho5 := ho5.keepBy hsS (.inr (fun e => by have := (ho5.lt S e).1; omega))
  replace ho6 := ho6.keepBy hsS (.inr (fun e => by have := (ho6.lt S e).1; omega))
  have szs1 := hsS.size
  clear hR lr hG lo hsS
  have hR := hRn
  have lr := lrn
  have hG := hGn
  have lo := lon
  clear hRn lrn hGn lon
  have lrz : Loc ((((((((((((((w7.setCell ⟨S, 9, none⟩ (.slice a5 nm.length c5)).setCell ⟨S, 10, none⟩ (.slice a6 tx.length c6)).setCell ⟨w.heap.size, 0, none⟩ (.int .i64 0)).setCell ⟨w.heap.size, 1, none⟩ (.int .i64 n)).setCell ⟨w.heap.size, 2, none⟩ (.int .i64 r)).setCell ⟨w.heap.size, 3, none⟩ (.int .i64 0)).setCell ⟨w.heap.size, 4, none⟩ (.int .i64 0)).setCell ⟨w.heap.size, 5, none⟩ (.int .i64 pn)).setCell ⟨w.heap.size, 6, none⟩ (.int .i64 pr)).setCell ⟨w.heap.size, 7, none⟩ (.slice a3 ks.length c3)).setCell ⟨w.heap.size, 8, none⟩ (.int .i64 el)).setCell ⟨w.heap.size, 9, none⟩ (.slice a5 nm.length c5)).setCell ⟨w.heap.size, 10, none⟩ (.slice a6 tx.length c6)).setCell ⟨w.heap.size, 11, none⟩ (.bool false)) w.heap.size #[.int .i64 0, .int .i64 n, .int .i64 r, .int .i64 0, .int .i64 0, .int .i64 pn, .int .i64 pr, .slice a3 ks.length c3, .int .i64 el, .slice a5 nm.length c5, .slice a6 tx.length c6, .bool false] 27 := set_twelve lr (.int .i64 0) (.int .i64 n) (.int .i64 r) (.int .i64 0) (.int .i64 0) (.int .i64 pn) (.int .i64 pr) (.slice a3 ks.length c3) (.int .i64 el) (.slice a5 nm.length c5) (.slice a6 tx.length c6) (.bool false)
  have hsR : ((w7.setCell ⟨S, 9, none⟩ (.slice a5 nm.length c5)).setCell ⟨S, 10, none⟩ (.slice a6 tx.length c6)).grownBy ((((((((((((((w7.setCell ⟨S, 9, none⟩ (.slice a5 nm.length c5)).setCell ⟨S, 10, none⟩ (.slice a6 tx.length c6)).setCell ⟨w.heap.size, 0, none⟩ (.int .i64 0)).setCell ⟨w.heap.size, 1, none⟩ (.int .i64 n)).setCell ⟨w.heap.size, 2, none⟩ (.int .i64 r)).setCell ⟨w.heap.size, 3, none⟩ (.int .i64 0)).setCell ⟨w.heap.size, 4, none⟩ (.int .i64 0)).setCell ⟨w.heap.size, 5, none⟩ (.int .i64 pn)).setCell ⟨w.heap.size, 6, none⟩ (.int .i64 pr)).setCell ⟨w.heap.size, 7, none⟩ (.slice a3 ks.length c3)).setCell ⟨w.heap.size, 8, none⟩ (.int .i64 el)).setCell ⟨w.heap.size, 9, none⟩ (.slice a5 nm.length c5)).setCell ⟨w.heap.size, 10, none⟩ (.slice a6 tx.length c6)).setCell ⟨w.heap.size, 11, none⟩ (.bool false)) (some w.heap.size) := grow_twelve _ _ (.int .i64 0) (.int .i64 n) (.int .i64 r) (.int .i64 0) (.int .i64 0) (.int .i64 pn) (.int .i64 pr) (.slice a3 ks.length c3) (.int .i64 el) (.slice a5 nm.length c5) (.slice a6 tx.length c6) (.bool false)
  obtain ⟨e0, e1, e2, e3, e4, e5, e6, e7, e8, e9, e10, e11⟩ := lrz.twelve
  obtain ⟨y0, y1, y2, y3, y4, y5, y6, y7, y8, y9, y10, y11⟩ := lo.twelve
  obtain ⟨z0, z1, z2, z3, z4, z5, z6, z7, z8, z9, z10, z11⟩ := lr.twelve
  have g0 := lr.frozen 0
  have g1 := lr.frozen 1
  have g2 := lr.frozen 2
  have g3 := lr.frozen 3
  have g4 := lr.frozen 4
  have g5 := lr.frozen 5
  have g6 := lr.frozen 6
  have g7 := lr.frozen 7
  have g8 := lr.frozen 8
  have g9 := lr.frozen 9
  have g10 := lr.frozen 10
  have g11 := lr.frozen 11
  have hGz := grow_new hG hsR (fun q hq => by simp at hq; omega)
  have hBz := bstepBy (unhide HBL) hGz (fun k hk => by cases hk; exact hgn)
  replace ho3 := (ho3.keepBy hsR (.inr (fun e => by have := (ho3.lt _ e).1; omega))).mono (show w.heap.size ≤ _ by omega)
  replace ho5 := (ho5.keepBy hsR (.inr (fun e => by have := (ho5.lt _ e).1; omega))).mono (show w.heap.size ≤ _ by omega)
  replace ho6 := (ho6.keepBy hsR (.inr (fun e => by have := (ho6.lt _ e).1; omega))).mono (show w.heap.size ≤ _ by omega)
  have hnd : (FB (.slice a3 ks.length c3) ++ FB (.slice a5 nm.length c5) ++ FB (.slice a6 tx.length c6)).Nodup := by
    have e0 : FB (.slice none 0 0) = [] := rfl
    skip
    exact nodup_app (lo := 0) (nodup_app (FB_nodup _) (FB_nodup _) hz3 (hz5.mono (by omega) (Nat.le_refl _))) (FB_nodup _) ((hz3.mono (Nat.zero_le _) (by omega)).app (hz5.mono (Nat.zero_le _) (Nat.le_refl _))) (hz6.mono (by omega) (Nat.le_refl _))
  have KK := hide (show OwnZ ((((((((((((((w7.setCell ⟨S, 9, none⟩ (.slice a5 nm.length c5)).setCell ⟨S, 10, none⟩ (.slice a6 tx.length c6)).setCell ⟨w.heap.size, 0, none⟩ (.int .i64 0)).setCell ⟨w.heap.size, 1, none⟩ (.int .i64 n)).setCell ⟨w.heap.size, 2, none⟩ (.int .i64 r)).setCell ⟨w.heap.size, 3, none⟩ (.int .i64 0)).setCell ⟨w.heap.size, 4, none⟩ (.int .i64 0)).setCell ⟨w.heap.size, 5, none⟩ (.int .i64 pn)).setCell ⟨w.heap.size, 6, none⟩ (.int .i64 pr)).setCell ⟨w.heap.size, 7, none⟩ (.slice a3 ks.length c3)).setCell ⟨w.heap.size, 8, none⟩ (.int .i64 el)).setCell ⟨w.heap.size, 9, none⟩ (.slice a5 nm.length c5)).setCell ⟨w.heap.size, 10, none⟩ (.slice a6 tx.length c6)).setCell ⟨w.heap.size, 11, none⟩ (.bool false)) w.heap.size (.slice a3 ks.length c3) _ ∧ Own ((((((((((((((w7.setCell ⟨S, 9, none⟩ (.slice a5 nm.length c5)).setCell ⟨S, 10, none⟩ (.slice a6 tx.length c6)).setCell ⟨w.heap.size, 0, none⟩ (.int .i64 0)).setCell ⟨w.heap.size, 1, none⟩ (.int .i64 n)).setCell ⟨w.heap.size, 2, none⟩ (.int .i64 r)).setCell ⟨w.heap.size, 3, none⟩ (.int .i64 0)).setCell ⟨w.heap.size, 4, none⟩ (.int .i64 0)).setCell ⟨w.heap.size, 5, none⟩ (.int .i64 pn)).setCell ⟨w.heap.size, 6, none⟩ (.int .i64 pr)).setCell ⟨w.heap.size, 7, none⟩ (.slice a3 ks.length c3)).setCell ⟨w.heap.size, 8, none⟩ (.int .i64 el)).setCell ⟨w.heap.size, 9, none⟩ (.slice a5 nm.length c5)).setCell ⟨w.heap.size, 10, none⟩ (.slice a6 tx.length c6)).setCell ⟨w.heap.size, 11, none⟩ (.bool false)) w.heap.size (.slice a5 nm.length c5) _ ∧ Own ((((((((((((((w7.setCell ⟨S, 9, none⟩ (.slice a5 nm.length c5)).setCell ⟨S, 10, none⟩ (.slice a6 tx.length c6)).setCell ⟨w.heap.size, 0, none⟩ (.int .i64 0)).setCell ⟨w.heap.size, 1, none⟩ (.int .i64 n)).setCell ⟨w.heap.size, 2, none⟩ (.int .i64 r)).setCell ⟨w.heap.size, 3, none⟩ (.int .i64 0)).setCell ⟨w.heap.size, 4, none⟩ (.int .i64 0)).setCell ⟨w.heap.size, 5, none⟩ (.int .i64 pn)).setCell ⟨w.heap.size, 6, none⟩ (.int .i64 pr)).setCell ⟨w.heap.size, 7, none⟩ (.slice a3 ks.length c3)).setCell ⟨w.heap.size, 8, none⟩ (.int .i64 el)).setCell ⟨w.heap.size, 9, none⟩ (.slice a5 nm.length c5)).setCell ⟨w.heap.size, 10, none⟩ (.slice a6 tx.length c6)).setCell ⟨w.heap.size, 11, none⟩ (.bool false)) w.heap.size (.slice a6 tx.length c6) _ ∧ _ ∧ _ from ⟨ho3, ho5, ho6, hnd, hBz⟩)
  clear hR lr hG lo lrz hsR hGz hBz hnd ho3 hz3 ho5 hz5 ho6 hz6
  go_wp2_with fail
  obtain ⟨k1, k2, k3, k4, k5⟩ := unhide KK
  exact bodyPost_ret (v := .agg #[.int .i64 0, .int .i64 n, .int .i64 r, .int .i64 0, .int .i64 0, .int .i64 pn, .int .i64 pr, .slice a3 ks.length c3, .int .i64 el, .slice a5 nm.length c5, .slice a6 tx.length c6, .bool false]) (by simp [results, Try.results46, go_sem, e0, e1, e2, e3, e4, e5, e6, e7, e8, e9, e10, e11]) rfl ⟨_, _, _, rfl, ⟨k1, k2, k3, k4⟩, k5⟩

set_option maxHeartbeats 12800000 in
theorem rop_1 (w0 w : World) (g : Nat) (code : Value) (l : List Int) (p : Int) (h : Rd 65 w0 w g code l p) (hk : (getN l p).1 = 1) :
    Calls Try.prog 46 #[.pointer (some ⟨g, 0, none⟩)] w fun e w' => ∃ k n t, e = .returned (opVal (rdRest rdKeyI l (getN l p).1 (rdId l (getN l p).2).1.1 (rdId l (getN l p).2).1.2 (rdId l (getN l p).2).2).1 k n t) ∧ OwOp w' w.heap.size (rdRest rdKeyI l (getN l p).1 (rdId l (getN l p).2).1.1 (rdId l (getN l p).2).1.2 (rdId l (getN l p).2).2).1 k n t ∧ Below w0.heap.size w0 w' := by
  have hgl := h.box.lt
  have hnew := h.below.size
  have HBL := hide h.below
  have hgn := h.new
  have H0 := hide (fun W (hW : Rd 65 w0 W g code l p) => rnum_any w0 W g code l p hW)
  have H1 := hide (fun W (hW : Rd 65 w0 W g code l (getN l p).2) => rid_any w0 W g code l (getN l p).2 hW)
  have H2 := hide (fun W (hW : Rd 65 w0 W g code l (rdId l (getN l p).2).2) => rid_any w0 W g code l (rdId l (getN l p).2).2 hW)
  have H3 := hide (fun W (hW : Rd 65 w0 W g code l (rdId l (rdId l (getN l p).2).2).2) => rid_any w0 W g code l (rdId l (rdId l (getN l p).2).2).2 hW)
  have H4 := hide (fun W (hW : Rd 65 w0 W g code l (rdId l (rdId l (rdId l (getN l p).2).2).2).2) => rkey_any w0 W g code l (rdId l (rdId l (rdId l (getN l p).2).2).2).2 hW)
  have hR := h.keep ((Below.refl w.heap.size w).alloc (Nat.le_refl _) (.cells #[.int .i64 0, .int .i64 0, .int .i64 0, .int .i64 0, .int .i64 0, .int .i64 0, .int .i64 0, .slice none 0 0, .int .i64 0, .slice none 0 0, .slice none 0 0, .bool false] 27))
  have lr := Loc.made w #[.int .i64 0, .int .i64 0, .int .i64 0, .int .i64 0, .int .i64 0, .int .i64 0, .int .i64 0, .slice none 0 0, .int .i64 0, .slice none 0 0, .slice none 0 0, .bool false] 27
  have hG := Below.toGrown ((Below.refl w.heap.size w).alloc (Nat.le_refl _) (.cells #[.int .i64 0, .int .i64 0, .int .i64 0, .int .i64 0, .int .i64 0, .int .i64 0, .int .i64 0, .slice none 0 0, .int .i64 0, .slice none 0 0, .slice none 0 0, .bool false] 27)) (some g)
  clear h
  unfold rdRest
  rw [hk, if_neg (by decide), if_pos rfl]
  generalize (rdKeyI l (rdId l (rdId l (rdId l (getN l p).2).2).2).2) = q4 at *
  generalize (rdId l (rdId l (rdId l (getN l p).2).2).2) = q3 at *
  generalize (rdId l (rdId l (getN l p).2).2) = q2 at *
  generalize (rdId l (getN l p).2) = q1 at *
  generalize (getN l p) = q0 at *
  obtain ⟨kz, p1⟩ := q0
  obtain ⟨⟨n, r⟩, p2⟩ := q1
  obtain ⟨⟨nn, nr⟩, p3⟩ := q2
  obtain ⟨⟨pn, pr⟩, p4⟩ := q3
  obtain ⟨ks, p5⟩ := q4
  simp only at *
  subst hk
  have LL := hide (And.intro hR (And.intro lr hG))
  clear hR lr hG
  go_enter Try.func46, Try.ntmps46
  go_wp2_with fail
  obtain ⟨hR, lr, hG⟩ := unhide LL
  clear LL
  generalize (w.alloc (.cells #[.int .i64 0, .int .i64 0, .int .i64 0, .int .i64 0, .int .i64 0, .int .i64 0, .int .i64 0, .slice none 0 0, .int .i64 0, .slice none 0 0, .slice none 0 0, .bool false] 27)) = wa at *
  refine (unhide H0 wa hR).mono ?_
  rintro e w1 ⟨rfl, hRn, hGn⟩
  have sz0 := hGn.size
  have lrn := lr.frm (Frm.ofGrown hGn) (by simp; omega)
  have hGm := grown_trans hG hGn
  clear hG hGn lr hR
  have hG := hGm
  have hR := hRn
  have lr := lrn
  clear hGm hRn lrn
  go_wp2_with fail
  refine (unhide H1 w1 hR).mono ?_
  rintro e w2 ⟨rfl, hRn, hGn⟩
  have sz1 := hGn.size
  have lrn := lr.frm (Frm.ofGrown hGn) (by simp; omega)
  have hGm := grown_trans hG hGn
  clear hG hGn lr hR
  have hG := hGm
  have hR := hRn
  have lr := lrn
  clear hGm hRn lrn
  have hAb := (Below.refl w2.heap.size w2).alloc (Nat.le_refl _) (.cells #[.int .i64 1, .int .i64 n, .int .i64 r, .int .i64 0, .int .i64 0, .int .i64 0, .int .i64 0, .slice none 0 0, .int .i64 0, .slice none 0 0, .slice none 0 0, .bool false] 27)
  have lo := Loc.made w2 #[.int .i64 1, .int .i64 n, .int .i64 r, .int .i64 0, .int .i64 0, .int .i64 0, .int .i64 0, .slice none 0 0, .int .i64 0, .slice none 0 0, .slice none 0 0, .bool false] 27
  have hrS := lr.lt
  have hgS := hR.box.lt
  have LL := hide (And.intro (hR.keep hAb) (And.intro (lr.all hAb) (And.intro (grown_trans hG (Below.toGrown hAb (some g))) lo)))
  clear hR lr hG hAb lo
  go_wp2_with fail
  obtain ⟨hR, lr, hG, lo⟩ := unhide LL
  clear LL
  generalize (w2.alloc (.cells #[.int .i64 1, .int .i64 n, .int .i64 r, .int .i64 0, .int .i64 0, .int .i64 0, .int .i64 0, .slice none 0 0, .int .i64 0, .slice none 0 0, .slice none 0 0, .bool false] 27)) = wb at *
  generalize w2.heap.size = S at *
  refine (unhide H2 wb hR).mono ?_
  rintro e w3 ⟨rfl, hRn, hGn⟩
  have sz2 := hGn.size
  have lrn := lr.frm (Frm.ofGrown hGn) (by simp; omega)
  have lon := lo.frm (Frm.ofGrown hGn) (by simp; omega)
  have hGm := grown_trans hG hGn
  clear hG hGn lr hR lo
  have hG := hGm
  have hR := hRn
  have lr := lrn
  have lo := lon
  clear hGm hRn lrn lon
  go_wp2_with fail
  refine (unhide H3 w3 hR).mono ?_
  rintro e w4 ⟨rfl, hRn, hGn⟩
  have sz3 := hGn.size
  have lrn := lr.frm (Frm.ofGrown hGn) (by simp; omega)
  have lon := lo.frm (Frm.ofGrown hGn) (by simp; omega)
  have hGm := grown_trans hG hGn
  clear hG hGn lr hR lo
  have hG := hGm
  have hR := hRn
  have lr := lrn
  have lo := lon
  clear hGm hRn lrn lon
  go_wp2_with fail
  refine (unhide H4 w4 hR).mono ?_
  rintro e w5 ⟨a4, c4, k4, rfl, ho4, hk4, _, hRn, hGn⟩
  obtain rfl := unhide hk4
  have sz4 := hGn.size
  have lrn := lr.frm (Frm.ofGrown hGn) (by simp; omega)
  have lon := lo.frm (Frm.ofGrown hGn) (by simp; omega)
  have hs4 : S < w4.heap.size := lo.lt
  have hz4 := ho4.rng
  have hGm := grown_trans hG hGn
  clear hG hGn lr hR lo
  have hG := hGm
  have hR := hRn
  have lr := lrn
  have lo := lon
  clear hGm hRn lrn lon
  have lon : Loc (((((w5.setCell ⟨S, 3, none⟩ (.int .i64 nn)).setCell ⟨S, 4, none⟩ (.int .i64 nr)).setCell ⟨S, 5, none⟩ (.int .i64 pn)).setCell ⟨S, 6, none⟩ (.int .i64 pr)).setCell ⟨S, 7, none⟩ (.slice a4 ks.length c4)) S #[.int .i64 1, .int .i64 n, .int .i64 r, .int .i64 nn, .int .i64 nr, .int .i64 pn, .int .i64 pr, .slice a4 ks.length c4, .int .i64 0, .slice none 0 0, .slice none 0 0, .bool false] 27 := (((((lo.set 3 (.int .i64 nn)).set 4 (.int .i64 nr)).set 5 (.int .i64 pn)).set 6 (.int .i64 pr)).set 7 (.slice a4 ks.length c4))
  have hsS : w5.grownBy (((((w5.setCell ⟨S, 3, none⟩ (.int .i64 nn)).setCell ⟨S, 4, none⟩ (.int .i64 nr)).setCell ⟨S, 5, none⟩ (.int .i64 pn)).setCell ⟨S, 6, none⟩ (.int .i64 pr)).setCell ⟨S, 7, none⟩ (.slice a4 ks.length c4)) (some S) := (grown_trans (grown_trans (grown_trans (grown_trans (setG w5 S 3 (.int .i64 nn)) (setG _ S 4 (.int .i64 nr))) (setG _ S 5 (.int .i64 pn))) (setG _ S 6 (.int .i64 pr))) (setG _ S 7 (.slice a4 ks.length c4)))
  have x0 := lo.cell 0
  have x1 := lo.cell 1
  have x2 := lo.cell 2
  have x3 := lo.cell 3
  have x4 := lo.cell 4
  have x5 := lo.cell 5
  have x6 := lo.cell 6
  have x7 := lo.cell 7
  have x8 := lo.cell 8
  have x9 := lo.cell 9
  have x10 := lo.cell 10
  have x11 := lo.cell 11
  have f3 := lo.frozen 3
  have f4 := lo.frozen 4
  have f5 := lo.frozen 5
  have f6 := lo.frozen 6
  have f7 := lo.frozen 7
  have hRn := hR.keepG hsS (by simp; omega) (fun k hk => by simp at hk; omega)
  have lrn := lr.frm (Frm.ofGrown hsS) (by simp; omega)
  have hGn := grow_new hG hsS (fun q hq => by simp at hq; omega)
  replace ho4 := ho4.keepBy hsS (.inr (fun e => by have := (ho4.lt S e).1; omega))
  have szs0 := hsS.size
  clear hR lr hG lo hsS
  have hR := hRn
  have lr := lrn
  have hG := hGn
  have lo := lon
  clear hRn lrn hGn lon
  have lrz : Loc (((((((((((((((((w5.setCell ⟨S, 3, none⟩ (.int .i64 nn)).setCell ⟨S, 4, none⟩ (.int .i64 nr)).setCell ⟨S, 5, none⟩ (.int .i64 pn)).setCell ⟨S, 6, none⟩ (.int .i64 pr)).setCell ⟨S, 7, none⟩ (.slice a4 ks.length c4)).setCell ⟨w.heap.size, 0, none⟩ (.int .i64 1)).setCell ⟨w.heap.size, 1, none⟩ (.int .i64 n)).setCell ⟨w.heap.size, 2, none⟩ (.int .i64 r)).setCell ⟨w.heap.size, 3, none⟩ (.int .i64 nn)).setCell ⟨w.heap.size, 4, none⟩ (.int .i64 nr)).setCell ⟨w.heap.size, 5, none⟩ (.int .i64 pn)).setCell ⟨w.heap.size, 6, none⟩ (.int .i64 pr)).setCell ⟨w.heap.size, 7, none⟩ (.slice a4 ks.length c4)).setCell ⟨w.heap.size, 8, none⟩ (.int .i64 0)).setCell ⟨w.heap.size, 9, none⟩ (.slice none 0 0)).setCell ⟨w.heap.size, 10, none⟩ (.slice none 0 0)).setCell ⟨w.heap.size, 11, none⟩ (.bool false)) w.heap.size #[.int .i64 1, .int .i64 n, .int .i64 r, .int .i64 nn, .int .i64 nr, .int .i64 pn, .int .i64 pr, .slice a4 ks.length c4, .int .i64 0, .slice none 0 0, .slice none 0 0, .bool false] 27 := set_twelve lr (.int .i64 1) (.int .i64 n) (.int .i64 r) (.int .i64 nn) (.int .i64 nr) (.int .i64 pn) (.int .i64 pr) (.slice a4 ks.length c4) (.int .i64 0) (.slice none 0 0) (.slice none 0 0) (.bool false)
  have hsR : (((((w5.setCell ⟨S, 3, none⟩ (.int .i64 nn)).setCell ⟨S, 4, none⟩ (.int .i64 nr)).setCell ⟨S, 5, none⟩ (.int .i64 pn)).setCell ⟨S, 6, none⟩ (.int .i64 pr)).setCell ⟨S, 7, none⟩ (.slice a4 ks.length c4)).grownBy (((((((((((((((((w5.setCell ⟨S, 3, none⟩ (.int .i64 nn)).setCell ⟨S, 4, none⟩ (.int .i64 nr)).setCell ⟨S, 5, none⟩ (.int .i64 pn)).setCell ⟨S, 6, none⟩ (.int .i64 pr)).setCell ⟨S, 7, none⟩ (.slice a4 ks.length c4)).setCell ⟨w.heap.size, 0, none⟩ (.int .i64 1)).setCell ⟨w.heap.size, 1, none⟩ (.int .i64 n)).setCell ⟨w.heap.size, 2, none⟩ (.int .i64 r)).setCell ⟨w.heap.size, 3, none⟩ (.int .i64 nn)).setCell ⟨w.heap.size, 4, none⟩ (.int .i64 nr)).setCell ⟨w.heap.size, 5, none⟩ (.int .i64 pn)).setCell ⟨w.heap.size, 6, none⟩ (.int .i64 pr)).setCell ⟨w.heap.size, 7, none⟩ (.slice a4 ks.length c4)).setCell ⟨w.heap.size, 8, none⟩ (.int .i64 0)).setCell ⟨w.heap.size, 9, none⟩ (.slice none 0 0)).setCell ⟨w.heap.size, 10, none⟩ (.slice none 0 0)).setCell ⟨w.heap.size, 11, none⟩ (.bool false)) (some w.heap.size) := grow_twelve _ _ (.int .i64 1) (.int .i64 n) (.int .i64 r) (.int .i64 nn) (.int .i64 nr) (.int .i64 pn) (.int .i64 pr) (.slice a4 ks.length c4) (.int .i64 0) (.slice none 0 0) (.slice none 0 0) (.bool false)
  obtain ⟨e0, e1, e2, e3, e4, e5, e6, e7, e8, e9, e10, e11⟩ := lrz.twelve
  obtain ⟨y0, y1, y2, y3, y4, y5, y6, y7, y8, y9, y10, y11⟩ := lo.twelve
  obtain ⟨z0, z1, z2, z3, z4, z5, z6, z7, z8, z9, z10, z11⟩ := lr.twelve
  have g0 := lr.frozen 0
  have g1 := lr.frozen 1
  have g2 := lr.frozen 2
  have g3 := lr.frozen 3
  have g4 := lr.frozen 4
  have g5 := lr.frozen 5
  have g6 := lr.frozen 6
  have g7 := lr.frozen 7
  have g8 := lr.frozen 8
  have g9 := lr.frozen 9
  have g10 := lr.frozen 10
  have g11 := lr.frozen 11
  have hGz := grow_new hG hsR (fun q hq => by simp at hq; omega)
  have hBz := bstepBy (unhide HBL) hGz (fun k hk => by cases hk; exact hgn)
  replace ho4 := (ho4.keepBy hsR (.inr (fun e => by have := (ho4.lt _ e).1; omega))).mono (show w.heap.size ≤ _ by omega)
  have hnd : (FB (.slice a4 ks.length c4) ++ FB (.slice none 0 0) ++ FB (.slice none 0 0)).Nodup := by
    have e0 : FB (.slice none 0 0) = [] := rfl
    simp only [e0, List.append_nil]
    exact FB_nodup _
  have KK := hide (show OwnZ (((((((((((((((((w5.setCell ⟨S, 3, none⟩ (.int .i64 nn)).setCell ⟨S, 4, none⟩ (.int .i64 nr)).setCell ⟨S, 5, none⟩ (.int .i64 pn)).setCell ⟨S, 6, none⟩ (.int .i64 pr)).setCell ⟨S, 7, none⟩ (.slice a4 ks.length c4)).setCell ⟨w.heap.size, 0, none⟩ (.int .i64 1)).setCell ⟨w.heap.size, 1, none⟩ (.int .i64 n)).setCell ⟨w.heap.size, 2, none⟩ (.int .i64 r)).setCell ⟨w.heap.size, 3, none⟩ (.int .i64 nn)).setCell ⟨w.heap.size, 4, none⟩ (.int .i64 nr)).setCell ⟨w.heap.size, 5, none⟩ (.int .i64 pn)).setCell ⟨w.heap.size, 6, none⟩ (.int .i64 pr)).setCell ⟨w.heap.size, 7, none⟩ (.slice a4 ks.length c4)).setCell ⟨w.heap.size, 8, none⟩ (.int .i64 0)).setCell ⟨w.heap.size, 9, none⟩ (.slice none 0 0)).setCell ⟨w.heap.size, 10, none⟩ (.slice none 0 0)).setCell ⟨w.heap.size, 11, none⟩ (.bool false)) w.heap.size (.slice a4 ks.length c4) _ ∧ Own (((((((((((((((((w5.setCell ⟨S, 3, none⟩ (.int .i64 nn)).setCell ⟨S, 4, none⟩ (.int .i64 nr)).setCell ⟨S, 5, none⟩ (.int .i64 pn)).setCell ⟨S, 6, none⟩ (.int .i64 pr)).setCell ⟨S, 7, none⟩ (.slice a4 ks.length c4)).setCell ⟨w.heap.size, 0, none⟩ (.int .i64 1)).setCell ⟨w.heap.size, 1, none⟩ (.int .i64 n)).setCell ⟨w.heap.size, 2, none⟩ (.int .i64 r)).setCell ⟨w.heap.size, 3, none⟩ (.int .i64 nn)).setCell ⟨w.heap.size, 4, none⟩ (.int .i64 nr)).setCell ⟨w.heap.size, 5, none⟩ (.int .i64 pn)).setCell ⟨w.heap.size, 6, none⟩ (.int .i64 pr)).setCell ⟨w.heap.size, 7, none⟩ (.slice a4 ks.length c4)).setCell ⟨w.heap.size, 8, none⟩ (.int .i64 0)).setCell ⟨w.heap.size, 9, none⟩ (.slice none 0 0)).setCell ⟨w.heap.size, 10, none⟩ (.slice none 0 0)).setCell ⟨w.heap.size, 11, none⟩ (.bool false)) w.heap.size (.slice none 0 0) _ ∧ Own (((((((((((((((((w5.setCell ⟨S, 3, none⟩ (.int .i64 nn)).setCell ⟨S, 4, none⟩ (.int .i64 nr)).setCell ⟨S, 5, none⟩ (.int .i64 pn)).setCell ⟨S, 6, none⟩ (.int .i64 pr)).setCell ⟨S, 7, none⟩ (.slice a4 ks.length c4)).setCell ⟨w.heap.size, 0, none⟩ (.int .i64 1)).setCell ⟨w.heap.size, 1, none⟩ (.int .i64 n)).setCell ⟨w.heap.size, 2, none⟩ (.int .i64 r)).setCell ⟨w.heap.size, 3, none⟩ (.int .i64 nn)).setCell ⟨w.heap.size, 4, none⟩ (.int .i64 nr)).setCell ⟨w.heap.size, 5, none⟩ (.int .i64 pn)).setCell ⟨w.heap.size, 6, none⟩ (.int .i64 pr)).setCell ⟨w.heap.size, 7, none⟩ (.slice a4 ks.length c4)).setCell ⟨w.heap.size, 8, none⟩ (.int .i64 0)).setCell ⟨w.heap.size, 9, none⟩ (.slice none 0 0)).setCell ⟨w.heap.size, 10, none⟩ (.slice none 0 0)).setCell ⟨w.heap.size, 11, none⟩ (.bool false)) w.heap.size (.slice none 0 0) _ ∧ _ ∧ _ from ⟨ho4, own_nilB _ _, own_nilB _ _, hnd, hBz⟩)
  clear hR lr hG lo lrz hsR hGz hBz hnd ho4 hz4
  go_wp2_with fail
  obtain ⟨k1, k2, k3, k4, k5⟩ := unhide KK
  exact bodyPost_ret (v := .agg #[.int .i64 1, .int .i64 n, .int .i64 r, .int .i64 nn, .int .i64 nr, .int .i64 pn, .int .i64 pr, .slice a4 ks.length c4, .int .i64 0, .slice none 0 0, .slice none 0 0, .bool false]) (by simp [results, Try.results46, go_sem, e0, e1, e2, e3, e4, e5, e6, e7, e8, e9, e10, e11]) rfl ⟨_, _, _, rfl, ⟨k1, k2, k3, k4⟩, k5⟩

set_option maxHeartbeats 12800000 in
theorem rop_g (w0 w : World) (g : Nat) (code : Value) (l : List Int) (p : Int) (h : Rd 65 w0 w g code l p) (hk : (getN l p).1 = 3) (hg : (getN l (getT l (rdId l (rdId l (getN l p).2).2).2).2).1 = 1) :
    Calls Try.prog 46 #[.pointer (some ⟨g, 0, none⟩)] w fun e w' => ∃ k n t, e = .returned (opVal (rdRest rdKeyI l (getN l p).1 (rdId l (getN l p).2).1.1 (rdId l (getN l p).2).1.2 (rdId l (getN l p).2).2).1 k n t) ∧ OwOp w' w.heap.size (rdRest rdKeyI l (getN l p).1 (rdId l (getN l p).2).1.1 (rdId l (getN l p).2).1.2 (rdId l (getN l p).2).2).1 k n t ∧ Below w0.heap.size w0 w' := by
  have hgl := h.box.lt
  have hnew := h.below.size
  have HBL := hide h.below
  have hgn := h.new
  have H0 := hide (fun W (hW : Rd 65 w0 W g code l p) => rnum_any w0 W g code l p hW)
  have H1 := hide (fun W (hW : Rd 65 w0 W g code l (getN l p).2) => rid_any w0 W g code l (getN l p).2 hW)
  have H2 := hide (fun W (hW : Rd 65 w0 W g code l (rdId l (getN l p).2).2) => rid_any w0 W g code l (rdId l (getN l p).2).2 hW)
  have H3 := hide (fun W (hW : Rd 65 w0 W g code l (rdId l (rdId l (getN l p).2).2).2) => rtext_any w0 W g code l (rdId l (rdId l (getN l p).2).2).2 hW)
  have H4 := hide (fun W (hW : Rd 65 w0 W g code l (getT l (rdId l (rdId l (getN l p).2).2).2).2) => rnum_any w0 W g code l (getT l (rdId l (rdId l (getN l p).2).2).2).2 hW)
  have hR := h.keep ((Below.refl w.heap.size w).alloc (Nat.le_refl _) (.cells #[.int .i64 0, .int .i64 0, .int .i64 0, .int .i64 0, .int .i64 0, .int .i64 0, .int .i64 0, .slice none 0 0, .int .i64 0, .slice none 0 0, .slice none 0 0, .bool false] 27))
  have lr := Loc.made w #[.int .i64 0, .int .i64 0, .int .i64 0, .int .i64 0, .int .i64 0, .int .i64 0, .int .i64 0, .slice none 0 0, .int .i64 0, .slice none 0 0, .slice none 0 0, .bool false] 27
  have hG := Below.toGrown ((Below.refl w.heap.size w).alloc (Nat.le_refl _) (.cells #[.int .i64 0, .int .i64 0, .int .i64 0, .int .i64 0, .int .i64 0, .int .i64 0, .int .i64 0, .slice none 0 0, .int .i64 0, .slice none 0 0, .slice none 0 0, .bool false] 27)) (some g)
  clear h
  unfold rdRest
  rw [hk, if_neg (by decide), if_neg (by decide), if_neg (by decide), if_pos rfl, if_pos hg]
  generalize (getN l (getT l (rdId l (rdId l (getN l p).2).2).2).2) = q4 at *
  generalize (getT l (rdId l (rdId l (getN l p).2).2).2) = q3 at *
  generalize (rdId l (rdId l (getN l p).2).2) = q2 at *
  generalize (rdId l (getN l p).2) = q1 at *
  generalize (getN l p) = q0 at *
  obtain ⟨kz, p1⟩ := q0
  obtain ⟨⟨n, r⟩, p2⟩ := q1
  obtain ⟨⟨nn, nr⟩, p3⟩ := q2
  obtain ⟨nm, p4⟩ := q3
  obtain ⟨gz, p5⟩ := q4
  simp only at *
  subst hk
  subst hg
  have LL := hide (And.intro hR (And.intro lr hG))
  clear hR lr hG
  go_enter Try.func46, Try.ntmps46
  go_wp2_with fail
  obtain ⟨hR, lr, hG⟩ := unhide LL
  clear LL
  generalize (w.alloc (.cells #[.int .i64 0, .int .i64 0, .int .i64 0, .int .i64 0, .int .i64 0, .int .i64 0, .int .i64 0, .slice none 0 0, .int .i64 0, .slice none 0 0, .slice none 0 0, .bool false] 27)) = wa at *
  refine (unhide H0 wa hR).mono ?_
  rintro e w1 ⟨rfl, hRn, hGn⟩
  have sz0 := hGn.size
  have lrn := lr.frm (Frm.ofGrown hGn) (by simp; omega)
  have hGm := grown_trans hG hGn
  clear hG hGn lr hR
  have hG := hGm
  have hR := hRn
  have lr := lrn
  clear hGm hRn lrn
  go_wp2_with fail
  refine (unhide H1 w1 hR).mono ?_
  rintro e w2 ⟨rfl, hRn, hGn⟩
  have sz1 := hGn.size
  have lrn := lr.frm (Frm.ofGrown hGn) (by simp; omega)
  have hGm := grown_trans hG hGn
  clear hG hGn lr hR
  have hG := hGm
  have hR := hRn
  have lr := lrn
  clear hGm hRn lrn
  have hAb := (Below.refl w2.heap.size w2).alloc (Nat.le_refl _) (.cells #[.int .i64 3, .int .i64 n, .int .i64 r, .int .i64 0, .int .i64 0, .int .i64 0, .int .i64 0, .slice none 0 0, .int .i64 0, .slice none 0 0, .slice none 0 0, .bool false] 27)
  have lo := Loc.made w2 #[.int .i64 3, .int .i64 n, .int .i64 r, .int .i64 0, .int .i64 0, .int .i64 0, .int .i64 0, .slice none 0 0, .int .i64 0, .slice none 0 0, .slice none 0 0, .bool false] 27
  have hrS := lr.lt
  have hgS := hR.box.lt
  have LL := hide (And.intro (hR.keep hAb) (And.intro (lr.all hAb) (And.intro (grown_trans hG (Below.toGrown hAb (some g))) lo)))
  clear hR lr hG hAb lo
  go_wp2_with fail
  obtain ⟨hR, lr, hG, lo⟩ := unhide LL
  clear LL
  generalize (w2.alloc (.cells #[.int .i64 3, .int .i64 n, .int .i64 r, .int .i64 0, .int .i64 0, .int .i64 0, .int .i64 0, .slice none 0 0, .int .i64 0, .slice none 0 0, .slice none 0 0, .bool false] 27)) = wb at *
  generalize w2.heap.size = S at *
  refine (unhide H2 wb hR).mono ?_
  rintro e w3 ⟨rfl, hRn, hGn⟩
  have sz2 := hGn.size
  have lrn := lr.frm (Frm.ofGrown hGn) (by simp; omega)
  have lon := lo.frm (Frm.ofGrown hGn) (by simp; omega)
  have hGm := grown_trans hG hGn
  clear hG hGn lr hR lo
  have hG := hGm
  have hR := hRn
  have lr := lrn
  have lo := lon
  clear hGm hRn lrn lon
  go_wp2_with fail
  refine (unhide H3 w3 hR).mono ?_
  rintro e w4 ⟨a3, c3, rfl, ho3, hRn, hGn⟩
  have sz3 := hGn.size
  have lrn := lr.frm (Frm.ofGrown hGn) (by simp; omega)
  have lon := lo.frm (Frm.ofGrown hGn) (by simp; omega)
  have hs3 : S < w3.heap.size := lo.lt
  have hz3 := ho3.rng
  have hGm := grown_trans hG hGn
  clear hG hGn lr hR lo
  have hG := hGm
  have hR := hRn
  have lr := lrn
  have lo := lon
  clear hGm hRn lrn lon
  go_wp2_with fail
  refine (unhide H4 w4 hR).mono ?_
  rintro e w5 ⟨rfl, hRn, hGn⟩
  have sz4 := hGn.size
  have lrn := lr.frm (Frm.ofGrown hGn) (by simp; omega)
  have lon := lo.frm (Frm.ofGrown hGn) (by simp; omega)
  replace ho3 := ho3.keepBy hGn (.inr (fun e => by have := (ho3.lt g e).1; omega))
  have hGm := grown_trans hG hGn
  clear hG hGn lr hR lo
  have hG := hGm
  have hR := hRn
  have lr := lrn
  have lo := lon
  clear hGm hRn lrn lon
  have lon : Loc ((((w5.setCell ⟨S, 3, none⟩ (.int .i64 nn)).setCell ⟨S, 4, none⟩ (.int .i64 nr)).setCell ⟨S, 9, none⟩ (.slice a3 nm.length c3)).setCell ⟨S, 11, none⟩ (.bool true)) S #[.int .i64 3, .int .i64 n, .int .i64 r, .int .i64 nn, .int .i64 nr, .int .i64 0, .int .i64 0, .slice none 0 0, .int .i64 0, .slice a3 nm.length c3, .slice none 0 0, .bool true] 27 := ((((lo.set 3 (.int .i64 nn)).set 4 (.int .i64 nr)).set 9 (.slice a3 nm.length c3)).set 11 (.bool true))
  have hsS : w5.grownBy ((((w5.setCell ⟨S, 3, none⟩ (.int .i64 nn)).setCell ⟨S, 4, none⟩ (.int .i64 nr)).setCell ⟨S, 9, none⟩ (.slice a3 nm.length c3)).setCell ⟨S, 11, none⟩ (.bool true)) (some S) := (grown_trans (grown_trans (grown_trans (setG w5 S 3 (.int .i64 nn)) (setG _ S 4 (.int .i64 nr))) (setG _ S 9 (.slice a3 nm.length c3))) (setG _ S 11 (.bool true)))
  have x0 := lo.cell 0
  have x1 := lo.cell 1
  have x2 := lo.cell 2
  have x3 := lo.cell 3
  have x4 := lo.cell 4
  have x5 := lo.cell 5
  have x6 := lo.cell 6
  have x7 := lo.cell 7
  have x8 := lo.cell 8
  have x9 := lo.cell 9
  have x10 := lo.cell 10
  have x11 := lo.cell 11
  have f3 := lo.frozen 3
  have f4 := lo.frozen 4
  have f9 := lo.frozen 9
  have f11 := lo.frozen 11
  have hRn := hR.keepG hsS (by simp; omega) (fun k hk => by simp at hk; omega)
  have lrn := lr.frm (Frm.ofGrown hsS) (by simp; omega)
  have hGn := grow_new hG hsS (fun q hq => by simp at hq; omega)
  replace ho3 := ho3.keepBy hsS (.inr (fun e => by have := (ho3.lt S e).1; omega))
  have szs0 := hsS.size
  clear hR lr hG lo hsS
  have hR := hRn
  have lr := lrn
  have hG := hGn
  have lo := lon
  clear hRn lrn hGn lon
  have lrz : Loc ((((((((((((((((w5.setCell ⟨S, 3, none⟩ (.int .i64 nn)).setCell ⟨S, 4, none⟩ (.int .i64 nr)).setCell ⟨S, 9, none⟩ (.slice a3 nm.length c3)).setCell ⟨S, 11, none⟩ (.bool true)).setCell ⟨w.heap.size, 0, none⟩ (.int .i64 3)).setCell ⟨w.heap.size, 1, none⟩ (.int .i64 n)).setCell ⟨w.heap.size, 2, none⟩ (.int .i64 r)).setCell ⟨w.heap.size, 3, none⟩ (.int .i64 nn)).setCell ⟨w.heap.size, 4, none⟩ (.int .i64 nr)).setCell ⟨w.heap.size, 5, none⟩ (.int .i64 0)).setCell ⟨w.heap.size, 6, none⟩ (.int .i64 0)).setCell ⟨w.heap.size, 7, none⟩ (.slice none 0 0)).setCell ⟨w.heap.size, 8, none⟩ (.int .i64 0)).setCell ⟨w.heap.size, 9, none⟩ (.slice a3 nm.length c3)).setCell ⟨w.heap.size, 10, none⟩ (.slice none 0 0)).setCell ⟨w.heap.size, 11, none⟩ (.bool true)) w.heap.size #[.int .i64 3, .int .i64 n, .int .i64 r, .int .i64 nn, .int .i64 nr, .int .i64 0, .int .i64 0, .slice none 0 0, .int .i64 0, .slice a3 nm.length c3, .slice none 0 0, .bool true] 27 := set_twelve lr (.int .i64 3) (.int .i64 n) (.int .i64 r) (.int .i64 nn) (.int .i64 nr) (.int .i64 0) (.int .i64 0) (.slice none 0 0) (.int .i64 0) (.slice a3 nm.length c3) (.slice none 0 0) (.bool true)
  have hsR : ((((w5.setCell ⟨S, 3, none⟩ (.int .i64 nn)).setCell ⟨S, 4, none⟩ (.int .i64 nr)).setCell ⟨S, 9, none⟩ (.slice a3 nm.length c3)).setCell ⟨S, 11, none⟩ (.bool true)).grownBy ((((((((((((((((w5.setCell ⟨S, 3, none⟩ (.int .i64 nn)).setCell ⟨S, 4, none⟩ (.int .i64 nr)).setCell ⟨S, 9, none⟩ (.slice a3 nm.length c3)).setCell ⟨S, 11, none⟩ (.bool true)).setCell ⟨w.heap.size, 0, none⟩ (.int .i64 3)).setCell ⟨w.heap.size, 1, none⟩ (.int .i64 n)).setCell ⟨w.heap.size, 2, none⟩ (.int .i64 r)).setCell ⟨w.heap.size, 3, none⟩ (.int .i64 nn)).setCell ⟨w.heap.size, 4, none⟩ (.int .i64 nr)).setCell ⟨w.heap.size, 5, none⟩ (.int .i64 0)).setCell ⟨w.heap.size, 6, none⟩ (.int .i64 0)).setCell ⟨w.heap.size, 7, none⟩ (.slice none 0 0)).setCell ⟨w.heap.size, 8, none⟩ (.int .i64 0)).setCell ⟨w.heap.size, 9, none⟩ (.slice a3 nm.length c3)).setCell ⟨w.heap.size, 10, none⟩ (.slice none 0 0)).setCell ⟨w.heap.size, 11, none⟩ (.bool true)) (some w.heap.size) := grow_twelve _ _ (.int .i64 3) (.int .i64 n) (.int .i64 r) (.int .i64 nn) (.int .i64 nr) (.int .i64 0) (.int .i64 0) (.slice none 0 0) (.int .i64 0) (.slice a3 nm.length c3) (.slice none 0 0) (.bool true)
  obtain ⟨e0, e1, e2, e3, e4, e5, e6, e7, e8, e9, e10, e11⟩ := lrz.twelve
  obtain ⟨y0, y1, y2, y3, y4, y5, y6, y7, y8, y9, y10, y11⟩ := lo.twelve
  obtain ⟨z0, z1, z2, z3, z4, z5, z6, z7, z8, z9, z10, z11⟩ := lr.twelve
  have g0 := lr.frozen 0
  have g1 := lr.frozen 1
  have g2 := lr.frozen 2
  have g3 := lr.frozen 3
  have g4 := lr.frozen 4
  have g5 := lr.frozen 5
  have g6 := lr.frozen 6
  have g7 := lr.frozen 7
  have g8 := lr.frozen 8
  have g9 := lr.frozen 9
  have g10 := lr.frozen 10
  have g11 := lr.frozen 11
  have hGz := grow_new hG hsR (fun q hq => by simp at hq; omega)
  have hBz := bstepBy (unhide HBL) hGz (fun k hk => by cases hk; exact hgn)
  replace ho3 := (ho3.keepBy hsR (.inr (fun e => by have := (ho3.lt _ e).1; omega))).mono (show w.heap.size ≤ _ by omega)
  have hnd : (FB (.slice none 0 0) ++ FB (.slice a3 nm.length c3) ++ FB (.slice none 0 0)).Nodup := by
    have e0 : FB (.slice none 0 0) = [] := rfl
    simp only [e0, List.nil_append, List.append_nil]
    exact FB_nodup _
  have KK := hide (show OwnZ ((((((((((((((((w5.setCell ⟨S, 3, none⟩ (.int .i64 nn)).setCell ⟨S, 4, none⟩ (.int .i64 nr)).setCell ⟨S, 9, none⟩ (.slice a3 nm.length c3)).setCell ⟨S, 11, none⟩ (.bool true)).setCell ⟨w.heap.size, 0, none⟩ (.int .i64 3)).setCell ⟨w.heap.size, 1, none⟩ (.int .i64 n)).setCell ⟨w.heap.size, 2, none⟩ (.int .i64 r)).setCell ⟨w.heap.size, 3, none⟩ (.int .i64 nn)).setCell ⟨w.heap.size, 4, none⟩ (.int .i64 nr)).setCell ⟨w.heap.size, 5, none⟩ (.int .i64 0)).setCell ⟨w.heap.size, 6, none⟩ (.int .i64 0)).setCell ⟨w.heap.size, 7, none⟩ (.slice none 0 0)).setCell ⟨w.heap.size, 8, none⟩ (.int .i64 0)).setCell ⟨w.heap.size, 9, none⟩ (.slice a3 nm.length c3)).setCell ⟨w.heap.size, 10, none⟩ (.slice none 0 0)).setCell ⟨w.heap.size, 11, none⟩ (.bool true)) w.heap.size (.slice none 0 0) _ ∧ Own ((((((((((((((((w5.setCell ⟨S, 3, none⟩ (.int .i64 nn)).setCell ⟨S, 4, none⟩ (.int .i64 nr)).setCell ⟨S, 9, none⟩ (.slice a3 nm.length c3)).setCell ⟨S, 11, none⟩ (.bool true)).setCell ⟨w.heap.size, 0, none⟩ (.int .i64 3)).setCell ⟨w.heap.size, 1, none⟩ (.int .i64 n)).setCell ⟨w.heap.size, 2, none⟩ (.int .i64 r)).setCell ⟨w.heap.size, 3, none⟩ (.int .i64 nn)).setCell ⟨w.heap.size, 4, none⟩ (.int .i64 nr)).setCell ⟨w.heap.size, 5, none⟩ (.int .i64 0)).setCell ⟨w.heap.size, 6, none⟩ (.int .i64 0)).setCell ⟨w.heap.size, 7, none⟩ (.slice none 0 0)).setCell ⟨w.heap.size, 8, none⟩ (.int .i64 0)).setCell ⟨w.heap.size, 9, none⟩ (.slice a3 nm.length c3)).setCell ⟨w.heap.size, 10, none⟩ (.slice none 0 0)).setCell ⟨w.heap.size, 11, none⟩ (.bool true)) w.heap.size (.slice a3 nm.length c3) _ ∧ Own ((((((((((((((((w5.setCell ⟨S, 3, none⟩ (.int .i64 nn)).setCell ⟨S, 4, none⟩ (.int .i64 nr)).setCell ⟨S, 9, none⟩ (.slice a3 nm.length c3)).setCell ⟨S, 11, none⟩ (.bool true)).setCell ⟨w.heap.size, 0, none⟩ (.int .i64 3)).setCell ⟨w.heap.size, 1, none⟩ (.int .i64 n)).setCell ⟨w.heap.size, 2, none⟩ (.int .i64 r)).setCell ⟨w.heap.size, 3, none⟩ (.int .i64 nn)).setCell ⟨w.heap.size, 4, none⟩ (.int .i64 nr)).setCell ⟨w.heap.size, 5, none⟩ (.int .i64 0)).setCell ⟨w.heap.size, 6, none⟩ (.int .i64 0)).setCell ⟨w.heap.size, 7, none⟩ (.slice none 0 0)).setCell ⟨w.heap.size, 8, none⟩ (.int .i64 0)).setCell ⟨w.heap.size, 9, none⟩ (.slice a3 nm.length c3)).setCell ⟨w.heap.size, 10, none⟩ (.slice none 0 0)).setCell ⟨w.heap.size, 11, none⟩ (.bool true)) w.heap.size (.slice none 0 0) _ ∧ _ ∧ _ from ⟨ownz_nil _ _, ho3, own_nilB _ _, hnd, hBz⟩)
  clear hR lr hG lo lrz hsR hGz hBz hnd ho3 hz3
  go_wp2_with fail
  obtain ⟨k1, k2, k3, k4, k5⟩ := unhide KK
  exact bodyPost_ret (v := .agg #[.int .i64 3, .int .i64 n, .int .i64 r, .int .i64 nn, .int .i64 nr, .int .i64 0, .int .i64 0, .slice none 0 0, .int .i64 0, .slice a3 nm.length c3, .slice none 0 0, .bool true]) (by simp [results, Try.results46, go_sem, e0, e1, e2, e3, e4, e5, e6, e7, e8, e9, e10, e11]) rfl ⟨_, _, _, rfl, ⟨k1, k2, k3, k4⟩, k5⟩

set_option maxHeartbeats 12800000 in
theorem rop_n (w0 w : World) (g : Nat) (code : Value) (l : List Int) (p : Int) (h : Rd 65 w0 w g code l p) (hk : (getN l p).1 = 3) (hg : ¬ (getN l (getT l (rdId l (rdId l (getN l p).2).2).2).2).1 = 1) :
    Calls Try.prog 46 #[.pointer (some ⟨g, 0, none⟩)] w fun e w' => ∃ k n t, e = .returned (opVal (rdRest rdKeyI l (getN l p).1 (rdId l (getN l p).2).1.1 (rdId l (getN l p).2).1.2 (rdId l (getN l p).2).2).1 k n t) ∧ OwOp w' w.heap.size (rdRest rdKeyI l (getN l p).1 (rdId l (getN l p).2).1.1 (rdId l (getN l p).2).1.2 (rdId l (getN l p).2).2).1 k n t ∧ Below w0.heap.size w0 w' := by
  have hgl := h.box.lt
  have hnew := h.below.size
  have HBL := hide h.below
  have hgn := h.new
  have H0 := hide (fun W (hW : Rd 65 w0 W g code l p) => rnum_any w0 W g code l p hW)
  have H1 := hide (fun W (hW : Rd 65 w0 W g code l (getN l p).2) => rid_any w0 W g code l (getN l p).2 hW)
  have H2 := hide (fun W (hW : Rd 65 w0 W g code l (rdId l (getN l p).2).2) => rid_any w0 W g code l (rdId l (getN l p).2).2 hW)
  have H3 := hide (fun W (hW : Rd 65 w0 W g code l (rdId l (rdId l (getN l p).2).2).2) => rtext_any w0 W g code l (rdId l (rdId l (getN l p).2).2).2 hW)
  have H4 := hide (fun W (hW : Rd 65 w0 W g code l (getT l (rdId l (rdId l (getN l p).2).2).2).2) => rnum_any w0 W g code l (getT l (rdId l (rdId l (getN l p).2).2).2).2 hW)
  have H5 := hide (fun W (hW : Rd 65 w0 W g code l (getN l (getT l (rdId l (rdId l (getN l p).2).2).2).2).2) => rtext_any w0 W g code l (getN l (getT l (rdId l (rdId l (getN l p).2).2).2).2).2 hW)
  have hR := h.keep ((Below.refl w.heap.size w).alloc (Nat.le_refl _) (.cells #[.int .i64 0, .int .i64 0, .int .i64 0, .int .i64 0, .int .i64 0, .int .i64 0, .int .i64 0, .slice none 0 0, .int .i64 0, .slice none 0 0, .slice none 0 0, .bool false] 27))
  have lr := Loc.made w #[.int .i64 0, .int .i64 0, .int .i64 0, .int .i64 0, .int .i64 0, .int .i64 0, .int .i64 0, .slice none 0 0, .int .i64 0, .slice none 0 0, .slice none 0 0, .bool false] 27
  have hG := Below.toGrown ((Below.refl w.heap.size w).alloc (Nat.le_refl _) (.cells #[.int .i64 0, .int .i64 0, .int .i64 0, .int .i64 0, .int .i64 0, .int .i64 0, .int .i64 0, .slice none 0 0, .int .i64 0, .slice none 0 0, .slice none 0 0, .bool false] 27)) (some g)
  clear h
  unfold rdRest
  rw [hk, if_neg (by decide), if_neg (by decide), if_neg (by decide), if_pos rfl, if_neg hg]
  generalize (getT l (getN l (getT l (rdId l (rdId l (getN l p).2).2).2).2).2) = q5 at *
  generalize (getN l (getT l (rdId l (rdId l (getN l p).2).2).2).2) = q4 at *
  generalize (getT l (rdId l (rdId l (getN l p).2).2).2) = q3 at *
  generalize (rdId l (rdId l (getN l p).2).2) = q2 at *
  generalize (rdId l (getN l p).2) = q1 at *
  generalize (getN l p) = q0 at *
  obtain ⟨kz, p1⟩ := q0
  obtain ⟨⟨n, r⟩, p2⟩ := q1
  obtain ⟨⟨nn, nr⟩, p3⟩ := q2
  obtain ⟨nm, p4⟩ := q3
  obtain ⟨gz, p5⟩ := q4
  obtain ⟨tx, p6⟩ := q5
  simp only at *
  subst hk
  have dg : (gz == 1) = false := by simpa using hg
  clear hg
  have LL := hide (And.intro hR (And.intro lr hG))
  clear hR lr hG
  go_enter Try.func46, Try.ntmps46
  go_wp2_with fail
  obtain ⟨hR, lr, hG⟩ := unhide LL
  clear LL
  generalize (w.alloc (.cells #[.int .i64 0, .int .i64 0, .int .i64 0, .int .i64 0, .int .i64 0, .int .i64 0, .int .i64 0, .slice none 0 0, .int .i64 0, .slice none 0 0, .slice none 0 0, .bool false] 27)) = wa at *
  refine (unhide H0 wa hR).mono ?_
  rintro e w1 ⟨rfl, hRn, hGn⟩
  have sz0 := hGn.size
  have lrn := lr.frm (Frm.ofGrown hGn) (by simp; omega)
  have hGm := grown_trans hG hGn
  clear hG hGn lr hR
  have hG := hGm
  have hR := hRn
  have lr := lrn
  clear hGm hRn lrn
  go_wp2_with fail
  refine (unhide H1 w1 hR).mono ?_
  rintro e w2 ⟨rfl, hRn, hGn⟩
  have sz1 := hGn.size
  have lrn := lr.frm (Frm.ofGrown hGn) (by simp; omega)
  have hGm := grown_trans hG hGn
  clear hG hGn lr hR
  have hG := hGm
  have hR := hRn
  have lr := lrn
  clear hGm hRn lrn
  have hAb := (Below.refl w2.heap.size w2).alloc (Nat.le_refl _) (.cells #[.int .i64 3, .int .i64 n, .int .i64 r, .int .i64 0, .int .i64 0, .int .i64 0, .int .i64 0, .slice none 0 0, .int .i64 0, .slice none 0 0, .slice none 0 0, .bool false] 27)
  have lo := Loc.made w2 #[.int .i64 3, .int .i64 n, .int .i64 r, .int .i64 0, .int .i64 0, .int .i64 0, .int .i64 0, .slice none 0 0, .int .i64 0, .slice none 0 0, .slice none 0 0, .bool false] 27
  have hrS := lr.lt
  have hgS := hR.box.lt
  have LL := hide (And.intro (hR.keep hAb) (And.intro (lr.all hAb) (And.intro (grown_trans hG (Below.toGrown hAb (some g))) lo)))
  clear hR lr hG hAb lo
  go_wp2_with fail
  obtain ⟨hR, lr, hG, lo⟩ := unhide LL
  clear LL
  generalize (w2.alloc (.cells #[.int .i64 3, .int .i64 n, .int .i64 r, .int .i64 0, .int .i64 0, .int .i64 0, .int .i64 0, .slice none 0 0, .int .i64 0, .slice none 0 0, .slice none 0 0, .bool false] 27)) = wb at *
  generalize w2.heap.size = S at *
  refine (unhide H2 wb hR).mono ?_
  rintro e w3 ⟨rfl, hRn, hGn⟩
  have sz2 := hGn.size
  have lrn := lr.frm (Frm.ofGrown hGn) (by simp; omega)
  have lon := lo.frm (Frm.ofGrown hGn) (by simp; omega)
  have hGm := grown_trans hG hGn
  clear hG hGn lr hR lo
  have hG := hGm
  have hR := hRn
  have lr := lrn
  have lo := lon
  clear hGm hRn lrn lon
  go_wp2_with fail
  refine (unhide H3 w3 hR).mono ?_
  rintro e w4 ⟨a3, c3, rfl, ho3, hRn, hGn⟩
  have sz3 := hGn.size
  have lrn := lr.frm (Frm.ofGrown hGn) (by simp; omega)
  have lon := lo.frm (Frm.ofGrown hGn) (by simp; omega)
  have hs3 : S < w3.heap.size := lo.lt
  have hz3 := ho3.rng
  have hGm := grown_trans hG hGn
  clear hG hGn lr hR lo
  have hG := hGm
  have hR := hRn
  have lr := lrn
  have lo := lon
  clear hGm hRn lrn lon
  go_wp2_with fail
  refine (unhide H4 w4 hR).mono ?_
  rintro e w5 ⟨rfl, hRn, hGn⟩
  have sz4 := hGn.size
  have lrn := lr.frm (Frm.ofGrown hGn) (by simp; omega)
  have lon := lo.frm (Frm.ofGrown hGn) (by simp; omega)
  replace ho3 := ho3.keepBy hGn (.inr (fun e => by have := (ho3.lt g e).1; omega))
  have hGm := grown_trans hG hGn
  clear hG hGn lr hR lo
  have hG := hGm
  have hR := hRn
  have lr := lrn
  have lo := lon
  clear hGm hRn lrn lon
  have lon : Loc ((((w5.setCell ⟨S, 3, none⟩ (.int .i64 nn)).setCell ⟨S, 4, none⟩ (.int .i64 nr)).setCell ⟨S, 9, none⟩ (.slice a3 nm.length c3)).setCell ⟨S, 11, none⟩ (.bool false)) S #[.int .i64 3, .int .i64 n, .int .i64 r, .int .i64 nn, .int .i64 nr, .int .i64 0, .int .i64 0, .slice none 0 0, .int .i64 0, .slice a3 nm.length c3, .slice none 0 0, .bool false] 27 := ((((lo.set 3 (.int .i64 nn)).set 4 (.int .i64 nr)).set 9 (.slice a3 nm.length c3)).set 11 (.bool false))
  have hsS : w5.grownBy ((((w5.setCell ⟨S, 3, none⟩ (.int .i64 nn)).setCell ⟨S, 4, none⟩ (.int .i64 nr)).setCell ⟨S, 9, none⟩ (.slice a3 nm.length c3)).setCell ⟨S, 11, none⟩ (.bool false)) (some S) := (grown_trans (grown_trans (grown_trans (setG w5 S 3 (.int .i64 nn)) (setG _ S 4 (.int .i64 nr))) (setG _ S 9 (.slice a3 nm.length c3))) (setG _ S 11 (.bool false)))
  have x0 := lo.cell 0
  have x1 := lo.cell 1
  have x2 := lo.cell 2
  have x3 := lo.cell 3
  have x4 := lo.cell 4
  have x5 := lo.cell 5
  have x6 := lo.cell 6
  have x7 := lo.cell 7
  have x8 := lo.cell 8
  have x9 := lo.cell 9
  have x10 := lo.cell 10
  have x11 := lo.cell 11
  have f3 := lo.frozen 3
  have f4 := lo.frozen 4
  have f9 := lo.frozen 9
  have f11 := lo.frozen 11
  have hRn := hR.keepG hsS (by simp; omega) (fun k hk => by simp at hk; omega)
  have lrn := lr.frm (Frm.ofGrown hsS) (by simp; omega)
  have hGn := grow_new hG hsS (fun q hq => by simp at hq; omega)
  replace ho3 := ho3.keepBy hsS (.inr (fun e => by have := (ho3.lt S e).1; omega))
  have szs0 := hsS.size
  clear hR lr hG lo hsS
  have hR := hRn
  have lr := lrn
  have hG := hGn
  have lo := lon
  clear hRn lrn hGn lon
  have LL := hide (And.intro hR (And.intro lr (And.intro hG lo)))
  clear hR lr hG lo
  have HO3 := hide ho3
  clear ho3
  go_wp2_with fail
  obtain ⟨hR, lr, hG, lo⟩ := unhide LL
  clear LL
  have ho3 := unhide HO3
  clear HO3
  clear x0 x1 x2 x3 x4 x5 x6 x7 x8 x9 x10 x11 f3 f4 f9 f11
  generalize ((((w5.setCell ⟨S, 3, none⟩ (.int .i64 nn)).setCell ⟨S, 4, none⟩ (.int .i64 nr)).setCell ⟨S, 9, none⟩ (.slice a3 nm.length c3)).setCell ⟨S, 11, none⟩ (.bool false)) = ws0 at *
  refine (unhide H5 ws0 hR).mono ?_
  rintro e w6 ⟨a5, c5, rfl, ho5, hRn, hGn⟩
  have sz5 := hGn.size
  have lrn := lr.frm (Frm.ofGrown hGn) (by simp; omega)
  have lon := lo.frm (Frm.ofGrown hGn) (by simp; omega)
  replace ho3 := ho3.keepBy hGn (.inr (fun e => by have := (ho3.lt g e).1; omega))
  have hs5 : S < ws0.heap.size := lo.lt
  have hz5 := ho5.rng
  have hGm := grown_trans hG hGn
  clear hG hGn lr hR lo
  have hG := hGm
  have hR := hRn
  have lr := lrn
  have lo := lon
  clear hGm hRn lrn lon
  have lon : Loc (w6.setCell ⟨S, 10, none⟩ (.slice a5 tx.length c5)) S #[.int .i64 3, .int .i64 n, .int .i64 r, .int .i64 nn, .int .i64 nr, .int .i64 0, .int .i64 0, .slice none 0 0, .int .i64 0, .slice a3 nm.length c3, .slice a5 tx.length c5, .bool false] 27 := (lo.set 10 (.slice a5 tx.length c5))
  have hsS : w6.grownBy (w6.setCell ⟨S, 10, none⟩ (.slice a5 tx.length c5)) (some S) := (setG w6 S 10 (.slice a5 tx.length c5))
  have x0 := lo.cell 0
  have x1 := lo.cell 1
  have x2 := lo.cell 2
  have x3 := lo.cell 3
  have x4 := lo.cell 4
  have x5 := lo.cell 5
  have x6 := lo.cell 6
  have x7 := lo.cell 7
  have x8 := lo.cell 8
  have x9 := lo.cell 9
  have x10 := lo.cell 10
  have x11 := lo.cell 11
  have f10 := lo.frozen 10
  have hRn := hR.keepG hsS (by simp; omega) (fun k hk => by simp at hk; omega)
  have lrn := lr.frm (Frm.ofGrown hsS) (by simp; omega)
  have hGn := grow_new hG hsS (fun q hq => by simp at hq; omega)
  replace ho3 := ho3.keepBy hsS (.inr (fun e => by have := (ho3.lt S e).1; omega))
  replace ho5 := ho5.keepBy hsS (.inr (fun e => by have := (ho5.lt S e).1; omega))
  have szs1 := hsS.size
  clear hR lr hG lo hsS
  have hR := hRn
  have lr := lrn
  have hG := hGn
  have lo := lon
  clear hRn lrn hGn lon
  have lrz : Loc (((((((((((((w6.setCell ⟨S, 10, none⟩ (.slice a5 tx.length c5)).setCell ⟨w.heap.size, 0, none⟩ (.int .i64 3)).setCell ⟨w.heap.size, 1, none⟩ (.int .i64 n)).setCell ⟨w.heap.size, 2, none⟩ (.int .i64 r)).setCell ⟨w.heap.size, 3, none⟩ (.int .i64 nn)).setCell ⟨w.heap.size, 4, none⟩ (.int .i64 nr)).setCell ⟨w.heap.size, 5, none⟩ (.int .i64 0)).setCell ⟨w.heap.size, 6, none⟩ (.int .i64 0)).setCell ⟨w.heap.size, 7, none⟩ (.slice none 0 0)).setCell ⟨w.heap.size, 8, none⟩ (.int .i64 0)).setCell ⟨w.heap.size, 9, none⟩ (.slice a3 nm.length c3)).setCell ⟨w.heap.size, 10, none⟩ (.slice a5 tx.length c5)).setCell ⟨w.heap.size, 11, none⟩ (.bool false)) w.heap.size #[.int .i64 3, .int .i64 n, .int .i64 r, .int .i64 nn, .int .i64 nr, .int .i64 0, .int .i64 0, .slice none 0 0, .int .i64 0, .slice a3 nm.length c3, .slice a5 tx.length c5, .bool false] 27 := set_twelve lr (.int .i64 3) (.int .i64 n) (.int .i64 r) (.int .i64 nn) (.int .i64 nr) (.int .i64 0) (.int .i64 0) (.slice none 0 0) (.int .i64 0) (.slice a3 nm.length c3) (.slice a5 tx.length c5) (.bool false)
  have hsR : (w6.setCell ⟨S, 10, none⟩ (.slice a5 tx.length c5)).grownBy (((((((((((((w6.setCell ⟨S, 10, none⟩ (.slice a5 tx.length c5)).setCell ⟨w.heap.size, 0, none⟩ (.int .i64 3)).setCell ⟨w.heap.size, 1, none⟩ (.int .i64 n)).setCell ⟨w.heap.size, 2, none⟩ (.int .i64 r)).setCell ⟨w.heap.size, 3, none⟩ (.int .i64 nn)).setCell ⟨w.heap.size, 4, none⟩ (.int .i64 nr)).setCell ⟨w.heap.size, 5, none⟩ (.int .i64 0)).setCell ⟨w.heap.size, 6, none⟩ (.int .i64 0)).setCell ⟨w.heap.size, 7, none⟩ (.slice none 0 0)).setCell ⟨w.heap.size, 8, none⟩ (.int .i64 0)).setCell ⟨w.heap.size, 9, none⟩ (.slice a3 nm.length c3)).setCell ⟨w.heap.size, 10, none⟩ (.slice a5 tx.length c5)).setCell ⟨w.heap.size, 11, none⟩ (.bool false)) (some w.heap.size) := grow_twelve _ _ (.int .i64 3) (.int .i64 n) (.int .i64 r) (.int .i64 nn) (.int .i64 nr) (.int .i64 0) (.int .i64 0) (.slice none 0 0) (.int .i64 0) (.slice a3 nm.length c3) (.slice a5 tx.length c5) (.bool false)
  obtain ⟨e0, e1, e2, e3, e4, e5, e6, e7, e8, e9, e10, e11⟩ := lrz.twelve
  obtain ⟨y0, y1, y2, y3, y4, y5, y6, y7, y8, y9, y10, y11⟩ := lo.twelve
  obtain ⟨z0, z1, z2, z3, z4, z5, z6, z7, z8, z9, z10, z11⟩ := lr.twelve
  have g0 := lr.frozen 0
  have g1 := lr.frozen 1
  have g2 := lr.frozen 2
  have g3 := lr.frozen 3
  have g4 := lr.frozen 4
  have g5 := lr.frozen 5
  have g6 := lr.frozen 6
  have g7 := lr.frozen 7
  have g8 := lr.frozen 8
  have g9 := lr.frozen 9
  have g10 := lr.frozen 10
  have g11 := lr.frozen 11
  have hGz := grow_new hG hsR (fun q hq => by simp at hq; omega)
  have hBz := bstepBy (unhide HBL) hGz (fun k hk => by cases hk; exact hgn)
  replace ho3 := (ho3.keepBy hsR (.inr (fun e => by have := (ho3.lt _ e).1; omega))).mono (show w.heap.size ≤ _ by omega)
  replace ho5 := (ho5.keepBy hsR (.inr (fun e => by have := (ho5.lt _ e).1; omega))).mono (show w.heap.size ≤ _ by omega)
  have hnd : (FB (.slice none 0 0) ++ FB (.slice a3 nm.length c3) ++ FB (.slice a5 tx.length c5)).Nodup := by
    have e0 : FB (.slice none 0 0) = [] := rfl
    simp only [e0, List.nil_append]
    exact nodup_app (FB_nodup _) (FB_nodup _) hz3 (hz5.mono (by omega) (Nat.le_refl _))
  have KK := hide (show OwnZ (((((((((((((w6.setCell ⟨S, 10, none⟩ (.slice a5 tx.length c5)).setCell ⟨w.heap.size, 0, none⟩ (.int .i64 3)).setCell ⟨w.heap.size, 1, none⟩ (.int .i64 n)).setCell ⟨w.heap.size, 2, none⟩ (.int .i64 r)).setCell ⟨w.heap.size, 3, none⟩ (.int .i64 nn)).setCell ⟨w.heap.size, 4, none⟩ (.int .i64 nr)).setCell ⟨w.heap.size, 5, none⟩ (.int .i64 0)).setCell ⟨w.heap.size, 6, none⟩ (.int .i64 0)).setCell ⟨w.heap.size, 7, none⟩ (.slice none 0 0)).setCell ⟨w.heap.size, 8, none⟩ (.int .i64 0)).setCell ⟨w.heap.size, 9, none⟩ (.slice a3 nm.length c3)).setCell ⟨w.heap.size, 10, none⟩ (.slice a5 tx.length c5)).setCell ⟨w.heap.size, 11, none⟩ (.bool false)) w.heap.size (.slice none 0 0) _ ∧ Own (((((((((((((w6.setCell ⟨S, 10, none⟩ (.slice a5 tx.length c5)).setCell ⟨w.heap.size, 0, none⟩ (.int .i64 3)).setCell ⟨w.heap.size, 1, none⟩ (.int .i64 n)).setCell ⟨w.heap.size, 2, none⟩ (.int .i64 r)).setCell ⟨w.heap.size, 3, none⟩ (.int .i64 nn)).setCell ⟨w.heap.size, 4, none⟩ (.int .i64 nr)).setCell ⟨w.heap.size, 5, none⟩ (.int .i64 0)).setCell ⟨w.heap.size, 6, none⟩ (.int .i64 0)).setCell ⟨w.heap.size, 7, none⟩ (.slice none 0 0)).setCell ⟨w.heap.size, 8, none⟩ (.int .i64 0)).setCell ⟨w.heap.size, 9, none⟩ (.slice a3 nm.length c3)).setCell ⟨w.heap.size, 10, none⟩ (.slice a5 tx.length c5)).setCell ⟨w.heap.size, 11, none⟩ (.bool false)) w.heap.size (.slice a3 nm.length c3) _ ∧ Own (((((((((((((w6.setCell ⟨S, 10, none⟩ (.slice a5 tx.length c5)).setCell ⟨w.heap.size, 0, none⟩ (.int .i64 3)).setCell ⟨w.heap.size, 1, none⟩ (.int .i64 n)).setCell ⟨w.heap.size, 2, none⟩ (.int .i64 r)).setCell ⟨w.heap.size, 3, none⟩ (.int .i64 nn)).setCell ⟨w.heap.size, 4, none⟩ (.int .i64 nr)).setCell ⟨w.heap.size, 5, none⟩ (.int .i64 0)).setCell ⟨w.heap.size, 6, none⟩ (.int .i64 0)).setCell ⟨w.heap.size, 7, none⟩ (.slice none 0 0)).setCell ⟨w.heap.size, 8, none⟩ (.int .i64 0)).setCell ⟨w.heap.size, 9, none⟩ (.slice a3 nm.length c3)).setCell ⟨w.heap.size, 10, none⟩ (.slice a5 tx.length c5)).setCell ⟨w.heap.size, 11, none⟩ (.bool false)) w.heap.size (.slice a5 tx.length c5) _ ∧ _ ∧ _ from ⟨ownz_nil _ _, ho3, ho5, hnd, hBz⟩)
  clear hR lr hG lo lrz hsR hGz hBz hnd ho3 hz3 ho5 hz5
  go_wp2_with fail
  obtain ⟨k1, k2, k3, k4, k5⟩ := unhide KK
  exact bodyPost_ret (v := .agg #[.int .i64 3, .int .i64 n, .int .i64 r, .int .i64 nn, .int .i64 nr, .int .i64 0, .int .i64 0, .slice none 0 0, .int .i64 0, .slice a3 nm.length c3, .slice a5 tx.length c5, .bool false]) (by simp [results, Try.results46, go_sem, e0, e1, e2, e3, e4, e5, e6, e7, e8, e9, e10, e11]) rfl ⟨_, _, _, rfl, ⟨k1, k2, k3, k4⟩, k5⟩
end Go.Proofs.Ytcabolcfoijglaa

/- spec.PutNum answers what the plain function putAll says. -/
namespace Go.Proofs.Ytcabolcfoijglaa
open Go.RowKit
set_option linter.unusedVariables false

set_option maxHeartbeats 1600000 in
theorem putS_out (w : World) (v : Value) (l : List Int) (n : Int) (h : Byt w v l) (hl : l.length ≤ 67108864) (hn : n < 0 ∨ 2147483647 < n) :
    Calls Try.prog 79 #[v, .int .i64 n] w fun e w' => ∃ v', e = .returned v' ∧ Own w' w.heap.size v' l ∧ Below w.heap.size w w' := by
  go_enter Try.func79, Try.ntmps79
  go_wp2_with (at_builtin; refine wpList_app rfl _ _ rfl w.heap.size _ [] rfl (own_none w) v l rfl (h.alloc _) ?c1 ?c2 ?_)
  case c1 => first | omega | (simp; omega)
  case c2 => simp
  intro v1 w1 ho1 hg1
  have hB1 : Below w.heap.size w w1 := bstepBy ((Below.refl _ _).alloc (Nat.le_refl _) _) hg1 (fun g hg => by simp [Value.ownBlock] at hg; omega)
  clear hg1
  by_cases hneg : n < 0
  · go_wp2
    go_ret
    exact ⟨_, rfl, ho1, hB1⟩
  · have h2 : 2147483647 < n := by omega
    have h3 : decide (n < 0) = false := by simpa using hneg
    go_wp2
    go_ret
    exact ⟨_, rfl, ho1, hB1⟩

set_option maxHeartbeats 1600000 in
theorem putS_in (w : World) (v : Value) (l : List Int) (n : Int) (h : Byt w v l) (hl : l.length ≤ 67108864) (hn0 : 0 ≤ n) (hn1 : n ≤ 2147483647) :
    Calls Try.prog 79 #[v, .int .i64 n] w fun e w' => ∃ v', e = .returned v' ∧ Own w' w.heap.size v' (l ++ putN n) ∧ Below w.heap.size w w' := by
  have h3 : decide (n < 0) = false := by simp; omega
  go_enter Try.func79, Try.ntmps79
  go_wp2_with (at_builtin; refine wpList_app rfl _ _ rfl w.heap.size _ [] rfl (own_none w) v l rfl (h.alloc _) ?c1 ?c2 ?_)
  case c1 => first | omega | (simp; omega)
  case c2 => simp
  intro v1 w1 ho1 hg1
  have hB1 : Below w.heap.size w w1 := bstepBy ((Below.refl _ _).alloc (Nat.le_refl _) _) hg1 (fun g hg => by simp [Value.ownBlock] at hg; omega)
  clear hg1
  go_wp2
  go_loopw [1, 5] (fun m u wr => ∃ (f : Nat) (k : Int) (pre : List Int), f ≤ 4 ∧ m = .int .i64 k ∧ 0 ≤ k ∧ k ≤ 2147483647 ∧ k < sc (f + 1) ∧ Own wr w.heap.size u (l ++ pre) ∧ pre.length ≤ 4 ∧ pre.length + f = 4 ∧ Hid (putN n = pre ++ putGo f k) ∧ Below w.heap.size w wr) (fun m _ _ => (intOf m).toNat)
  case atStart => exact ⟨4, n, [], by omega, rfl, hn0, hn1, by simp only [sc]; omega, by rw [List.append_nil]; exact ho1, by simp, by simp, hide rfl, hB1⟩
  case round =>
    obtain ⟨f, k, pre, hf, rfl, hk0, hk1, hk2, ho, hp, hpf, HP, hB⟩ := hrel
    clear ho1 hB1
    by_cases hk : 127 < k
    · cases f with
      | zero => simp [sc] at hk2; omega
      | succ f =>
        have hss := sc_step (f + 1) (by omega)
        have hk3 : k / 128 < sc (f + 1) := by omega
        clear hss hk2
        have HK3 := hide hk3
        clear hk3
        go_wp2_with (at_builtin; refine wpList_app rfl _ _ rfl w.heap.size _ (l ++ pre) rfl (ho.alloc _) _ [k % 128 + 128] rfl (byt_one wr (k % 128 + 128) (by omega) (by omega)) ?c1 ?c2 ?_)
        case c1 => first | omega | (simp; omega)
        case c2 => have := hB.size; first | omega | (simp; omega)
        intro v2 w2 ho2 hg2
        have hB2 : Below w.heap.size w w2 := bstepBy (hB.alloc hB.size _) hg2 ho.base_le
        go_wp2
        go_roundw
        case rel => exact ⟨f, k / 128, pre ++ [k % 128 + 128], by omega, rfl, by omega, by omega, unhide HK3, ho2, by simp; omega, by simp; omega, hide (by rw [unhide HP, putGo_on hk]; simp), hB2⟩
        case measure => simp [intOf]; omega
    · have HR := hide (show putN n = pre ++ [k] by rw [unhide HP, putGo_end hk])
      clear HP hk2
      have hk' : ¬ (127 : Int) < k := hk
      go_wp2_with (at_builtin; refine wpList_app rfl _ _ rfl w.heap.size _ (l ++ pre) rfl (ho.alloc _) _ [k] rfl (byt_one wr k (by omega) (by omega)) ?c1 ?c2 ?_)
      case c1 => first | omega | (simp; omega)
      case c2 => have := hB.size; first | omega | (simp; omega)
      intro v2 w2 ho2 hg2
      have hB2 : Below w.heap.size w w2 := bstepBy (hB.alloc hB.size _) hg2 ho.base_le
      go_wp2
      go_ret
      exact ⟨_, rfl, by rw [unhide HR]; exact ho2, hB2⟩

/-- spec.PutNum, whatever it is asked. -/
theorem putS_any (w : World) (v : Value) (l : List Int) (n : Int) (h : Byt w v l) (hl : l.length ≤ 67108864) :
    Calls Try.prog 79 #[v, .int .i64 n] w fun e w' => ∃ v', e = .returned v' ∧ Own w' w.heap.size v' (putAll l n) ∧ Below w.heap.size w w' := by
  by_cases hn : n < 0 ∨ 2147483647 < n
  · rw [putAll_out hn]; exact putS_out w v l n h hl hn
  · rw [putAll_in (by omega) (by omega)]; exact putS_in w v l n h hl (by omega) (by omega)

end Go.Proofs.Ytcabolcfoijglaa

/- impl.numRow: the bytes of a number in a new array of five, by its contract. -/
namespace Go.Proofs.Ytcabolcfoijglaa
open Go.RowKit
set_option linter.unusedVariables false

/-- An array of five bytes in a new block. -/
def five (c0 c1 c2 c3 c4 : Int) : Obj := .cells #[.int .u8 c0, .int .u8 c1, .int .u8 c2, .int .u8 c3, .int .u8 c4] 91

set_option maxHeartbeats 1600000 in
set_option maxRecDepth 1000000 in
theorem numRow_any (w : World) (n : Int) (h0 : 0 ≤ n) (h1 : n ≤ 2147483647) :
    Calls Try.prog 69 #[.int .i64 n] w fun e w' => ∃ c0 c1 c2 c3 c4 : Int, e = .returned (.tuple #[.agg #[.int .u8 c0, .int .u8 c1, .int .u8 c2, .int .u8 c3, .int .u8 c4], .int .i64 ((putN n).length : Nat)]) ∧
      [c0, c1, c2, c3, c4].take (putN n).length = putN n ∧ Below w.heap.size w w' := by
  go_enter Try.func69, Try.ntmps69
  go_wp2
  go_loopw [0, 3] (fun m s wr => ∃ (k f : Nat) (q c0 c1 c2 c3 c4 : Int), k + f = 4 ∧ m = .int .i64 q ∧ s = .int .i64 k ∧ 0 ≤ q ∧ q ≤ 2147483647 ∧ q < sc (f + 1) ∧ wr = w.alloc (.cells #[.int .u8 c0, .int .u8 c1, .int .u8 c2, .int .u8 c3, .int .u8 c4] 91) ∧ Hid (putN n = [c0, c1, c2, c3, c4].take k ++ putGo f q)) (fun m _ _ => (intOf m).toNat)
  case atStart => exact ⟨0, 4, n, 0, 0, 0, 0, 0, rfl, rfl, rfl, h0, h1, by simp only [sc]; omega, rfl, hide rfl⟩
  case round =>
    obtain ⟨k, f, q, c0, c1, c2, c3, c4, hkf, rfl, rfl, hq0, hq1, hq2, rfl, HP⟩ := hrel
    by_cases hq : 128 ≤ q
    · have hf : 1 ≤ f := by
        cases f with
        | zero => simp [sc] at hq2; omega
        | succ f => omega
      obtain ⟨f, rfl⟩ : ∃ g, f = g + 1 := ⟨f - 1, by omega⟩
      have hss := sc_step (f + 1) (by omega)
      have HQ := hide (show q / 128 < sc (f + 1) by omega)
      have HP2 := hide ((unhide HP).trans (congrArg ([c0, c1, c2, c3, c4].take k ++ ·) (putGo_on (f := f) (show 127 < q by omega))))
      clear hss hq2 HP
      have : k = 0 ∨ k = 1 ∨ k = 2 ∨ k = 3 := by omega
      rcases this with rfl | rfl | rfl | rfl
      all_goals
        go_wp2
        go_roundw
        case measure => simp [intOf]; omega
      case rel => exact ⟨1, f, q / 128, _, _, _, _, _, by omega, rfl, rfl, by omega, by omega, unhide HQ, rfl, hide (by simpa using unhide HP2)⟩
      case rel => exact ⟨2, f, q / 128, _, _, _, _, _, by omega, rfl, rfl, by omega, by omega, unhide HQ, rfl, hide (by simpa using unhide HP2)⟩
      case rel => exact ⟨3, f, q / 128, _, _, _, _, _, by omega, rfl, rfl, by omega, by omega, unhide HQ, rfl, hide (by simpa using unhide HP2)⟩
      case rel => exact ⟨4, f, q / 128, _, _, _, _, _, by omega, rfl, rfl, by omega, by omega, unhide HQ, rfl, hide (by simpa using unhide HP2)⟩
    · have HP2 := hide ((unhide HP).trans (congrArg ([c0, c1, c2, c3, c4].take k ++ ·) (putGo_end (f := f) (show ¬ 127 < q by omega))))
      clear HP hq2
      have hq' : ¬ (128 : Int) ≤ q := hq
      have : k = 0 ∨ k = 1 ∨ k = 2 ∨ k = 3 ∨ k = 4 := by omega
      rcases this with rfl | rfl | rfl | rfl | rfl
      · go_wp2
        rw [unhide HP2]
        exact bodyPost_ret (v := .tuple #[.agg #[.int .u8 q, .int .u8 c1, .int .u8 c2, .int .u8 c3, .int .u8 c4], .int .i64 1]) (by simp [results, Try.results69, go_sem]) rfl ⟨q, c1, c2, c3, c4, rfl, by simp, (Below.refl _ _).alloc (Nat.le_refl _) _⟩
      · go_wp2
        rw [unhide HP2]
        exact bodyPost_ret (v := .tuple #[.agg #[.int .u8 c0, .int .u8 q, .int .u8 c2, .int .u8 c3, .int .u8 c4], .int .i64 2]) (by simp [results, Try.results69, go_sem]) rfl ⟨c0, q, c2, c3, c4, rfl, by simp, (Below.refl _ _).alloc (Nat.le_refl _) _⟩
      · go_wp2
        rw [unhide HP2]
        exact bodyPost_ret (v := .tuple #[.agg #[.int .u8 c0, .int .u8 c1, .int .u8 q, .int .u8 c3, .int .u8 c4], .int .i64 3]) (by simp [results, Try.results69, go_sem]) rfl ⟨c0, c1, q, c3, c4, rfl, by simp, (Below.refl _ _).alloc (Nat.le_refl _) _⟩
      · go_wp2
        rw [unhide HP2]
        exact bodyPost_ret (v := .tuple #[.agg #[.int .u8 c0, .int .u8 c1, .int .u8 c2, .int .u8 q, .int .u8 c4], .int .i64 4]) (by simp [results, Try.results69, go_sem]) rfl ⟨c0, c1, c2, q, c4, rfl, by simp, (Below.refl _ _).alloc (Nat.le_refl _) _⟩
      · go_wp2
        rw [unhide HP2]
        exact bodyPost_ret (v := .tuple #[.agg #[.int .u8 c0, .int .u8 c1, .int .u8 c2, .int .u8 c3, .int .u8 q], .int .i64 5]) (by simp [results, Try.results69, go_sem]) rfl ⟨c0, c1, c2, c3, q, rfl, by simp, (Below.refl _ _).alloc (Nat.le_refl _) _⟩
end Go.Proofs.Ytcabolcfoijglaa

/- impl.PutNum answers what the plain function putAll says. -/
namespace Go.Proofs.Ytcabolcfoijglaa
open Go.RowKit
set_option linter.unusedVariables false

theorem Try.arr91 : Try.prog.arrayLen 91 = 5 := by kernel_rfl
theorem Try.elem91 : Try.prog.elem 91 = 5 := by kernel_rfl
theorem slice5 (b k : Nat) (hk : k ≤ 5) (w : World) : (Instr.sliceAt 91 (.pointer (some ⟨b, 0, none⟩)) none (some (.int .i64 (k : Int))) none).run Try.prog w = .ok (.slice (some ⟨b, 0, none⟩) k 5) w := by
  obtain ⟨i0, hi, hz0, hz1, hz2⟩ := info_parts Try.info5
  have h := run_sliceAt_array_h (P := Try.prog) w 91 ⟨b, 0, none⟩ (by kernel_rfl) .i64 (k : Int) (by omega) (by rw [Try.arr91]; omega)
  rw [h, Try.arr91, Try.elem91]
  simp [sizeOf, typeInfo, hi, slicedAt, add_plain]

/-- The first k of five bytes in a new block can be read. -/
theorem byt_five (w : World) (c0 c1 c2 c3 c4 : Int) (k : Nat) (hk : k ≤ 5) (l : List Int) (hl : [c0, c1, c2, c3, c4].take k = l) (hok : okB l) :
    Byt (w.alloc (.cells #[.int .u8 c0, .int .u8 c1, .int .u8 c2, .int .u8 c3, .int .u8 c4] 91)) (.slice (some ⟨w.heap.size, 0, none⟩) k 5) l := by
  have hlen : l.length = k := by rw [← hl]; simp; omega
  by_cases h0 : k = 0
  · subst h0
    have e : l = [] := List.eq_nil_of_length_eq_zero hlen
    subst e
    exact ⟨okB_nil, by simp [maxLen], .inr (.inl ⟨_, 5, rfl, by simp [maxLen], rfl⟩)⟩
  · refine ⟨hok, by unfold maxLen; omega, .inr (.inr ⟨w.heap.size, 0, 5, by rw [hlen], by omega, by simp [maxLen], fun e => by rw [e] at hlen; simp at hlen; omega, by simp, fun i hi => ?_⟩)⟩
    have hi5 : i = 0 ∨ i = 1 ∨ i = 2 ∨ i = 3 ∨ i = 4 := by omega
    have hik : i < k := by omega
    rw [← hl, List.getD_eq_getElem?_getD, List.getElem?_take, if_pos hik]
    rcases hi5 with rfl | rfl | rfl | rfl | rfl <;> simp

set_option maxHeartbeats 1600000 in
theorem putI_out (w : World) (v : Value) (l : List Int) (n : Int) (h : Byt w v l) (hl : l.length ≤ 60000000) (hn : n < 0 ∨ 2147483647 < n) :
    Calls Try.prog 67 #[v, .int .i64 n] w fun e w' => ∃ v', e = .returned v' ∧ Own w' w.heap.size v' l ∧ Below w.heap.size w w' := by
  have hcat := concat_any (w.alloc (.cells #[v] 22)) w.heap.size 0 1 1 [v] [l] rfl (by omega) (by simp) (fun i hi => by obtain rfl : i = 0 := (by omega); simp) (fun i hi => by obtain rfl : i = 0 := (by omega); exact h.alloc _) (by simp [sumLen]; omega)
  obtain ⟨a, c, rfl, _, _⟩ := h.shape
  by_cases hneg : n < 0
  · go_enter Try.func67, Try.ntmps67
    go_wp2_with fail
    refine hcat.mono ?_
    rintro e w1 ⟨v1, rfl, ho1, hB1⟩
    have hb : Below w.heap.size w w1 := bstep ((Below.refl _ _).alloc (Nat.le_refl _) _) hB1
    clear hB1 hcat
    go_wp2
    go_ret
    exact ⟨_, rfl, by simpa using ho1.mono (by simp), hb⟩
  · have h2 : 2147483647 < n := by omega
    have h3 : decide (n < 0) = false := by simpa using hneg
    go_enter Try.func67, Try.ntmps67
    go_wp2_with fail
    refine hcat.mono ?_
    rintro e w1 ⟨v1, rfl, ho1, hB1⟩
    have hb : Below w.heap.size w w1 := bstep ((Below.refl _ _).alloc (Nat.le_refl _) _) hB1
    clear hB1 hcat
    go_wp2
    go_ret
    exact ⟨_, rfl, by simpa using ho1.mono (by simp), hb⟩

set_option maxHeartbeats 1600000 in
theorem putI_in (w : World) (v : Value) (l : List Int) (n : Int) (h : Byt w v l) (hl : l.length ≤ 60000000) (hn0 : 0 ≤ n) (hn1 : n ≤ 2147483647) :
    Calls Try.prog 67 #[v, .int .i64 n] w fun e w' => ∃ v', e = .returned v' ∧ Own w' w.heap.size v' (l ++ putN n) ∧ Below w.heap.size w w' := by
  have h3 : decide (n < 0) = false := by simp; omega
  obtain ⟨a, c, hv, _, _⟩ := h.shape
  subst hv
  go_enter Try.func67, Try.ntmps67
  go_wp2_with fail
  refine (numRow_any w n hn0 hn1).mono ?_
  rintro e w1 ⟨c0, c1, c2, c3, c4, rfl, htk, hB1⟩
  have hp5 := putN_len n
  have hfive := byt_five w1 c0 c1 c2 c3 c4 (putN n).length hp5 (putN n) htk (putN_ok hn0 hn1)
  have hsl := fun wx => slice5 w1.heap.size (putN n).length hp5 wx
  generalize ht : putN n = t at *
  have HT := hide ht
  clear htk ht
  go_wp2_with fail
  refine (concat_any _ (w1.heap.size + 1) 0 2 2 [.slice a l.length c, .slice (some ⟨w1.heap.size, 0, none⟩) t.length 5] [l, t] rfl (by omega) ?c1 ?c2 ?c3 ?c4).mono ?_
  case c1 => simp
  case c2 => 
    intro i hi
    have : i = 0 ∨ i = 1 := by omega
    rcases this with rfl | rfl <;> simp
  case c3 =>
    intro i hi
    have : i = 0 ∨ i = 1 := by omega
    rcases this with rfl | rfl
    · exact ((h.keep hB1).alloc _).alloc _
    · exact hfive.alloc _
  case c4 => simp [sumLen]; omega
  rintro e w2 ⟨v2, rfl, ho2, hB2⟩
  have hb : Below w.heap.size w w2 := bstep ((hB1.alloc hB1.size _).alloc (by have := hB1.size; simp; omega) _) hB2
  have ho3 : Own w2 w.heap.size v2 (l ++ t) := by simpa using ho2.mono (by have := hB1.size; simp; omega)
  clear hB2 ho2 hfive
  go_wp2
  go_ret
  exact ⟨_, rfl, by rw [unhide HT]; exact ho3, hb⟩

/-- impl.PutNum, whatever it is asked. -/
theorem putI_any (w : World) (v : Value) (l : List Int) (n : Int) (h : Byt w v l) (hl : l.length ≤ 60000000) :
    Calls Try.prog 67 #[v, .int .i64 n] w fun e w' => ∃ v', e = .returned v' ∧ Own w' w.heap.size v' (putAll l n) ∧ Below w.heap.size w w' := by
  by_cases hn : n < 0 ∨ 2147483647 < n
  · rw [putAll_out hn]; exact putI_out w v l n h hl hn
  · rw [putAll_in (by omega) (by omega)]; exact putI_in w v l n h hl (by omega) (by omega)

end Go.Proofs.Ytcabolcfoijglaa

/- spec.PutText and impl.PutText answer what the plain function putT says. -/
namespace Go.Proofs.Ytcabolcfoijglaa
open Go.RowKit
set_option linter.unusedVariables false

set_option maxHeartbeats 1600000 in
theorem putTS_any (w : World) (v u : Value) (l t : List Int) (h : Byt w v l) (hu : Byt w u t) (hl : l.length ≤ 60000000) :
    Calls Try.prog 81 #[v, u] w fun e w' => ∃ v', e = .returned v' ∧ Own w' w.heap.size v' (putT l t) ∧ Below w.heap.size w w' := by
  obtain ⟨a, c, rfl, _, _⟩ := hu.shape
  have hm := hu.2.1
  unfold maxLen at hm
  by_cases ht : 30 < t.length
  · have ht' : (30 : Int) < (t.length : Int) := by omega
    have HR := hide (putT_out (l := l) ht)
    go_enter Try.func81, Try.ntmps81
    go_wp2_with (at_builtin; refine wpList_app rfl _ _ rfl w.heap.size _ [] rfl (own_none w) v l rfl (h.alloc _) ?c1 ?c2 ?_)
    case c1 => first | omega | (simp; omega)
    case c2 => simp
    intro v1 w1 ho1 hg1
    have hB1 : Below w.heap.size w w1 := bstepBy ((Below.refl _ _).alloc (Nat.le_refl _) _) hg1 (fun g hg => by simp [Value.ownBlock] at hg; omega)
    clear hg1
    go_wp2
    go_ret
    exact ⟨_, rfl, by rw [unhide HR]; exact ho1, hB1⟩
  · have ht' : ¬ (30 : Int) < (t.length : Int) := by omega
    have HR := hide (putT_in (l := l) ht)
    have hp := putN_len t.length
    have HA := hide (putAll_in (l := l) (n := (t.length : Int)) (by omega) (by omega))
    go_enter Try.func81, Try.ntmps81
    go_wp2_with fail
    refine (putS_any w v l (t.length : Int) h (by omega)).mono ?_
    rintro e w1 ⟨v1, rfl, ho1, hB1⟩
    rw [unhide HA] at ho1
    go_wp2_with (at_builtin; refine wpList_app rfl _ _ rfl w.heap.size _ (l ++ putN t.length) rfl ho1 _ t rfl (hu.keep hB1) ?c1 ?c2 ?_)
    case c1 => first | omega | (simp; omega)
    case c2 => exact hB1.size
    intro v2 w2 ho2 hg2
    have hB2 : Below w.heap.size w w2 := bstepBy hB1 hg2 ho1.base_le
    clear hg2
    go_wp2
    go_ret
    exact ⟨_, rfl, by rw [unhide HR]; first | exact ho2 | (rw [List.append_assoc]; exact ho2), hB2⟩

set_option maxHeartbeats 1600000 in
theorem putTI_any (w : World) (v u : Value) (l t : List Int) (h : Byt w v l) (hu : Byt w u t) (hl : l.length ≤ 60000000) :
    Calls Try.prog 31 #[v, u] w fun e w' => ∃ v', e = .returned v' ∧ Own w' w.heap.size v' (putT l t) ∧ Below w.heap.size w w' := by
  obtain ⟨a', c', rfl, _, _⟩ := h.shape
  obtain ⟨a, c, rfl, _, _⟩ := hu.shape
  have hm := hu.2.1
  unfold maxLen at hm
  by_cases ht : 30 < t.length
  · have ht' : (30 : Int) < (t.length : Int) := by omega
    have HR := hide (putT_out (l := l) ht)
    have hcat := concat_any (w.alloc (.cells #[.slice a' l.length c'] 22)) w.heap.size 0 1 1 [.slice a' l.length c'] [l] rfl (by omega) (by simp) (fun i hi => by obtain rfl : i = 0 := (by omega); simp) (fun i hi => by obtain rfl : i = 0 := (by omega); exact h.alloc _) (by simp [sumLen]; omega)
    go_enter Try.func31, Try.ntmps31
    go_wp2_with fail
    refine hcat.mono ?_
    rintro e w1 ⟨v1, rfl, ho1, hB1⟩
    have hb : Below w.heap.size w w1 := bstep ((Below.refl _ _).alloc (Nat.le_refl _) _) hB1
    clear hB1 hcat
    go_wp2
    go_ret
    exact ⟨_, rfl, by rw [unhide HR]; simpa using ho1.mono (by simp), hb⟩
  · have ht' : ¬ (30 : Int) < (t.length : Int) := by omega
    have HR := hide (putT_in (l := l) ht)
    go_enter Try.func31, Try.ntmps31
    go_wp2_with fail
    refine (numRow_any w (t.length : Int) (by omega) (by omega)).mono ?_
    rintro e w1 ⟨c0, c1, c2, c3, c4, rfl, htk, hB1⟩
    have hp5 := putN_len t.length
    have hfive := byt_five w1 c0 c1 c2 c3 c4 (putN t.length).length hp5 (putN t.length) htk (putN_ok (by omega) (by omega))
    have hsl := fun wx => slice5 w1.heap.size (putN t.length).length hp5 wx
    generalize hs : putN t.length = s at *
    have HS := hide hs
    clear htk hs
    go_wp2_with fail
    refine (concat_any _ (w1.heap.size + 1) 0 3 3 [.slice a' l.length c', .slice (some ⟨w1.heap.size, 0, none⟩) s.length 5, .slice a t.length c] [l, s, t] rfl (by omega) ?c1 ?c2 ?c3 ?c4).mono ?_
    case c1 => simp
    case c2 =>
      intro i hi
      have : i = 0 ∨ i = 1 ∨ i = 2 := by omega
      rcases this with rfl | rfl | rfl <;> simp
    case c3 =>
      intro i hi
      have : i = 0 ∨ i = 1 ∨ i = 2 := by omega
      rcases this with rfl | rfl | rfl
      · exact ((h.keep hB1).alloc _).alloc _
      · exact hfive.alloc _
      · exact ((hu.keep hB1).alloc _).alloc _
    case c4 => simp [sumLen]; omega
    rintro e w2 ⟨v2, rfl, ho2, hB2⟩
    have hb : Below w.heap.size w w2 := bstep ((hB1.alloc hB1.size _).alloc (by have := hB1.size; simp; omega) _) hB2
    have ho3 : Own w2 w.heap.size v2 (l ++ s ++ t) := by simpa using ho2.mono (by have := hB1.size; simp; omega)
    have HO := hide ho3
    clear hB2 ho2 hfive ho3
    go_wp2
    go_ret
    exact ⟨_, rfl, by rw [unhide HR]; exact unhide HO, hb⟩

end Go.Proofs.Ytcabolcfoijglaa
