/- Own texts joined: OwO, RopI, RopX, RidS, RkeyS. -/
import Derived.Test.YtcabolcfoijglaaJa
import Derived.Test.YtcabolcfoijglaaJb
import Derived.Deep.RegionHeld3
import Derived.Deep.CutBlock

/- Operations in blocks of their own. -/
namespace Go.Proofs.Ytcabolcfoijglaa
open Go.RowKit
set_option linter.unusedVariables false
set_option maxRecDepth 100000

theorem Loc.twelve {w : World} {g : Nat} {v0 v1 v2 v3 v4 v5 v6 v7 v8 v9 v10 v11 : Value} {T : TypeId} (h : Loc w g #[v0, v1, v2, v3, v4, v5, v6, v7, v8, v9, v10, v11] T) :
    w.cell? ⟨g, 0, none⟩ = some v0 ∧ w.cell? ⟨g, 1, none⟩ = some v1 ∧ w.cell? ⟨g, 2, none⟩ = some v2 ∧ w.cell? ⟨g, 3, none⟩ = some v3 ∧ w.cell? ⟨g, 4, none⟩ = some v4 ∧ w.cell? ⟨g, 5, none⟩ = some v5 ∧ w.cell? ⟨g, 6, none⟩ = some v6 ∧ w.cell? ⟨g, 7, none⟩ = some v7 ∧ w.cell? ⟨g, 8, none⟩ = some v8 ∧ w.cell? ⟨g, 9, none⟩ = some v9 ∧ w.cell? ⟨g, 10, none⟩ = some v10 ∧ w.cell? ⟨g, 11, none⟩ = some v11 :=
  ⟨h.cell 0, h.cell 1, h.cell 2, h.cell 3, h.cell 4, h.cell 5, h.cell 6, h.cell 7, h.cell 8, h.cell 9, h.cell 10, h.cell 11⟩

theorem RdOp.keep {w w' : World} {v : Value} {o : OpV} (h : RdOp w v o) (hb : Below w.heap.size w w') : RdOp w' v o := by
  obtain ⟨k, n, t, rfl, h1, h2, h3⟩ := h
  exact ⟨k, n, t, rfl, h1.keep hb, h2.keep hb, h3.keep hb⟩
/-- An operation in blocks of its own, from 'base' on. -/
def OwOp (w : World) (base : Nat) (o : OpV) (k n t : Value) : Prop := OwnZ w base k o.key ∧ Own w base n o.name ∧ Own w base t o.text ∧ (FB k ++ FB n ++ FB t).Nodup
theorem OwOp.keep {w w' : World} {base : Nat} {o : OpV} {k n t : Value} (h : OwOp w base o k n t) (hb : Below w.heap.size w w') : OwOp w' base o k n t := ⟨h.1.keep hb, h.2.1.keep hb, h.2.2.1.keep hb, h.2.2.2⟩
theorem OwOp.rd {w : World} {base : Nat} {o : OpV} {k n t : Value} (h : OwOp w base o k n t) : RdOp w (opVal o k n t) o := ⟨k, n, t, rfl, h.1.ints, h.2.1.byt, h.2.2.1.byt⟩

/-- What the law asks of impl's OpOk. -/
def OpISaid : Prop := ∀ (w : World) (o : OpV) (base : Nat) (k n t : Value), OwOp w base o k n t → o.key.length + o.name.length + o.text.length ≤ 2097152 →
    Calls Try.prog 9 #[opVal o k n t] w fun e w' => e = .returned (.bool (opB o)) ∧ Below w.heap.size w w'

/-- toOp, its rows by their parts. -/
theorem toOp_own (w : World) (v : Value) (o : OpV) (h : RdOp w v o) (hs : o.key.length + o.name.length + o.text.length ≤ 2097152) :
    Calls Try.prog 63 #[v] w fun e w' => ∃ a1 c1 a2 c2 a3 c3, e = .returned (opVal o (.slice a1 o.key.length c1) (.slice a2 o.name.length c2) (.slice a3 o.text.length c3)) ∧ OwOp w' w.heap.size o (.slice a1 o.key.length c1) (.slice a2 o.name.length c2) (.slice a3 o.text.length c3) ∧ Below w.heap.size w w' := by
  refine (toOp_any w v o h hs).mono ?_
  rintro e w' ⟨k, n, t, rfl, h1, h2, h3, h4, h5⟩
  obtain ⟨a1, c1, rfl, _, _⟩ := h1.ints.shape
  obtain ⟨a2, c2, rfl, _, _⟩ := h2.byt.shape
  obtain ⟨a3, c3, rfl, _, _⟩ := h3.byt.shape
  exact ⟨a1, c1, a2, c2, a3, c3, rfl, ⟨h1, h2, h3, h4⟩, h5⟩

end Go.Proofs.Ytcabolcfoijglaa

/- impl's reader: an operation. -/
namespace Go.Proofs.Ytcabolcfoijglaa
open Go.RowKit
set_option linter.unusedVariables false
set_option maxRecDepth 100000

theorem own_nilB (w : World) (base : Nat) : Own w base (.slice none 0 0) [] := ⟨okB_nil, rfl, .inl ⟨rfl, rfl⟩⟩
theorem set_twelve {w : World} {g : Nat} {T : TypeId} {u0 u1 u2 u3 u4 u5 u6 u7 u8 u9 u10 u11 : Value} (h : Loc w g #[u0, u1, u2, u3, u4, u5, u6, u7, u8, u9, u10, u11] T) (v0 v1 v2 v3 v4 v5 v6 v7 v8 v9 v10 v11 : Value) : Loc ((((((((((((w.setCell ⟨g, 0, none⟩ v0).setCell ⟨g, 1, none⟩ v1).setCell ⟨g, 2, none⟩ v2).setCell ⟨g, 3, none⟩ v3).setCell ⟨g, 4, none⟩ v4).setCell ⟨g, 5, none⟩ v5).setCell ⟨g, 6, none⟩ v6).setCell ⟨g, 7, none⟩ v7).setCell ⟨g, 8, none⟩ v8).setCell ⟨g, 9, none⟩ v9).setCell ⟨g, 10, none⟩ v10).setCell ⟨g, 11, none⟩ v11) g #[v0, v1, v2, v3, v4, v5, v6, v7, v8, v9, v10, v11] T := by
  have h0 : Loc (w.setCell ⟨g, 0, none⟩ v0) g #[v0, u1, u2, u3, u4, u5, u6, u7, u8, u9, u10, u11] T := h.set 0 v0
  have h1 : Loc ((w.setCell ⟨g, 0, none⟩ v0).setCell ⟨g, 1, none⟩ v1) g #[v0, v1, u2, u3, u4, u5, u6, u7, u8, u9, u10, u11] T := h0.set 1 v1
  have h2 : Loc (((w.setCell ⟨g, 0, none⟩ v0).setCell ⟨g, 1, none⟩ v1).setCell ⟨g, 2, none⟩ v2) g #[v0, v1, v2, u3, u4, u5, u6, u7, u8, u9, u10, u11] T := h1.set 2 v2
  have h3 : Loc ((((w.setCell ⟨g, 0, none⟩ v0).setCell ⟨g, 1, none⟩ v1).setCell ⟨g, 2, none⟩ v2).setCell ⟨g, 3, none⟩ v3) g #[v0, v1, v2, v3, u4, u5, u6, u7, u8, u9, u10, u11] T := h2.set 3 v3
  have h4 : Loc (((((w.setCell ⟨g, 0, none⟩ v0).setCell ⟨g, 1, none⟩ v1).setCell ⟨g, 2, none⟩ v2).setCell ⟨g, 3, none⟩ v3).setCell ⟨g, 4, none⟩ v4) g #[v0, v1, v2, v3, v4, u5, u6, u7, u8, u9, u10, u11] T := h3.set 4 v4
  have h5 : Loc ((((((w.setCell ⟨g, 0, none⟩ v0).setCell ⟨g, 1, none⟩ v1).setCell ⟨g, 2, none⟩ v2).setCell ⟨g, 3, none⟩ v3).setCell ⟨g, 4, none⟩ v4).setCell ⟨g, 5, none⟩ v5) g #[v0, v1, v2, v3, v4, v5, u6, u7, u8, u9, u10, u11] T := h4.set 5 v5
  have h6 : Loc (((((((w.setCell ⟨g, 0, none⟩ v0).setCell ⟨g, 1, none⟩ v1).setCell ⟨g, 2, none⟩ v2).setCell ⟨g, 3, none⟩ v3).setCell ⟨g, 4, none⟩ v4).setCell ⟨g, 5, none⟩ v5).setCell ⟨g, 6, none⟩ v6) g #[v0, v1, v2, v3, v4, v5, v6, u7, u8, u9, u10, u11] T := h5.set 6 v6
  have h7 : Loc ((((((((w.setCell ⟨g, 0, none⟩ v0).setCell ⟨g, 1, none⟩ v1).setCell ⟨g, 2, none⟩ v2).setCell ⟨g, 3, none⟩ v3).setCell ⟨g, 4, none⟩ v4).setCell ⟨g, 5, none⟩ v5).setCell ⟨g, 6, none⟩ v6).setCell ⟨g, 7, none⟩ v7) g #[v0, v1, v2, v3, v4, v5, v6, v7, u8, u9, u10, u11] T := h6.set 7 v7
  have h8 : Loc (((((((((w.setCell ⟨g, 0, none⟩ v0).setCell ⟨g, 1, none⟩ v1).setCell ⟨g, 2, none⟩ v2).setCell ⟨g, 3, none⟩ v3).setCell ⟨g, 4, none⟩ v4).setCell ⟨g, 5, none⟩ v5).setCell ⟨g, 6, none⟩ v6).setCell ⟨g, 7, none⟩ v7).setCell ⟨g, 8, none⟩ v8) g #[v0, v1, v2, v3, v4, v5, v6, v7, v8, u9, u10, u11] T := h7.set 8 v8
  have h9 : Loc ((((((((((w.setCell ⟨g, 0, none⟩ v0).setCell ⟨g, 1, none⟩ v1).setCell ⟨g, 2, none⟩ v2).setCell ⟨g, 3, none⟩ v3).setCell ⟨g, 4, none⟩ v4).setCell ⟨g, 5, none⟩ v5).setCell ⟨g, 6, none⟩ v6).setCell ⟨g, 7, none⟩ v7).setCell ⟨g, 8, none⟩ v8).setCell ⟨g, 9, none⟩ v9) g #[v0, v1, v2, v3, v4, v5, v6, v7, v8, v9, u10, u11] T := h8.set 9 v9
  have h10 : Loc (((((((((((w.setCell ⟨g, 0, none⟩ v0).setCell ⟨g, 1, none⟩ v1).setCell ⟨g, 2, none⟩ v2).setCell ⟨g, 3, none⟩ v3).setCell ⟨g, 4, none⟩ v4).setCell ⟨g, 5, none⟩ v5).setCell ⟨g, 6, none⟩ v6).setCell ⟨g, 7, none⟩ v7).setCell ⟨g, 8, none⟩ v8).setCell ⟨g, 9, none⟩ v9).setCell ⟨g, 10, none⟩ v10) g #[v0, v1, v2, v3, v4, v5, v6, v7, v8, v9, v10, u11] T := h9.set 10 v10
  have h11 : Loc ((((((((((((w.setCell ⟨g, 0, none⟩ v0).setCell ⟨g, 1, none⟩ v1).setCell ⟨g, 2, none⟩ v2).setCell ⟨g, 3, none⟩ v3).setCell ⟨g, 4, none⟩ v4).setCell ⟨g, 5, none⟩ v5).setCell ⟨g, 6, none⟩ v6).setCell ⟨g, 7, none⟩ v7).setCell ⟨g, 8, none⟩ v8).setCell ⟨g, 9, none⟩ v9).setCell ⟨g, 10, none⟩ v10).setCell ⟨g, 11, none⟩ v11) g #[v0, v1, v2, v3, v4, v5, v6, v7, v8, v9, v10, v11] T := h10.set 11 v11
  exact h11
theorem grow_twelve (w : World) (g : Nat) (v0 v1 v2 v3 v4 v5 v6 v7 v8 v9 v10 v11 : Value) : w.grownBy ((((((((((((w.setCell ⟨g, 0, none⟩ v0).setCell ⟨g, 1, none⟩ v1).setCell ⟨g, 2, none⟩ v2).setCell ⟨g, 3, none⟩ v3).setCell ⟨g, 4, none⟩ v4).setCell ⟨g, 5, none⟩ v5).setCell ⟨g, 6, none⟩ v6).setCell ⟨g, 7, none⟩ v7).setCell ⟨g, 8, none⟩ v8).setCell ⟨g, 9, none⟩ v9).setCell ⟨g, 10, none⟩ v10).setCell ⟨g, 11, none⟩ v11) (some g) := by
  have h0 : w.grownBy (w.setCell ⟨g, 0, none⟩ v0) (some g) := setG w g 0 v0
  have h1 : w.grownBy ((w.setCell ⟨g, 0, none⟩ v0).setCell ⟨g, 1, none⟩ v1) (some g) := grown_trans h0 (setG _ g 1 v1)
  have h2 : w.grownBy (((w.setCell ⟨g, 0, none⟩ v0).setCell ⟨g, 1, none⟩ v1).setCell ⟨g, 2, none⟩ v2) (some g) := grown_trans h1 (setG _ g 2 v2)
  have h3 : w.grownBy ((((w.setCell ⟨g, 0, none⟩ v0).setCell ⟨g, 1, none⟩ v1).setCell ⟨g, 2, none⟩ v2).setCell ⟨g, 3, none⟩ v3) (some g) := grown_trans h2 (setG _ g 3 v3)
  have h4 : w.grownBy (((((w.setCell ⟨g, 0, none⟩ v0).setCell ⟨g, 1, none⟩ v1).setCell ⟨g, 2, none⟩ v2).setCell ⟨g, 3, none⟩ v3).setCell ⟨g, 4, none⟩ v4) (some g) := grown_trans h3 (setG _ g 4 v4)
  have h5 : w.grownBy ((((((w.setCell ⟨g, 0, none⟩ v0).setCell ⟨g, 1, none⟩ v1).setCell ⟨g, 2, none⟩ v2).setCell ⟨g, 3, none⟩ v3).setCell ⟨g, 4, none⟩ v4).setCell ⟨g, 5, none⟩ v5) (some g) := grown_trans h4 (setG _ g 5 v5)
  have h6 : w.grownBy (((((((w.setCell ⟨g, 0, none⟩ v0).setCell ⟨g, 1, none⟩ v1).setCell ⟨g, 2, none⟩ v2).setCell ⟨g, 3, none⟩ v3).setCell ⟨g, 4, none⟩ v4).setCell ⟨g, 5, none⟩ v5).setCell ⟨g, 6, none⟩ v6) (some g) := grown_trans h5 (setG _ g 6 v6)
  have h7 : w.grownBy ((((((((w.setCell ⟨g, 0, none⟩ v0).setCell ⟨g, 1, none⟩ v1).setCell ⟨g, 2, none⟩ v2).setCell ⟨g, 3, none⟩ v3).setCell ⟨g, 4, none⟩ v4).setCell ⟨g, 5, none⟩ v5).setCell ⟨g, 6, none⟩ v6).setCell ⟨g, 7, none⟩ v7) (some g) := grown_trans h6 (setG _ g 7 v7)
  have h8 : w.grownBy (((((((((w.setCell ⟨g, 0, none⟩ v0).setCell ⟨g, 1, none⟩ v1).setCell ⟨g, 2, none⟩ v2).setCell ⟨g, 3, none⟩ v3).setCell ⟨g, 4, none⟩ v4).setCell ⟨g, 5, none⟩ v5).setCell ⟨g, 6, none⟩ v6).setCell ⟨g, 7, none⟩ v7).setCell ⟨g, 8, none⟩ v8) (some g) := grown_trans h7 (setG _ g 8 v8)
  have h9 : w.grownBy ((((((((((w.setCell ⟨g, 0, none⟩ v0).setCell ⟨g, 1, none⟩ v1).setCell ⟨g, 2, none⟩ v2).setCell ⟨g, 3, none⟩ v3).setCell ⟨g, 4, none⟩ v4).setCell ⟨g, 5, none⟩ v5).setCell ⟨g, 6, none⟩ v6).setCell ⟨g, 7, none⟩ v7).setCell ⟨g, 8, none⟩ v8).setCell ⟨g, 9, none⟩ v9) (some g) := grown_trans h8 (setG _ g 9 v9)
  have h10 : w.grownBy (((((((((((w.setCell ⟨g, 0, none⟩ v0).setCell ⟨g, 1, none⟩ v1).setCell ⟨g, 2, none⟩ v2).setCell ⟨g, 3, none⟩ v3).setCell ⟨g, 4, none⟩ v4).setCell ⟨g, 5, none⟩ v5).setCell ⟨g, 6, none⟩ v6).setCell ⟨g, 7, none⟩ v7).setCell ⟨g, 8, none⟩ v8).setCell ⟨g, 9, none⟩ v9).setCell ⟨g, 10, none⟩ v10) (some g) := grown_trans h9 (setG _ g 10 v10)
  have h11 : w.grownBy ((((((((((((w.setCell ⟨g, 0, none⟩ v0).setCell ⟨g, 1, none⟩ v1).setCell ⟨g, 2, none⟩ v2).setCell ⟨g, 3, none⟩ v3).setCell ⟨g, 4, none⟩ v4).setCell ⟨g, 5, none⟩ v5).setCell ⟨g, 6, none⟩ v6).setCell ⟨g, 7, none⟩ v7).setCell ⟨g, 8, none⟩ v8).setCell ⟨g, 9, none⟩ v9).setCell ⟨g, 10, none⟩ v10).setCell ⟨g, 11, none⟩ v11) (some g) := grown_trans h10 (setG _ g 11 v11)
  exact h11

set_option maxHeartbeats 12800000 in
theorem rop_2 (w0 w : World) (g : Nat) (code : Value) (l : List Int) (p : Int) (h : Rd 65 w0 w g code l p) (hk : (getN l p).1 = 2) :
    Calls Try.prog 46 #[.pointer (some ⟨g, 0, none⟩)] w fun e w' => ∃ k n t, e = .returned (opVal (rdRest rdKeyI l (getN l p).1 (rdId l (getN l p).2).1.1 (rdId l (getN l p).2).1.2 (rdId l (getN l p).2).2).1 k n t) ∧ OwOp w' w.heap.size (rdRest rdKeyI l (getN l p).1 (rdId l (getN l p).2).1.1 (rdId l (getN l p).2).1.2 (rdId l (getN l p).2).2).1 k n t ∧ Below w0.heap.size w0 w' := by
  have hgl := h.box.lt
  have hnew := h.below.size
  have HBL := hide h.below
  have hgn := h.new
  have H0 := hide (fun W (hW : Rd 65 w0 W g code l p) => rnum_any w0 W g code l p hW)
  have H1 := hide (fun W (hW : Rd 65 w0 W g code l (getN l p).2) => rid_any w0 W g code l (getN l p).2 hW)
  have H2 := hide (fun W (hW : Rd 65 w0 W g code l (rdId l (getN l p).2).2) => rid_any w0 W g code l (rdId l (getN l p).2).2 hW)
  have H3 := hide (fun W (hW : Rd 65 w0 W g code l (rdId l (rdId l (getN l p).2).2).2) => rtext_any w0 W g code l (rdId l (rdId l (getN l p).2).2).2 hW)
  have hR := h.keep ((Below.refl w.heap.size w).alloc (Nat.le_refl _) (.cells #[.int .i64 0, .int .i64 0, .int .i64 0, .int .i64 0, .int .i64 0, .int .i64 0, .int .i64 0, .slice none 0 0, .int .i64 0, .slice none 0 0, .slice none 0 0, .bool false] 27))
  have lr := Loc.made w #[.int .i64 0, .int .i64 0, .int .i64 0, .int .i64 0, .int .i64 0, .int .i64 0, .int .i64 0, .slice none 0 0, .int .i64 0, .slice none 0 0, .slice none 0 0, .bool false] 27
  have hG := Below.toGrown ((Below.refl w.heap.size w).alloc (Nat.le_refl _) (.cells #[.int .i64 0, .int .i64 0, .int .i64 0, .int .i64 0, .int .i64 0, .int .i64 0, .int .i64 0, .slice none 0 0, .int .i64 0, .slice none 0 0, .slice none 0 0, .bool false] 27)) (some g)
  clear h
  unfold rdRest
  rw [hk, if_neg (by decide), if_neg (by decide), if_pos rfl]
  generalize (getT l (rdId l (rdId l (getN l p).2).2).2) = q3 at *
  generalize (rdId l (rdId l (getN l p).2).2) = q2 at *
  generalize (rdId l (getN l p).2) = q1 at *
  generalize (getN l p) = q0 at *
  obtain ⟨kz, p1⟩ := q0
  obtain ⟨⟨n, r⟩, p2⟩ := q1
  obtain ⟨⟨nn, nr⟩, p3⟩ := q2
  obtain ⟨tx, p4⟩ := q3
  simp only at *
  subst hk
  have LL := hide (And.intro hR (And.intro lr hG))
  clear hR lr hG
  go_enter Try.func46, Try.ntmps46
  go_wp2_with fail
  obtain ⟨hR, lr, hG⟩ := unhide LL
  clear LL
  generalize (w.alloc (.cells #[.int .i64 0, .int .i64 0, .int .i64 0, .int .i64 0, .int .i64 0, .int .i64 0, .int .i64 0, .slice none 0 0, .int .i64 0, .slice none 0 0, .slice none 0 0, .bool false] 27)) = wa at *
  refine (unhide H0 wa hR).mono ?_
  rintro e w1 ⟨rfl, hRn, hGn⟩
  have sz0 := hGn.size
  have lrn := lr.frm (Frm.ofGrown hGn) (by simp; omega)
  have hGm := grown_trans hG hGn
  clear hG hGn lr hR
  have hG := hGm
  have hR := hRn
  have lr := lrn
  clear hGm hRn lrn
  go_wp2_with fail
  refine (unhide H1 w1 hR).mono ?_
  rintro e w2 ⟨rfl, hRn, hGn⟩
  have sz1 := hGn.size
  have lrn := lr.frm (Frm.ofGrown hGn) (by simp; omega)
  have hGm := grown_trans hG hGn
  clear hG hGn lr hR
  have hG := hGm
  have hR := hRn
  have lr := lrn
  clear hGm hRn lrn
  have hAb := (Below.refl w2.heap.size w2).alloc (Nat.le_refl _) (.cells #[.int .i64 2, .int .i64 n, .int .i64 r, .int .i64 0, .int .i64 0, .int .i64 0, .int .i64 0, .slice none 0 0, .int .i64 0, .slice none 0 0, .slice none 0 0, .bool false] 27)
  have lo := Loc.made w2 #[.int .i64 2, .int .i64 n, .int .i64 r, .int .i64 0, .int .i64 0, .int .i64 0, .int .i64 0, .slice none 0 0, .int .i64 0, .slice none 0 0, .slice none 0 0, .bool false] 27
  have hrS := lr.lt
  have hgS := hR.box.lt
  have LL := hide (And.intro (hR.keep hAb) (And.intro (lr.all hAb) (And.intro (grown_trans hG (Below.toGrown hAb (some g))) lo)))
  clear hR lr hG hAb lo
  go_wp2_with fail
  obtain ⟨hR, lr, hG, lo⟩ := unhide LL
  clear LL
  generalize (w2.alloc (.cells #[.int .i64 2, .int .i64 n, .int .i64 r, .int .i64 0, .int .i64 0, .int .i64 0, .int .i64 0, .slice none 0 0, .int .i64 0, .slice none 0 0, .slice none 0 0, .bool false] 27)) = wb at *
  generalize w2.heap.size = S at *
  refine (unhide H2 wb hR).mono ?_
  rintro e w3 ⟨rfl, hRn, hGn⟩
  have sz2 := hGn.size
  have lrn := lr.frm (Frm.ofGrown hGn) (by simp; omega)
  have lon := lo.frm (Frm.ofGrown hGn) (by simp; omega)
  have hGm := grown_trans hG hGn
  clear hG hGn lr hR lo
  have hG := hGm
  have hR := hRn
  have lr := lrn
  have lo := lon
  clear hGm hRn lrn lon
  go_wp2_with fail
  refine (unhide H3 w3 hR).mono ?_
  rintro e w4 ⟨a3, c3, rfl, ho3, hRn, hGn⟩
  have sz3 := hGn.size
  have lrn := lr.frm (Frm.ofGrown hGn) (by simp; omega)
  have lon := lo.frm (Frm.ofGrown hGn) (by simp; omega)
  have hs3 : S < w3.heap.size := lo.lt
  have hz3 := ho3.rng
  have hGm := grown_trans hG hGn
  clear hG hGn lr hR lo
  have hG := hGm
  have hR := hRn
  have lr := lrn
  have lo := lon
  clear hGm hRn lrn lon
  have lon : Loc (((w4.setCell ⟨S, 3, none⟩ (.int .i64 nn)).setCell ⟨S, 4, none⟩ (.int .i64 nr)).setCell ⟨S, 10, none⟩ (.slice a3 tx.length c3)) S #[.int .i64 2, .int .i64 n, .int .i64 r, .int .i64 nn, .int .i64 nr, .int .i64 0, .int .i64 0, .slice none 0 0, .int .i64 0, .slice none 0 0, .slice a3 tx.length c3, .bool false] 27 := (((lo.set 3 (.int .i64 nn)).set 4 (.int .i64 nr)).set 10 (.slice a3 tx.length c3))
  have hsS : w4.grownBy (((w4.setCell ⟨S, 3, none⟩ (.int .i64 nn)).setCell ⟨S, 4, none⟩ (.int .i64 nr)).setCell ⟨S, 10, none⟩ (.slice a3 tx.length c3)) (some S) := (grown_trans (grown_trans (setG w4 S 3 (.int .i64 nn)) (setG _ S 4 (.int .i64 nr))) (setG _ S 10 (.slice a3 tx.length c3)))
  have x0 := lo.cell 0
  have x1 := lo.cell 1
  have x2 := lo.cell 2
  have x3 := lo.cell 3
  have x4 := lo.cell 4
  have x5 := lo.cell 5
  have x6 := lo.cell 6
  have x7 := lo.cell 7
  have x8 := lo.cell 8
  have x9 := lo.cell 9
  have x10 := lo.cell 10
  have x11 := lo.cell 11
  have f3 := lo.frozen 3
  have f4 := lo.frozen 4
  have f10 := lo.frozen 10
  have hRn := hR.keepG hsS (by simp; omega) (fun k hk => by simp at hk; omega)
  have lrn := lr.frm (Frm.ofGrown hsS) (by simp; omega)
  have hGn := grow_new hG hsS (fun q hq => by simp at hq; omega)
  replace ho3 := ho3.keepBy hsS (.inr (fun e => by have := (ho3.lt S e).1; omega))
  have szs0 := hsS.size
  clear hR lr hG lo hsS
  have hR := hRn
  have lr := lrn
  have hG := hGn
  have lo := lon
  clear hRn lrn hGn lon
  have lrz : Loc (((((((((((((((w4.setCell ⟨S, 3, none⟩ (.int .i64 nn)).setCell ⟨S, 4, none⟩ (.int .i64 nr)).setCell ⟨S, 10, none⟩ (.slice a3 tx.length c3)).setCell ⟨w.heap.size, 0, none⟩ (.int .i64 2)).setCell ⟨w.heap.size, 1, none⟩ (.int .i64 n)).setCell ⟨w.heap.size, 2, none⟩ (.int .i64 r)).setCell ⟨w.heap.size, 3, none⟩ (.int .i64 nn)).setCell ⟨w.heap.size, 4, none⟩ (.int .i64 nr)).setCell ⟨w.heap.size, 5, none⟩ (.int .i64 0)).setCell ⟨w.heap.size, 6, none⟩ (.int .i64 0)).setCell ⟨w.heap.size, 7, none⟩ (.slice none 0 0)).setCell ⟨w.heap.size, 8, none⟩ (.int .i64 0)).setCell ⟨w.heap.size, 9, none⟩ (.slice none 0 0)).setCell ⟨w.heap.size, 10, none⟩ (.slice a3 tx.length c3)).setCell ⟨w.heap.size, 11, none⟩ (.bool false)) w.heap.size #[.int .i64 2, .int .i64 n, .int .i64 r, .int .i64 nn, .int .i64 nr, .int .i64 0, .int .i64 0, .slice none 0 0, .int .i64 0, .slice none 0 0, .slice a3 tx.length c3, .bool false] 27 := set_twelve lr (.int .i64 2) (.int .i64 n) (.int .i64 r) (.int .i64 nn) (.int .i64 nr) (.int .i64 0) (.int .i64 0) (.slice none 0 0) (.int .i64 0) (.slice none 0 0) (.slice a3 tx.length c3) (.bool false)
  have hsR : (((w4.setCell ⟨S, 3, none⟩ (.int .i64 nn)).setCell ⟨S, 4, none⟩ (.int .i64 nr)).setCell ⟨S, 10, none⟩ (.slice a3 tx.length c3)).grownBy (((((((((((((((w4.setCell ⟨S, 3, none⟩ (.int .i64 nn)).setCell ⟨S, 4, none⟩ (.int .i64 nr)).setCell ⟨S, 10, none⟩ (.slice a3 tx.length c3)).setCell ⟨w.heap.size, 0, none⟩ (.int .i64 2)).setCell ⟨w.heap.size, 1, none⟩ (.int .i64 n)).setCell ⟨w.heap.size, 2, none⟩ (.int .i64 r)).setCell ⟨w.heap.size, 3, none⟩ (.int .i64 nn)).setCell ⟨w.heap.size, 4, none⟩ (.int .i64 nr)).setCell ⟨w.heap.size, 5, none⟩ (.int .i64 0)).setCell ⟨w.heap.size, 6, none⟩ (.int .i64 0)).setCell ⟨w.heap.size, 7, none⟩ (.slice none 0 0)).setCell ⟨w.heap.size, 8, none⟩ (.int .i64 0)).setCell ⟨w.heap.size, 9, none⟩ (.slice none 0 0)).setCell ⟨w.heap.size, 10, none⟩ (.slice a3 tx.length c3)).setCell ⟨w.heap.size, 11, none⟩ (.bool false)) (some w.heap.size) := grow_twelve _ _ (.int .i64 2) (.int .i64 n) (.int .i64 r) (.int .i64 nn) (.int .i64 nr) (.int .i64 0) (.int .i64 0) (.slice none 0 0) (.int .i64 0) (.slice none 0 0) (.slice a3 tx.length c3) (.bool false)
  obtain ⟨e0, e1, e2, e3, e4, e5, e6, e7, e8, e9, e10, e11⟩ := lrz.twelve
  obtain ⟨y0, y1, y2, y3, y4, y5, y6, y7, y8, y9, y10, y11⟩ := lo.twelve
  obtain ⟨z0, z1, z2, z3, z4, z5, z6, z7, z8, z9, z10, z11⟩ := lr.twelve
  have g0 := lr.frozen 0
  have g1 := lr.frozen 1
  have g2 := lr.frozen 2
  have g3 := lr.frozen 3
  have g4 := lr.frozen 4
  have g5 := lr.frozen 5
  have g6 := lr.frozen 6
  have g7 := lr.frozen 7
  have g8 := lr.frozen 8
  have g9 := lr.frozen 9
  have g10 := lr.frozen 10
  have g11 := lr.frozen 11
  have hGz := grow_new hG hsR (fun q hq => by simp at hq; omega)
  have hBz := bstepBy (unhide HBL) hGz (fun k hk => by cases hk; exact hgn)
  replace ho3 := (ho3.keepBy hsR (.inr (fun e => by have := (ho3.lt _ e).1; omega))).mono (show w.heap.size ≤ _ by omega)
  have hnd : (FB (.slice none 0 0) ++ FB (.slice none 0 0) ++ FB (.slice a3 tx.length c3)).Nodup := by
    have e0 : FB (.slice none 0 0) = [] := rfl
    simp only [e0, List.nil_append, List.append_nil]
    exact FB_nodup _
  have KK := hide (show OwnZ (((((((((((((((w4.setCell ⟨S, 3, none⟩ (.int .i64 nn)).setCell ⟨S, 4, none⟩ (.int .i64 nr)).setCell ⟨S, 10, none⟩ (.slice a3 tx.length c3)).setCell ⟨w.heap.size, 0, none⟩ (.int .i64 2)).setCell ⟨w.heap.size, 1, none⟩ (.int .i64 n)).setCell ⟨w.heap.size, 2, none⟩ (.int .i64 r)).setCell ⟨w.heap.size, 3, none⟩ (.int .i64 nn)).setCell ⟨w.heap.size, 4, none⟩ (.int .i64 nr)).setCell ⟨w.heap.size, 5, none⟩ (.int .i64 0)).setCell ⟨w.heap.size, 6, none⟩ (.int .i64 0)).setCell ⟨w.heap.size, 7, none⟩ (.slice none 0 0)).setCell ⟨w.heap.size, 8, none⟩ (.int .i64 0)).setCell ⟨w.heap.size, 9, none⟩ (.slice none 0 0)).setCell ⟨w.heap.size, 10, none⟩ (.slice a3 tx.length c3)).setCell ⟨w.heap.size, 11, none⟩ (.bool false)) w.heap.size (.slice none 0 0) _ ∧ Own (((((((((((((((w4.setCell ⟨S, 3, none⟩ (.int .i64 nn)).setCell ⟨S, 4, none⟩ (.int .i64 nr)).setCell ⟨S, 10, none⟩ (.slice a3 tx.length c3)).setCell ⟨w.heap.size, 0, none⟩ (.int .i64 2)).setCell ⟨w.heap.size, 1, none⟩ (.int .i64 n)).setCell ⟨w.heap.size, 2, none⟩ (.int .i64 r)).setCell ⟨w.heap.size, 3, none⟩ (.int .i64 nn)).setCell ⟨w.heap.size, 4, none⟩ (.int .i64 nr)).setCell ⟨w.heap.size, 5, none⟩ (.int .i64 0)).setCell ⟨w.heap.size, 6, none⟩ (.int .i64 0)).setCell ⟨w.heap.size, 7, none⟩ (.slice none 0 0)).setCell ⟨w.heap.size, 8, none⟩ (.int .i64 0)).setCell ⟨w.heap.size, 9, none⟩ (.slice none 0 0)).setCell ⟨w.heap.size, 10, none⟩ (.slice a3 tx.length c3)).setCell ⟨w.heap.size, 11, none⟩ (.bool false)) w.heap.size (.slice none 0 0) _ ∧ Own (((((((((((((((w4.setCell ⟨S, 3, none⟩ (.int .i64 nn)).setCell ⟨S, 4, none⟩ (.int .i64 nr)).setCell ⟨S, 10, none⟩ (.slice a3 tx.length c3)).setCell ⟨w.heap.size, 0, none⟩ (.int .i64 2)).setCell ⟨w.heap.size, 1, none⟩ (.int .i64 n)).setCell ⟨w.heap.size, 2, none⟩ (.int .i64 r)).setCell ⟨w.heap.size, 3, none⟩ (.int .i64 nn)).setCell ⟨w.heap.size, 4, none⟩ (.int .i64 nr)).setCell ⟨w.heap.size, 5, none⟩ (.int .i64 0)).setCell ⟨w.heap.size, 6, none⟩ (.int .i64 0)).setCell ⟨w.heap.size, 7, none⟩ (.slice none 0 0)).setCell ⟨w.heap.size, 8, none⟩ (.int .i64 0)).setCell ⟨w.heap.size, 9, none⟩ (.slice none 0 0)).setCell ⟨w.heap.size, 10, none⟩ (.slice a3 tx.length c3)).setCell ⟨w.heap.size, 11, none⟩ (.bool false)) w.heap.size (.slice a3 tx.length c3) _ ∧ _ ∧ _ from ⟨ownz_nil _ _, own_nilB _ _, ho3, hnd, hBz⟩)
  clear hR lr hG lo lrz hsR hGz hBz hnd ho3 hz3
  go_wp2_with fail
  obtain ⟨k1, k2, k3, k4, k5⟩ := unhide KK
  exact bodyPost_ret (v := .agg #[.int .i64 2, .int .i64 n, .int .i64 r, .int .i64 nn, .int .i64 nr, .int .i64 0, .int .i64 0, .slice none 0 0, .int .i64 0, .slice none 0 0, .slice a3 tx.length c3, .bool false]) (by simp [results, Try.results46, go_sem, e0, e1, e2, e3, e4, e5, e6, e7, e8, e9, e10, e11]) rfl ⟨_, _, _, rfl, ⟨k1, k2, k3, k4⟩, k5⟩

set_option maxHeartbeats 12800000 in
theorem rop_0 (w0 w : World) (g : Nat) (code : Value) (l : List Int) (p : Int) (h : Rd 65 w0 w g code l p) (hk : (getN l p).1 = 0) :
    Calls Try.prog 46 #[.pointer (some ⟨g, 0, none⟩)] w fun e w' => ∃ k n t, e = .returned (opVal (rdRest rdKeyI l (getN l p).1 (rdId l (getN l p).2).1.1 (rdId l (getN l p).2).1.2 (rdId l (getN l p).2).2).1 k n t) ∧ OwOp w' w.heap.size (rdRest rdKeyI l (getN l p).1 (rdId l (getN l p).2).1.1 (rdId l (getN l p).2).1.2 (rdId l (getN l p).2).2).1 k n t ∧ Below w0.heap.size w0 w' := by
  have hgl := h.box.lt
  have hnew := h.below.size
  have HBL := hide h.below
  have hgn := h.new
  have H0 := hide (fun W (hW : Rd 65 w0 W g code l p) => rnum_any w0 W g code l p hW)
  have H1 := hide (fun W (hW : Rd 65 w0 W g code l (getN l p).2) => rid_any w0 W g code l (getN l p).2 hW)
  have H2 := hide (fun W (hW : Rd 65 w0 W g code l (rdId l (getN l p).2).2) => rid_any w0 W g code l (rdId l (getN l p).2).2 hW)
  have H3 := hide (fun W (hW : Rd 65 w0 W g code l (rdId l (rdId l (getN l p).2).2).2) => rkey_any w0 W g code l (rdId l (rdId l (getN l p).2).2).2 hW)
  have H4 := hide (fun W (hW : Rd 65 w0 W g code l (rdKeyI l (rdId l (rdId l (getN l p).2).2).2).2) => rnum_any w0 W g code l (rdKeyI l (rdId l (rdId l (getN l p).2).2).2).2 hW)
  have H5 := hide (fun W (hW : Rd 65 w0 W g code l (getN l (rdKeyI l (rdId l (rdId l (getN l p).2).2).2).2).2) => rtext_any w0 W g code l (getN l (rdKeyI l (rdId l (rdId l (getN l p).2).2).2).2).2 hW)
  have H6 := hide (fun W (hW : Rd 65 w0 W g code l (getT l (getN l (rdKeyI l (rdId l (rdId l (getN l p).2).2).2).2).2).2) => rtext_any w0 W g code l (getT l (getN l (rdKeyI l (rdId l (rdId l (getN l p).2).2).2).2).2).2 hW)
  have hR := h.keep ((Below.refl w.heap.size w).alloc (Nat.le_refl _) (.cells #[.int .i64 0, .int .i64 0, .int .i64 0, .int .i64 0, .int .i64 0, .int .i64 0, .int .i64 0, .slice none 0 0, .int .i64 0, .slice none 0 0, .slice none 0 0, .bool false] 27))
  have lr := Loc.made w #[.int .i64 0, .int .i64 0, .int .i64 0, .int .i64 0, .int .i64 0, .int .i64 0, .int .i64 0, .slice none 0 0, .int .i64 0, .slice none 0 0, .slice none 0 0, .bool false] 27
  have hG := Below.toGrown ((Below.refl w.heap.size w).alloc (Nat.le_refl _) (.cells #[.int .i64 0, .int .i64 0, .int .i64 0, .int .i64 0, .int .i64 0, .int .i64 0, .int .i64 0, .slice none 0 0, .int .i64 0, .slice none 0 0, .slice none 0 0, .bool false] 27)) (some g)
  clear h
  unfold rdRest
  rw [hk, if_pos rfl]
  generalize (getT l (getT l (getN l (rdKeyI l (rdId l (rdId l (getN l p).2).2).2).2).2).2) = q6 at *
  generalize (getT l (getN l (rdKeyI l (rdId l (rdId l (getN l p).2).2).2).2).2) = q5 at *
  generalize (getN l (rdKeyI l (rdId l (rdId l (getN l p).2).2).2).2) = q4 at *
  generalize (rdKeyI l (rdId l (rdId l (getN l p).2).2).2) = q3 at *
  generalize (rdId l (rdId l (getN l p).2).2) = q2 at *
  generalize (rdId l (getN l p).2) = q1 at *
  generalize (getN l p) = q0 at *
  obtain ⟨kz, p1⟩ := q0
  obtain ⟨⟨n, r⟩, p2⟩ := q1
  obtain ⟨⟨pn, pr⟩, p3⟩ := q2
  obtain ⟨ks, p4⟩ := q3
  obtain ⟨el, p5⟩ := q4
  obtain ⟨nm, p6⟩ := q5
  obtain ⟨tx, p7⟩ := q6
  simp only at *
  subst hk
  have LL := hide (And.intro hR (And.intro lr hG))
  clear hR lr hG
  go_enter Try.func46, Try.ntmps46
  go_wp2_with fail
  obtain ⟨hR, lr, hG⟩ := unhide LL
  clear LL
  generalize (w.alloc (.cells #[.int .i64 0, .int .i64 0, .int .i64 0, .int .i64 0, .int .i64 0, .int .i64 0, .int .i64 0, .slice none 0 0, .int .i64 0, .slice none 0 0, .slice none 0 0, .bool false] 27)) = wa at *
  refine (unhide H0 wa hR).mono ?_
  rintro e w1 ⟨rfl, hRn, hGn⟩
  have sz0 := hGn.size
  have lrn := lr.frm (Frm.ofGrown hGn) (by simp; omega)
  have hGm := grown_trans hG hGn
  clear hG hGn lr hR
  have hG := hGm
  have hR := hRn
  have lr := lrn
  clear hGm hRn lrn
  go_wp2_with fail
  refine (unhide H1 w1 hR).mono ?_
  rintro e w2 ⟨rfl, hRn, hGn⟩
  have sz1 := hGn.size
  have lrn := lr.frm (Frm.ofGrown hGn) (by simp; omega)
  have hGm := grown_trans hG hGn
  clear hG hGn lr hR
  have hG := hGm
  have hR := hRn
  have lr := lrn
  clear hGm hRn lrn
  have hAb := (Below.refl w2.heap.size w2).alloc (Nat.le_refl _) (.cells #[.int .i64 0, .int .i64 n, .int .i64 r, .int .i64 0, .int .i64 0, .int .i64 0, .int .i64 0, .slice none 0 0, .int .i64 0, .slice none 0 0, .slice none 0 0, .bool false] 27)
  have lo := Loc.made w2 #[.int .i64 0, .int .i64 n, .int .i64 r, .int .i64 0, .int .i64 0, .int .i64 0, .int .i64 0, .slice none 0 0, .int .i64 0, .slice none 0 0, .slice none 0 0, .bool false] 27
  have hrS := lr.lt
  have hgS := hR.box.lt
  have LL := hide (And.intro (hR.keep hAb) (And.intro (lr.all hAb) (And.intro (grown_trans hG (Below.toGrown hAb (some g))) lo)))
  clear hR lr hG hAb lo
  go_wp2_with fail
  obtain ⟨hR, lr, hG, lo⟩ := unhide LL
  clear LL
  generalize (w2.alloc (.cells #[.int .i64 0, .int .i64 n, .int .i64 r, .int .i64 0, .int .i64 0, .int .i64 0, .int .i64 0, .slice none 0 0, .int .i64 0, .slice none 0 0, .slice none 0 0, .bool false] 27)) = wb at *
  generalize w2.heap.size = S at *
  refine (unhide H2 wb hR).mono ?_
  rintro e w3 ⟨rfl, hRn, hGn⟩
  have sz2 := hGn.size
  have lrn := lr.frm (Frm.ofGrown hGn) (by simp; omega)
  have lon := lo.frm (Frm.ofGrown hGn) (by simp; omega)
  have hGm := grown_trans hG hGn
  clear hG hGn lr hR lo
  have hG := hGm
  have hR := hRn
  have lr := lrn
  have lo := lon
  clear hGm hRn lrn lon
  go_wp2_with fail
  refine (unhide H3 w3 hR).mono ?_
  rintro e w4 ⟨a3, c3, k3, rfl, ho3, hk3, _, hRn, hGn⟩
  obtain rfl := unhide hk3
  have sz3 := hGn.size
  have lrn := lr.frm (Frm.ofGrown hGn) (by simp; omega)
  have lon := lo.frm (Frm.ofGrown hGn) (by simp; omega)
  have hs3 : S < w3.heap.size := lo.lt
  have hz3 := ho3.rng
  have hGm := grown_trans hG hGn
  clear hG hGn lr hR lo
  have hG := hGm
  have hR := hRn
  have lr := lrn
  have lo := lon
  clear hGm hRn lrn lon
  go_wp2_with fail
  refine (unhide H4 w4 hR).mono ?_
  rintro e w5 ⟨rfl, hRn, hGn⟩
  have sz4 := hGn.size
  have lrn := lr.frm (Frm.ofGrown hGn) (by simp; omega)
  have lon := lo.frm (Frm.ofGrown hGn) (by simp; omega)
  replace ho3 := ho3.keepBy hGn (.inr (fun e => by have := (ho3.lt g e).1; omega))
  have hGm := grown_trans hG hGn
  clear hG hGn lr hR lo
  have hG := hGm
  have hR := hRn
  have lr := lrn
  have lo := lon
  clear hGm hRn lrn lon
  have lon : Loc ((((w5.setCell ⟨S, 5, none⟩ (.int .i64 pn)).setCell ⟨S, 6, none⟩ (.int .i64 pr)).setCell ⟨S, 7, none⟩ (.slice a3 ks.length c3)).setCell ⟨S, 8, none⟩ (.int .i64 el)) S #[.int .i64 0, .int .i64 n, .int .i64 r, .int .i64 0, .int .i64 0, .int .i64 pn, .int .i64 pr, .slice a3 ks.length c3, .int .i64 el, .slice none 0 0, .slice none 0 0, .bool false] 27 := ((((lo.set 5 (.int .i64 pn)).set 6 (.int .i64 pr)).set 7 (.slice a3 ks.length c3)).set 8 (.int .i64 el))
  have hsS : w5.grownBy ((((w5.setCell ⟨S, 5, none⟩ (.int .i64 pn)).setCell ⟨S, 6, none⟩ (.int .i64 pr)).setCell ⟨S, 7, none⟩ (.slice a3 ks.length c3)).setCell ⟨S, 8, none⟩ (.int .i64 el)) (some S) := (grown_trans (grown_trans (grown_trans (setG w5 S 5 (.int .i64 pn)) (setG _ S 6 (.int .i64 pr))) (setG _ S 7 (.slice a3 ks.length c3))) (setG _ S 8 (.int .i64 el)))
  have x0 := lo.cell 0
  have x1 := lo.cell 1
  have x2 := lo.cell 2
  have x3 := lo.cell 3
  have x4 := lo.cell 4
  have x5 := lo.cell 5
  have x6 := lo.cell 6
  have x7 := lo.cell 7
  have x8 := lo.cell 8
  have x9 := lo.cell 9
  have x10 := lo.cell 10
  have x11 := lo.cell 11
  have f5 := lo.frozen 5
  have f6 := lo.frozen 6
  have f7 := lo.frozen 7
  have f8 := lo.frozen 8
  have hRn := hR.keepG hsS (by simp; omega) (fun k hk => by simp at hk; omega)
  have lrn := lr.frm (Frm.ofGrown hsS) (by simp; omega)
  have hGn := grow_new hG hsS (fun q hq => by simp at hq; omega)
  replace ho3 := ho3.keepBy hsS (.inr (fun e => by have := (ho3.lt S e).1; omega))
  have szs0 := hsS.size
  clear hR lr hG lo hsS
  have hR := hRn
  have lr := lrn
  have hG := hGn
  have lo := lon
  clear hRn lrn hGn lon
  have LL := hide (And.intro hR (And.intro lr (And.intro hG lo)))
  clear hR lr hG lo
  have HO3 := hide ho3
  clear ho3
  go_wp2_with fail
  obtain ⟨hR, lr, hG, lo⟩ := unhide LL
  clear LL
  have ho3 := unhide HO3
  clear HO3
  clear x0 x1 x2 x3 x4 x5 x6 x7 x8 x9 x10 x11 f5 f6 f7 f8
  generalize ((((w5.setCell ⟨S, 5, none⟩ (.int .i64 pn)).setCell ⟨S, 6, none⟩ (.int .i64 pr)).setCell ⟨S, 7, none⟩ (.slice a3 ks.length c3)).setCell ⟨S, 8, none⟩ (.int .i64 el)) = ws0 at *
  refine (unhide H5 ws0 hR).mono ?_
  rintro e w6 ⟨a5, c5, rfl, ho5, hRn, hGn⟩
  have sz5 := hGn.size
  have lrn := lr.frm (Frm.ofGrown hGn) (by simp; omega)
  have lon := lo.frm (Frm.ofGrown hGn) (by simp; omega)
  replace ho3 := ho3.keepBy hGn (.inr (fun e => by have := (ho3.lt g e).1; omega))
  have hs5 : S < ws0.heap.size := lo.lt
  have hz5 := ho5.rng
  have hGm := grown_trans hG hGn
  clear hG hGn lr hR lo
  have hG := hGm
  have hR := hRn
  have lr := lrn
  have lo := lon
  clear hGm hRn lrn lon
  go_wp2_with fail
  refine (unhide H6 w6 hR).mono ?_
  rintro e w7 ⟨a6, c6, rfl, ho6, hRn, hGn⟩
  have sz6 := hGn.size
  have lrn := lr.frm (Frm.ofGrown hGn) (by simp; omega)
  have lon := lo.frm (Frm.ofGrown hGn) (by simp; omega)
  replace ho3 := ho3.keepBy hGn (.inr (fun e => by have := (ho3.lt g e).1; omega))
  replace ho5 := ho5.keepBy hGn (.inr (fun e => by have := (ho5.lt g e).1; omega))
  have hs6 : S < w6.heap.size := lo.lt
  have hz6 := ho6.rng
  have hGm := grown_trans hG hGn
  clear hG hGn lr hR lo
  have hG := hGm
  have hR := hRn
  have lr := lrn
  have lo := lon
  clear hGm hRn lrn lon
  have lon : Loc ((w7.setCell ⟨S, 9, none⟩ (.slice a5 nm.length c5)).setCell ⟨S, 10, none⟩ (.slice a6 tx.length c6)) S #[.int .i64 0, .int .i64 n, .int .i64 r, .int .i64 0, .int .i64 0, .int .i64 pn, .int .i64 pr, .slice a3 ks.length c3, .int .i64 el, .slice a5 nm.length c5, .slice a6 tx.length c6, .bool false] 27 := ((lo.set 9 (.slice a5 nm.length c5)).set 10 (.slice a6 tx.length c6))
  have hsS : w7.grownBy ((w7.setCell ⟨S, 9, none⟩ (.slice a5 nm.length c5)).setCell ⟨S, 10, none⟩ (.slice a6 tx.length c6)) (some S) := (grown_trans (setG w7 S 9 (.slice a5 nm.length c5)) (setG _ S 10 (.slice a6 tx.length c6)))
  have x0 := lo.cell 0
  have x1 := lo.cell 1
  have x2 := lo.cell 2
  have x3 := lo.cell 3
  have x4 := lo.cell 4
  have x5 := lo.cell 5
  have x6 := lo.cell 6
  have x7 := lo.cell 7
  have x8 := lo.cell 8
  have x9 := lo.cell 9
  have x10 := lo.cell 10
  have x11 := lo.cell 11
  have f9 := lo.frozen 9
  have f10 := lo.frozen 10
  have hRn := hR.keepG hsS (by simp; omega) (fun k hk => by simp at hk; omega)
  have lrn := lr.frm (Frm.ofGrown hsS) (by simp; omega)
  have hGn := grow_new hG hsS (fun q hq => by simp at hq; omega)
  replace ho3 := ho3.keepBy hsS (.inr (fun e => by have := (ho3.lt S e).1; omega))
  replace ho5 := ho5.keepBy hsS (.inr (fun e => by have := (ho5.lt S e).1; omega))
  replace ho6 := ho6.keepBy hsS (.inr (fun e => by have := (ho6.lt S e).1; omega))
  have szs1 := hsS.size
  clear hR lr hG lo hsS
  have hR := hRn
  have lr := lrn
  have hG := hGn
  have lo := lon
  clear hRn lrn hGn lon
  have lrz : Loc ((((((((((((((w7.setCell ⟨S, 9, none⟩ (.slice a5 nm.length c5)).setCell ⟨S, 10, none⟩ (.slice a6 tx.length c6)).setCell ⟨w.heap.size, 0, none⟩ (.int .i64 0)).setCell ⟨w.heap.size, 1, none⟩ (.int .i64 n)).setCell ⟨w.heap.size, 2, none⟩ (.int .i64 r)).setCell ⟨w.heap.size, 3, none⟩ (.int .i64 0)).setCell ⟨w.heap.size, 4, none⟩ (.int .i64 0)).setCell ⟨w.heap.size, 5, none⟩ (.int .i64 pn)).setCell ⟨w.heap.size, 6, none⟩ (.int .i64 pr)).setCell ⟨w.heap.size, 7, none⟩ (.slice a3 ks.length c3)).setCell ⟨w.heap.size, 8, none⟩ (.int .i64 el)).setCell ⟨w.heap.size, 9, none⟩ (.slice a5 nm.length c5)).setCell ⟨w.heap.size, 10, none⟩ (.slice a6 tx.length c6)).setCell ⟨w.heap.size, 11, none⟩ (.bool false)) w.heap.size #[.int .i64 0, .int .i64 n, .int .i64 r, .int .i64 0, .int .i64 0, .int .i64 pn, .int .i64 pr, .slice a3 ks.length c3, .int .i64 el, .slice a5 nm.length c5, .slice a6 tx.length c6, .bool false] 27 := set_twelve lr (.int .i64 0) (.int .i64 n) (.int .i64 r) (.int .i64 0) (.int .i64 0) (.int .i64 pn) (.int .i64 pr) (.slice a3 ks.length c3) (.int .i64 el) (.slice a5 nm.length c5) (.slice a6 tx.length c6) (.bool false)
  have hsR : ((w7.setCell ⟨S, 9, none⟩ (.slice a5 nm.length c5)).setCell ⟨S, 10, none⟩ (.slice a6 tx.length c6)).grownBy ((((((((((((((w7.setCell ⟨S, 9, none⟩ (.slice a5 nm.length c5)).setCell ⟨S, 10, none⟩ (.slice a6 tx.length c6)).setCell ⟨w.heap.size, 0, none⟩ (.int .i64 0)).setCell ⟨w.heap.size, 1, none⟩ (.int .i64 n)).setCell ⟨w.heap.size, 2, none⟩ (.int .i64 r)).setCell ⟨w.heap.size, 3, none⟩ (.int .i64 0)).setCell ⟨w.heap.size, 4, none⟩ (.int .i64 0)).setCell ⟨w.heap.size, 5, none⟩ (.int .i64 pn)).setCell ⟨w.heap.size, 6, none⟩ (.int .i64 pr)).setCell ⟨w.heap.size, 7, none⟩ (.slice a3 ks.length c3)).setCell ⟨w.heap.size, 8, none⟩ (.int .i64 el)).setCell ⟨w.heap.size, 9, none⟩ (.slice a5 nm.length c5)).setCell ⟨w.heap.size, 10, none⟩ (.slice a6 tx.length c6)).setCell ⟨w.heap.size, 11, none⟩ (.bool false)) (some w.heap.size) := grow_twelve _ _ (.int .i64 0) (.int .i64 n) (.int .i64 r) (.int .i64 0) (.int .i64 0) (.int .i64 pn) (.int .i64 pr) (.slice a3 ks.length c3) (.int .i64 el) (.slice a5 nm.length c5) (.slice a6 tx.length c6) (.bool false)
  obtain ⟨e0, e1, e2, e3, e4, e5, e6, e7, e8, e9, e10, e11⟩ := lrz.twelve
  obtain ⟨y0, y1, y2, y3, y4, y5, y6, y7, y8, y9, y10, y11⟩ := lo.twelve
  obtain ⟨z0, z1, z2, z3, z4, z5, z6, z7, z8, z9, z10, z11⟩ := lr.twelve
  have g0 := lr.frozen 0
  have g1 := lr.frozen 1
  have g2 := lr.frozen 2
  have g3 := lr.frozen 3
  have g4 := lr.frozen 4
  have g5 := lr.frozen 5
  have g6 := lr.frozen 6
  have g7 := lr.frozen 7
  have g8 := lr.frozen 8
  have g9 := lr.frozen 9
  have g10 := lr.frozen 10
  have g11 := lr.frozen 11
  have hGz := grow_new hG hsR (fun q hq => by simp at hq; omega)
  have hBz := bstepBy (unhide HBL) hGz (fun k hk => by cases hk; exact hgn)
  replace ho3 := (ho3.keepBy hsR (.inr (fun e => by have := (ho3.lt _ e).1; omega))).mono (show w.heap.size ≤ _ by omega)
  replace ho5 := (ho5.keepBy hsR (.inr (fun e => by have := (ho5.lt _ e).1; omega))).mono (show w.heap.size ≤ _ by omega)
  replace ho6 := (ho6.keepBy hsR (.inr (fun e => by have := (ho6.lt _ e).1; omega))).mono (show w.heap.size ≤ _ by omega)
  have hnd : (FB (.slice a3 ks.length c3) ++ FB (.slice a5 nm.length c5) ++ FB (.slice a6 tx.length c6)).Nodup := by
    have e0 : FB (.slice none 0 0) = [] := rfl
    skip
    exact nodup_app (lo := 0) (nodup_app (FB_nodup _) (FB_nodup _) hz3 (hz5.mono (by omega) (Nat.le_refl _))) (FB_nodup _) ((hz3.mono (Nat.zero_le _) (by omega)).app (hz5.mono (Nat.zero_le _) (Nat.le_refl _))) (hz6.mono (by omega) (Nat.le_refl _))
  have KK := hide (show OwnZ ((((((((((((((w7.setCell ⟨S, 9, none⟩ (.slice a5 nm.length c5)).setCell ⟨S, 10, none⟩ (.slice a6 tx.length c6)).setCell ⟨w.heap.size, 0, none⟩ (.int .i64 0)).setCell ⟨w.heap.size, 1, none⟩ (.int .i64 n)).setCell ⟨w.heap.size, 2, none⟩ (.int .i64 r)).setCell ⟨w.heap.size, 3, none⟩ (.int .i64 0)).setCell ⟨w.heap.size, 4, none⟩ (.int .i64 0)).setCell ⟨w.heap.size, 5, none⟩ (.int .i64 pn)).setCell ⟨w.heap.size, 6, none⟩ (.int .i64 pr)).setCell ⟨w.heap.size, 7, none⟩ (.slice a3 ks.length c3)).setCell ⟨w.heap.size, 8, none⟩ (.int .i64 el)).setCell ⟨w.heap.size, 9, none⟩ (.slice a5 nm.length c5)).setCell ⟨w.heap.size, 10, none⟩ (.slice a6 tx.length c6)).setCell ⟨w.heap.size, 11, none⟩ (.bool false)) w.heap.size (.slice a3 ks.length c3) _ ∧ Own ((((((((((((((w7.setCell ⟨S, 9, none⟩ (.slice a5 nm.length c5)).setCell ⟨S, 10, none⟩ (.slice a6 tx.length c6)).setCell ⟨w.heap.size, 0, none⟩ (.int .i64 0)).setCell ⟨w.heap.size, 1, none⟩ (.int .i64 n)).setCell ⟨w.heap.size, 2, none⟩ (.int .i64 r)).setCell ⟨w.heap.size, 3, none⟩ (.int .i64 0)).setCell ⟨w.heap.size, 4, none⟩ (.int .i64 0)).setCell ⟨w.heap.size, 5, none⟩ (.int .i64 pn)).setCell ⟨w.heap.size, 6, none⟩ (.int .i64 pr)).setCell ⟨w.heap.size, 7, none⟩ (.slice a3 ks.length c3)).setCell ⟨w.heap.size, 8, none⟩ (.int .i64 el)).setCell ⟨w.heap.size, 9, none⟩ (.slice a5 nm.length c5)).setCell ⟨w.heap.size, 10, none⟩ (.slice a6 tx.length c6)).setCell ⟨w.heap.size, 11, none⟩ (.bool false)) w.heap.size (.slice a5 nm.length c5) _ ∧ Own ((((((((((((((w7.setCell ⟨S, 9, none⟩ (.slice a5 nm.length c5)).setCell ⟨S, 10, none⟩ (.slice a6 tx.length c6)).setCell ⟨w.heap.size, 0, none⟩ (.int .i64 0)).setCell ⟨w.heap.size, 1, none⟩ (.int .i64 n)).setCell ⟨w.heap.size, 2, none⟩ (.int .i64 r)).setCell ⟨w.heap.size, 3, none⟩ (.int .i64 0)).setCell ⟨w.heap.size, 4, none⟩ (.int .i64 0)).setCell ⟨w.heap.size, 5, none⟩ (.int .i64 pn)).setCell ⟨w.heap.size, 6, none⟩ (.int .i64 pr)).setCell ⟨w.heap.size, 7, none⟩ (.slice a3 ks.length c3)).setCell ⟨w.heap.size, 8, none⟩ (.int .i64 el)).setCell ⟨w.heap.size, 9, none⟩ (.slice a5 nm.length c5)).setCell ⟨w.heap.size, 10, none⟩ (.slice a6 tx.length c6)).setCell ⟨w.heap.size, 11, none⟩ (.bool false)) w.heap.size (.slice a6 tx.length c6) _ ∧ _ ∧ _ from ⟨ho3, ho5, ho6, hnd, hBz⟩)
  clear hR lr hG lo lrz hsR hGz hBz hnd ho3 hz3 ho5 hz5 ho6 hz6
  go_wp2_with fail
  obtain ⟨k1, k2, k3, k4, k5⟩ := unhide KK
  exact bodyPost_ret (v := .agg #[.int .i64 0, .int .i64 n, .int .i64 r, .int .i64 0, .int .i64 0, .int .i64 pn, .int .i64 pr, .slice a3 ks.length c3, .int .i64 el, .slice a5 nm.length c5, .slice a6 tx.length c6, .bool false]) (by simp [results, Try.results46, go_sem, e0, e1, e2, e3, e4, e5, e6, e7, e8, e9, e10, e11]) rfl ⟨_, _, _, rfl, ⟨k1, k2, k3, k4⟩, k5⟩

set_option maxHeartbeats 12800000 in
theorem rop_1 (w0 w : World) (g : Nat) (code : Value) (l : List Int) (p : Int) (h : Rd 65 w0 w g code l p) (hk : (getN l p).1 = 1) :
    Calls Try.prog 46 #[.pointer (some ⟨g, 0, none⟩)] w fun e w' => ∃ k n t, e = .returned (opVal (rdRest rdKeyI l (getN l p).1 (rdId l (getN l p).2).1.1 (rdId l (getN l p).2).1.2 (rdId l (getN l p).2).2).1 k n t) ∧ OwOp w' w.heap.size (rdRest rdKeyI l (getN l p).1 (rdId l (getN l p).2).1.1 (rdId l (getN l p).2).1.2 (rdId l (getN l p).2).2).1 k n t ∧ Below w0.heap.size w0 w' := by
  have hgl := h.box.lt
  have hnew := h.below.size
  have HBL := hide h.below
  have hgn := h.new
  have H0 := hide (fun W (hW : Rd 65 w0 W g code l p) => rnum_any w0 W g code l p hW)
  have H1 := hide (fun W (hW : Rd 65 w0 W g code l (getN l p).2) => rid_any w0 W g code l (getN l p).2 hW)
  have H2 := hide (fun W (hW : Rd 65 w0 W g code l (rdId l (getN l p).2).2) => rid_any w0 W g code l (rdId l (getN l p).2).2 hW)
  have H3 := hide (fun W (hW : Rd 65 w0 W g code l (rdId l (rdId l (getN l p).2).2).2) => rid_any w0 W g code l (rdId l (rdId l (getN l p).2).2).2 hW)
  have H4 := hide (fun W (hW : Rd 65 w0 W g code l (rdId l (rdId l (rdId l (getN l p).2).2).2).2) => rkey_any w0 W g code l (rdId l (rdId l (rdId l (getN l p).2).2).2).2 hW)
  have hR := h.keep ((Below.refl w.heap.size w).alloc (Nat.le_refl _) (.cells #[.int .i64 0, .int .i64 0, .int .i64 0, .int .i64 0, .int .i64 0, .int .i64 0, .int .i64 0, .slice none 0 0, .int .i64 0, .slice none 0 0, .slice none 0 0, .bool false] 27))
  have lr := Loc.made w #[.int .i64 0, .int .i64 0, .int .i64 0, .int .i64 0, .int .i64 0, .int .i64 0, .int .i64 0, .slice none 0 0, .int .i64 0, .slice none 0 0, .slice none 0 0, .bool false] 27
  have hG := Below.toGrown ((Below.refl w.heap.size w).alloc (Nat.le_refl _) (.cells #[.int .i64 0, .int .i64 0, .int .i64 0, .int .i64 0, .int .i64 0, .int .i64 0, .int .i64 0, .slice none 0 0, .int .i64 0, .slice none 0 0, .slice none 0 0, .bool false] 27)) (some g)
  clear h
  unfold rdRest
  rw [hk, if_neg (by decide), if_pos rfl]
  generalize (rdKeyI l (rdId l (rdId l (rdId l (getN l p).2).2).2).2) = q4 at *
  generalize (rdId l (rdId l (rdId l (getN l p).2).2).2) = q3 at *
  generalize (rdId l (rdId l (getN l p).2).2) = q2 at *
  generalize (rdId l (getN l p).2) = q1 at *
  generalize (getN l p) = q0 at *
  obtain ⟨kz, p1⟩ := q0
  obtain ⟨⟨n, r⟩, p2⟩ := q1
  obtain ⟨⟨nn, nr⟩, p3⟩ := q2
  obtain ⟨⟨pn, pr⟩, p4⟩ := q3
  obtain ⟨ks, p5⟩ := q4
  simp only at *
  subst hk
  have LL := hide (And.intro hR (And.intro lr hG))
  clear hR lr hG
  go_enter Try.func46, Try.ntmps46
  go_wp2_with fail
  obtain ⟨hR, lr, hG⟩ := unhide LL
  clear LL
  generalize (w.alloc (.cells #[.int .i64 0, .int .i64 0, .int .i64 0, .int .i64 0, .int .i64 0, .int .i64 0, .int .i64 0, .slice none 0 0, .int .i64 0, .slice none 0 0, .slice none 0 0, .bool false] 27)) = wa at *
  refine (unhide H0 wa hR).mono ?_
  rintro e w1 ⟨rfl, hRn, hGn⟩
  have sz0 := hGn.size
  have lrn := lr.frm (Frm.ofGrown hGn) (by simp; omega)
  have hGm := grown_trans hG hGn
  clear hG hGn lr hR
  have hG := hGm
  have hR := hRn
  have lr := lrn
  clear hGm hRn lrn
  go_wp2_with fail
  refine (unhide H1 w1 hR).mono ?_
  rintro e w2 ⟨rfl, hRn, hGn⟩
  have sz1 := hGn.size
  have lrn := lr.frm (Frm.ofGrown hGn) (by simp; omega)
  have hGm := grown_trans hG hGn
  clear hG hGn lr hR
  have hG := hGm
  have hR := hRn
  have lr := lrn
  clear hGm hRn lrn
  have hAb := (Below.refl w2.heap.size w2).alloc (Nat.le_refl _) (.cells #[.int .i64 1, .int .i64 n, .int .i64 r, .int .i64 0, .int .i64 0, .int .i64 0, .int .i64 0, .slice none 0 0, .int .i64 0, .slice none 0 0, .slice none 0 0, .bool false] 27)
  have lo := Loc.made w2 #[.int .i64 1, .int .i64 n, .int .i64 r, .int .i64 0, .int .i64 0, .int .i64 0, .int .i64 0, .slice none 0 0, .int .i64 0, .slice none 0 0, .slice none 0 0, .bool false] 27
  have hrS := lr.lt
  have hgS := hR.box.lt
  have LL := hide (And.intro (hR.keep hAb) (And.intro (lr.all hAb) (And.intro (grown_trans hG (Below.toGrown hAb (some g))) lo)))
  clear hR lr hG hAb lo
  go_wp2_with fail
  obtain ⟨hR, lr, hG, lo⟩ := unhide LL
  clear LL
  generalize (w2.alloc (.cells #[.int .i64 1, .int .i64 n, .int .i64 r, .int .i64 0, .int .i64 0, .int .i64 0, .int .i64 0, .slice none 0 0, .int .i64 0, .slice none 0 0, .slice none 0 0, .bool false] 27)) = wb at *
  generalize w2.heap.size = S at *
  refine (unhide H2 wb hR).mono ?_
  rintro e w3 ⟨rfl, hRn, hGn⟩
  have sz2 := hGn.size
  have lrn := lr.frm (Frm.ofGrown hGn) (by simp; omega)
  have lon := lo.frm (Frm.ofGrown hGn) (by simp; omega)
  have hGm := grown_trans hG hGn
  clear hG hGn lr hR lo
  have hG := hGm
  have hR := hRn
  have lr := lrn
  have lo := lon
  clear hGm hRn lrn lon
  go_wp2_with fail
  refine (unhide H3 w3 hR).mono ?_
  rintro e w4 ⟨rfl, hRn, hGn⟩
  have sz3 := hGn.size
  have lrn := lr.frm (Frm.ofGrown hGn) (by simp; omega)
  have lon := lo.frm (Frm.ofGrown hGn) (by simp; omega)
  have hGm := grown_trans hG hGn
  clear hG hGn lr hR lo
  have hG := hGm
  have hR := hRn
  have lr := lrn
  have lo := lon
  clear hGm hRn lrn lon
  go_wp2_with fail
  refine (unhide H4 w4 hR).mono ?_
  rintro e w5 ⟨a4, c4, k4, rfl, ho4, hk4, _, hRn, hGn⟩
  obtain rfl := unhide hk4
  have sz4 := hGn.size
  have lrn := lr.frm (Frm.ofGrown hGn) (by simp; omega)
  have lon := lo.frm (Frm.ofGrown hGn) (by simp; omega)
  have hs4 : S < w4.heap.size := lo.lt
  have hz4 := ho4.rng
  have hGm := grown_trans hG hGn
  clear hG hGn lr hR lo
  have hG := hGm
  have hR := hRn
  have lr := lrn
  have lo := lon
  clear hGm hRn lrn lon
  have lon : Loc (((((w5.setCell ⟨S, 3, none⟩ (.int .i64 nn)).setCell ⟨S, 4, none⟩ (.int .i64 nr)).setCell ⟨S, 5, none⟩ (.int .i64 pn)).setCell ⟨S, 6, none⟩ (.int .i64 pr)).setCell ⟨S, 7, none⟩ (.slice a4 ks.length c4)) S #[.int .i64 1, .int .i64 n, .int .i64 r, .int .i64 nn, .int .i64 nr, .int .i64 pn, .int .i64 pr, .slice a4 ks.length c4, .int .i64 0, .slice none 0 0, .slice none 0 0, .bool false] 27 := (((((lo.set 3 (.int .i64 nn)).set 4 (.int .i64 nr)).set 5 (.int .i64 pn)).set 6 (.int .i64 pr)).set 7 (.slice a4 ks.length c4))
  have hsS : w5.grownBy (((((w5.setCell ⟨S, 3, none⟩ (.int .i64 nn)).setCell ⟨S, 4, none⟩ (.int .i64 nr)).setCell ⟨S, 5, none⟩ (.int .i64 pn)).setCell ⟨S, 6, none⟩ (.int .i64 pr)).setCell ⟨S, 7, none⟩ (.slice a4 ks.length c4)) (some S) := (grown_trans (grown_trans (grown_trans (grown_trans (setG w5 S 3 (.int .i64 nn)) (setG _ S 4 (.int .i64 nr))) (setG _ S 5 (.int .i64 pn))) (setG _ S 6 (.int .i64 pr))) (setG _ S 7 (.slice a4 ks.length c4)))
  have x0 := lo.cell 0
  have x1 := lo.cell 1
  have x2 := lo.cell 2
  have x3 := lo.cell 3
  have x4 := lo.cell 4
  have x5 := lo.cell 5
  have x6 := lo.cell 6
  have x7 := lo.cell 7
  have x8 := lo.cell 8
  have x9 := lo.cell 9
  have x10 := lo.cell 10
  have x11 := lo.cell 11
  have f3 := lo.frozen 3
  have f4 := lo.frozen 4
  have f5 := lo.frozen 5
  have f6 := lo.frozen 6
  have f7 := lo.frozen 7
  have hRn := hR.keepG hsS (by simp; omega) (fun k hk => by simp at hk; omega)
  have lrn := lr.frm (Frm.ofGrown hsS) (by simp; omega)
  have hGn := grow_new hG hsS (fun q hq => by simp at hq; omega)
  replace ho4 := ho4.keepBy hsS (.inr (fun e => by have := (ho4.lt S e).1; omega))
  have szs0 := hsS.size
  clear hR lr hG lo hsS
  have hR := hRn
  have lr := lrn
  have hG := hGn
  have lo := lon
  clear hRn lrn hGn lon
  have lrz : Loc (((((((((((((((((w5.setCell ⟨S, 3, none⟩ (.int .i64 nn)).setCell ⟨S, 4, none⟩ (.int .i64 nr)).setCell ⟨S, 5, none⟩ (.int .i64 pn)).setCell ⟨S, 6, none⟩ (.int .i64 pr)).setCell ⟨S, 7, none⟩ (.slice a4 ks.length c4)).setCell ⟨w.heap.size, 0, none⟩ (.int .i64 1)).setCell ⟨w.heap.size, 1, none⟩ (.int .i64 n)).setCell ⟨w.heap.size, 2, none⟩ (.int .i64 r)).setCell ⟨w.heap.size, 3, none⟩ (.int .i64 nn)).setCell ⟨w.heap.size, 4, none⟩ (.int .i64 nr)).setCell ⟨w.heap.size, 5, none⟩ (.int .i64 pn)).setCell ⟨w.heap.size, 6, none⟩ (.int .i64 pr)).setCell ⟨w.heap.size, 7, none⟩ (.slice a4 ks.length c4)).setCell ⟨w.heap.size, 8, none⟩ (.int .i64 0)).setCell ⟨w.heap.size, 9, none⟩ (.slice none 0 0)).setCell ⟨w.heap.size, 10, none⟩ (.slice none 0 0)).setCell ⟨w.heap.size, 11, none⟩ (.bool false)) w.heap.size #[.int .i64 1, .int .i64 n, .int .i64 r, .int .i64 nn, .int .i64 nr, .int .i64 pn, .int .i64 pr, .slice a4 ks.length c4, .int .i64 0, .slice none 0 0, .slice none 0 0, .bool false] 27 := set_twelve lr (.int .i64 1) (.int .i64 n) (.int .i64 r) (.int .i64 nn) (.int .i64 nr) (.int .i64 pn) (.int .i64 pr) (.slice a4 ks.length c4) (.int .i64 0) (.slice none 0 0) (.slice none 0 0) (.bool false)
  have hsR : (((((w5.setCell ⟨S, 3, none⟩ (.int .i64 nn)).setCell ⟨S, 4, none⟩ (.int .i64 nr)).setCell ⟨S, 5, none⟩ (.int .i64 pn)).setCell ⟨S, 6, none⟩ (.int .i64 pr)).setCell ⟨S, 7, none⟩ (.slice a4 ks.length c4)).grownBy (((((((((((((((((w5.setCell ⟨S, 3, none⟩ (.int .i64 nn)).setCell ⟨S, 4, none⟩ (.int .i64 nr)).setCell ⟨S, 5, none⟩ (.int .i64 pn)).setCell ⟨S, 6, none⟩ (.int .i64 pr)).setCell ⟨S, 7, none⟩ (.slice a4 ks.length c4)).setCell ⟨w.heap.size, 0, none⟩ (.int .i64 1)).setCell ⟨w.heap.size, 1, none⟩ (.int .i64 n)).setCell ⟨w.heap.size, 2, none⟩ (.int .i64 r)).setCell ⟨w.heap.size, 3, none⟩ (.int .i64 nn)).setCell ⟨w.heap.size, 4, none⟩ (.int .i64 nr)).setCell ⟨w.heap.size, 5, none⟩ (.int .i64 pn)).setCell ⟨w.heap.size, 6, none⟩ (.int .i64 pr)).setCell ⟨w.heap.size, 7, none⟩ (.slice a4 ks.length c4)).setCell ⟨w.heap.size, 8, none⟩ (.int .i64 0)).setCell ⟨w.heap.size, 9, none⟩ (.slice none 0 0)).setCell ⟨w.heap.size, 10, none⟩ (.slice none 0 0)).setCell ⟨w.heap.size, 11, none⟩ (.bool false)) (some w.heap.size) := grow_twelve _ _ (.int .i64 1) (.int .i64 n) (.int .i64 r) (.int .i64 nn) (.int .i64 nr) (.int .i64 pn) (.int .i64 pr) (.slice a4 ks.length c4) (.int .i64 0) (.slice none 0 0) (.slice none 0 0) (.bool false)
  obtain ⟨e0, e1, e2, e3, e4, e5, e6, e7, e8, e9, e10, e11⟩ := lrz.twelve
  obtain ⟨y0, y1, y2, y3, y4, y5, y6, y7, y8, y9, y10, y11⟩ := lo.twelve
  obtain ⟨z0, z1, z2, z3, z4, z5, z6, z7, z8, z9, z10, z11⟩ := lr.twelve
  have g0 := lr.frozen 0
  have g1 := lr.frozen 1
  have g2 := lr.frozen 2
  have g3 := lr.frozen 3
  have g4 := lr.frozen 4
  have g5 := lr.frozen 5
  have g6 := lr.frozen 6
  have g7 := lr.frozen 7
  have g8 := lr.frozen 8
  have g9 := lr.frozen 9
  have g10 := lr.frozen 10
  have g11 := lr.frozen 11
  have hGz := grow_new hG hsR (fun q hq => by simp at hq; omega)
  have hBz := bstepBy (unhide HBL) hGz (fun k hk => by cases hk; exact hgn)
  replace ho4 := (ho4.keepBy hsR (.inr (fun e => by have := (ho4.lt _ e).1; omega))).mono (show w.heap.size ≤ _ by omega)
  have hnd : (FB (.slice a4 ks.length c4) ++ FB (.slice none 0 0) ++ FB (.slice none 0 0)).Nodup := by
    have e0 : FB (.slice none 0 0) = [] := rfl
    simp only [e0, List.append_nil]
    exact FB_nodup _
  have KK := hide (show OwnZ (((((((((((((((((w5.setCell ⟨S, 3, none⟩ (.int .i64 nn)).setCell ⟨S, 4, none⟩ (.int .i64 nr)).setCell ⟨S, 5, none⟩ (.int .i64 pn)).setCell ⟨S, 6, none⟩ (.int .i64 pr)).setCell ⟨S, 7, none⟩ (.slice a4 ks.length c4)).setCell ⟨w.heap.size, 0, none⟩ (.int .i64 1)).setCell ⟨w.heap.size, 1, none⟩ (.int .i64 n)).setCell ⟨w.heap.size, 2, none⟩ (.int .i64 r)).setCell ⟨w.heap.size, 3, none⟩ (.int .i64 nn)).setCell ⟨w.heap.size, 4, none⟩ (.int .i64 nr)).setCell ⟨w.heap.size, 5, none⟩ (.int .i64 pn)).setCell ⟨w.heap.size, 6, none⟩ (.int .i64 pr)).setCell ⟨w.heap.size, 7, none⟩ (.slice a4 ks.length c4)).setCell ⟨w.heap.size, 8, none⟩ (.int .i64 0)).setCell ⟨w.heap.size, 9, none⟩ (.slice none 0 0)).setCell ⟨w.heap.size, 10, none⟩ (.slice none 0 0)).setCell ⟨w.heap.size, 11, none⟩ (.bool false)) w.heap.size (.slice a4 ks.length c4) _ ∧ Own (((((((((((((((((w5.setCell ⟨S, 3, none⟩ (.int .i64 nn)).setCell ⟨S, 4, none⟩ (.int .i64 nr)).setCell ⟨S, 5, none⟩ (.int .i64 pn)).setCell ⟨S, 6, none⟩ (.int .i64 pr)).setCell ⟨S, 7, none⟩ (.slice a4 ks.length c4)).setCell ⟨w.heap.size, 0, none⟩ (.int .i64 1)).setCell ⟨w.heap.size, 1, none⟩ (.int .i64 n)).setCell ⟨w.heap.size, 2, none⟩ (.int .i64 r)).setCell ⟨w.heap.size, 3, none⟩ (.int .i64 nn)).setCell ⟨w.heap.size, 4, none⟩ (.int .i64 nr)).setCell ⟨w.heap.size, 5, none⟩ (.int .i64 pn)).setCell ⟨w.heap.size, 6, none⟩ (.int .i64 pr)).setCell ⟨w.heap.size, 7, none⟩ (.slice a4 ks.length c4)).setCell ⟨w.heap.size, 8, none⟩ (.int .i64 0)).setCell ⟨w.heap.size, 9, none⟩ (.slice none 0 0)).setCell ⟨w.heap.size, 10, none⟩ (.slice none 0 0)).setCell ⟨w.heap.size, 11, none⟩ (.bool false)) w.heap.size (.slice none 0 0) _ ∧ Own (((((((((((((((((w5.setCell ⟨S, 3, none⟩ (.int .i64 nn)).setCell ⟨S, 4, none⟩ (.int .i64 nr)).setCell ⟨S, 5, none⟩ (.int .i64 pn)).setCell ⟨S, 6, none⟩ (.int .i64 pr)).setCell ⟨S, 7, none⟩ (.slice a4 ks.length c4)).setCell ⟨w.heap.size, 0, none⟩ (.int .i64 1)).setCell ⟨w.heap.size, 1, none⟩ (.int .i64 n)).setCell ⟨w.heap.size, 2, none⟩ (.int .i64 r)).setCell ⟨w.heap.size, 3, none⟩ (.int .i64 nn)).setCell ⟨w.heap.size, 4, none⟩ (.int .i64 nr)).setCell ⟨w.heap.size, 5, none⟩ (.int .i64 pn)).setCell ⟨w.heap.size, 6, none⟩ (.int .i64 pr)).setCell ⟨w.heap.size, 7, none⟩ (.slice a4 ks.length c4)).setCell ⟨w.heap.size, 8, none⟩ (.int .i64 0)).setCell ⟨w.heap.size, 9, none⟩ (.slice none 0 0)).setCell ⟨w.heap.size, 10, none⟩ (.slice none 0 0)).setCell ⟨w.heap.size, 11, none⟩ (.bool false)) w.heap.size (.slice none 0 0) _ ∧ _ ∧ _ from ⟨ho4, own_nilB _ _, own_nilB _ _, hnd, hBz⟩)
  clear hR lr hG lo lrz hsR hGz hBz hnd ho4 hz4
  go_wp2_with fail
  obtain ⟨k1, k2, k3, k4, k5⟩ := unhide KK
  exact bodyPost_ret (v := .agg #[.int .i64 1, .int .i64 n, .int .i64 r, .int .i64 nn, .int .i64 nr, .int .i64 pn, .int .i64 pr, .slice a4 ks.length c4, .int .i64 0, .slice none 0 0, .slice none 0 0, .bool false]) (by simp [results, Try.results46, go_sem, e0, e1, e2, e3, e4, e5, e6, e7, e8, e9, e10, e11]) rfl ⟨_, _, _, rfl, ⟨k1, k2, k3, k4⟩, k5⟩

set_option maxHeartbeats 12800000 in
theorem rop_g (w0 w : World) (g : Nat) (code : Value) (l : List Int) (p : Int) (h : Rd 65 w0 w g code l p) (hk : (getN l p).1 = 3) (hg : (getN l (getT l (rdId l (rdId l (getN l p).2).2).2).2).1 = 1) :
    Calls Try.prog 46 #[.pointer (some ⟨g, 0, none⟩)] w fun e w' => ∃ k n t, e = .returned (opVal (rdRest rdKeyI l (getN l p).1 (rdId l (getN l p).2).1.1 (rdId l (getN l p).2).1.2 (rdId l (getN l p).2).2).1 k n t) ∧ OwOp w' w.heap.size (rdRest rdKeyI l (getN l p).1 (rdId l (getN l p).2).1.1 (rdId l (getN l p).2).1.2 (rdId l (getN l p).2).2).1 k n t ∧ Below w0.heap.size w0 w' := by
  have hgl := h.box.lt
  have hnew := h.below.size
  have HBL := hide h.below
  have hgn := h.new
  have H0 := hide (fun W (hW : Rd 65 w0 W g code l p) => rnum_any w0 W g code l p hW)
  have H1 := hide (fun W (hW : Rd 65 w0 W g code l (getN l p).2) => rid_any w0 W g code l (getN l p).2 hW)
  have H2 := hide (fun W (hW : Rd 65 w0 W g code l (rdId l (getN l p).2).2) => rid_any w0 W g code l (rdId l (getN l p).2).2 hW)
  have H3 := hide (fun W (hW : Rd 65 w0 W g code l (rdId l (rdId l (getN l p).2).2).2) => rtext_any w0 W g code l (rdId l (rdId l (getN l p).2).2).2 hW)
  have H4 := hide (fun W (hW : Rd 65 w0 W g code l (getT l (rdId l (rdId l (getN l p).2).2).2).2) => rnum_any w0 W g code l (getT l (rdId l (rdId l (getN l p).2).2).2).2 hW)
  have hR := h.keep ((Below.refl w.heap.size w).alloc (Nat.le_refl _) (.cells #[.int .i64 0, .int .i64 0, .int .i64 0, .int .i64 0, .int .i64 0, .int .i64 0, .int .i64 0, .slice none 0 0, .int .i64 0, .slice none 0 0, .slice none 0 0, .bool false] 27))
  have lr := Loc.made w #[.int .i64 0, .int .i64 0, .int .i64 0, .int .i64 0, .int .i64 0, .int .i64 0, .int .i64 0, .slice none 0 0, .int .i64 0, .slice none 0 0, .slice none 0 0, .bool false] 27
  have hG := Below.toGrown ((Below.refl w.heap.size w).alloc (Nat.le_refl _) (.cells #[.int .i64 0, .int .i64 0, .int .i64 0, .int .i64 0, .int .i64 0, .int .i64 0, .int .i64 0, .slice none 0 0, .int .i64 0, .slice none 0 0, .slice none 0 0, .bool false] 27)) (some g)
  clear h
  unfold rdRest
  rw [hk, if_neg (by decide), if_neg (by decide), if_neg (by decide), if_pos rfl, if_pos hg]
  generalize (getN l (getT l (rdId l (rdId l (getN l p).2).2).2).2) = q4 at *
  generalize (getT l (rdId l (rdId l (getN l p).2).2).2) = q3 at *
  generalize (rdId l (rdId l (getN l p).2).2) = q2 at *
  generalize (rdId l (getN l p).2) = q1 at *
  generalize (getN l p) = q0 at *
  obtain ⟨kz, p1⟩ := q0
  obtain ⟨⟨n, r⟩, p2⟩ := q1
  obtain ⟨⟨nn, nr⟩, p3⟩ := q2
  obtain ⟨nm, p4⟩ := q3
  obtain ⟨gz, p5⟩ := q4
  simp only at *
  subst hk
  subst hg
  have LL := hide (And.intro hR (And.intro lr hG))
  clear hR lr hG
  go_enter Try.func46, Try.ntmps46
  go_wp2_with fail
  obtain ⟨hR, lr, hG⟩ := unhide LL
  clear LL
  generalize (w.alloc (.cells #[.int .i64 0, .int .i64 0, .int .i64 0, .int .i64 0, .int .i64 0, .int .i64 0, .int .i64 0, .slice none 0 0, .int .i64 0, .slice none 0 0, .slice none 0 0, .bool false] 27)) = wa at *
  refine (unhide H0 wa hR).mono ?_
  rintro e w1 ⟨rfl, hRn, hGn⟩
  have sz0 := hGn.size
  have lrn := lr.frm (Frm.ofGrown hGn) (by simp; omega)
  have hGm := grown_trans hG hGn
  clear hG hGn lr hR
  have hG := hGm
  have hR := hRn
  have lr := lrn
  clear hGm hRn lrn
  go_wp2_with fail
  refine (unhide H1 w1 hR).mono ?_
  rintro e w2 ⟨rfl, hRn, hGn⟩
  have sz1 := hGn.size
  have lrn := lr.frm (Frm.ofGrown hGn) (by simp; omega)
  have hGm := grown_trans hG hGn
  clear hG hGn lr hR
  have hG := hGm
  have hR := hRn
  have lr := lrn
  clear hGm hRn lrn
  have hAb := (Below.refl w2.heap.size w2).alloc (Nat.le_refl _) (.cells #[.int .i64 3, .int .i64 n, .int .i64 r, .int .i64 0, .int .i64 0, .int .i64 0, .int .i64 0, .slice none 0 0, .int .i64 0, .slice none 0 0, .slice none 0 0, .bool false] 27)
  have lo := Loc.made w2 #[.int .i64 3, .int .i64 n, .int .i64 r, .int .i64 0, .int .i64 0, .int .i64 0, .int .i64 0, .slice none 0 0, .int .i64 0, .slice none 0 0, .slice none 0 0, .bool false] 27
  have hrS := lr.lt
  have hgS := hR.box.lt
  have LL := hide (And.intro (hR.keep hAb) (And.intro (lr.all hAb) (And.intro (grown_trans hG (Below.toGrown hAb (some g))) lo)))
  clear hR lr hG hAb lo
  go_wp2_with fail
  obtain ⟨hR, lr, hG, lo⟩ := unhide LL
  clear LL
  generalize (w2.alloc (.cells #[.int .i64 3, .int .i64 n, .int .i64 r, .int .i64 0, .int .i64 0, .int .i64 0, .int .i64 0, .slice none 0 0, .int .i64 0, .slice none 0 0, .slice none 0 0, .bool false] 27)) = wb at *
  generalize w2.heap.size = S at *
  refine (unhide H2 wb hR).mono ?_
  rintro e w3 ⟨rfl, hRn, hGn⟩
  have sz2 := hGn.size
  have lrn := lr.frm (Frm.ofGrown hGn) (by simp; omega)
  have lon := lo.frm (Frm.ofGrown hGn) (by simp; omega)
  have hGm := grown_trans hG hGn
  clear hG hGn lr hR lo
  have hG := hGm
  have hR := hRn
  have lr := lrn
  have lo := lon
  clear hGm hRn lrn lon
  go_wp2_with fail
  refine (unhide H3 w3 hR).mono ?_
  rintro e w4 ⟨a3, c3, rfl, ho3, hRn, hGn⟩
  have sz3 := hGn.size
  have lrn := lr.frm (Frm.ofGrown hGn) (by simp; omega)
  have lon := lo.frm (Frm.ofGrown hGn) (by simp; omega)
  have hs3 : S < w3.heap.size := lo.lt
  have hz3 := ho3.rng
  have hGm := grown_trans hG hGn
  clear hG hGn lr hR lo
  have hG := hGm
  have hR := hRn
  have lr := lrn
  have lo := lon
  clear hGm hRn lrn lon
  go_wp2_with fail
  refine (unhide H4 w4 hR).mono ?_
  rintro e w5 ⟨rfl, hRn, hGn⟩
  have sz4 := hGn.size
  have lrn := lr.frm (Frm.ofGrown hGn) (by simp; omega)
  have lon := lo.frm (Frm.ofGrown hGn) (by simp; omega)
  replace ho3 := ho3.keepBy hGn (.inr (fun e => by have := (ho3.lt g e).1; omega))
  have hGm := grown_trans hG hGn
  clear hG hGn lr hR lo
  have hG := hGm
  have hR := hRn
  have lr := lrn
  have lo := lon
  clear hGm hRn lrn lon
  have lon : Loc ((((w5.setCell ⟨S, 3, none⟩ (.int .i64 nn)).setCell ⟨S, 4, none⟩ (.int .i64 nr)).setCell ⟨S, 9, none⟩ (.slice a3 nm.length c3)).setCell ⟨S, 11, none⟩ (.bool true)) S #[.int .i64 3, .int .i64 n, .int .i64 r, .int .i64 nn, .int .i64 nr, .int .i64 0, .int .i64 0, .slice none 0 0, .int .i64 0, .slice a3 nm.length c3, .slice none 0 0, .bool true] 27 := ((((lo.set 3 (.int .i64 nn)).set 4 (.int .i64 nr)).set 9 (.slice a3 nm.length c3)).set 11 (.bool true))
  have hsS : w5.grownBy ((((w5.setCell ⟨S, 3, none⟩ (.int .i64 nn)).setCell ⟨S, 4, none⟩ (.int .i64 nr)).setCell ⟨S, 9, none⟩ (.slice a3 nm.length c3)).setCell ⟨S, 11, none⟩ (.bool true)) (some S) := (grown_trans (grown_trans (grown_trans (setG w5 S 3 (.int .i64 nn)) (setG _ S 4 (.int .i64 nr))) (setG _ S 9 (.slice a3 nm.length c3))) (setG _ S 11 (.bool true)))
  have x0 := lo.cell 0
  have x1 := lo.cell 1
  have x2 := lo.cell 2
  have x3 := lo.cell 3
  have x4 := lo.cell 4
  have x5 := lo.cell 5
  have x6 := lo.cell 6
  have x7 := lo.cell 7
  have x8 := lo.cell 8
  have x9 := lo.cell 9
  have x10 := lo.cell 10
  have x11 := lo.cell 11
  have f3 := lo.frozen 3
  have f4 := lo.frozen 4
  have f9 := lo.frozen 9
  have f11 := lo.frozen 11
  have hRn := hR.keepG hsS (by simp; omega) (fun k hk => by simp at hk; omega)
  have lrn := lr.frm (Frm.ofGrown hsS) (by simp; omega)
  have hGn := grow_new hG hsS (fun q hq => by simp at hq; omega)
  replace ho3 := ho3.keepBy hsS (.inr (fun e => by have := (ho3.lt S e).1; omega))
  have szs0 := hsS.size
  clear hR lr hG lo hsS
  have hR := hRn
  have lr := lrn
  have hG := hGn
  have lo := lon
  clear hRn lrn hGn lon
  have lrz : Loc ((((((((((((((((w5.setCell ⟨S, 3, none⟩ (.int .i64 nn)).setCell ⟨S, 4, none⟩ (.int .i64 nr)).setCell ⟨S, 9, none⟩ (.slice a3 nm.length c3)).setCell ⟨S, 11, none⟩ (.bool true)).setCell ⟨w.heap.size, 0, none⟩ (.int .i64 3)).setCell ⟨w.heap.size, 1, none⟩ (.int .i64 n)).setCell ⟨w.heap.size, 2, none⟩ (.int .i64 r)).setCell ⟨w.heap.size, 3, none⟩ (.int .i64 nn)).setCell ⟨w.heap.size, 4, none⟩ (.int .i64 nr)).setCell ⟨w.heap.size, 5, none⟩ (.int .i64 0)).setCell ⟨w.heap.size, 6, none⟩ (.int .i64 0)).setCell ⟨w.heap.size, 7, none⟩ (.slice none 0 0)).setCell ⟨w.heap.size, 8, none⟩ (.int .i64 0)).setCell ⟨w.heap.size, 9, none⟩ (.slice a3 nm.length c3)).setCell ⟨w.heap.size, 10, none⟩ (.slice none 0 0)).setCell ⟨w.heap.size, 11, none⟩ (.bool true)) w.heap.size #[.int .i64 3, .int .i64 n, .int .i64 r, .int .i64 nn, .int .i64 nr, .int .i64 0, .int .i64 0, .slice none 0 0, .int .i64 0, .slice a3 nm.length c3, .slice none 0 0, .bool true] 27 := set_twelve lr (.int .i64 3) (.int .i64 n) (.int .i64 r) (.int .i64 nn) (.int .i64 nr) (.int .i64 0) (.int .i64 0) (.slice none 0 0) (.int .i64 0) (.slice a3 nm.length c3) (.slice none 0 0) (.bool true)
  have hsR : ((((w5.setCell ⟨S, 3, none⟩ (.int .i64 nn)).setCell ⟨S, 4, none⟩ (.int .i64 nr)).setCell ⟨S, 9, none⟩ (.slice a3 nm.length c3)).setCell ⟨S, 11, none⟩ (.bool true)).grownBy ((((((((((((((((w5.setCell ⟨S, 3, none⟩ (.int .i64 nn)).setCell ⟨S, 4, none⟩ (.int .i64 nr)).setCell ⟨S, 9, none⟩ (.slice a3 nm.length c3)).setCell ⟨S, 11, none⟩ (.bool true)).setCell ⟨w.heap.size, 0, none⟩ (.int .i64 3)).setCell ⟨w.heap.size, 1, none⟩ (.int .i64 n)).setCell ⟨w.heap.size, 2, none⟩ (.int .i64 r)).setCell ⟨w.heap.size, 3, none⟩ (.int .i64 nn)).setCell ⟨w.heap.size, 4, none⟩ (.int .i64 nr)).setCell ⟨w.heap.size, 5, none⟩ (.int .i64 0)).setCell ⟨w.heap.size, 6, none⟩ (.int .i64 0)).setCell ⟨w.heap.size, 7, none⟩ (.slice none 0 0)).setCell ⟨w.heap.size, 8, none⟩ (.int .i64 0)).setCell ⟨w.heap.size, 9, none⟩ (.slice a3 nm.length c3)).setCell ⟨w.heap.size, 10, none⟩ (.slice none 0 0)).setCell ⟨w.heap.size, 11, none⟩ (.bool true)) (some w.heap.size) := grow_twelve _ _ (.int .i64 3) (.int .i64 n) (.int .i64 r) (.int .i64 nn) (.int .i64 nr) (.int .i64 0) (.int .i64 0) (.slice none 0 0) (.int .i64 0) (.slice a3 nm.length c3) (.slice none 0 0) (.bool true)
  obtain ⟨e0, e1, e2, e3, e4, e5, e6, e7, e8, e9, e10, e11⟩ := lrz.twelve
  obtain ⟨y0, y1, y2, y3, y4, y5, y6, y7, y8, y9, y10, y11⟩ := lo.twelve
  obtain ⟨z0, z1, z2, z3, z4, z5, z6, z7, z8, z9, z10, z11⟩ := lr.twelve
  have g0 := lr.frozen 0
  have g1 := lr.frozen 1
  have g2 := lr.frozen 2
  have g3 := lr.frozen 3
  have g4 := lr.frozen 4
  have g5 := lr.frozen 5
  have g6 := lr.frozen 6
  have g7 := lr.frozen 7
  have g8 := lr.frozen 8
  have g9 := lr.frozen 9
  have g10 := lr.frozen 10
  have g11 := lr.frozen 11
  have hGz := grow_new hG hsR (fun q hq => by simp at hq; omega)
  have hBz := bstepBy (unhide HBL) hGz (fun k hk => by cases hk; exact hgn)
  replace ho3 := (ho3.keepBy hsR (.inr (fun e => by have := (ho3.lt _ e).1; omega))).mono (show w.heap.size ≤ _ by omega)
  have hnd : (FB (.slice none 0 0) ++ FB (.slice a3 nm.length c3) ++ FB (.slice none 0 0)).Nodup := by
    have e0 : FB (.slice none 0 0) = [] := rfl
    simp only [e0, List.nil_append, List.append_nil]
    exact FB_nodup _
  have KK := hide (show OwnZ ((((((((((((((((w5.setCell ⟨S, 3, none⟩ (.int .i64 nn)).setCell ⟨S, 4, none⟩ (.int .i64 nr)).setCell ⟨S, 9, none⟩ (.slice a3 nm.length c3)).setCell ⟨S, 11, none⟩ (.bool true)).setCell ⟨w.heap.size, 0, none⟩ (.int .i64 3)).setCell ⟨w.heap.size, 1, none⟩ (.int .i64 n)).setCell ⟨w.heap.size, 2, none⟩ (.int .i64 r)).setCell ⟨w.heap.size, 3, none⟩ (.int .i64 nn)).setCell ⟨w.heap.size, 4, none⟩ (.int .i64 nr)).setCell ⟨w.heap.size, 5, none⟩ (.int .i64 0)).setCell ⟨w.heap.size, 6, none⟩ (.int .i64 0)).setCell ⟨w.heap.size, 7, none⟩ (.slice none 0 0)).setCell ⟨w.heap.size, 8, none⟩ (.int .i64 0)).setCell ⟨w.heap.size, 9, none⟩ (.slice a3 nm.length c3)).setCell ⟨w.heap.size, 10, none⟩ (.slice none 0 0)).setCell ⟨w.heap.size, 11, none⟩ (.bool true)) w.heap.size (.slice none 0 0) _ ∧ Own ((((((((((((((((w5.setCell ⟨S, 3, none⟩ (.int .i64 nn)).setCell ⟨S, 4, none⟩ (.int .i64 nr)).setCell ⟨S, 9, none⟩ (.slice a3 nm.length c3)).setCell ⟨S, 11, none⟩ (.bool true)).setCell ⟨w.heap.size, 0, none⟩ (.int .i64 3)).setCell ⟨w.heap.size, 1, none⟩ (.int .i64 n)).setCell ⟨w.heap.size, 2, none⟩ (.int .i64 r)).setCell ⟨w.heap.size, 3, none⟩ (.int .i64 nn)).setCell ⟨w.heap.size, 4, none⟩ (.int .i64 nr)).setCell ⟨w.heap.size, 5, none⟩ (.int .i64 0)).setCell ⟨w.heap.size, 6, none⟩ (.int .i64 0)).setCell ⟨w.heap.size, 7, none⟩ (.slice none 0 0)).setCell ⟨w.heap.size, 8, none⟩ (.int .i64 0)).setCell ⟨w.heap.size, 9, none⟩ (.slice a3 nm.length c3)).setCell ⟨w.heap.size, 10, none⟩ (.slice none 0 0)).setCell ⟨w.heap.size, 11, none⟩ (.bool true)) w.heap.size (.slice a3 nm.length c3) _ ∧ Own ((((((((((((((((w5.setCell ⟨S, 3, none⟩ (.int .i64 nn)).setCell ⟨S, 4, none⟩ (.int .i64 nr)).setCell ⟨S, 9, none⟩ (.slice a3 nm.length c3)).setCell ⟨S, 11, none⟩ (.bool true)).setCell ⟨w.heap.size, 0, none⟩ (.int .i64 3)).setCell ⟨w.heap.size, 1, none⟩ (.int .i64 n)).setCell ⟨w.heap.size, 2, none⟩ (.int .i64 r)).setCell ⟨w.heap.size, 3, none⟩ (.int .i64 nn)).setCell ⟨w.heap.size, 4, none⟩ (.int .i64 nr)).setCell ⟨w.heap.size, 5, none⟩ (.int .i64 0)).setCell ⟨w.heap.size, 6, none⟩ (.int .i64 0)).setCell ⟨w.heap.size, 7, none⟩ (.slice none 0 0)).setCell ⟨w.heap.size, 8, none⟩ (.int .i64 0)).setCell ⟨w.heap.size, 9, none⟩ (.slice a3 nm.length c3)).setCell ⟨w.heap.size, 10, none⟩ (.slice none 0 0)).setCell ⟨w.heap.size, 11, none⟩ (.bool true)) w.heap.size (.slice none 0 0) _ ∧ _ ∧ _ from ⟨ownz_nil _ _, ho3, own_nilB _ _, hnd, hBz⟩)
  clear hR lr hG lo lrz hsR hGz hBz hnd ho3 hz3
  go_wp2_with fail
  obtain ⟨k1, k2, k3, k4, k5⟩ := unhide KK
  exact bodyPost_ret (v := .agg #[.int .i64 3, .int .i64 n, .int .i64 r, .int .i64 nn, .int .i64 nr, .int .i64 0, .int .i64 0, .slice none 0 0, .int .i64 0, .slice a3 nm.length c3, .slice none 0 0, .bool true]) (by simp [results, Try.results46, go_sem, e0, e1, e2, e3, e4, e5, e6, e7, e8, e9, e10, e11]) rfl ⟨_, _, _, rfl, ⟨k1, k2, k3, k4⟩, k5⟩

set_option maxHeartbeats 12800000 in
theorem rop_n (w0 w : World) (g : Nat) (code : Value) (l : List Int) (p : Int) (h : Rd 65 w0 w g code l p) (hk : (getN l p).1 = 3) (hg : ¬ (getN l (getT l (rdId l (rdId l (getN l p).2).2).2).2).1 = 1) :
    Calls Try.prog 46 #[.pointer (some ⟨g, 0, none⟩)] w fun e w' => ∃ k n t, e = .returned (opVal (rdRest rdKeyI l (getN l p).1 (rdId l (getN l p).2).1.1 (rdId l (getN l p).2).1.2 (rdId l (getN l p).2).2).1 k n t) ∧ OwOp w' w.heap.size (rdRest rdKeyI l (getN l p).1 (rdId l (getN l p).2).1.1 (rdId l (getN l p).2).1.2 (rdId l (getN l p).2).2).1 k n t ∧ Below w0.heap.size w0 w' := by
  have hgl := h.box.lt
  have hnew := h.below.size
  have HBL := hide h.below
  have hgn := h.new
  have H0 := hide (fun W (hW : Rd 65 w0 W g code l p) => rnum_any w0 W g code l p hW)
  have H1 := hide (fun W (hW : Rd 65 w0 W g code l (getN l p).2) => rid_any w0 W g code l (getN l p).2 hW)
  have H2 := hide (fun W (hW : Rd 65 w0 W g code l (rdId l (getN l p).2).2) => rid_any w0 W g code l (rdId l (getN l p).2).2 hW)
  have H3 := hide (fun W (hW : Rd 65 w0 W g code l (rdId l (rdId l (getN l p).2).2).2) => rtext_any w0 W g code l (rdId l (rdId l (getN l p).2).2).2 hW)
  have H4 := hide (fun W (hW : Rd 65 w0 W g code l (getT l (rdId l (rdId l (getN l p).2).2).2).2) => rnum_any w0 W g code l (getT l (rdId l (rdId l (getN l p).2).2).2).2 hW)
  have H5 := hide (fun W (hW : Rd 65 w0 W g code l (getN l (getT l (rdId l (rdId l (getN l p).2).2).2).2).2) => rtext_any w0 W g code l (getN l (getT l (rdId l (rdId l (getN l p).2).2).2).2).2 hW)
  have hR := h.keep ((Below.refl w.heap.size w).alloc (Nat.le_refl _) (.cells #[.int .i64 0, .int .i64 0, .int .i64 0, .int .i64 0, .int .i64 0, .int .i64 0, .int .i64 0, .slice none 0 0, .int .i64 0, .slice none 0 0, .slice none 0 0, .bool false] 27))
  have lr := Loc.made w #[.int .i64 0, .int .i64 0, .int .i64 0, .int .i64 0, .int .i64 0, .int .i64 0, .int .i64 0, .slice none 0 0, .int .i64 0, .slice none 0 0, .slice none 0 0, .bool false] 27
  have hG := Below.toGrown ((Below.refl w.heap.size w).alloc (Nat.le_refl _) (.cells #[.int .i64 0, .int .i64 0, .int .i64 0, .int .i64 0, .int .i64 0, .int .i64 0, .int .i64 0, .slice none 0 0, .int .i64 0, .slice none 0 0, .slice none 0 0, .bool false] 27)) (some g)
  clear h
  unfold rdRest
  rw [hk, if_neg (by decide), if_neg (by decide), if_neg (by decide), if_pos rfl, if_neg hg]
  generalize (getT l (getN l (getT l (rdId l (rdId l (getN l p).2).2).2).2).2) = q5 at *
  generalize (getN l (getT l (rdId l (rdId l (getN l p).2).2).2).2) = q4 at *
  generalize (getT l (rdId l (rdId l (getN l p).2).2).2) = q3 at *
  generalize (rdId l (rdId l (getN l p).2).2) = q2 at *
  generalize (rdId l (getN l p).2) = q1 at *
  generalize (getN l p) = q0 at *
  obtain ⟨kz, p1⟩ := q0
  obtain ⟨⟨n, r⟩, p2⟩ := q1
  obtain ⟨⟨nn, nr⟩, p3⟩ := q2
  obtain ⟨nm, p4⟩ := q3
  obtain ⟨gz, p5⟩ := q4
  obtain ⟨tx, p6⟩ := q5
  simp only at *
  subst hk
  have dg : (gz == 1) = false := by simpa using hg
  clear hg
  have LL := hide (And.intro hR (And.intro lr hG))
  clear hR lr hG
  go_enter Try.func46, Try.ntmps46
  go_wp2_with fail
  obtain ⟨hR, lr, hG⟩ := unhide LL
  clear LL
  generalize (w.alloc (.cells #[.int .i64 0, .int .i64 0, .int .i64 0, .int .i64 0, .int .i64 0, .int .i64 0, .int .i64 0, .slice none 0 0, .int .i64 0, .slice none 0 0, .slice none 0 0, .bool false] 27)) = wa at *
  refine (unhide H0 wa hR).mono ?_
  rintro e w1 ⟨rfl, hRn, hGn⟩
  have sz0 := hGn.size
  have lrn := lr.frm (Frm.ofGrown hGn) (by simp; omega)
  have hGm := grown_trans hG hGn
  clear hG hGn lr hR
  have hG := hGm
  have hR := hRn
  have lr := lrn
  clear hGm hRn lrn
  go_wp2_with fail
  refine (unhide H1 w1 hR).mono ?_
  rintro e w2 ⟨rfl, hRn, hGn⟩
  have sz1 := hGn.size
  have lrn := lr.frm (Frm.ofGrown hGn) (by simp; omega)
  have hGm := grown_trans hG hGn
  clear hG hGn lr hR
  have hG := hGm
  have hR := hRn
  have lr := lrn
  clear hGm hRn lrn
  have hAb := (Below.refl w2.heap.size w2).alloc (Nat.le_refl _) (.cells #[.int .i64 3, .int .i64 n, .int .i64 r, .int .i64 0, .int .i64 0, .int .i64 0, .int .i64 0, .slice none 0 0, .int .i64 0, .slice none 0 0, .slice none 0 0, .bool false] 27)
  have lo := Loc.made w2 #[.int .i64 3, .int .i64 n, .int .i64 r, .int .i64 0, .int .i64 0, .int .i64 0, .int .i64 0, .slice none 0 0, .int .i64 0, .slice none 0 0, .slice none 0 0, .bool false] 27
  have hrS := lr.lt
  have hgS := hR.box.lt
  have LL := hide (And.intro (hR.keep hAb) (And.intro (lr.all hAb) (And.intro (grown_trans hG (Below.toGrown hAb (some g))) lo)))
  clear hR lr hG hAb lo
  go_wp2_with fail
  obtain ⟨hR, lr, hG, lo⟩ := unhide LL
  clear LL
  generalize (w2.alloc (.cells #[.int .i64 3, .int .i64 n, .int .i64 r, .int .i64 0, .int .i64 0, .int .i64 0, .int .i64 0, .slice none 0 0, .int .i64 0, .slice none 0 0, .slice none 0 0, .bool false] 27)) = wb at *
  generalize w2.heap.size = S at *
  refine (unhide H2 wb hR).mono ?_
  rintro e w3 ⟨rfl, hRn, hGn⟩
  have sz2 := hGn.size
  have lrn := lr.frm (Frm.ofGrown hGn) (by simp; omega)
  have lon := lo.frm (Frm.ofGrown hGn) (by simp; omega)
  have hGm := grown_trans hG hGn
  clear hG hGn lr hR lo
  have hG := hGm
  have hR := hRn
  have lr := lrn
  have lo := lon
  clear hGm hRn lrn lon
  go_wp2_with fail
  refine (unhide H3 w3 hR).mono ?_
  rintro e w4 ⟨a3, c3, rfl, ho3, hRn, hGn⟩
  have sz3 := hGn.size
  have lrn := lr.frm (Frm.ofGrown hGn) (by simp; omega)
  have lon := lo.frm (Frm.ofGrown hGn) (by simp; omega)
  have hs3 : S < w3.heap.size := lo.lt
  have hz3 := ho3.rng
  have hGm := grown_trans hG hGn
  clear hG hGn lr hR lo
  have hG := hGm
  have hR := hRn
  have lr := lrn
  have lo := lon
  clear hGm hRn lrn lon
  go_wp2_with fail
  refine (unhide H4 w4 hR).mono ?_
  rintro e w5 ⟨rfl, hRn, hGn⟩
  have sz4 := hGn.size
  have lrn := lr.frm (Frm.ofGrown hGn) (by simp; omega)
  have lon := lo.frm (Frm.ofGrown hGn) (by simp; omega)
  replace ho3 := ho3.keepBy hGn (.inr (fun e => by have := (ho3.lt g e).1; omega))
  have hGm := grown_trans hG hGn
  clear hG hGn lr hR lo
  have hG := hGm
  have hR := hRn
  have lr := lrn
  have lo := lon
  clear hGm hRn lrn lon
  have lon : Loc ((((w5.setCell ⟨S, 3, none⟩ (.int .i64 nn)).setCell ⟨S, 4, none⟩ (.int .i64 nr)).setCell ⟨S, 9, none⟩ (.slice a3 nm.length c3)).setCell ⟨S, 11, none⟩ (.bool false)) S #[.int .i64 3, .int .i64 n, .int .i64 r, .int .i64 nn, .int .i64 nr, .int .i64 0, .int .i64 0, .slice none 0 0, .int .i64 0, .slice a3 nm.length c3, .slice none 0 0, .bool false] 27 := ((((lo.set 3 (.int .i64 nn)).set 4 (.int .i64 nr)).set 9 (.slice a3 nm.length c3)).set 11 (.bool false))
  have hsS : w5.grownBy ((((w5.setCell ⟨S, 3, none⟩ (.int .i64 nn)).setCell ⟨S, 4, none⟩ (.int .i64 nr)).setCell ⟨S, 9, none⟩ (.slice a3 nm.length c3)).setCell ⟨S, 11, none⟩ (.bool false)) (some S) := (grown_trans (grown_trans (grown_trans (setG w5 S 3 (.int .i64 nn)) (setG _ S 4 (.int .i64 nr))) (setG _ S 9 (.slice a3 nm.length c3))) (setG _ S 11 (.bool false)))
  have x0 := lo.cell 0
  have x1 := lo.cell 1
  have x2 := lo.cell 2
  have x3 := lo.cell 3
  have x4 := lo.cell 4
  have x5 := lo.cell 5
  have x6 := lo.cell 6
  have x7 := lo.cell 7
  have x8 := lo.cell 8
  have x9 := lo.cell 9
  have x10 := lo.cell 10
  have x11 := lo.cell 11
  have f3 := lo.frozen 3
  have f4 := lo.frozen 4
  have f9 := lo.frozen 9
  have f11 := lo.frozen 11
  have hRn := hR.keepG hsS (by simp; omega) (fun k hk => by simp at hk; omega)
  have lrn := lr.frm (Frm.ofGrown hsS) (by simp; omega)
  have hGn := grow_new hG hsS (fun q hq => by simp at hq; omega)
  replace ho3 := ho3.keepBy hsS (.inr (fun e => by have := (ho3.lt S e).1; omega))
  have szs0 := hsS.size
  clear hR lr hG lo hsS
  have hR := hRn
  have lr := lrn
  have hG := hGn
  have lo := lon
  clear hRn lrn hGn lon
  have LL := hide (And.intro hR (And.intro lr (And.intro hG lo)))
  clear hR lr hG lo
  have HO3 := hide ho3
  clear ho3
  go_wp2_with fail
  obtain ⟨hR, lr, hG, lo⟩ := unhide LL
  clear LL
  have ho3 := unhide HO3
  clear HO3
  clear x0 x1 x2 x3 x4 x5 x6 x7 x8 x9 x10 x11 f3 f4 f9 f11
  generalize ((((w5.setCell ⟨S, 3, none⟩ (.int .i64 nn)).setCell ⟨S, 4, none⟩ (.int .i64 nr)).setCell ⟨S, 9, none⟩ (.slice a3 nm.length c3)).setCell ⟨S, 11, none⟩ (.bool false)) = ws0 at *
  refine (unhide H5 ws0 hR).mono ?_
  rintro e w6 ⟨a5, c5, rfl, ho5, hRn, hGn⟩
  have sz5 := hGn.size
  have lrn := lr.frm (Frm.ofGrown hGn) (by simp; omega)
  have lon := lo.frm (Frm.ofGrown hGn) (by simp; omega)
  replace ho3 := ho3.keepBy hGn (.inr (fun e => by have := (ho3.lt g e).1; omega))
  have hs5 : S < ws0.heap.size := lo.lt
  have hz5 := ho5.rng
  have hGm := grown_trans hG hGn
  clear hG hGn lr hR lo
  have hG := hGm
  have hR := hRn
  have lr := lrn
  have lo := lon
  clear hGm hRn lrn lon
  have lon : Loc (w6.setCell ⟨S, 10, none⟩ (.slice a5 tx.length c5)) S #[.int .i64 3, .int .i64 n, .int .i64 r, .int .i64 nn, .int .i64 nr, .int .i64 0, .int .i64 0, .slice none 0 0, .int .i64 0, .slice a3 nm.length c3, .slice a5 tx.length c5, .bool false] 27 := (lo.set 10 (.slice a5 tx.length c5))
  have hsS : w6.grownBy (w6.setCell ⟨S, 10, none⟩ (.slice a5 tx.length c5)) (some S) := (setG w6 S 10 (.slice a5 tx.length c5))
  have x0 := lo.cell 0
  have x1 := lo.cell 1
  have x2 := lo.cell 2
  have x3 := lo.cell 3
  have x4 := lo.cell 4
  have x5 := lo.cell 5
  have x6 := lo.cell 6
  have x7 := lo.cell 7
  have x8 := lo.cell 8
  have x9 := lo.cell 9
  have x10 := lo.cell 10
  have x11 := lo.cell 11
  have f10 := lo.frozen 10
  have hRn := hR.keepG hsS (by simp; omega) (fun k hk => by simp at hk; omega)
  have lrn := lr.frm (Frm.ofGrown hsS) (by simp; omega)
  have hGn := grow_new hG hsS (fun q hq => by simp at hq; omega)
  replace ho3 := ho3.keepBy hsS (.inr (fun e => by have := (ho3.lt S e).1; omega))
  replace ho5 := ho5.keepBy hsS (.inr (fun e => by have := (ho5.lt S e).1; omega))
  have szs1 := hsS.size
  clear hR lr hG lo hsS
  have hR := hRn
  have lr := lrn
  have hG := hGn
  have lo := lon
  clear hRn lrn hGn lon
  have lrz : Loc (((((((((((((w6.setCell ⟨S, 10, none⟩ (.slice a5 tx.length c5)).setCell ⟨w.heap.size, 0, none⟩ (.int .i64 3)).setCell ⟨w.heap.size, 1, none⟩ (.int .i64 n)).setCell ⟨w.heap.size, 2, none⟩ (.int .i64 r)).setCell ⟨w.heap.size, 3, none⟩ (.int .i64 nn)).setCell ⟨w.heap.size, 4, none⟩ (.int .i64 nr)).setCell ⟨w.heap.size, 5, none⟩ (.int .i64 0)).setCell ⟨w.heap.size, 6, none⟩ (.int .i64 0)).setCell ⟨w.heap.size, 7, none⟩ (.slice none 0 0)).setCell ⟨w.heap.size, 8, none⟩ (.int .i64 0)).setCell ⟨w.heap.size, 9, none⟩ (.slice a3 nm.length c3)).setCell ⟨w.heap.size, 10, none⟩ (.slice a5 tx.length c5)).setCell ⟨w.heap.size, 11, none⟩ (.bool false)) w.heap.size #[.int .i64 3, .int .i64 n, .int .i64 r, .int .i64 nn, .int .i64 nr, .int .i64 0, .int .i64 0, .slice none 0 0, .int .i64 0, .slice a3 nm.length c3, .slice a5 tx.length c5, .bool false] 27 := set_twelve lr (.int .i64 3) (.int .i64 n) (.int .i64 r) (.int .i64 nn) (.int .i64 nr) (.int .i64 0) (.int .i64 0) (.slice none 0 0) (.int .i64 0) (.slice a3 nm.length c3) (.slice a5 tx.length c5) (.bool false)
  have hsR : (w6.setCell ⟨S, 10, none⟩ (.slice a5 tx.length c5)).grownBy (((((((((((((w6.setCell ⟨S, 10, none⟩ (.slice a5 tx.length c5)).setCell ⟨w.heap.size, 0, none⟩ (.int .i64 3)).setCell ⟨w.heap.size, 1, none⟩ (.int .i64 n)).setCell ⟨w.heap.size, 2, none⟩ (.int .i64 r)).setCell ⟨w.heap.size, 3, none⟩ (.int .i64 nn)).setCell ⟨w.heap.size, 4, none⟩ (.int .i64 nr)).setCell ⟨w.heap.size, 5, none⟩ (.int .i64 0)).setCell ⟨w.heap.size, 6, none⟩ (.int .i64 0)).setCell ⟨w.heap.size, 7, none⟩ (.slice none 0 0)).setCell ⟨w.heap.size, 8, none⟩ (.int .i64 0)).setCell ⟨w.heap.size, 9, none⟩ (.slice a3 nm.length c3)).setCell ⟨w.heap.size, 10, none⟩ (.slice a5 tx.length c5)).setCell ⟨w.heap.size, 11, none⟩ (.bool false)) (some w.heap.size) := grow_twelve _ _ (.int .i64 3) (.int .i64 n) (.int .i64 r) (.int .i64 nn) (.int .i64 nr) (.int .i64 0) (.int .i64 0) (.slice none 0 0) (.int .i64 0) (.slice a3 nm.length c3) (.slice a5 tx.length c5) (.bool false)
  obtain ⟨e0, e1, e2, e3, e4, e5, e6, e7, e8, e9, e10, e11⟩ := lrz.twelve
  obtain ⟨y0, y1, y2, y3, y4, y5, y6, y7, y8, y9, y10, y11⟩ := lo.twelve
  obtain ⟨z0, z1, z2, z3, z4, z5, z6, z7, z8, z9, z10, z11⟩ := lr.twelve
  have g0 := lr.frozen 0
  have g1 := lr.frozen 1
  have g2 := lr.frozen 2
  have g3 := lr.frozen 3
  have g4 := lr.frozen 4
  have g5 := lr.frozen 5
  have g6 := lr.frozen 6
  have g7 := lr.frozen 7
  have g8 := lr.frozen 8
  have g9 := lr.frozen 9
  have g10 := lr.frozen 10
  have g11 := lr.frozen 11
  have hGz := grow_new hG hsR (fun q hq => by simp at hq; omega)
  have hBz := bstepBy (unhide HBL) hGz (fun k hk => by cases hk; exact hgn)
  replace ho3 := (ho3.keepBy hsR (.inr (fun e => by have := (ho3.lt _ e).1; omega))).mono (show w.heap.size ≤ _ by omega)
  replace ho5 := (ho5.keepBy hsR (.inr (fun e => by have := (ho5.lt _ e).1; omega))).mono (show w.heap.size ≤ _ by omega)
  have hnd : (FB (.slice none 0 0) ++ FB (.slice a3 nm.length c3) ++ FB (.slice a5 tx.length c5)).Nodup := by
    have e0 : FB (.slice none 0 0) = [] := rfl
    simp only [e0, List.nil_append]
    exact nodup_app (FB_nodup _) (FB_nodup _) hz3 (hz5.mono (by omega) (Nat.le_refl _))
  have KK := hide (show OwnZ (((((((((((((w6.setCell ⟨S, 10, none⟩ (.slice a5 tx.length c5)).setCell ⟨w.heap.size, 0, none⟩ (.int .i64 3)).setCell ⟨w.heap.size, 1, none⟩ (.int .i64 n)).setCell ⟨w.heap.size, 2, none⟩ (.int .i64 r)).setCell ⟨w.heap.size, 3, none⟩ (.int .i64 nn)).setCell ⟨w.heap.size, 4, none⟩ (.int .i64 nr)).setCell ⟨w.heap.size, 5, none⟩ (.int .i64 0)).setCell ⟨w.heap.size, 6, none⟩ (.int .i64 0)).setCell ⟨w.heap.size, 7, none⟩ (.slice none 0 0)).setCell ⟨w.heap.size, 8, none⟩ (.int .i64 0)).setCell ⟨w.heap.size, 9, none⟩ (.slice a3 nm.length c3)).setCell ⟨w.heap.size, 10, none⟩ (.slice a5 tx.length c5)).setCell ⟨w.heap.size, 11, none⟩ (.bool false)) w.heap.size (.slice none 0 0) _ ∧ Own (((((((((((((w6.setCell ⟨S, 10, none⟩ (.slice a5 tx.length c5)).setCell ⟨w.heap.size, 0, none⟩ (.int .i64 3)).setCell ⟨w.heap.size, 1, none⟩ (.int .i64 n)).setCell ⟨w.heap.size, 2, none⟩ (.int .i64 r)).setCell ⟨w.heap.size, 3, none⟩ (.int .i64 nn)).setCell ⟨w.heap.size, 4, none⟩ (.int .i64 nr)).setCell ⟨w.heap.size, 5, none⟩ (.int .i64 0)).setCell ⟨w.heap.size, 6, none⟩ (.int .i64 0)).setCell ⟨w.heap.size, 7, none⟩ (.slice none 0 0)).setCell ⟨w.heap.size, 8, none⟩ (.int .i64 0)).setCell ⟨w.heap.size, 9, none⟩ (.slice a3 nm.length c3)).setCell ⟨w.heap.size, 10, none⟩ (.slice a5 tx.length c5)).setCell ⟨w.heap.size, 11, none⟩ (.bool false)) w.heap.size (.slice a3 nm.length c3) _ ∧ Own (((((((((((((w6.setCell ⟨S, 10, none⟩ (.slice a5 tx.length c5)).setCell ⟨w.heap.size, 0, none⟩ (.int .i64 3)).setCell ⟨w.heap.size, 1, none⟩ (.int .i64 n)).setCell ⟨w.heap.size, 2, none⟩ (.int .i64 r)).setCell ⟨w.heap.size, 3, none⟩ (.int .i64 nn)).setCell ⟨w.heap.size, 4, none⟩ (.int .i64 nr)).setCell ⟨w.heap.size, 5, none⟩ (.int .i64 0)).setCell ⟨w.heap.size, 6, none⟩ (.int .i64 0)).setCell ⟨w.heap.size, 7, none⟩ (.slice none 0 0)).setCell ⟨w.heap.size, 8, none⟩ (.int .i64 0)).setCell ⟨w.heap.size, 9, none⟩ (.slice a3 nm.length c3)).setCell ⟨w.heap.size, 10, none⟩ (.slice a5 tx.length c5)).setCell ⟨w.heap.size, 11, none⟩ (.bool false)) w.heap.size (.slice a5 tx.length c5) _ ∧ _ ∧ _ from ⟨ownz_nil _ _, ho3, ho5, hnd, hBz⟩)
  clear hR lr hG lo lrz hsR hGz hBz hnd ho3 hz3 ho5 hz5
  go_wp2_with fail
  obtain ⟨k1, k2, k3, k4, k5⟩ := unhide KK
  exact bodyPost_ret (v := .agg #[.int .i64 3, .int .i64 n, .int .i64 r, .int .i64 nn, .int .i64 nr, .int .i64 0, .int .i64 0, .slice none 0 0, .int .i64 0, .slice a3 nm.length c3, .slice a5 tx.length c5, .bool false]) (by simp [results, Try.results46, go_sem, e0, e1, e2, e3, e4, e5, e6, e7, e8, e9, e10, e11]) rfl ⟨_, _, _, rfl, ⟨k1, k2, k3, k4⟩, k5⟩
end Go.Proofs.Ytcabolcfoijglaa

/- impl's reader: an operation of no known kind, and any. -/
namespace Go.Proofs.Ytcabolcfoijglaa
open Go.RowKit
set_option linter.unusedVariables false
set_option maxRecDepth 100000

set_option maxHeartbeats 12800000 in
theorem rop_x (w0 w : World) (g : Nat) (code : Value) (l : List Int) (p : Int) (h : Rd 65 w0 w g code l p) (h0 : ¬ (getN l p).1 = 0) (h1 : ¬ (getN l p).1 = 1) (h2 : ¬ (getN l p).1 = 2) (h3 : ¬ (getN l p).1 = 3) :
    Calls Try.prog 46 #[.pointer (some ⟨g, 0, none⟩)] w fun e w' => ∃ k n t, e = .returned (opVal (rdRest rdKeyI l (getN l p).1 (rdId l (getN l p).2).1.1 (rdId l (getN l p).2).1.2 (rdId l (getN l p).2).2).1 k n t) ∧ OwOp w' w.heap.size (rdRest rdKeyI l (getN l p).1 (rdId l (getN l p).2).1.1 (rdId l (getN l p).2).1.2 (rdId l (getN l p).2).2).1 k n t ∧ Below w0.heap.size w0 w' := by
  have hgl := h.box.lt
  have hnew := h.below.size
  have HBL := hide h.below
  have hgn := h.new
  have H0 := hide (fun W (hW : Rd 65 w0 W g code l p) => rnum_any w0 W g code l p hW)
  have H1 := hide (fun W (hW : Rd 65 w0 W g code l (getN l p).2) => rid_any w0 W g code l (getN l p).2 hW)
  have hR := h.keep ((Below.refl w.heap.size w).alloc (Nat.le_refl _) (.cells #[.int .i64 0, .int .i64 0, .int .i64 0, .int .i64 0, .int .i64 0, .int .i64 0, .int .i64 0, .slice none 0 0, .int .i64 0, .slice none 0 0, .slice none 0 0, .bool false] 27))
  have lr := Loc.made w #[.int .i64 0, .int .i64 0, .int .i64 0, .int .i64 0, .int .i64 0, .int .i64 0, .int .i64 0, .slice none 0 0, .int .i64 0, .slice none 0 0, .slice none 0 0, .bool false] 27
  have hG := Below.toGrown ((Below.refl w.heap.size w).alloc (Nat.le_refl _) (.cells #[.int .i64 0, .int .i64 0, .int .i64 0, .int .i64 0, .int .i64 0, .int .i64 0, .int .i64 0, .slice none 0 0, .int .i64 0, .slice none 0 0, .slice none 0 0, .bool false] 27)) (some g)
  clear h
  unfold rdRest
  rw [if_neg h0, if_neg h1, if_neg h2, if_neg h3]
  generalize (rdId l (getN l p).2) = q1 at *
  generalize (getN l p) = q0 at *
  obtain ⟨kz, p1⟩ := q0
  obtain ⟨⟨n, r⟩, p2⟩ := q1
  simp only at *
  have d0 : (kz == 0) = false := by simpa using h0
  have d1 : (kz == 1) = false := by simpa using h1
  have d2 : (kz == 2) = false := by simpa using h2
  have d3 : (kz == 3) = false := by simpa using h3
  clear h0 h1 h2 h3
  have LL := hide (And.intro hR (And.intro lr hG))
  clear hR lr hG
  go_enter Try.func46, Try.ntmps46
  go_wp2_with fail
  obtain ⟨hR, lr, hG⟩ := unhide LL
  clear LL
  generalize (w.alloc (.cells #[.int .i64 0, .int .i64 0, .int .i64 0, .int .i64 0, .int .i64 0, .int .i64 0, .int .i64 0, .slice none 0 0, .int .i64 0, .slice none 0 0, .slice none 0 0, .bool false] 27)) = wa at *
  refine (unhide H0 wa hR).mono ?_
  rintro e w1 ⟨rfl, hRn, hGn⟩
  have sz0 := hGn.size
  have lrn := lr.frm (Frm.ofGrown hGn) (by simp; omega)
  have hGm := grown_trans hG hGn
  clear hG hGn lr hR
  have hG := hGm
  have hR := hRn
  have lr := lrn
  clear hGm hRn lrn
  go_wp2_with fail
  refine (unhide H1 w1 hR).mono ?_
  rintro e w2 ⟨rfl, hRn, hGn⟩
  have sz1 := hGn.size
  have lrn := lr.frm (Frm.ofGrown hGn) (by simp; omega)
  have hGm := grown_trans hG hGn
  clear hG hGn lr hR
  have hG := hGm
  have hR := hRn
  have lr := lrn
  clear hGm hRn lrn
  have hAb := (Below.refl w2.heap.size w2).alloc (Nat.le_refl _) (.cells #[.int .i64 kz, .int .i64 n, .int .i64 r, .int .i64 0, .int .i64 0, .int .i64 0, .int .i64 0, .slice none 0 0, .int .i64 0, .slice none 0 0, .slice none 0 0, .bool false] 27)
  have lo := Loc.made w2 #[.int .i64 kz, .int .i64 n, .int .i64 r, .int .i64 0, .int .i64 0, .int .i64 0, .int .i64 0, .slice none 0 0, .int .i64 0, .slice none 0 0, .slice none 0 0, .bool false] 27
  have hrS := lr.lt
  have hgS := hR.box.lt
  have LL := hide (And.intro (hR.keep hAb) (And.intro (lr.all hAb) (And.intro (grown_trans hG (Below.toGrown hAb (some g))) lo)))
  clear hR lr hG hAb lo
  go_upto_block 0 with fail
  obtain ⟨hR, lr, hG, lo⟩ := unhide LL
  clear LL
  generalize (w2.alloc (.cells #[.int .i64 kz, .int .i64 n, .int .i64 r, .int .i64 0, .int .i64 0, .int .i64 0, .int .i64 0, .slice none 0 0, .int .i64 0, .slice none 0 0, .slice none 0 0, .bool false] 27)) = wb at *
  generalize w2.heap.size = S at *
  have lrz : Loc ((((((((((((wb.setCell ⟨w.heap.size, 0, none⟩ (.int .i64 kz)).setCell ⟨w.heap.size, 1, none⟩ (.int .i64 n)).setCell ⟨w.heap.size, 2, none⟩ (.int .i64 r)).setCell ⟨w.heap.size, 3, none⟩ (.int .i64 0)).setCell ⟨w.heap.size, 4, none⟩ (.int .i64 0)).setCell ⟨w.heap.size, 5, none⟩ (.int .i64 0)).setCell ⟨w.heap.size, 6, none⟩ (.int .i64 0)).setCell ⟨w.heap.size, 7, none⟩ (.slice none 0 0)).setCell ⟨w.heap.size, 8, none⟩ (.int .i64 0)).setCell ⟨w.heap.size, 9, none⟩ (.slice none 0 0)).setCell ⟨w.heap.size, 10, none⟩ (.slice none 0 0)).setCell ⟨w.heap.size, 11, none⟩ (.bool false)) w.heap.size #[.int .i64 kz, .int .i64 n, .int .i64 r, .int .i64 0, .int .i64 0, .int .i64 0, .int .i64 0, .slice none 0 0, .int .i64 0, .slice none 0 0, .slice none 0 0, .bool false] 27 := set_twelve lr (.int .i64 kz) (.int .i64 n) (.int .i64 r) (.int .i64 0) (.int .i64 0) (.int .i64 0) (.int .i64 0) (.slice none 0 0) (.int .i64 0) (.slice none 0 0) (.slice none 0 0) (.bool false)
  have hsR : wb.grownBy ((((((((((((wb.setCell ⟨w.heap.size, 0, none⟩ (.int .i64 kz)).setCell ⟨w.heap.size, 1, none⟩ (.int .i64 n)).setCell ⟨w.heap.size, 2, none⟩ (.int .i64 r)).setCell ⟨w.heap.size, 3, none⟩ (.int .i64 0)).setCell ⟨w.heap.size, 4, none⟩ (.int .i64 0)).setCell ⟨w.heap.size, 5, none⟩ (.int .i64 0)).setCell ⟨w.heap.size, 6, none⟩ (.int .i64 0)).setCell ⟨w.heap.size, 7, none⟩ (.slice none 0 0)).setCell ⟨w.heap.size, 8, none⟩ (.int .i64 0)).setCell ⟨w.heap.size, 9, none⟩ (.slice none 0 0)).setCell ⟨w.heap.size, 10, none⟩ (.slice none 0 0)).setCell ⟨w.heap.size, 11, none⟩ (.bool false)) (some w.heap.size) := grow_twelve _ _ (.int .i64 kz) (.int .i64 n) (.int .i64 r) (.int .i64 0) (.int .i64 0) (.int .i64 0) (.int .i64 0) (.slice none 0 0) (.int .i64 0) (.slice none 0 0) (.slice none 0 0) (.bool false)
  obtain ⟨e0, e1, e2, e3, e4, e5, e6, e7, e8, e9, e10, e11⟩ := lrz.twelve
  obtain ⟨y0, y1, y2, y3, y4, y5, y6, y7, y8, y9, y10, y11⟩ := lo.twelve
  obtain ⟨z0, z1, z2, z3, z4, z5, z6, z7, z8, z9, z10, z11⟩ := lr.twelve
  have g0 := lr.frozen 0
  have g1 := lr.frozen 1
  have g2 := lr.frozen 2
  have g3 := lr.frozen 3
  have g4 := lr.frozen 4
  have g5 := lr.frozen 5
  have g6 := lr.frozen 6
  have g7 := lr.frozen 7
  have g8 := lr.frozen 8
  have g9 := lr.frozen 9
  have g10 := lr.frozen 10
  have g11 := lr.frozen 11
  have hGz := grow_new hG hsR (fun q hq => by simp at hq; omega)
  have hBz := bstepBy (unhide HBL) hGz (fun k hk => by cases hk; exact hgn)
  have hnd : (FB (.slice none 0 0) ++ FB (.slice none 0 0) ++ FB (.slice none 0 0)).Nodup := by
    have e0 : FB (.slice none 0 0) = [] := rfl
    simp only [e0, List.append_nil]
    exact List.nodup_nil
  have KK := hide (show OwnZ ((((((((((((wb.setCell ⟨w.heap.size, 0, none⟩ (.int .i64 kz)).setCell ⟨w.heap.size, 1, none⟩ (.int .i64 n)).setCell ⟨w.heap.size, 2, none⟩ (.int .i64 r)).setCell ⟨w.heap.size, 3, none⟩ (.int .i64 0)).setCell ⟨w.heap.size, 4, none⟩ (.int .i64 0)).setCell ⟨w.heap.size, 5, none⟩ (.int .i64 0)).setCell ⟨w.heap.size, 6, none⟩ (.int .i64 0)).setCell ⟨w.heap.size, 7, none⟩ (.slice none 0 0)).setCell ⟨w.heap.size, 8, none⟩ (.int .i64 0)).setCell ⟨w.heap.size, 9, none⟩ (.slice none 0 0)).setCell ⟨w.heap.size, 10, none⟩ (.slice none 0 0)).setCell ⟨w.heap.size, 11, none⟩ (.bool false)) w.heap.size (.slice none 0 0) _ ∧ Own ((((((((((((wb.setCell ⟨w.heap.size, 0, none⟩ (.int .i64 kz)).setCell ⟨w.heap.size, 1, none⟩ (.int .i64 n)).setCell ⟨w.heap.size, 2, none⟩ (.int .i64 r)).setCell ⟨w.heap.size, 3, none⟩ (.int .i64 0)).setCell ⟨w.heap.size, 4, none⟩ (.int .i64 0)).setCell ⟨w.heap.size, 5, none⟩ (.int .i64 0)).setCell ⟨w.heap.size, 6, none⟩ (.int .i64 0)).setCell ⟨w.heap.size, 7, none⟩ (.slice none 0 0)).setCell ⟨w.heap.size, 8, none⟩ (.int .i64 0)).setCell ⟨w.heap.size, 9, none⟩ (.slice none 0 0)).setCell ⟨w.heap.size, 10, none⟩ (.slice none 0 0)).setCell ⟨w.heap.size, 11, none⟩ (.bool false)) w.heap.size (.slice none 0 0) _ ∧ Own ((((((((((((wb.setCell ⟨w.heap.size, 0, none⟩ (.int .i64 kz)).setCell ⟨w.heap.size, 1, none⟩ (.int .i64 n)).setCell ⟨w.heap.size, 2, none⟩ (.int .i64 r)).setCell ⟨w.heap.size, 3, none⟩ (.int .i64 0)).setCell ⟨w.heap.size, 4, none⟩ (.int .i64 0)).setCell ⟨w.heap.size, 5, none⟩ (.int .i64 0)).setCell ⟨w.heap.size, 6, none⟩ (.int .i64 0)).setCell ⟨w.heap.size, 7, none⟩ (.slice none 0 0)).setCell ⟨w.heap.size, 8, none⟩ (.int .i64 0)).setCell ⟨w.heap.size, 9, none⟩ (.slice none 0 0)).setCell ⟨w.heap.size, 10, none⟩ (.slice none 0 0)).setCell ⟨w.heap.size, 11, none⟩ (.bool false)) w.heap.size (.slice none 0 0) _ ∧ _ ∧ _ from ⟨ownz_nil _ _, own_nilB _ _, own_nilB _ _, hnd, hBz⟩)
  clear hR lr hG lo lrz hsR hGz hBz hnd
  go_wp2_with fail
  obtain ⟨k1, k2, k3, k4, k5⟩ := unhide KK
  exact bodyPost_ret (v := .agg #[.int .i64 kz, .int .i64 n, .int .i64 r, .int .i64 0, .int .i64 0, .int .i64 0, .int .i64 0, .slice none 0 0, .int .i64 0, .slice none 0 0, .slice none 0 0, .bool false]) (by simp [results, Try.results46, go_sem, e0, e1, e2, e3, e4, e5, e6, e7, e8, e9, e10, e11]) rfl ⟨_, _, _, rfl, ⟨k1, k2, k3, k4⟩, k5⟩

theorem rop_any (w0 w : World) (g : Nat) (code : Value) (l : List Int) (p : Int) (h : Rd 65 w0 w g code l p) :
    Calls Try.prog 46 #[.pointer (some ⟨g, 0, none⟩)] w fun e w' => ∃ k n t, e = .returned (opVal (rdRest rdKeyI l (getN l p).1 (rdId l (getN l p).2).1.1 (rdId l (getN l p).2).1.2 (rdId l (getN l p).2).2).1 k n t) ∧ OwOp w' w.heap.size (rdRest rdKeyI l (getN l p).1 (rdId l (getN l p).2).1.1 (rdId l (getN l p).2).1.2 (rdId l (getN l p).2).2).1 k n t ∧ Below w0.heap.size w0 w' := by
  by_cases h0 : (getN l p).1 = 0
  · exact rop_0 w0 w g code l p h h0
  by_cases h1 : (getN l p).1 = 1
  · exact rop_1 w0 w g code l p h h1
  by_cases h2 : (getN l p).1 = 2
  · exact rop_2 w0 w g code l p h h2
  by_cases h3 : (getN l p).1 = 3
  · by_cases hg : (getN l (getT l (rdId l (rdId l (getN l p).2).2).2).2).1 = 1
    · exact rop_g w0 w g code l p h h3 hg
    · exact rop_n w0 w g code l p h h3 hg
  exact rop_x w0 w g code l p h h0 h1 h2 h3
theorem many_len (l : List Int) (n : Nat) (p : Int) : (rdMany l n p).1.length = n := by
  induction n generalizing p with
  | zero => rfl
  | succ n ih => unfold rdMany; simp [ih]
theorem keyI_len (l : List Int) (p : Int) : (rdKeyI l p).1.length ≤ 12 := by
  unfold rdKeyI
  rw [many_len]
  omega
theorem rdI_len (l : List Int) : (opRd rdKeyI l).1.key.length ≤ 12 := by
  unfold opRd rdRest
  split
  · exact keyI_len _ _
  · split
    · exact keyI_len _ _
    · split
      · exact Nat.zero_le _
      · split
        · split
          · exact Nat.zero_le _
          · exact Nat.zero_le _
        · exact Nat.zero_le _
end Go.Proofs.Ytcabolcfoijglaa

/- spec's cursor: an id. -/
namespace Go.Proofs.Ytcabolcfoijglaa
open Go.RowKit
set_option linter.unusedVariables false
set_option maxRecDepth 100000

set_option maxHeartbeats 3200000 in
theorem l4getId_any (w0 w : World) (g : Nat) (code : Value) (l : List Int) (p : Int) (h : Rd 72 w0 w g code l p) :
    Calls Try.prog 53 #[.pointer (some ⟨g, 0, none⟩)] w fun e w' => e = .returned (.agg #[.int .i64 (rdId l p).1.1, .int .i64 (rdId l p).1.2]) ∧ Rd 72 w0 w' g code l (rdId l p).2 ∧ w.grownBy w' (some g) := by
  have hgl := h.box.lt
  have hnew := h.below.size
  have hA0 := (Below.refl w.heap.size w).alloc (Nat.le_refl _) (.cells #[.int .i64 0, .int .i64 0] 24)
  have l0 := Loc.made w #[.int .i64 0, .int .i64 0] 24
  have hR0 := h.keep hA0
  have H1 := hide (fun W (hW : Rd 72 w0 W g code l p) => l4get_any w0 W g code l p hW)
  have H2 := hide (fun W (hW : Rd 72 w0 W g code l (getN l p).2) => l4get_any w0 W g code l (getN l p).2 hW)
  unfold rdId
  clear h
  generalize getN l (getN l p).2 = q2 at *
  generalize getN l p = q1 at *
  obtain ⟨n, p1⟩ := q1
  obtain ⟨r, p2⟩ := q2
  simp only at *
  go_enter Try.func53, Try.ntmps53
  go_wp2_with fail
  generalize (w.alloc (.cells #[.int .i64 0, .int .i64 0] 24)) = wa at *
  refine (unhide H1 wa hR0).mono ?_
  rintro e w1 ⟨rfl, hR1, hG1⟩
  have l1 := l0.frm (Frm.ofGrown hG1) (by simp; omega)
  have hG1' := grow_below hA0 hG1
  have hAb := (Below.refl w1.heap.size w1).alloc (Nat.le_refl _) (.cells #[.int .i64 n, .int .i64 0] 24)
  have b1 := Loc.made w1 #[.int .i64 n, .int .i64 0] 24
  have hRb := hR1.keep hAb
  have lb := l1.all hAb
  have hGb := grown_trans hG1' (Below.toGrown hAb (some g))
  have sz1 := hG1'.size
  have sza := hA0.size
  have lt1 := l1.lt
  have lgl := hR1.box.lt
  go_wp2_with fail
  generalize (w1.alloc (.cells #[.int .i64 n, .int .i64 0] 24)) = wb at *
  refine (unhide H2 wb hRb).mono ?_
  rintro e w2 ⟨rfl, hR2, hG2⟩
  have l2 := lb.frm (Frm.ofGrown hG2) (by simp; omega)
  have b2 := b1.frm (Frm.ofGrown hG2) (by simp; omega)
  have hG2' := grown_trans hGb hG2
  have y0 := b2.cell 0
  have y1 := b2.cell 1
  have g1 := b2.frozen 1
  have hsb := setG w2 w1.heap.size 1 (.int .i64 r)
  have b3 := b2.set 1 (.int .i64 r)
  have l3 := l2.other w1.heap.size 1 (.int .i64 r) (by omega)
  have hR3 := hR2.keepG hsb (by simp; omega) (fun k hk => by simp at hk; omega)
  have hG3 := grow_new hG2' hsb (fun q hq => by simp at hq; omega)
  have z0 := b3.cell 0
  have z1 := b3.cell 1
  have x0 := l3.cell 0
  have x1 := l3.cell 1
  have f0 := l3.frozen 0
  have f1 := l3.frozen 1
  have hs : (w2.setCell ⟨w1.heap.size, 1, none⟩ (.int .i64 r)).grownBy (((w2.setCell ⟨w1.heap.size, 1, none⟩ (.int .i64 r)).setCell ⟨w.heap.size, 0, none⟩ (.int .i64 n)).setCell ⟨w.heap.size, 1, none⟩ (.int .i64 r)) (some w.heap.size) := grown_trans (setG (w2.setCell ⟨w1.heap.size, 1, none⟩ (.int .i64 r)) w.heap.size 0 (.int .i64 n)) (setG _ w.heap.size 1 (.int .i64 r))
  have m : Loc (((w2.setCell ⟨w1.heap.size, 1, none⟩ (.int .i64 r)).setCell ⟨w.heap.size, 0, none⟩ (.int .i64 n)).setCell ⟨w.heap.size, 1, none⟩ (.int .i64 r)) w.heap.size #[.int .i64 n, .int .i64 r] 24 := (l3.set 0 (.int .i64 n)).set 1 (.int .i64 r)
  have e0 := m.cell 0
  have e1 := m.cell 1
  have hGf := grow_new hG3 hs (fun q hq => by simp at hq; omega)
  have hRf := hR3.keepG hs (by simp; omega) (fun k hk => by simp at hk; omega)
  have KEEP := hide (And.intro hRf hGf)
  clear hG1 hG2 hR1 hR2 hR0 H1 H2 l0 l1 l2 l3 lb b1 b2 b3 hA0 m hs hG1' hG2' hAb hRb hGb hR3 hG3 hsb hRf hGf
  go_wp2_with fail
  obtain ⟨hRf, hGf⟩ := unhide KEEP
  exact bodyPost_ret (v := .agg #[.int .i64 n, .int .i64 r]) (by simp [results, Try.results53, go_sem, e0, e1]) rfl ⟨rfl, hRf, hGf⟩
end Go.Proofs.Ytcabolcfoijglaa

/- spec's cursor: a key. -/
namespace Go.Proofs.Ytcabolcfoijglaa
open Go.RowKit
set_option linter.unusedVariables false
set_option maxRecDepth 100000

set_option maxHeartbeats 6400000 in
theorem l4getKey_any (w0 w : World) (g : Nat) (code : Value) (l : List Int) (p : Int) (h : Rd 72 w0 w g code l p) :
    Calls Try.prog 54 #[.pointer (some ⟨g, 0, none⟩)] w fun e w' => ∃ a c k, e = .returned (.slice a k.length c) ∧ OwnZ w' w.heap.size (.slice a k.length c) k ∧ Hid ((rdKeyS l p).1 = k) ∧ k.length ≤ 13 ∧ Rd 72 w0 w' g code l (rdKeyS l p).2 ∧ w.grownBy w' (some g) := by
  have hgl := h.box.lt
  have hnew := h.below.size
  have hrg := getN_rng h.bytes.1 p
  have HOK := hide h.bytes.1
  have H1 := hide (l4get_any w0 w g code l p h)
  clear h
  unfold rdKeyS
  generalize getN l p = q1 at *
  obtain ⟨n, p1⟩ := q1
  simp only at *
  obtain ⟨n, rfl⟩ := Int.eq_ofNat_of_zero_le hrg.2.2.1
  clear hrg
  obtain ⟨M, hM⟩ : ∃ M, M = (min (n : Int) 13).toNat := ⟨_, rfl⟩
  rw [← hM]
  have HC := hide (show (12 < n ∧ M = 13) ∨ (¬ 12 < n ∧ M = n) by omega)
  clear hM
  go_enter Try.func54, Try.ntmps54
  go_wp2_with fail
  refine (unhide H1).mono ?_
  rintro e w1 ⟨rfl, hR1, hG1⟩
  clear H1
  go_wp2_with fail
  go_loopw [3, 5] (fun o i wr => ∃ (j f : Nat) (a : Option Addr) (c : Nat) (k : List Int) (pj : Int), j + f = M ∧ i = .int .i64 j ∧ o = .slice a k.length c ∧ OwnZ wr w.heap.size (.slice a k.length c) k ∧ k.length = j ∧ Hid (rdSome l M p1 = (k ++ (rdSome l f pj).1, (rdSome l f pj).2)) ∧ Rd 72 w0 wr g code l pj ∧ w.grownBy wr (some g)) (fun _ i _ => M - (intOf i).toNat)
  case atStart => exact ⟨0, M, none, 0, [], p1, by omega, rfl, rfl, ownz_nil _ _, rfl, hide (by simp), hR1, hG1⟩
  case round =>
    obtain ⟨j, f, a, c, k, pj, hj, rfl, rfl, ho, hk, HI, hR, hG⟩ := hrel
    clear hR1 hG1
    subst hk
    have x1 := hR.box.cell 1
    cases f with
    | zero =>
      have HE := hide (unhide HI)
      clear HI
      by_cases q1 : (k.length : Int) < (n : Int)
      · have q2 : ¬ (k.length : Int) ≤ 12 := by have := unhide HC; omega
        have q4 : k.length ≤ 13 := by have := unhide HC; omega
        go_wp2_with fail
        go_ret
        exact ⟨a, c, k, rfl, ho, hide (by rw [unhide HE]; simp [rdSome]), q4, by rw [unhide HE]; exact hR, hG⟩
      · have q4 : k.length ≤ 13 := by have := unhide HC; omega
        go_wp2_with fail
        go_ret
        exact ⟨a, c, k, rfl, ho, hide (by rw [unhide HE]; simp [rdSome]), q4, by rw [unhide HE]; exact hR, hG⟩
    | succ f =>
      have q1 : (k.length : Int) < (n : Int) := by have := unhide HC; omega
      have q2 : (k.length : Int) ≤ 12 := by have := unhide HC; omega
      by_cases hp : pj < 0
      · have HE := hide (show rdSome l M p1 = (k, pj) by rw [unhide HI]; simp [rdSome, hp])
        have q3 : ¬ (0 : Int) ≤ pj := by omega
        clear HI hp
        go_wp2_with fail
        go_ret
        exact ⟨a, c, k, rfl, ho, hide (by rw [unhide HE]), by omega, by rw [unhide HE]; exact hR, hG⟩
      · have HS := hide (show rdSome l M p1 = (k ++ ((getN l pj).1 :: (rdSome l f (getN l pj).2).1), (rdSome l f (getN l pj).2).2) by rw [unhide HI, rdSome, if_neg hp])
        have q3 : (0 : Int) ≤ pj := by omega
        clear HI hp
        go_wp2_with fail
        refine (l4get_any w0 wr g code l pj hR).mono ?_
        rintro e w2 ⟨rfl, hR2, hG2⟩
        have hx := getN_rng (unhide HOK) pj
        have ho2 := ho.keepBy hG2 (.inr (fun e => by have := (ho.lt g e).1; omega))
        have hG2' := grown_trans hG hG2
        generalize getN l pj = qj at *
        obtain ⟨x, p2⟩ := qj
        simp only at *
        clear hR hG hG2 ho
        have hY := hide (int_one w2 x (by omega) (by omega))
        go_wp2_with (at_builtin; refine wpList_appZ rfl _ _ rfl w.heap.size _ k rfl (ho2.alloc _) _ [x] rfl (unhide hY) ?c1 ?c2 ?_)
        case c1 => first | omega | (simp; omega)
        case c2 => have := hG2'.size; first | omega | (simp; omega)
        intro v5 w5 ho5 hg5
        have hgn : ∀ q, (Value.slice a k.length c).ownBlock = some q → w.heap.size ≤ q := fun q hq => (ho2.lt q hq).1
        have hA5 := grown_trans (Below.toGrown ((Below.refl w2.heap.size w2).alloc (Nat.le_refl _) (.cells #[.int .i64 x] 3)) _) hg5
        have hG5 := grow_new hG2' hA5 hgn
        have hR5 := hR2.keepG hA5 (fun e => by have := hgn g e; omega) (fun q hq => by have := hgn q hq; omega)
        obtain ⟨a5, c5, rfl, _, _⟩ := ho5.ints.shape
        clear hY hg5 hA5 hgn ho2 hR2 hG2' hx
        go_wp2_with fail
        go_roundw
        case rel => exact ⟨k.length + 1, f, a5, c5, k ++ [x], p2, by omega, by go_num, rfl, ho5, by simp, by rw [List.append_assoc]; exact HS, hR5, hG5⟩
        case measure => simp [intOf]; omega
end Go.Proofs.Ytcabolcfoijglaa
