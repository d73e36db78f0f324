/- Own texts joined: L4op, L4bent, CloneI, OwnO, OwnOs, OpsS, SPut. -/
import Derived.Test.YtaoodcielfabdaaGreatJa
import Derived.Test.YtaoodcielfabdaaGreatJb
import Derived.Test.YtaoodcielfabdaaGreatJc
import Derived.Test.YtaoodcielfabdaaGreatJd
import Derived.Test.YtaoodcielfabdaaGreatJe
import Derived.Test.YtaoodcielfabdaaGreatJf
import Derived.Test.YtaoodcielfabdaaGreatJg
import Derived.Test.YtaoodcielfabdaaGreatJh
import Derived.Test.YtaoodcielfabdaaGreatJi
import Derived.Test.YtaoodcielfabdaaGreatJj
import Derived.Test.YtaoodcielfabdaaGreatJk
import Derived.Deep.CutBlock
import Derived.Lib.BufferMore

/- spec.l4op draws an operation, whose rows are its own. -/
namespace Go.Proofs.YtaoodcielfabdaaGreat
open Go.RowKit
set_option linter.unusedVariables false
set_option maxRecDepth 100000

/-- An operation in blocks of its own, from 'base' on; they may bear a conversion's mark. -/
def OwM (w : World) (base : Nat) (o : OpV) (k n t : Value) : Prop := OwnZ w base k o.key ∧ RowM w base n o.name ∧ RowM w base t o.text ∧ (FB k ++ FB n ++ FB t).Nodup
theorem OwM.mono {w : World} {base base' : Nat} {o : OpV} {k n t : Value} (h : OwM w base o k n t) (hb : base' ≤ base) : OwM w base' o k n t := ⟨h.1.mono hb, h.2.1.mono hb, h.2.2.1.mono hb, h.2.2.2⟩
theorem OwM.rd {w : World} {base : Nat} {o : OpV} {k n t : Value} (h : OwM w base o k n t) : RdOp w (opVal o k n t) o := ⟨k, n, t, rfl, h.1.ints, h.2.1.byt, h.2.2.1.byt⟩
theorem OwM.by {w w' : World} {base q : Nat} {o : OpV} {k n t : Value} (h : OwM w base o k n t) (hg : w.grownBy w' (some q)) (hq : q < base) : OwM w' base o k n t :=
  ⟨h.1.keepBy hg (.inr (fun e => by have := (h.1.lt _ e).1; omega)), h.2.1.keepBy hg (fun g e e2 => by have := (h.2.1.lt _ e).1; cases e2; omega), h.2.2.1.keepBy hg (fun g e e2 => by have := (h.2.2.1.lt _ e).1; cases e2; omega), h.2.2.2⟩
theorem OwM.keep {w w' : World} {base : Nat} {o : OpV} {k n t : Value} (h : OwM w base o k n t) (hB : Below w.heap.size w w') : OwM w' base o k n t := ⟨h.1.keep hB, h.2.1.keep hB, h.2.2.1.keep hB, h.2.2.2⟩
/-- It is small. -/
def SmO (o : OpV) (m : Nat) : Prop := o.key.length ≤ 13 ∧ o.name.length ≤ m ∧ o.text.length ≤ m
/-- A drawn operation in its box S, while the cursor lies at g and the result's box at R. -/
def OpAt (w0 w wx : World) (g R S m : Nat) (code : Value) (l : List Int) : Prop := ∃ (o : OpV) (k n t : Value), Loc wx S #[.int .i64 o.kind, .int .i64 o.atN, .int .i64 o.atR, .int .i64 o.nodeN, .int .i64 o.nodeR, .int .i64 o.parN, .int .i64 o.parR, k, .int .i64 o.elem, n, t, .bool o.gone] 38 ∧ Loc wx R #[.int .i64 0, .int .i64 0, .int .i64 0, .int .i64 0, .int .i64 0, .int .i64 0, .int .i64 0, .slice none 0 0, .int .i64 0, .slice none 0 0, .slice none 0 0, .bool false] 38 ∧ OwM wx (S + 1) o k n t ∧ SmO o m ∧ Cur w0 wx g code l ∧ w.grownBy wx (some g)
/-- The cursor, while another box is written. -/
theorem Cur.set {w0 w w' : World} {g S : Nat} {code : Value} {l : List Int} (h : Cur w0 w g code l) (hs : w.grownBy w' (some S)) (hne : g ≠ S) (hn : w0.heap.size ≤ S) : Cur w0 w' g code l := h.keep hs (by simp; exact hne) (fun k hk => by cases hk; exact hn)

set_option maxHeartbeats 12800000 in
theorem l4op_any (w0 w : World) (g : Nat) (code : Value) (l : List Int) (h : Cur w0 w g code l) :
    Calls Tryz.prog 128 #[.pointer (some ⟨g, 0, none⟩)] w fun e w' => ∃ o k n t, e = .returned (opVal o k n t) ∧ OwM w' w.heap.size o k n t ∧ SmO o 8 ∧ Cur w0 w' g code l ∧ w.grownBy w' (some g) := by
  have hgl := h.lt
  have hgn := h.new
  have hw0 := h.below.size
  have HI := hide (fun W (hW : Cur w0 W g code l) => drawId_any w0 W g code l hW)
  have HK := hide (fun W (hW : Cur w0 W g code l) => drawKey_any w0 W g code l hW)
  have HW := hide (fun W (hW : Cur w0 W g code l) => l2word_any w0 W g code l hW)
  have HN := hide (fun W (hW : Cur w0 W g code l) => l2name_any w0 W g code l hW)
  have HO := hide (fun W (hW : Cur w0 W g code l) => l1Once_any w0 W g code l 3 hW (by omega) (by omega))
  have HB := hide (fun W n (hW : Cur w0 W g code l) h1 h2 => l1Below_any w0 W g code l n hW h1 h2)
  have lr := Loc.made w #[.int .i64 0, .int .i64 0, .int .i64 0, .int .i64 0, .int .i64 0, .int .i64 0, .int .i64 0, .slice none 0 0, .int .i64 0, .slice none 0 0, .slice none 0 0, .bool false] 38
  have hA := (Below.refl w.heap.size w).alloc (Nat.le_refl _) (.cells #[.int .i64 0, .int .i64 0, .int .i64 0, .int .i64 0, .int .i64 0, .int .i64 0, .int .i64 0, .slice none 0 0, .int .i64 0, .slice none 0 0, .slice none 0 0, .bool false] 38)
  have hA2 := hA.alloc (by simp) (.cells ([0, 0, 0, 1, 1, 2, 3].map (Value.int .i64)).toArray 3)
  have hp := intsC_made (w.alloc (.cells #[.int .i64 0, .int .i64 0, .int .i64 0, .int .i64 0, .int .i64 0, .int .i64 0, .int .i64 0, .slice none 0 0, .int .i64 0, .slice none 0 0, .slice none 0 0, .bool false] 38)) [0, 0, 0, 1, 1, 2, 3] 7 rfl
  have hsz : (w.alloc (.cells #[.int .i64 0, .int .i64 0, .int .i64 0, .int .i64 0, .int .i64 0, .int .i64 0, .int .i64 0, .slice none 0 0, .int .i64 0, .slice none 0 0, .slice none 0 0, .bool false] 38)).heap.size = w.heap.size + 1 := by simp
  rw [hsz] at hp
  have HP := hide (l1PickInt_any w0 _ g code l _ [0, 0, 0, 1, 1, 2, 3] (h.keepAll hA2) (by decide) (by decide) hp (fun a n c e => by cases e; simp; omega))
  have lr2 := lr.alloc (.cells ([0, 0, 0, 1, 1, 2, 3].map (Value.int .i64)).toArray 3)
  have LL := hide (And.intro lr2 (Below.toGrown hA2 (some g)))
  clear lr hA hA2 hp hsz lr2 h
  refine calls_via ?_
  intro Q HQ
  go_enter Tryz.func128, Tryz.ntmps128
  go_wp2_with fail
  obtain ⟨lr, hG⟩ := unhide LL
  clear LL
  refine (unhide HP).mono ?_
  rintro e w1 ⟨kz, hkz, rfl, hC, hGn⟩
  have lrn := lr.frm (Frm.ofGrown hGn) (by simp; omega)
  have hGm := grown_trans hG hGn
  clear HP lr hG hGn hkz
  have LL := hide (And.intro lrn hGm)
  clear lrn hGm
  go_wp2_with fail
  refine (unhide HB w1 12 hC (by omega) (by omega)).mono ?_
  rintro e w2 ⟨xa, hx10, hx11, rfl, hC2, hGn⟩
  obtain ⟨lr, hG⟩ := unhide LL
  clear LL
  have lrn := lr.frm (Frm.ofGrown hGn) (by simp; omega)
  have hGm := grown_trans hG hGn
  clear lr hG hGn hC
  have LL := hide (And.intro lrn hGm)
  clear lrn hGm
  go_wp2_with fail
  refine (unhide HB w2 3 hC2 (by omega) (by omega)).mono ?_
  rintro e w3 ⟨xb, hx20, hx21, rfl, hC3, hGn⟩
  obtain ⟨lr, hG⟩ := unhide LL
  clear LL
  have lrn := lr.frm (Frm.ofGrown hGn) (by simp; omega)
  have hGm := grown_trans hG hGn
  clear lr hG hGn hC2
  have hrl := lrn.lt
  have hAb := (Below.refl w3.heap.size w3).alloc (Nat.le_refl _) (.cells #[.int .i64 kz, .int .i64 (1 + xa), .int .i64 xb, .int .i64 0, .int .i64 0, .int .i64 0, .int .i64 0, .slice none 0 0, .int .i64 0, .slice none 0 0, .slice none 0 0, .bool false] 38)
  have lo := Loc.made w3 #[.int .i64 kz, .int .i64 (1 + xa), .int .i64 xb, .int .i64 0, .int .i64 0, .int .i64 0, .int .i64 0, .slice none 0 0, .int .i64 0, .slice none 0 0, .slice none 0 0, .bool false] 38
  have y0 := lo.cell 0
  have LL := hide (And.intro (hC3.keepAll hAb) (And.intro (lrn.all hAb) (And.intro lo (grown_below hGm hAb))))
  clear hC3 lrn hGm hAb lo
  go_upto_block 0 with fail
  obtain ⟨hC, lr, lo, hG⟩ := unhide LL
  clear LL y0
  generalize (w3.alloc (.cells #[.int .i64 kz, .int .i64 (1 + xa), .int .i64 xb, .int .i64 0, .int .i64 0, .int .i64 0, .int .i64 0, .slice none 0 0, .int .i64 0, .slice none 0 0, .slice none 0 0, .bool false] 38)) = wb at *
  generalize w3.heap.size = S at *
  generalize hRR : w.heap.size = R at *
  go_cut [] from 14 to 62 (fun wx => OpAt w0 w wx g R S 8 code l)
  case first =>
    by_cases h0 : kz = 0
    · subst h0
      have LL := hide (And.intro hC (And.intro lr (And.intro lo hG)))
      clear hC lr lo hG
      go_wp2_with fail
      obtain ⟨hC, lr, lo, hG⟩ := unhide LL
      clear LL
      have hsl1 : S < wb.heap.size := lo.lt
      refine (unhide HI wb hC).mono ?_
      rintro e v1 ⟨n1, r1, _, _, _, _, rfl, hCn, hGn⟩
      have lrn := lr.frm (Frm.ofGrown hGn) (by simp; omega)
      have lon := lo.frm (Frm.ofGrown hGn) (by simp; omega)
      have hGm := grown_trans hG hGn
      have szz1 := hGn.size
      clear hC lr lo hG hGn
      have hC := hCn
      have lr := lrn
      have lo := lon
      have hG := hGm
      clear hCn lrn lon hGm
      have lon : Loc ((v1.setCell ⟨S, 5, none⟩ (.int .i64 n1)).setCell ⟨S, 6, none⟩ (.int .i64 r1)) S #[.int .i64 0, .int .i64 (1 + xa), .int .i64 xb, .int .i64 0, .int .i64 0, .int .i64 n1, .int .i64 r1, .slice none 0 0, .int .i64 0, .slice none 0 0, .slice none 0 0, .bool false] 38 := ((lo.set 5 (.int .i64 n1)).set 6 (.int .i64 r1))
      have hsS : v1.grownBy ((v1.setCell ⟨S, 5, none⟩ (.int .i64 n1)).setCell ⟨S, 6, none⟩ (.int .i64 r1)) (some S) := (grown_trans (setGO v1 S 5 (.int .i64 n1)) (setGO _ S 6 (.int .i64 r1)))
      obtain ⟨x0, x1, x2, x3, x4, x5, x6, x7, x8, x9, x10, x11⟩ := lo.twelve
      have f5 := lo.frozen 5
      have f6 := lo.frozen 6
      have hCn := hC.set hsS (by omega) (by omega)
      have lrn := lr.frm (Frm.ofGrown hsS) (by simp; omega)
      have hGm := grown_new hG hsS (fun q hq => by cases hq; omega)
      have szs2 := hsS.size
      clear hC lr lo hG hsS
      have hC := hCn
      have lr := lrn
      have lo := lon
      have hG := hGm
      clear hCn lrn lon hGm
      have LL := hide (And.intro hC (And.intro lr (And.intro lo hG)))
      clear hC lr lo hG
      go_wp2_with fail
      obtain ⟨hC, lr, lo, hG⟩ := unhide LL
      clear LL x0 x1 x2 x3 x4 x5 x6 x7 x8 x9 x10 x11 f5 f6
      generalize ((v1.setCell ⟨S, 5, none⟩ (.int .i64 n1)).setCell ⟨S, 6, none⟩ (.int .i64 r1)) = ws3 at *
      have hsl4 : S < ws3.heap.size := lo.lt
      refine (unhide HK ws3 hC).mono ?_
      rintro e v4 ⟨a4, c4, k4, rfl, ho4, hkl4, hCn, hGn⟩
      have rg4 := ho4.lt
      have lrn := lr.frm (Frm.ofGrown hGn) (by simp; omega)
      have lon := lo.frm (Frm.ofGrown hGn) (by simp; omega)
      have hGm := grown_trans hG hGn
      have szz4 := hGn.size
      clear hC lr lo hG hGn
      have hC := hCn
      have lr := lrn
      have lo := lon
      have hG := hGm
      clear hCn lrn lon hGm
      have lon : Loc (v4.setCell ⟨S, 7, none⟩ (.slice a4 k4.length c4)) S #[.int .i64 0, .int .i64 (1 + xa), .int .i64 xb, .int .i64 0, .int .i64 0, .int .i64 n1, .int .i64 r1, .slice a4 k4.length c4, .int .i64 0, .slice none 0 0, .slice none 0 0, .bool false] 38 := (lo.set 7 (.slice a4 k4.length c4))
      have hsS : v4.grownBy (v4.setCell ⟨S, 7, none⟩ (.slice a4 k4.length c4)) (some S) := (setGO v4 S 7 (.slice a4 k4.length c4))
      obtain ⟨x0, x1, x2, x3, x4, x5, x6, x7, x8, x9, x10, x11⟩ := lo.twelve
      have f7 := lo.frozen 7
      have hCn := hC.set hsS (by omega) (by omega)
      have lrn := lr.frm (Frm.ofGrown hsS) (by simp; omega)
      replace ho4 := ho4.keepBy hsS (.inr (fun e => by have := (ho4.lt _ e).1; omega))
      have hGm := grown_new hG hsS (fun q hq => by cases hq; omega)
      have szs5 := hsS.size
      clear hC lr lo hG hsS
      have hC := hCn
      have lr := lrn
      have lo := lon
      have hG := hGm
      clear hCn lrn lon hGm
      have LL := hide (And.intro hC (And.intro lr (And.intro lo hG)))
      clear hC lr lo hG
      have HO4 := hide ho4
      clear ho4
      go_wp2_with fail
      obtain ⟨hC, lr, lo, hG⟩ := unhide LL
      clear LL x0 x1 x2 x3 x4 x5 x6 x7 x8 x9 x10 x11 f7
      have ho4 := unhide HO4
      clear HO4
      generalize (v4.setCell ⟨S, 7, none⟩ (.slice a4 k4.length c4)) = ws6 at *
      have hsl7 : S < ws6.heap.size := lo.lt
      refine (unhide HO ws6 hC).mono ?_
      rintro e v7 ⟨b7, rfl, hCn, hGn⟩
      have lrn := lr.frm (Frm.ofGrown hGn) (by simp; omega)
      have lon := lo.frm (Frm.ofGrown hGn) (by simp; omega)
      replace ho4 := ho4.keepBy hGn (.inr (fun e => by have := (ho4.lt _ e).1; omega))
      have hGm := grown_trans hG hGn
      have szz7 := hGn.size
      clear hC lr lo hG hGn
      have hC := hCn
      have lr := lrn
      have lo := lon
      have hG := hGm
      clear hCn lrn lon hGm
      cases b7 with
      | true =>
        have LL := hide (And.intro hC (And.intro lr (And.intro lo hG)))
        clear hC lr lo hG
        have HO4 := hide ho4
        clear ho4
        obtain ⟨x0, x1, x2, x3, x4, x5, x6, x7, x8, x9, x10, x11⟩ := (unhide LL).2.2.1.twelve
        have f8 := (unhide LL).2.2.1.frozen 8
        go_wp2_with fail
        clear x0 x1 x2 x3 x4 x5 x6 x7 x8 x9 x10 x11 f8
        obtain ⟨hC, lr, lo, hG⟩ := unhide LL
        clear LL
        have ho4 := unhide HO4
        clear HO4
        have lon : Loc (v7.setCell ⟨S, 8, none⟩ (.int .i64 1)) S #[.int .i64 0, .int .i64 (1 + xa), .int .i64 xb, .int .i64 0, .int .i64 0, .int .i64 n1, .int .i64 r1, .slice a4 k4.length c4, .int .i64 1, .slice none 0 0, .slice none 0 0, .bool false] 38 := (lo.set 8 (.int .i64 1))
        have hsS : v7.grownBy (v7.setCell ⟨S, 8, none⟩ (.int .i64 1)) (some S) := (setGO v7 S 8 (.int .i64 1))
        obtain ⟨x0, x1, x2, x3, x4, x5, x6, x7, x8, x9, x10, x11⟩ := lo.twelve
        have f8 := lo.frozen 8
        have hCn := hC.set hsS (by omega) (by omega)
        have lrn := lr.frm (Frm.ofGrown hsS) (by simp; omega)
        replace ho4 := ho4.keepBy hsS (.inr (fun e => by have := (ho4.lt _ e).1; omega))
        have hGm := grown_new hG hsS (fun q hq => by cases hq; omega)
        have szs8 := hsS.size
        clear hC lr lo hG hsS
        have hC := hCn
        have lr := lrn
        have lo := lon
        have hG := hGm
        clear hCn lrn lon hGm
        clear x0 x1 x2 x3 x4 x5 x6 x7 x8 x9 x10 x11 f8
        generalize (v7.setCell ⟨S, 8, none⟩ (.int .i64 1)) = ws9 at *
        have hsl10 : S < ws9.heap.size := lo.lt
        refine (unhide HW ws9 hC).mono ?_
        rintro e v10 ⟨a10, c10, m10, rfl, ho10, hml10, hCn, hGn⟩
        have rg10 := ho10.lt
        have lrn := lr.frm (Frm.ofGrown hGn) (by simp; omega)
        have lon := lo.frm (Frm.ofGrown hGn) (by simp; omega)
        replace ho4 := ho4.keepBy hGn (.inr (fun e => by have := (ho4.lt _ e).1; omega))
        have hGm := grown_trans hG hGn
        have szz10 := hGn.size
        clear hC lr lo hG hGn
        have hC := hCn
        have lr := lrn
        have lo := lon
        have hG := hGm
        clear hCn lrn lon hGm
        have lon : Loc (v10.setCell ⟨S, 10, none⟩ (.slice a10 m10.length c10)) S #[.int .i64 0, .int .i64 (1 + xa), .int .i64 xb, .int .i64 0, .int .i64 0, .int .i64 n1, .int .i64 r1, .slice a4 k4.length c4, .int .i64 1, .slice none 0 0, .slice a10 m10.length c10, .bool false] 38 := (lo.set 10 (.slice a10 m10.length c10))
        have hsS : v10.grownBy (v10.setCell ⟨S, 10, none⟩ (.slice a10 m10.length c10)) (some S) := (setGO v10 S 10 (.slice a10 m10.length c10))
        obtain ⟨x0, x1, x2, x3, x4, x5, x6, x7, x8, x9, x10, x11⟩ := lo.twelve
        have f10 := lo.frozen 10
        have hCn := hC.set hsS (by omega) (by omega)
        have lrn := lr.frm (Frm.ofGrown hsS) (by simp; omega)
        replace ho4 := ho4.keepBy hsS (.inr (fun e => by have := (ho4.lt _ e).1; omega))
        replace ho10 := ho10.keepBy hsS (fun q e e2 => by have := (ho10.lt _ e).1; cases e2; omega)
        have hGm := grown_new hG hsS (fun q hq => by cases hq; omega)
        have szs11 := hsS.size
        clear hC lr lo hG hsS
        have hC := hCn
        have lr := lrn
        have lo := lon
        have hG := hGm
        clear hCn lrn lon hGm
        skip
        have hnd : (FB (.slice a4 k4.length c4) ++ FB (.slice none 0 0) ++ FB (.slice a10 m10.length c10)).Nodup := by
          have e0 : FB (.slice none 0 0) = [] := rfl
          have d1 : Rng (FB (.slice a4 k4.length c4)) _ _ := fun q hq => rg4 q (by simpa [FB] using hq)
          have d2 : Rng (FB (.slice a10 m10.length c10)) _ _ := fun q hq => rg10 q (by simpa [FB] using hq)
          simpa [e0] using nodup_app (FB_nodup _) (FB_nodup _) d1 (d2.mono (by omega) (Nat.le_refl _))
        replace ho4 := ho4.mono (show S + 1 ≤ _ by omega)
        replace ho10 := ho10.mono (show S + 1 ≤ _ by omega)
        have hOw : OwM (v10.setCell ⟨S, 10, none⟩ (.slice a10 m10.length c10)) (S + 1) (⟨0, (1 + xa), xb, 0, 0, n1, r1, k4, 1, [], m10, false⟩ : OpV) (.slice a4 k4.length c4) (.slice none 0 0) (.slice a10 m10.length c10) := ⟨ho4, rowm_nil _ _, ho10, hnd⟩
        have hSm : SmO (⟨0, (1 + xa), xb, 0, 0, n1, r1, k4, 1, [], m10, false⟩ : OpV) 8 := ⟨hkl4, (Nat.zero_le _), hml10⟩
        clear hnd ho4 ho10
        have LL := hide (And.intro hC (And.intro lr (And.intro lo (And.intro hG (And.intro hOw hSm)))))
        clear hC lr lo hG hOw hSm
        go_upto_region 14 with fail
        obtain ⟨hC, lr, lo, hG, hOw, hSm⟩ := unhide LL
        clear LL x0 x1 x2 x3 x4 x5 x6 x7 x8 x9 x10 x11 f10
        generalize (v10.setCell ⟨S, 10, none⟩ (.slice a10 m10.length c10)) = ws12 at *
        have lrz : Loc ((((((((((((ws12.setCell ⟨R, 0, none⟩ (.int .i64 0)).setCell ⟨R, 1, none⟩ (.int .i64 (1 + xa))).setCell ⟨R, 2, none⟩ (.int .i64 xb)).setCell ⟨R, 3, none⟩ (.int .i64 0)).setCell ⟨R, 4, none⟩ (.int .i64 0)).setCell ⟨R, 5, none⟩ (.int .i64 n1)).setCell ⟨R, 6, none⟩ (.int .i64 r1)).setCell ⟨R, 7, none⟩ (.slice a4 k4.length c4)).setCell ⟨R, 8, none⟩ (.int .i64 1)).setCell ⟨R, 9, none⟩ (.slice none 0 0)).setCell ⟨R, 10, none⟩ (.slice a10 m10.length c10)).setCell ⟨R, 11, none⟩ (.bool false)) R #[.int .i64 0, .int .i64 (1 + xa), .int .i64 xb, .int .i64 0, .int .i64 0, .int .i64 n1, .int .i64 r1, .slice a4 k4.length c4, .int .i64 1, .slice none 0 0, .slice a10 m10.length c10, .bool false] 38 := set_twelve lr (.int .i64 0) (.int .i64 (1 + xa)) (.int .i64 xb) (.int .i64 0) (.int .i64 0) (.int .i64 n1) (.int .i64 r1) (.slice a4 k4.length c4) (.int .i64 1) (.slice none 0 0) (.slice a10 m10.length c10) (.bool false)
        have hsR : ws12.grownBy ((((((((((((ws12.setCell ⟨R, 0, none⟩ (.int .i64 0)).setCell ⟨R, 1, none⟩ (.int .i64 (1 + xa))).setCell ⟨R, 2, none⟩ (.int .i64 xb)).setCell ⟨R, 3, none⟩ (.int .i64 0)).setCell ⟨R, 4, none⟩ (.int .i64 0)).setCell ⟨R, 5, none⟩ (.int .i64 n1)).setCell ⟨R, 6, none⟩ (.int .i64 r1)).setCell ⟨R, 7, none⟩ (.slice a4 k4.length c4)).setCell ⟨R, 8, none⟩ (.int .i64 1)).setCell ⟨R, 9, none⟩ (.slice none 0 0)).setCell ⟨R, 10, none⟩ (.slice a10 m10.length c10)).setCell ⟨R, 11, none⟩ (.bool false)) (some R) := grow_twelve _ _ (.int .i64 0) (.int .i64 (1 + xa)) (.int .i64 xb) (.int .i64 0) (.int .i64 0) (.int .i64 n1) (.int .i64 r1) (.slice a4 k4.length c4) (.int .i64 1) (.slice none 0 0) (.slice a10 m10.length c10) (.bool false)
        have hO9 := hOw.by hsR (by omega)
        have hC9 := hC.set hsR (by omega) (by omega)
        have hG9 := grown_new hG hsR (fun q hq => by cases hq; omega)
        obtain ⟨y0, y1, y2, y3, y4, y5, y6, y7, y8, y9, y10, y11⟩ := lo.twelve
        obtain ⟨z0, z1, z2, z3, z4, z5, z6, z7, z8, z9, z10, z11⟩ := lr.twelve
        have g0 := lr.frozen 0
        have g1 := lr.frozen 1
        have g2 := lr.frozen 2
        have g3 := lr.frozen 3
        have g4 := lr.frozen 4
        have g5 := lr.frozen 5
        have g6 := lr.frozen 6
        have g7 := lr.frozen 7
        have g8 := lr.frozen 8
        have g9 := lr.frozen 9
        have g10 := lr.frozen 10
        have g11 := lr.frozen 11
        have KK := hide (And.intro lrz (And.intro hO9 (And.intro hC9 (And.intro hG9 hSm))))
        clear lrz hsR hO9 hC9 hG9 hC lr lo hG hOw hSm
        go_upto_region 14 with fail
        go_cut [] from 49 to 49 (fun wx => ∃ (o : OpV) (k n t : Value), Loc wx R #[.int .i64 o.kind, .int .i64 o.atN, .int .i64 o.atR, .int .i64 o.nodeN, .int .i64 o.nodeR, .int .i64 o.parN, .int .i64 o.parR, k, .int .i64 o.elem, n, t, .bool o.gone] 38 ∧ OwM wx (S + 1) o k n t ∧ Cur w0 wx g code l ∧ w.grownBy wx (some g) ∧ SmO o 8)
        case first =>
          go_wp2_with fail
          go_meet
          exact ⟨(⟨0, (1 + xa), xb, 0, 0, n1, r1, k4, 1, [], m10, false⟩ : OpV), _, _, _, unhide KK⟩
        case rest =>
          obtain ⟨o9, k9, n9, t9, hL, hO9, hC9, hG9, hS9⟩ := hcut
          obtain ⟨e0, e1, e2, e3, e4, e5, e6, e7, e8, e9, e10, e11⟩ := hL.twelve
          clear KK hL z0 z1 z2 z3 z4 z5 z6 z7 z8 z9 z10 z11 y0 y1 y2 y3 y4 y5 y6 y7 y8 y9 y10 y11 g0 g1 g2 g3 g4 g5 g6 g7 g8 g9 g10 g11
          have K9 := hide (And.intro (hO9.mono (show R ≤ S + 1 by omega)) (And.intro hS9 (And.intro hC9 hG9)))
          clear hO9 hC9 hG9 hS9
          go_wp2_with fail
          exact bodyPost_ret (v := .agg #[.int .i64 o9.kind, .int .i64 o9.atN, .int .i64 o9.atR, .int .i64 o9.nodeN, .int .i64 o9.nodeR, .int .i64 o9.parN, .int .i64 o9.parR, k9, .int .i64 o9.elem, n9, t9, .bool o9.gone]) (by simp [results, Tryz.results128, go_sem, e0, e1, e2, e3, e4, e5, e6, e7, e8, e9, e10, e11]) rfl (unhide HQ _ _ ⟨o9, k9, n9, t9, rfl, unhide K9⟩)
      | false =>
        have LL := hide (And.intro hC (And.intro lr (And.intro lo hG)))
        clear hC lr lo hG
        have HO4 := hide ho4
        clear ho4
        go_wp2_with fail
        obtain ⟨hC, lr, lo, hG⟩ := unhide LL
        clear LL
        have ho4 := unhide HO4
        clear HO4
        have hsl8 : S < v7.heap.size := lo.lt
        refine (unhide HN v7 hC).mono ?_
        rintro e v8 ⟨a8, c8, m8, rfl, ho8, hml8, hCn, hGn⟩
        have rg8 := ho8.lt
        have lrn := lr.frm (Frm.ofGrown hGn) (by simp; omega)
        have lon := lo.frm (Frm.ofGrown hGn) (by simp; omega)
        replace ho4 := ho4.keepBy hGn (.inr (fun e => by have := (ho4.lt _ e).1; omega))
        have hGm := grown_trans hG hGn
        have szz8 := hGn.size
        clear hC lr lo hG hGn
        have hC := hCn
        have lr := lrn
        have lo := lon
        have hG := hGm
        clear hCn lrn lon hGm
        have lon : Loc (v8.setCell ⟨S, 9, none⟩ (.slice a8 m8.length c8)) S #[.int .i64 0, .int .i64 (1 + xa), .int .i64 xb, .int .i64 0, .int .i64 0, .int .i64 n1, .int .i64 r1, .slice a4 k4.length c4, .int .i64 0, .slice a8 m8.length c8, .slice none 0 0, .bool false] 38 := (lo.set 9 (.slice a8 m8.length c8))
        have hsS : v8.grownBy (v8.setCell ⟨S, 9, none⟩ (.slice a8 m8.length c8)) (some S) := (setGO v8 S 9 (.slice a8 m8.length c8))
        obtain ⟨x0, x1, x2, x3, x4, x5, x6, x7, x8, x9, x10, x11⟩ := lo.twelve
        have f9 := lo.frozen 9
        have hCn := hC.set hsS (by omega) (by omega)
        have lrn := lr.frm (Frm.ofGrown hsS) (by simp; omega)
        replace ho4 := ho4.keepBy hsS (.inr (fun e => by have := (ho4.lt _ e).1; omega))
        replace ho8 := ho8.keepBy hsS (fun q e e2 => by have := (ho8.lt _ e).1; cases e2; omega)
        have hGm := grown_new hG hsS (fun q hq => by cases hq; omega)
        have szs9 := hsS.size
        clear hC lr lo hG hsS
        have hC := hCn
        have lr := lrn
        have lo := lon
        have hG := hGm
        clear hCn lrn lon hGm
        have hnd : (FB (.slice a4 k4.length c4) ++ FB (.slice a8 m8.length c8) ++ FB (.slice none 0 0)).Nodup := by
          have e0 : FB (.slice none 0 0) = [] := rfl
          have d1 : Rng (FB (.slice a4 k4.length c4)) _ _ := fun q hq => rg4 q (by simpa [FB] using hq)
          have d2 : Rng (FB (.slice a8 m8.length c8)) _ _ := fun q hq => rg8 q (by simpa [FB] using hq)
          simpa [e0] using nodup_app (FB_nodup _) (FB_nodup _) d1 (d2.mono (by omega) (Nat.le_refl _))
        replace ho4 := ho4.mono (show S + 1 ≤ _ by omega)
        replace ho8 := ho8.mono (show S + 1 ≤ _ by omega)
        have hOw : OwM (v8.setCell ⟨S, 9, none⟩ (.slice a8 m8.length c8)) (S + 1) (⟨0, (1 + xa), xb, 0, 0, n1, r1, k4, 0, m8, [], false⟩ : OpV) (.slice a4 k4.length c4) (.slice a8 m8.length c8) (.slice none 0 0) := ⟨ho4, ho8, rowm_nil _ _, hnd⟩
        have hSm : SmO (⟨0, (1 + xa), xb, 0, 0, n1, r1, k4, 0, m8, [], false⟩ : OpV) 8 := ⟨hkl4, hml8, (Nat.zero_le _)⟩
        clear hnd ho4 ho8
        have LL := hide (And.intro hC (And.intro lr (And.intro lo (And.intro hG (And.intro hOw hSm)))))
        clear hC lr lo hG hOw hSm
        go_upto_region 14 with fail
        obtain ⟨hC, lr, lo, hG, hOw, hSm⟩ := unhide LL
        clear LL x0 x1 x2 x3 x4 x5 x6 x7 x8 x9 x10 x11 f9
        generalize (v8.setCell ⟨S, 9, none⟩ (.slice a8 m8.length c8)) = ws10 at *
        have lrz : Loc ((((((((((((ws10.setCell ⟨R, 0, none⟩ (.int .i64 0)).setCell ⟨R, 1, none⟩ (.int .i64 (1 + xa))).setCell ⟨R, 2, none⟩ (.int .i64 xb)).setCell ⟨R, 3, none⟩ (.int .i64 0)).setCell ⟨R, 4, none⟩ (.int .i64 0)).setCell ⟨R, 5, none⟩ (.int .i64 n1)).setCell ⟨R, 6, none⟩ (.int .i64 r1)).setCell ⟨R, 7, none⟩ (.slice a4 k4.length c4)).setCell ⟨R, 8, none⟩ (.int .i64 0)).setCell ⟨R, 9, none⟩ (.slice a8 m8.length c8)).setCell ⟨R, 10, none⟩ (.slice none 0 0)).setCell ⟨R, 11, none⟩ (.bool false)) R #[.int .i64 0, .int .i64 (1 + xa), .int .i64 xb, .int .i64 0, .int .i64 0, .int .i64 n1, .int .i64 r1, .slice a4 k4.length c4, .int .i64 0, .slice a8 m8.length c8, .slice none 0 0, .bool false] 38 := set_twelve lr (.int .i64 0) (.int .i64 (1 + xa)) (.int .i64 xb) (.int .i64 0) (.int .i64 0) (.int .i64 n1) (.int .i64 r1) (.slice a4 k4.length c4) (.int .i64 0) (.slice a8 m8.length c8) (.slice none 0 0) (.bool false)
        have hsR : ws10.grownBy ((((((((((((ws10.setCell ⟨R, 0, none⟩ (.int .i64 0)).setCell ⟨R, 1, none⟩ (.int .i64 (1 + xa))).setCell ⟨R, 2, none⟩ (.int .i64 xb)).setCell ⟨R, 3, none⟩ (.int .i64 0)).setCell ⟨R, 4, none⟩ (.int .i64 0)).setCell ⟨R, 5, none⟩ (.int .i64 n1)).setCell ⟨R, 6, none⟩ (.int .i64 r1)).setCell ⟨R, 7, none⟩ (.slice a4 k4.length c4)).setCell ⟨R, 8, none⟩ (.int .i64 0)).setCell ⟨R, 9, none⟩ (.slice a8 m8.length c8)).setCell ⟨R, 10, none⟩ (.slice none 0 0)).setCell ⟨R, 11, none⟩ (.bool false)) (some R) := grow_twelve _ _ (.int .i64 0) (.int .i64 (1 + xa)) (.int .i64 xb) (.int .i64 0) (.int .i64 0) (.int .i64 n1) (.int .i64 r1) (.slice a4 k4.length c4) (.int .i64 0) (.slice a8 m8.length c8) (.slice none 0 0) (.bool false)
        have hO9 := hOw.by hsR (by omega)
        have hC9 := hC.set hsR (by omega) (by omega)
        have hG9 := grown_new hG hsR (fun q hq => by cases hq; omega)
        obtain ⟨y0, y1, y2, y3, y4, y5, y6, y7, y8, y9, y10, y11⟩ := lo.twelve
        obtain ⟨z0, z1, z2, z3, z4, z5, z6, z7, z8, z9, z10, z11⟩ := lr.twelve
        have g0 := lr.frozen 0
        have g1 := lr.frozen 1
        have g2 := lr.frozen 2
        have g3 := lr.frozen 3
        have g4 := lr.frozen 4
        have g5 := lr.frozen 5
        have g6 := lr.frozen 6
        have g7 := lr.frozen 7
        have g8 := lr.frozen 8
        have g9 := lr.frozen 9
        have g10 := lr.frozen 10
        have g11 := lr.frozen 11
        have KK := hide (And.intro lrz (And.intro hO9 (And.intro hC9 (And.intro hG9 hSm))))
        clear lrz hsR hO9 hC9 hG9 hC lr lo hG hOw hSm
        go_upto_region 14 with fail
        go_cut [] from 49 to 49 (fun wx => ∃ (o : OpV) (k n t : Value), Loc wx R #[.int .i64 o.kind, .int .i64 o.atN, .int .i64 o.atR, .int .i64 o.nodeN, .int .i64 o.nodeR, .int .i64 o.parN, .int .i64 o.parR, k, .int .i64 o.elem, n, t, .bool o.gone] 38 ∧ OwM wx (S + 1) o k n t ∧ Cur w0 wx g code l ∧ w.grownBy wx (some g) ∧ SmO o 8)
        case first =>
          go_wp2_with fail
          go_meet
          exact ⟨(⟨0, (1 + xa), xb, 0, 0, n1, r1, k4, 0, m8, [], false⟩ : OpV), _, _, _, unhide KK⟩
        case rest =>
          obtain ⟨o9, k9, n9, t9, hL, hO9, hC9, hG9, hS9⟩ := hcut
          obtain ⟨e0, e1, e2, e3, e4, e5, e6, e7, e8, e9, e10, e11⟩ := hL.twelve
          clear KK hL z0 z1 z2 z3 z4 z5 z6 z7 z8 z9 z10 z11 y0 y1 y2 y3 y4 y5 y6 y7 y8 y9 y10 y11 g0 g1 g2 g3 g4 g5 g6 g7 g8 g9 g10 g11
          have K9 := hide (And.intro (hO9.mono (show R ≤ S + 1 by omega)) (And.intro hS9 (And.intro hC9 hG9)))
          clear hO9 hC9 hG9 hS9
          go_wp2_with fail
          exact bodyPost_ret (v := .agg #[.int .i64 o9.kind, .int .i64 o9.atN, .int .i64 o9.atR, .int .i64 o9.nodeN, .int .i64 o9.nodeR, .int .i64 o9.parN, .int .i64 o9.parR, k9, .int .i64 o9.elem, n9, t9, .bool o9.gone]) (by simp [results, Tryz.results128, go_sem, e0, e1, e2, e3, e4, e5, e6, e7, e8, e9, e10, e11]) rfl (unhide HQ _ _ ⟨o9, k9, n9, t9, rfl, unhide K9⟩)
    by_cases h1 : kz = 1
    · subst h1
      have LL := hide (And.intro hC (And.intro lr (And.intro lo hG)))
      clear hC lr lo hG
      go_wp2_with fail
      obtain ⟨hC, lr, lo, hG⟩ := unhide LL
      clear LL
      have hsl1 : S < wb.heap.size := lo.lt
      refine (unhide HI wb hC).mono ?_
      rintro e v1 ⟨n1, r1, _, _, _, _, rfl, hCn, hGn⟩
      have lrn := lr.frm (Frm.ofGrown hGn) (by simp; omega)
      have lon := lo.frm (Frm.ofGrown hGn) (by simp; omega)
      have hGm := grown_trans hG hGn
      have szz1 := hGn.size
      clear hC lr lo hG hGn
      have hC := hCn
      have lr := lrn
      have lo := lon
      have hG := hGm
      clear hCn lrn lon hGm
      have lon : Loc ((v1.setCell ⟨S, 5, none⟩ (.int .i64 n1)).setCell ⟨S, 6, none⟩ (.int .i64 r1)) S #[.int .i64 1, .int .i64 (1 + xa), .int .i64 xb, .int .i64 0, .int .i64 0, .int .i64 n1, .int .i64 r1, .slice none 0 0, .int .i64 0, .slice none 0 0, .slice none 0 0, .bool false] 38 := ((lo.set 5 (.int .i64 n1)).set 6 (.int .i64 r1))
      have hsS : v1.grownBy ((v1.setCell ⟨S, 5, none⟩ (.int .i64 n1)).setCell ⟨S, 6, none⟩ (.int .i64 r1)) (some S) := (grown_trans (setGO v1 S 5 (.int .i64 n1)) (setGO _ S 6 (.int .i64 r1)))
      obtain ⟨x0, x1, x2, x3, x4, x5, x6, x7, x8, x9, x10, x11⟩ := lo.twelve
      have f5 := lo.frozen 5
      have f6 := lo.frozen 6
      have hCn := hC.set hsS (by omega) (by omega)
      have lrn := lr.frm (Frm.ofGrown hsS) (by simp; omega)
      have hGm := grown_new hG hsS (fun q hq => by cases hq; omega)
      have szs2 := hsS.size
      clear hC lr lo hG hsS
      have hC := hCn
      have lr := lrn
      have lo := lon
      have hG := hGm
      clear hCn lrn lon hGm
      have LL := hide (And.intro hC (And.intro lr (And.intro lo hG)))
      clear hC lr lo hG
      go_wp2_with fail
      obtain ⟨hC, lr, lo, hG⟩ := unhide LL
      clear LL x0 x1 x2 x3 x4 x5 x6 x7 x8 x9 x10 x11 f5 f6
      generalize ((v1.setCell ⟨S, 5, none⟩ (.int .i64 n1)).setCell ⟨S, 6, none⟩ (.int .i64 r1)) = ws3 at *
      have hsl4 : S < ws3.heap.size := lo.lt
      refine (unhide HK ws3 hC).mono ?_
      rintro e v4 ⟨a4, c4, k4, rfl, ho4, hkl4, hCn, hGn⟩
      have rg4 := ho4.lt
      have lrn := lr.frm (Frm.ofGrown hGn) (by simp; omega)
      have lon := lo.frm (Frm.ofGrown hGn) (by simp; omega)
      have hGm := grown_trans hG hGn
      have szz4 := hGn.size
      clear hC lr lo hG hGn
      have hC := hCn
      have lr := lrn
      have lo := lon
      have hG := hGm
      clear hCn lrn lon hGm
      have lon : Loc (v4.setCell ⟨S, 7, none⟩ (.slice a4 k4.length c4)) S #[.int .i64 1, .int .i64 (1 + xa), .int .i64 xb, .int .i64 0, .int .i64 0, .int .i64 n1, .int .i64 r1, .slice a4 k4.length c4, .int .i64 0, .slice none 0 0, .slice none 0 0, .bool false] 38 := (lo.set 7 (.slice a4 k4.length c4))
      have hsS : v4.grownBy (v4.setCell ⟨S, 7, none⟩ (.slice a4 k4.length c4)) (some S) := (setGO v4 S 7 (.slice a4 k4.length c4))
      obtain ⟨x0, x1, x2, x3, x4, x5, x6, x7, x8, x9, x10, x11⟩ := lo.twelve
      have f7 := lo.frozen 7
      have hCn := hC.set hsS (by omega) (by omega)
      have lrn := lr.frm (Frm.ofGrown hsS) (by simp; omega)
      replace ho4 := ho4.keepBy hsS (.inr (fun e => by have := (ho4.lt _ e).1; omega))
      have hGm := grown_new hG hsS (fun q hq => by cases hq; omega)
      have szs5 := hsS.size
      clear hC lr lo hG hsS
      have hC := hCn
      have lr := lrn
      have lo := lon
      have hG := hGm
      clear hCn lrn lon hGm
      have hnd : (FB (.slice a4 k4.length c4) ++ FB (.slice none 0 0) ++ FB (.slice none 0 0)).Nodup := by
        have e0 : FB (.slice none 0 0) = [] := rfl
        simpa [e0] using FB_nodup _
      replace ho4 := ho4.mono (show S + 1 ≤ _ by omega)
      have hOw : OwM (v4.setCell ⟨S, 7, none⟩ (.slice a4 k4.length c4)) (S + 1) (⟨1, (1 + xa), xb, 0, 0, n1, r1, k4, 0, [], [], false⟩ : OpV) (.slice a4 k4.length c4) (.slice none 0 0) (.slice none 0 0) := ⟨ho4, rowm_nil _ _, rowm_nil _ _, hnd⟩
      have hSm : SmO (⟨1, (1 + xa), xb, 0, 0, n1, r1, k4, 0, [], [], false⟩ : OpV) 8 := ⟨hkl4, (Nat.zero_le _), (Nat.zero_le _)⟩
      clear hnd ho4
      have KK := hide (show OpAt w0 w (v4.setCell ⟨S, 7, none⟩ (.slice a4 k4.length c4)) g R S 8 code l from ⟨(⟨1, (1 + xa), xb, 0, 0, n1, r1, k4, 0, [], [], false⟩ : OpV), _, _, _, lo, lr, hOw, hSm, hC, hG⟩)
      clear hC lr lo hG hOw hSm
      go_wp2_with fail
      go_meet
      exact unhide KK
    by_cases h2 : kz = 2
    · subst h2
      have LL := hide (And.intro hC (And.intro lr (And.intro lo hG)))
      clear hC lr lo hG
      go_wp2_with fail
      obtain ⟨hC, lr, lo, hG⟩ := unhide LL
      clear LL
      have hsl1 : S < wb.heap.size := lo.lt
      refine (unhide HW wb hC).mono ?_
      rintro e v1 ⟨a1, c1, m1, rfl, ho1, hml1, hCn, hGn⟩
      have rg1 := ho1.lt
      have lrn := lr.frm (Frm.ofGrown hGn) (by simp; omega)
      have lon := lo.frm (Frm.ofGrown hGn) (by simp; omega)
      have hGm := grown_trans hG hGn
      have szz1 := hGn.size
      clear hC lr lo hG hGn
      have hC := hCn
      have lr := lrn
      have lo := lon
      have hG := hGm
      clear hCn lrn lon hGm
      have lon : Loc (v1.setCell ⟨S, 10, none⟩ (.slice a1 m1.length c1)) S #[.int .i64 2, .int .i64 (1 + xa), .int .i64 xb, .int .i64 0, .int .i64 0, .int .i64 0, .int .i64 0, .slice none 0 0, .int .i64 0, .slice none 0 0, .slice a1 m1.length c1, .bool false] 38 := (lo.set 10 (.slice a1 m1.length c1))
      have hsS : v1.grownBy (v1.setCell ⟨S, 10, none⟩ (.slice a1 m1.length c1)) (some S) := (setGO v1 S 10 (.slice a1 m1.length c1))
      obtain ⟨x0, x1, x2, x3, x4, x5, x6, x7, x8, x9, x10, x11⟩ := lo.twelve
      have f10 := lo.frozen 10
      have hCn := hC.set hsS (by omega) (by omega)
      have lrn := lr.frm (Frm.ofGrown hsS) (by simp; omega)
      replace ho1 := ho1.keepBy hsS (fun q e e2 => by have := (ho1.lt _ e).1; cases e2; omega)
      have hGm := grown_new hG hsS (fun q hq => by cases hq; omega)
      have szs2 := hsS.size
      clear hC lr lo hG hsS
      have hC := hCn
      have lr := lrn
      have lo := lon
      have hG := hGm
      clear hCn lrn lon hGm
      have hnd : (FB (.slice none 0 0) ++ FB (.slice none 0 0) ++ FB (.slice a1 m1.length c1)).Nodup := by
        have e0 : FB (.slice none 0 0) = [] := rfl
        simpa [e0] using FB_nodup _
      replace ho1 := ho1.mono (show S + 1 ≤ _ by omega)
      have hOw : OwM (v1.setCell ⟨S, 10, none⟩ (.slice a1 m1.length c1)) (S + 1) (⟨2, (1 + xa), xb, 0, 0, 0, 0, [], 0, [], m1, false⟩ : OpV) (.slice none 0 0) (.slice none 0 0) (.slice a1 m1.length c1) := ⟨ownz_nil _ _, rowm_nil _ _, ho1, hnd⟩
      have hSm : SmO (⟨2, (1 + xa), xb, 0, 0, 0, 0, [], 0, [], m1, false⟩ : OpV) 8 := ⟨(Nat.zero_le _), (Nat.zero_le _), hml1⟩
      clear hnd ho1
      have KK := hide (show OpAt w0 w (v1.setCell ⟨S, 10, none⟩ (.slice a1 m1.length c1)) g R S 8 code l from ⟨(⟨2, (1 + xa), xb, 0, 0, 0, 0, [], 0, [], m1, false⟩ : OpV), _, _, _, lo, lr, hOw, hSm, hC, hG⟩)
      clear hC lr lo hG hOw hSm
      go_wp2_with fail
      go_meet
      exact unhide KK
    have d0 : (kz == 0) = false := by simpa using h0
    have d1 : (kz == 1) = false := by simpa using h1
    have d2 : (kz == 2) = false := by simpa using h2
    have hAt := (Below.refl wb.heap.size wb).alloc (Nat.le_refl _) (.cells #[.string ⟨#[99, 108, 97, 115, 115]⟩, .string ⟨#[105, 100]⟩, .string ⟨#[107]⟩, .string ⟨#[122]⟩] 9)
    have ltb := Loc.made wb #[.string ⟨#[99, 108, 97, 115, 115]⟩, .string ⟨#[105, 100]⟩, .string ⟨#[107]⟩, .string ⟨#[122]⟩] 9
    have hSl := lo.lt
    have LL := hide (And.intro (hC.keepAll hAt) (And.intro (lr.all hAt) (And.intro (lo.all hAt) (And.intro (grown_below hG hAt) ltb))))
    have y0 := lo.cell 0
    clear hC lr lo hG hAt ltb h0 h1 h2
    go_wp2_with fail
    obtain ⟨hC, lr, lo, hG, ltb⟩ := unhide LL
    clear LL y0
    generalize (wb.alloc (.cells #[.string ⟨#[99, 108, 97, 115, 115]⟩, .string ⟨#[105, 100]⟩, .string ⟨#[107]⟩, .string ⟨#[122]⟩] 9)) = wt at *
    generalize hTT : wb.heap.size = TT at *
    have htl := ltb.lt
    refine (unhide HB wt 4 hC (by omega) (by omega)).mono ?_
    rintro e w4 ⟨xk, hxk0, hxk1, rfl, hCn, hGn⟩
    have lt1 := ltb.frm (Frm.ofGrown hGn) (by simp; omega)
    have lrn := lr.frm (Frm.ofGrown hGn) (by simp; omega)
    have lon := lo.frm (Frm.ofGrown hGn) (by simp; omega)
    have hGm := grown_trans hG hGn
    have szz1 := hGn.size
    clear hC lr lo hG hGn
    have hC := hCn
    have lr := lrn
    have lo := lon
    have hG := hGm
    clear hCn lrn lon hGm
    obtain ⟨kk, rfl⟩ := Int.eq_ofNat_of_zero_le hxk0
    obtain ⟨s, hs, hs8⟩ : ∃ s : ByteArray, w4.cell? ⟨TT, kk, none⟩ = some (.string s) ∧ s.size ≤ 8 := by
      rw [lt1.cell kk]
      have hk : kk < 4 := by omega
      match kk, hk with
      | 0, _ => exact ⟨_, rfl, by decide⟩
      | 1, _ => exact ⟨_, rfl, by decide⟩
      | 2, _ => exact ⟨_, rfl, by decide⟩
      | 3, _ => exact ⟨_, rfl, by decide⟩
    obtain ⟨w5, cap, hrun, hrow, hBc⟩ := conv_row w4 s (by omega)
    have hsl5 : S < w4.heap.size := lo.lt
    have hkk : (kk : Int) < 4 := hxk1
    have hkk0 : (0 : Int) ≤ (kk : Int) := by omega
    obtain ⟨a90, c90, m90, ev, ho90, hml90⟩ : ∃ a c m, (Value.slice (some ⟨w4.heap.size, 0, none⟩) s.size cap) = .slice a (List.length m) c ∧ RowM w5 w4.heap.size (.slice a (List.length m) c) m ∧ m.length ≤ 8 := ⟨_, _, strL s, by rw [strL_len], by rw [strL_len]; exact hrow, by rw [strL_len]; exact hs8⟩
    rw [ev] at hrun
    clear hrow ev
    have rg90 := ho90.lt
    replace hC := hC.keepAll hBc
    replace lr := lr.all hBc
    replace lo := lo.all hBc
    replace hG := grown_below hG hBc
    have szc := hBc.size
    clear hBc lt1 ltb
    have lon : Loc (w5.setCell ⟨S, 9, none⟩ (.slice a90 m90.length c90)) S #[.int .i64 kz, .int .i64 (1 + xa), .int .i64 xb, .int .i64 0, .int .i64 0, .int .i64 0, .int .i64 0, .slice none 0 0, .int .i64 0, .slice a90 m90.length c90, .slice none 0 0, .bool false] 38 := (lo.set 9 (.slice a90 m90.length c90))
    have hsS : w5.grownBy (w5.setCell ⟨S, 9, none⟩ (.slice a90 m90.length c90)) (some S) := (setGO w5 S 9 (.slice a90 m90.length c90))
    obtain ⟨x0, x1, x2, x3, x4, x5, x6, x7, x8, x9, x10, x11⟩ := lo.twelve
    have f9 := lo.frozen 9
    have hCn := hC.set hsS (by omega) (by omega)
    have lrn := lr.frm (Frm.ofGrown hsS) (by simp; omega)
    replace ho90 := ho90.keepBy hsS (fun q e e2 => by have := (ho90.lt _ e).1; cases e2; omega)
    have hGm := grown_new hG hsS (fun q hq => by cases hq; omega)
    have szs2 := hsS.size
    clear hC lr lo hG hsS
    have hC := hCn
    have lr := lrn
    have lo := lon
    have hG := hGm
    clear hCn lrn lon hGm
    have hrun2 := hrun
    have LL := hide (And.intro hC (And.intro lr (And.intro lo hG)))
    clear hC lr lo hG
    have HO90 := hide ho90
    clear ho90
    go_wp2_with fail
    obtain ⟨hC, lr, lo, hG⟩ := unhide LL
    clear LL x0 x1 x2 x3 x4 x5 x6 x7 x8 x9 x10 x11 f9
    have ho90 := unhide HO90
    clear HO90
    generalize (w5.setCell ⟨S, 9, none⟩ (.slice a90 m90.length c90)) = ws3 at *
    clear hrun hrun2 hs
    have hsl4 : S < ws3.heap.size := lo.lt
    refine (unhide HO ws3 hC).mono ?_
    rintro e v4 ⟨b4, rfl, hCn, hGn⟩
    have lrn := lr.frm (Frm.ofGrown hGn) (by simp; omega)
    have lon := lo.frm (Frm.ofGrown hGn) (by simp; omega)
    replace ho90 := ho90.keepBy hGn (fun q e e2 => by have := (ho90.lt _ e).1; cases e2; omega)
    have hGm := grown_trans hG hGn
    have szz4 := hGn.size
    clear hC lr lo hG hGn
    have hC := hCn
    have lr := lrn
    have lo := lon
    have hG := hGm
    clear hCn lrn lon hGm
    have lon : Loc (v4.setCell ⟨S, 11, none⟩ (.bool b4)) S #[.int .i64 kz, .int .i64 (1 + xa), .int .i64 xb, .int .i64 0, .int .i64 0, .int .i64 0, .int .i64 0, .slice none 0 0, .int .i64 0, .slice a90 m90.length c90, .slice none 0 0, .bool b4] 38 := (lo.set 11 (.bool b4))
    have hsS : v4.grownBy (v4.setCell ⟨S, 11, none⟩ (.bool b4)) (some S) := (setGO v4 S 11 (.bool b4))
    obtain ⟨x0, x1, x2, x3, x4, x5, x6, x7, x8, x9, x10, x11⟩ := lo.twelve
    have f11 := lo.frozen 11
    have hCn := hC.set hsS (by omega) (by omega)
    have lrn := lr.frm (Frm.ofGrown hsS) (by simp; omega)
    replace ho90 := ho90.keepBy hsS (fun q e e2 => by have := (ho90.lt _ e).1; cases e2; omega)
    have hGm := grown_new hG hsS (fun q hq => by cases hq; omega)
    have szs5 := hsS.size
    clear hC lr lo hG hsS
    have hC := hCn
    have lr := lrn
    have lo := lon
    have hG := hGm
    clear hCn lrn lon hGm
    have y11 := lo.cell 11
    cases b4 with
    | true =>
      have hnd : (FB (.slice none 0 0) ++ FB (.slice a90 m90.length c90) ++ FB (.slice none 0 0)).Nodup := by
        have e0 : FB (.slice none 0 0) = [] := rfl
        simpa [e0] using FB_nodup _
      replace ho90 := ho90.mono (show S + 1 ≤ _ by omega)
      have hOw : OwM (v4.setCell ⟨S, 11, none⟩ (.bool true)) (S + 1) (⟨kz, (1 + xa), xb, 0, 0, 0, 0, [], 0, m90, [], true⟩ : OpV) (.slice none 0 0) (.slice a90 m90.length c90) (.slice none 0 0) := ⟨ownz_nil _ _, ho90, rowm_nil _ _, hnd⟩
      have hSm : SmO (⟨kz, (1 + xa), xb, 0, 0, 0, 0, [], 0, m90, [], true⟩ : OpV) 8 := ⟨(Nat.zero_le _), hml90, (Nat.zero_le _)⟩
      clear hnd ho90
      have KK := hide (show OpAt w0 w (v4.setCell ⟨S, 11, none⟩ (.bool true)) g R S 8 code l from ⟨(⟨kz, (1 + xa), xb, 0, 0, 0, 0, [], 0, m90, [], true⟩ : OpV), _, _, _, lo, lr, hOw, hSm, hC, hG⟩)
      clear hC lr lo hG hOw hSm
      go_wp2_with fail
      go_meet
      exact unhide KK
    | false =>
      have LL := hide (And.intro hC (And.intro lr (And.intro lo hG)))
      clear hC lr lo hG
      have HO90 := hide ho90
      clear ho90
      go_wp2_with fail
      obtain ⟨hC, lr, lo, hG⟩ := unhide LL
      clear LL y11 x0 x1 x2 x3 x4 x5 x6 x7 x8 x9 x10 x11 f11
      have ho90 := unhide HO90
      clear HO90
      generalize (v4.setCell ⟨S, 11, none⟩ (.bool false)) = ws6 at *
      have hsl7 : S < ws6.heap.size := lo.lt
      refine (unhide HW ws6 hC).mono ?_
      rintro e v7 ⟨a7, c7, m7, rfl, ho7, hml7, hCn, hGn⟩
      have rg7 := ho7.lt
      have lrn := lr.frm (Frm.ofGrown hGn) (by simp; omega)
      have lon := lo.frm (Frm.ofGrown hGn) (by simp; omega)
      replace ho90 := ho90.keepBy hGn (fun q e e2 => by have := (ho90.lt _ e).1; cases e2; omega)
      have hGm := grown_trans hG hGn
      have szz7 := hGn.size
      clear hC lr lo hG hGn
      have hC := hCn
      have lr := lrn
      have lo := lon
      have hG := hGm
      clear hCn lrn lon hGm
      have lon : Loc (v7.setCell ⟨S, 10, none⟩ (.slice a7 m7.length c7)) S #[.int .i64 kz, .int .i64 (1 + xa), .int .i64 xb, .int .i64 0, .int .i64 0, .int .i64 0, .int .i64 0, .slice none 0 0, .int .i64 0, .slice a90 m90.length c90, .slice a7 m7.length c7, .bool false] 38 := (lo.set 10 (.slice a7 m7.length c7))
      have hsS : v7.grownBy (v7.setCell ⟨S, 10, none⟩ (.slice a7 m7.length c7)) (some S) := (setGO v7 S 10 (.slice a7 m7.length c7))
      obtain ⟨x0, x1, x2, x3, x4, x5, x6, x7, x8, x9, x10, x11⟩ := lo.twelve
      have f10 := lo.frozen 10
      have hCn := hC.set hsS (by omega) (by omega)
      have lrn := lr.frm (Frm.ofGrown hsS) (by simp; omega)
      replace ho90 := ho90.keepBy hsS (fun q e e2 => by have := (ho90.lt _ e).1; cases e2; omega)
      replace ho7 := ho7.keepBy hsS (fun q e e2 => by have := (ho7.lt _ e).1; cases e2; omega)
      have hGm := grown_new hG hsS (fun q hq => by cases hq; omega)
      have szs8 := hsS.size
      clear hC lr lo hG hsS
      have hC := hCn
      have lr := lrn
      have lo := lon
      have hG := hGm
      clear hCn lrn lon hGm
      have hnd : (FB (.slice none 0 0) ++ FB (.slice a90 m90.length c90) ++ FB (.slice a7 m7.length c7)).Nodup := by
        have e0 : FB (.slice none 0 0) = [] := rfl
        have d1 : Rng (FB (.slice a90 m90.length c90)) _ _ := fun q hq => rg90 q (by simpa [FB] using hq)
        have d2 : Rng (FB (.slice a7 m7.length c7)) _ _ := fun q hq => rg7 q (by simpa [FB] using hq)
        simpa [e0] using nodup_app (FB_nodup _) (FB_nodup _) d1 (d2.mono (by omega) (Nat.le_refl _))
      replace ho90 := ho90.mono (show S + 1 ≤ _ by omega)
      replace ho7 := ho7.mono (show S + 1 ≤ _ by omega)
      have hOw : OwM (v7.setCell ⟨S, 10, none⟩ (.slice a7 m7.length c7)) (S + 1) (⟨kz, (1 + xa), xb, 0, 0, 0, 0, [], 0, m90, m7, false⟩ : OpV) (.slice none 0 0) (.slice a90 m90.length c90) (.slice a7 m7.length c7) := ⟨ownz_nil _ _, ho90, ho7, hnd⟩
      have hSm : SmO (⟨kz, (1 + xa), xb, 0, 0, 0, 0, [], 0, m90, m7, false⟩ : OpV) 8 := ⟨(Nat.zero_le _), hml90, hml7⟩
      clear hnd ho90 ho7
      have KK := hide (show OpAt w0 w (v7.setCell ⟨S, 10, none⟩ (.slice a7 m7.length c7)) g R S 8 code l from ⟨(⟨kz, (1 + xa), xb, 0, 0, 0, 0, [], 0, m90, m7, false⟩ : OpV), _, _, _, lo, lr, hOw, hSm, hC, hG⟩)
      clear hC lr lo hG hOw hSm
      go_wp2_with fail
      go_meet
      exact unhide KK
  case rest =>
    obtain ⟨o, k, n, t, lo, lr, hOw, hSm, hC, hG⟩ := hcut
    obtain ⟨ak, ck, rfl, _, _⟩ := hOw.1.ints.shape
    obtain ⟨an, cn, rfl⟩ := hOw.2.1.shape
    obtain ⟨at', ct, rfl⟩ := hOw.2.2.1.shape
    have LL := hide (And.intro hC (And.intro lr (And.intro lo (And.intro hG (And.intro hOw hSm)))))
    clear hC lr lo hG hOw hSm
    go_wp2_with fail
    obtain ⟨hC, lr, lo, hG, hOw, hSm⟩ := unhide LL
    clear LL
    have hsl : S < wc.heap.size := lo.lt
    refine (unhide HI wc hC).mono ?_
    rintro e w6 ⟨nn, nr, _, _, _, _, rfl, hCn, hGn⟩
    replace hOw := hOw.by hGn (by omega)
    have lrn := lr.frm (Frm.ofGrown hGn) (by simp; omega)
    have lon := lo.frm (Frm.ofGrown hGn) (by simp; omega)
    have hGm := grown_trans hG hGn
    have szz1 := hGn.size
    clear hC lr lo hG hGn
    have hC := hCn
    have lr := lrn
    have lo := lon
    have hG := hGm
    clear hCn lrn lon hGm
    have lon : Loc ((w6.setCell ⟨S, 3, none⟩ (.int .i64 nn)).setCell ⟨S, 4, none⟩ (.int .i64 nr)) S #[.int .i64 o.kind, .int .i64 o.atN, .int .i64 o.atR, .int .i64 nn, .int .i64 nr, .int .i64 o.parN, .int .i64 o.parR, .slice ak o.key.length ck, .int .i64 o.elem, .slice an o.name.length cn, .slice at' o.text.length ct, .bool o.gone] 38 := ((lo.set 3 (.int .i64 nn)).set 4 (.int .i64 nr))
    have hsS : w6.grownBy ((w6.setCell ⟨S, 3, none⟩ (.int .i64 nn)).setCell ⟨S, 4, none⟩ (.int .i64 nr)) (some S) := (grown_trans (setGO w6 S 3 (.int .i64 nn)) (setGO _ S 4 (.int .i64 nr)))
    obtain ⟨x0, x1, x2, x3, x4, x5, x6, x7, x8, x9, x10, x11⟩ := lo.twelve
    have f3 := lo.frozen 3
    have f4 := lo.frozen 4
    have hCn := hC.set hsS (by omega) (by omega)
    have lrn := lr.frm (Frm.ofGrown hsS) (by simp; omega)
    have hGm := grown_new hG hsS (fun q hq => by cases hq; omega)
    have szs2 := hsS.size
    clear hC lr lo hG hsS
    have hC := hCn
    have lr := lrn
    have lo := lon
    have hG := hGm
    clear hCn lrn lon hGm
    replace hOw := hOw.by (grown_trans (setGO w6 S 3 (.int .i64 nn)) (setGO _ S 4 (.int .i64 nr))) (by omega)
    have hOw2 : OwM _ (S + 1) (⟨o.kind, o.atN, o.atR, nn, nr, o.parN, o.parR, o.key, o.elem, o.name, o.text, o.gone⟩ : OpV) _ _ _ := hOw
    have hSm2 : SmO (⟨o.kind, o.atN, o.atR, nn, nr, o.parN, o.parR, o.key, o.elem, o.name, o.text, o.gone⟩ : OpV) 8 := hSm
    clear hOw hSm
    have LL := hide (And.intro hC (And.intro lr (And.intro lo (And.intro hG (And.intro hOw2 hSm2)))))
    clear hC lr lo hG hOw2 hSm2
    go_upto_region 21 with fail
    obtain ⟨hC, lr, lo, hG, hOw, hSm⟩ := unhide LL
    clear LL x0 x1 x2 x3 x4 x5 x6 x7 x8 x9 x10 x11 f3 f4
    generalize ((w6.setCell ⟨S, 3, none⟩ (.int .i64 nn)).setCell ⟨S, 4, none⟩ (.int .i64 nr)) = w7 at *
    have lrz : Loc ((((((((((((w7.setCell ⟨R, 0, none⟩ (.int .i64 o.kind)).setCell ⟨R, 1, none⟩ (.int .i64 o.atN)).setCell ⟨R, 2, none⟩ (.int .i64 o.atR)).setCell ⟨R, 3, none⟩ (.int .i64 nn)).setCell ⟨R, 4, none⟩ (.int .i64 nr)).setCell ⟨R, 5, none⟩ (.int .i64 o.parN)).setCell ⟨R, 6, none⟩ (.int .i64 o.parR)).setCell ⟨R, 7, none⟩ (.slice ak o.key.length ck)).setCell ⟨R, 8, none⟩ (.int .i64 o.elem)).setCell ⟨R, 9, none⟩ (.slice an o.name.length cn)).setCell ⟨R, 10, none⟩ (.slice at' o.text.length ct)).setCell ⟨R, 11, none⟩ (.bool o.gone)) R #[.int .i64 o.kind, .int .i64 o.atN, .int .i64 o.atR, .int .i64 nn, .int .i64 nr, .int .i64 o.parN, .int .i64 o.parR, .slice ak o.key.length ck, .int .i64 o.elem, .slice an o.name.length cn, .slice at' o.text.length ct, .bool o.gone] 38 := set_twelve lr (.int .i64 o.kind) (.int .i64 o.atN) (.int .i64 o.atR) (.int .i64 nn) (.int .i64 nr) (.int .i64 o.parN) (.int .i64 o.parR) (.slice ak o.key.length ck) (.int .i64 o.elem) (.slice an o.name.length cn) (.slice at' o.text.length ct) (.bool o.gone)
    have hsR : w7.grownBy ((((((((((((w7.setCell ⟨R, 0, none⟩ (.int .i64 o.kind)).setCell ⟨R, 1, none⟩ (.int .i64 o.atN)).setCell ⟨R, 2, none⟩ (.int .i64 o.atR)).setCell ⟨R, 3, none⟩ (.int .i64 nn)).setCell ⟨R, 4, none⟩ (.int .i64 nr)).setCell ⟨R, 5, none⟩ (.int .i64 o.parN)).setCell ⟨R, 6, none⟩ (.int .i64 o.parR)).setCell ⟨R, 7, none⟩ (.slice ak o.key.length ck)).setCell ⟨R, 8, none⟩ (.int .i64 o.elem)).setCell ⟨R, 9, none⟩ (.slice an o.name.length cn)).setCell ⟨R, 10, none⟩ (.slice at' o.text.length ct)).setCell ⟨R, 11, none⟩ (.bool o.gone)) (some R) := grow_twelve _ _ (.int .i64 o.kind) (.int .i64 o.atN) (.int .i64 o.atR) (.int .i64 nn) (.int .i64 nr) (.int .i64 o.parN) (.int .i64 o.parR) (.slice ak o.key.length ck) (.int .i64 o.elem) (.slice an o.name.length cn) (.slice at' o.text.length ct) (.bool o.gone)
    have hO9 := hOw.by hsR (by omega)
    have hC9 := hC.set hsR (by omega) (by omega)
    have hG9 := grown_new hG hsR (fun q hq => by cases hq; omega)
    obtain ⟨y0, y1, y2, y3, y4, y5, y6, y7, y8, y9, y10, y11⟩ := lo.twelve
    obtain ⟨z0, z1, z2, z3, z4, z5, z6, z7, z8, z9, z10, z11⟩ := lr.twelve
    have g0 := lr.frozen 0
    have g1 := lr.frozen 1
    have g2 := lr.frozen 2
    have g3 := lr.frozen 3
    have g4 := lr.frozen 4
    have g5 := lr.frozen 5
    have g6 := lr.frozen 6
    have g7 := lr.frozen 7
    have g8 := lr.frozen 8
    have g9 := lr.frozen 9
    have g10 := lr.frozen 10
    have g11 := lr.frozen 11
    have KK := hide (And.intro lrz (And.intro hO9 (And.intro hC9 (And.intro hG9 hSm))))
    clear lrz hsR hO9 hC9 hG9 hC lr lo hG hOw hSm
    go_upto_region 21 with fail
    go_cut [] from 66 to 66 (fun wx => ∃ (o : OpV) (k n t : Value), Loc wx R #[.int .i64 o.kind, .int .i64 o.atN, .int .i64 o.atR, .int .i64 o.nodeN, .int .i64 o.nodeR, .int .i64 o.parN, .int .i64 o.parR, k, .int .i64 o.elem, n, t, .bool o.gone] 38 ∧ OwM wx (S + 1) o k n t ∧ Cur w0 wx g code l ∧ w.grownBy wx (some g) ∧ SmO o 8)
    case first =>
      go_wp2_with fail
      go_meet
      exact ⟨(⟨o.kind, o.atN, o.atR, nn, nr, o.parN, o.parR, o.key, o.elem, o.name, o.text, o.gone⟩ : OpV), _, _, _, unhide KK⟩
    case rest =>
      obtain ⟨o9, k9, n9, t9, hL, hO9, hC9, hG9, hS9⟩ := hcut
      obtain ⟨e0, e1, e2, e3, e4, e5, e6, e7, e8, e9, e10, e11⟩ := hL.twelve
      clear KK hL z0 z1 z2 z3 z4 z5 z6 z7 z8 z9 z10 z11 y0 y1 y2 y3 y4 y5 y6 y7 y8 y9 y10 y11 g0 g1 g2 g3 g4 g5 g6 g7 g8 g9 g10 g11
      have K9 := hide (And.intro (hO9.mono (show R ≤ S + 1 by omega)) (And.intro hS9 (And.intro hC9 hG9)))
      clear hO9 hC9 hG9 hS9
      go_wp2_with fail
      exact bodyPost_ret (v := .agg #[.int .i64 o9.kind, .int .i64 o9.atN, .int .i64 o9.atR, .int .i64 o9.nodeN, .int .i64 o9.nodeR, .int .i64 o9.parN, .int .i64 o9.parR, k9, .int .i64 o9.elem, n9, t9, .bool o9.gone]) (by simp [results, Tryz.results128, go_sem, e0, e1, e2, e3, e4, e5, e6, e7, e8, e9, e10, e11]) rfl (unhide HQ _ _ ⟨o9, k9, n9, t9, rfl, unhide K9⟩)
end Go.Proofs.YtaoodcielfabdaaGreat

/- spec.l4bent: a drawn operation, mostly bent a little. -/
namespace Go.Proofs.YtaoodcielfabdaaGreat
open Go.RowKit
set_option linter.unusedVariables false
set_option maxRecDepth 100000

theorem OwM.ne {w w' : World} {base q : Nat} {o : OpV} {k n t : Value} (h : OwM w base o k n t) (hg : w.grownBy w' (some q)) (hq : ∀ b ∈ FB k ++ FB n ++ FB t, b ≠ q) : OwM w' base o k n t :=
  ⟨h.1.keepBy hg (.inr (fun e => hq q (by simp [FB, e]) rfl)), h.2.1.keepBy hg (fun g e e2 => by cases e2; exact hq q (by simp [FB, e]) rfl), h.2.2.1.keepBy hg (fun g e e2 => by cases e2; exact hq q (by simp [FB, e]) rfl), h.2.2.2⟩
theorem OwM.rngM {w : World} {base : Nat} {o : OpV} {k n t : Value} (h : OwM w base o k n t) : Rng (FB k ++ FB n ++ FB t) base w.heap.size := by
  have h1 : Rng (FB k) base w.heap.size := fun g hg => h.1.lt g (by simpa [FB] using hg)
  exact (h1.app h.2.1.rng).app h.2.2.1.rng
def BentAt (w0 w wx : World) (g R S : Nat) (code : Value) (l : List Int) : Prop := ∃ (o : OpV) (k n t : Value), Loc wx S #[.int .i64 o.kind, .int .i64 o.atN, .int .i64 o.atR, .int .i64 o.nodeN, .int .i64 o.nodeR, .int .i64 o.parN, .int .i64 o.parR, k, .int .i64 o.elem, n, t, .bool o.gone] 38 ∧ Loc wx R #[.int .i64 0, .int .i64 0, .int .i64 0, .int .i64 0, .int .i64 0, .int .i64 0, .int .i64 0, .slice none 0 0, .int .i64 0, .slice none 0 0, .slice none 0 0, .bool false] 38 ∧ OwM wx (R + 1) o k n t ∧ SmO o 40 ∧ Cur w0 wx g code l ∧ w.grownBy wx (some g)
theorem SmO.up {o : OpV} {m m' : Nat} (h : SmO o m) (hm : m ≤ m') : SmO o m' := ⟨h.1, Nat.le_trans h.2.1 hm, Nat.le_trans h.2.2 hm⟩

set_option maxHeartbeats 12800000 in
theorem l4bent_any (w0 w : World) (g : Nat) (code : Value) (l : List Int) (h : Cur w0 w g code l) :
    Calls Tryz.prog 78 #[.pointer (some ⟨g, 0, none⟩)] w fun e w' => ∃ o k n t, e = .returned (opVal o k n t) ∧ OwM w' w.heap.size o k n t ∧ SmO o 40 ∧ Cur w0 w' g code l ∧ w.grownBy w' (some g) := by
  have hgl := h.lt
  have hgn := h.new
  have hw0 := h.below.size
  have HO := hide (fun W (hW : Cur w0 W g code l) => l1Once_any w0 W g code l 6 hW (by omega) (by omega))
  have HB := hide (fun W n (hW : Cur w0 W g code l) h1 h2 => l1Below_any w0 W g code l n hW h1 h2)
  have HP := hide (fun W v m (hW : Cur w0 W g code l) h1 h2 h3 h4 => l1PickInt_any w0 W g code l v m hW h1 h2 h3 h4)
  have lr := Loc.made w #[.int .i64 0, .int .i64 0, .int .i64 0, .int .i64 0, .int .i64 0, .int .i64 0, .int .i64 0, .slice none 0 0, .int .i64 0, .slice none 0 0, .slice none 0 0, .bool false] 38
  have hA := (Below.refl w.heap.size w).alloc (Nat.le_refl _) (.cells #[.int .i64 0, .int .i64 0, .int .i64 0, .int .i64 0, .int .i64 0, .int .i64 0, .int .i64 0, .slice none 0 0, .int .i64 0, .slice none 0 0, .slice none 0 0, .bool false] 38)
  have hsz : (w.alloc (.cells #[.int .i64 0, .int .i64 0, .int .i64 0, .int .i64 0, .int .i64 0, .int .i64 0, .int .i64 0, .slice none 0 0, .int .i64 0, .slice none 0 0, .slice none 0 0, .bool false] 38)).heap.size = w.heap.size + 1 := by simp
  have H1 := hide (l4op_any w0 _ g code l (h.keepAll hA))
  rw [hsz] at H1
  have LL := hide (And.intro lr (Below.toGrown hA (some g)))
  clear lr hA hsz h
  refine calls_via ?_
  intro Q HQ
  go_enter Tryz.func78, Tryz.ntmps78
  go_wp2_with fail
  obtain ⟨lr, hG⟩ := unhide LL
  clear LL
  refine (unhide H1).mono ?_
  rintro e w1 ⟨o, k, n, t, rfl, hOw, hSm, hC, hGn⟩
  obtain ⟨ak, ck, rfl, _, _⟩ := hOw.1.ints.shape
  obtain ⟨an, cn, rfl⟩ := hOw.2.1.shape
  obtain ⟨tt, ct, rfl⟩ := hOw.2.2.1.shape
  replace hSm : SmO o 39 := hSm.up (by omega)
  have lrn := lr.frm (Frm.ofGrown hGn) (by simp; omega)
  have hGm := grown_trans hG hGn
  have hrl := lrn.lt
  have hne : ∀ q ∈ (FB (.slice ak o.key.length ck) ++ FB (.slice an o.name.length cn) ++ FB (.slice tt o.text.length ct)), q ≠ w1.heap.size := fun q hq => by have := hOw.rngM q hq; omega
  have hAb := (Below.refl w1.heap.size w1).alloc (Nat.le_refl _) (.cells #[.int .i64 o.kind, .int .i64 o.atN, .int .i64 o.atR, .int .i64 o.nodeN, .int .i64 o.nodeR, .int .i64 o.parN, .int .i64 o.parR, .slice ak o.key.length ck, .int .i64 o.elem, .slice an o.name.length cn, .slice tt o.text.length ct, .bool o.gone] 38)
  have lo := Loc.made w1 #[.int .i64 o.kind, .int .i64 o.atN, .int .i64 o.atR, .int .i64 o.nodeN, .int .i64 o.nodeR, .int .i64 o.parN, .int .i64 o.parR, .slice ak o.key.length ck, .int .i64 o.elem, .slice an o.name.length cn, .slice tt o.text.length ct, .bool o.gone] 38
  have LL := hide (And.intro (hC.keepAll hAb) (And.intro (lrn.all hAb) (And.intro lo (And.intro (grown_below hGm hAb) (And.intro (hOw.keep hAb) (And.intro hSm hne))))))
  clear hC lrn hGm hAb lo lr hG hGn hOw hSm hne H1
  unfold opVal
  go_wp2_with fail
  obtain ⟨hC, lr, lo, hG, hOw, hSm, hne⟩ := unhide LL
  clear LL
  generalize (w1.alloc (.cells #[.int .i64 o.kind, .int .i64 o.atN, .int .i64 o.atR, .int .i64 o.nodeN, .int .i64 o.nodeR, .int .i64 o.parN, .int .i64 o.parR, .slice ak o.key.length ck, .int .i64 o.elem, .slice an o.name.length cn, .slice tt o.text.length ct, .bool o.gone] 38)) = wb at *
  generalize w1.heap.size = S at *
  generalize hRR : w.heap.size = R at *
  refine (unhide HO wb hC).mono ?_
  rintro e w2 ⟨b, rfl, hCn, hGn⟩
  replace hOw := hOw.by hGn (by omega)
  replace lr := lr.frm (Frm.ofGrown hGn) (by simp; omega)
  replace lo := lo.frm (Frm.ofGrown hGn) (by simp; omega)
  replace hG := grown_trans hG hGn
  replace hC := hCn
  clear hGn hCn HO
  cases b with
  | false =>
    clear hne
    replace hSm : SmO o 40 := hSm.up (by omega)
    have lrz : Loc ((((((((((((w2.setCell ⟨R, 0, none⟩ (.int .i64 o.kind)).setCell ⟨R, 1, none⟩ (.int .i64 o.atN)).setCell ⟨R, 2, none⟩ (.int .i64 o.atR)).setCell ⟨R, 3, none⟩ (.int .i64 o.nodeN)).setCell ⟨R, 4, none⟩ (.int .i64 o.nodeR)).setCell ⟨R, 5, none⟩ (.int .i64 o.parN)).setCell ⟨R, 6, none⟩ (.int .i64 o.parR)).setCell ⟨R, 7, none⟩ (.slice ak o.key.length ck)).setCell ⟨R, 8, none⟩ (.int .i64 o.elem)).setCell ⟨R, 9, none⟩ (.slice an o.name.length cn)).setCell ⟨R, 10, none⟩ (.slice tt o.text.length ct)).setCell ⟨R, 11, none⟩ (.bool o.gone)) R #[.int .i64 o.kind, .int .i64 o.atN, .int .i64 o.atR, .int .i64 o.nodeN, .int .i64 o.nodeR, .int .i64 o.parN, .int .i64 o.parR, .slice ak o.key.length ck, .int .i64 o.elem, .slice an o.name.length cn, .slice tt o.text.length ct, .bool o.gone] 38 := set_twelve lr (.int .i64 o.kind) (.int .i64 o.atN) (.int .i64 o.atR) (.int .i64 o.nodeN) (.int .i64 o.nodeR) (.int .i64 o.parN) (.int .i64 o.parR) (.slice ak o.key.length ck) (.int .i64 o.elem) (.slice an o.name.length cn) (.slice tt o.text.length ct) (.bool o.gone)
    have hsR : w2.grownBy ((((((((((((w2.setCell ⟨R, 0, none⟩ (.int .i64 o.kind)).setCell ⟨R, 1, none⟩ (.int .i64 o.atN)).setCell ⟨R, 2, none⟩ (.int .i64 o.atR)).setCell ⟨R, 3, none⟩ (.int .i64 o.nodeN)).setCell ⟨R, 4, none⟩ (.int .i64 o.nodeR)).setCell ⟨R, 5, none⟩ (.int .i64 o.parN)).setCell ⟨R, 6, none⟩ (.int .i64 o.parR)).setCell ⟨R, 7, none⟩ (.slice ak o.key.length ck)).setCell ⟨R, 8, none⟩ (.int .i64 o.elem)).setCell ⟨R, 9, none⟩ (.slice an o.name.length cn)).setCell ⟨R, 10, none⟩ (.slice tt o.text.length ct)).setCell ⟨R, 11, none⟩ (.bool o.gone)) (some R) := grow_twelve _ _ (.int .i64 o.kind) (.int .i64 o.atN) (.int .i64 o.atR) (.int .i64 o.nodeN) (.int .i64 o.nodeR) (.int .i64 o.parN) (.int .i64 o.parR) (.slice ak o.key.length ck) (.int .i64 o.elem) (.slice an o.name.length cn) (.slice tt o.text.length ct) (.bool o.gone)
    have hO9 := hOw.by hsR (by omega)
    have hC9 := hC.set hsR (by omega) (by omega)
    have hG9 := grown_new hG hsR (fun q hq => by cases hq; omega)
    obtain ⟨y0, y1, y2, y3, y4, y5, y6, y7, y8, y9, y10, y11⟩ := lo.twelve
    obtain ⟨z0, z1, z2, z3, z4, z5, z6, z7, z8, z9, z10, z11⟩ := lr.twelve
    have g0 := lr.frozen 0
    have g1 := lr.frozen 1
    have g2 := lr.frozen 2
    have g3 := lr.frozen 3
    have g4 := lr.frozen 4
    have g5 := lr.frozen 5
    have g6 := lr.frozen 6
    have g7 := lr.frozen 7
    have g8 := lr.frozen 8
    have g9 := lr.frozen 9
    have g10 := lr.frozen 10
    have g11 := lr.frozen 11
    have KK := hide (And.intro lrz (And.intro hO9 (And.intro hC9 (And.intro hG9 hSm))))
    clear lrz hsR hO9 hC9 hG9 hC lr lo hG hOw hSm
    go_upto_region 3 with fail
    go_cut [] from 9 to 9 (fun wx => ∃ (o : OpV) (k n t : Value), Loc wx R #[.int .i64 o.kind, .int .i64 o.atN, .int .i64 o.atR, .int .i64 o.nodeN, .int .i64 o.nodeR, .int .i64 o.parN, .int .i64 o.parR, k, .int .i64 o.elem, n, t, .bool o.gone] 38 ∧ OwM wx (R + 1) o k n t ∧ Cur w0 wx g code l ∧ w.grownBy wx (some g) ∧ SmO o 40)
    case first =>
      go_wp2_with fail
      go_meet
      exact ⟨(⟨o.kind, o.atN, o.atR, o.nodeN, o.nodeR, o.parN, o.parR, o.key, o.elem, o.name, o.text, o.gone⟩ : OpV), _, _, _, unhide KK⟩
    case rest =>
      obtain ⟨o9, k9, n9, t9, hL, hO9, hC9, hG9, hS9⟩ := hcut
      obtain ⟨e0, e1, e2, e3, e4, e5, e6, e7, e8, e9, e10, e11⟩ := hL.twelve
      clear KK hL z0 z1 z2 z3 z4 z5 z6 z7 z8 z9 z10 z11 y0 y1 y2 y3 y4 y5 y6 y7 y8 y9 y10 y11 g0 g1 g2 g3 g4 g5 g6 g7 g8 g9 g10 g11
      have K9 := hide (And.intro (hO9.mono (show R ≤ R + 1 by omega)) (And.intro hS9 (And.intro hC9 hG9)))
      clear hO9 hC9 hG9 hS9
      go_wp2_with fail
      exact bodyPost_ret (v := .agg #[.int .i64 o9.kind, .int .i64 o9.atN, .int .i64 o9.atR, .int .i64 o9.nodeN, .int .i64 o9.nodeR, .int .i64 o9.parN, .int .i64 o9.parR, k9, .int .i64 o9.elem, n9, t9, .bool o9.gone]) (by simp [results, Tryz.results78, go_sem, e0, e1, e2, e3, e4, e5, e6, e7, e8, e9, e10, e11]) rfl (unhide HQ _ _ ⟨o9, k9, n9, t9, rfl, unhide K9⟩)
  | true =>
    have LL := hide (And.intro hC (And.intro lr (And.intro lo (And.intro hG (And.intro hOw (And.intro hSm hne))))))
    clear hC lr lo hG hOw hSm hne
    go_wp2_with fail
    obtain ⟨hC, lr, lo, hG, hOw, hSm, hne⟩ := unhide LL
    clear LL
    refine (unhide HB w2 8 hC (by omega) (by omega)).mono ?_
    rintro e w3 ⟨x, hx0, hx1, rfl, hCn, hGn⟩
    replace hOw := hOw.by hGn (by omega)
    replace lr := lr.frm (Frm.ofGrown hGn) (by simp; omega)
    replace lo := lo.frm (Frm.ofGrown hGn) (by simp; omega)
    replace hG := grown_trans hG hGn
    replace hC := hCn
    clear hGn hCn
    have LL := hide (And.intro hC (And.intro lr (And.intro lo (And.intro hG (And.intro hOw (And.intro hSm hne))))))
    clear hC lr lo hG hOw hSm hne
    go_upto_block 0 with fail
    obtain ⟨hC, lr, lo, hG, hOw, hSm, hne⟩ := unhide LL
    clear LL
    have hsl : S < w3.heap.size := lo.lt
    go_cut [] from 12 to 62 (fun wx => BentAt w0 w wx g R S code l)
    case first =>
      by_cases h0 : x = 0
      · subst h0
        have LL := hide (And.intro hC (And.intro lr (And.intro lo (And.intro hG (And.intro hOw (And.intro hSm hne))))))
        clear hC lr lo hG hOw hSm hne
        go_wp2_with fail
        obtain ⟨hC, lr, lo, hG, hOw, hSm, hne⟩ := unhide LL
        clear LL
        refine (unhide HB w3 6 hC (by omega) (by omega)).mono ?_
        rintro e w4 ⟨y, hy0, hy1, rfl, hCn, hGn⟩
        replace hOw := hOw.by hGn (by omega)
        replace lr := lr.frm (Frm.ofGrown hGn) (by simp; omega)
        replace lo := lo.frm (Frm.ofGrown hGn) (by simp; omega)
        replace hG := grown_trans hG hGn
        replace hC := hCn
        clear hGn hCn
        have hsS := setGO w4 S 0 (.int .i64 (y - 1))
        obtain ⟨q0, q1, q2, q3, q4, q5, q6, q7, q8, q9, q10, q11⟩ := lo.twelve
        have fz := lo.frozen 0
        replace lo : Loc (w4.setCell ⟨S, 0, none⟩ (.int .i64 (y - 1))) S #[.int .i64 (y - 1), .int .i64 o.atN, .int .i64 o.atR, .int .i64 o.nodeN, .int .i64 o.nodeR, .int .i64 o.parN, .int .i64 o.parR, .slice ak o.key.length ck, .int .i64 o.elem, .slice an o.name.length cn, .slice tt o.text.length ct, .bool o.gone] 38 := lo.set 0 (.int .i64 (y - 1))
        replace hC := hC.set hsS (by omega) (by omega)
        replace lr := lr.frm (Frm.ofGrown hsS) (by simp; omega)
        replace hG := grown_new hG hsS (fun q hq => by cases hq; omega)
        replace hOw := hOw.ne hsS hne
        clear hsS
        have KK := hide (show BentAt w0 w (w4.setCell ⟨S, 0, none⟩ (.int .i64 (y - 1))) g R S code l from ⟨(⟨(y - 1), o.atN, o.atR, o.nodeN, o.nodeR, o.parN, o.parR, o.key, o.elem, o.name, o.text, o.gone⟩ : OpV), _, _, _, lo, lr, hOw, (SmO.up hSm (by omega)), hC, hG⟩)
        clear hC lr lo hG hOw hSm hne
        go_wp2_with fail
        go_meet
        exact unhide KK
      by_cases h1 : x = 1
      · subst h1
        have hAp := (Below.refl w3.heap.size w3).alloc (Nat.le_refl _) (.cells ([0, -1, 1000000, 1000001].map (Value.int .i64)).toArray 3)
        have hp := intsC_made w3 [0, -1, 1000000, 1000001] 4 rfl
        have HPP := hide (unhide HP _ _ [0, -1, 1000000, 1000001] (hC.keepAll hAp) (by decide) (by decide) hp (fun a n c e => by cases e; simp; omega))
        replace hOw := hOw.keep hAp
        replace lr := lr.all hAp
        replace lo := lo.all hAp
        replace hG := grown_below hG hAp
        clear hp hAp hC
        have LL := hide (And.intro lr (And.intro lo (And.intro hG (And.intro hOw (And.intro hSm hne)))))
        clear lr lo hG hOw hSm hne
        go_wp2_with fail
        obtain ⟨lr, lo, hG, hOw, hSm, hne⟩ := unhide LL
        clear LL
        refine (unhide HPP).mono ?_
        rintro e w4 ⟨y, _, rfl, hC, hGn⟩
        replace hOw := hOw.by hGn (by omega)
        replace lr := lr.frm (Frm.ofGrown hGn) (by simp; omega)
        replace lo := lo.frm (Frm.ofGrown hGn) (by simp; omega)
        replace hG := grown_trans hG hGn
        clear hGn HPP
        have hsS := setGO w4 S 1 (.int .i64 y)
        obtain ⟨q0, q1, q2, q3, q4, q5, q6, q7, q8, q9, q10, q11⟩ := lo.twelve
        have fz := lo.frozen 1
        replace lo : Loc (w4.setCell ⟨S, 1, none⟩ (.int .i64 y)) S #[.int .i64 o.kind, .int .i64 y, .int .i64 o.atR, .int .i64 o.nodeN, .int .i64 o.nodeR, .int .i64 o.parN, .int .i64 o.parR, .slice ak o.key.length ck, .int .i64 o.elem, .slice an o.name.length cn, .slice tt o.text.length ct, .bool o.gone] 38 := lo.set 1 (.int .i64 y)
        replace hC := hC.set hsS (by omega) (by omega)
        replace lr := lr.frm (Frm.ofGrown hsS) (by simp; omega)
        replace hG := grown_new hG hsS (fun q hq => by cases hq; omega)
        replace hOw := hOw.ne hsS hne
        clear hsS
        have KK := hide (show BentAt w0 w (w4.setCell ⟨S, 1, none⟩ (.int .i64 y)) g R S code l from ⟨(⟨o.kind, y, o.atR, o.nodeN, o.nodeR, o.parN, o.parR, o.key, o.elem, o.name, o.text, o.gone⟩ : OpV), _, _, _, lo, lr, hOw, (SmO.up hSm (by omega)), hC, hG⟩)
        clear hC lr lo hG hOw hSm hne
        go_wp2_with fail
        go_meet
        exact unhide KK
      by_cases h2 : x = 2
      · subst h2
        have hAp := (Below.refl w3.heap.size w3).alloc (Nat.le_refl _) (.cells ([-1, 7, 8].map (Value.int .i64)).toArray 3)
        have hp := intsC_made w3 [-1, 7, 8] 3 rfl
        have HPP := hide (unhide HP _ _ [-1, 7, 8] (hC.keepAll hAp) (by decide) (by decide) hp (fun a n c e => by cases e; simp; omega))
        replace hOw := hOw.keep hAp
        replace lr := lr.all hAp
        replace lo := lo.all hAp
        replace hG := grown_below hG hAp
        clear hp hAp hC
        have LL := hide (And.intro lr (And.intro lo (And.intro hG (And.intro hOw (And.intro hSm hne)))))
        clear lr lo hG hOw hSm hne
        go_wp2_with fail
        obtain ⟨lr, lo, hG, hOw, hSm, hne⟩ := unhide LL
        clear LL
        refine (unhide HPP).mono ?_
        rintro e w4 ⟨y, _, rfl, hC, hGn⟩
        replace hOw := hOw.by hGn (by omega)
        replace lr := lr.frm (Frm.ofGrown hGn) (by simp; omega)
        replace lo := lo.frm (Frm.ofGrown hGn) (by simp; omega)
        replace hG := grown_trans hG hGn
        clear hGn HPP
        have hsS := setGO w4 S 2 (.int .i64 y)
        obtain ⟨q0, q1, q2, q3, q4, q5, q6, q7, q8, q9, q10, q11⟩ := lo.twelve
        have fz := lo.frozen 2
        replace lo : Loc (w4.setCell ⟨S, 2, none⟩ (.int .i64 y)) S #[.int .i64 o.kind, .int .i64 o.atN, .int .i64 y, .int .i64 o.nodeN, .int .i64 o.nodeR, .int .i64 o.parN, .int .i64 o.parR, .slice ak o.key.length ck, .int .i64 o.elem, .slice an o.name.length cn, .slice tt o.text.length ct, .bool o.gone] 38 := lo.set 2 (.int .i64 y)
        replace hC := hC.set hsS (by omega) (by omega)
        replace lr := lr.frm (Frm.ofGrown hsS) (by simp; omega)
        replace hG := grown_new hG hsS (fun q hq => by cases hq; omega)
        replace hOw := hOw.ne hsS hne
        clear hsS
        have KK := hide (show BentAt w0 w (w4.setCell ⟨S, 2, none⟩ (.int .i64 y)) g R S code l from ⟨(⟨o.kind, o.atN, y, o.nodeN, o.nodeR, o.parN, o.parR, o.key, o.elem, o.name, o.text, o.gone⟩ : OpV), _, _, _, lo, lr, hOw, (SmO.up hSm (by omega)), hC, hG⟩)
        clear hC lr lo hG hOw hSm hne
        go_wp2_with fail
        go_meet
        exact unhide KK
      by_cases h3 : x = 3
      · subst h3
        have hAp := (Below.refl w3.heap.size w3).alloc (Nat.le_refl _) (.cells ([-1, 8, 121, 122].map (Value.int .i64)).toArray 3)
        have hp := intsC_made w3 [-1, 8, 121, 122] 4 rfl
        have HPP := hide (unhide HP _ _ [-1, 8, 121, 122] (hC.keepAll hAp) (by decide) (by decide) hp (fun a n c e => by cases e; simp; omega))
        replace hOw := hOw.keep hAp
        replace lr := lr.all hAp
        replace lo := lo.all hAp
        replace hG := grown_below hG hAp
        clear hp hAp hC
        have LL := hide (And.intro lr (And.intro lo (And.intro hG (And.intro hOw (And.intro hSm hne)))))
        clear lr lo hG hOw hSm hne
        go_wp2_with fail
        obtain ⟨lr, lo, hG, hOw, hSm, hne⟩ := unhide LL
        clear LL
        refine (unhide HPP).mono ?_
        rintro e w4 ⟨y, _, rfl, hC, hGn⟩
        replace hOw := hOw.by hGn (by omega)
        replace lr := lr.frm (Frm.ofGrown hGn) (by simp; omega)
        replace lo := lo.frm (Frm.ofGrown hGn) (by simp; omega)
        replace hG := grown_trans hG hGn
        clear hGn HPP
        have hsS := setGO w4 S 4 (.int .i64 y)
        obtain ⟨q0, q1, q2, q3, q4, q5, q6, q7, q8, q9, q10, q11⟩ := lo.twelve
        have fz := lo.frozen 4
        replace lo : Loc (w4.setCell ⟨S, 4, none⟩ (.int .i64 y)) S #[.int .i64 o.kind, .int .i64 o.atN, .int .i64 o.atR, .int .i64 o.nodeN, .int .i64 y, .int .i64 o.parN, .int .i64 o.parR, .slice ak o.key.length ck, .int .i64 o.elem, .slice an o.name.length cn, .slice tt o.text.length ct, .bool o.gone] 38 := lo.set 4 (.int .i64 y)
        replace hC := hC.set hsS (by omega) (by omega)
        replace lr := lr.frm (Frm.ofGrown hsS) (by simp; omega)
        replace hG := grown_new hG hsS (fun q hq => by cases hq; omega)
        replace hOw := hOw.ne hsS hne
        clear hsS
        have KK := hide (show BentAt w0 w (w4.setCell ⟨S, 4, none⟩ (.int .i64 y)) g R S code l from ⟨(⟨o.kind, o.atN, o.atR, o.nodeN, y, o.parN, o.parR, o.key, o.elem, o.name, o.text, o.gone⟩ : OpV), _, _, _, lo, lr, hOw, (SmO.up hSm (by omega)), hC, hG⟩)
        clear hC lr lo hG hOw hSm hne
        go_wp2_with fail
        go_meet
        exact unhide KK
      by_cases h4 : x = 4
      · subst h4
        have LL := hide (And.intro hC (And.intro lr (And.intro lo (And.intro hG (And.intro hOw (And.intro hSm hne))))))
        clear hC lr lo hG hOw hSm hne
        go_wp2_with fail
        obtain ⟨hC, lr, lo, hG, hOw, hSm, hne⟩ := unhide LL
        clear LL
        refine (unhide HB w3 4 hC (by omega) (by omega)).mono ?_
        rintro e w4 ⟨y, hy0, hy1, rfl, hCn, hGn⟩
        replace hOw := hOw.by hGn (by omega)
        replace lr := lr.frm (Frm.ofGrown hGn) (by simp; omega)
        replace lo := lo.frm (Frm.ofGrown hGn) (by simp; omega)
        replace hG := grown_trans hG hGn
        replace hC := hCn
        clear hGn hCn
        have hsS := setGO w4 S 8 (.int .i64 (y - 1))
        obtain ⟨q0, q1, q2, q3, q4, q5, q6, q7, q8, q9, q10, q11⟩ := lo.twelve
        have fz := lo.frozen 8
        replace lo : Loc (w4.setCell ⟨S, 8, none⟩ (.int .i64 (y - 1))) S #[.int .i64 o.kind, .int .i64 o.atN, .int .i64 o.atR, .int .i64 o.nodeN, .int .i64 o.nodeR, .int .i64 o.parN, .int .i64 o.parR, .slice ak o.key.length ck, .int .i64 (y - 1), .slice an o.name.length cn, .slice tt o.text.length ct, .bool o.gone] 38 := lo.set 8 (.int .i64 (y - 1))
        replace hC := hC.set hsS (by omega) (by omega)
        replace lr := lr.frm (Frm.ofGrown hsS) (by simp; omega)
        replace hG := grown_new hG hsS (fun q hq => by cases hq; omega)
        replace hOw := hOw.ne hsS hne
        clear hsS
        have KK := hide (show BentAt w0 w (w4.setCell ⟨S, 8, none⟩ (.int .i64 (y - 1))) g R S code l from ⟨(⟨o.kind, o.atN, o.atR, o.nodeN, o.nodeR, o.parN, o.parR, o.key, (y - 1), o.name, o.text, o.gone⟩ : OpV), _, _, _, lo, lr, hOw, (SmO.up hSm (by omega)), hC, hG⟩)
        clear hC lr lo hG hOw hSm hne
        go_wp2_with fail
        go_meet
        exact unhide KK
      by_cases h5 : x = 5
      · subst h5
        have y11 := lo.cell 11
        have hsS := setGO w3 S 11 (.bool (!o.gone))
        obtain ⟨q0, q1, q2, q3, q4, q5, q6, q7, q8, q9, q10, q11⟩ := lo.twelve
        have fz := lo.frozen 11
        replace lo : Loc (w3.setCell ⟨S, 11, none⟩ (.bool (!o.gone))) S #[.int .i64 o.kind, .int .i64 o.atN, .int .i64 o.atR, .int .i64 o.nodeN, .int .i64 o.nodeR, .int .i64 o.parN, .int .i64 o.parR, .slice ak o.key.length ck, .int .i64 o.elem, .slice an o.name.length cn, .slice tt o.text.length ct, .bool (!o.gone)] 38 := lo.set 11 (.bool (!o.gone))
        replace hC := hC.set hsS (by omega) (by omega)
        replace lr := lr.frm (Frm.ofGrown hsS) (by simp; omega)
        replace hG := grown_new hG hsS (fun q hq => by cases hq; omega)
        replace hOw := hOw.ne hsS hne
        clear hsS
        have KK := hide (show BentAt w0 w (w3.setCell ⟨S, 11, none⟩ (.bool (!o.gone))) g R S code l from ⟨(⟨o.kind, o.atN, o.atR, o.nodeN, o.nodeR, o.parN, o.parR, o.key, o.elem, o.name, o.text, (!o.gone)⟩ : OpV), _, _, _, lo, lr, hOw, (SmO.up hSm (by omega)), hC, hG⟩)
        clear hC lr lo hG hOw hSm hne
        go_wp2_with fail
        go_meet
        exact unhide KK
      by_cases h6 : x = 6
      · subst h6
        have hAp := (Below.refl w3.heap.size w3).alloc (Nat.le_refl _) (.cells #[.int .u8 65] 5)
        have hby := byt_one w3 65 (by omega) (by omega)
        have hcb := (Loc.made w3 #[.int .u8 65] 5).cell 0
        have hrng := hOw.rngM
        replace hOw := hOw.keep hAp
        replace lr := lr.all hAp
        replace lo := lo.all hAp
        replace hG := grown_below hG hAp
        replace hC := hC.keepAll hAp
        have c9 := lo.cell 9
        have hwz : (w3.alloc (.cells #[.int .u8 65] 5)).heap.size = w3.heap.size + 1 := by simp
        have HAP := hide (And.intro hOw.2.1 (And.intro hby (And.intro hcb (And.intro (show o.name.length ≤ 1000 by have := hSm.2.1; omega) (show R + 1 ≤ (w3.alloc (.cells #[.int .u8 65] 5)).heap.size by rw [hwz]; omega)))))
        have c9' : (w3.alloc (.cells #[.int .u8 65] 5)).cell? ⟨S, 9, none⟩ = some (.slice an o.name.length cn) := c9
        have c9w : w3.cell? ⟨S, 9, none⟩ = some (.slice an o.name.length cn) := (hAp.cell (p := ⟨S, 9, none⟩) hsl).symm.trans c9
        clear hby hcb hAp c9
        have LL := hide (And.intro hC (And.intro lr (And.intro lo (And.intro hG (And.intro hOw (And.intro hSm hne))))))
        clear hC lr lo hG hOw hSm hne
        go_wp2_with (at_builtin; refine wpList_appM rfl _ _ rfl (R + 1) _ o.name rfl (unhide HAP).1 w3.heap.size 1 65 rfl (by omega) (by omega) (unhide HAP).2.2.1 (unhide HAP).2.1 (unhide HAP).2.2.2.1 (unhide HAP).2.2.2.2 ?_)
        intro v4 w4 hrow4 hgr4 hat4
        obtain ⟨hC, lr, lo, hG, hOw, hSm, hne⟩ := unhide LL
        clear LL HAP c9' c9w
        generalize (w3.alloc (.cells #[.int .u8 65] 5)) = wp at *
        have hnb : ∀ q, (Value.slice an o.name.length cn).ownBlock = some q → R + 1 ≤ q ∧ q ≠ S := fun q hq => ⟨(hOw.2.1.lt q hq).1, hne q (by simp [FB, hq])⟩
        obtain ⟨nm, hnm, hnl⟩ : ∃ nm : List Int, nm = o.name ++ [65] ∧ nm.length ≤ 40 := ⟨_, rfl, by have := hSm.2.1; simp; omega⟩
        rw [← hnm] at hrow4
        clear hnm
        obtain ⟨a4, c4, rfl⟩ := hrow4.shape
        have hF := Frm.ofGrown hgr4
        have hm4 : ∀ q ∈ (Value.slice an o.name.length cn).ownBlock.toList, R + 1 ≤ q ∧ q ≠ S ∧ q ∈ FB (.slice an o.name.length cn) := fun q hq => ⟨(hnb q (by simpa using hq)).1, (hnb q (by simpa using hq)).2, by simpa [FB] using hq⟩
        have hnd := hOw.2.2.2
        rw [List.nodup_append, List.nodup_append] at hnd
        obtain ⟨⟨nK, nN, dKN⟩, nT, dKT⟩ := hnd
        have hlr := lr.lt
        have hlo := lo.lt
        have hK4 : OwnZ w4 (R + 1) (.slice ak o.key.length ck) o.key := ⟨hOw.1.1, ownsRow_frm hOw.1.2 hF (fun q hq hm => dKN q hq q (hm4 q hm).2.2 rfl)⟩
        have hT4 : RowM w4 (R + 1) (.slice tt o.text.length ct) o.text := hOw.2.2.1.frm hF (fun q hq hm => dKT q (List.mem_append_right _ (hm4 q hm).2.2) q hq rfl)
        have hv4 : ∀ q ∈ FB (.slice a4 nm.length c4), (q ∈ FB (.slice an o.name.length cn) ∨ w3.heap.size + 1 ≤ q) := fun q hq => by
          have hq' : (Value.slice a4 nm.length c4).ownBlock = some q := by simpa [FB] using hq
          rcases hat4 with h | h
          · left; rw [h] at hq'; simpa [FB] using hq'
          · right; exact h q hq'
        have hnd4 : (FB (.slice ak o.key.length ck) ++ FB (.slice a4 nm.length c4) ++ FB (.slice tt o.text.length ct)).Nodup := by
          rw [List.nodup_append, List.nodup_append]
          refine ⟨⟨nK, FB_nodup _, fun p hp q hq e => ?_⟩, nT, fun p hp q hq e => ?_⟩
          · subst e
            rcases hv4 p hq with h | h
            · exact dKN p hp p h rfl
            · have := hrng p (by simp [hp]); omega
          · subst e
            rcases List.mem_append.1 hp with h | h
            · exact dKT p (List.mem_append_left _ h) p hq rfl
            · rcases hv4 p h with h2 | h2
              · exact dKT p (List.mem_append_right _ h2) p hq rfl
              · have := hrng p (by simp [hq]); omega
        have hOw4 : OwM w4 (R + 1) (⟨o.kind, o.atN, o.atR, o.nodeN, o.nodeR, o.parN, o.parR, o.key, o.elem, nm, o.text, o.gone⟩ : OpV) (.slice ak o.key.length ck) (.slice a4 nm.length c4) (.slice tt o.text.length ct) := ⟨hK4, hrow4, hT4, hnd4⟩
        have hSm4 : SmO (⟨o.kind, o.atN, o.atR, o.nodeN, o.nodeR, o.parN, o.parR, o.key, o.elem, nm, o.text, o.gone⟩ : OpV) 40 := ⟨hSm.1, hnl, by have := hSm.2.2; show o.text.length ≤ 40; omega⟩
        have hne4 : ∀ q ∈ FB (.slice ak o.key.length ck) ++ FB (.slice a4 nm.length c4) ++ FB (.slice tt o.text.length ct), q ≠ S := fun q hq e => by
          subst e
          rcases List.mem_append.1 hq with h | h
          · rcases List.mem_append.1 h with h | h
            · exact hne _ (by simp [h]) rfl
            · rcases hv4 _ h with h2 | h2
              · exact hne _ (by simp [h2]) rfl
              · omega
          · exact hne _ (by simp [h]) rfl
        replace lr := lr.frm hF (fun hm => by have := (hm4 _ hm).1; omega)
        replace lo := lo.frm hF (fun hm => (hm4 _ hm).2.1 rfl)
        replace hC := hC.keep hgr4 (fun e => by have := (hnb g e.symm).1; omega) (fun q hq => by have := (hnb q hq).1; omega)
        replace hG := grown_new hG hgr4 (fun q hq => by have := (hnb q hq).1; omega)
        clear hK4 hT4 hv4 hnd4 hrow4 hgr4 hat4 hF hm4 hnb hOw hSm hne dKN dKT nK nN nT
        have hOw := hOw4
        have hSm := hSm4
        have hne := hne4
        clear hOw4 hSm4 hne4
        have hsS := setGO w4 S 9 (.slice a4 nm.length c4)
        obtain ⟨q0, q1, q2, q3, q4, q5, q6, q7, q8, q9, q10, q11⟩ := lo.twelve
        have fz := lo.frozen 9
        replace lo : Loc (w4.setCell ⟨S, 9, none⟩ (.slice a4 nm.length c4)) S #[.int .i64 o.kind, .int .i64 o.atN, .int .i64 o.atR, .int .i64 o.nodeN, .int .i64 o.nodeR, .int .i64 o.parN, .int .i64 o.parR, .slice ak o.key.length ck, .int .i64 o.elem, .slice a4 nm.length c4, .slice tt o.text.length ct, .bool o.gone] 38 := lo.set 9 (.slice a4 nm.length c4)
        replace hC := hC.set hsS (by omega) (by omega)
        replace lr := lr.frm (Frm.ofGrown hsS) (by simp; omega)
        replace hG := grown_new hG hsS (fun q hq => by cases hq; omega)
        replace hOw := hOw.ne hsS hne
        clear hsS
        have KK := hide (show BentAt w0 w (w4.setCell ⟨S, 9, none⟩ (.slice a4 nm.length c4)) g R S code l from ⟨(⟨o.kind, o.atN, o.atR, o.nodeN, o.nodeR, o.parN, o.parR, o.key, o.elem, nm, o.text, o.gone⟩ : OpV), _, _, _, lo, lr, hOw, hSm, hC, hG⟩)
        clear hC lr lo hG hOw hSm hne
        go_wp2_with fail
        go_meet
        exact unhide KK
      have d0 : (x == 0) = false := by simpa using h0
      have d1 : (x == 1) = false := by simpa using h1
      have d2 : (x == 2) = false := by simpa using h2
      have d3 : (x == 3) = false := by simpa using h3
      have d4 : (x == 4) = false := by simpa using h4
      have d5 : (x == 5) = false := by simpa using h5
      have d6 : (x == 6) = false := by simpa using h6
      clear h0 h1 h2 h3 h4 h5 h6
      obtain ⟨i0, hi, hz0, hz1, hz2⟩ := info_parts Tryz.info5
      have LL := hide (And.intro hC (And.intro lr (And.intro lo (And.intro hG (And.intro hOw (And.intro hSm hne))))))
      clear hC lr lo hG hOw hSm hne
      go_wp2_with fail
      obtain ⟨hC, lr, lo, hG, hOw, hSm, hne⟩ := unhide LL
      clear LL
      refine (unhide HB w3 2 hC (by omega) (by omega)).mono ?_
      rintro e w4 ⟨y, hy0, hy1, rfl, hCn, hGn⟩
      replace hOw := hOw.by hGn (by omega)
      replace lr := lr.frm (Frm.ofGrown hGn) (by simp; omega)
      replace lo := lo.frm (Frm.ofGrown hGn) (by simp; omega)
      replace hG := grown_trans hG hGn
      replace hC := hCn
      clear hGn hCn
      obtain ⟨ny, hny⟩ : ∃ ny : Nat, (30 + y) = (ny : Int) := ⟨(30 + y).toNat, by omega⟩
      have hny2 : ny ≤ 31 := by omega
      have hsl4 : S < w4.heap.size := lo.lt
      have LL := hide (And.intro hC (And.intro lr (And.intro lo (And.intro hG (And.intro hOw (And.intro hSm hne))))))
      clear hC lr lo hG hOw hSm hne
      go_wp2_with (at_make; refine wpList_make_full _ rfl _ _ 22 rfl w4.heap.size 5 i0 (.int .u8 0) 1 Tryz.underlying22 hi hz0 hz1 .i64 .i64 _ _ ny rfl rfl ?c0 ?c00 ?c1 ?c2 ?c3 ?_)
      case c0 => first | rfl | exact hny
      case c00 => first | rfl | exact hny
      case c1 => rw [hz2]; omega
      case c2 => unfold maxLen; omega
      case c3 => exact Nat.le_refl _
      intro w5 hown hgrow
      obtain ⟨hC, lr, lo, hG, hOw, hSm, hne⟩ := unhide LL
      clear LL
      have hB5 := Below.ofGrown hgrow
      have hO5 : Own w5 w4.heap.size (.slice (some ⟨w4.heap.size, 0, none⟩) ny ny) (half (List.replicate ny 0) 0) := ⟨fun x hx => by simp [half] at hx; omega, by rw [half_len _ 0 (Nat.zero_le _), half_zero]; simpa using hown⟩
      have hln : (half (List.replicate ny 0) 0).length = ny := by rw [half_len _ 0 (Nat.zero_le _)]; simp
      generalize half (List.replicate ny 0) 0 = tx at *
      have hrng := hOw.rngM
      have hnd := hOw.2.2.2
      rw [List.nodup_append] at hnd
      have hfb : ∀ q ∈ FB (.slice (some ⟨w4.heap.size, 0, none⟩) ny ny), q = w4.heap.size := fun q hq => by simpa [FB, Value.ownBlock] using hq
      have hnd5 : (FB (.slice ak o.key.length ck) ++ FB (.slice an o.name.length cn) ++ FB (.slice (some ⟨w4.heap.size, 0, none⟩) ny ny)).Nodup := by
        rw [List.nodup_append]
        refine ⟨hnd.1, FB_nodup _, fun p hp q hq e => ?_⟩
        have h1 := hfb q hq
        have h2 := hrng p (List.mem_append_left _ hp)
        omega
      have hrow5 := (hO5.rowm).mono (show R + 1 ≤ w4.heap.size by omega)
      have hOw5 : OwM w5 (R + 1) (⟨o.kind, o.atN, o.atR, o.nodeN, o.nodeR, o.parN, o.parR, o.key, o.elem, o.name, tx, o.gone⟩ : OpV) (.slice ak o.key.length ck) (.slice an o.name.length cn) (.slice (some ⟨w4.heap.size, 0, none⟩) ny ny) := ⟨hOw.1.keep hB5, hOw.2.1.keep hB5, hrow5, hnd5⟩
      have hne5 : ∀ q ∈ FB (.slice ak o.key.length ck) ++ FB (.slice an o.name.length cn) ++ FB (.slice (some ⟨w4.heap.size, 0, none⟩) ny ny), q ≠ S := fun q hq e => by
        rcases List.mem_append.1 hq with h | h
        · exact hne q (List.mem_append_left _ h) e
        · have := hfb q h; omega
      have hSm5 : SmO (⟨o.kind, o.atN, o.atR, o.nodeN, o.nodeR, o.parN, o.parR, o.key, o.elem, o.name, tx, o.gone⟩ : OpV) 40 := ⟨hSm.1, by have := hSm.2.1; show o.name.length ≤ 40; omega, by show tx.length ≤ 40; omega⟩
      replace lr := lr.all hB5
      replace lo := lo.all hB5
      replace hC := hC.keepAll hB5
      replace hG := grown_below hG hB5
      clear hown hgrow hB5 hO5 hrow5 hnd5 hnd hOw hSm hne hfb hrng
      have hOw := hOw5
      have hSm := hSm5
      have hne := hne5
      clear hOw5 hSm5 hne5
      have hsS := setGO w5 S 10 (.slice (some ⟨w4.heap.size, 0, none⟩) ny ny)
      obtain ⟨q0, q1, q2, q3, q4, q5, q6, q7, q8, q9, q10, q11⟩ := lo.twelve
      have fz := lo.frozen 10
      replace lo : Loc (w5.setCell ⟨S, 10, none⟩ (.slice (some ⟨w4.heap.size, 0, none⟩) ny ny)) S #[.int .i64 o.kind, .int .i64 o.atN, .int .i64 o.atR, .int .i64 o.nodeN, .int .i64 o.nodeR, .int .i64 o.parN, .int .i64 o.parR, .slice ak o.key.length ck, .int .i64 o.elem, .slice an o.name.length cn, .slice (some ⟨w4.heap.size, 0, none⟩) ny ny, .bool o.gone] 38 := lo.set 10 (.slice (some ⟨w4.heap.size, 0, none⟩) ny ny)
      replace hC := hC.set hsS (by omega) (by omega)
      replace lr := lr.frm (Frm.ofGrown hsS) (by simp; omega)
      replace hG := grown_new hG hsS (fun q hq => by cases hq; omega)
      replace hOw := hOw.ne hsS hne
      clear hsS
      have KK := hide (show BentAt w0 w (w5.setCell ⟨S, 10, none⟩ (.slice (some ⟨w4.heap.size, 0, none⟩) ny ny)) g R S code l from ⟨(⟨o.kind, o.atN, o.atR, o.nodeN, o.nodeR, o.parN, o.parR, o.key, o.elem, o.name, tx, o.gone⟩ : OpV), _, _, _, lo, lr, hOw, hSm, hC, hG⟩)
      clear hC lr lo hG hOw hSm hne
      go_wp2_with fail
      go_meet
      exact unhide KK
    case rest =>
      obtain ⟨o, k, n, t, lo, lr, hOw, hSm, hC, hG⟩ := hcut
      obtain ⟨ak, ck, rfl, _, _⟩ := hOw.1.ints.shape
      obtain ⟨an, cn, rfl⟩ := hOw.2.1.shape
      obtain ⟨tt, ct, rfl⟩ := hOw.2.2.1.shape
      have lrz : Loc ((((((((((((wc.setCell ⟨R, 0, none⟩ (.int .i64 o.kind)).setCell ⟨R, 1, none⟩ (.int .i64 o.atN)).setCell ⟨R, 2, none⟩ (.int .i64 o.atR)).setCell ⟨R, 3, none⟩ (.int .i64 o.nodeN)).setCell ⟨R, 4, none⟩ (.int .i64 o.nodeR)).setCell ⟨R, 5, none⟩ (.int .i64 o.parN)).setCell ⟨R, 6, none⟩ (.int .i64 o.parR)).setCell ⟨R, 7, none⟩ (.slice ak o.key.length ck)).setCell ⟨R, 8, none⟩ (.int .i64 o.elem)).setCell ⟨R, 9, none⟩ (.slice an o.name.length cn)).setCell ⟨R, 10, none⟩ (.slice tt o.text.length ct)).setCell ⟨R, 11, none⟩ (.bool o.gone)) R #[.int .i64 o.kind, .int .i64 o.atN, .int .i64 o.atR, .int .i64 o.nodeN, .int .i64 o.nodeR, .int .i64 o.parN, .int .i64 o.parR, .slice ak o.key.length ck, .int .i64 o.elem, .slice an o.name.length cn, .slice tt o.text.length ct, .bool o.gone] 38 := set_twelve lr (.int .i64 o.kind) (.int .i64 o.atN) (.int .i64 o.atR) (.int .i64 o.nodeN) (.int .i64 o.nodeR) (.int .i64 o.parN) (.int .i64 o.parR) (.slice ak o.key.length ck) (.int .i64 o.elem) (.slice an o.name.length cn) (.slice tt o.text.length ct) (.bool o.gone)
      have hsR : wc.grownBy ((((((((((((wc.setCell ⟨R, 0, none⟩ (.int .i64 o.kind)).setCell ⟨R, 1, none⟩ (.int .i64 o.atN)).setCell ⟨R, 2, none⟩ (.int .i64 o.atR)).setCell ⟨R, 3, none⟩ (.int .i64 o.nodeN)).setCell ⟨R, 4, none⟩ (.int .i64 o.nodeR)).setCell ⟨R, 5, none⟩ (.int .i64 o.parN)).setCell ⟨R, 6, none⟩ (.int .i64 o.parR)).setCell ⟨R, 7, none⟩ (.slice ak o.key.length ck)).setCell ⟨R, 8, none⟩ (.int .i64 o.elem)).setCell ⟨R, 9, none⟩ (.slice an o.name.length cn)).setCell ⟨R, 10, none⟩ (.slice tt o.text.length ct)).setCell ⟨R, 11, none⟩ (.bool o.gone)) (some R) := grow_twelve _ _ (.int .i64 o.kind) (.int .i64 o.atN) (.int .i64 o.atR) (.int .i64 o.nodeN) (.int .i64 o.nodeR) (.int .i64 o.parN) (.int .i64 o.parR) (.slice ak o.key.length ck) (.int .i64 o.elem) (.slice an o.name.length cn) (.slice tt o.text.length ct) (.bool o.gone)
      have hO9 := hOw.by hsR (by omega)
      have hC9 := hC.set hsR (by omega) (by omega)
      have hG9 := grown_new hG hsR (fun q hq => by cases hq; omega)
      obtain ⟨y0, y1, y2, y3, y4, y5, y6, y7, y8, y9, y10, y11⟩ := lo.twelve
      obtain ⟨z0, z1, z2, z3, z4, z5, z6, z7, z8, z9, z10, z11⟩ := lr.twelve
      have g0 := lr.frozen 0
      have g1 := lr.frozen 1
      have g2 := lr.frozen 2
      have g3 := lr.frozen 3
      have g4 := lr.frozen 4
      have g5 := lr.frozen 5
      have g6 := lr.frozen 6
      have g7 := lr.frozen 7
      have g8 := lr.frozen 8
      have g9 := lr.frozen 9
      have g10 := lr.frozen 10
      have g11 := lr.frozen 11
      have KK := hide (And.intro lrz (And.intro hO9 (And.intro hC9 (And.intro hG9 hSm))))
      clear lrz hsR hO9 hC9 hG9 hC lr lo hG hOw hSm
      go_upto_region 20 with fail
      go_cut [] from 63 to 63 (fun wx => ∃ (o : OpV) (k n t : Value), Loc wx R #[.int .i64 o.kind, .int .i64 o.atN, .int .i64 o.atR, .int .i64 o.nodeN, .int .i64 o.nodeR, .int .i64 o.parN, .int .i64 o.parR, k, .int .i64 o.elem, n, t, .bool o.gone] 38 ∧ OwM wx (R + 1) o k n t ∧ Cur w0 wx g code l ∧ w.grownBy wx (some g) ∧ SmO o 40)
      case first =>
        go_wp2_with fail
        go_meet
        exact ⟨(⟨o.kind, o.atN, o.atR, o.nodeN, o.nodeR, o.parN, o.parR, o.key, o.elem, o.name, o.text, o.gone⟩ : OpV), _, _, _, unhide KK⟩
      case rest =>
        obtain ⟨o9, k9, n9, t9, hL, hO9, hC9, hG9, hS9⟩ := hcut
        obtain ⟨e0, e1, e2, e3, e4, e5, e6, e7, e8, e9, e10, e11⟩ := hL.twelve
        clear KK hL z0 z1 z2 z3 z4 z5 z6 z7 z8 z9 z10 z11 y0 y1 y2 y3 y4 y5 y6 y7 y8 y9 y10 y11 g0 g1 g2 g3 g4 g5 g6 g7 g8 g9 g10 g11
        have K9 := hide (And.intro (hO9.mono (show R ≤ R + 1 by omega)) (And.intro hS9 (And.intro hC9 hG9)))
        clear hO9 hC9 hG9 hS9
        go_wp2_with fail
        exact bodyPost_ret (v := .agg #[.int .i64 o9.kind, .int .i64 o9.atN, .int .i64 o9.atR, .int .i64 o9.nodeN, .int .i64 o9.nodeR, .int .i64 o9.parN, .int .i64 o9.parR, k9, .int .i64 o9.elem, n9, t9, .bool o9.gone]) (by simp [results, Tryz.results78, go_sem, e0, e1, e2, e3, e4, e5, e6, e7, e8, e9, e10, e11]) rfl (unhide HQ _ _ ⟨o9, k9, n9, t9, rfl, unhide K9⟩)
end Go.Proofs.YtaoodcielfabdaaGreat

/- bytes.Clone at a readable row answers the same bytes in memory of its own. -/
namespace Go.Proofs.YtaoodcielfabdaaGreat
open Go.RowKit
set_option linter.unusedVariables false
set_option maxRecDepth 100000

set_option maxHeartbeats 1600000 in
theorem clone_any (w : World) (v : Value) (l : List Int) (h : Byt w v l) (hl : l.length ≤ 67108864) :
    Calls Tryz.prog 137 #[v] w fun e w' => ∃ v', e = .returned v' ∧ Own w' w.heap.size v' l ∧ Below w.heap.size w w' := by
  by_cases hv : v = .slice none 0 0
  · subst hv
    have hl0 : l = [] := by
      obtain ⟨a, c, e, _⟩ := h.shape
      injection e with _ e2 _
      exact List.eq_nil_of_length_eq_zero e2.symm
    subst hl0
    have hq := Lib.run_eql_slice_nil_nil (P := Tryz.prog) w 0 0 Tryz.underlying22
    go_enter Tryz.func137, Tryz.ntmps137
    go_wp2_with fail
    go_ret
    exact ⟨_, rfl, ⟨okB_nil, World.ownsRow_nil _ _ _ _⟩, Below.refl _ _⟩
  · obtain ⟨x, c, rfl⟩ : ∃ x c, v = .slice (some x) l.length c := by
      obtain ⟨_, _, ⟨e, _⟩ | ⟨x, cap, rfl, hc, rfl⟩ | ⟨p, off, cap, rfl, _⟩⟩ := h
      · exact absurd e hv
      · exact ⟨x, cap, rfl⟩
      · exact ⟨_, cap, rfl⟩
    have hq := Lib.run_eql_slice_some_nil (P := Tryz.prog) w x l.length c Tryz.underlying22
    go_enter Tryz.func137, Tryz.ntmps137
    go_wp2_with (at_builtin; refine wpList_app rfl _ _ rfl w.heap.size _ [] rfl (own_none w) _ l rfl (h.alloc _) ?c1 ?c2 ?_)
    case c1 => first | omega | (simp; omega)
    case c2 => simp
    intro v1 w1 ho1 hg1
    have hB1 : Below w.heap.size w w1 := bstepBy ((Below.refl _ _).alloc (Nat.le_refl _) _) hg1 (fun g hg => by simp [Value.ownBlock] at hg; omega)
    clear hg1
    go_wp2
    go_ret
    exact ⟨_, rfl, ho1, hB1⟩
end Go.Proofs.YtaoodcielfabdaaGreat

/- spec.l4own: an operation all of whose memory is its own. -/
namespace Go.Proofs.YtaoodcielfabdaaGreat
open Go.RowKit
set_option linter.unusedVariables false
set_option maxRecDepth 100000

end Go.Proofs.YtaoodcielfabdaaGreat

/- spec.l5ownOps: a row of operations all of whose memory is its own. -/
namespace Go.Proofs.YtaoodcielfabdaaGreat
open Go.RowKit
set_option linter.unusedVariables false
set_option maxRecDepth 100000

theorem OwOps.lt {w : World} {v : Value} {l : List OpV} {F : List Nat} (h : OwOps w v l F) : ∀ q ∈ F, q < w.heap.size := by
  obtain ⟨Cs, Fs, h1, h2, h3, h4, rfl⟩ := h
  intro q hq
  rcases List.mem_append.1 hq with h | h
  · exact (h4.lt q (by simpa [FB] using h)).2
  · obtain ⟨f, hf, hqf⟩ := List.mem_flatten.1 h
    obtain ⟨i, hi, rfl⟩ := List.getElem_of_mem hf
    have hi' : i < l.length := by omega
    obtain ⟨k, n, t, e, g1, g2, g3, g4⟩ := (h3 i hi').2
    have e1 : Fs.getD i [] = Fs[i] := by simp [List.getD_eq_getElem?_getD, hi]
    rw [e1] at g4
    rw [g4] at hqf
    rcases List.mem_append.1 hqf with h | h
    · rcases List.mem_append.1 h with h | h
      · exact (g1.lt q (by simpa [FB] using h)).2
      · exact (g2.lt q (by simpa [FB] using h)).2
    · exact (g3.lt q (by simpa [FB] using h)).2

end Go.Proofs.YtaoodcielfabdaaGreat

/- spec.OpsOk answers what the plain test of a row says. -/
namespace Go.Proofs.YtaoodcielfabdaaGreat
open Go.RowKit
set_option linter.unusedVariables false
set_option maxRecDepth 100000

set_option maxHeartbeats 6400000 in
theorem opsS_any (w : World) (v : Value) (l : List OpV) (h : RdOps w v l) :
    Calls Tryz.prog 7 #[v] w fun e w' => e = .returned (.bool (opsB l)) ∧ Below w.heap.size w w' := by
  have hm := h.1
  unfold maxLen at hm
  by_cases hlong : 150 < l.length
  · obtain ⟨a, cap, rfl, _, _⟩ := Elems.shape h
    have hd : (150 : Int) < (l.length : Int) := by omega
    rw [opsB_long hlong]
    go_enter Tryz.func7, Tryz.ntmps7
    go_wp2_with fail
    go_ret
    exact ⟨rfl, Below.refl _ _⟩
  have hd : ¬ (150 : Int) < (l.length : Int) := by omega
  obtain ⟨rfl, a, cap, rfl⟩ | ⟨b, off, cap, rfl, hnil, g4, g5⟩ := h.cases
  · go_enter Tryz.func7, Tryz.ntmps7
    go_wp2_with fail
    refine wp_loop_rounds 1 ?_
    rw [rounds_succ]
    go_wp2_with fail
    go_ret
    exact ⟨rfl, Below.refl _ _⟩
  have HG := hide (fun hh => opsB_good (l := l) (by omega) hh)
  have HN := hide (fun k hk hh => opsB_bad (l := l) (k := k) hk hh)
  generalize opsB l = res at *
  go_enter Tryz.func7, Tryz.ntmps7
  go_wp2_with fail
  go_loopw [3] (fun i wr => ∃ k : Nat, k ≤ l.length ∧ i = .int .i64 k ∧ (∀ j, j < k → okAt l j = true) ∧ Below w.heap.size w wr) (fun i _ => l.length - (intOf i).toNat)
  case atStart => exact ⟨0, Nat.zero_le _, rfl, fun j hj => by omega, Below.refl _ _⟩
  case round =>
    obtain ⟨k, hk, rfl, hok, hB⟩ := hrel
    by_cases hlt : k < l.length
    · have HX := hide (fun W u (hu : RdOp W u l[k]) => opS_any W u l[k] hu)
      have HL := hide (fun W n r n' r' => lessS_any W n r n' r')
      have H0 := hide (fun (h : opB l[k] = false) => okAt_no hlt h)
      have HZ := hide (fun (h : opB l[k] = true) (e : k = 0) => (show okAt l k = true by subst e; exact okAt_0 hlt h))
      have HS := hide (fun j (e : k = j + 1) (h : opB l[k] = true) => (show okAt l k = lessB (l[j]'(by omega)).atN (l[j]'(by omega)).atR l[k].atN l[k].atR by subst e; exact okAt_s hlt h))
      have HP := hide (fun j (e : k = j + 1) => opc_at hB g4 (g5 j (by omega)))
      have HJ := hide (fun j (hj : j < k + 1) (h : okAt l k = true) => (show okAt l j = true by rcases Nat.lt_succ_iff_lt_or_eq.1 hj with h1 | rfl; exact hok j h1; exact h))
      have HNK := hide (fun (h : okAt l k = false) => unhide HN k hlt h)
      obtain ⟨a1, c1, a2, c2, a3, c3, e0, e1, e2, e3, e4, e5, e6, e7, e8, e9, e10, e11, hr⟩ := opc_at hB g4 (g5 k hlt)
      have hlt' : (k : Int) < (l.length : Int) := by omega
      have hk0 : (0 : Int) ≤ (k : Int) := by omega
      have HR := hide hr
      unfold opVal at HR
      generalize hoo : l[k] = o at *
      generalize o.key.length = nK at *
      generalize o.name.length = nN at *
      generalize o.text.length = nT at *
      clear g5 hr hnil hoo HG HN hok
      generalize okAt l k = okk at *
      have g4' : b < wr.heap.size := Nat.lt_of_lt_of_le g4 hB.size
      have hNE : Nonempty (Gr wr) := ⟨⟨wr, Below.refl _ _⟩⟩
      replace e0 := Gr.cell g4' e0
      replace e1 := Gr.cell g4' e1
      replace e2 := Gr.cell g4' e2
      replace e3 := Gr.cell g4' e3
      replace e4 := Gr.cell g4' e4
      replace e5 := Gr.cell g4' e5
      replace e6 := Gr.cell g4' e6
      replace e7 := Gr.cell g4' e7
      replace e8 := Gr.cell g4' e8
      replace e9 := Gr.cell g4' e9
      replace e10 := Gr.cell g4' e10
      replace e11 := Gr.cell g4' e11
      by_cases hq : opB o = true
      · rw [hq] at HX
        rcases Nat.eq_zero_or_pos k with hz | hpos
        · have HY := hide (unhide HZ hq hz)
          have dz3 : ¬ 0 < k := by omega
          have dz4 : decide (0 < k) = false := by simp; omega
          clear H0 HZ HS HP hq HL hz
          go_wp2_with fail
          refine wp_region_gr (by kernel_rfl) (by kernel_rfl) ?_
          repeat (go_big_quiet_step ((rename_i p; exact calls_gr (unhide HX _ _ ((unhide HR).keep p.h)))))
          refine wpQuiet_nil ?_
          rintro _ ⟨p, rfl⟩
          have hB3 := bstep hB p.h
          clear e0 e1 e2 e3 e4 e5 e6 e7 e8 e9 e10 e11 HR
          go_wp2_with fail
          go_roundw
          case rel => exact ⟨k + 1, by omega, by go_num, fun j hj => unhide HJ j hj (unhide HY), hB3⟩
          case measure => simp [intOf]; omega
        · obtain ⟨j, ej⟩ : ∃ j, k = j + 1 := ⟨k - 1, by omega⟩
          have dz3 : 0 < k := hpos
          have dz4 : decide (0 < k) = true := by simp; omega
          have hj1 : (k : Int) - 1 = (j : Int) := by omega
          have hj0 : (0 : Int) ≤ (j : Int) := by omega
          have hjl : (j : Int) < (l.length : Int) := by omega
          obtain ⟨pn, pr, i1, i2, HE⟩ : ∃ pn pr, wr.cell? ⟨b, off + j * 12 + 1, none⟩ = some (.int .i64 pn) ∧ wr.cell? ⟨b, off + j * 12 + 2, none⟩ = some (.int .i64 pr) ∧ okk = lessB pn pr o.atN o.atR := by
            obtain ⟨_, _, _, _, _, _, _, i1, i2, _⟩ := unhide HP j ej
            exact ⟨_, _, i1, i2, unhide HS j ej hq⟩
          replace i1 := Gr.cell g4' i1
          replace i2 := Gr.cell g4' i2
          clear H0 HZ HS HP hq hpos
          have HLL := hide (fun W => unhide HL W pn pr o.atN o.atR)
          generalize lessB pn pr o.atN o.atR = lb at *
          subst HE
          clear HL ej
          go_wp2_with fail
          refine wp_region_gr (by kernel_rfl) (by kernel_rfl) ?_
          repeat (go_big_quiet_step ((rename_i p; first | exact calls_gr (unhide HX _ _ ((unhide HR).keep p.h)) | exact calls_gr (unhide HLL _))))
          refine wpQuiet_nil ?_
          rintro _ ⟨p, rfl⟩
          have hB3 := bstep hB p.h
          clear e0 e1 e2 e3 e4 e5 e6 e7 e8 e9 e10 e11 HR i1 i2
          cases okk with
          | true =>
            go_wp2_with fail
            go_roundw
            case rel => exact ⟨k + 1, by omega, by go_num, fun j hj => unhide HJ j hj rfl, hB3⟩
            case measure => simp [intOf]; omega
          | false =>
            have HF := hide (unhide HNK rfl)
            clear HNK
            go_wp2_with fail
            go_ret
            exact ⟨by rw [unhide HF]; rfl, hB3⟩
      · have hq' : opB o = false := by simpa using hq
        rw [hq'] at HX
        have HY := hide (unhide HNK (unhide H0 hq'))
        clear H0 HZ HS HP hq hq' HL HNK
        go_wp2_with fail
        refine wp_region_gr (by kernel_rfl) (by kernel_rfl) ?_
        repeat (go_big_quiet_step ((rename_i p; exact calls_gr (unhide HX _ _ ((unhide HR).keep p.h)))))
        refine wpQuiet_nil ?_
        rintro _ ⟨p, rfl⟩
        have hB3 := bstep hB p.h
        clear e0 e1 e2 e3 e4 e5 e6 e7 e8 e9 e10 e11 HR
        go_wp2_with fail
        go_ret
        exact ⟨by rw [unhide HY]; rfl, hB3⟩
    · have HY := hide (unhide HG (fun j hj => hok j (by omega)))
      clear g5
      go_wp2_with fail
      go_ret
      exact ⟨by rw [unhide HY]; rfl, hB⟩
end Go.Proofs.YtaoodcielfabdaaGreat

/- spec.Put. -/
namespace Go.Proofs.YtaoodcielfabdaaGreat
open Go.RowKit
set_option linter.unusedVariables false
set_option maxRecDepth 100000

def putV (l : List OpV) (o : OpV) : List OpV := if opsB l && opB o then putL l o else []
def putAns (l : List OpV) (o : OpV) : Bool := opsB l && opB o && putOk l o
theorem opsB_len {l : List OpV} (h : opsB l = true) : l.length ≤ 150 := by
  unfold opsB at h
  rw [Bool.and_eq_true, decide_eq_true_eq] at h
  exact h.1
theorem putL_mem {l : List OpV} {o x : OpV} (h : x ∈ putL l o) : x = o ∨ x ∈ l := by
  unfold putL at h
  split at h
  · split at h
    · exact (List.mem_or_eq_of_mem_set h).symm
    · exact .inr h
  · split at h
    · exact .inr h
    · rcases List.mem_append.mp h with h | h
      · rcases List.mem_append.mp h with h | h
        · exact .inr (List.mem_of_mem_take h)
        · exact .inl (by simpa using h)
      · exact .inr (List.mem_of_mem_drop h)
theorem putL_len (l : List OpV) (o : OpV) : (putL l o).length ≤ l.length + 1 := by
  unfold putL
  split
  · split
    · rw [List.length_set]; omega
    · omega
  · split
    · omega
    · simp only [List.length_append, List.length_take, List.length_drop, List.length_cons, List.length_nil]; omega
theorem owOps_none (w : World) : OwOps w (.slice none 0 0) [] [] := by
  refine ⟨[], [], rfl, rfl, fun i hi => by simp at hi, ?_, rfl⟩
  exact ⟨rfl, .inl ⟨rfl, rfl⟩⟩

end Go.Proofs.YtaoodcielfabdaaGreat
