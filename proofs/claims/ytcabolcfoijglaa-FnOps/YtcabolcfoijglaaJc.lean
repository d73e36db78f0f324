/- Own texts joined: RidI, RidS, RkeyS, RkeyI, SzO, EqO, Eq, EqZ, EqP, ToO, OwO. -/
import Derived.Test.YtcabolcfoijglaaJa
import Derived.Test.YtcabolcfoijglaaJb
import Derived.Test.YtcabolcfoijglaaChecked
import Derived.Deep.QuietTactic
import Derived.BigQuiet
import Derived.Deep.RegionHeld3

/- impl's reader: an id. -/
namespace Go.Proofs.Ytcabolcfoijglaa
open Go.RowKit
set_option linter.unusedVariables false
set_option maxRecDepth 100000

theorem Rd.keepG {T : TypeId} {w0 w w' : World} {g : Nat} {code : Value} {l : List Int} {p : Int} {row : Option Nat} (h : Rd T w0 w g code l p) (hG : w.grownBy w' row) (hne : row ≠ some g) (hr : ∀ k, row = some k → w0.heap.size ≤ k) : Rd T w0 w' g code l p :=
  ⟨h.bytes, bstepBy h.below hG hr, h.new, (hG.block g h.box.lt (fun e => hne e.symm)).trans h.box, h.lo, h.hi⟩
theorem grow_below {a b c : World} {row : Option Nat} (h : Below a.heap.size a b) (k : b.grownBy c row) : a.grownBy c row := grown_trans (Below.toGrown h row) k
theorem grow_new {a b c : World} {row row' : Option Nat} (h : a.grownBy b row) (k : b.grownBy c row') (hr : ∀ q, row' = some q → a.heap.size ≤ q) : a.grownBy c row :=
  ⟨k.os.trans h.os, k.tape.trans h.tape, k.output.trans h.output, Nat.le_trans h.size k.size, fun i hi hne => (k.block i (Nat.lt_of_lt_of_le hi h.size) (fun e => by have := hr i e.symm; omega)).trans (h.block i hi hne)⟩

set_option maxHeartbeats 3200000 in
theorem rid_any (w0 w : World) (g : Nat) (code : Value) (l : List Int) (p : Int) (h : Rd 65 w0 w g code l p) :
    Calls Try.prog 75 #[.pointer (some ⟨g, 0, none⟩)] w fun e w' => e = .returned (.agg #[.int .i64 (rdId l p).1.1, .int .i64 (rdId l p).1.2]) ∧ Rd 65 w0 w' g code l (rdId l p).2 ∧ w.grownBy w' (some g) := by
  have hgl := h.box.lt
  have hnew := h.below.size
  have hA0 := (Below.refl w.heap.size w).alloc (Nat.le_refl _) (.cells #[.int .i64 0, .int .i64 0] 24)
  have l0 := Loc.made w #[.int .i64 0, .int .i64 0] 24
  have hR0 := h.keep hA0
  have H1 := hide (fun W (hW : Rd 65 w0 W g code l p) => rnum_any w0 W g code l p hW)
  have H2 := hide (fun W (hW : Rd 65 w0 W g code l (getN l p).2) => rnum_any w0 W g code l (getN l p).2 hW)
  unfold rdId
  clear h
  generalize getN l (getN l p).2 = q2 at *
  generalize getN l p = q1 at *
  obtain ⟨n, p1⟩ := q1
  obtain ⟨r, p2⟩ := q2
  simp only at *
  go_enter Try.func75, Try.ntmps75
  go_wp2_with fail
  generalize (w.alloc (.cells #[.int .i64 0, .int .i64 0] 24)) = wa at *
  refine (unhide H1 wa hR0).mono ?_
  rintro e w1 ⟨rfl, hR1, hG1⟩
  have l1 := l0.frm (Frm.ofGrown hG1) (by simp; omega)
  have hG1' := grow_below hA0 hG1
  go_wp2_with fail
  refine (unhide H2 w1 hR1).mono ?_
  rintro e w2 ⟨rfl, hR2, hG2⟩
  have l2 := l1.frm (Frm.ofGrown hG2) (by simp; omega)
  have hG2' := grown_trans hG1' hG2
  have x0 := l2.cell 0
  have x1 := l2.cell 1
  have f0 := l2.frozen 0
  have f1 := l2.frozen 1
  have hs : w2.grownBy ((w2.setCell ⟨w.heap.size, 0, none⟩ (.int .i64 n)).setCell ⟨w.heap.size, 1, none⟩ (.int .i64 r)) (some w.heap.size) := grown_trans (setG w2 w.heap.size 0 (.int .i64 n)) (setG _ w.heap.size 1 (.int .i64 r))
  have m : Loc ((w2.setCell ⟨w.heap.size, 0, none⟩ (.int .i64 n)).setCell ⟨w.heap.size, 1, none⟩ (.int .i64 r)) w.heap.size #[.int .i64 n, .int .i64 r] 24 := (l2.set 0 (.int .i64 n)).set 1 (.int .i64 r)
  have e0 := m.cell 0
  have e1 := m.cell 1
  have hGf := grow_new hG2' hs (fun q hq => by simp at hq; omega)
  have hRf := hR2.keepG hs (by simp; omega) (fun k hk => by simp at hk; omega)
  clear hG1 hG2 hR1 hR2 hR0 H1 H2 l0 l1 l2 hA0 m hs hG1' hG2'
  go_wp2_with fail
  exact bodyPost_ret (v := .agg #[.int .i64 n, .int .i64 r]) (by simp [results, Try.results75, go_sem, e0, e1]) rfl ⟨rfl, hRf, hGf⟩
end Go.Proofs.Ytcabolcfoijglaa

/- spec's cursor: an id. -/
namespace Go.Proofs.Ytcabolcfoijglaa
open Go.RowKit
set_option linter.unusedVariables false
set_option maxRecDepth 100000

set_option maxHeartbeats 3200000 in
theorem l4getId_any (w0 w : World) (g : Nat) (code : Value) (l : List Int) (p : Int) (h : Rd 72 w0 w g code l p) :
    Calls Try.prog 53 #[.pointer (some ⟨g, 0, none⟩)] w fun e w' => e = .returned (.agg #[.int .i64 (rdId l p).1.1, .int .i64 (rdId l p).1.2]) ∧ Rd 72 w0 w' g code l (rdId l p).2 ∧ w.grownBy w' (some g) := by
  have hgl := h.box.lt
  have hnew := h.below.size
  have hA0 := (Below.refl w.heap.size w).alloc (Nat.le_refl _) (.cells #[.int .i64 0, .int .i64 0] 24)
  have l0 := Loc.made w #[.int .i64 0, .int .i64 0] 24
  have hR0 := h.keep hA0
  have H1 := hide (fun W (hW : Rd 72 w0 W g code l p) => l4get_any w0 W g code l p hW)
  have H2 := hide (fun W (hW : Rd 72 w0 W g code l (getN l p).2) => l4get_any w0 W g code l (getN l p).2 hW)
  unfold rdId
  clear h
  generalize getN l (getN l p).2 = q2 at *
  generalize getN l p = q1 at *
  obtain ⟨n, p1⟩ := q1
  obtain ⟨r, p2⟩ := q2
  simp only at *
  go_enter Try.func53, Try.ntmps53
  go_wp2_with fail
  generalize (w.alloc (.cells #[.int .i64 0, .int .i64 0] 24)) = wa at *
  refine (unhide H1 wa hR0).mono ?_
  rintro e w1 ⟨rfl, hR1, hG1⟩
  have l1 := l0.frm (Frm.ofGrown hG1) (by simp; omega)
  have hG1' := grow_below hA0 hG1
  have hAb := (Below.refl w1.heap.size w1).alloc (Nat.le_refl _) (.cells #[.int .i64 n, .int .i64 0] 24)
  have b1 := Loc.made w1 #[.int .i64 n, .int .i64 0] 24
  have hRb := hR1.keep hAb
  have lb := l1.all hAb
  have hGb := grown_trans hG1' (Below.toGrown hAb (some g))
  have sz1 := hG1'.size
  have sza := hA0.size
  have lt1 := l1.lt
  have lgl := hR1.box.lt
  go_wp2_with fail
  generalize (w1.alloc (.cells #[.int .i64 n, .int .i64 0] 24)) = wb at *
  refine (unhide H2 wb hRb).mono ?_
  rintro e w2 ⟨rfl, hR2, hG2⟩
  have l2 := lb.frm (Frm.ofGrown hG2) (by simp; omega)
  have b2 := b1.frm (Frm.ofGrown hG2) (by simp; omega)
  have hG2' := grown_trans hGb hG2
  have y0 := b2.cell 0
  have y1 := b2.cell 1
  have g1 := b2.frozen 1
  have hsb := setG w2 w1.heap.size 1 (.int .i64 r)
  have b3 := b2.set 1 (.int .i64 r)
  have l3 := l2.other w1.heap.size 1 (.int .i64 r) (by omega)
  have hR3 := hR2.keepG hsb (by simp; omega) (fun k hk => by simp at hk; omega)
  have hG3 := grow_new hG2' hsb (fun q hq => by simp at hq; omega)
  have z0 := b3.cell 0
  have z1 := b3.cell 1
  have x0 := l3.cell 0
  have x1 := l3.cell 1
  have f0 := l3.frozen 0
  have f1 := l3.frozen 1
  have hs : (w2.setCell ⟨w1.heap.size, 1, none⟩ (.int .i64 r)).grownBy (((w2.setCell ⟨w1.heap.size, 1, none⟩ (.int .i64 r)).setCell ⟨w.heap.size, 0, none⟩ (.int .i64 n)).setCell ⟨w.heap.size, 1, none⟩ (.int .i64 r)) (some w.heap.size) := grown_trans (setG (w2.setCell ⟨w1.heap.size, 1, none⟩ (.int .i64 r)) w.heap.size 0 (.int .i64 n)) (setG _ w.heap.size 1 (.int .i64 r))
  have m : Loc (((w2.setCell ⟨w1.heap.size, 1, none⟩ (.int .i64 r)).setCell ⟨w.heap.size, 0, none⟩ (.int .i64 n)).setCell ⟨w.heap.size, 1, none⟩ (.int .i64 r)) w.heap.size #[.int .i64 n, .int .i64 r] 24 := (l3.set 0 (.int .i64 n)).set 1 (.int .i64 r)
  have e0 := m.cell 0
  have e1 := m.cell 1
  have hGf := grow_new hG3 hs (fun q hq => by simp at hq; omega)
  have hRf := hR3.keepG hs (by simp; omega) (fun k hk => by simp at hk; omega)
  have KEEP := hide (And.intro hRf hGf)
  clear hG1 hG2 hR1 hR2 hR0 H1 H2 l0 l1 l2 l3 lb b1 b2 b3 hA0 m hs hG1' hG2' hAb hRb hGb hR3 hG3 hsb hRf hGf
  go_wp2_with fail
  obtain ⟨hRf, hGf⟩ := unhide KEEP
  exact bodyPost_ret (v := .agg #[.int .i64 n, .int .i64 r]) (by simp [results, Try.results53, go_sem, e0, e1]) rfl ⟨rfl, hRf, hGf⟩
end Go.Proofs.Ytcabolcfoijglaa

/- spec's cursor: a key. -/
namespace Go.Proofs.Ytcabolcfoijglaa
open Go.RowKit
set_option linter.unusedVariables false
set_option maxRecDepth 100000

set_option maxHeartbeats 6400000 in
theorem l4getKey_any (w0 w : World) (g : Nat) (code : Value) (l : List Int) (p : Int) (h : Rd 72 w0 w g code l p) :
    Calls Try.prog 54 #[.pointer (some ⟨g, 0, none⟩)] w fun e w' => ∃ a c k, e = .returned (.slice a k.length c) ∧ OwnZ w' w.heap.size (.slice a k.length c) k ∧ Hid ((rdKeyS l p).1 = k) ∧ k.length ≤ 13 ∧ Rd 72 w0 w' g code l (rdKeyS l p).2 ∧ w.grownBy w' (some g) := by
  have hgl := h.box.lt
  have hnew := h.below.size
  have hrg := getN_rng h.bytes.1 p
  have HOK := hide h.bytes.1
  have H1 := hide (l4get_any w0 w g code l p h)
  clear h
  unfold rdKeyS
  generalize getN l p = q1 at *
  obtain ⟨n, p1⟩ := q1
  simp only at *
  obtain ⟨n, rfl⟩ := Int.eq_ofNat_of_zero_le hrg.2.2.1
  clear hrg
  obtain ⟨M, hM⟩ : ∃ M, M = (min (n : Int) 13).toNat := ⟨_, rfl⟩
  rw [← hM]
  have HC := hide (show (12 < n ∧ M = 13) ∨ (¬ 12 < n ∧ M = n) by omega)
  clear hM
  go_enter Try.func54, Try.ntmps54
  go_wp2_with fail
  refine (unhide H1).mono ?_
  rintro e w1 ⟨rfl, hR1, hG1⟩
  clear H1
  go_wp2_with fail
  go_loopw [3, 5] (fun o i wr => ∃ (j f : Nat) (a : Option Addr) (c : Nat) (k : List Int) (pj : Int), j + f = M ∧ i = .int .i64 j ∧ o = .slice a k.length c ∧ OwnZ wr w.heap.size (.slice a k.length c) k ∧ k.length = j ∧ Hid (rdSome l M p1 = (k ++ (rdSome l f pj).1, (rdSome l f pj).2)) ∧ Rd 72 w0 wr g code l pj ∧ w.grownBy wr (some g)) (fun _ i _ => M - (intOf i).toNat)
  case atStart => exact ⟨0, M, none, 0, [], p1, by omega, rfl, rfl, ownz_nil _ _, rfl, hide (by simp), hR1, hG1⟩
  case round =>
    obtain ⟨j, f, a, c, k, pj, hj, rfl, rfl, ho, hk, HI, hR, hG⟩ := hrel
    clear hR1 hG1
    subst hk
    have x1 := hR.box.cell 1
    cases f with
    | zero =>
      have HE := hide (unhide HI)
      clear HI
      by_cases q1 : (k.length : Int) < (n : Int)
      · have q2 : ¬ (k.length : Int) ≤ 12 := by have := unhide HC; omega
        have q4 : k.length ≤ 13 := by have := unhide HC; omega
        go_wp2_with fail
        go_ret
        exact ⟨a, c, k, rfl, ho, hide (by rw [unhide HE]; simp [rdSome]), q4, by rw [unhide HE]; exact hR, hG⟩
      · have q4 : k.length ≤ 13 := by have := unhide HC; omega
        go_wp2_with fail
        go_ret
        exact ⟨a, c, k, rfl, ho, hide (by rw [unhide HE]; simp [rdSome]), q4, by rw [unhide HE]; exact hR, hG⟩
    | succ f =>
      have q1 : (k.length : Int) < (n : Int) := by have := unhide HC; omega
      have q2 : (k.length : Int) ≤ 12 := by have := unhide HC; omega
      by_cases hp : pj < 0
      · have HE := hide (show rdSome l M p1 = (k, pj) by rw [unhide HI]; simp [rdSome, hp])
        have q3 : ¬ (0 : Int) ≤ pj := by omega
        clear HI hp
        go_wp2_with fail
        go_ret
        exact ⟨a, c, k, rfl, ho, hide (by rw [unhide HE]), by omega, by rw [unhide HE]; exact hR, hG⟩
      · have HS := hide (show rdSome l M p1 = (k ++ ((getN l pj).1 :: (rdSome l f (getN l pj).2).1), (rdSome l f (getN l pj).2).2) by rw [unhide HI, rdSome, if_neg hp])
        have q3 : (0 : Int) ≤ pj := by omega
        clear HI hp
        go_wp2_with fail
        refine (l4get_any w0 wr g code l pj hR).mono ?_
        rintro e w2 ⟨rfl, hR2, hG2⟩
        have hx := getN_rng (unhide HOK) pj
        have ho2 := ho.keepBy hG2 (.inr (fun e => by have := (ho.lt g e).1; omega))
        have hG2' := grown_trans hG hG2
        generalize getN l pj = qj at *
        obtain ⟨x, p2⟩ := qj
        simp only at *
        clear hR hG hG2 ho
        have hY := hide (int_one w2 x (by omega) (by omega))
        go_wp2_with (at_builtin; refine wpList_appZ rfl _ _ rfl w.heap.size _ k rfl (ho2.alloc _) _ [x] rfl (unhide hY) ?c1 ?c2 ?_)
        case c1 => first | omega | (simp; omega)
        case c2 => have := hG2'.size; first | omega | (simp; omega)
        intro v5 w5 ho5 hg5
        have hgn : ∀ q, (Value.slice a k.length c).ownBlock = some q → w.heap.size ≤ q := fun q hq => (ho2.lt q hq).1
        have hA5 := grown_trans (Below.toGrown ((Below.refl w2.heap.size w2).alloc (Nat.le_refl _) (.cells #[.int .i64 x] 3)) _) hg5
        have hG5 := grow_new hG2' hA5 hgn
        have hR5 := hR2.keepG hA5 (fun e => by have := hgn g e; omega) (fun q hq => by have := hgn q hq; omega)
        obtain ⟨a5, c5, rfl, _, _⟩ := ho5.ints.shape
        clear hY hg5 hA5 hgn ho2 hR2 hG2' hx
        go_wp2_with fail
        go_roundw
        case rel => exact ⟨k.length + 1, f, a5, c5, k ++ [x], p2, by omega, by go_num, rfl, ho5, by simp, by rw [List.append_assoc]; exact HS, hR5, hG5⟩
        case measure => simp [intOf]; omega
end Go.Proofs.Ytcabolcfoijglaa

/- impl's reader: a key. -/
namespace Go.Proofs.Ytcabolcfoijglaa
open Go.RowKit
set_option linter.unusedVariables false
set_option maxRecDepth 100000

set_option maxHeartbeats 6400000 in
theorem rkey_any (w0 w : World) (g : Nat) (code : Value) (l : List Int) (p : Int) (h : Rd 65 w0 w g code l p) :
    Calls Try.prog 76 #[.pointer (some ⟨g, 0, none⟩)] w fun e w' => ∃ a c k, e = .returned (.slice a k.length c) ∧ OwnZ w' w.heap.size (.slice a k.length c) k ∧ Hid ((rdKeyI l p).1 = k) ∧ k.length ≤ 13 ∧ Rd 65 w0 w' g code l (rdKeyI l p).2 ∧ w.grownBy w' (some g) := by
  have hgl := h.box.lt
  have hnew := h.below.size
  have hrg := getN_rng h.bytes.1 p
  have HOK := hide h.bytes.1
  have H1 := hide (rnum_any w0 w g code l p h)
  clear h
  unfold rdKeyI
  generalize getN l p = q1 at *
  obtain ⟨n, p1⟩ := q1
  simp only at *
  obtain ⟨n, rfl⟩ := Int.eq_ofNat_of_zero_le hrg.2.2.1
  clear hrg
  obtain ⟨M, hM⟩ : ∃ M, M = (min (n : Int) 12).toNat := ⟨_, rfl⟩
  rw [← hM]
  go_enter Try.func76, Try.ntmps76
  go_wp2_with fail
  refine (unhide H1).mono ?_
  rintro e w1 ⟨rfl, hR1, hG1⟩
  clear H1
  have hcase : (12 < n ∧ M = 12) ∨ (¬ 12 < n ∧ M = n) := by omega
  clear hM
  rcases hcase with ⟨hn, rfl⟩ | ⟨hn, rfl⟩
  · have hn' : (12 : Int) < (n : Int) := by omega
    go_wp2_with fail
    go_loopw [3, 7] (fun o i wr => ∃ (j f : Nat) (a : Option Addr) (c : Nat) (k : List Int) (pj : Int), j + f = 12 ∧ i = .int .i64 j ∧ o = .slice a k.length c ∧ OwnZ wr w.heap.size (.slice a k.length c) k ∧ k.length = j ∧ Hid (rdMany l 12 p1 = (k ++ (rdMany l f pj).1, (rdMany l f pj).2)) ∧ Rd 65 w0 wr g code l pj ∧ w.grownBy wr (some g)) (fun _ i _ => 12 - (intOf i).toNat)
    case atStart => exact ⟨0, 12, none, 0, [], p1, by omega, rfl, rfl, ownz_nil _ _, rfl, hide (by simp), hR1, hG1⟩
    case round =>
      obtain ⟨j, f, a, c, k, pj, hj, rfl, rfl, ho, hk, HI, hR, hG⟩ := hrel
      clear hR1 hG1
      subst hk
      cases f with
      | zero =>
        have HE := hide (unhide HI)
        clear HI
        have hlt' : ¬ (k.length : Int) < 12 := by omega
        go_wp2_with fail
        go_ret
        exact ⟨a, c, k, rfl, ho, hide (by rw [unhide HE]; simp [rdMany]), by omega, by rw [unhide HE]; exact hR, hG⟩
      | succ f =>
        have hlt' : (k.length : Int) < 12 := by omega
        have HS := hide (show rdMany l 12 p1 = (k ++ ((getN l pj).1 :: (rdMany l f (getN l pj).2).1), (rdMany l f (getN l pj).2).2) from unhide HI)
        clear HI
        go_wp2_with fail
        refine (rnum_any w0 wr g code l pj hR).mono ?_
        rintro e w2 ⟨rfl, hR2, hG2⟩
        have hx := getN_rng (unhide HOK) pj
        have ho2 := ho.keepBy hG2 (.inr (fun e => by have := (ho.lt g e).1; omega))
        have hG2' := grown_trans hG hG2
        generalize getN l pj = qj at *
        obtain ⟨x, p2⟩ := qj
        simp only at *
        clear hR hG hG2 ho
        have hY := hide (int_one w2 x (by omega) (by omega))
        go_wp2_with (at_builtin; refine wpList_appZ rfl _ _ rfl w.heap.size _ k rfl (ho2.alloc _) _ [x] rfl (unhide hY) ?c1 ?c2 ?_)
        case c1 => first | omega | (simp; omega)
        case c2 => have := hG2'.size; first | omega | (simp; omega)
        intro v5 w5 ho5 hg5
        have hgn : ∀ q, (Value.slice a k.length c).ownBlock = some q → w.heap.size ≤ q := fun q hq => (ho2.lt q hq).1
        have hA5 := grown_trans (Below.toGrown ((Below.refl w2.heap.size w2).alloc (Nat.le_refl _) (.cells #[.int .i64 x] 3)) _) hg5
        have hG5 := grow_new hG2' hA5 hgn
        have hR5 := hR2.keepG hA5 (fun e => by have := hgn g e; omega) (fun q hq => by have := hgn q hq; omega)
        obtain ⟨a5, c5, rfl, _, _⟩ := ho5.ints.shape
        clear hY hg5 hA5 hgn ho2 hR2 hG2' hx
        go_wp2_with fail
        go_roundw
        case rel => exact ⟨k.length + 1, f, a5, c5, k ++ [x], p2, by omega, by go_num, rfl, ho5, by simp, by rw [List.append_assoc]; exact HS, hR5, hG5⟩
        case measure => simp [intOf]; omega
  · have hn' : ¬ (12 : Int) < (M : Int) := by omega
    go_wp2_with fail
    go_loopw [3, 7] (fun o i wr => ∃ (j f : Nat) (a : Option Addr) (c : Nat) (k : List Int) (pj : Int), j + f = M ∧ i = .int .i64 j ∧ o = .slice a k.length c ∧ OwnZ wr w.heap.size (.slice a k.length c) k ∧ k.length = j ∧ Hid (rdMany l M p1 = (k ++ (rdMany l f pj).1, (rdMany l f pj).2)) ∧ Rd 65 w0 wr g code l pj ∧ w.grownBy wr (some g)) (fun _ i _ => M - (intOf i).toNat)
    case atStart => exact ⟨0, M, none, 0, [], p1, by omega, rfl, rfl, ownz_nil _ _, rfl, hide (by simp), hR1, hG1⟩
    case round =>
      obtain ⟨j, f, a, c, k, pj, hj, rfl, rfl, ho, hk, HI, hR, hG⟩ := hrel
      clear hR1 hG1
      subst hk
      cases f with
      | zero =>
        have HE := hide (unhide HI)
        clear HI
        have hlt' : ¬ (k.length : Int) < (M : Int) := by omega
        go_wp2_with fail
        go_ret
        exact ⟨a, c, k, rfl, ho, hide (by rw [unhide HE]; simp [rdMany]), by omega, by rw [unhide HE]; exact hR, hG⟩
      | succ f =>
        have hlt' : (k.length : Int) < (M : Int) := by omega
        have HS := hide (show rdMany l M p1 = (k ++ ((getN l pj).1 :: (rdMany l f (getN l pj).2).1), (rdMany l f (getN l pj).2).2) from unhide HI)
        clear HI
        go_wp2_with fail
        refine (rnum_any w0 wr g code l pj hR).mono ?_
        rintro e w2 ⟨rfl, hR2, hG2⟩
        have hx := getN_rng (unhide HOK) pj
        have ho2 := ho.keepBy hG2 (.inr (fun e => by have := (ho.lt g e).1; omega))
        have hG2' := grown_trans hG hG2
        generalize getN l pj = qj at *
        obtain ⟨x, p2⟩ := qj
        simp only at *
        clear hR hG hG2 ho
        have hY := hide (int_one w2 x (by omega) (by omega))
        go_wp2_with (at_builtin; refine wpList_appZ rfl _ _ rfl w.heap.size _ k rfl (ho2.alloc _) _ [x] rfl (unhide hY) ?c1 ?c2 ?_)
        case c1 => first | omega | (simp; omega)
        case c2 => have := hG2'.size; first | omega | (simp; omega)
        intro v5 w5 ho5 hg5
        have hgn : ∀ q, (Value.slice a k.length c).ownBlock = some q → w.heap.size ≤ q := fun q hq => (ho2.lt q hq).1
        have hA5 := grown_trans (Below.toGrown ((Below.refl w2.heap.size w2).alloc (Nat.le_refl _) (.cells #[.int .i64 x] 3)) _) hg5
        have hG5 := grow_new hG2' hA5 hgn
        have hR5 := hR2.keepG hA5 (fun e => by have := hgn g e; omega) (fun q hq => by have := hgn q hq; omega)
        obtain ⟨a5, c5, rfl, _, _⟩ := ho5.ints.shape
        clear hY hg5 hA5 hgn ho2 hR2 hG2' hx
        go_wp2_with fail
        go_roundw
        case rel => exact ⟨k.length + 1, f, a5, c5, k ++ [x], p2, by omega, by go_num, rfl, ho5, by simp, by rw [List.append_assoc]; exact HS, hR5, hG5⟩
        case measure => simp [intOf]; omega
end Go.Proofs.Ytcabolcfoijglaa

/- The laws' own count of how great an operation is, by contracts; toId, eqId. -/
namespace Go.Proofs.Ytcabolcfoijglaa
open Go.RowKit
set_option linter.unusedVariables false

/-- What is left when n are taken: -1 where there aren't so many. -/
def left4 (n : Nat) (left : Int) : Int := if (n : Int) ≤ left then left - n else -1
theorem left4_in {n : Nat} {left : Int} (h : (n : Int) ≤ left) : left4 n left = left - n := if_pos h
theorem left4_out {n : Nat} {left : Int} (h : ¬ (n : Int) ≤ left) : left4 n left = -1 := if_neg h

theorem szB4_any (w : World) (a : Option Addr) (n cap : Nat) (left : Int) (hn : n ≤ maxLen) (h0 : 0 ≤ left) (h1 : left ≤ 1000000000) :
    Calls Try.prog 90 #[.slice a n cap, .int .i64 left] w fun e w' => e = .returned (.int .i64 (left4 n left)) ∧ w' = w := by
  unfold maxLen at hn
  by_cases h : (n : Int) ≤ left
  · have HR := hide (left4_in h)
    have hd : ¬ left - (n : Int) < 0 := by omega
    go_enter Try.func90, Try.ntmps90
    go_wp2
    go_ret
    exact ⟨by rw [unhide HR]; rfl, rfl⟩
  · have HR := hide (left4_out h)
    have hd : left - (n : Int) < 0 := by omega
    go_enter Try.func90, Try.ntmps90
    go_wp2
    go_ret
    exact ⟨by rw [unhide HR]; rfl, rfl⟩

theorem szZ4_any (w : World) (a : Option Addr) (n cap : Nat) (left : Int) (hn : n ≤ maxLen) (h0 : 0 ≤ left) (h1 : left ≤ 1000000000) :
    Calls Try.prog 89 #[.slice a n cap, .int .i64 left] w fun e w' => e = .returned (.int .i64 (left4 n left)) ∧ w' = w := by
  unfold maxLen at hn
  by_cases h : (n : Int) ≤ left
  · have HR := hide (left4_in h)
    have hd : ¬ left - (n : Int) < 0 := by omega
    go_enter Try.func89, Try.ntmps89
    go_wp2
    go_ret
    exact ⟨by rw [unhide HR]; rfl, rfl⟩
  · have HR := hide (left4_out h)
    have hd : left - (n : Int) < 0 := by omega
    go_enter Try.func89, Try.ntmps89
    go_wp2
    go_ret
    exact ⟨by rw [unhide HR]; rfl, rfl⟩

set_option maxRecDepth 8000 in
set_option maxHeartbeats 1600000 in
theorem szOp_any (w : World) (v : Value) (o : OpV) (left : Int) (h : RdOp w v o) (h0 : 0 ≤ left) (h1 : left ≤ 1000000000) :
    Calls Try.prog 61 #[v, .int .i64 left] w fun e w' => e = .returned (.int .i64 (left4 (o.key.length + o.name.length + o.text.length) left)) ∧ Below w.heap.size w w' := by
  obtain ⟨k, n, t, rfl, hk, hn, ht⟩ := h
  have m1 := hk.2.1
  have m2 := hn.2.1
  have m3 := ht.2.1
  obtain ⟨ak, ck, rfl, _, _⟩ := hk.shape
  obtain ⟨an, cn, rfl, _, _⟩ := hn.shape
  obtain ⟨at', ct, rfl, _, _⟩ := ht.shape
  clear hk hn ht
  generalize o.key.length = nK at *
  generalize o.name.length = nN at *
  generalize o.text.length = nT at *
  have HA := hide ((Below.refl w.heap.size w).alloc (Nat.le_refl _) (.cells #[.int .i64 o.kind, .int .i64 o.atN, .int .i64 o.atR, .int .i64 o.nodeN, .int .i64 o.nodeR, .int .i64 o.parN, .int .i64 o.parR, .slice ak nK ck, .int .i64 o.elem, .slice an nN cn, .slice at' nT ct, .bool o.gone] 82))
  unfold opVal
  go_enter Try.func61, Try.ntmps61
  go_wp2_with fail
  refine (szZ4_any _ _ _ _ left m1 h0 h1).mono ?_
  rintro e w1 ⟨rfl, rfl⟩
  by_cases h2 : (nK : Int) ≤ left
  · rw [left4_in h2]
    have hd : ¬ left - (nK : Int) < 0 := by omega
    go_wp2_with fail
    refine (szB4_any _ _ _ _ (left - (nK : Int)) m2 (by omega) (by omega)).mono ?_
    rintro e w2 ⟨rfl, rfl⟩
    by_cases h3 : (nN : Int) ≤ left - (nK : Int)
    · rw [left4_in h3]
      have hd2 : ¬ left - (nK : Int) - (nN : Int) < 0 := by omega
      go_wp2_with fail
      refine (szB4_any _ _ _ _ (left - (nK : Int) - (nN : Int)) m3 (by omega) (by omega)).mono ?_
      rintro e w2 ⟨rfl, rfl⟩
      by_cases h4 : (nT : Int) ≤ left - (nK : Int) - (nN : Int)
      · rw [left4_in h4]
        have HR := hide (show left4 (nK + nN + nT) left = left - (nK : Int) - (nN : Int) - (nT : Int) by rw [left4_in (by omega)]; omega)
        have hd3 : ¬ left - (nK : Int) - (nN : Int) - (nT : Int) < 0 := by omega
        go_wp2_with fail
        go_ret
        exact ⟨by rw [unhide HR]; rfl, unhide HA⟩
      · rw [left4_out h4]
        have HR := hide (show left4 (nK + nN + nT) left = -1 by rw [left4_out (by omega)])
        go_wp2_with fail
        go_ret
        exact ⟨by rw [unhide HR]; rfl, unhide HA⟩
    · rw [left4_out h3]
      have HR := hide (show left4 (nK + nN + nT) left = -1 by rw [left4_out (by omega)])
      go_wp2_with fail
      go_ret
      exact ⟨by rw [unhide HR]; rfl, unhide HA⟩
  · rw [left4_out h2]
    have HR := hide (show left4 (nK + nN + nT) left = -1 by rw [left4_out (by omega)])
    go_wp2_with fail
    go_ret
    exact ⟨by rw [unhide HR]; rfl, unhide HA⟩

end Go.Proofs.Ytcabolcfoijglaa

/- laws.toId and laws.eqId, by contracts. -/
namespace Go.Proofs.Ytcabolcfoijglaa
open Go.RowKit
set_option linter.unusedVariables false

def idEqB (n r n' r' : Int) : Bool := n == n' && r == r'
theorem idEqB_iff (n r n' r' : Int) : idEqB n r n' r' = true ↔ n = n' ∧ r = r' := by simp [idEqB]

set_option maxHeartbeats 1600000 in
theorem eqId_any (w : World) (n r n' r' : Int) :
    Calls Try.prog 56 #[.agg #[.int .i64 n, .int .i64 r], .agg #[.int .i64 n', .int .i64 r']] w fun e w' => e = .returned (.bool (idEqB n r n' r')) ∧ Below w.heap.size w w' := by
  have HB := hide (((Below.refl w.heap.size w).alloc (Nat.le_refl _) (.cells #[.int .i64 n, .int .i64 r] 24)).alloc (by simp) (.cells #[.int .i64 n', .int .i64 r'] 24))
  by_cases h1 : n = n'
  · subst h1
    by_cases h2 : r = r'
    · subst h2
      go_enter Try.func56, Try.ntmps56
      go_wp2
      go_ret
      exact ⟨by simp [idEqB], unhide HB⟩
    · have HE := hide (show idEqB n r n r' = false by simp [idEqB, h2])
      have q : (r == r') = false := by simpa using h2
      go_enter Try.func56, Try.ntmps56
      go_wp2
      go_ret
      exact ⟨by rw [unhide HE]; rfl, unhide HB⟩
  · have HE := hide (show idEqB n r n' r' = false by simp [idEqB, h1])
    have q : (n == n') = false := by simpa using h1
    go_enter Try.func56, Try.ntmps56
    go_wp2
    go_ret
    exact ⟨by rw [unhide HE]; rfl, unhide HB⟩

set_option maxHeartbeats 1600000 in
theorem toId_any (w : World) (n r : Int) :
    Calls Try.prog 91 #[.agg #[.int .i64 n, .int .i64 r]] w fun e w' => e = .returned (.agg #[.int .i64 n, .int .i64 r]) ∧ Below w.heap.size w w' := by
  have HB := hide ((((Below.refl w.heap.size w).alloc (Nat.le_refl _) (.cells #[.int .i64 n, .int .i64 r] 80)).alloc (by simp) (.cells #[.int .i64 n, .int .i64 r] 24)).alloc (by simp; omega) (.cells #[.int .i64 n, .int .i64 r] 24))
  go_enter Try.func91, Try.ntmps91
  go_wp2
  refine bodyPost_ret (v := .agg #[.int .i64 n, .int .i64 r]) (by simp [results, Try.results91, go_sem]) rfl ⟨rfl, ?_⟩
  exact unhide HB

end Go.Proofs.Ytcabolcfoijglaa

/- The law's own helper that holds two rows of bytes against each other, by its contract. -/
namespace Go.Proofs.Ytcabolcfoijglaa
open Go.RowKit
set_option linter.unusedVariables false

theorem take_eq_step {a b : List Int} {k : Nat} (h : a.take k = b.take k) (ha : k < a.length) (hb : k < b.length) (e : a[k] = b[k]) : a.take (k + 1) = b.take (k + 1) := by
  rw [List.take_succ_eq_append_getElem ha, List.take_succ_eq_append_getElem hb, h, e]
theorem decide_ne {a b : List Int} {k : Nat} (ha : k < a.length) (hb : k < b.length) (e : a[k] ≠ b[k]) : decide (a = b) = false := by
  simp only [decide_eq_false_iff_not]
  intro h; subst h; exact e rfl

set_option maxHeartbeats 1600000 in
set_option maxRecDepth 1000000 in
theorem eqB_any (w : World) (u v : Value) (a b : List Int) (hu : Byt w u a) (hv : Byt w v b) :
    Calls Try.prog 17 #[u, v] w fun e w' => e = .returned (.bool (decide (a = b))) ∧ Below w.heap.size w w' := by
  have hma := hu.2.1
  have hmb := hv.2.1
  unfold maxLen at hma hmb
  by_cases hl : a.length = b.length
  · by_cases h0 : a.length = 0
    · have ha : a = [] := List.eq_nil_of_length_eq_zero h0
      have hb : b = [] := List.eq_nil_of_length_eq_zero (by omega)
      subst ha hb
      obtain ⟨a1, c1, rfl, _⟩ := hu.shape
      obtain ⟨a2, c2, rfl, _⟩ := hv.shape
      go_enter Try.func17, Try.ntmps17
      go_wp2
      refine wp_loop_rounds 1 ?_
      rw [rounds_succ]
      go_wp2
      go_ret
      exact ⟨rfl, Below.refl _ _⟩
    · obtain ⟨hoka, _, ⟨rfl, rfl⟩ | ⟨x, cap, rfl, hc, rfl⟩ | ⟨p, off, cap, rfl, h1, h2, h3, h4, h5⟩⟩ := hu
      · simp at h0
      · simp at h0
      obtain ⟨hokb, _, ⟨rfl, rfl⟩ | ⟨x, cap, rfl, hc, rfl⟩ | ⟨q, off', cap', rfl, g1, g2, g3, g4, g5⟩⟩ := hv
      · simp at hl; simp [hl] at h0
      · simp at hl; simp [hl] at h0
      generalize hA : a.length = n at *
      have HL := hide hl
      clear hl
      rw [← unhide HL]
      go_enter Try.func17, Try.ntmps17
      go_wp2
      go_loopw [5] (fun i wr => ∃ k : Nat, k ≤ n ∧ i = .int .i64 k ∧ Hid (a.take k = b.take k) ∧ Below w.heap.size w wr) (fun i _ => n - (intOf i).toNat)
      case atStart => exact ⟨0, Nat.zero_le _, rfl, hide rfl, Below.refl _ _⟩
      case round =>
        obtain ⟨k, hk, rfl, ht, hB⟩ := hrel
        by_cases hlt : k < n
        · obtain ⟨x, hx⟩ : ∃ x, x = a.getD k 0 := ⟨_, rfl⟩
          obtain ⟨y, hy⟩ : ∃ y, y = b.getD k 0 := ⟨_, rfl⟩
          have c1 : wr.cell? ⟨p, off + k, none⟩ = some (.int .u8 x) := by rw [hx]; exact (hB.cell (p := ⟨p, off + k, none⟩) h4).trans (h5 k hlt)
          have c2 : wr.cell? ⟨q, off' + k, none⟩ = some (.int .u8 y) := by rw [hy]; exact (hB.cell (p := ⟨q, off' + k, none⟩) g4).trans (g5 k (by have := unhide HL; omega))
          have hka : k < a.length := by omega
          have hkb : k < b.length := by have := unhide HL; omega
          rw [getD_at hka] at hx
          rw [getD_at hkb] at hy
          have HX := hide hx
          have HY := hide hy
          have hlt' : (k : Int) < (n : Int) := by omega
          clear hx hy h5 g5
          by_cases hxy : x = y
          · have hne : (x != y) = false := by simp [hxy]
            clear hxy
            go_wp2
            go_quiet (fail)
            go_wp2
            go_roundw
            case rel => exact ⟨k + 1, by omega, by go_num, hide (take_eq_step (unhide ht) hka hkb (by rw [← unhide HX, ← unhide HY]; simpa using hne)), below_drewN hB _⟩
            case measure => simp [intOf]; omega
          · have hne : (x != y) = true := by simp [hxy]
            have hd : decide (a = b) = false := decide_ne hka hkb (by rw [← unhide HX, ← unhide HY]; exact hxy)
            have HD := hide hd
            clear hxy hd
            go_wp2
            go_quiet (fail)
            go_wp2
            go_ret
            exact ⟨by rw [unhide HD]; rfl, below_drewN hB _⟩
        · have e : k = n := by omega
          have hd : decide (a = b) = true := by
            have h := unhide ht
            rw [List.take_of_length_le (by omega), List.take_of_length_le (by have := unhide HL; omega)] at h
            simpa using h
          have HD := hide hd
          clear hd ht
          subst e
          go_wp2
          go_ret
          exact ⟨by rw [unhide HD]; rfl, hB⟩
  · have hd : decide (a = b) = false := by
      simp only [decide_eq_false_iff_not]
      intro h; subst h; exact hl rfl
    have hne : ((a.length : Int) != (b.length : Int)) = true := by simp; omega
    have HD := hide hd
    clear hd
    obtain ⟨a1, c1, rfl, _⟩ := hu.shape
    obtain ⟨a2, c2, rfl, _⟩ := hv.shape
    go_enter Try.func17, Try.ntmps17
    go_wp2
    go_ret
    exact ⟨by rw [unhide HD]; rfl, Below.refl _ _⟩
end Go.Proofs.Ytcabolcfoijglaa

/- The law's own helper that holds two rows of bytes against each other, by its contract. -/
namespace Go.Proofs.Ytcabolcfoijglaa
open Go.RowKit
set_option linter.unusedVariables false

set_option maxHeartbeats 1600000 in
set_option maxRecDepth 1000000 in
theorem eqZ_any (w : World) (u v : Value) (a b : List Int) (hu : Ints w u a) (hv : Ints w v b) :
    Calls Try.prog 57 #[u, v] w fun e w' => e = .returned (.bool (decide (a = b))) ∧ Below w.heap.size w w' := by
  have hma := hu.2.1
  have hmb := hv.2.1
  unfold maxLen at hma hmb
  by_cases hl : a.length = b.length
  · by_cases h0 : a.length = 0
    · have ha : a = [] := List.eq_nil_of_length_eq_zero h0
      have hb : b = [] := List.eq_nil_of_length_eq_zero (by omega)
      subst ha hb
      obtain ⟨a1, c1, rfl, _⟩ := hu.shape
      obtain ⟨a2, c2, rfl, _⟩ := hv.shape
      go_enter Try.func57, Try.ntmps57
      go_wp2
      refine wp_loop_rounds 1 ?_
      rw [rounds_succ]
      go_wp2
      go_ret
      exact ⟨rfl, Below.refl _ _⟩
    · obtain ⟨hoka, _, ⟨rfl, rfl⟩ | ⟨x, cap, rfl, hc, rfl⟩ | ⟨p, off, cap, rfl, h1, h2, h3, h4, h5⟩⟩ := hu
      · simp at h0
      · simp at h0
      obtain ⟨hokb, _, ⟨rfl, rfl⟩ | ⟨x, cap, rfl, hc, rfl⟩ | ⟨q, off', cap', rfl, g1, g2, g3, g4, g5⟩⟩ := hv
      · simp at hl; simp [hl] at h0
      · simp at hl; simp [hl] at h0
      generalize hA : a.length = n at *
      have HL := hide hl
      clear hl
      rw [← unhide HL]
      go_enter Try.func57, Try.ntmps57
      go_wp2
      go_loopw [5] (fun i wr => ∃ k : Nat, k ≤ n ∧ i = .int .i64 k ∧ Hid (a.take k = b.take k) ∧ Below w.heap.size w wr) (fun i _ => n - (intOf i).toNat)
      case atStart => exact ⟨0, Nat.zero_le _, rfl, hide rfl, Below.refl _ _⟩
      case round =>
        obtain ⟨k, hk, rfl, ht, hB⟩ := hrel
        by_cases hlt : k < n
        · obtain ⟨x, hx⟩ : ∃ x, x = a.getD k 0 := ⟨_, rfl⟩
          obtain ⟨y, hy⟩ : ∃ y, y = b.getD k 0 := ⟨_, rfl⟩
          have c1 : wr.cell? ⟨p, off + k, none⟩ = some (.int .i64 x) := by rw [hx]; exact (hB.cell (p := ⟨p, off + k, none⟩) h4).trans (h5 k hlt)
          have c2 : wr.cell? ⟨q, off' + k, none⟩ = some (.int .i64 y) := by rw [hy]; exact (hB.cell (p := ⟨q, off' + k, none⟩) g4).trans (g5 k (by have := unhide HL; omega))
          have hka : k < a.length := by omega
          have hkb : k < b.length := by have := unhide HL; omega
          rw [getD_at hka] at hx
          rw [getD_at hkb] at hy
          have HX := hide hx
          have HY := hide hy
          have hlt' : (k : Int) < (n : Int) := by omega
          clear hx hy h5 g5
          by_cases hxy : x = y
          · have hne : (x != y) = false := by simp [hxy]
            clear hxy
            go_wp2
            go_quiet (fail)
            go_wp2
            go_roundw
            case rel => exact ⟨k + 1, by omega, by go_num, hide (take_eq_step (unhide ht) hka hkb (by rw [← unhide HX, ← unhide HY]; simpa using hne)), below_drewN hB _⟩
            case measure => simp [intOf]; omega
          · have hne : (x != y) = true := by simp [hxy]
            have hd : decide (a = b) = false := decide_ne hka hkb (by rw [← unhide HX, ← unhide HY]; exact hxy)
            have HD := hide hd
            clear hxy hd
            go_wp2
            go_quiet (fail)
            go_wp2
            go_ret
            exact ⟨by rw [unhide HD]; rfl, below_drewN hB _⟩
        · have e : k = n := by omega
          have hd : decide (a = b) = true := by
            have h := unhide ht
            rw [List.take_of_length_le (by omega), List.take_of_length_le (by have := unhide HL; omega)] at h
            simpa using h
          have HD := hide hd
          clear hd ht
          subst e
          go_wp2
          go_ret
          exact ⟨by rw [unhide HD]; rfl, hB⟩
  · have hd : decide (a = b) = false := by
      simp only [decide_eq_false_iff_not]
      intro h; subst h; exact hl rfl
    have hne : ((a.length : Int) != (b.length : Int)) = true := by simp; omega
    have HD := hide hd
    clear hd
    obtain ⟨a1, c1, rfl, _⟩ := hu.shape
    obtain ⟨a2, c2, rfl, _⟩ := hv.shape
    go_enter Try.func57, Try.ntmps57
    go_wp2
    go_ret
    exact ⟨by rw [unhide HD]; rfl, Below.refl _ _⟩
end Go.Proofs.Ytcabolcfoijglaa

/- laws.eqOp of two operations that read the same. -/
namespace Go.Proofs.Ytcabolcfoijglaa
open Go.RowKit
set_option linter.unusedVariables false
set_option maxRecDepth 100000

theorem eqB4_true (w : World) (u v : Value) (a : List Int) (hu : Byt w u a) (hv : Byt w v a) : Calls Try.prog 17 #[u, v] w fun e w' => e = .returned (.bool true) ∧ Below w.heap.size w w' := by
  refine (eqB_any w u v a a hu hv).mono ?_
  rintro e w' ⟨rfl, h⟩
  exact ⟨by simp, h⟩
theorem eqZ4_true (w : World) (u v : Value) (a : List Int) (hu : Ints w u a) (hv : Ints w v a) : Calls Try.prog 57 #[u, v] w fun e w' => e = .returned (.bool true) ∧ Below w.heap.size w w' := by
  refine (eqZ_any w u v a a hu hv).mono ?_
  rintro e w' ⟨rfl, h⟩
  exact ⟨by simp, h⟩
theorem eqId_true (w : World) (n r : Int) : Calls Try.prog 56 #[.agg #[.int .i64 n, .int .i64 r], .agg #[.int .i64 n, .int .i64 r]] w fun e w' => e = .returned (.bool true) ∧ Below w.heap.size w w' := by
  refine (eqId_any w n r n r).mono ?_
  rintro e w' ⟨rfl, h⟩
  exact ⟨by simp [idEqB], h⟩

set_option maxHeartbeats 3200000 in
theorem eqOp_same (w : World) (u v : Value) (o : OpV) (hu : RdOp w u o) (hv : RdOp w v o) :
    Calls Try.prog 16 #[u, v] w fun e w' => e = .returned (.bool true) ∧ Below w.heap.size w w' := by
  obtain ⟨k1, n1, t1, rfl, hk1, hn1, ht1⟩ := hu
  obtain ⟨k2, n2, t2, rfl, hk2, hn2, ht2⟩ := hv
  obtain ⟨ak1, ck1, rfl, _, _⟩ := hk1.shape
  obtain ⟨an1, cn1, rfl, _, _⟩ := hn1.shape
  obtain ⟨at1, ct1, rfl, _, _⟩ := ht1.shape
  obtain ⟨ak2, ck2, rfl, _, _⟩ := hk2.shape
  obtain ⟨an2, cn2, rfl, _, _⟩ := hn2.shape
  obtain ⟨at2, ct2, rfl, _, _⟩ := ht2.shape
  have H := hide (And.intro hk1 (And.intro hn1 (And.intro ht1 (And.intro hk2 (And.intro hn2 ht2)))))
  clear hk1 hn1 ht1 hk2 hn2 ht2
  unfold opVal
  have hA : Below w.heap.size w ((w.alloc (.cells #[.int .i64 o.kind, .int .i64 o.atN, .int .i64 o.atR, .int .i64 o.nodeN, .int .i64 o.nodeR, .int .i64 o.parN, .int .i64 o.parR, .slice ak1 o.key.length ck1, .int .i64 o.elem, .slice an1 o.name.length cn1, .slice at1 o.text.length ct1, .bool o.gone] 27)).alloc (.cells #[.int .i64 o.kind, .int .i64 o.atN, .int .i64 o.atR, .int .i64 o.nodeN, .int .i64 o.nodeR, .int .i64 o.parN, .int .i64 o.parR, .slice ak2 o.key.length ck2, .int .i64 o.elem, .slice an2 o.name.length cn2, .slice at2 o.text.length ct2, .bool o.gone] 27)) := ((Below.refl _ _).alloc (Nat.le_refl _) _).alloc (by simp) _
  go_enter Try.func16, Try.ntmps16
  go_wp2_with fail
  generalize hW : ((w.alloc (.cells #[.int .i64 o.kind, .int .i64 o.atN, .int .i64 o.atR, .int .i64 o.nodeN, .int .i64 o.nodeR, .int .i64 o.parN, .int .i64 o.parR, .slice ak1 o.key.length ck1, .int .i64 o.elem, .slice an1 o.name.length cn1, .slice at1 o.text.length ct1, .bool o.gone] 27)).alloc (.cells #[.int .i64 o.kind, .int .i64 o.atN, .int .i64 o.atR, .int .i64 o.nodeN, .int .i64 o.nodeR, .int .i64 o.parN, .int .i64 o.parR, .slice ak2 o.key.length ck2, .int .i64 o.elem, .slice an2 o.name.length cn2, .slice at2 o.text.length ct2, .bool o.gone] 27)) = W at *
  have HW := hide hW
  clear hW
  refine (eqId_true _ o.atN o.atR).mono ?_
  rintro e w1 ⟨rfl, hB1⟩
  have c11_3 := cell_later hB1 (show W.cell? ⟨w.heap.size, 3, none⟩ = some (.int .i64 o.nodeN) by rw [← unhide HW]; simp)
  have c11_4 := cell_later hB1 (show W.cell? ⟨w.heap.size, 4, none⟩ = some (.int .i64 o.nodeR) by rw [← unhide HW]; simp)
  have c11_5 := cell_later hB1 (show W.cell? ⟨w.heap.size, 5, none⟩ = some (.int .i64 o.parN) by rw [← unhide HW]; simp)
  have c11_6 := cell_later hB1 (show W.cell? ⟨w.heap.size, 6, none⟩ = some (.int .i64 o.parR) by rw [← unhide HW]; simp)
  have c11_7 := cell_later hB1 (show W.cell? ⟨w.heap.size, 7, none⟩ = some (.slice ak1 o.key.length ck1) by rw [← unhide HW]; simp)
  have c11_8 := cell_later hB1 (show W.cell? ⟨w.heap.size, 8, none⟩ = some (.int .i64 o.elem) by rw [← unhide HW]; simp)
  have c11_9 := cell_later hB1 (show W.cell? ⟨w.heap.size, 9, none⟩ = some (.slice an1 o.name.length cn1) by rw [← unhide HW]; simp)
  have c11_10 := cell_later hB1 (show W.cell? ⟨w.heap.size, 10, none⟩ = some (.slice at1 o.text.length ct1) by rw [← unhide HW]; simp)
  have c11_11 := cell_later hB1 (show W.cell? ⟨w.heap.size, 11, none⟩ = some (.bool o.gone) by rw [← unhide HW]; simp)
  have c12_3 := cell_later hB1 (show W.cell? ⟨w.heap.size + 1, 3, none⟩ = some (.int .i64 o.nodeN) by rw [← unhide HW]; simp)
  have c12_4 := cell_later hB1 (show W.cell? ⟨w.heap.size + 1, 4, none⟩ = some (.int .i64 o.nodeR) by rw [← unhide HW]; simp)
  have c12_5 := cell_later hB1 (show W.cell? ⟨w.heap.size + 1, 5, none⟩ = some (.int .i64 o.parN) by rw [← unhide HW]; simp)
  have c12_6 := cell_later hB1 (show W.cell? ⟨w.heap.size + 1, 6, none⟩ = some (.int .i64 o.parR) by rw [← unhide HW]; simp)
  have c12_7 := cell_later hB1 (show W.cell? ⟨w.heap.size + 1, 7, none⟩ = some (.slice ak2 o.key.length ck2) by rw [← unhide HW]; simp)
  have c12_8 := cell_later hB1 (show W.cell? ⟨w.heap.size + 1, 8, none⟩ = some (.int .i64 o.elem) by rw [← unhide HW]; simp)
  have c12_9 := cell_later hB1 (show W.cell? ⟨w.heap.size + 1, 9, none⟩ = some (.slice an2 o.name.length cn2) by rw [← unhide HW]; simp)
  have c12_10 := cell_later hB1 (show W.cell? ⟨w.heap.size + 1, 10, none⟩ = some (.slice at2 o.text.length ct2) by rw [← unhide HW]; simp)
  have c12_11 := cell_later hB1 (show W.cell? ⟨w.heap.size + 1, 11, none⟩ = some (.bool o.gone) by rw [← unhide HW]; simp)
  replace hA := bstep hA hB1
  clear hB1 HW
  go_wp2_with fail
  refine (eqId_true _ o.nodeN o.nodeR).mono ?_
  rintro e w2 ⟨rfl, hB2⟩
  have c21_5 := cell_later hB2 c11_5
  have c21_6 := cell_later hB2 c11_6
  have c21_7 := cell_later hB2 c11_7
  have c21_8 := cell_later hB2 c11_8
  have c21_9 := cell_later hB2 c11_9
  have c21_10 := cell_later hB2 c11_10
  have c21_11 := cell_later hB2 c11_11
  have c22_5 := cell_later hB2 c12_5
  have c22_6 := cell_later hB2 c12_6
  have c22_7 := cell_later hB2 c12_7
  have c22_8 := cell_later hB2 c12_8
  have c22_9 := cell_later hB2 c12_9
  have c22_10 := cell_later hB2 c12_10
  have c22_11 := cell_later hB2 c12_11
  replace hA := bstep hA hB2
  clear c11_3 c11_4 c11_5 c11_6 c11_7 c11_8 c11_9 c11_10 c11_11 c12_3 c12_4 c12_5 c12_6 c12_7 c12_8 c12_9 c12_10 c12_11
  clear hB2
  go_wp2_with fail
  refine (eqId_true _ o.parN o.parR).mono ?_
  rintro e w3 ⟨rfl, hB3⟩
  have c31_7 := cell_later hB3 c21_7
  have c31_8 := cell_later hB3 c21_8
  have c31_9 := cell_later hB3 c21_9
  have c31_10 := cell_later hB3 c21_10
  have c31_11 := cell_later hB3 c21_11
  have c32_7 := cell_later hB3 c22_7
  have c32_8 := cell_later hB3 c22_8
  have c32_9 := cell_later hB3 c22_9
  have c32_10 := cell_later hB3 c22_10
  have c32_11 := cell_later hB3 c22_11
  replace hA := bstep hA hB3
  clear c21_5 c21_6 c21_7 c21_8 c21_9 c21_10 c21_11 c22_5 c22_6 c22_7 c22_8 c22_9 c22_10 c22_11
  clear hB3
  go_wp2_with fail
  refine (eqZ4_true _ _ _ o.key ((unhide H).1.keep hA) ((unhide H).2.2.2.1.keep hA)).mono ?_
  rintro e w4 ⟨rfl, hB4⟩
  have c41_8 := cell_later hB4 c31_8
  have c41_9 := cell_later hB4 c31_9
  have c41_10 := cell_later hB4 c31_10
  have c41_11 := cell_later hB4 c31_11
  have c42_8 := cell_later hB4 c32_8
  have c42_9 := cell_later hB4 c32_9
  have c42_10 := cell_later hB4 c32_10
  have c42_11 := cell_later hB4 c32_11
  replace hA := bstep hA hB4
  clear c31_7 c31_8 c31_9 c31_10 c31_11 c32_7 c32_8 c32_9 c32_10 c32_11
  clear hB4
  go_wp2_with fail
  refine (eqB4_true _ _ _ o.name ((unhide H).2.1.keep hA) ((unhide H).2.2.2.2.1.keep hA)).mono ?_
  rintro e w5 ⟨rfl, hB5⟩
  have c51_10 := cell_later hB5 c41_10
  have c51_11 := cell_later hB5 c41_11
  have c52_10 := cell_later hB5 c42_10
  have c52_11 := cell_later hB5 c42_11
  replace hA := bstep hA hB5
  clear c41_8 c41_9 c41_10 c41_11 c42_8 c42_9 c42_10 c42_11
  clear hB5
  go_wp2_with fail
  refine (eqB4_true _ _ _ o.text ((unhide H).2.2.1.keep hA) ((unhide H).2.2.2.2.2.keep hA)).mono ?_
  rintro e w6 ⟨rfl, hB6⟩
  have c61_11 := cell_later hB6 c51_11
  have c62_11 := cell_later hB6 c52_11
  replace hA := bstep hA hB6
  clear c51_10 c51_11 c52_10 c52_11
  clear hB6
  go_wp2_with fail
  go_ret
  exact ⟨rfl, hA⟩

end Go.Proofs.Ytcabolcfoijglaa

/- laws.toOp: the copy reads the same, in blocks of its own. -/
namespace Go.Proofs.Ytcabolcfoijglaa
open Go.RowKit
set_option linter.unusedVariables false
set_option maxRecDepth 100000

theorem OwnZ.frm {w w' : World} {base : Nat} {v : Value} {l : List Int} {S : List Nat} (h : OwnZ w base v l) (f : Frm w w' S) (hd : ∀ g ∈ FB v, g ∉ S) : OwnZ w' base v l := ⟨h.1, ownsRow_frm h.2 f hd⟩
theorem OwnZ.rng {w : World} {base : Nat} {v : Value} {l : List Int} (h : OwnZ w base v l) : Rng (FB v) base w.heap.size := fun g hg => h.lt g (by simpa [FB] using hg)
theorem Loc.be {w : World} {g : Nat} {cs ds : Array Value} {T : TypeId} (h : Loc w g cs T) (e : cs = ds) : Loc w g ds T := e ▸ h

set_option maxHeartbeats 6400000 in
theorem toOp_any (w : World) (v : Value) (o : OpV) (h : RdOp w v o) (hs : o.key.length + o.name.length + o.text.length ≤ 2097152) :
    Calls Try.prog 63 #[v] w fun e w' => ∃ k n t, e = .returned (opVal o k n t) ∧ OwnZ w' w.heap.size k o.key ∧ Own w' w.heap.size n o.name ∧ Own w' w.heap.size t o.text ∧ (FB k ++ FB n ++ FB t).Nodup ∧ Below w.heap.size w w' := by
  obtain ⟨k, n, t, rfl, hk, hn, ht⟩ := h
  obtain ⟨pk, ck, rfl, _, _⟩ := hk.shape
  obtain ⟨pn, cn, rfl, _, _⟩ := hn.shape
  obtain ⟨pt, ct, rfl, _, _⟩ := ht.shape
  have H := hide (And.intro hk (And.intro hn ht))
  clear hk hn ht
  have HS := hide hs
  clear hs
  unfold opVal
  have l0 := (((Loc.made w #[.int .i64 o.kind, .int .i64 o.atN, .int .i64 o.atR, .int .i64 o.nodeN, .int .i64 o.nodeR, .int .i64 o.parN, .int .i64 o.parR, .slice pk o.key.length ck, .int .i64 o.elem, .slice pn o.name.length cn, .slice pt o.text.length ct, .bool o.gone] 82).alloc (.cells #[.int .i64 0, .int .i64 0, .int .i64 0, .int .i64 0, .int .i64 0, .int .i64 0, .int .i64 0, .slice none 0 0, .int .i64 0, .slice none 0 0, .slice none 0 0, .bool false] 27)).alloc (.cells #[.int .i64 o.kind, .int .i64 0, .int .i64 0, .int .i64 0, .int .i64 0, .int .i64 0, .int .i64 0, .slice none 0 0, .int .i64 0, .slice none 0 0, .slice none 0 0, .bool false] 27))
  have l1 := (Loc.made (w.alloc (.cells #[.int .i64 o.kind, .int .i64 o.atN, .int .i64 o.atR, .int .i64 o.nodeN, .int .i64 o.nodeR, .int .i64 o.parN, .int .i64 o.parR, .slice pk o.key.length ck, .int .i64 o.elem, .slice pn o.name.length cn, .slice pt o.text.length ct, .bool o.gone] 82)) #[.int .i64 0, .int .i64 0, .int .i64 0, .int .i64 0, .int .i64 0, .int .i64 0, .int .i64 0, .slice none 0 0, .int .i64 0, .slice none 0 0, .slice none 0 0, .bool false] 27).alloc (.cells #[.int .i64 o.kind, .int .i64 0, .int .i64 0, .int .i64 0, .int .i64 0, .int .i64 0, .int .i64 0, .slice none 0 0, .int .i64 0, .slice none 0 0, .slice none 0 0, .bool false] 27)
  have l2 := Loc.made ((w.alloc (.cells #[.int .i64 o.kind, .int .i64 o.atN, .int .i64 o.atR, .int .i64 o.nodeN, .int .i64 o.nodeR, .int .i64 o.parN, .int .i64 o.parR, .slice pk o.key.length ck, .int .i64 o.elem, .slice pn o.name.length cn, .slice pt o.text.length ct, .bool o.gone] 82)).alloc (.cells #[.int .i64 0, .int .i64 0, .int .i64 0, .int .i64 0, .int .i64 0, .int .i64 0, .int .i64 0, .slice none 0 0, .int .i64 0, .slice none 0 0, .slice none 0 0, .bool false] 27)) #[.int .i64 o.kind, .int .i64 0, .int .i64 0, .int .i64 0, .int .i64 0, .int .i64 0, .int .i64 0, .slice none 0 0, .int .i64 0, .slice none 0 0, .slice none 0 0, .bool false] 27
  have hA : Below w.heap.size w (((w.alloc (.cells #[.int .i64 o.kind, .int .i64 o.atN, .int .i64 o.atR, .int .i64 o.nodeN, .int .i64 o.nodeR, .int .i64 o.parN, .int .i64 o.parR, .slice pk o.key.length ck, .int .i64 o.elem, .slice pn o.name.length cn, .slice pt o.text.length ct, .bool o.gone] 82)).alloc (.cells #[.int .i64 0, .int .i64 0, .int .i64 0, .int .i64 0, .int .i64 0, .int .i64 0, .int .i64 0, .slice none 0 0, .int .i64 0, .slice none 0 0, .slice none 0 0, .bool false] 27)).alloc (.cells #[.int .i64 o.kind, .int .i64 0, .int .i64 0, .int .i64 0, .int .i64 0, .int .i64 0, .int .i64 0, .slice none 0 0, .int .i64 0, .slice none 0 0, .slice none 0 0, .bool false] 27)) := (((Below.refl _ _).alloc (Nat.le_refl _) _).alloc (by simp) _).alloc (by simp; omega) _
  simp only [World.size_alloc] at l1 l2
  have L := hide (And.intro l0 (And.intro l1 (And.intro l2 hA)))
  clear l0 l1 l2 hA
  go_enter Try.func63, Try.ntmps63
  go_wp2_with fail
  obtain ⟨l0, l1, l2, hA⟩ := unhide L
  clear L
  generalize (((w.alloc (.cells #[.int .i64 o.kind, .int .i64 o.atN, .int .i64 o.atR, .int .i64 o.nodeN, .int .i64 o.nodeR, .int .i64 o.parN, .int .i64 o.parR, .slice pk o.key.length ck, .int .i64 o.elem, .slice pn o.name.length cn, .slice pt o.text.length ct, .bool o.gone] 82)).alloc (.cells #[.int .i64 0, .int .i64 0, .int .i64 0, .int .i64 0, .int .i64 0, .int .i64 0, .int .i64 0, .slice none 0 0, .int .i64 0, .slice none 0 0, .slice none 0 0, .bool false] 27)).alloc (.cells #[.int .i64 o.kind, .int .i64 0, .int .i64 0, .int .i64 0, .int .i64 0, .int .i64 0, .int .i64 0, .slice none 0 0, .int .i64 0, .slice none 0 0, .slice none 0 0, .bool false] 27)) = W at *
  refine (toId_any _ o.atN o.atR).mono ?_
  rintro e w1 ⟨rfl, hB⟩
  replace l0 := l0.all hB
  replace l1 := l1.all hB
  replace l2 := l2.all hB
  replace hA := bstep hA hB
  clear hB
  have e0_3 := l0.cell 3
  have e0_4 := l0.cell 4
  have e2_1 := l2.cell 1
  have f2_1 := l2.frozen 1
  have e2_2 := l2.cell 2
  have f2_2 := l2.frozen 2
  simp at e0_3 e0_4 e2_1 e2_2
  have m0 : Loc ((w1.setCell ⟨w.heap.size + 1 + 1, 1, none⟩ (.int .i64 o.atN)).setCell ⟨w.heap.size + 1 + 1, 2, none⟩ (.int .i64 o.atR)) w.heap.size #[.int .i64 o.kind, .int .i64 o.atN, .int .i64 o.atR, .int .i64 o.nodeN, .int .i64 o.nodeR, .int .i64 o.parN, .int .i64 o.parR, .slice pk o.key.length ck, .int .i64 o.elem, .slice pn o.name.length cn, .slice pt o.text.length ct, .bool o.gone] 82 := ((l0.other _ _ _ (by omega)).other _ _ _ (by omega))
  have m1 : Loc ((w1.setCell ⟨w.heap.size + 1 + 1, 1, none⟩ (.int .i64 o.atN)).setCell ⟨w.heap.size + 1 + 1, 2, none⟩ (.int .i64 o.atR)) (w.heap.size + 1) #[.int .i64 0, .int .i64 0, .int .i64 0, .int .i64 0, .int .i64 0, .int .i64 0, .int .i64 0, .slice none 0 0, .int .i64 0, .slice none 0 0, .slice none 0 0, .bool false] 27 := ((l1.other _ _ _ (by omega)).other _ _ _ (by omega))
  have m2 : Loc ((w1.setCell ⟨w.heap.size + 1 + 1, 1, none⟩ (.int .i64 o.atN)).setCell ⟨w.heap.size + 1 + 1, 2, none⟩ (.int .i64 o.atR)) (w.heap.size + 1 + 1) #[.int .i64 o.kind, .int .i64 o.atN, .int .i64 o.atR, .int .i64 0, .int .i64 0, .int .i64 0, .int .i64 0, .slice none 0 0, .int .i64 0, .slice none 0 0, .slice none 0 0, .bool false] 27 := ((l2.set 1 (.int .i64 o.atN)).set 2 (.int .i64 o.atR)).be (by simp)
  have hf : Frm w1 ((w1.setCell ⟨w.heap.size + 1 + 1, 1, none⟩ (.int .i64 o.atN)).setCell ⟨w.heap.size + 1 + 1, 2, none⟩ (.int .i64 o.atR)) [w.heap.size + 1 + 1] := ((set_frm _ _ _ _).trans (set_frm _ _ _ _))
  have hA2 : Below w.heap.size w ((w1.setCell ⟨w.heap.size + 1 + 1, 1, none⟩ (.int .i64 o.atN)).setCell ⟨w.heap.size + 1 + 1, 2, none⟩ (.int .i64 o.atR)) := hA.trans (hf.below hA.size (fun g hg => by simp at hg; omega))
  have L := hide (And.intro m0 (And.intro m1 (And.intro m2 hA2)))
  clear m0 m1 m2 hf hA2 l0 l1 l2 hA
  go_wp2_with fail
  obtain ⟨l0, l1, l2, hA⟩ := unhide L
  clear L
  clear e0_3 e0_4 e2_1 f2_1 e2_2 f2_2
  refine (toId_any _ o.nodeN o.nodeR).mono ?_
  rintro e w2 ⟨rfl, hB⟩
  replace l0 := l0.all hB
  replace l1 := l1.all hB
  replace l2 := l2.all hB
  replace hA := bstep hA hB
  clear hB
  have e0_5 := l0.cell 5
  have e0_6 := l0.cell 6
  have e2_3 := l2.cell 3
  have f2_3 := l2.frozen 3
  have e2_4 := l2.cell 4
  have f2_4 := l2.frozen 4
  simp at e0_5 e0_6 e2_3 e2_4
  have m0 : Loc ((w2.setCell ⟨w.heap.size + 1 + 1, 3, none⟩ (.int .i64 o.nodeN)).setCell ⟨w.heap.size + 1 + 1, 4, none⟩ (.int .i64 o.nodeR)) w.heap.size #[.int .i64 o.kind, .int .i64 o.atN, .int .i64 o.atR, .int .i64 o.nodeN, .int .i64 o.nodeR, .int .i64 o.parN, .int .i64 o.parR, .slice pk o.key.length ck, .int .i64 o.elem, .slice pn o.name.length cn, .slice pt o.text.length ct, .bool o.gone] 82 := ((l0.other _ _ _ (by omega)).other _ _ _ (by omega))
  have m1 : Loc ((w2.setCell ⟨w.heap.size + 1 + 1, 3, none⟩ (.int .i64 o.nodeN)).setCell ⟨w.heap.size + 1 + 1, 4, none⟩ (.int .i64 o.nodeR)) (w.heap.size + 1) #[.int .i64 0, .int .i64 0, .int .i64 0, .int .i64 0, .int .i64 0, .int .i64 0, .int .i64 0, .slice none 0 0, .int .i64 0, .slice none 0 0, .slice none 0 0, .bool false] 27 := ((l1.other _ _ _ (by omega)).other _ _ _ (by omega))
  have m2 : Loc ((w2.setCell ⟨w.heap.size + 1 + 1, 3, none⟩ (.int .i64 o.nodeN)).setCell ⟨w.heap.size + 1 + 1, 4, none⟩ (.int .i64 o.nodeR)) (w.heap.size + 1 + 1) #[.int .i64 o.kind, .int .i64 o.atN, .int .i64 o.atR, .int .i64 o.nodeN, .int .i64 o.nodeR, .int .i64 0, .int .i64 0, .slice none 0 0, .int .i64 0, .slice none 0 0, .slice none 0 0, .bool false] 27 := ((l2.set 3 (.int .i64 o.nodeN)).set 4 (.int .i64 o.nodeR)).be (by simp)
  have hf : Frm w2 ((w2.setCell ⟨w.heap.size + 1 + 1, 3, none⟩ (.int .i64 o.nodeN)).setCell ⟨w.heap.size + 1 + 1, 4, none⟩ (.int .i64 o.nodeR)) [w.heap.size + 1 + 1] := ((set_frm _ _ _ _).trans (set_frm _ _ _ _))
  have hA2 : Below w.heap.size w ((w2.setCell ⟨w.heap.size + 1 + 1, 3, none⟩ (.int .i64 o.nodeN)).setCell ⟨w.heap.size + 1 + 1, 4, none⟩ (.int .i64 o.nodeR)) := hA.trans (hf.below hA.size (fun g hg => by simp at hg; omega))
  have L := hide (And.intro m0 (And.intro m1 (And.intro m2 hA2)))
  clear m0 m1 m2 hf hA2 l0 l1 l2 hA
  go_wp2_with fail
  obtain ⟨l0, l1, l2, hA⟩ := unhide L
  clear L
  clear e0_5 e0_6 e2_3 f2_3 e2_4 f2_4
  refine (toId_any _ o.parN o.parR).mono ?_
  rintro e w3 ⟨rfl, hB⟩
  replace l0 := l0.all hB
  replace l1 := l1.all hB
  replace l2 := l2.all hB
  replace hA := bstep hA hB
  clear hB
  have e0_7 := l0.cell 7
  have e2_5 := l2.cell 5
  have f2_5 := l2.frozen 5
  have e2_6 := l2.cell 6
  have f2_6 := l2.frozen 6
  simp at e0_7 e2_5 e2_6
  have m0 : Loc ((w3.setCell ⟨w.heap.size + 1 + 1, 5, none⟩ (.int .i64 o.parN)).setCell ⟨w.heap.size + 1 + 1, 6, none⟩ (.int .i64 o.parR)) w.heap.size #[.int .i64 o.kind, .int .i64 o.atN, .int .i64 o.atR, .int .i64 o.nodeN, .int .i64 o.nodeR, .int .i64 o.parN, .int .i64 o.parR, .slice pk o.key.length ck, .int .i64 o.elem, .slice pn o.name.length cn, .slice pt o.text.length ct, .bool o.gone] 82 := ((l0.other _ _ _ (by omega)).other _ _ _ (by omega))
  have m1 : Loc ((w3.setCell ⟨w.heap.size + 1 + 1, 5, none⟩ (.int .i64 o.parN)).setCell ⟨w.heap.size + 1 + 1, 6, none⟩ (.int .i64 o.parR)) (w.heap.size + 1) #[.int .i64 0, .int .i64 0, .int .i64 0, .int .i64 0, .int .i64 0, .int .i64 0, .int .i64 0, .slice none 0 0, .int .i64 0, .slice none 0 0, .slice none 0 0, .bool false] 27 := ((l1.other _ _ _ (by omega)).other _ _ _ (by omega))
  have m2 : Loc ((w3.setCell ⟨w.heap.size + 1 + 1, 5, none⟩ (.int .i64 o.parN)).setCell ⟨w.heap.size + 1 + 1, 6, none⟩ (.int .i64 o.parR)) (w.heap.size + 1 + 1) #[.int .i64 o.kind, .int .i64 o.atN, .int .i64 o.atR, .int .i64 o.nodeN, .int .i64 o.nodeR, .int .i64 o.parN, .int .i64 o.parR, .slice none 0 0, .int .i64 0, .slice none 0 0, .slice none 0 0, .bool false] 27 := ((l2.set 5 (.int .i64 o.parN)).set 6 (.int .i64 o.parR)).be (by simp)
  have hf : Frm w3 ((w3.setCell ⟨w.heap.size + 1 + 1, 5, none⟩ (.int .i64 o.parN)).setCell ⟨w.heap.size + 1 + 1, 6, none⟩ (.int .i64 o.parR)) [w.heap.size + 1 + 1] := ((set_frm _ _ _ _).trans (set_frm _ _ _ _))
  have hA2 : Below w.heap.size w ((w3.setCell ⟨w.heap.size + 1 + 1, 5, none⟩ (.int .i64 o.parN)).setCell ⟨w.heap.size + 1 + 1, 6, none⟩ (.int .i64 o.parR)) := hA.trans (hf.below hA.size (fun g hg => by simp at hg; omega))
  have L := hide (And.intro m0 (And.intro m1 (And.intro m2 hA2)))
  clear m0 m1 m2 hf hA2 l0 l1 l2 hA
  go_wp2_with fail
  obtain ⟨l0, l1, l2, hA⟩ := unhide L
  clear L
  clear e0_7 e2_5 f2_5 e2_6 f2_6
  have zk := l2.lt
  refine (toZ_any _ _ o.key ((unhide H).1.keep hA) (by have := unhide HS; omega)).mono ?_
  rintro e w4 ⟨vk, rfl, ok, _, hB⟩
  obtain ⟨ak, dk, hvk, _, _⟩ := ok.ints.shape
  subst hvk
  have rk := ok.rng
  have sk := hB.size
  replace l0 := l0.all hB
  replace l1 := l1.all hB
  replace l2 := l2.all hB
  replace hA := bstep hA hB
  clear hB
  have e0_8 := l0.cell 8
  have e0_9 := l0.cell 9
  have e2_7 := l2.cell 7
  have f2_7 := l2.frozen 7
  have e2_8 := l2.cell 8
  have f2_8 := l2.frozen 8
  simp at e0_8 e0_9 e2_7 e2_8
  have m0 : Loc ((w4.setCell ⟨w.heap.size + 1 + 1, 7, none⟩ (.slice ak o.key.length dk)).setCell ⟨w.heap.size + 1 + 1, 8, none⟩ (.int .i64 o.elem)) w.heap.size #[.int .i64 o.kind, .int .i64 o.atN, .int .i64 o.atR, .int .i64 o.nodeN, .int .i64 o.nodeR, .int .i64 o.parN, .int .i64 o.parR, .slice pk o.key.length ck, .int .i64 o.elem, .slice pn o.name.length cn, .slice pt o.text.length ct, .bool o.gone] 82 := ((l0.other _ _ _ (by omega)).other _ _ _ (by omega))
  have m1 : Loc ((w4.setCell ⟨w.heap.size + 1 + 1, 7, none⟩ (.slice ak o.key.length dk)).setCell ⟨w.heap.size + 1 + 1, 8, none⟩ (.int .i64 o.elem)) (w.heap.size + 1) #[.int .i64 0, .int .i64 0, .int .i64 0, .int .i64 0, .int .i64 0, .int .i64 0, .int .i64 0, .slice none 0 0, .int .i64 0, .slice none 0 0, .slice none 0 0, .bool false] 27 := ((l1.other _ _ _ (by omega)).other _ _ _ (by omega))
  have m2 : Loc ((w4.setCell ⟨w.heap.size + 1 + 1, 7, none⟩ (.slice ak o.key.length dk)).setCell ⟨w.heap.size + 1 + 1, 8, none⟩ (.int .i64 o.elem)) (w.heap.size + 1 + 1) #[.int .i64 o.kind, .int .i64 o.atN, .int .i64 o.atR, .int .i64 o.nodeN, .int .i64 o.nodeR, .int .i64 o.parN, .int .i64 o.parR, .slice ak o.key.length dk, .int .i64 o.elem, .slice none 0 0, .slice none 0 0, .bool false] 27 := ((l2.set 7 (.slice ak o.key.length dk)).set 8 (.int .i64 o.elem)).be (by simp)
  have hf : Frm w4 ((w4.setCell ⟨w.heap.size + 1 + 1, 7, none⟩ (.slice ak o.key.length dk)).setCell ⟨w.heap.size + 1 + 1, 8, none⟩ (.int .i64 o.elem)) [w.heap.size + 1 + 1] := ((set_frm _ _ _ _).trans (set_frm _ _ _ _))
  have hA2 : Below w.heap.size w ((w4.setCell ⟨w.heap.size + 1 + 1, 7, none⟩ (.slice ak o.key.length dk)).setCell ⟨w.heap.size + 1 + 1, 8, none⟩ (.int .i64 o.elem)) := hA.trans (hf.below hA.size (fun g hg => by simp at hg; omega))
  have qk := ok.frm hf (fun g hg => by have := rk g hg; simp; omega)
  have L := hide (And.intro qk (And.intro m0 (And.intro m1 (And.intro m2 hA2))))
  clear m0 m1 m2 hf hA2 l0 l1 l2 hA qk ok
  go_wp2_with fail
  obtain ⟨ok, l0, l1, l2, hA⟩ := unhide L
  clear L
  clear e0_8 e0_9 e2_7 f2_7 e2_8 f2_8
  have zn := l2.lt
  refine (toB_any _ _ o.name ((unhide H).2.1.keep hA) (by have := unhide HS; omega)).mono ?_
  rintro e w5 ⟨vn, rfl, on, _, hB⟩
  obtain ⟨an, dn, hvn, _, _⟩ := on.byt.shape
  subst hvn
  have rn := on.rng
  replace ok := ok.keep hB
  have sn := hB.size
  replace l0 := l0.all hB
  replace l1 := l1.all hB
  replace l2 := l2.all hB
  replace hA := bstep hA hB
  clear hB
  have e0_10 := l0.cell 10
  have e2_9 := l2.cell 9
  have f2_9 := l2.frozen 9
  simp at e0_10 e2_9
  have m0 : Loc (w5.setCell ⟨w.heap.size + 1 + 1, 9, none⟩ (.slice an o.name.length dn)) w.heap.size #[.int .i64 o.kind, .int .i64 o.atN, .int .i64 o.atR, .int .i64 o.nodeN, .int .i64 o.nodeR, .int .i64 o.parN, .int .i64 o.parR, .slice pk o.key.length ck, .int .i64 o.elem, .slice pn o.name.length cn, .slice pt o.text.length ct, .bool o.gone] 82 := (l0.other _ _ _ (by omega))
  have m1 : Loc (w5.setCell ⟨w.heap.size + 1 + 1, 9, none⟩ (.slice an o.name.length dn)) (w.heap.size + 1) #[.int .i64 0, .int .i64 0, .int .i64 0, .int .i64 0, .int .i64 0, .int .i64 0, .int .i64 0, .slice none 0 0, .int .i64 0, .slice none 0 0, .slice none 0 0, .bool false] 27 := (l1.other _ _ _ (by omega))
  have m2 : Loc (w5.setCell ⟨w.heap.size + 1 + 1, 9, none⟩ (.slice an o.name.length dn)) (w.heap.size + 1 + 1) #[.int .i64 o.kind, .int .i64 o.atN, .int .i64 o.atR, .int .i64 o.nodeN, .int .i64 o.nodeR, .int .i64 o.parN, .int .i64 o.parR, .slice ak o.key.length dk, .int .i64 o.elem, .slice an o.name.length dn, .slice none 0 0, .bool false] 27 := (l2.set 9 (.slice an o.name.length dn)).be (by simp)
  have hf : Frm w5 (w5.setCell ⟨w.heap.size + 1 + 1, 9, none⟩ (.slice an o.name.length dn)) [w.heap.size + 1 + 1] := (set_frm _ _ _ _)
  have hA2 : Below w.heap.size w (w5.setCell ⟨w.heap.size + 1 + 1, 9, none⟩ (.slice an o.name.length dn)) := hA.trans (hf.below hA.size (fun g hg => by simp at hg; omega))
  have qk := ok.frm hf (fun g hg => by have := rk g hg; simp; omega)
  have qn := on.frm hf (fun g hg => by have := rn g hg; simp; omega)
  have L := hide (And.intro qn (And.intro qk (And.intro m0 (And.intro m1 (And.intro m2 hA2)))))
  clear m0 m1 m2 hf hA2 l0 l1 l2 hA qk ok qn on
  go_wp2_with fail
  obtain ⟨on, ok, l0, l1, l2, hA⟩ := unhide L
  clear L
  clear e0_10 e2_9 f2_9
  have zt := l2.lt
  refine (toB_any _ _ o.text ((unhide H).2.2.keep hA) (by have := unhide HS; omega)).mono ?_
  rintro e w6 ⟨vt, rfl, ot, _, hB⟩
  obtain ⟨at1, dt, hvt, _, _⟩ := ot.byt.shape
  subst hvt
  have rt := ot.rng
  replace ok := ok.keep hB
  replace on := on.keep hB
  have st := hB.size
  replace l0 := l0.all hB
  replace l1 := l1.all hB
  replace l2 := l2.all hB
  replace hA := bstep hA hB
  clear hB
  have e0_11 := l0.cell 11
  have e2_10 := l2.cell 10
  have f2_10 := l2.frozen 10
  have e2_11 := l2.cell 11
  have f2_11 := l2.frozen 11
  simp at e0_11 e2_10 e2_11
  have e2_0 := l2.cell 0
  have e2_1 := l2.cell 1
  have e2_2 := l2.cell 2
  have e2_3 := l2.cell 3
  have e2_4 := l2.cell 4
  have e2_5 := l2.cell 5
  have e2_6 := l2.cell 6
  have e2_7 := l2.cell 7
  have e2_8 := l2.cell 8
  have e2_9 := l2.cell 9
  have e1_0 := l1.cell 0
  have f1_0 := l1.frozen 0
  have e1_1 := l1.cell 1
  have f1_1 := l1.frozen 1
  have e1_2 := l1.cell 2
  have f1_2 := l1.frozen 2
  have e1_3 := l1.cell 3
  have f1_3 := l1.frozen 3
  have e1_4 := l1.cell 4
  have f1_4 := l1.frozen 4
  have e1_5 := l1.cell 5
  have f1_5 := l1.frozen 5
  have e1_6 := l1.cell 6
  have f1_6 := l1.frozen 6
  have e1_7 := l1.cell 7
  have f1_7 := l1.frozen 7
  have e1_8 := l1.cell 8
  have f1_8 := l1.frozen 8
  have e1_9 := l1.cell 9
  have f1_9 := l1.frozen 9
  have e1_10 := l1.cell 10
  have f1_10 := l1.frozen 10
  have e1_11 := l1.cell 11
  have f1_11 := l1.frozen 11
  simp at e2_0 e2_1 e2_2 e2_3 e2_4 e2_5 e2_6 e2_7 e2_8 e2_9 e1_0 e1_1 e1_2 e1_3 e1_4 e1_5 e1_6 e1_7 e1_8 e1_9 e1_10 e1_11
  have hf : Frm w6 ((((((((((((((w6.setCell ⟨w.heap.size + 1 + 1, 10, none⟩ (.slice at1 o.text.length dt)).setCell ⟨w.heap.size + 1 + 1, 11, none⟩ (.bool o.gone)).setCell ⟨w.heap.size + 1, 0, none⟩ (.int .i64 o.kind)).setCell ⟨w.heap.size + 1, 1, none⟩ (.int .i64 o.atN)).setCell ⟨w.heap.size + 1, 2, none⟩ (.int .i64 o.atR)).setCell ⟨w.heap.size + 1, 3, none⟩ (.int .i64 o.nodeN)).setCell ⟨w.heap.size + 1, 4, none⟩ (.int .i64 o.nodeR)).setCell ⟨w.heap.size + 1, 5, none⟩ (.int .i64 o.parN)).setCell ⟨w.heap.size + 1, 6, none⟩ (.int .i64 o.parR)).setCell ⟨w.heap.size + 1, 7, none⟩ (.slice ak o.key.length dk)).setCell ⟨w.heap.size + 1, 8, none⟩ (.int .i64 o.elem)).setCell ⟨w.heap.size + 1, 9, none⟩ (.slice an o.name.length dn)).setCell ⟨w.heap.size + 1, 10, none⟩ (.slice at1 o.text.length dt)).setCell ⟨w.heap.size + 1, 11, none⟩ (.bool o.gone)) [w.heap.size + 1 + 1, w.heap.size + 1] := (((((((((((((((set_frm _ _ _ _).mono (by simp)).trans ((set_frm _ _ _ _).mono (by simp))).trans ((set_frm _ _ _ _).mono (by simp))).trans ((set_frm _ _ _ _).mono (by simp))).trans ((set_frm _ _ _ _).mono (by simp))).trans ((set_frm _ _ _ _).mono (by simp))).trans ((set_frm _ _ _ _).mono (by simp))).trans ((set_frm _ _ _ _).mono (by simp))).trans ((set_frm _ _ _ _).mono (by simp))).trans ((set_frm _ _ _ _).mono (by simp))).trans ((set_frm _ _ _ _).mono (by simp))).trans ((set_frm _ _ _ _).mono (by simp))).trans ((set_frm _ _ _ _).mono (by simp))).trans ((set_frm _ _ _ _).mono (by simp)))
  have hA2 : Below w.heap.size w ((((((((((((((w6.setCell ⟨w.heap.size + 1 + 1, 10, none⟩ (.slice at1 o.text.length dt)).setCell ⟨w.heap.size + 1 + 1, 11, none⟩ (.bool o.gone)).setCell ⟨w.heap.size + 1, 0, none⟩ (.int .i64 o.kind)).setCell ⟨w.heap.size + 1, 1, none⟩ (.int .i64 o.atN)).setCell ⟨w.heap.size + 1, 2, none⟩ (.int .i64 o.atR)).setCell ⟨w.heap.size + 1, 3, none⟩ (.int .i64 o.nodeN)).setCell ⟨w.heap.size + 1, 4, none⟩ (.int .i64 o.nodeR)).setCell ⟨w.heap.size + 1, 5, none⟩ (.int .i64 o.parN)).setCell ⟨w.heap.size + 1, 6, none⟩ (.int .i64 o.parR)).setCell ⟨w.heap.size + 1, 7, none⟩ (.slice ak o.key.length dk)).setCell ⟨w.heap.size + 1, 8, none⟩ (.int .i64 o.elem)).setCell ⟨w.heap.size + 1, 9, none⟩ (.slice an o.name.length dn)).setCell ⟨w.heap.size + 1, 10, none⟩ (.slice at1 o.text.length dt)).setCell ⟨w.heap.size + 1, 11, none⟩ (.bool o.gone)) := hA.trans (hf.below hA.size (fun g hg => by simp at hg; omega))
  have qk := (ok.frm hf (fun g hg => by have := rk g hg; simp; omega)).mono (show w.heap.size ≤ _ by omega)
  have qn := (on.frm hf (fun g hg => by have := rn g hg; simp; omega)).mono (show w.heap.size ≤ _ by omega)
  have qt := (ot.frm hf (fun g hg => by have := rt g hg; simp; omega)).mono (show w.heap.size ≤ _ by omega)
  have hnd : (FB (.slice ak o.key.length dk) ++ FB (.slice an o.name.length dn) ++ FB (.slice at1 o.text.length dt)).Nodup := by
    simp at sn st zn zt
    refine nodup_app (lo := 0) (nodup_app (FB_nodup _) (FB_nodup _) rk (rn.mono (by simp) (Nat.le_refl _))) (FB_nodup _) ((rk.mono (Nat.zero_le _) (by omega)).app (rn.mono (Nat.zero_le _) (Nat.le_refl _))) (rt.mono (by simp) (Nat.le_refl _))
  have L := hide (And.intro qk (And.intro qn (And.intro qt (And.intro hnd hA2))))
  clear qk qn qt hnd hA2 hf l0 l1 l2 hA ok on ot rk rn rt H
  go_wp2_with fail
  obtain ⟨qk, qn, qt, hnd, hA2⟩ := unhide L
  exact bodyPost_ret (v := opVal o (.slice ak o.key.length dk) (.slice an o.name.length dn) (.slice at1 o.text.length dt)) (by simp [results, Try.results63, go_sem, opVal, e1_0, e1_1, e1_2, e1_3, e1_4, e1_5, e1_6, e1_7, e1_8, e1_9, e1_10, e1_11]) rfl ⟨_, _, _, rfl, qk, qn, qt, hnd, hA2⟩

end Go.Proofs.Ytcabolcfoijglaa

/- Operations in blocks of their own. -/
namespace Go.Proofs.Ytcabolcfoijglaa
open Go.RowKit
set_option linter.unusedVariables false
set_option maxRecDepth 100000

theorem Loc.twelve {w : World} {g : Nat} {v0 v1 v2 v3 v4 v5 v6 v7 v8 v9 v10 v11 : Value} {T : TypeId} (h : Loc w g #[v0, v1, v2, v3, v4, v5, v6, v7, v8, v9, v10, v11] T) :
    w.cell? ⟨g, 0, none⟩ = some v0 ∧ w.cell? ⟨g, 1, none⟩ = some v1 ∧ w.cell? ⟨g, 2, none⟩ = some v2 ∧ w.cell? ⟨g, 3, none⟩ = some v3 ∧ w.cell? ⟨g, 4, none⟩ = some v4 ∧ w.cell? ⟨g, 5, none⟩ = some v5 ∧ w.cell? ⟨g, 6, none⟩ = some v6 ∧ w.cell? ⟨g, 7, none⟩ = some v7 ∧ w.cell? ⟨g, 8, none⟩ = some v8 ∧ w.cell? ⟨g, 9, none⟩ = some v9 ∧ w.cell? ⟨g, 10, none⟩ = some v10 ∧ w.cell? ⟨g, 11, none⟩ = some v11 :=
  ⟨h.cell 0, h.cell 1, h.cell 2, h.cell 3, h.cell 4, h.cell 5, h.cell 6, h.cell 7, h.cell 8, h.cell 9, h.cell 10, h.cell 11⟩

theorem RdOp.keep {w w' : World} {v : Value} {o : OpV} (h : RdOp w v o) (hb : Below w.heap.size w w') : RdOp w' v o := by
  obtain ⟨k, n, t, rfl, h1, h2, h3⟩ := h
  exact ⟨k, n, t, rfl, h1.keep hb, h2.keep hb, h3.keep hb⟩
/-- An operation in blocks of its own, from 'base' on. -/
def OwOp (w : World) (base : Nat) (o : OpV) (k n t : Value) : Prop := OwnZ w base k o.key ∧ Own w base n o.name ∧ Own w base t o.text ∧ (FB k ++ FB n ++ FB t).Nodup
theorem OwOp.keep {w w' : World} {base : Nat} {o : OpV} {k n t : Value} (h : OwOp w base o k n t) (hb : Below w.heap.size w w') : OwOp w' base o k n t := ⟨h.1.keep hb, h.2.1.keep hb, h.2.2.1.keep hb, h.2.2.2⟩
theorem OwOp.rd {w : World} {base : Nat} {o : OpV} {k n t : Value} (h : OwOp w base o k n t) : RdOp w (opVal o k n t) o := ⟨k, n, t, rfl, h.1.ints, h.2.1.byt, h.2.2.1.byt⟩

/-- What the law asks of impl's OpOk. -/
def OpISaid : Prop := ∀ (w : World) (o : OpV) (base : Nat) (k n t : Value), OwOp w base o k n t → o.key.length + o.name.length + o.text.length ≤ 2097152 →
    Calls Try.prog 9 #[opVal o k n t] w fun e w' => e = .returned (.bool (opB o)) ∧ Below w.heap.size w w'

/-- toOp, its rows by their parts. -/
theorem toOp_own (w : World) (v : Value) (o : OpV) (h : RdOp w v o) (hs : o.key.length + o.name.length + o.text.length ≤ 2097152) :
    Calls Try.prog 63 #[v] w fun e w' => ∃ a1 c1 a2 c2 a3 c3, e = .returned (opVal o (.slice a1 o.key.length c1) (.slice a2 o.name.length c2) (.slice a3 o.text.length c3)) ∧ OwOp w' w.heap.size o (.slice a1 o.key.length c1) (.slice a2 o.name.length c2) (.slice a3 o.text.length c3) ∧ Below w.heap.size w w' := by
  refine (toOp_any w v o h hs).mono ?_
  rintro e w' ⟨k, n, t, rfl, h1, h2, h3, h4, h5⟩
  obtain ⟨a1, c1, rfl, _, _⟩ := h1.ints.shape
  obtain ⟨a2, c2, rfl, _, _⟩ := h2.byt.shape
  obtain ⟨a3, c3, rfl, _, _⟩ := h3.byt.shape
  exact ⟨a1, c1, a2, c2, a3, c3, rfl, ⟨h1, h2, h3, h4⟩, h5⟩

end Go.Proofs.Ytcabolcfoijglaa
