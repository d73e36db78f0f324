/- Own texts joined: StM, CopyO, CopyOs, CopyW, InsM, Ins, OwnE, InsO, SetO, Sz, ToT, Tool. -/
import Derived.Test.YtkmmhlimihkgfaaGreatJa
import Derived.Test.YtkmmhlimihkgfaaGreatJb
import Derived.Test.YtkmmhlimihkgfaaGreatJc
import Derived.Test.YtkmmhlimihkgfaaGreatJd
import Derived.Test.YtkmmhlimihkgfaaGreatJe
import Derived.Test.YtkmmhlimihkgfaaGreatJf
import Derived.Test.YtkmmhlimihkgfaaGreatJg
import Derived.Test.YtkmmhlimihkgfaaGreatJh
import Derived.Deep.RegionHeld3
import Derived.Deep.CutBlock
import Derived.Laws.CopyOwn
import Derived.Lib.AppendZerosOnto
import Derived.Lib.Overlaps
import Derived.Lib.Walk
import Derived.Laws.Externs
import Derived.Laws.NewBlocks
import Derived.Deep.RegionLaw
import Derived.Deep.AppendLies
import Derived.Test.YtkmmhlimihkgfaaGreatChecked

/- Two operations with one stamp: which one stays. Plain mathematics. -/
namespace Go.Proofs.YtkmmhlimihkgfaaGreat
open Go.RowKit
set_option linter.unusedVariables false

theorem opB_head {o : OpV} (h : opB o = true) : opHeadB o = false := by
  cases k : opHeadB o with
  | false => rfl
  | true => unfold opB at h; rw [k] at h; cases h
theorem opB_at {p o : OpV} (hp : opB p = true) (ho : opB o = true) : opB { p with atN := o.atN, atR := o.atR } = true := by
  have h1 := opB_head hp
  have h2 := opB_head ho
  have h1' := h1
  rw [headB_eq] at h1 h2
  simp only [Bool.or_eq_false_iff] at h1 h2
  have h3 : opHeadB { p with atN := o.atN, atR := o.atR } = false := by
    rw [headB_eq]
    simp only [Bool.or_eq_false_iff]
    exact ⟨h1.1, h1.2.1, h2.2.2.1, h1.2.2.2⟩
  unfold opB at hp ⊢
  rw [h1'] at hp
  rw [h3]
  exact hp
theorem opsB_one {x : OpV} (hx : opB x = true) : opsB [x] = true := by
  unfold opsB
  simp [okAt, hx]
theorem pos_one {x y : OpV} (e1 : x.atN = y.atN) (e2 : x.atR = y.atR) : posO [x] y.atN y.atR = 0 := by
  unfold posO
  rw [List.takeWhile_cons, if_neg (by unfold ahead; rw [e1, e2, less_irr]; decide)]
  rfl
theorem there_one {x y : OpV} (e1 : x.atN = y.atN) (e2 : x.atR = y.atR) : there [x] y.atN y.atR = true := by
  unfold there
  simp [pos_one e1 e2, e1, e2]
/-- The one that stays. -/
def stay (x y : OpV) : OpV := if klB (opBytes y) (opBytes x) then y else x
theorem putV_one {x y : OpV} (hx : opB x = true) (hy : opB y = true) (e1 : x.atN = y.atN) (e2 : x.atR = y.atR) : putV [x] y = [stay x y] ∧ putAns [x] y = true := by
  constructor
  · unfold putV
    rw [opsB_one hx, hy]
    show putL [x] y = _
    unfold putL stay
    rw [there_one e1 e2, pos_one e1 e2]
    simp only [if_true, List.getD_cons_zero]
    split <;> rfl
  · unfold putAns putOk
    rw [opsB_one hx, hy, there_one e1 e2]
    rfl
theorem stay_same {x y : OpV} (hx : opB x = true) (hy : opB y = true) (e1 : x.atN = y.atN) (e2 : x.atR = y.atR) : obV (stay x y) = obV (stay y x) ∧ (stay x y).atN = (stay y x).atN ∧ (stay x y).atR = (stay y x).atR := by
  have ha := klB_anti (opBytes x) (opBytes y)
  have ht := klB_tri (opBytes x) (opBytes y)
  unfold stay
  cases h1 : klB (opBytes x) (opBytes y) with
  | true =>
    rw [h1, Bool.true_and] at ha
    rw [ha]
    exact ⟨rfl, rfl, rfl⟩
  | false =>
    rw [h1, Bool.false_or] at ht
    cases h2 : klB (opBytes y) (opBytes x) with
    | true => exact ⟨rfl, rfl, rfl⟩
    | false =>
      rw [h2] at ht
      have e : opBytes x = opBytes y := by simpa using ht.symm
      refine ⟨?_, e1, e2⟩
      unfold obV
      show (if opB x then opBytes x else []) = (if opB y then opBytes y else [])
      rw [hx, hy, e]
theorem stay_small {x y : OpV} {n : Nat} (hx : x.key.length ≤ n) (hy : y.key.length ≤ n) : (stay x y).key.length ≤ n := by
  unfold stay
  split <;> assumption
end Go.Proofs.YtkmmhlimihkgfaaGreat

/- impl.copyKey, impl.copyOp. -/
namespace Go.Proofs.YtkmmhlimihkgfaaGreat
open Go.RowKit
set_option linter.unusedVariables false
set_option maxRecDepth 100000

theorem copyKey_any (w : World) (v : Value) (l : List Int) (h : Ints w v l) (hl : l.length ≤ 67108864) :
    Calls Tryz.prog 124 #[v] w fun e w' => ∃ a c, e = .returned (.slice a l.length c) ∧ OwnZ w' w.heap.size (.slice a l.length c) l ∧ Below w.heap.size w w' := by
  have HH := hide h
  obtain ⟨a, c, rfl, _, _⟩ := h.shape
  clear h
  go_enter Tryz.func124, Tryz.ntmps124
  go_wp2_with (at_builtin; refine wpList_appZ rfl _ _ rfl w.heap.size _ [] rfl (ownz_nil _ _) _ l rfl (unhide HH) ?c1 ?c2 ?_)
  case c1 => simp; omega
  case c2 => exact Nat.le_refl _
  intro v1 w1 ho hg
  try rw [List.nil_append] at ho
  obtain ⟨a1, c1, rfl, _, _⟩ := ho.ints.shape
  have hB := Below.ofGrown hg
  go_wp2_with fail
  go_ret
  exact ⟨_, _, rfl, ho, hB⟩
theorem clone_own (w : World) (v : Value) (l : List Int) (h : Byt w v l) (hl : l.length ≤ 67108864) :
    Calls Tryz.prog 125 #[v] w fun e w' => ∃ a c, e = .returned (.slice a l.length c) ∧ Own w' w.heap.size (.slice a l.length c) l ∧ Below w.heap.size w w' := by
  refine (clone_any w v l h hl).mono ?_
  rintro e w' ⟨v', rfl, ho, hB⟩
  obtain ⟨a, c, rfl, _, _⟩ := ho.byt.shape
  exact ⟨a, c, rfl, ho, hB⟩
theorem copy_fin {w x0 w1 w2 w3 : World} {o : OpV} {ak an tt a1 a2 a3 : Option Addr} {ck cn ct c1 c2 c3 : Nat} (hx0 : w.heap.size + 2 ≤ x0.heap.size) (hB0 : Below w.heap.size w x0) (lo : Loc x0 w.heap.size #[.int .i64 o.kind, .int .i64 o.atN, .int .i64 o.atR, .int .i64 o.nodeN, .int .i64 o.nodeR, .int .i64 o.parN, .int .i64 o.parR, .slice ak o.key.length ck, .int .i64 o.elem, .slice an o.name.length cn, .slice tt o.text.length ct, .bool o.gone] 28) (lr : Loc x0 (w.heap.size + 1) #[.int .i64 0, .int .i64 0, .int .i64 0, .int .i64 0, .int .i64 0, .int .i64 0, .int .i64 0, .slice none 0 0, .int .i64 0, .slice none 0 0, .slice none 0 0, .bool false] 28)
    (ho1 : OwnZ w1 x0.heap.size (.slice a1 o.key.length c1) o.key) (hB1 : Below x0.heap.size x0 w1) (ho2 : Own w2 w1.heap.size (.slice a2 o.name.length c2) o.name) (hB2 : Below w1.heap.size w1 w2) (ho3 : Own w3 w2.heap.size (.slice a3 o.text.length c3) o.text) (hB3 : Below w2.heap.size w2 w3) :
    Loc (((w3.setCell ⟨w.heap.size, 7, none⟩ (.slice a1 o.key.length c1)).setCell ⟨w.heap.size, 9, none⟩ (.slice a2 o.name.length c2)).setCell ⟨w.heap.size, 10, none⟩ (.slice a3 o.text.length c3)) w.heap.size #[.int .i64 o.kind, .int .i64 o.atN, .int .i64 o.atR, .int .i64 o.nodeN, .int .i64 o.nodeR, .int .i64 o.parN, .int .i64 o.parR, .slice a1 o.key.length c1, .int .i64 o.elem, .slice a2 o.name.length c2, .slice a3 o.text.length c3, .bool o.gone] 28 ∧ Loc (((w3.setCell ⟨w.heap.size, 7, none⟩ (.slice a1 o.key.length c1)).setCell ⟨w.heap.size, 9, none⟩ (.slice a2 o.name.length c2)).setCell ⟨w.heap.size, 10, none⟩ (.slice a3 o.text.length c3)) (w.heap.size + 1) #[.int .i64 0, .int .i64 0, .int .i64 0, .int .i64 0, .int .i64 0, .int .i64 0, .int .i64 0, .slice none 0 0, .int .i64 0, .slice none 0 0, .slice none 0 0, .bool false] 28 ∧ OwOp (((w3.setCell ⟨w.heap.size, 7, none⟩ (.slice a1 o.key.length c1)).setCell ⟨w.heap.size, 9, none⟩ (.slice a2 o.name.length c2)).setCell ⟨w.heap.size, 10, none⟩ (.slice a3 o.text.length c3)) (w.heap.size + 2) o (.slice a1 o.key.length c1) (.slice a2 o.name.length c2) (.slice a3 o.text.length c3) ∧ Below w.heap.size w (((w3.setCell ⟨w.heap.size, 7, none⟩ (.slice a1 o.key.length c1)).setCell ⟨w.heap.size, 9, none⟩ (.slice a2 o.name.length c2)).setCell ⟨w.heap.size, 10, none⟩ (.slice a3 o.text.length c3)) := by
  have hB13 := bstep (bstep hB1 hB2) hB3
  have hsS : w3.grownBy (((w3.setCell ⟨w.heap.size, 7, none⟩ (.slice a1 o.key.length c1)).setCell ⟨w.heap.size, 9, none⟩ (.slice a2 o.name.length c2)).setCell ⟨w.heap.size, 10, none⟩ (.slice a3 o.text.length c3)) (some w.heap.size) := grown_trans (grown_trans (setGO w3 w.heap.size 7 (.slice a1 o.key.length c1)) (setGO _ w.heap.size 9 (.slice a2 o.name.length c2))) (setGO _ w.heap.size 10 (.slice a3 o.text.length c3))
  have z1 := hB1.size
  have z2 := hB2.size
  have z3 := hB3.size
  have k1 := (ho1.keep hB2).keep hB3
  have k2 := ho2.keep hB3
  refine ⟨(((lo.all hB13).set 7 _).set 9 _).set 10 _, (lr.all hB13).frm (Frm.ofGrown hsS) (by simp), ⟨(k1.mono (by omega)).keepBy hsS (.inr (fun e => by have := (k1.lt w.heap.size e).1; omega)), (k2.mono (by omega)).keepBy hsS (.inr (fun e => by have := (k2.lt w.heap.size e).1; omega)), (ho3.mono (by omega)).keepBy hsS (.inr (fun e => by have := (ho3.lt w.heap.size e).1; omega)), ?_⟩, bstepBy (bstep hB0 hB13) hsS (fun q hq => by cases hq; exact Nat.le_refl _)⟩
  have d1 : Rng (FB (.slice a1 o.key.length c1)) x0.heap.size w1.heap.size := fun q hq => ho1.lt q (by simpa [FB] using hq)
  exact nodup_app (lo := 0) (nodup_app (FB_nodup _) (FB_nodup _) d1 ho2.rng) (FB_nodup _) ((d1.mono (Nat.zero_le _) (by omega)).app (ho2.rng.mono (Nat.zero_le _) (Nat.le_refl _))) ho3.rng

set_option maxHeartbeats 12800000 in
theorem copyOp_any (w : World) (v : Value) (o : OpV) (h : RdOp w v o) (hs : szO o ≤ 4000000) :
    Calls Tryz.prog 91 #[v] w fun e w' => ∃ a1 c1 a2 c2 a3 c3, e = .returned (opVal o (.slice a1 o.key.length c1) (.slice a2 o.name.length c2) (.slice a3 o.text.length c3)) ∧ OwOp w' w.heap.size o (.slice a1 o.key.length c1) (.slice a2 o.name.length c2) (.slice a3 o.text.length c3) ∧ Below w.heap.size w w' := by
  unfold szO at hs
  obtain ⟨k, n, t, rfl, hk0, hn0, ht0⟩ := h
  obtain ⟨ak, ck, rfl, _, _⟩ := hk0.shape
  obtain ⟨an, cn, rfl, _, _⟩ := hn0.shape
  obtain ⟨tt, ct, rfl, _, _⟩ := ht0.shape
  have HK := hide (fun W (hW : Below w.heap.size w W) => hk0.keep hW)
  have HN := hide (fun W (hW : Below w.heap.size w W) => hn0.keep hW)
  have HX := hide (fun W (hW : Below w.heap.size w W) => ht0.keep hW)
  clear hk0 hn0 ht0
  have l0 := Loc.made w #[.int .i64 o.kind, .int .i64 o.atN, .int .i64 o.atR, .int .i64 o.nodeN, .int .i64 o.nodeR, .int .i64 o.parN, .int .i64 o.parR, .slice ak o.key.length ck, .int .i64 o.elem, .slice an o.name.length cn, .slice tt o.text.length ct, .bool o.gone] 28
  have hA := (Below.refl w.heap.size w).alloc (Nat.le_refl _) (.cells #[.int .i64 o.kind, .int .i64 o.atN, .int .i64 o.atR, .int .i64 o.nodeN, .int .i64 o.nodeR, .int .i64 o.parN, .int .i64 o.parR, .slice ak o.key.length ck, .int .i64 o.elem, .slice an o.name.length cn, .slice tt o.text.length ct, .bool o.gone] 28)
  have hsz : (w.alloc (.cells #[.int .i64 o.kind, .int .i64 o.atN, .int .i64 o.atR, .int .i64 o.nodeN, .int .i64 o.nodeR, .int .i64 o.parN, .int .i64 o.parR, .slice ak o.key.length ck, .int .i64 o.elem, .slice an o.name.length cn, .slice tt o.text.length ct, .bool o.gone] 28)).heap.size = w.heap.size + 1 := by simp
  have lr := Loc.made (w.alloc (.cells #[.int .i64 o.kind, .int .i64 o.atN, .int .i64 o.atR, .int .i64 o.nodeN, .int .i64 o.nodeR, .int .i64 o.parN, .int .i64 o.parR, .slice ak o.key.length ck, .int .i64 o.elem, .slice an o.name.length cn, .slice tt o.text.length ct, .bool o.gone] 28)) #[.int .i64 0, .int .i64 0, .int .i64 0, .int .i64 0, .int .i64 0, .int .i64 0, .int .i64 0, .slice none 0 0, .int .i64 0, .slice none 0 0, .slice none 0 0, .bool false] 28
  rw [hsz] at lr
  have lo := l0.alloc (.cells #[.int .i64 0, .int .i64 0, .int .i64 0, .int .i64 0, .int .i64 0, .int .i64 0, .int .i64 0, .slice none 0 0, .int .i64 0, .slice none 0 0, .slice none 0 0, .bool false] 28)
  have hB := hA.alloc (by simp) (.cells #[.int .i64 0, .int .i64 0, .int .i64 0, .int .i64 0, .int .i64 0, .int .i64 0, .int .i64 0, .slice none 0 0, .int .i64 0, .slice none 0 0, .slice none 0 0, .bool false] 28)
  clear l0 hA hsz
  unfold opVal
  refine calls_via ?_
  intro Q HQ
  have H1 := hide (fun W hW => copyKey_any W _ o.key (unhide HK W hW) (by omega))
  have H2 := hide (fun W hW => clone_own W _ o.name (unhide HN W hW) (by omega))
  have H3 := hide (fun W hW => clone_own W _ o.text (unhide HX W hW) (by omega))
  clear HK HN HX
  have LL := hide (And.intro lo (And.intro lr hB))
  clear lo lr hB
  go_enter Tryz.func91, Tryz.ntmps91
  go_upto_region 1 with fail
  obtain ⟨lo, lr, hB⟩ := unhide LL
  clear LL
  generalize ((w.alloc (.cells #[.int .i64 o.kind, .int .i64 o.atN, .int .i64 o.atR, .int .i64 o.nodeN, .int .i64 o.nodeR, .int .i64 o.parN, .int .i64 o.parR, .slice ak o.key.length ck, .int .i64 o.elem, .slice an o.name.length cn, .slice tt o.text.length ct, .bool o.gone] 28)).alloc (.cells #[.int .i64 0, .int .i64 0, .int .i64 0, .int .i64 0, .int .i64 0, .int .i64 0, .int .i64 0, .slice none 0 0, .int .i64 0, .slice none 0 0, .slice none 0 0, .bool false] 28)) = x0 at *
  have hlo := lo.lt
  have hlr := lr.lt
  go_cut [] from 3 to 14 (fun wx => ∃ a1 c1 a2 c2 a3 c3, Loc wx w.heap.size #[.int .i64 o.kind, .int .i64 o.atN, .int .i64 o.atR, .int .i64 o.nodeN, .int .i64 o.nodeR, .int .i64 o.parN, .int .i64 o.parR, .slice a1 o.key.length c1, .int .i64 o.elem, .slice a2 o.name.length c2, .slice a3 o.text.length c3, .bool o.gone] 28 ∧ Loc wx (w.heap.size + 1) #[.int .i64 0, .int .i64 0, .int .i64 0, .int .i64 0, .int .i64 0, .int .i64 0, .int .i64 0, .slice none 0 0, .int .i64 0, .slice none 0 0, .slice none 0 0, .bool false] 28 ∧ OwOp wx (w.heap.size + 2) o (.slice a1 o.key.length c1) (.slice a2 o.name.length c2) (.slice a3 o.text.length c3) ∧ Below w.heap.size w wx)
  case first =>
    have HB0 := hide hB
    have HLR := hide lr
    have hx0 : w.heap.size + 2 ≤ x0.heap.size := by omega
    clear hB lr
    have q7 := lo.cell 7
    have q9 := lo.cell 9
    have q10 := lo.cell 10
    simp only [List.getElem?_toArray, List.getElem?_cons_succ, List.getElem?_cons_zero] at q7 q9 q10
    have f7 := lo.frozen 7
    have f9 := lo.frozen 9
    have f10 := lo.frozen 10
    have HLO := hide lo
    clear lo
    go_region_with (first
      | (go_at_call 124; refine (unhide H1 _ (bstep (unhide HB0) ((Below.refl _ _).drew))).mono ?_; clear H1; rintro e w1 ⟨a1, c1, rfl, ho1, hB1⟩; have hK1 := bstep ((Below.refl x0.heap.size x0).drew) hB1; have q7 := ((unhide HLO).all hK1).cell 7; have q9 := ((unhide HLO).all hK1).cell 9; have q10 := ((unhide HLO).all hK1).cell 10; simp only [List.getElem?_toArray, List.getElem?_cons_succ, List.getElem?_cons_zero] at q7 q9 q10; have f7 := ((unhide HLO).all hK1).frozen 7; have f9 := ((unhide HLO).all hK1).frozen 9; have f10 := ((unhide HLO).all hK1).frozen 10)
      | (go_at_call 125; refine (unhide H2 _ (bstep (unhide HB0) hK1)).mono ?_; clear H2; rintro e w2 ⟨a2, c2, rfl, ho2, hB2⟩; have hK2 := bstep hK1 hB2; have q7 := ((unhide HLO).all hK2).cell 7; have q9 := ((unhide HLO).all hK2).cell 9; have q10 := ((unhide HLO).all hK2).cell 10; simp only [List.getElem?_toArray, List.getElem?_cons_succ, List.getElem?_cons_zero] at q7 q9 q10; have f7 := ((unhide HLO).all hK2).frozen 7; have f9 := ((unhide HLO).all hK2).frozen 9; have f10 := ((unhide HLO).all hK2).frozen 10)
      | (go_at_call 125; refine (unhide H3 _ (bstep (unhide HB0) hK2)).mono ?_; clear H3; rintro e w3 ⟨a3, c3, rfl, ho3, hB3⟩; have hK3 := bstep hK2 hB3; have q7 := ((unhide HLO).all hK3).cell 7; have q9 := ((unhide HLO).all hK3).cell 9; have q10 := ((unhide HLO).all hK3).cell 10; simp only [List.getElem?_toArray, List.getElem?_cons_succ, List.getElem?_cons_zero] at q7 q9 q10; have f7 := ((unhide HLO).all hK3).frozen 7; have f9 := ((unhide HLO).all hK3).frozen 9; have f10 := ((unhide HLO).all hK3).frozen 10))
    all_goals
      go_wp2_with fail
      go_meet
      exact ⟨_, _, _, _, _, _, copy_fin hx0 (unhide HB0) (unhide HLO) (unhide HLR) ho1 hK1 ho2 hB2 ho3 hB3⟩
  case rest =>
  obtain ⟨a1, c1, a2, c2, a3, c3, lo, lr, hOw, hB⟩ := hcut
  obtain ⟨hk, hn, ht, hnd⟩ := hOw
  clear H1 H2 H3
  have lrz : Loc ((((((((((((wc.setCell ⟨(w.heap.size + 1), 0, none⟩ (.int .i64 o.kind)).setCell ⟨(w.heap.size + 1), 1, none⟩ (.int .i64 o.atN)).setCell ⟨(w.heap.size + 1), 2, none⟩ (.int .i64 o.atR)).setCell ⟨(w.heap.size + 1), 3, none⟩ (.int .i64 o.nodeN)).setCell ⟨(w.heap.size + 1), 4, none⟩ (.int .i64 o.nodeR)).setCell ⟨(w.heap.size + 1), 5, none⟩ (.int .i64 o.parN)).setCell ⟨(w.heap.size + 1), 6, none⟩ (.int .i64 o.parR)).setCell ⟨(w.heap.size + 1), 7, none⟩ (.slice a1 o.key.length c1)).setCell ⟨(w.heap.size + 1), 8, none⟩ (.int .i64 o.elem)).setCell ⟨(w.heap.size + 1), 9, none⟩ (.slice a2 o.name.length c2)).setCell ⟨(w.heap.size + 1), 10, none⟩ (.slice a3 o.text.length c3)).setCell ⟨(w.heap.size + 1), 11, none⟩ (.bool o.gone)) (w.heap.size + 1) #[.int .i64 o.kind, .int .i64 o.atN, .int .i64 o.atR, .int .i64 o.nodeN, .int .i64 o.nodeR, .int .i64 o.parN, .int .i64 o.parR, .slice a1 o.key.length c1, .int .i64 o.elem, .slice a2 o.name.length c2, .slice a3 o.text.length c3, .bool o.gone] 28 := set_twelve lr (.int .i64 o.kind) (.int .i64 o.atN) (.int .i64 o.atR) (.int .i64 o.nodeN) (.int .i64 o.nodeR) (.int .i64 o.parN) (.int .i64 o.parR) (.slice a1 o.key.length c1) (.int .i64 o.elem) (.slice a2 o.name.length c2) (.slice a3 o.text.length c3) (.bool o.gone)
  have hsR : wc.grownBy ((((((((((((wc.setCell ⟨(w.heap.size + 1), 0, none⟩ (.int .i64 o.kind)).setCell ⟨(w.heap.size + 1), 1, none⟩ (.int .i64 o.atN)).setCell ⟨(w.heap.size + 1), 2, none⟩ (.int .i64 o.atR)).setCell ⟨(w.heap.size + 1), 3, none⟩ (.int .i64 o.nodeN)).setCell ⟨(w.heap.size + 1), 4, none⟩ (.int .i64 o.nodeR)).setCell ⟨(w.heap.size + 1), 5, none⟩ (.int .i64 o.parN)).setCell ⟨(w.heap.size + 1), 6, none⟩ (.int .i64 o.parR)).setCell ⟨(w.heap.size + 1), 7, none⟩ (.slice a1 o.key.length c1)).setCell ⟨(w.heap.size + 1), 8, none⟩ (.int .i64 o.elem)).setCell ⟨(w.heap.size + 1), 9, none⟩ (.slice a2 o.name.length c2)).setCell ⟨(w.heap.size + 1), 10, none⟩ (.slice a3 o.text.length c3)).setCell ⟨(w.heap.size + 1), 11, none⟩ (.bool o.gone)) (some (w.heap.size + 1)) := grow_twelve _ _ (.int .i64 o.kind) (.int .i64 o.atN) (.int .i64 o.atR) (.int .i64 o.nodeN) (.int .i64 o.nodeR) (.int .i64 o.parN) (.int .i64 o.parR) (.slice a1 o.key.length c1) (.int .i64 o.elem) (.slice a2 o.name.length c2) (.slice a3 o.text.length c3) (.bool o.gone)
  have hO9 : OwOp _ (w.heap.size + 2) o _ _ _ := ⟨hk.keepBy hsR (.inr (fun e => by have := (hk.lt _ e).1; omega)), hn.keepBy hsR (.inr (fun e => by have := (hn.lt _ e).1; omega)), ht.keepBy hsR (.inr (fun e => by have := (ht.lt _ e).1; omega)), hnd⟩
  have hB9 := bstepBy hB hsR (fun q hq => by cases hq; omega)
  obtain ⟨y0, y1, y2, y3, y4, y5, y6, y7, y8, y9, y10, y11⟩ := lo.twelve
  obtain ⟨z0, z1, z2, z3, z4, z5, z6, z7, z8, z9, z10, z11⟩ := lr.twelve
  have g0 := lr.frozen 0
  have g1 := lr.frozen 1
  have g2 := lr.frozen 2
  have g3 := lr.frozen 3
  have g4 := lr.frozen 4
  have g5 := lr.frozen 5
  have g6 := lr.frozen 6
  have g7 := lr.frozen 7
  have g8 := lr.frozen 8
  have g9 := lr.frozen 9
  have g10 := lr.frozen 10
  have g11 := lr.frozen 11
  have KK := hide (And.intro lrz (And.intro hO9 hB9))
  clear lrz hsR hO9 hB9 lr lo hk hn ht hnd hB
  go_upto_region 2 with fail
  go_cut [] from 15 to 15 (fun wx => ∃ (k n t : Value), Loc wx (w.heap.size + 1) #[.int .i64 o.kind, .int .i64 o.atN, .int .i64 o.atR, .int .i64 o.nodeN, .int .i64 o.nodeR, .int .i64 o.parN, .int .i64 o.parR, k, .int .i64 o.elem, n, t, .bool o.gone] 28 ∧ OwOp wx (w.heap.size + 2) o k n t ∧ Below w.heap.size w wx)
  case first =>
    go_wp2_with fail
    go_meet
    exact ⟨_, _, _, unhide KK⟩
  case rest =>
    obtain ⟨k9, n9, t9, hL, hO9, hB9⟩ := hcut
    obtain ⟨e0, e1, e2, e3, e4, e5, e6, e7, e8, e9, e10, e11⟩ := hL.twelve
    clear KK hL z0 z1 z2 z3 z4 z5 z6 z7 z8 z9 z10 z11 y0 y1 y2 y3 y4 y5 y6 y7 y8 y9 y10 y11 g0 g1 g2 g3 g4 g5 g6 g7 g8 g9 g10 g11
    obtain ⟨a7, c7, rfl, _, _⟩ := hO9.1.ints.shape
    obtain ⟨a8, c8, rfl, _, _⟩ := hO9.2.1.byt.shape
    obtain ⟨a9, c9, rfl, _, _⟩ := hO9.2.2.1.byt.shape
    have K9 := hide (And.intro (show OwOp _ (w.heap.size) o _ _ _ from ⟨hO9.1.mono (by omega), hO9.2.1.mono (by omega), hO9.2.2.1.mono (by omega), hO9.2.2.2⟩) hB9)
    clear hO9 hB9
    go_wp2_with fail
    exact bodyPost_ret (v := .agg #[.int .i64 o.kind, .int .i64 o.atN, .int .i64 o.atR, .int .i64 o.nodeN, .int .i64 o.nodeR, .int .i64 o.parN, .int .i64 o.parR, .slice a7 o.key.length c7, .int .i64 o.elem, .slice a8 o.name.length c8, .slice a9 o.text.length c9, .bool o.gone]) (by simp [results, Tryz.results91, go_sem, e0, e1, e2, e3, e4, e5, e6, e7, e8, e9, e10, e11]) rfl (unhide HQ _ _ ⟨_, _, _, _, _, _, rfl, unhide K9⟩)
end Go.Proofs.YtkmmhlimihkgfaaGreat

/- impl.copyOps. -/
namespace Go.Proofs.YtkmmhlimihkgfaaGreat
open Go.RowKit
set_option linter.unusedVariables false
set_option maxRecDepth 100000

set_option maxHeartbeats 12800000 in
theorem copyOps_any (w : World) (v : Value) (l : List OpV) (h : RdOps w v l) (hl : l.length ≤ 4194304) (hx : ∀ x ∈ l, szO x ≤ 4000000) :
    Calls Tryz.prog 41 #[v] w fun e w' => ∃ u, e = .returned u ∧ ∃ F, OwOps w' u l F ∧ F.Nodup ∧ Rng F w.heap.size w'.heap.size ∧ Below w.heap.size w w' := by
  obtain ⟨i0, hi, hz0, hz1, hz2⟩ := info_parts Tryz.info28
  have hm : (l.length : Int) ≤ 9223372036854775807 := by omega
  have HAT := hide (fun W (hW : Below w.heap.size w W) j (hj : j < l.length) => (show ∃ b off cap, v = .slice (some ⟨b, off, none⟩) l.length cap ∧ b < w.heap.size ∧ ∃ C : List Value, C.length = 12 ∧ (∀ i, i < 12 → w.cell? ⟨b, off + j * 12 + i, none⟩ = C[i]?) ∧ RdOpC w C l[j] by
    obtain ⟨_, ⟨_, e⟩ | ⟨_, _, _, _, e⟩ | ⟨b, off, cap, rfl, g1, g2, g3, g4, g5⟩⟩ := h
    · subst e; simp at hj
    · subst e; simp at hj
    · exact ⟨b, off, cap, rfl, g4, g5 j hj⟩))
  obtain ⟨av, cv, rfl, _, _⟩ := Elems.shape h
  clear h
  go_enter Tryz.func41, Tryz.ntmps41
  go_wp2_with fail
  go_loopw [3, 5, 8] (fun b _ i wr => ∃ j : Nat, j ≤ l.length ∧ i = .int .i64 j ∧ ∃ F, OwOps wr b (l.take j) F ∧ F.Nodup ∧ Rng F w.heap.size wr.heap.size ∧ Below w.heap.size w wr) (fun _ _ i _ => l.length - (intOf i).toNat)
  case atStart => exact ⟨0, Nat.zero_le _, rfl, [], ⟨[], [], by simp, by simp, fun i hi => by simp at hi, World.ownsRow_nil _ _ _ _, rfl⟩, List.nodup_nil, fun g hg => by simp at hg, Below.refl _ _⟩
  case round =>
    obtain ⟨j, hj, rfl, F, hF, hN, hRg, hB⟩ := hrel
    by_cases hjl : j < l.length
    · have hst : l.take (j + 1) = l.take j ++ [l[j]] := List.take_succ_eq_append_getElem hjl
      have hlj : (l.take j).length = j := by rw [List.length_take]; omega
      obtain ⟨pb, poff, pcap, epv, hpl, hel⟩ := unhide HAT wr hB j hjl
      cases epv
      obtain ⟨a1, c1, a2, c2, a3, c3, e0, e1, e2, e3, e4, e5, e6, e7, e8, e9, e10, e11, hro⟩ := opc_at hB hpl hel
      have hxo := hx _ (List.getElem_mem hjl)
      have HST := hide hst
      generalize l[j] = o at *
      clear hst hel
      have hAo := (Below.refl wr.heap.size wr).alloc (Nat.le_refl _) (.cells #[.int .i64 o.kind, .int .i64 o.atN, .int .i64 o.atR, .int .i64 o.nodeN, .int .i64 o.nodeR, .int .i64 o.parN, .int .i64 o.parR, .slice a1 o.key.length c1, .int .i64 o.elem, .slice a2 o.name.length c2, .slice a3 o.text.length c3, .bool o.gone] 28)
      have lOo := Loc.made wr #[.int .i64 o.kind, .int .i64 o.atN, .int .i64 o.atR, .int .i64 o.nodeN, .int .i64 o.nodeR, .int .i64 o.parN, .int .i64 o.parR, .slice a1 o.key.length c1, .int .i64 o.elem, .slice a2 o.name.length c2, .slice a3 o.text.length c3, .bool o.gone] 28
      have HL := hide (copyOp_any _ _ o (hro.keep hAo) hxo)
      unfold opVal at HL
      clear hro hxo
      have hjl' : (j : Int) < (l.length : Int) := by omega
      have hj0 : (0 : Int) ≤ (j : Int) := by omega
      have HF := hide hF
      have HN := hide hN
      have HR := hide hRg
      clear hF hN hRg
      obtain ⟨x0, x1, x2, x3, x4, x5, x6, x7, x8, x9, x10, x11⟩ := lOo.twelve
      have HAO := hide hAo
      clear hAo lOo
      go_wp2_with fail
      clear e0 e1 e2 e3 e4 e5 e6 e7 e8 e9 e10 e11 x0 x1 x2 x3 x4 x5 x6 x7 x8 x9 x10 x11
      have hAo := unhide HAO
      clear HAO
      generalize (wr.alloc (.cells #[.int .i64 o.kind, .int .i64 o.atN, .int .i64 o.atR, .int .i64 o.nodeN, .int .i64 o.nodeR, .int .i64 o.parN, .int .i64 o.parR, .slice a1 o.key.length c1, .int .i64 o.elem, .slice a2 o.name.length c2, .slice a3 o.text.length c3, .bool o.gone] 28)) = wb at *
      refine (unhide HL).mono ?_
      rintro e w2 ⟨b1, d1, b2, d2, b3, d3, rfl, hO', hB2'⟩
      have hsb := hAo.size
      have hO : OwOp w2 wr.heap.size o _ _ _ := ⟨hO'.1.mono hsb, hO'.2.1.mono hsb, hO'.2.2.1.mono hsb, hO'.2.2.2⟩
      have hB2 := bstep hAo hB2'
      clear hO' hB2' hAo
      have hAe := (Below.refl w2.heap.size w2).alloc (Nat.le_refl _) (.cells #[.int .i64 o.kind, .int .i64 o.atN, .int .i64 o.atR, .int .i64 o.nodeN, .int .i64 o.nodeR, .int .i64 o.parN, .int .i64 o.parR, .slice b1 o.key.length d1, .int .i64 o.elem, .slice b2 o.name.length d2, .slice b3 o.text.length d3, .bool o.gone] 28)
      have lE := Loc.made w2 #[.int .i64 o.kind, .int .i64 o.atN, .int .i64 o.atR, .int .i64 o.nodeN, .int .i64 o.nodeR, .int .i64 o.parN, .int .i64 o.parR, .slice b1 o.key.length d1, .int .i64 o.elem, .slice b2 o.name.length d2, .slice b3 o.text.length d3, .bool o.gone] 28
      have hFr := OwOps.lt (unhide HF)
      have hrO : Rng (FB (.slice b1 o.key.length d1) ++ FB (.slice b2 o.name.length d2) ++ FB (.slice b3 o.text.length d3)) wr.heap.size w2.heap.size := by
        have h1 : Rng (FB (.slice b1 o.key.length d1)) wr.heap.size w2.heap.size := fun g hg => hO.1.lt g (by simpa [FB] using hg)
        exact (h1.app hO.2.1.rng).app hO.2.2.1.rng
      have HP := hide (show OwElems (w2.alloc (.cells #[.int .i64 o.kind, .int .i64 o.atN, .int .i64 o.atR, .int .i64 o.nodeN, .int .i64 o.nodeR, .int .i64 o.parN, .int .i64 o.parR, .slice b1 o.key.length d1, .int .i64 o.elem, .slice b2 o.name.length d2, .slice b3 o.text.length d3, .bool o.gone] 28)) 28 12 _ (l.take j) (OwOpC (w2.alloc (.cells #[.int .i64 o.kind, .int .i64 o.atN, .int .i64 o.atR, .int .i64 o.nodeN, .int .i64 o.nodeR, .int .i64 o.parN, .int .i64 o.parR, .slice b1 o.key.length d1, .int .i64 o.elem, .slice b2 o.name.length d2, .slice b3 o.text.length d3, .bool o.gone] 28))) F ∧ F.Nodup ∧ (∀ i u, ([.int .i64 o.kind, .int .i64 o.atN, .int .i64 o.atR, .int .i64 o.nodeN, .int .i64 o.nodeR, .int .i64 o.parN, .int .i64 o.parR, .slice b1 o.key.length d1, .int .i64 o.elem, .slice b2 o.name.length d2, .slice b3 o.text.length d3, .bool o.gone] : List Value)[i]? = some u → (w2.alloc (.cells #[.int .i64 o.kind, .int .i64 o.atN, .int .i64 o.atR, .int .i64 o.nodeN, .int .i64 o.nodeR, .int .i64 o.parN, .int .i64 o.parR, .slice b1 o.key.length d1, .int .i64 o.elem, .slice b2 o.name.length d2, .slice b3 o.text.length d3, .bool o.gone] 28)).cell? ((⟨w2.heap.size, 0, none⟩ : Addr).add i) = some u) ∧ OwOpC (w2.alloc (.cells #[.int .i64 o.kind, .int .i64 o.atN, .int .i64 o.atR, .int .i64 o.nodeN, .int .i64 o.nodeR, .int .i64 o.parN, .int .i64 o.parR, .slice b1 o.key.length d1, .int .i64 o.elem, .slice b2 o.name.length d2, .slice b3 o.text.length d3, .bool o.gone] 28)) [.int .i64 o.kind, .int .i64 o.atN, .int .i64 o.atR, .int .i64 o.nodeN, .int .i64 o.nodeR, .int .i64 o.parN, .int .i64 o.parR, .slice b1 o.key.length d1, .int .i64 o.elem, .slice b2 o.name.length d2, .slice b3 o.text.length d3, .bool o.gone] o (FB (.slice b1 o.key.length d1) ++ FB (.slice b2 o.name.length d2) ++ FB (.slice b3 o.text.length d3)) ∧ (FB (.slice b1 o.key.length d1) ++ FB (.slice b2 o.name.length d2) ++ FB (.slice b3 o.text.length d3)).Nodup ∧ (∀ g ∈ F, g ∉ (FB (.slice b1 o.key.length d1) ++ FB (.slice b2 o.name.length d2) ++ FB (.slice b3 o.text.length d3))) ∧ (∀ q, q ∈ F ∨ q ∈ (FB (.slice b1 o.key.length d1) ++ FB (.slice b2 o.name.length d2) ++ FB (.slice b3 o.text.length d3)) → q < (w2.alloc (.cells #[.int .i64 o.kind, .int .i64 o.atN, .int .i64 o.atR, .int .i64 o.nodeN, .int .i64 o.nodeR, .int .i64 o.parN, .int .i64 o.parR, .slice b1 o.key.length d1, .int .i64 o.elem, .slice b2 o.name.length d2, .slice b3 o.text.length d3, .bool o.gone] 28)).heap.size) from
        ⟨OwOps.frm (unhide HF) (Frm.ofBelow (bstep hB2 hAe) []) (fun _ _ => by simp), unhide HN, fun i u hiu => by rw [add_plain, Nat.zero_add, lE.cell i]; simpa using hiu, ⟨_, _, _, rfl, (hO.1.mono (Nat.zero_le _)).keep hAe, (hO.2.1.mono (Nat.zero_le _)).keep hAe, (hO.2.2.1.mono (Nat.zero_le _)).keep hAe, rfl⟩, hO.2.2.2, fun g hg hm => by have := hFr g hg; have := (hrO g hm).1; omega, fun q hq => by
          have hs := hAe.size
          have hs2 := hB2.size
          rcases hq with hq | hq
          · have := hFr q hq; omega
          · have := (hrO q hq).2; omega⟩)
      have HB2 := hide (And.intro (bstep (bstep hB hB2) hAe) (And.intro hrO (And.intro hAe.size hB2.size)))
      have hwE : (w2.alloc (.cells #[.int .i64 o.kind, .int .i64 o.atN, .int .i64 o.atR, .int .i64 o.nodeN, .int .i64 o.nodeR, .int .i64 o.parN, .int .i64 o.parR, .slice b1 o.key.length d1, .int .i64 o.elem, .slice b2 o.name.length d2, .slice b3 o.text.length d3, .bool o.gone] 28)).heap.size = w2.heap.size + 1 := by simp
      have HWE := hide hwE
      clear hAe lE hrO hO hFr HL hB2 hwE
      go_wp2_with (at_builtin; refine wpList_push (R := OwOpC) (fun h f d => OwOpC.frm h f d) rfl _ _ 23 rfl 28 i0 (.agg #[.int .i64 0, .int .i64 0, .int .i64 0, .int .i64 0, .int .i64 0, .int .i64 0, .int .i64 0, .slice none 0 0, .int .i64 0, .slice none 0 0, .slice none 0 0, .bool false]) 12 144 Tryz.underlying23 hi hz0 hz1 hz2 rfl (by decide) _ (l.take j) F rfl (unhide HP).1 (unhide HP).2.1 ⟨w2.heap.size, 0, none⟩ 1 [.int .i64 o.kind, .int .i64 o.atN, .int .i64 o.atR, .int .i64 o.nodeN, .int .i64 o.nodeR, .int .i64 o.parN, .int .i64 o.parR, .slice b1 o.key.length d1, .int .i64 o.elem, .slice b2 o.name.length d2, .slice b3 o.text.length d3, .bool o.gone] o (FB (.slice b1 o.key.length d1) ++ FB (.slice b2 o.name.length d2) ++ FB (.slice b3 o.text.length d3)) rfl rfl (unhide HP).2.2.1 ?c0 (unhide HP).2.2.2.1 (unhide HP).2.2.2.2.1 (unhide HP).2.2.2.2.2.1 (unhide HP).2.2.2.2.2.2 ?c1 ?c2 ?_)
      case c0 => intro y hy; simp at hy; rcases hy with rfl | rfl | rfl | rfl | rfl | rfl | rfl | rfl | rfl | rfl | rfl | rfl <;> rfl
      case c1 => rw [hlj]; unfold maxLen; omega
      case c2 => rw [hlj]; omega
      intro g9 cap9 w9 F9 hF9 hN9 hM9 hf9 hg9
      obtain ⟨hW4, hrO, hs4, hs2⟩ := unhide HB2
      have hwE := unhide HWE
      have hBs := hB.size
      have hW9 : Below w.heap.size w w9 := hW4.trans (hf9.below hW4.size (fun q hq => (unhide HR q (by obtain ⟨Cs, Fs, _, _, _, _, rfl⟩ := unhide HF; exact List.mem_append_left _ hq)).1))
      have HO9 := hide (show OwOps w9 (.slice (some ⟨g9, 0, none⟩) (j + 1) cap9) (l.take (j + 1)) F9 by
        rw [unhide HST]
        try rw [hlj] at hF9
        exact hF9)
      have HR9 := hide (show Rng F9 w.heap.size w9.heap.size from fun q hq => ⟨by
        rcases hM9 q hq with k | k | k
        · exact (unhide HR q k).1
        · have := (hrO q (by simpa using k)).1; omega
        · omega, OwOps.lt (unhide HO9) q hq⟩)
      have HN9 := hide hN9
      try rw [hlj]
      clear hF9 hM9 hN9 hf9 hW4 hrO hwE
      have HW9 := hide hW9
      clear hW9
      go_wp2_with fail
      go_roundw
      case rel => exact ⟨j + 1, by omega, by go_num, F9, unhide HO9, unhide HN9, unhide HR9, unhide HW9⟩
      case measure => simp [intOf]; omega
    · have e : j = l.length := by omega
      subst e
      rw [List.take_length] at hF
      have HH := hide (And.intro hF (And.intro hN (And.intro hRg hB)))
      clear hF hN hRg
      go_wp2_with fail
      go_ret
      exact ⟨_, rfl, F, unhide HH⟩
end Go.Proofs.YtkmmhlimihkgfaaGreat

/- 'copy(dst, src)' of elements of several cells, dst lying in a block that is known whole. No program. -/
namespace Go.Proofs.YtkmmhlimihkgfaaGreat
open Go.RowKit
set_option linter.unusedVariables false

theorem run_copy_wide {P : Program} (w : World) (dT sT ty elem : TypeId) (s g o dLen dCap : Nat) (a : Addr) (sLen sCap : Nat) (cur : Array Value) (t : TypeId) (cs : List Value) (n : Nat)
    (hu : P.underlying dT = some (.slice elem)) (hs : (P.info? elem).map (·.size) = some s) (hg : w.heap[g]? = some (.cells cur t (0, 0))) (hn : n = Nat.min sLen dLen) (hcl : cs.length = n * s)
    (hsrc : ∀ j v, cs[j]? = some v → w.cell? (a.add j) = some v) (hfit : o + cs.length ≤ cur.size) (h1 : ∀ v ∈ cs, v.oneCell' = true) :
    (Builtin.copy_ #[dT, sT] ty #[.slice (some ⟨g, o, none⟩) dLen dCap, .slice (some a) sLen sCap]).run P w = .ok (goInt n) (w.setRow g (cur.toList.take o ++ cs ++ cur.toList.drop (o + cs.length)).toArray) := by
  have hl := run_loadCells_list (P := P) w a cs hsrc
  have hst := run_storeCells_at P g o t cs 0 cur w hg (by simpa using hfit) h1
  cases hq : P.info? elem with
  | none => simp [hq] at hs
  | some i =>
    have hi : i.size = s := by simpa [hq] using hs
    rw [hcl] at hl
    simp [Builtin.copy_, run_underlying hu, Builtin.lenOf, Builtin.firstCells, sizeOf, typeInfo, hq, hi, ← hn, hl, hst]
theorem setRow_frm (w : World) (g : Nat) (cs : Array Value) : Frm w (w.setRow g cs) [g] :=
  ⟨rfl, rfl, rfl, by simp [World.setRow], fun k _ hk => setRow_other w g k cs (fun e => hk (by simp [e]))⟩

/-- 'copy' at the list of a plain region's operations. -/
theorem wpList_copyw {P : Program} {w : World} {ops : Array Oper} {rest : List Oper} {o : Oper} {a : Act} {Q : Exit → Act → World → Prop} (hgd : o.guard = none) (d s : Operand) (dT sT : TypeId)
    (ho : o.op = .call { callee := .builtin .copy, args := #[d, s], argTypes := #[dT, sT] }) (elem : TypeId) (size : Nat) (hu : P.underlying dT = some (.slice elem)) (hsz : (P.info? elem).map (·.size) = some size)
    (g off dLen dCap : Nat) (ad : Addr) (sLen sCap : Nat) (hd : a.eval d = .slice (some ⟨g, off, none⟩) dLen dCap) (hs : a.eval s = .slice (some ad) sLen sCap)
    (cur : List Value) (t : TypeId) (hg : w.heap[g]? = some (.cells cur.toArray t (0, 0))) (cs : List Value) (n : Nat) (hn : n = Nat.min sLen dLen) (hcl : cs.length = n * size)
    (hsrc : ∀ j v, cs[j]? = some v → w.cell? (ad.add j) = some v) (hfit : off + cs.length ≤ cur.length) (h1 : ∀ v ∈ cs, v.oneCell' = true)
    (h : ∀ w', Hid (w'.heap[g]? = some (.cells (splice cur off cs).toArray t (0, 0))) → Frm w w' [g] → wpList P ops Q rest (a.put o.dst (goInt n)) w') : wpList P ops Q (o :: rest) a w := by
  refine wpList_plain hgd fun K hK => ?_
  have hrun := run_copy_wide (P := P) w dT sT o.type elem size g off dLen dCap ad sLen sCap cur.toArray t cs n hu hsz hg hn hcl hsrc (by simpa using hfit) h1
  unfold Oper.wp
  simp [execOp, ho, resolve, invoke, builtin, hd, hs, hrun, Result.andThen]
  exact hK _ _ (h _ (show _ = _ by simpa [splice] using setRow_heap w g _ _ t _ hg) (setRow_frm _ _ _))

/-- .. and as one step of a region that draws its order. -/
theorem step_copyw {P : Program} {w : World} {ops : Array Oper} {o : Oper} {a : Act} {K : Act → World → Prop} {Q : Exit → Act → World → Prop} {E : Prop} (hgd : o.guard = none) (d s : Operand) (dT sT : TypeId)
    (ho : o.op = .call { callee := .builtin .copy, args := #[d, s], argTypes := #[dT, sT] }) (elem : TypeId) (size : Nat) (hu : P.underlying dT = some (.slice elem)) (hsz : (P.info? elem).map (·.size) = some size)
    (g off dLen dCap : Nat) (ad : Addr) (sLen sCap : Nat) (hd : a.eval d = .slice (some ⟨g, off, none⟩) dLen dCap) (hs : a.eval s = .slice (some ad) sLen sCap)
    (cur : List Value) (t : TypeId) (hg : w.heap[g]? = some (.cells cur.toArray t (0, 0))) (cs : List Value) (n : Nat) (hn : n = Nat.min sLen dLen) (hcl : cs.length = n * size)
    (hsrc : ∀ j v, cs[j]? = some v → w.cell? (ad.add j) = some v) (hfit : off + cs.length ≤ cur.length) (h1 : ∀ v ∈ cs, v.oneCell' = true)
    (h : ∀ w', Hid (w'.heap[g]? = some (.cells (splice cur off cs).toArray t (0, 0))) → Frm w w' [g] → K (a.put o.dst (goInt n)) w') : if Region.wanted o (yielded ops a.tmps) = true then Oper.wp P o a w K Q else E := by
  have hw : Region.wanted o (yielded ops a.tmps) = true := by simp [Region.wanted, hgd]
  rw [if_pos hw]
  have hrun := run_copy_wide (P := P) w dT sT o.type elem size g off dLen dCap ad sLen sCap cur.toArray t cs n hu hsz hg hn hcl hsrc (by simpa using hfit) h1
  unfold Oper.wp
  simp [execOp, ho, resolve, invoke, builtin, hd, hs, hrun, Result.andThen]
  exact h _ (show _ = _ by simpa [splice] using setRow_heap w g _ _ t _ hg) (setRow_frm _ _ _)
end Go.Proofs.YtkmmhlimihkgfaaGreat

/- What two copies make of a row: plain mathematics. -/
namespace Go.Proofs.YtkmmhlimihkgfaaGreat
open Go.RowKit
set_option linter.unusedVariables false

theorem splice_get {α : Type} (L cs : List α) (o j : Nat) (h : o + cs.length ≤ L.length) : (splice L o cs)[j]? = if j < o then L[j]? else if j < o + cs.length then cs[j - o]? else L[j]? := by
  unfold splice
  have hl : (L.take o).length = o := by simp; omega
  by_cases h1 : j < o
  · rw [if_pos h1, List.getElem?_append_left (by omega), List.getElem?_take, if_pos h1]
  · rw [if_neg h1, List.getElem?_append_right (by omega), hl]
    by_cases h2 : j < o + cs.length
    · rw [if_pos h2, List.getElem?_append_left (by omega)]
    · rw [if_neg h2, List.getElem?_append_right (by omega), List.getElem?_drop]
      congr 1
      omega
theorem two_copies {α : Type} (L : List α) (R C Y : List α) (a c y : Nat) (hR : R.length = L.length) (hc : C.length = c) (hy : Y.length = y) (h : a + c + y ≤ L.length)
    (hg : ∀ j, R[j]? = if j < a then L[j]? else if j < a + c then C[j - a]? else if j < a + c + y then Y[j - (a + c)]? else R[j]?) : R.take (a + c + y) = L.take a ++ (C ++ Y) := by
  apply List.ext_getElem?
  intro j
  have hl : (L.take a).length = a := by simp; omega
  rw [List.getElem?_take, List.getElem?_append, hl, List.getElem?_take, List.getElem?_append, hc]
  by_cases h1 : j < a
  · rw [if_pos (by omega), if_pos h1, if_pos h1, hg j, if_pos h1]
  · rw [if_neg h1]
    by_cases h2 : j < a + c
    · rw [if_pos (by omega), if_pos (by omega), hg j, if_neg h1, if_pos h2]
    · rw [if_neg (show ¬ (j - a < c) by omega)]
      by_cases h3 : j < a + c + y
      · rw [if_pos h3, hg j, if_neg h1, if_neg h2, if_pos h3]; congr 1; omega
      · rw [if_neg h3, List.getElem?_eq_none (by omega)]
theorem ins_up {α : Type} (L C Y : List α) (a c y : Nat) (hc : C.length = c) (hy : Y.length = y) (h : a + c + y ≤ L.length) : (splice (splice L (a + c) Y) a C).take (a + c + y) = L.take a ++ (C ++ Y) := by
  have l1 := length_splice L (a + c) Y (by omega)
  refine two_copies L _ C Y a c y (by rw [length_splice _ _ _ (by omega), l1]) hc hy h (fun j => ?_)
  rw [splice_get _ _ _ _ (by omega), splice_get _ _ _ _ (by omega), hc, hy]
  by_cases h1 : j < a
  · simp only [if_pos h1, if_pos (show j < a + c by omega)]
  · by_cases h2 : j < a + c
    · simp only [if_neg h1, if_pos h2]
    · simp only [if_neg h1, if_neg h2]
      split <;> rfl
theorem ins_new {α : Type} (L C Y : List α) (a c y : Nat) (hc : C.length = c) (hy : Y.length = y) (h : a + c + y ≤ L.length) : (splice (splice L a C) (a + c) Y).take (a + c + y) = L.take a ++ (C ++ Y) := by
  have l1 := length_splice L a C (by omega)
  refine two_copies L _ C Y a c y (by rw [length_splice _ _ _ (by omega), l1]) hc hy h (fun j => ?_)
  rw [splice_get _ _ _ _ (by omega), splice_get _ _ _ _ (by omega), hc, hy]
  by_cases h1 : j < a
  · simp only [if_pos h1, if_pos (show j < a + c by omega)]
  · by_cases h2 : j < a + c
    · simp only [if_neg h1, if_pos h2]
    · simp only [if_neg h1, if_neg h2]
      split <;> rfl
end Go.Proofs.YtkmmhlimihkgfaaGreat

/- slices.Insert of one operation into a row of the call's own. -/
namespace Go.Proofs.YtkmmhlimihkgfaaGreat
open Go.RowKit
set_option linter.unusedVariables false
set_option maxRecDepth 100000

def InsAns (w : World) (v : Value) (n : Nat) (ys : List Value) (e : Ending) (w' : World) : Prop :=
  ∃ g cap, e = .returned (.slice (some ⟨g, 0, none⟩) (n + 1) cap) ∧ w'.ownsRow 0 28 12 (.slice (some ⟨g, 0, none⟩) (n + 1) cap) (n + 1) ys ∧ Frm w w' (FB v) ∧ (v.ownBlock = some g ∨ w.heap.size ≤ g) ∧ g < w'.heap.size

theorem loc_cells {w : World} {g : Nat} {C : List Value} {T : TypeId} (h : Loc w g C.toArray T) (j : Nat) (u : Value) (hj : C[j]? = some u) : w.cell? ((⟨g, 0, none⟩ : Addr).add j) = some u := by
  rw [add_plain, Nat.zero_add, h.cell j]
  simpa using hj

set_option maxHeartbeats 6400000 in
theorem ins_end (w : World) (v : Value) (n vb : Nat) (xs C : List Value) (h : w.ownsRow 0 28 12 v n xs) (hC : C.length = 12) (hl : Loc w vb C.toArray 28) (h1 : ∀ u ∈ C, u.oneCell' = true) (hn : n ≤ 100000) :
    Calls Tryz.prog 92 #[v, .int .i64 n, .slice (some ⟨vb, 0, none⟩) 1 1] w (InsAns w v n (xs ++ C)) := by
  obtain ⟨i0, hi, hz0, hz1, hz2⟩ := info_parts Tryz.info28
  have hcell := loc_cells hl
  have H := hide h
  have hsh : v = .slice none 0 0 ∧ n = 0 ∨ ∃ g cap, v = .slice (some ⟨g, 0, none⟩) n cap ∧ n ≤ cap := by
    rcases h.2 with ⟨rfl, rfl⟩ | ⟨g, cap, cur, rfl, _, _, hc, _⟩
    · exact .inl ⟨rfl, rfl⟩
    · exact .inr ⟨g, cap, rfl, hc⟩
  clear h
  rcases hsh with ⟨rfl, rfl⟩ | ⟨g, cap, rfl, hnc⟩
  · go_enter Tryz.func92, Tryz.ntmps92
    go_wp2_with (at_builtin; refine wpList_append_lies w rfl _ _ 23 rfl 0 28 i0 _ 12 144 Tryz.underlying23 hi hz0 hz1 hz2 rfl (by decide) _ 0 xs rfl (unhide H) ⟨vb, 0, none⟩ 1 1 C rfl (by omega) hcell h1 (by omega) (by unfold maxLen; omega) (by omega) (Nat.zero_le _) w.heap.size rfl ?_; intro g cap w' k1 k2 k3 k4)
    go_ret
    exact ⟨g, cap, rfl, k1, Frm.ofGrown k2, k3.imp id (fun e => by omega), k4⟩
  · go_enter Tryz.func92, Tryz.ntmps92
    go_wp2_with (at_builtin; refine wpList_append_lies w rfl _ _ 23 rfl 0 28 i0 _ 12 144 Tryz.underlying23 hi hz0 hz1 hz2 rfl (by decide) _ n xs rfl (unhide H) ⟨vb, 0, none⟩ 1 1 C rfl (by omega) hcell h1 (by omega) (by unfold maxLen; omega) (by omega) (Nat.zero_le _) w.heap.size rfl ?_; intro g' cap' w' k1 k2 k3 k4)
    all_goals (go_ret; exact ⟨g', cap', rfl, k1, Frm.ofGrown k2, k3.imp id (fun e => by omega), k4⟩)

theorem own_whole {w : World} {g n cap : Nat} {xs : List Value} (h : w.ownsRow 0 28 12 (.slice (some ⟨g, 0, none⟩) n cap) n xs) :
    ∃ R : List Value, Loc w g R.toArray 28 ∧ n ≤ cap ∧ cap ≤ maxLen ∧ R.length = cap * 12 ∧ R.take (n * 12) = xs := by
  rcases h.2 with ⟨h, _⟩ | ⟨g', cap', cur, h, _, hg, a, b, c, d⟩
  · cases h
  · cases h
    exact ⟨cur.toList, by simpa [Loc] using hg, a, b, by simpa using c, d⟩
theorem own_make {w : World} {g n cap : Nat} {R xs : List Value} (h : Loc w g R.toArray 28) (a : n ≤ cap) (b : cap ≤ maxLen) (c : R.length = cap * 12) (d : R.take (n * 12) = xs) : w.ownsRow 0 28 12 (.slice (some ⟨g, 0, none⟩) n cap) n xs := by
  refine ⟨?_, .inr ⟨g, cap, R.toArray, rfl, Nat.zero_le _, h, a, b, by simpa using c, by simpa using d⟩⟩
  have : n * 12 ≤ cap * 12 := Nat.mul_le_mul_right _ a
  rw [← d, List.length_take]; omega

set_option maxHeartbeats 8000000 in
theorem ins_grow (w : World) (g n cap i vb : Nat) (xs C : List Value) (h : w.ownsRow 0 28 12 (.slice (some ⟨g, 0, none⟩) n cap) n xs) (hC : C.length = 12) (hl : Loc w vb C.toArray 28) (h1 : ∀ u ∈ C, u.oneCell' = true) (hx1 : ∀ u ∈ xs, u.oneCell' = true) (hn : n ≤ 100000) (hi : i < n) (hroom : cap < n + 1) :
    Calls Tryz.prog 92 #[.slice (some ⟨g, 0, none⟩) n cap, .int .i64 i, .slice (some ⟨vb, 0, none⟩) 1 1] w (InsAns w (.slice (some ⟨g, 0, none⟩) n cap) n (xs.take (i * 12) ++ (C ++ xs.drop (i * 12)))) := by
  obtain ⟨i0, hi0, hz0, hzs, hzb⟩ := info_parts Tryz.info28
  have hsz : (Tryz.prog.info? 28).map (·.size) = some 12 := by rw [hi0]; simp [hzs]
  have hxl := h.1
  obtain ⟨R0, hg, hnc, hcm, hcs, htk⟩ := own_whole h
  have hcells : ∀ j u, xs[j]? = some u → w.cell? ⟨g, j, none⟩ = some u := fun j u hj => by
    rw [hg.cell j]
    rw [← htk, List.getElem?_take] at hj
    split at hj
    · simpa using hj
    · cases hj
  have hin : i * 12 ≤ n * 12 := Nat.mul_le_mul_right _ (by omega)
  have hold : (Builtin.firstCells i0.size i (.slice (some ⟨g, 0, none⟩) i cap)).run Tryz.prog w.drew = .ok (xs.take (i * 12)).toArray w.drew := by
    rw [hzs]
    exact run_firstCells_some w.drew 12 i ⟨g, 0, none⟩ i cap (xs.take (i * 12)) (by rw [List.length_take]; omega) (fun j v hj => by
      rw [add_plain, Nat.zero_add]
      rw [List.getElem?_take] at hj
      split at hj
      · exact hcells j v hj
      · cases hj)
  have hik : i + (n + 1 - i) = n + 1 := by omega
  have hkk : (n : Int) + 1 - (i : Int) = ((n + 1 - i : Nat) : Int) := by omega
  obtain ⟨z, hz⟩ : ∃ z : Value, z = .agg #[.int .i64 0, .int .i64 0, .int .i64 0, .int .i64 0, .int .i64 0, .int .i64 0, .int .i64 0, .slice none 0 0, .int .i64 0, .slice none 0 0, .slice none 0 0, .bool false] := ⟨_, rfl⟩
  have hzc : z.cells.size = 12 := by rw [hz]; rfl
  rw [← hz] at hz0
  obtain ⟨G, hG⟩ : ∃ G, G = grownCap w (n + 1) cap 28 := ⟨_, rfl⟩
  obtain ⟨R, hR⟩ : ∃ R : List Value, R = ((xs.take (i * 12)).toArray ++ Builtin.zeroCells z.cells (n + 1 - i) ++ Builtin.zeroCells z.cells (G - (n + 1))).toList := ⟨_, rfl⟩
  have hrz : ∀ ty, (Builtin.append_ #[23, 3] ty #[.slice (some ⟨g, 0, none⟩) i cap, .int .i64 ((n : Int) + 1 - (i : Int))]).run Tryz.prog w = .ok (.slice (some ⟨w.heap.size, 0, none⟩) (n + 1) G) (w.drew.alloc (.cells R.toArray 28)) := by
    intro ty
    have h := Lib.run_append_grow_zeros w 23 3 ty 28 i0 z .i64 .i64 Tryz.underlying23 Tryz.underlying3 hi0 hz0 (some ⟨g, 0, none⟩) i cap (xs.take (i * 12)) hold (n + 1 - i) (by omega) (by omega) (by omega) (by omega) (by rw [hzb]; omega) (by rw [hzb, hik]; exact growslice_fits hroom (by omega))
    rw [hik, ← hG] at h
    rw [hkk, hR, Array.toArray_toList]
    exact h
  have hGn : n + 1 ≤ G := by rw [hG]; exact grownCap_ge w _ _ _
  have hGm : G ≤ maxLen := by rw [hG]; exact grownCap_le_maxLen w (n + 1) cap 28 (by unfold maxLen; omega)
  have hRl : R.length = G * 12 := by
    rw [hR]
    simp [Builtin.zeroCells, hzc, List.length_take]
    omega
  have hRt : R.take (i * 12) = xs.take (i * 12) := by
    rw [hR]
    simp [List.take_append, List.length_take]
    have e : i * 12 - min (i * 12) xs.length = 0 := by omega
    rw [e]
    simp [List.take_take]
  have hdl : (xs.drop (i * 12)).length = (n - i) * 12 := by rw [List.length_drop]; omega
  have hGi : ¬ (G = i) := by omega
  have hGim : ¬ (G = i + 1) := by omega
  have hci : ¬ (cap = i) := by omega
  have hG63 : G ≤ 9223372036854775807 := by unfold maxLen at hGm; omega
  have hW1 : ((w.alloc (.cells R.toArray 28)).drew).heap[w.heap.size]? = some (.cells R.toArray 28 (0, 0)) := heap_alloc_new w _
  have hlv : Loc (w.alloc (.cells R.toArray 28)).drew vb C.toArray 28 := hl.alloc _
  have hgo : Loc (w.alloc (.cells R.toArray 28)).drew g R0.toArray 28 := hg.alloc _
  have hfa : Frm w (w.alloc (.cells R.toArray 28)).drew [] := ⟨rfl, rfl, rfl, by simp [World.drew], fun k hk _ => heap_alloc_old w _ hk⟩
  have hglt := hg.lt
  have hvlt := hl.lt
  clear hold hkk hik hR hG h hcells
  go_enter Tryz.func92, Tryz.ntmps92
  go_wp2_with (first
    | (at_builtin; refine Lib.wpList_append_run _ rfl _ _ _ _ rfl _ _ rfl rfl _ _ (hrz _) ?_)
    | (refine wpList_copyw rfl _ _ 23 23 rfl 28 12 Tryz.underlying23 hsz w.heap.size (i * 12) (n + 1 - i) (G - i) ⟨vb, 0, none⟩ 1 1 ?_ ?_ R 28 ?_ C 1 (by simp only [Nat.min_def]; split <;> omega) (by omega) ?_ (by omega) h1 ?_; rfl; rfl; exact hW1; exact loc_cells hlv; intro w2 hg2 hf2))
  have hg2' := unhide hg2
  have hgo2 := hgo.frm hf2 (by simp; omega)
  have hcells2 : ∀ j u, (xs.drop (i * 12))[j]? = some u → w2.cell? ((⟨g, i * 12, none⟩ : Addr).add j) = some u := fun j u hj => by
    rw [add_plain, hgo2.cell]
    rw [List.getElem?_drop, ← htk, List.getElem?_take] at hj
    split at hj
    · simpa using hj
    · cases hj
  have hsl : (splice R (i * 12) C).length = G * 12 := by rw [length_splice _ _ _ (by omega)]; exact hRl
  have hd1 : ∀ u ∈ xs.drop (i * 12), u.oneCell' = true := fun u hu => hx1 u (List.mem_of_mem_drop hu)
  have HM := hide (show n - i = Nat.min (n - i) (n - i) by simp only [Nat.min_def]; split <;> omega)
  have hb1 : (0 : Int) ≤ (i : Int) + 1 := by omega
  have hin' : i ≤ n := by omega
  have hb3 : (i : Int) ≤ (n : Int) := by omega
  have hgd : w2.drew.heap[w.heap.size]? = some (.cells (splice R (i * 12) C).toArray 28 (0, 0)) := hg2'
  have hcd : ∀ j u, (xs.drop (i * 12))[j]? = some u → w2.drew.cell? ((⟨g, i * 12, none⟩ : Addr).add j) = some u := hcells2
  have hw1 : IntKind.i64.wrap ((i : Int) + 1) = (i : Int) + 1 := by rw [IntKind.wrap_i64]; omega
  have htn : ((i : Int) + 1).toNat = i + 1 := by omega
  clear hrz hW1 hlv
  go_region_law (refine step_copyw rfl _ _ 23 23 rfl 28 12 Tryz.underlying23 hsz w.heap.size ((i + 1) * 12) (n - i) (G - (i + 1)) ⟨g, i * 12, none⟩ (n - i) (cap - i) (by simp [Act.eval, Act.put]) (by simp [Act.eval, Act.put]) (splice R (i * 12) C) 28 hgd (xs.drop (i * 12)) (n - i) (unhide HM) hdl hcd (by omega) hd1 ?_; intro w3 hg3 hf3)
  go_wp2
  go_ret
  have hfin := ins_new R C (xs.drop (i * 12)) (i * 12) 12 ((n - i) * 12) hC hdl (by omega)
  rw [hRt] at hfin
  have hg3' : Loc w3 w.heap.size (splice (splice R (i * 12) C) (i * 12 + 12) (xs.drop (i * 12))).toArray 28 := by
    have := unhide hg3
    rw [show (i + 1) * 12 = i * 12 + 12 by omega] at this
    exact this
  refine ⟨w.heap.size, G, rfl, own_make hg3' hGn hGm (by rw [length_splice _ _ _ (by omega)]; exact hsl) ?_, ?_, .inr (Nat.le_refl _), hg3'.lt⟩
  · rw [← hfin]; congr 1; omega
  · have f2 : Frm w w2 [] := hfa.new hf2 (fun q hq => by simp at hq; omega)
    have f3 : Frm w w3 [] := f2.new (⟨hf3.os, hf3.tape, hf3.output, hf3.size, hf3.block⟩ : Frm w2 w3 [w.heap.size]) (fun q hq => by simp at hq; omega)
    exact f3.mono (fun q hq => by simp at hq)

theorem loc_shape {w : World} {g : Nat} {C : List Value} {T : TypeId} (h : Loc w g C.toArray T) : w.shape? g = some (T, C.length) := by
  unfold Loc at h
  simp [World.shape?, h]

set_option maxHeartbeats 8000000 in
theorem ins_shift (w : World) (g n cap i vb : Nat) (xs C : List Value) (h : w.ownsRow 0 28 12 (.slice (some ⟨g, 0, none⟩) n cap) n xs) (hC : C.length = 12) (hl : Loc w vb C.toArray 28) (h1 : ∀ u ∈ C, u.oneCell' = true) (hx1 : ∀ u ∈ xs, u.oneCell' = true) (hn : n ≤ 100000) (hi : i < n) (hroom : n + 1 ≤ cap) (hvb : vb ≠ g) :
    Calls Tryz.prog 92 #[.slice (some ⟨g, 0, none⟩) n cap, .int .i64 i, .slice (some ⟨vb, 0, none⟩) 1 1] w (InsAns w (.slice (some ⟨g, 0, none⟩) n cap) n (xs.take (i * 12) ++ (C ++ xs.drop (i * 12)))) := by
  obtain ⟨i0, hi0, hz0, hzs, hzb⟩ := info_parts Tryz.info28
  have hsz : (Tryz.prog.info? 28).map (·.size) = some 12 := by rw [hi0]; simp [hzs]
  have hsz' : ∀ w, (sizeOf 28).run Tryz.prog w = .ok 12 w := fun w => by simp [sizeOf, typeInfo, hi0, hzs]
  have hxl := h.1
  obtain ⟨R0, hg, hnc, hcm, hcs, htk⟩ := own_whole h
  have hov : ∀ lb cb, (callFunc 126 #[.slice (some ⟨vb, 0, none⟩) 1 1, .slice (some ⟨g, (i + 1) * 12, none⟩) lb cb]).run Tryz.prog w = .ok (.value (.bool false)) w := fun lb cb => by
    rw [run_callFunc_extern Tryz.func126 (by kernel_rfl) (by kernel_rfl) (by kernel_rfl) (e := Extern.SlicesOverlaps.overlaps #[23, 23] #[4]) (by kernel_rfl),
      Lib.run_overlaps_apart w 23 4 28 Tryz.underlying23 12 hsz' ⟨vb, 0, none⟩ ⟨g, (i + 1) * 12, none⟩ 1 1 lb cb hvb _ _ _ _ (loc_shape hl) (loc_shape hg) (by rw [hcs]; omega) (hl.frozen 0) (hl.frozen _)]
    rfl
  have hin : i * 12 ≤ n * 12 := Nat.mul_le_mul_right _ (by omega)
  have hRt : R0.take (i * 12) = xs.take (i * 12) := by rw [← htk, List.take_take, Nat.min_eq_left (by omega)]
  have hdl : (xs.drop (i * 12)).length = (n - i) * 12 := by rw [List.length_drop]; omega
  have hd1 : ∀ u ∈ xs.drop (i * 12), u.oneCell' = true := fun u hu => hx1 u (List.mem_of_mem_drop hu)
  have hcells : ∀ j u, (xs.drop (i * 12))[j]? = some u → w.drew.cell? ((⟨g, i * 12, none⟩ : Addr).add j) = some u := fun j u hj => by
    have : w.cell? ((⟨g, i * 12, none⟩ : Addr).add j) = some u := by
      rw [add_plain, hg.cell]
      rw [List.getElem?_drop, ← htk, List.getElem?_take] at hj
      split at hj
      · simpa using hj
      · cases hj
    exact this
  have hgd : w.drew.heap[g]? = some (.cells R0.toArray 28 (0, 0)) := hg
  have hfd : Frm w w.drew [] := ⟨rfl, rfl, rfl, Nat.le_refl _, fun _ _ _ => rfl⟩
  have hld : Loc w.drew vb C.toArray 28 := hl
  have HM := hide (show n - i = Nat.min (n + 1 - i) (n - i) by simp only [Nat.min_def]; split <;> omega)
  have HM2 := hide (show 1 = Nat.min 1 (n + 1 - i) by simp only [Nat.min_def]; split <;> omega)
  have hw1 : IntKind.i64.wrap ((i : Int) + 1) = (i : Int) + 1 := by rw [IntKind.wrap_i64]; omega
  have htn : ((i : Int) + 1).toNat = i + 1 := by omega
  have hb1 : (0 : Int) ≤ (i : Int) + 1 := by omega
  have hin' : i ≤ n := by omega
  have hb3 : (i : Int) ≤ (n : Int) := by omega
  have hb2 : ¬ (cap = i + 1) := by omega
  have hb4 : ¬ (cap = i) := by omega
  have hb5 : (i : Int) ≤ (n : Int) + 1 := by omega
  have hc63 : cap ≤ 9223372036854775807 := by unfold maxLen at hcm; omega
  have hlen := length_splice R0 ((i + 1) * 12) (xs.drop (i * 12)) (by omega)
  clear h
  go_enter Tryz.func92, Tryz.ntmps92
  go_wp2_with (simp only [hov])
  go_region_law (refine step_copyw rfl _ _ 23 23 rfl 28 12 Tryz.underlying23 hsz g ((i + 1) * 12) (n - i) (cap - (i + 1)) ⟨g, i * 12, none⟩ (n + 1 - i) (cap - i) (by simp [Act.eval, Act.put]) (by simp [Act.eval, Act.put]) R0 28 hgd (xs.drop (i * 12)) (n - i) (unhide HM) hdl hcells (by omega) hd1 ?_; intro w3 hg3 hf3)
  have hg3' := unhide hg3
  have hl3 : Loc w3 vb C.toArray 28 := hld.frm hf3 (by simpa using hvb)
  go_wp2_with (refine wpList_copyw rfl _ _ 23 23 rfl 28 12 Tryz.underlying23 hsz g (i * 12) (n + 1 - i) (cap - i) ⟨vb, 0, none⟩ 1 1 ?_ ?_ (splice R0 ((i + 1) * 12) (xs.drop (i * 12))) 28 ?_ C 1 (unhide HM2) (by omega) ?_ (by omega) h1 ?_; rfl; rfl; exact hg3'; exact loc_cells hl3; intro w4 hg4 hf4)
  go_ret
  have hfin := ins_up R0 C (xs.drop (i * 12)) (i * 12) 12 ((n - i) * 12) hC hdl (by omega)
  rw [hRt] at hfin
  have hg4' : Loc w4 g (splice (splice R0 (i * 12 + 12) (xs.drop (i * 12))) (i * 12) C).toArray 28 := by
    have := unhide hg4
    rw [show (i + 1) * 12 = i * 12 + 12 by omega] at this
    exact this
  refine ⟨g, cap, rfl, own_make hg4' hroom hcm ?_ ?_, ?_, .inl rfl, hg4'.lt⟩
  · rw [show (i + 1) * 12 = i * 12 + 12 by omega] at hlen
    rw [length_splice _ _ _ (by omega), hlen]; exact hcs
  · rw [← hfin]; congr 1; omega
  · exact ((hfd.mono (fun q hq => by simp at hq)).trans hf3).trans hf4
end Go.Proofs.YtkmmhlimihkgfaaGreat

/- Rows of elements of a call's own: a cell of one, its blocks apart. No program. -/
namespace Go.Proofs.YtkmmhlimihkgfaaGreat
open Go.RowKit
set_option linter.unusedVariables false

/-- A cell of a row of elements. -/
theorem own_cellAt {w : World} {base g n cap size : Nat} {e : TypeId} {Cs : List (List Value)} (h : w.ownsRow base e size (.slice (some ⟨g, 0, none⟩) n cap) n Cs.flatten) (hC : ∀ i, i < Cs.length → (Cs.getD i []).length = size) (hl : Cs.length = n) (i j : Nat) (hi : i < n) (hj : j < size) :
    w.cell? ⟨g, i * size + j, none⟩ = (Cs.getD i [])[j]? := by
  have hlt : i * size + j < n * size := by
    have : (i + 1) * size ≤ n * size := Nat.mul_le_mul_right _ hi
    rw [Nat.succ_mul] at this; omega
  rw [h.cellAt (i * size + j) hlt]
  exact flat_at Cs size hC i j (by omega) hj
theorem nodup_part {a b : List Nat} (h : (a ++ b).Nodup) : ∀ g ∈ a, g ∉ b := fun g ha hb => by
  rw [List.nodup_append] at h
  exact h.2.2 g ha g hb rfl
theorem nodup_flat : ∀ {Fs : List (List Nat)} {i j : Nat}, Fs.flatten.Nodup → i ≠ j → ∀ g ∈ Fs.getD i [], g ∉ Fs.getD j []
  | [], i, j, _, _, g, hg, _ => by simp at hg
  | F :: Fs, i, j, h, hij, g, hg, hg' => by
    rw [List.flatten_cons] at h
    have h2 := List.nodup_append.1 h
    cases i with
    | zero =>
      cases j with
      | zero => exact hij rfl
      | succ j =>
        simp only [List.getD_cons_zero] at hg
        simp only [List.getD_cons_succ] at hg'
        exact h2.2.2 g hg g (mem_flat hg') rfl
    | succ i =>
      cases j with
      | zero =>
        simp only [List.getD_cons_zero] at hg'
        simp only [List.getD_cons_succ] at hg
        exact h2.2.2 g hg' g (mem_flat hg) rfl
      | succ j =>
        simp only [List.getD_cons_succ] at hg hg'
        exact nodup_flat (i := i) (j := j) h2.2.1 (by omega) g hg hg'
theorem nodup_at : ∀ {Fs : List (List Nat)} {i : Nat}, Fs.flatten.Nodup → (Fs.getD i []).Nodup
  | [], i, _ => by simp
  | F :: Fs, i, h => by
    rw [List.flatten_cons] at h
    have h2 := List.nodup_append.1 h
    cases i with
    | zero => simpa using h2.1
    | succ i => simpa using nodup_at (i := i) h2.2.1
theorem own_grown_frm {w w' : World} {v : Value} (h : w.grownBy w' v.ownBlock) : Frm w w' (FB v) := Frm.ofGrown h

theorem own_nil_shape {w : World} {base : Nat} {e : TypeId} {size n : Nat} {v : Value} {xs : List Value} (h : w.ownsRow base e size v n xs) : ∃ a cap, v = .slice a n cap := by
  rcases h.2 with ⟨rfl, rfl⟩ | ⟨g, cap, cur, rfl, _⟩
  · exact ⟨_, _, rfl⟩
  · exact ⟨_, _, rfl⟩

theorem flat_put (size : Nat) (D : List Value) (hD : D.length = size) (i : Nat) (hi : i < size) (v : Value) : ∀ (Ds : List (List Value)) (j : Nat), (∀ i, i < Ds.length → (Ds.getD i []).length = size) → j < Ds.length → (Ds.set j (D.set i v)).flatten = (Ds.set j D).flatten.set (j * size + i) v
  | [], j, _, hj => by simp at hj
  | C :: Ds, 0, _, _ => by
    simp only [List.set_cons_zero, List.flatten_cons, Nat.zero_mul, Nat.zero_add]
    rw [List.set_append_left _ _ (by omega)]
  | C :: Ds, j + 1, h, hj => by
    have h0 : C.length = size := by simpa using h 0 (by simp)
    have e : (j + 1) * size + i = C.length + (j * size + i) := by rw [h0, Nat.succ_mul]; omega
    rw [List.set_cons_succ, List.set_cons_succ, List.flatten_cons, List.flatten_cons, e, List.set_append_right _ _ (by omega), Nat.add_sub_cancel_left]
    rw [flat_put size D hD i hi v Ds j (fun k hk => by simpa using h (k + 1) (by simpa using hk)) (by simpa using hj)]

/-- A row of elements of the call's own whose j-th is D. -/
structure RowJ (w : World) (T : TypeId) (size g n cap : Nat) (Ds : List (List Value)) (j : Nat) (D : List Value) : Prop where
  lenD : D.length = size
  lenDs : Ds.length = n
  lens : ∀ i, i < Ds.length → (Ds.getD i []).length = size
  lt : j < n
  row : w.ownsRow 0 T size (.slice (some ⟨g, 0, none⟩) n cap) n (Ds.set j D).flatten
theorem getD_set_at {α : Type} (Ds : List (List α)) (j : Nat) (D : List α) (h : j < Ds.length) : (Ds.set j D).getD j [] = D := by
  simp [List.getD_eq_getElem?_getD, h]
theorem getD_set_ne {α : Type} (Ds : List (List α)) (i j : Nat) (D : List α) (h : i ≠ j) : (Ds.set j D).getD i [] = Ds.getD i [] := by
  simp [List.getD_eq_getElem?_getD, Ne.symm h]
theorem RowJ.lens' {w : World} {T : TypeId} {size g n cap : Nat} {Ds : List (List Value)} {j : Nat} {D : List Value} (h : RowJ w T size g n cap Ds j D) : ∀ i, i < (Ds.set j D).length → ((Ds.set j D).getD i []).length = size := fun i hi => by
  by_cases e : i = j
  · subst e; rw [getD_set_at _ _ _ (by rw [h.lenDs]; exact h.lt)]; exact h.lenD
  · rw [getD_set_ne _ _ _ _ e]; exact h.lens i (by simpa using hi)
theorem RowJ.cell {w : World} {T : TypeId} {size g n cap : Nat} {Ds : List (List Value)} {j : Nat} {D : List Value} (h : RowJ w T size g n cap Ds j D) (i : Nat) (hi : i < size) : w.cell? ⟨g, j * size + i, none⟩ = D[i]? := by
  have := own_cellAt h.row h.lens' (by simp [h.lenDs]) j i h.lt hi
  rw [getD_set_at _ _ _ (by rw [h.lenDs]; exact h.lt)] at this
  exact this
theorem RowJ.put {w : World} {T : TypeId} {size g n cap : Nat} {Ds : List (List Value)} {j : Nat} {D : List Value} (h : RowJ w T size g n cap Ds j D) (i : Nat) (hi : i < size) (v : Value) : RowJ (w.setCell ⟨g, j * size + i, none⟩ v) T size g n cap Ds j (D.set i v) :=
  ⟨by rw [List.length_set]; exact h.lenD, h.lenDs, h.lens, h.lt, by
    rw [flat_put size D h.lenD i hi v Ds j h.lens (by rw [h.lenDs]; exact h.lt)]
    exact (h.row.stored (j * size + i) v).1⟩
theorem RowJ.frozen {w : World} {T : TypeId} {size g n cap : Nat} {Ds : List (List Value)} {j : Nat} {D : List Value} (h : RowJ w T size g n cap Ds j D) (i : Nat) : w.frozen? ⟨g, i, none⟩ = false := h.row.frozenAt i
theorem RowJ.frm {w w' : World} {T : TypeId} {size g n cap : Nat} {Ds : List (List Value)} {j : Nat} {D : List Value} {S : List Nat} (h : RowJ w T size g n cap Ds j D) (f : Frm w w' S) (hg : g ∉ S) : RowJ w' T size g n cap Ds j D :=
  ⟨h.lenD, h.lenDs, h.lens, h.lt, ownsRow_frm h.row f (fun p hp => by
    have : p = g := by simpa [FB, Value.ownBlock] using hp
    rw [this]; exact hg)⟩
theorem RowJ.start {w : World} {T : TypeId} {size g n cap : Nat} {Ds : List (List Value)} (hl : Ds.length = n) (h : ∀ i, i < Ds.length → (Ds.getD i []).length = size) (j : Nat) (hj : j < n) (hr : w.ownsRow 0 T size (.slice (some ⟨g, 0, none⟩) n cap) n Ds.flatten) : RowJ w T size g n cap Ds j (Ds.getD j []) :=
  ⟨h j (by omega), hl, h, hj, by
    have e : Ds.set j (Ds.getD j []) = Ds := by
      apply List.ext_getElem?
      intro i
      rw [List.getElem?_set]
      split
      · rename_i e; subst e
        rw [if_pos (by omega), List.getD_eq_getElem?_getD, List.getElem?_eq_getElem (by omega)]; rfl
      · rfl
    rw [e]; exact hr⟩
end Go.Proofs.YtkmmhlimihkgfaaGreat

/- Rows of operations of a call's own: one more put in between, one put in another's place. -/
namespace Go.Proofs.YtkmmhlimihkgfaaGreat
open Go.RowKit
set_option linter.unusedVariables false
set_option maxRecDepth 100000

theorem flat_takeI (size : Nat) : ∀ (Cs : List (List Value)) (i : Nat), (∀ k, k < Cs.length → (Cs.getD k []).length = size) → i ≤ Cs.length → (Cs.take i).flatten = Cs.flatten.take (i * size) ∧ (Cs.drop i).flatten = Cs.flatten.drop (i * size)
  | Cs, 0, _, _ => by simp
  | [], i + 1, _, h => by simp at h
  | C :: Cs, i + 1, hl, h => by
    have h0 : C.length = size := by simpa using hl 0 (by simp)
    obtain ⟨a, b⟩ := flat_takeI size Cs i (fun k hk => by simpa using hl (k + 1) (by simpa using hk)) (by simpa using h)
    have e : (i + 1) * size = C.length + i * size := by rw [h0, Nat.succ_mul]; omega
    constructor
    · rw [List.take_succ_cons, List.flatten_cons, List.flatten_cons, e, List.take_length_add_append, a]
    · rw [List.drop_succ_cons, List.flatten_cons, e, List.drop_length_add_append, b]
theorem getD_ins {α : Type} (l : List (List α)) (x : List α) (i k : Nat) (hi : i ≤ l.length) : (l.take i ++ (x :: l.drop i)).getD k [] = if k < i then l.getD k [] else if k = i then x else l.getD (k - 1) [] := by
  have hl : (l.take i).length = i := by simp; omega
  rw [List.getD_eq_getElem?_getD, List.getElem?_append, hl]
  by_cases h1 : k < i
  · rw [if_pos h1, if_pos h1, List.getElem?_take, if_pos h1, List.getD_eq_getElem?_getD]
  · rw [if_neg h1, if_neg h1]
    by_cases h2 : k = i
    · subst h2; simp
    · rw [if_neg h2, show k - i = (k - i - 1) + 1 by omega, List.getElem?_cons_succ, List.getElem?_drop, List.getD_eq_getElem?_getD]
      congr 2
      omega
theorem get_ins {α : Type} (l : List α) (x : α) (i k : Nat) (hi : i ≤ l.length) (hk : k < (l.take i ++ (x :: l.drop i)).length) : (∃ h : k < l.length, k < i ∧ (l.take i ++ (x :: l.drop i))[k] = l[k]) ∨ (k = i ∧ (l.take i ++ (x :: l.drop i))[k] = x) ∨ (∃ h : k - 1 < l.length, i < k ∧ (l.take i ++ (x :: l.drop i))[k] = l[k - 1]) := by
  have hl : (l.take i).length = i := by simp; omega
  have hk' : k < l.length + 1 := by simp at hk; omega
  by_cases h1 : k < i
  · refine .inl ⟨by omega, h1, ?_⟩
    rw [List.getElem_append_left (by omega), List.getElem_take]
  · by_cases h2 : k = i
    · subst h2
      refine .inr (.inl ⟨rfl, ?_⟩)
      rw [List.getElem_append_right (by omega)]
      simp [hl]
    · refine .inr (.inr ⟨by omega, by omega, ?_⟩)
      have : (l.take i ++ (x :: l.drop i))[k]? = l[k - 1]? := by
        rw [List.getElem?_append_right (by omega), hl, show k - i = (k - i - 1) + 1 by omega, List.getElem?_cons_succ, List.getElem?_drop]
        congr 1
        omega
      rw [List.getElem?_eq_getElem hk, List.getElem?_eq_getElem (by omega)] at this
      exact Option.some.inj this
theorem flat_ins_mem {Fs : List (List Nat)} {G : List Nat} {i q : Nat} : q ∈ (Fs.take i ++ (G :: Fs.drop i)).flatten ↔ q ∈ Fs.flatten ∨ q ∈ G := by
  have e : Fs.flatten = (Fs.take i).flatten ++ (Fs.drop i).flatten := by rw [← List.flatten_append, List.take_append_drop]
  rw [List.flatten_append, List.flatten_cons, e]
  simp only [List.mem_append]
  constructor
  · rintro (h | h | h)
    · exact .inl (.inl h)
    · exact .inr h
    · exact .inl (.inr h)
  · rintro ((h | h) | h)
    · exact .inl h
    · exact .inr (.inr h)
    · exact .inr (.inl h)
theorem flat_ins_nodup {Fs : List (List Nat)} {G : List Nat} {i : Nat} (h : Fs.flatten.Nodup) (hG : G.Nodup) (hd : ∀ q ∈ Fs.flatten, q ∉ G) : (Fs.take i ++ (G :: Fs.drop i)).flatten.Nodup := by
  have e : Fs.flatten = (Fs.take i).flatten ++ (Fs.drop i).flatten := by rw [← List.flatten_append, List.take_append_drop]
  rw [e] at h hd
  have h' := List.nodup_append.1 h
  rw [List.flatten_append, List.flatten_cons]
  refine List.nodup_append.2 ⟨h'.1, List.nodup_append.2 ⟨hG, h'.2.1, fun a ha b hb e => hd b (List.mem_append_right _ hb) (e ▸ ha)⟩, fun a ha b hb e => ?_⟩
  rcases List.mem_append.1 hb with hb | hb
  · exact hd a (List.mem_append_left _ ha) (e ▸ hb)
  · exact h'.2.2 a ha b hb e
theorem OwOps.ltI {w : World} {v : Value} {l : List OpV} {F : List Nat} (h : OwOps w v l F) : ∀ q ∈ F, q < w.heap.size := by
  obtain ⟨Cs, Fs, e1, e2, e3, e4, rfl⟩ := h
  intro q hq
  rcases List.mem_append.1 hq with hq | hq
  · exact (e4.lt q (by simpa [FB] using hq)).2
  · obtain ⟨F, hF, hq⟩ := List.mem_flatten.1 hq
    obtain ⟨i, hi, rfl⟩ := List.getElem_of_mem hF
    obtain ⟨k, n, t, _, a, b, c, e⟩ := (e3 i (by omega)).2
    have e' : Fs.getD i [] = Fs[i] := by simp [List.getD_eq_getElem?_getD, hi]
    rw [e'] at e
    rw [e] at hq
    simp only [List.mem_append] at hq
    rcases hq with (hq | hq) | hq
    · exact (a.rng q hq).2
    · exact (b.rng q hq).2
    · exact (c.rng q hq).2
theorem owc_one {w : World} {C : List Value} {o : OpV} {F : List Nat} (h : OwOpC w C o F) : ∀ u ∈ C, u.oneCell' = true := by
  obtain ⟨k, n, t, e, h1, h2, h3, _⟩ := h
  exact opc_one ⟨k, n, t, e, h1.ints, h2.byt, h3.byt⟩
theorem owc_len {w : World} {C : List Value} {o : OpV} {F : List Nat} (h : OwOpC w C o F) : C.length = 12 := by
  obtain ⟨k, n, t, rfl, _⟩ := h; rfl

/-- slices.Insert of an operation that owns its rows into a row of the call's own. -/
theorem insO_any (w : World) (v : Value) (l : List OpV) (F : List Nat) (i vb : Nat) (C : List Value) (o : OpV) (G : List Nat) (h : OwOps w v l F) (hN : F.Nodup) (hi : i ≤ l.length) (hn : l.length ≤ 100000)
    (hl : Loc w vb C.toArray 28) (ho : OwOpC w C o G) (hG : G.Nodup) (hFG : ∀ q ∈ F, q ∉ G) (hvF : vb ∉ F) :
    Calls Tryz.prog 92 #[v, .int .i64 i, .slice (some ⟨vb, 0, none⟩) 1 1] w fun e w' => ∃ u F', e = .returned u ∧ OwOps w' u (l.take i ++ (o :: l.drop i)) F' ∧ F'.Nodup ∧ (∀ q ∈ F', q ∈ F ∨ q ∈ G ∨ (w.heap.size ≤ q ∧ q < w'.heap.size)) ∧ Frm w w' (FB v) := by
  have hlt := h.ltI
  have hR := h.rd
  obtain ⟨Cs, Fs, e1, e2, e3, e4, rfl⟩ := h
  have hC : ∀ k, k < Cs.length → (Cs.getD k []).length = 12 := fun k hk => (e3 k (by omega)).1
  have hx1 : ∀ u ∈ Cs.flatten, u.oneCell' = true := by
    intro u hu
    obtain ⟨D, hD, hu⟩ := List.mem_flatten.1 hu
    obtain ⟨k, hk, rfl⟩ := List.getElem_of_mem hD
    have e' : Cs.getD k [] = Cs[k] := by simp [List.getD_eq_getElem?_getD, hk]
    have := (e3 k (by omega)).2
    rw [e'] at this
    exact owc_one this u hu
  have hmain : Calls Tryz.prog 92 #[v, .int .i64 i, .slice (some ⟨vb, 0, none⟩) 1 1] w (InsAns w v l.length (Cs.flatten.take (i * 12) ++ (C ++ Cs.flatten.drop (i * 12)))) := by
    by_cases hin : i = l.length
    · have e : i * 12 = Cs.flatten.length := by rw [e4.1, hin]
      rw [e, List.take_length, List.drop_length, List.append_nil, hin]
      exact ins_end w v l.length vb _ C e4 (owc_len ho) hl (owc_one ho) hn
    · rcases e4.2 with ⟨rfl, h0⟩ | ⟨g, cap, cur, rfl, _, hg, hnc, _⟩
      · omega
      · by_cases hroom : cap < l.length + 1
        · exact ins_grow w g l.length cap i vb _ C e4 (owc_len ho) hl (owc_one ho) hx1 hn (by omega) hroom
        · exact ins_shift w g l.length cap i vb _ C e4 (owc_len ho) hl (owc_one ho) hx1 hn (by omega) (by omega) (fun e => hvF (List.mem_append_left _ (by simp [FB, Value.ownBlock, e])))
  refine hmain.mono ?_
  rintro e w' ⟨g, cap, rfl, k1, k2, k3, k4⟩
  have hFd : ∀ q ∈ Fs.flatten, q ∉ FB v := fun q hq hv => (List.nodup_append.1 hN).2.2 q hv q hq rfl
  have hGd : ∀ q ∈ G, q ∉ FB v := fun q hq hv => hFG q (List.mem_append_left _ hv) hq
  obtain ⟨t1, t2⟩ := flat_takeI 12 Cs i hC (by omega)
  refine ⟨_, FB (.slice (some ⟨g, 0, none⟩) (l.length + 1) cap) ++ (Fs.take i ++ (G :: Fs.drop i)).flatten, rfl, ⟨Cs.take i ++ (C :: Cs.drop i), Fs.take i ++ (G :: Fs.drop i), by simp; omega, by simp; omega, fun k hk => ?_, ?_, ?_⟩, ?_, ?_, k2⟩
  · rw [getD_ins Cs C i k (by omega), getD_ins Fs G i k (by omega)]
    rcases get_ins l o i k hi hk with ⟨h, hlt', e⟩ | ⟨rfl, e⟩ | ⟨h, hlt', e⟩
    · rw [e, if_pos hlt', if_pos hlt']
      exact ⟨(e3 k h).1, (e3 k h).2.frm k2 (fun q hq => hFd q (mem_flat hq))⟩
    · rw [e, if_neg (Nat.lt_irrefl _), if_pos rfl, if_neg (Nat.lt_irrefl _), if_pos rfl]
      exact ⟨owc_len ho, ho.frm k2 hGd⟩
    · rw [e, if_neg (by omega), if_neg (by omega), if_neg (by omega), if_neg (by omega)]
      exact ⟨(e3 _ h).1, (e3 _ h).2.frm k2 (fun q hq => hFd q (mem_flat hq))⟩
  · have e : (l.take i ++ (o :: l.drop i)).length = l.length + 1 := by simp; omega
    rw [e, List.flatten_append, List.flatten_cons, t1, t2]
    exact k1
  · have e : (l.take i ++ (o :: l.drop i)).length = l.length + 1 := by simp; omega
    rfl
  · refine List.nodup_append.2 ⟨FB_nodup _, flat_ins_nodup (List.nodup_append.1 hN).2.1 hG (fun q hq => hFG q (List.mem_append_right _ hq)), fun a ha b hb e => ?_⟩
    have ea : a = g := by simpa [FB, Value.ownBlock] using ha
    subst e
    subst ea
    rcases flat_ins_mem.1 hb with hb | hb
    · rcases k3 with k3 | k3
      · exact hFd a hb (by simp [FB, k3])
      · have := hlt a (List.mem_append_right _ hb); omega
    · rcases k3 with k3 | k3
      · exact hGd a hb (by simp [FB, k3])
      · obtain ⟨kk, nn, tt, _, a1, a2, a3, rfl⟩ := ho
        simp only [List.mem_append] at hb
        have : a < w.heap.size := by
          rcases hb with (hb | hb) | hb
          · exact (a1.rng a hb).2
          · exact (a2.rng a hb).2
          · exact (a3.rng a hb).2
        omega
  · intro q hq
    rcases List.mem_append.1 hq with hq | hq
    · have eq : q = g := by simpa [FB, Value.ownBlock] using hq
      subst eq
      rcases k3 with k3 | k3
      · exact .inl (List.mem_append_left _ (by simp [FB, k3]))
      · exact .inr (.inr ⟨k3, k4⟩)
    · rcases flat_ins_mem.1 hq with hq | hq
      · exact .inl (List.mem_append_right _ hq)
      · exact .inr (.inl hq)
end Go.Proofs.YtkmmhlimihkgfaaGreat

/- An operation that owns its rows in another's place, in a row of the call's own. -/
namespace Go.Proofs.YtkmmhlimihkgfaaGreat
open Go.RowKit
set_option linter.unusedVariables false
set_option maxRecDepth 100000

theorem flat_set_mem {Fs : List (List Nat)} {G : List Nat} {i q : Nat} (h : q ∈ (Fs.set i G).flatten) : q ∈ Fs.flatten ∨ q ∈ G := by
  obtain ⟨F, hF, hq⟩ := List.mem_flatten.1 h
  rcases List.mem_or_eq_of_mem_set hF with hF | rfl
  · exact .inl (List.mem_flatten.2 ⟨F, hF, hq⟩)
  · exact .inr hq
theorem flat_set_nodup : ∀ {Fs : List (List Nat)} {G : List Nat} {i : Nat}, Fs.flatten.Nodup → G.Nodup → (∀ q ∈ Fs.flatten, q ∉ G) → (Fs.set i G).flatten.Nodup
  | [], _, _, _, _, _ => by simp
  | F :: Fs, G, 0, h, hG, hd => by
    rw [List.flatten_cons] at h hd
    have h' := List.nodup_append.1 h
    rw [List.set_cons_zero, List.flatten_cons]
    exact List.nodup_append.2 ⟨hG, h'.2.1, fun a ha b hb e => hd b (List.mem_append_right _ hb) (e ▸ ha)⟩
  | F :: Fs, G, i + 1, h, hG, hd => by
    rw [List.flatten_cons] at h hd
    have h' := List.nodup_append.1 h
    rw [List.set_cons_succ, List.flatten_cons]
    refine List.nodup_append.2 ⟨h'.1, flat_set_nodup h'.2.1 hG (fun q hq => hd q (List.mem_append_right _ hq)), fun a ha b hb e => ?_⟩
    rcases flat_set_mem hb with hb | hb
    · exact h'.2.2 a ha b hb e
    · exact hd a (List.mem_append_left _ ha) (e ▸ hb)

set_option maxHeartbeats 3200000 in
theorem OwOps.setAt {w : World} {g cap : Nat} {l : List OpV} {F : List Nat} (h : OwOps w (.slice (some ⟨g, 0, none⟩) l.length cap) l F) (hN : F.Nodup) (i : Nat) (hi : i < l.length) (v0 v1 v2 v3 v4 v5 v6 v7 v8 v9 v10 v11 : Value) (o : OpV) (G : List Nat) (ho : OwOpC w [v0, v1, v2, v3, v4, v5, v6, v7, v8, v9, v10, v11] o G) (hG : G.Nodup) (hFG : ∀ q ∈ F, q ∉ G) :
    ∃ F', OwOps ((((((((((((w.setCell ⟨g, i * 12, none⟩ v0).setCell ⟨g, i * 12 + 1, none⟩ v1).setCell ⟨g, i * 12 + 2, none⟩ v2).setCell ⟨g, i * 12 + 3, none⟩ v3).setCell ⟨g, i * 12 + 4, none⟩ v4).setCell ⟨g, i * 12 + 5, none⟩ v5).setCell ⟨g, i * 12 + 6, none⟩ v6).setCell ⟨g, i * 12 + 7, none⟩ v7).setCell ⟨g, i * 12 + 8, none⟩ v8).setCell ⟨g, i * 12 + 9, none⟩ v9).setCell ⟨g, i * 12 + 10, none⟩ v10).setCell ⟨g, i * 12 + 11, none⟩ v11) (.slice (some ⟨g, 0, none⟩) l.length cap) (l.set i o) F' ∧ F'.Nodup ∧ (∀ q ∈ F', q ∈ F ∨ q ∈ G) ∧ Frm w ((((((((((((w.setCell ⟨g, i * 12, none⟩ v0).setCell ⟨g, i * 12 + 1, none⟩ v1).setCell ⟨g, i * 12 + 2, none⟩ v2).setCell ⟨g, i * 12 + 3, none⟩ v3).setCell ⟨g, i * 12 + 4, none⟩ v4).setCell ⟨g, i * 12 + 5, none⟩ v5).setCell ⟨g, i * 12 + 6, none⟩ v6).setCell ⟨g, i * 12 + 7, none⟩ v7).setCell ⟨g, i * 12 + 8, none⟩ v8).setCell ⟨g, i * 12 + 9, none⟩ v9).setCell ⟨g, i * 12 + 10, none⟩ v10).setCell ⟨g, i * 12 + 11, none⟩ v11) [g] := by
  have hlt := h.ltI
  obtain ⟨Cs, Fs, e1, e2, e3, e4, rfl⟩ := h
  have hC : ∀ k, k < Cs.length → (Cs.getD k []).length = 12 := fun k hk => (e3 k (by omega)).1
  have R0 := RowJ.start e1 hC i hi e4
  obtain ⟨kv, nv, tv, eD, _⟩ := (e3 i hi).2
  rw [eD] at R0
  have R1 := ((((((((((((R0.put 0 (by omega) v0).put 1 (by omega) v1).put 2 (by omega) v2).put 3 (by omega) v3).put 4 (by omega) v4).put 5 (by omega) v5).put 6 (by omega) v6).put 7 (by omega) v7).put 8 (by omega) v8).put 9 (by omega) v9).put 10 (by omega) v10).put 11 (by omega) v11)
  simp only [Nat.add_zero, List.set_cons_zero, List.set_cons_succ] at R1
  have f : Frm w ((((((((((((w.setCell ⟨g, i * 12, none⟩ v0).setCell ⟨g, i * 12 + 1, none⟩ v1).setCell ⟨g, i * 12 + 2, none⟩ v2).setCell ⟨g, i * 12 + 3, none⟩ v3).setCell ⟨g, i * 12 + 4, none⟩ v4).setCell ⟨g, i * 12 + 5, none⟩ v5).setCell ⟨g, i * 12 + 6, none⟩ v6).setCell ⟨g, i * 12 + 7, none⟩ v7).setCell ⟨g, i * 12 + 8, none⟩ v8).setCell ⟨g, i * 12 + 9, none⟩ v9).setCell ⟨g, i * 12 + 10, none⟩ v10).setCell ⟨g, i * 12 + 11, none⟩ v11) [g] := ((((((((((((set_frm w g (i * 12) v0).trans (set_frm _ g (i * 12 + 1) v1)).trans (set_frm _ g (i * 12 + 2) v2)).trans (set_frm _ g (i * 12 + 3) v3)).trans (set_frm _ g (i * 12 + 4) v4)).trans (set_frm _ g (i * 12 + 5) v5)).trans (set_frm _ g (i * 12 + 6) v6)).trans (set_frm _ g (i * 12 + 7) v7)).trans (set_frm _ g (i * 12 + 8) v8)).trans (set_frm _ g (i * 12 + 9) v9)).trans (set_frm _ g (i * 12 + 10) v10)).trans (set_frm _ g (i * 12 + 11) v11))
  have hgF : g ∉ Fs.flatten := fun hq => (List.nodup_append.1 hN).2.2 g (by simp [FB, Value.ownBlock]) g hq rfl
  have hgG : g ∉ G := hFG g (List.mem_append_left _ (by simp [FB, Value.ownBlock]))
  refine ⟨FB (.slice (some ⟨g, 0, none⟩) l.length cap) ++ (Fs.set i G).flatten, ⟨Cs.set i [v0, v1, v2, v3, v4, v5, v6, v7, v8, v9, v10, v11], Fs.set i G, by simp [e1], by simp [e2], fun k hk => ?_, ?_, rfl⟩, ?_, ?_, f⟩
  · have hk' : k < l.length := by simpa using hk
    by_cases e : k = i
    · subst e
      rw [getD_set_at _ _ _ (by omega), getD_set_at _ _ _ (by omega), List.getElem_set_self]
      exact ⟨rfl, ho.frm f (fun q hq hq' => by simp at hq'; subst hq'; exact hgG hq)⟩
    · rw [getD_set_ne _ _ _ _ e, getD_set_ne _ _ _ _ e, List.getElem_set_ne (Ne.symm e)]
      exact ⟨(e3 k hk').1, (e3 k hk').2.frm f (fun q hq hq' => by simp at hq'; subst hq'; exact hgF (mem_flat hq))⟩
  · rw [List.length_set]
    exact R1.row
  · refine List.nodup_append.2 ⟨FB_nodup _, flat_set_nodup (List.nodup_append.1 hN).2.1 hG (fun q hq => hFG q (List.mem_append_right _ hq)), fun a ha b hb e => ?_⟩
    have ea : a = g := by simpa [FB, Value.ownBlock] using ha
    subst e
    subst ea
    rcases flat_set_mem hb with hb | hb
    · exact hgF hb
    · exact hgG hb
  · intro q hq
    rcases List.mem_append.1 hq with hq | hq
    · exact .inl (List.mem_append_left _ hq)
    · rcases flat_set_mem hq with hq | hq
      · exact .inl (List.mem_append_right _ hq)
      · exact .inr hq
end Go.Proofs.YtkmmhlimihkgfaaGreat

/- The laws' own count of how great a tree is, by contracts. -/
namespace Go.Proofs.YtkmmhlimihkgfaaGreat
open Go.RowKit
set_option linter.unusedVariables false

theorem ret_i64 {a b : Int} (h : a = b) : Ending.returned (.int .i64 a) = .returned (.int .i64 b) := by rw [h]

theorem szB_any (w : World) (a : Option Addr) (n cap : Nat) (left : Int) (hn : n ≤ maxLen) (h0 : 0 ≤ left) (h1 : left ≤ 1000000000) :
    Calls Tryz.prog 45 #[.slice a n cap, .int .i64 left] w fun e w' => e = .returned (.int .i64 (rest n left)) ∧ w' = w := by
  unfold maxLen at hn
  by_cases h : (n : Int) ≤ left
  · have HR := hide (rest_in h)
    have hd : ¬ left - (n : Int) < 0 := by omega
    go_enter Tryz.func45, Tryz.ntmps45
    go_wp2
    go_ret
    exact ⟨by rw [unhide HR]; rfl, rfl⟩
  · have HR := hide (rest_out h)
    have hd : left - (n : Int) < 0 := by omega
    go_enter Tryz.func45, Tryz.ntmps45
    go_wp2
    go_ret
    exact ⟨by rw [unhide HR]; rfl, rfl⟩

set_option maxHeartbeats 1600000 in
theorem szAttr_any (w : World) (a b : Value) (x : List Int × List Int) (left : Int) (ha : Byt w a x.1) (hb : Byt w b x.2) (h0 : 0 ≤ left) (h1 : left ≤ 1000000000) :
    Calls Tryz.prog 132 #[.agg #[a, b], .int .i64 left] w fun e w' => e = .returned (.int .i64 (rest (x.1.length + x.2.length) left)) ∧ Below w.heap.size w w' := by
  obtain ⟨a1, c1, rfl, _, _⟩ := ha.shape
  obtain ⟨a2, c2, rfl, _, _⟩ := hb.shape
  have m1 := ha.2.1
  have m2 := hb.2.1
  by_cases h2 : ((x.1.length : Nat) : Int) ≤ left
  · have HR := hide (rest_rest (b := x.2.length) h2)
    go_enter Tryz.func132, Tryz.ntmps132
    go_wp2_with fail
    refine (szB_any _ _ _ _ left m1 h0 h1).mono ?_
    rintro e w1 ⟨rfl, rfl⟩
    rw [rest_in h2]
    have hd : ¬ left - (x.1.length : Int) < 0 := by omega
    go_wp2_with fail
    refine (szB_any _ _ _ _ (left - (x.1.length : Int)) m2 (by omega) (by omega)).mono ?_
    rintro e w2 ⟨rfl, rfl⟩
    by_cases h3 : ((x.2.length : Nat) : Int) ≤ left - (x.1.length : Int)
    · rw [rest_in h3] at HR ⊢
      have hd2 : ¬ left - (x.1.length : Int) - (x.2.length : Int) < 0 := by omega
      go_wp2
      go_ret
      exact ⟨by rw [unhide HR]; rfl, (Below.refl _ _).alloc (Nat.le_refl _) _⟩
    · rw [rest_out h3] at HR ⊢
      go_wp2
      go_ret
      exact ⟨by rw [unhide HR]; rfl, (Below.refl _ _).alloc (Nat.le_refl _) _⟩
  · have HR := hide (rest_bad (b := x.2.length) h2)
    go_enter Tryz.func132, Tryz.ntmps132
    go_wp2_with fail
    refine (szB_any _ _ _ _ left m1 h0 h1).mono ?_
    rintro e w1 ⟨rfl, rfl⟩
    rw [rest_out (by omega)]
    go_wp2
    go_ret
    exact ⟨by rw [unhide HR]; rfl, (Below.refl _ _).alloc (Nat.le_refl _) _⟩

/-- The count of the first k members. -/
def sumTo {α : Type} (f : α → Nat) (l : List α) (k : Nat) : Nat := ((l.take k).map f).sum
theorem sumTo_step {α : Type} (f : α → Nat) (l : List α) (k : Nat) (h : k < l.length) : sumTo f l (k + 1) = sumTo f l k + f l[k] := by
  unfold sumTo
  rw [List.take_succ_eq_append_getElem h]
  simp only [List.map_append, List.sum_append, List.map_cons, List.map_nil, List.sum_cons, List.sum_nil, Nat.add_zero]
theorem sumTo_all {α : Type} (f : α → Nat) (l : List α) : sumTo f l l.length = (l.map f).sum := by simp [sumTo]
theorem sumTo_le {α : Type} (f : α → Nat) (l : List α) (k : Nat) : sumTo f l k ≤ (l.map f).sum := by
  have h : (l.map f).sum = sumTo f l k + ((l.drop k).map f).sum := by
    unfold sumTo
    rw [← List.sum_append, ← List.map_append, List.take_append_drop]
  omega

set_option maxHeartbeats 1600000 in
theorem szAttrS_any (w : World) (v : Value) (l : List (List Int × List Int)) (left : Int) (h : RdAttrs w v l) (h0 : 0 ≤ left) (h1 : left ≤ 1000000000) :
    Calls Tryz.prog 95 #[v, .int .i64 left] w fun e w' => e = .returned (.int .i64 (rest (szA l) left)) ∧ Below w.heap.size w w' := by
  have hm := h.1
  unfold maxLen at hm
  by_cases h2 : (l.length : Int) ≤ left
  · have hd : ¬ left - (l.length : Int) < 0 := by omega
    obtain ⟨_, ⟨rfl, rfl⟩ | ⟨x, cap, rfl, hc, rfl⟩ | ⟨b, off, cap, rfl, g1, g2, g3, g4, g5⟩⟩ := h
    · go_enter Tryz.func95, Tryz.ntmps95
      go_wp2
      refine wp_loop_rounds 1 ?_
      rw [rounds_succ]
      go_wp2
      go_ret
      exact ⟨ret_i64 (by rw [rest_in (by simpa [szA] using h0)]; simp [szA]), Below.refl _ _⟩
    · go_enter Tryz.func95, Tryz.ntmps95
      go_wp2
      refine wp_loop_rounds 1 ?_
      rw [rounds_succ]
      go_wp2
      go_ret
      exact ⟨ret_i64 (by rw [rest_in (by simpa [szA] using h0)]; simp [szA]), Below.refl _ _⟩
    · have HE := hide (rest_rest (b := (l.map fun x => x.1.length + x.2.length).sum) h2)
      go_enter Tryz.func95, Tryz.ntmps95
      go_wp2
      go_loopw [1, 5] (fun q i wr => ∃ k : Nat, k ≤ l.length ∧ i = .int .i64 k ∧ ((sumTo (fun x : List Int × List Int => x.1.length + x.2.length) l k : Nat) : Int) ≤ left - (l.length : Int) ∧ q = .int .i64 (left - (l.length : Int) - (sumTo (fun x : List Int × List Int => x.1.length + x.2.length) l k : Nat)) ∧ Below w.heap.size w wr) (fun _ i _ => l.length - (intOf i).toNat)
      case atStart => exact ⟨0, Nat.zero_le _, rfl, by simp [sumTo]; omega, by simp [sumTo], Below.refl _ _⟩
      case round =>
        obtain ⟨k, hk, rfl, hs, rfl, hB⟩ := hrel
        by_cases hlt : k < l.length
        · obtain ⟨C, hC, hcell, c0, c1, rfl, hc0, hc1⟩ := g5 k hlt
          have e0 := (hB.cell (p := ⟨b, off + k * 2, none⟩) g4).trans (hcell 0 (by omega))
          have e1 := (hB.cell (p := ⟨b, off + k * 2 + 1, none⟩) g4).trans (hcell 1 (by omega))
          simp only [List.getElem?_cons_zero, List.getElem?_cons_succ] at e0 e1
          have hlt' : (k : Int) < (l.length : Int) := by omega
          obtain ⟨a1, k1, hsh1, _, _⟩ := hc0.shape
          obtain ⟨a2, k2, hsh2, _, _⟩ := hc1.shape
          subst hsh1 hsh2
          generalize hq : sumTo (fun x : List Int × List Int => x.1.length + x.2.length) l k = q at *
          have HQ := hide hq
          clear hcell g5 hq
          have hst := sumTo_step (fun x : List Int × List Int => x.1.length + x.2.length) l k hlt
          have hle := sumTo_le (fun x : List Int × List Int => x.1.length + x.2.length) l (k + 1)
          rw [hst] at hle
          rw [HQ.out] at hst hle
          have HST := hide hst
          clear hst
          go_wp2_with fail
          refine (szAttr_any wr _ _ l[k] (left - (l.length : Int) - (q : Int)) (hc0.keep hB) (hc1.keep hB) (by omega) (by omega)).mono ?_
          rintro e w2 ⟨rfl, hB2⟩
          have hB3 := hB.trans (hB2.mono hB.size)
          clear hc0 hc1 hC e0 e1
          generalize l[k].fst.length + l[k].snd.length = m at *
          by_cases h3 : (m : Int) ≤ left - (l.length : Int) - (q : Int)
          · rw [rest_in h3]
            have hd3 : ¬ left - (l.length : Int) - (q : Int) - (m : Int) < 0 := by omega
            go_wp2
            go_roundw
            case rel => exact ⟨k + 1, by omega, by go_num, by rw [unhide HST]; omega, by rw [unhide HST]; exact congrArg (Value.int .i64) (by omega), hB3⟩
            case measure => simp [intOf]; omega
          · rw [rest_out h3]
            have HF := hide (show rest (szA l) left = -1 by unfold szA; rw [unhide HE, rest_out (by omega)])
            go_wp2
            go_ret
            exact ⟨by rw [unhide HF]; rfl, hB3⟩
        · have e : k = l.length := by omega
          subst e
          rw [sumTo_all] at hs ⊢
          have HF := hide (show rest (szA l) left = left - (l.length : Int) - ((l.map fun x => x.1.length + x.2.length).sum : Nat) by unfold szA; rw [unhide HE, rest_in hs])
          go_wp2
          go_ret
          exact ⟨by rw [unhide HF]; rfl, hB⟩
  · have HF := hide (show rest (szA l) left = -1 from rest_bad h2)
    obtain ⟨a, cap, rfl, _, _⟩ := h.shape
    have hd : left - (l.length : Int) < 0 := by omega
    go_enter Tryz.func95, Tryz.ntmps95
    go_wp2
    go_ret
    exact ⟨by rw [unhide HF]; rfl, Below.refl _ _⟩

/-- What szNode does to a node of depth below n. -/
def SzNodeSaid (n : Nat) : Prop := ∀ (w : World) (a b c d e : Value) (t : Tr n) (left : Int), RdNode n w [a, b, c, d, e] t → 0 ≤ left → left ≤ 1000000000 →
    Calls Tryz.prog 58 #[.agg #[a, b, c, d, e], .int .i64 left] w fun e w' => e = .returned (.int .i64 (rest (szT n t) left)) ∧ Below w.heap.size w w'

set_option maxHeartbeats 1600000 in
theorem szNodeS_any (n : Nat) (H : SzNodeSaid n) (w : World) (v : Value) (l : List (Tr n)) (left : Int) (h : RdKids n w v l) (h0 : 0 ≤ left) (h1 : left ≤ 1000000000) :
    Calls Tryz.prog 96 #[v, .int .i64 left] w fun e w' => e = .returned (.int .i64 (rest (szK n l) left)) ∧ Below w.heap.size w w' := by
  have hm := h.1
  unfold maxLen at hm
  by_cases h2 : (l.length : Int) ≤ left
  · have hd : ¬ left - (l.length : Int) < 0 := by omega
    obtain ⟨_, ⟨rfl, rfl⟩ | ⟨x, cap, rfl, hc, rfl⟩ | ⟨b, off, cap, rfl, g1, g2, g3, g4, g5⟩⟩ := h
    · go_enter Tryz.func96, Tryz.ntmps96
      go_wp2_with fail
      refine wp_loop_rounds 1 ?_
      rw [rounds_succ]
      go_wp2_with fail
      go_ret
      exact ⟨ret_i64 (by rw [rest_in (by simpa [szK] using h0)]; simp [szK]), Below.refl _ _⟩
    · go_enter Tryz.func96, Tryz.ntmps96
      go_wp2_with fail
      refine wp_loop_rounds 1 ?_
      rw [rounds_succ]
      go_wp2_with fail
      go_ret
      exact ⟨ret_i64 (by rw [rest_in (by simpa [szK] using h0)]; simp [szK]), Below.refl _ _⟩
    · have HE := hide (rest_rest (b := (l.map (szT n)).sum) h2)
      go_enter Tryz.func96, Tryz.ntmps96
      go_wp2_with fail
      go_loopw [1, 5] (fun q i wr => ∃ k : Nat, k ≤ l.length ∧ i = .int .i64 k ∧ ((sumTo (szT n) l k : Nat) : Int) ≤ left - (l.length : Int) ∧ q = .int .i64 (left - (l.length : Int) - (sumTo (szT n) l k : Nat)) ∧ Below w.heap.size w wr) (fun _ i _ => l.length - (intOf i).toNat)
      case atStart => exact ⟨0, Nat.zero_le _, rfl, by simp [sumTo]; omega, by simp [sumTo], Below.refl _ _⟩
      case round =>
        obtain ⟨k, hk, rfl, hs, rfl, hB⟩ := hrel
        by_cases hlt : k < l.length
        · obtain ⟨C, hC, hcell, hr⟩ := g5 k hlt
          obtain ⟨c0, c1, c2, c3, c4, rfl⟩ : ∃ c0 c1 c2 c3 c4, C = [c0, c1, c2, c3, c4] := by
            match C, hC with
            | [c0, c1, c2, c3, c4], _ => exact ⟨c0, c1, c2, c3, c4, rfl⟩
          have e0 := (hB.cell (p := ⟨b, off + k * 5, none⟩) g4).trans (hcell 0 (by omega))
          have e1 := (hB.cell (p := ⟨b, off + k * 5 + 1, none⟩) g4).trans (hcell 1 (by omega))
          have e2 := (hB.cell (p := ⟨b, off + k * 5 + 2, none⟩) g4).trans (hcell 2 (by omega))
          have e3 := (hB.cell (p := ⟨b, off + k * 5 + 3, none⟩) g4).trans (hcell 3 (by omega))
          have e4 := (hB.cell (p := ⟨b, off + k * 5 + 4, none⟩) g4).trans (hcell 4 (by omega))
          simp only [List.getElem?_cons_zero, List.getElem?_cons_succ] at e0 e1 e2 e3 e4
          have hlt' : (k : Int) < (l.length : Int) := by omega
          have hst := sumTo_step (szT n) l k hlt
          have hle := sumTo_le (szT n) l (k + 1)
          rw [hst] at hle
          generalize hq : sumTo (szT n) l k = q at *
          have HQ := hide hq
          have HST := hide hst
          clear hcell g5 hq hst
          go_wp2_with fail
          refine (H wr _ _ _ _ _ l[k] (left - (l.length : Int) - (q : Int)) (hr.keep hB) (by omega) (by omega)).mono ?_
          rintro e w2 ⟨rfl, hB2⟩
          have hB3 := hB.trans (hB2.mono hB.size)
          clear hC e0 e1 e2 e3 e4 hr
          generalize szT n l[k] = m at *
          by_cases h3 : (m : Int) ≤ left - (l.length : Int) - (q : Int)
          · rw [rest_in h3]
            have hd3 : ¬ left - (l.length : Int) - (q : Int) - (m : Int) < 0 := by omega
            go_wp2_with fail
            go_roundw
            case rel => exact ⟨k + 1, by omega, by go_num, by rw [unhide HST]; omega, by rw [unhide HST]; exact congrArg (Value.int .i64) (by omega), hB3⟩
            case measure => simp [intOf]; omega
          · rw [rest_out h3]
            have HF := hide (show rest (szK n l) left = -1 by unfold szK; rw [unhide HE, rest_out (by omega)])
            go_wp2_with fail
            go_ret
            exact ⟨by rw [unhide HF]; rfl, hB3⟩
        · have e : k = l.length := by omega
          subst e
          rw [sumTo_all] at hs ⊢
          have HF := hide (show rest (szK n l) left = left - (l.length : Int) - ((l.map (szT n)).sum : Nat) by unfold szK; rw [unhide HE, rest_in hs])
          go_wp2_with fail
          go_ret
          exact ⟨by rw [unhide HF]; rfl, hB⟩
  · have HF := hide (show rest (szK n l) left = -1 from rest_bad h2)
    obtain ⟨a, cap, rfl, _, _⟩ := Elems.shape h
    have hd : left - (l.length : Int) < 0 := by omega
    go_enter Tryz.func96, Tryz.ntmps96
    go_wp2_with fail
    go_ret
    exact ⟨by rw [unhide HF]; rfl, Below.refl _ _⟩

theorem szNode_zero : SzNodeSaid 0 := fun _ _ _ _ _ _ t => t.elim

set_option maxHeartbeats 3200000 in
theorem szNode_succ (n : Nat) (H : SzNodeSaid n) : SzNodeSaid (n + 1) := by
  intro w a b c d e t left hr h0 h1
  obtain ⟨a', b', c', d', e0, k1, k2, hb, hc, hd, he⟩ := hr
  simp only [List.cons.injEq, and_true] at e0
  obtain ⟨rfl, rfl, rfl, rfl, rfl⟩ := e0
  obtain ⟨ab, cb, rfl, _, _⟩ := hb.shape
  obtain ⟨ac, cc, rfl, _, _⟩ := hc.shape
  obtain ⟨ad, cd, rfl, _, _⟩ := Elems.shape hd
  obtain ⟨ae, ce, rfl, _, _⟩ := Elems.shape he
  have mb := hb.2.1
  have mc := hc.2.1
  have hz : szT (n + 1) t = t.name.length + (t.text.length + (szA t.attrs + szK n t.kids)) := by show t.name.length + t.text.length + szA t.attrs + (t.kids.length + (t.kids.map (szT n)).sum) = _; unfold szK; omega
  rw [hz]
  have hA : Below w.heap.size w (w.alloc (.cells #[.int .i64 t.kind, .slice ab t.name.length cb, .slice ac t.text.length cc, .slice ad t.attrs.length cd, .slice ae t.kids.length ce] 53)) := (Below.refl _ _).alloc (Nat.le_refl _) _
  go_enter Tryz.func58, Tryz.ntmps58
  go_wp2_with fail
  refine (szB_any _ _ _ _ left mb h0 h1).mono ?_
  rintro e w1 ⟨rfl, rfl⟩
  by_cases h2 : (t.name.length : Int) ≤ left
  · have H2 := hide (rest_rest (b := t.text.length + (szA t.attrs + szK n t.kids)) h2)
    rw [rest_in h2]
    have hd2 : ¬ left - (t.name.length : Int) < 0 := by omega
    go_wp2_with fail
    refine (szB_any _ _ _ _ (left - (t.name.length : Int)) mc (by omega) (by omega)).mono ?_
    rintro e w1 ⟨rfl, rfl⟩
    by_cases h3 : (t.text.length : Int) ≤ left - (t.name.length : Int)
    · have H3 := hide (rest_rest (b := szA t.attrs + szK n t.kids) h3)
      rw [rest_in h3]
      have hd3 : ¬ left - (t.name.length : Int) - (t.text.length : Int) < 0 := by omega
      go_wp2_with fail
      refine (szAttrS_any _ _ t.attrs (left - (t.name.length : Int) - (t.text.length : Int)) (hd.keep hA) (by omega) (by omega)).mono ?_
      rintro e w2 ⟨rfl, hB2⟩
      have hA2 := bstep hA hB2
      by_cases h4 : (szA t.attrs : Int) ≤ left - (t.name.length : Int) - (t.text.length : Int)
      · have H4 := hide (rest_rest (b := szK n t.kids) h4)
        rw [rest_in h4]
        have hd4 : ¬ left - (t.name.length : Int) - (t.text.length : Int) - (szA t.attrs : Int) < 0 := by omega
        have hc4 := cell_later hB2 (show (w.alloc (.cells #[.int .i64 t.kind, .slice ab t.name.length cb, .slice ac t.text.length cc, .slice ad t.attrs.length cd, .slice ae t.kids.length ce] 53)).cell? ⟨w.heap.size, 4, none⟩ = some (.slice ae t.kids.length ce) by simp)
        go_wp2_with fail
        refine (szNodeS_any n H w2 _ t.kids (left - (t.name.length : Int) - (t.text.length : Int) - (szA t.attrs : Int)) (RdKids.keep he hA2) (by omega) (by omega)).mono ?_
        rintro e w3 ⟨rfl, hB3⟩
        have hA3 := bstep hA2 hB3
        clear hB2 hB3 hA hA2 hc4
        by_cases h5 : (szK n t.kids : Int) ≤ left - (t.name.length : Int) - (t.text.length : Int) - (szA t.attrs : Int)
        · have H5 := hide (rest_in h5)
          rw [rest_in h5]
          have hd5 : ¬ left - (t.name.length : Int) - (t.text.length : Int) - (szA t.attrs : Int) - (szK n t.kids : Int) < 0 := by omega
          go_wp2_with fail
          go_ret
          exact ⟨by rw [unhide H2, unhide H3, unhide H4, unhide H5]; rfl, hA3⟩
        · have H5 := hide (rest_out h5)
          rw [rest_out h5]
          go_wp2_with fail
          go_ret
          exact ⟨by rw [unhide H2, unhide H3, unhide H4, unhide H5]; rfl, hA3⟩
      · have H4 := hide (rest_bad (b := szK n t.kids) h4)
        rw [rest_out h4]
        clear hB2 hA
        go_wp2_with fail
        go_ret
        exact ⟨by rw [unhide H2, unhide H3, unhide H4]; rfl, hA2⟩
    · have H3 := hide (rest_bad (b := szA t.attrs + szK n t.kids) h3)
      rw [rest_out h3]
      have HA := hide hA
      clear hA
      go_wp2_with fail
      go_ret
      exact ⟨by rw [unhide H2, unhide H3]; rfl, unhide HA⟩
  · have H2 := hide (rest_bad (b := t.text.length + (szA t.attrs + szK n t.kids)) h2)
    rw [rest_out h2]
    have HA := hide hA
    clear hA
    go_wp2_with fail
    go_ret
    exact ⟨by rw [unhide H2]; rfl, unhide HA⟩

theorem szNode_any (n : Nat) : SzNodeSaid n := by
  induction n with
  | zero => exact szNode_zero
  | succ n ih => exact szNode_succ n ih

end Go.Proofs.YtkmmhlimihkgfaaGreat

/- The laws' own copy of a tree, by contracts: the copy is the same tree, in blocks of its own. -/
namespace Go.Proofs.YtkmmhlimihkgfaaGreat
open Go.RowKit
set_option linter.unusedVariables false

set_option maxHeartbeats 1600000 in
theorem toAttr_any (w : World) (a b : Value) (x : List Int × List Int) (ha : Byt w a x.1) (hb : Byt w b x.2) (hs : x.1.length + x.2.length ≤ 2097152) :
    Calls Tryz.prog 134 #[.agg #[a, b]] w fun e w' => ∃ a1 c1 a2 c2, e = .returned (.agg #[.slice a1 x.1.length c1, .slice a2 x.2.length c2]) ∧ ∃ F, OwAttr w' [.slice a1 x.1.length c1, .slice a2 x.2.length c2] x F ∧ F.Nodup ∧ Rng F w.heap.size w'.heap.size ∧ Below w.heap.size w w' := by
  obtain ⟨p1, k1, rfl, _, _⟩ := ha.shape
  obtain ⟨p2, k2, rfl, _, _⟩ := hb.shape
  go_enter Tryz.func134, Tryz.ntmps134
  go_wp2_with fail
  have l0 := (((Loc.made w #[.slice p1 x.1.length k1, .slice p2 x.2.length k2] 154).alloc (.cells #[.slice none 0 0, .slice none 0 0] 157)).alloc (.cells #[.slice none 0 0, .slice none 0 0] 157))
  have l1 := (Loc.made (w.alloc (.cells #[.slice p1 x.1.length k1, .slice p2 x.2.length k2] 154)) #[.slice none 0 0, .slice none 0 0] 157).alloc (.cells #[.slice none 0 0, .slice none 0 0] 157)
  have l2 := Loc.made ((w.alloc (.cells #[.slice p1 x.1.length k1, .slice p2 x.2.length k2] 154)).alloc (.cells #[.slice none 0 0, .slice none 0 0] 157)) #[.slice none 0 0, .slice none 0 0] 157
  have hA : Below w.heap.size w (((w.alloc (.cells #[.slice p1 x.1.length k1, .slice p2 x.2.length k2] 154)).alloc (.cells #[.slice none 0 0, .slice none 0 0] 157)).alloc (.cells #[.slice none 0 0, .slice none 0 0] 157)) := (((Below.refl _ _).alloc (Nat.le_refl _) _).alloc (by simp) _).alloc (by simp; omega) _
  simp only [World.size_alloc] at l1 l2
  generalize hW : (((w.alloc (.cells #[.slice p1 x.1.length k1, .slice p2 x.2.length k2] 154)).alloc (.cells #[.slice none 0 0, .slice none 0 0] 157)).alloc (.cells #[.slice none 0 0, .slice none 0 0] 157)) = W at *
  have hWs : W.heap.size = w.heap.size + 3 := by rw [← hW]; simp
  clear hW
  have HWs := hide hWs
  clear hWs
  refine (toB_any W _ x.1 (ha.keep hA) (by omega)).mono ?_
  rintro e w1 ⟨v1, rfl, ho1, _, hB1⟩
  obtain ⟨a1, c1, hv1, _, _⟩ := ho1.byt.shape
  subst hv1
  have r1 := ho1.rng
  replace l0 := l0.all hB1
  replace l1 := l1.all hB1
  replace l2 := l2.all hB1
  have e0 := l0.cell 1
  have e2 := l2.cell 0
  have f2 := l2.frozen 0
  simp at e0 e2
  have hA1 := bstep hA hB1
  have m0 := l0.other (w.heap.size + 1 + 1) 0 (.slice a1 x.1.length c1) (by omega)
  have m1 := l1.other (w.heap.size + 1 + 1) 0 (.slice a1 x.1.length c1) (by omega)
  have m2 := l2.set 0 (.slice a1 x.1.length c1)
  have hf1 := set_frm w1 (w.heap.size + 1 + 1) 0 (.slice a1 x.1.length c1)
  have ho2 := ho1.frm hf1 (fun g hg => by have := r1 g hg; have := unhide HWs; simp; omega)
  have hA2 : Below w.heap.size w (w1.setCell ⟨w.heap.size + 1 + 1, 0, none⟩ (.slice a1 x.1.length c1)) := hA1.setCell (by simp; omega) _
  have hs1 := hB1.size
  have M := hide (And.intro m0 (And.intro m1 m2))
  have HO := hide ho2
  have HA2 := hide hA2
  clear hB1 l0 l1 l2 m0 m1 m2 hf1 ho1 ho2 hA2 hA hA1
  go_wp2_with fail
  refine (toB_any _ _ x.2 (hb.keep (unhide HA2)) (by omega)).mono ?_
  rintro e w2 ⟨v2, rfl, ho3, _, hB2⟩
  obtain ⟨a2, c2, hv2, _, _⟩ := ho3.byt.shape
  subst hv2
  have r2 := ho3.rng
  have n1 := (unhide M).2.1.all hB2
  have n2 := (unhide M).2.2.all hB2
  have hA3 := bstep (unhide HA2) hB2
  have ho4 := (unhide HO).keep hB2
  have hs2 := hB2.size
  have g0 := n1.cell 0
  have g1 := n1.cell 1
  have g2 := n2.cell 0
  have g3 := n2.cell 1
  have g4 := n1.frozen 0
  have g5 := n1.frozen 1
  have g6 := n2.frozen 1
  simp at g0 g1 g2 g3 hs2
  clear M HO HA2 hB2
  simp only [World.size_setCell] at r2 ho3
  have hsz := unhide HWs
  have hf : Frm w2 (((w2.setCell ⟨w.heap.size + 1 + 1, 1, none⟩ (.slice a2 x.2.length c2)).setCell ⟨w.heap.size + 1, 0, none⟩ (.slice a1 x.1.length c1)).setCell ⟨w.heap.size + 1, 1, none⟩ (.slice a2 x.2.length c2)) [w.heap.size + 1 + 1, w.heap.size + 1] :=
    (((set_frm w2 _ _ _).mono (by simp)).trans ((set_frm _ _ _ _).mono (by simp))).trans ((set_frm _ _ _ _).mono (by simp))
  have ho5 := (ho4.frm hf (fun g hg => by have := r1 g hg; simp; omega)).mono (Nat.zero_le _)
  have ho6 := (ho3.frm hf (fun g hg => by have := r2 g hg; simp; omega)).mono (Nat.zero_le _)
  have hA4 := hA3.trans (hf.below hA3.size (fun g hg => by simp at hg; omega))
  have hrng : Rng (FB (.slice a1 x.1.length c1) ++ FB (.slice a2 x.2.length c2)) w.heap.size w2.heap.size := (r1.mono (by omega) (by omega)).app (r2.mono (by omega) (by omega))
  have hnd := nodup_app (FB_nodup (.slice a1 x.1.length c1)) (FB_nodup (.slice a2 x.2.length c2)) r1 r2
  have HP := hide (And.intro ho5 (And.intro ho6 (And.intro hA4 (And.intro hrng hnd))))
  clear ho5 ho6 hA4 hrng hnd hf ho3 ho4 hA3 n1 n2 r1 r2 hsz
  go_wp2_with fail
  obtain ⟨ho5, ho6, hA4, hrng, hnd⟩ := unhide HP
  exact bodyPost_ret (v := .agg #[.slice a1 x.1.length c1, .slice a2 x.2.length c2]) (by simp [results, Tryz.results134, go_sem, g0, g1]) rfl ⟨a1, c1, a2, c2, rfl, _, ⟨_, _, rfl, ho5, ho6, rfl⟩, hnd, hrng.mono (Nat.le_refl _) (by simp), hA4⟩
end Go.Proofs.YtkmmhlimihkgfaaGreat

/- Small tools: locals made one behind the other, an element at a place, the five cells of a node's local. -/
namespace Go.Proofs.YtkmmhlimihkgfaaGreat
open Go.RowKit
set_option linter.unusedVariables false
set_option maxRecDepth 100000

/-- Two locals of their own, made one behind the other. -/
theorem two (w : World) (A Z : Array Value) (TA T : TypeId) : Loc ((w.alloc (.cells A TA)).alloc (.cells Z T)) w.heap.size A TA ∧ Loc ((w.alloc (.cells A TA)).alloc (.cells Z T)) (w.heap.size + 1) Z T ∧ Below w.heap.size w ((w.alloc (.cells A TA)).alloc (.cells Z T)) := by
  refine ⟨(Loc.made w A TA).alloc _, ?_, ((Below.refl _ _).alloc (Nat.le_refl _) _).alloc (by simp) _⟩
  have := Loc.made (w.alloc (.cells A TA)) Z T
  simp only [World.size_alloc] at this
  exact this

/-- The element at a place, where there is one. -/
theorem Elems.at {α : Type} {w : World} {size m : Nat} {a : Option Addr} {cap k : Nat} {l : List α} {R : List Value → α → Prop} (h : Elems w size (.slice a m cap) l R) (hk : k < l.length) :
    ∃ b off, a = some ⟨b, off, none⟩ ∧ b < w.heap.size ∧ m = l.length ∧ m ≤ cap ∧ ∃ C : List Value, C.length = size ∧ (∀ j, j < size → w.cell? ⟨b, off + k * size + j, none⟩ = C[j]?) ∧ R C l[k] := by
  obtain ⟨_, ⟨_, e⟩ | ⟨_, _, _, _, e⟩ | ⟨b, off, c, e, g1, g2, g3, g4, g5⟩⟩ := h
  · subst e; simp at hk
  · subst e; simp at hk
  · injection e with e1 e2 e3
    subst e1 e2 e3
    exact ⟨b, off, rfl, g4, rfl, g1, g5 k hk⟩

/-- The five cells of a local of its own. -/
theorem Loc.five {w : World} {g : Nat} {a b c d e : Value} {T : TypeId} (h : Loc w g #[a, b, c, d, e] T) :
    w.cell? ⟨g, 0, none⟩ = some a ∧ w.cell? ⟨g, 1, none⟩ = some b ∧ w.cell? ⟨g, 2, none⟩ = some c ∧ w.cell? ⟨g, 3, none⟩ = some d ∧ w.cell? ⟨g, 4, none⟩ = some e :=
  ⟨h.cell 0, h.cell 1, h.cell 2, h.cell 3, h.cell 4⟩

end Go.Proofs.YtkmmhlimihkgfaaGreat
