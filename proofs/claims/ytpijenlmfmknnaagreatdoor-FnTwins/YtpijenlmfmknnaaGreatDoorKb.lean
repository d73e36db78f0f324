/- Own texts joined: EvG, EvH, EvI, EvW, EvO, EvP, EvQ. -/
import Derived.Test.YtpijenlmfmknnaaGreatDoorKa
import Derived.Laws.Cells
import Derived.Laws.Entries

/- A piece of the reckoner looks at the blocks that it marks and turns those that it marks, and does the same wherever these are the same. No program. -/
namespace Go.Proofs.YtpijenlmfmknnaaGreatDoor
set_option linter.unusedVariables false

structure Fr (s s' : Hp) (r q : Nat) : Prop where
  n : s.n ≤ s'.n
  rd : s'.rd = s.rd ||| r
  wr : s'.wr = s.wr ||| q
  off : ∀ id, q.testBit id = false → s'.f id = s.f id
  new : ∀ id, s.n ≤ id → id < s'.n → q.testBit id = true
structure Ag (s g : Hp) (a : Nat) : Prop where
  n : g.n = s.n
  on : ∀ id, a.testBit id = true → g.f id = s.f id
structure Pat (s' g g' : Hp) (r q : Nat) : Prop where
  n : g'.n = s'.n
  rd : g'.rd = g.rd ||| r
  wr : g'.wr = g.wr ||| q
  on : ∀ id, q.testBit id = true → g'.f id = s'.f id
  off : ∀ id, q.testBit id = false → g'.f id = g.f id

/-- The piece F: what it tells and where it ends hangs on what it marks alone; whatever goes on behind it. -/
structure Good {α : Type} (F : M α) : Prop where
  ok : ∀ {β : Type} (s : Hp) (K : α → Hp → Option β) (x : β), F.run s K = some x → ∃ a s' r q, (∀ {γ : Type} (J : α → Hp → Option γ), F.run s J = J a s') ∧ Fr s s' r q ∧
    ∀ g, Ag s g (r ||| q) → ∃ g', Pat s' g g' r q ∧ ∀ {γ : Type} (J : α → Hp → Option γ), F.run g J = J a g'

theorem good_fail {α : Type} : Good (mfail (α := α)) := ⟨fun _ _ _ h => by cases h⟩
theorem good_pure {α : Type} (a : α) : Good (mpure a) := ⟨fun s K x h =>
  ⟨a, s, 0, 0, fun _ => rfl, ⟨Nat.le_refl _, by simp, by simp, fun _ _ => rfl, fun id h1 h2 => by omega⟩,
    fun g hg => ⟨g, ⟨hg.n, by simp, by simp, fun id h => by simp at h, fun _ _ => rfl⟩, fun _ => rfl⟩⟩⟩
theorem good_bind {α δ : Type} {F : M α} {G : α → M δ} (hF : Good F) (hG : ∀ a, Good (G a)) : Good (mbind F G) := by
  refine ⟨fun {β} s K x h => ?_⟩
  obtain ⟨a, s1, r1, q1, e1, f1, g1⟩ := hF.ok s (fun a s => (G a).run s K) x h
  have h2 : (G a).run s1 K = some x := (e1 fun a s => (G a).run s K).symm.trans h
  obtain ⟨b, s2, r2, q2, e2, f2, g2⟩ := (hG a).ok s1 K x h2
  refine ⟨b, s2, r1 ||| r2, q1 ||| q2, fun J => (e1 fun a s => (G a).run s J).trans (e2 J), ⟨Nat.le_trans f1.n f2.n, ?_, ?_, ?_, ?_⟩, ?_⟩
  · rw [f2.rd, f1.rd, Nat.or_assoc]
  · rw [f2.wr, f1.wr, Nat.or_assoc]
  · intro id h
    rw [Nat.testBit_or, Bool.or_eq_false_iff] at h
    rw [f2.off id h.2, f1.off id h.1]
  · intro id h1 h2
    rw [Nat.testBit_or, Bool.or_eq_true]
    by_cases hc : id < s1.n
    · exact .inl (f1.new id h1 hc)
    · exact .inr (f2.new id (by omega) h2)
  · intro g hg
    obtain ⟨g', hp, eg⟩ := g1 g ⟨hg.n, fun id h => hg.on id (by
      simp only [Nat.testBit_or, Bool.or_eq_true] at h ⊢
      rcases h with h | h
      · exact .inl (.inl h)
      · exact .inr (.inl h))⟩
    obtain ⟨g'', hp2, eg2⟩ := g2 g' ⟨hp.n, fun id h => by
      cases hq : q1.testBit id with
      | true => exact hp.on id hq
      | false =>
        rw [hp.off id hq, f1.off id hq]
        refine hg.on id ?_
        simp only [Nat.testBit_or, Bool.or_eq_true] at h ⊢
        rcases h with h | h
        · exact .inl (.inr h)
        · exact .inr (.inr h)⟩
    refine ⟨g'', ⟨hp2.n, ?_, ?_, ?_, ?_⟩, fun J => (eg fun a s => (G a).run s J).trans (eg2 J)⟩
    · rw [hp2.rd, hp.rd, Nat.or_assoc]
    · rw [hp2.wr, hp.wr, Nat.or_assoc]
    · intro id h
      cases hq : q2.testBit id with
      | true => exact hp2.on id hq
      | false =>
        rw [hp2.off id hq, f2.off id hq]
        rw [Nat.testBit_or, hq, Bool.or_false] at h
        exact hp.on id h
    · intro id h
      rw [Nat.testBit_or, Bool.or_eq_false_iff] at h
      rw [hp2.off id h.2, hp.off id h.1]

theorem bit_one (b id : Nat) : (Nat.shiftLeft 1 b).testBit id = decide (b = id) := by
  show (1 <<< b).testBit id = _
  rw [Nat.one_shiftLeft, Nat.testBit_two_pow]
theorem bit_self (b : Nat) : (Nat.shiftLeft 1 b).testBit b = true := by rw [bit_one]; simp
theorem bit_other {b id : Nat} (h : (Nat.shiftLeft 1 b).testBit id = false) : b ≠ id := by rw [bit_one] at h; simpa using h
theorem bit_this {b id : Nat} (h : (Nat.shiftLeft 1 b).testBit id = true) : b = id := by rw [bit_one] at h; simpa using h

theorem mget_eq {β : Type} (s : Hp) (b : Nat) (K : Obj → Hp → Option β) :
    (mget b).run s K = match s.f b with
      | some o => K o ⟨s.h, s.n, s.rd ||| Nat.shiftLeft 1 b, s.wr⟩
      | none => none := by
  obtain ⟨h, n, rd, wr⟩ := s
  unfold mget Hp.f
  simp only []
  cases hb : Nat.ble b 8191 with
  | true =>
    rw [if_pos (Nat.le_of_ble_eq_true hb)]
    simp only []
    cases tget13 h b with
    | none => rfl
    | some o => exact forceN_eq _ _
  | false =>
    rw [if_neg (fun h => by rw [Nat.ble_eq_true_of_le h] at hb; cases hb)]
theorem good_get (b : Nat) : Good (mget b) := by
  refine ⟨fun {β} s K x h => ?_⟩
  simp only [mget_eq] at h ⊢
  cases hb : s.f b with
  | none => rw [hb] at h; cases h
  | some o =>
    refine ⟨o, ⟨s.h, s.n, s.rd ||| Nat.shiftLeft 1 b, s.wr⟩, Nat.shiftLeft 1 b, 0, fun J => rfl, ⟨Nat.le_refl _, rfl, by simp, fun _ _ => rfl, fun id h1 h2 => by simp at h2; omega⟩, ?_⟩
    intro g hg
    have hgb : g.f b = some o := by rw [hg.on b (by rw [Nat.testBit_or, bit_self]; rfl), hb]
    refine ⟨⟨g.h, g.n, g.rd ||| Nat.shiftLeft 1 b, g.wr⟩, ⟨hg.n, rfl, by simp, fun id h => by simp at h, fun _ _ => rfl⟩, fun J => ?_⟩
    rw [hgb]

def Hp.put (s : Hp) (b : Nat) (o : Option Obj) (n : Nat) : Hp := ⟨tset13 s.h b o id, n, s.rd, s.wr ||| Nat.shiftLeft 1 b⟩
theorem put_f (s : Hp) (b : Nat) (o : Option Obj) (n : Nat) (hb : b ≤ 8191) (id : Nat) : (s.put b o n).f id = if b = id then o else s.f id := by
  unfold Hp.put Hp.f
  by_cases hi : id ≤ 8191
  · rw [if_pos hi, if_pos hi]
    exact tget13_put _ _ _ _ hb hi
  · rw [if_neg hi, if_neg hi, if_neg (by omega)]
theorem mset_eq {β : Type} (s : Hp) (b : Nat) (o : Option Obj) (K : Unit → Hp → Option β) :
    (mset b o).run s K = if 16 ≤ b ∧ b ≤ 8191 then K () (s.put b o s.n) else none := by
  obtain ⟨h, n, rd, wr⟩ := s
  unfold mset
  simp only []
  cases hb : Nat.ble b 8191 && Nat.ble 16 b with
  | true =>
    rw [Bool.and_eq_true] at hb
    rw [if_pos ⟨Nat.le_of_ble_eq_true hb.2, Nat.le_of_ble_eq_true hb.1⟩]
    simp only []
    rw [tset13_eq]
    exact forceN_eq _ _
  | false =>
    rw [if_neg]
    rintro ⟨h1, h2⟩
    rw [Nat.ble_eq_true_of_le h1, Nat.ble_eq_true_of_le h2] at hb
    cases hb
theorem mnew_eq {β : Type} (s : Hp) (o : Obj) (K : Nat → Hp → Option β) :
    (mnew o).run s K = if 16 ≤ s.n ∧ s.n ≤ 8191 then K s.n (s.put s.n (some o) (s.n + 1)) else none := by
  obtain ⟨h, n, rd, wr⟩ := s
  unfold mnew
  simp only []
  cases hb : Nat.ble n 8191 && Nat.ble 16 n with
  | true =>
    rw [Bool.and_eq_true] at hb
    rw [if_pos ⟨Nat.le_of_ble_eq_true hb.2, Nat.le_of_ble_eq_true hb.1⟩]
    simp only []
    rw [tset13_eq]
    exact (forceN_eq _ _).trans (forceN_eq _ _)
  | false =>
    rw [if_neg]
    rintro ⟨h1, h2⟩
    rw [Nat.ble_eq_true_of_le h1, Nat.ble_eq_true_of_le h2] at hb
    cases hb
theorem good_set (b : Nat) (o : Option Obj) : Good (mset b o) := by
  refine ⟨fun {β} s K x h => ?_⟩
  simp only [mset_eq] at h ⊢
  split at h
  · rename_i hc
    refine ⟨(), s.put b o s.n, 0, Nat.shiftLeft 1 b, fun J => if_pos hc, ⟨Nat.le_refl _, by simp [Hp.put], rfl, fun id h => ?_, fun id h1 h2 => by simp [Hp.put] at h2; omega⟩, ?_⟩
    · rw [put_f _ _ _ _ hc.2, if_neg (bit_other h)]
    · intro g hg
      refine ⟨g.put b o g.n, ⟨hg.n, by simp [Hp.put], rfl, fun id h => ?_, fun id h => ?_⟩, fun J => if_pos hc⟩
      · rw [put_f _ _ _ _ hc.2, put_f _ _ _ _ hc.2, if_pos (bit_this h), if_pos (bit_this h)]
      · rw [put_f _ _ _ _ hc.2, if_neg (bit_other h)]
  · cases h
theorem good_new (o : Obj) : Good (mnew o) := by
  refine ⟨fun {β} s K x h => ?_⟩
  simp only [mnew_eq] at h ⊢
  split at h
  · rename_i hc
    refine ⟨s.n, s.put s.n (some o) (s.n + 1), 0, Nat.shiftLeft 1 s.n, fun J => if_pos hc, ⟨by simp [Hp.put], by simp [Hp.put], rfl, fun id h => ?_, fun id h1 h2 => ?_⟩, ?_⟩
    · rw [put_f _ _ _ _ hc.2, if_neg (bit_other h)]
    · simp only [Hp.put] at h2
      have : s.n = id := by omega
      rw [← this]
      exact bit_self _
    · intro g hg
      rw [hg.n]
      refine ⟨g.put s.n (some o) (s.n + 1), ⟨rfl, by simp [Hp.put], rfl, fun id h => ?_, fun id h => ?_⟩, fun J => if_pos hc⟩
      · rw [put_f _ _ _ _ hc.2, put_f _ _ _ _ hc.2, if_pos (bit_this h), if_pos (bit_this h)]
      · rw [put_f _ _ _ _ hc.2, if_neg (bit_other h)]
  · cases h
end Go.Proofs.YtpijenlmfmknnaaGreatDoor

/- All pieces of the reckoner keep to what they mark. No program. -/
namespace Go.Proofs.YtpijenlmfmknnaaGreatDoor
set_option linter.unusedVariables false
variable (P : Program)

theorem good_maev (x : Option Value) : Good (maev x) := by
  unfold maev
  repeat' (first | with_reducible exact good_fail | with_reducible exact good_pure _ | (with_reducible refine good_bind ?_ fun _ => ?_) | rw [forceN_eq] | rw [forceL_eq] | rw [forceI_eq] | rw [forceV_eq] | rw [forceB_eq] | rw [tset8_eq] | split)
theorem good_aevs (e : Operand → Option Value) : ∀ l, Good (aevs e l)
  | [] => good_pure _
  | x :: l => by
    unfold aevs
    split
    · exact good_bind (good_aevs e l) fun _ => good_pure _
    · exact good_fail
theorem good_cut (off n : Nat) (l : List Value) : Good (cut off n l) := by
  unfold cut
  repeat' (first | with_reducible exact good_fail | with_reducible exact good_pure _ | (with_reducible refine good_bind ?_ fun _ => ?_) | rw [forceN_eq] | rw [forceL_eq] | rw [forceI_eq] | rw [forceV_eq] | rw [forceB_eq] | rw [tset8_eq] | split)
theorem good_paste (off : Nat) (vs l : List Value) : Good (paste off vs l) := by
  unfold paste
  repeat' (first | with_reducible exact good_fail | with_reducible exact good_pure _ | (with_reducible refine good_bind ?_ fun _ => ?_) | rw [forceN_eq] | rw [forceL_eq] | rw [forceI_eq] | rw [forceV_eq] | rw [forceB_eq] | rw [tset8_eq] | split)
theorem good_cellsO (o : Obj) : Good (cellsO o) := by
  unfold cellsO
  repeat' (first | with_reducible exact good_fail | with_reducible exact good_pure _ | (with_reducible refine good_bind ?_ fun _ => ?_) | rw [forceN_eq] | rw [forceL_eq] | rw [forceI_eq] | rw [forceV_eq] | rw [forceB_eq] | rw [tset8_eq] | split)
theorem good_mcells (b : Nat) : Good (mcells b) := good_bind (good_get b) good_cellsO
theorem good_mload (a : Addr) (n : Nat) : Good (mload a n) := by
  unfold mload
  repeat' (first | with_reducible exact good_fail | with_reducible exact good_cut _ _ _ | with_reducible exact good_mcells _ | (with_reducible refine good_bind ?_ fun _ => ?_) | rw [forceN_eq] | rw [forceL_eq] | rw [forceI_eq] | rw [forceV_eq] | rw [forceB_eq] | rw [tset8_eq] | split)
theorem good_mstore (a : Addr) (vs : List Value) : Good (mstore a vs) := by
  unfold mstore
  repeat' (first | with_reducible exact good_fail | with_reducible exact good_set _ _ | with_reducible exact good_paste _ _ _ | with_reducible exact good_mcells _ | (with_reducible refine good_bind ?_ fun _ => ?_) | rw [forceN_eq] | rw [forceL_eq] | rw [forceI_eq] | rw [forceV_eq] | rw [forceB_eq] | rw [tset8_eq] | split)
theorem good_mrow (t : TypeId) (l : List Value) (fl : Nat × Nat) : Good (mrow t l fl) := by
  unfold mrow
  repeat' (first | with_reducible exact good_fail | with_reducible exact good_new _ | (with_reducible refine good_bind ?_ fun _ => ?_) | rw [forceN_eq] | rw [forceL_eq] | rw [forceI_eq] | rw [forceV_eq] | rw [forceB_eq] | rw [tset8_eq] | split)
theorem good_addA (a : Addr) (n : Nat) : Good (addA a n) := by
  unfold addA
  repeat' (first | with_reducible exact good_fail | with_reducible exact good_pure _ | (with_reducible refine good_bind ?_ fun _ => ?_) | rw [forceN_eq] | rw [forceL_eq] | rw [forceI_eq] | rw [forceV_eq] | rw [forceB_eq] | rw [tset8_eq] | split)
theorem good_partK (t : TypeId) (l : List Value) (off : Nat) : Good (partK P t l off) := by
  unfold partK
  repeat' (first | with_reducible exact good_fail | with_reducible exact good_pure _ | with_reducible exact good_maev _ | with_reducible exact good_cut _ _ _ | (with_reducible refine good_bind ?_ fun _ => ?_) | rw [forceN_eq] | rw [forceL_eq] | rw [forceI_eq] | rw [forceV_eq] | rw [forceB_eq] | rw [tset8_eq] | split)
theorem good_fillK (pl : Nat → Option (Nat × Nat)) : ∀ (rest : List (Nat × Value)) (cells : List Value), Good (fillK pl cells rest)
  | [], cells => by unfold fillK; exact good_pure _
  | (i, v) :: rest, cells => by
    unfold fillK
    split
    · split
      · split
        · exact good_bind (good_paste _ _ _) fun c => good_fillK pl rest c
        · exact good_fail
      · exact good_fail
    · exact good_fail
theorem good_mprun (x : Sem Value) : Good (mprun P x) := by
  unfold mprun
  repeat' (first | with_reducible exact good_fail | with_reducible exact good_pure _ | (with_reducible refine good_bind ?_ fun _ => ?_) | rw [forceN_eq] | rw [forceL_eq] | rw [forceI_eq] | rw [forceV_eq] | rw [forceB_eq] | rw [tset8_eq] | split)
theorem good_firstK (size n : Nat) (x : Value) : Good (firstK size n x) := by
  unfold firstK
  repeat' (first | with_reducible exact good_fail | with_reducible exact good_pure _ | with_reducible exact good_mload _ _ | (with_reducible refine good_bind ?_ fun _ => ?_) | rw [forceN_eq] | rw [forceL_eq] | rw [forceI_eq] | rw [forceV_eq] | rw [forceB_eq] | rw [tset8_eq] | split)
theorem good_grownK (el : TypeId) (z off len need : Nat) (l new : List Value) : Good (grownK el z off len need l new) := by
  unfold grownK
  repeat' (first | with_reducible exact good_pure _ | with_reducible exact good_cut _ _ _ | with_reducible exact good_mrow _ _ _ | (with_reducible refine good_bind ?_ fun _ => ?_) | rw [forceN_eq] | rw [forceL_eq] | rw [forceI_eq] | rw [forceV_eq] | rw [forceB_eq] | rw [tset8_eq] | split)
theorem good_appNil (el : TypeId) (z n : Nat) (new : List Value) : Good (appNil el z n new) := by
  unfold appNil
  repeat' (first | with_reducible exact good_fail | with_reducible exact good_pure _ | with_reducible exact good_mrow _ _ _ | (with_reducible refine good_bind ?_ fun _ => ?_) | rw [forceN_eq] | rw [forceL_eq] | rw [forceI_eq] | rw [forceV_eq] | rw [forceB_eq] | rw [tset8_eq] | split)
theorem good_appIn (z b off len n need cap : Nat) (new : List Value) : Good (appIn z b off len n need cap new) := by
  unfold appIn
  repeat' (first | with_reducible exact good_pure _ | with_reducible exact good_mstore _ _ | (with_reducible refine good_bind ?_ fun _ => ?_) | rw [forceN_eq] | rw [forceL_eq] | rw [forceI_eq] | rw [forceV_eq] | rw [forceB_eq] | rw [tset8_eq] | split)
theorem good_appOut (el : TypeId) (z b off len need cap : Nat) (new : List Value) : Good (appOut el z b off len need cap new) := by
  unfold appOut
  repeat' (first | with_reducible exact good_fail | with_reducible exact good_set _ _ | with_reducible exact good_mcells _ | with_reducible exact good_grownK _ _ _ _ _ _ _ | (with_reducible refine good_bind ?_ fun _ => ?_) | rw [forceN_eq] | rw [forceL_eq] | rw [forceI_eq] | rw [forceV_eq] | rw [forceB_eq] | rw [tset8_eq] | split)
theorem good_appAt (el : TypeId) (z b off len cap n : Nat) (new : List Value) : Good (appAt el z b off len cap n new) := by
  unfold appAt
  repeat' (first | with_reducible exact good_appIn _ _ _ _ _ _ _ _ | with_reducible exact good_appOut _ _ _ _ _ _ _ _ | (with_reducible refine good_bind ?_ fun _ => ?_) | rw [forceN_eq] | rw [forceL_eq] | rw [forceI_eq] | rw [forceV_eq] | rw [forceB_eq] | rw [tset8_eq] | split)
theorem good_appGo (el : TypeId) (z : Nat) (x : Value) (n : Nat) (new : List Value) : Good (appGo el z x n new) := by
  unfold appGo
  repeat' (first | with_reducible exact good_fail | with_reducible exact good_appNil _ _ _ _ | with_reducible exact good_appAt _ _ _ _ _ _ _ _ | (with_reducible refine good_bind ?_ fun _ => ?_) | rw [forceN_eq] | rw [forceL_eq] | rw [forceI_eq] | rw [forceV_eq] | rw [forceB_eq] | rw [tset8_eq] | split)
theorem good_appendK (at0 : TypeId) (at1 : Option TypeId) (x y : Value) : Good (appendK P at0 at1 x y) := by
  unfold appendK
  repeat' (first | with_reducible exact good_fail | with_reducible exact good_firstK _ _ _ | with_reducible exact good_appGo _ _ _ _ _ | (with_reducible refine good_bind ?_ fun _ => ?_) | rw [forceN_eq] | rw [forceL_eq] | rw [forceI_eq] | rw [forceV_eq] | rw [forceB_eq] | rw [tset8_eq] | split)
theorem good_sliceArr (n size b off : Nat) (lo hi mx : Option Value) : Good (sliceArr n size b off lo hi mx) := by
  unfold sliceArr
  repeat' (first | with_reducible exact good_fail | with_reducible exact good_pure _ | with_reducible exact good_mcells _ | (with_reducible refine good_bind ?_ fun _ => ?_) | rw [forceN_eq] | rw [forceL_eq] | rw [forceI_eq] | rw [forceV_eq] | rw [forceB_eq] | rw [tset8_eq] | split)
theorem good_sliceSl (size b off len cap : Nat) (lo hi mx : Option Value) : Good (sliceSl size b off len cap lo hi mx) := by
  unfold sliceSl
  repeat' (first | with_reducible exact good_fail | with_reducible exact good_pure _ | with_reducible exact good_mcells _ | (with_reducible refine good_bind ?_ fun _ => ?_) | rw [forceN_eq] | rw [forceL_eq] | rw [forceI_eq] | rw [forceV_eq] | rw [forceB_eq] | rw [tset8_eq] | split)
theorem good_slicePl (t : TypeId) (x : Value) (lo hi mx : Option Value) : Good (slicePl P t x lo hi mx) := by
  unfold slicePl
  repeat' (first | with_reducible exact good_fail | with_reducible exact good_mprun _ _ | (with_reducible refine good_bind ?_ fun _ => ?_) | rw [forceN_eq] | rw [forceL_eq] | rw [forceI_eq] | rw [forceV_eq] | rw [forceB_eq] | rw [tset8_eq] | split)
theorem good_sliceK (t : TypeId) (x : Value) (lo hi mx : Option Value) : Good (sliceK P t x lo hi mx) := by
  unfold sliceK
  repeat' (first | with_reducible exact good_fail | with_reducible exact good_sliceArr _ _ _ _ _ _ _ | with_reducible exact good_sliceSl _ _ _ _ _ _ _ _ | with_reducible exact good_slicePl _ _ _ _ _ _ | (with_reducible refine good_bind ?_ fun _ => ?_) | rw [forceN_eq] | rw [forceL_eq] | rw [forceI_eq] | rw [forceV_eq] | rw [forceB_eq] | rw [tset8_eq] | split)
theorem good_mopt (e : En) (y : Option Operand) : Good (mopt e y) := by
  unfold mopt
  repeat' (first | with_reducible exact good_fail | with_reducible exact good_pure _ | (with_reducible refine good_bind ?_ fun _ => ?_) | rw [forceN_eq] | rw [forceL_eq] | rw [forceI_eq] | rw [forceV_eq] | rw [forceB_eq] | rw [tset8_eq] | split)
theorem good_opMove (x : Operand) (e : En) : Good (opMove x e) := by
  unfold opMove
  repeat' (first | with_reducible exact good_maev _ | (with_reducible refine good_bind ?_ fun _ => ?_) | rw [forceN_eq] | rw [forceL_eq] | rw [forceI_eq] | rw [forceV_eq] | rw [forceB_eq] | rw [tset8_eq] | split)
theorem good_opPick (c a b : Operand) (e : En) : Good (opPick c a b e) := by
  unfold opPick
  repeat' (first | with_reducible exact good_fail | with_reducible exact good_maev _ | (with_reducible refine good_bind ?_ fun _ => ?_) | rw [forceN_eq] | rw [forceL_eq] | rw [forceI_eq] | rw [forceV_eq] | rw [forceB_eq] | rw [tset8_eq] | split)
theorem good_opAlloc (t : TypeId) : Good (opAlloc P t) := by
  unfold opAlloc
  repeat' (first | with_reducible exact good_fail | with_reducible exact good_pure _ | with_reducible exact good_mrow _ _ _ | (with_reducible refine good_bind ?_ fun _ => ?_) | rw [forceN_eq] | rw [forceL_eq] | rw [forceI_eq] | rw [forceV_eq] | rw [forceB_eq] | rw [tset8_eq] | split)
theorem good_opBox (t : TypeId) (x : Operand) (e : En) : Good (opBox t x e) := by
  unfold opBox
  repeat' (first | with_reducible exact good_fail | with_reducible exact good_pure _ | with_reducible exact good_mrow _ _ _ | (with_reducible refine good_bind ?_ fun _ => ?_) | rw [forceN_eq] | rw [forceL_eq] | rw [forceI_eq] | rw [forceV_eq] | rw [forceB_eq] | rw [tset8_eq] | split)
theorem good_opBuild (t : TypeId) (parts : Array (Nat × Operand)) (e : En) : Good (opBuild P t parts e) := by
  unfold opBuild
  repeat' (first | with_reducible exact good_fail | with_reducible exact good_pure _ | with_reducible exact good_aevs _ _ | with_reducible exact good_fillK _ _ _ | (with_reducible refine good_bind ?_ fun _ => ?_) | rw [forceN_eq] | rw [forceL_eq] | rw [forceI_eq] | rw [forceV_eq] | rw [forceB_eq] | rw [tset8_eq] | split)
theorem good_opBuildSlice (t : TypeId) (len : Nat) (parts : Array (Nat × Operand)) (e : En) : Good (opBuildSlice P t len parts e) := by
  unfold opBuildSlice
  repeat' (first | with_reducible exact good_fail | with_reducible exact good_pure _ | with_reducible exact good_aevs _ _ | with_reducible exact good_mrow _ _ _ | with_reducible exact good_fillK _ _ _ | (with_reducible refine good_bind ?_ fun _ => ?_) | rw [forceN_eq] | rw [forceL_eq] | rw [forceI_eq] | rw [forceV_eq] | rw [forceB_eq] | rw [tset8_eq] | split)
theorem good_loadK (a : Addr) (x : Option Bool) (y : Option Nat) : Good (loadK a x y) := by
  unfold loadK
  repeat' (first | with_reducible exact good_fail | with_reducible exact good_pure _ | with_reducible exact good_maev _ | with_reducible exact good_mload _ _ | (with_reducible refine good_bind ?_ fun _ => ?_) | rw [forceN_eq] | rw [forceL_eq] | rw [forceI_eq] | rw [forceV_eq] | rw [forceB_eq] | rw [tset8_eq] | split)
theorem good_opLoad (t : TypeId) (a : Operand) (e : En) : Good (opLoad P t a e) := by
  unfold opLoad
  repeat' (first | with_reducible exact good_fail | with_reducible exact good_loadK _ _ _ | (with_reducible refine good_bind ?_ fun _ => ?_) | rw [forceN_eq] | rw [forceL_eq] | rw [forceI_eq] | rw [forceV_eq] | rw [forceB_eq] | rw [tset8_eq] | split)
theorem good_opStore (t : TypeId) (a x : Operand) (e : En) : Good (opStore P t a x e) := by
  unfold opStore
  repeat' (first | with_reducible exact good_fail | with_reducible exact good_pure _ | with_reducible exact good_mstore _ _ | (with_reducible refine good_bind ?_ fun _ => ?_) | rw [forceN_eq] | rw [forceL_eq] | rw [forceI_eq] | rw [forceV_eq] | rw [forceB_eq] | rw [tset8_eq] | split)
theorem good_opNilCheck (x : Operand) (e : En) : Good (opNilCheck x e) := by
  unfold opNilCheck
  repeat' (first | with_reducible exact good_fail | with_reducible exact good_pure _ | (with_reducible refine good_bind ?_ fun _ => ?_) | rw [forceN_eq] | rw [forceL_eq] | rw [forceI_eq] | rw [forceV_eq] | rw [forceB_eq] | rw [tset8_eq] | split)
theorem good_wrapK (k : IntKind) (n : Int) : Good (wrapK k n) := by
  unfold wrapK
  repeat' (first | with_reducible exact good_pure _ | (with_reducible refine good_bind ?_ fun _ => ?_) | rw [forceN_eq] | rw [forceL_eq] | rw [forceI_eq] | rw [forceV_eq] | rw [forceB_eq] | rw [tset8_eq] | split)
theorem good_nilV (op : BinOp) (d : Option TypeDesc) (a b : Value) : Good (nilV op d a b) := by
  unfold nilV
  repeat' (first | with_reducible exact good_fail | with_reducible exact good_pure _ | (with_reducible refine good_bind ?_ fun _ => ?_) | rw [forceN_eq] | rw [forceL_eq] | rw [forceI_eq] | rw [forceV_eq] | rw [forceB_eq] | rw [tset8_eq] | split)
theorem good_binV (op : BinOp) (t : TypeId) (x y : Operand) (a b : Value) : Good (binV P op t x y a b) := by
  unfold binV
  repeat' (first | with_reducible exact good_mprun _ _ | with_reducible exact good_nilV _ _ _ _ | (with_reducible refine good_bind ?_ fun _ => ?_) | rw [forceN_eq] | rw [forceL_eq] | rw [forceI_eq] | rw [forceV_eq] | rw [forceB_eq] | rw [tset8_eq] | split)
theorem good_cmpV (c : Int → Int → Bool) (op : BinOp) (t : TypeId) (x y : Operand) (a b : Value) : Good (cmpV P c op t x y a b) := by
  unfold cmpV
  repeat' (first | with_reducible exact good_fail | with_reducible exact good_pure _ | with_reducible exact good_binV _ _ _ _ _ _ _ | (with_reducible refine good_bind ?_ fun _ => ?_) | rw [forceN_eq] | rw [forceL_eq] | rw [forceI_eq] | rw [forceV_eq] | rw [forceB_eq] | rw [tset8_eq] | split)
theorem good_arithV (c : Int → Int → Int) (op : BinOp) (t : TypeId) (x y : Operand) (a b : Value) : Good (arithV P c op t x y a b) := by
  unfold arithV
  repeat' (first | with_reducible exact good_fail | with_reducible exact good_pure _ | with_reducible exact good_wrapK _ _ | with_reducible exact good_binV _ _ _ _ _ _ _ | (with_reducible refine good_bind ?_ fun _ => ?_) | rw [forceN_eq] | rw [forceL_eq] | rw [forceI_eq] | rw [forceV_eq] | rw [forceB_eq] | rw [tset8_eq] | split)
theorem good_binD (op : BinOp) (t : TypeId) (x y : Operand) (a b : Value) : Good (binD P op t x y a b) := by
  unfold binD
  repeat' (first | with_reducible exact good_binV _ _ _ _ _ _ _ | with_reducible exact good_cmpV _ _ _ _ _ _ _ _ | with_reducible exact good_arithV _ _ _ _ _ _ _ _ | (with_reducible refine good_bind ?_ fun _ => ?_) | rw [forceN_eq] | rw [forceL_eq] | rw [forceI_eq] | rw [forceV_eq] | rw [forceB_eq] | rw [tset8_eq] | split)
theorem good_opBin (op : BinOp) (t : TypeId) (x y : Operand) (e : En) : Good (opBin P op t x y e) := by
  unfold opBin
  repeat' (first | with_reducible exact good_fail | with_reducible exact good_binD _ _ _ _ _ _ _ | (with_reducible refine good_bind ?_ fun _ => ?_) | rw [forceN_eq] | rw [forceL_eq] | rw [forceI_eq] | rw [forceV_eq] | rw [forceB_eq] | rw [tset8_eq] | split)
theorem good_opUnOp (op : UnOp) (x : Operand) (e : En) : Good (opUnOp P op x e) := by
  unfold opUnOp
  repeat' (first | with_reducible exact good_fail | with_reducible exact good_mprun _ _ | (with_reducible refine good_bind ?_ fun _ => ?_) | rw [forceN_eq] | rw [forceL_eq] | rw [forceI_eq] | rw [forceV_eq] | rw [forceB_eq] | rw [tset8_eq] | split)
theorem good_convStr (src dst : TypeId) (b : ByteArray) : Good (convStr P src dst b) := by
  unfold convStr
  repeat' (first | with_reducible exact good_fail | with_reducible exact good_pure _ | with_reducible exact good_mrow _ _ _ | with_reducible exact good_mprun _ _ | (with_reducible refine good_bind ?_ fun _ => ?_) | rw [forceN_eq] | rw [forceL_eq] | rw [forceI_eq] | rw [forceV_eq] | rw [forceB_eq] | rw [tset8_eq] | split)
theorem good_strOf (vs : List Value) : Good (strOf vs) := by
  unfold strOf
  repeat' (first | with_reducible exact good_fail | with_reducible exact good_pure _ | (with_reducible refine good_bind ?_ fun _ => ?_) | rw [forceN_eq] | rw [forceL_eq] | rw [forceI_eq] | rw [forceV_eq] | rw [forceB_eq] | rw [tset8_eq] | split)
theorem good_convSl (src dst : TypeId) (a : Addr) (n c : Nat) : Good (convSl P src dst a n c) := by
  unfold convSl
  repeat' (first | with_reducible exact good_fail | with_reducible exact good_pure _ | with_reducible exact good_mcells _ | with_reducible exact good_mload _ _ | with_reducible exact good_strOf _ | (with_reducible refine good_bind ?_ fun _ => ?_) | rw [forceN_eq] | rw [forceL_eq] | rw [forceI_eq] | rw [forceV_eq] | rw [forceB_eq] | rw [tset8_eq] | split)
theorem good_convPtr (src dst : TypeId) (b off : Nat) : Good (convPtr P src dst b off) := by
  unfold convPtr
  repeat' (first | with_reducible exact good_fail | with_reducible exact good_pure _ | with_reducible exact good_mcells _ | (with_reducible refine good_bind ?_ fun _ => ?_) | rw [forceN_eq] | rw [forceL_eq] | rw [forceI_eq] | rw [forceV_eq] | rw [forceB_eq] | rw [tset8_eq] | split)
theorem good_opConvert (src dst : TypeId) (x : Operand) (e : En) : Good (opConvert P src dst x e) := by
  unfold opConvert
  repeat' (first | with_reducible exact good_fail | with_reducible exact good_mprun _ _ | with_reducible exact good_convStr _ _ _ _ | with_reducible exact good_convSl _ _ _ _ _ _ | with_reducible exact good_convPtr _ _ _ _ _ | (with_reducible refine good_bind ?_ fun _ => ?_) | rw [forceN_eq] | rw [forceL_eq] | rw [forceI_eq] | rw [forceV_eq] | rw [forceB_eq] | rw [tset8_eq] | split)
theorem good_opMakeInterface (t : TypeId) (x : Operand) (e : En) : Good (opMakeInterface P t x e) := by
  unfold opMakeInterface
  repeat' (first | with_reducible exact good_fail | with_reducible exact good_pure _ | with_reducible exact good_maev _ | (with_reducible refine good_bind ?_ fun _ => ?_) | rw [forceN_eq] | rw [forceL_eq] | rw [forceI_eq] | rw [forceV_eq] | rw [forceB_eq] | rw [tset8_eq] | split)
theorem good_opMakeFunc (fn : Fn) (a b : Array Operand) (e : En) : Good (opMakeFunc fn a b e) := by
  unfold opMakeFunc
  repeat' (first | with_reducible exact good_fail | with_reducible exact good_pure _ | with_reducible exact good_aevs _ _ | (with_reducible refine good_bind ?_ fun _ => ?_) | rw [forceN_eq] | rw [forceL_eq] | rw [forceI_eq] | rw [forceV_eq] | rw [forceB_eq] | rw [tset8_eq] | split)
theorem good_opMakeMap (r : Option Operand) : Good (opMakeMap r) := by
  unfold opMakeMap
  repeat' (first | with_reducible exact good_fail | with_reducible exact good_pure _ | with_reducible exact good_new _ | (with_reducible refine good_bind ?_ fun _ => ?_) | rw [forceN_eq] | rw [forceL_eq] | rw [forceI_eq] | rw [forceV_eq] | rw [forceB_eq] | rw [tset8_eq] | split)
theorem good_opMakeSlice (t : TypeId) (l c : Operand) (e : En) : Good (opMakeSlice P t l c e) := by
  unfold opMakeSlice
  repeat' (first | with_reducible exact good_fail | with_reducible exact good_pure _ | with_reducible exact good_mrow _ _ _ | (with_reducible refine good_bind ?_ fun _ => ?_) | rw [forceN_eq] | rw [forceL_eq] | rw [forceI_eq] | rw [forceV_eq] | rw [forceB_eq] | rw [tset8_eq] | split)
theorem good_opSlice (t : TypeId) (x : Operand) (lo hi mx : Option Operand) (e : En) : Good (opSlice P t x lo hi mx e) := by
  unfold opSlice
  repeat' (first | with_reducible exact good_maev _ | with_reducible exact good_sliceK _ _ _ _ _ _ | with_reducible exact good_mopt _ _ | (with_reducible refine good_bind ?_ fun _ => ?_) | rw [forceN_eq] | rw [forceL_eq] | rw [forceI_eq] | rw [forceV_eq] | rw [forceB_eq] | rw [tset8_eq] | split)
theorem good_ptrTo (a : Addr) (n : Nat) : Good (ptrTo a n) := by
  unfold ptrTo
  repeat' (first | with_reducible exact good_pure _ | with_reducible exact good_addA _ _ | (with_reducible refine good_bind ?_ fun _ => ?_) | rw [forceN_eq] | rw [forceL_eq] | rw [forceI_eq] | rw [forceV_eq] | rw [forceB_eq] | rw [tset8_eq] | split)
theorem good_opFieldAddr (t : TypeId) (x : Operand) (f : Nat) (e : En) : Good (opFieldAddr P t x f e) := by
  unfold opFieldAddr
  repeat' (first | with_reducible exact good_fail | with_reducible exact good_ptrTo _ _ | (with_reducible refine good_bind ?_ fun _ => ?_) | rw [forceN_eq] | rw [forceL_eq] | rw [forceI_eq] | rw [forceV_eq] | rw [forceB_eq] | rw [tset8_eq] | split)
theorem good_opField (t : TypeId) (x : Operand) (f : Nat) (e : En) : Good (opField P t x f e) := by
  unfold opField
  repeat' (first | with_reducible exact good_fail | with_reducible exact good_partK _ _ _ _ | (with_reducible refine good_bind ?_ fun _ => ?_) | rw [forceN_eq] | rw [forceL_eq] | rw [forceI_eq] | rw [forceV_eq] | rw [forceB_eq] | rw [tset8_eq] | split)
theorem good_opIndexAddr (t : TypeId) (x ix : Operand) (e : En) : Good (opIndexAddr P t x ix e) := by
  unfold opIndexAddr
  repeat' (first | with_reducible exact good_fail | with_reducible exact good_ptrTo _ _ | (with_reducible refine good_bind ?_ fun _ => ?_) | rw [forceN_eq] | rw [forceL_eq] | rw [forceI_eq] | rw [forceV_eq] | rw [forceB_eq] | rw [tset8_eq] | split)
theorem good_opIndex (t : TypeId) (x ix : Operand) (e : En) : Good (opIndex P t x ix e) := by
  unfold opIndex
  repeat' (first | with_reducible exact good_fail | with_reducible exact good_partK _ _ _ _ | with_reducible exact good_mprun _ _ | (with_reducible refine good_bind ?_ fun _ => ?_) | rw [forceN_eq] | rw [forceL_eq] | rw [forceI_eq] | rw [forceV_eq] | rw [forceB_eq] | rw [tset8_eq] | split)
theorem good_foundV (ok : Bool) (v : Value) (b : Bool) : Good (foundV ok v b) := by
  unfold foundV
  repeat' (first | with_reducible exact good_fail | with_reducible exact good_pure _ | (with_reducible refine good_bind ?_ fun _ => ?_) | rw [forceN_eq] | rw [forceL_eq] | rw [forceI_eq] | rw [forceV_eq] | rw [forceB_eq] | rw [tset8_eq] | split)
theorem good_lookIn (t : TypeId) (k : Value) (ok : Bool) (o : Obj) : Good (lookIn P t k ok o) := by
  unfold lookIn
  repeat' (first | with_reducible exact good_fail | with_reducible exact good_foundV _ _ _ | (with_reducible refine good_bind ?_ fun _ => ?_) | rw [forceN_eq] | rw [forceL_eq] | rw [forceI_eq] | rw [forceV_eq] | rw [forceB_eq] | rw [tset8_eq] | split)
theorem good_opLookup (t : TypeId) (x ix : Operand) (ok : Bool) (e : En) : Good (opLookup P t x ix ok e) := by
  unfold opLookup
  repeat' (first | with_reducible exact good_fail | with_reducible exact good_get _ | with_reducible exact good_lookIn _ _ _ _ _ | (with_reducible refine good_bind ?_ fun _ => ?_) | rw [forceN_eq] | rw [forceL_eq] | rw [forceI_eq] | rw [forceV_eq] | rw [forceB_eq] | rw [tset8_eq] | split)
theorem good_putIn (t : TypeId) (r : Nat) (k v : Value) (o : Obj) : Good (putIn P t r k v o) := by
  unfold putIn
  repeat' (first | with_reducible exact good_fail | with_reducible exact good_pure _ | with_reducible exact good_set _ _ | (with_reducible refine good_bind ?_ fun _ => ?_) | rw [forceN_eq] | rw [forceL_eq] | rw [forceI_eq] | rw [forceV_eq] | rw [forceB_eq] | rw [tset8_eq] | split)
theorem good_opMapUpdate (t : TypeId) (m k x : Operand) (e : En) : Good (opMapUpdate P t m k x e) := by
  unfold opMapUpdate
  repeat' (first | with_reducible exact good_fail | with_reducible exact good_get _ | with_reducible exact good_putIn _ _ _ _ _ _ | (with_reducible refine good_bind ?_ fun _ => ?_) | rw [forceN_eq] | rw [forceL_eq] | rw [forceI_eq] | rw [forceV_eq] | rw [forceB_eq] | rw [tset8_eq] | split)
theorem good_assertV (t u : TypeId) (ok : Bool) (v : Value) : Good (assertV P t u ok v) := by
  unfold assertV
  repeat' (first | with_reducible exact good_fail | with_reducible exact good_pure _ | (with_reducible refine good_bind ?_ fun _ => ?_) | rw [forceN_eq] | rw [forceL_eq] | rw [forceI_eq] | rw [forceV_eq] | rw [forceB_eq] | rw [tset8_eq] | split)
theorem good_opTypeAssert (x : Operand) (t : TypeId) (ok : Bool) (e : En) : Good (opTypeAssert P x t ok e) := by
  unfold opTypeAssert
  repeat' (first | with_reducible exact good_fail | with_reducible exact good_assertV _ _ _ _ _ | (with_reducible refine good_bind ?_ fun _ => ?_) | rw [forceN_eq] | rw [forceL_eq] | rw [forceI_eq] | rw [forceV_eq] | rw [forceB_eq] | rw [tset8_eq] | split)
theorem good_opExtract (t : Operand) (i : Nat) (e : En) : Good (opExtract t i e) := by
  unfold opExtract
  repeat' (first | with_reducible exact good_fail | with_reducible exact good_maev _ | (with_reducible refine good_bind ?_ fun _ => ?_) | rw [forceN_eq] | rw [forceL_eq] | rw [forceI_eq] | rw [forceV_eq] | rw [forceB_eq] | rw [tset8_eq] | split)
theorem good_biLen (t : TypeId) (x : Value) : Good (biLen P t x) := by
  unfold biLen
  repeat' (first | with_reducible exact good_fail | with_reducible exact good_pure _ | (with_reducible refine good_bind ?_ fun _ => ?_) | rw [forceN_eq] | rw [forceL_eq] | rw [forceI_eq] | rw [forceV_eq] | rw [forceB_eq] | rw [tset8_eq] | split)
theorem good_biCap (t : TypeId) (x : Value) : Good (biCap P t x) := by
  unfold biCap
  repeat' (first | with_reducible exact good_fail | with_reducible exact good_pure _ | with_reducible exact good_mcells _ | (with_reducible refine good_bind ?_ fun _ => ?_) | rw [forceN_eq] | rw [forceL_eq] | rw [forceI_eq] | rw [forceV_eq] | rw [forceB_eq] | rw [tset8_eq] | split)
theorem good_biClear (t : TypeId) (x : Value) : Good (biClear P t x) := by
  unfold biClear
  repeat' (first | with_reducible exact good_fail | with_reducible exact good_pure _ | with_reducible exact good_mstore _ _ | (with_reducible refine good_bind ?_ fun _ => ?_) | rw [forceN_eq] | rw [forceL_eq] | rw [forceI_eq] | rw [forceV_eq] | rw [forceB_eq] | rw [tset8_eq] | split)
theorem good_biCopy (t : TypeId) (x y : Value) : Good (biCopy P t x y) := by
  unfold biCopy
  repeat' (first | with_reducible exact good_fail | with_reducible exact good_pure _ | with_reducible exact good_mstore _ _ | with_reducible exact good_firstK _ _ _ | (with_reducible refine good_bind ?_ fun _ => ?_) | rw [forceN_eq] | rw [forceL_eq] | rw [forceI_eq] | rw [forceV_eq] | rw [forceB_eq] | rw [tset8_eq] | split)
theorem good_biPl (vs : List Value) (x : Sem Value) : Good (biPl P vs x) := by
  unfold biPl
  repeat' (first | with_reducible exact good_fail | with_reducible exact good_mprun _ _ | (with_reducible refine good_bind ?_ fun _ => ?_) | rw [forceN_eq] | rw [forceL_eq] | rw [forceI_eq] | rw [forceV_eq] | rw [forceB_eq] | rw [tset8_eq] | split)
theorem good_biltin (ty : TypeId) (b : Builtin) (ts : List TypeId) (vs : List Value) : Good (biltin P ty b ts vs) := by
  unfold biltin
  repeat' (first | with_reducible exact good_fail | with_reducible exact good_appendK _ _ _ _ _ | with_reducible exact good_biLen _ _ _ | with_reducible exact good_biCap _ _ _ | with_reducible exact good_biClear _ _ _ | with_reducible exact good_biCopy _ _ _ _ | with_reducible exact good_biPl _ _ _ | (with_reducible refine good_bind ?_ fun _ => ?_) | rw [forceN_eq] | rw [forceL_eq] | rw [forceI_eq] | rw [forceV_eq] | rw [forceB_eq] | rw [tset8_eq] | split)
theorem good_opBuiltin (ty : TypeId) (b : Builtin) (args : Array Operand) (ts : Array TypeId) (e : En) : Good (opBuiltin P ty b args ts e) := by
  unfold opBuiltin
  repeat' (first | with_reducible exact good_aevs _ _ | with_reducible exact good_biltin _ _ _ _ _ | (with_reducible refine good_bind ?_ fun _ => ?_) | rw [forceN_eq] | rw [forceL_eq] | rw [forceI_eq] | rw [forceV_eq] | rw [forceB_eq] | rw [tset8_eq] | split)
theorem good_deferV (fv : Value) (vs : List Value) : Good (deferV fv vs) := by
  unfold deferV
  repeat' (first | with_reducible exact good_fail | with_reducible exact good_pure _ | (with_reducible refine good_bind ?_ fun _ => ?_) | rw [forceN_eq] | rw [forceL_eq] | rw [forceI_eq] | rw [forceV_eq] | rw [forceB_eq] | rw [tset8_eq] | split)
theorem good_opDefer (f : Operand) (args : Array Operand) (e : En) : Good (opDefer f args e) := by
  unfold opDefer
  repeat' (first | with_reducible exact good_maev _ | with_reducible exact good_aevs _ _ | with_reducible exact good_deferV _ _ | (with_reducible refine good_bind ?_ fun _ => ?_) | rw [forceN_eq] | rw [forceL_eq] | rw [forceI_eq] | rw [forceV_eq] | rw [forceB_eq] | rw [tset8_eq] | split)
end Go.Proofs.YtpijenlmfmknnaaGreatDoor

/- Code and calls of the reckoner keep to what they mark, where the hooks do. No program. -/
namespace Go.Proofs.YtpijenlmfmknnaaGreatDoor
set_option linter.unusedVariables false
variable (P : Program)

theorem good_direct {F : M Value} (hF : Good F) : Good (mcall fun s => F.run s fun v s => some (v, s)) := by
  have key : ∀ {γ : Type} (s : Hp) (J : Value → Hp → Option γ) (a : Value) (s' : Hp), (∀ {γ : Type} (J : Value → Hp → Option γ), F.run s J = J a s') →
      (mcall fun s => F.run s fun v s => some (v, s)).run s J = J a s' := by
    intro γ s J a s' e
    show (match F.run s fun v s => some (v, s) with | some (v, s) => J v s | none => none) = _
    rw [e fun v s => some (v, s)]
  refine ⟨fun {β} s K x h => ?_⟩
  have hs : ∃ y, F.run s (fun v s => some (v, s)) = some y := by
    cases hc : F.run s (fun v s => some (v, s)) with
    | some y => exact ⟨y, rfl⟩
    | none =>
      have : (mcall fun s => F.run s fun v s => some (v, s)).run s K = none := by
        show (match F.run s fun v s => some (v, s) with | some (v, s) => K v s | none => none) = _
        rw [hc]
      rw [this] at h
      cases h
  obtain ⟨y, hy⟩ := hs
  obtain ⟨a, s', r, q, e, f, g⟩ := hF.ok s _ y hy
  refine ⟨a, s', r, q, fun J => key s J a s' e, f, fun g0 hg => ?_⟩
  obtain ⟨g', hp, eg⟩ := g g0 hg
  exact ⟨g', hp, fun J => key g0 J a g' eg⟩
theorem good_same {v : Value} : Good (mcall fun s => some (v, s)) := good_pure v

def GoodE (E : Callee') : Prop := ∀ f vs, Good (mcall (E f vs))
def GoodH (X : Hook) : Prop := ∀ f vs F, X f vs = some F → Good (mcall F)
theorem good_opCallV {E : Callee'} (hE : GoodE E) (f : Operand) (args : Array Operand) (e : En) : Good (opCallV E f args e) := by
  unfold opCallV
  refine good_bind (good_maev _) fun fv => good_bind (good_aevs _ _) fun vs => ?_
  split
  · rw [forceL_eq]; exact hE _ _
  · exact good_fail
theorem good_opCallI {E : Callee'} (hE : GoodE E) (r : Operand) (name : String) (args : Array Operand) (e : En) : Good (opCallI P E r name args e) := by
  unfold opCallI
  split
  · refine good_bind (good_aevs _ _) fun vs => ?_
    split
    · exact hE _ _
    · exact good_fail
  · exact good_fail
theorem good_disp {E : Callee'} (hE : GoodE E) (o : Oper) (e : En) (ds : List Deferred) : Good ((disp P o).f E e ds) := by
  have pd : ∀ F : En → M Value, (∀ e, Good (F e)) → Good ((pureD F).f E e ds) := fun F h => good_bind (h e) fun v => good_pure _
  unfold disp
  split
  · (apply pd; intro e; exact good_opMove _ _)
  · (apply pd; intro e; exact good_opMove _ _)
  · (apply pd; intro e; exact good_opPick _ _ _ _)
  · (apply pd; intro e; exact good_opAlloc _ _)
  · (apply pd; intro e; exact good_opBox _ _ _)
  · (apply pd; intro e; exact good_opBuild _ _ _ _)
  · (apply pd; intro e; exact good_opBuildSlice _ _ _ _ _)
  · (apply pd; intro e; exact good_opLoad _ _ _ _)
  · (apply pd; intro e; exact good_opStore _ _ _ _ _)
  · (apply pd; intro e; exact good_opNilCheck _ _)
  · (apply pd; intro e; exact good_opBin _ _ _ _ _ _)
  · (apply pd; intro e; exact good_opUnOp _ _ _ _)
  · (apply pd; intro e; exact good_opConvert _ _ _ _ _)
  · (apply pd; intro e; exact good_opMakeInterface _ _ _ _)
  · (apply pd; intro e; exact good_opMakeFunc _ _ _ _)
  · (apply pd; intro e; exact good_opMakeMap _)
  · (apply pd; intro e; exact good_opMakeSlice _ _ _ _ _)
  · (apply pd; intro e; exact good_opSlice _ _ _ _ _ _ _)
  · (apply pd; intro e; exact good_opFieldAddr _ _ _ _ _)
  · (apply pd; intro e; exact good_opField _ _ _ _ _)
  · (apply pd; intro e; exact good_opIndexAddr _ _ _ _ _)
  · (apply pd; intro e; exact good_opIndex _ _ _ _ _)
  · (apply pd; intro e; exact good_opLookup _ _ _ _ _ _)
  · (apply pd; intro e; exact good_opMapUpdate _ _ _ _ _ _)
  · (apply pd; intro e; exact good_opMapUpdate _ _ _ _ _ _)
  · (apply pd; intro e; exact good_opTypeAssert _ _ _ _ _)
  · (apply pd; intro e; exact good_opExtract _ _ _)
  · (apply pd; intro e; exact good_opBuiltin _ _ _ _ _ _)
  · exact good_bind (good_opCallV hE _ _ _) fun v => good_pure _
  · exact good_bind (good_opCallI P hE _ _ _ _) fun v => good_pure _
  · exact good_bind (good_opDefer _ _ _) fun v => good_pure _
  · exact good_fail
theorem good_putK (N : Nat) (t : TT) (d : Option Tmp) (v : Value) : Good (putK N t d v) := by
  unfold putK
  split
  · exact good_pure _
  · split
    · rw [tset8_eq]; exact good_pure _
    · exact good_fail
theorem good_opK {E : Callee'} (hE : GoodE E) (N : Nat) (ops : Array Oper) (o : Oper) (a : Ac) : Good (opK P E N ops o a) := by
  unfold opK
  obtain ⟨t, ds⟩ := a
  simp only []
  split
  · exact good_fail
  · exact good_bind (good_putK _ _ _ _) fun t => good_pure _
  · exact good_bind (good_disp P hE o _ ds) fun x => good_bind (good_putK _ _ _ _) fun t => good_pure _
theorem good_opsK {E : Callee'} (hE : GoodE E) (N : Nat) (ops : Array Oper) : ∀ (l : List Oper) (a : Ac), Good (opsK P E N ops l a)
  | [], a => good_pure a
  | o :: l, a => good_bind (good_opK P hE N ops o a) fun a => good_opsK hE N ops l a

theorem mtrk_eq {α γ : Type} (F : M α) (s : Hp) (J : α × Nat × Nat → Hp → Option γ) :
    (mtrk F).run s J = F.run ⟨s.h, s.n, 0, 0⟩ fun a s' => J (a, s'.rd, s'.wr) ⟨s'.h, s'.n, s.rd ||| s'.rd, s.wr ||| s'.wr⟩ := by
  obtain ⟨h, n, rd, wr⟩ := s
  show (F.run ⟨h, n, 0, 0⟩ fun a s => _) = _
  congr 1
  funext a s'
  obtain ⟨h', n', r, q⟩ := s'
  exact (forceN_eq _ _).trans (forceN_eq _ _)
theorem good_mtrk {α : Type} {F : M α} (hF : Good F) : Good (mtrk F) := by
  refine ⟨fun {β} s K x h => ?_⟩
  rw [mtrk_eq] at h
  obtain ⟨a, s', r, q, e, f, g⟩ := hF.ok _ _ x h
  have hr : s'.rd = r := by rw [f.rd]; simp
  have hq : s'.wr = q := by rw [f.wr]; simp
  refine ⟨(a, r, q), ⟨s'.h, s'.n, s.rd ||| r, s.wr ||| q⟩, r, q, fun J => ?_, ⟨f.n, rfl, rfl, fun id h => f.off id h, fun id h1 h2 => f.new id h1 h2⟩, fun g0 hg => ?_⟩
  · rw [mtrk_eq, e, hr, hq]
  · obtain ⟨g', hp, eg⟩ := g ⟨g0.h, g0.n, 0, 0⟩ ⟨hg.n, fun id h => hg.on id h⟩
    have hr' : g'.rd = r := by rw [hp.rd]; simp
    have hq' : g'.wr = q := by rw [hp.wr]; simp
    refine ⟨⟨g'.h, g'.n, g0.rd ||| r, g0.wr ||| q⟩, ⟨hp.n, rfl, rfl, fun id h => hp.on id h, fun id h => hp.off id h⟩, fun J => ?_⟩
    rw [mtrk_eq, eg, hr', hq']
theorem good_drawK {E : Callee'} (hE : GoodE E) (N : Nat) (ops : Array Oper) (ds : List Deferred) : ∀ (l : List Oper) (bef : List Nat) (k : Nat) (acc : List Trk) (t : TT), Good (drawK P E N ops ds l bef k acc t)
  | [], bef, k, acc, t => good_pure t
  | o :: l, bef, k, acc, t => by
    unfold drawK
    refine good_bind (good_mtrk (good_opK P hE N ops o _)) fun x => ?_
    obtain ⟨⟨t', ds'⟩, r, q⟩ := x
    simp only []
    split
    · rw [forceN_eq]; exact good_drawK hE N ops ds l _ _ _ _
    · exact good_fail
theorem good_evStep {Ev : EvT} {E : Callee'} (hv : ∀ c N a, Good (Ev c N a)) (hE : GoodE E) (c : Code) (N : Nat) (a : Ac) : Good (evStep P Ev E c N a) := by
  have hseq : ∀ b N x, Good (cdSeq Ev b N x) := by
    intro b N x
    unfold cdSeq
    split
    · exact hv _ _ _
    · exact good_pure _
  show Good ((stp P c).f Ev E N a)
  unfold stp
  split
  · exact good_pure _
  · exact good_pure _
  · exact good_bind (good_opsK P hE _ _ _ _) fun _ => good_pure _
  · show Good (cdDraw P E _ N a)
    unfold cdDraw
    split
    · exact good_bind (good_drawK P hE _ _ _ _ _ _ _ _) fun _ => good_pure _
    · exact good_fail
  · exact good_bind (hv _ _ _) fun _ => hseq _ _ _
  · show Good (cdCond Ev _ _ _ N a)
    unfold cdCond
    split
    · exact hv _ _ _
    · exact hv _ _ _
    · exact good_fail
  · refine good_bind (hv _ _ _) fun _ => ?_
    unfold cdBlock
    split
    · split <;> exact good_pure _
    · exact good_pure _
  · exact good_bind (hv _ _ _) fun _ => hseq _ _ _
  · refine good_bind (hv _ _ _) fun _ => ?_
    unfold cdScope
    split
    · exact good_fail
    · exact good_pure _
  · exact good_pure _
  · exact good_pure _
  · exact good_fail
theorem good_resK (t : TT) : ∀ l, Good (resK P t l)
  | [] => good_pure _
  | .tmp k :: l => by
    unfold resK
    split
    · exact good_bind (good_resK t l) fun _ => good_pure _
    · exact good_fail
  | .cell a ty :: l => by
    unfold resK
    split
    · exact good_bind (good_loadK _ _ _) fun _ => good_bind (good_resK t l) fun _ => good_pure _
    · exact good_fail
theorem good_argsT : ∀ (l : List Value) (t : TT) (k : Nat), Good (argsT t k l)
  | [], t, k => by unfold argsT; exact good_pure _
  | v :: l, t, k => by
    unfold argsT
    refine good_bind ?_ fun t => ?_
    · rw [tset8_eq]; exact good_pure _
    · rw [forceN_eq]; exact good_argsT l _ _
theorem good_defsK {D : Hook} {E : Callee'} (hD : GoodH D) (hE : GoodE E) : ∀ ds, Good (defsK D E ds)
  | [] => good_pure _
  | d :: ds => by
    refine good_bind ?_ fun _ => good_defsK hD hE ds
    unfold defK
    split
    · rw [forceL_eq]
      split
      · rename_i F hF
        exact hD _ _ _ hF
      · exact hE _ _
    · exact good_fail
theorem good_callK {X D : Hook} {Ev : EvT} {E : Callee'} (hX : GoodH X) (hD : GoodH D) (hv : ∀ c N a, Good (Ev c N a)) (hE : GoodE E) : GoodE (callK P X D Ev E) := by
  intro f vs
  have h1 : ∀ fn, Good (enterK P D Ev E fn vs) := by
    intro fn
    unfold enterK
    split
    · refine good_bind (good_argsT _ _ _) fun t => good_bind (hv _ _ _) fun x => ?_
      unfold leaveK
      split
      · exact good_bind (good_defsK hD hE _) fun _ => good_bind (good_resK P _ _) fun _ => good_pure _
      · exact good_bind (good_defsK hD hE _) fun _ => good_bind (good_resK P _ _) fun _ => good_pure _
      · exact good_fail
    · exact good_fail
  cases hx : X f vs with
  | some F =>
    have : callK P X D Ev E f vs = F := by funext s; unfold callK; rw [hx]
    rw [this]; exact hX _ _ _ hx
  | none =>
    cases hf : P.funcs[f]? with
    | none =>
      have : callK P X D Ev E f vs = fun _ => none := by funext s; unfold callK; rw [hx, hf]
      rw [this]; exact good_fail
    | some fn =>
      have : callK P X D Ev E f vs = fun s => (enterK P D Ev E fn vs).run s fun v s => some (v, s) := by funext s; unfold callK; rw [hx, hf]
      rw [this]; exact good_direct (h1 fn)
theorem good_callD {X : Hook} {Ev : EvT} (hv : ∀ c N a, Good (Ev c N a)) : GoodE (callD P X Ev) := by
  intro f vs
  have h1 : ∀ fn, Good (enterD P Ev fn vs) := by
    intro fn
    unfold enterD
    split
    · refine good_bind (good_argsT _ _ _) fun t => good_bind (hv _ _ _) fun x => ?_
      unfold leaveD
      split
      · exact good_bind (good_resK P _ _) fun _ => good_pure _
      · exact good_bind (good_resK P _ _) fun _ => good_pure _
      · exact good_fail
    · exact good_fail
  cases hx : X f vs with
  | some F =>
    have : callD P X Ev f vs = fun _ => none := by funext s; unfold callD; rw [hx]
    rw [this]; exact good_fail
  | none =>
    cases hf : P.funcs[f]? with
    | none =>
      have : callD P X Ev f vs = fun _ => none := by funext s; unfold callD; rw [hx, hf]
      rw [this]; exact good_fail
    | some fn =>
      have : callD P X Ev f vs = fun s => (enterD P Ev fn vs).run s fun v s => some (v, s) := by funext s; unfold callD; rw [hx, hf]
      rw [this]; exact good_direct (h1 fn)
theorem good_ev {X D : Hook} (hX : GoodH X) (hD : GoodH D) : ∀ n c N a, Good (ev P X D n c N a)
  | 0, c, N, a => good_fail
  | n + 1, c, N, a => good_evStep P (good_ev hX hD n) (good_callK P hX hD (good_ev hX hD n) (good_callD P (good_ev hX hD n))) c N a
theorem good_call {X D : Hook} (hX : GoodH X) (hD : GoodH D) (n : Nat) : GoodE (call P X D n) :=
  good_callK P hX hD (good_ev P hX hD n) (good_callD P (good_ev P hX hD n))
end Go.Proofs.YtpijenlmfmknnaaGreatDoor

/- Cells loaded, stored and laid in memory, and what stays of the store's likeness. No program. -/
namespace Go.Proofs.YtpijenlmfmknnaaGreatDoor
open Go.RowKit
set_option linter.unusedVariables false
variable {P : Program}

theorem add_at (b o i : Nat) : (⟨b, o, none⟩ : Addr).add i = ⟨b, o + i, none⟩ := by
  unfold Addr.add
  split
  · rename_i h; subst h; rfl
  · rfl
theorem cell_at {w : World} {b : Nat} {c : Array Value} {t : TypeId} {fz : Nat × Nat} (h : w.heap[b]? = some (.cells c t fz)) (o : Nat) : w.cell? ⟨b, o, none⟩ = c[o]? := by
  simp [World.cell?, h]
theorem load_run {w : World} {b : Nat} {c : Array Value} {t : TypeId} {fz : Nat × Nat} (h : w.heap[b]? = some (.cells c t fz)) (o : Nat) (cs : List Value)
    (hc : ∀ (j : Nat) v, cs[j]? = some v → c[o + j]? = some v) : (loadCells ⟨b, o, none⟩ cs.length).run P w = .ok cs.toArray w :=
  run_loadCells_list w _ cs fun j v hj => by rw [add_at, cell_at h]; exact hc j v hj

/-- The same world but for one block's cells. -/
structure Tw (w w' : World) (b : Nat) : Prop where
  os : w'.os = w.os
  tape : w'.tape = w.tape
  output : w'.output = w.output
  size : w'.heap.size = w.heap.size
  other : ∀ x, x ≠ b → w'.heap[x]? = w.heap[x]?
theorem Tw.rfl {w : World} {b : Nat} : Tw w w b := ⟨Eq.refl _, Eq.refl _, Eq.refl _, Eq.refl _, fun _ _ => Eq.refl _⟩
theorem Tw.trans {a b c : World} {k : Nat} (h : Tw a b k) (h' : Tw b c k) : Tw a c k :=
  ⟨h'.os.trans h.os, h'.tape.trans h.tape, h'.output.trans h.output, h'.size.trans h.size, fun x hx => (h'.other x hx).trans (h.other x hx)⟩
theorem set_tw {w : World} {b o : Nat} {c : Array Value} {t : TypeId} {fz : Nat × Nat} (h : w.heap[b]? = some (.cells c t fz)) (v : Value) :
    Tw w (w.setCell ⟨b, o, none⟩ v) b ∧ (w.setCell ⟨b, o, none⟩ v).heap[b]? = some (.cells (c.setIfInBounds o v) t fz) := by
  refine ⟨⟨rfl, rfl, rfl, by simp [World.setCell], fun x hx => ?_⟩, ?_⟩
  · simp only [World.setCell, Array.getElem?_modify]
    rw [if_neg (fun e => hx e.symm)]
  · simp [World.setCell, Array.getElem?_modify, h]
theorem store_run {b o : Nat} {t : TypeId} {fz : Nat × Nat} : ∀ (vs : List Value) (i : Nat) (w : World) (c : Array Value), w.heap[b]? = some (.cells c t fz) → o + i + vs.length ≤ c.size →
    (∀ k, k < c.size → ¬ (fz.1 ≤ k ∧ k < fz.2)) → (∀ v ∈ vs, v.oneCell' = true) →
    ∃ w' c', (storeCells ⟨b, o, none⟩ vs i).run P w = .ok () w' ∧ w'.heap[b]? = some (.cells c' t fz) ∧ c'.size = c.size ∧ Tw w w' b ∧
      ∀ k, c'[k]? = if o + i ≤ k ∧ k < o + i + vs.length then vs[k - (o + i)]? else c[k]?
  | [], i, w, c, h, hl, hf, h1 => ⟨w, c, rfl, h, rfl, .rfl, fun k => by rw [if_neg (by simp)]⟩
  | v :: vs, i, w, c, h, hl, hf, h1 => by
    simp only [List.length_cons] at hl
    obtain ⟨tw, hb⟩ := set_tw (o := o + i) h v
    have hsz : (c.setIfInBounds (o + i) v).size = c.size := by simp
    obtain ⟨w', c', hr, hb', hs', tw', hk⟩ := store_run (o := o) vs (i + 1) _ _ hb (by rw [hsz]; omega) (by rw [hsz]; exact hf) (fun u hu => h1 u (List.mem_cons_of_mem _ hu))
    refine ⟨w', c', ?_, hb', hs'.trans hsz, tw.trans tw', fun k => ?_⟩
    · have hcell : w.cell? ⟨b, o + i, none⟩ = some c[o + i] := by rw [cell_at h, Array.getElem?_eq_getElem (by omega)]
      have hfr : w.frozen? ⟨b, o + i, none⟩ = false := by
        have := hf (o + i) (by omega)
        simp only [World.frozen?, h]
        simpa using this
      simp only [storeCells, Sem.run_bind, add_at, run_store P w _ v _ (h1 v (List.mem_cons_self)), hcell, hfr, Bool.false_eq_true, if_false]
      exact hr
    · rw [hk k]
      by_cases h2 : o + i ≤ k ∧ k < o + i + (v :: vs).length
      · rw [if_pos h2]
        simp only [List.length_cons] at h2
        by_cases h3 : k = o + i
        · rw [if_neg (by omega), Array.getElem?_setIfInBounds, if_pos h3.symm]
          subst h3
          rw [if_pos (by omega)]
          simp
        · rw [if_pos (by omega), show k - (o + i) = (k - (o + (i + 1))) + 1 by omega]
          rfl
      · rw [if_neg h2]
        simp only [List.length_cons] at h2
        rw [if_neg (by omega), Array.getElem?_setIfInBounds, if_neg (by omega)]

/-! The store's likeness goes on. -/
section
variable {w0 w w' : World} {B : Nat} {ρ ρ' : Rn} {h h' : Hf}
theorem ObjR.grow (hρ : ρ.le ρ') {id : Nat} {o : Obj} (ho : ObjR ρ w id o) : ObjR ρ' w id o := by
  cases o with
  | cells cs el fl =>
    obtain ⟨p, h1, h2, h3, h4, c', el', fz, h5, h6, h7, h8⟩ := ho
    exact ⟨p, hρ _ _ h1, h2, h3, h4, c', el', fz, h5, h6, h7, fun k v hk => let ⟨v', hv, hl⟩ := h8 k v hk; ⟨v', hv, hl.grow hρ⟩⟩
  | map es c =>
    obtain ⟨p, h1, h2⟩ := ho
    exact ⟨p, hρ _ _ h1, h2⟩
  | _ => exact ho
/-- The block lies where it is said to lie. -/
theorem ObjR.place {id : Nat} {o : Obj} (ho : ObjR ρ w id o) : ∃ p, ρ id = some p ∧ p.blk < w.heap.size := by
  have lt : ∀ {b : Nat} {x : Obj}, w.heap[b]? = some x → b < w.heap.size := by
    intro b x hx
    rcases Nat.lt_or_ge b w.heap.size with h | h
    · exact h
    · rw [Array.getElem?_eq_none h] at hx; cases hx
  cases o with
  | cells cs el fl =>
    obtain ⟨p, h1, _, _, _, c', el', fz, h5, _⟩ := ho
    exact ⟨p, h1, lt h5⟩
  | map es c =>
    obtain ⟨p, h1, h2⟩ := ho
    exact ⟨p, h1, lt h2⟩
  | _ => exact ho.elim
theorem ObjR.same {id : Nat} {o : Obj} (ho : ObjR ρ w id o) (hw : ∀ p, ρ id = some p → w'.heap[p.blk]? = w.heap[p.blk]?) : ObjR ρ w' id o := by
  cases o with
  | cells cs el fl =>
    obtain ⟨p, h1, h2, h3, h4, c', el', fz, h5, h6⟩ := ho
    exact ⟨p, h1, h2, h3, h4, c', el', fz, (hw p h1).trans h5, h6⟩
  | map es c =>
    obtain ⟨p, h1, h2⟩ := ho
    exact ⟨p, h1, (hw p h1).trans h2⟩
  | _ => exact ho
theorem HR.drop (H : HR w0 B ρ h w) (hh : ∀ id o, h' id = some o → h id = some o) : HR w0 B ρ h' w :=
  ⟨H.below, H.base, fun id o e => H.obj id o (hh _ _ e), fun i j oi oj pi pj hij hi hj => H.sep i j oi oj pi pj hij (hh _ _ hi) (hh _ _ hj), fun id o p e => H.own id o p (hh _ _ e), H.glo⟩
theorem HR.congr (H : HR w0 B ρ h w) (hh : ∀ id, h' id = h id) : HR w0 B ρ h' w := H.drop fun id o e => (hh id).symm.trans e
theorem HR.drew (H : HR w0 B ρ h w) (n : Nat) : HR w0 B ρ h { w with drawn := n } :=
  ⟨⟨H.below.os, H.below.tape, H.below.output, H.below.size, H.below.block⟩, H.base, fun id o e => (H.obj id o e).same fun _ _ => rfl, H.sep, H.own, H.glo⟩
def Rn.put (ρ : Rn) (n : Nat) (p : Pl) : Rn := fun i => if i = n then some p else ρ i
theorem Rn.put_le {n : Nat} (hn : ρ n = none) (p : Pl) : ρ.le (ρ.put n p) := fun i q e => by
  unfold Rn.put
  by_cases hi : i = n
  · subst hi; rw [hn] at e; cases e
  · rw [if_neg hi]; exact e
def Hf.put (h : Hf) (n : Nat) (o : Option Obj) : Hf := fun i => if n = i then o else h i
/-- A new block is numbered. -/
theorem HR.new (H : HR w0 B ρ h w) {n : Nat} (hn : ρ n = none) (h16 : 16 ≤ n) {o : Obj} {p : Pl} (hp : B ≤ p.blk) (hfar : ∀ id o p', h id = some o → ρ id = some p' → p'.blk ≠ p.blk)
    (hb : Below B w0 w') (hw : ∀ id o p', h id = some o → ρ id = some p' → w'.heap[p'.blk]? = w.heap[p'.blk]?) (ho : ObjR (ρ.put n p) w' n o) : HR w0 B (ρ.put n p) (h.put n (some o)) w' := by
  have hle := Rn.put_le hn p
  have hne : ∀ id o, h id = some o → id ≠ n := fun id o e hid => by
    obtain ⟨q, hq, _⟩ := (H.obj id o e).place
    rw [hid, hn] at hq; cases hq
  have hput : ∀ id, id ≠ n → ρ.put n p id = ρ id := fun id hid => if_neg hid
  refine ⟨hb, H.base, fun id o' e => ?_, fun i j oi oj pi pj hij hi hj ei ej => ?_, fun id o' p' e h16' ep => ?_, fun g hg => ?_⟩
  · unfold Hf.put at e
    by_cases hid : n = id
    · rw [if_pos hid] at e
      cases e
      rw [← hid]; exact ho
    · rw [if_neg hid] at e
      exact ((H.obj id o' e).same fun p' hp' => hw id o' p' e hp').grow hle
  · unfold Hf.put at hi hj
    by_cases h1 : n = i
    · by_cases h2 : n = j
      · omega
      · rw [if_neg h2] at hj
        rw [hput j (fun e => h2 e.symm)] at ej
        have : ρ.put n p i = some p := by rw [← h1]; exact if_pos rfl
        rw [this] at ei; cases ei
        exact fun e => hfar j oj pj hj ej e.symm
    · rw [if_neg h1] at hi
      rw [hput i (fun e => h1 e.symm)] at ei
      by_cases h2 : n = j
      · have : ρ.put n p j = some p := by rw [← h2]; exact if_pos rfl
        rw [this] at ej; cases ej
        exact hfar i oi pi hi ei
      · rw [if_neg h2] at hj
        rw [hput j (fun e => h2 e.symm)] at ej
        exact H.sep i j oi oj pi pj hij hi hj ei ej
  · unfold Hf.put at e
    by_cases hid : n = id
    · have : ρ.put n p id = some p := by rw [← hid]; exact if_pos rfl
      rw [this] at ep; cases ep
      exact hp
    · rw [if_neg hid] at e
      rw [hput id (fun e => hid e.symm)] at ep
      exact H.own id o' p' e h16' ep
  · obtain ⟨q, h1, h2⟩ := H.glo g hg
    exact ⟨q, hle _ _ h1, h2⟩
/-- A block that is there is turned. -/
theorem HR.set (H : HR w0 B ρ h w) {n : Nat} {o o' : Obj} {p : Pl} (hn : h n = some o) (hp : ρ n = some p) (hb : Below B w0 w')
    (hw : ∀ x, x ≠ p.blk → w'.heap[x]? = w.heap[x]?) (ho : ObjR ρ w' n o') : HR w0 B ρ (h.put n (some o')) w' := by
  refine ⟨hb, H.base, fun id x e => ?_, fun i j oi oj pi pj hij hi hj ei ej => ?_, fun id x p' e h16' ep => ?_, H.glo⟩
  · unfold Hf.put at e
    by_cases hid : n = id
    · rw [if_pos hid] at e; cases e; rw [← hid]; exact ho
    · rw [if_neg hid] at e
      exact (H.obj id x e).same fun p' hp' => hw _ (fun e' => H.sep n id o x p p' hid hn e hp hp' e'.symm)
  · have back : ∀ i oi, (h.put n (some o')) i = some oi → ∃ x, h i = some x := by
      intro i oi e
      unfold Hf.put at e
      by_cases hid : n = i
      · exact ⟨o, hid ▸ hn⟩
      · rw [if_neg hid] at e; exact ⟨oi, e⟩
    obtain ⟨x, hx⟩ := back i oi hi
    obtain ⟨y, hy⟩ := back j oj hj
    exact H.sep i j x y pi pj hij hx hy ei ej
  · unfold Hf.put at e
    by_cases hid : n = id
    · exact H.own id o p' (hid ▸ hn) h16' ep
    · rw [if_neg hid] at e; exact H.own id x p' e h16' ep
end
end Go.Proofs.YtpijenlmfmknnaaGreatDoor

/- What a piece of the reckoner tells, memory tells too. No program. -/
namespace Go.Proofs.YtpijenlmfmknnaaGreatDoor
open Go.RowKit
set_option linter.unusedVariables false

structure Tells {α : Type} (F : M α) (s : Hp) (a : α) (s' : Hp) : Prop where
  eq : ∀ {β : Type} (J : α → Hp → Option β), F.run s J = J a s'
theorem Tells.pair {α : Type} {F : M α} {s s' : Hp} {a : α} (h : Tells F s a s') : F.run s (fun a s => some (a, s)) = some (a, s') := h.eq _
theorem tells_pure {α : Type} {a b : α} {s s' : Hp} (h : Tells (mpure a) s b s') : b = a ∧ s' = s := by
  have e : some (a, s) = some (b, s') := h.pair
  cases e
  exact ⟨rfl, rfl⟩
theorem tells_fail {α : Type} {b : α} {s s' : Hp} (h : Tells mfail s b s') : False := by
  have e : none = some (b, s') := h.pair
  cases e
theorem tells_bind {α γ : Type} {F : M α} {G : α → M γ} (hF : Good F) {s s' : Hp} {b : γ} (h : Tells (mbind F G) s b s') : ∃ a s1, Tells F s a s1 ∧ Tells (G a) s1 b s' ∧ s.n ≤ s1.n := by
  obtain ⟨a, s1, r, q, e, f, _⟩ := hF.ok s _ _ h.pair
  exact ⟨a, s1, ⟨fun J => e J⟩, ⟨fun J => (e fun a s => (G a).run s J).symm.trans (h.eq J)⟩, f.n⟩
theorem Tells.le {α : Type} {F : M α} (hF : Good F) {s s' : Hp} {a : α} (h : Tells F s a s') : s.n ≤ s'.n := by
  obtain ⟨b, s1, r, q, e, f, _⟩ := hF.ok s _ _ h.pair
  have e2 : some (b, s1) = some (a, s') := (e fun a s => some (a, s)).symm.trans h.pair
  cases e2
  exact f.n
theorem tells_get {b : Nat} {s s' : Hp} {o : Obj} (h : Tells (mget b) s o s') : s.f b = some o ∧ s'.f = s.f ∧ s'.n = s.n := by
  have e := h.pair
  rw [mget_eq] at e
  cases hb : s.f b with
  | none => rw [hb] at e; cases e
  | some x => rw [hb] at e; cases e; exact ⟨rfl, rfl, rfl⟩
theorem tells_set {b : Nat} {o : Option Obj} {s s' : Hp} {u : Unit} (h : Tells (mset b o) s u s') : 16 ≤ b ∧ s'.f = s.f.put b o ∧ s'.n = s.n := by
  have e := h.pair
  rw [mset_eq] at e
  split at e
  · rename_i hc
    cases e
    refine ⟨hc.1, ?_, rfl⟩
    funext id
    rw [put_f _ _ _ _ hc.2]; rfl
  · cases e
theorem tells_new {o : Obj} {s s' : Hp} {id : Nat} (h : Tells (mnew o) s id s') : id = s.n ∧ 16 ≤ s.n ∧ s'.f = s.f.put s.n (some o) ∧ s'.n = s.n + 1 := by
  have e := h.pair
  rw [mnew_eq] at e
  split at e
  · rename_i hc
    cases e
    refine ⟨rfl, hc.1, ?_, rfl⟩
    funext id
    rw [put_f _ _ _ _ hc.2]; rfl
  · cases e
theorem tells_cut {off n : Nat} {l vs : List Value} {s s' : Hp} (h : Tells (cut off n l) s vs s') : off + n ≤ l.length ∧ vs = (l.drop off).take n ∧ s' = s := by
  unfold cut at h
  split at h
  · rename_i hb
    rw [forceL_eq] at h
    obtain ⟨h1, h2⟩ := tells_pure h
    exact ⟨Nat.le_of_ble_eq_true hb, h1, h2⟩
  · exact (tells_fail h).elim
theorem tells_paste {off : Nat} {vs l k : List Value} {s s' : Hp} (h : Tells (paste off vs l) s k s') : off + vs.length ≤ l.length ∧ k = l.take off ++ (vs ++ l.drop (off + vs.length)) ∧ s' = s := by
  unfold paste at h
  split at h
  · rename_i hb
    rw [forceL_eq] at h
    obtain ⟨h1, h2⟩ := tells_pure h
    exact ⟨Nat.le_of_ble_eq_true hb, h1, h2⟩
  · exact (tells_fail h).elim
theorem tells_cells {b : Nat} {s s' : Hp} {c : List Value × TypeId × (Nat × Nat)} (h : Tells (mcells b) s c s') : s.f b = some (.cells ⟨c.1⟩ c.2.1 c.2.2) ∧ s'.f = s.f ∧ s'.n = s.n := by
  obtain ⟨o, s1, h1, h2, _⟩ := tells_bind (good_get b) h
  obtain ⟨e1, e2, e3⟩ := tells_get h1
  unfold cellsO at h2
  split at h2
  · obtain ⟨rfl, rfl⟩ := tells_pure h2
    exact ⟨e1, e2, e3⟩
  · exact (tells_fail h2).elim
theorem tells_load {a : Addr} {n : Nat} {vs : List Value} {s s' : Hp} (h : Tells (mload a n) s vs s') :
    ∃ b off l t fl, a = ⟨b, off, none⟩ ∧ s.f b = some (.cells ⟨l⟩ t fl) ∧ off + n ≤ l.length ∧ vs = (l.drop off).take n ∧ s'.f = s.f ∧ s'.n = s.n := by
  unfold mload at h
  split at h
  · rename_i b off
    obtain ⟨c, s1, h1, h2, _⟩ := tells_bind (good_mcells b) h
    obtain ⟨e1, e2, e3⟩ := tells_cells h1
    obtain ⟨f1, f2, rfl⟩ := tells_cut h2
    exact ⟨b, off, c.1, c.2.1, c.2.2, rfl, e1, f1, f2, e2, e3⟩
  · exact (tells_fail h).elim
theorem tells_store {a : Addr} {vs : List Value} {u : Unit} {s s' : Hp} (h : Tells (mstore a vs) s u s') :
    ∃ b off l t fl, a = ⟨b, off, none⟩ ∧ 16 ≤ b ∧ s.f b = some (.cells ⟨l⟩ t fl) ∧ off + vs.length ≤ l.length ∧ vs.all oneV = true ∧
      s'.f = s.f.put b (some (.cells ⟨l.take off ++ (vs ++ l.drop (off + vs.length))⟩ t fl)) ∧ s'.n = s.n := by
  unfold mstore at h
  split at h
  · rename_i b off
    obtain ⟨c, s1, h1, h2, _⟩ := tells_bind (good_mcells b) h
    obtain ⟨e1, e2, e3⟩ := tells_cells h1
    split at h2
    · rename_i h1v
      obtain ⟨l, s2, h3, h4, _⟩ := tells_bind (good_paste _ _ _) h2
      obtain ⟨f1, rfl, rfl⟩ := tells_paste h3
      obtain ⟨g1, g2, g3⟩ := tells_set h4
      exact ⟨b, off, c.1, c.2.1, c.2.2, rfl, g1, e1, f1, h1v, by rw [g2, e2], by rw [g3, e3]⟩
    · exact (tells_fail h2).elim
  · exact (tells_fail h).elim
theorem tells_row {t : TypeId} {l : List Value} {fl : Nat × Nat} {id : Nat} {s s' : Hp} (h : Tells (mrow t l fl) s id s') :
    l.all oneV = true ∧ id = s.n ∧ 16 ≤ s.n ∧ s'.f = s.f.put s.n (some (.cells ⟨l⟩ t fl)) ∧ s'.n = s.n + 1 := by
  unfold mrow at h
  split at h
  · rename_i h1
    obtain ⟨e1, e2, e3, e4⟩ := tells_new h
    exact ⟨h1, e1, e2, e3, e4⟩
  · exact (tells_fail h).elim
theorem tells_aev {x : Option Value} {v : Value} {s s' : Hp} (h : Tells (maev x) s v s') : x = some v ∧ s' = s := by
  unfold maev at h
  split at h
  · obtain ⟨rfl, rfl⟩ := tells_pure h; exact ⟨rfl, rfl⟩
  · exact (tells_fail h).elim

/-! What stands for what, behind a piece. -/
variable {P : Program}
/-- Numbers from n up to m are new; and no other number gets a new meaning. -/
def Free (ρ : Rn) (n m : Nat) : Prop := ∀ id, n ≤ id → id < m → ρ id = none
structure Ext (ρ ρ' : Rn) (n m : Nat) : Prop where
  le : ρ.le ρ'
  out : ∀ id, ¬ (n ≤ id ∧ id < m) → ρ' id = ρ id
theorem Ext.rfl {ρ : Rn} {n m : Nat} : Ext ρ ρ n m := ⟨.rfl, fun _ _ => Eq.refl _⟩
theorem Ext.trans {a b c : Rn} {n m k : Nat} (h : Ext a b n m) (h' : Ext b c m k) (hn : n ≤ m) (hm : m ≤ k) : Ext a c n k :=
  ⟨h.le.trans h'.le, fun id hid => (h'.out id (by omega)).trans (h.out id (by omega))⟩
theorem Ext.put {ρ : Rn} {n : Nat} (hn : ρ n = none) (p : Pl) : Ext ρ (ρ.put n p) n (n + 1) := ⟨Rn.put_le hn p, fun id hid => if_neg (by omega)⟩
theorem Free.left {ρ : Rn} {n m k : Nat} (h : Free ρ n k) (hm : m ≤ k) : Free ρ n m := fun id h1 h2 => h id h1 (by omega)
theorem Free.right {ρ ρ' : Rn} {n m k : Nat} (h : Free ρ n k) (hn : n ≤ m) (e : Ext ρ ρ' n m) : Free ρ' m k := fun id h1 h2 => by
  rw [e.out id (by omega)]; exact h id (by omega) h2

/-- Wherever the piece F tells something, the model's piece c runs, and tells what stands for it. -/
def Sim (P : Program) {α γ : Type} (ρ0 : Rn) (F : M α) (c : Sem γ) (R : Rn → α → γ → Prop) : Prop :=
  ∀ (w0 : World) (B : Nat) (s s' : Hp) (a : α) (ρ : Rn) (w : World), ρ0.le ρ → Tells F s a s' → HR w0 B ρ s.f w → Free ρ s.n s'.n →
    ∃ v w' ρ', c.run P w = .ok v w' ∧ HR w0 B ρ' s'.f w' ∧ Ext ρ ρ' s.n s'.n ∧ R ρ' a v
theorem Sim.bind {α γ δ ε : Type} {ρ0 : Rn} {F : M α} {G : α → M δ} {c : Sem γ} {k : γ → Sem ε} {R : Rn → α → γ → Prop} {S : Rn → δ → ε → Prop}
    (hF : Good F) (hG : ∀ a, Good (G a)) (h : Sim P ρ0 F c R) (hk : ∀ ρ a v, ρ0.le ρ → R ρ a v → Sim P ρ (G a) (k v) S) : Sim P ρ0 (mbind F G) (c >>= k) S := by
  intro w0 B s s' b ρ w hρ ht H hfr
  obtain ⟨a, s1, h1, h2, hn⟩ := tells_bind hF ht
  have hn2 := h2.le (hG a)
  obtain ⟨v, w1, ρ1, hr, H1, he, hR⟩ := h w0 B s s1 a ρ w hρ h1 H (hfr.left hn2)
  obtain ⟨v2, w2, ρ2, hr2, H2, he2, hS⟩ := hk ρ1 a v (hρ.trans he.le) hR w0 B s1 s' b ρ1 w1 .rfl h2 H1 (hfr.right hn he)
  refine ⟨v2, w2, ρ2, ?_, H2, he.trans he2 hn hn2, hS⟩
  rw [Sem.run_bind, hr]
  exact hr2
theorem Sim.fail {α γ : Type} {ρ0 : Rn} {c : Sem γ} {R : Rn → α → γ → Prop} : Sim P ρ0 mfail c R := fun _ _ _ _ _ _ _ _ h => (tells_fail h).elim
theorem Sim.pure {α γ : Type} {ρ0 : Rn} {a : α} {v : γ} {R : Rn → α → γ → Prop} (h : ∀ ρ, ρ0.le ρ → R ρ a v) : Sim P ρ0 (mpure a) (Pure.pure v) R := by
  intro w0 B s s' b ρ w hρ ht H hfr
  obtain ⟨rfl, rfl⟩ := tells_pure ht
  exact ⟨v, w, ρ, Eq.refl _, H, .rfl, h ρ hρ⟩
/-- A piece that touches no memory, ahead of the rest. -/
theorem Sim.skip {α γ δ : Type} {ρ0 : Rn} {F : M α} {c : Sem γ} {k : γ → Sem δ} {R : Rn → α → δ → Prop} (v : γ) (hc : ∀ w, c.run P w = .ok v w) (h : Sim P ρ0 F (k v) R) : Sim P ρ0 F (c >>= k) R := by
  intro w0 B s s' b ρ w hρ ht H hfr
  obtain ⟨v2, w2, ρ2, hr, rest⟩ := h w0 B s s' b ρ w hρ ht H hfr
  refine ⟨v2, w2, ρ2, ?_, rest⟩
  rw [Sem.run_bind, hc]
  exact hr
theorem Sim.mono {α γ : Type} {ρ0 : Rn} {F : M α} {c : Sem γ} {R S : Rn → α → γ → Prop} (h : Sim P ρ0 F c R) (hRS : ∀ ρ a v, ρ0.le ρ → R ρ a v → S ρ a v) : Sim P ρ0 F c S := by
  intro w0 B s s' b ρ w hρ ht H hfr
  obtain ⟨v2, w2, ρ2, hr, H2, he, hR⟩ := h w0 B s s' b ρ w hρ ht H hfr
  exact ⟨v2, w2, ρ2, hr, H2, he, hRS _ _ _ (hρ.trans he.le) hR⟩
theorem one_of {ρ : Rn} {v v' : Value} (h : VL ρ v v') (h1 : oneV v = true) : v'.oneCell' = true := by
  cases v with
  | bool b => rw [VL.bool.1 h]; rfl
  | int k i => rw [VL.int.1 h]; rfl
  | string s => rw [VL.string.1 h]; rfl
  | pointer a => cases a with
    | none => rw [VL.nilp.1 h]; rfl
    | some a => obtain ⟨_, p, _, e⟩ := VL.ptr.1 h; rw [e]; rfl
  | slice a l c => cases a with
    | none => rw [(VL.nils.1 h).2.2]; rfl
    | some a => obtain ⟨_, _, p, _, a', c', e, _⟩ := VL.slice.1 h; rw [e]; rfl
  | map r => cases r with
    | none => rw [VL.nilm.1 h]; rfl
    | some a => obtain ⟨p, _, e⟩ := VL.map.1 h; rw [e]; rfl
  | func fn f c =>
    obtain ⟨f⟩ := f
    obtain ⟨c⟩ := c
    obtain ⟨_, f', c', e, _⟩ := VL.func.1 h; rw [e]; rfl
  | nilFunc => rw [VL.nilf.1 h]; rfl
  | iface t x => obtain ⟨x', e, _⟩ := VL.iface.1 h; rw [e]; rfl
  | nilIface => rw [VL.nili.1 h]; rfl
  | agg c => cases h1
  | tuple c => cases h1
  | chan c => cases h1
  | float k b => obtain ⟨n, h⟩ := h; cases n <;> exact h.elim
  | complex k a b => obtain ⟨n, h⟩ := h; cases n <;> exact h.elim
theorem ones_of {ρ : Rn} : ∀ {l l' : List Value}, LR (VL ρ) l l' → l.all oneV = true → ∀ v ∈ l', v.oneCell' = true
  | [], _, e, _, v, hv => by rw [e] at hv; cases hv
  | x :: l, _, ⟨x', t, e, hx, ht⟩, h1, v, hv => by
    rw [List.all_cons, Bool.and_eq_true] at h1
    rw [e] at hv
    cases hv with
    | head => exact one_of hx h1.1
    | tail _ hm => exact ones_of ht h1.2 v hm

/-- Cells that are looked at are there. -/
theorem rd_load {w0 w : World} {B : Nat} {ρ : Rn} {h : Hf} {b off n : Nat} {l : List Value} {t : TypeId} {fl : Nat × Nat} {p : Pl} (H : HR w0 B ρ h w) (hp : ρ b = some p) (e1 : h b = some (.cells ⟨l⟩ t fl)) (e2 : off + n ≤ l.length) :
    ∃ l', (loadCells ⟨p.blk, p.off + off, none⟩ n).run P w = .ok ⟨l'⟩ w ∧ LR (VL ρ) ((l.drop off).take n) l' ∧ l'.length = n := by
  obtain ⟨q, hq, h2, h3, h4, c', el', fz, h5, h6, h7, h8⟩ := H.obj b _ e1
  rw [hp] at hq
  cases hq
  have hsz : p.sz = l.length := h2
  have hvl : ((l.drop off).take n).length = n := by rw [List.length_take, List.length_drop]; omega
  have hex : ∃ l', l'.length = n ∧ (∀ (j : Nat) v', l'[j]? = some v' → c'[p.off + off + j]? = some v') ∧ LR (VL ρ) ((l.drop off).take n) l' := by
    refine ⟨(c'.toList.drop (p.off + off)).take n, ?_, fun j v' hj => ?_, ?_⟩
    · rw [List.length_take, List.length_drop, Array.length_toList]; omega
    · rw [List.getElem?_take] at hj
      split at hj
      · rw [List.getElem?_drop, Array.getElem?_toList] at hj; exact hj
      · cases hj
    · refine LR.of ?_ fun i v v' hv hv' => ?_
      · rw [hvl, List.length_take, List.length_drop, Array.length_toList]; omega
      · rw [List.getElem?_take] at hv hv'
        split at hv
        · rename_i hin
          rw [if_pos hin] at hv'
          rw [List.getElem?_drop] at hv
          rw [List.getElem?_drop, Array.getElem?_toList] at hv'
          obtain ⟨u, hu, hvu⟩ := h8 (off + i) v (by simpa using hv)
          rw [show p.off + (off + i) = p.off + off + i by omega, hv'] at hu
          cases hu; exact hvu
        · cases hv
  obtain ⟨l', hl1, hl2, hl3⟩ := hex
  refine ⟨l', ?_, hl3, hl1⟩
  have := load_run (P := P) h5 (p.off + off) l' hl2
  rw [hl1] at this
  exact this
/-- Loading cells. -/
theorem sim_load {ρ0 : Rn} {a a' : Addr} {n : Nat} (ha : VL ρ0 (.pointer (some a)) (.pointer (some a'))) :
    Sim P ρ0 (mload a n) (loadCells a' n) (fun ρ vs x => ∃ l', x = ⟨l'⟩ ∧ LR (VL ρ) vs l' ∧ vs.length = n) := by
  intro w0 B s s' vs ρ w hρ ht H hfr
  obtain ⟨b, off, l, t, fl, rfl, e1, e2, rfl, e3, e4⟩ := tells_load ht
  obtain ⟨_, p, hp, ep⟩ := VL.ptr.1 (ha.grow hρ)
  cases ep
  obtain ⟨l', h1, h2, h3⟩ := rd_load (P := P) H hp e1 e2
  exact ⟨⟨l'⟩, w, ρ, h1, H.congr fun id => by rw [e3], .rfl, l', Eq.refl _, h2, by rw [List.length_take, List.length_drop]; omega⟩
/-- Storing cells. -/
theorem sim_store {ρ0 : Rn} {a a' : Addr} {vs vs' : List Value} (ha : VL ρ0 (.pointer (some a)) (.pointer (some a'))) (hv : LR (VL ρ0) vs vs') :
    Sim P ρ0 (mstore a vs) (storeCells a' vs') (fun _ _ _ => True) := by
  intro w0 B s s' u ρ w hρ ht H hfr
  obtain ⟨b, off, l, t, fl, rfl, h16, e1, e2, e3, e4, e5⟩ := tells_store ht
  obtain ⟨_, p, hp, ep⟩ := VL.ptr.1 (ha.grow hρ)
  cases ep
  have hv' := hv.grow hρ
  have hlen := hv'.len
  obtain ⟨q, hq, h2, h3, h4, c', el', fz, h5, h6, h7, h8⟩ := H.obj b _ e1
  rw [show (ρ b = some p) from hp] at hq
  cases hq
  have hsz : p.sz = l.length := h2
  obtain ⟨w', c2, hr, hb', hs', tw, hk⟩ := store_run (P := P) (o := p.off + off) vs' 0 w c' h5 (by omega) (h7 h16).no (ones_of hv' e3)
  have hB : B ≤ p.blk := H.own b _ p e1 h16 hp
  refine ⟨(), w', ρ, hr, ?_, .rfl, trivial⟩
  rw [e4]
  refine H.set e1 hp (H.below.trans ⟨tw.os, tw.tape, tw.output, by rw [tw.size]; exact Nat.le_refl _, fun k hk => tw.other k (by omega)⟩) (fun x hx => tw.other x hx) ?_
  refine ⟨p, hp, ?_, h3, h4, c2, el', fz, hb', by rw [hs']; exact h6, by rw [hs']; exact h7, fun k v hkv => ?_⟩
  · simp only [List.size_toArray, List.length_append, List.length_take, List.length_drop]
    omega
  · have hkv' : (l.take off ++ (vs ++ l.drop (off + vs.length)))[k]? = some v := by simpa using hkv
    rw [hk (p.off + k)]
    by_cases hin : off ≤ k ∧ k < off + vs.length
    · rw [if_pos (by omega)]
      rw [List.getElem?_append_right (by rw [List.length_take]; omega), List.getElem?_append_left (by rw [List.length_take]; omega), List.length_take, show k - min off l.length = k - off by omega] at hkv'
      rw [show p.off + k - (p.off + off + 0) = k - off by omega]
      exact hv'.at hkv'
    · rw [if_neg (by omega)]
      have : l[k]? = some v := by
        by_cases hlt : k < off
        · rw [List.getElem?_append_left (by rw [List.length_take]; omega), List.getElem?_take, if_pos hlt] at hkv'
          exact hkv'
        · rw [List.getElem?_append_right (by rw [List.length_take]; omega), List.getElem?_append_right (by rw [List.length_take]; omega), List.length_take, List.getElem?_drop] at hkv'
          rw [← hkv']
          congr 1
          omega
      exact h8 k v (by simpa using this)
end Go.Proofs.YtpijenlmfmknnaaGreatDoor

/- Operations that make and touch memory: what the reckoner tells of them, the model does. No program. -/
namespace Go.Proofs.YtpijenlmfmknnaaGreatDoor
open Go.RowKit
set_option linter.unusedVariables false
variable {P : Program} {ρ0 : Rn}

/-- The operands' values stand for the model's. -/
def EnvR (ρ : Rn) (e : En) (m : Operand → Value) : Prop := ∀ x v, e x = some v → VL ρ v (m x)
def OpR (ρ : Rn) (v : Value) (nx : Next) : Prop := (∃ v', nx = .value v' ∧ VL ρ v v') ∨ (nx = .skip ∧ v = unV)
theorem Sim.value {F : M Value} {c : Sem Value} (h : Sim P ρ0 F c fun ρ a v => VL ρ a v) : Sim P ρ0 F (c >>= fun x => Pure.pure (Next.value x)) OpR := by
  intro w0 B s s' a ρ w hρ ht H hfr
  obtain ⟨v, w', ρ', hr, H', he, hR⟩ := h w0 B s s' a ρ w hρ ht H hfr
  refine ⟨.value v, w', ρ', ?_, H', he, .inl ⟨v, rfl, hR⟩⟩
  rw [Sem.run_bind, hr]; rfl
theorem sim_aev {x : Option Value} {c : Sem Value} {v' : Value} (hc : c = Pure.pure v') (hx : ∀ v, x = some v → VL ρ0 v v') : Sim P ρ0 (maev x) c fun ρ a v => VL ρ a v := by
  intro w0 B s s' a ρ w hρ ht H hfr
  obtain ⟨rfl, rfl⟩ := tells_aev ht
  exact ⟨v', w, ρ, by rw [hc]; rfl, H, .rfl, (hx a rfl).grow hρ⟩
theorem snd_move {e : En} {m : Operand → Value} (he : EnvR ρ0 e m) (x : Operand) : Sim P ρ0 (opMove x e) (Pure.pure (Next.value (m x))) OpR := by
  have := Sim.value (P := P) (sim_aev (c := Pure.pure (m x)) rfl fun v hv => he x v hv)
  exact this
theorem snd_pick {e : En} {m : Operand → Value} (he : EnvR ρ0 e m) (c a b : Operand) :
    Sim P ρ0 (opPick c a b e) (do Pure.pure (Next.value (if ← asBool (m c) then m a else m b))) OpR := by
  unfold opPick
  split
  · rename_i hc
    have := VL.bool.1 (he c _ hc)
    rw [this]
    exact snd_move he a
  · rename_i hc
    have := VL.bool.1 (he c _ hc)
    rw [this]
    exact snd_move he b
  · exact .fail

/-! Cells of a value. -/
theorem cellsK_rel {ρ : Rn} {v v' : Value} {vs : List Value} (h : VL ρ v v') (hc : cellsK v = some vs) : LR (VL ρ) vs v'.cells.toList := by
  have one : ∀ {x x' : Value}, VL ρ x x' → x'.cells = #[x'] → LR (VL ρ) [x] x'.cells.toList := fun hx e => by
    rw [e]; exact ⟨_, [], rfl, hx, rfl⟩
  unfold cellsK at hc
  split at hc
  · cases hc
    obtain ⟨l', e, hl⟩ := VL.agg.1 h
    rw [e]; exact hl
  · cases hc
  · rename_i h1 h2
    cases hc
    cases v with
    | agg c => obtain ⟨l⟩ := c; exact (h1 l rfl).elim
    | chan c => exact (h2 c rfl).elim
    | bool b => exact one h (by rw [VL.bool.1 h]; rfl)
    | int k i => exact one h (by rw [VL.int.1 h]; rfl)
    | string s => exact one h (by rw [VL.string.1 h]; rfl)
    | pointer a => cases a with
      | none => exact one h (by rw [VL.nilp.1 h]; rfl)
      | some a => exact one h (by obtain ⟨_, p, _, e⟩ := VL.ptr.1 h; rw [e]; rfl)
    | slice a l c => cases a with
      | none => exact one h (by rw [(VL.nils.1 h).2.2]; rfl)
      | some a => exact one h (by obtain ⟨_, _, p, _, a', c', e, _⟩ := VL.slice.1 h; rw [e]; rfl)
    | map r => cases r with
      | none => exact one h (by rw [VL.nilm.1 h]; rfl)
      | some a => exact one h (by obtain ⟨p, _, e⟩ := VL.map.1 h; rw [e]; rfl)
    | func fn f c =>
      obtain ⟨f⟩ := f
      obtain ⟨c⟩ := c
      exact one h (by obtain ⟨_, f', c', e, _⟩ := VL.func.1 h; rw [e]; rfl)
    | nilFunc => exact one h (by rw [VL.nilf.1 h]; rfl)
    | iface t x => exact one h (by obtain ⟨x', e, _⟩ := VL.iface.1 h; rw [e]; rfl)
    | nilIface => exact one h (by rw [VL.nili.1 h]; rfl)
    | tuple c => obtain ⟨l⟩ := c; exact one h (by obtain ⟨l', e, _⟩ := VL.tuple.1 h; rw [e]; rfl)
    | float k b => obtain ⟨n, h⟩ := h; cases n <;> exact h.elim
    | complex k a b => obtain ⟨n, h⟩ := h; cases n <;> exact h.elim
theorem plain_self {ρ : Rn} {v : Value} (h : plainV v = true) : VL ρ v v := (plainV_iff h).2 rfl
theorem plain_cells {ρ : Rn} {v : Value} (h : plainV v = true) : LR (VL ρ) v.cells.toList v.cells.toList := by
  have hs : VL ρ v v := plain_self h
  cases v with
  | agg c =>
    obtain ⟨l⟩ := c
    obtain ⟨l', e, hl⟩ := VL.agg.1 hs
    cases e
    exact hl
  | chan c => cases h
  | _ => exact ⟨_, [], rfl, hs, rfl⟩

/-! New rows. -/
theorem row_new {w0 w w' : World} {B : Nat} {ρ : Rn} {h : Hf} {n : Nat} {l l' rest : List Value} {t t' : TypeId} {fl fz : Nat × Nat} (es sl : Nat) (H : HR w0 B ρ h w) (hn : ρ n = none) (h16 : 16 ≤ n)
    (hl : LR (VL ρ) l l') (hf0 : fl.1 = 0 → sl = 0) (hf1 : fl.1 ≠ 0 → es = fl.1) (hr : sl * es ≤ rest.length) (hb : Below B w0 w')
    (hw : w'.heap[w.heap.size]? = some (.cells ⟨l' ++ rest⟩ t' fz)) (ho : ∀ x, x < w.heap.size → w'.heap[x]? = w.heap[x]?) (hfz : Fy t fl (l' ++ rest).length fz) :
    HR w0 B (ρ.put n ⟨w.heap.size, 0, l.length, es, sl⟩) (h.put n (some (.cells ⟨l⟩ t fl))) w' := by
  have hle := Rn.put_le hn ⟨w.heap.size, 0, l.length, es, sl⟩
  have hlen := hl.len
  refine H.new hn h16 (Nat.le_trans H.base H.below.size) (fun id o p ho' hp => ?_) hb (fun id o p ho' hp => ?_) ?_
  · obtain ⟨q, hq, hlt⟩ := (H.obj id o ho').place
    rw [hp] at hq; cases hq
    exact Nat.ne_of_lt hlt
  · obtain ⟨q, hq, hlt⟩ := (H.obj id o ho').place
    rw [hp] at hq; cases hq
    exact ho _ hlt
  · refine ⟨_, if_pos rfl, rfl, hf0, hf1, ⟨l' ++ rest⟩, t', fz, hw, ?_, (fun _ => hfz), fun k v hk => ?_⟩
    · simp only [List.size_toArray, List.length_append]; omega
    · obtain ⟨v', h1, h2⟩ := hl.at (i := k) (v := v) (by simpa using hk)
      refine ⟨v', ?_, h2.grow hle⟩
      simp only [Nat.zero_add]
      have hk' : k < l'.length := by
        rcases Nat.lt_or_ge k l'.length with h | h
        · exact h
        · rw [List.getElem?_eq_none h] at h1; cases h1
      simpa [List.getElem?_append_left hk'] using h1
theorem below_push {B : Nat} {w0 w : World} (h : Below B w0 w) (hB : B ≤ w.heap.size) (o : Obj) : Below B w0 { w with heap := w.heap.push o } := h.alloc hB o
theorem sim_row {t : TypeId} {l l' : List Value} (hl : LR (VL ρ0) l l') :
    Sim P ρ0 (mrow t l (0, 0)) (newRow t ⟨l'⟩) fun ρ id a => ∃ p, ρ id = some p ∧ p.off = 0 ∧ p.sl = 0 ∧ a = ⟨p.blk, 0, none⟩ := by
  intro w0 B s s' id ρ w hρ ht H hfr
  obtain ⟨h1, rfl, h16, e1, e2⟩ := tells_row ht
  have hn := hfr s.n (Nat.le_refl _) (by omega)
  refine ⟨⟨w.heap.size, 0, none⟩, { w with heap := w.heap.push (.cells ⟨l'⟩ t) }, ρ.put s.n ⟨w.heap.size, 0, l.length, 0, 0⟩, rfl, ?_, ?_, _, if_pos rfl, rfl, rfl, rfl⟩
  · rw [e1]
    refine row_new (rest := []) (t' := t) (fz := (0, 0)) 0 0 H hn h16 (hl.grow hρ) (fun _ => rfl) (fun h => absurd rfl h) (by simp) (below_push H.below (Nat.le_trans H.base H.below.size) _) ?_ (fun x hx => ?_) ⟨.inl rfl, fun _ _ => rfl⟩
    · simp
    · rw [Array.getElem?_push, if_neg (by omega)]
  · rw [e2]; exact .put hn _
theorem ptr_of {ρ : Rn} {id : Nat} {p : Pl} (h : ρ id = some p) (h0 : p.off = 0) : VL ρ (ptrV id 0) (.pointer (some ⟨p.blk, 0, none⟩)) :=
  VL.ptr.2 ⟨rfl, p, h, by simp [h0]⟩
theorem slice_of {ρ : Rn} {id n c : Nat} {p : Pl} (h : ρ id = some p) (h0 : p.off = 0) (hs : p.sl = 0) (hn : n ≤ c) (hc : c ≤ 9223372036854775807) : VL ρ (sliceV id 0 n c) (.slice (some ⟨p.blk, 0, none⟩) n c) :=
  VL.slice.2 ⟨rfl, hn, p, h, _, c, rfl, by rw [hs]; simp, fun _ => by simp [h0], hc⟩

theorem zeroOf_run {t : TypeId} {z : List Value} (h : zeroOf P t = some z) : ∃ v, plainV v = true ∧ z = v.cells.toList ∧ ∀ w, (zeroValue t).run P w = .ok v w := by
  unfold zeroOf at h
  split at h
  · rename_i v hv
    split at h
    · rename_i hp
      cases h
      refine ⟨v, hp, rfl, fun w => ?_⟩
      cases hi : P.info? t with
      | none => rw [hi] at hv; cases hv
      | some i =>
        rw [hi] at hv
        simp only [Option.bind_some] at hv
        simp [zeroValue, typeInfo, hi, hv]
    · cases h
  · cases h
theorem szOf_run {t : TypeId} {n : Nat} (h : szOf P t = some n) (w : World) : (sizeOf t).run P w = .ok n w := by
  unfold szOf at h
  cases hi : P.info? t with
  | none => rw [hi] at h; cases h
  | some i => rw [hi] at h; cases h; simp [Go.sizeOf, typeInfo, hi]
theorem aggOf_run {t : TypeId} {b : Bool} (h : aggOf P t = some b) (w : World) : (isAgg t).run P w = .ok b w := by
  unfold aggOf at h
  split at h
  · rename_i d hd; cases h; simp [isAgg, run_underlying hd]
  · rename_i d hd; cases h; simp [isAgg, run_underlying hd]
  · rename_i d h1 h2 hd
    cases h
    simp only [isAgg, Sem.run_bind, run_underlying hd, Result.andThen_ok]
    cases d <;> first
      | rfl
      | exact (h1 _ rfl).elim
      | exact (h2 _ _ rfl).elim
  · cases h
theorem snd_alloc (t : TypeId) : Sim P ρ0 (opAlloc P t) (Instr.alloc t true (.tuple #[])) fun ρ a v => VL ρ a v := by
  unfold opAlloc
  split
  · rename_i z hz
    obtain ⟨v, hp, rfl, hr⟩ := zeroOf_run hz
    unfold Instr.alloc
    refine Sim.skip v hr ?_
    refine Sim.bind (good_mrow _ _ _) (fun _ => good_pure _) (sim_row (plain_cells hp)) fun ρ id a hρ h => ?_
    obtain ⟨p, h1, h2, h3, rfl⟩ := h
    exact Sim.pure fun ρ' hρ' => ptr_of (hρ' _ _ h1) h2
  · exact .fail
theorem snd_box {e : En} {m : Operand → Value} (he : EnvR ρ0 e m) (t : TypeId) (x : Operand) : Sim P ρ0 (opBox t x e) (Instr.box t (m x)) fun ρ a v => VL ρ a v := by
  unfold opBox
  split
  · rename_i vs hv
    cases hx : e x with
    | none => rw [hx] at hv; cases hv
    | some v =>
      rw [hx] at hv
      unfold Instr.box
      refine Sim.bind (good_mrow _ _ _) (fun _ => good_pure _) (sim_row (l' := (m x).cells.toList) (cellsK_rel (he x v hx) hv)) fun ρ id a hρ h => ?_
      obtain ⟨p, h1, h2, h3, rfl⟩ := h
      exact Sim.pure fun ρ' hρ' => ptr_of (hρ' _ _ h1) h2
  · exact .fail
/-- A variable loaded. -/
theorem snd_loadK {a a' : Addr} (t : TypeId) (ha : VL ρ0 (.pointer (some a)) (.pointer (some a'))) : Sim P ρ0 (loadK a (aggOf P t) (szOf P t)) (loadVar t a') fun ρ a v => VL ρ a v := by
  cases hg : aggOf P t with
  | none => cases szOf P t <;> exact .fail
  | some b =>
    cases hz : szOf P t with
    | none => cases b <;> exact .fail
    | some n =>
      unfold loadVar
      refine Sim.skip b (aggOf_run hg) ?_
      cases b with
      | true =>
        simp only [if_true]
        refine Sim.skip n (szOf_run hz) ?_
        refine Sim.bind (good_mload _ _) (fun _ => good_pure _) (sim_load ha) fun ρ vs arr hρ h => ?_
        obtain ⟨l', rfl, hl, _⟩ := h
        exact Sim.pure fun ρ' hρ' => VL.agg.2 ⟨l', rfl, hl.grow hρ'⟩
      | false =>
        simp only [Bool.false_eq_true, if_false]
        intro w0 B s s' v ρ w hρ ht H hfr
        obtain ⟨vs, s1, h1, h2, hn⟩ := tells_bind (good_mload _ _) ht
        obtain ⟨e1, rfl⟩ := tells_aev h2
        obtain ⟨arr, w', ρ', hr, H', hE, l', rfl, hl, hlen⟩ := sim_load (P := P) (n := 1) ha w0 B s _ vs ρ w hρ h1 H hfr
        match vs, hlen with
        | [x], _ =>
          simp at e1
          subst e1
          obtain ⟨x', tl, e3, hx, htl⟩ := hl
          have htl' : tl = [] := htl
          subst htl'
          subst e3
          refine ⟨x', w', ρ', ?_, H', hE, hx⟩
          simp only [loadCells, loadCellsFrom, Sem.run_bind] at hr
          have hadd : a'.add 0 = a' := by simp [Addr.add]
          rw [hadd] at hr
          cases hq : (load a').run P w with
          | ok y wy =>
            rw [hq] at hr
            simp only [Result.andThen, Sem.run_pure, Result.ok.injEq] at hr
            obtain ⟨e5, e6⟩ := hr
            subst e6
            have : #[].push y = #[x'] := e5
            simp at this
            rw [this]
          | halt y wy => rw [hq] at hr; cases hr
theorem sureAddr_run {a : Addr} (w : World) : (Instr.sureAddr (.pointer (some a))).run P w = .ok a w := rfl
theorem snd_load {e : En} {m : Operand → Value} (he : EnvR ρ0 e m) (t : TypeId) (x : Operand) : Sim P ρ0 (opLoad P t x e) (Instr.loadAt t (m x)) fun ρ a v => VL ρ a v := by
  unfold opLoad
  split
  · rename_i a ha
    have h1 := he x _ ha
    obtain ⟨_, p, _, e1⟩ := VL.ptr.1 h1
    rw [e1] at h1 ⊢
    exact Sim.skip _ sureAddr_run (snd_loadK t h1)
  · exact .fail
theorem snd_store {e : En} {m : Operand → Value} (he : EnvR ρ0 e m) (t : TypeId) (x y : Operand) :
    Sim P ρ0 (opStore P t x y e) (do Instr.storeAt t (m x) (m y); Pure.pure Next.skip) OpR := by
  unfold opStore
  split
  · rename_i a vs n ha hv hz
    cases hy : e y with
    | none => rw [hy] at hv; cases hv
    | some v =>
      rw [hy] at hv
      have h1 := he x _ ha
      have h2 := cellsK_rel (he y v hy) hv
      obtain ⟨_, p, _, e1⟩ := VL.ptr.1 h1
      rw [e1] at h1 ⊢
      split
      · rename_i hn
        have hlen : (m y).cells.size = n := by
          have := h2.len
          rw [Array.length_toList] at this
          rw [this]; exact Nat.eq_of_beq_eq_true hn
        intro w0 B s s' u ρ w hρ ht H hfr
        obtain ⟨u1, s1, t1, t2, hn1⟩ := tells_bind (good_mstore _ _) ht
        obtain ⟨rfl, rfl⟩ := tells_pure t2
        obtain ⟨v1, w', ρ', hr, H', hE, _⟩ := sim_store (P := P) h1 h2 w0 B s s' u1 ρ w hρ t1 H hfr
        refine ⟨.skip, w', ρ', ?_, H', hE, .inr ⟨rfl, rfl⟩⟩
        simp only [Instr.storeAt, Sem.run_bind, sureAddr_run, Result.andThen, storeVar, szOf_run hz, hlen, ne_eq, not_true_eq_false, if_false, Sem.run_pure]
        rw [hr]
      · exact .fail
  · exact .fail
end Go.Proofs.YtpijenlmfmknnaaGreatDoor

/- Operations without memory of their own: numbers, texts, parts, addresses. No program. -/
namespace Go.Proofs.YtpijenlmfmknnaaGreatDoor
open Go.RowKit
set_option linter.unusedVariables false
variable {P : Program} {ρ0 : Rn}

theorem prun_run {α : Type} : ∀ (c : Sem α) (a : α), prun P c = some a → ∀ w, c.run P w = .ok a w
  | .pure x, a, h, w => by cases h; rfl
  | .program k, a, h, w => prun_run (k P) a h w
  | .mark _ k, a, h, w => prun_run k a h w
  | .load _ _ _, a, h, w => by cases h
  | .store _ _ _ _, a, h, w => by cases h
  | .new _ _, a, h, w => by cases h
  | .shape _ _, a, h, w => by cases h
  | .freeze _ _ _, a, h, w => by cases h
  | .frozen _ _, a, h, w => by cases h
  | .getObj _ _, a, h, w => by cases h
  | .setObj _ _ _, a, h, w => by cases h
  | .choose _ _, a, h, w => by cases h
  | .sys _ _, a, h, w => by cases h
  | .halt _, a, h, w => by cases h
theorem Sim.of {α γ : Type} {a : α} {v : γ} {c : Sem γ} {R : Rn → α → γ → Prop} (hc : ∀ w, c.run P w = .ok v w) (h : ∀ ρ, ρ0.le ρ → R ρ a v) : Sim P ρ0 (mpure a) c R := by
  intro w0 B s s' b ρ w hρ ht H hfr
  obtain ⟨rfl, rfl⟩ := tells_pure ht
  exact ⟨v, w, ρ, hc w, H, .rfl, h ρ hρ⟩
theorem snd_prun {c : Sem Value} : Sim P ρ0 (mprun P c) c fun ρ a v => VL ρ a v := by
  unfold mprun
  split
  · rename_i v hv
    split
    · rename_i hp
      rw [forceV_eq]
      exact Sim.of (prun_run c v hv) fun ρ _ => plain_self hp
    · exact .fail
  · exact .fail
theorem plain_eq {e : En} {m : Operand → Value} (he : EnvR ρ0 e m) {x : Operand} {v : Value} (hx : e x = some v) (hp : plainV v = true) : m x = v := (plainV_iff hp).1 (he x v hx)

/-! Numbers. -/
theorem beq_nat (m n : Nat) : Nat.beq m n = decide (m = n) := by
  cases h : Nat.beq m n with
  | true => simp [Nat.eq_of_beq_eq_true h]
  | false =>
    symm
    rw [decide_eq_false_iff_not]
    intro e
    subst e
    rw [Nat.beq_refl] at h; cases h
theorem eqI_eq (a b : Int) : eqI a b = (a == b) := by
  rw [Bool.eq_iff_iff, beq_iff_eq]
  cases a <;> cases b <;> simp [eqI, beq_nat] <;> omega
theorem blt_eq (m n : Nat) : Nat.blt m n = decide (m < n) := by
  cases h : Nat.blt m n with
  | true => have := Nat.le_of_ble_eq_true h; simp; omega
  | false =>
    symm
    rw [decide_eq_false_iff_not]
    intro hlt
    have : Nat.blt m n = true := Nat.ble_eq_true_of_le hlt
    rw [this] at h; cases h
theorem ltI_eq (a b : Int) : ltI a b = decide (a < b) := by
  rw [Bool.eq_iff_iff, decide_eq_true_iff]
  cases a <;> cases b <;> simp only [ltI, blt_eq, decide_eq_true_iff, Bool.false_eq_true, false_iff, true_iff, Int.ofNat_eq_natCast] <;> omega
theorem addI_eq (a b : Int) : addI a b = a + b := by
  cases a <;> cases b <;> rfl
theorem subNat_eq (m n : Nat) : subNat m n = (m : Int) - n := by
  unfold subNat
  split
  · rename_i h
    have := Nat.le_of_ble_eq_true h
    show ((m - n : Nat) : Int) = _
    omega
  · rename_i h
    have : ¬ n ≤ m := fun hc => by rw [Nat.ble_eq_true_of_le hc] at h; cases h
    rw [Int.negSucc_eq]
    omega
theorem subI_eq (a b : Int) : subI a b = a - b := by
  cases a <;> cases b <;> first | exact subNat_eq _ _ | rfl
theorem sameK_eq {k k' : IntKind} (h : sameK k k' = true) : k' = k := by
  cases k <;> cases k' <;> first | rfl | cases h
theorem wrap_small (m : Nat) (h : m ≤ 4611686018427387904) : IntKind.wrap .i64 (Int.ofNat m) = Int.ofNat m := by
  have h1 : (Int.ofNat m) % (2 ^ 64 : Int) = Int.ofNat m := Int.emod_eq_of_lt (by simp) (by show (m : Int) < _; omega)
  show (let m' := (Int.ofNat m) % (2 ^ 64 : Int); if (true && decide (m' ≥ (2 ^ 63 : Int))) = true then m' - (2 ^ 64 : Int) else m') = _
  simp only [h1]
  rw [if_neg]
  simp
  omega
theorem tells_wrap {k : IntKind} {n m : Int} {s s' : Hp} (h : Tells (wrapK k n) s m s') : m = k.wrap n ∧ s' = s := by
  unfold wrapK at h
  split at h
  · rw [forceN_eq] at h
    split at h
    · rename_i hb
      obtain ⟨rfl, rfl⟩ := tells_pure h
      exact ⟨(wrap_small _ (Nat.le_of_ble_eq_true hb)).symm, rfl⟩
    · rw [forceI_eq] at h
      exact tells_pure h
  · rw [forceI_eq] at h
    exact tells_pure h
theorem guard_int {op : BinOp} {t : TypeId} {x y : Operand} {k k' : IntKind} {a b : Int} (w : World) : (eqGuard op t x y (.int k a) (.int k' b)).run P w = .ok () w := by
  unfold eqGuard
  cases op <;> rfl
theorem snd_cmp {c : Int → Int → Bool} {op : BinOp} {t : TypeId} {x y : Operand} {a b a' b' : Value} (ha : VL ρ0 a a') (hb : VL ρ0 b b')
    (hop : ∀ k i j w, (binOp op t (.int k i) (.int k j)).run P w = .ok (.bool (c i j)) w)
    (hv : Sim P ρ0 (binV P op t x y a b) (do eqGuard op t x y a' b'; binOp op t a' b') fun ρ a v => VL ρ a v) :
    Sim P ρ0 (cmpV P c op t x y a b) (do eqGuard op t x y a' b'; binOp op t a' b') fun ρ a v => VL ρ a v := by
  unfold cmpV
  split
  · rename_i k i k' j
    have e1 := VL.int.1 ha
    have e2 := VL.int.1 hb
    subst e1 e2
    split
    · rename_i hk
      have := sameK_eq hk
      subst this
      rw [forceB_eq]
      refine Sim.of (fun w => ?_) fun ρ _ => VL.bool.2 rfl
      simp only [Sem.run_bind, guard_int, Result.andThen, hop]
    · exact .fail
  · exact hv
theorem snd_arith {c : Int → Int → Int} {op : BinOp} {t : TypeId} {x y : Operand} {a b a' b' : Value} (ha : VL ρ0 a a') (hb : VL ρ0 b b')
    (hop : ∀ k i j w, (binOp op t (.int k i) (.int k j)).run P w = .ok (.int k (k.wrap (c i j))) w)
    (hv : Sim P ρ0 (binV P op t x y a b) (do eqGuard op t x y a' b'; binOp op t a' b') fun ρ a v => VL ρ a v) :
    Sim P ρ0 (arithV P c op t x y a b) (do eqGuard op t x y a' b'; binOp op t a' b') fun ρ a v => VL ρ a v := by
  unfold arithV
  split
  · rename_i k i k' j
    have e1 := VL.int.1 ha
    have e2 := VL.int.1 hb
    subst e1 e2
    split
    · rename_i hk
      have := sameK_eq hk
      subst this
      intro w0 B s s' v ρ w hρ ht H hfr
      obtain ⟨n, s1, h1, h2, _⟩ := tells_bind (good_wrapK _ _) ht
      obtain ⟨rfl, rfl⟩ := tells_wrap h1
      obtain ⟨rfl, rfl⟩ := tells_pure h2
      refine ⟨_, w, ρ, ?_, H, .rfl, VL.int.2 rfl⟩
      simp only [Sem.run_bind, guard_int, Result.andThen, hop]
    · exact .fail
  · exact hv
/-- A nil and another one differ. -/
theorem nil_equal {t : TypeId} {d : TypeDesc} {a b a' b' : Value} (hd : P.underlying t = some d) (ha : VL ρ0 a a') (hb : VL ρ0 b b') (h : nilPair d a b = true) (w : World) :
    (Op.equal t a' b').run P w = .ok false w ∧ (∀ op x y, (eqGuard op t x y a' b').run P w = .ok () w) ∧
      (∀ w, (binOp .eql t a' b').run P w = ((Op.equal t a' b') >>= fun r => Pure.pure (Value.bool r)).run P w) ∧ (∀ w, (binOp .neq t a' b').run P w = ((Op.equal t a' b') >>= fun r => Pure.pure (Value.bool !r)).run P w) := by
  have key : ∀ (X Y : Value), (∀ d, (Op.equalIn (d + 1) t X Y).run P w = .ok false w) → (Op.equal t X Y).run P w = .ok false w := fun _ _ h => h 9999
  unfold nilPair at h
  split at h
  · obtain ⟨_, p, _, e⟩ := VL.ptr.1 ha
    have e2 := VL.nilp.1 hb
    subst e e2
    exact ⟨key _ _ (fun d => by simp [Op.equalIn, run_underlying hd]), fun op x y => by unfold eqGuard; cases op <;> rfl, fun _ => rfl, fun _ => rfl⟩
  · obtain ⟨_, p, _, e⟩ := VL.ptr.1 hb
    have e2 := VL.nilp.1 ha
    subst e e2
    exact ⟨key _ _ (fun d => by simp [Op.equalIn, run_underlying hd]), fun op x y => by unfold eqGuard; cases op <;> rfl, fun _ => rfl, fun _ => rfl⟩
  · obtain ⟨_, _, p, _, a2, c2, e, _⟩ := VL.slice.1 ha
    have e2 := (VL.nils.1 hb).2.2
    subst e e2
    exact ⟨key _ _ (fun d => by simp [Op.equalIn, run_underlying hd]), fun op x y => by unfold eqGuard; cases op <;> rfl, fun _ => rfl, fun _ => rfl⟩
  · obtain ⟨_, _, p, _, a2, c2, e, _⟩ := VL.slice.1 hb
    have e2 := (VL.nils.1 ha).2.2
    subst e e2
    exact ⟨key _ _ (fun d => by simp [Op.equalIn, run_underlying hd]), fun op x y => by unfold eqGuard; cases op <;> rfl, fun _ => rfl, fun _ => rfl⟩
  · rename_i fn f c
    obtain ⟨f⟩ := f
    obtain ⟨c⟩ := c
    obtain ⟨_, f', c', e, _⟩ := VL.func.1 ha
    have e2 := VL.nilf.1 hb
    subst e e2
    exact ⟨key _ _ (fun d => by simp [Op.equalIn, run_underlying hd]), fun op x y => by unfold eqGuard; cases op <;> rfl, fun _ => rfl, fun _ => rfl⟩
  · rename_i fn f c
    obtain ⟨f⟩ := f
    obtain ⟨c⟩ := c
    obtain ⟨_, f', c', e, _⟩ := VL.func.1 hb
    have e2 := VL.nilf.1 ha
    subst e e2
    exact ⟨key _ _ (fun d => by simp [Op.equalIn, run_underlying hd]), fun op x y => by unfold eqGuard; cases op <;> rfl, fun _ => rfl, fun _ => rfl⟩
  · obtain ⟨x', e, _⟩ := VL.iface.1 ha
    have e2 := VL.nili.1 hb
    subst e e2
    exact ⟨key _ _ (fun d => by simp [Op.equalIn, run_underlying hd]), fun op x y => by unfold eqGuard; cases op <;> rfl, fun _ => rfl, fun _ => rfl⟩
  · obtain ⟨x', e, _⟩ := VL.iface.1 hb
    have e2 := VL.nili.1 ha
    subst e e2
    exact ⟨key _ _ (fun d => by simp [Op.equalIn, run_underlying hd]), fun op x y => by unfold eqGuard; cases op <;> rfl, fun _ => rfl, fun _ => rfl⟩
  · obtain ⟨p, _, e⟩ := VL.map.1 ha
    have e2 := VL.nilm.1 hb
    subst e e2
    exact ⟨key _ _ (fun d => by simp [Op.equalIn, run_underlying hd]), fun op x y => by unfold eqGuard; cases op <;> rfl, fun _ => rfl, fun _ => rfl⟩
  · obtain ⟨p, _, e⟩ := VL.map.1 hb
    have e2 := VL.nilm.1 ha
    subst e e2
    exact ⟨key _ _ (fun d => by simp [Op.equalIn, run_underlying hd]), fun op x y => by unfold eqGuard; cases op <;> rfl, fun _ => rfl, fun _ => rfl⟩
  · cases h
theorem snd_binV {op : BinOp} {t : TypeId} {x y : Operand} {a b a' b' : Value} (ha : VL ρ0 a a') (hb : VL ρ0 b b') :
    Sim P ρ0 (binV P op t x y a b) (do eqGuard op t x y a' b'; binOp op t a' b') fun ρ a v => VL ρ a v := by
  unfold binV
  split
  · rename_i hp
    rw [Bool.and_eq_true] at hp
    rw [(plainV_iff hp.1).1 ha, (plainV_iff hp.2).1 hb]
    exact snd_prun
  · unfold nilV
    split
    · rename_i d hd
      split
      · rename_i hn
        refine Sim.of (v := .bool false) (fun w => ?_) fun ρ _ => VL.bool.2 rfl
        obtain ⟨h1, h2, h3, h4⟩ := nil_equal hd ha hb hn w
        simp only [Sem.run_bind, h2, Result.andThen, h3, h1, Sem.run_pure]
      · exact .fail
    · rename_i d hd
      split
      · rename_i hn
        refine Sim.of (v := .bool true) (fun w => ?_) fun ρ _ => VL.bool.2 rfl
        obtain ⟨h1, h2, h3, h4⟩ := nil_equal hd ha hb hn w
        simp only [Sem.run_bind, h2, Result.andThen, h4, h1, Sem.run_pure, Bool.not_false]
      · exact .fail
    · exact .fail
theorem dec_le (i j : Int) : decide (i ≤ j) = !decide (j < i) := by
  rw [Bool.eq_iff_iff]
  simp
theorem snd_bin {e : En} {m : Operand → Value} (he : EnvR ρ0 e m) (op : BinOp) (t : TypeId) (x y : Operand) :
    Sim P ρ0 (opBin P op t x y e) (do eqGuard op t x y (m x) (m y); binOp op t (m x) (m y)) fun ρ a v => VL ρ a v := by
  unfold opBin
  split
  · rename_i a b hx hy
    have ha := he x _ hx
    have hb := he y _ hy
    unfold binD
    split
    · exact snd_arith ha hb (fun k i j w => by simp [binOp, Op.intArith, addI_eq]) (snd_binV ha hb)
    · exact snd_arith ha hb (fun k i j w => by simp [binOp, Op.intArith, subI_eq]) (snd_binV ha hb)
    · exact snd_cmp ha hb (fun k i j w => by simp [binOp, Op.intCmp, eqI_eq]) (snd_binV ha hb)
    · exact snd_cmp ha hb (fun k i j w => by simp [binOp, Op.intCmp, eqI_eq, bne]) (snd_binV ha hb)
    · exact snd_cmp ha hb (fun k i j w => by simp [binOp, Op.intCmp, ltI_eq]) (snd_binV ha hb)
    · exact snd_cmp ha hb (fun k i j w => by simp [binOp, Op.intCmp, ltI_eq]; exact dec_le _ _) (snd_binV ha hb)
    · exact snd_cmp ha hb (fun k i j w => by simp [binOp, Op.intCmp, ltI_eq]) (snd_binV ha hb)
    · exact snd_cmp ha hb (fun k i j w => by simp [binOp, Op.intCmp, ltI_eq]; exact dec_le _ _) (snd_binV ha hb)
    · exact snd_binV ha hb
  · exact .fail
theorem snd_un {e : En} {m : Operand → Value} (he : EnvR ρ0 e m) (op : UnOp) (x : Operand) : Sim P ρ0 (opUnOp P op x e) (Op.unary op (m x)) fun ρ a v => VL ρ a v := by
  unfold opUnOp
  split
  · rename_i a hx
    split
    · rename_i hp
      rw [plain_eq he hx hp]
      exact snd_prun
    · exact .fail
  · exact .fail
theorem snd_nilCheck {e : En} {m : Operand → Value} (he : EnvR ρ0 e m) (x : Operand) (o : Oper) (ho : o.op = .nilCheck x) : Sim P ρ0 (opNilCheck x e) (execOp m o) OpR := by
  unfold opNilCheck
  split
  · rename_i a hx
    have h1 := he x _ hx
    obtain ⟨_, p, _, e1⟩ := VL.ptr.1 h1
    have hE : execOp m o = Pure.pure (Next.value (m x)) := by simp only [execOp, ho, e1]
    rw [hE]
    exact Sim.pure fun ρ hρ => .inl ⟨_, rfl, h1.grow hρ⟩
  · rename_i f a b hx
    obtain ⟨a⟩ := a
    obtain ⟨b⟩ := b
    have h1 := he x _ hx
    obtain ⟨_, f', c', e1, _⟩ := VL.func.1 h1
    have hE : execOp m o = Pure.pure (Next.value (m x)) := by simp only [execOp, ho, e1]
    rw [hE]
    exact Sim.pure fun ρ hρ => .inl ⟨_, rfl, h1.grow hρ⟩
  · rename_i t v hx
    have h1 := he x _ hx
    obtain ⟨x', e1, _⟩ := VL.iface.1 h1
    have hE : execOp m o = Pure.pure (Next.value (m x)) := by simp only [execOp, ho, e1]
    rw [hE]
    exact Sim.pure fun ρ hρ => .inl ⟨_, rfl, h1.grow hρ⟩
  · exact .fail
end Go.Proofs.YtpijenlmfmknnaaGreatDoor
