/- Own texts joined: KeyS, IdS, OpS, Num, PutM, TextM, BackM, OpM, Cat, GetS, GetI, TextG, ReadS, ReadI. -/
import Derived.Test.YtcabolcfoijglaaJa
import Derived.Test.YtcabolcfoijglaaChecked
import Derived.Lib.AppendZeros
import Derived.Deep.RegionHeld3

/- spec.l4key answers what the plain test says. -/
namespace Go.Proofs.Ytcabolcfoijglaa
open Go.RowKit
set_option linter.unusedVariables false

/-- A number that may stand in a key. -/
def keyCh (_ : Nat) (x : Int) : Prop := 0 ≤ x ∧ x ≤ 999
def KeyOk (l : List Int) : Prop := 1 ≤ l.length ∧ l.length ≤ 12 ∧ l.getD (l.length - 1) 0 ≠ 0 ∧ allTo keyCh l l.length

theorem keyS_short (w : World) (a : Option Addr) (n cap : Nat) (h : n < 1 ∨ 12 < n) :
    Calls Try.prog 36 #[.slice a n cap] w fun e w' => e = .returned (.bool false) ∧ w' = w := by
  by_cases h1 : n < 1
  · have h1' : (n : Int) < 1 := by omega
    go_enter Try.func36, Try.ntmps36
    go_wp2
    go_ret
    exact ⟨rfl, rfl⟩
  · have h1' : decide ((n : Int) < 1) = false := by simp; omega
    have h2 : (12 : Int) < (n : Int) := by omega
    go_enter Try.func36, Try.ntmps36
    go_wp2
    go_ret
    exact ⟨rfl, rfl⟩

open Classical in
set_option maxHeartbeats 1600000 in
theorem keyS_row (w : World) (b off cap : Nat) (l : List Int) (hok : okZ l) (h1 : 1 ≤ l.length) (h8 : l.length ≤ 12)
    (hc : ∀ i, i < l.length → w.cell? ⟨b, off + i, none⟩ = some (.int .i64 (l.getD i 0))) :
    Calls Try.prog 36 #[.slice (some ⟨b, off, none⟩) l.length cap] w fun e w' => e = .returned (.bool (decide (KeyOk l))) ∧ w' = w := by
  have d1 : decide ((l.length : Int) < 1) = false := by simp; omega
  have d2 : decide ((12 : Int) < (l.length : Int)) = false := by simp; omega
  obtain ⟨n, hn⟩ : ∃ n, l.length = n + 1 := ⟨l.length - 1, by omega⟩
  obtain ⟨z, hz⟩ : ∃ z, z = l.getD n 0 := ⟨_, rfl⟩
  have hcz : w.cell? ⟨b, off + n, none⟩ = some (.int .i64 z) := by rw [hz]; exact hc _ (by omega)
  have HZ := hide hz
  have HC := hide hc
  have HN := hide hn
  have e1 : (l.length : Int) - 1 = (n : Int) := by omega
  have hlt0 : n < l.length := by omega
  clear hc hz
  by_cases hz0 : z = 0
  · have HF := hide (show decide (KeyOk l) = false by
      simp only [decide_eq_false_iff_not]
      rintro ⟨_, _, h, _⟩
      rw [unhide HN, Nat.add_sub_cancel, ← unhide HZ] at h
      exact h hz0)
    subst hz0
    clear hn
    go_enter Try.func36, Try.ntmps36
    go_wp2
    go_ret
    exact ⟨by rw [unhide HF]; rfl, rfl⟩
  have HZ0 := hide hz0
  have dz : (z == 0) = false := by simpa using hz0
  clear hn
  go_enter Try.func36, Try.ntmps36
  go_wp2
  go_loop [3] (fun i => ∃ k : Nat, k ≤ l.length ∧ i = .int .i64 k ∧ allTo keyCh l k) (fun i => l.length - (intOf i).toNat)
  case atStart => exact ⟨0, Nat.zero_le _, rfl, fun i hi => by omega⟩
  case round =>
    obtain ⟨k, hk, rfl, ha⟩ := hrel
    have HA := hide ha
    clear ha hcz
    by_cases hlt : k < l.length
    · obtain ⟨x, hx⟩ : ∃ x, x = l.getD k 0 := ⟨_, rfl⟩
      have hcx : w.cell? ⟨b, off + k, none⟩ = some (.int .i64 x) := by rw [hx]; exact unhide HC _ hlt
      have HX := hide hx
      have hlt' : (k : Int) < (l.length : Int) := by omega
      clear hx
      by_cases hn : keyCh k x
      · have HN := hide hn
        have q1 : decide (x < 0) = false := by unfold keyCh at hn; simp; omega
        have q2 : decide (999 < x) = false := by unfold keyCh at hn; simp; omega
        clear hn
        go_wp2
        go_round
        case rel => exact ⟨k + 1, by omega, by go_num, allTo_step (unhide HA) (by rw [← unhide HX]; exact unhide HN)⟩
        case measure => simp [intOf]; omega
      · have HF := hide (show decide (KeyOk l) = false by
          simp only [decide_eq_false_iff_not]
          rintro ⟨_, _, _, h⟩
          exact hn (by rw [unhide HX]; exact h k hlt))
        have hcase : decide (x < 0) = true ∨ (decide (x < 0) = false ∧ decide (999 < x) = true) := by
          unfold keyCh at hn; simp; omega
        clear hn
        rcases hcase with q1 | ⟨q1, q2⟩
        all_goals
          go_wp2
          go_ret
          exact ⟨by rw [unhide HF]; rfl, rfl⟩
    · have e : k = l.length := by omega
      subst e
      have HF := hide (show decide (KeyOk l) = true by
        simp only [decide_eq_true_eq]
        exact ⟨h1, h8, by rw [unhide HN, Nat.add_sub_cancel, ← unhide HZ]; exact unhide HZ0, unhide HA⟩)
      go_wp2
      go_ret
      exact ⟨by rw [unhide HF]; rfl, rfl⟩

open Classical in
theorem keyS_any (w : World) (v : Value) (l : List Int) (h : Ints w v l) :
    Calls Try.prog 36 #[v] w fun e w' => e = .returned (.bool (decide (KeyOk l))) ∧ w' = w := by
  by_cases hl : l.length < 1 ∨ 12 < l.length
  · obtain ⟨a, cap, rfl, _⟩ := h.shape
    have hd : decide (KeyOk l) = false := by simp only [decide_eq_false_iff_not]; rintro ⟨_, _, _⟩; omega
    rw [hd]
    exact keyS_short w a _ cap hl
  · obtain ⟨hok, hm, ⟨rfl, rfl⟩ | ⟨x, cap, rfl, hc, rfl⟩ | ⟨b, off, cap, rfl, _, _, _, _, h5⟩⟩ := h
    · simp at hl
    · simp at hl
    · exact keyS_row w b off cap l hok (by omega) (by omega) h5

theorem keyS_yes (w : World) (v : Value) (l : List Int) (h : Ints w v l) (hn : KeyOk l) : Calls Try.prog 36 #[v] w fun e w' => e = .returned (.bool true) ∧ w' = w := by
  refine (keyS_any w v l h).mono ?_
  rintro e w' ⟨rfl, h⟩
  exact ⟨by simp [hn], h⟩
theorem keyS_no (w : World) (v : Value) (l : List Int) (h : Ints w v l) (hn : ¬ KeyOk l) : Calls Try.prog 36 #[v] w fun e w' => e = .returned (.bool false) ∧ w' = w := by
  refine (keyS_any w v l h).mono ?_
  rintro e w' ⟨rfl, h⟩
  exact ⟨by simp [hn], h⟩

def keyB (l : List Int) : Bool := decide (1 ≤ l.length) && (decide (l.length ≤ 12) && (decide (l.getD (l.length - 1) 0 ≠ 0) && allB (fun _ x => decide (0 ≤ x ∧ x ≤ 999)) l))
theorem keyB_iff (l : List Int) : keyB l = true ↔ KeyOk l := by
  unfold keyB KeyOk
  rw [Bool.and_eq_true, Bool.and_eq_true, Bool.and_eq_true, decide_eq_true_eq, decide_eq_true_eq, decide_eq_true_eq, allB_iff (p := keyCh) (fun i x => by unfold keyCh; rw [decide_eq_true_eq])]
/-- The three tests by their truth values. -/
theorem keyS_b (w : World) (v : Value) (l : List Int) (h : Ints w v l) : Calls Try.prog 36 #[v] w fun e w' => e = .returned (.bool (keyB l)) ∧ w' = w := by
  by_cases hn : KeyOk l
  · rw [(keyB_iff l).2 hn]; exact keyS_yes w v l h hn
  · rw [Bool.eq_false_iff.2 (fun k => hn ((keyB_iff l).1 k))]; exact keyS_no w v l h hn
theorem nameS_b (w : World) (v : Value) (l : List Int) (h : Byt w v l) : Calls Try.prog 37 #[v] w fun e w' => e = .returned (.bool (nameB l)) ∧ w' = w := by
  by_cases hn : NameOk l
  · rw [(nameB_iff l).2 hn]; exact nameS_yes w v l h hn
  · rw [Bool.eq_false_iff.2 (fun k => hn ((nameB_iff l).1 k))]; exact nameS_no w v l h hn
theorem textS_b (w : World) (v : Value) (l : List Int) (h : Byt w v l) : Calls Try.prog 33 #[v] w fun e w' => e = .returned (.bool (textB l)) ∧ w' = w := by
  by_cases hn : TextOk l
  · rw [(textB_iff l).2 hn]; exact textS_yes w v l h hn
  · rw [Bool.eq_false_iff.2 (fun k => hn ((textB_iff l).1 k))]; exact textS_no w v l h hn

end Go.Proofs.Ytcabolcfoijglaa

/- spec.l4id, spec.l4zero and spec.Less answer what the plain tests say. -/
namespace Go.Proofs.Ytcabolcfoijglaa
open Go.RowKit
set_option linter.unusedVariables false

/-- An Id that may be a node's. -/
def idB (n r : Int) : Bool := decide (0 ≤ n) && (decide (n ≤ 1000000) && (decide (0 ≤ r) && (decide (r < 8) || (decide (n = 0) && decide (r < 122)))))
def zeroB (n r : Int) : Bool := decide (n = 0) && decide (r = 0)

/-- The cases of idB. -/
theorem idB_cases (n r : Int) :
    (idB n r = false ∧ decide (0 ≤ n) = false) ∨
    (idB n r = false ∧ decide (0 ≤ n) = true ∧ decide (n ≤ 1000000) = false) ∨
    (idB n r = false ∧ decide (0 ≤ n) = true ∧ decide (n ≤ 1000000) = true ∧ decide (0 ≤ r) = false) ∨
    (idB n r = true ∧ decide (0 ≤ n) = true ∧ decide (n ≤ 1000000) = true ∧ decide (0 ≤ r) = true ∧ decide (r < 8) = true) ∨
    (idB n r = false ∧ decide (0 ≤ n) = true ∧ decide (n ≤ 1000000) = true ∧ decide (0 ≤ r) = true ∧ decide (r < 8) = false ∧ (n == 0) = false) ∨
    (idB n r = true ∧ decide (0 ≤ n) = true ∧ decide (n ≤ 1000000) = true ∧ decide (0 ≤ r) = true ∧ decide (r < 8) = false ∧ (n == 0) = true ∧ decide (r < 122) = true) ∨
    (idB n r = false ∧ decide (0 ≤ n) = true ∧ decide (n ≤ 1000000) = true ∧ decide (0 ≤ r) = true ∧ decide (r < 8) = false ∧ (n == 0) = true ∧ decide (r < 122) = false) := by
  unfold idB
  cases a : decide (0 ≤ n) <;> cases b : decide (n ≤ 1000000) <;> cases c : decide (0 ≤ r) <;> cases d : decide (r < 8) <;> by_cases e : n = 0 <;> cases f : decide (r < 122) <;> simp [e]

set_option maxHeartbeats 1600000 in
theorem idS_any (w : World) (n r : Int) :
    Calls Try.prog 35 #[.agg #[.int .i64 n, .int .i64 r]] w fun e w' => e = .returned (.bool (idB n r)) ∧ w' = w.alloc (.cells #[.int .i64 n, .int .i64 r] 24) := by
  rcases idB_cases n r with ⟨h, q1⟩ | ⟨h, q1, q2⟩ | ⟨h, q1, q2, q3⟩ | ⟨h, q1, q2, q3, q4⟩ | ⟨h, q1, q2, q3, q4, q5⟩ | ⟨h, q1, q2, q3, q4, q5, q6⟩ | ⟨h, q1, q2, q3, q4, q5, q6⟩
  all_goals
    have HE := hide h
    clear h
    go_enter Try.func35, Try.ntmps35
    go_wp2
    go_ret
    exact ⟨by rw [unhide HE]; rfl, rfl⟩

set_option maxHeartbeats 1600000 in
theorem zeroS_any (w : World) (n r : Int) :
    Calls Try.prog 34 #[.agg #[.int .i64 n, .int .i64 r]] w fun e w' => e = .returned (.bool (zeroB n r)) ∧ w' = w.alloc (.cells #[.int .i64 n, .int .i64 r] 24) := by
  go_enter Try.func34, Try.ntmps34
  go_wp2
  · have e0 : n = 0 := by assumption
    have e1 : r = 0 := by assumption
    go_ret
    exact ⟨by unfold zeroB; simp [e0, e1], by rw [e0, e1]⟩
  · have e0 : n = 0 := by assumption
    have e1 : ¬ r = 0 := by assumption
    go_ret
    exact ⟨by unfold zeroB; simp [e0, e1], by rw [e0]⟩
  · have e0 : ¬ n = 0 := by assumption
    go_ret
    exact ⟨by unfold zeroB; simp [e0], rfl⟩

end Go.Proofs.Ytcabolcfoijglaa

/- spec.OpOk answers what the plain test says. -/
namespace Go.Proofs.Ytcabolcfoijglaa
open Go.RowKit
set_option linter.unusedVariables false

/-- An operation's parts, read. -/
structure OpV where
  kind : Int
  atN : Int
  atR : Int
  nodeN : Int
  nodeR : Int
  parN : Int
  parR : Int
  key : List Int
  elem : Int
  name : List Int
  text : List Int
  gone : Bool

/-- The value of an operation whose rows are k, n, t. -/
def opVal (o : OpV) (k n t : Value) : Value := .agg #[.int .i64 o.kind, .int .i64 o.atN, .int .i64 o.atR, .int .i64 o.nodeN, .int .i64 o.nodeR, .int .i64 o.parN, .int .i64 o.parR, k, .int .i64 o.elem, n, t, .bool o.gone]
/-- It can be read. -/
def RdOp (w : World) (v : Value) (o : OpV) : Prop := ∃ k n t, v = opVal o k n t ∧ Ints w k o.key ∧ Byt w n o.name ∧ Byt w t o.text

def opNewB (o : OpV) : Bool := if !zeroB o.nodeN o.nodeR || (!idB o.parN o.parR || (!keyB o.key || o.gone)) then false else if o.elem == 1 then (o.name.length : Int) == 0 else o.elem == 0 && (nameB o.name && (o.text.length : Int) == 0)
def opMoveB (o : OpV) : Bool := idB o.nodeN o.nodeR && (idB o.parN o.parR && (keyB o.key && (o.elem == 0 && ((o.name.length : Int) == 0 && ((o.text.length : Int) == 0 && !o.gone)))))
def opRestB (o : OpV) : Bool := if !idB o.nodeN o.nodeR || (!zeroB o.parN o.parR || (decide (0 < (o.key.length : Int)) || !(o.elem == 0))) then false else if o.kind == 2 then (o.name.length : Int) == 0 && !o.gone else nameB o.name && (!o.gone || (o.text.length : Int) == 0)
def opHeadB (o : OpV) : Bool := decide (o.kind < 0) || (decide (3 < o.kind) || (decide (o.atN < 1) || (decide (1000000 < o.atN) || (decide (o.atR < 0) || (decide (8 ≤ o.atR) || !textB o.text)))))
def opB (o : OpV) : Bool := if opHeadB o then false else if o.kind == 0 then opNewB o else if o.kind == 1 then opMoveB o else opRestB o

set_option maxRecDepth 8000 in
set_option maxHeartbeats 3200000 in
theorem opS_any (w : World) (v : Value) (o : OpV) (h : RdOp w v o) :
    Calls Try.prog 8 #[v] w fun e w' => e = .returned (.bool (opB o)) ∧ Below w.heap.size w w' := by
  obtain ⟨k, n, t, rfl, hk, hn, ht⟩ := h
  obtain ⟨ak, ck, rfl, _, _⟩ := hk.shape
  obtain ⟨an, cn, rfl, _, _⟩ := hn.shape
  obtain ⟨at', ct, rfl, _, _⟩ := ht.shape
  generalize hnK : o.key.length = nK at *
  have hA := (Below.refl w.heap.size w).alloc (Nat.le_refl _) (.cells #[.int .i64 o.kind, .int .i64 o.atN, .int .i64 o.atR, .int .i64 o.nodeN, .int .i64 o.nodeR, .int .i64 o.parN, .int .i64 o.parR, .slice ak nK ck, .int .i64 o.elem, .slice an o.name.length cn, .slice at' o.text.length ct, .bool o.gone] 27)
  have HA := hide hA
  have HT := hide (ht.keep hA)
  have HN := hide (hn.keep hA)
  have HK := hide (hk.keep hA)
  clear hA ht hn hk
  unfold opVal
  have hcase : (decide (o.kind < 0) = true ∧ opHeadB o = true) ∨ (decide (o.kind < 0) = false ∧ ((decide (3 < o.kind) = true ∧ opHeadB o = true) ∨ (decide (3 < o.kind) = false ∧ ((decide (o.atN < 1) = true ∧ opHeadB o = true) ∨ (decide (o.atN < 1) = false ∧ ((decide (1000000 < o.atN) = true ∧ opHeadB o = true) ∨ (decide (1000000 < o.atN) = false ∧ ((decide (o.atR < 0) = true ∧ opHeadB o = true) ∨ (decide (o.atR < 0) = false ∧ ((decide (8 ≤ o.atR) = true ∧ opHeadB o = true) ∨ (decide (8 ≤ o.atR) = false ∧ opHeadB o = !textB o.text))))))))))) := by
    unfold opHeadB
    cases decide (o.kind < 0) <;> cases decide (3 < o.kind) <;> cases decide (o.atN < 1) <;> cases decide (1000000 < o.atN) <;> cases decide (o.atR < 0) <;> cases decide (8 ≤ o.atR) <;> simp
  rcases hcase with ⟨q1, hd⟩ | ⟨q1, ⟨q2, hd⟩ | ⟨q2, ⟨q3, hd⟩ | ⟨q3, ⟨q4, hd⟩ | ⟨q4, ⟨q5, hd⟩ | ⟨q5, ⟨q6, hd⟩ | ⟨q6, hd⟩⟩⟩⟩⟩⟩
  iterate 6
    · have HE := hide (show opB o = false by unfold opB; rw [if_pos hd])
      clear hd
      go_enter Try.func8, Try.ntmps8
      go_wp2_with fail
      go_ret
      exact ⟨by rw [unhide HE]; rfl, unhide HA⟩
  go_enter Try.func8, Try.ntmps8
  go_wp2_with fail
  refine (textS_b _ _ o.text (unhide HT)).mono ?_
  rintro e w1 ⟨rfl, rfl⟩
  cases hx : textB o.text
  · have HE := hide (show opB o = false by unfold opB; rw [if_pos (by rw [hd, hx]; rfl)])
    clear hd hx
    go_wp2_with fail
    go_ret
    exact ⟨by rw [unhide HE]; rfl, unhide HA⟩
  have HD := hide (show opHeadB o = false by rw [hd, hx]; rfl)
  clear hd hx
  cases k0 : (o.kind == 0)
  · cases k1 : (o.kind == 1)
    · have hB : opB o = opRestB o := by unfold opB; rw [unhide HD, k0, k1]; rfl
      go_wp2_with fail
      refine (idS_any _ o.nodeN o.nodeR).mono ?_
      rintro e w1 ⟨rfl, rfl⟩
      have HA1 := hide ((unhide HA).alloc (unhide HA).size (.cells #[.int .i64 o.nodeN, .int .i64 o.nodeR] 24))
      replace hB := hB.trans (show opRestB o = _ by unfold opRestB; rfl)
      cases x1 : idB o.nodeN o.nodeR
      · have HE := hide (show opB o = false by rw [hB, x1]; rfl)
        clear hB x1
        go_wp2_with fail
        go_ret
        exact ⟨by rw [unhide HE]; rfl, unhide HA1⟩
      rw [x1] at hB
      clear x1
      go_wp2_with fail
      refine (zeroS_any _ o.parN o.parR).mono ?_
      rintro e w1 ⟨rfl, rfl⟩
      have HA2 := hide ((unhide HA1).alloc (unhide HA1).size (.cells #[.int .i64 o.parN, .int .i64 o.parR] 24))
      cases x1 : zeroB o.parN o.parR
      · have HE := hide (show opB o = false by rw [hB, x1]; rfl)
        clear hB x1
        go_wp2_with fail
        go_ret
        exact ⟨by rw [unhide HE]; rfl, unhide HA2⟩
      rw [x1] at hB
      clear x1
      by_cases x1 : 0 < nK
      · have e1 : decide (0 < (o.key.length : Int)) = true := by rw [hnK]; simp; omega
        have e2 : decide (0 < nK) = true := by simp; omega
        have HE := hide (show opB o = false by rw [hB, e1]; rfl)
        clear hB e1
        go_wp2_with fail
        go_ret
        exact ⟨by rw [unhide HE]; rfl, unhide HA2⟩
      have e1 : decide (0 < (o.key.length : Int)) = false := by rw [hnK]; simp; omega
      rw [e1] at hB
      have z1 : nK = 0 := by omega
      clear e1 x1
      subst z1
      clear hnK
      cases x2 : (o.elem == 0)
      · have HE := hide (show opB o = false by rw [hB, x2]; rfl)
        clear hB
        go_wp2_with fail
        go_ret
        exact ⟨by rw [unhide HE]; rfl, unhide HA2⟩
      rw [x2] at hB
      cases x3 : (o.kind == 2)
      · rw [x3] at hB
        replace hB : opB o = (nameB o.name && (!o.gone || (o.text.length : Int) == 0)) := hB
        go_wp2_with fail
        have HN2 := hide ((((unhide HN).keep ((Below.refl _ _).alloc (Nat.le_refl _) (.cells #[.int .i64 o.nodeN, .int .i64 o.nodeR] 24)))).keep ((Below.refl _ _).alloc (Nat.le_refl _) (.cells #[.int .i64 o.parN, .int .i64 o.parR] 24)))
        refine (nameS_b _ _ o.name (unhide HN2)).mono ?_
        rintro e w1 ⟨rfl, rfl⟩
        cases x4 : nameB o.name
        · have HE := hide (show opB o = false by rw [hB, x4]; rfl)
          clear hB x4
          go_wp2_with fail
          go_ret
          exact ⟨by rw [unhide HE]; rfl, unhide HA2⟩
        rw [x4, Bool.true_and] at hB
        clear x4
        rcases Bool.eq_false_or_eq_true o.gone with hg | hg
        · rw [hg] at hB HA2
          replace hB : opB o = ((o.text.length : Int) == 0) := hB
          have HE := hide hB
          clear hB
          go_wp2_with fail
          go_ret
          exact ⟨by rw [unhide HE]; rfl, unhide HA2⟩
        · rw [hg] at hB HA2
          replace hB : opB o = true := hB
          have HE := hide hB
          clear hB
          go_wp2_with fail
          go_ret
          exact ⟨by rw [unhide HE]; rfl, unhide HA2⟩
      · rw [x3] at hB
        replace hB : opB o = ((o.name.length : Int) == 0 && !o.gone) := hB
        cases x4 : ((o.name.length : Int) == 0)
        · have HE := hide (show opB o = false by rw [hB, x4]; rfl)
          clear hB
          go_wp2_with fail
          go_ret
          exact ⟨by rw [unhide HE]; rfl, unhide HA2⟩
        rw [x4, Bool.true_and] at hB
        have HE := hide hB
        clear hB
        go_wp2_with fail
        go_ret
        exact ⟨by rw [unhide HE]; rfl, unhide HA2⟩
    · have hB : opB o = opMoveB o := by unfold opB; rw [unhide HD, k0, k1]; rfl
      go_wp2_with fail
      refine (idS_any _ o.nodeN o.nodeR).mono ?_
      rintro e w1 ⟨rfl, rfl⟩
      have HA1 := hide ((unhide HA).alloc (unhide HA).size (.cells #[.int .i64 o.nodeN, .int .i64 o.nodeR] 24))
      cases x1 : idB o.nodeN o.nodeR
      · have HE := hide (show opB o = false by rw [hB]; unfold opMoveB; rw [x1]; rfl)
        clear hB x1
        go_wp2_with fail
        go_ret
        exact ⟨by rw [unhide HE]; rfl, unhide HA1⟩
      replace hB := hB.trans (show opMoveB o = _ by unfold opMoveB; rw [x1, Bool.true_and])
      clear x1
      go_wp2_with fail
      refine (idS_any _ o.parN o.parR).mono ?_
      rintro e w1 ⟨rfl, rfl⟩
      have HA2 := hide ((unhide HA1).alloc (unhide HA1).size (.cells #[.int .i64 o.parN, .int .i64 o.parR] 24))
      cases x1 : idB o.parN o.parR
      · have HE := hide (show opB o = false by rw [hB, x1]; rfl)
        clear hB x1
        go_wp2_with fail
        go_ret
        exact ⟨by rw [unhide HE]; rfl, unhide HA2⟩
      rw [x1, Bool.true_and] at hB
      clear x1
      go_wp2_with fail
      have HK2 := hide ((((unhide HK).keep ((Below.refl _ _).alloc (Nat.le_refl _) (.cells #[.int .i64 o.nodeN, .int .i64 o.nodeR] 24)))).keep ((Below.refl _ _).alloc (Nat.le_refl _) (.cells #[.int .i64 o.parN, .int .i64 o.parR] 24)))
      refine (keyS_b _ _ o.key (unhide HK2)).mono ?_
      rintro e w1 ⟨rfl, rfl⟩
      cases x1 : keyB o.key
      · have HE := hide (show opB o = false by rw [hB, x1]; rfl)
        clear hB x1
        go_wp2_with fail
        go_ret
        exact ⟨by rw [unhide HE]; rfl, unhide HA2⟩
      rw [x1, Bool.true_and] at hB
      clear x1
      cases x1 : (o.elem == 0)
      · have HE := hide (show opB o = false by rw [hB, x1]; rfl)
        clear hB
        go_wp2_with fail
        go_ret
        exact ⟨by rw [unhide HE]; rfl, unhide HA2⟩
      rw [x1, Bool.true_and] at hB
      cases x2 : ((o.name.length : Int) == 0)
      · have HE := hide (show opB o = false by rw [hB, x2]; rfl)
        clear hB
        go_wp2_with fail
        go_ret
        exact ⟨by rw [unhide HE]; rfl, unhide HA2⟩
      rw [x2, Bool.true_and] at hB
      cases x3 : ((o.text.length : Int) == 0)
      · have HE := hide (show opB o = false by rw [hB, x3]; rfl)
        clear hB
        go_wp2_with fail
        go_ret
        exact ⟨by rw [unhide HE]; rfl, unhide HA2⟩
      rw [x3, Bool.true_and] at hB
      have HE := hide hB
      clear hB
      go_wp2_with fail
      go_ret
      exact ⟨by rw [unhide HE]; rfl, unhide HA2⟩
  · have hB : opB o = opNewB o := by unfold opB; rw [unhide HD, k0]; rfl
    replace hB := hB.trans (show opNewB o = _ by unfold opNewB; rfl)
    go_wp2_with fail
    refine (zeroS_any _ o.nodeN o.nodeR).mono ?_
    rintro e w1 ⟨rfl, rfl⟩
    have HA1 := hide ((unhide HA).alloc (unhide HA).size (.cells #[.int .i64 o.nodeN, .int .i64 o.nodeR] 24))
    cases x1 : zeroB o.nodeN o.nodeR
    · have HE := hide (show opB o = false by rw [hB, x1]; rfl)
      clear hB x1
      go_wp2_with fail
      go_ret
      exact ⟨by rw [unhide HE]; rfl, unhide HA1⟩
    rw [x1] at hB
    clear x1
    go_wp2_with fail
    refine (idS_any _ o.parN o.parR).mono ?_
    rintro e w1 ⟨rfl, rfl⟩
    have HA2 := hide ((unhide HA1).alloc (unhide HA1).size (.cells #[.int .i64 o.parN, .int .i64 o.parR] 24))
    cases x1 : idB o.parN o.parR
    · have HE := hide (show opB o = false by rw [hB, x1]; rfl)
      clear hB x1
      go_wp2_with fail
      go_ret
      exact ⟨by rw [unhide HE]; rfl, unhide HA2⟩
    rw [x1] at hB
    clear x1
    go_wp2_with fail
    have HK2 := hide ((((unhide HK).keep ((Below.refl _ _).alloc (Nat.le_refl _) (.cells #[.int .i64 o.nodeN, .int .i64 o.nodeR] 24)))).keep ((Below.refl _ _).alloc (Nat.le_refl _) (.cells #[.int .i64 o.parN, .int .i64 o.parR] 24)))
    refine (keyS_b _ _ o.key (unhide HK2)).mono ?_
    rintro e w1 ⟨rfl, rfl⟩
    cases x1 : keyB o.key
    · have HE := hide (show opB o = false by rw [hB, x1]; rfl)
      clear hB x1
      go_wp2_with fail
      go_ret
      exact ⟨by rw [unhide HE]; rfl, unhide HA2⟩
    rw [x1] at hB
    clear x1
    rcases Bool.eq_false_or_eq_true o.gone with hg | hg
    · have HE := hide (show opB o = false by rw [hB, hg]; rfl)
      clear hB
      rw [hg] at HA2
      go_wp2_with fail
      go_ret
      exact ⟨by rw [unhide HE]; rfl, unhide HA2⟩
    rw [hg] at hB HA2 HN
    rcases Bool.eq_false_or_eq_true (o.elem == 1) with x1 | x1
    · rw [x1] at hB
      replace hB : opB o = ((o.name.length : Int) == 0) := hB
      have HE := hide hB
      clear hB
      go_wp2_with fail
      go_ret
      exact ⟨by rw [unhide HE]; rfl, unhide HA2⟩
    rw [x1] at hB
    replace hB : opB o = (o.elem == 0 && (nameB o.name && (o.text.length : Int) == 0)) := hB
    cases x2 : (o.elem == 0)
    · have HE := hide (show opB o = false by rw [hB, x2]; rfl)
      clear hB
      go_wp2_with fail
      go_ret
      exact ⟨by rw [unhide HE]; rfl, unhide HA2⟩
    rw [x2, Bool.true_and] at hB
    go_wp2_with fail
    have HN2 := hide ((((unhide HN).keep ((Below.refl _ _).alloc (Nat.le_refl _) (.cells #[.int .i64 o.nodeN, .int .i64 o.nodeR] 24)))).keep ((Below.refl _ _).alloc (Nat.le_refl _) (.cells #[.int .i64 o.parN, .int .i64 o.parR] 24)))
    refine (nameS_b _ _ o.name (unhide HN2)).mono ?_
    rintro e w1 ⟨rfl, rfl⟩
    cases x4 : nameB o.name
    · have HE := hide (show opB o = false by rw [hB, x4]; rfl)
      clear hB x4
      go_wp2_with fail
      go_ret
      exact ⟨by rw [unhide HE]; rfl, unhide HA2⟩
    rw [x4, Bool.true_and] at hB
    clear x4
    have HE := hide hB
    clear hB
    go_wp2_with fail
    go_ret
    exact ⟨by rw [unhide HE]; rfl, unhide HA2⟩

end Go.Proofs.Ytcabolcfoijglaa

/- Numbers as rows of bytes, in plain mathematics: what a row is read as. -/
namespace Go.Proofs.Ytcabolcfoijglaa

/-- 128 to the power k, for k up to 5. -/
def sc : Nat → Int
  | 0 => 1
  | 1 => 128
  | 2 => 16384
  | 3 => 2097152
  | 4 => 268435456
  | _ => 34359738368

/-- The number whose bytes begin the row, and how many they are; i bytes have been read, they came to acc. -/
def numGo : Nat → List Int → Nat → Int → Option (Int × Nat)
  | 0, _, _, _ => none
  | _ + 1, [], _, _ => none
  | f + 1, x :: r, i, acc => if x < 128 then (if (x = 0 ∧ 0 < i) ∨ 2147483647 < acc + x % 128 * sc i then none else some (acc + x % 128 * sc i, i + 1)) else numGo f r (i + 1) (acc + x % 128 * sc i)

def num (r : List Int) : Option (Int × Nat) := numGo 5 r 0 0

def getN (l : List Int) (p : Int) : Int × Int := if p < 0 then (0, -1) else match num (l.drop p.toNat) with
  | some (n, k) => (n, p + (k : Int))
  | none => (0, -1)

theorem sc_step (k : Nat) (h : k < 5) : sc (k + 1) = sc k * 128 := by
  have : k = 0 ∨ k = 1 ∨ k = 2 ∨ k = 3 ∨ k = 4 := by omega
  rcases this with rfl | rfl | rfl | rfl | rfl <;> rfl
theorem sc_le (k : Nat) : 1 ≤ sc k ∧ sc k ≤ 34359738368 := by unfold sc; split <;> omega
theorem part_le {x s : Int} (h0 : 1 ≤ s) (h1 : s ≤ 34359738368) : 0 ≤ x % 128 * s ∧ x % 128 * s ≤ 127 * s ∧ x % 128 * s ≤ 4363686772736 := by
  have a : 0 ≤ x % 128 * s := Int.mul_nonneg (by omega) (by omega)
  have b : x % 128 * s ≤ 127 * s := Int.mul_le_mul_of_nonneg_right (by omega) (by omega)
  omega

theorem numGo_nil (f i : Nat) (acc : Int) : numGo f [] i acc = none := by cases f <;> rfl
theorem numGo_end {f i : Nat} {acc x : Int} {r : List Int} (h : x < 128) (h1 : ¬ ((x = 0 ∧ 0 < i) ∨ 2147483647 < acc + x % 128 * sc i)) : numGo (f + 1) (x :: r) i acc = some (acc + x % 128 * sc i, i + 1) := by
  rw [numGo, if_pos h, if_neg h1]
theorem numGo_bad {f i : Nat} {acc x : Int} {r : List Int} (h : x < 128) (h1 : (x = 0 ∧ 0 < i) ∨ 2147483647 < acc + x % 128 * sc i) : numGo (f + 1) (x :: r) i acc = none := by
  rw [numGo, if_pos h, if_pos h1]
theorem numGo_on {f i : Nat} {acc x : Int} {r : List Int} (h : ¬ x < 128) : numGo (f + 1) (x :: r) i acc = numGo f r (i + 1) (acc + x % 128 * sc i) := by
  rw [numGo, if_neg h]

/-- What is read is a number that may be, of one to five bytes, and not more than are there. -/
theorem numGo_some {f i : Nat} {acc : Int} {r : List Int} {n : Int} {k : Nat} (ha : 0 ≤ acc) (hr : okB r) (h : numGo f r i acc = some (n, k)) : 0 ≤ n ∧ n ≤ 2147483647 ∧ i < k ∧ k ≤ i + f ∧ k ≤ i + r.length := by
  induction f generalizing i acc r with
  | zero => simp [numGo] at h
  | succ f ih =>
    cases r with
    | nil => simp [numGo] at h
    | cons x r =>
      have hx := hr x (by simp)
      have hs : 0 ≤ sc i := by unfold sc; split <;> omega
      have hm : 0 ≤ x % 128 * sc i := Int.mul_nonneg (by omega) hs
      by_cases h1 : x < 128
      · by_cases h2 : (x = 0 ∧ 0 < i) ∨ 2147483647 < acc + x % 128 * sc i
        · rw [numGo_bad h1 h2] at h; cases h
        · rw [numGo_end h1 h2] at h
          simp only [Option.some.injEq, Prod.mk.injEq] at h
          obtain ⟨rfl, rfl⟩ := h
          refine ⟨by omega, by omega, by omega, by omega, by simp⟩
      · rw [numGo_on h1] at h
        have := ih (by omega) (fun y hy => hr y (by simp [hy])) h
        simp only [List.length_cons]
        omega
theorem num_some {r : List Int} {n : Int} {k : Nat} (hr : okB r) (h : num r = some (n, k)) : 0 ≤ n ∧ n ≤ 2147483647 ∧ 0 < k ∧ k ≤ 5 ∧ k ≤ r.length := by
  have := numGo_some (Int.le_refl 0) hr h
  omega

theorem getN_neg {l : List Int} {p : Int} (h : p < 0) : getN l p = (0, -1) := by rw [getN, if_pos h]
theorem getN_none {l : List Int} {p : Nat} (h : num (l.drop p) = none) : getN l (p : Int) = (0, -1) := by
  rw [getN, if_neg (by omega), Int.toNat_natCast, h]
theorem getN_some {l : List Int} {p : Nat} {n : Int} {k : Nat} (h : num (l.drop p) = some (n, k)) : getN l (p : Int) = (n, (p : Int) + (k : Int)) := by
  rw [getN, if_neg (by omega), Int.toNat_natCast, h]

end Go.Proofs.Ytcabolcfoijglaa

/- The bytes of a number, in plain mathematics. -/
namespace Go.Proofs.Ytcabolcfoijglaa

/-- The bytes of n, at most f + 1 of them. -/
def putGo : Nat → Int → List Int
  | 0, n => [n]
  | f + 1, n => if 127 < n then (n % 128 + 128) :: putGo f (n / 128) else [n]
def putN (n : Int) : List Int := putGo 4 n
/-- b and the bytes of n, where n may be put. -/
def putAll (l : List Int) (n : Int) : List Int := if n < 0 ∨ 2147483647 < n then l else l ++ putN n

theorem putGo_on {f : Nat} {n : Int} (h : 127 < n) : putGo (f + 1) n = (n % 128 + 128) :: putGo f (n / 128) := by rw [putGo, if_pos h]
theorem putGo_end {f : Nat} {n : Int} (h : ¬ 127 < n) : putGo f n = [n] := by cases f with
  | zero => rfl
  | succ f => rw [putGo, if_neg h]
theorem putGo_len (f : Nat) (n : Int) : (putGo f n).length ≤ f + 1 := by
  induction f generalizing n with
  | zero => simp [putGo]
  | succ f ih =>
    by_cases h : 127 < n
    · rw [putGo_on h]; have := ih (n / 128); simp; omega
    · rw [putGo_end h]; simp
theorem putGo_pos (f : Nat) (n : Int) : 0 < (putGo f n).length := by
  cases f with
  | zero => simp [putGo]
  | succ f =>
    by_cases h : 127 < n
    · rw [putGo_on h]; simp
    · rw [putGo_end h]; simp
theorem putGo_ok (f : Nat) (n : Int) (h0 : 0 ≤ n) (h1 : n < sc (f + 1)) (hf : f ≤ 4) : okB (putGo f n) := by
  induction f generalizing n with
  | zero => intro x hx; simp [putGo] at hx; subst hx; simp [sc] at h1; omega
  | succ f ih =>
    by_cases h : 127 < n
    · rw [putGo_on h]
      have := sc_step (f + 1) (by omega)
      intro x hx
      rcases List.mem_cons.1 hx with rfl | hx
      · omega
      · exact ih (n / 128) (by omega) (by omega) (by omega) x hx
    · rw [putGo_end h]; intro x hx; simp at hx; omega
theorem putN_ok {n : Int} (h0 : 0 ≤ n) (h1 : n ≤ 2147483647) : okB (putN n) := putGo_ok 4 n h0 (by simp only [sc]; omega) (by omega)
theorem putN_len (n : Int) : (putN n).length ≤ 5 := putGo_len 4 n
theorem putAll_in {l : List Int} {n : Int} (h0 : 0 ≤ n) (h1 : n ≤ 2147483647) : putAll l n = l ++ putN n := by rw [putAll, if_neg (by omega)]
theorem putAll_out {l : List Int} {n : Int} (h : n < 0 ∨ 2147483647 < n) : putAll l n = l := by rw [putAll, if_pos h]
theorem putAll_len (l : List Int) (n : Int) : (putAll l n).length ≤ l.length + 5 := by
  unfold putAll
  split
  · omega
  · have := putN_len n; simp; omega

end Go.Proofs.Ytcabolcfoijglaa

/- Texts as rows of bytes, in plain mathematics, and a cut of a readable row. -/
namespace Go.Proofs.Ytcabolcfoijglaa
open Go.RowKit
set_option linter.unusedVariables false

/-- b, how many bytes t has, and t, where t may be put. -/
def putT (l t : List Int) : List Int := if 30 < t.length then l else l ++ putN t.length ++ t
/-- The text that stands at p, and the place behind it. -/
def getT (l : List Int) (p : Int) : List Int × Int := if (getN l p).2 < 0 ∨ 30 < (getN l p).1 ∨ (l.length : Int) - (getN l p).2 < (getN l p).1 then ([], -1)
  else ((l.drop (getN l p).2.toNat).take (getN l p).1.toNat, (getN l p).2 + (getN l p).1)

theorem putT_out {l t : List Int} (h : 30 < t.length) : putT l t = l := by rw [putT, if_pos h]
theorem putT_in {l t : List Int} (h : ¬ 30 < t.length) : putT l t = l ++ putN t.length ++ t := by rw [putT, if_neg h]
theorem putT_len (l t : List Int) : (putT l t).length ≤ l.length + 40 := by
  unfold putT
  split
  · omega
  · have := putN_len t.length; simp; omega
theorem getT_out {l : List Int} {p : Int} (h : (getN l p).2 < 0 ∨ 30 < (getN l p).1 ∨ (l.length : Int) - (getN l p).2 < (getN l p).1) : getT l p = ([], -1) := by rw [getT, if_pos h]
theorem getT_in {l : List Int} {p : Int} {n k : Nat} (e : getN l p = ((n : Int), (k : Int))) (h1 : n ≤ 30) (h2 : k + n ≤ l.length) : getT l p = ((l.drop k).take n, (k : Int) + (n : Int)) := by
  rw [getT, e, if_neg (by simp only; omega)]
  simp

/-- What getN says is the refusal, or a number that may be and a place within the row behind its first byte. -/
theorem getN_cases {l : List Int} (hok : okB l) (p : Int) : getN l p = (0, -1) ∨ ∃ n k : Nat, getN l p = ((n : Int), (k : Int)) ∧ n ≤ 2147483647 ∧ 1 ≤ k ∧ k ≤ l.length := by
  by_cases h0 : p < 0
  · exact .inl (getN_neg h0)
  · obtain ⟨p, rfl⟩ := Int.eq_ofNat_of_zero_le (show 0 ≤ p by omega)
    cases hq : num (l.drop p) with
    | none => exact .inl (getN_none hq)
    | some y =>
      obtain ⟨n, k⟩ := y
      obtain ⟨a1, a2, a3, a4, a5⟩ := num_some (hok.drop p) hq
      right
      have hlen : (l.drop p).length = l.length - p := by simp
      refine ⟨n.toNat, p + k, ?_, by omega, by omega, by omega⟩
      rw [getN_some hq]
      simp only [Prod.mk.injEq]
      omega

/-- A slice cut out of a row can be read. -/
theorem Byt.cut2 {w : World} {b off cap p n : Nat} {l : List Int} (hok : okB l) (hm : l.length ≤ maxLen) (hp : p + n ≤ l.length) (hlc : l.length ≤ cap) (hcm : cap ≤ maxLen) (hb : b < w.heap.size)
    (hc : ∀ i, i < l.length → w.cell? ⟨b, off + i, none⟩ = some (.int .u8 (l.getD i 0))) : Byt w (.slice (some ⟨b, off + p, none⟩) n (cap - p)) ((l.drop p).take n) := by
  have hl : ((l.drop p).take n).length = n := by simp; omega
  refine ⟨(hok.drop p).take n, by omega, .inr ?_⟩
  by_cases h0 : n = 0
  · subst h0
    exact .inl ⟨⟨b, off + p, none⟩, cap - p, rfl, by omega, by simp⟩
  · refine .inr ⟨b, off + p, cap - p, by rw [hl], by omega, by omega, fun e => by rw [e] at hl; simp at hl; omega, hb, fun i hi => ?_⟩
    rw [Nat.add_assoc, hc (p + i) (by omega), List.getD_eq_getElem?_getD, List.getD_eq_getElem?_getD, List.getElem?_take, if_pos (by omega), List.getElem?_drop]

end Go.Proofs.Ytcabolcfoijglaa

/- What was put is got, what is got was put: numbers and texts as rows of bytes, in plain mathematics. -/
namespace Go.Proofs.Ytcabolcfoijglaa

theorem mod_part {n : Int} : (n % 128 + 128) % 128 = n % 128 := by omega

/-- The bytes of n, whatever stands behind them, are read as n. -/
theorem go_back (f i : Nat) (acc n : Int) (r : List Int) (h0 : 0 ≤ n) (h1 : n < sc (f + 1)) (hif : i + f = 4) (ha : 0 ≤ acc) (hmax : acc + n * sc i ≤ 2147483647) (hn : 0 < i → 0 < n) :
    numGo (f + 1) (putGo f n ++ r) i acc = some (acc + n * sc i, i + (putGo f n).length) := by
  induction f generalizing i acc n with
  | zero =>
    have h2 : n < 128 := h1
    rw [show putGo 0 n ++ r = n :: r from rfl, numGo_end h2]
    · rw [show n % 128 = n by omega]; simp [putGo]
    · rw [show n % 128 = n by omega]
      intro hc
      rcases hc with ⟨e, hi⟩ | hc
      · have := hn hi; omega
      · omega
  | succ f ih =>
    by_cases hb : 127 < n
    · rw [putGo_on hb, List.cons_append, numGo_on (by omega), mod_part]
      have hs := sc_step i (by omega)
      have hss := sc_step (f + 1) (by omega)
      have hpos := (sc_le i).1
      have e : acc + n % 128 * sc i + n / 128 * sc (i + 1) = acc + n * sc i := by
        rw [hs]
        have hd : n = n / 128 * 128 + n % 128 := by omega
        have : n * sc i = (n / 128 * 128 + n % 128) * sc i := by rw [← hd]
        rw [this, Int.add_mul, Int.mul_comm (sc i) 128, ← Int.mul_assoc]
        omega
      have hm0 : 0 ≤ n % 128 * sc i := Int.mul_nonneg (by omega) (by omega)
      rw [ih (i + 1) (acc + n % 128 * sc i) (n / 128) (by omega) (by omega) (by omega) (by omega) (by rw [e]; exact hmax) (by omega), e]
      simp only [List.length_cons, Option.some.injEq, Prod.mk.injEq, true_and]
      omega
    · have h2 : n < 128 := by omega
      rw [putGo_end hb, List.cons_append, numGo_end h2]
      · rw [show n % 128 = n by omega]; simp
      · rw [show n % 128 = n by omega]
        intro hc
        rcases hc with ⟨e, hi⟩ | hc
        · have := hn hi; omega
        · omega

theorem num_back {n : Int} (h0 : 0 ≤ n) (h1 : n ≤ 2147483647) (r : List Int) : num (putN n ++ r) = some (n, (putN n).length) := by
  have h := go_back 4 0 0 n r h0 (by simp only [sc]; omega) rfl (Int.le_refl 0) (by simp only [sc]; omega) (by omega)
  simpa [num, putN, sc] using h

/-- Whatever bytes are read as a number are just its bytes. -/
theorem go_just (f i : Nat) (acc n : Int) (k : Nat) (r : List Int) (hok : okB r) (hif : i + f = 4) (h : numGo (f + 1) r i acc = some (n, k)) :
    ∃ q : Int, 0 ≤ q ∧ n = acc + q * sc i ∧ r.take (k - i) = putGo f q ∧ i < k ∧ (0 < i → 0 < q) := by
  induction f generalizing i acc r with
  | zero =>
    cases r with
    | nil => simp [numGo] at h
    | cons x r =>
      have hx := hok x (by simp)
      by_cases h1 : x < 128
      · by_cases h2 : (x = 0 ∧ 0 < i) ∨ 2147483647 < acc + x % 128 * sc i
        · rw [numGo_bad h1 h2] at h; cases h
        · rw [numGo_end h1 h2] at h
          simp only [Option.some.injEq, Prod.mk.injEq] at h
          obtain ⟨rfl, rfl⟩ := h
          refine ⟨x, hx.1, by rw [show x % 128 = x by omega], ?_, by omega, by omega⟩
          rw [show i + 1 - i = 1 by omega]; rfl
      · rw [numGo_on h1] at h; simp [numGo] at h
  | succ f ih =>
    cases r with
    | nil => simp [numGo] at h
    | cons x r =>
      have hx := hok x (by simp)
      by_cases h1 : x < 128
      · by_cases h2 : (x = 0 ∧ 0 < i) ∨ 2147483647 < acc + x % 128 * sc i
        · rw [numGo_bad h1 h2] at h; cases h
        · rw [numGo_end h1 h2] at h
          simp only [Option.some.injEq, Prod.mk.injEq] at h
          obtain ⟨rfl, rfl⟩ := h
          refine ⟨x, hx.1, by rw [show x % 128 = x by omega], ?_, by omega, by omega⟩
          rw [show i + 1 - i = 1 by omega, putGo_end (by omega)]; rfl
      · rw [numGo_on h1] at h
        obtain ⟨q, hq0, hqn, hqr, hik, hqp⟩ := ih (i + 1) _ r (fun y hy => hok y (by simp [hy])) (by omega) h
        have hq1 := hqp (by omega)
        have hs := sc_step i (by omega)
        refine ⟨x % 128 + q * 128, by omega, ?_, ?_, by omega, by omega⟩
        · rw [hqn, hs, Int.add_mul, Int.mul_comm (sc i) 128, ← Int.mul_assoc]; omega
        · rw [show k - i = (k - (i + 1)) + 1 by omega, List.take_succ_cons, hqr, putGo_on (by omega)]
          congr 1
          · omega
          · rw [show (x % 128 + q * 128) / 128 = q by omega]

theorem num_just {r : List Int} {n : Int} {k : Nat} (hok : okB r) (h : num r = some (n, k)) : r.take k = putN n := by
  obtain ⟨q, _, hqn, hqr, _, _⟩ := go_just 4 0 0 n k r hok rfl h
  have e : q = n := by simp only [sc] at hqn; omega
  rw [e] at hqr
  simpa [putN] using hqr

/-- A text that was put is got. -/
theorem getT_back {l t : List Int} (ht : t.length ≤ 30) : getT (putT l t) (l.length : Int) = (t, ((putT l t).length : Int)) := by
  have hp := putT_in (l := l) (t := t) (by omega)
  have hn := num_back (n := (t.length : Int)) (by omega) (by omega) t
  have e : getN (putT l t) (l.length : Int) = ((t.length : Int), ((l.length + (putN t.length).length : Nat) : Int)) := by
    rw [hp, List.append_assoc, getN_some (n := (t.length : Int)) (k := (putN t.length).length)]
    · simp
    · rw [List.drop_left]; exact hn
  rw [getT_in e ht (by rw [hp]; simp; omega)]
  rw [hp]
  have hd : (l ++ putN t.length ++ t).drop (l.length + (putN t.length).length) = t := by
    rw [← List.length_append, List.drop_left]
  rw [hd, List.take_of_length_le (Nat.le_refl _)]
  simp
  omega
end Go.Proofs.Ytcabolcfoijglaa

/- Operations as rows of bytes, in plain mathematics: what was put is got. -/
namespace Go.Proofs.Ytcabolcfoijglaa
set_option linter.unusedVariables false

/-- What lies at the place p of l and behind it is r. -/
def At (l : List Int) (p : Nat) (r : List Int) : Prop := p ≤ l.length ∧ l.drop p = r

theorem At.skip {l a r : List Int} {p : Nat} (h : At l p (a ++ r)) : At l (p + a.length) r := by
  obtain ⟨h1, h2⟩ := h
  have hl : l.length - p = a.length + r.length := by rw [← List.length_drop, h2, List.length_append]
  refine ⟨by omega, ?_⟩
  rw [← List.drop_drop, h2, List.drop_left]

theorem num_at {l r : List Int} {p : Nat} {n : Int} (h : At l p (putN n ++ r)) (h0 : 0 ≤ n) (h1 : n ≤ 2147483647) : ∃ q : Nat, getN l (p : Int) = (n, (q : Int)) ∧ At l q r := by
  refine ⟨p + (putN n).length, ?_, h.skip⟩
  rw [getN_some (n := n) (k := (putN n).length)]
  · simp
  · rw [h.2]; exact num_back h0 h1 r

theorem text_at {l r t : List Int} {p : Nat} (h : At l p (putN t.length ++ (t ++ r))) (ht : t.length ≤ 30) : ∃ q : Nat, getT l (p : Int) = (t, (q : Int)) ∧ At l q r := by
  obtain ⟨q, e, hq⟩ := num_at h (by omega) (by omega)
  have hs := hq.skip
  refine ⟨q + t.length, ?_, hs⟩
  rw [getT_in e ht hs.1, hq.2, List.take_left]
  simp

theorem text_end {l t : List Int} {p : Nat} (h : At l p (putN t.length ++ t)) (ht : t.length ≤ 30) : ∃ q : Nat, getT l (p : Int) = (t, (q : Int)) ∧ At l q [] :=
  text_at (r := []) (by rw [List.append_nil]; exact h) ht

/-- The numbers of k, one behind the other. -/
def putNs (l : List Int) : List Int → List Int
  | [] => l
  | x :: k => putNs (putAll l x) k
def putId (l : List Int) (n r : Int) : List Int := putAll (putAll l n) r
def putKey (l k : List Int) : List Int := putNs (putAll l k.length) k
def opHd (o : OpV) : List Int := putId (putAll [] o.kind) o.atN o.atR
def opBytes (o : OpV) : List Int :=
  if o.kind = 0 then putT (putT (putAll (putKey (putId (opHd o) o.parN o.parR) o.key) o.elem) o.name) o.text
  else if o.kind = 1 then putKey (putId (putId (opHd o) o.nodeN o.nodeR) o.parN o.parR) o.key
  else if o.kind = 2 then putT (putId (opHd o) o.nodeN o.nodeR) o.text
  else if o.gone then putAll (putT (putId (opHd o) o.nodeN o.nodeR) o.name) 1
  else putT (putAll (putT (putId (opHd o) o.nodeN o.nodeR) o.name) 0) o.text

def inR (n : Int) : Prop := 0 ≤ n ∧ n ≤ 2147483647
def keyR (k : List Int) : Prop := k.length ≤ 12 ∧ ∀ x ∈ k, inR x

def flatN : List Int → List Int
  | [] => []
  | x :: k => putN x ++ flatN k

theorem putNs_in {k : List Int} (h : ∀ x ∈ k, inR x) (l : List Int) : putNs l k = l ++ flatN k := by
  induction k generalizing l with
  | nil => simp [putNs, flatN]
  | cons x k ih =>
    have hx := h x (by simp)
    rw [putNs, putAll_in hx.1 hx.2, ih (fun y hy => h y (by simp [hy])), flatN, List.append_assoc]
theorem putId_in {n r : Int} (hn : inR n) (hr : inR r) (l : List Int) : putId l n r = l ++ (putN n ++ putN r) := by
  rw [putId, putAll_in hr.1 hr.2, putAll_in hn.1 hn.2, List.append_assoc]
theorem putKey_in {k : List Int} (h : keyR k) (l : List Int) : putKey l k = l ++ (putN k.length ++ flatN k) := by
  rw [putKey, putNs_in h.2, putAll_in (by omega) (by have := h.1; omega), List.append_assoc]
theorem putT_in' {t : List Int} (h : t.length ≤ 30) (l : List Int) : putT l t = l ++ (putN t.length ++ t) := by
  rw [putT_in (by omega), List.append_assoc]
theorem putAll_in' {n : Int} (h : inR n) (l : List Int) : putAll l n = l ++ putN n := putAll_in h.1 h.2

/-- What an operation that may be has. -/
theorem opB_facts {o : OpV} (h : opB o = true) :
    (inR o.atN ∧ inR o.atR) ∧ o.text.length ≤ 30 ∧
    ((o.kind = 0 ∧ (o.nodeN = 0 ∧ o.nodeR = 0) ∧ (inR o.parN ∧ inR o.parR) ∧ keyR o.key ∧ inR o.elem ∧ o.name.length ≤ 30 ∧ o.gone = false) ∨
     (o.kind = 1 ∧ (inR o.nodeN ∧ inR o.nodeR) ∧ (inR o.parN ∧ inR o.parR) ∧ keyR o.key ∧ o.elem = 0 ∧ o.name = [] ∧ o.text = [] ∧ o.gone = false) ∨
     (o.kind = 2 ∧ (inR o.nodeN ∧ inR o.nodeR) ∧ (o.parN = 0 ∧ o.parR = 0) ∧ o.key = [] ∧ o.elem = 0 ∧ o.name = [] ∧ o.gone = false) ∨
     (o.kind = 3 ∧ (inR o.nodeN ∧ inR o.nodeR) ∧ (o.parN = 0 ∧ o.parR = 0) ∧ o.key = [] ∧ o.elem = 0 ∧ o.name.length ≤ 30 ∧ (o.gone = true → o.text = []))) := by
  have idF : ∀ n r, idB n r = true → inR n ∧ inR r := by
    intro n r hi
    unfold idB at hi
    unfold inR
    simp only [Bool.and_eq_true, Bool.or_eq_true, decide_eq_true_eq] at hi
    omega
  have zF : ∀ n r, zeroB n r = true → n = 0 ∧ r = 0 := by
    intro n r hi
    unfold zeroB at hi
    simpa using hi
  have kF : ∀ k, keyB k = true → keyR k := by
    intro k hk
    obtain ⟨h1, h2, h3, h4⟩ := (keyB_iff k).1 hk
    refine ⟨h2, fun x hx => ?_⟩
    obtain ⟨i, hi, rfl⟩ := List.getElem_of_mem hx
    have := h4 i hi
    unfold keyCh at this
    unfold inR
    rw [getD_at hi] at this
    omega
  have nF : ∀ k, nameB k = true → k.length ≤ 30 := by
    intro k hk
    obtain ⟨h1, h2, h3⟩ := (nameB_iff k).1 hk
    omega
  have l0 : ∀ k : List Int, ((k.length : Int) == 0) = true → k = [] := by
    intro k hk
    simp at hk
    exact hk
  have hh : opHeadB o = false := by
    cases hc : opHeadB o
    · rfl
    · unfold opB at h; rw [hc] at h; simp at h
  unfold opB at h
  rw [hh] at h
  unfold opHeadB at hh
  simp only [Bool.or_eq_false_iff, decide_eq_false_iff_not, Bool.not_eq_false'] at hh
  obtain ⟨q1, q2, q3, q4, q5, q6, q7⟩ := hh
  have ht := ((textB_iff _).1 q7).1
  refine ⟨⟨⟨by omega, by omega⟩, ⟨by omega, by omega⟩⟩, ht, ?_⟩
  simp only [Bool.false_eq_true, if_false] at h
  by_cases k0 : o.kind = 0
  · left
    rw [if_pos (by simp [k0])] at h
    unfold opNewB at h
    by_cases hc : (!zeroB o.nodeN o.nodeR || (!idB o.parN o.parR || (!keyB o.key || o.gone))) = true
    · rw [if_pos hc] at h; cases h
    rw [if_neg hc] at h
    simp only [Bool.or_eq_true, not_or, Bool.not_eq_true', Bool.not_eq_false, Bool.not_eq_true] at hc
    obtain ⟨c1, c2, c3, c4⟩ := hc
    refine ⟨k0, zF _ _ c1, idF _ _ c2, kF _ c3, ?_⟩
    by_cases e1 : o.elem = 1
    · rw [if_pos (by simp [e1])] at h
      exact ⟨⟨by omega, by omega⟩, by rw [l0 _ h]; simp, c4⟩
    · rw [if_neg (by simp [e1])] at h
      simp only [Bool.and_eq_true] at h
      have e0 : o.elem = 0 := by simpa using h.1
      exact ⟨⟨by omega, by omega⟩, nF _ h.2.1, c4⟩
  · right
    rw [if_neg (by simp [k0])] at h
    by_cases k1 : o.kind = 1
    · left
      rw [if_pos (by simp [k1])] at h
      unfold opMoveB at h
      simp only [Bool.and_eq_true, Bool.not_eq_true'] at h
      obtain ⟨c1, c2, c3, c4, c5, c6, c7⟩ := h
      exact ⟨k1, idF _ _ c1, idF _ _ c2, kF _ c3, by simpa using c4, l0 _ c5, l0 _ c6, c7⟩
    · right
      rw [if_neg (by simp [k1])] at h
      unfold opRestB at h
      by_cases hc : (!idB o.nodeN o.nodeR || (!zeroB o.parN o.parR || (decide (0 < (o.key.length : Int)) || !(o.elem == 0)))) = true
      · rw [if_pos hc] at h; cases h
      rw [if_neg hc] at h
      simp only [Bool.or_eq_true, not_or, Bool.not_eq_true', Bool.not_eq_false, decide_eq_true_eq] at hc
      obtain ⟨c1, c2, c3, c4⟩ := hc
      have ck : o.key = [] := List.eq_nil_of_length_eq_zero (by omega)
      have ce : o.elem = 0 := by simpa using c4
      by_cases k2 : o.kind = 2
      · left
        rw [if_pos (by simp [k2])] at h
        simp only [Bool.and_eq_true, Bool.not_eq_true'] at h
        exact ⟨k2, idF _ _ c1, zF _ _ c2, ck, ce, l0 _ h.1, h.2⟩
      · right
        rw [if_neg (by simp [k2])] at h
        simp only [Bool.and_eq_true, Bool.or_eq_true, Bool.not_eq_true'] at h
        refine ⟨by omega, idF _ _ c1, zF _ _ c2, ck, ce, nF _ h.1, fun hg => ?_⟩
        rcases h.2 with h' | h'
        · rw [hg] at h'; cases h'
        · exact l0 _ h'

def rdId (l : List Int) (p : Int) : (Int × Int) × Int := (((getN l p).1, (getN l (getN l p).2).1), (getN l (getN l p).2).2)
/-- n numbers, whatever is there. -/
def rdMany (l : List Int) : Nat → Int → List Int × Int
  | 0, p => ([], p)
  | n + 1, p => ((getN l p).1 :: (rdMany l n (getN l p).2).1, (rdMany l n (getN l p).2).2)
/-- At most n numbers, as long as something is there. -/
def rdSome (l : List Int) : Nat → Int → List Int × Int
  | 0, p => ([], p)
  | n + 1, p => if p < 0 then ([], p) else ((getN l p).1 :: (rdSome l n (getN l p).2).1, (rdSome l n (getN l p).2).2)
def rdKeyI (l : List Int) (p : Int) : List Int × Int := rdMany l (min (getN l p).1 12).toNat (getN l p).2
def rdKeyS (l : List Int) (p : Int) : List Int × Int := rdSome l (min (getN l p).1 13).toNat (getN l p).2

theorem id_at {l r : List Int} {p : Nat} {n m : Int} (h : At l p (putN n ++ (putN m ++ r))) (h0 : inR n) (h1 : inR m) : ∃ q : Nat, rdId l (p : Int) = ((n, m), (q : Int)) ∧ At l q r := by
  obtain ⟨q, e, hq⟩ := num_at h h0.1 h0.2
  obtain ⟨q', e', hq'⟩ := num_at hq h1.1 h1.2
  refine ⟨q', ?_, hq'⟩
  unfold rdId
  rw [e, e']
theorem many_at {l r k : List Int} {p : Nat} (h : At l p (flatN k ++ r)) (hk : ∀ x ∈ k, inR x) : ∃ q : Nat, rdMany l k.length (p : Int) = (k, (q : Int)) ∧ At l q r := by
  induction k generalizing p with
  | nil => exact ⟨p, rfl, h⟩
  | cons x k ih =>
    rw [flatN, List.append_assoc] at h
    have hx := hk x (by simp)
    obtain ⟨q, e, hq⟩ := num_at h hx.1 hx.2
    obtain ⟨q', e', hq'⟩ := ih hq (fun y hy => hk y (by simp [hy]))
    refine ⟨q', ?_, hq'⟩
    rw [List.length_cons, rdMany, e, e']
theorem some_at {l r k : List Int} {p : Nat} (h : At l p (flatN k ++ r)) (hk : ∀ x ∈ k, inR x) : ∃ q : Nat, rdSome l k.length (p : Int) = (k, (q : Int)) ∧ At l q r := by
  induction k generalizing p with
  | nil => exact ⟨p, rfl, h⟩
  | cons x k ih =>
    rw [flatN, List.append_assoc] at h
    have hx := hk x (by simp)
    obtain ⟨q, e, hq⟩ := num_at h hx.1 hx.2
    obtain ⟨q', e', hq'⟩ := ih hq (fun y hy => hk y (by simp [hy]))
    refine ⟨q', ?_, hq'⟩
    rw [List.length_cons, rdSome, if_neg (by omega), e, e']

/-- A reader of keys that gets what was put. -/
def KeyBack (K : List Int → Int → List Int × Int) : Prop := ∀ (l r k : List Int) (p : Nat), At l p (putN k.length ++ (flatN k ++ r)) → keyR k → ∃ q : Nat, K l (p : Int) = (k, (q : Int)) ∧ At l q r
theorem keyI_back : KeyBack rdKeyI := by
  intro l r k p h hk
  have h12 := hk.1
  obtain ⟨q, e, hq⟩ := num_at h (by omega) (by omega)
  unfold rdKeyI
  rw [e]
  have em : (min (k.length : Int) 12).toNat = k.length := by omega
  simp only [em]
  exact many_at hq hk.2
theorem keyS_back : KeyBack rdKeyS := by
  intro l r k p h hk
  have h12 := hk.1
  obtain ⟨q, e, hq⟩ := num_at h (by omega) (by omega)
  unfold rdKeyS
  rw [e]
  have em : (min (k.length : Int) 13).toNat = k.length := by omega
  simp only [em]
  exact some_at hq hk.2

/-- The parts behind the stamp, by kind, from the place p on. -/
def rdRest (K : List Int → Int → List Int × Int) (l : List Int) (k n r p : Int) : OpV × Int :=
  if k = 0 then (⟨k, n, r, 0, 0, (rdId l p).1.1, (rdId l p).1.2, (K l (rdId l p).2).1, (getN l (K l (rdId l p).2).2).1, (getT l (getN l (K l (rdId l p).2).2).2).1, (getT l (getT l (getN l (K l (rdId l p).2).2).2).2).1, false⟩, (getT l (getT l (getN l (K l (rdId l p).2).2).2).2).2)
  else if k = 1 then (⟨k, n, r, (rdId l p).1.1, (rdId l p).1.2, (rdId l (rdId l p).2).1.1, (rdId l (rdId l p).2).1.2, (K l (rdId l (rdId l p).2).2).1, 0, [], [], false⟩, (K l (rdId l (rdId l p).2).2).2)
  else if k = 2 then (⟨k, n, r, (rdId l p).1.1, (rdId l p).1.2, 0, 0, [], 0, [], (getT l (rdId l p).2).1, false⟩, (getT l (rdId l p).2).2)
  else if k = 3 then
    if (getN l (getT l (rdId l p).2).2).1 = 1 then (⟨k, n, r, (rdId l p).1.1, (rdId l p).1.2, 0, 0, [], 0, (getT l (rdId l p).2).1, [], true⟩, (getN l (getT l (rdId l p).2).2).2)
    else (⟨k, n, r, (rdId l p).1.1, (rdId l p).1.2, 0, 0, [], 0, (getT l (rdId l p).2).1, (getT l (getN l (getT l (rdId l p).2).2).2).1, false⟩, (getT l (getN l (getT l (rdId l p).2).2).2).2)
  else (⟨k, n, r, 0, 0, 0, 0, [], 0, [], [], false⟩, p)
def opRd (K : List Int → Int → List Int × Int) (l : List Int) : OpV × Int := rdRest K l (getN l 0).1 (rdId l (getN l 0).2).1.1 (rdId l (getN l 0).2).1.2 (rdId l (getN l 0).2).2

theorem opRd_back {K : List Int → Int → List Int × Int} (hK : KeyBack K) (o : OpV) (h : opB o = true) : opRd K (opBytes o) = (o, ((opBytes o).length : Int)) := by
  obtain ⟨⟨a1, a2⟩, ht, hc⟩ := opB_facts h
  obtain ⟨l, hl⟩ : ∃ l, l = opBytes o := ⟨_, rfl⟩
  rw [← hl]
  have hst : At l 0 l := ⟨by omega, rfl⟩
  have hend : ∀ q : Nat, At l q [] → (q : Int) = (l.length : Int) := by
    intro q ⟨h1, h2⟩
    have := List.length_drop (i := q) (l := l)
    rw [h2, List.length_nil] at this
    omega
  obtain ⟨kind, atN, atR, nodeN, nodeR, parN, parR, key, elem, name, text, gone⟩ := o
  unfold opBytes opHd at hl
  unfold opRd rdRest
  simp only at *
  rcases hc with ⟨rfl, ⟨rfl, rfl⟩, ⟨c1, c2⟩, ck, ce, cn, rfl⟩ | ⟨rfl, ⟨n1, n2⟩, ⟨c1, c2⟩, ck, rfl, rfl, rfl, rfl⟩ | ⟨rfl, ⟨n1, n2⟩, ⟨rfl, rfl⟩, rfl, rfl, rfl, rfl⟩ | ⟨rfl, ⟨n1, n2⟩, ⟨rfl, rfl⟩, rfl, rfl, cn, cg⟩
  · rw [if_pos rfl, putT_in' ht, putT_in' cn, putAll_in' ce, putKey_in ck, putId_in c1 c2, putId_in a1 a2, putAll_in' (show inR 0 from ⟨by decide, by decide⟩)] at hl
    simp only [List.nil_append, List.append_assoc] at hl
    conv at hst => arg 3; rw [hl]
    obtain ⟨q0, e0, h0⟩ := num_at hst (by decide) (by decide)
    obtain ⟨q1, e1, h1⟩ := id_at h0 a1 a2
    obtain ⟨q2, e2, h2⟩ := id_at h1 c1 c2
    obtain ⟨q3, e3, h3⟩ := hK _ _ _ _ h2 ck
    obtain ⟨q4, e4, h4⟩ := num_at h3 ce.1 ce.2
    obtain ⟨q5, e5, h5⟩ := text_at h4 cn
    obtain ⟨q6, e6, h6⟩ := text_end h5 ht
    have e0' : getN l 0 = (0, (q0 : Int)) := e0
    simp only [e0', e1, e2, e3, e4, e5, e6, hend _ h6, if_true]
  · rw [if_neg (by decide), if_pos rfl, putKey_in ck, putId_in c1 c2, putId_in n1 n2, putId_in a1 a2, putAll_in' (show inR 1 from ⟨by decide, by decide⟩)] at hl
    simp only [List.nil_append, List.append_assoc] at hl
    conv at hst => arg 3; rw [hl, ← List.append_nil (flatN key)]
    obtain ⟨q0, e0, h0⟩ := num_at hst (by decide) (by decide)
    obtain ⟨q1, e1, h1⟩ := id_at h0 a1 a2
    obtain ⟨q2, e2, h2⟩ := id_at h1 n1 n2
    obtain ⟨q3, e3, h3⟩ := id_at h2 c1 c2
    obtain ⟨q4, e4, h4⟩ := hK _ _ _ _ h3 ck
    have e0' : getN l 0 = (1, (q0 : Int)) := e0
    simp only [e0', e1, e2, e3, e4, hend _ h4, if_true]
    rw [if_neg (by decide)]
  · rw [if_neg (by decide), if_neg (by decide), if_pos rfl, putT_in' ht, putId_in n1 n2, putId_in a1 a2, putAll_in' (show inR 2 from ⟨by decide, by decide⟩)] at hl
    simp only [List.nil_append, List.append_assoc] at hl
    conv at hst => arg 3; rw [hl]
    obtain ⟨q0, e0, h0⟩ := num_at hst (by decide) (by decide)
    obtain ⟨q1, e1, h1⟩ := id_at h0 a1 a2
    obtain ⟨q2, e2, h2⟩ := id_at h1 n1 n2
    obtain ⟨q3, e3, h3⟩ := text_end h2 ht
    have e0' : getN l 0 = (2, (q0 : Int)) := e0
    simp only [e0', e1, e2, e3, hend _ h3, if_true]
    rw [if_neg (by decide), if_neg (by decide)]
  · rw [if_neg (by decide), if_neg (by decide), if_neg (by decide)] at hl
    cases gone
    · rw [if_neg (by decide), putT_in' ht, putAll_in' (show inR 0 from ⟨by decide, by decide⟩), putT_in' cn, putId_in n1 n2, putId_in a1 a2, putAll_in' (show inR 3 from ⟨by decide, by decide⟩)] at hl
      simp only [List.nil_append, List.append_assoc] at hl
      conv at hst => arg 3; rw [hl]
      obtain ⟨q0, e0, h0⟩ := num_at hst (by decide) (by decide)
      obtain ⟨q1, e1, h1⟩ := id_at h0 a1 a2
      obtain ⟨q2, e2, h2⟩ := id_at h1 n1 n2
      obtain ⟨q3, e3, h3⟩ := text_at h2 cn
      obtain ⟨q4, e4, h4⟩ := num_at h3 (by decide) (by decide)
      obtain ⟨q5, e5, h5⟩ := text_end h4 ht
      have e0' : getN l 0 = (3, (q0 : Int)) := e0
      simp only [e0', e1, e2, e3, e4, e5, hend _ h5, if_true]
      rw [if_neg (by decide), if_neg (by decide), if_neg (by decide), if_neg (by decide)]
    · obtain rfl := cg rfl
      rw [if_pos rfl, putAll_in' (show inR 1 from ⟨by decide, by decide⟩), putT_in' cn, putId_in n1 n2, putId_in a1 a2, putAll_in' (show inR 3 from ⟨by decide, by decide⟩)] at hl
      simp only [List.nil_append, List.append_assoc] at hl
      conv at hst => arg 3; rw [hl, ← List.append_nil (putN 1)]
      obtain ⟨q0, e0, h0⟩ := num_at hst (by decide) (by decide)
      obtain ⟨q1, e1, h1⟩ := id_at h0 a1 a2
      obtain ⟨q2, e2, h2⟩ := id_at h1 n1 n2
      obtain ⟨q3, e3, h3⟩ := text_at h2 cn
      obtain ⟨q4, e4, h4⟩ := num_at h3 (by decide) (by decide)
      have e0' : getN l 0 = (3, (q0 : Int)) := e0
      simp only [e0', e1, e2, e3, e4, hend _ h4, if_true]
      rw [if_neg (by decide), if_neg (by decide), if_neg (by decide)]

def zeroV : OpV := ⟨0, 0, 0, 0, 0, 0, 0, [], 0, [], [], false⟩
/-- The operation whose bytes l are. -/
def readOk (l : List Int) : Bool := opB (opRd rdKeyI l).1 && (opBytes (opRd rdKeyI l).1 == l)
def readV (l : List Int) : OpV := if readOk l then (opRd rdKeyI l).1 else zeroV
def readSOk (l : List Int) : Bool := (opRd rdKeyS l).2 == (l.length : Int) && (opB (opRd rdKeyS l).1 && (opBytes (opRd rdKeyS l).1 == l))

theorem read_one {K K' : List Int → Int → List Int × Int} (hK' : KeyBack K') {l : List Int} (h : opB (opRd K l).1 = true) (hb : opBytes (opRd K l).1 = l) : opRd K' l = ((opRd K l).1, (l.length : Int)) := by
  have := opRd_back hK' _ h
  rw [hb] at this
  exact this
theorem readS_ok (l : List Int) : readSOk l = readOk l := by
  rw [Bool.eq_iff_iff]
  unfold readSOk readOk
  simp only [Bool.and_eq_true, beq_iff_eq]
  constructor
  · rintro ⟨_, h1, h2⟩
    rw [read_one keyI_back h1 h2]
    exact ⟨h1, h2⟩
  · rintro ⟨h1, h2⟩
    rw [read_one keyS_back h1 h2]
    exact ⟨rfl, h1, h2⟩
theorem readS_v {l : List Int} (h : readOk l = true) : (opRd rdKeyS l).1 = (opRd rdKeyI l).1 := by
  unfold readOk at h
  simp only [Bool.and_eq_true, beq_iff_eq] at h
  rw [read_one keyS_back h.1 h.2]
theorem read_just {l : List Int} (h : readOk l = true) : opB (readV l) = true ∧ opBytes (readV l) = l := by
  unfold readV
  rw [if_pos h]
  unfold readOk at h
  simpa only [Bool.and_eq_true, beq_iff_eq] using h
theorem read_back {o : OpV} (h : opB o = true) : readOk (opBytes o) = true ∧ readV (opBytes o) = o := by
  have e := opRd_back keyI_back o h
  have hr : readOk (opBytes o) = true := by
    unfold readOk
    rw [e]
    simp [h]
  refine ⟨hr, ?_⟩
  unfold readV
  rw [if_pos hr, e]

end Go.Proofs.Ytcabolcfoijglaa

/- slices.Grow of nothing and slices.Concat over rows of bytes, by their contracts. -/
namespace Go.Proofs.Ytcabolcfoijglaa
open Go.RowKit
set_option linter.unusedVariables false

theorem grow_nil (w : World) : Calls Try.prog 94 #[.slice none 0 0, .int .i64 0] w fun e w' => e = .returned (.slice none 0 0) ∧ w' = w := by
  go_enter Try.func94, Try.ntmps94
  go_wp2
  go_ret
  exact ⟨rfl, rfl⟩

set_option maxHeartbeats 1600000 in
theorem grow_some (w : World) (n : Nat) (h0 : 0 < n) (hn : n ≤ 134217728) :
    Calls Try.prog 94 #[.slice none 0 0, .int .i64 n] w fun e w' => ∃ v, e = .returned v ∧ w'.ownsRow w.heap.size 5 1 v 0 [] ∧ Below w.heap.size w w' := by
  obtain ⟨i0, hi, hz0, hz1, hz2⟩ := info_parts Try.info5
  obtain ⟨G, hG⟩ : ∃ G, G = grownCap w n 0 5 := ⟨_, rfl⟩
  have hGn : n ≤ G := by rw [hG]; exact grownCap_ge w _ _ _
  have hGm : G ≤ maxLen := by rw [hG]; exact grownCap_le_maxLen w _ _ _ (by unfold maxLen; omega)
  have hr := fun ty => Lib.run_append_nil_zeros w 22 3 ty 5 i0 (.int .u8 0) .i64 .i64 Try.underlying22 Try.underlying3 hi hz0 n h0 (by omega) (by omega) (by rw [hz2]; omega)
  rw [← hG] at hr
  obtain ⟨cs, hcs⟩ : ∃ cs, cs = Builtin.zeroCells (Value.int .u8 0).cells n ++ Builtin.zeroCells (Value.int .u8 0).cells (G - n) := ⟨_, rfl⟩
  have hsz : cs.size = G * 1 := by
    have h1 : (Value.int .u8 0).cells.size = 1 := rfl
    rw [hcs, Array.size_append, size_zeroCells, size_zeroCells, h1]; omega
  rw [← hcs] at hr
  clear hcs hG
  have hn0 : (0 : Int) < (n : Int) := by omega
  have hn1 : ¬ (n : Int) < 0 := by omega
  have hGz : G ≠ 0 := by omega
  have hGm' := hGm
  unfold maxLen at hGm'
  go_enter Try.func94, Try.ntmps94
  go_wp2_with (at_builtin; refine Lib.wpList_append_run _ rfl _ _ _ _ rfl _ _ rfl rfl _ _ (hr _) ?_)
  go_ret
  refine ⟨_, rfl, ?_, ((Below.refl _ _).drew).alloc (Nat.le_refl _) _⟩
  exact ⟨rfl, .inr ⟨w.heap.size, G, cs, rfl, Nat.le_refl _, heap_alloc_new w.drew _, Nat.zero_le _, hGm, hsz, by simp⟩⟩

theorem grow_any (w : World) (n : Nat) (hn : n ≤ 134217728) :
    Calls Try.prog 94 #[.slice none 0 0, .int .i64 n] w fun e w' => ∃ v, e = .returned v ∧ Own w' w.heap.size v [] ∧ Below w.heap.size w w' := by
  by_cases h0 : n = 0
  · subst h0
    refine (grow_nil w).mono ?_
    rintro e w' ⟨rfl, rfl⟩
    exact ⟨_, rfl, ⟨okB_nil, World.ownsRow_nil _ _ _ _⟩, Below.refl _ _⟩
  · refine (grow_some w n (by omega) hn).mono ?_
    rintro e w' ⟨v, rfl, h1, h2⟩
    exact ⟨_, rfl, ⟨okB_nil, h1⟩, h2⟩

/-- How many bytes the rows have together. -/
def sumLen (ls : List (List Int)) : Nat := (ls.map List.length).sum
theorem sumLen_take (ls : List (List Int)) (k : Nat) (h : k < ls.length) : sumLen (ls.take (k + 1)) = sumLen (ls.take k) + (ls[k]).length := by
  unfold sumLen
  rw [List.take_succ_eq_append_getElem h]
  simp only [List.map_append, List.sum_append, List.map_cons, List.map_nil, List.sum_cons, List.sum_nil, Nat.add_zero]
theorem sumLen_le (ls : List (List Int)) (k : Nat) : sumLen (ls.take k) ≤ sumLen ls := by
  have h : sumLen ls = sumLen (ls.take k) + sumLen (ls.drop k) := by
    unfold sumLen
    rw [← List.sum_append, ← List.map_append, List.take_append_drop]
  omega
theorem flatten_take (ls : List (List Int)) (k : Nat) (h : k < ls.length) : (ls.take (k + 1)).flatten = (ls.take k).flatten ++ ls[k] := by
  rw [List.take_succ_eq_append_getElem h]
  simp only [List.flatten_append, List.flatten_cons, List.flatten_nil, List.append_nil]
theorem flatten_len (ls : List (List Int)) : ls.flatten.length = sumLen ls := by unfold sumLen; rw [List.length_flatten]

set_option maxHeartbeats 1600000 in
theorem concat_any (w : World) (b off cap : Nat) (n : Nat) (vs : List Value) (ls : List (List Int)) (hn : n = ls.length) (hn1 : n ≤ 1000) (hb : b < w.heap.size)
    (hc : ∀ i, i < n → w.cell? ⟨b, off + i, none⟩ = some (vs.getD i undef)) (hv : ∀ i, i < n → Byt w (vs.getD i undef) (ls.getD i [])) (hs : sumLen ls ≤ 67108864) :
    Calls Try.prog 68 #[.slice (some ⟨b, off, none⟩) n cap] w fun e w' => ∃ v, e = .returned v ∧ Own w' w.heap.size v ls.flatten ∧ Below w.heap.size w w' := by
  have HN := hide hn
  clear hn
  go_enter Try.func68, Try.ntmps68
  go_wp2
  go_loop [3, 11] (fun s i => ∃ k : Nat, k ≤ n ∧ i = .int .i64 k ∧ s = .int .i64 (sumLen (ls.take k) : Nat)) (fun _ i => n - (intOf i).toNat)
  case atStart => exact ⟨0, Nat.zero_le _, rfl, rfl⟩
  case round =>
    obtain ⟨k, hk, rfl, rfl⟩ := hrel
    by_cases hlt : k < n
    · have hkl : k < ls.length := by have := unhide HN; omega
      have hvk := hv k hlt
      have hck := hc k hlt
      obtain ⟨a, c, hsh, hl1, hl2⟩ := hvk.shape
      rw [hsh] at hck
      have hqm : sumLen (ls.take (k + 1)) = sumLen (ls.take k) + (ls.getD k []).length := by rw [sumLen_take ls k hkl]; simp [hkl]
      have hle := sumLen_le ls (k + 1)
      rw [hqm] at hle
      generalize sumLen (ls.take k) = q at *
      generalize (ls.getD k []).length = m at *
      have HQ := hide hqm
      have hlt' : (k : Int) < (n : Int) := by omega
      have hpos : ¬ ((q : Int) + (m : Int)) < 0 := by omega
      clear hqm hvk hsh hc hv
      go_wp2
      go_round
      case rel => exact ⟨k + 1, by omega, by go_num, by rw [unhide HQ]; go_num⟩
      case measure => simp [intOf]; omega
    · have e : k = n := by omega
      subst e
      have hall : ls.take k = ls := List.take_of_length_le (by have := unhide HN; omega)
      rw [hall]
      clear hall
      go_wp2_with fail
      refine (grow_any w (sumLen ls) (by omega)).mono ?_
      rintro e w1 ⟨v1, rfl, ho1, hB1⟩
      go_wp2
      go_loopw [6, 27] (fun u i wr => ∃ j : Nat, j ≤ k ∧ i = .int .i64 j ∧ Own wr w.heap.size u (ls.take j).flatten ∧ Below w.heap.size w wr) (fun _ i _ => k - (intOf i).toNat)
      case atStart => exact ⟨0, Nat.zero_le _, rfl, ho1, hB1⟩
      case round =>
        obtain ⟨j, hj, rfl, ho, hB⟩ := hrel
        clear ho1 hB1
        by_cases hlt2 : j < k
        · have hkl : j < ls.length := by have := unhide HN; omega
          have hvk := (hv j hlt2)
          have hck := (hB.cell (p := ⟨b, off + j, none⟩) hb).trans (hc j hlt2)
          have hvr : Byt wr (vs.getD j undef) (ls.getD j []) := hvk.keep hB
          have hqm : sumLen (ls.take (j + 1)) = sumLen (ls.take j) + (ls.getD j []).length := by rw [sumLen_take ls j hkl]; simp [hkl]
          have hle := sumLen_le ls (j + 1)
          rw [hqm, ← flatten_len] at hle
          have hfl := flatten_take ls j hkl
          rw [show ls[j] = ls.getD j [] by simp [hkl]] at hfl
          have HF := hide hfl
          have hlt' : (j : Int) < (k : Int) := by omega
          generalize vs.getD j undef = u at *
          generalize ls.getD j [] = m at *
          generalize (ls.take j).flatten = L at *
          clear hqm hvk hc hv hfl
          go_wp2_with (at_builtin; refine wpList_app rfl _ _ rfl w.heap.size _ L rfl ho u m rfl hvr ?c1 ?c2 ?_)
          case c1 => omega
          case c2 => exact hB.size
          intro v2 w2 ho2 hg2
          have hB2 : Below w.heap.size w w2 := bstepBy hB hg2 ho.base_le
          go_wp2
          go_roundw
          case rel => exact ⟨j + 1, by omega, by go_num, by rw [unhide HF]; exact ho2, hB2⟩
          case measure => simp [intOf]; omega
        · have e : j = k := by omega
          subst e
          rw [List.take_of_length_le (by have := unhide HN; omega)] at ho
          clear hc hv
          go_wp2
          go_ret
          exact ⟨_, rfl, ho, hB⟩
end Go.Proofs.Ytcabolcfoijglaa

/- spec.GetNum answers what the plain function getN says. -/
namespace Go.Proofs.Ytcabolcfoijglaa
open Go.RowKit
set_option linter.unusedVariables false

theorem tup2 {a b c d : Int} (h : (a, b) = (c, d)) : Ending.returned (.tuple #[.int .i64 a, .int .i64 b]) = .returned (.tuple #[.int .i64 c, .int .i64 d]) := by
  simp only [Prod.mk.injEq] at h; rw [h.1, h.2]

theorem getS_neg (w : World) (a : Option Addr) (n cap : Nat) (p : Int) (hp : p < 0) :
    Calls Try.prog 87 #[.slice a n cap, .int .i64 p] w fun e w' => e = .returned (.tuple #[.int .i64 0, .int .i64 (-1)]) ∧ w' = w := by
  go_enter Try.func87, Try.ntmps87
  go_wp2
  go_ret2
  exact ⟨rfl, rfl⟩

theorem getS_out (w : World) (a : Option Addr) (n cap : Nat) (p : Nat) (hp : n ≤ p) (hn : n ≤ maxLen) (hm : (p : Int) ≤ 9223372036854775807) :
    Calls Try.prog 87 #[.slice a n cap, .int .i64 p] w fun e w' => e = .returned (.tuple #[.int .i64 0, .int .i64 (-1)]) ∧ w' = w := by
  unfold maxLen at hn
  go_enter Try.func87, Try.ntmps87
  go_wp2
  refine wp_loop_rounds 1 ?_
  rw [rounds_succ]
  go_wp2
  go_ret2
  exact ⟨rfl, rfl⟩

set_option maxHeartbeats 1600000 in
set_option maxRecDepth 1000000 in
theorem getS_row (w : World) (b off cap : Nat) (l : List Int) (p : Nat) (hok : okB l) (hm : l.length ≤ maxLen) (hp : p < l.length)
    (hc : ∀ i, i < l.length → w.cell? ⟨b, off + i, none⟩ = some (.int .u8 (l.getD i 0))) :
    Calls Try.prog 87 #[.slice (some ⟨b, off, none⟩) l.length cap, .int .i64 p] w fun e w' => e = .returned (.tuple #[.int .i64 (getN l p).1, .int .i64 (getN l p).2]) ∧ w' = w := by
  unfold maxLen at hm
  generalize hn : l.length = n at *
  have HN := hide hn
  clear hn
  have hm' : (n : Int) ≤ 9223372036854775807 := by omega
  go_enter Try.func87, Try.ntmps87
  go_wp2
  go_loop [6, 7, 8] (fun a s i => ∃ (k : Nat) (acc : Int), k ≤ 5 ∧ a = .int .i64 acc ∧ s = .int .i64 (sc k) ∧ i = .int .i64 k ∧ 0 ≤ acc ∧ acc < sc k ∧ Hid (numGo (5 - k) (l.drop (p + k)) k acc = num (l.drop p))) (fun _ _ i => 5 - (intOf i).toNat)
  case atStart => exact ⟨0, 0, by omega, rfl, rfl, rfl, by omega, by decide, hide rfl⟩
  case round =>
    obtain ⟨k, acc, hk, rfl, rfl, rfl, ha0, ha1, HI⟩ := hrel
    by_cases h5 : k = 5
    · subst h5
      have hr := getN_none (unhide HI).symm
      have HR := hide hr
      clear hr HI hc
      go_wp2
      go_ret2
      exact ⟨by rw [unhide HR]; rfl, rfl⟩
    by_cases hl : p + k < n
    · obtain ⟨x, hx⟩ : ∃ x, x = l.getD (p + k) 0 := ⟨_, rfl⟩
      have hcx : w.cell? ⟨b, off + (p + k), none⟩ = some (.int .u8 x) := by rw [hx]; exact hc _ hl
      have hxb : 0 ≤ x ∧ x ≤ 255 := by rw [hx, List.getD_eq_getElem?_getD]; exact hok.at _
      obtain ⟨hx0, hx1⟩ := hxb
      have hd : l.drop (p + k) = x :: l.drop (p + (k + 1)) := by
        have hl' : p + k < l.length := by have := unhide HN; omega
        rw [hx, getD_at hl', List.drop_eq_getElem_cons hl']; rfl
      have hI := unhide HI
      rw [hd] at hI
      have hli5 : (k : Int) < 5 := by omega
      rw [show 5 - k = (5 - (k + 1)) + 1 by omega] at hI
      clear HI hc hx hd
      have hli : (k : Int) < (n : Int) - (p : Int) := by omega
      have hs := sc_le k
      have hss := sc_step k (by omega)
      obtain ⟨s, hse⟩ : ∃ s, s = sc k := ⟨_, rfl⟩
      rw [← hse] at hs hss ha1 ⊢
      obtain ⟨hs0, hs1⟩ := hs
      obtain ⟨hq0, hq1, hq2⟩ := part_le (x := x) hs0 hs1
      have HSS := hide hss
      clear hss
      by_cases hx2 : x < 128
      · by_cases hbad : (x = 0 ∧ 0 < k) ∨ 2147483647 < acc + x % 128 * s
        · have hR := getN_none (hI.symm.trans (numGo_bad hx2 (hse ▸ hbad)))
          have HR := hide hR
          clear hR hI hse
          by_cases hz : x = 0
          · by_cases hk0 : 0 < k
            · have hk0' : (0 : Int) < (k : Int) := by omega
              clear hbad
              subst hz
              go_wp2
              go_ret2
              exact ⟨by rw [unhide HR]; rfl, rfl⟩
            · have hk0' : decide ((0 : Int) < (k : Int)) = false := by simp; omega
              have hgt : 2147483647 < acc + x % 128 * s := by omega
              clear hbad
              have hz' : (x == 0) = true := by simp [hz]
              clear hz
              go_wp2
              go_ret2
              exact ⟨by rw [unhide HR]; rfl, rfl⟩
          · have hgt : 2147483647 < acc + x % 128 * s := by omega
            have hz' : (x == 0) = false := by simp [hz]
            clear hbad hz
            go_wp2
            go_ret2
            exact ⟨by rw [unhide HR]; rfl, rfl⟩
        · have hR := getN_some (hI.symm.trans (numGo_end hx2 (hse ▸ hbad)))
          rw [← hse] at hR
          have HR := hide hR
          clear hR hI hse
          have hle : acc + x % 128 * s ≤ 2147483647 := by omega
          by_cases hz : x = 0
          · have hz' : (x == 0) = true := by simp [hz]
            have hk0 : k = 0 := by omega
            clear hbad hz
            subst hk0
            have hcx0 : w.cell? ⟨b, off + p, none⟩ = some (.int .u8 x) := hcx
            clear hcx
            go_wp2
            go_ret2
            exact ⟨by rw [unhide HR]; exact tup2 (by simp), rfl⟩
          · have hz' : (x == 0) = false := by simp [hz]
            clear hbad hz
            go_wp2
            go_ret2
            exact ⟨by rw [unhide HR]; exact tup2 (by simp; omega), rfl⟩
      · have h128 : 128 ≤ x := by omega
        have hI2 := (hI.symm.trans (numGo_on hx2)).symm
        rw [← hse] at hI2
        have HI := hide hI2
        clear hI hI2 hse
        go_wp2
        go_round
        case rel => exact ⟨k + 1, acc + x % 128 * s, by omega, rfl, by rw [unhide HSS], by go_num, by omega, by rw [unhide HSS]; omega, HI⟩
        case measure => simp [intOf]; omega
    · have hr := unhide HI
      rw [List.drop_of_length_le (by have := unhide HN; omega), numGo_nil] at hr
      have HR := hide (getN_none hr.symm)
      clear hr HI hc
      go_wp2
      go_ret2
      exact ⟨by rw [unhide HR]; rfl, rfl⟩
/-- spec.GetNum, whatever it is asked. -/
theorem getS_any (w : World) (v : Value) (l : List Int) (p : Int) (h : Byt w v l) (hp : p ≤ 9223372036854775807) :
    Calls Try.prog 87 #[v, .int .i64 p] w fun e w' => e = .returned (.tuple #[.int .i64 (getN l p).1, .int .i64 (getN l p).2]) ∧ w' = w := by
  by_cases h0 : p < 0
  · obtain ⟨a, cap, rfl, _⟩ := h.shape
    rw [getN_neg h0]
    exact getS_neg w a _ cap p h0
  · obtain ⟨p, rfl⟩ := Int.eq_ofNat_of_zero_le (show 0 ≤ p by omega)
    by_cases h1 : l.length ≤ p
    · obtain ⟨a, cap, rfl, _⟩ := h.shape
      rw [getN_none (by rw [List.drop_of_length_le h1]; rfl)]
      exact getS_out w a _ cap p h1 h.2.1 hp
    · obtain ⟨hok, hm, ⟨rfl, rfl⟩ | ⟨x, cap, rfl, hc, rfl⟩ | ⟨b, off, cap, rfl, _, _, _, _, h5⟩⟩ := h
      · simp at h1
      · simp at h1
      · exact getS_row w b off cap l p hok hm (by omega) h5

end Go.Proofs.Ytcabolcfoijglaa

/- impl.endCode, impl.readNum and impl.GetNum, by their contracts: impl.GetNum answers what the plain function getN says. -/
namespace Go.Proofs.Ytcabolcfoijglaa
open Go.RowKit
set_option linter.unusedVariables false

theorem endCode_well (n size x : Int) (w : World) (h : ¬ ((1 < size ∧ x = 0) ∨ 2147483647 < n)) :
    Calls Try.prog 106 #[.int .i64 n, .int .i64 size, .int .u8 x] w fun e w' => e = .returned (.int .i64 0) ∧ w' = w := by
  have hn : n ≤ 2147483647 := by omega
  by_cases h1 : 1 < size
  · have hx : (x == 0) = false := by simp; omega
    go_enter Try.func106, Try.ntmps106
    go_wp2
    go_ret
    exact ⟨rfl, rfl⟩
  · have hx : decide (1 < size) = false := by simpa using h1
    go_enter Try.func106, Try.ntmps106
    go_wp2
    go_ret
    exact ⟨rfl, rfl⟩
theorem endCode_bad (n size x : Int) (w : World) (h : (1 < size ∧ x = 0) ∨ 2147483647 < n) :
    Calls Try.prog 106 #[.int .i64 n, .int .i64 size, .int .u8 x] w fun e w' => (∃ c, e = .returned (.int .i64 c) ∧ (c != 0) = true) ∧ w' = w := by
  by_cases h1 : 1 < size
  · by_cases h2 : x = 0
    · subst h2
      go_enter Try.func106, Try.ntmps106
      go_wp2
      go_ret
      exact ⟨⟨_, rfl, by decide⟩, rfl⟩
    · have hx : (x == 0) = false := by simpa using h2
      have hn : 2147483647 < n := by omega
      go_enter Try.func106, Try.ntmps106
      go_wp2
      go_ret
      exact ⟨⟨_, rfl, by decide⟩, rfl⟩
  · have hx : decide (1 < size) = false := by simpa using h1
    have hn : 2147483647 < n := by omega
    go_enter Try.func106, Try.ntmps106
    go_wp2
    go_ret
    exact ⟨⟨_, rfl, by decide⟩, rfl⟩

def readPost (l : List Int) (e : Ending) : Prop := match num l with
  | some (n, k) => e = .returned (.tuple #[.int .i64 n, .int .i64 (k : Int), .int .i64 0])
  | none => ∃ a b c, e = .returned (.tuple #[.int .i64 a, .int .i64 b, .int .i64 c]) ∧ (c != 0) = true
theorem readPost_none {l : List Int} (h : num l = none) (a b c : Int) (hc : (c != 0) = true) : readPost l (.returned (.tuple #[.int .i64 a, .int .i64 b, .int .i64 c])) := by
  unfold readPost; rw [h]; exact ⟨a, b, c, rfl, hc⟩
theorem readPost_some {l : List Int} {n : Int} {k : Nat} (h : num l = some (n, k)) : readPost l (.returned (.tuple #[.int .i64 n, .int .i64 (k : Int), .int .i64 0])) := by
  unfold readPost; rw [h]

set_option maxHeartbeats 1600000 in
set_option maxRecDepth 1000000 in
theorem readNum_row (w : World) (b off cap : Nat) (l : List Int) (hok : okB l) (hm : l.length ≤ maxLen)
    (hc : ∀ i, i < l.length → w.cell? ⟨b, off + i, none⟩ = some (.int .u8 (l.getD i 0))) :
    Calls Try.prog 102 #[.slice (some ⟨b, off, none⟩) l.length cap] w fun e w' => readPost l e ∧ w' = w := by
  unfold maxLen at hm
  generalize hn : l.length = n at *
  have HN := hide hn
  clear hn
  have hm' : (n : Int) ≤ 9223372036854775807 := by omega
  go_enter Try.func102, Try.ntmps102
  go_wp2
  go_loop [2, 9] (fun a i => ∃ (k : Nat) (acc : Int), k ≤ 5 ∧ k ≤ n ∧ a = .int .i64 acc ∧ i = .int .i64 k ∧ 0 ≤ acc ∧ acc < sc k ∧ Hid (numGo (5 - k) (l.drop k) k acc = num l)) (fun _ i => n - (intOf i).toNat)
  case atStart => exact ⟨0, 0, by omega, by omega, rfl, rfl, by omega, by decide, hide rfl⟩
  case round =>
    obtain ⟨k, acc, hk, hkn, rfl, rfl, ha0, ha1, HI⟩ := hrel
    by_cases hl : k < n
    · obtain ⟨x, hx⟩ : ∃ x, x = l.getD k 0 := ⟨_, rfl⟩
      have hcx : w.cell? ⟨b, off + k, none⟩ = some (.int .u8 x) := by rw [hx]; exact hc _ hl
      have hxb : 0 ≤ x ∧ x ≤ 255 := by rw [hx, List.getD_eq_getElem?_getD]; exact hok.at _
      obtain ⟨hx0, hx1⟩ := hxb
      have hd : l.drop k = x :: l.drop (k + 1) := by
        have hl' : k < l.length := by have := unhide HN; omega
        rw [hx, getD_at hl', List.drop_eq_getElem_cons hl']
      have hli : (k : Int) < (n : Int) := by omega
      by_cases h5 : k = 5
      · subst h5
        have HR := hide (unhide HI).symm
        clear HI hc hx hd
        go_wp2
        go_ret3
        exact ⟨readPost_none (unhide HR) _ _ _ rfl, rfl⟩
      have hk5 : ((k : Int) == 5) = false := by simp; omega
      have hI := unhide HI
      rw [hd, show 5 - k = (5 - (k + 1)) + 1 by omega] at hI
      clear HI hc hx hd
      by_cases hx2 : x < 128
      · by_cases hbad : (x = 0 ∧ 0 < k) ∨ 2147483647 < acc + x % 128 * sc k
        · have HR := hide (hI.symm.trans (numGo_bad hx2 hbad))
          clear hI
          have : k = 0 ∨ k = 1 ∨ k = 2 ∨ k = 3 ∨ k = 4 := by omega
          rcases this with rfl | rfl | rfl | rfl | rfl
          all_goals
            simp only [sc] at ha1 hbad
            try simp only [Nat.add_zero] at hcx
            have hb2 := hide hbad
            clear hbad
            go_wp2_with (go_at_call 106; refine (endCode_bad _ _ _ _ (by have := unhide hb2; omega)).mono ?_; rintro e w' ⟨⟨c, rfl, hc0⟩, rfl⟩)
            go_ret3
            exact ⟨readPost_none (unhide HR) _ _ _ hc0, rfl⟩
        · have HR := hide (hI.symm.trans (numGo_end hx2 hbad))
          clear hI
          have : k = 0 ∨ k = 1 ∨ k = 2 ∨ k = 3 ∨ k = 4 := by omega
          rcases this with rfl | rfl | rfl | rfl | rfl
          all_goals
            simp only [sc] at ha1 hbad
            try simp only [Nat.add_zero] at hcx
            have hb2 := hide hbad
            clear hbad
            go_wp2_with (go_at_call 106; refine (endCode_well _ _ _ _ (by have := unhide hb2; omega)).mono ?_; rintro e w' ⟨rfl, rfl⟩)
            go_ret3
            refine ⟨?_, rfl⟩
            have R := readPost_some (unhide HR)
            simp only [sc] at R
            simpa using R
      · have h128 : 128 ≤ x := by omega
        have HI := hide (hI.symm.trans (numGo_on hx2)).symm
        clear hI
        have : k = 0 ∨ k = 1 ∨ k = 2 ∨ k = 3 ∨ k = 4 := by omega
        rcases this with rfl | rfl | rfl | rfl | rfl
        all_goals
          simp only [sc] at ha1
          try simp only [Nat.add_zero] at hcx
          go_wp2
          go_round
          case measure => simp [intOf]; omega
        case rel => exact ⟨1, _, by omega, by omega, rfl, rfl, by omega, by simp only [sc]; omega, by simpa [sc] using HI⟩
        case rel => exact ⟨2, _, by omega, by omega, rfl, rfl, by omega, by simp only [sc]; omega, by simpa [sc] using HI⟩
        case rel => exact ⟨3, _, by omega, by omega, rfl, rfl, by omega, by simp only [sc]; omega, by simpa [sc] using HI⟩
        case rel => exact ⟨4, _, by omega, by omega, rfl, rfl, by omega, by simp only [sc]; omega, by simpa [sc] using HI⟩
        case rel => exact ⟨5, _, by omega, by omega, rfl, rfl, by omega, by simp only [sc]; omega, by simpa [sc] using HI⟩
    · have hr := unhide HI
      rw [List.drop_of_length_le (by have := unhide HN; omega), numGo_nil] at hr
      have HR := hide hr.symm
      clear hr HI hc
      go_wp2
      go_ret3
      exact ⟨readPost_none (unhide HR) _ _ _ rfl, rfl⟩
theorem readNum_nil (w : World) (a : Option Addr) (cap : Nat) :
    Calls Try.prog 102 #[.slice a 0 cap] w fun e w' => readPost [] e ∧ w' = w := by
  go_enter Try.func102, Try.ntmps102
  go_wp2
  refine wp_loop_rounds 1 ?_
  rw [rounds_succ]
  go_wp2
  go_ret3
  exact ⟨readPost_none rfl _ _ _ rfl, rfl⟩

theorem readNum_any (w : World) (v : Value) (l : List Int) (h : Byt w v l) :
    Calls Try.prog 102 #[v] w fun e w' => readPost l e ∧ w' = w := by
  obtain ⟨hok, hm, ⟨rfl, rfl⟩ | ⟨x, cap, rfl, hc, rfl⟩ | ⟨b, off, cap, rfl, _, _, _, _, h5⟩⟩ := h
  · exact readNum_nil w _ _
  · exact readNum_nil w _ _
  · exact readNum_row w b off cap l hok hm h5

/-- A slice cut from p on can be read: what is left of the bytes. -/
theorem Byt.cut {w : World} {b off cap p : Nat} {l : List Int} (hok : okB l) (hm : l.length ≤ maxLen) (hp : p ≤ l.length) (hlc : l.length ≤ cap) (hcm : cap ≤ maxLen) (hb : b < w.heap.size)
    (hc : ∀ i, i < l.length → w.cell? ⟨b, off + i, none⟩ = some (.int .u8 (l.getD i 0))) : Byt w (.slice (some ⟨b, off + p, none⟩) (l.length - p) (cap - p)) (l.drop p) := by
  have hl : (l.drop p).length = l.length - p := by simp
  refine ⟨hok.drop p, by omega, .inr ?_⟩
  by_cases h0 : l.drop p = []
  · refine .inl ⟨⟨b, off + p, none⟩, cap - p, ?_, by omega, h0⟩
    rw [h0] at hl
    rw [← hl]; rfl
  · refine .inr ⟨b, off + p, cap - p, by rw [hl], by omega, by omega, h0, hb, fun i hi => ?_⟩
    rw [Nat.add_assoc, hc (p + i) (by omega)]
    simp

set_option maxHeartbeats 1600000 in
theorem getI_neg (w : World) (a : Option Addr) (n cap : Nat) (p : Int) (hp : p < 0) :
    Calls Try.prog 97 #[.slice a n cap, .int .i64 p] w fun e w' => e = .returned (.tuple #[.int .i64 0, .int .i64 (-1)]) ∧ w' = w := by
  go_enter Try.func97, Try.ntmps97
  go_wp2
  go_ret2
  exact ⟨rfl, rfl⟩

theorem getI_out (w : World) (a : Option Addr) (n cap : Nat) (p : Nat) (hp : n < p) :
    Calls Try.prog 97 #[.slice a n cap, .int .i64 p] w fun e w' => e = .returned (.tuple #[.int .i64 0, .int .i64 (-1)]) ∧ w' = w := by
  have h0 : (0 : Int) ≤ (p : Int) := by omega
  have h1 : (n : Int) < (p : Int) := by omega
  go_enter Try.func97, Try.ntmps97
  go_wp2
  go_ret2
  exact ⟨rfl, rfl⟩

set_option maxHeartbeats 1600000 in
theorem getI_in (w : World) (a : Option Addr) (l : List Int) (cap : Nat) (p : Nat) (hm : l.length ≤ maxLen) (hp : p ≤ l.length) (hlc : l.length ≤ cap) (hcm : cap ≤ maxLen)
    (hcp : ¬ cap = p) (hcut : Byt w (.slice (a.map (fun x => x.add p)) (l.length - p) (cap - p)) (l.drop p)) :
    Calls Try.prog 97 #[.slice a l.length cap, .int .i64 p] w fun e w' => e = .returned (.tuple #[.int .i64 (getN l p).1, .int .i64 (getN l p).2]) ∧ w' = w := by
  have h0 : (0 : Int) ≤ (p : Int) := by omega
  have h1 : (p : Int) ≤ (l.length : Int) := by omega
  have hok := hcut.1
  unfold maxLen at hm hcm
  go_enter Try.func97, Try.ntmps97
  go_wp2_with fail
  refine (readNum_any _ _ (l.drop p) hcut).mono ?_
  rintro e w' ⟨hr, rfl⟩
  cases hq : num (l.drop p) with
  | none =>
    have HR := hide (getN_none hq)
    unfold readPost at hr
    rw [hq] at hr
    obtain ⟨x, y, c, rfl, hc0⟩ := hr
    clear hq hcut
    go_wp2
    go_ret2
    exact ⟨by rw [unhide HR]; rfl, rfl⟩
  | some y =>
    obtain ⟨n, k⟩ := y
    have hb := num_some hok hq
    have hkl : k ≤ l.length - p := by have := hb.2.2.2.2; simpa using this
    have HR := hide (getN_some hq)
    unfold readPost at hr
    rw [hq] at hr
    simp only at hr
    subst hr
    clear hq hcut hb
    go_wp2
    go_ret2
    exact ⟨by rw [unhide HR]; rfl, rfl⟩

set_option maxHeartbeats 1600000 in
theorem getI_end (w : World) (a : Option Addr) (p : Nat) (hm : p ≤ maxLen) :
    Calls Try.prog 97 #[.slice a p p, .int .i64 p] w fun e w' => e = .returned (.tuple #[.int .i64 0, .int .i64 (-1)]) ∧ w' = w := by
  have h0 : (0 : Int) ≤ (p : Int) := by omega
  unfold maxLen at hm
  go_enter Try.func97, Try.ntmps97
  go_wp2_with fail
  refine (readNum_nil _ _ _).mono ?_
  rintro e w' ⟨hr, rfl⟩
  unfold readPost at hr
  rw [show num [] = none from rfl] at hr
  obtain ⟨x, y, c, rfl, hc0⟩ := hr
  go_wp2
  go_ret2
  exact ⟨rfl, rfl⟩

/-- impl.GetNum, whatever it is asked. -/
theorem getI_any (w : World) (v : Value) (l : List Int) (p : Int) (h : Byt w v l) :
    Calls Try.prog 97 #[v, .int .i64 p] w fun e w' => e = .returned (.tuple #[.int .i64 (getN l p).1, .int .i64 (getN l p).2]) ∧ w' = w := by
  by_cases h0 : p < 0
  · obtain ⟨a, cap, rfl, _⟩ := h.shape
    rw [getN_neg h0]
    exact getI_neg w a _ cap p h0
  · obtain ⟨p, rfl⟩ := Int.eq_ofNat_of_zero_le (show 0 ≤ p by omega)
    by_cases h1 : l.length < p
    · obtain ⟨a, cap, rfl, _⟩ := h.shape
      rw [getN_none (by rw [List.drop_of_length_le (by omega)]; rfl)]
      exact getI_out w a _ cap p h1
    · have hm := h.2.1
      obtain ⟨a, cap, hv, hlc, hcm⟩ := h.shape
      by_cases hcp : cap = p
      · have hl : l.length = p := by omega
        rw [getN_none (by rw [List.drop_of_length_le (by omega)]; rfl), hv, hcp, hl]
        exact getI_end w a p (by omega)
      · rw [hv]
        refine getI_in w a l cap p hm (by omega) hlc hcm hcp ?_
        obtain ⟨hok, _, ⟨rfl, rfl⟩ | ⟨x, cap', rfl, hc, rfl⟩ | ⟨b, off, cap', rfl, g1, g2, _, hb, h5⟩⟩ := h
        · simp at hv hcp h1; omega
        · simp at hv
          obtain ⟨rfl, rfl⟩ := hv
          refine ⟨by simpa using okB_nil, by simp [maxLen], .inr (.inl ⟨x.add p, cap' - p, ?_, by omega, by simp⟩)⟩
          simp
        · simp at hv
          obtain ⟨rfl, rfl⟩ := hv
          have hcut := Byt.cut (p := p) hok hm (by omega) hlc hcm hb h5
          rw [Option.map_some, add_plain]
          exact hcut

end Go.Proofs.Ytcabolcfoijglaa

/- spec.GetText and impl.GetText answer what the plain function getT says. -/
namespace Go.Proofs.Ytcabolcfoijglaa
open Go.RowKit
set_option linter.unusedVariables false

set_option maxHeartbeats 1600000 in
theorem getTS_out (w : World) (v : Value) (l : List Int) (p : Int) (h : Byt w v l) (hp : p ≤ 9223372036854775807) (ho : (getN l p).2 < 0 ∨ 30 < (getN l p).1 ∨ (l.length : Int) - (getN l p).2 < (getN l p).1) (hr : -1 ≤ (getN l p).2 ∧ (getN l p).2 ≤ 9223372036854775807) :
    Calls Try.prog 88 #[v, .int .i64 p] w fun e w' => e = .returned (.tuple #[.slice none 0 0, .int .i64 (-1)]) ∧ w' = w := by
  obtain ⟨a, cap, rfl, hlc, hcm⟩ := h.shape
  have hm := h.2.1
  unfold maxLen at hm
  go_enter Try.func88, Try.ntmps88
  go_wp2_with fail
  refine (getS_any w _ l p h hp).mono ?_
  rintro e w1 ⟨rfl, rfl⟩
  generalize (getN l p).1 = n at *
  generalize (getN l p).2 = k at *
  obtain ⟨hk0, hk1⟩ := hr
  by_cases h1 : k < 0
  · clear ho
    go_wp2
    go_ret2
    exact ⟨rfl, rfl⟩
  · have h1' : decide (k < 0) = false := by simpa using h1
    by_cases h2 : 30 < n
    · clear ho
      go_wp2
      go_ret2
      exact ⟨rfl, rfl⟩
    · have h2' : decide (30 < n) = false := by simpa using h2
      have h3 : (l.length : Int) - k < n := by omega
      clear ho
      go_wp2
      go_ret2
      exact ⟨rfl, rfl⟩

set_option maxHeartbeats 1600000 in
theorem getTS_in (w : World) (b off cap : Nat) (l : List Int) (p : Int) (n k : Nat) (hok : okB l) (hm : l.length ≤ maxLen) (hlc : l.length ≤ cap) (hcm : cap ≤ maxLen) (h : Byt w (.slice (some ⟨b, off, none⟩) l.length cap) l) (hb : b < w.heap.size)
    (hc : ∀ i, i < l.length → w.cell? ⟨b, off + i, none⟩ = some (.int .u8 (l.getD i 0)))
    (hp : p ≤ 9223372036854775807) (e : getN l p = ((n : Int), (k : Int))) (h1 : n ≤ 30) (h2 : k + n ≤ l.length) :
    Calls Try.prog 88 #[.slice (some ⟨b, off, none⟩) l.length cap, .int .i64 p] w fun e w' => ∃ v', e = .returned (.tuple #[v', .int .i64 ((k : Int) + (n : Int))]) ∧ Own w' w.heap.size v' ((l.drop k).take n) ∧ Below w.heap.size w w' := by
  have hm' := hm
  have hcm' := hcm
  unfold maxLen at hm' hcm'
  have HE := hide e
  clear e
  by_cases hck : cap = k
  · obtain rfl : n = 0 := by omega
    have hlk : l.length = k := by omega
    have HCK := hide hck
    have HLK := hide hlk
    clear hck hlk
    go_enter Try.func88, Try.ntmps88
    go_wp2_with fail
    refine (getS_any w _ l p h hp).mono ?_
    rintro e w1 ⟨rfl, rfl⟩
    rw [unhide HE]
    have a1 : ¬ (k : Int) < 0 := by omega
    have a2 : ¬ (30 : Int) < ((0 : Nat) : Int) := by omega
    have a3 : ¬ (l.length : Int) - (k : Int) < ((0 : Nat) : Int) := by omega
    have hck := unhide HCK
    clear hc
    go_wp2
    go_ret2
    exact ⟨.slice (some ⟨w1.heap.size, 0, none⟩) 0 0, by simp, by simpa using own_none w1, (Below.refl _ _).alloc (Nat.le_refl _) _⟩
  · have hcut := (Byt.cut2 hok hm h2 hlc hcm hb hc)
    have hml : ((l.drop k).take n).length = n := by simp; omega
    go_enter Try.func88, Try.ntmps88
    go_wp2_with fail
    refine (getS_any w _ l p h hp).mono ?_
    rintro e w1 ⟨rfl, rfl⟩
    rw [unhide HE]
    have a1 : ¬ (k : Int) < 0 := by omega
    have a2 : ¬ (30 : Int) < (n : Int) := by omega
    have a3 : ¬ (l.length : Int) - (k : Int) < (n : Int) := by omega
    generalize hmm : (l.drop k).take n = m at *
    have HM := hide hmm
    have HML := hide hml
    clear hc hmm hml
    go_wp2_with (at_builtin; refine wpList_app rfl _ _ rfl w1.heap.size _ [] rfl (own_none w1) (.slice (some ⟨b, off + k, none⟩) n (cap - k)) m ?hx (hcut.alloc _) ?c1 ?c2 ?_)
    case hx => show Value.slice (some ⟨b, off + k, none⟩) (k + n - k) (cap - k) = _; rw [Nat.add_sub_cancel_left]
    case c1 => have := unhide HML; first | omega | (simp; omega)
    case c2 => simp
    intro v1 w2 ho1 hg1
    have hB1 : Below w1.heap.size w1 w2 := bstepBy ((Below.refl _ _).alloc (Nat.le_refl _) _) hg1 (fun g hg => by simp [Value.ownBlock] at hg; omega)
    clear hg1
    go_wp2
    go_ret2
    exact ⟨_, rfl, by rw [unhide HM]; exact ho1, hB1⟩

/-- spec.GetText, whatever it is asked. -/
theorem getTS_any (w : World) (v : Value) (l : List Int) (p : Int) (h : Byt w v l) (hp : p ≤ 9223372036854775807) :
    Calls Try.prog 88 #[v, .int .i64 p] w fun e w' => ∃ v', e = .returned (.tuple #[v', .int .i64 (getT l p).2]) ∧ Own w' w.heap.size v' (getT l p).1 ∧ Below w.heap.size w w' := by
  have hm := h.2.1
  have hm' := hm
  unfold maxLen at hm'
  have hcs := getN_cases h.1 p
  by_cases ho : (getN l p).2 < 0 ∨ 30 < (getN l p).1 ∨ (l.length : Int) - (getN l p).2 < (getN l p).1
  · rw [getT_out ho]
    refine (getTS_out w v l p h hp ho ?_).mono ?_
    · rcases hcs with e | ⟨n, k, e, _, _, h3⟩ <;> rw [e] <;> simp only <;> omega
    · rintro e w' ⟨rfl, rfl⟩
      exact ⟨_, rfl, ⟨okB_nil, World.ownsRow_nil _ _ _ _⟩, Below.refl _ _⟩
  · rcases hcs with e | ⟨n, k, e, h1, h2, h3⟩
    · rw [e] at ho; simp at ho
    · rw [e] at ho
      simp only at ho
      rw [getT_in e (by omega) (by omega)]
      have h' := h
      obtain ⟨hok, _, ⟨rfl, rfl⟩ | ⟨x, cap, rfl, hc, rfl⟩ | ⟨b, off, cap, rfl, g1, g2, g3, g4, g5⟩⟩ := h'
      · simp at h3; omega
      · simp at h3; omega
      · exact getTS_in w b off cap l p n k hok hm g1 g2 h g4 g5 hp e (by omega) (by omega)

set_option maxHeartbeats 1600000 in
theorem getTI_out (w : World) (v : Value) (l : List Int) (p : Int) (h : Byt w v l) (ho : (getN l p).2 < 0 ∨ 30 < (getN l p).1 ∨ (l.length : Int) - (getN l p).2 < (getN l p).1) (hr : -1 ≤ (getN l p).2 ∧ (getN l p).2 ≤ 9223372036854775807) :
    Calls Try.prog 98 #[v, .int .i64 p] w fun e w' => e = .returned (.tuple #[.slice none 0 0, .int .i64 (-1)]) ∧ w' = w := by
  obtain ⟨a, cap, rfl, hlc, hcm⟩ := h.shape
  have hm := h.2.1
  unfold maxLen at hm
  go_enter Try.func98, Try.ntmps98
  go_wp2_with fail
  refine (getI_any w _ l p h).mono ?_
  rintro e w1 ⟨rfl, rfl⟩
  generalize (getN l p).1 = n at *
  generalize (getN l p).2 = k at *
  obtain ⟨hk0, hk1⟩ := hr
  by_cases h1 : k < 0
  · clear ho
    go_wp2
    go_ret2
    exact ⟨rfl, rfl⟩
  · have h1' : decide (k < 0) = false := by simpa using h1
    by_cases h2 : 30 < n
    · clear ho
      go_wp2
      go_ret2
      exact ⟨rfl, rfl⟩
    · have h2' : decide (30 < n) = false := by simpa using h2
      have h3 : (l.length : Int) - k < n := by omega
      clear ho
      go_wp2
      go_ret2
      exact ⟨rfl, rfl⟩

set_option maxHeartbeats 1600000 in
theorem getTI_in (w : World) (b off cap : Nat) (l : List Int) (p : Int) (n k : Nat) (hok : okB l) (hm : l.length ≤ maxLen) (hlc : l.length ≤ cap) (hcm : cap ≤ maxLen) (h : Byt w (.slice (some ⟨b, off, none⟩) l.length cap) l) (hb : b < w.heap.size)
    (hc : ∀ i, i < l.length → w.cell? ⟨b, off + i, none⟩ = some (.int .u8 (l.getD i 0)))
    (e : getN l p = ((n : Int), (k : Int))) (h1 : n ≤ 30) (h2 : k + n ≤ l.length) :
    Calls Try.prog 98 #[.slice (some ⟨b, off, none⟩) l.length cap, .int .i64 p] w fun e w' => ∃ v', e = .returned (.tuple #[v', .int .i64 ((k : Int) + (n : Int))]) ∧ Own w' w.heap.size v' ((l.drop k).take n) ∧ Below w.heap.size w w' := by
  have hm' := hm
  have hcm' := hcm
  unfold maxLen at hm' hcm'
  have HE := hide e
  clear e
  have hml : ((l.drop k).take n).length = n := by simp; omega
  obtain ⟨cv, hcv⟩ : ∃ cv, cv = (if cap = k then Value.slice (some ⟨b, off, none⟩) n 0 else .slice (some ⟨b, off + k, none⟩) n (cap - k)) := ⟨_, rfl⟩
  have hcut : Byt w cv ((l.drop k).take n) := by
    rw [hcv]
    split
    · obtain rfl : n = 0 := by omega
      exact ⟨by simpa using okB_nil, by simp [maxLen], .inr (.inl ⟨_, 0, rfl, by simp [maxLen], by simp⟩)⟩
    · exact Byt.cut2 hok hm h2 hlc hcm hb hc
  have hcat := concat_any (w.alloc (.cells #[cv] 22)) w.heap.size 0 1 1 [cv] [(l.drop k).take n] rfl (by omega) (by simp) (fun i hi => by obtain rfl : i = 0 := (by omega); simp) (fun i hi => by obtain rfl : i = 0 := (by omega); exact hcut.alloc _) (by simp only [sumLen, List.map_cons, List.map_nil, List.sum_cons, List.sum_nil]; omega)
  by_cases hck : cap = k
  · rw [if_pos hck] at hcv
    have HCK := hide hck
    clear hck
    subst hcv
    go_enter Try.func98, Try.ntmps98
    go_wp2_with fail
    refine (getI_any w _ l p h).mono ?_
    rintro e w1 ⟨rfl, rfl⟩
    rw [unhide HE]
    have a1 : ¬ (k : Int) < 0 := by omega
    have a2 : ¬ (30 : Int) < (n : Int) := by omega
    have a3 : ¬ (l.length : Int) - (k : Int) < (n : Int) := by omega
    have hck := unhide HCK
    clear hc
    have hml' := hide hml
    clear hml
    go_wp2_with fail
    refine hcat.mono ?_
    rintro e w2 ⟨v1, rfl, ho1, hB1⟩
    have hb1 : Below w1.heap.size w1 w2 := bstep ((Below.refl _ _).alloc (Nat.le_refl _) _) hB1
    have ho2 : Own w2 w1.heap.size v1 ((l.drop k).take n) := by simpa using ho1.mono (by simp)
    have HO := hide ho2
    clear hB1 hcat ho1 ho2 hcut
    go_wp2
    go_ret2
    exact ⟨_, rfl, unhide HO, hb1⟩
  · rw [if_neg hck] at hcv
    subst hcv
    go_enter Try.func98, Try.ntmps98
    go_wp2_with fail
    refine (getI_any w _ l p h).mono ?_
    rintro e w1 ⟨rfl, rfl⟩
    rw [unhide HE]
    have a1 : ¬ (k : Int) < 0 := by omega
    have a2 : ¬ (30 : Int) < (n : Int) := by omega
    have a3 : ¬ (l.length : Int) - (k : Int) < (n : Int) := by omega
    clear hc
    have hml' := hide hml
    clear hml
    go_wp2_with fail
    refine hcat.mono ?_
    rintro e w2 ⟨v1, rfl, ho1, hB1⟩
    have hb1 : Below w1.heap.size w1 w2 := bstep ((Below.refl _ _).alloc (Nat.le_refl _) _) hB1
    have ho2 : Own w2 w1.heap.size v1 ((l.drop k).take n) := by simpa using ho1.mono (by simp)
    have HO := hide ho2
    clear hB1 hcat ho1 ho2 hcut
    go_wp2
    go_ret2
    exact ⟨_, rfl, unhide HO, hb1⟩

/-- impl.GetText, whatever it is asked. -/
theorem getTI_any (w : World) (v : Value) (l : List Int) (p : Int) (h : Byt w v l) :
    Calls Try.prog 98 #[v, .int .i64 p] w fun e w' => ∃ v', e = .returned (.tuple #[v', .int .i64 (getT l p).2]) ∧ Own w' w.heap.size v' (getT l p).1 ∧ Below w.heap.size w w' := by
  have hm := h.2.1
  have hm' := hm
  unfold maxLen at hm'
  have hcs := getN_cases h.1 p
  by_cases ho : (getN l p).2 < 0 ∨ 30 < (getN l p).1 ∨ (l.length : Int) - (getN l p).2 < (getN l p).1
  · rw [getT_out ho]
    refine (getTI_out w v l p h ho ?_).mono ?_
    · rcases hcs with e | ⟨n, k, e, _, _, h3⟩ <;> rw [e] <;> simp only <;> omega
    · rintro e w' ⟨rfl, rfl⟩
      exact ⟨_, rfl, ⟨okB_nil, World.ownsRow_nil _ _ _ _⟩, Below.refl _ _⟩
  · rcases hcs with e | ⟨n, k, e, h1, h2, h3⟩
    · rw [e] at ho; simp at ho
    · rw [e] at ho
      simp only at ho
      rw [getT_in e (by omega) (by omega)]
      have h' := h
      obtain ⟨hok, _, ⟨rfl, rfl⟩ | ⟨x, cap, rfl, hc, rfl⟩ | ⟨b, off, cap, rfl, g1, g2, g3, g4, g5⟩⟩ := h'
      · simp at h3; omega
      · simp at h3; omega
      · exact getTI_in w b off cap l p n k hok hm g1 g2 h g4 g5 e (by omega) (by omega)

end Go.Proofs.Ytcabolcfoijglaa

/- spec's cursor over the bytes of an operation: a number, a text, an id. -/
namespace Go.Proofs.Ytcabolcfoijglaa
open Go.RowKit
set_option linter.unusedVariables false
set_option maxRecDepth 100000

theorem setG (w : World) (g j : Nat) (v : Value) : w.grownBy (w.setCell ⟨g, j, none⟩ v) (some g) :=
  ⟨rfl, rfl, rfl, by simp, fun k _ hk => heap_setCell_other w ⟨g, j, none⟩ k v (fun e => hk (by simp [e]))⟩
/-- A reader in the block g, whose bytes are l, at the place p. -/
structure Rd (T : TypeId) (w0 w : World) (g : Nat) (code : Value) (l : List Int) (p : Int) : Prop where
  bytes : Byt w0 code l
  below : Below w0.heap.size w0 w
  new : w0.heap.size ≤ g
  box : Loc w g #[code, .int .i64 p] T
  lo : -1 ≤ p
  hi : p ≤ l.length
theorem Rd.keep {T : TypeId} {w0 w w' : World} {g : Nat} {code : Value} {l : List Int} {p : Int} (h : Rd T w0 w g code l p) (hB : Below w.heap.size w w') : Rd T w0 w' g code l p :=
  ⟨h.bytes, bstep h.below hB, h.new, h.box.all hB, h.lo, h.hi⟩
/-- The place turned. -/
theorem Rd.turn {T : TypeId} {w0 w : World} {g : Nat} {code : Value} {l : List Int} {p : Int} (h : Rd T w0 w g code l p) (q : Int) (h0 : -1 ≤ q) (h1 : q ≤ l.length) : Rd T w0 (w.setCell ⟨g, 1, none⟩ (.int .i64 q)) g code l q :=
  ⟨h.bytes, bstepBy h.below (setG w g 1 _) (fun k hk => by cases hk; exact h.new), h.new, h.box.set 1 _, h0, h1⟩
theorem getN_rng {l : List Int} (hok : okB l) (p : Int) : -1 ≤ (getN l p).2 ∧ (getN l p).2 ≤ l.length ∧ 0 ≤ (getN l p).1 ∧ (getN l p).1 ≤ 2147483647 := by
  rcases getN_cases hok p with e | ⟨n, k, e, h1, h2, h3⟩
  · rw [e]; simp
  · rw [e]; simp only; omega
theorem getT_rng {l : List Int} (hok : okB l) (p : Int) : -1 ≤ (getT l p).2 ∧ (getT l p).2 ≤ l.length ∧ (getT l p).1.length ≤ 30 := by
  unfold getT
  have h := getN_rng hok p
  split
  · simp
  · rename_i hc
    simp only [List.length_take, List.length_drop]
    omega

set_option maxHeartbeats 3200000 in
theorem l4get_any (w0 w : World) (g : Nat) (code : Value) (l : List Int) (p : Int) (h : Rd 72 w0 w g code l p) :
    Calls Try.prog 52 #[.pointer (some ⟨g, 0, none⟩)] w fun e w' => e = .returned (.int .i64 (getN l p).1) ∧ Rd 72 w0 w' g code l (getN l p).2 ∧ w.grownBy w' (some g) := by
  have hok := h.bytes.1
  have hr := getN_rng hok p
  have hl := h.bytes.2.1
  unfold maxLen at hl
  have x0 := h.box.cell 0
  have x1 := h.box.cell 1
  have f1 := h.box.frozen 1
  have HB := hide h.bytes
  have HR := hide h
  have hlo := h.lo
  obtain ⟨a, c, rfl, _, _⟩ := h.bytes.shape
  clear h
  by_cases hp : p < 0
  · have e : p = -1 := by omega
    subst e
    have HE := hide (show getN l (-1) = (0, -1) from getN_neg (by decide))
    rw [unhide HE]
    clear HE hr
    go_enter Try.func52, Try.ntmps52
    go_wp2_with fail
    go_ret
    exact ⟨rfl, unhide HR, World.grownBy.refl _ _⟩
  · have HG := hide (fun (W : World) (hW : Byt W (.slice a l.length c) l) => getS_any W _ l p hW (by have := (unhide HR).hi; omega))
    generalize getN l p = q at *
    obtain ⟨n, q⟩ := q
    simp only at *
    have HQ := hide (((unhide HR).keep ((Below.refl _ _).drew)).turn q hr.1 hr.2.1)
    have HW := hide (grown_trans (Below.toGrown ((Below.refl w.heap.size w).drew) (some g)) (setG w.drew g 1 (.int .i64 q)))
    clear hr hok
    go_enter Try.func52, Try.ntmps52
    go_wp2_with fail
    go_region_held3 (fun w' => w'.cell? ⟨g, 0, none⟩ = some (.slice a l.length c) ∧ w'.cell? ⟨g, 1, none⟩ = some (.int .i64 p) ∧ w'.frozen? ⟨g, 1, none⟩ = false)
      (first | exact ⟨by assumption, by assumption, by assumption⟩ | go_keep)
      (first
        | (go_at_call 87; refine (unhide HG _ ((unhide HB).keep (by exact ((unhide HR).below).drew))).mono ?_; clear HG; rintro e w1 ⟨rfl, ew⟩; obtain rfl := ew))
    all_goals
      go_wp2_with fail
      go_ret
      exact ⟨rfl, unhide HQ, unhide HW⟩

set_option maxHeartbeats 3200000 in
theorem l4text_any (w0 w : World) (g : Nat) (code : Value) (l : List Int) (p : Int) (h : Rd 72 w0 w g code l p) :
    Calls Try.prog 55 #[.pointer (some ⟨g, 0, none⟩)] w fun e w' => ∃ a c, e = .returned (.slice a (getT l p).1.length c) ∧ Own w' w.heap.size (.slice a (getT l p).1.length c) (getT l p).1 ∧ Rd 72 w0 w' g code l (getT l p).2 ∧ w.grownBy w' (some g) := by
  have hok := h.bytes.1
  have hr := getT_rng hok p
  have hl := h.bytes.2.1
  unfold maxLen at hl
  have x0 := h.box.cell 0
  have x1 := h.box.cell 1
  have f1 := h.box.frozen 1
  have HB := hide h.bytes
  have HR := hide h
  have hlo := h.lo
  obtain ⟨a, c, rfl, _, _⟩ := h.bytes.shape
  clear h
  by_cases hp : p < 0
  · have e : p = -1 := by omega
    subst e
    have HE := hide (show getT l (-1) = ([], -1) from getT_out (by rw [getN_neg (by decide)]; simp))
    rw [unhide HE]
    clear HE hr
    go_enter Try.func55, Try.ntmps55
    go_wp2_with fail
    go_ret
    exact ⟨none, 0, rfl, ⟨okB_nil, rfl, .inl ⟨rfl, rfl⟩⟩, unhide HR, World.grownBy.refl _ _⟩
  · have HG := hide (fun (W : World) (hW : Byt W (.slice a l.length c) l) => getTS_any W _ l p hW (by have := (unhide HR).hi; omega))
    generalize getT l p = q at *
    obtain ⟨t, q⟩ := q
    simp only at *
    have HH := hide hr
    clear hr hok
    go_enter Try.func55, Try.ntmps55
    go_wp2_with fail
    go_region_held3 (fun w' => w'.cell? ⟨g, 0, none⟩ = some (.slice a l.length c) ∧ w'.cell? ⟨g, 1, none⟩ = some (.int .i64 p) ∧ w'.frozen? ⟨g, 1, none⟩ = false)
      (first | exact ⟨by assumption, by assumption, by assumption⟩ | go_keep)
      (first
        | (go_at_call 88; refine (unhide HG _ ((unhide HB).keep (by exact ((unhide HR).below).drew))).mono ?_; clear HG; rintro e w1 ⟨v1, rfl, ho1, hB1⟩; have hD1 := bstep ((Below.refl w.heap.size w).drew) hB1; have x0 := ((unhide HR).box.all hD1).cell 0; have x1 := ((unhide HR).box.all hD1).cell 1; have f1 := ((unhide HR).box.all hD1).frozen 1))
    all_goals
      obtain ⟨a1, c1, rfl, _, _⟩ := ho1.byt.shape
      have hR1 := (unhide HR).keep hD1
      have HQ := hide (hR1.turn q (unhide HH).1 (unhide HH).2.1)
      have HW := hide (grown_trans (Below.toGrown hD1 (some g)) (setG w1 g 1 (.int .i64 q)))
      have HO := hide ((ho1.mono (base' := w.heap.size) (Nat.le_refl _)).keepBy (setG w1 g 1 (.int .i64 q)) (.inr (fun e => by have := (ho1.lt g e).1; have := (unhide HR).box.lt; simp at *; omega)))
      clear hR1 hB1 hD1 ho1
      go_wp2_with fail
      go_ret
      exact ⟨a1, c1, rfl, unhide HO, unhide HQ, unhide HW⟩
end Go.Proofs.Ytcabolcfoijglaa

/- impl's reader over the bytes of an operation: a number, a text. -/
namespace Go.Proofs.Ytcabolcfoijglaa
open Go.RowKit
set_option linter.unusedVariables false
set_option maxRecDepth 100000

set_option maxHeartbeats 3200000 in
theorem rnum_any (w0 w : World) (g : Nat) (code : Value) (l : List Int) (p : Int) (h : Rd 65 w0 w g code l p) :
    Calls Try.prog 74 #[.pointer (some ⟨g, 0, none⟩)] w fun e w' => e = .returned (.int .i64 (getN l p).1) ∧ Rd 65 w0 w' g code l (getN l p).2 ∧ w.grownBy w' (some g) := by
  have hok := h.bytes.1
  have hr := getN_rng hok p
  have hl := h.bytes.2.1
  unfold maxLen at hl
  have x0 := h.box.cell 0
  have x1 := h.box.cell 1
  have f1 := h.box.frozen 1
  have HB := hide h.bytes
  have HR := hide h
  have hlo := h.lo
  obtain ⟨a, c, rfl, _, _⟩ := h.bytes.shape
  clear h
  have HG := hide (fun (W : World) (hW : Byt W (.slice a l.length c) l) => getI_any W _ l p hW)
  generalize getN l p = q at *
  obtain ⟨n, q⟩ := q
  simp only at *
  have HQ := hide (((unhide HR).keep ((Below.refl _ _).drew)).turn q hr.1 hr.2.1)
  have HW := hide (grown_trans (Below.toGrown ((Below.refl w.heap.size w).drew) (some g)) (setG w.drew g 1 (.int .i64 q)))
  clear hr hok
  go_enter Try.func74, Try.ntmps74
  go_wp2_with fail
  go_region_held3 (fun w' => w'.cell? ⟨g, 0, none⟩ = some (.slice a l.length c) ∧ w'.cell? ⟨g, 1, none⟩ = some (.int .i64 p) ∧ w'.frozen? ⟨g, 1, none⟩ = false)
    (first | exact ⟨by assumption, by assumption, by assumption⟩ | go_keep)
    (first
      | (go_at_call 97; refine (unhide HG _ ((unhide HB).keep (by exact ((unhide HR).below).drew))).mono ?_; clear HG; rintro e w1 ⟨rfl, ew⟩; obtain rfl := ew))
  all_goals
    go_wp2_with fail
    go_ret
    exact ⟨rfl, unhide HQ, unhide HW⟩

set_option maxHeartbeats 3200000 in
theorem rtext_any (w0 w : World) (g : Nat) (code : Value) (l : List Int) (p : Int) (h : Rd 65 w0 w g code l p) :
    Calls Try.prog 77 #[.pointer (some ⟨g, 0, none⟩)] w fun e w' => ∃ a c, e = .returned (.slice a (getT l p).1.length c) ∧ Own w' w.heap.size (.slice a (getT l p).1.length c) (getT l p).1 ∧ Rd 65 w0 w' g code l (getT l p).2 ∧ w.grownBy w' (some g) := by
  have hok := h.bytes.1
  have hr := getT_rng hok p
  have hl := h.bytes.2.1
  unfold maxLen at hl
  have x0 := h.box.cell 0
  have x1 := h.box.cell 1
  have f1 := h.box.frozen 1
  have HB := hide h.bytes
  have HR := hide h
  have hlo := h.lo
  obtain ⟨a, c, rfl, _, _⟩ := h.bytes.shape
  clear h
  have HG := hide (fun (W : World) (hW : Byt W (.slice a l.length c) l) => getTI_any W _ l p hW)
  generalize getT l p = q at *
  obtain ⟨t, q⟩ := q
  simp only at *
  have HH := hide hr
  clear hr hok
  go_enter Try.func77, Try.ntmps77
  go_wp2_with fail
  go_region_held3 (fun w' => w'.cell? ⟨g, 0, none⟩ = some (.slice a l.length c) ∧ w'.cell? ⟨g, 1, none⟩ = some (.int .i64 p) ∧ w'.frozen? ⟨g, 1, none⟩ = false)
    (first | exact ⟨by assumption, by assumption, by assumption⟩ | go_keep)
    (first
      | (go_at_call 98; refine (unhide HG _ ((unhide HB).keep (by exact ((unhide HR).below).drew))).mono ?_; clear HG; rintro e w1 ⟨v1, rfl, ho1, hB1⟩; have hD1 := bstep ((Below.refl w.heap.size w).drew) hB1; have x0 := ((unhide HR).box.all hD1).cell 0; have x1 := ((unhide HR).box.all hD1).cell 1; have f1 := ((unhide HR).box.all hD1).frozen 1))
  all_goals
    obtain ⟨a1, c1, rfl, _, _⟩ := ho1.byt.shape
    have hR1 := (unhide HR).keep hD1
    have HQ := hide (hR1.turn q (unhide HH).1 (unhide HH).2.1)
    have HW := hide (grown_trans (Below.toGrown hD1 (some g)) (setG w1 g 1 (.int .i64 q)))
    have HO := hide ((ho1.mono (base' := w.heap.size) (Nat.le_refl _)).keepBy (setG w1 g 1 (.int .i64 q)) (.inr (fun e => by have := (ho1.lt g e).1; have := (unhide HR).box.lt; simp at *; omega)))
    clear hR1 hB1 hD1 ho1
    go_wp2_with fail
    go_ret
    exact ⟨a1, c1, rfl, unhide HO, unhide HQ, unhide HW⟩
end Go.Proofs.Ytcabolcfoijglaa
