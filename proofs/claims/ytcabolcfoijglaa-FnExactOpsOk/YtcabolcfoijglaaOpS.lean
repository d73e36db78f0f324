/- spec.OpOk answers what the plain test says. -/
import Derived.Test.YtcabolcfoijglaaKeyS
import Derived.Test.YtcabolcfoijglaaIdS
namespace Go.Proofs.Ytcabolcfoijglaa
open Go.RowKit
set_option linter.unusedVariables false

/-- An operation's parts, read. -/
structure OpV where
  kind : Int
  atN : Int
  atR : Int
  nodeN : Int
  nodeR : Int
  parN : Int
  parR : Int
  key : List Int
  elem : Int
  name : List Int
  text : List Int
  gone : Bool

/-- The value of an operation whose rows are k, n, t. -/
def opVal (o : OpV) (k n t : Value) : Value := .agg #[.int .i64 o.kind, .int .i64 o.atN, .int .i64 o.atR, .int .i64 o.nodeN, .int .i64 o.nodeR, .int .i64 o.parN, .int .i64 o.parR, k, .int .i64 o.elem, n, t, .bool o.gone]
/-- It can be read. -/
def RdOp (w : World) (v : Value) (o : OpV) : Prop := ∃ k n t, v = opVal o k n t ∧ Ints w k o.key ∧ Byt w n o.name ∧ Byt w t o.text

def opNewB (o : OpV) : Bool := if !zeroB o.nodeN o.nodeR || (!idB o.parN o.parR || (!keyB o.key || o.gone)) then false else if o.elem == 1 then (o.name.length : Int) == 0 else o.elem == 0 && (nameB o.name && (o.text.length : Int) == 0)
def opMoveB (o : OpV) : Bool := idB o.nodeN o.nodeR && (idB o.parN o.parR && (keyB o.key && (o.elem == 0 && ((o.name.length : Int) == 0 && ((o.text.length : Int) == 0 && !o.gone)))))
def opRestB (o : OpV) : Bool := if !idB o.nodeN o.nodeR || (!zeroB o.parN o.parR || (decide (0 < (o.key.length : Int)) || !(o.elem == 0))) then false else if o.kind == 2 then (o.name.length : Int) == 0 && !o.gone else nameB o.name && (!o.gone || (o.text.length : Int) == 0)
def opHeadB (o : OpV) : Bool := decide (o.kind < 0) || (decide (3 < o.kind) || (decide (o.atN < 1) || (decide (1000000 < o.atN) || (decide (o.atR < 0) || (decide (8 ≤ o.atR) || !textB o.text)))))
def opB (o : OpV) : Bool := if opHeadB o then false else if o.kind == 0 then opNewB o else if o.kind == 1 then opMoveB o else opRestB o

set_option maxRecDepth 8000 in
set_option maxHeartbeats 3200000 in
theorem opS_any (w : World) (v : Value) (o : OpV) (h : RdOp w v o) :
    Calls Try.prog 8 #[v] w fun e w' => e = .returned (.bool (opB o)) ∧ Below w.heap.size w w' := by
  obtain ⟨k, n, t, rfl, hk, hn, ht⟩ := h
  obtain ⟨ak, ck, rfl, _, _⟩ := hk.shape
  obtain ⟨an, cn, rfl, _, _⟩ := hn.shape
  obtain ⟨at', ct, rfl, _, _⟩ := ht.shape
  generalize hnK : o.key.length = nK at *
  have hA := (Below.refl w.heap.size w).alloc (Nat.le_refl _) (.cells #[.int .i64 o.kind, .int .i64 o.atN, .int .i64 o.atR, .int .i64 o.nodeN, .int .i64 o.nodeR, .int .i64 o.parN, .int .i64 o.parR, .slice ak nK ck, .int .i64 o.elem, .slice an o.name.length cn, .slice at' o.text.length ct, .bool o.gone] 27)
  have HA := hide hA
  have HT := hide (ht.keep hA)
  have HN := hide (hn.keep hA)
  have HK := hide (hk.keep hA)
  clear hA ht hn hk
  unfold opVal
  have hcase : (decide (o.kind < 0) = true ∧ opHeadB o = true) ∨ (decide (o.kind < 0) = false ∧ ((decide (3 < o.kind) = true ∧ opHeadB o = true) ∨ (decide (3 < o.kind) = false ∧ ((decide (o.atN < 1) = true ∧ opHeadB o = true) ∨ (decide (o.atN < 1) = false ∧ ((decide (1000000 < o.atN) = true ∧ opHeadB o = true) ∨ (decide (1000000 < o.atN) = false ∧ ((decide (o.atR < 0) = true ∧ opHeadB o = true) ∨ (decide (o.atR < 0) = false ∧ ((decide (8 ≤ o.atR) = true ∧ opHeadB o = true) ∨ (decide (8 ≤ o.atR) = false ∧ opHeadB o = !textB o.text))))))))))) := by
    unfold opHeadB
    cases decide (o.kind < 0) <;> cases decide (3 < o.kind) <;> cases decide (o.atN < 1) <;> cases decide (1000000 < o.atN) <;> cases decide (o.atR < 0) <;> cases decide (8 ≤ o.atR) <;> simp
  rcases hcase with ⟨q1, hd⟩ | ⟨q1, ⟨q2, hd⟩ | ⟨q2, ⟨q3, hd⟩ | ⟨q3, ⟨q4, hd⟩ | ⟨q4, ⟨q5, hd⟩ | ⟨q5, ⟨q6, hd⟩ | ⟨q6, hd⟩⟩⟩⟩⟩⟩
  iterate 6
    · have HE := hide (show opB o = false by unfold opB; rw [if_pos hd])
      clear hd
      go_enter Try.func8, Try.ntmps8
      go_wp2_with fail
      go_ret
      exact ⟨by rw [unhide HE]; rfl, unhide HA⟩
  go_enter Try.func8, Try.ntmps8
  go_wp2_with fail
  refine (textS_b _ _ o.text (unhide HT)).mono ?_
  rintro e w1 ⟨rfl, rfl⟩
  cases hx : textB o.text
  · have HE := hide (show opB o = false by unfold opB; rw [if_pos (by rw [hd, hx]; rfl)])
    clear hd hx
    go_wp2_with fail
    go_ret
    exact ⟨by rw [unhide HE]; rfl, unhide HA⟩
  have HD := hide (show opHeadB o = false by rw [hd, hx]; rfl)
  clear hd hx
  cases k0 : (o.kind == 0)
  · cases k1 : (o.kind == 1)
    · have hB : opB o = opRestB o := by unfold opB; rw [unhide HD, k0, k1]; rfl
      go_wp2_with fail
      refine (idS_any _ o.nodeN o.nodeR).mono ?_
      rintro e w1 ⟨rfl, rfl⟩
      have HA1 := hide ((unhide HA).alloc (unhide HA).size (.cells #[.int .i64 o.nodeN, .int .i64 o.nodeR] 24))
      replace hB := hB.trans (show opRestB o = _ by unfold opRestB; rfl)
      cases x1 : idB o.nodeN o.nodeR
      · have HE := hide (show opB o = false by rw [hB, x1]; rfl)
        clear hB x1
        go_wp2_with fail
        go_ret
        exact ⟨by rw [unhide HE]; rfl, unhide HA1⟩
      rw [x1] at hB
      clear x1
      go_wp2_with fail
      refine (zeroS_any _ o.parN o.parR).mono ?_
      rintro e w1 ⟨rfl, rfl⟩
      have HA2 := hide ((unhide HA1).alloc (unhide HA1).size (.cells #[.int .i64 o.parN, .int .i64 o.parR] 24))
      cases x1 : zeroB o.parN o.parR
      · have HE := hide (show opB o = false by rw [hB, x1]; rfl)
        clear hB x1
        go_wp2_with fail
        go_ret
        exact ⟨by rw [unhide HE]; rfl, unhide HA2⟩
      rw [x1] at hB
      clear x1
      by_cases x1 : 0 < nK
      · have e1 : decide (0 < (o.key.length : Int)) = true := by rw [hnK]; simp; omega
        have e2 : decide (0 < nK) = true := by simp; omega
        have HE := hide (show opB o = false by rw [hB, e1]; rfl)
        clear hB e1
        go_wp2_with fail
        go_ret
        exact ⟨by rw [unhide HE]; rfl, unhide HA2⟩
      have e1 : decide (0 < (o.key.length : Int)) = false := by rw [hnK]; simp; omega
      rw [e1] at hB
      have z1 : nK = 0 := by omega
      clear e1 x1
      subst z1
      clear hnK
      cases x2 : (o.elem == 0)
      · have HE := hide (show opB o = false by rw [hB, x2]; rfl)
        clear hB
        go_wp2_with fail
        go_ret
        exact ⟨by rw [unhide HE]; rfl, unhide HA2⟩
      rw [x2] at hB
      cases x3 : (o.kind == 2)
      · rw [x3] at hB
        replace hB : opB o = (nameB o.name && (!o.gone || (o.text.length : Int) == 0)) := hB
        go_wp2_with fail
        have HN2 := hide ((((unhide HN).keep ((Below.refl _ _).alloc (Nat.le_refl _) (.cells #[.int .i64 o.nodeN, .int .i64 o.nodeR] 24)))).keep ((Below.refl _ _).alloc (Nat.le_refl _) (.cells #[.int .i64 o.parN, .int .i64 o.parR] 24)))
        refine (nameS_b _ _ o.name (unhide HN2)).mono ?_
        rintro e w1 ⟨rfl, rfl⟩
        cases x4 : nameB o.name
        · have HE := hide (show opB o = false by rw [hB, x4]; rfl)
          clear hB x4
          go_wp2_with fail
          go_ret
          exact ⟨by rw [unhide HE]; rfl, unhide HA2⟩
        rw [x4, Bool.true_and] at hB
        clear x4
        rcases Bool.eq_false_or_eq_true o.gone with hg | hg
        · rw [hg] at hB HA2
          replace hB : opB o = ((o.text.length : Int) == 0) := hB
          have HE := hide hB
          clear hB
          go_wp2_with fail
          go_ret
          exact ⟨by rw [unhide HE]; rfl, unhide HA2⟩
        · rw [hg] at hB HA2
          replace hB : opB o = true := hB
          have HE := hide hB
          clear hB
          go_wp2_with fail
          go_ret
          exact ⟨by rw [unhide HE]; rfl, unhide HA2⟩
      · rw [x3] at hB
        replace hB : opB o = ((o.name.length : Int) == 0 && !o.gone) := hB
        cases x4 : ((o.name.length : Int) == 0)
        · have HE := hide (show opB o = false by rw [hB, x4]; rfl)
          clear hB
          go_wp2_with fail
          go_ret
          exact ⟨by rw [unhide HE]; rfl, unhide HA2⟩
        rw [x4, Bool.true_and] at hB
        have HE := hide hB
        clear hB
        go_wp2_with fail
        go_ret
        exact ⟨by rw [unhide HE]; rfl, unhide HA2⟩
    · have hB : opB o = opMoveB o := by unfold opB; rw [unhide HD, k0, k1]; rfl
      go_wp2_with fail
      refine (idS_any _ o.nodeN o.nodeR).mono ?_
      rintro e w1 ⟨rfl, rfl⟩
      have HA1 := hide ((unhide HA).alloc (unhide HA).size (.cells #[.int .i64 o.nodeN, .int .i64 o.nodeR] 24))
      cases x1 : idB o.nodeN o.nodeR
      · have HE := hide (show opB o = false by rw [hB]; unfold opMoveB; rw [x1]; rfl)
        clear hB x1
        go_wp2_with fail
        go_ret
        exact ⟨by rw [unhide HE]; rfl, unhide HA1⟩
      replace hB := hB.trans (show opMoveB o = _ by unfold opMoveB; rw [x1, Bool.true_and])
      clear x1
      go_wp2_with fail
      refine (idS_any _ o.parN o.parR).mono ?_
      rintro e w1 ⟨rfl, rfl⟩
      have HA2 := hide ((unhide HA1).alloc (unhide HA1).size (.cells #[.int .i64 o.parN, .int .i64 o.parR] 24))
      cases x1 : idB o.parN o.parR
      · have HE := hide (show opB o = false by rw [hB, x1]; rfl)
        clear hB x1
        go_wp2_with fail
        go_ret
        exact ⟨by rw [unhide HE]; rfl, unhide HA2⟩
      rw [x1, Bool.true_and] at hB
      clear x1
      go_wp2_with fail
      have HK2 := hide ((((unhide HK).keep ((Below.refl _ _).alloc (Nat.le_refl _) (.cells #[.int .i64 o.nodeN, .int .i64 o.nodeR] 24)))).keep ((Below.refl _ _).alloc (Nat.le_refl _) (.cells #[.int .i64 o.parN, .int .i64 o.parR] 24)))
      refine (keyS_b _ _ o.key (unhide HK2)).mono ?_
      rintro e w1 ⟨rfl, rfl⟩
      cases x1 : keyB o.key
      · have HE := hide (show opB o = false by rw [hB, x1]; rfl)
        clear hB x1
        go_wp2_with fail
        go_ret
        exact ⟨by rw [unhide HE]; rfl, unhide HA2⟩
      rw [x1, Bool.true_and] at hB
      clear x1
      cases x1 : (o.elem == 0)
      · have HE := hide (show opB o = false by rw [hB, x1]; rfl)
        clear hB
        go_wp2_with fail
        go_ret
        exact ⟨by rw [unhide HE]; rfl, unhide HA2⟩
      rw [x1, Bool.true_and] at hB
      cases x2 : ((o.name.length : Int) == 0)
      · have HE := hide (show opB o = false by rw [hB, x2]; rfl)
        clear hB
        go_wp2_with fail
        go_ret
        exact ⟨by rw [unhide HE]; rfl, unhide HA2⟩
      rw [x2, Bool.true_and] at hB
      cases x3 : ((o.text.length : Int) == 0)
      · have HE := hide (show opB o = false by rw [hB, x3]; rfl)
        clear hB
        go_wp2_with fail
        go_ret
        exact ⟨by rw [unhide HE]; rfl, unhide HA2⟩
      rw [x3, Bool.true_and] at hB
      have HE := hide hB
      clear hB
      go_wp2_with fail
      go_ret
      exact ⟨by rw [unhide HE]; rfl, unhide HA2⟩
  · have hB : opB o = opNewB o := by unfold opB; rw [unhide HD, k0]; rfl
    replace hB := hB.trans (show opNewB o = _ by unfold opNewB; rfl)
    go_wp2_with fail
    refine (zeroS_any _ o.nodeN o.nodeR).mono ?_
    rintro e w1 ⟨rfl, rfl⟩
    have HA1 := hide ((unhide HA).alloc (unhide HA).size (.cells #[.int .i64 o.nodeN, .int .i64 o.nodeR] 24))
    cases x1 : zeroB o.nodeN o.nodeR
    · have HE := hide (show opB o = false by rw [hB, x1]; rfl)
      clear hB x1
      go_wp2_with fail
      go_ret
      exact ⟨by rw [unhide HE]; rfl, unhide HA1⟩
    rw [x1] at hB
    clear x1
    go_wp2_with fail
    refine (idS_any _ o.parN o.parR).mono ?_
    rintro e w1 ⟨rfl, rfl⟩
    have HA2 := hide ((unhide HA1).alloc (unhide HA1).size (.cells #[.int .i64 o.parN, .int .i64 o.parR] 24))
    cases x1 : idB o.parN o.parR
    · have HE := hide (show opB o = false by rw [hB, x1]; rfl)
      clear hB x1
      go_wp2_with fail
      go_ret
      exact ⟨by rw [unhide HE]; rfl, unhide HA2⟩
    rw [x1] at hB
    clear x1
    go_wp2_with fail
    have HK2 := hide ((((unhide HK).keep ((Below.refl _ _).alloc (Nat.le_refl _) (.cells #[.int .i64 o.nodeN, .int .i64 o.nodeR] 24)))).keep ((Below.refl _ _).alloc (Nat.le_refl _) (.cells #[.int .i64 o.parN, .int .i64 o.parR] 24)))
    refine (keyS_b _ _ o.key (unhide HK2)).mono ?_
    rintro e w1 ⟨rfl, rfl⟩
    cases x1 : keyB o.key
    · have HE := hide (show opB o = false by rw [hB, x1]; rfl)
      clear hB x1
      go_wp2_with fail
      go_ret
      exact ⟨by rw [unhide HE]; rfl, unhide HA2⟩
    rw [x1] at hB
    clear x1
    rcases Bool.eq_false_or_eq_true o.gone with hg | hg
    · have HE := hide (show opB o = false by rw [hB, hg]; rfl)
      clear hB
      rw [hg] at HA2
      go_wp2_with fail
      go_ret
      exact ⟨by rw [unhide HE]; rfl, unhide HA2⟩
    rw [hg] at hB HA2 HN
    rcases Bool.eq_false_or_eq_true (o.elem == 1) with x1 | x1
    · rw [x1] at hB
      replace hB : opB o = ((o.name.length : Int) == 0) := hB
      have HE := hide hB
      clear hB
      go_wp2_with fail
      go_ret
      exact ⟨by rw [unhide HE]; rfl, unhide HA2⟩
    rw [x1] at hB
    replace hB : opB o = (o.elem == 0 && (nameB o.name && (o.text.length : Int) == 0)) := hB
    cases x2 : (o.elem == 0)
    · have HE := hide (show opB o = false by rw [hB, x2]; rfl)
      clear hB
      go_wp2_with fail
      go_ret
      exact ⟨by rw [unhide HE]; rfl, unhide HA2⟩
    rw [x2, Bool.true_and] at hB
    go_wp2_with fail
    have HN2 := hide ((((unhide HN).keep ((Below.refl _ _).alloc (Nat.le_refl _) (.cells #[.int .i64 o.nodeN, .int .i64 o.nodeR] 24)))).keep ((Below.refl _ _).alloc (Nat.le_refl _) (.cells #[.int .i64 o.parN, .int .i64 o.parR] 24)))
    refine (nameS_b _ _ o.name (unhide HN2)).mono ?_
    rintro e w1 ⟨rfl, rfl⟩
    cases x4 : nameB o.name
    · have HE := hide (show opB o = false by rw [hB, x4]; rfl)
      clear hB x4
      go_wp2_with fail
      go_ret
      exact ⟨by rw [unhide HE]; rfl, unhide HA2⟩
    rw [x4, Bool.true_and] at hB
    clear x4
    have HE := hide hB
    clear hB
    go_wp2_with fail
    go_ret
    exact ⟨by rw [unhide HE]; rfl, unhide HA2⟩

end Go.Proofs.Ytcabolcfoijglaa
