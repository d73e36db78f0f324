/- Own texts joined: OpS, SzB, SzO, EqI, EqO, Eq, EqZ, EqJ, EqP, ToZ, ToO, OwO, OpsT, OwOs, ShO, SetSh, AppSh, ShP, LesI, OpsM, PutV, QGr, Via, BsI, KlM, RlB, Num, PutM, TextM, BackM, OpM, PutS. -/
import Derived.Test.YtaoodcielfabdaaGreatJa
import Derived.Test.YtaoodcielfabdaaGreatJb
import Derived.Test.YtaoodcielfabdaaGreatJc
import Derived.Test.YtaoodcielfabdaaGreatJd
import Derived.Test.YtaoodcielfabdaaGreatJe
import Derived.Test.YtaoodcielfabdaaGreatJf
import Derived.Test.YtaoodcielfabdaaGreatJg
import Derived.Test.YtaoodcielfabdaaGreatJh
import Derived.Test.YtaoodcielfabdaaGreatChecked
import Derived.Deep.QuietTactic
import Derived.BigQuiet
import Derived.Deep.RegionHeld3

/- spec.OpOk answers what the plain test says. -/
namespace Go.Proofs.YtaoodcielfabdaaGreat
open Go.RowKit
set_option linter.unusedVariables false

/-- An operation's parts, read. -/
structure OpV where
  kind : Int
  atN : Int
  atR : Int
  nodeN : Int
  nodeR : Int
  parN : Int
  parR : Int
  key : List Int
  elem : Int
  name : List Int
  text : List Int
  gone : Bool

/-- The value of an operation whose rows are k, n, t. -/
def opVal (o : OpV) (k n t : Value) : Value := .agg #[.int .i64 o.kind, .int .i64 o.atN, .int .i64 o.atR, .int .i64 o.nodeN, .int .i64 o.nodeR, .int .i64 o.parN, .int .i64 o.parR, k, .int .i64 o.elem, n, t, .bool o.gone]
/-- It can be read. -/
def RdOp (w : World) (v : Value) (o : OpV) : Prop := ∃ k n t, v = opVal o k n t ∧ Ints w k o.key ∧ Byt w n o.name ∧ Byt w t o.text

def opNewB (o : OpV) : Bool := if !zeroB o.nodeN o.nodeR || (!idB o.parN o.parR || (!keyB o.key || o.gone)) then false else if o.elem == 1 then (o.name.length : Int) == 0 else o.elem == 0 && (nameB o.name && (o.text.length : Int) == 0)
def opMoveB (o : OpV) : Bool := idB o.nodeN o.nodeR && (idB o.parN o.parR && (keyB o.key && (o.elem == 0 && ((o.name.length : Int) == 0 && ((o.text.length : Int) == 0 && !o.gone)))))
def opRestB (o : OpV) : Bool := if !idB o.nodeN o.nodeR || (!zeroB o.parN o.parR || (decide (0 < (o.key.length : Int)) || !(o.elem == 0))) then false else if o.kind == 2 then (o.name.length : Int) == 0 && !o.gone else nameB o.name && (!o.gone || (o.text.length : Int) == 0)
def opHeadB (o : OpV) : Bool := decide (o.kind < 0) || (decide (3 < o.kind) || (decide (o.atN < 1) || (decide (1000000 < o.atN) || (decide (o.atR < 0) || (decide (8 ≤ o.atR) || !textB o.text)))))
def opB (o : OpV) : Bool := if opHeadB o then false else if o.kind == 0 then opNewB o else if o.kind == 1 then opMoveB o else opRestB o

set_option maxRecDepth 8000 in
set_option maxHeartbeats 3200000 in
theorem opS_any (w : World) (v : Value) (o : OpV) (h : RdOp w v o) :
    Calls Tryz.prog 34 #[v] w fun e w' => e = .returned (.bool (opB o)) ∧ Below w.heap.size w w' := by
  obtain ⟨k, n, t, rfl, hk, hn, ht⟩ := h
  obtain ⟨ak, ck, rfl, _, _⟩ := hk.shape
  obtain ⟨an, cn, rfl, _, _⟩ := hn.shape
  obtain ⟨at', ct, rfl, _, _⟩ := ht.shape
  generalize hnK : o.key.length = nK at *
  have hA := (Below.refl w.heap.size w).alloc (Nat.le_refl _) (.cells #[.int .i64 o.kind, .int .i64 o.atN, .int .i64 o.atR, .int .i64 o.nodeN, .int .i64 o.nodeR, .int .i64 o.parN, .int .i64 o.parR, .slice ak nK ck, .int .i64 o.elem, .slice an o.name.length cn, .slice at' o.text.length ct, .bool o.gone] 38)
  have HA := hide hA
  have HT := hide (ht.keep hA)
  have HN := hide (hn.keep hA)
  have HK := hide (hk.keep hA)
  clear hA ht hn hk
  unfold opVal
  have hcase : (decide (o.kind < 0) = true ∧ opHeadB o = true) ∨ (decide (o.kind < 0) = false ∧ ((decide (3 < o.kind) = true ∧ opHeadB o = true) ∨ (decide (3 < o.kind) = false ∧ ((decide (o.atN < 1) = true ∧ opHeadB o = true) ∨ (decide (o.atN < 1) = false ∧ ((decide (1000000 < o.atN) = true ∧ opHeadB o = true) ∨ (decide (1000000 < o.atN) = false ∧ ((decide (o.atR < 0) = true ∧ opHeadB o = true) ∨ (decide (o.atR < 0) = false ∧ ((decide (8 ≤ o.atR) = true ∧ opHeadB o = true) ∨ (decide (8 ≤ o.atR) = false ∧ opHeadB o = !textB o.text))))))))))) := by
    unfold opHeadB
    cases decide (o.kind < 0) <;> cases decide (3 < o.kind) <;> cases decide (o.atN < 1) <;> cases decide (1000000 < o.atN) <;> cases decide (o.atR < 0) <;> cases decide (8 ≤ o.atR) <;> simp
  rcases hcase with ⟨q1, hd⟩ | ⟨q1, ⟨q2, hd⟩ | ⟨q2, ⟨q3, hd⟩ | ⟨q3, ⟨q4, hd⟩ | ⟨q4, ⟨q5, hd⟩ | ⟨q5, ⟨q6, hd⟩ | ⟨q6, hd⟩⟩⟩⟩⟩⟩
  iterate 6
    · have HE := hide (show opB o = false by unfold opB; rw [if_pos hd])
      clear hd
      go_enter Tryz.func34, Tryz.ntmps34
      go_wp2_with fail
      go_ret
      exact ⟨by rw [unhide HE]; rfl, unhide HA⟩
  go_enter Tryz.func34, Tryz.ntmps34
  go_wp2_with fail
  refine (textS_b _ _ o.text (unhide HT)).mono ?_
  rintro e w1 ⟨rfl, rfl⟩
  cases hx : textB o.text
  · have HE := hide (show opB o = false by unfold opB; rw [if_pos (by rw [hd, hx]; rfl)])
    clear hd hx
    go_wp2_with fail
    go_ret
    exact ⟨by rw [unhide HE]; rfl, unhide HA⟩
  have HD := hide (show opHeadB o = false by rw [hd, hx]; rfl)
  clear hd hx
  cases k0 : (o.kind == 0)
  · cases k1 : (o.kind == 1)
    · have hB : opB o = opRestB o := by unfold opB; rw [unhide HD, k0, k1]; rfl
      go_wp2_with fail
      refine (idS_any _ o.nodeN o.nodeR).mono ?_
      rintro e w1 ⟨rfl, rfl⟩
      have HA1 := hide ((unhide HA).alloc (unhide HA).size (.cells #[.int .i64 o.nodeN, .int .i64 o.nodeR] 35))
      replace hB := hB.trans (show opRestB o = _ by unfold opRestB; rfl)
      cases x1 : idB o.nodeN o.nodeR
      · have HE := hide (show opB o = false by rw [hB, x1]; rfl)
        clear hB x1
        go_wp2_with fail
        go_ret
        exact ⟨by rw [unhide HE]; rfl, unhide HA1⟩
      rw [x1] at hB
      clear x1
      go_wp2_with fail
      refine (zeroS_any _ o.parN o.parR).mono ?_
      rintro e w1 ⟨rfl, rfl⟩
      have HA2 := hide ((unhide HA1).alloc (unhide HA1).size (.cells #[.int .i64 o.parN, .int .i64 o.parR] 35))
      cases x1 : zeroB o.parN o.parR
      · have HE := hide (show opB o = false by rw [hB, x1]; rfl)
        clear hB x1
        go_wp2_with fail
        go_ret
        exact ⟨by rw [unhide HE]; rfl, unhide HA2⟩
      rw [x1] at hB
      clear x1
      by_cases x1 : 0 < nK
      · have e1 : decide (0 < (o.key.length : Int)) = true := by rw [hnK]; simp; omega
        have e2 : decide (0 < nK) = true := by simp; omega
        have HE := hide (show opB o = false by rw [hB, e1]; rfl)
        clear hB e1
        go_wp2_with fail
        go_ret
        exact ⟨by rw [unhide HE]; rfl, unhide HA2⟩
      have e1 : decide (0 < (o.key.length : Int)) = false := by rw [hnK]; simp; omega
      rw [e1] at hB
      have z1 : nK = 0 := by omega
      clear e1 x1
      subst z1
      clear hnK
      cases x2 : (o.elem == 0)
      · have HE := hide (show opB o = false by rw [hB, x2]; rfl)
        clear hB
        go_wp2_with fail
        go_ret
        exact ⟨by rw [unhide HE]; rfl, unhide HA2⟩
      rw [x2] at hB
      cases x3 : (o.kind == 2)
      · rw [x3] at hB
        replace hB : opB o = (nameB o.name && (!o.gone || (o.text.length : Int) == 0)) := hB
        go_wp2_with fail
        have HN2 := hide ((((unhide HN).keep ((Below.refl _ _).alloc (Nat.le_refl _) (.cells #[.int .i64 o.nodeN, .int .i64 o.nodeR] 35)))).keep ((Below.refl _ _).alloc (Nat.le_refl _) (.cells #[.int .i64 o.parN, .int .i64 o.parR] 35)))
        refine (nameS_b _ _ o.name (unhide HN2)).mono ?_
        rintro e w1 ⟨rfl, rfl⟩
        cases x4 : nameB o.name
        · have HE := hide (show opB o = false by rw [hB, x4]; rfl)
          clear hB x4
          go_wp2_with fail
          go_ret
          exact ⟨by rw [unhide HE]; rfl, unhide HA2⟩
        rw [x4, Bool.true_and] at hB
        clear x4
        rcases Bool.eq_false_or_eq_true o.gone with hg | hg
        · rw [hg] at hB HA2
          replace hB : opB o = ((o.text.length : Int) == 0) := hB
          have HE := hide hB
          clear hB
          go_wp2_with fail
          go_ret
          exact ⟨by rw [unhide HE]; rfl, unhide HA2⟩
        · rw [hg] at hB HA2
          replace hB : opB o = true := hB
          have HE := hide hB
          clear hB
          go_wp2_with fail
          go_ret
          exact ⟨by rw [unhide HE]; rfl, unhide HA2⟩
      · rw [x3] at hB
        replace hB : opB o = ((o.name.length : Int) == 0 && !o.gone) := hB
        cases x4 : ((o.name.length : Int) == 0)
        · have HE := hide (show opB o = false by rw [hB, x4]; rfl)
          clear hB
          go_wp2_with fail
          go_ret
          exact ⟨by rw [unhide HE]; rfl, unhide HA2⟩
        rw [x4, Bool.true_and] at hB
        have HE := hide hB
        clear hB
        go_wp2_with fail
        go_ret
        exact ⟨by rw [unhide HE]; rfl, unhide HA2⟩
    · have hB : opB o = opMoveB o := by unfold opB; rw [unhide HD, k0, k1]; rfl
      go_wp2_with fail
      refine (idS_any _ o.nodeN o.nodeR).mono ?_
      rintro e w1 ⟨rfl, rfl⟩
      have HA1 := hide ((unhide HA).alloc (unhide HA).size (.cells #[.int .i64 o.nodeN, .int .i64 o.nodeR] 35))
      cases x1 : idB o.nodeN o.nodeR
      · have HE := hide (show opB o = false by rw [hB]; unfold opMoveB; rw [x1]; rfl)
        clear hB x1
        go_wp2_with fail
        go_ret
        exact ⟨by rw [unhide HE]; rfl, unhide HA1⟩
      replace hB := hB.trans (show opMoveB o = _ by unfold opMoveB; rw [x1, Bool.true_and])
      clear x1
      go_wp2_with fail
      refine (idS_any _ o.parN o.parR).mono ?_
      rintro e w1 ⟨rfl, rfl⟩
      have HA2 := hide ((unhide HA1).alloc (unhide HA1).size (.cells #[.int .i64 o.parN, .int .i64 o.parR] 35))
      cases x1 : idB o.parN o.parR
      · have HE := hide (show opB o = false by rw [hB, x1]; rfl)
        clear hB x1
        go_wp2_with fail
        go_ret
        exact ⟨by rw [unhide HE]; rfl, unhide HA2⟩
      rw [x1, Bool.true_and] at hB
      clear x1
      go_wp2_with fail
      have HK2 := hide ((((unhide HK).keep ((Below.refl _ _).alloc (Nat.le_refl _) (.cells #[.int .i64 o.nodeN, .int .i64 o.nodeR] 35)))).keep ((Below.refl _ _).alloc (Nat.le_refl _) (.cells #[.int .i64 o.parN, .int .i64 o.parR] 35)))
      refine (keyS_b _ _ o.key (unhide HK2)).mono ?_
      rintro e w1 ⟨rfl, rfl⟩
      cases x1 : keyB o.key
      · have HE := hide (show opB o = false by rw [hB, x1]; rfl)
        clear hB x1
        go_wp2_with fail
        go_ret
        exact ⟨by rw [unhide HE]; rfl, unhide HA2⟩
      rw [x1, Bool.true_and] at hB
      clear x1
      cases x1 : (o.elem == 0)
      · have HE := hide (show opB o = false by rw [hB, x1]; rfl)
        clear hB
        go_wp2_with fail
        go_ret
        exact ⟨by rw [unhide HE]; rfl, unhide HA2⟩
      rw [x1, Bool.true_and] at hB
      cases x2 : ((o.name.length : Int) == 0)
      · have HE := hide (show opB o = false by rw [hB, x2]; rfl)
        clear hB
        go_wp2_with fail
        go_ret
        exact ⟨by rw [unhide HE]; rfl, unhide HA2⟩
      rw [x2, Bool.true_and] at hB
      cases x3 : ((o.text.length : Int) == 0)
      · have HE := hide (show opB o = false by rw [hB, x3]; rfl)
        clear hB
        go_wp2_with fail
        go_ret
        exact ⟨by rw [unhide HE]; rfl, unhide HA2⟩
      rw [x3, Bool.true_and] at hB
      have HE := hide hB
      clear hB
      go_wp2_with fail
      go_ret
      exact ⟨by rw [unhide HE]; rfl, unhide HA2⟩
  · have hB : opB o = opNewB o := by unfold opB; rw [unhide HD, k0]; rfl
    replace hB := hB.trans (show opNewB o = _ by unfold opNewB; rfl)
    go_wp2_with fail
    refine (zeroS_any _ o.nodeN o.nodeR).mono ?_
    rintro e w1 ⟨rfl, rfl⟩
    have HA1 := hide ((unhide HA).alloc (unhide HA).size (.cells #[.int .i64 o.nodeN, .int .i64 o.nodeR] 35))
    cases x1 : zeroB o.nodeN o.nodeR
    · have HE := hide (show opB o = false by rw [hB, x1]; rfl)
      clear hB x1
      go_wp2_with fail
      go_ret
      exact ⟨by rw [unhide HE]; rfl, unhide HA1⟩
    rw [x1] at hB
    clear x1
    go_wp2_with fail
    refine (idS_any _ o.parN o.parR).mono ?_
    rintro e w1 ⟨rfl, rfl⟩
    have HA2 := hide ((unhide HA1).alloc (unhide HA1).size (.cells #[.int .i64 o.parN, .int .i64 o.parR] 35))
    cases x1 : idB o.parN o.parR
    · have HE := hide (show opB o = false by rw [hB, x1]; rfl)
      clear hB x1
      go_wp2_with fail
      go_ret
      exact ⟨by rw [unhide HE]; rfl, unhide HA2⟩
    rw [x1] at hB
    clear x1
    go_wp2_with fail
    have HK2 := hide ((((unhide HK).keep ((Below.refl _ _).alloc (Nat.le_refl _) (.cells #[.int .i64 o.nodeN, .int .i64 o.nodeR] 35)))).keep ((Below.refl _ _).alloc (Nat.le_refl _) (.cells #[.int .i64 o.parN, .int .i64 o.parR] 35)))
    refine (keyS_b _ _ o.key (unhide HK2)).mono ?_
    rintro e w1 ⟨rfl, rfl⟩
    cases x1 : keyB o.key
    · have HE := hide (show opB o = false by rw [hB, x1]; rfl)
      clear hB x1
      go_wp2_with fail
      go_ret
      exact ⟨by rw [unhide HE]; rfl, unhide HA2⟩
    rw [x1] at hB
    clear x1
    rcases Bool.eq_false_or_eq_true o.gone with hg | hg
    · have HE := hide (show opB o = false by rw [hB, hg]; rfl)
      clear hB
      rw [hg] at HA2
      go_wp2_with fail
      go_ret
      exact ⟨by rw [unhide HE]; rfl, unhide HA2⟩
    rw [hg] at hB HA2 HN
    rcases Bool.eq_false_or_eq_true (o.elem == 1) with x1 | x1
    · rw [x1] at hB
      replace hB : opB o = ((o.name.length : Int) == 0) := hB
      have HE := hide hB
      clear hB
      go_wp2_with fail
      go_ret
      exact ⟨by rw [unhide HE]; rfl, unhide HA2⟩
    rw [x1] at hB
    replace hB : opB o = (o.elem == 0 && (nameB o.name && (o.text.length : Int) == 0)) := hB
    cases x2 : (o.elem == 0)
    · have HE := hide (show opB o = false by rw [hB, x2]; rfl)
      clear hB
      go_wp2_with fail
      go_ret
      exact ⟨by rw [unhide HE]; rfl, unhide HA2⟩
    rw [x2, Bool.true_and] at hB
    go_wp2_with fail
    have HN2 := hide ((((unhide HN).keep ((Below.refl _ _).alloc (Nat.le_refl _) (.cells #[.int .i64 o.nodeN, .int .i64 o.nodeR] 35)))).keep ((Below.refl _ _).alloc (Nat.le_refl _) (.cells #[.int .i64 o.parN, .int .i64 o.parR] 35)))
    refine (nameS_b _ _ o.name (unhide HN2)).mono ?_
    rintro e w1 ⟨rfl, rfl⟩
    cases x4 : nameB o.name
    · have HE := hide (show opB o = false by rw [hB, x4]; rfl)
      clear hB x4
      go_wp2_with fail
      go_ret
      exact ⟨by rw [unhide HE]; rfl, unhide HA2⟩
    rw [x4, Bool.true_and] at hB
    clear x4
    have HE := hide hB
    clear hB
    go_wp2_with fail
    go_ret
    exact ⟨by rw [unhide HE]; rfl, unhide HA2⟩

end Go.Proofs.YtaoodcielfabdaaGreat

/- The laws' own count of how great a row of bytes is, by contracts. -/
namespace Go.Proofs.YtaoodcielfabdaaGreat
open Go.RowKit
set_option linter.unusedVariables false

end Go.Proofs.YtaoodcielfabdaaGreat

/- The laws' own count of how great an operation is, by contracts; toId, eqId. -/
namespace Go.Proofs.YtaoodcielfabdaaGreat
open Go.RowKit
set_option linter.unusedVariables false

end Go.Proofs.YtaoodcielfabdaaGreat

/- laws.toId and laws.eqId, by contracts. -/
namespace Go.Proofs.YtaoodcielfabdaaGreat
open Go.RowKit
set_option linter.unusedVariables false

end Go.Proofs.YtaoodcielfabdaaGreat

/- laws.toId and laws.eqId: their texts lie in EqI. -/

/- The law's own helper that holds two rows of bytes against each other, by its contract. -/
namespace Go.Proofs.YtaoodcielfabdaaGreat
open Go.RowKit
set_option linter.unusedVariables false

end Go.Proofs.YtaoodcielfabdaaGreat

/- The law's own helper that holds two rows of bytes against each other, by its contract. -/
namespace Go.Proofs.YtaoodcielfabdaaGreat
open Go.RowKit
set_option linter.unusedVariables false

end Go.Proofs.YtaoodcielfabdaaGreat

/- laws.eqByteS, laws.eqId of two that read the same. -/
namespace Go.Proofs.YtaoodcielfabdaaGreat
open Go.RowKit
set_option linter.unusedVariables false
set_option maxRecDepth 100000

end Go.Proofs.YtaoodcielfabdaaGreat

/- laws.eqOp of two operations that read the same. -/
namespace Go.Proofs.YtaoodcielfabdaaGreat
open Go.RowKit
set_option linter.unusedVariables false
set_option maxRecDepth 100000

end Go.Proofs.YtaoodcielfabdaaGreat

/- The law's own helpers over ints: a copy of a row, by its contract. -/
namespace Go.Proofs.YtaoodcielfabdaaGreat
open Go.RowKit
set_option linter.unusedVariables false

theorem Tryz.info3 : (Tryz.prog.info? 3).map (fun i => (i.zero, i.size, i.bytes)) = some (some (.int .i64 0), 1, 8) := by kernel_rfl

end Go.Proofs.YtaoodcielfabdaaGreat

/- laws.toOp: the copy reads the same, in blocks of its own. -/
namespace Go.Proofs.YtaoodcielfabdaaGreat
open Go.RowKit
set_option linter.unusedVariables false
set_option maxRecDepth 100000

theorem OwnZ.frm {w w' : World} {base : Nat} {v : Value} {l : List Int} {S : List Nat} (h : OwnZ w base v l) (f : Frm w w' S) (hd : ∀ g ∈ FB v, g ∉ S) : OwnZ w' base v l := ⟨h.1, ownsRow_frm h.2 f hd⟩
theorem OwnZ.rng {w : World} {base : Nat} {v : Value} {l : List Int} (h : OwnZ w base v l) : Rng (FB v) base w.heap.size := fun g hg => h.lt g (by simpa [FB] using hg)
theorem Loc.be {w : World} {g : Nat} {cs ds : Array Value} {T : TypeId} (h : Loc w g cs T) (e : cs = ds) : Loc w g ds T := e ▸ h

end Go.Proofs.YtaoodcielfabdaaGreat

/- Operations in blocks of their own. -/
namespace Go.Proofs.YtaoodcielfabdaaGreat
open Go.RowKit
set_option linter.unusedVariables false
set_option maxRecDepth 100000

theorem Loc.twelve {w : World} {g : Nat} {v0 v1 v2 v3 v4 v5 v6 v7 v8 v9 v10 v11 : Value} {T : TypeId} (h : Loc w g #[v0, v1, v2, v3, v4, v5, v6, v7, v8, v9, v10, v11] T) :
    w.cell? ⟨g, 0, none⟩ = some v0 ∧ w.cell? ⟨g, 1, none⟩ = some v1 ∧ w.cell? ⟨g, 2, none⟩ = some v2 ∧ w.cell? ⟨g, 3, none⟩ = some v3 ∧ w.cell? ⟨g, 4, none⟩ = some v4 ∧ w.cell? ⟨g, 5, none⟩ = some v5 ∧ w.cell? ⟨g, 6, none⟩ = some v6 ∧ w.cell? ⟨g, 7, none⟩ = some v7 ∧ w.cell? ⟨g, 8, none⟩ = some v8 ∧ w.cell? ⟨g, 9, none⟩ = some v9 ∧ w.cell? ⟨g, 10, none⟩ = some v10 ∧ w.cell? ⟨g, 11, none⟩ = some v11 :=
  ⟨h.cell 0, h.cell 1, h.cell 2, h.cell 3, h.cell 4, h.cell 5, h.cell 6, h.cell 7, h.cell 8, h.cell 9, h.cell 10, h.cell 11⟩

theorem RdOp.keep {w w' : World} {v : Value} {o : OpV} (h : RdOp w v o) (hb : Below w.heap.size w w') : RdOp w' v o := by
  obtain ⟨k, n, t, rfl, h1, h2, h3⟩ := h
  exact ⟨k, n, t, rfl, h1.keep hb, h2.keep hb, h3.keep hb⟩
/-- An operation in blocks of its own, from 'base' on. -/
def OwOp (w : World) (base : Nat) (o : OpV) (k n t : Value) : Prop := OwnZ w base k o.key ∧ Own w base n o.name ∧ Own w base t o.text ∧ (FB k ++ FB n ++ FB t).Nodup
theorem OwOp.keep {w w' : World} {base : Nat} {o : OpV} {k n t : Value} (h : OwOp w base o k n t) (hb : Below w.heap.size w w') : OwOp w' base o k n t := ⟨h.1.keep hb, h.2.1.keep hb, h.2.2.1.keep hb, h.2.2.2⟩
theorem OwOp.rd {w : World} {base : Nat} {o : OpV} {k n t : Value} (h : OwOp w base o k n t) : RdOp w (opVal o k n t) o := ⟨k, n, t, rfl, h.1.ints, h.2.1.byt, h.2.2.1.byt⟩

end Go.Proofs.YtaoodcielfabdaaGreat

/- Rows of operations: what it is for one to be readable in memory. -/
namespace Go.Proofs.YtaoodcielfabdaaGreat
open Go.RowKit
set_option linter.unusedVariables false

/-- The twelve cells of an operation. -/
def RdOpC (w : World) (C : List Value) (o : OpV) : Prop := ∃ k n t, C = [.int .i64 o.kind, .int .i64 o.atN, .int .i64 o.atR, .int .i64 o.nodeN, .int .i64 o.nodeR, .int .i64 o.parN, .int .i64 o.parR, k, .int .i64 o.elem, n, t, .bool o.gone] ∧ Ints w k o.key ∧ Byt w n o.name ∧ Byt w t o.text
def RdOps (w : World) (v : Value) (l : List OpV) : Prop := Elems w 12 v l (RdOpC w)
theorem RdOps.keep {w w' : World} {v : Value} {l : List OpV} (h : RdOps w v l) (hb : Below w.heap.size w w') : RdOps w' v l :=
  Elems.keep h hb (fun C x _ ⟨k, n, t, e, h1, h2, h3⟩ => ⟨k, n, t, e, h1.keep hb, h2.keep hb, h3.keep hb⟩)

/-- An element, cell by cell, its rows by their parts. -/
theorem opc_at {w W : World} {b off i : Nat} {o : OpV} (hW : Below w.heap.size w W) (hb : b < w.heap.size) (h : ∃ C : List Value, C.length = 12 ∧ (∀ j, j < 12 → w.cell? ⟨b, off + i * 12 + j, none⟩ = C[j]?) ∧ RdOpC w C o) :
    ∃ a1 c1 a2 c2 a3 c3, W.cell? ⟨b, off + i * 12, none⟩ = some (.int .i64 o.kind) ∧ W.cell? ⟨b, off + i * 12 + 1, none⟩ = some (.int .i64 o.atN) ∧ W.cell? ⟨b, off + i * 12 + 2, none⟩ = some (.int .i64 o.atR) ∧ W.cell? ⟨b, off + i * 12 + 3, none⟩ = some (.int .i64 o.nodeN) ∧ W.cell? ⟨b, off + i * 12 + 4, none⟩ = some (.int .i64 o.nodeR) ∧ W.cell? ⟨b, off + i * 12 + 5, none⟩ = some (.int .i64 o.parN) ∧ W.cell? ⟨b, off + i * 12 + 6, none⟩ = some (.int .i64 o.parR) ∧ W.cell? ⟨b, off + i * 12 + 7, none⟩ = some (.slice a1 o.key.length c1) ∧ W.cell? ⟨b, off + i * 12 + 8, none⟩ = some (.int .i64 o.elem) ∧ W.cell? ⟨b, off + i * 12 + 9, none⟩ = some (.slice a2 o.name.length c2) ∧ W.cell? ⟨b, off + i * 12 + 10, none⟩ = some (.slice a3 o.text.length c3) ∧ W.cell? ⟨b, off + i * 12 + 11, none⟩ = some (.bool o.gone) ∧
      RdOp W (opVal o (.slice a1 o.key.length c1) (.slice a2 o.name.length c2) (.slice a3 o.text.length c3)) o := by
  obtain ⟨C, _, hc, k, n, t, rfl, hk, hn, ht⟩ := h
  obtain ⟨a1, c1, rfl, _, _⟩ := hk.shape
  obtain ⟨a2, c2, rfl, _, _⟩ := hn.shape
  obtain ⟨a3, c3, rfl, _, _⟩ := ht.shape
  have cc : ∀ j, j < 12 → W.cell? ⟨b, off + i * 12 + j, none⟩ = w.cell? ⟨b, off + i * 12 + j, none⟩ := fun j hj => hW.cell (p := ⟨b, off + i * 12 + j, none⟩) hb
  exact ⟨a1, c1, a2, c2, a3, c3, (cc 0 (by omega)).trans (hc 0 (by omega)), (cc 1 (by omega)).trans (hc 1 (by omega)), (cc 2 (by omega)).trans (hc 2 (by omega)), (cc 3 (by omega)).trans (hc 3 (by omega)), (cc 4 (by omega)).trans (hc 4 (by omega)), (cc 5 (by omega)).trans (hc 5 (by omega)), (cc 6 (by omega)).trans (hc 6 (by omega)), (cc 7 (by omega)).trans (hc 7 (by omega)), (cc 8 (by omega)).trans (hc 8 (by omega)), (cc 9 (by omega)).trans (hc 9 (by omega)), (cc 10 (by omega)).trans (hc 10 (by omega)), (cc 11 (by omega)).trans (hc 11 (by omega)), _, _, _, rfl, hk.keep hW, hn.keep hW, ht.keep hW⟩

/-- How great. -/
def szO (o : OpV) : Nat := o.key.length + o.name.length + o.text.length
end Go.Proofs.YtaoodcielfabdaaGreat

/- Rows of operations that a call has made: which blocks are theirs. -/
namespace Go.Proofs.YtaoodcielfabdaaGreat
open Go.RowKit
set_option linter.unusedVariables false
set_option maxRecDepth 100000

theorem Tryz.info38 : (Tryz.prog.info? 38).map (fun i => (i.zero, i.size, i.bytes)) = some (some (.agg #[.int .i64 0, .int .i64 0, .int .i64 0, .int .i64 0, .int .i64 0, .int .i64 0, .int .i64 0, .slice none 0 0, .int .i64 0, .slice none 0 0, .slice none 0 0, .bool false]), 12, 144) := by kernel_rfl
set_option maxHeartbeats 3200000 in
theorem take_twelve (xs : List Value) (m : Nat) (v0 v1 v2 v3 v4 v5 v6 v7 v8 v9 v10 v11 : Value) (h : m + 12 ≤ xs.length) :
    ((((((((((((xs.set (m) v0).set (m + 1) v1).set (m + 2) v2).set (m + 3) v3).set (m + 4) v4).set (m + 5) v5).set (m + 6) v6).set (m + 7) v7).set (m + 8) v8).set (m + 9) v9).set (m + 10) v10).set (m + 11) v11).take (m + 12) = xs.take m ++ [v0, v1, v2, v3, v4, v5, v6, v7, v8, v9, v10, v11] := by
  have h0 := take_more xs m 0 _ v0 rfl (by omega)
  have h1 := take_more (xs.set (m) v0) m 1 _ v1 h0 (by simp; omega)
  have h2 := take_more ((xs.set (m) v0).set (m + 1) v1) m 2 _ v2 h1 (by simp; omega)
  have h3 := take_more (((xs.set (m) v0).set (m + 1) v1).set (m + 2) v2) m 3 _ v3 h2 (by simp; omega)
  have h4 := take_more ((((xs.set (m) v0).set (m + 1) v1).set (m + 2) v2).set (m + 3) v3) m 4 _ v4 h3 (by simp; omega)
  have h5 := take_more (((((xs.set (m) v0).set (m + 1) v1).set (m + 2) v2).set (m + 3) v3).set (m + 4) v4) m 5 _ v5 h4 (by simp; omega)
  have h6 := take_more ((((((xs.set (m) v0).set (m + 1) v1).set (m + 2) v2).set (m + 3) v3).set (m + 4) v4).set (m + 5) v5) m 6 _ v6 h5 (by simp; omega)
  have h7 := take_more (((((((xs.set (m) v0).set (m + 1) v1).set (m + 2) v2).set (m + 3) v3).set (m + 4) v4).set (m + 5) v5).set (m + 6) v6) m 7 _ v7 h6 (by simp; omega)
  have h8 := take_more ((((((((xs.set (m) v0).set (m + 1) v1).set (m + 2) v2).set (m + 3) v3).set (m + 4) v4).set (m + 5) v5).set (m + 6) v6).set (m + 7) v7) m 8 _ v8 h7 (by simp; omega)
  have h9 := take_more (((((((((xs.set (m) v0).set (m + 1) v1).set (m + 2) v2).set (m + 3) v3).set (m + 4) v4).set (m + 5) v5).set (m + 6) v6).set (m + 7) v7).set (m + 8) v8) m 9 _ v9 h8 (by simp; omega)
  have h10 := take_more ((((((((((xs.set (m) v0).set (m + 1) v1).set (m + 2) v2).set (m + 3) v3).set (m + 4) v4).set (m + 5) v5).set (m + 6) v6).set (m + 7) v7).set (m + 8) v8).set (m + 9) v9) m 10 _ v10 h9 (by simp; omega)
  have h11 := take_more (((((((((((xs.set (m) v0).set (m + 1) v1).set (m + 2) v2).set (m + 3) v3).set (m + 4) v4).set (m + 5) v5).set (m + 6) v6).set (m + 7) v7).set (m + 8) v8).set (m + 9) v9).set (m + 10) v10) m 11 _ v11 h10 (by simp; omega)
  simpa using h11
def OwOpC (w : World) (C : List Value) (o : OpV) (F : List Nat) : Prop := ∃ k n t, C = [.int .i64 o.kind, .int .i64 o.atN, .int .i64 o.atR, .int .i64 o.nodeN, .int .i64 o.nodeR, .int .i64 o.parN, .int .i64 o.parR, k, .int .i64 o.elem, n, t, .bool o.gone] ∧ OwnZ w 0 k o.key ∧ Own w 0 n o.name ∧ Own w 0 t o.text ∧ F = FB k ++ FB n ++ FB t
def OwOps (w : World) (v : Value) (l : List OpV) (F : List Nat) : Prop := OwElems w 38 12 v l (OwOpC w) F
theorem OwOpC.frm {w w' : World} {C : List Value} {o : OpV} {F S : List Nat} (h : OwOpC w C o F) (f : Frm w w' S) (hd : ∀ g ∈ F, g ∉ S) : OwOpC w' C o F := by
  obtain ⟨k, n, t, e, h1, h2, h3, rfl⟩ := h
  exact ⟨k, n, t, e, ⟨h1.1, ownsRow_frm h1.2 f (fun g hg => hd g (by simp [hg]))⟩, h2.frm f (fun g hg => hd g (by simp [hg])), h3.frm f (fun g hg => hd g (by simp [hg])), rfl⟩
theorem OwOps.frm {w w' : World} {v : Value} {l : List OpV} {F S : List Nat} (h : OwOps w v l F) (f : Frm w w' S) (hd : ∀ g ∈ F, g ∉ S) : OwOps w' v l F :=
  OwElems.frm h f hd (fun C x G hr hG => hr.frm f hG)
theorem OwOps.rd {w : World} {v : Value} {l : List OpV} {F : List Nat} (h : OwOps w v l F) : RdOps w v l :=
  OwElems.rd h (OwElems.len h) (fun C x G ⟨k, n, t, e, h1, h2, h3, _⟩ => ⟨k, n, t, e, h1.ints, h2.byt, h3.byt⟩)
end Go.Proofs.YtaoodcielfabdaaGreat

/- Rows of operations whose block is the call's own, while the operations' rows were there before. -/
namespace Go.Proofs.YtaoodcielfabdaaGreat
open Go.RowKit
set_option linter.unusedVariables false

/-- The row v is the call's own; its operations are readable in w0, the world in which the call began. -/
def ShOps (w0 w : World) (base : Nat) (v : Value) (l : List OpV) : Prop :=
  ∃ Cs : List (List Value), Cs.length = l.length ∧ (∀ i (hi : i < l.length), (Cs.getD i []).length = 12 ∧ RdOpC w0 (Cs.getD i []) l[i]) ∧ w.ownsRow base 38 12 v l.length Cs.flatten
theorem RdOpC.keep {w w' : World} {C : List Value} {o : OpV} (h : RdOpC w C o) (hb : Below w.heap.size w w') : RdOpC w' C o := by
  obtain ⟨k, n, t, e, h1, h2, h3⟩ := h
  exact ⟨k, n, t, e, h1.keep hb, h2.keep hb, h3.keep hb⟩
theorem ShOps.rd {w0 w : World} {base : Nat} {v : Value} {l : List OpV} (h : ShOps w0 w base v l) (hB : Below w0.heap.size w0 w) : RdOps w v l := by
  obtain ⟨Cs, h1, h2, h3⟩ := h
  have hO : OwElems w 38 12 v l (fun C x G => RdOpC w0 C x ∧ G = []) (FB v ++ (List.replicate l.length ([] : List Nat)).flatten) :=
    ⟨Cs, List.replicate l.length [], h1, by simp, fun i hi => ⟨(h2 i hi).1, (h2 i hi).2, by simp [List.getD_eq_getElem?_getD, hi]⟩, ownsRow_base h3 0 (Nat.zero_le _), rfl⟩
  exact OwElems.rd hO (OwElems.len hO) (fun C x G hr => hr.1.keep hB)
end Go.Proofs.YtaoodcielfabdaaGreat

/- An operation stored into a row of the call's own. -/
namespace Go.Proofs.YtaoodcielfabdaaGreat
open Go.RowKit
set_option linter.unusedVariables false

set_option maxHeartbeats 3200000 in
theorem set_twelveL (xs : List Value) (m : Nat) (v0 v1 v2 v3 v4 v5 v6 v7 v8 v9 v10 v11 : Value) (h : m + 12 ≤ xs.length) : ((((((((((((xs.set (m) v0).set (m + 1) v1).set (m + 2) v2).set (m + 3) v3).set (m + 4) v4).set (m + 5) v5).set (m + 6) v6).set (m + 7) v7).set (m + 8) v8).set (m + 9) v9).set (m + 10) v10).set (m + 11) v11) = xs.take m ++ [v0, v1, v2, v3, v4, v5, v6, v7, v8, v9, v10, v11] ++ xs.drop (m + 12) := by
  have h1 := take_twelve xs m v0 v1 v2 v3 v4 v5 v6 v7 v8 v9 v10 v11 h
  have h2 : ((((((((((((xs.set (m) v0).set (m + 1) v1).set (m + 2) v2).set (m + 3) v3).set (m + 4) v4).set (m + 5) v5).set (m + 6) v6).set (m + 7) v7).set (m + 8) v8).set (m + 9) v9).set (m + 10) v10).set (m + 11) v11).drop (m + 12) = xs.drop (m + 12) := by
    rw [List.drop_set_of_lt (by omega), List.drop_set_of_lt (by omega), List.drop_set_of_lt (by omega), List.drop_set_of_lt (by omega), List.drop_set_of_lt (by omega), List.drop_set_of_lt (by omega), List.drop_set_of_lt (by omega), List.drop_set_of_lt (by omega), List.drop_set_of_lt (by omega), List.drop_set_of_lt (by omega), List.drop_set_of_lt (by omega), List.drop_set_of_lt (by omega)]
  rw [← List.take_append_drop (m + 12) ((((((((((((xs.set (m) v0).set (m + 1) v1).set (m + 2) v2).set (m + 3) v3).set (m + 4) v4).set (m + 5) v5).set (m + 6) v6).set (m + 7) v7).set (m + 8) v8).set (m + 9) v9).set (m + 10) v10).set (m + 11) v11), h1, h2]
theorem flat_set12 : ∀ (Cs : List (List Value)) (i : Nat) (C : List Value), (∀ D ∈ Cs, D.length = 12) → i < Cs.length → (Cs.set i C).flatten = Cs.flatten.take (i * 12) ++ C ++ Cs.flatten.drop (i * 12 + 12)
  | [], i, C, _, h => by simp at h
  | D :: Cs, 0, C, hD, _ => by
    have := hD D (by simp)
    simp [this]
  | D :: Cs, i + 1, C, hD, h => by
    have h1 := hD D (by simp)
    have ih := flat_set12 Cs i C (fun E hE => hD E (by simp [hE])) (by simpa using h)
    rw [List.set_cons_succ, List.flatten_cons, ih, List.flatten_cons, List.take_append, List.drop_append, h1]
    have e1 : (i + 1) * 12 - 12 = i * 12 := by omega
    have e2 : (i + 1) * 12 + 12 - 12 = i * 12 + 12 := by omega
    rw [e1, e2, List.take_of_length_le (by omega : D.length ≤ (i + 1) * 12), List.drop_of_length_le (by omega : D.length ≤ (i + 1) * 12 + 12)]
    simp
set_option maxHeartbeats 3200000 in
theorem ShOps.set {w0 w : World} {base g cap : Nat} {l : List OpV} (h : ShOps w0 w base (.slice (some ⟨g, 0, none⟩) l.length cap) l) (i : Nat) (hi : i < l.length) (v0 v1 v2 v3 v4 v5 v6 v7 v8 v9 v10 v11 : Value) (o : OpV) (ho : RdOpC w0 [v0, v1, v2, v3, v4, v5, v6, v7, v8, v9, v10, v11] o) :
    ShOps w0 ((((((((((((w.setCell ⟨g, i * 12, none⟩ v0).setCell ⟨g, i * 12 + 1, none⟩ v1).setCell ⟨g, i * 12 + 2, none⟩ v2).setCell ⟨g, i * 12 + 3, none⟩ v3).setCell ⟨g, i * 12 + 4, none⟩ v4).setCell ⟨g, i * 12 + 5, none⟩ v5).setCell ⟨g, i * 12 + 6, none⟩ v6).setCell ⟨g, i * 12 + 7, none⟩ v7).setCell ⟨g, i * 12 + 8, none⟩ v8).setCell ⟨g, i * 12 + 9, none⟩ v9).setCell ⟨g, i * 12 + 10, none⟩ v10).setCell ⟨g, i * 12 + 11, none⟩ v11) base (.slice (some ⟨g, 0, none⟩) (l.set i o).length cap) (l.set i o) ∧ Frm w ((((((((((((w.setCell ⟨g, i * 12, none⟩ v0).setCell ⟨g, i * 12 + 1, none⟩ v1).setCell ⟨g, i * 12 + 2, none⟩ v2).setCell ⟨g, i * 12 + 3, none⟩ v3).setCell ⟨g, i * 12 + 4, none⟩ v4).setCell ⟨g, i * 12 + 5, none⟩ v5).setCell ⟨g, i * 12 + 6, none⟩ v6).setCell ⟨g, i * 12 + 7, none⟩ v7).setCell ⟨g, i * 12 + 8, none⟩ v8).setCell ⟨g, i * 12 + 9, none⟩ v9).setCell ⟨g, i * 12 + 10, none⟩ v10).setCell ⟨g, i * 12 + 11, none⟩ v11) [g] := by
  obtain ⟨Cs, h1, h2, h3⟩ := h
  have hl := h3.1
  have hall : ∀ D ∈ Cs, D.length = 12 := by
    intro D hD
    obtain ⟨j, hj, rfl⟩ := List.getElem_of_mem hD
    have := (h2 j (by omega)).1
    have e : Cs.getD j [] = Cs[j] := by simp [List.getD_eq_getElem?_getD, hj]
    rw [e] at this
    exact this
  refine ⟨⟨Cs.set i [v0, v1, v2, v3, v4, v5, v6, v7, v8, v9, v10, v11], by simp [h1], fun j hj => ?_, ?_⟩, ((((((((((((set_frm w g _ _).trans (set_frm _ _ _ _)).trans (set_frm _ _ _ _)).trans (set_frm _ _ _ _)).trans (set_frm _ _ _ _)).trans (set_frm _ _ _ _)).trans (set_frm _ _ _ _)).trans (set_frm _ _ _ _)).trans (set_frm _ _ _ _)).trans (set_frm _ _ _ _)).trans (set_frm _ _ _ _)).trans (set_frm _ _ _ _))⟩
  · have hj' : j < l.length := by simpa using hj
    by_cases hij : i = j
    · subst hij
      rw [List.getD_eq_getElem?_getD, List.getElem?_set, if_pos rfl, if_pos (by omega), List.getElem_set_self]
      exact ⟨rfl, ho⟩
    · rw [List.getD_eq_getElem?_getD, List.getElem?_set, if_neg hij, ← List.getD_eq_getElem?_getD, List.getElem_set_ne hij]
      exact h2 j hj'
  · rw [List.length_set, flat_set12 Cs i _ hall (by omega)]
    have t0 := (h3.stored (i * 12) v0).1
    have t1 := (t0.stored (i * 12 + 1) v1).1
    have t2 := (t1.stored (i * 12 + 2) v2).1
    have t3 := (t2.stored (i * 12 + 3) v3).1
    have t4 := (t3.stored (i * 12 + 4) v4).1
    have t5 := (t4.stored (i * 12 + 5) v5).1
    have t6 := (t5.stored (i * 12 + 6) v6).1
    have t7 := (t6.stored (i * 12 + 7) v7).1
    have t8 := (t7.stored (i * 12 + 8) v8).1
    have t9 := (t8.stored (i * 12 + 9) v9).1
    have t10 := (t9.stored (i * 12 + 10) v10).1
    have t11 := (t10.stored (i * 12 + 11) v11).1
    rw [← set_twelveL Cs.flatten (i * 12) v0 v1 v2 v3 v4 v5 v6 v7 v8 v9 v10 v11 (by omega)]
    exact t11
/-- The cells that it takes the place of. -/
theorem ShOps.cells {w0 w : World} {base g cap : Nat} {l : List OpV} (h : ShOps w0 w base (.slice (some ⟨g, 0, none⟩) l.length cap) l) (i : Nat) (hi : i < l.length) (j : Nat) (hj : j < 12) : (∃ y, w.cell? ⟨g, i * 12 + j, none⟩ = some y) ∧ w.frozen? ⟨g, i * 12 + j, none⟩ = false := by
  obtain ⟨Cs, h1, h2, h3⟩ := h
  have hl := h3.1
  exact ⟨⟨Cs.flatten[i * 12 + j]'(by omega), by rw [h3.cellAt (i * 12 + j) (by omega), List.getElem?_eq_getElem (by omega)]⟩, h3.frozenAt (i * 12 + j)⟩
end Go.Proofs.YtaoodcielfabdaaGreat

/- An append of operations that are there to a row of the call's own. -/
namespace Go.Proofs.YtaoodcielfabdaaGreat
open Go.RowKit
set_option linter.unusedVariables false

/-- A stretch of operations: its cells lie in w, its operations are readable in w0. -/
def Seg (w0 w : World) (u : Value) (m : List OpV) : Prop :=
  (u = .slice none 0 0 ∧ m = []) ∨ (∃ x c, u = .slice (some x) 0 c ∧ m = []) ∨
  ∃ b off c, u = .slice (some ⟨b, off, none⟩) m.length c ∧ ∀ i (hi : i < m.length), ∃ C : List Value, C.length = 12 ∧ (∀ j, j < 12 → w.cell? ⟨b, off + i * 12 + j, none⟩ = C[j]?) ∧ RdOpC w0 C m[i]
theorem Seg.at {w0 w : World} {b off n c : Nat} {m : List OpV} (hn : m.length = n) (hB : Below w0.heap.size w0 w) (hb : b < w0.heap.size) (h : ∀ i (hi : i < m.length), ∃ C : List Value, C.length = 12 ∧ (∀ j, j < 12 → w0.cell? ⟨b, off + i * 12 + j, none⟩ = C[j]?) ∧ RdOpC w0 C m[i]) : Seg w0 w (.slice (some ⟨b, off, none⟩) n c) m :=
  .inr (.inr ⟨b, off, c, by rw [hn], fun i hi => by
    obtain ⟨C, hC, hc, hr⟩ := h i hi
    exact ⟨C, hC, fun j hj => (hB.cell (p := ⟨b, off + i * 12 + j, none⟩) hb).trans (hc j hj), hr⟩⟩)
/-- One operation in a new block. -/
theorem Seg.one {w0 w : World} {g : Nat} {C : List Value} {o : OpV} (hC : C.length = 12) (hl : Loc w g C.toArray 38) (hr : RdOpC w0 C o) : Seg w0 w (.slice (some ⟨g, 0, none⟩) 1 1) [o] :=
  .inr (.inr ⟨g, 0, 1, rfl, fun i hi => by
    have e : i = 0 := by simpa using hi
    subst e
    exact ⟨C, hC, fun j hj => by rw [Nat.zero_mul, Nat.zero_add, hl.cell j]; simp, hr⟩⟩)
theorem opc_one {w : World} {C : List Value} {o : OpV} (h : RdOpC w C o) : ∀ u ∈ C, u.oneCell' = true := by
  obtain ⟨k, n, t, rfl, hk, hn, ht⟩ := h
  obtain ⟨a1, c1, rfl, _, _⟩ := hk.shape
  obtain ⟨a2, c2, rfl, _, _⟩ := hn.shape
  obtain ⟨a3, c3, rfl, _, _⟩ := ht.shape
  intro u hu
  simp at hu
  rcases hu with rfl | rfl | rfl | rfl | rfl | rfl | rfl | rfl | rfl | rfl | rfl | rfl <;> rfl
end Go.Proofs.YtaoodcielfabdaaGreat

/- Rows of operations whose block is the call's own, their operations of whatever kind P; an append to such a row; a store into one. -/
namespace Go.Proofs.YtaoodcielfabdaaGreat
open Go.RowKit
set_option linter.unusedVariables false
set_option maxRecDepth 100000

/-- The row v is the call's own; its operations are readable in w0, the world in which the call began. -/
def ShOpsP (P : List Value → OpV → Prop) (w : World) (base : Nat) (v : Value) (l : List OpV) : Prop :=
  ∃ Cs : List (List Value), Cs.length = l.length ∧ (∀ i (hi : i < l.length), (Cs.getD i []).length = 12 ∧ P (Cs.getD i []) l[i]) ∧ w.ownsRow base 38 12 v l.length Cs.flatten
theorem sh_noneP (P : List Value → OpV → Prop) (w : World) (base : Nat) : ShOpsP P w base (.slice none 0 0) [] := ⟨[], rfl, fun i hi => by simp at hi, World.ownsRow_nil _ _ _ _⟩
theorem ShOpsP.rdOps {P : List Value → OpV → Prop} {w : World} {base : Nat} {v : Value} {l : List OpV} (hP : ∀ C o, P C o → RdOpC w C o) (h : ShOpsP P w base v l) : RdOps w v l := by
  obtain ⟨Cs, h1, h2, h3⟩ := h
  have hO : OwElems w 38 12 v l (fun C x G => RdOpC w C x ∧ G = []) (FB v ++ (List.replicate l.length ([] : List Nat)).flatten) :=
    ⟨Cs, List.replicate l.length [], h1, by simp, fun i hi => ⟨(h2 i hi).1, hP _ _ (h2 i hi).2, by simp [List.getD_eq_getElem?_getD, hi]⟩, ownsRow_base h3 0 (Nat.zero_le _), rfl⟩
  exact OwElems.rd hO (OwElems.len hO) (fun C x G hr => hr.1)
theorem ShOpsP.elems {P : List Value → OpV → Prop} {w : World} {base : Nat} {v : Value} {l : List OpV} (h : ShOpsP P w base v l) : Elems w 12 v l P := by
  obtain ⟨Cs, h1, h2, h3⟩ := h
  have hO : OwElems w 38 12 v l (fun C x G => P C x ∧ G = []) (FB v ++ (List.replicate l.length ([] : List Nat)).flatten) :=
    ⟨Cs, List.replicate l.length [], h1, by simp, fun i hi => ⟨(h2 i hi).1, (h2 i hi).2, by simp [List.getD_eq_getElem?_getD, hi]⟩, ownsRow_base h3 0 (Nat.zero_le _), rfl⟩
  exact OwElems.rd hO (OwElems.len hO) (fun C x G hr => hr.1)
theorem ShOpsP.low {P : List Value → OpV → Prop} {w : World} {b b' : Nat} {v : Value} {l : List OpV} (h : ShOpsP P w b v l) (hb : b' ≤ b) : ShOpsP P w b' v l := by
  obtain ⟨Cs, z1, z2, z3⟩ := h
  exact ⟨Cs, z1, z2, ownsRow_base z3 b' hb⟩
theorem ShOpsP.to {P P' : List Value → OpV → Prop} {w w' : World} {base : Nat} {v : Value} {l : List OpV} {S : List Nat} (hp : ∀ C o, P C o → P' C o) (h : ShOpsP P w base v l) (f : Frm w w' S) (hS : ∀ q ∈ S, q < base) : ShOpsP P' w' base v l := by
  obtain ⟨Cs, z1, z2, z3⟩ := h
  exact ⟨Cs, z1, fun i hi => ⟨(z2 i hi).1, hp _ _ (z2 i hi).2⟩, ownsRow_frm z3 f (fun q hq hq' => by have := hS q hq'; have := (z3.lt q (by simpa [FB] using hq)).1; omega)⟩
/-- The cells of a readable row, one behind the other. -/
theorem rd_flatP {P : List Value → OpV → Prop} {w : World} {b off n cap : Nat} {l : List OpV} (h : ∀ i (hi : i < l.length), ∃ C : List Value, C.length = 12 ∧ (∀ j, j < 12 → w.cell? ⟨b, off + i * 12 + j, none⟩ = C[j]?) ∧ P C l[i]) :
    ∃ Cs : List (List Value), Cs.length = l.length ∧ (∀ i (hi : i < l.length), (Cs.getD i []).length = 12 ∧ P (Cs.getD i []) l[i]) ∧ Cs.flatten.length = l.length * 12 ∧ ∀ j u, Cs.flatten[j]? = some u → w.cell? ⟨b, off + j, none⟩ = some u := by
  induction l generalizing off with
  | nil => exact ⟨[], rfl, fun i hi => by simp at hi, rfl, fun j u hj => by simp at hj⟩
  | cons o l ih =>
    obtain ⟨C, hC, hc, hr⟩ := h 0 (by simp)
    obtain ⟨Cs, h1, h2, h3, h4⟩ := ih (off := off + 12) (fun i hi => by
      obtain ⟨C, hC, hc, hr⟩ := h (i + 1) (by simpa using hi)
      refine ⟨C, hC, fun j hj => ?_, by simpa using hr⟩
      rw [← hc j hj]
      congr 2
      omega)
    refine ⟨C :: Cs, by simp [h1], fun i hi => ?_, by simp [hC]; simp at h3; omega, fun j u hj => ?_⟩
    · cases i with
      | zero => exact ⟨by simpa using hC, by simpa using hr⟩
      | succ i => simpa using h2 i (by simpa using hi)
    · rw [List.flatten_cons] at hj
      by_cases hj12 : j < 12
      · rw [List.getElem?_append_left (by omega)] at hj
        have := hc j hj12
        rw [hj] at this
        simpa using this
      · rw [List.getElem?_append_right (by omega), hC] at hj
        have := h4 (j - 12) u hj
        rw [← this]
        congr 2
        omega
/-- A stretch of operations: its cells lie in w, its operations are readable in w0. -/
def SegP (P : List Value → OpV → Prop) (w : World) (u : Value) (m : List OpV) : Prop :=
  (u = .slice none 0 0 ∧ m = []) ∨ (∃ x c, u = .slice (some x) 0 c ∧ m = []) ∨
  ∃ b off c, u = .slice (some ⟨b, off, none⟩) m.length c ∧ ∀ i (hi : i < m.length), ∃ C : List Value, C.length = 12 ∧ (∀ j, j < 12 → w.cell? ⟨b, off + i * 12 + j, none⟩ = C[j]?) ∧ P C m[i]
theorem SegP.at {P : List Value → OpV → Prop} {w0 w : World} {b off n c : Nat} {m : List OpV} (hn : m.length = n) (hB : Below w0.heap.size w0 w) (hb : b < w0.heap.size) (h : ∀ i (hi : i < m.length), ∃ C : List Value, C.length = 12 ∧ (∀ j, j < 12 → w0.cell? ⟨b, off + i * 12 + j, none⟩ = C[j]?) ∧ P C m[i]) : SegP P w (.slice (some ⟨b, off, none⟩) n c) m :=
  .inr (.inr ⟨b, off, c, by rw [hn], fun i hi => by
    obtain ⟨C, hC, hc, hr⟩ := h i hi
    exact ⟨C, hC, fun j hj => (hB.cell (p := ⟨b, off + i * 12 + j, none⟩) hb).trans (hc j hj), hr⟩⟩)
theorem elems_segP {P : List Value → OpV → Prop} {w0 w : World} {v : Value} {l : List OpV} (h : Elems w0 12 v l P) (hB : Below w0.heap.size w0 w) : SegP P w v l := by
  obtain ⟨_, ⟨rfl, rfl⟩ | ⟨x, cap, rfl, hc, rfl⟩ | ⟨b, off, cap, rfl, g1, g2, g3, g4, g5⟩⟩ := h
  · exact .inl ⟨rfl, rfl⟩
  · exact .inr (.inl ⟨x, cap, rfl, rfl⟩)
  · exact SegP.at rfl hB g4 g5
/-- One operation in a new block. -/
theorem SegP.one {P : List Value → OpV → Prop} {w : World} {g : Nat} {C : List Value} {o : OpV} (hC : C.length = 12) (hl : Loc w g C.toArray 38) (hr : P C o) : SegP P w (.slice (some ⟨g, 0, none⟩) 1 1) [o] :=
  .inr (.inr ⟨g, 0, 1, rfl, fun i hi => by
    have e : i = 0 := by simpa using hi
    subst e
    exact ⟨C, hC, fun j hj => by rw [Nat.zero_mul, Nat.zero_add, hl.cell j]; simp, hr⟩⟩)
theorem flat_oneP {P : List Value → OpV → Prop} {w0 : World} (hP : ∀ C o, P C o → RdOpC w0 C o) {l : List OpV} {Cs : List (List Value)} (h1 : Cs.length = l.length) (h : ∀ i (hi : i < l.length), (Cs.getD i []).length = 12 ∧ P (Cs.getD i []) l[i]) : ∀ u ∈ Cs.flatten, u.oneCell' = true := by
  intro u hu
  obtain ⟨C, hC, hmem⟩ := List.mem_flatten.1 hu
  obtain ⟨i, hi, rfl⟩ := List.getElem_of_mem hC
  have := (h i (by omega)).2
  have e : Cs.getD i [] = Cs[i] := by simp [List.getD_eq_getElem?_getD, hi]
  rw [e] at this
  exact opc_one (hP _ _ this) u hmem
theorem wpList_appShP {P : List Value → OpV → Prop} {w0 w : World} (hP : ∀ C o, P C o → RdOpC w0 C o) {ops : Array Oper} {rest : List Oper} {o : Oper} {a : Act} {Q : Exit → Act → World → Prop} (hgd : o.guard = none) (s x : Operand)
    (ho : o.op = .call { callee := .builtin .append, args := #[s, x], argTypes := #[27, 27] })
    (base : Nat) (v : Value) (l : List OpV) (hs : a.eval s = v) (hsh : ShOpsP P w base v l) (u : Value) (m : List OpV) (hx : a.eval x = u) (hu : SegP P w u m)
    (hlen : l.length + m.length ≤ 100000) (hbase : base ≤ w.heap.size)
    (h : ∀ v' w', ShOpsP P w' base v' (l ++ m) → w.grownBy w' v.ownBlock → wpList Tryz.prog ops Q rest (a.put o.dst v') w') : wpList Tryz.prog ops Q (o :: rest) a w := by
  obtain ⟨i0, hi, hz0, hz1, hz2⟩ := info_parts Tryz.info38
  obtain ⟨Cs, h1, h2, h3⟩ := hsh
  have hfull : ∀ (ad : Addr) (c : Nat) (Ds : List (List Value)), a.eval x = .slice (some ad) m.length c → Ds.length = m.length → (∀ i (hi : i < m.length), (Ds.getD i []).length = 12 ∧ P (Ds.getD i []) m[i]) → Ds.flatten.length = m.length * 12 → (∀ j y, Ds.flatten[j]? = some y → w.cell? (ad.add j) = some y) → wpList Tryz.prog ops Q (o :: rest) a w := by
    intro ad c Ds hx' e1 e2 e3 hc
    refine wpList_append_own _ hgd s x 27 ho base 38 i0 _ 12 144 Tryz.underlying27 hi hz0 hz1 hz2 rfl (by decide) v l.length Cs.flatten hs h3 ad m.length c Ds.flatten hx' e3 hc (flat_oneP hP e1 e2) (by unfold maxLen; omega) (by omega) hbase ?_
    intro v' w' k1 k2 _
    refine h v' w' ⟨Cs ++ Ds, by simp [h1, e1], fun i hi => ?_, ?_⟩ k2
    · by_cases hil : i < l.length
      · rw [List.getD_eq_getElem?_getD, List.getElem?_append_left (by omega), ← List.getD_eq_getElem?_getD, List.getElem_append_left hil]
        exact h2 i hil
      · rw [List.getD_eq_getElem?_getD, List.getElem?_append_right (by omega), ← List.getD_eq_getElem?_getD, List.getElem_append_right (by omega), h1]
        exact e2 (i - l.length) (by simp at hi; omega)
    · rw [List.length_append, List.flatten_append]; exact k1
  rcases hu with ⟨rfl, rfl⟩ | ⟨y, c, rfl, rfl⟩ | ⟨b, off, c, rfl, hel⟩
  · refine wpList_append_own_none hgd s x 27 ho base 38 i0 12 Tryz.underlying27 hi v l.length Cs.flatten hs h3 hx ?_
    exact h v w (by rw [List.append_nil]; exact ⟨Cs, h1, h2, h3⟩) (World.grownBy.refl _ _)
  · exact hfull y c [] hx rfl (fun i hi => by simp at hi) rfl (fun j y hj => by simp at hj)
  · obtain ⟨Ds, e1, e2, e3, e4⟩ := rd_flatP (n := 0) (cap := 0) hel
    exact hfull ⟨b, off, none⟩ c Ds hx e1 e2 e3 (fun j y hj => by rw [add_plain]; exact e4 j y hj)
set_option maxHeartbeats 3200000 in
theorem ShOpsP.set {P : List Value → OpV → Prop} {w : World} {base g cap : Nat} {l : List OpV} (h : ShOpsP P w base (.slice (some ⟨g, 0, none⟩) l.length cap) l) (i : Nat) (hi : i < l.length) (v0 v1 v2 v3 v4 v5 v6 v7 v8 v9 v10 v11 : Value) (o : OpV) (ho : P [v0, v1, v2, v3, v4, v5, v6, v7, v8, v9, v10, v11] o) :
    ShOpsP P ((((((((((((w.setCell ⟨g, i * 12, none⟩ v0).setCell ⟨g, i * 12 + 1, none⟩ v1).setCell ⟨g, i * 12 + 2, none⟩ v2).setCell ⟨g, i * 12 + 3, none⟩ v3).setCell ⟨g, i * 12 + 4, none⟩ v4).setCell ⟨g, i * 12 + 5, none⟩ v5).setCell ⟨g, i * 12 + 6, none⟩ v6).setCell ⟨g, i * 12 + 7, none⟩ v7).setCell ⟨g, i * 12 + 8, none⟩ v8).setCell ⟨g, i * 12 + 9, none⟩ v9).setCell ⟨g, i * 12 + 10, none⟩ v10).setCell ⟨g, i * 12 + 11, none⟩ v11) base (.slice (some ⟨g, 0, none⟩) (l.set i o).length cap) (l.set i o) ∧ Frm w ((((((((((((w.setCell ⟨g, i * 12, none⟩ v0).setCell ⟨g, i * 12 + 1, none⟩ v1).setCell ⟨g, i * 12 + 2, none⟩ v2).setCell ⟨g, i * 12 + 3, none⟩ v3).setCell ⟨g, i * 12 + 4, none⟩ v4).setCell ⟨g, i * 12 + 5, none⟩ v5).setCell ⟨g, i * 12 + 6, none⟩ v6).setCell ⟨g, i * 12 + 7, none⟩ v7).setCell ⟨g, i * 12 + 8, none⟩ v8).setCell ⟨g, i * 12 + 9, none⟩ v9).setCell ⟨g, i * 12 + 10, none⟩ v10).setCell ⟨g, i * 12 + 11, none⟩ v11) [g] := by
  obtain ⟨Cs, h1, h2, h3⟩ := h
  have hl := h3.1
  have hall : ∀ D ∈ Cs, D.length = 12 := by
    intro D hD
    obtain ⟨j, hj, rfl⟩ := List.getElem_of_mem hD
    have := (h2 j (by omega)).1
    have e : Cs.getD j [] = Cs[j] := by simp [List.getD_eq_getElem?_getD, hj]
    rw [e] at this
    exact this
  refine ⟨⟨Cs.set i [v0, v1, v2, v3, v4, v5, v6, v7, v8, v9, v10, v11], by simp [h1], fun j hj => ?_, ?_⟩, ((((((((((((set_frm w g _ _).trans (set_frm _ _ _ _)).trans (set_frm _ _ _ _)).trans (set_frm _ _ _ _)).trans (set_frm _ _ _ _)).trans (set_frm _ _ _ _)).trans (set_frm _ _ _ _)).trans (set_frm _ _ _ _)).trans (set_frm _ _ _ _)).trans (set_frm _ _ _ _)).trans (set_frm _ _ _ _)).trans (set_frm _ _ _ _))⟩
  · have hj' : j < l.length := by simpa using hj
    by_cases hij : i = j
    · subst hij
      rw [List.getD_eq_getElem?_getD, List.getElem?_set, if_pos rfl, if_pos (by omega), List.getElem_set_self]
      exact ⟨rfl, ho⟩
    · rw [List.getD_eq_getElem?_getD, List.getElem?_set, if_neg hij, ← List.getD_eq_getElem?_getD, List.getElem_set_ne hij]
      exact h2 j hj'
  · rw [List.length_set, flat_set12 Cs i _ hall (by omega)]
    have t0 := (h3.stored (i * 12) v0).1
    have t1 := (t0.stored (i * 12 + 1) v1).1
    have t2 := (t1.stored (i * 12 + 2) v2).1
    have t3 := (t2.stored (i * 12 + 3) v3).1
    have t4 := (t3.stored (i * 12 + 4) v4).1
    have t5 := (t4.stored (i * 12 + 5) v5).1
    have t6 := (t5.stored (i * 12 + 6) v6).1
    have t7 := (t6.stored (i * 12 + 7) v7).1
    have t8 := (t7.stored (i * 12 + 8) v8).1
    have t9 := (t8.stored (i * 12 + 9) v9).1
    have t10 := (t9.stored (i * 12 + 10) v10).1
    have t11 := (t10.stored (i * 12 + 11) v11).1
    rw [← set_twelveL Cs.flatten (i * 12) v0 v1 v2 v3 v4 v5 v6 v7 v8 v9 v10 v11 (by omega)]
    exact t11
/-- The cells that it takes the place of. -/
theorem ShOpsP.cells {P : List Value → OpV → Prop} {w : World} {base g cap : Nat} {l : List OpV} (h : ShOpsP P w base (.slice (some ⟨g, 0, none⟩) l.length cap) l) (i : Nat) (hi : i < l.length) (j : Nat) (hj : j < 12) : (∃ y, w.cell? ⟨g, i * 12 + j, none⟩ = some y) ∧ w.frozen? ⟨g, i * 12 + j, none⟩ = false := by
  obtain ⟨Cs, h1, h2, h3⟩ := h
  have hl := h3.1
  exact ⟨⟨Cs.flatten[i * 12 + j]'(by omega), by rw [h3.cellAt (i * 12 + j) (by omega), List.getElem?_eq_getElem (by omega)]⟩, h3.frozenAt (i * 12 + j)⟩
end Go.Proofs.YtaoodcielfabdaaGreat

/- spec.Less and impl.Less answer what the plain order says; the law on Less. -/
namespace Go.Proofs.YtaoodcielfabdaaGreat
open Go.RowKit
set_option linter.unusedVariables false
set_option maxRecDepth 100000

def lessB (n r n' r' : Int) : Bool := decide (n < n') || (n == n' && decide (r < r'))

theorem lessB_cases (n r n' r' : Int) :
    (lessB n r n' r' = true ∧ decide (n < n') = true ∧ (n == n') = false ∧ n ≠ n') ∨
    (lessB n r n' r' = false ∧ decide (n < n') = false ∧ (n == n') = false ∧ n ≠ n') ∨
    (n = n' ∧ lessB n r n' r' = true ∧ decide (n < n') = false ∧ decide (r < r') = true ∧ r ≠ r') ∨
    (n = n' ∧ lessB n r n' r' = false ∧ decide (n < n') = false ∧ decide (r < r') = false) := by
  unfold lessB
  simp only [Bool.or_eq_true, Bool.or_eq_false_iff, Bool.and_eq_true, Bool.and_eq_false_iff, beq_iff_eq, beq_eq_false_iff_ne, decide_eq_true_eq, decide_eq_false_iff_not]
  omega

set_option maxHeartbeats 1600000 in
theorem lessS_any (w : World) (n r n' r' : Int) :
    Calls Tryz.prog 35 #[.agg #[.int .i64 n, .int .i64 r], .agg #[.int .i64 n', .int .i64 r']] w fun e w' => e = .returned (.bool (lessB n r n' r')) ∧ Below w.heap.size w w' := by
  have HB := hide (((Below.refl w.heap.size w).alloc (Nat.le_refl _) (.cells #[.int .i64 n, .int .i64 r] 35)).alloc (by simp) (.cells #[.int .i64 n', .int .i64 r'] 35))
  rcases lessB_cases n r n' r' with ⟨h, q1, q2, q3⟩ | ⟨h, q1, q2, q3⟩ | ⟨rfl, h, q1, q2, q3⟩ | ⟨rfl, h, q1, q2⟩
  all_goals
    have HE := hide h
    clear h
    go_enter Tryz.func35, Tryz.ntmps35
    go_wp2
    go_ret
    exact ⟨by rw [unhide HE]; rfl, unhide HB⟩

theorem Loc.two {w : World} {g : Nat} {v0 v1 : Value} {T : TypeId} (h : Loc w g #[v0, v1] T) : w.cell? ⟨g, 0, none⟩ = some v0 ∧ w.cell? ⟨g, 1, none⟩ = some v1 := ⟨h.cell 0, h.cell 1⟩

/-- Below 0, 0 or above 0. -/
def ordI (n r n' r' : Int) : Int := if n = n' ∧ r = r' then 0 else if lessB n r n' r' then -1 else 1
theorem ordI_lt (n r n' r' : Int) : decide (ordI n r n' r' < 0) = lessB n r n' r' := by
  unfold ordI
  split
  · rename_i h
    obtain ⟨rfl, rfl⟩ := h
    unfold lessB
    simp
  · split <;> simp [*]

set_option maxHeartbeats 1600000 in
theorem orderI_any (w : World) (n r n' r' : Int) :
    Calls Tryz.prog 92 #[.agg #[.int .i64 n, .int .i64 r], .agg #[.int .i64 n', .int .i64 r']] w fun e w' => e = .returned (.int .i64 (ordI n r n' r')) ∧ Below w.heap.size w w' := by
  have HB := hide (((Below.refl w.heap.size w).alloc (Nat.le_refl _) (.cells #[.int .i64 n, .int .i64 r] 35)).alloc (by simp) (.cells #[.int .i64 n', .int .i64 r'] 35))
  rcases lessB_cases n r n' r' with ⟨h, q1, q2, q3⟩ | ⟨h, q1, q2, q3⟩ | ⟨rfl, h, q1, q2, q3⟩ | ⟨rfl, h, q1, q2⟩
  · have HE := hide (show ordI n r n' r' = -1 by unfold ordI; rw [if_neg (fun k => q3 k.1), h]; rfl)
    clear h
    go_enter Tryz.func92, Tryz.ntmps92
    go_wp2
    go_ret
    exact ⟨by rw [unhide HE]; rfl, unhide HB⟩
  · have HE := hide (show ordI n r n' r' = 1 by unfold ordI; rw [if_neg (fun k => q3 k.1), h]; rfl)
    clear h
    go_enter Tryz.func92, Tryz.ntmps92
    go_wp2
    go_ret
    exact ⟨by rw [unhide HE]; rfl, unhide HB⟩
  · have HE := hide (show ordI n r n r' = -1 by unfold ordI; rw [if_neg (fun k => q3 k.2), h]; rfl)
    have q4 : (r == r') = false := by simpa using q3
    clear h
    go_enter Tryz.func92, Tryz.ntmps92
    go_wp2
    go_ret
    exact ⟨by rw [unhide HE]; rfl, unhide HB⟩
  · by_cases h2 : r = r'
    · subst h2
      have HE := hide (show ordI n r n r = 0 by unfold ordI; rw [if_pos ⟨rfl, rfl⟩])
      clear h
      go_enter Tryz.func92, Tryz.ntmps92
      go_wp2
      go_ret
      exact ⟨by rw [unhide HE]; rfl, unhide HB⟩
    · have HE := hide (show ordI n r n r' = 1 by unfold ordI; rw [if_neg (fun k => h2 k.2), h]; rfl)
      have q4 : (r == r') = false := by simpa using h2
      clear h
      go_enter Tryz.func92, Tryz.ntmps92
      go_wp2
      go_ret
      exact ⟨by rw [unhide HE]; rfl, unhide HB⟩

set_option maxHeartbeats 1600000 in
theorem lessI_any (w : World) (n r n' r' : Int) :
    Calls Tryz.prog 37 #[.agg #[.int .i64 n, .int .i64 r], .agg #[.int .i64 n', .int .i64 r']] w fun e w' => e = .returned (.bool (lessB n r n' r')) ∧ Below w.heap.size w w' := by
  have hB := (((Below.refl w.heap.size w).alloc (Nat.le_refl _) (.cells #[.int .i64 n, .int .i64 r] 35)).alloc (by simp) (.cells #[.int .i64 n', .int .i64 r'] 35))
  go_enter Tryz.func37, Tryz.ntmps37
  go_wp2_with fail
  refine (orderI_any _ n r n' r').mono ?_
  rintro e w1 ⟨rfl, hB1⟩
  have hB2 := bstep hB hB1
  have hl := ordI_lt n r n' r'
  generalize ordI n r n' r' = z at *
  go_wp2
  go_ret
  exact ⟨by rw [← hl]; rfl, hB2⟩

end Go.Proofs.YtaoodcielfabdaaGreat

/- Rows of operations: empty, or in a block. -/
namespace Go.Proofs.YtaoodcielfabdaaGreat
open Go.RowKit
set_option linter.unusedVariables false
set_option maxRecDepth 100000

theorem RdOps.cases {w : World} {v : Value} {l : List OpV} (h : RdOps w v l) : (l = [] ∧ ∃ a cap, v = .slice a 0 cap) ∨ (∃ b off cap, v = .slice (some ⟨b, off, none⟩) l.length cap ∧ l ≠ [] ∧ b < w.heap.size ∧ ∀ i (hi : i < l.length), ∃ C : List Value, C.length = 12 ∧ (∀ j, j < 12 → w.cell? ⟨b, off + i * 12 + j, none⟩ = C[j]?) ∧ RdOpC w C l[i]) := by
  obtain ⟨_, ⟨rfl, rfl⟩ | ⟨x, cap, rfl, hc, rfl⟩ | ⟨b, off, cap, rfl, g1, g2, g3, g4, g5⟩⟩ := h
  · exact .inl ⟨rfl, _, _, rfl⟩
  · exact .inl ⟨rfl, _, _, rfl⟩
  · exact .inr ⟨b, off, cap, rfl, g3, g4, g5⟩
/-- An operation of a row is one, and behind the one ahead of it. -/
def okAt (l : List OpV) (i : Nat) : Bool := if h : i < l.length then opB l[i] && (decide (i = 0) || lessB (l[i - 1]'(by omega)).atN (l[i - 1]'(by omega)).atR l[i].atN l[i].atR) else true
def opsB (l : List OpV) : Bool := decide (l.length ≤ 150) && (List.range l.length).all (okAt l)
theorem opsB_long {l : List OpV} (h : 150 < l.length) : opsB l = false := by unfold opsB; rw [decide_eq_false (by omega)]; rfl
theorem opsB_bad {l : List OpV} {k : Nat} (hk : k < l.length) (h : okAt l k = false) : opsB l = false := by
  unfold opsB
  rw [Bool.and_eq_false_iff]
  right
  rw [List.all_eq_false]
  exact ⟨k, by simpa using hk, by simp [h]⟩
theorem opsB_good {l : List OpV} (hn : l.length ≤ 150) (h : ∀ j, j < l.length → okAt l j = true) : opsB l = true := by
  unfold opsB
  rw [decide_eq_true hn, Bool.true_and, List.all_eq_true]
  intro j hj
  exact h j (by simpa using hj)
theorem okAt_no {l : List OpV} {k : Nat} (hk : k < l.length) (h : opB l[k] = false) : okAt l k = false := by unfold okAt; rw [dif_pos hk, h]; rfl
theorem okAt_0 {l : List OpV} (hk : 0 < l.length) (h : opB l[0] = true) : okAt l 0 = true := by unfold okAt; rw [dif_pos hk, h]; rfl
theorem okAt_s {l : List OpV} {j : Nat} (hk : j + 1 < l.length) (h : opB l[j + 1] = true) : okAt l (j + 1) = lessB (l[j]'(by omega)).atN (l[j]'(by omega)).atR l[j + 1].atN l[j + 1].atR := by
  unfold okAt
  rw [dif_pos hk, h, Bool.true_and]
  rw [decide_eq_false (by omega), Bool.false_or]
  rfl
end Go.Proofs.YtaoodcielfabdaaGreat

/- Where an operation's place is among sorted ones. Plain mathematics. -/
namespace Go.Proofs.YtaoodcielfabdaaGreat
open Go.RowKit
set_option linter.unusedVariables false

theorem less_trans {a b c d e f : Int} (h : lessB a b c d = true) (k : lessB c d e f = true) : lessB a b e f = true := by
  unfold lessB at *
  simp only [Bool.or_eq_true, decide_eq_true_eq, Bool.and_eq_true, beq_iff_eq] at *
  omega
theorem less_irr (a b : Int) : lessB a b a b = false := by unfold lessB; simp
theorem less_anti {a b c d : Int} (h : lessB a b c d = true) : lessB c d a b = false := by
  cases k : lessB c d a b with
  | false => rfl
  | true => have := less_trans h k; rw [less_irr] at this; cases this
/-- Ahead of the stamp (n, r). -/
def ahead (n r : Int) (p : OpV) : Bool := lessB p.atN p.atR n r
def posO (l : List OpV) (n r : Int) : Nat := (l.takeWhile (ahead n r)).length
theorem opsB_parts {l : List OpV} (h : opsB l = true) : l.length ≤ 150 ∧ ∀ j, j < l.length → okAt l j = true := by
  unfold opsB at h
  rw [Bool.and_eq_true, decide_eq_true_eq, List.all_eq_true] at h
  exact ⟨h.1, fun j hj => h.2 j (by simpa using hj)⟩
theorem opsB_each {l : List OpV} (h : opsB l = true) {j : Nat} (hj : j < l.length) : opB l[j] = true := by
  have := (opsB_parts h).2 j hj
  unfold okAt at this
  rw [dif_pos hj, Bool.and_eq_true] at this
  exact this.1
theorem opsB_next {l : List OpV} (h : opsB l = true) {j : Nat} (hj : j + 1 < l.length) : lessB l[j].atN l[j].atR l[j + 1].atN l[j + 1].atR = true := by
  have h1 := (opsB_parts h).2 (j + 1) hj
  rw [okAt_s hj (opsB_each h hj)] at h1
  exact h1
theorem opsB_sorted {l : List OpV} (h : opsB l = true) {i j : Nat} (hij : i < j) (hj : j < l.length) : lessB l[i].atN l[i].atR l[j].atN l[j].atR = true := by
  obtain ⟨d, rfl⟩ : ∃ d, j = i + 1 + d := ⟨j - i - 1, by omega⟩
  induction d with
  | zero => exact opsB_next h hj
  | succ d ih => exact less_trans (ih (by omega) (by omega)) (opsB_next h (j := i + 1 + d) hj)
/-- What is ahead of a stamp is a head of a sorted row. -/
theorem ahead_down {l : List OpV} (h : opsB l = true) {n r : Int} {i j : Nat} (hij : i ≤ j) (hj : j < l.length) (ha : ahead n r l[j] = true) : ahead n r l[i] = true := by
  rcases Nat.lt_or_eq_of_le hij with hlt | rfl
  · exact less_trans (opsB_sorted h hlt hj) ha
  · exact ha
theorem posO_of {l : List OpV} {n r : Int} {i : Nat} (hi : i ≤ l.length) (h1 : ∀ k (hk : k < l.length), k < i → ahead n r l[k] = true) (h2 : ∀ hk : i < l.length, ahead n r l[i] = false) : posO l n r = i := by
  unfold posO
  induction l generalizing i with
  | nil => simp at hi; subst hi; rfl
  | cons p l ih =>
    cases i with
    | zero =>
      have := h2 (by simp)
      simp only [List.getElem_cons_zero] at this
      rw [List.takeWhile_cons, if_neg (by rw [this]; decide)]
      rfl
    | succ i =>
      have h0 := h1 0 (by simp) (by omega)
      simp only [List.getElem_cons_zero] at h0
      rw [List.takeWhile_cons, if_pos h0, List.length_cons]
      rw [ih (i := i) (by simpa using hi) (fun k hk hki => by have := h1 (k + 1) (by simpa using hk) (by omega); simpa using this) (fun hk => by have := h2 (by simpa using hk); simpa using this)]
theorem posO_le (l : List OpV) (n r : Int) : posO l n r ≤ l.length := by
  unfold posO
  exact (List.takeWhile_prefix _).length_le
/-- An operation with this stamp stands at its place. -/
def there (l : List OpV) (n r : Int) : Bool := if h : posO l n r < l.length then decide (l[posO l n r].atN = n ∧ l[posO l n r].atR = r) else false
end Go.Proofs.YtaoodcielfabdaaGreat

/- A region that draws its order, whose operations only read and whose callees leave what was there as it was: one walk, in the order of the text. No program. -/
namespace Go.Proofs.YtaoodcielfabdaaGreat
open Go.RowKit
set_option linter.unusedVariables false

/-- A world in which all that was there in w is as it was. -/
structure Gr (w : World) where
  W : World
  h : Below w.heap.size w W
theorem wp_region_gr {P : Program} {id : Nat} {Q : Exit → Act → World → Prop} {a : Act} {w : World} {l : List Oper} (hm : P.follows .mixedOrders = true) (hB : Region.lexB .any l.toArray = true)
    (h : wpQuiet P l.toArray (fun w' => ∃ p : Gr w, w' = p.W) (fun a' => ∀ w', (∃ p : Gr w, w' = p.W) → Q .normal a' w') l a) : (Code.region id l.toArray true).wp P Q a w :=
  wp_region_quiet (C := fun w' => ∃ p : Gr w, w' = p.W) hm hB ⟨⟨w.drew, (Below.refl _ _).drew⟩, rfl⟩ (by simpa using h)
theorem Gr.cell {w : World} {a : Addr} {v : Value} (hb : a.block < w.heap.size) (h : w.cell? a = some v) (p : Gr w) : p.W.cell? a = some v := (p.h.cell hb).trans h
/-- A callee's contract, met in such a world. -/
theorem calls_gr {P : Program} {f : FuncId} {args : Array Value} {w : World} {p : Gr w} {v : Value} (h : Calls P f args p.W fun e w' => e = .returned v ∧ Below p.W.heap.size p.W w') : Calls P f args p.W fun e w'' => e = .returned v ∧ ∃ q : Gr w, w'' = q.W :=
  h.mono fun _ _ ⟨he, hB⟩ => ⟨he, ⟨⟨_, bstep p.h hB⟩, rfl⟩⟩
end Go.Proofs.YtaoodcielfabdaaGreat

/- Small laws of the walk. No program. -/
namespace Go.Proofs.YtaoodcielfabdaaGreat
open Go.RowKit
set_option linter.unusedVariables false

theorem calls_via {P : Program} {f : FuncId} {args : Array Value} {w : World} {R : Ending → World → Prop} (h : ∀ Q : Ending → World → Prop, Hid (∀ e w', R e w' → Q e w') → Calls P f args w Q) : Calls P f args w R := h R (hide fun _ _ h => h)
theorem setGO (w : World) (g j : Nat) (v : Value) : w.grownBy (w.setCell ⟨g, j, none⟩ v) (some g) := ⟨rfl, rfl, rfl, by simp, fun k _ hk => heap_setCell_other w ⟨g, j, none⟩ k v (fun e => hk (by simp [e]))⟩
theorem set_twelve {w : World} {g : Nat} {T : TypeId} {u0 u1 u2 u3 u4 u5 u6 u7 u8 u9 u10 u11 : Value} (h : Loc w g #[u0, u1, u2, u3, u4, u5, u6, u7, u8, u9, u10, u11] T) (v0 v1 v2 v3 v4 v5 v6 v7 v8 v9 v10 v11 : Value) : Loc ((((((((((((w.setCell ⟨g, 0, none⟩ v0).setCell ⟨g, 1, none⟩ v1).setCell ⟨g, 2, none⟩ v2).setCell ⟨g, 3, none⟩ v3).setCell ⟨g, 4, none⟩ v4).setCell ⟨g, 5, none⟩ v5).setCell ⟨g, 6, none⟩ v6).setCell ⟨g, 7, none⟩ v7).setCell ⟨g, 8, none⟩ v8).setCell ⟨g, 9, none⟩ v9).setCell ⟨g, 10, none⟩ v10).setCell ⟨g, 11, none⟩ v11) g #[v0, v1, v2, v3, v4, v5, v6, v7, v8, v9, v10, v11] T := by
  have h0 : Loc (w.setCell ⟨g, 0, none⟩ v0) g #[v0, u1, u2, u3, u4, u5, u6, u7, u8, u9, u10, u11] T := h.set 0 v0
  have h1 : Loc ((w.setCell ⟨g, 0, none⟩ v0).setCell ⟨g, 1, none⟩ v1) g #[v0, v1, u2, u3, u4, u5, u6, u7, u8, u9, u10, u11] T := h0.set 1 v1
  have h2 : Loc (((w.setCell ⟨g, 0, none⟩ v0).setCell ⟨g, 1, none⟩ v1).setCell ⟨g, 2, none⟩ v2) g #[v0, v1, v2, u3, u4, u5, u6, u7, u8, u9, u10, u11] T := h1.set 2 v2
  have h3 : Loc ((((w.setCell ⟨g, 0, none⟩ v0).setCell ⟨g, 1, none⟩ v1).setCell ⟨g, 2, none⟩ v2).setCell ⟨g, 3, none⟩ v3) g #[v0, v1, v2, v3, u4, u5, u6, u7, u8, u9, u10, u11] T := h2.set 3 v3
  have h4 : Loc (((((w.setCell ⟨g, 0, none⟩ v0).setCell ⟨g, 1, none⟩ v1).setCell ⟨g, 2, none⟩ v2).setCell ⟨g, 3, none⟩ v3).setCell ⟨g, 4, none⟩ v4) g #[v0, v1, v2, v3, v4, u5, u6, u7, u8, u9, u10, u11] T := h3.set 4 v4
  have h5 : Loc ((((((w.setCell ⟨g, 0, none⟩ v0).setCell ⟨g, 1, none⟩ v1).setCell ⟨g, 2, none⟩ v2).setCell ⟨g, 3, none⟩ v3).setCell ⟨g, 4, none⟩ v4).setCell ⟨g, 5, none⟩ v5) g #[v0, v1, v2, v3, v4, v5, u6, u7, u8, u9, u10, u11] T := h4.set 5 v5
  have h6 : Loc (((((((w.setCell ⟨g, 0, none⟩ v0).setCell ⟨g, 1, none⟩ v1).setCell ⟨g, 2, none⟩ v2).setCell ⟨g, 3, none⟩ v3).setCell ⟨g, 4, none⟩ v4).setCell ⟨g, 5, none⟩ v5).setCell ⟨g, 6, none⟩ v6) g #[v0, v1, v2, v3, v4, v5, v6, u7, u8, u9, u10, u11] T := h5.set 6 v6
  have h7 : Loc ((((((((w.setCell ⟨g, 0, none⟩ v0).setCell ⟨g, 1, none⟩ v1).setCell ⟨g, 2, none⟩ v2).setCell ⟨g, 3, none⟩ v3).setCell ⟨g, 4, none⟩ v4).setCell ⟨g, 5, none⟩ v5).setCell ⟨g, 6, none⟩ v6).setCell ⟨g, 7, none⟩ v7) g #[v0, v1, v2, v3, v4, v5, v6, v7, u8, u9, u10, u11] T := h6.set 7 v7
  have h8 : Loc (((((((((w.setCell ⟨g, 0, none⟩ v0).setCell ⟨g, 1, none⟩ v1).setCell ⟨g, 2, none⟩ v2).setCell ⟨g, 3, none⟩ v3).setCell ⟨g, 4, none⟩ v4).setCell ⟨g, 5, none⟩ v5).setCell ⟨g, 6, none⟩ v6).setCell ⟨g, 7, none⟩ v7).setCell ⟨g, 8, none⟩ v8) g #[v0, v1, v2, v3, v4, v5, v6, v7, v8, u9, u10, u11] T := h7.set 8 v8
  have h9 : Loc ((((((((((w.setCell ⟨g, 0, none⟩ v0).setCell ⟨g, 1, none⟩ v1).setCell ⟨g, 2, none⟩ v2).setCell ⟨g, 3, none⟩ v3).setCell ⟨g, 4, none⟩ v4).setCell ⟨g, 5, none⟩ v5).setCell ⟨g, 6, none⟩ v6).setCell ⟨g, 7, none⟩ v7).setCell ⟨g, 8, none⟩ v8).setCell ⟨g, 9, none⟩ v9) g #[v0, v1, v2, v3, v4, v5, v6, v7, v8, v9, u10, u11] T := h8.set 9 v9
  have h10 : Loc (((((((((((w.setCell ⟨g, 0, none⟩ v0).setCell ⟨g, 1, none⟩ v1).setCell ⟨g, 2, none⟩ v2).setCell ⟨g, 3, none⟩ v3).setCell ⟨g, 4, none⟩ v4).setCell ⟨g, 5, none⟩ v5).setCell ⟨g, 6, none⟩ v6).setCell ⟨g, 7, none⟩ v7).setCell ⟨g, 8, none⟩ v8).setCell ⟨g, 9, none⟩ v9).setCell ⟨g, 10, none⟩ v10) g #[v0, v1, v2, v3, v4, v5, v6, v7, v8, v9, v10, u11] T := h9.set 10 v10
  have h11 : Loc ((((((((((((w.setCell ⟨g, 0, none⟩ v0).setCell ⟨g, 1, none⟩ v1).setCell ⟨g, 2, none⟩ v2).setCell ⟨g, 3, none⟩ v3).setCell ⟨g, 4, none⟩ v4).setCell ⟨g, 5, none⟩ v5).setCell ⟨g, 6, none⟩ v6).setCell ⟨g, 7, none⟩ v7).setCell ⟨g, 8, none⟩ v8).setCell ⟨g, 9, none⟩ v9).setCell ⟨g, 10, none⟩ v10).setCell ⟨g, 11, none⟩ v11) g #[v0, v1, v2, v3, v4, v5, v6, v7, v8, v9, v10, v11] T := h10.set 11 v11
  exact h11
theorem grow_twelve (w : World) (g : Nat) (v0 v1 v2 v3 v4 v5 v6 v7 v8 v9 v10 v11 : Value) : w.grownBy ((((((((((((w.setCell ⟨g, 0, none⟩ v0).setCell ⟨g, 1, none⟩ v1).setCell ⟨g, 2, none⟩ v2).setCell ⟨g, 3, none⟩ v3).setCell ⟨g, 4, none⟩ v4).setCell ⟨g, 5, none⟩ v5).setCell ⟨g, 6, none⟩ v6).setCell ⟨g, 7, none⟩ v7).setCell ⟨g, 8, none⟩ v8).setCell ⟨g, 9, none⟩ v9).setCell ⟨g, 10, none⟩ v10).setCell ⟨g, 11, none⟩ v11) (some g) := by
  have h0 : w.grownBy (w.setCell ⟨g, 0, none⟩ v0) (some g) := setGO w g 0 v0
  have h1 : w.grownBy ((w.setCell ⟨g, 0, none⟩ v0).setCell ⟨g, 1, none⟩ v1) (some g) := grown_trans h0 (setGO _ g 1 v1)
  have h2 : w.grownBy (((w.setCell ⟨g, 0, none⟩ v0).setCell ⟨g, 1, none⟩ v1).setCell ⟨g, 2, none⟩ v2) (some g) := grown_trans h1 (setGO _ g 2 v2)
  have h3 : w.grownBy ((((w.setCell ⟨g, 0, none⟩ v0).setCell ⟨g, 1, none⟩ v1).setCell ⟨g, 2, none⟩ v2).setCell ⟨g, 3, none⟩ v3) (some g) := grown_trans h2 (setGO _ g 3 v3)
  have h4 : w.grownBy (((((w.setCell ⟨g, 0, none⟩ v0).setCell ⟨g, 1, none⟩ v1).setCell ⟨g, 2, none⟩ v2).setCell ⟨g, 3, none⟩ v3).setCell ⟨g, 4, none⟩ v4) (some g) := grown_trans h3 (setGO _ g 4 v4)
  have h5 : w.grownBy ((((((w.setCell ⟨g, 0, none⟩ v0).setCell ⟨g, 1, none⟩ v1).setCell ⟨g, 2, none⟩ v2).setCell ⟨g, 3, none⟩ v3).setCell ⟨g, 4, none⟩ v4).setCell ⟨g, 5, none⟩ v5) (some g) := grown_trans h4 (setGO _ g 5 v5)
  have h6 : w.grownBy (((((((w.setCell ⟨g, 0, none⟩ v0).setCell ⟨g, 1, none⟩ v1).setCell ⟨g, 2, none⟩ v2).setCell ⟨g, 3, none⟩ v3).setCell ⟨g, 4, none⟩ v4).setCell ⟨g, 5, none⟩ v5).setCell ⟨g, 6, none⟩ v6) (some g) := grown_trans h5 (setGO _ g 6 v6)
  have h7 : w.grownBy ((((((((w.setCell ⟨g, 0, none⟩ v0).setCell ⟨g, 1, none⟩ v1).setCell ⟨g, 2, none⟩ v2).setCell ⟨g, 3, none⟩ v3).setCell ⟨g, 4, none⟩ v4).setCell ⟨g, 5, none⟩ v5).setCell ⟨g, 6, none⟩ v6).setCell ⟨g, 7, none⟩ v7) (some g) := grown_trans h6 (setGO _ g 7 v7)
  have h8 : w.grownBy (((((((((w.setCell ⟨g, 0, none⟩ v0).setCell ⟨g, 1, none⟩ v1).setCell ⟨g, 2, none⟩ v2).setCell ⟨g, 3, none⟩ v3).setCell ⟨g, 4, none⟩ v4).setCell ⟨g, 5, none⟩ v5).setCell ⟨g, 6, none⟩ v6).setCell ⟨g, 7, none⟩ v7).setCell ⟨g, 8, none⟩ v8) (some g) := grown_trans h7 (setGO _ g 8 v8)
  have h9 : w.grownBy ((((((((((w.setCell ⟨g, 0, none⟩ v0).setCell ⟨g, 1, none⟩ v1).setCell ⟨g, 2, none⟩ v2).setCell ⟨g, 3, none⟩ v3).setCell ⟨g, 4, none⟩ v4).setCell ⟨g, 5, none⟩ v5).setCell ⟨g, 6, none⟩ v6).setCell ⟨g, 7, none⟩ v7).setCell ⟨g, 8, none⟩ v8).setCell ⟨g, 9, none⟩ v9) (some g) := grown_trans h8 (setGO _ g 9 v9)
  have h10 : w.grownBy (((((((((((w.setCell ⟨g, 0, none⟩ v0).setCell ⟨g, 1, none⟩ v1).setCell ⟨g, 2, none⟩ v2).setCell ⟨g, 3, none⟩ v3).setCell ⟨g, 4, none⟩ v4).setCell ⟨g, 5, none⟩ v5).setCell ⟨g, 6, none⟩ v6).setCell ⟨g, 7, none⟩ v7).setCell ⟨g, 8, none⟩ v8).setCell ⟨g, 9, none⟩ v9).setCell ⟨g, 10, none⟩ v10) (some g) := grown_trans h9 (setGO _ g 10 v10)
  have h11 : w.grownBy ((((((((((((w.setCell ⟨g, 0, none⟩ v0).setCell ⟨g, 1, none⟩ v1).setCell ⟨g, 2, none⟩ v2).setCell ⟨g, 3, none⟩ v3).setCell ⟨g, 4, none⟩ v4).setCell ⟨g, 5, none⟩ v5).setCell ⟨g, 6, none⟩ v6).setCell ⟨g, 7, none⟩ v7).setCell ⟨g, 8, none⟩ v8).setCell ⟨g, 9, none⟩ v9).setCell ⟨g, 10, none⟩ v10).setCell ⟨g, 11, none⟩ v11) (some g) := grown_trans h10 (setGO _ g 11 v11)
  exact h11
end Go.Proofs.YtaoodcielfabdaaGreat

/- slices.BinarySearchFunc over operations, by their stamps. -/
namespace Go.Proofs.YtaoodcielfabdaaGreat
open Go.RowKit
set_option linter.unusedVariables false
set_option maxRecDepth 100000

set_option maxHeartbeats 3200000 in
theorem byStamp_any (w : World) (o : OpV) (a1 a2 a3 : Option Addr) (c1 c2 c3 : Nat) (n r : Int) :
    Calls Tryz.prog 94 #[opVal o (.slice a1 o.key.length c1) (.slice a2 o.name.length c2) (.slice a3 o.text.length c3), .agg #[.int .i64 n, .int .i64 r]] w fun e w' => e = .returned (.int .i64 (ordI o.atN o.atR n r)) ∧ Below w.heap.size w w' := by
  have hB := ((Below.refl w.heap.size w).alloc (Nat.le_refl _) (.cells #[.int .i64 o.kind, .int .i64 o.atN, .int .i64 o.atR, .int .i64 o.nodeN, .int .i64 o.nodeR, .int .i64 o.parN, .int .i64 o.parR, .slice a1 o.key.length c1, .int .i64 o.elem, .slice a2 o.name.length c2, .slice a3 o.text.length c3, .bool o.gone] 38)).alloc (by simp) (.cells #[.int .i64 n, .int .i64 r] 35)
  have HH := hide (orderI_any ((w.alloc (.cells #[.int .i64 o.kind, .int .i64 o.atN, .int .i64 o.atR, .int .i64 o.nodeN, .int .i64 o.nodeR, .int .i64 o.parN, .int .i64 o.parR, .slice a1 o.key.length c1, .int .i64 o.elem, .slice a2 o.name.length c2, .slice a3 o.text.length c3, .bool o.gone] 38)).alloc (.cells #[.int .i64 n, .int .i64 r] 35)) o.atN o.atR n r)
  have HB := hide hB
  clear hB
  unfold opVal
  generalize ordI o.atN o.atR n r = z at *
  go_enter Tryz.func94, Tryz.ntmps94
  go_wp2_with fail
  refine (unhide HH).mono ?_
  rintro e w1 ⟨rfl, hB1⟩
  have hB2 := bstep (unhide HB) hB1
  clear hB1 HB HH
  go_wp2_with fail
  go_ret
  exact ⟨rfl, hB2⟩
theorem ord_zero (a b c d : Int) : (ordI a b c d == 0) = decide (a = c ∧ b = d) := by
  unfold ordI
  split
  · rename_i h; simp [h]
  · rename_i h
    split <;> simp [h]
theorem ord_neg (n r : Int) (p : OpV) : decide (ordI p.atN p.atR n r < 0) = ahead n r p := ordI_lt _ _ _ _

set_option maxHeartbeats 6400000 in
theorem search_any (w : World) (v : Value) (l : List OpV) (n r : Int) (h : RdOps w v l) (hs : opsB l = true) :
    Calls Tryz.prog 93 #[v, .agg #[.int .i64 n, .int .i64 r], .func (.func 94) #[] #[]] w fun e w' => e = .returned (.tuple #[.int .i64 (posO l n r), .bool (there l n r)]) ∧ Below w.heap.size w w' := by
  obtain ⟨hl, _⟩ := opsB_parts hs
  have HS := hide hs
  have hA := (Below.refl w.heap.size w).alloc (Nat.le_refl _) (.cells #[.int .i64 n, .int .i64 r] 35)
  have lt := Loc.made w #[.int .i64 n, .int .i64 r] 35
  have hR := h.keep hA
  obtain ⟨av, cv, rfl, _, _⟩ := Elems.shape h
  have HAT := hide (fun j (hj : j < l.length) => (show ∃ b off cap, (Value.slice av l.length cv) = .slice (some ⟨b, off, none⟩) l.length cap ∧ b < (w.alloc (.cells #[.int .i64 n, .int .i64 r] 35)).heap.size ∧ ∃ C : List Value, C.length = 12 ∧ (∀ i, i < 12 → (w.alloc (.cells #[.int .i64 n, .int .i64 r] 35)).cell? ⟨b, off + j * 12 + i, none⟩ = C[i]?) ∧ RdOpC (w.alloc (.cells #[.int .i64 n, .int .i64 r] 35)) C l[j] by
    obtain ⟨_, ⟨_, e⟩ | ⟨_, _, _, _, e⟩ | ⟨b, off, cap, ev, g1, g2, g3, g4, g5⟩⟩ := hR
    · subst e; simp at hj
    · subst e; simp at hj
    · exact ⟨b, off, cap, ev, g4, g5 j hj⟩))
  have LL := hide (And.intro hA lt)
  clear hs hA lt hR h
  go_enter Tryz.func93, Tryz.ntmps93
  go_wp2_with fail
  obtain ⟨hA, lt⟩ := unhide LL
  clear LL
  generalize (w.alloc (.cells #[.int .i64 n, .int .i64 r] 35)) = wa at *
  generalize hSS : w.heap.size = S at *
  have hSl := lt.lt
  have HA := hide hA
  clear hA
  go_loopw [9, 10, 11] (fun i j _ wr => ∃ a b : Nat, a ≤ b ∧ b ≤ l.length ∧ i = .int .i64 a ∧ j = .int .i64 b ∧ Hid ((∀ k (hk : k < l.length), k < a → ahead n r l[k] = true) ∧ (∀ k (hk : k < l.length), b ≤ k → ahead n r l[k] = false)) ∧ Below wa.heap.size wa wr) (fun i j _ _ => (intOf j).toNat - (intOf i).toNat)
  case atStart => exact ⟨0, l.length, Nat.zero_le _, Nat.le_refl _, rfl, rfl, hide ⟨fun k _ hk => by omega, fun k hk hb => by omega⟩, Below.refl _ _⟩
  case round =>
    obtain ⟨a, b, hab, hbl, rfl, rfl, HI, hB⟩ := hrel
    by_cases hlt : a < b
    · have hlt' : (a : Int) < (b : Int) := by omega
      obtain ⟨m, hm⟩ : ∃ m : Nat, m = (a + b) / 2 := ⟨_, rfl⟩
      have hml : m < l.length := by omega
      have hma : a ≤ m := by omega
      have hmb : m < b := by omega
      have hmz : ((a : Int) + (b : Int)) / 2 = (m : Int) := by omega
      have HMZ := hide (And.intro hmz (And.intro hml (And.intro hma hmb)))
      clear hmz hml hma hmb hm
      go_wp2_with fail
      obtain ⟨hmz, hml, hma, hmb⟩ := unhide HMZ
      clear HMZ
      rw [hmz]
      clear hmz
      have hm0 : (0 : Int) ≤ (m : Int) := by omega
      have hml' : (m : Int) < (l.length : Int) := by omega
      obtain ⟨pb, poff, pcap, epv, hpl, hel⟩ := unhide HAT m hml
      cases epv
      obtain ⟨a1, c1, a2, c2, a3, c3, e0, e1, e2, e3, e4, e5, e6, e7, e8, e9, e10, e11, hro⟩ := opc_at (w := wa) (W := wr) hB hpl hel
      have HC := hide (fun W => byStamp_any W l[m] a1 a2 a3 c1 c2 c3 n r)
      have hzz := ord_neg n r l[m]
      have hz0 := ord_zero l[m].atN l[m].atR n r
      unfold opVal at HC
      have lt1 := lt.all hB
      have t0 : wr.cell? ⟨S, 0, none⟩ = some (.int .i64 n) := lt1.cell 0
      have t1 : wr.cell? ⟨S, 1, none⟩ = some (.int .i64 r) := lt1.cell 1
      have hSr : S < wr.heap.size := lt1.lt
      have hpr : pb < wr.heap.size := Nat.lt_of_lt_of_le hpl hB.size
      replace e0 := Gr.cell hpr e0
      replace e1 := Gr.cell hpr e1
      replace e2 := Gr.cell hpr e2
      replace e3 := Gr.cell hpr e3
      replace e4 := Gr.cell hpr e4
      replace e5 := Gr.cell hpr e5
      replace e6 := Gr.cell hpr e6
      replace e7 := Gr.cell hpr e7
      replace e8 := Gr.cell hpr e8
      replace e9 := Gr.cell hpr e9
      replace e10 := Gr.cell hpr e10
      replace e11 := Gr.cell hpr e11
      replace t0 := Gr.cell hSr t0
      replace t1 := Gr.cell hSr t1
      have hNE : Nonempty (Gr wr) := ⟨⟨wr, Below.refl _ _⟩⟩
      clear hel hro lt1
      have HD := hide (And.intro (fun (ha : ahead n r l[m] = true) => (show ((∀ k (hk : k < l.length), k < m + 1 → ahead n r l[k] = true) ∧ (∀ k (hk : k < l.length), b ≤ k → ahead n r l[k] = false)) from ⟨fun k hk hkm => ahead_down (unhide HS) (by omega) hml ha, (unhide HI).2⟩)) (fun (ha : ahead n r l[m] = false) => (show ((∀ k (hk : k < l.length), k < a → ahead n r l[k] = true) ∧ (∀ k (hk : k < l.length), m ≤ k → ahead n r l[k] = false)) from ⟨(unhide HI).1, fun k hk hkm => by
        cases hak : ahead n r l[k] with
        | false => rfl
        | true => have := ahead_down (unhide HS) hkm hk hak; rw [ha] at this; cases this⟩)))
      generalize ahead n r l[m] = am at *
      generalize ordI l[m].atN l[m].atR n r = z at *
      clear hz0
      generalize l[m] = o at *
      refine wp_region_gr (by kernel_rfl) (by kernel_rfl) ?_
      repeat (go_big_quiet_step ((rename_i p; exact calls_gr (unhide HC _))))
      refine wpQuiet_nil ?_
      rintro _ ⟨p, rfl⟩
      have hB3 := bstep hB p.h
      clear e0 e1 e2 e3 e4 e5 e6 e7 e8 e9 e10 e11 t0 t1 HC
      cases am with
      | true =>
        have hz1 : z < 0 := by simpa using hzz
        clear hzz
        have HD1 := hide ((unhide HD).1 rfl)
        clear HD HI
        go_wp2_with fail
        go_roundw
        case rel => exact ⟨m + 1, b, by omega, hbl, by go_num, rfl, HD1, hB3⟩
        case measure => simp [intOf]; omega
      | false =>
        have hz1 : ¬ z < 0 := by simpa using hzz
        clear hzz
        have HD1 := hide ((unhide HD).2 rfl)
        clear HD HI
        go_wp2_with fail
        go_roundw
        case rel => exact ⟨a, m, hma, by omega, rfl, rfl, HD1, hB3⟩
        case measure => simp [intOf]; omega
    · have e : b = a := by omega
      subst e
      have hpos : posO l n r = b := posO_of hbl (unhide HI).1 (fun hk => (unhide HI).2 b hk (Nat.le_refl _))
      clear HI
      by_cases hbn : b < l.length
      · have hth : there l n r = decide (l[b].atN = n ∧ l[b].atR = r) := by unfold there; simp only [hpos, hbn, dite_true]
        have hb0 : (0 : Int) ≤ (b : Int) := by omega
        have hbn' : (b : Int) < (l.length : Int) := by omega
        have HH := hide (And.intro hpos (And.intro hth (And.intro hbn' hb0)))
        clear hpos hth hbn' hb0
        go_wp2_with fail
        obtain ⟨hpos, hth, hbn', hb0⟩ := unhide HH
        clear HH
        have hdb : decide (b < l.length) = true := by simpa using hbn
        obtain ⟨pb, poff, pcap, epv, hpl, hel⟩ := unhide HAT b hbn
        cases epv
        obtain ⟨a1, c1, a2, c2, a3, c3, e0, e1, e2, e3, e4, e5, e6, e7, e8, e9, e10, e11, hro⟩ := opc_at (w := wa) (W := wr) hB hpl hel
        have HC := hide (fun W => byStamp_any W l[b] a1 a2 a3 c1 c2 c3 n r)
        have hz0 := ord_zero l[b].atN l[b].atR n r
        unfold opVal at HC
        have lt1 := lt.all hB
        have t0 : wr.cell? ⟨S, 0, none⟩ = some (.int .i64 n) := lt1.cell 0
        have t1 : wr.cell? ⟨S, 1, none⟩ = some (.int .i64 r) := lt1.cell 1
        have hSr : S < wr.heap.size := lt1.lt
        have hpr : pb < wr.heap.size := Nat.lt_of_lt_of_le hpl hB.size
        replace e0 := Gr.cell hpr e0
        replace e1 := Gr.cell hpr e1
        replace e2 := Gr.cell hpr e2
        replace e3 := Gr.cell hpr e3
        replace e4 := Gr.cell hpr e4
        replace e5 := Gr.cell hpr e5
        replace e6 := Gr.cell hpr e6
        replace e7 := Gr.cell hpr e7
        replace e8 := Gr.cell hpr e8
        replace e9 := Gr.cell hpr e9
        replace e10 := Gr.cell hpr e10
        replace e11 := Gr.cell hpr e11
        replace t0 := Gr.cell hSr t0
        replace t1 := Gr.cell hSr t1
        have hNE : Nonempty (Gr wr) := ⟨⟨wr, Below.refl _ _⟩⟩
        clear hel hro lt1
        have HT := hide (hth.trans hz0.symm)
        have HP := hide hpos
        clear hth hz0 hpos
        generalize ordI l[b].atN l[b].atR n r = z at *
        generalize l[b] = o at *
        refine wp_region_gr (by kernel_rfl) (by kernel_rfl) ?_
        repeat (go_big_quiet_step ((rename_i p; exact calls_gr (unhide HC _))))
        refine wpQuiet_nil ?_
        rintro _ ⟨p, rfl⟩
        have hB3 := (unhide HA).trans ((bstep hB p.h).mono (Nat.le_of_lt hSl))
        clear e0 e1 e2 e3 e4 e5 e6 e7 e8 e9 e10 e11 t0 t1 HC
        go_wp2_with fail
        go_ret2
        exact ⟨by rw [unhide HP, unhide HT]; rfl, by rw [hSS]; exact hB3⟩
      · have hth : there l n r = false := by unfold there; simp only [hpos, hbn, dite_false]
        have hbe : b = l.length := by omega
        have HH := hide (And.intro hpos hth)
        clear hpos hth hbn
        subst hbe
        go_wp2_with fail
        have hNE : Nonempty (Gr wr) := ⟨⟨wr, Below.refl _ _⟩⟩
        refine wp_region_gr (by kernel_rfl) (by kernel_rfl) ?_
        repeat (go_big_quiet_step (fail))
        refine wpQuiet_nil ?_
        rintro _ ⟨p, rfl⟩
        have hB3 := (unhide HA).trans ((bstep hB p.h).mono (Nat.le_of_lt hSl))
        go_wp2_with fail
        go_ret2
        exact ⟨by rw [(unhide HH).1, (unhide HH).2]; rfl, by rw [hSS]; exact hB3⟩
end Go.Proofs.YtaoodcielfabdaaGreat

/- The order of keys, in plain mathematics. -/
namespace Go.Proofs.YtaoodcielfabdaaGreat
set_option linter.unusedVariables false

/-- By the first number in which they differ; the one that begins the other one is less. -/
def klB : List Int → List Int → Bool
  | [], [] => false
  | [], _ :: _ => true
  | _ :: _, [] => false
  | x :: a, y :: b => if x = y then klB a b else decide (x < y)

theorem klB_end {a b : List Int} (h : a = [] ∨ b = []) : klB a b = decide (a.length < b.length) := by
  cases a <;> cases b <;> simp [klB] at *
theorem drop_cons {l : List Int} {k : Nat} (h : k < l.length) : l.drop k = l.getD k 0 :: l.drop (k + 1) := by
  rw [List.drop_eq_getElem_cons h, getD_at h]
theorem klB_same {a b : List Int} {k : Nat} (ha : k < a.length) (hb : k < b.length) (e : a.getD k 0 = b.getD k 0) : klB (a.drop k) (b.drop k) = klB (a.drop (k + 1)) (b.drop (k + 1)) := by
  rw [drop_cons ha, drop_cons hb, klB, if_pos e]
theorem klB_diff {a b : List Int} {k : Nat} (ha : k < a.length) (hb : k < b.length) (e : a.getD k 0 ≠ b.getD k 0) : klB (a.drop k) (b.drop k) = decide (a.getD k 0 < b.getD k 0) := by
  rw [drop_cons ha, drop_cons hb, klB, if_neg e]
theorem klB_over {a b : List Int} {k : Nat} (ha : k ≤ a.length) (hb : k ≤ b.length) (h : k = a.length ∨ k = b.length) : klB (a.drop k) (b.drop k) = decide (a.length < b.length) := by
  rw [klB_end (by rcases h with rfl | rfl <;> simp)]
  simp only [List.length_drop]
  rw [Bool.eq_iff_iff]
  simp only [decide_eq_true_eq]
  omega
theorem klB_irr (a : List Int) : klB a a = false := by
  induction a with
  | nil => rfl
  | cons x a ih => rw [klB, if_pos rfl, ih]
end Go.Proofs.YtaoodcielfabdaaGreat

/- impl.rowLess over bytes answers the order of rows; strings are in that order, too. -/
namespace Go.Proofs.YtaoodcielfabdaaGreat
open Go.RowKit
set_option linter.unusedVariables false

set_option maxHeartbeats 1600000 in
set_option maxRecDepth 1000000 in
theorem rowLessB_any (w : World) (u v : Value) (a b : List Int) (hu : Byt w u a) (hv : Byt w v b) :
    Calls Tryz.prog 135 #[u, v] w fun e w' => e = .returned (.bool (klB a b)) ∧ Below w.heap.size w w' := by
  have hma := hu.2.1
  have hmb := hv.2.1
  unfold maxLen at hma hmb
  by_cases h0 : a = [] ∨ b = []
  · have HE := hide (klB_end h0)
    have h0' : a.length = 0 ∨ b.length = 0 := by rcases h0 with rfl | rfl <;> simp
    obtain ⟨a1, c1, rfl, _⟩ := hu.shape
    obtain ⟨a2, c2, rfl, _⟩ := hv.shape
    clear hu hv h0
    generalize a.length = n at *
    generalize b.length = m at *
    rcases h0' with rfl | rfl <;> rcases a1 with _ | a1
    all_goals
      go_enter Tryz.func135, Tryz.ntmps135
      go_wp2
      all_goals
        refine wp_loop_rounds 1 ?_
        rw [rounds_succ]
        go_wp2
        go_ret
        exact ⟨by rw [unhide HE]; simp, Below.refl _ _⟩
  have ha0 : a ≠ [] := fun h => h0 (.inl h)
  have hb0 : b ≠ [] := fun h => h0 (.inr h)
  obtain ⟨hoka, _, ⟨rfl, rfl⟩ | ⟨x, cap, rfl, hc, rfl⟩ | ⟨p, off, cap, rfl, h1, h2, h3, h4, h5⟩⟩ := hu
  · exact absurd rfl ha0
  · exact absurd rfl ha0
  obtain ⟨hokb, _, ⟨rfl, rfl⟩ | ⟨x, cap, rfl, hc, rfl⟩ | ⟨q, off', cap', rfl, g1, g2, g3, g4, g5⟩⟩ := hv
  · exact absurd rfl hb0
  · exact absurd rfl hb0
  generalize hA : a.length = n at *
  generalize hC : b.length = m at *
  clear h0
  go_enter Tryz.func135, Tryz.ntmps135
  go_wp2
  all_goals
    go_loopw [15] (fun i wr => ∃ k : Nat, k ≤ n ∧ k ≤ m ∧ i = .int .i64 k ∧ Hid (klB a b = klB (a.drop k) (b.drop k)) ∧ Below w.heap.size w wr) (fun i _ => n - (intOf i).toNat)
    case atStart => exact ⟨0, Nat.zero_le _, Nat.zero_le _, rfl, hide rfl, Below.refl _ _⟩
    case round =>
      obtain ⟨k, hk, hk', rfl, ht, hB⟩ := hrel
      by_cases hlt : k < n ∧ k < m
      · obtain ⟨hka, hkb⟩ := hlt
        obtain ⟨x, hx⟩ : ∃ x, x = a.getD k 0 := ⟨_, rfl⟩
        obtain ⟨y, hy⟩ : ∃ y, y = b.getD k 0 := ⟨_, rfl⟩
        have c1 : wr.cell? ⟨p, off + k, none⟩ = some (.int .u8 x) := by rw [hx]; exact (hB.cell (p := ⟨p, off + k, none⟩) h4).trans (h5 k hka)
        have c2 : wr.cell? ⟨q, off' + k, none⟩ = some (.int .u8 y) := by rw [hy]; exact (hB.cell (p := ⟨q, off' + k, none⟩) g4).trans (g5 k hkb)
        have HX := hide hx
        have HY := hide hy
        have hlt' : (k : Int) < (n : Int) := by omega
        have hlt2 : (k : Int) < (m : Int) := by omega
        clear hx hy h5 g5
        by_cases hxy : x = y
        · have HT := hide ((unhide ht).trans (klB_same (by omega) (by omega) (by rw [← unhide HX, ← unhide HY]; exact hxy)))
          have hne : (x != y) = false := by simp [hxy]
          clear hxy
          go_wp2
          go_roundw
          case rel => exact ⟨k + 1, by omega, by omega, by go_num, HT, hB⟩
          case measure => simp [intOf]; omega
        · have HD := hide ((unhide ht).trans (klB_diff (by omega) (by omega) (by rw [← unhide HX, ← unhide HY]; exact hxy)))
          rw [← unhide HX, ← unhide HY] at HD
          have hne : (x != y) = true := by simp [hxy]
          clear hxy ht
          go_wp2
          go_ret
          exact ⟨by rw [unhide HD]; rfl, hB⟩
      · have HD := hide ((unhide ht).trans (klB_over (by omega) (by omega) (by omega)))
        rw [hA, hC] at HD
        clear h5 g5 ht
        rcases (show k = n ∨ (k < n ∧ k = m) by omega) with rfl | ⟨hlt', rfl⟩ <;> first | (exfalso; omega) | skip
        all_goals
          go_wp2
          go_ret
          exact ⟨by rw [unhide HD]; simp, hB⟩


theorem u8_lt {x y : Int} (hx : 0 ≤ x ∧ x ≤ 255) (hy : 0 ≤ y ∧ y ≤ 255) : (UInt8.ofNat x.toNat < UInt8.ofNat y.toNat) ↔ x < y := by
  rw [UInt8.lt_iff_toNat_lt]
  simp only [UInt8.toNat_ofNat']
  omega
theorem strL_less : ∀ (a b : List Int), okB a → okB b → Op.bytesLess (a.map fun n => UInt8.ofNat n.toNat) (b.map fun n => UInt8.ofNat n.toNat) = klB a b
  | [], [], _, _ => rfl
  | [], _ :: _, _, _ => rfl
  | _ :: _, [], _, _ => rfl
  | x :: a, y :: b, ha, hb => by
    have hx := ha x (by simp)
    have hy := hb y (by simp)
    have ih := strL_less a b (fun z hz => ha z (by simp [hz])) (fun z hz => hb z (by simp [hz]))
    simp only [List.map_cons]
    unfold Op.bytesLess klB
    rw [ih]
    have h1 := u8_lt hx hy
    have h2 := u8_lt hy hx
    by_cases e : x = y
    · subst e; simp
    · have e2 : ¬ UInt8.ofNat x.toNat = UInt8.ofNat y.toNat := fun h => by
        have h3 : ¬ UInt8.ofNat x.toNat < UInt8.ofNat y.toNat := by rw [h]; exact UInt8.lt_irrefl _
        have h4 : ¬ UInt8.ofNat y.toNat < UInt8.ofNat x.toNat := by rw [h]; exact UInt8.lt_irrefl _
        rw [h1] at h3
        rw [h2] at h4
        omega
      by_cases hl : x < y
      · simp [h1.2 hl, e, hl]
      · have h5 : ¬ UInt8.ofNat x.toNat < UInt8.ofNat y.toNat := fun h => hl (h1.1 h)
        simp [h5, e, hl, e2]
theorem str_less {a b : List Int} (ha : okB a) (hb : okB b) : Op.bytesLess (str a).toList (str b).toList = klB a b := by
  rw [toList_data, toList_data, str_list, str_list]
  exact strL_less a b ha hb
end Go.Proofs.YtaoodcielfabdaaGreat

/- Numbers as rows of bytes, in plain mathematics: what a row is read as. -/
namespace Go.Proofs.YtaoodcielfabdaaGreat

/-- 128 to the power k, for k up to 5. -/
def sc : Nat → Int
  | 0 => 1
  | 1 => 128
  | 2 => 16384
  | 3 => 2097152
  | 4 => 268435456
  | _ => 34359738368

theorem sc_step (k : Nat) (h : k < 5) : sc (k + 1) = sc k * 128 := by
  have : k = 0 ∨ k = 1 ∨ k = 2 ∨ k = 3 ∨ k = 4 := by omega
  rcases this with rfl | rfl | rfl | rfl | rfl <;> rfl
end Go.Proofs.YtaoodcielfabdaaGreat

/- The bytes of a number, in plain mathematics. -/
namespace Go.Proofs.YtaoodcielfabdaaGreat

/-- The bytes of n, at most f + 1 of them. -/
def putGo : Nat → Int → List Int
  | 0, n => [n]
  | f + 1, n => if 127 < n then (n % 128 + 128) :: putGo f (n / 128) else [n]
def putN (n : Int) : List Int := putGo 4 n
/-- b and the bytes of n, where n may be put. -/
def putAll (l : List Int) (n : Int) : List Int := if n < 0 ∨ 2147483647 < n then l else l ++ putN n

theorem putGo_on {f : Nat} {n : Int} (h : 127 < n) : putGo (f + 1) n = (n % 128 + 128) :: putGo f (n / 128) := by rw [putGo, if_pos h]
theorem putGo_end {f : Nat} {n : Int} (h : ¬ 127 < n) : putGo f n = [n] := by cases f with
  | zero => rfl
  | succ f => rw [putGo, if_neg h]
theorem putGo_len (f : Nat) (n : Int) : (putGo f n).length ≤ f + 1 := by
  induction f generalizing n with
  | zero => simp [putGo]
  | succ f ih =>
    by_cases h : 127 < n
    · rw [putGo_on h]; have := ih (n / 128); simp; omega
    · rw [putGo_end h]; simp
theorem putGo_ok (f : Nat) (n : Int) (h0 : 0 ≤ n) (h1 : n < sc (f + 1)) (hf : f ≤ 4) : okB (putGo f n) := by
  induction f generalizing n with
  | zero => intro x hx; simp [putGo] at hx; subst hx; simp [sc] at h1; omega
  | succ f ih =>
    by_cases h : 127 < n
    · rw [putGo_on h]
      have := sc_step (f + 1) (by omega)
      intro x hx
      rcases List.mem_cons.1 hx with rfl | hx
      · omega
      · exact ih (n / 128) (by omega) (by omega) (by omega) x hx
    · rw [putGo_end h]; intro x hx; simp at hx; omega
theorem putN_ok {n : Int} (h0 : 0 ≤ n) (h1 : n ≤ 2147483647) : okB (putN n) := putGo_ok 4 n h0 (by simp only [sc]; omega) (by omega)
theorem putN_len (n : Int) : (putN n).length ≤ 5 := putGo_len 4 n
theorem putAll_in {l : List Int} {n : Int} (h0 : 0 ≤ n) (h1 : n ≤ 2147483647) : putAll l n = l ++ putN n := by rw [putAll, if_neg (by omega)]
theorem putAll_out {l : List Int} {n : Int} (h : n < 0 ∨ 2147483647 < n) : putAll l n = l := by rw [putAll, if_pos h]
theorem putAll_len (l : List Int) (n : Int) : (putAll l n).length ≤ l.length + 5 := by
  unfold putAll
  split
  · omega
  · have := putN_len n; simp; omega

end Go.Proofs.YtaoodcielfabdaaGreat

/- Texts as rows of bytes, in plain mathematics, and a cut of a readable row. -/
namespace Go.Proofs.YtaoodcielfabdaaGreat
open Go.RowKit
set_option linter.unusedVariables false

/-- b, how many bytes t has, and t, where t may be put. -/
def putT (l t : List Int) : List Int := if 30 < t.length then l else l ++ putN t.length ++ t
theorem putT_out {l t : List Int} (h : 30 < t.length) : putT l t = l := by rw [putT, if_pos h]
theorem putT_in {l t : List Int} (h : ¬ 30 < t.length) : putT l t = l ++ putN t.length ++ t := by rw [putT, if_neg h]
theorem putT_len (l t : List Int) : (putT l t).length ≤ l.length + 40 := by
  unfold putT
  split
  · omega
  · have := putN_len t.length; simp; omega
end Go.Proofs.YtaoodcielfabdaaGreat

/- What was put is got, what is got was put: numbers and texts as rows of bytes, in plain mathematics. -/
namespace Go.Proofs.YtaoodcielfabdaaGreat

end Go.Proofs.YtaoodcielfabdaaGreat

/- Operations as rows of bytes, in plain mathematics: what was put is got. -/
namespace Go.Proofs.YtaoodcielfabdaaGreat
set_option linter.unusedVariables false

/-- What lies at the place p of l and behind it is r. -/
def At (l : List Int) (p : Nat) (r : List Int) : Prop := p ≤ l.length ∧ l.drop p = r

theorem At.skip {l a r : List Int} {p : Nat} (h : At l p (a ++ r)) : At l (p + a.length) r := by
  obtain ⟨h1, h2⟩ := h
  have hl : l.length - p = a.length + r.length := by rw [← List.length_drop, h2, List.length_append]
  refine ⟨by omega, ?_⟩
  rw [← List.drop_drop, h2, List.drop_left]

/-- The numbers of k, one behind the other. -/
def putNs (l : List Int) : List Int → List Int
  | [] => l
  | x :: k => putNs (putAll l x) k
def putId (l : List Int) (n r : Int) : List Int := putAll (putAll l n) r
def putKey (l k : List Int) : List Int := putNs (putAll l k.length) k
def opHd (o : OpV) : List Int := putId (putAll [] o.kind) o.atN o.atR
def opBytes (o : OpV) : List Int :=
  if o.kind = 0 then putT (putT (putAll (putKey (putId (opHd o) o.parN o.parR) o.key) o.elem) o.name) o.text
  else if o.kind = 1 then putKey (putId (putId (opHd o) o.nodeN o.nodeR) o.parN o.parR) o.key
  else if o.kind = 2 then putT (putId (opHd o) o.nodeN o.nodeR) o.text
  else if o.gone then putAll (putT (putId (opHd o) o.nodeN o.nodeR) o.name) 1
  else putT (putAll (putT (putId (opHd o) o.nodeN o.nodeR) o.name) 0) o.text

def inR (n : Int) : Prop := 0 ≤ n ∧ n ≤ 2147483647
def keyR (k : List Int) : Prop := k.length ≤ 12 ∧ ∀ x ∈ k, inR x

/-- What an operation that may be has. -/
theorem opB_facts {o : OpV} (h : opB o = true) :
    (inR o.atN ∧ inR o.atR) ∧ o.text.length ≤ 30 ∧
    ((o.kind = 0 ∧ (o.nodeN = 0 ∧ o.nodeR = 0) ∧ (inR o.parN ∧ inR o.parR) ∧ keyR o.key ∧ inR o.elem ∧ o.name.length ≤ 30 ∧ o.gone = false) ∨
     (o.kind = 1 ∧ (inR o.nodeN ∧ inR o.nodeR) ∧ (inR o.parN ∧ inR o.parR) ∧ keyR o.key ∧ o.elem = 0 ∧ o.name = [] ∧ o.text = [] ∧ o.gone = false) ∨
     (o.kind = 2 ∧ (inR o.nodeN ∧ inR o.nodeR) ∧ (o.parN = 0 ∧ o.parR = 0) ∧ o.key = [] ∧ o.elem = 0 ∧ o.name = [] ∧ o.gone = false) ∨
     (o.kind = 3 ∧ (inR o.nodeN ∧ inR o.nodeR) ∧ (o.parN = 0 ∧ o.parR = 0) ∧ o.key = [] ∧ o.elem = 0 ∧ o.name.length ≤ 30 ∧ (o.gone = true → o.text = []))) := by
  have idF : ∀ n r, idB n r = true → inR n ∧ inR r := by
    intro n r hi
    unfold idB at hi
    unfold inR
    simp only [Bool.and_eq_true, Bool.or_eq_true, decide_eq_true_eq] at hi
    omega
  have zF : ∀ n r, zeroB n r = true → n = 0 ∧ r = 0 := by
    intro n r hi
    unfold zeroB at hi
    simpa using hi
  have kF : ∀ k, keyB k = true → keyR k := by
    intro k hk
    obtain ⟨h1, h2, h3, h4⟩ := (keyB_iff k).1 hk
    refine ⟨h2, fun x hx => ?_⟩
    obtain ⟨i, hi, rfl⟩ := List.getElem_of_mem hx
    have := h4 i hi
    unfold keyCh at this
    unfold inR
    rw [getD_at hi] at this
    omega
  have nF : ∀ k, nameB k = true → k.length ≤ 30 := by
    intro k hk
    obtain ⟨h1, h2, h3⟩ := (nameB_iff k).1 hk
    omega
  have l0 : ∀ k : List Int, ((k.length : Int) == 0) = true → k = [] := by
    intro k hk
    simp at hk
    exact hk
  have hh : opHeadB o = false := by
    cases hc : opHeadB o
    · rfl
    · unfold opB at h; rw [hc] at h; simp at h
  unfold opB at h
  rw [hh] at h
  unfold opHeadB at hh
  simp only [Bool.or_eq_false_iff, decide_eq_false_iff_not, Bool.not_eq_false'] at hh
  obtain ⟨q1, q2, q3, q4, q5, q6, q7⟩ := hh
  have ht := ((textB_iff _).1 q7).1
  refine ⟨⟨⟨by omega, by omega⟩, ⟨by omega, by omega⟩⟩, ht, ?_⟩
  simp only [Bool.false_eq_true, if_false] at h
  by_cases k0 : o.kind = 0
  · left
    rw [if_pos (by simp [k0])] at h
    unfold opNewB at h
    by_cases hc : (!zeroB o.nodeN o.nodeR || (!idB o.parN o.parR || (!keyB o.key || o.gone))) = true
    · rw [if_pos hc] at h; cases h
    rw [if_neg hc] at h
    simp only [Bool.or_eq_true, not_or, Bool.not_eq_true', Bool.not_eq_false, Bool.not_eq_true] at hc
    obtain ⟨c1, c2, c3, c4⟩ := hc
    refine ⟨k0, zF _ _ c1, idF _ _ c2, kF _ c3, ?_⟩
    by_cases e1 : o.elem = 1
    · rw [if_pos (by simp [e1])] at h
      exact ⟨⟨by omega, by omega⟩, by rw [l0 _ h]; simp, c4⟩
    · rw [if_neg (by simp [e1])] at h
      simp only [Bool.and_eq_true] at h
      have e0 : o.elem = 0 := by simpa using h.1
      exact ⟨⟨by omega, by omega⟩, nF _ h.2.1, c4⟩
  · right
    rw [if_neg (by simp [k0])] at h
    by_cases k1 : o.kind = 1
    · left
      rw [if_pos (by simp [k1])] at h
      unfold opMoveB at h
      simp only [Bool.and_eq_true, Bool.not_eq_true'] at h
      obtain ⟨c1, c2, c3, c4, c5, c6, c7⟩ := h
      exact ⟨k1, idF _ _ c1, idF _ _ c2, kF _ c3, by simpa using c4, l0 _ c5, l0 _ c6, c7⟩
    · right
      rw [if_neg (by simp [k1])] at h
      unfold opRestB at h
      by_cases hc : (!idB o.nodeN o.nodeR || (!zeroB o.parN o.parR || (decide (0 < (o.key.length : Int)) || !(o.elem == 0)))) = true
      · rw [if_pos hc] at h; cases h
      rw [if_neg hc] at h
      simp only [Bool.or_eq_true, not_or, Bool.not_eq_true', Bool.not_eq_false, decide_eq_true_eq] at hc
      obtain ⟨c1, c2, c3, c4⟩ := hc
      have ck : o.key = [] := List.eq_nil_of_length_eq_zero (by omega)
      have ce : o.elem = 0 := by simpa using c4
      by_cases k2 : o.kind = 2
      · left
        rw [if_pos (by simp [k2])] at h
        simp only [Bool.and_eq_true, Bool.not_eq_true'] at h
        exact ⟨k2, idF _ _ c1, zF _ _ c2, ck, ce, l0 _ h.1, h.2⟩
      · right
        rw [if_neg (by simp [k2])] at h
        simp only [Bool.and_eq_true, Bool.or_eq_true, Bool.not_eq_true'] at h
        refine ⟨by omega, idF _ _ c1, zF _ _ c2, ck, ce, nF _ h.1, fun hg => ?_⟩
        rcases h.2 with h' | h'
        · rw [hg] at h'; cases h'
        · exact l0 _ h'

end Go.Proofs.YtaoodcielfabdaaGreat

/- spec.PutNum answers what the plain function putAll says. -/
namespace Go.Proofs.YtaoodcielfabdaaGreat
open Go.RowKit
set_option linter.unusedVariables false

set_option maxHeartbeats 1600000 in
theorem putS_out (w : World) (v : Value) (l : List Int) (n : Int) (h : Byt w v l) (hl : l.length ≤ 67108864) (hn : n < 0 ∨ 2147483647 < n) :
    Calls Tryz.prog 141 #[v, .int .i64 n] w fun e w' => ∃ v', e = .returned v' ∧ Own w' w.heap.size v' l ∧ Below w.heap.size w w' := by
  go_enter Tryz.func141, Tryz.ntmps141
  go_wp2_with (at_builtin; refine wpList_app rfl _ _ rfl w.heap.size _ [] rfl (own_none w) v l rfl (h.alloc _) ?c1 ?c2 ?_)
  case c1 => first | omega | (simp; omega)
  case c2 => simp
  intro v1 w1 ho1 hg1
  have hB1 : Below w.heap.size w w1 := bstepBy ((Below.refl _ _).alloc (Nat.le_refl _) _) hg1 (fun g hg => by simp [Value.ownBlock] at hg; omega)
  clear hg1
  by_cases hneg : n < 0
  · go_wp2
    go_ret
    exact ⟨_, rfl, ho1, hB1⟩
  · have h2 : 2147483647 < n := by omega
    have h3 : decide (n < 0) = false := by simpa using hneg
    go_wp2
    go_ret
    exact ⟨_, rfl, ho1, hB1⟩

set_option maxHeartbeats 1600000 in
theorem putS_in (w : World) (v : Value) (l : List Int) (n : Int) (h : Byt w v l) (hl : l.length ≤ 67108864) (hn0 : 0 ≤ n) (hn1 : n ≤ 2147483647) :
    Calls Tryz.prog 141 #[v, .int .i64 n] w fun e w' => ∃ v', e = .returned v' ∧ Own w' w.heap.size v' (l ++ putN n) ∧ Below w.heap.size w w' := by
  have h3 : decide (n < 0) = false := by simp; omega
  go_enter Tryz.func141, Tryz.ntmps141
  go_wp2_with (at_builtin; refine wpList_app rfl _ _ rfl w.heap.size _ [] rfl (own_none w) v l rfl (h.alloc _) ?c1 ?c2 ?_)
  case c1 => first | omega | (simp; omega)
  case c2 => simp
  intro v1 w1 ho1 hg1
  have hB1 : Below w.heap.size w w1 := bstepBy ((Below.refl _ _).alloc (Nat.le_refl _) _) hg1 (fun g hg => by simp [Value.ownBlock] at hg; omega)
  clear hg1
  go_wp2
  go_loopw [1, 5] (fun m u wr => ∃ (f : Nat) (k : Int) (pre : List Int), f ≤ 4 ∧ m = .int .i64 k ∧ 0 ≤ k ∧ k ≤ 2147483647 ∧ k < sc (f + 1) ∧ Own wr w.heap.size u (l ++ pre) ∧ pre.length ≤ 4 ∧ pre.length + f = 4 ∧ Hid (putN n = pre ++ putGo f k) ∧ Below w.heap.size w wr) (fun m _ _ => (intOf m).toNat)
  case atStart => exact ⟨4, n, [], by omega, rfl, hn0, hn1, by simp only [sc]; omega, by rw [List.append_nil]; exact ho1, by simp, by simp, hide rfl, hB1⟩
  case round =>
    obtain ⟨f, k, pre, hf, rfl, hk0, hk1, hk2, ho, hp, hpf, HP, hB⟩ := hrel
    clear ho1 hB1
    by_cases hk : 127 < k
    · cases f with
      | zero => simp [sc] at hk2; omega
      | succ f =>
        have hss := sc_step (f + 1) (by omega)
        have hk3 : k / 128 < sc (f + 1) := by omega
        clear hss hk2
        have HK3 := hide hk3
        clear hk3
        go_wp2_with (at_builtin; refine wpList_app rfl _ _ rfl w.heap.size _ (l ++ pre) rfl (ho.alloc _) _ [k % 128 + 128] rfl (byt_one wr (k % 128 + 128) (by omega) (by omega)) ?c1 ?c2 ?_)
        case c1 => first | omega | (simp; omega)
        case c2 => have := hB.size; first | omega | (simp; omega)
        intro v2 w2 ho2 hg2
        have hB2 : Below w.heap.size w w2 := bstepBy (hB.alloc hB.size _) hg2 ho.base_le
        go_wp2
        go_roundw
        case rel => exact ⟨f, k / 128, pre ++ [k % 128 + 128], by omega, rfl, by omega, by omega, unhide HK3, ho2, by simp; omega, by simp; omega, hide (by rw [unhide HP, putGo_on hk]; simp), hB2⟩
        case measure => simp [intOf]; omega
    · have HR := hide (show putN n = pre ++ [k] by rw [unhide HP, putGo_end hk])
      clear HP hk2
      have hk' : ¬ (127 : Int) < k := hk
      go_wp2_with (at_builtin; refine wpList_app rfl _ _ rfl w.heap.size _ (l ++ pre) rfl (ho.alloc _) _ [k] rfl (byt_one wr k (by omega) (by omega)) ?c1 ?c2 ?_)
      case c1 => first | omega | (simp; omega)
      case c2 => have := hB.size; first | omega | (simp; omega)
      intro v2 w2 ho2 hg2
      have hB2 : Below w.heap.size w w2 := bstepBy (hB.alloc hB.size _) hg2 ho.base_le
      go_wp2
      go_ret
      exact ⟨_, rfl, by rw [unhide HR]; exact ho2, hB2⟩

/-- spec.PutNum, whatever it is asked. -/
theorem putS_any (w : World) (v : Value) (l : List Int) (n : Int) (h : Byt w v l) (hl : l.length ≤ 67108864) :
    Calls Tryz.prog 141 #[v, .int .i64 n] w fun e w' => ∃ v', e = .returned v' ∧ Own w' w.heap.size v' (putAll l n) ∧ Below w.heap.size w w' := by
  by_cases hn : n < 0 ∨ 2147483647 < n
  · rw [putAll_out hn]; exact putS_out w v l n h hl hn
  · rw [putAll_in (by omega) (by omega)]; exact putS_in w v l n h hl (by omega) (by omega)

end Go.Proofs.YtaoodcielfabdaaGreat
