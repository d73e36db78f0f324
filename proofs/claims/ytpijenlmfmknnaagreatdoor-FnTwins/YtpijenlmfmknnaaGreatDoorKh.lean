/- Own texts joined: Tmo, Tmp, Tmq, TwR, TwH, TwD, TwE, TwEa, TwEb, TwEc, TwEd, TwEe, TwEf, TwG. -/
import Derived.Test.YtpijenlmfmknnaaGreatDoorKa
import Derived.Test.YtpijenlmfmknnaaGreatDoorKb
import Derived.Test.YtpijenlmfmknnaaGreatDoorKc
import Derived.Test.YtpijenlmfmknnaaGreatDoorKd
import Derived.Test.YtpijenlmfmknnaaGreatDoorKe
import Derived.Test.YtpijenlmfmknnaaGreatDoorKf
import Derived.Test.YtpijenlmfmknnaaGreatDoorKg

/- A call of the twins' reckoning, reckoned once. -/
namespace Go.Proofs.YtpijenlmfmknnaaGreatDoor
set_option linter.unusedVariables false
set_option maxRecDepth 1000000
def tmo : MemoR := ⟨.mk 76 ([.pointer (some ⟨6000, 0, none⟩), .agg ⟨[.int .i64 (.ofNat 1), .int .i64 (.ofNat 1), .int .i64 (.ofNat 0), .int .i64 (.ofNat 0), .int .i64 (.ofNat 2), .int .i64 (.ofNat 0), .int .i64 (.ofNat 3), .slice (some ⟨6001, 0, none⟩) 1 1, .int .i64 (.ofNat 0), .slice none 0 0, .slice none 0 0, .bool false]⟩]) 6100 6223
  ([(6000, .cells ⟨[.int .i64 (.ofNat 0), .int .i64 (.ofNat 1), .int .i64 (.ofNat 0), .slice (some ⟨6002, 0, none⟩) 4 4, .slice none 0 0, .slice none 0 0, .slice (some ⟨6003, 0, none⟩) 2 2, .slice (some ⟨6004, 0, none⟩) 1 1, .slice none 0 0, .bool false, .int .i64 (.ofNat 1), .int .i64 (.ofNat 1), .int .i64 (.ofNat 0), .slice (some ⟨6005, 0, none⟩) 4 4, .slice none 0 0, .slice none 0 0, .slice (some ⟨6006, 0, none⟩) 2 2, .slice (some ⟨6007, 0, none⟩) 2 2, .slice none 0 0, .bool false]⟩ 96 (10, 1)),
    (6001, .cells ⟨[.int .i64 (.ofNat 500)]⟩ 3 (1, 1)),
    (6004, .cells ⟨[.int .i64 (.ofNat 1), .int .i64 (.ofNat 1), .int .i64 (.ofNat 0), .int .i64 (.ofNat 0), .int .i64 (.ofNat 2), .int .i64 (.ofNat 0), .int .i64 (.ofNat 3), .slice (some ⟨6008, 0, none⟩) 1 1, .int .i64 (.ofNat 0), .slice none 0 0, .slice none 0 0, .bool false]⟩ 121 (12, 1)),
    (6008, .cells ⟨[.int .i64 (.ofNat 500)]⟩ 3 (1, 1))])
  ([(6000, some (.cells ⟨[.int .i64 (.ofNat 0), .int .i64 (.ofNat 1), .int .i64 (.ofNat 0), .slice (some ⟨6002, 0, none⟩) 4 4, .slice none 0 0, .slice none 0 0, .slice (some ⟨6003, 0, none⟩) 2 2, .slice (some ⟨6004, 0, none⟩) 1 1, .slice none 0 0, .bool false, .int .i64 (.ofNat 1), .int .i64 (.ofNat 1), .int .i64 (.ofNat 0), .slice (some ⟨6005, 0, none⟩) 4 4, .slice none 0 0, .slice none 0 0, .slice (some ⟨6006, 0, none⟩) 2 2, .slice (some ⟨6007, 0, none⟩) 2 2, .slice none 0 0, .bool false]⟩ 96 (10, 1)))])
  (.bool true), [(6000, 0, 0), (6001, 1, 7)], [(6002, 6000, 3), (6003, 6000, 6), (6004, 6000, 7), (6005, 6000, 13), (6006, 6000, 16), (6007, 6000, 17), (6008, 6004, 7)]⟩
theorem tmo_ok : memoROk Tryz.prog hooks hookB 3000 tmo = true := by decide +kernel
end Go.Proofs.YtpijenlmfmknnaaGreatDoor

/- A call of the twins' reckoning, reckoned once. -/
namespace Go.Proofs.YtpijenlmfmknnaaGreatDoor
set_option linter.unusedVariables false
set_option maxRecDepth 1000000
def tmp : MemoR := ⟨.mk 36 ([.agg ⟨[.int .i64 (.ofNat 0), .int .i64 (.ofNat 1), .int .i64 (.ofNat 0), .slice (some ⟨6000, 0, none⟩) 4 4, .slice none 0 0, .slice none 0 0, .slice (some ⟨6001, 0, none⟩) 2 2, .slice (some ⟨6002, 0, none⟩) 2 2, .slice none 0 0, .bool false]⟩]) 6100 6403
  ([(0, .cells ⟨[.int .i64 (.ofNat 0), .int .i64 (.ofNat 0)]⟩ 0 (0, 0)),
    (1, .cells ⟨[.int .i64 (.ofNat 0), .int .i64 (.ofNat 1)]⟩ 0 (0, 0)),
    (6000, .cells ⟨[.int .u8 (.ofNat 98), .int .u8 (.ofNat 111), .int .u8 (.ofNat 100), .int .u8 (.ofNat 121)]⟩ 5 (1, 1)),
    (6001, .cells ⟨[.int .i64 (.ofNat 0), .slice (some ⟨6003, 0, none⟩) 1 1, .slice none 0 0, .slice none 0 0, .slice none 0 0, .int .i64 (.ofNat 0), .slice (some ⟨6004, 0, none⟩) 1 1, .slice none 0 0, .slice none 0 0, .slice none 0 0]⟩ 55 (5, 1)),
    (6002, .cells ⟨[.int .i64 (.ofNat 1), .int .i64 (.ofNat 1), .int .i64 (.ofNat 0), .int .i64 (.ofNat 0), .int .i64 (.ofNat 2), .int .i64 (.ofNat 0), .int .i64 (.ofNat 3), .slice (some ⟨6005, 0, none⟩) 1 1, .int .i64 (.ofNat 0), .slice none 0 0, .slice none 0 0, .bool false, .int .i64 (.ofNat 1), .int .i64 (.ofNat 1), .int .i64 (.ofNat 1), .int .i64 (.ofNat 0), .int .i64 (.ofNat 3), .int .i64 (.ofNat 0), .int .i64 (.ofNat 2), .slice (some ⟨6006, 0, none⟩) 1 1, .int .i64 (.ofNat 0), .slice none 0 0, .slice none 0 0, .bool false]⟩ 121 (12, 1)),
    (6003, .cells ⟨[.int .u8 (.ofNat 112)]⟩ 5 (1, 1)),
    (6004, .cells ⟨[.int .u8 (.ofNat 98)]⟩ 5 (1, 1)),
    (6005, .cells ⟨[.int .i64 (.ofNat 500)]⟩ 3 (1, 1)),
    (6006, .cells ⟨[.int .i64 (.ofNat 500)]⟩ 3 (1, 1))])
  ([(6402, some (.cells ⟨[.int .u8 (.ofNat 60), .int .u8 (.ofNat 98), .int .u8 (.ofNat 111), .int .u8 (.ofNat 100), .int .u8 (.ofNat 121), .int .u8 (.ofNat 62), .int .u8 (.ofNat 60), .int .u8 (.ofNat 98), .int .u8 (.ofNat 62), .int .u8 (.ofNat 60), .int .u8 (.ofNat 112), .int .u8 (.ofNat 62), .int .u8 (.ofNat 60), .int .u8 (.ofNat 47), .int .u8 (.ofNat 112), .int .u8 (.ofNat 62), .int .u8 (.ofNat 60), .int .u8 (.ofNat 47), .int .u8 (.ofNat 98), .int .u8 (.ofNat 62), .int .u8 (.ofNat 60), .int .u8 (.ofNat 47), .int .u8 (.ofNat 98), .int .u8 (.ofNat 111), .int .u8 (.ofNat 100), .int .u8 (.ofNat 121), .int .u8 (.ofNat 62)]⟩ 5 (1, 1)))])
  (.tuple ⟨[.slice (some ⟨6402, 0, none⟩) 27 27, .bool true]⟩), [(6000, 0, 3), (6001, 0, 6), (6002, 0, 7)], [(6003, 6001, 1), (6004, 6001, 6), (6005, 6002, 7), (6006, 6002, 19)]⟩
theorem tmp_ok : memoROk Tryz.prog hooks hookB 3000 tmp = true := by decide +kernel
end Go.Proofs.YtpijenlmfmknnaaGreatDoor

/- A call of the twins' reckoning, reckoned once. -/
namespace Go.Proofs.YtpijenlmfmknnaaGreatDoor
set_option linter.unusedVariables false
set_option maxRecDepth 1000000
def tmq : MemoR := ⟨.mk 36 ([.agg ⟨[.int .i64 (.ofNat 1), .int .i64 (.ofNat 1), .int .i64 (.ofNat 0), .slice (some ⟨6000, 0, none⟩) 4 4, .slice none 0 0, .slice none 0 0, .slice (some ⟨6001, 0, none⟩) 2 2, .slice (some ⟨6002, 0, none⟩) 2 2, .slice none 0 0, .bool false]⟩]) 6100 6403
  ([(0, .cells ⟨[.int .i64 (.ofNat 0), .int .i64 (.ofNat 0)]⟩ 0 (0, 0)),
    (1, .cells ⟨[.int .i64 (.ofNat 0), .int .i64 (.ofNat 1)]⟩ 0 (0, 0)),
    (6000, .cells ⟨[.int .u8 (.ofNat 98), .int .u8 (.ofNat 111), .int .u8 (.ofNat 100), .int .u8 (.ofNat 121)]⟩ 5 (1, 1)),
    (6001, .cells ⟨[.int .i64 (.ofNat 0), .slice (some ⟨6003, 0, none⟩) 1 1, .slice none 0 0, .slice none 0 0, .slice none 0 0, .int .i64 (.ofNat 0), .slice (some ⟨6004, 0, none⟩) 1 1, .slice none 0 0, .slice none 0 0, .slice none 0 0]⟩ 55 (5, 1)),
    (6002, .cells ⟨[.int .i64 (.ofNat 1), .int .i64 (.ofNat 1), .int .i64 (.ofNat 0), .int .i64 (.ofNat 0), .int .i64 (.ofNat 2), .int .i64 (.ofNat 0), .int .i64 (.ofNat 3), .slice (some ⟨6005, 0, none⟩) 1 1, .int .i64 (.ofNat 0), .slice none 0 0, .slice none 0 0, .bool false, .int .i64 (.ofNat 1), .int .i64 (.ofNat 1), .int .i64 (.ofNat 1), .int .i64 (.ofNat 0), .int .i64 (.ofNat 3), .int .i64 (.ofNat 0), .int .i64 (.ofNat 2), .slice (some ⟨6006, 0, none⟩) 1 1, .int .i64 (.ofNat 0), .slice none 0 0, .slice none 0 0, .bool false]⟩ 121 (12, 1)),
    (6003, .cells ⟨[.int .u8 (.ofNat 112)]⟩ 5 (1, 1)),
    (6004, .cells ⟨[.int .u8 (.ofNat 98)]⟩ 5 (1, 1)),
    (6005, .cells ⟨[.int .i64 (.ofNat 500)]⟩ 3 (1, 1)),
    (6006, .cells ⟨[.int .i64 (.ofNat 500)]⟩ 3 (1, 1))])
  ([(6402, some (.cells ⟨[.int .u8 (.ofNat 60), .int .u8 (.ofNat 98), .int .u8 (.ofNat 111), .int .u8 (.ofNat 100), .int .u8 (.ofNat 121), .int .u8 (.ofNat 62), .int .u8 (.ofNat 60), .int .u8 (.ofNat 98), .int .u8 (.ofNat 62), .int .u8 (.ofNat 60), .int .u8 (.ofNat 112), .int .u8 (.ofNat 62), .int .u8 (.ofNat 60), .int .u8 (.ofNat 47), .int .u8 (.ofNat 112), .int .u8 (.ofNat 62), .int .u8 (.ofNat 60), .int .u8 (.ofNat 47), .int .u8 (.ofNat 98), .int .u8 (.ofNat 62), .int .u8 (.ofNat 60), .int .u8 (.ofNat 47), .int .u8 (.ofNat 98), .int .u8 (.ofNat 111), .int .u8 (.ofNat 100), .int .u8 (.ofNat 121), .int .u8 (.ofNat 62)]⟩ 5 (1, 1)))])
  (.tuple ⟨[.slice (some ⟨6402, 0, none⟩) 27 27, .bool true]⟩), [(6000, 0, 3), (6001, 0, 6), (6002, 0, 7)], [(6003, 6001, 1), (6004, 6001, 6), (6005, 6002, 7), (6006, 6002, 19)]⟩
theorem tmq_ok : memoROk Tryz.prog hooks hookB 3000 tmq = true := by decide +kernel
end Go.Proofs.YtpijenlmfmknnaaGreatDoor

/- A world that the reckoner knows up to its blocks' numbers, and how a call leads from one to another. No program. -/
namespace Go.Proofs.YtpijenlmfmknnaaGreatDoor
open Go.RowKit
set_option linter.unusedVariables false

def nameT : List (Nat × Nat) → Nat → Nat
  | [], x => x
  | p :: l, x => match Nat.beq x p.1 with
    | true => p.2
    | false => nameT l x
def gS (T : List (Nat × Nat)) (x : Nat) : Nat := match Nat.blt x 400 with
  | true => nameT T x
  | false => x + 8192
def hpS (k : List (Nat × Obj)) : Hp := ⟨storeT k (tmk13 none), 400, 0, 0⟩
def likeS (g : Nat → Nat) (s : Hp) : List (Nat × Obj) → Bool
  | [] => true
  | x :: l => (Nat.ble (g x.1) 8191 && (deepO 3 x.2 && (match tget13 s.h (g x.1) with
    | some o => eqO o (mapO g 3 x.2)
    | none => false))) && likeS g s l
def lowT : List (Nat × Nat) → Bool
  | [] => true
  | p :: l => (Nat.ble 16 p.1 && Nat.ble 16 p.2) && lowT l
def onceL : List Nat → Bool
  | [] => true
  | x :: l => (l.all fun y => !(Nat.beq x y)) && onceL l
def goesTo (T : List (Nat × Nat)) (k : List (Nat × Obj)) (s : Hp) : Bool := (lowT T && Nat.ble s.n 8192) && ((k.all fun x => Nat.blt x.1 400) && (onceL (k.map fun x => gS T x.1) && likeS (gS T) s k))
theorem name_lo : ∀ {T : List (Nat × Nat)}, lowT T = true → (∀ x, x < 16 → nameT T x = x) ∧ ∀ x, 16 ≤ x → 16 ≤ nameT T x
  | [], _ => ⟨fun _ _ => rfl, fun _ h => h⟩
  | p :: l, h => by
    rw [lowT, Bool.and_eq_true, Bool.and_eq_true] at h
    have h1 := Nat.le_of_ble_eq_true h.1.1
    have h2 := Nat.le_of_ble_eq_true h.1.2
    obtain ⟨i1, i2⟩ := name_lo h.2
    refine ⟨fun x hx => ?_, fun x hx => ?_⟩
    · rw [nameT, beq_no (show x ≠ p.1 by omega)]; exact i1 x hx
    · rw [nameT]
      split
      · exact h2
      · exact i2 x hx
theorem once_all {α : Type} {f : α → Nat} : ∀ {l : List α}, onceL (l.map f) = true → ∀ x ∈ l, ∀ y ∈ l, f x = f y → x = y
  | [], _, x, hx, _, _, _ => by cases hx
  | a :: l, h, x, hx, y, hy, e => by
    rw [List.map_cons, onceL, Bool.and_eq_true, List.all_eq_true] at h
    have ha : ∀ z ∈ l, f a ≠ f z := fun z hz he => by
      have := h.1 (f z) (List.mem_map.2 ⟨z, hz, rfl⟩)
      rw [he, Nat.beq_refl] at this
      cases this
    rcases List.mem_cons.1 hx with h1 | h1
    · rcases List.mem_cons.1 hy with h2 | h2
      · rw [h1, h2]
      · rw [h1] at e; exact absurd e (ha y h2)
    · rcases List.mem_cons.1 hy with h2 | h2
      · rw [h2] at e; exact absurd e.symm (ha x h1)
      · exact once_all h.2 x h1 y h2 e
theorem store_in : ∀ {l : List (Nat × Obj)} {t : T13 (Option Obj)} {id : Nat} {o : Obj}, (∀ x ∈ l, x.1 ≤ 8191) → id ≤ 8191 → tget13 (storeT l t) id = some o → (id, o) ∈ l ∨ tget13 t id = some o
  | [], t, id, o, _, _, h => .inr h
  | x :: l, t, id, o, hl, hi, h => by
    unfold storeT at h
    rw [tset13_eq] at h
    rcases store_in (fun y hy => hl y (List.mem_cons_of_mem _ hy)) hi h with h | h
    · exact .inl (List.mem_cons_of_mem _ h)
    · rw [tget13_put _ _ _ _ (hl x List.mem_cons_self) hi] at h
      split at h
      · rename_i e
        cases h
        subst e
        exact .inl List.mem_cons_self
      · exact .inr h
theorem like_all : ∀ {g : Nat → Nat} {s : Hp} {l : List (Nat × Obj)}, likeS g s l = true → ∀ x ∈ l, deepO 3 x.2 = true ∧ s.f (g x.1) = some (mapO g 3 x.2)
  | g, s, [], _, x, hx => by cases hx
  | g, s, y :: l, h, x, hx => by
    rw [likeS, Bool.and_eq_true, Bool.and_eq_true, Bool.and_eq_true] at h
    rcases List.mem_cons.1 hx with rfl | hx
    · refine ⟨h.1.2.1, ?_⟩
      have h1 := h.1.2.2
      unfold Hp.f
      rw [if_pos (Nat.le_of_ble_eq_true h.1.1)]
      split at h1
      · rename_i o ho; rw [ho, eqO_eq _ _ h1]
      · cases h1
    · exact like_all h.2 x hx
theorem HR.into {w0 w : World} {B : Nat} {ρ : Rn} {s : Hp} {T : List (Nat × Nat)} {k : List (Nat × Obj)} (H : HR w0 B ρ s.f w) (hfr : ∀ id, s.n ≤ id → ρ id = none) (h : goesTo T k s = true) :
    HR w0 B (fun i => ρ (gS T i)) (hpS k).f w ∧ ∀ id, 400 ≤ id → ρ (gS T id) = none := by
  unfold goesTo at h
  simp only [Bool.and_eq_true] at h
  obtain ⟨⟨h1, h2⟩, h3, h4, h5⟩ := h
  have h2 := Nat.le_of_ble_eq_true h2
  obtain ⟨n1, n2⟩ := name_lo h1
  have hlo : ∀ x, x < 16 → gS T x = x := fun x hx => by
    unfold gS
    rw [show Nat.blt x 400 = true from Nat.ble_eq_true_of_le (show x + 1 ≤ 400 by omega)]
    exact n1 x hx
  have hhi : ∀ x, 16 ≤ x → 16 ≤ gS T x := fun x hx => by
    unfold gS
    split
    · exact n2 x hx
    · omega
  have h3 : ∀ x ∈ k, x.1 < 400 := fun x hx => blt_lt (List.all_eq_true.1 h3 x hx)
  have hin : ∀ id o, (hpS k).f id = some o → (id, o) ∈ k := fun id o e => by
    unfold Hp.f at e
    split at e
    · rename_i hle
      rcases store_in (fun x hx => by have := h3 x hx; omega) hle e with h | h
      · exact h
      · rw [tget13_mk] at h; cases h
    · cases e
  have hl := like_all h5
  refine ⟨⟨H.below, H.base, fun id o e => ?_, fun i j oi oj pi pj hij hi hj ei ej => ?_, fun id o p e h16 hp => ?_, fun x hx => ?_⟩, fun id hid => ?_⟩
  · obtain ⟨hd, e1⟩ := hl _ (hin id o e)
    have ho := H.obj _ _ e1
    cases o with
    | cells l t f => cases l with | mk l =>
      obtain ⟨p, k1, k2, k3, k4, c', el', fz, k5, k6, k7, k8⟩ := ho
      refine ⟨p, k1, by rw [k2]; simp, k3, k4, c', el', fz, k5, k6, fun h16 => k7 (hhi _ h16), fun j v hk => ?_⟩
      have hk : l[j]? = some v := by simpa using hk
      obtain ⟨v', e1, e2⟩ := k8 j (mapV (gS T) 3 v) (by simp [hk])
      exact ⟨v', e1, e2.back (List.all_eq_true.1 hd v (List.mem_of_getElem? hk))⟩
    | map es c => exact ho
    | _ => exact ho.elim
  · have e1 := (hl _ (hin i oi hi)).2
    have e2 := (hl _ (hin j oj hj)).2
    refine H.sep (gS T i) (gS T j) _ _ pi pj (fun e => hij ?_) e1 e2 ei ej
    have := once_all h4 _ (hin i oi hi) _ (hin j oj hj) e
    exact congrArg Prod.fst this
  · exact H.own _ _ p (hl _ (hin id o e)).2 (hhi _ h16) hp
  · obtain ⟨p, e1, e2⟩ := H.glo x hx
    exact ⟨p, by show ρ (gS T x) = _; rw [hlo x hx]; exact e1, e2⟩
  · refine hfr _ ?_
    unfold gS
    rw [show Nat.blt id 400 = false from by
      cases hb : Nat.blt id 400 with
      | false => rfl
      | true => have := blt_lt hb; omega]
    show s.n ≤ id + 8192
    omega

/-- The world at W is as in k, and the block at R too. -/
def St (k : List (Nat × Obj)) (w0 : World) (B : Nat) (W R : Value) (w : World) : Prop := ∃ ρ, HR w0 B ρ (hpS k).f w ∧ VL ρ (.pointer (some ⟨20, 0, none⟩)) W ∧ VL ρ (.pointer (some ⟨390, 0, none⟩)) R ∧ ∀ id, 400 ≤ id → ρ id = none
theorem ptr_there {ρ ρ' : Rn} {x y : Nat} {v : Value} (h : VL ρ (.pointer (some ⟨x, 0, none⟩)) v) (e : ∀ p, ρ x = some p → ρ' y = some p) : VL ρ' (.pointer (some ⟨y, 0, none⟩)) v := by
  rw [VL.ptr] at h ⊢
  obtain ⟨e1, p, e2, e3⟩ := h
  exact ⟨rfl, p, e p e2, e3⟩
/-- What was there stays: so does what the store stands for. -/
theorem HR.later {w0 w w' : World} {B : Nat} {ρ : Rn} {h : Hf} (H : HR w0 B ρ h w) (hb : Below B w0 w') (hs : ∀ b, b < w.heap.size → w'.heap[b]? = w.heap[b]?) : HR w0 B ρ h w' where
  below := hb
  base := H.base
  obj := fun id o e => (H.obj id o e).same fun p hp => by
    obtain ⟨q, e1, e2⟩ := (H.obj id o e).place
    rw [hp] at e1
    cases e1
    exact hs _ e2
  sep := H.sep
  own := H.own
  glo := H.glo
theorem St.later {k : List (Nat × Obj)} {w0 w w' : World} {B : Nat} {W R : Value} (H : St k w0 B W R w) (hb : Below B w0 w') (hs : ∀ b, b < w.heap.size → w'.heap[b]? = w.heap[b]?) : St k w0 B W R w' := by
  obtain ⟨ρ, H, h⟩ := H
  exact ⟨ρ, H.later hb hs, h⟩
def stepOk (E : Callee') (k : List (Nat × Obj)) (f : Nat) (vs : List Value) (T : List (Nat × Nat)) (k' : List (Nat × Obj)) (u : Value) : Bool := match E f vs (hpS k) with
  | some (v, s) => (eqV 3 v u && (Nat.ble 400 s.n && (Nat.beq (gS T 20) 20 && Nat.beq (gS T 390) 390))) && goesTo T k' s
  | none => false
theorem step_st {P : Program} {E : Callee'} (hok : CallOk P E) {k k' : List (Nat × Obj)} {f : Nat} {vs : List Value} {T : List (Nat × Nat)} {u : Value} (h : stepOk E k f vs T k' u = true) {w0 w : World} {B : Nat} {W R : Value} {vs' : List Value}
    (H : St k w0 B W R w) (hvs : ∀ ρ, VL ρ (.pointer (some ⟨20, 0, none⟩)) W → LR (VL ρ) vs vs') : Went P ((callFunc f ⟨vs'⟩).run P w) fun v w' => St k' w0 B W R w' ∧ ∃ ρ, VL ρ u v := by
  obtain ⟨ρ, H, hW, hR, hfr⟩ := H
  unfold stepOk at h
  split at h
  · rename_i v s heq
    simp only [Bool.and_eq_true] at h
    obtain ⟨⟨h1, h2, h3, h5⟩, h4⟩ := h
    have h1 := eqV_eq _ _ _ h1
    subst h1
    have h2 := Nat.le_of_ble_eq_true h2
    have h3 := Nat.eq_of_beq_eq_true h3
    have h5 := Nat.eq_of_beq_eq_true h5
    have hw := hok f vs (hpS k) s v heq w0 B ρ w vs' H (hvs ρ hW) (fun id h1 h2 => hfr id h1)
    have conv : ∀ v' w', Post w0 B ρ (hpS k) s v v' w' → St k' w0 B W R w' ∧ ∃ ρ, VL ρ v v' := by
      rintro v' w' ⟨ρ', H', hE, hv⟩
      obtain ⟨H2, hfr2⟩ := H'.into (fun id hid => by
        rw [hE.out id (by omega)]
        exact hfr id (by omega)) h4
      exact ⟨⟨_, H2, ptr_there (hW.grow hE.le) (fun p hp => by show ρ' (gS T 20) = _; rw [h3]; exact hp), ptr_there (hR.grow hE.le) (fun p hp => by show ρ' (gS T 390) = _; rw [h5]; exact hp), hfr2⟩, ρ', hv⟩
    revert hw
    generalize (callFunc f ⟨vs'⟩).run P w = r
    intro hw
    unfold Went at hw ⊢
    split at hw
    · exact conv _ _ hw
    · exact conv _ _ hw
    · exact Calls.mono hw fun e w' ⟨v', he, hp⟩ => ⟨v', he, conv _ _ hp⟩
    · exact hw.elim
  · cases h
end Go.Proofs.YtpijenlmfmknnaaGreatDoor

/- The reckoner with what was reckoned once for the twins. -/
namespace Go.Proofs.YtpijenlmfmknnaaGreatDoor
open Go.RowKit
set_option linter.unusedVariables false
set_option maxRecDepth 1000000
theorem tm78_ok : HookOk Tryz.prog (memoRH 78 [tma, tmb]) := memoR_ok (good_call Tryz.prog hooks_good hookB_good 3000) (reckoned 3000) (by
  intro m hm
  simp only [List.mem_cons, List.not_mem_nil, or_false] at hm
  rcases hm with rfl | rfl
  · exact ⟨tma_ok, rfl⟩
  · exact ⟨tmb_ok, rfl⟩)
theorem tm75_ok : HookOk Tryz.prog (memoRH 75 [tmc, tmd]) := memoR_ok (good_call Tryz.prog hooks_good hookB_good 3000) (reckoned 3000) (by
  intro m hm
  simp only [List.mem_cons, List.not_mem_nil, or_false] at hm
  rcases hm with rfl | rfl
  · exact ⟨tmc_ok, rfl⟩
  · exact ⟨tmd_ok, rfl⟩)
theorem tm76_ok : HookOk Tryz.prog (memoRH 76 [tme, tmf, tmg, tmh, tmi, tmj, tmk, tml, tmm, tmn, tmo]) := memoR_ok (good_call Tryz.prog hooks_good hookB_good 3000) (reckoned 3000) (by
  intro m hm
  simp only [List.mem_cons, List.not_mem_nil, or_false] at hm
  rcases hm with rfl | rfl | rfl | rfl | rfl | rfl | rfl | rfl | rfl | rfl | rfl
  · exact ⟨tme_ok, rfl⟩
  · exact ⟨tmf_ok, rfl⟩
  · exact ⟨tmg_ok, rfl⟩
  · exact ⟨tmh_ok, rfl⟩
  · exact ⟨tmi_ok, rfl⟩
  · exact ⟨tmj_ok, rfl⟩
  · exact ⟨tmk_ok, rfl⟩
  · exact ⟨tml_ok, rfl⟩
  · exact ⟨tmm_ok, rfl⟩
  · exact ⟨tmn_ok, rfl⟩
  · exact ⟨tmo_ok, rfl⟩)
theorem tm36_ok : HookOk Tryz.prog (memoRH 36 [tmp, tmq]) := memoR_ok (good_call Tryz.prog hooks_good hookB_good 3000) (reckoned 3000) (by
  intro m hm
  simp only [List.mem_cons, List.not_mem_nil, or_false] at hm
  rcases hm with rfl | rfl
  · exact ⟨tmp_ok, rfl⟩
  · exact ⟨tmq_ok, rfl⟩)
def hooks2 : Hook := orHook (memoRH 78 [tma, tmb]) (orHook (memoRH 75 [tmc, tmd]) (orHook (memoRH 76 [tme, tmf, tmg, tmh, tmi, tmj, tmk, tml, tmm, tmn, tmo]) (orHook (memoRH 36 [tmp, tmq]) hooks)))
theorem hooks2_good : GoodH hooks2 := or_good (memoR_good _ _) (or_good (memoR_good _ _) (or_good (memoR_good _ _) (or_good (memoR_good _ _) hooks_good)))
theorem hooks2_ok : HookOk Tryz.prog hooks2 := or_ok tm78_ok (or_ok tm75_ok (or_ok tm76_ok (or_ok tm36_ok hooks_ok)))
theorem rk_ok : CallOk Tryz.prog (call Tryz.prog hooks2 hookB 3000) := reckon (by kernel_rfl) noGo hooks2_good hookB_good hooks2_ok hookB_ok 3000
end Go.Proofs.YtpijenlmfmknnaaGreatDoor

/- The states of the world that the twins go through. -/
namespace Go.Proofs.YtpijenlmfmknnaaGreatDoor
open Go.RowKit
set_option linter.unusedVariables false
set_option maxRecDepth 1000000
def tsA : List (Nat × Obj) := [(0, .cells ⟨[.int .i64 (.ofNat 0), .int .i64 (.ofNat 0)]⟩ 0 (0, 0)),
  (1, .cells ⟨[.int .i64 (.ofNat 0), .int .i64 (.ofNat 1)]⟩ 0 (0, 0)),
  (390, .cells ⟨[.bool false, .slice none 0 0, .slice none 0 0, .slice none 0 0, .int .i64 (.ofNat 0)]⟩ 42 (0, 0)),
  (20, .cells ⟨[.slice (some ⟨21, 0, none⟩) 2 2, .int .i64 (.ofNat 300), .slice none 0 0, .slice none 0 0]⟩ 92 (0, 0)),
  (21, .cells ⟨[.int .i64 (.ofNat 0), .int .i64 (.ofNat 0), .int .i64 (.ofNat 0), .slice (some ⟨22, 0, none⟩) 4 4, .slice none 0 0, .slice none 0 0, .slice (some ⟨23, 0, none⟩) 2 2, .slice none 0 0, .slice none 0 0, .bool false, .int .i64 (.ofNat 1), .int .i64 (.ofNat 0), .int .i64 (.ofNat 0), .slice (some ⟨24, 0, none⟩) 4 4, .slice none 0 0, .slice none 0 0, .slice (some ⟨25, 0, none⟩) 2 2, .slice none 0 0, .slice none 0 0, .bool false]⟩ 96 (10, 1)),
  (22, .cells ⟨[.int .u8 (.ofNat 98), .int .u8 (.ofNat 111), .int .u8 (.ofNat 100), .int .u8 (.ofNat 121)]⟩ 5 (1, 1)),
  (23, .cells ⟨[.int .i64 (.ofNat 0), .slice (some ⟨26, 0, none⟩) 1 1, .slice none 0 0, .slice none 0 0, .slice none 0 0, .int .i64 (.ofNat 0), .slice (some ⟨27, 0, none⟩) 1 1, .slice none 0 0, .slice none 0 0, .slice none 0 0]⟩ 55 (5, 1)),
  (24, .cells ⟨[.int .u8 (.ofNat 98), .int .u8 (.ofNat 111), .int .u8 (.ofNat 100), .int .u8 (.ofNat 121)]⟩ 5 (1, 1)),
  (25, .cells ⟨[.int .i64 (.ofNat 0), .slice (some ⟨28, 0, none⟩) 1 1, .slice none 0 0, .slice none 0 0, .slice none 0 0, .int .i64 (.ofNat 0), .slice (some ⟨29, 0, none⟩) 1 1, .slice none 0 0, .slice none 0 0, .slice none 0 0]⟩ 55 (5, 1)),
  (26, .cells ⟨[.int .u8 (.ofNat 112)]⟩ 5 (1, 1)),
  (27, .cells ⟨[.int .u8 (.ofNat 98)]⟩ 5 (1, 1)),
  (28, .cells ⟨[.int .u8 (.ofNat 112)]⟩ 5 (1, 1)),
  (29, .cells ⟨[.int .u8 (.ofNat 98)]⟩ 5 (1, 1))]
def tsB : List (Nat × Obj) := [(0, .cells ⟨[.int .i64 (.ofNat 0), .int .i64 (.ofNat 0)]⟩ 0 (0, 0)),
  (1, .cells ⟨[.int .i64 (.ofNat 0), .int .i64 (.ofNat 1)]⟩ 0 (0, 0)),
  (390, .cells ⟨[.bool false, .slice none 0 0, .slice none 0 0, .slice none 0 0, .int .i64 (.ofNat 0)]⟩ 42 (0, 0)),
  (20, .cells ⟨[.slice (some ⟨21, 0, none⟩) 2 2, .int .i64 (.ofNat 300), .slice (some ⟨22, 0, none⟩) 1 1, .slice (some ⟨23, 0, none⟩) 1 1]⟩ 92 (0, 0)),
  (21, .cells ⟨[.int .i64 (.ofNat 0), .int .i64 (.ofNat 1), .int .i64 (.ofNat 0), .slice (some ⟨24, 0, none⟩) 4 4, .slice none 0 0, .slice none 0 0, .slice (some ⟨25, 0, none⟩) 2 2, .slice (some ⟨26, 0, none⟩) 1 1, .slice none 0 0, .bool false, .int .i64 (.ofNat 1), .int .i64 (.ofNat 0), .int .i64 (.ofNat 0), .slice (some ⟨27, 0, none⟩) 4 4, .slice none 0 0, .slice none 0 0, .slice (some ⟨28, 0, none⟩) 2 2, .slice none 0 0, .slice none 0 0, .bool false]⟩ 96 (10, 1)),
  (22, .cells ⟨[.int .i64 (.ofNat 1), .slice (some ⟨29, 0, none⟩) 10 10]⟩ 107 (2, 1)),
  (23, .cells ⟨[.int .i64 (.ofNat 0)]⟩ 3 (1, 1)),
  (24, .cells ⟨[.int .u8 (.ofNat 98), .int .u8 (.ofNat 111), .int .u8 (.ofNat 100), .int .u8 (.ofNat 121)]⟩ 5 (1, 1)),
  (25, .cells ⟨[.int .i64 (.ofNat 0), .slice (some ⟨30, 0, none⟩) 1 1, .slice none 0 0, .slice none 0 0, .slice none 0 0, .int .i64 (.ofNat 0), .slice (some ⟨31, 0, none⟩) 1 1, .slice none 0 0, .slice none 0 0, .slice none 0 0]⟩ 55 (5, 1)),
  (26, .cells ⟨[.int .i64 (.ofNat 1), .int .i64 (.ofNat 1), .int .i64 (.ofNat 0), .int .i64 (.ofNat 0), .int .i64 (.ofNat 2), .int .i64 (.ofNat 0), .int .i64 (.ofNat 3), .slice (some ⟨32, 0, none⟩) 1 1, .int .i64 (.ofNat 0), .slice none 0 0, .slice none 0 0, .bool false]⟩ 121 (12, 1)),
  (27, .cells ⟨[.int .u8 (.ofNat 98), .int .u8 (.ofNat 111), .int .u8 (.ofNat 100), .int .u8 (.ofNat 121)]⟩ 5 (1, 1)),
  (28, .cells ⟨[.int .i64 (.ofNat 0), .slice (some ⟨33, 0, none⟩) 1 1, .slice none 0 0, .slice none 0 0, .slice none 0 0, .int .i64 (.ofNat 0), .slice (some ⟨34, 0, none⟩) 1 1, .slice none 0 0, .slice none 0 0, .slice none 0 0]⟩ 55 (5, 1)),
  (29, .cells ⟨[.int .u8 (.ofNat 1), .int .u8 (.ofNat 1), .int .u8 (.ofNat 0), .int .u8 (.ofNat 0), .int .u8 (.ofNat 2), .int .u8 (.ofNat 0), .int .u8 (.ofNat 3), .int .u8 (.ofNat 1), .int .u8 (.ofNat 244), .int .u8 (.ofNat 3)]⟩ 5 (1, 1)),
  (30, .cells ⟨[.int .u8 (.ofNat 112)]⟩ 5 (1, 1)),
  (31, .cells ⟨[.int .u8 (.ofNat 98)]⟩ 5 (1, 1)),
  (32, .cells ⟨[.int .i64 (.ofNat 500)]⟩ 3 (1, 1)),
  (33, .cells ⟨[.int .u8 (.ofNat 112)]⟩ 5 (1, 1)),
  (34, .cells ⟨[.int .u8 (.ofNat 98)]⟩ 5 (1, 1))]
def ts0 : List (Nat × Obj) := [(0, .cells ⟨[.int .i64 (.ofNat 0), .int .i64 (.ofNat 0)]⟩ 0 (0, 0)),
  (1, .cells ⟨[.int .i64 (.ofNat 0), .int .i64 (.ofNat 1)]⟩ 0 (0, 0)),
  (390, .cells ⟨[.bool false, .slice none 0 0, .slice none 0 0, .slice none 0 0, .int .i64 (.ofNat 0)]⟩ 42 (0, 0)),
  (20, .cells ⟨[.slice (some ⟨21, 0, none⟩) 2 2, .int .i64 (.ofNat 300), .slice (some ⟨22, 0, none⟩) 2 2, .slice (some ⟨23, 0, none⟩) 2 2]⟩ 92 (0, 0)),
  (21, .cells ⟨[.int .i64 (.ofNat 0), .int .i64 (.ofNat 1), .int .i64 (.ofNat 0), .slice (some ⟨24, 0, none⟩) 4 4, .slice none 0 0, .slice none 0 0, .slice (some ⟨25, 0, none⟩) 2 2, .slice (some ⟨26, 0, none⟩) 1 1, .slice none 0 0, .bool false, .int .i64 (.ofNat 1), .int .i64 (.ofNat 1), .int .i64 (.ofNat 0), .slice (some ⟨27, 0, none⟩) 4 4, .slice none 0 0, .slice none 0 0, .slice (some ⟨28, 0, none⟩) 2 2, .slice (some ⟨29, 0, none⟩) 1 1, .slice none 0 0, .bool false]⟩ 96 (10, 1)),
  (22, .cells ⟨[.int .i64 (.ofNat 1), .slice (some ⟨30, 0, none⟩) 10 10, .int .i64 (.ofNat 0), .slice (some ⟨31, 0, none⟩) 10 10]⟩ 107 (2, 1)),
  (23, .cells ⟨[.int .i64 (.ofNat 0), .int .i64 (.ofNat 0)]⟩ 3 (1, 1)),
  (24, .cells ⟨[.int .u8 (.ofNat 98), .int .u8 (.ofNat 111), .int .u8 (.ofNat 100), .int .u8 (.ofNat 121)]⟩ 5 (1, 1)),
  (25, .cells ⟨[.int .i64 (.ofNat 0), .slice (some ⟨32, 0, none⟩) 1 1, .slice none 0 0, .slice none 0 0, .slice none 0 0, .int .i64 (.ofNat 0), .slice (some ⟨33, 0, none⟩) 1 1, .slice none 0 0, .slice none 0 0, .slice none 0 0]⟩ 55 (5, 1)),
  (26, .cells ⟨[.int .i64 (.ofNat 1), .int .i64 (.ofNat 1), .int .i64 (.ofNat 0), .int .i64 (.ofNat 0), .int .i64 (.ofNat 2), .int .i64 (.ofNat 0), .int .i64 (.ofNat 3), .slice (some ⟨34, 0, none⟩) 1 1, .int .i64 (.ofNat 0), .slice none 0 0, .slice none 0 0, .bool false]⟩ 121 (12, 1)),
  (27, .cells ⟨[.int .u8 (.ofNat 98), .int .u8 (.ofNat 111), .int .u8 (.ofNat 100), .int .u8 (.ofNat 121)]⟩ 5 (1, 1)),
  (28, .cells ⟨[.int .i64 (.ofNat 0), .slice (some ⟨35, 0, none⟩) 1 1, .slice none 0 0, .slice none 0 0, .slice none 0 0, .int .i64 (.ofNat 0), .slice (some ⟨36, 0, none⟩) 1 1, .slice none 0 0, .slice none 0 0, .slice none 0 0]⟩ 55 (5, 1)),
  (29, .cells ⟨[.int .i64 (.ofNat 1), .int .i64 (.ofNat 1), .int .i64 (.ofNat 1), .int .i64 (.ofNat 0), .int .i64 (.ofNat 3), .int .i64 (.ofNat 0), .int .i64 (.ofNat 2), .slice (some ⟨37, 0, none⟩) 1 1, .int .i64 (.ofNat 0), .slice none 0 0, .slice none 0 0, .bool false]⟩ 121 (12, 1)),
  (30, .cells ⟨[.int .u8 (.ofNat 1), .int .u8 (.ofNat 1), .int .u8 (.ofNat 0), .int .u8 (.ofNat 0), .int .u8 (.ofNat 2), .int .u8 (.ofNat 0), .int .u8 (.ofNat 3), .int .u8 (.ofNat 1), .int .u8 (.ofNat 244), .int .u8 (.ofNat 3)]⟩ 5 (1, 1)),
  (31, .cells ⟨[.int .u8 (.ofNat 1), .int .u8 (.ofNat 1), .int .u8 (.ofNat 1), .int .u8 (.ofNat 0), .int .u8 (.ofNat 3), .int .u8 (.ofNat 0), .int .u8 (.ofNat 2), .int .u8 (.ofNat 1), .int .u8 (.ofNat 244), .int .u8 (.ofNat 3)]⟩ 5 (1, 1)),
  (32, .cells ⟨[.int .u8 (.ofNat 112)]⟩ 5 (1, 1)),
  (33, .cells ⟨[.int .u8 (.ofNat 98)]⟩ 5 (1, 1)),
  (34, .cells ⟨[.int .i64 (.ofNat 500)]⟩ 3 (1, 1)),
  (35, .cells ⟨[.int .u8 (.ofNat 112)]⟩ 5 (1, 1)),
  (36, .cells ⟨[.int .u8 (.ofNat 98)]⟩ 5 (1, 1)),
  (37, .cells ⟨[.int .i64 (.ofNat 500)]⟩ 3 (1, 1))]
def ts1 : List (Nat × Obj) := [(0, .cells ⟨[.int .i64 (.ofNat 0), .int .i64 (.ofNat 0)]⟩ 0 (0, 0)),
  (1, .cells ⟨[.int .i64 (.ofNat 0), .int .i64 (.ofNat 1)]⟩ 0 (0, 0)),
  (390, .cells ⟨[.bool false, .slice none 0 0, .slice none 0 0, .slice none 0 0, .int .i64 (.ofNat 0)]⟩ 42 (0, 0)),
  (20, .cells ⟨[.slice (some ⟨21, 0, none⟩) 2 2, .int .i64 (.ofNat 300), .slice (some ⟨22, 0, none⟩) 1 2, .slice (some ⟨23, 0, none⟩) 2 2]⟩ 92 (0, 0)),
  (21, .cells ⟨[.int .i64 (.ofNat 0), .int .i64 (.ofNat 1), .int .i64 (.ofNat 0), .slice (some ⟨24, 0, none⟩) 4 4, .slice none 0 0, .slice none 0 0, .slice (some ⟨25, 0, none⟩) 2 2, .slice (some ⟨26, 0, none⟩) 1 1, .slice none 0 0, .bool false, .int .i64 (.ofNat 1), .int .i64 (.ofNat 1), .int .i64 (.ofNat 0), .slice (some ⟨27, 0, none⟩) 4 4, .slice none 0 0, .slice none 0 0, .slice (some ⟨28, 0, none⟩) 2 2, .slice (some ⟨29, 0, none⟩) 2 2, .slice none 0 0, .bool false]⟩ 96 (10, 1)),
  (22, .cells ⟨[.int .i64 (.ofNat 0), .slice (some ⟨30, 0, none⟩) 10 10, .int .i64 (.ofNat 0), .slice none 0 0]⟩ 107 (2, 1)),
  (23, .cells ⟨[.int .i64 (.ofNat 0), .int .i64 (.ofNat 0)]⟩ 3 (1, 1)),
  (24, .cells ⟨[.int .u8 (.ofNat 98), .int .u8 (.ofNat 111), .int .u8 (.ofNat 100), .int .u8 (.ofNat 121)]⟩ 5 (1, 1)),
  (25, .cells ⟨[.int .i64 (.ofNat 0), .slice (some ⟨31, 0, none⟩) 1 1, .slice none 0 0, .slice none 0 0, .slice none 0 0, .int .i64 (.ofNat 0), .slice (some ⟨32, 0, none⟩) 1 1, .slice none 0 0, .slice none 0 0, .slice none 0 0]⟩ 55 (5, 1)),
  (26, .cells ⟨[.int .i64 (.ofNat 1), .int .i64 (.ofNat 1), .int .i64 (.ofNat 0), .int .i64 (.ofNat 0), .int .i64 (.ofNat 2), .int .i64 (.ofNat 0), .int .i64 (.ofNat 3), .slice (some ⟨33, 0, none⟩) 1 1, .int .i64 (.ofNat 0), .slice none 0 0, .slice none 0 0, .bool false]⟩ 121 (12, 1)),
  (27, .cells ⟨[.int .u8 (.ofNat 98), .int .u8 (.ofNat 111), .int .u8 (.ofNat 100), .int .u8 (.ofNat 121)]⟩ 5 (1, 1)),
  (28, .cells ⟨[.int .i64 (.ofNat 0), .slice (some ⟨34, 0, none⟩) 1 1, .slice none 0 0, .slice none 0 0, .slice none 0 0, .int .i64 (.ofNat 0), .slice (some ⟨35, 0, none⟩) 1 1, .slice none 0 0, .slice none 0 0, .slice none 0 0]⟩ 55 (5, 1)),
  (29, .cells ⟨[.int .i64 (.ofNat 1), .int .i64 (.ofNat 1), .int .i64 (.ofNat 0), .int .i64 (.ofNat 0), .int .i64 (.ofNat 2), .int .i64 (.ofNat 0), .int .i64 (.ofNat 3), .slice (some ⟨36, 0, none⟩) 1 1, .int .i64 (.ofNat 0), .slice none 0 0, .slice none 0 0, .bool false, .int .i64 (.ofNat 1), .int .i64 (.ofNat 1), .int .i64 (.ofNat 1), .int .i64 (.ofNat 0), .int .i64 (.ofNat 3), .int .i64 (.ofNat 0), .int .i64 (.ofNat 2), .slice (some ⟨37, 0, none⟩) 1 1, .int .i64 (.ofNat 0), .slice none 0 0, .slice none 0 0, .bool false]⟩ 121 (12, 1)),
  (30, .cells ⟨[.int .u8 (.ofNat 1), .int .u8 (.ofNat 1), .int .u8 (.ofNat 1), .int .u8 (.ofNat 0), .int .u8 (.ofNat 3), .int .u8 (.ofNat 0), .int .u8 (.ofNat 2), .int .u8 (.ofNat 1), .int .u8 (.ofNat 244), .int .u8 (.ofNat 3)]⟩ 5 (1, 1)),
  (31, .cells ⟨[.int .u8 (.ofNat 112)]⟩ 5 (1, 1)),
  (32, .cells ⟨[.int .u8 (.ofNat 98)]⟩ 5 (1, 1)),
  (33, .cells ⟨[.int .i64 (.ofNat 500)]⟩ 3 (1, 1)),
  (34, .cells ⟨[.int .u8 (.ofNat 112)]⟩ 5 (1, 1)),
  (35, .cells ⟨[.int .u8 (.ofNat 98)]⟩ 5 (1, 1)),
  (36, .cells ⟨[.int .i64 (.ofNat 500)]⟩ 3 (1, 1)),
  (37, .cells ⟨[.int .i64 (.ofNat 500)]⟩ 3 (1, 1))]
def ts2 : List (Nat × Obj) := [(0, .cells ⟨[.int .i64 (.ofNat 0), .int .i64 (.ofNat 0)]⟩ 0 (0, 0)),
  (1, .cells ⟨[.int .i64 (.ofNat 0), .int .i64 (.ofNat 1)]⟩ 0 (0, 0)),
  (390, .cells ⟨[.bool false, .slice none 0 0, .slice none 0 0, .slice none 0 0, .int .i64 (.ofNat 0)]⟩ 42 (0, 0)),
  (20, .cells ⟨[.slice (some ⟨21, 0, none⟩) 2 2, .int .i64 (.ofNat 300), .slice (some ⟨22, 0, none⟩) 2 2, .slice (some ⟨23, 0, none⟩) 2 2]⟩ 92 (0, 0)),
  (21, .cells ⟨[.int .i64 (.ofNat 0), .int .i64 (.ofNat 1), .int .i64 (.ofNat 0), .slice (some ⟨24, 0, none⟩) 4 4, .slice none 0 0, .slice none 0 0, .slice (some ⟨25, 0, none⟩) 2 2, .slice (some ⟨26, 0, none⟩) 1 1, .slice none 0 0, .bool false, .int .i64 (.ofNat 1), .int .i64 (.ofNat 1), .int .i64 (.ofNat 0), .slice (some ⟨27, 0, none⟩) 4 4, .slice none 0 0, .slice none 0 0, .slice (some ⟨28, 0, none⟩) 2 2, .slice (some ⟨29, 0, none⟩) 2 2, .slice none 0 0, .bool false]⟩ 96 (10, 1)),
  (22, .cells ⟨[.int .i64 (.ofNat 1), .slice (some ⟨30, 0, none⟩) 10 10, .int .i64 (.ofNat 0), .slice (some ⟨31, 0, none⟩) 10 10]⟩ 107 (2, 1)),
  (23, .cells ⟨[.int .i64 (.ofNat 0), .int .i64 (.ofNat 0)]⟩ 3 (1, 1)),
  (24, .cells ⟨[.int .u8 (.ofNat 98), .int .u8 (.ofNat 111), .int .u8 (.ofNat 100), .int .u8 (.ofNat 121)]⟩ 5 (1, 1)),
  (25, .cells ⟨[.int .i64 (.ofNat 0), .slice (some ⟨32, 0, none⟩) 1 1, .slice none 0 0, .slice none 0 0, .slice none 0 0, .int .i64 (.ofNat 0), .slice (some ⟨33, 0, none⟩) 1 1, .slice none 0 0, .slice none 0 0, .slice none 0 0]⟩ 55 (5, 1)),
  (26, .cells ⟨[.int .i64 (.ofNat 1), .int .i64 (.ofNat 1), .int .i64 (.ofNat 0), .int .i64 (.ofNat 0), .int .i64 (.ofNat 2), .int .i64 (.ofNat 0), .int .i64 (.ofNat 3), .slice (some ⟨34, 0, none⟩) 1 1, .int .i64 (.ofNat 0), .slice none 0 0, .slice none 0 0, .bool false]⟩ 121 (12, 1)),
  (27, .cells ⟨[.int .u8 (.ofNat 98), .int .u8 (.ofNat 111), .int .u8 (.ofNat 100), .int .u8 (.ofNat 121)]⟩ 5 (1, 1)),
  (28, .cells ⟨[.int .i64 (.ofNat 0), .slice (some ⟨35, 0, none⟩) 1 1, .slice none 0 0, .slice none 0 0, .slice none 0 0, .int .i64 (.ofNat 0), .slice (some ⟨36, 0, none⟩) 1 1, .slice none 0 0, .slice none 0 0, .slice none 0 0]⟩ 55 (5, 1)),
  (29, .cells ⟨[.int .i64 (.ofNat 1), .int .i64 (.ofNat 1), .int .i64 (.ofNat 0), .int .i64 (.ofNat 0), .int .i64 (.ofNat 2), .int .i64 (.ofNat 0), .int .i64 (.ofNat 3), .slice (some ⟨37, 0, none⟩) 1 1, .int .i64 (.ofNat 0), .slice none 0 0, .slice none 0 0, .bool false, .int .i64 (.ofNat 1), .int .i64 (.ofNat 1), .int .i64 (.ofNat 1), .int .i64 (.ofNat 0), .int .i64 (.ofNat 3), .int .i64 (.ofNat 0), .int .i64 (.ofNat 2), .slice (some ⟨38, 0, none⟩) 1 1, .int .i64 (.ofNat 0), .slice none 0 0, .slice none 0 0, .bool false]⟩ 121 (12, 1)),
  (30, .cells ⟨[.int .u8 (.ofNat 1), .int .u8 (.ofNat 1), .int .u8 (.ofNat 0), .int .u8 (.ofNat 0), .int .u8 (.ofNat 2), .int .u8 (.ofNat 0), .int .u8 (.ofNat 3), .int .u8 (.ofNat 1), .int .u8 (.ofNat 244), .int .u8 (.ofNat 3)]⟩ 5 (1, 1)),
  (31, .cells ⟨[.int .u8 (.ofNat 1), .int .u8 (.ofNat 1), .int .u8 (.ofNat 1), .int .u8 (.ofNat 0), .int .u8 (.ofNat 3), .int .u8 (.ofNat 0), .int .u8 (.ofNat 2), .int .u8 (.ofNat 1), .int .u8 (.ofNat 244), .int .u8 (.ofNat 3)]⟩ 5 (1, 1)),
  (32, .cells ⟨[.int .u8 (.ofNat 112)]⟩ 5 (1, 1)),
  (33, .cells ⟨[.int .u8 (.ofNat 98)]⟩ 5 (1, 1)),
  (34, .cells ⟨[.int .i64 (.ofNat 500)]⟩ 3 (1, 1)),
  (35, .cells ⟨[.int .u8 (.ofNat 112)]⟩ 5 (1, 1)),
  (36, .cells ⟨[.int .u8 (.ofNat 98)]⟩ 5 (1, 1)),
  (37, .cells ⟨[.int .i64 (.ofNat 500)]⟩ 3 (1, 1)),
  (38, .cells ⟨[.int .i64 (.ofNat 500)]⟩ 3 (1, 1))]
def ts3 : List (Nat × Obj) := [(0, .cells ⟨[.int .i64 (.ofNat 0), .int .i64 (.ofNat 0)]⟩ 0 (0, 0)),
  (1, .cells ⟨[.int .i64 (.ofNat 0), .int .i64 (.ofNat 1)]⟩ 0 (0, 0)),
  (390, .cells ⟨[.bool false, .slice none 0 0, .slice none 0 0, .slice none 0 0, .int .i64 (.ofNat 0)]⟩ 42 (0, 0)),
  (20, .cells ⟨[.slice (some ⟨21, 0, none⟩) 2 2, .int .i64 (.ofNat 300), .slice (some ⟨22, 0, none⟩) 1 2, .slice (some ⟨23, 0, none⟩) 2 2]⟩ 92 (0, 0)),
  (21, .cells ⟨[.int .i64 (.ofNat 0), .int .i64 (.ofNat 1), .int .i64 (.ofNat 0), .slice (some ⟨24, 0, none⟩) 4 4, .slice none 0 0, .slice none 0 0, .slice (some ⟨25, 0, none⟩) 2 2, .slice (some ⟨26, 0, none⟩) 1 1, .slice none 0 0, .bool false, .int .i64 (.ofNat 1), .int .i64 (.ofNat 1), .int .i64 (.ofNat 0), .slice (some ⟨27, 0, none⟩) 4 4, .slice none 0 0, .slice none 0 0, .slice (some ⟨28, 0, none⟩) 2 2, .slice (some ⟨29, 0, none⟩) 1 1, .slice none 0 0, .bool false]⟩ 96 (10, 1)),
  (22, .cells ⟨[.int .i64 (.ofNat 0), .slice (some ⟨30, 0, none⟩) 10 10, .int .i64 (.ofNat 0), .slice none 0 0]⟩ 107 (2, 1)),
  (23, .cells ⟨[.int .i64 (.ofNat 0), .int .i64 (.ofNat 0)]⟩ 3 (1, 1)),
  (24, .cells ⟨[.int .u8 (.ofNat 98), .int .u8 (.ofNat 111), .int .u8 (.ofNat 100), .int .u8 (.ofNat 121)]⟩ 5 (1, 1)),
  (25, .cells ⟨[.int .i64 (.ofNat 0), .slice (some ⟨31, 0, none⟩) 1 1, .slice none 0 0, .slice none 0 0, .slice none 0 0, .int .i64 (.ofNat 0), .slice (some ⟨32, 0, none⟩) 1 1, .slice none 0 0, .slice none 0 0, .slice none 0 0]⟩ 55 (5, 1)),
  (26, .cells ⟨[.int .i64 (.ofNat 1), .int .i64 (.ofNat 1), .int .i64 (.ofNat 0), .int .i64 (.ofNat 0), .int .i64 (.ofNat 2), .int .i64 (.ofNat 0), .int .i64 (.ofNat 3), .slice (some ⟨33, 0, none⟩) 1 1, .int .i64 (.ofNat 0), .slice none 0 0, .slice none 0 0, .bool false]⟩ 121 (12, 1)),
  (27, .cells ⟨[.int .u8 (.ofNat 98), .int .u8 (.ofNat 111), .int .u8 (.ofNat 100), .int .u8 (.ofNat 121)]⟩ 5 (1, 1)),
  (28, .cells ⟨[.int .i64 (.ofNat 0), .slice (some ⟨34, 0, none⟩) 1 1, .slice none 0 0, .slice none 0 0, .slice none 0 0, .int .i64 (.ofNat 0), .slice (some ⟨35, 0, none⟩) 1 1, .slice none 0 0, .slice none 0 0, .slice none 0 0]⟩ 55 (5, 1)),
  (29, .cells ⟨[.int .i64 (.ofNat 1), .int .i64 (.ofNat 1), .int .i64 (.ofNat 1), .int .i64 (.ofNat 0), .int .i64 (.ofNat 3), .int .i64 (.ofNat 0), .int .i64 (.ofNat 2), .slice (some ⟨36, 0, none⟩) 1 1, .int .i64 (.ofNat 0), .slice none 0 0, .slice none 0 0, .bool false]⟩ 121 (12, 1)),
  (30, .cells ⟨[.int .u8 (.ofNat 1), .int .u8 (.ofNat 1), .int .u8 (.ofNat 1), .int .u8 (.ofNat 0), .int .u8 (.ofNat 3), .int .u8 (.ofNat 0), .int .u8 (.ofNat 2), .int .u8 (.ofNat 1), .int .u8 (.ofNat 244), .int .u8 (.ofNat 3)]⟩ 5 (1, 1)),
  (31, .cells ⟨[.int .u8 (.ofNat 112)]⟩ 5 (1, 1)),
  (32, .cells ⟨[.int .u8 (.ofNat 98)]⟩ 5 (1, 1)),
  (33, .cells ⟨[.int .i64 (.ofNat 500)]⟩ 3 (1, 1)),
  (34, .cells ⟨[.int .u8 (.ofNat 112)]⟩ 5 (1, 1)),
  (35, .cells ⟨[.int .u8 (.ofNat 98)]⟩ 5 (1, 1)),
  (36, .cells ⟨[.int .i64 (.ofNat 500)]⟩ 3 (1, 1))]
def ts4 : List (Nat × Obj) := [(0, .cells ⟨[.int .i64 (.ofNat 0), .int .i64 (.ofNat 0)]⟩ 0 (0, 0)),
  (1, .cells ⟨[.int .i64 (.ofNat 0), .int .i64 (.ofNat 1)]⟩ 0 (0, 0)),
  (390, .cells ⟨[.bool false, .slice none 0 0, .slice none 0 0, .slice none 0 0, .int .i64 (.ofNat 0)]⟩ 42 (0, 0)),
  (20, .cells ⟨[.slice (some ⟨21, 0, none⟩) 2 2, .int .i64 (.ofNat 300), .slice (some ⟨22, 0, none⟩) 1 2, .slice (some ⟨23, 0, none⟩) 2 2]⟩ 92 (0, 0)),
  (21, .cells ⟨[.int .i64 (.ofNat 0), .int .i64 (.ofNat 1), .int .i64 (.ofNat 0), .slice (some ⟨24, 0, none⟩) 4 4, .slice none 0 0, .slice none 0 0, .slice (some ⟨25, 0, none⟩) 2 2, .slice (some ⟨26, 0, none⟩) 2 2, .slice none 0 0, .bool false, .int .i64 (.ofNat 1), .int .i64 (.ofNat 1), .int .i64 (.ofNat 0), .slice (some ⟨27, 0, none⟩) 4 4, .slice none 0 0, .slice none 0 0, .slice (some ⟨28, 0, none⟩) 2 2, .slice (some ⟨29, 0, none⟩) 1 1, .slice none 0 0, .bool false]⟩ 96 (10, 1)),
  (22, .cells ⟨[.int .i64 (.ofNat 1), .slice (some ⟨30, 0, none⟩) 10 10, .int .i64 (.ofNat 0), .slice none 0 0]⟩ 107 (2, 1)),
  (23, .cells ⟨[.int .i64 (.ofNat 0), .int .i64 (.ofNat 0)]⟩ 3 (1, 1)),
  (24, .cells ⟨[.int .u8 (.ofNat 98), .int .u8 (.ofNat 111), .int .u8 (.ofNat 100), .int .u8 (.ofNat 121)]⟩ 5 (1, 1)),
  (25, .cells ⟨[.int .i64 (.ofNat 0), .slice (some ⟨31, 0, none⟩) 1 1, .slice none 0 0, .slice none 0 0, .slice none 0 0, .int .i64 (.ofNat 0), .slice (some ⟨32, 0, none⟩) 1 1, .slice none 0 0, .slice none 0 0, .slice none 0 0]⟩ 55 (5, 1)),
  (26, .cells ⟨[.int .i64 (.ofNat 1), .int .i64 (.ofNat 1), .int .i64 (.ofNat 0), .int .i64 (.ofNat 0), .int .i64 (.ofNat 2), .int .i64 (.ofNat 0), .int .i64 (.ofNat 3), .slice (some ⟨33, 0, none⟩) 1 1, .int .i64 (.ofNat 0), .slice none 0 0, .slice none 0 0, .bool false, .int .i64 (.ofNat 1), .int .i64 (.ofNat 1), .int .i64 (.ofNat 1), .int .i64 (.ofNat 0), .int .i64 (.ofNat 3), .int .i64 (.ofNat 0), .int .i64 (.ofNat 2), .slice (some ⟨34, 0, none⟩) 1 1, .int .i64 (.ofNat 0), .slice none 0 0, .slice none 0 0, .bool false]⟩ 121 (12, 1)),
  (27, .cells ⟨[.int .u8 (.ofNat 98), .int .u8 (.ofNat 111), .int .u8 (.ofNat 100), .int .u8 (.ofNat 121)]⟩ 5 (1, 1)),
  (28, .cells ⟨[.int .i64 (.ofNat 0), .slice (some ⟨35, 0, none⟩) 1 1, .slice none 0 0, .slice none 0 0, .slice none 0 0, .int .i64 (.ofNat 0), .slice (some ⟨36, 0, none⟩) 1 1, .slice none 0 0, .slice none 0 0, .slice none 0 0]⟩ 55 (5, 1)),
  (29, .cells ⟨[.int .i64 (.ofNat 1), .int .i64 (.ofNat 1), .int .i64 (.ofNat 1), .int .i64 (.ofNat 0), .int .i64 (.ofNat 3), .int .i64 (.ofNat 0), .int .i64 (.ofNat 2), .slice (some ⟨37, 0, none⟩) 1 1, .int .i64 (.ofNat 0), .slice none 0 0, .slice none 0 0, .bool false]⟩ 121 (12, 1)),
  (30, .cells ⟨[.int .u8 (.ofNat 1), .int .u8 (.ofNat 1), .int .u8 (.ofNat 0), .int .u8 (.ofNat 0), .int .u8 (.ofNat 2), .int .u8 (.ofNat 0), .int .u8 (.ofNat 3), .int .u8 (.ofNat 1), .int .u8 (.ofNat 244), .int .u8 (.ofNat 3)]⟩ 5 (1, 1)),
  (31, .cells ⟨[.int .u8 (.ofNat 112)]⟩ 5 (1, 1)),
  (32, .cells ⟨[.int .u8 (.ofNat 98)]⟩ 5 (1, 1)),
  (33, .cells ⟨[.int .i64 (.ofNat 500)]⟩ 3 (1, 1)),
  (34, .cells ⟨[.int .i64 (.ofNat 500)]⟩ 3 (1, 1)),
  (35, .cells ⟨[.int .u8 (.ofNat 112)]⟩ 5 (1, 1)),
  (36, .cells ⟨[.int .u8 (.ofNat 98)]⟩ 5 (1, 1)),
  (37, .cells ⟨[.int .i64 (.ofNat 500)]⟩ 3 (1, 1))]
def ts5 : List (Nat × Obj) := [(0, .cells ⟨[.int .i64 (.ofNat 0), .int .i64 (.ofNat 0)]⟩ 0 (0, 0)),
  (1, .cells ⟨[.int .i64 (.ofNat 0), .int .i64 (.ofNat 1)]⟩ 0 (0, 0)),
  (390, .cells ⟨[.bool false, .slice none 0 0, .slice none 0 0, .slice none 0 0, .int .i64 (.ofNat 0)]⟩ 42 (0, 0)),
  (20, .cells ⟨[.slice (some ⟨21, 0, none⟩) 2 2, .int .i64 (.ofNat 300), .slice (some ⟨22, 0, none⟩) 2 2, .slice (some ⟨23, 0, none⟩) 2 2]⟩ 92 (0, 0)),
  (21, .cells ⟨[.int .i64 (.ofNat 0), .int .i64 (.ofNat 1), .int .i64 (.ofNat 0), .slice (some ⟨24, 0, none⟩) 4 4, .slice none 0 0, .slice none 0 0, .slice (some ⟨25, 0, none⟩) 2 2, .slice (some ⟨26, 0, none⟩) 2 2, .slice none 0 0, .bool false, .int .i64 (.ofNat 1), .int .i64 (.ofNat 1), .int .i64 (.ofNat 0), .slice (some ⟨27, 0, none⟩) 4 4, .slice none 0 0, .slice none 0 0, .slice (some ⟨28, 0, none⟩) 2 2, .slice (some ⟨29, 0, none⟩) 1 1, .slice none 0 0, .bool false]⟩ 96 (10, 1)),
  (22, .cells ⟨[.int .i64 (.ofNat 1), .slice (some ⟨30, 0, none⟩) 10 10, .int .i64 (.ofNat 0), .slice (some ⟨31, 0, none⟩) 10 10]⟩ 107 (2, 1)),
  (23, .cells ⟨[.int .i64 (.ofNat 0), .int .i64 (.ofNat 0)]⟩ 3 (1, 1)),
  (24, .cells ⟨[.int .u8 (.ofNat 98), .int .u8 (.ofNat 111), .int .u8 (.ofNat 100), .int .u8 (.ofNat 121)]⟩ 5 (1, 1)),
  (25, .cells ⟨[.int .i64 (.ofNat 0), .slice (some ⟨32, 0, none⟩) 1 1, .slice none 0 0, .slice none 0 0, .slice none 0 0, .int .i64 (.ofNat 0), .slice (some ⟨33, 0, none⟩) 1 1, .slice none 0 0, .slice none 0 0, .slice none 0 0]⟩ 55 (5, 1)),
  (26, .cells ⟨[.int .i64 (.ofNat 1), .int .i64 (.ofNat 1), .int .i64 (.ofNat 0), .int .i64 (.ofNat 0), .int .i64 (.ofNat 2), .int .i64 (.ofNat 0), .int .i64 (.ofNat 3), .slice (some ⟨34, 0, none⟩) 1 1, .int .i64 (.ofNat 0), .slice none 0 0, .slice none 0 0, .bool false, .int .i64 (.ofNat 1), .int .i64 (.ofNat 1), .int .i64 (.ofNat 1), .int .i64 (.ofNat 0), .int .i64 (.ofNat 3), .int .i64 (.ofNat 0), .int .i64 (.ofNat 2), .slice (some ⟨35, 0, none⟩) 1 1, .int .i64 (.ofNat 0), .slice none 0 0, .slice none 0 0, .bool false]⟩ 121 (12, 1)),
  (27, .cells ⟨[.int .u8 (.ofNat 98), .int .u8 (.ofNat 111), .int .u8 (.ofNat 100), .int .u8 (.ofNat 121)]⟩ 5 (1, 1)),
  (28, .cells ⟨[.int .i64 (.ofNat 0), .slice (some ⟨36, 0, none⟩) 1 1, .slice none 0 0, .slice none 0 0, .slice none 0 0, .int .i64 (.ofNat 0), .slice (some ⟨37, 0, none⟩) 1 1, .slice none 0 0, .slice none 0 0, .slice none 0 0]⟩ 55 (5, 1)),
  (29, .cells ⟨[.int .i64 (.ofNat 1), .int .i64 (.ofNat 1), .int .i64 (.ofNat 1), .int .i64 (.ofNat 0), .int .i64 (.ofNat 3), .int .i64 (.ofNat 0), .int .i64 (.ofNat 2), .slice (some ⟨38, 0, none⟩) 1 1, .int .i64 (.ofNat 0), .slice none 0 0, .slice none 0 0, .bool false]⟩ 121 (12, 1)),
  (30, .cells ⟨[.int .u8 (.ofNat 1), .int .u8 (.ofNat 1), .int .u8 (.ofNat 0), .int .u8 (.ofNat 0), .int .u8 (.ofNat 2), .int .u8 (.ofNat 0), .int .u8 (.ofNat 3), .int .u8 (.ofNat 1), .int .u8 (.ofNat 244), .int .u8 (.ofNat 3)]⟩ 5 (1, 1)),
  (31, .cells ⟨[.int .u8 (.ofNat 1), .int .u8 (.ofNat 1), .int .u8 (.ofNat 1), .int .u8 (.ofNat 0), .int .u8 (.ofNat 3), .int .u8 (.ofNat 0), .int .u8 (.ofNat 2), .int .u8 (.ofNat 1), .int .u8 (.ofNat 244), .int .u8 (.ofNat 3)]⟩ 5 (1, 1)),
  (32, .cells ⟨[.int .u8 (.ofNat 112)]⟩ 5 (1, 1)),
  (33, .cells ⟨[.int .u8 (.ofNat 98)]⟩ 5 (1, 1)),
  (34, .cells ⟨[.int .i64 (.ofNat 500)]⟩ 3 (1, 1)),
  (35, .cells ⟨[.int .i64 (.ofNat 500)]⟩ 3 (1, 1)),
  (36, .cells ⟨[.int .u8 (.ofNat 112)]⟩ 5 (1, 1)),
  (37, .cells ⟨[.int .u8 (.ofNat 98)]⟩ 5 (1, 1)),
  (38, .cells ⟨[.int .i64 (.ofNat 500)]⟩ 3 (1, 1))]
def ts6 : List (Nat × Obj) := [(0, .cells ⟨[.int .i64 (.ofNat 0), .int .i64 (.ofNat 0)]⟩ 0 (0, 0)),
  (1, .cells ⟨[.int .i64 (.ofNat 0), .int .i64 (.ofNat 1)]⟩ 0 (0, 0)),
  (390, .cells ⟨[.bool false, .slice none 0 0, .slice none 0 0, .slice none 0 0, .int .i64 (.ofNat 0)]⟩ 42 (0, 0)),
  (20, .cells ⟨[.slice (some ⟨21, 0, none⟩) 2 2, .int .i64 (.ofNat 300), .slice (some ⟨22, 0, none⟩) 1 2, .slice (some ⟨23, 0, none⟩) 2 2]⟩ 92 (0, 0)),
  (21, .cells ⟨[.int .i64 (.ofNat 0), .int .i64 (.ofNat 1), .int .i64 (.ofNat 0), .slice (some ⟨24, 0, none⟩) 4 4, .slice none 0 0, .slice none 0 0, .slice (some ⟨25, 0, none⟩) 2 2, .slice (some ⟨26, 0, none⟩) 1 1, .slice none 0 0, .bool false, .int .i64 (.ofNat 1), .int .i64 (.ofNat 1), .int .i64 (.ofNat 0), .slice (some ⟨27, 0, none⟩) 4 4, .slice none 0 0, .slice none 0 0, .slice (some ⟨28, 0, none⟩) 2 2, .slice (some ⟨29, 0, none⟩) 1 1, .slice none 0 0, .bool false]⟩ 96 (10, 1)),
  (22, .cells ⟨[.int .i64 (.ofNat 1), .slice (some ⟨30, 0, none⟩) 10 10, .int .i64 (.ofNat 0), .slice none 0 0]⟩ 107 (2, 1)),
  (23, .cells ⟨[.int .i64 (.ofNat 0), .int .i64 (.ofNat 0)]⟩ 3 (1, 1)),
  (24, .cells ⟨[.int .u8 (.ofNat 98), .int .u8 (.ofNat 111), .int .u8 (.ofNat 100), .int .u8 (.ofNat 121)]⟩ 5 (1, 1)),
  (25, .cells ⟨[.int .i64 (.ofNat 0), .slice (some ⟨31, 0, none⟩) 1 1, .slice none 0 0, .slice none 0 0, .slice none 0 0, .int .i64 (.ofNat 0), .slice (some ⟨32, 0, none⟩) 1 1, .slice none 0 0, .slice none 0 0, .slice none 0 0]⟩ 55 (5, 1)),
  (26, .cells ⟨[.int .i64 (.ofNat 1), .int .i64 (.ofNat 1), .int .i64 (.ofNat 0), .int .i64 (.ofNat 0), .int .i64 (.ofNat 2), .int .i64 (.ofNat 0), .int .i64 (.ofNat 3), .slice (some ⟨33, 0, none⟩) 1 1, .int .i64 (.ofNat 0), .slice none 0 0, .slice none 0 0, .bool false]⟩ 121 (12, 1)),
  (27, .cells ⟨[.int .u8 (.ofNat 98), .int .u8 (.ofNat 111), .int .u8 (.ofNat 100), .int .u8 (.ofNat 121)]⟩ 5 (1, 1)),
  (28, .cells ⟨[.int .i64 (.ofNat 0), .slice (some ⟨34, 0, none⟩) 1 1, .slice none 0 0, .slice none 0 0, .slice none 0 0, .int .i64 (.ofNat 0), .slice (some ⟨35, 0, none⟩) 1 1, .slice none 0 0, .slice none 0 0, .slice none 0 0]⟩ 55 (5, 1)),
  (29, .cells ⟨[.int .i64 (.ofNat 1), .int .i64 (.ofNat 1), .int .i64 (.ofNat 1), .int .i64 (.ofNat 0), .int .i64 (.ofNat 3), .int .i64 (.ofNat 0), .int .i64 (.ofNat 2), .slice (some ⟨36, 0, none⟩) 1 1, .int .i64 (.ofNat 0), .slice none 0 0, .slice none 0 0, .bool false]⟩ 121 (12, 1)),
  (30, .cells ⟨[.int .u8 (.ofNat 1), .int .u8 (.ofNat 1), .int .u8 (.ofNat 0), .int .u8 (.ofNat 0), .int .u8 (.ofNat 2), .int .u8 (.ofNat 0), .int .u8 (.ofNat 3), .int .u8 (.ofNat 1), .int .u8 (.ofNat 244), .int .u8 (.ofNat 3)]⟩ 5 (1, 1)),
  (31, .cells ⟨[.int .u8 (.ofNat 112)]⟩ 5 (1, 1)),
  (32, .cells ⟨[.int .u8 (.ofNat 98)]⟩ 5 (1, 1)),
  (33, .cells ⟨[.int .i64 (.ofNat 500)]⟩ 3 (1, 1)),
  (34, .cells ⟨[.int .u8 (.ofNat 112)]⟩ 5 (1, 1)),
  (35, .cells ⟨[.int .u8 (.ofNat 98)]⟩ 5 (1, 1)),
  (36, .cells ⟨[.int .i64 (.ofNat 500)]⟩ 3 (1, 1))]
def ts7 : List (Nat × Obj) := [(0, .cells ⟨[.int .i64 (.ofNat 0), .int .i64 (.ofNat 0)]⟩ 0 (0, 0)),
  (1, .cells ⟨[.int .i64 (.ofNat 0), .int .i64 (.ofNat 1)]⟩ 0 (0, 0)),
  (390, .cells ⟨[.bool false, .slice none 0 0, .slice none 0 0, .slice none 0 0, .int .i64 (.ofNat 0)]⟩ 42 (0, 0)),
  (20, .cells ⟨[.slice (some ⟨21, 0, none⟩) 2 2, .int .i64 (.ofNat 300), .slice (some ⟨22, 0, none⟩) 0 2, .slice (some ⟨23, 0, none⟩) 2 2]⟩ 92 (0, 0)),
  (21, .cells ⟨[.int .i64 (.ofNat 0), .int .i64 (.ofNat 1), .int .i64 (.ofNat 0), .slice (some ⟨24, 0, none⟩) 4 4, .slice none 0 0, .slice none 0 0, .slice (some ⟨25, 0, none⟩) 2 2, .slice (some ⟨26, 0, none⟩) 2 2, .slice none 0 0, .bool false, .int .i64 (.ofNat 1), .int .i64 (.ofNat 1), .int .i64 (.ofNat 0), .slice (some ⟨27, 0, none⟩) 4 4, .slice none 0 0, .slice none 0 0, .slice (some ⟨28, 0, none⟩) 2 2, .slice (some ⟨29, 0, none⟩) 2 2, .slice none 0 0, .bool false]⟩ 96 (10, 1)),
  (22, .cells ⟨[.int .i64 (.ofNat 0), .slice none 0 0, .int .i64 (.ofNat 0), .slice none 0 0]⟩ 107 (2, 1)),
  (23, .cells ⟨[.int .i64 (.ofNat 0), .int .i64 (.ofNat 0)]⟩ 3 (1, 1)),
  (24, .cells ⟨[.int .u8 (.ofNat 98), .int .u8 (.ofNat 111), .int .u8 (.ofNat 100), .int .u8 (.ofNat 121)]⟩ 5 (1, 1)),
  (25, .cells ⟨[.int .i64 (.ofNat 0), .slice (some ⟨30, 0, none⟩) 1 1, .slice none 0 0, .slice none 0 0, .slice none 0 0, .int .i64 (.ofNat 0), .slice (some ⟨31, 0, none⟩) 1 1, .slice none 0 0, .slice none 0 0, .slice none 0 0]⟩ 55 (5, 1)),
  (26, .cells ⟨[.int .i64 (.ofNat 1), .int .i64 (.ofNat 1), .int .i64 (.ofNat 0), .int .i64 (.ofNat 0), .int .i64 (.ofNat 2), .int .i64 (.ofNat 0), .int .i64 (.ofNat 3), .slice (some ⟨32, 0, none⟩) 1 1, .int .i64 (.ofNat 0), .slice none 0 0, .slice none 0 0, .bool false, .int .i64 (.ofNat 1), .int .i64 (.ofNat 1), .int .i64 (.ofNat 1), .int .i64 (.ofNat 0), .int .i64 (.ofNat 3), .int .i64 (.ofNat 0), .int .i64 (.ofNat 2), .slice (some ⟨33, 0, none⟩) 1 1, .int .i64 (.ofNat 0), .slice none 0 0, .slice none 0 0, .bool false]⟩ 121 (12, 1)),
  (27, .cells ⟨[.int .u8 (.ofNat 98), .int .u8 (.ofNat 111), .int .u8 (.ofNat 100), .int .u8 (.ofNat 121)]⟩ 5 (1, 1)),
  (28, .cells ⟨[.int .i64 (.ofNat 0), .slice (some ⟨34, 0, none⟩) 1 1, .slice none 0 0, .slice none 0 0, .slice none 0 0, .int .i64 (.ofNat 0), .slice (some ⟨35, 0, none⟩) 1 1, .slice none 0 0, .slice none 0 0, .slice none 0 0]⟩ 55 (5, 1)),
  (29, .cells ⟨[.int .i64 (.ofNat 1), .int .i64 (.ofNat 1), .int .i64 (.ofNat 0), .int .i64 (.ofNat 0), .int .i64 (.ofNat 2), .int .i64 (.ofNat 0), .int .i64 (.ofNat 3), .slice (some ⟨36, 0, none⟩) 1 1, .int .i64 (.ofNat 0), .slice none 0 0, .slice none 0 0, .bool false, .int .i64 (.ofNat 1), .int .i64 (.ofNat 1), .int .i64 (.ofNat 1), .int .i64 (.ofNat 0), .int .i64 (.ofNat 3), .int .i64 (.ofNat 0), .int .i64 (.ofNat 2), .slice (some ⟨37, 0, none⟩) 1 1, .int .i64 (.ofNat 0), .slice none 0 0, .slice none 0 0, .bool false]⟩ 121 (12, 1)),
  (30, .cells ⟨[.int .u8 (.ofNat 112)]⟩ 5 (1, 1)),
  (31, .cells ⟨[.int .u8 (.ofNat 98)]⟩ 5 (1, 1)),
  (32, .cells ⟨[.int .i64 (.ofNat 500)]⟩ 3 (1, 1)),
  (33, .cells ⟨[.int .i64 (.ofNat 500)]⟩ 3 (1, 1)),
  (34, .cells ⟨[.int .u8 (.ofNat 112)]⟩ 5 (1, 1)),
  (35, .cells ⟨[.int .u8 (.ofNat 98)]⟩ 5 (1, 1)),
  (36, .cells ⟨[.int .i64 (.ofNat 500)]⟩ 3 (1, 1)),
  (37, .cells ⟨[.int .i64 (.ofNat 500)]⟩ 3 (1, 1))]
def ts8 : List (Nat × Obj) := [(0, .cells ⟨[.int .i64 (.ofNat 0), .int .i64 (.ofNat 0)]⟩ 0 (0, 0)),
  (1, .cells ⟨[.int .i64 (.ofNat 0), .int .i64 (.ofNat 1)]⟩ 0 (0, 0)),
  (390, .cells ⟨[.bool false, .slice none 0 0, .slice none 0 0, .slice none 0 0, .int .i64 (.ofNat 0)]⟩ 42 (0, 0)),
  (20, .cells ⟨[.slice (some ⟨21, 0, none⟩) 2 2, .int .i64 (.ofNat 300), .slice (some ⟨22, 0, none⟩) 1 2, .slice (some ⟨23, 0, none⟩) 2 2]⟩ 92 (0, 0)),
  (21, .cells ⟨[.int .i64 (.ofNat 0), .int .i64 (.ofNat 1), .int .i64 (.ofNat 0), .slice (some ⟨24, 0, none⟩) 4 4, .slice none 0 0, .slice none 0 0, .slice (some ⟨25, 0, none⟩) 2 2, .slice (some ⟨26, 0, none⟩) 2 2, .slice none 0 0, .bool false, .int .i64 (.ofNat 1), .int .i64 (.ofNat 1), .int .i64 (.ofNat 0), .slice (some ⟨27, 0, none⟩) 4 4, .slice none 0 0, .slice none 0 0, .slice (some ⟨28, 0, none⟩) 2 2, .slice (some ⟨29, 0, none⟩) 2 2, .slice none 0 0, .bool false]⟩ 96 (10, 1)),
  (22, .cells ⟨[.int .i64 (.ofNat 0), .slice (some ⟨30, 0, none⟩) 10 10, .int .i64 (.ofNat 0), .slice none 0 0]⟩ 107 (2, 1)),
  (23, .cells ⟨[.int .i64 (.ofNat 0), .int .i64 (.ofNat 0)]⟩ 3 (1, 1)),
  (24, .cells ⟨[.int .u8 (.ofNat 98), .int .u8 (.ofNat 111), .int .u8 (.ofNat 100), .int .u8 (.ofNat 121)]⟩ 5 (1, 1)),
  (25, .cells ⟨[.int .i64 (.ofNat 0), .slice (some ⟨31, 0, none⟩) 1 1, .slice none 0 0, .slice none 0 0, .slice none 0 0, .int .i64 (.ofNat 0), .slice (some ⟨32, 0, none⟩) 1 1, .slice none 0 0, .slice none 0 0, .slice none 0 0]⟩ 55 (5, 1)),
  (26, .cells ⟨[.int .i64 (.ofNat 1), .int .i64 (.ofNat 1), .int .i64 (.ofNat 0), .int .i64 (.ofNat 0), .int .i64 (.ofNat 2), .int .i64 (.ofNat 0), .int .i64 (.ofNat 3), .slice (some ⟨33, 0, none⟩) 1 1, .int .i64 (.ofNat 0), .slice none 0 0, .slice none 0 0, .bool false, .int .i64 (.ofNat 1), .int .i64 (.ofNat 1), .int .i64 (.ofNat 1), .int .i64 (.ofNat 0), .int .i64 (.ofNat 3), .int .i64 (.ofNat 0), .int .i64 (.ofNat 2), .slice (some ⟨34, 0, none⟩) 1 1, .int .i64 (.ofNat 0), .slice none 0 0, .slice none 0 0, .bool false]⟩ 121 (12, 1)),
  (27, .cells ⟨[.int .u8 (.ofNat 98), .int .u8 (.ofNat 111), .int .u8 (.ofNat 100), .int .u8 (.ofNat 121)]⟩ 5 (1, 1)),
  (28, .cells ⟨[.int .i64 (.ofNat 0), .slice (some ⟨35, 0, none⟩) 1 1, .slice none 0 0, .slice none 0 0, .slice none 0 0, .int .i64 (.ofNat 0), .slice (some ⟨36, 0, none⟩) 1 1, .slice none 0 0, .slice none 0 0, .slice none 0 0]⟩ 55 (5, 1)),
  (29, .cells ⟨[.int .i64 (.ofNat 1), .int .i64 (.ofNat 1), .int .i64 (.ofNat 0), .int .i64 (.ofNat 0), .int .i64 (.ofNat 2), .int .i64 (.ofNat 0), .int .i64 (.ofNat 3), .slice (some ⟨37, 0, none⟩) 1 1, .int .i64 (.ofNat 0), .slice none 0 0, .slice none 0 0, .bool false, .int .i64 (.ofNat 1), .int .i64 (.ofNat 1), .int .i64 (.ofNat 1), .int .i64 (.ofNat 0), .int .i64 (.ofNat 3), .int .i64 (.ofNat 0), .int .i64 (.ofNat 2), .slice (some ⟨38, 0, none⟩) 1 1, .int .i64 (.ofNat 0), .slice none 0 0, .slice none 0 0, .bool false]⟩ 121 (12, 1)),
  (30, .cells ⟨[.int .u8 (.ofNat 1), .int .u8 (.ofNat 1), .int .u8 (.ofNat 1), .int .u8 (.ofNat 0), .int .u8 (.ofNat 3), .int .u8 (.ofNat 0), .int .u8 (.ofNat 2), .int .u8 (.ofNat 1), .int .u8 (.ofNat 244), .int .u8 (.ofNat 3)]⟩ 5 (1, 1)),
  (31, .cells ⟨[.int .u8 (.ofNat 112)]⟩ 5 (1, 1)),
  (32, .cells ⟨[.int .u8 (.ofNat 98)]⟩ 5 (1, 1)),
  (33, .cells ⟨[.int .i64 (.ofNat 500)]⟩ 3 (1, 1)),
  (34, .cells ⟨[.int .i64 (.ofNat 500)]⟩ 3 (1, 1)),
  (35, .cells ⟨[.int .u8 (.ofNat 112)]⟩ 5 (1, 1)),
  (36, .cells ⟨[.int .u8 (.ofNat 98)]⟩ 5 (1, 1)),
  (37, .cells ⟨[.int .i64 (.ofNat 500)]⟩ 3 (1, 1)),
  (38, .cells ⟨[.int .i64 (.ofNat 500)]⟩ 3 (1, 1))]
def ts9 : List (Nat × Obj) := [(0, .cells ⟨[.int .i64 (.ofNat 0), .int .i64 (.ofNat 0)]⟩ 0 (0, 0)),
  (1, .cells ⟨[.int .i64 (.ofNat 0), .int .i64 (.ofNat 1)]⟩ 0 (0, 0)),
  (390, .cells ⟨[.bool false, .slice none 0 0, .slice none 0 0, .slice none 0 0, .int .i64 (.ofNat 0)]⟩ 42 (0, 0)),
  (20, .cells ⟨[.slice (some ⟨21, 0, none⟩) 2 2, .int .i64 (.ofNat 300), .slice (some ⟨22, 0, none⟩) 0 2, .slice (some ⟨23, 0, none⟩) 2 2]⟩ 92 (0, 0)),
  (21, .cells ⟨[.int .i64 (.ofNat 0), .int .i64 (.ofNat 1), .int .i64 (.ofNat 0), .slice (some ⟨24, 0, none⟩) 4 4, .slice none 0 0, .slice none 0 0, .slice (some ⟨25, 0, none⟩) 2 2, .slice (some ⟨26, 0, none⟩) 1 1, .slice none 0 0, .bool false, .int .i64 (.ofNat 1), .int .i64 (.ofNat 1), .int .i64 (.ofNat 0), .slice (some ⟨27, 0, none⟩) 4 4, .slice none 0 0, .slice none 0 0, .slice (some ⟨28, 0, none⟩) 2 2, .slice (some ⟨29, 0, none⟩) 2 2, .slice none 0 0, .bool false]⟩ 96 (10, 1)),
  (22, .cells ⟨[.int .i64 (.ofNat 0), .slice none 0 0, .int .i64 (.ofNat 0), .slice none 0 0]⟩ 107 (2, 1)),
  (23, .cells ⟨[.int .i64 (.ofNat 0), .int .i64 (.ofNat 0)]⟩ 3 (1, 1)),
  (24, .cells ⟨[.int .u8 (.ofNat 98), .int .u8 (.ofNat 111), .int .u8 (.ofNat 100), .int .u8 (.ofNat 121)]⟩ 5 (1, 1)),
  (25, .cells ⟨[.int .i64 (.ofNat 0), .slice (some ⟨30, 0, none⟩) 1 1, .slice none 0 0, .slice none 0 0, .slice none 0 0, .int .i64 (.ofNat 0), .slice (some ⟨31, 0, none⟩) 1 1, .slice none 0 0, .slice none 0 0, .slice none 0 0]⟩ 55 (5, 1)),
  (26, .cells ⟨[.int .i64 (.ofNat 1), .int .i64 (.ofNat 1), .int .i64 (.ofNat 0), .int .i64 (.ofNat 0), .int .i64 (.ofNat 2), .int .i64 (.ofNat 0), .int .i64 (.ofNat 3), .slice (some ⟨32, 0, none⟩) 1 1, .int .i64 (.ofNat 0), .slice none 0 0, .slice none 0 0, .bool false]⟩ 121 (12, 1)),
  (27, .cells ⟨[.int .u8 (.ofNat 98), .int .u8 (.ofNat 111), .int .u8 (.ofNat 100), .int .u8 (.ofNat 121)]⟩ 5 (1, 1)),
  (28, .cells ⟨[.int .i64 (.ofNat 0), .slice (some ⟨33, 0, none⟩) 1 1, .slice none 0 0, .slice none 0 0, .slice none 0 0, .int .i64 (.ofNat 0), .slice (some ⟨34, 0, none⟩) 1 1, .slice none 0 0, .slice none 0 0, .slice none 0 0]⟩ 55 (5, 1)),
  (29, .cells ⟨[.int .i64 (.ofNat 1), .int .i64 (.ofNat 1), .int .i64 (.ofNat 0), .int .i64 (.ofNat 0), .int .i64 (.ofNat 2), .int .i64 (.ofNat 0), .int .i64 (.ofNat 3), .slice (some ⟨35, 0, none⟩) 1 1, .int .i64 (.ofNat 0), .slice none 0 0, .slice none 0 0, .bool false, .int .i64 (.ofNat 1), .int .i64 (.ofNat 1), .int .i64 (.ofNat 1), .int .i64 (.ofNat 0), .int .i64 (.ofNat 3), .int .i64 (.ofNat 0), .int .i64 (.ofNat 2), .slice (some ⟨36, 0, none⟩) 1 1, .int .i64 (.ofNat 0), .slice none 0 0, .slice none 0 0, .bool false]⟩ 121 (12, 1)),
  (30, .cells ⟨[.int .u8 (.ofNat 112)]⟩ 5 (1, 1)),
  (31, .cells ⟨[.int .u8 (.ofNat 98)]⟩ 5 (1, 1)),
  (32, .cells ⟨[.int .i64 (.ofNat 500)]⟩ 3 (1, 1)),
  (33, .cells ⟨[.int .u8 (.ofNat 112)]⟩ 5 (1, 1)),
  (34, .cells ⟨[.int .u8 (.ofNat 98)]⟩ 5 (1, 1)),
  (35, .cells ⟨[.int .i64 (.ofNat 500)]⟩ 3 (1, 1)),
  (36, .cells ⟨[.int .i64 (.ofNat 500)]⟩ 3 (1, 1))]
def ts10 : List (Nat × Obj) := [(0, .cells ⟨[.int .i64 (.ofNat 0), .int .i64 (.ofNat 0)]⟩ 0 (0, 0)),
  (1, .cells ⟨[.int .i64 (.ofNat 0), .int .i64 (.ofNat 1)]⟩ 0 (0, 0)),
  (390, .cells ⟨[.bool false, .slice none 0 0, .slice none 0 0, .slice none 0 0, .int .i64 (.ofNat 0)]⟩ 42 (0, 0)),
  (20, .cells ⟨[.slice (some ⟨21, 0, none⟩) 2 2, .int .i64 (.ofNat 300), .slice (some ⟨22, 0, none⟩) 1 2, .slice (some ⟨23, 0, none⟩) 2 2]⟩ 92 (0, 0)),
  (21, .cells ⟨[.int .i64 (.ofNat 0), .int .i64 (.ofNat 1), .int .i64 (.ofNat 0), .slice (some ⟨24, 0, none⟩) 4 4, .slice none 0 0, .slice none 0 0, .slice (some ⟨25, 0, none⟩) 2 2, .slice (some ⟨26, 0, none⟩) 2 2, .slice none 0 0, .bool false, .int .i64 (.ofNat 1), .int .i64 (.ofNat 1), .int .i64 (.ofNat 0), .slice (some ⟨27, 0, none⟩) 4 4, .slice none 0 0, .slice none 0 0, .slice (some ⟨28, 0, none⟩) 2 2, .slice (some ⟨29, 0, none⟩) 2 2, .slice none 0 0, .bool false]⟩ 96 (10, 1)),
  (22, .cells ⟨[.int .i64 (.ofNat 1), .slice (some ⟨30, 0, none⟩) 10 10, .int .i64 (.ofNat 0), .slice none 0 0]⟩ 107 (2, 1)),
  (23, .cells ⟨[.int .i64 (.ofNat 0), .int .i64 (.ofNat 0)]⟩ 3 (1, 1)),
  (24, .cells ⟨[.int .u8 (.ofNat 98), .int .u8 (.ofNat 111), .int .u8 (.ofNat 100), .int .u8 (.ofNat 121)]⟩ 5 (1, 1)),
  (25, .cells ⟨[.int .i64 (.ofNat 0), .slice (some ⟨31, 0, none⟩) 1 1, .slice none 0 0, .slice none 0 0, .slice none 0 0, .int .i64 (.ofNat 0), .slice (some ⟨32, 0, none⟩) 1 1, .slice none 0 0, .slice none 0 0, .slice none 0 0]⟩ 55 (5, 1)),
  (26, .cells ⟨[.int .i64 (.ofNat 1), .int .i64 (.ofNat 1), .int .i64 (.ofNat 0), .int .i64 (.ofNat 0), .int .i64 (.ofNat 2), .int .i64 (.ofNat 0), .int .i64 (.ofNat 3), .slice (some ⟨33, 0, none⟩) 1 1, .int .i64 (.ofNat 0), .slice none 0 0, .slice none 0 0, .bool false, .int .i64 (.ofNat 1), .int .i64 (.ofNat 1), .int .i64 (.ofNat 1), .int .i64 (.ofNat 0), .int .i64 (.ofNat 3), .int .i64 (.ofNat 0), .int .i64 (.ofNat 2), .slice (some ⟨34, 0, none⟩) 1 1, .int .i64 (.ofNat 0), .slice none 0 0, .slice none 0 0, .bool false]⟩ 121 (12, 1)),
  (27, .cells ⟨[.int .u8 (.ofNat 98), .int .u8 (.ofNat 111), .int .u8 (.ofNat 100), .int .u8 (.ofNat 121)]⟩ 5 (1, 1)),
  (28, .cells ⟨[.int .i64 (.ofNat 0), .slice (some ⟨35, 0, none⟩) 1 1, .slice none 0 0, .slice none 0 0, .slice none 0 0, .int .i64 (.ofNat 0), .slice (some ⟨36, 0, none⟩) 1 1, .slice none 0 0, .slice none 0 0, .slice none 0 0]⟩ 55 (5, 1)),
  (29, .cells ⟨[.int .i64 (.ofNat 1), .int .i64 (.ofNat 1), .int .i64 (.ofNat 0), .int .i64 (.ofNat 0), .int .i64 (.ofNat 2), .int .i64 (.ofNat 0), .int .i64 (.ofNat 3), .slice (some ⟨37, 0, none⟩) 1 1, .int .i64 (.ofNat 0), .slice none 0 0, .slice none 0 0, .bool false, .int .i64 (.ofNat 1), .int .i64 (.ofNat 1), .int .i64 (.ofNat 1), .int .i64 (.ofNat 0), .int .i64 (.ofNat 3), .int .i64 (.ofNat 0), .int .i64 (.ofNat 2), .slice (some ⟨38, 0, none⟩) 1 1, .int .i64 (.ofNat 0), .slice none 0 0, .slice none 0 0, .bool false]⟩ 121 (12, 1)),
  (30, .cells ⟨[.int .u8 (.ofNat 1), .int .u8 (.ofNat 1), .int .u8 (.ofNat 0), .int .u8 (.ofNat 0), .int .u8 (.ofNat 2), .int .u8 (.ofNat 0), .int .u8 (.ofNat 3), .int .u8 (.ofNat 1), .int .u8 (.ofNat 244), .int .u8 (.ofNat 3)]⟩ 5 (1, 1)),
  (31, .cells ⟨[.int .u8 (.ofNat 112)]⟩ 5 (1, 1)),
  (32, .cells ⟨[.int .u8 (.ofNat 98)]⟩ 5 (1, 1)),
  (33, .cells ⟨[.int .i64 (.ofNat 500)]⟩ 3 (1, 1)),
  (34, .cells ⟨[.int .i64 (.ofNat 500)]⟩ 3 (1, 1)),
  (35, .cells ⟨[.int .u8 (.ofNat 112)]⟩ 5 (1, 1)),
  (36, .cells ⟨[.int .u8 (.ofNat 98)]⟩ 5 (1, 1)),
  (37, .cells ⟨[.int .i64 (.ofNat 500)]⟩ 3 (1, 1)),
  (38, .cells ⟨[.int .i64 (.ofNat 500)]⟩ 3 (1, 1))]
def ts11 : List (Nat × Obj) := [(0, .cells ⟨[.int .i64 (.ofNat 0), .int .i64 (.ofNat 0)]⟩ 0 (0, 0)),
  (1, .cells ⟨[.int .i64 (.ofNat 0), .int .i64 (.ofNat 1)]⟩ 0 (0, 0)),
  (390, .cells ⟨[.bool false, .slice none 0 0, .slice none 0 0, .slice none 0 0, .int .i64 (.ofNat 0)]⟩ 42 (0, 0)),
  (20, .cells ⟨[.slice (some ⟨21, 0, none⟩) 2 2, .int .i64 (.ofNat 300), .slice (some ⟨22, 0, none⟩) 2 2, .slice (some ⟨23, 0, none⟩) 2 2]⟩ 92 (0, 0)),
  (21, .cells ⟨[.int .i64 (.ofNat 0), .int .i64 (.ofNat 1), .int .i64 (.ofNat 0), .slice (some ⟨24, 0, none⟩) 4 4, .slice none 0 0, .slice none 0 0, .slice (some ⟨25, 0, none⟩) 2 2, .slice (some ⟨26, 0, none⟩) 2 2, .slice none 0 0, .bool false, .int .i64 (.ofNat 1), .int .i64 (.ofNat 1), .int .i64 (.ofNat 0), .slice (some ⟨27, 0, none⟩) 4 4, .slice none 0 0, .slice none 0 0, .slice (some ⟨28, 0, none⟩) 2 2, .slice (some ⟨29, 0, none⟩) 2 2, .slice none 0 0, .bool false]⟩ 96 (10, 1)),
  (22, .cells ⟨[.int .i64 (.ofNat 1), .slice (some ⟨30, 0, none⟩) 10 10, .int .i64 (.ofNat 0), .slice (some ⟨31, 0, none⟩) 10 10]⟩ 107 (2, 1)),
  (23, .cells ⟨[.int .i64 (.ofNat 0), .int .i64 (.ofNat 0)]⟩ 3 (1, 1)),
  (24, .cells ⟨[.int .u8 (.ofNat 98), .int .u8 (.ofNat 111), .int .u8 (.ofNat 100), .int .u8 (.ofNat 121)]⟩ 5 (1, 1)),
  (25, .cells ⟨[.int .i64 (.ofNat 0), .slice (some ⟨32, 0, none⟩) 1 1, .slice none 0 0, .slice none 0 0, .slice none 0 0, .int .i64 (.ofNat 0), .slice (some ⟨33, 0, none⟩) 1 1, .slice none 0 0, .slice none 0 0, .slice none 0 0]⟩ 55 (5, 1)),
  (26, .cells ⟨[.int .i64 (.ofNat 1), .int .i64 (.ofNat 1), .int .i64 (.ofNat 0), .int .i64 (.ofNat 0), .int .i64 (.ofNat 2), .int .i64 (.ofNat 0), .int .i64 (.ofNat 3), .slice (some ⟨34, 0, none⟩) 1 1, .int .i64 (.ofNat 0), .slice none 0 0, .slice none 0 0, .bool false, .int .i64 (.ofNat 1), .int .i64 (.ofNat 1), .int .i64 (.ofNat 1), .int .i64 (.ofNat 0), .int .i64 (.ofNat 3), .int .i64 (.ofNat 0), .int .i64 (.ofNat 2), .slice (some ⟨35, 0, none⟩) 1 1, .int .i64 (.ofNat 0), .slice none 0 0, .slice none 0 0, .bool false]⟩ 121 (12, 1)),
  (27, .cells ⟨[.int .u8 (.ofNat 98), .int .u8 (.ofNat 111), .int .u8 (.ofNat 100), .int .u8 (.ofNat 121)]⟩ 5 (1, 1)),
  (28, .cells ⟨[.int .i64 (.ofNat 0), .slice (some ⟨36, 0, none⟩) 1 1, .slice none 0 0, .slice none 0 0, .slice none 0 0, .int .i64 (.ofNat 0), .slice (some ⟨37, 0, none⟩) 1 1, .slice none 0 0, .slice none 0 0, .slice none 0 0]⟩ 55 (5, 1)),
  (29, .cells ⟨[.int .i64 (.ofNat 1), .int .i64 (.ofNat 1), .int .i64 (.ofNat 0), .int .i64 (.ofNat 0), .int .i64 (.ofNat 2), .int .i64 (.ofNat 0), .int .i64 (.ofNat 3), .slice (some ⟨38, 0, none⟩) 1 1, .int .i64 (.ofNat 0), .slice none 0 0, .slice none 0 0, .bool false, .int .i64 (.ofNat 1), .int .i64 (.ofNat 1), .int .i64 (.ofNat 1), .int .i64 (.ofNat 0), .int .i64 (.ofNat 3), .int .i64 (.ofNat 0), .int .i64 (.ofNat 2), .slice (some ⟨39, 0, none⟩) 1 1, .int .i64 (.ofNat 0), .slice none 0 0, .slice none 0 0, .bool false]⟩ 121 (12, 1)),
  (30, .cells ⟨[.int .u8 (.ofNat 1), .int .u8 (.ofNat 1), .int .u8 (.ofNat 0), .int .u8 (.ofNat 0), .int .u8 (.ofNat 2), .int .u8 (.ofNat 0), .int .u8 (.ofNat 3), .int .u8 (.ofNat 1), .int .u8 (.ofNat 244), .int .u8 (.ofNat 3)]⟩ 5 (1, 1)),
  (31, .cells ⟨[.int .u8 (.ofNat 1), .int .u8 (.ofNat 1), .int .u8 (.ofNat 1), .int .u8 (.ofNat 0), .int .u8 (.ofNat 3), .int .u8 (.ofNat 0), .int .u8 (.ofNat 2), .int .u8 (.ofNat 1), .int .u8 (.ofNat 244), .int .u8 (.ofNat 3)]⟩ 5 (1, 1)),
  (32, .cells ⟨[.int .u8 (.ofNat 112)]⟩ 5 (1, 1)),
  (33, .cells ⟨[.int .u8 (.ofNat 98)]⟩ 5 (1, 1)),
  (34, .cells ⟨[.int .i64 (.ofNat 500)]⟩ 3 (1, 1)),
  (35, .cells ⟨[.int .i64 (.ofNat 500)]⟩ 3 (1, 1)),
  (36, .cells ⟨[.int .u8 (.ofNat 112)]⟩ 5 (1, 1)),
  (37, .cells ⟨[.int .u8 (.ofNat 98)]⟩ 5 (1, 1)),
  (38, .cells ⟨[.int .i64 (.ofNat 500)]⟩ 3 (1, 1)),
  (39, .cells ⟨[.int .i64 (.ofNat 500)]⟩ 3 (1, 1))]
def ts12 : List (Nat × Obj) := [(0, .cells ⟨[.int .i64 (.ofNat 0), .int .i64 (.ofNat 0)]⟩ 0 (0, 0)),
  (1, .cells ⟨[.int .i64 (.ofNat 0), .int .i64 (.ofNat 1)]⟩ 0 (0, 0)),
  (390, .cells ⟨[.bool false, .slice none 0 0, .slice none 0 0, .slice none 0 0, .int .i64 (.ofNat 0)]⟩ 42 (0, 0)),
  (20, .cells ⟨[.slice (some ⟨21, 0, none⟩) 2 2, .int .i64 (.ofNat 300), .slice (some ⟨22, 0, none⟩) 1 2, .slice (some ⟨23, 0, none⟩) 2 2]⟩ 92 (0, 0)),
  (21, .cells ⟨[.int .i64 (.ofNat 0), .int .i64 (.ofNat 1), .int .i64 (.ofNat 0), .slice (some ⟨24, 0, none⟩) 4 4, .slice none 0 0, .slice none 0 0, .slice (some ⟨25, 0, none⟩) 2 2, .slice (some ⟨26, 0, none⟩) 1 1, .slice none 0 0, .bool false, .int .i64 (.ofNat 1), .int .i64 (.ofNat 1), .int .i64 (.ofNat 0), .slice (some ⟨27, 0, none⟩) 4 4, .slice none 0 0, .slice none 0 0, .slice (some ⟨28, 0, none⟩) 2 2, .slice (some ⟨29, 0, none⟩) 2 2, .slice none 0 0, .bool false]⟩ 96 (10, 1)),
  (22, .cells ⟨[.int .i64 (.ofNat 1), .slice (some ⟨30, 0, none⟩) 10 10, .int .i64 (.ofNat 0), .slice none 0 0]⟩ 107 (2, 1)),
  (23, .cells ⟨[.int .i64 (.ofNat 0), .int .i64 (.ofNat 0)]⟩ 3 (1, 1)),
  (24, .cells ⟨[.int .u8 (.ofNat 98), .int .u8 (.ofNat 111), .int .u8 (.ofNat 100), .int .u8 (.ofNat 121)]⟩ 5 (1, 1)),
  (25, .cells ⟨[.int .i64 (.ofNat 0), .slice (some ⟨31, 0, none⟩) 1 1, .slice none 0 0, .slice none 0 0, .slice none 0 0, .int .i64 (.ofNat 0), .slice (some ⟨32, 0, none⟩) 1 1, .slice none 0 0, .slice none 0 0, .slice none 0 0]⟩ 55 (5, 1)),
  (26, .cells ⟨[.int .i64 (.ofNat 1), .int .i64 (.ofNat 1), .int .i64 (.ofNat 0), .int .i64 (.ofNat 0), .int .i64 (.ofNat 2), .int .i64 (.ofNat 0), .int .i64 (.ofNat 3), .slice (some ⟨33, 0, none⟩) 1 1, .int .i64 (.ofNat 0), .slice none 0 0, .slice none 0 0, .bool false]⟩ 121 (12, 1)),
  (27, .cells ⟨[.int .u8 (.ofNat 98), .int .u8 (.ofNat 111), .int .u8 (.ofNat 100), .int .u8 (.ofNat 121)]⟩ 5 (1, 1)),
  (28, .cells ⟨[.int .i64 (.ofNat 0), .slice (some ⟨34, 0, none⟩) 1 1, .slice none 0 0, .slice none 0 0, .slice none 0 0, .int .i64 (.ofNat 0), .slice (some ⟨35, 0, none⟩) 1 1, .slice none 0 0, .slice none 0 0, .slice none 0 0]⟩ 55 (5, 1)),
  (29, .cells ⟨[.int .i64 (.ofNat 1), .int .i64 (.ofNat 1), .int .i64 (.ofNat 0), .int .i64 (.ofNat 0), .int .i64 (.ofNat 2), .int .i64 (.ofNat 0), .int .i64 (.ofNat 3), .slice (some ⟨36, 0, none⟩) 1 1, .int .i64 (.ofNat 0), .slice none 0 0, .slice none 0 0, .bool false, .int .i64 (.ofNat 1), .int .i64 (.ofNat 1), .int .i64 (.ofNat 1), .int .i64 (.ofNat 0), .int .i64 (.ofNat 3), .int .i64 (.ofNat 0), .int .i64 (.ofNat 2), .slice (some ⟨37, 0, none⟩) 1 1, .int .i64 (.ofNat 0), .slice none 0 0, .slice none 0 0, .bool false]⟩ 121 (12, 1)),
  (30, .cells ⟨[.int .u8 (.ofNat 1), .int .u8 (.ofNat 1), .int .u8 (.ofNat 0), .int .u8 (.ofNat 0), .int .u8 (.ofNat 2), .int .u8 (.ofNat 0), .int .u8 (.ofNat 3), .int .u8 (.ofNat 1), .int .u8 (.ofNat 244), .int .u8 (.ofNat 3)]⟩ 5 (1, 1)),
  (31, .cells ⟨[.int .u8 (.ofNat 112)]⟩ 5 (1, 1)),
  (32, .cells ⟨[.int .u8 (.ofNat 98)]⟩ 5 (1, 1)),
  (33, .cells ⟨[.int .i64 (.ofNat 500)]⟩ 3 (1, 1)),
  (34, .cells ⟨[.int .u8 (.ofNat 112)]⟩ 5 (1, 1)),
  (35, .cells ⟨[.int .u8 (.ofNat 98)]⟩ 5 (1, 1)),
  (36, .cells ⟨[.int .i64 (.ofNat 500)]⟩ 3 (1, 1)),
  (37, .cells ⟨[.int .i64 (.ofNat 500)]⟩ 3 (1, 1))]
def ts13 : List (Nat × Obj) := [(0, .cells ⟨[.int .i64 (.ofNat 0), .int .i64 (.ofNat 0)]⟩ 0 (0, 0)),
  (1, .cells ⟨[.int .i64 (.ofNat 0), .int .i64 (.ofNat 1)]⟩ 0 (0, 0)),
  (390, .cells ⟨[.bool false, .slice none 0 0, .slice none 0 0, .slice none 0 0, .int .i64 (.ofNat 0)]⟩ 42 (0, 0)),
  (20, .cells ⟨[.slice (some ⟨21, 0, none⟩) 2 2, .int .i64 (.ofNat 300), .slice (some ⟨22, 0, none⟩) 0 2, .slice (some ⟨23, 0, none⟩) 2 2]⟩ 92 (0, 0)),
  (21, .cells ⟨[.int .i64 (.ofNat 0), .int .i64 (.ofNat 1), .int .i64 (.ofNat 0), .slice (some ⟨24, 0, none⟩) 4 4, .slice none 0 0, .slice none 0 0, .slice (some ⟨25, 0, none⟩) 2 2, .slice (some ⟨26, 0, none⟩) 2 2, .slice none 0 0, .bool false, .int .i64 (.ofNat 1), .int .i64 (.ofNat 1), .int .i64 (.ofNat 0), .slice (some ⟨27, 0, none⟩) 4 4, .slice none 0 0, .slice none 0 0, .slice (some ⟨28, 0, none⟩) 2 2, .slice (some ⟨29, 0, none⟩) 1 1, .slice none 0 0, .bool false]⟩ 96 (10, 1)),
  (22, .cells ⟨[.int .i64 (.ofNat 0), .slice none 0 0, .int .i64 (.ofNat 0), .slice none 0 0]⟩ 107 (2, 1)),
  (23, .cells ⟨[.int .i64 (.ofNat 0), .int .i64 (.ofNat 0)]⟩ 3 (1, 1)),
  (24, .cells ⟨[.int .u8 (.ofNat 98), .int .u8 (.ofNat 111), .int .u8 (.ofNat 100), .int .u8 (.ofNat 121)]⟩ 5 (1, 1)),
  (25, .cells ⟨[.int .i64 (.ofNat 0), .slice (some ⟨30, 0, none⟩) 1 1, .slice none 0 0, .slice none 0 0, .slice none 0 0, .int .i64 (.ofNat 0), .slice (some ⟨31, 0, none⟩) 1 1, .slice none 0 0, .slice none 0 0, .slice none 0 0]⟩ 55 (5, 1)),
  (26, .cells ⟨[.int .i64 (.ofNat 1), .int .i64 (.ofNat 1), .int .i64 (.ofNat 0), .int .i64 (.ofNat 0), .int .i64 (.ofNat 2), .int .i64 (.ofNat 0), .int .i64 (.ofNat 3), .slice (some ⟨32, 0, none⟩) 1 1, .int .i64 (.ofNat 0), .slice none 0 0, .slice none 0 0, .bool false, .int .i64 (.ofNat 1), .int .i64 (.ofNat 1), .int .i64 (.ofNat 1), .int .i64 (.ofNat 0), .int .i64 (.ofNat 3), .int .i64 (.ofNat 0), .int .i64 (.ofNat 2), .slice (some ⟨33, 0, none⟩) 1 1, .int .i64 (.ofNat 0), .slice none 0 0, .slice none 0 0, .bool false]⟩ 121 (12, 1)),
  (27, .cells ⟨[.int .u8 (.ofNat 98), .int .u8 (.ofNat 111), .int .u8 (.ofNat 100), .int .u8 (.ofNat 121)]⟩ 5 (1, 1)),
  (28, .cells ⟨[.int .i64 (.ofNat 0), .slice (some ⟨34, 0, none⟩) 1 1, .slice none 0 0, .slice none 0 0, .slice none 0 0, .int .i64 (.ofNat 0), .slice (some ⟨35, 0, none⟩) 1 1, .slice none 0 0, .slice none 0 0, .slice none 0 0]⟩ 55 (5, 1)),
  (29, .cells ⟨[.int .i64 (.ofNat 1), .int .i64 (.ofNat 1), .int .i64 (.ofNat 1), .int .i64 (.ofNat 0), .int .i64 (.ofNat 3), .int .i64 (.ofNat 0), .int .i64 (.ofNat 2), .slice (some ⟨36, 0, none⟩) 1 1, .int .i64 (.ofNat 0), .slice none 0 0, .slice none 0 0, .bool false]⟩ 121 (12, 1)),
  (30, .cells ⟨[.int .u8 (.ofNat 112)]⟩ 5 (1, 1)),
  (31, .cells ⟨[.int .u8 (.ofNat 98)]⟩ 5 (1, 1)),
  (32, .cells ⟨[.int .i64 (.ofNat 500)]⟩ 3 (1, 1)),
  (33, .cells ⟨[.int .i64 (.ofNat 500)]⟩ 3 (1, 1)),
  (34, .cells ⟨[.int .u8 (.ofNat 112)]⟩ 5 (1, 1)),
  (35, .cells ⟨[.int .u8 (.ofNat 98)]⟩ 5 (1, 1)),
  (36, .cells ⟨[.int .i64 (.ofNat 500)]⟩ 3 (1, 1))]
def ts14 : List (Nat × Obj) := [(0, .cells ⟨[.int .i64 (.ofNat 0), .int .i64 (.ofNat 0)]⟩ 0 (0, 0)),
  (1, .cells ⟨[.int .i64 (.ofNat 0), .int .i64 (.ofNat 1)]⟩ 0 (0, 0)),
  (390, .cells ⟨[.bool false, .slice none 0 0, .slice none 0 0, .slice none 0 0, .int .i64 (.ofNat 0)]⟩ 42 (0, 0)),
  (20, .cells ⟨[.slice (some ⟨21, 0, none⟩) 2 2, .int .i64 (.ofNat 300), .slice (some ⟨22, 0, none⟩) 1 2, .slice (some ⟨23, 0, none⟩) 2 2]⟩ 92 (0, 0)),
  (21, .cells ⟨[.int .i64 (.ofNat 0), .int .i64 (.ofNat 1), .int .i64 (.ofNat 0), .slice (some ⟨24, 0, none⟩) 4 4, .slice none 0 0, .slice none 0 0, .slice (some ⟨25, 0, none⟩) 2 2, .slice (some ⟨26, 0, none⟩) 2 2, .slice none 0 0, .bool false, .int .i64 (.ofNat 1), .int .i64 (.ofNat 1), .int .i64 (.ofNat 0), .slice (some ⟨27, 0, none⟩) 4 4, .slice none 0 0, .slice none 0 0, .slice (some ⟨28, 0, none⟩) 2 2, .slice (some ⟨29, 0, none⟩) 1 1, .slice none 0 0, .bool false]⟩ 96 (10, 1)),
  (22, .cells ⟨[.int .i64 (.ofNat 0), .slice (some ⟨30, 0, none⟩) 10 10, .int .i64 (.ofNat 0), .slice none 0 0]⟩ 107 (2, 1)),
  (23, .cells ⟨[.int .i64 (.ofNat 0), .int .i64 (.ofNat 0)]⟩ 3 (1, 1)),
  (24, .cells ⟨[.int .u8 (.ofNat 98), .int .u8 (.ofNat 111), .int .u8 (.ofNat 100), .int .u8 (.ofNat 121)]⟩ 5 (1, 1)),
  (25, .cells ⟨[.int .i64 (.ofNat 0), .slice (some ⟨31, 0, none⟩) 1 1, .slice none 0 0, .slice none 0 0, .slice none 0 0, .int .i64 (.ofNat 0), .slice (some ⟨32, 0, none⟩) 1 1, .slice none 0 0, .slice none 0 0, .slice none 0 0]⟩ 55 (5, 1)),
  (26, .cells ⟨[.int .i64 (.ofNat 1), .int .i64 (.ofNat 1), .int .i64 (.ofNat 0), .int .i64 (.ofNat 0), .int .i64 (.ofNat 2), .int .i64 (.ofNat 0), .int .i64 (.ofNat 3), .slice (some ⟨33, 0, none⟩) 1 1, .int .i64 (.ofNat 0), .slice none 0 0, .slice none 0 0, .bool false, .int .i64 (.ofNat 1), .int .i64 (.ofNat 1), .int .i64 (.ofNat 1), .int .i64 (.ofNat 0), .int .i64 (.ofNat 3), .int .i64 (.ofNat 0), .int .i64 (.ofNat 2), .slice (some ⟨34, 0, none⟩) 1 1, .int .i64 (.ofNat 0), .slice none 0 0, .slice none 0 0, .bool false]⟩ 121 (12, 1)),
  (27, .cells ⟨[.int .u8 (.ofNat 98), .int .u8 (.ofNat 111), .int .u8 (.ofNat 100), .int .u8 (.ofNat 121)]⟩ 5 (1, 1)),
  (28, .cells ⟨[.int .i64 (.ofNat 0), .slice (some ⟨35, 0, none⟩) 1 1, .slice none 0 0, .slice none 0 0, .slice none 0 0, .int .i64 (.ofNat 0), .slice (some ⟨36, 0, none⟩) 1 1, .slice none 0 0, .slice none 0 0, .slice none 0 0]⟩ 55 (5, 1)),
  (29, .cells ⟨[.int .i64 (.ofNat 1), .int .i64 (.ofNat 1), .int .i64 (.ofNat 1), .int .i64 (.ofNat 0), .int .i64 (.ofNat 3), .int .i64 (.ofNat 0), .int .i64 (.ofNat 2), .slice (some ⟨37, 0, none⟩) 1 1, .int .i64 (.ofNat 0), .slice none 0 0, .slice none 0 0, .bool false]⟩ 121 (12, 1)),
  (30, .cells ⟨[.int .u8 (.ofNat 1), .int .u8 (.ofNat 1), .int .u8 (.ofNat 1), .int .u8 (.ofNat 0), .int .u8 (.ofNat 3), .int .u8 (.ofNat 0), .int .u8 (.ofNat 2), .int .u8 (.ofNat 1), .int .u8 (.ofNat 244), .int .u8 (.ofNat 3)]⟩ 5 (1, 1)),
  (31, .cells ⟨[.int .u8 (.ofNat 112)]⟩ 5 (1, 1)),
  (32, .cells ⟨[.int .u8 (.ofNat 98)]⟩ 5 (1, 1)),
  (33, .cells ⟨[.int .i64 (.ofNat 500)]⟩ 3 (1, 1)),
  (34, .cells ⟨[.int .i64 (.ofNat 500)]⟩ 3 (1, 1)),
  (35, .cells ⟨[.int .u8 (.ofNat 112)]⟩ 5 (1, 1)),
  (36, .cells ⟨[.int .u8 (.ofNat 98)]⟩ 5 (1, 1)),
  (37, .cells ⟨[.int .i64 (.ofNat 500)]⟩ 3 (1, 1))]
def ts15 : List (Nat × Obj) := [(0, .cells ⟨[.int .i64 (.ofNat 0), .int .i64 (.ofNat 0)]⟩ 0 (0, 0)),
  (1, .cells ⟨[.int .i64 (.ofNat 0), .int .i64 (.ofNat 1)]⟩ 0 (0, 0)),
  (390, .cells ⟨[.bool false, .slice none 0 0, .slice none 0 0, .slice none 0 0, .int .i64 (.ofNat 0)]⟩ 42 (0, 0)),
  (20, .cells ⟨[.slice (some ⟨21, 0, none⟩) 2 2, .int .i64 (.ofNat 300), .slice (some ⟨22, 0, none⟩) 0 2, .slice (some ⟨23, 0, none⟩) 2 2]⟩ 92 (0, 0)),
  (21, .cells ⟨[.int .i64 (.ofNat 0), .int .i64 (.ofNat 1), .int .i64 (.ofNat 0), .slice (some ⟨24, 0, none⟩) 4 4, .slice none 0 0, .slice none 0 0, .slice (some ⟨25, 0, none⟩) 2 2, .slice (some ⟨26, 0, none⟩) 1 1, .slice none 0 0, .bool false, .int .i64 (.ofNat 1), .int .i64 (.ofNat 1), .int .i64 (.ofNat 0), .slice (some ⟨27, 0, none⟩) 4 4, .slice none 0 0, .slice none 0 0, .slice (some ⟨28, 0, none⟩) 2 2, .slice (some ⟨29, 0, none⟩) 1 1, .slice none 0 0, .bool false]⟩ 96 (10, 1)),
  (22, .cells ⟨[.int .i64 (.ofNat 0), .slice none 0 0, .int .i64 (.ofNat 0), .slice none 0 0]⟩ 107 (2, 1)),
  (23, .cells ⟨[.int .i64 (.ofNat 0), .int .i64 (.ofNat 0)]⟩ 3 (1, 1)),
  (24, .cells ⟨[.int .u8 (.ofNat 98), .int .u8 (.ofNat 111), .int .u8 (.ofNat 100), .int .u8 (.ofNat 121)]⟩ 5 (1, 1)),
  (25, .cells ⟨[.int .i64 (.ofNat 0), .slice (some ⟨30, 0, none⟩) 1 1, .slice none 0 0, .slice none 0 0, .slice none 0 0, .int .i64 (.ofNat 0), .slice (some ⟨31, 0, none⟩) 1 1, .slice none 0 0, .slice none 0 0, .slice none 0 0]⟩ 55 (5, 1)),
  (26, .cells ⟨[.int .i64 (.ofNat 1), .int .i64 (.ofNat 1), .int .i64 (.ofNat 0), .int .i64 (.ofNat 0), .int .i64 (.ofNat 2), .int .i64 (.ofNat 0), .int .i64 (.ofNat 3), .slice (some ⟨32, 0, none⟩) 1 1, .int .i64 (.ofNat 0), .slice none 0 0, .slice none 0 0, .bool false]⟩ 121 (12, 1)),
  (27, .cells ⟨[.int .u8 (.ofNat 98), .int .u8 (.ofNat 111), .int .u8 (.ofNat 100), .int .u8 (.ofNat 121)]⟩ 5 (1, 1)),
  (28, .cells ⟨[.int .i64 (.ofNat 0), .slice (some ⟨33, 0, none⟩) 1 1, .slice none 0 0, .slice none 0 0, .slice none 0 0, .int .i64 (.ofNat 0), .slice (some ⟨34, 0, none⟩) 1 1, .slice none 0 0, .slice none 0 0, .slice none 0 0]⟩ 55 (5, 1)),
  (29, .cells ⟨[.int .i64 (.ofNat 1), .int .i64 (.ofNat 1), .int .i64 (.ofNat 1), .int .i64 (.ofNat 0), .int .i64 (.ofNat 3), .int .i64 (.ofNat 0), .int .i64 (.ofNat 2), .slice (some ⟨35, 0, none⟩) 1 1, .int .i64 (.ofNat 0), .slice none 0 0, .slice none 0 0, .bool false]⟩ 121 (12, 1)),
  (30, .cells ⟨[.int .u8 (.ofNat 112)]⟩ 5 (1, 1)),
  (31, .cells ⟨[.int .u8 (.ofNat 98)]⟩ 5 (1, 1)),
  (32, .cells ⟨[.int .i64 (.ofNat 500)]⟩ 3 (1, 1)),
  (33, .cells ⟨[.int .u8 (.ofNat 112)]⟩ 5 (1, 1)),
  (34, .cells ⟨[.int .u8 (.ofNat 98)]⟩ 5 (1, 1)),
  (35, .cells ⟨[.int .i64 (.ofNat 500)]⟩ 3 (1, 1))]
def tsF : List (Nat × Obj) := [(0, .cells ⟨[.int .i64 (.ofNat 0), .int .i64 (.ofNat 0)]⟩ 0 (0, 0)),
  (1, .cells ⟨[.int .i64 (.ofNat 0), .int .i64 (.ofNat 1)]⟩ 0 (0, 0)),
  (390, .cells ⟨[.bool false, .slice none 0 0, .slice none 0 0, .slice none 0 0, .int .i64 (.ofNat 0)]⟩ 42 (0, 0)),
  (20, .cells ⟨[.slice (some ⟨21, 0, none⟩) 2 2, .int .i64 (.ofNat 300), .slice (some ⟨22, 0, none⟩) 0 2, .slice (some ⟨23, 0, none⟩) 2 2]⟩ 92 (0, 0)),
  (21, .cells ⟨[.int .i64 (.ofNat 0), .int .i64 (.ofNat 1), .int .i64 (.ofNat 0), .slice (some ⟨24, 0, none⟩) 4 4, .slice none 0 0, .slice none 0 0, .slice (some ⟨25, 0, none⟩) 2 2, .slice (some ⟨26, 0, none⟩) 2 2, .slice none 0 0, .bool false, .int .i64 (.ofNat 1), .int .i64 (.ofNat 1), .int .i64 (.ofNat 0), .slice (some ⟨27, 0, none⟩) 4 4, .slice none 0 0, .slice none 0 0, .slice (some ⟨28, 0, none⟩) 2 2, .slice (some ⟨29, 0, none⟩) 2 2, .slice none 0 0, .bool false]⟩ 96 (10, 1)),
  (22, .cells ⟨[.int .i64 (.ofNat 0), .slice none 0 0, .int .i64 (.ofNat 0), .slice none 0 0]⟩ 107 (2, 1)),
  (23, .cells ⟨[.int .i64 (.ofNat 0), .int .i64 (.ofNat 0)]⟩ 3 (1, 1)),
  (24, .cells ⟨[.int .u8 (.ofNat 98), .int .u8 (.ofNat 111), .int .u8 (.ofNat 100), .int .u8 (.ofNat 121)]⟩ 5 (1, 1)),
  (25, .cells ⟨[.int .i64 (.ofNat 0), .slice (some ⟨30, 0, none⟩) 1 1, .slice none 0 0, .slice none 0 0, .slice none 0 0, .int .i64 (.ofNat 0), .slice (some ⟨31, 0, none⟩) 1 1, .slice none 0 0, .slice none 0 0, .slice none 0 0]⟩ 55 (5, 1)),
  (26, .cells ⟨[.int .i64 (.ofNat 1), .int .i64 (.ofNat 1), .int .i64 (.ofNat 0), .int .i64 (.ofNat 0), .int .i64 (.ofNat 2), .int .i64 (.ofNat 0), .int .i64 (.ofNat 3), .slice (some ⟨32, 0, none⟩) 1 1, .int .i64 (.ofNat 0), .slice none 0 0, .slice none 0 0, .bool false, .int .i64 (.ofNat 1), .int .i64 (.ofNat 1), .int .i64 (.ofNat 1), .int .i64 (.ofNat 0), .int .i64 (.ofNat 3), .int .i64 (.ofNat 0), .int .i64 (.ofNat 2), .slice (some ⟨33, 0, none⟩) 1 1, .int .i64 (.ofNat 0), .slice none 0 0, .slice none 0 0, .bool false]⟩ 121 (12, 1)),
  (27, .cells ⟨[.int .u8 (.ofNat 98), .int .u8 (.ofNat 111), .int .u8 (.ofNat 100), .int .u8 (.ofNat 121)]⟩ 5 (1, 1)),
  (28, .cells ⟨[.int .i64 (.ofNat 0), .slice (some ⟨34, 0, none⟩) 1 1, .slice none 0 0, .slice none 0 0, .slice none 0 0, .int .i64 (.ofNat 0), .slice (some ⟨35, 0, none⟩) 1 1, .slice none 0 0, .slice none 0 0, .slice none 0 0]⟩ 55 (5, 1)),
  (29, .cells ⟨[.int .i64 (.ofNat 1), .int .i64 (.ofNat 1), .int .i64 (.ofNat 0), .int .i64 (.ofNat 0), .int .i64 (.ofNat 2), .int .i64 (.ofNat 0), .int .i64 (.ofNat 3), .slice (some ⟨36, 0, none⟩) 1 1, .int .i64 (.ofNat 0), .slice none 0 0, .slice none 0 0, .bool false, .int .i64 (.ofNat 1), .int .i64 (.ofNat 1), .int .i64 (.ofNat 1), .int .i64 (.ofNat 0), .int .i64 (.ofNat 3), .int .i64 (.ofNat 0), .int .i64 (.ofNat 2), .slice (some ⟨37, 0, none⟩) 1 1, .int .i64 (.ofNat 0), .slice none 0 0, .slice none 0 0, .bool false]⟩ 121 (12, 1)),
  (30, .cells ⟨[.int .u8 (.ofNat 112)]⟩ 5 (1, 1)),
  (31, .cells ⟨[.int .u8 (.ofNat 98)]⟩ 5 (1, 1)),
  (32, .cells ⟨[.int .i64 (.ofNat 500)]⟩ 3 (1, 1)),
  (33, .cells ⟨[.int .i64 (.ofNat 500)]⟩ 3 (1, 1)),
  (34, .cells ⟨[.int .u8 (.ofNat 112)]⟩ 5 (1, 1)),
  (35, .cells ⟨[.int .u8 (.ofNat 98)]⟩ 5 (1, 1)),
  (36, .cells ⟨[.int .i64 (.ofNat 500)]⟩ 3 (1, 1)),
  (37, .cells ⟨[.int .i64 (.ofNat 500)]⟩ 3 (1, 1))]
def wP : Value := .pointer (some ⟨20, 0, none⟩)
def acV (k a : Int) : Value := .agg ⟨[.int .i64 k, .int .i64 a, .int .i64 (.ofNat 0), .int .i64 (.ofNat 0), .int .i64 (.ofNat 0), .int .i64 (.ofNat 0), .int .i64 (.ofNat 0), .int .i64 (.ofNat 0), .int .i64 (.ofNat 0), .int .i64 (.ofNat 0), .slice none 0 0, .slice none 0 0, .bool false]⟩
end Go.Proofs.YtpijenlmfmknnaaGreatDoor

/- What leads from one state of the world to another, as the reckoner says. -/
namespace Go.Proofs.YtpijenlmfmknnaaGreatDoor
open Go.RowKit
set_option linter.unusedVariables false
set_option maxRecDepth 1000000
def StepOk (k : List (Nat × Obj)) (f : Nat) (vs : List Value) (T : List (Nat × Nat)) (k' : List (Nat × Obj)) (u : Value) : Prop := stepOk (call Tryz.prog hooks2 hookB 3000) k f vs T k' u = true
end Go.Proofs.YtpijenlmfmknnaaGreatDoor

/- Letters delivered, doubled, dropped. -/
namespace Go.Proofs.YtpijenlmfmknnaaGreatDoor
open Go.RowKit
set_option linter.unusedVariables false
set_option maxRecDepth 1000000
theorem ts0_47_0 (K A : Int) : StepOk ts0 47 [wP, .int .i64 (.ofNat 0), acV K A] [(29, 485), (30, 31), (31, 32), (32, 33), (33, 34), (34, 35), (35, 36), (36, 483)] ts1 unV := by
  unfold StepOk
  kernel_rfl
theorem ts0_48_0 (K A : Int) : StepOk ts0 48 [wP, .int .i64 (.ofNat 0), acV K A] [(29, 484), (37, 482), (38, 37)] ts2 unV := by
  unfold StepOk
  kernel_rfl
theorem ts0_49_0 (K A : Int) : StepOk ts0 49 [wP, .int .i64 (.ofNat 0), acV K A] [(30, 31), (31, 32), (32, 33), (33, 34), (34, 35), (35, 36), (36, 37)] ts3 unV := by
  unfold StepOk
  kernel_rfl
theorem ts0_47_1 (K A : Int) : StepOk ts0 47 [wP, .int .i64 (.ofNat 1), acV K A] [(26, 481), (31, 32), (32, 33), (33, 34), (34, 479)] ts4 unV := by
  unfold StepOk
  kernel_rfl
theorem ts0_48_1 (K A : Int) : StepOk ts0 48 [wP, .int .i64 (.ofNat 1), acV K A] [(26, 480), (35, 478), (36, 35), (37, 36), (38, 37)] ts5 unV := by
  unfold StepOk
  kernel_rfl
theorem ts0_49_1 (K A : Int) : StepOk ts0 49 [wP, .int .i64 (.ofNat 1), acV K A] [(31, 32), (32, 33), (33, 34), (34, 35), (35, 36), (36, 37)] ts6 unV := by
  unfold StepOk
  kernel_rfl
theorem ts1_47_0 (K A : Int) : StepOk ts1 47 [wP, .int .i64 (.ofNat 0), acV K A] [(26, 481), (30, 31), (31, 32), (32, 33), (33, 479)] ts7 unV := by
  unfold StepOk
  kernel_rfl
theorem ts1_48_0 (K A : Int) : StepOk ts1 48 [wP, .int .i64 (.ofNat 0), acV K A] [(26, 480), (34, 478), (35, 34), (36, 35), (37, 36), (38, 37)] ts8 unV := by
  unfold StepOk
  kernel_rfl
theorem ts1_49_0 (K A : Int) : StepOk ts1 49 [wP, .int .i64 (.ofNat 0), acV K A] [(30, 31), (31, 32), (32, 33), (33, 34), (34, 35), (35, 36), (36, 37)] ts9 unV := by
  unfold StepOk
  kernel_rfl
theorem ts2_47_0 (K A : Int) : StepOk ts2 47 [wP, .int .i64 (.ofNat 0), acV K A] [(30, 31), (31, 32), (32, 33), (33, 34), (34, 35), (35, 36), (36, 37), (37, 38)] ts1 unV := by
  unfold StepOk
  kernel_rfl
theorem ts2_48_0 (K A : Int) : StepOk ts2 48 [wP, .int .i64 (.ofNat 0), acV K A] [] ts2 unV := by
  unfold StepOk
  kernel_rfl
theorem ts2_49_0 (K A : Int) : StepOk ts2 49 [wP, .int .i64 (.ofNat 0), acV K A] [(30, 31), (31, 32), (32, 33), (33, 34), (34, 35), (35, 36), (36, 37), (37, 38)] ts1 unV := by
  unfold StepOk
  kernel_rfl
theorem ts2_47_1 (K A : Int) : StepOk ts2 47 [wP, .int .i64 (.ofNat 1), acV K A] [(26, 481), (31, 32), (32, 33), (33, 34), (34, 479)] ts10 unV := by
  unfold StepOk
  kernel_rfl
theorem ts2_48_1 (K A : Int) : StepOk ts2 48 [wP, .int .i64 (.ofNat 1), acV K A] [(26, 480), (35, 478), (36, 35), (37, 36), (38, 37), (39, 38)] ts11 unV := by
  unfold StepOk
  kernel_rfl
theorem ts2_49_1 (K A : Int) : StepOk ts2 49 [wP, .int .i64 (.ofNat 1), acV K A] [(31, 32), (32, 33), (33, 34), (34, 35), (35, 36), (36, 37), (37, 38)] ts12 unV := by
  unfold StepOk
  kernel_rfl
theorem ts3_47_0 (K A : Int) : StepOk ts3 47 [wP, .int .i64 (.ofNat 0), acV K A] [(26, 481), (30, 31), (31, 32), (32, 33), (33, 479)] ts13 unV := by
  unfold StepOk
  kernel_rfl
theorem ts3_48_0 (K A : Int) : StepOk ts3 48 [wP, .int .i64 (.ofNat 0), acV K A] [(26, 480), (34, 478), (35, 34), (36, 35), (37, 36)] ts14 unV := by
  unfold StepOk
  kernel_rfl
theorem ts3_49_0 (K A : Int) : StepOk ts3 49 [wP, .int .i64 (.ofNat 0), acV K A] [(30, 31), (31, 32), (32, 33), (33, 34), (34, 35), (35, 36)] ts15 unV := by
  unfold StepOk
  kernel_rfl
theorem ts4_47_0 (K A : Int) : StepOk ts4 47 [wP, .int .i64 (.ofNat 0), acV K A] [(29, 485), (30, 31), (31, 32), (32, 33), (33, 34), (34, 35), (35, 36), (36, 483)] ts7 unV := by
  unfold StepOk
  kernel_rfl
theorem ts4_48_0 (K A : Int) : StepOk ts4 48 [wP, .int .i64 (.ofNat 0), acV K A] [(29, 484), (37, 482), (38, 37)] ts10 unV := by
  unfold StepOk
  kernel_rfl
theorem ts4_49_0 (K A : Int) : StepOk ts4 49 [wP, .int .i64 (.ofNat 0), acV K A] [(30, 31), (31, 32), (32, 33), (33, 34), (34, 35), (35, 36), (36, 37)] ts13 unV := by
  unfold StepOk
  kernel_rfl
theorem ts5_47_0 (K A : Int) : StepOk ts5 47 [wP, .int .i64 (.ofNat 0), acV K A] [(29, 485), (30, 31), (31, 32), (32, 33), (33, 34), (34, 35), (35, 36), (36, 37), (37, 483)] ts8 unV := by
  unfold StepOk
  kernel_rfl
theorem ts5_48_0 (K A : Int) : StepOk ts5 48 [wP, .int .i64 (.ofNat 0), acV K A] [(29, 484), (38, 482), (39, 38)] ts11 unV := by
  unfold StepOk
  kernel_rfl
theorem ts5_49_0 (K A : Int) : StepOk ts5 49 [wP, .int .i64 (.ofNat 0), acV K A] [(30, 31), (31, 32), (32, 33), (33, 34), (34, 35), (35, 36), (36, 37), (37, 38)] ts14 unV := by
  unfold StepOk
  kernel_rfl
end Go.Proofs.YtpijenlmfmknnaaGreatDoor

/- Letters delivered, doubled, dropped. -/
namespace Go.Proofs.YtpijenlmfmknnaaGreatDoor
open Go.RowKit
set_option linter.unusedVariables false
set_option maxRecDepth 1000000
theorem ts5_47_1 (K A : Int) : StepOk ts5 47 [wP, .int .i64 (.ofNat 1), acV K A] [(31, 32), (32, 33), (33, 34), (34, 35), (35, 36), (36, 37), (37, 38)] ts4 unV := by
  unfold StepOk
  kernel_rfl
theorem ts5_48_1 (K A : Int) : StepOk ts5 48 [wP, .int .i64 (.ofNat 1), acV K A] [] ts5 unV := by
  unfold StepOk
  kernel_rfl
theorem ts5_49_1 (K A : Int) : StepOk ts5 49 [wP, .int .i64 (.ofNat 1), acV K A] [(31, 32), (32, 33), (33, 34), (34, 35), (35, 36), (36, 37), (37, 38)] ts4 unV := by
  unfold StepOk
  kernel_rfl
theorem ts6_47_0 (K A : Int) : StepOk ts6 47 [wP, .int .i64 (.ofNat 0), acV K A] [(29, 485), (30, 31), (31, 32), (32, 33), (33, 34), (34, 35), (35, 483)] ts9 unV := by
  unfold StepOk
  kernel_rfl
theorem ts6_48_0 (K A : Int) : StepOk ts6 48 [wP, .int .i64 (.ofNat 0), acV K A] [(29, 484), (36, 482), (37, 36)] ts12 unV := by
  unfold StepOk
  kernel_rfl
theorem ts6_49_0 (K A : Int) : StepOk ts6 49 [wP, .int .i64 (.ofNat 0), acV K A] [(30, 31), (31, 32), (32, 33), (33, 34), (34, 35), (35, 36)] ts15 unV := by
  unfold StepOk
  kernel_rfl
theorem ts8_47_0 (K A : Int) : StepOk ts8 47 [wP, .int .i64 (.ofNat 0), acV K A] [(30, 31), (31, 32), (32, 33), (33, 34), (34, 35), (35, 36), (36, 37), (37, 38)] ts7 unV := by
  unfold StepOk
  kernel_rfl
theorem ts8_48_0 (K A : Int) : StepOk ts8 48 [wP, .int .i64 (.ofNat 0), acV K A] [] ts8 unV := by
  unfold StepOk
  kernel_rfl
theorem ts8_49_0 (K A : Int) : StepOk ts8 49 [wP, .int .i64 (.ofNat 0), acV K A] [(30, 31), (31, 32), (32, 33), (33, 34), (34, 35), (35, 36), (36, 37), (37, 38)] ts7 unV := by
  unfold StepOk
  kernel_rfl
theorem ts10_47_0 (K A : Int) : StepOk ts10 47 [wP, .int .i64 (.ofNat 0), acV K A] [(30, 31), (31, 32), (32, 33), (33, 34), (34, 35), (35, 36), (36, 37), (37, 38)] ts7 unV := by
  unfold StepOk
  kernel_rfl
theorem ts10_48_0 (K A : Int) : StepOk ts10 48 [wP, .int .i64 (.ofNat 0), acV K A] [] ts10 unV := by
  unfold StepOk
  kernel_rfl
theorem ts10_49_0 (K A : Int) : StepOk ts10 49 [wP, .int .i64 (.ofNat 0), acV K A] [(30, 31), (31, 32), (32, 33), (33, 34), (34, 35), (35, 36), (36, 37), (37, 38)] ts7 unV := by
  unfold StepOk
  kernel_rfl
theorem ts11_47_0 (K A : Int) : StepOk ts11 47 [wP, .int .i64 (.ofNat 0), acV K A] [(30, 31), (31, 32), (32, 33), (33, 34), (34, 35), (35, 36), (36, 37), (37, 38), (38, 39)] ts8 unV := by
  unfold StepOk
  kernel_rfl
theorem ts11_48_0 (K A : Int) : StepOk ts11 48 [wP, .int .i64 (.ofNat 0), acV K A] [] ts11 unV := by
  unfold StepOk
  kernel_rfl
theorem ts11_49_0 (K A : Int) : StepOk ts11 49 [wP, .int .i64 (.ofNat 0), acV K A] [(30, 31), (31, 32), (32, 33), (33, 34), (34, 35), (35, 36), (36, 37), (37, 38), (38, 39)] ts8 unV := by
  unfold StepOk
  kernel_rfl
theorem ts11_47_1 (K A : Int) : StepOk ts11 47 [wP, .int .i64 (.ofNat 1), acV K A] [(31, 32), (32, 33), (33, 34), (34, 35), (35, 36), (36, 37), (37, 38), (38, 39)] ts10 unV := by
  unfold StepOk
  kernel_rfl
theorem ts11_48_1 (K A : Int) : StepOk ts11 48 [wP, .int .i64 (.ofNat 1), acV K A] [] ts11 unV := by
  unfold StepOk
  kernel_rfl
theorem ts11_49_1 (K A : Int) : StepOk ts11 49 [wP, .int .i64 (.ofNat 1), acV K A] [(31, 32), (32, 33), (33, 34), (34, 35), (35, 36), (36, 37), (37, 38), (38, 39)] ts10 unV := by
  unfold StepOk
  kernel_rfl
theorem ts12_47_0 (K A : Int) : StepOk ts12 47 [wP, .int .i64 (.ofNat 0), acV K A] [(30, 31), (31, 32), (32, 33), (33, 34), (34, 35), (35, 36), (36, 37)] ts9 unV := by
  unfold StepOk
  kernel_rfl
theorem ts12_48_0 (K A : Int) : StepOk ts12 48 [wP, .int .i64 (.ofNat 0), acV K A] [] ts12 unV := by
  unfold StepOk
  kernel_rfl
theorem ts12_49_0 (K A : Int) : StepOk ts12 49 [wP, .int .i64 (.ofNat 0), acV K A] [(30, 31), (31, 32), (32, 33), (33, 34), (34, 35), (35, 36), (36, 37)] ts9 unV := by
  unfold StepOk
  kernel_rfl
theorem ts14_47_0 (K A : Int) : StepOk ts14 47 [wP, .int .i64 (.ofNat 0), acV K A] [(30, 31), (31, 32), (32, 33), (33, 34), (34, 35), (35, 36), (36, 37)] ts13 unV := by
  unfold StepOk
  kernel_rfl
theorem ts14_48_0 (K A : Int) : StepOk ts14 48 [wP, .int .i64 (.ofNat 0), acV K A] [] ts14 unV := by
  unfold StepOk
  kernel_rfl
theorem ts14_49_0 (K A : Int) : StepOk ts14 49 [wP, .int .i64 (.ofNat 0), acV K A] [(30, 31), (31, 32), (32, 33), (33, 34), (34, 35), (35, 36), (36, 37)] ts13 unV := by
  unfold StepOk
  kernel_rfl
end Go.Proofs.YtpijenlmfmknnaaGreatDoor

/- Settled. -/
namespace Go.Proofs.YtpijenlmfmknnaaGreatDoor
open Go.RowKit
set_option linter.unusedVariables false
set_option maxRecDepth 1000000
theorem ts0_set : StepOk ts0 24 [wP] [(26, 565), (29, 484), (30, 32), (31, 33), (32, 34), (33, 563), (34, 35), (35, 36), (36, 482)] tsF unV := by
  unfold StepOk
  kernel_rfl
theorem ts1_set : StepOk ts1 24 [wP] [(26, 480), (30, 31), (31, 32), (32, 33), (33, 478)] tsF unV := by
  unfold StepOk
  kernel_rfl
theorem ts2_set : StepOk ts2 24 [wP] [(26, 676), (30, 32), (31, 33), (32, 34), (33, 674), (34, 35), (35, 36), (36, 37), (37, 38)] tsF unV := by
  unfold StepOk
  kernel_rfl
theorem ts3_set : StepOk ts3 24 [wP] [(26, 480), (29, 683), (30, 31), (31, 32), (32, 33), (33, 478), (36, 681), (37, 36)] tsF unV := by
  unfold StepOk
  kernel_rfl
end Go.Proofs.YtpijenlmfmknnaaGreatDoor

/- Settled. -/
namespace Go.Proofs.YtpijenlmfmknnaaGreatDoor
open Go.RowKit
set_option linter.unusedVariables false
set_option maxRecDepth 1000000
theorem ts4_set : StepOk ts4 24 [wP] [(29, 484), (30, 31), (31, 32), (32, 33), (33, 34), (34, 35), (35, 36), (36, 482)] tsF unV := by
  unfold StepOk
  kernel_rfl
theorem ts5_set : StepOk ts5 24 [wP] [(29, 484), (30, 32), (31, 33), (32, 34), (33, 35), (34, 36), (35, 37), (36, 482), (37, 38)] tsF unV := by
  unfold StepOk
  kernel_rfl
theorem ts6_set : StepOk ts6 24 [wP] [(26, 1130), (29, 484), (30, 31), (31, 32), (32, 33), (33, 1128), (36, 482), (37, 36)] tsF unV := by
  unfold StepOk
  kernel_rfl
theorem ts7_set : StepOk ts7 24 [wP] [] tsF unV := by
  unfold StepOk
  kernel_rfl
end Go.Proofs.YtpijenlmfmknnaaGreatDoor

/- Settled. -/
namespace Go.Proofs.YtpijenlmfmknnaaGreatDoor
open Go.RowKit
set_option linter.unusedVariables false
set_option maxRecDepth 1000000
theorem ts8_set : StepOk ts8 24 [wP] [(30, 31), (31, 32), (32, 33), (33, 34), (34, 35), (35, 36), (36, 37), (37, 38)] tsF unV := by
  unfold StepOk
  kernel_rfl
theorem ts9_set : StepOk ts9 24 [wP] [(26, 1045), (33, 1043), (34, 33), (35, 34), (36, 35), (37, 36)] tsF unV := by
  unfold StepOk
  kernel_rfl
theorem ts10_set : StepOk ts10 24 [wP] [(30, 31), (31, 32), (32, 33), (33, 34), (34, 35), (35, 36), (36, 37), (37, 38)] tsF unV := by
  unfold StepOk
  kernel_rfl
theorem ts11_set : StepOk ts11 24 [wP] [(30, 32), (31, 33), (32, 34), (33, 35), (34, 36), (35, 37), (36, 38), (37, 39)] tsF unV := by
  unfold StepOk
  kernel_rfl
end Go.Proofs.YtpijenlmfmknnaaGreatDoor

/- Settled. -/
namespace Go.Proofs.YtpijenlmfmknnaaGreatDoor
open Go.RowKit
set_option linter.unusedVariables false
set_option maxRecDepth 1000000
theorem ts12_set : StepOk ts12 24 [wP] [(26, 1241), (30, 31), (31, 32), (32, 33), (33, 1239)] tsF unV := by
  unfold StepOk
  kernel_rfl
theorem ts13_set : StepOk ts13 24 [wP] [(29, 602), (36, 600), (37, 36)] tsF unV := by
  unfold StepOk
  kernel_rfl
theorem ts14_set : StepOk ts14 24 [wP] [(29, 798), (30, 31), (31, 32), (32, 33), (33, 34), (34, 35), (35, 36), (36, 796)] tsF unV := by
  unfold StepOk
  kernel_rfl
theorem ts15_set : StepOk ts15 24 [wP] [(26, 934), (29, 543), (33, 932), (34, 33), (35, 34), (36, 541), (37, 35)] tsF unV := by
  unfold StepOk
  kernel_rfl
end Go.Proofs.YtpijenlmfmknnaaGreatDoor

/- The states, and that each step leads to one of them. -/
namespace Go.Proofs.YtpijenlmfmknnaaGreatDoor
open Go.RowKit
set_option linter.unusedVariables false
set_option maxRecDepth 1000000
def twS : List (List (Nat × Obj) × Nat) := [(ts0, 2), (ts1, 1), (ts2, 2), (ts3, 1), (ts4, 1), (ts5, 2), (ts6, 1), (ts7, 0), (ts8, 1), (ts9, 0), (ts10, 1), (ts11, 2), (ts12, 1), (ts13, 0), (ts14, 1), (ts15, 0)]
theorem tw_cases {p : List (Nat × Obj) × Nat → Prop} (h0 : p (ts0, 2)) (h1 : p (ts1, 1)) (h2 : p (ts2, 2)) (h3 : p (ts3, 1)) (h4 : p (ts4, 1)) (h5 : p (ts5, 2)) (h6 : p (ts6, 1)) (h7 : p (ts7, 0)) (h8 : p (ts8, 1)) (h9 : p (ts9, 0)) (h10 : p (ts10, 1)) (h11 : p (ts11, 2)) (h12 : p (ts12, 1)) (h13 : p (ts13, 0)) (h14 : p (ts14, 1)) (h15 : p (ts15, 0)) : ∀ x ∈ twS, p x := by
  intro x hx
  simp only [twS, List.mem_cons, List.not_mem_nil, or_false] at hx
  rcases hx with rfl | rfl | rfl | rfl | rfl | rfl | rfl | rfl | rfl | rfl | rfl | rfl | rfl | rfl | rfl | rfl
  · exact h0
  · exact h1
  · exact h2
  · exact h3
  · exact h4
  · exact h5
  · exact h6
  · exact h7
  · exact h8
  · exact h9
  · exact h10
  · exact h11
  · exact h12
  · exact h13
  · exact h14
  · exact h15
theorem tw_go47 (K A : Int) : ∀ x ∈ twS, ∀ i, i < x.2 → ∃ T y, y ∈ twS ∧ StepOk x.1 47 [wP, .int .i64 (.ofNat i), acV K A] T y.1 unV := tw_cases
  (fun i h => match i, h with
    | 0, _ => ⟨_, _, (List.mem_of_getElem? (show twS[1]? = some (ts1, 1) from rfl)), ts0_47_0 K A⟩
    | 1, _ => ⟨_, _, (List.mem_of_getElem? (show twS[4]? = some (ts4, 1) from rfl)), ts0_47_1 K A⟩
    | i + 2, h => absurd h (by simp only []; omega))
  (fun i h => match i, h with
    | 0, _ => ⟨_, _, (List.mem_of_getElem? (show twS[7]? = some (ts7, 0) from rfl)), ts1_47_0 K A⟩
    | i + 1, h => absurd h (by simp only []; omega))
  (fun i h => match i, h with
    | 0, _ => ⟨_, _, (List.mem_of_getElem? (show twS[1]? = some (ts1, 1) from rfl)), ts2_47_0 K A⟩
    | 1, _ => ⟨_, _, (List.mem_of_getElem? (show twS[10]? = some (ts10, 1) from rfl)), ts2_47_1 K A⟩
    | i + 2, h => absurd h (by simp only []; omega))
  (fun i h => match i, h with
    | 0, _ => ⟨_, _, (List.mem_of_getElem? (show twS[13]? = some (ts13, 0) from rfl)), ts3_47_0 K A⟩
    | i + 1, h => absurd h (by simp only []; omega))
  (fun i h => match i, h with
    | 0, _ => ⟨_, _, (List.mem_of_getElem? (show twS[7]? = some (ts7, 0) from rfl)), ts4_47_0 K A⟩
    | i + 1, h => absurd h (by simp only []; omega))
  (fun i h => match i, h with
    | 0, _ => ⟨_, _, (List.mem_of_getElem? (show twS[8]? = some (ts8, 1) from rfl)), ts5_47_0 K A⟩
    | 1, _ => ⟨_, _, (List.mem_of_getElem? (show twS[4]? = some (ts4, 1) from rfl)), ts5_47_1 K A⟩
    | i + 2, h => absurd h (by simp only []; omega))
  (fun i h => match i, h with
    | 0, _ => ⟨_, _, (List.mem_of_getElem? (show twS[9]? = some (ts9, 0) from rfl)), ts6_47_0 K A⟩
    | i + 1, h => absurd h (by simp only []; omega))
  (fun i h => absurd h (Nat.not_lt_zero i))
  (fun i h => match i, h with
    | 0, _ => ⟨_, _, (List.mem_of_getElem? (show twS[7]? = some (ts7, 0) from rfl)), ts8_47_0 K A⟩
    | i + 1, h => absurd h (by simp only []; omega))
  (fun i h => absurd h (Nat.not_lt_zero i))
  (fun i h => match i, h with
    | 0, _ => ⟨_, _, (List.mem_of_getElem? (show twS[7]? = some (ts7, 0) from rfl)), ts10_47_0 K A⟩
    | i + 1, h => absurd h (by simp only []; omega))
  (fun i h => match i, h with
    | 0, _ => ⟨_, _, (List.mem_of_getElem? (show twS[8]? = some (ts8, 1) from rfl)), ts11_47_0 K A⟩
    | 1, _ => ⟨_, _, (List.mem_of_getElem? (show twS[10]? = some (ts10, 1) from rfl)), ts11_47_1 K A⟩
    | i + 2, h => absurd h (by simp only []; omega))
  (fun i h => match i, h with
    | 0, _ => ⟨_, _, (List.mem_of_getElem? (show twS[9]? = some (ts9, 0) from rfl)), ts12_47_0 K A⟩
    | i + 1, h => absurd h (by simp only []; omega))
  (fun i h => absurd h (Nat.not_lt_zero i))
  (fun i h => match i, h with
    | 0, _ => ⟨_, _, (List.mem_of_getElem? (show twS[13]? = some (ts13, 0) from rfl)), ts14_47_0 K A⟩
    | i + 1, h => absurd h (by simp only []; omega))
  (fun i h => absurd h (Nat.not_lt_zero i))
theorem tw_go48 (K A : Int) : ∀ x ∈ twS, ∀ i, i < x.2 → ∃ T y, y ∈ twS ∧ StepOk x.1 48 [wP, .int .i64 (.ofNat i), acV K A] T y.1 unV := tw_cases
  (fun i h => match i, h with
    | 0, _ => ⟨_, _, (List.mem_of_getElem? (show twS[2]? = some (ts2, 2) from rfl)), ts0_48_0 K A⟩
    | 1, _ => ⟨_, _, (List.mem_of_getElem? (show twS[5]? = some (ts5, 2) from rfl)), ts0_48_1 K A⟩
    | i + 2, h => absurd h (by simp only []; omega))
  (fun i h => match i, h with
    | 0, _ => ⟨_, _, (List.mem_of_getElem? (show twS[8]? = some (ts8, 1) from rfl)), ts1_48_0 K A⟩
    | i + 1, h => absurd h (by simp only []; omega))
  (fun i h => match i, h with
    | 0, _ => ⟨_, _, (List.mem_of_getElem? (show twS[2]? = some (ts2, 2) from rfl)), ts2_48_0 K A⟩
    | 1, _ => ⟨_, _, (List.mem_of_getElem? (show twS[11]? = some (ts11, 2) from rfl)), ts2_48_1 K A⟩
    | i + 2, h => absurd h (by simp only []; omega))
  (fun i h => match i, h with
    | 0, _ => ⟨_, _, (List.mem_of_getElem? (show twS[14]? = some (ts14, 1) from rfl)), ts3_48_0 K A⟩
    | i + 1, h => absurd h (by simp only []; omega))
  (fun i h => match i, h with
    | 0, _ => ⟨_, _, (List.mem_of_getElem? (show twS[10]? = some (ts10, 1) from rfl)), ts4_48_0 K A⟩
    | i + 1, h => absurd h (by simp only []; omega))
  (fun i h => match i, h with
    | 0, _ => ⟨_, _, (List.mem_of_getElem? (show twS[11]? = some (ts11, 2) from rfl)), ts5_48_0 K A⟩
    | 1, _ => ⟨_, _, (List.mem_of_getElem? (show twS[5]? = some (ts5, 2) from rfl)), ts5_48_1 K A⟩
    | i + 2, h => absurd h (by simp only []; omega))
  (fun i h => match i, h with
    | 0, _ => ⟨_, _, (List.mem_of_getElem? (show twS[12]? = some (ts12, 1) from rfl)), ts6_48_0 K A⟩
    | i + 1, h => absurd h (by simp only []; omega))
  (fun i h => absurd h (Nat.not_lt_zero i))
  (fun i h => match i, h with
    | 0, _ => ⟨_, _, (List.mem_of_getElem? (show twS[8]? = some (ts8, 1) from rfl)), ts8_48_0 K A⟩
    | i + 1, h => absurd h (by simp only []; omega))
  (fun i h => absurd h (Nat.not_lt_zero i))
  (fun i h => match i, h with
    | 0, _ => ⟨_, _, (List.mem_of_getElem? (show twS[10]? = some (ts10, 1) from rfl)), ts10_48_0 K A⟩
    | i + 1, h => absurd h (by simp only []; omega))
  (fun i h => match i, h with
    | 0, _ => ⟨_, _, (List.mem_of_getElem? (show twS[11]? = some (ts11, 2) from rfl)), ts11_48_0 K A⟩
    | 1, _ => ⟨_, _, (List.mem_of_getElem? (show twS[11]? = some (ts11, 2) from rfl)), ts11_48_1 K A⟩
    | i + 2, h => absurd h (by simp only []; omega))
  (fun i h => match i, h with
    | 0, _ => ⟨_, _, (List.mem_of_getElem? (show twS[12]? = some (ts12, 1) from rfl)), ts12_48_0 K A⟩
    | i + 1, h => absurd h (by simp only []; omega))
  (fun i h => absurd h (Nat.not_lt_zero i))
  (fun i h => match i, h with
    | 0, _ => ⟨_, _, (List.mem_of_getElem? (show twS[14]? = some (ts14, 1) from rfl)), ts14_48_0 K A⟩
    | i + 1, h => absurd h (by simp only []; omega))
  (fun i h => absurd h (Nat.not_lt_zero i))
theorem tw_go49 (K A : Int) : ∀ x ∈ twS, ∀ i, i < x.2 → ∃ T y, y ∈ twS ∧ StepOk x.1 49 [wP, .int .i64 (.ofNat i), acV K A] T y.1 unV := tw_cases
  (fun i h => match i, h with
    | 0, _ => ⟨_, _, (List.mem_of_getElem? (show twS[3]? = some (ts3, 1) from rfl)), ts0_49_0 K A⟩
    | 1, _ => ⟨_, _, (List.mem_of_getElem? (show twS[6]? = some (ts6, 1) from rfl)), ts0_49_1 K A⟩
    | i + 2, h => absurd h (by simp only []; omega))
  (fun i h => match i, h with
    | 0, _ => ⟨_, _, (List.mem_of_getElem? (show twS[9]? = some (ts9, 0) from rfl)), ts1_49_0 K A⟩
    | i + 1, h => absurd h (by simp only []; omega))
  (fun i h => match i, h with
    | 0, _ => ⟨_, _, (List.mem_of_getElem? (show twS[1]? = some (ts1, 1) from rfl)), ts2_49_0 K A⟩
    | 1, _ => ⟨_, _, (List.mem_of_getElem? (show twS[12]? = some (ts12, 1) from rfl)), ts2_49_1 K A⟩
    | i + 2, h => absurd h (by simp only []; omega))
  (fun i h => match i, h with
    | 0, _ => ⟨_, _, (List.mem_of_getElem? (show twS[15]? = some (ts15, 0) from rfl)), ts3_49_0 K A⟩
    | i + 1, h => absurd h (by simp only []; omega))
  (fun i h => match i, h with
    | 0, _ => ⟨_, _, (List.mem_of_getElem? (show twS[13]? = some (ts13, 0) from rfl)), ts4_49_0 K A⟩
    | i + 1, h => absurd h (by simp only []; omega))
  (fun i h => match i, h with
    | 0, _ => ⟨_, _, (List.mem_of_getElem? (show twS[14]? = some (ts14, 1) from rfl)), ts5_49_0 K A⟩
    | 1, _ => ⟨_, _, (List.mem_of_getElem? (show twS[4]? = some (ts4, 1) from rfl)), ts5_49_1 K A⟩
    | i + 2, h => absurd h (by simp only []; omega))
  (fun i h => match i, h with
    | 0, _ => ⟨_, _, (List.mem_of_getElem? (show twS[15]? = some (ts15, 0) from rfl)), ts6_49_0 K A⟩
    | i + 1, h => absurd h (by simp only []; omega))
  (fun i h => absurd h (Nat.not_lt_zero i))
  (fun i h => match i, h with
    | 0, _ => ⟨_, _, (List.mem_of_getElem? (show twS[7]? = some (ts7, 0) from rfl)), ts8_49_0 K A⟩
    | i + 1, h => absurd h (by simp only []; omega))
  (fun i h => absurd h (Nat.not_lt_zero i))
  (fun i h => match i, h with
    | 0, _ => ⟨_, _, (List.mem_of_getElem? (show twS[7]? = some (ts7, 0) from rfl)), ts10_49_0 K A⟩
    | i + 1, h => absurd h (by simp only []; omega))
  (fun i h => match i, h with
    | 0, _ => ⟨_, _, (List.mem_of_getElem? (show twS[8]? = some (ts8, 1) from rfl)), ts11_49_0 K A⟩
    | 1, _ => ⟨_, _, (List.mem_of_getElem? (show twS[10]? = some (ts10, 1) from rfl)), ts11_49_1 K A⟩
    | i + 2, h => absurd h (by simp only []; omega))
  (fun i h => match i, h with
    | 0, _ => ⟨_, _, (List.mem_of_getElem? (show twS[9]? = some (ts9, 0) from rfl)), ts12_49_0 K A⟩
    | i + 1, h => absurd h (by simp only []; omega))
  (fun i h => absurd h (Nat.not_lt_zero i))
  (fun i h => match i, h with
    | 0, _ => ⟨_, _, (List.mem_of_getElem? (show twS[13]? = some (ts13, 0) from rfl)), ts14_49_0 K A⟩
    | i + 1, h => absurd h (by simp only []; omega))
  (fun i h => absurd h (Nat.not_lt_zero i))
theorem tw_set : ∀ x ∈ twS, ∃ T, StepOk x.1 24 [wP] T tsF unV := tw_cases ⟨_, ts0_set⟩ ⟨_, ts1_set⟩ ⟨_, ts2_set⟩ ⟨_, ts3_set⟩ ⟨_, ts4_set⟩ ⟨_, ts5_set⟩ ⟨_, ts6_set⟩ ⟨_, ts7_set⟩ ⟨_, ts8_set⟩ ⟨_, ts9_set⟩ ⟨_, ts10_set⟩ ⟨_, ts11_set⟩ ⟨_, ts12_set⟩ ⟨_, ts13_set⟩ ⟨_, ts14_set⟩ ⟨_, ts15_set⟩
/-- How many letters there are. -/
def netOk (x : List (Nat × Obj) × Nat) : Bool := match tget13 (hpS x.1).h 20 with
  | some (.cells ⟨l⟩ _ _) => (match (l[2]? : Option Value) with
    | some (.slice (some _) n _) => Nat.beq n x.2
    | _ => false)
  | _ => false
theorem net_all : twS.all netOk = true := by decide +kernel
end Go.Proofs.YtpijenlmfmknnaaGreatDoor
