/- The law on Between, walked by its callees' contracts: it returns true and writes nothing that was there. -/
import Derived.Test.YtjannojebngoeaaBtI
import Derived.Test.YtjannojebngoeaaLKey
import Derived.Test.YtjannojebngoeaaMarkZ
import Derived.Test.YtjannojebngoeaaApartZ
namespace Go.Proofs.Ytjannojebngoeaa
open Go.RowKit
set_option linter.unusedVariables false
set_option maxRecDepth 100000

/-- What Between tells. -/
def btV (l t : List Int) : List Int := (btAll l t).getD []
def btK (l t : List Int) : Bool := (btAll l t).isSome
theorem btV_len (l t : List Int) : (btV l t).length ≤ 12 := by
  unfold btV
  cases h : btAll l t with
  | none => simp
  | some r => simpa using btAll_len h
theorem bt_own {w w' : World} {e : Ending} {l t : List Int} (h : BtAns w w' e (btAll l t)) : ∃ a c, e = .returned (.tuple #[.slice a (btV l t).length c, .bool (btK l t)]) ∧ OwnZ w' w.heap.size (.slice a (btV l t).length c) (btV l t) ∧ Below w.heap.size w w' := by
  obtain ⟨v, r, rfl, ho, hr, hB⟩ := h
  have e : r = btV l t := (unhide hr).symm
  subst e
  obtain ⟨a, c, rfl, _, _⟩ := ho.ints.shape
  exact ⟨a, c, rfl, ho, hB⟩
theorem btS_own (w : World) (u v : Value) (l t : List Int) (hu : Ints w u l) (hv : Ints w v t) :
    Calls Try.prog 26 #[u, v] w fun e w' => ∃ a c, e = .returned (.tuple #[.slice a (btV l t).length c, .bool (btK l t)]) ∧ OwnZ w' w.heap.size (.slice a (btV l t).length c) (btV l t) ∧ Below w.heap.size w w' :=
  (btS_all w u v l t hu hv).mono fun _ _ h => bt_own h
theorem btI_own (w : World) (u v : Value) (l t : List Int) (hu : Ints w u l) (hv : Ints w v t) :
    Calls Try.prog 27 #[u, v] w fun e w' => ∃ a c, e = .returned (.tuple #[.slice a (btV l t).length c, .bool (btK l t)]) ∧ OwnZ w' w.heap.size (.slice a (btV l t).length c) (btV l t) ∧ Below w.heap.size w w' :=
  (btI_all w u v l t hu hv).mono fun _ _ h => bt_own h

set_option maxHeartbeats 3200000 in
theorem law_between (w : World) (v u : Value) (l t : List Int) (h : Ints w v l) (hu : Ints w u t) :
    Calls Try.prog 7 #[v, u] w fun e w' => e = .returned (.bool true) ∧ Below w.heap.size w w' := by
  have HV := hide h
  have HU := hide hu
  obtain ⟨a, cap, rfl, hlc, hcm⟩ := h.shape
  obtain ⟨a', cap', rfl, hlc', hcm'⟩ := hu.shape
  have hm := h.2.1
  have hm' := hu.2.1
  unfold maxLen at hm hm'
  clear h hu
  by_cases hbig : 1048576 < l.length
  · have hb' : (1048576 : Int) < (l.length : Int) := by omega
    go_enter Try.func7, Try.ntmps7
    go_wp2
    go_ret
    exact ⟨rfl, Below.refl _ _⟩
  have hb' : ¬ (1048576 : Int) < (l.length : Int) := by omega
  by_cases hbig2 : 1048576 < t.length
  · have hb2 : (1048576 : Int) < (t.length : Int) := by omega
    go_enter Try.func7, Try.ntmps7
    go_wp2
    go_ret
    exact ⟨rfl, Below.refl _ _⟩
  have hb2 : ¬ (1048576 : Int) < (t.length : Int) := by omega
  obtain ⟨p, hp⟩ : ∃ p, p = btV l t := ⟨_, rfl⟩
  obtain ⟨ok, hok⟩ : ∃ ok, ok = btK l t := ⟨_, rfl⟩
  have hP : p.length ≤ 12 := by rw [hp]; exact btV_len l t
  have HBS := hide (fun (w : World) (u v : Value) (hu : Ints w u l) (hv : Ints w v t) => btS_own w u v l t hu hv)
  have HBI := hide (fun (w : World) (u v : Value) (hu : Ints w u l) (hv : Ints w v t) => btI_own w u v l t hu hv)
  rw [← hp, ← hok] at HBS HBI
  clear hp hok
  have hne : (ok != ok) = false := by simp
  have heq : (ok == ok) = true := by simp
  go_enter Try.func7, Try.ntmps7
  go_wp2_with fail
  refine (toZ_own w _ l (unhide HV) (by omega)).mono ?_
  rintro e w1 ⟨v1a, v1c, rfl, ho1, hB1⟩
  have hu1 := (unhide HU).keep hB1
  go_wp2_with fail
  refine (toZ_own w1 _ t hu1 (by omega)).mono ?_
  rintro e w1' ⟨v1'a, v1'c, rfl, ho1', hB1'⟩
  go_wp2_with fail
  refine (unhide HBS w1' _ _ (ho1.keep hB1').ints ho1'.ints).mono ?_
  rintro e w2 ⟨u0a, u0c, rfl, hu0, hB2⟩
  have hA2 : Below w.heap.size w w2 := bstep (bstep hB1 hB1') hB2
  go_wp2_with fail
  refine (toZ_own w2 _ l ((unhide HV).keep hA2) (by omega)).mono ?_
  rintro e w3 ⟨x0a, x0c, rfl, hx0, hB3⟩
  have hA3 := bstep hA2 hB3
  go_wp2_with fail
  refine (toZ_own w3 _ t ((unhide HU).keep hA3) (by omega)).mono ?_
  rintro e w4 ⟨x1a, x1c, rfl, hx1, hB4⟩
  have hA4 := bstep hA3 hB4
  go_wp2_with fail
  refine (unhide HBI w4 _ _ (hx0.keep hB4).ints hx1.ints).mono ?_
  rintro e w5 ⟨g0a, g0c, rfl, hg0, hB5⟩
  have hA5 := bstep hA4 hB5
  go_wp2_with fail
  have hu5 := ((hu0.keep hB3).keep hB4).keep hB5
  refine (eqZ_any w5 _ _ p p hg0.ints hu5.ints).mono ?_
  rintro e w6 ⟨rfl, hB6⟩
  have hA6 := bstep hA5 hB6
  have hd : decide (p = p) = true := by simp
  rw [hd]
  clear hd
  -- the arguments are as they were
  go_wp2_with fail
  refine (toZ_own w6 _ l ((unhide HV).keep hA6) (by omega)).mono ?_
  rintro e w7 ⟨y0a, y0c, rfl, hy0, hB7⟩
  have hA7 := bstep hA6 hB7
  go_wp2_with fail
  have hx07 := (((hx0.keep hB4).keep hB5).keep hB6).keep hB7
  refine (eqZ_any w7 _ _ l l hx07.ints hy0.ints).mono ?_
  rintro e w8 ⟨rfl, hB8⟩
  have hA8 := bstep hA7 hB8
  have hd : decide (l = l) = true := by simp
  rw [hd]
  clear hd
  go_wp2_with fail
  refine (toZ_own w8 _ t ((unhide HU).keep hA8) (by omega)).mono ?_
  rintro e w9 ⟨y1a, y1c, rfl, hy1, hB9⟩
  have hA9 := bstep hA8 hB9
  go_wp2_with fail
  have hx19 := ((((hx1.keep hB5).keep hB6).keep hB7).keep hB8).keep hB9
  refine (eqZ_any w9 _ _ t t hx19.ints hy1.ints).mono ?_
  rintro e w10 ⟨rfl, hB10⟩
  have hA10 := bstep hA9 hB10
  have hd : decide (t = t) = true := by simp
  rw [hd]
  clear hd
  -- the arguments are written over
  go_wp2_with fail
  have hx010 := ((hx07.keep hB8).keep hB9).keep hB10
  refine (markZ_any w10 _ _ l 1 hx010 (by omega) (by omega) (by omega)).mono ?_
  rintro e w11 ⟨rfl, hx011, hG11⟩
  have s1 := hA2.size
  have s3 := hB3.size
  have s4 := hB4.size
  have hA11 : Below w.heap.size w w11 := bstepBy hA10 hG11 (fun g hg => by have := hx010.base_le g hg; omega)
  have hx110 := hx19.keep hB10
  have hx111 := hx110.keepBy hG11 (ownz_apart' hx0 hx1 (Nat.le_refl _))
  have hu10 := ((((hu5.keep hB6).keep hB7).keep hB8).keep hB9).keep hB10
  have hg10 := ((((hg0.keep hB6).keep hB7).keep hB8).keep hB9).keep hB10
  have hu11 := hu10.keepBy hG11 (ownz_apart hu0 hx0 (Nat.le_refl _))
  have hg11 := hg10.keepBy hG11 (ownz_apart' hx0 hg0 (by omega))
  go_wp2_with fail
  refine (markZ_any w11 _ _ t (1 + (l.length : Int)) hx111 (by omega) (by omega) (by omega)).mono ?_
  rintro e w12 ⟨rfl, hx112, hG12⟩
  have hA12 : Below w.heap.size w w12 := bstepBy hA11 hG12 (fun g hg => by have := hx111.base_le g hg; omega)
  have hu12 := hu11.keepBy hG12 (ownz_apart hu0 hx1 (by omega))
  have hg12 := hg11.keepBy hG12 (ownz_apart' hx1 hg0 (Nat.le_refl _))
  have hk0 : decide ((1 + (l.length : Int) + (t.length : Int)) < 0) = false := by simp; omega
  go_wp2_with fail
  refine (eqZ_any w12 _ _ p p hg12.ints hu12.ints).mono ?_
  rintro e w13 ⟨rfl, hB13⟩
  have hA13 := bstep hA12 hB13
  have hd : decide (p = p) = true := by simp
  rw [hd]
  clear hd
  -- the answer is written over
  go_wp2_with fail
  have hg13 := hg12.keep hB13
  refine (markZ_any w13 _ _ p 1 hg13 (by omega) (by omega) (by omega)).mono ?_
  rintro e w14 ⟨rfl, hg14, hG14⟩
  have hu14 := (hu12.keep hB13).keepBy hG14 (ownz_apart hu0 hg0 (by omega))
  have hA14 : Below w.heap.size w w14 := bstepBy hA13 hG14 (fun g hg => by have := hg13.base_le g hg; omega)
  go_wp2_with fail
  refine (heldZ_any w14 _ p.length 1 hg14.ints (by omega) (by omega) (by omega)).mono ?_
  rintro e w15 ⟨rfl, rfl⟩
  have hq0 : decide ((1 + (p.length : Int)) < 0) = false := by simp; omega
  go_wp2_with fail
  refine (toZ_own w15 _ l ((unhide HV).keep hA14) (by omega)).mono ?_
  rintro e w16 ⟨z0a, z0c, rfl, hz0, hB16⟩
  have hA16 := bstep hA14 hB16
  go_wp2_with fail
  refine (toZ_own w16 _ t ((unhide HU).keep hA16) (by omega)).mono ?_
  rintro e w17 ⟨z1a, z1c, rfl, hz1, hB17⟩
  have hA17 := bstep hA16 hB17
  go_wp2_with fail
  refine (unhide HBI w17 _ _ (hz0.keep hB17).ints hz1.ints).mono ?_
  rintro e w18 ⟨q0a, q0c, rfl, hq18, hB18⟩
  have hA18 := bstep hA17 hB18
  go_wp2_with fail
  refine (eqZ_any w18 _ _ p p hq18.ints (((hu14.keep hB16).keep hB17).keep hB18).ints).mono ?_
  rintro e w19 ⟨rfl, hB19⟩
  have hd : decide (p = p) = true := by simp
  rw [hd]
  clear hd
  go_wp2_with fail
  have hg19 := (((hg14.keep hB16).keep hB17).keep hB18).keep hB19
  refine (heldZ_any w19 _ p.length 1 hg19.ints (by omega) (by omega) (by omega)).mono ?_
  rintro e w20 ⟨rfl, rfl⟩
  go_wp2
  go_ret
  exact ⟨rfl, bstep hA18 hB19⟩
end Go.Proofs.Ytjannojebngoeaa
