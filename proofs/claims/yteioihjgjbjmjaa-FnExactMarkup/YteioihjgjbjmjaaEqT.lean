/- The laws' own comparison of two trees, where both are the same: by contracts. -/
import Derived.Test.YteioihjgjbjmjaaEq
import Derived.Test.YteioihjgjbjmjaaTree
import Derived.Deep.RegionHeld3
namespace Go.Proofs.Yteioihjgjbjmjaa
open Go.RowKit
set_option linter.unusedVariables false

theorem eqB_true (w : World) (u v : Value) (a : List Int) (hu : Byt w u a) (hv : Byt w v a) : Calls Try.prog 20 #[u, v] w fun e w' => e = .returned (.bool true) ∧ Below w.heap.size w w' := by
  refine (eqB_any w u v a a hu hv).mono ?_
  rintro e w' ⟨rfl, h⟩
  exact ⟨by simp, h⟩

set_option maxHeartbeats 1600000 in
theorem eqAttr_any (w : World) (a b c d : Value) (x : List Int × List Int) (ha : Byt w a x.1) (hb : Byt w b x.2) (hc : Byt w c x.1) (hd : Byt w d x.2) :
    Calls Try.prog 58 #[.agg #[a, b], .agg #[c, d]] w fun e w' => e = .returned (.bool true) ∧ Below w.heap.size w w' := by
  obtain ⟨a1, k1, rfl, _, _⟩ := ha.shape
  obtain ⟨a2, k2, rfl, _, _⟩ := hb.shape
  obtain ⟨a3, k3, rfl, _, _⟩ := hc.shape
  obtain ⟨a4, k4, rfl, _, _⟩ := hd.shape
  have hA : Below w.heap.size w ((w.alloc (.cells #[.slice a1 x.1.length k1, .slice a2 x.2.length k2] 88)).alloc (.cells #[.slice a3 x.1.length k3, .slice a4 x.2.length k4] 88)) := ((Below.refl _ _).alloc (Nat.le_refl _) _).alloc (by simp) _
  go_enter Try.func58, Try.ntmps58
  go_wp2_with fail
  refine (eqB_true _ _ _ x.1 (ha.keep hA) (hc.keep hA)).mono ?_
  rintro e w1 ⟨rfl, hB1⟩
  have hA1 := bstep hA hB1
  have e1 := cell_later hB1 (show ((w.alloc (.cells #[.slice a1 x.1.length k1, .slice a2 x.2.length k2] 88)).alloc (.cells #[.slice a3 x.1.length k3, .slice a4 x.2.length k4] 88)).cell? ⟨w.heap.size, 1, none⟩ = some (.slice a2 x.2.length k2) by simp)
  have e2 := cell_later hB1 (show ((w.alloc (.cells #[.slice a1 x.1.length k1, .slice a2 x.2.length k2] 88)).alloc (.cells #[.slice a3 x.1.length k3, .slice a4 x.2.length k4] 88)).cell? ⟨w.heap.size + 1, 1, none⟩ = some (.slice a4 x.2.length k4) by simp)
  clear hB1 hA
  go_wp2_with fail
  refine (eqB_true _ _ _ x.2 (hb.keep hA1) (hd.keep hA1)).mono ?_
  rintro e w2 ⟨rfl, hB2⟩
  have hA2 := bstep hA1 hB2
  clear hB2 hA1 e1 e2
  go_wp2
  go_ret
  exact ⟨rfl, hA2⟩

set_option maxHeartbeats 1600000 in
theorem eqAttrS_any (w : World) (u v : Value) (l : List (List Int × List Int)) (hu : RdAttrs w u l) (hv : RdAttrs w v l) :
    Calls Try.prog 32 #[u, v] w fun e w' => e = .returned (.bool true) ∧ Below w.heap.size w w' := by
  have hm := hu.1
  unfold maxLen at hm
  by_cases h0 : l = []
  · obtain ⟨a1, c1, rfl, _⟩ := Elems.shape hu
    obtain ⟨a2, c2, rfl, _⟩ := Elems.shape hv
    subst h0
    go_enter Try.func32, Try.ntmps32
    go_wp2
    refine wp_loop_rounds 1 ?_
    rw [rounds_succ]
    go_wp2
    go_ret
    exact ⟨rfl, Below.refl _ _⟩
  obtain ⟨_, ⟨_, e⟩ | ⟨_, _, _, _, e⟩ | ⟨b, off, cap, rfl, g1, g2, g3, g4, g5⟩⟩ := hu
  · exact absurd e h0
  · exact absurd e h0
  obtain ⟨_, ⟨_, e⟩ | ⟨_, _, _, _, e⟩ | ⟨b', off', cap', rfl, f1, f2, f3, f4, f5⟩⟩ := hv
  · exact absurd e h0
  · exact absurd e h0
  go_enter Try.func32, Try.ntmps32
  go_wp2
  go_loopw [5] (fun i wr => ∃ k : Nat, k ≤ l.length ∧ i = .int .i64 k ∧ Below w.heap.size w wr) (fun i _ => l.length - (intOf i).toNat)
  case atStart => exact ⟨0, Nat.zero_le _, rfl, Below.refl _ _⟩
  case round =>
    obtain ⟨k, hk, rfl, hB⟩ := hrel
    by_cases hlt : k < l.length
    · obtain ⟨C, hC, hcell, c0, c1, rfl, hc0, hc1⟩ := g5 k hlt
      obtain ⟨D, hD, hdell, d0, d1, rfl, hd0, hd1⟩ := f5 k hlt
      have e0 := (hB.cell (p := ⟨b, off + k * 2, none⟩) g4).trans (hcell 0 (by omega))
      have e1 := (hB.cell (p := ⟨b, off + k * 2 + 1, none⟩) g4).trans (hcell 1 (by omega))
      have e2 := (hB.cell (p := ⟨b', off' + k * 2, none⟩) f4).trans (hdell 0 (by omega))
      have e3 := (hB.cell (p := ⟨b', off' + k * 2 + 1, none⟩) f4).trans (hdell 1 (by omega))
      simp only [List.getElem?_cons_zero, List.getElem?_cons_succ] at e0 e1 e2 e3
      have hk0 : (0 : Int) ≤ (k : Int) := by omega
      have hlt' : (k : Int) < (l.length : Int) := by omega
      clear hcell hdell g5 f5 hC hD
      go_wp2
      go_region_held3 (fun w' => w'.cell? ⟨b, off + k * 2, none⟩ = some c0 ∧ w'.cell? ⟨b, off + k * 2 + 1, none⟩ = some c1 ∧ w'.cell? ⟨b', off' + k * 2, none⟩ = some d0 ∧ w'.cell? ⟨b', off' + k * 2 + 1, none⟩ = some d1) (first | exact ⟨by assumption, by assumption, by assumption, by assumption⟩ | simp [*])
        ((go_at_call 58; refine (eqAttr_any _ c0 c1 d0 d1 l[k] (by exact (hc0.keep hB).keep ((Below.refl _ _).drew)) (by exact (hc1.keep hB).keep ((Below.refl _ _).drew)) (by exact (hd0.keep hB).keep ((Below.refl _ _).drew)) (by exact (hd1.keep hB).keep ((Below.refl _ _).drew))).mono ?_; rintro e w2 ⟨rfl, hB2⟩; have s0 := cell_later hB2 e0; have s1 := cell_later hB2 e1; have s2 := cell_later hB2 e2; have s3 := cell_later hB2 e3))
      have hB3 := hB.trans ((Below.drew (Below.refl wr.heap.size wr)).trans hB2 |>.mono hB.size)
      clear e0 e1 e2 e3 s0 s1 s2 s3 hB2
      go_wp2
      go_roundw
      case rel => exact ⟨k + 1, by omega, by go_num, hB3⟩
      case measure => simp [intOf]; omega
    · clear g5 f5
      go_wp2
      go_ret
      exact ⟨rfl, hB⟩

/-- What eqNode does to two nodes of depth below n that are the same. -/
def EqNodeSaid (n : Nat) : Prop := ∀ (w : World) (a b c d e a' b' c' d' e' : Value) (t : Tr n), RdNode n w [a, b, c, d, e] t → RdNode n w [a', b', c', d', e'] t →
    Calls Try.prog 11 #[.agg #[a, b, c, d, e], .agg #[a', b', c', d', e']] w fun e w' => e = .returned (.bool true) ∧ Below w.heap.size w w'

set_option maxHeartbeats 3200000 in
theorem eqNodeS_any (n : Nat) (H : EqNodeSaid n) (w : World) (u v : Value) (l : List (Tr n)) (hu : RdKids n w u l) (hv : RdKids n w v l) :
    Calls Try.prog 33 #[u, v] w fun e w' => e = .returned (.bool true) ∧ Below w.heap.size w w' := by
  have hm := hu.1
  unfold maxLen at hm
  by_cases h0 : l = []
  · obtain ⟨a1, c1, rfl, _⟩ := Elems.shape hu
    obtain ⟨a2, c2, rfl, _⟩ := Elems.shape hv
    subst h0
    go_enter Try.func33, Try.ntmps33
    go_wp2_with fail
    refine wp_loop_rounds 1 ?_
    rw [rounds_succ]
    go_wp2_with fail
    go_ret
    exact ⟨rfl, Below.refl _ _⟩
  obtain ⟨_, ⟨_, e⟩ | ⟨_, _, _, _, e⟩ | ⟨b, off, cap, rfl, g1, g2, g3, g4, g5⟩⟩ := hu
  · exact absurd e h0
  · exact absurd e h0
  obtain ⟨_, ⟨_, e⟩ | ⟨_, _, _, _, e⟩ | ⟨b', off', cap', rfl, f1, f2, f3, f4, f5⟩⟩ := hv
  · exact absurd e h0
  · exact absurd e h0
  go_enter Try.func33, Try.ntmps33
  go_wp2_with fail
  go_loopw [5] (fun i wr => ∃ k : Nat, k ≤ l.length ∧ i = .int .i64 k ∧ Below w.heap.size w wr) (fun i _ => l.length - (intOf i).toNat)
  case atStart => exact ⟨0, Nat.zero_le _, rfl, Below.refl _ _⟩
  case round =>
    obtain ⟨k, hk, rfl, hB⟩ := hrel
    by_cases hlt : k < l.length
    · obtain ⟨c0, c1, c2, c3, c4, e0, e1, e2, e3, e4, hc⟩ := five_of (g5 k hlt)
      obtain ⟨d0, d1, d2, d3, d4, i0, i1, i2, i3, i4, hd⟩ := five_of (f5 k hlt)
      replace e0 := (hB.cell (p := ⟨b, off + k * 5, none⟩) g4).trans e0
      replace e1 := (hB.cell (p := ⟨b, off + k * 5 + 1, none⟩) g4).trans e1
      replace e2 := (hB.cell (p := ⟨b, off + k * 5 + 2, none⟩) g4).trans e2
      replace e3 := (hB.cell (p := ⟨b, off + k * 5 + 3, none⟩) g4).trans e3
      replace e4 := (hB.cell (p := ⟨b, off + k * 5 + 4, none⟩) g4).trans e4
      replace i0 := (hB.cell (p := ⟨b', off' + k * 5, none⟩) f4).trans i0
      replace i1 := (hB.cell (p := ⟨b', off' + k * 5 + 1, none⟩) f4).trans i1
      replace i2 := (hB.cell (p := ⟨b', off' + k * 5 + 2, none⟩) f4).trans i2
      replace i3 := (hB.cell (p := ⟨b', off' + k * 5 + 3, none⟩) f4).trans i3
      replace i4 := (hB.cell (p := ⟨b', off' + k * 5 + 4, none⟩) f4).trans i4
      have hk0 : (0 : Int) ≤ (k : Int) := by omega
      have hlt' : (k : Int) < (l.length : Int) := by omega
      clear g5 f5
      go_wp2_with fail
      go_region_held3 (fun w' => w'.cell? ⟨b, off + k * 5, none⟩ = some c0 ∧ w'.cell? ⟨b, off + k * 5 + 1, none⟩ = some c1 ∧ w'.cell? ⟨b, off + k * 5 + 2, none⟩ = some c2 ∧ w'.cell? ⟨b, off + k * 5 + 3, none⟩ = some c3 ∧ w'.cell? ⟨b, off + k * 5 + 4, none⟩ = some c4 ∧ w'.cell? ⟨b', off' + k * 5, none⟩ = some d0 ∧ w'.cell? ⟨b', off' + k * 5 + 1, none⟩ = some d1 ∧ w'.cell? ⟨b', off' + k * 5 + 2, none⟩ = some d2 ∧ w'.cell? ⟨b', off' + k * 5 + 3, none⟩ = some d3 ∧ w'.cell? ⟨b', off' + k * 5 + 4, none⟩ = some d4) (first | exact ⟨by assumption, by assumption, by assumption, by assumption, by assumption, by assumption, by assumption, by assumption, by assumption, by assumption⟩ | simp [*])
        ((go_at_call 11; refine (H _ c0 c1 c2 c3 c4 d0 d1 d2 d3 d4 l[k] (by exact (hc.keep hB).keep ((Below.refl _ _).drew)) (by exact (hd.keep hB).keep ((Below.refl _ _).drew))).mono ?_; rintro e w2 ⟨rfl, hB2⟩; have s0 := cell_later hB2 e0; have s1 := cell_later hB2 e1; have s2 := cell_later hB2 e2; have s3 := cell_later hB2 e3; have s4 := cell_later hB2 e4; have r0 := cell_later hB2 i0; have r1 := cell_later hB2 i1; have r2 := cell_later hB2 i2; have r3 := cell_later hB2 i3; have r4 := cell_later hB2 i4))
      have hB3 := hB.trans ((Below.drew (Below.refl wr.heap.size wr)).trans hB2 |>.mono hB.size)
      clear e0 e1 e2 e3 e4 i0 i1 i2 i3 i4 s0 s1 s2 s3 s4 r0 r1 r2 r3 r4 hB2 hc hd
      go_wp2_with fail
      go_roundw
      case rel => exact ⟨k + 1, by omega, by go_num, hB3⟩
      case measure => simp [intOf]; omega
    · clear g5 f5
      go_wp2_with fail
      go_ret
      exact ⟨rfl, hB⟩

set_option maxHeartbeats 3200000 in
theorem eqNode_succ (n : Nat) (H : EqNodeSaid n) : EqNodeSaid (n + 1) := by
  intro w a b c d e a' b' c' d' e' t hr hr'
  obtain ⟨_, _, _, _, e0, k1, k2, hb, hc, hd, he⟩ := hr
  obtain ⟨_, _, _, _, e1, _, _, hb', hc', hd', he'⟩ := hr'
  simp only [List.cons.injEq, and_true] at e0 e1
  obtain ⟨rfl, rfl, rfl, rfl, rfl⟩ := e0
  obtain ⟨rfl, rfl, rfl, rfl, rfl⟩ := e1
  obtain ⟨ab, cb, rfl, _, _⟩ := hb.shape
  obtain ⟨ac, cc, rfl, _, _⟩ := hc.shape
  obtain ⟨ad, cd, rfl, _, _⟩ := Elems.shape hd
  obtain ⟨ae, ce, rfl, _, _⟩ := Elems.shape he
  obtain ⟨ab', cb', rfl, _, _⟩ := hb'.shape
  obtain ⟨ac', cc', rfl, _, _⟩ := hc'.shape
  obtain ⟨ad', cd', rfl, _, _⟩ := Elems.shape hd'
  obtain ⟨ae', ce', rfl, _, _⟩ := Elems.shape he'
  generalize hO : (Obj.cells #[.int .i64 t.kind, .slice ab t.name.length cb, .slice ac t.text.length cc, .slice ad t.attrs.length cd, .slice ae t.kids.length ce] 32) = O
  generalize hO' : (Obj.cells #[.int .i64 t.kind, .slice ab' t.name.length cb', .slice ac' t.text.length cc', .slice ad' t.attrs.length cd', .slice ae' t.kids.length ce'] 32) = O'
  have hA : Below w.heap.size w ((w.alloc O).alloc O') := ((Below.refl _ _).alloc (Nat.le_refl _) _).alloc (by simp) _
  have p2 : ((w.alloc O).alloc O').cell? ⟨w.heap.size, 2, none⟩ = some (.slice ac t.text.length cc) := by rw [← hO, ← hO']; simp
  have q2 : ((w.alloc O).alloc O').cell? ⟨w.heap.size + 1, 2, none⟩ = some (.slice ac' t.text.length cc') := by rw [← hO, ← hO']; simp
  have p3 : ((w.alloc O).alloc O').cell? ⟨w.heap.size, 3, none⟩ = some (.slice ad t.attrs.length cd) := by rw [← hO, ← hO']; simp
  have q3 : ((w.alloc O).alloc O').cell? ⟨w.heap.size + 1, 3, none⟩ = some (.slice ad' t.attrs.length cd') := by rw [← hO, ← hO']; simp
  have p4 : ((w.alloc O).alloc O').cell? ⟨w.heap.size, 4, none⟩ = some (.slice ae t.kids.length ce) := by rw [← hO, ← hO']; simp
  have q4 : ((w.alloc O).alloc O').cell? ⟨w.heap.size + 1, 4, none⟩ = some (.slice ae' t.kids.length ce') := by rw [← hO, ← hO']; simp
  have P := hide (And.intro p2 (And.intro q2 (And.intro p3 (And.intro q3 (And.intro p4 q4)))))
  clear p2 q2 p3 q3 p4 q4
  subst hO hO'
  have HA := hide hA
  clear hA
  have hkk : (t.kind != t.kind) = false := by simp
  go_enter Try.func11, Try.ntmps11
  go_wp2_with fail
  refine (eqB_true _ _ _ t.name (hb.keep (unhide HA)) (hb'.keep (unhide HA))).mono ?_
  rintro e w1 ⟨rfl, hB1⟩
  have hA1 := bstep (unhide HA) hB1
  have p2 := cell_later hB1 (unhide P).1
  have q2 := cell_later hB1 (unhide P).2.1
  have p3 := cell_later hB1 (unhide P).2.2.1
  have q3 := cell_later hB1 (unhide P).2.2.2.1
  have p4 := cell_later hB1 (unhide P).2.2.2.2.1
  have q4 := cell_later hB1 (unhide P).2.2.2.2.2
  clear hB1 P HA
  go_wp2_with fail
  refine (eqB_true _ _ _ t.text (hc.keep hA1) (hc'.keep hA1)).mono ?_
  rintro e w2 ⟨rfl, hB2⟩
  have hA2 := bstep hA1 hB2
  replace p3 := cell_later hB2 p3
  replace q3 := cell_later hB2 q3
  replace p4 := cell_later hB2 p4
  replace q4 := cell_later hB2 q4
  clear hB2 hA1 p2 q2
  go_wp2_with fail
  refine (eqAttrS_any _ _ _ t.attrs (hd.keep hA2) (hd'.keep hA2)).mono ?_
  rintro e w3 ⟨rfl, hB3⟩
  have hA3 := bstep hA2 hB3
  replace p4 := cell_later hB3 p4
  replace q4 := cell_later hB3 q4
  clear hB3 hA2 p3 q3
  go_wp2_with fail
  refine (eqNodeS_any n H _ _ _ t.kids (RdKids.keep he hA3) (RdKids.keep he' hA3)).mono ?_
  rintro e w4 ⟨rfl, hB4⟩
  have hA4 := bstep hA3 hB4
  clear hB4 hA3 p4 q4
  go_wp2_with fail
  go_ret
  exact ⟨rfl, hA4⟩

theorem eqNode_any (n : Nat) : EqNodeSaid n := by
  induction n with
  | zero => exact fun _ _ _ _ _ _ _ _ _ _ _ t => t.elim
  | succ n ih => exact eqNode_succ n ih

end Go.Proofs.Yteioihjgjbjmjaa
