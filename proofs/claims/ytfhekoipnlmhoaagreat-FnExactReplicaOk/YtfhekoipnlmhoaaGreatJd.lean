/- Own texts joined: EqOs, QGr, EqIs, Tool, EqR, OpsS, RepS, FrpT, Rng, NameI, CmpI, AttrI, OnceI, OnceJ, HasI. -/
import Derived.Test.YtfhekoipnlmhoaaGreatJa
import Derived.Test.YtfhekoipnlmhoaaGreatJb
import Derived.Test.YtfhekoipnlmhoaaGreatJc
import Derived.Deep.RegionHeld3
import Derived.BigQuiet
import Derived.RangeFuncNested
import Derived.RangeFuncBound
import Derived.RangeFuncCalls
import Derived.RangeFuncLeaves
import Derived.Shelf.Abstract
import Derived.WalkKit
import Derived.OwnWalkIn
import Derived.TacticsInMore
import Derived.LoopNIn
import Derived.LoopIn
import Derived.Test.YtfhekoipnlmhoaaGreatChecked
import Derived.Lib.BytesEntry
import Derived.Lib.Bytealg
import Derived.Laws.Externs
import Derived.WideMake
import Derived.Defers
import Derived.Laws.LoneSync
import Derived.Laws.Pointers
import Derived.RegionTactic
import Derived.RegionCalls

/- Rows of the same operations are alike. -/
namespace Go.Proofs.YtfhekoipnlmhoaaGreat
open Go.RowKit
set_option linter.unusedVariables false
set_option maxRecDepth 100000

set_option maxHeartbeats 3200000 in
theorem eqOps_same (w : World) (u v : Value) (l : List OpV) (hu : RdOps w u l) (hv : RdOps w v l) :
    Calls Tryz.prog 18 #[u, v] w fun e w' => e = .returned (.bool true) ∧ Below w.heap.size w w' := by
  have hm := hu.1
  unfold maxLen at hm
  obtain ⟨rfl, a, cap, rfl⟩ | ⟨b, off, cap, rfl, hnil, g4, g5⟩ := hu.cases
  · obtain ⟨a', cap', rfl, _, _⟩ := Elems.shape hv
    go_enter Tryz.func18, Tryz.ntmps18
    go_wp2_with fail
    refine wp_loop_rounds 1 ?_
    rw [rounds_succ]
    go_wp2_with fail
    go_ret
    exact ⟨rfl, Below.refl _ _⟩
  obtain ⟨rfl, _⟩ | ⟨b', off', cap', rfl, _, f4, f5⟩ := hv.cases
  · exact absurd rfl hnil
  go_enter Tryz.func18, Tryz.ntmps18
  go_wp2_with fail
  go_loopw [5] (fun i wr => ∃ k : Nat, k ≤ l.length ∧ i = .int .i64 k ∧ Below w.heap.size w wr) (fun i _ => l.length - (intOf i).toNat)
  case atStart => exact ⟨0, Nat.zero_le _, rfl, Below.refl _ _⟩
  case round =>
    obtain ⟨k, hk, rfl, hB⟩ := hrel
    by_cases hlt : k < l.length
    · have HE := hide (fun W u v (hu : RdOp W u l[k]) (hv : RdOp W v l[k]) => eqOp_same W u v l[k] hu hv)
      obtain ⟨a1, c1, a2, c2, a3, c3, e0, e1, e2, e3, e4, e5, e6, e7, e8, e9, e10, e11, hr⟩ := opc_at hB g4 (g5 k hlt)
      obtain ⟨a1', c1', a2', c2', a3', c3', i0, i1, i2, i3, i4, i5, i6, i7, i8, i9, i10, i11, hr'⟩ := opc_at hB f4 (f5 k hlt)
      have hlt' : (k : Int) < (l.length : Int) := by omega
      have hk0 : (0 : Int) ≤ (k : Int) := by omega
      have HR := hide hr
      have HR' := hide hr'
      unfold opVal at HR HR'
      generalize l[k] = o at *
      generalize o.key.length = nK at *
      generalize o.name.length = nN at *
      generalize o.text.length = nT at *
      clear g5 f5 hr hr' hnil
      go_wp2_with fail
      go_region_held3 (fun w' => w'.cell? ⟨b, off + k * 12, none⟩ = some (.int .i64 o.kind) ∧ w'.cell? ⟨b, off + k * 12 + 1, none⟩ = some (.int .i64 o.atN) ∧ w'.cell? ⟨b, off + k * 12 + 2, none⟩ = some (.int .i64 o.atR) ∧ w'.cell? ⟨b, off + k * 12 + 3, none⟩ = some (.int .i64 o.nodeN) ∧ w'.cell? ⟨b, off + k * 12 + 4, none⟩ = some (.int .i64 o.nodeR) ∧ w'.cell? ⟨b, off + k * 12 + 5, none⟩ = some (.int .i64 o.parN) ∧ w'.cell? ⟨b, off + k * 12 + 6, none⟩ = some (.int .i64 o.parR) ∧ w'.cell? ⟨b, off + k * 12 + 7, none⟩ = some (.slice a1 nK c1) ∧ w'.cell? ⟨b, off + k * 12 + 8, none⟩ = some (.int .i64 o.elem) ∧ w'.cell? ⟨b, off + k * 12 + 9, none⟩ = some (.slice a2 nN c2) ∧ w'.cell? ⟨b, off + k * 12 + 10, none⟩ = some (.slice a3 nT c3) ∧ w'.cell? ⟨b, off + k * 12 + 11, none⟩ = some (.bool o.gone) ∧ w'.cell? ⟨b', off' + k * 12, none⟩ = some (.int .i64 o.kind) ∧ w'.cell? ⟨b', off' + k * 12 + 1, none⟩ = some (.int .i64 o.atN) ∧ w'.cell? ⟨b', off' + k * 12 + 2, none⟩ = some (.int .i64 o.atR) ∧ w'.cell? ⟨b', off' + k * 12 + 3, none⟩ = some (.int .i64 o.nodeN) ∧ w'.cell? ⟨b', off' + k * 12 + 4, none⟩ = some (.int .i64 o.nodeR) ∧ w'.cell? ⟨b', off' + k * 12 + 5, none⟩ = some (.int .i64 o.parN) ∧ w'.cell? ⟨b', off' + k * 12 + 6, none⟩ = some (.int .i64 o.parR) ∧ w'.cell? ⟨b', off' + k * 12 + 7, none⟩ = some (.slice a1' nK c1') ∧ w'.cell? ⟨b', off' + k * 12 + 8, none⟩ = some (.int .i64 o.elem) ∧ w'.cell? ⟨b', off' + k * 12 + 9, none⟩ = some (.slice a2' nN c2') ∧ w'.cell? ⟨b', off' + k * 12 + 10, none⟩ = some (.slice a3' nT c3') ∧ w'.cell? ⟨b', off' + k * 12 + 11, none⟩ = some (.bool o.gone)) (first | exact ⟨by assumption, by assumption, by assumption, by assumption, by assumption, by assumption, by assumption, by assumption, by assumption, by assumption, by assumption, by assumption, by assumption, by assumption, by assumption, by assumption, by assumption, by assumption, by assumption, by assumption, by assumption, by assumption, by assumption, by assumption⟩ | simp [*])
        ((go_at_call 19; refine (unhide HE _ _ _ ((unhide HR).keep ((Below.refl _ _).drew)) ((unhide HR').keep ((Below.refl _ _).drew))).mono ?_; rintro e w2 ⟨rfl, hB2⟩; have s0 := cell_later hB2 e0; have s1 := cell_later hB2 e1; have s2 := cell_later hB2 e2; have s3 := cell_later hB2 e3; have s4 := cell_later hB2 e4; have s5 := cell_later hB2 e5; have s6 := cell_later hB2 e6; have s7 := cell_later hB2 e7; have s8 := cell_later hB2 e8; have s9 := cell_later hB2 e9; have s10 := cell_later hB2 e10; have s11 := cell_later hB2 e11; have r0 := cell_later hB2 i0; have r1 := cell_later hB2 i1; have r2 := cell_later hB2 i2; have r3 := cell_later hB2 i3; have r4 := cell_later hB2 i4; have r5 := cell_later hB2 i5; have r6 := cell_later hB2 i6; have r7 := cell_later hB2 i7; have r8 := cell_later hB2 i8; have r9 := cell_later hB2 i9; have r10 := cell_later hB2 i10; have r11 := cell_later hB2 i11))
      have hB3 := hB.trans ((Below.drew (Below.refl wr.heap.size wr)).trans hB2 |>.mono hB.size)
      clear e0 e1 e2 e3 e4 e5 e6 e7 e8 e9 e10 e11 i0 i1 i2 i3 i4 i5 i6 i7 i8 i9 i10 i11 s0 s1 s2 s3 s4 s5 s6 s7 s8 s9 s10 s11 r0 r1 r2 r3 r4 r5 r6 r7 r8 r9 r10 r11 hB2 HR HR'
      go_wp2_with fail
      go_roundw
      case rel => exact ⟨k + 1, by omega, by go_num, hB3⟩
      case measure => simp [intOf]; omega
    · clear g5 f5
      go_wp2_with fail
      go_ret
      exact ⟨rfl, hB⟩
end Go.Proofs.YtfhekoipnlmhoaaGreat

/- A region that draws its order, whose operations only read and whose callees leave what was there as it was: one walk, in the order of the text. No program. -/
namespace Go.Proofs.YtfhekoipnlmhoaaGreat
open Go.RowKit
set_option linter.unusedVariables false

/-- A world in which all that was there in w is as it was. -/
structure Gr (w : World) where
  W : World
  h : Below w.heap.size w W
theorem wp_region_gr {P : Program} {id : Nat} {Q : Exit → Act → World → Prop} {a : Act} {w : World} {l : List Oper} (hm : P.follows .mixedOrders = true) (hB : Region.lexB .any l.toArray = true)
    (h : wpQuiet P l.toArray (fun w' => ∃ p : Gr w, w' = p.W) (fun a' => ∀ w', (∃ p : Gr w, w' = p.W) → Q .normal a' w') l a) : (Code.region id l.toArray true).wp P Q a w :=
  wp_region_quiet (C := fun w' => ∃ p : Gr w, w' = p.W) hm hB ⟨⟨w.drew, (Below.refl _ _).drew⟩, rfl⟩ (by simpa using h)
theorem Gr.cell {w : World} {a : Addr} {v : Value} (hb : a.block < w.heap.size) (h : w.cell? a = some v) (p : Gr w) : p.W.cell? a = some v := (p.h.cell hb).trans h
/-- A callee's contract, met in such a world. -/
theorem calls_gr {P : Program} {f : FuncId} {args : Array Value} {w : World} {p : Gr w} {v : Value} (h : Calls P f args p.W fun e w' => e = .returned v ∧ Below p.W.heap.size p.W w') : Calls P f args p.W fun e w'' => e = .returned v ∧ ∃ q : Gr w, w'' = q.W :=
  h.mono fun _ _ ⟨he, hB⟩ => ⟨he, ⟨⟨_, bstep p.h hB⟩, rfl⟩⟩
end Go.Proofs.YtfhekoipnlmhoaaGreat

/- Rows of the same ids are alike. -/
namespace Go.Proofs.YtfhekoipnlmhoaaGreat
open Go.RowKit
set_option linter.unusedVariables false
set_option maxRecDepth 100000

theorem idEqB_refl (n r : Int) : idEqB n r n r = true := by simp [idEqB]
set_option maxHeartbeats 3200000 in
theorem eqIds_same (w : World) (u v : Value) (l : List (Int × Int)) (hu : RdIds w u l) (hv : RdIds w v l) :
    Calls Tryz.prog 75 #[u, v] w fun e w' => e = .returned (.bool true) ∧ Below w.heap.size w w' := by
  have hm := hu.1
  unfold maxLen at hm
  obtain ⟨rfl, a, cap, rfl⟩ | ⟨b, off, cap, rfl, hnil, g4, g5⟩ := hu.cases
  · obtain ⟨a', cap', rfl, _, _⟩ := Elems.shape hv
    go_enter Tryz.func75, Tryz.ntmps75
    go_wp2_with fail
    refine wp_loop_rounds 1 ?_
    rw [rounds_succ]
    go_wp2_with fail
    go_ret
    exact ⟨rfl, Below.refl _ _⟩
  obtain ⟨rfl, _⟩ | ⟨b', off', cap', rfl, _, f4, f5⟩ := hv.cases
  · exact absurd rfl hnil
  go_enter Tryz.func75, Tryz.ntmps75
  go_wp2_with fail
  go_loopw [5] (fun i wr => ∃ k : Nat, k ≤ l.length ∧ i = .int .i64 k ∧ Below w.heap.size w wr) (fun i _ => l.length - (intOf i).toNat)
  case atStart => exact ⟨0, Nat.zero_le _, rfl, Below.refl _ _⟩
  case round =>
    obtain ⟨k, hk, rfl, hB⟩ := hrel
    by_cases hlt : k < l.length
    · have HE := hide (fun W => eqId_any W l[k].1 l[k].2 l[k].1 l[k].2)
      rw [idEqB_refl] at HE
      obtain ⟨c0, c1⟩ := g5 k hlt
      obtain ⟨d0, d1⟩ := f5 k hlt
      have e0 := (hB.cell (p := ⟨b, off + k * 2, none⟩) g4).trans c0
      have e1 := (hB.cell (p := ⟨b, off + k * 2 + 1, none⟩) g4).trans c1
      have i0 := (hB.cell (p := ⟨b', off' + k * 2, none⟩) f4).trans d0
      have i1 := (hB.cell (p := ⟨b', off' + k * 2 + 1, none⟩) f4).trans d1
      have hlt' : (k : Int) < (l.length : Int) := by omega
      have hk0 : (0 : Int) ≤ (k : Int) := by omega
      generalize l[k] = o at *
      clear g5 f5 c0 c1 d0 d1 hnil
      go_wp2_with fail
      go_region_held3 (fun w' => w'.cell? ⟨b, off + k * 2, none⟩ = some (.int .i64 o.1) ∧ w'.cell? ⟨b, off + k * 2 + 1, none⟩ = some (.int .i64 o.2) ∧ w'.cell? ⟨b', off' + k * 2, none⟩ = some (.int .i64 o.1) ∧ w'.cell? ⟨b', off' + k * 2 + 1, none⟩ = some (.int .i64 o.2)) (first | exact ⟨by assumption, by assumption, by assumption, by assumption⟩ | simp [*])
        ((go_at_call 58; refine (unhide HE _).mono ?_; rintro e w2 ⟨rfl, hB2⟩; have s0 := cell_later hB2 e0; have s1 := cell_later hB2 e1; have r0 := cell_later hB2 i0; have r1 := cell_later hB2 i1))
      have hB3 := hB.trans ((Below.drew (Below.refl wr.heap.size wr)).trans hB2 |>.mono hB.size)
      clear e0 e1 i0 i1 s0 s1 r0 r1 hB2
      go_wp2_with fail
      go_roundw
      case rel => exact ⟨k + 1, by omega, by go_num, hB3⟩
      case measure => simp [intOf]; omega
    · clear g5 f5
      go_wp2_with fail
      go_ret
      exact ⟨rfl, hB⟩
end Go.Proofs.YtfhekoipnlmhoaaGreat

/- Small tools: locals made one behind the other, an element at a place, the five cells of a node's local. -/
namespace Go.Proofs.YtfhekoipnlmhoaaGreat
open Go.RowKit
set_option linter.unusedVariables false
set_option maxRecDepth 100000

/-- Two locals of their own, made one behind the other. -/
theorem two (w : World) (A Z : Array Value) (TA T : TypeId) : Loc ((w.alloc (.cells A TA)).alloc (.cells Z T)) w.heap.size A TA ∧ Loc ((w.alloc (.cells A TA)).alloc (.cells Z T)) (w.heap.size + 1) Z T ∧ Below w.heap.size w ((w.alloc (.cells A TA)).alloc (.cells Z T)) := by
  refine ⟨(Loc.made w A TA).alloc _, ?_, ((Below.refl _ _).alloc (Nat.le_refl _) _).alloc (by simp) _⟩
  have := Loc.made (w.alloc (.cells A TA)) Z T
  simp only [World.size_alloc] at this
  exact this

/-- The element at a place, where there is one. -/
theorem Elems.at {α : Type} {w : World} {size m : Nat} {a : Option Addr} {cap k : Nat} {l : List α} {R : List Value → α → Prop} (h : Elems w size (.slice a m cap) l R) (hk : k < l.length) :
    ∃ b off, a = some ⟨b, off, none⟩ ∧ b < w.heap.size ∧ m = l.length ∧ m ≤ cap ∧ ∃ C : List Value, C.length = size ∧ (∀ j, j < size → w.cell? ⟨b, off + k * size + j, none⟩ = C[j]?) ∧ R C l[k] := by
  obtain ⟨_, ⟨_, e⟩ | ⟨_, _, _, _, e⟩ | ⟨b, off, c, e, g1, g2, g3, g4, g5⟩⟩ := h
  · subst e; simp at hk
  · subst e; simp at hk
  · injection e with e1 e2 e3
    subst e1 e2 e3
    exact ⟨b, off, rfl, g4, rfl, g1, g5 k hk⟩

/-- The five cells of a local of its own. -/
theorem Loc.five {w : World} {g : Nat} {a b c d e : Value} {T : TypeId} (h : Loc w g #[a, b, c, d, e] T) :
    w.cell? ⟨g, 0, none⟩ = some a ∧ w.cell? ⟨g, 1, none⟩ = some b ∧ w.cell? ⟨g, 2, none⟩ = some c ∧ w.cell? ⟨g, 3, none⟩ = some d ∧ w.cell? ⟨g, 4, none⟩ = some e :=
  ⟨h.cell 0, h.cell 1, h.cell 2, h.cell 3, h.cell 4⟩

end Go.Proofs.YtfhekoipnlmhoaaGreat

/- laws.eqReplica: the same replicas are alike. -/
namespace Go.Proofs.YtfhekoipnlmhoaaGreat
open Go.RowKit
set_option linter.unusedVariables false
set_option maxRecDepth 100000

set_option maxHeartbeats 6400000 in
theorem eqRep_same (n : Nat) (w : World) (a b c d e vo vu a' b' c' d' e' vo' vu' : Value) (r : RepV n) (h : RdRep n w a b c d e vo vu r) (h' : RdRep n w a' b' c' d' e' vo' vu' r) :
    Calls Tryz.prog 27 #[repVal r a b c d e vo vu, repVal r a' b' c' d' e' vo' vu'] w fun e w' => e = .returned (.bool true) ∧ Below w.heap.size w w' := by
  obtain ⟨z, ab, nb, cb, ac, nc, cc, ad, nd, cd, ae, ne, ce, rfl, rfl, rfl, rfl, rfl⟩ := rd5 h.1
  obtain ⟨ao, co, rfl, _, _⟩ := Elems.shape h.2.1
  obtain ⟨au, cu, rfl, _, _⟩ := Elems.shape h.2.2
  obtain ⟨z', ab', nb', cb', ac', nc', cc', ad', nd', cd', ae', ne', ce', rfl, rfl, rfl, rfl, rfl⟩ := rd5 h'.1
  obtain ⟨ao', co', rfl, _, _⟩ := Elems.shape h'.2.1
  obtain ⟨au', cu', rfl, _, _⟩ := Elems.shape h'.2.2
  have H1 := hide (fun W (hW : Below w.heap.size w W) => eqNode_any (n + 1) W _ _ _ _ _ _ _ _ _ _ r.first (h.1.keep hW) (h'.1.keep hW))
  have H2 := hide (fun W (hW : Below w.heap.size w W) => eqOps_same W _ _ r.ops (h.2.1.keep hW) (h'.2.1.keep hW))
  have H3 := hide (fun W (hW : Below w.heap.size w W) => eqIds_same W _ _ r.und (h.2.2.keep hW) (h'.2.2.keep hW))
  clear h h'
  unfold repVal
  obtain ⟨l1, l2, hA⟩ := two w #[.int .i64 r.id, .int .i64 r.clock, .int .i64 z, .slice ab nb cb, .slice ac nc cc, .slice ad nd cd, .slice ae ne ce, .slice ao r.ops.length co, .slice au r.und.length cu, .bool r.lost] #[.int .i64 r.id, .int .i64 r.clock, .int .i64 z', .slice ab' nb' cb', .slice ac' nc' cc', .slice ad' nd' cd', .slice ae' ne' ce', .slice ao' r.ops.length co', .slice au' r.und.length cu', .bool r.lost] 65 65
  have hn1 : (r.id != r.id) = false := by simp
  have hn2 : (r.clock != r.clock) = false := by simp
  have hn3 : (r.lost != r.lost) = false := by simp
  go_enter Tryz.func27, Tryz.ntmps27
  go_wp2_with fail
  generalize ((w.alloc (.cells #[.int .i64 r.id, .int .i64 r.clock, .int .i64 z, .slice ab nb cb, .slice ac nc cc, .slice ad nd cd, .slice ae ne ce, .slice ao r.ops.length co, .slice au r.und.length cu, .bool r.lost] 65)).alloc (.cells #[.int .i64 r.id, .int .i64 r.clock, .int .i64 z', .slice ab' nb' cb', .slice ac' nc' cc', .slice ad' nd' cd', .slice ae' ne' ce', .slice ao' r.ops.length co', .slice au' r.und.length cu', .bool r.lost] 65)) = wa at *
  refine (unhide H1 _ hA).mono ?_
  rintro e w1 ⟨rfl, hB⟩
  have hA1 := bstep hA hB
  replace l1 := l1.all hB
  replace l2 := l2.all hB
  clear hA hB H1
  obtain ⟨x0, x1, x2, x3, x4, x5, x6, x7, x8, x9⟩ := l1.ten
  obtain ⟨y0, y1, y2, y3, y4, y5, y6, y7, y8, y9⟩ := l2.ten
  go_wp2_with fail
  clear x0 x1 x2 x3 x4 x5 x6 x7 x8 x9 y0 y1 y2 y3 y4 y5 y6 y7 y8 y9
  refine (unhide H2 _ hA1).mono ?_
  rintro e w2 ⟨rfl, hB⟩
  have hA2 := bstep hA1 hB
  replace l1 := l1.all hB
  replace l2 := l2.all hB
  clear hA1 hB H2
  obtain ⟨x0, x1, x2, x3, x4, x5, x6, x7, x8, x9⟩ := l1.ten
  obtain ⟨y0, y1, y2, y3, y4, y5, y6, y7, y8, y9⟩ := l2.ten
  go_wp2_with fail
  clear x0 x1 x2 x3 x4 x5 x6 x7 x8 x9 y0 y1 y2 y3 y4 y5 y6 y7 y8 y9
  refine (unhide H3 _ hA2).mono ?_
  rintro e w3 ⟨rfl, hB⟩
  have hA3 := bstep hA2 hB
  replace l1 := l1.all hB
  replace l2 := l2.all hB
  clear hA2 hB H3
  obtain ⟨x0, x1, x2, x3, x4, x5, x6, x7, x8, x9⟩ := l1.ten
  obtain ⟨y0, y1, y2, y3, y4, y5, y6, y7, y8, y9⟩ := l2.ten
  go_wp2_with fail
  go_ret
  exact ⟨rfl, hA3⟩
end Go.Proofs.YtfhekoipnlmhoaaGreat

/- spec.OpsOk answers what the plain test of a row says. -/
namespace Go.Proofs.YtfhekoipnlmhoaaGreat
open Go.RowKit
set_option linter.unusedVariables false
set_option maxRecDepth 100000

set_option maxHeartbeats 6400000 in
theorem opsS_any (w : World) (v : Value) (l : List OpV) (h : RdOps w v l) :
    Calls Tryz.prog 8 #[v] w fun e w' => e = .returned (.bool (opsB l)) ∧ Below w.heap.size w w' := by
  have hm := h.1
  unfold maxLen at hm
  by_cases hlong : 150 < l.length
  · obtain ⟨a, cap, rfl, _, _⟩ := Elems.shape h
    have hd : (150 : Int) < (l.length : Int) := by omega
    rw [opsB_long hlong]
    go_enter Tryz.func8, Tryz.ntmps8
    go_wp2_with fail
    go_ret
    exact ⟨rfl, Below.refl _ _⟩
  have hd : ¬ (150 : Int) < (l.length : Int) := by omega
  obtain ⟨rfl, a, cap, rfl⟩ | ⟨b, off, cap, rfl, hnil, g4, g5⟩ := h.cases
  · go_enter Tryz.func8, Tryz.ntmps8
    go_wp2_with fail
    refine wp_loop_rounds 1 ?_
    rw [rounds_succ]
    go_wp2_with fail
    go_ret
    exact ⟨rfl, Below.refl _ _⟩
  have HG := hide (fun hh => opsB_good (l := l) (by omega) hh)
  have HN := hide (fun k hk hh => opsB_bad (l := l) (k := k) hk hh)
  generalize opsB l = res at *
  go_enter Tryz.func8, Tryz.ntmps8
  go_wp2_with fail
  go_loopw [3] (fun i wr => ∃ k : Nat, k ≤ l.length ∧ i = .int .i64 k ∧ (∀ j, j < k → okAt l j = true) ∧ Below w.heap.size w wr) (fun i _ => l.length - (intOf i).toNat)
  case atStart => exact ⟨0, Nat.zero_le _, rfl, fun j hj => by omega, Below.refl _ _⟩
  case round =>
    obtain ⟨k, hk, rfl, hok, hB⟩ := hrel
    by_cases hlt : k < l.length
    · have HX := hide (fun W u (hu : RdOp W u l[k]) => opS_any W u l[k] hu)
      have HL := hide (fun W n r n' r' => lessS_any W n r n' r')
      have H0 := hide (fun (h : opB l[k] = false) => okAt_no hlt h)
      have HZ := hide (fun (h : opB l[k] = true) (e : k = 0) => (show okAt l k = true by subst e; exact okAt_0 hlt h))
      have HS := hide (fun j (e : k = j + 1) (h : opB l[k] = true) => (show okAt l k = lessB (l[j]'(by omega)).atN (l[j]'(by omega)).atR l[k].atN l[k].atR by subst e; exact okAt_s hlt h))
      have HP := hide (fun j (e : k = j + 1) => opc_at hB g4 (g5 j (by omega)))
      have HJ := hide (fun j (hj : j < k + 1) (h : okAt l k = true) => (show okAt l j = true by rcases Nat.lt_succ_iff_lt_or_eq.1 hj with h1 | rfl; exact hok j h1; exact h))
      have HNK := hide (fun (h : okAt l k = false) => unhide HN k hlt h)
      obtain ⟨a1, c1, a2, c2, a3, c3, e0, e1, e2, e3, e4, e5, e6, e7, e8, e9, e10, e11, hr⟩ := opc_at hB g4 (g5 k hlt)
      have hlt' : (k : Int) < (l.length : Int) := by omega
      have hk0 : (0 : Int) ≤ (k : Int) := by omega
      have HR := hide hr
      unfold opVal at HR
      generalize hoo : l[k] = o at *
      generalize o.key.length = nK at *
      generalize o.name.length = nN at *
      generalize o.text.length = nT at *
      clear g5 hr hnil hoo HG HN hok
      generalize okAt l k = okk at *
      have g4' : b < wr.heap.size := Nat.lt_of_lt_of_le g4 hB.size
      have hNE : Nonempty (Gr wr) := ⟨⟨wr, Below.refl _ _⟩⟩
      replace e0 := Gr.cell g4' e0
      replace e1 := Gr.cell g4' e1
      replace e2 := Gr.cell g4' e2
      replace e3 := Gr.cell g4' e3
      replace e4 := Gr.cell g4' e4
      replace e5 := Gr.cell g4' e5
      replace e6 := Gr.cell g4' e6
      replace e7 := Gr.cell g4' e7
      replace e8 := Gr.cell g4' e8
      replace e9 := Gr.cell g4' e9
      replace e10 := Gr.cell g4' e10
      replace e11 := Gr.cell g4' e11
      by_cases hq : opB o = true
      · rw [hq] at HX
        rcases Nat.eq_zero_or_pos k with hz | hpos
        · have HY := hide (unhide HZ hq hz)
          have dz3 : ¬ 0 < k := by omega
          have dz4 : decide (0 < k) = false := by simp; omega
          clear H0 HZ HS HP hq HL hz
          go_wp2_with fail
          refine wp_region_gr (by kernel_rfl) (by kernel_rfl) ?_
          repeat (go_big_quiet_step ((rename_i p; exact calls_gr (unhide HX _ _ ((unhide HR).keep p.h)))))
          refine wpQuiet_nil ?_
          rintro _ ⟨p, rfl⟩
          have hB3 := bstep hB p.h
          clear e0 e1 e2 e3 e4 e5 e6 e7 e8 e9 e10 e11 HR
          go_wp2_with fail
          go_roundw
          case rel => exact ⟨k + 1, by omega, by go_num, fun j hj => unhide HJ j hj (unhide HY), hB3⟩
          case measure => simp [intOf]; omega
        · obtain ⟨j, ej⟩ : ∃ j, k = j + 1 := ⟨k - 1, by omega⟩
          have dz3 : 0 < k := hpos
          have dz4 : decide (0 < k) = true := by simp; omega
          have hj1 : (k : Int) - 1 = (j : Int) := by omega
          have hj0 : (0 : Int) ≤ (j : Int) := by omega
          have hjl : (j : Int) < (l.length : Int) := by omega
          obtain ⟨pn, pr, i1, i2, HE⟩ : ∃ pn pr, wr.cell? ⟨b, off + j * 12 + 1, none⟩ = some (.int .i64 pn) ∧ wr.cell? ⟨b, off + j * 12 + 2, none⟩ = some (.int .i64 pr) ∧ okk = lessB pn pr o.atN o.atR := by
            obtain ⟨_, _, _, _, _, _, _, i1, i2, _⟩ := unhide HP j ej
            exact ⟨_, _, i1, i2, unhide HS j ej hq⟩
          replace i1 := Gr.cell g4' i1
          replace i2 := Gr.cell g4' i2
          clear H0 HZ HS HP hq hpos
          have HLL := hide (fun W => unhide HL W pn pr o.atN o.atR)
          generalize lessB pn pr o.atN o.atR = lb at *
          subst HE
          clear HL ej
          go_wp2_with fail
          refine wp_region_gr (by kernel_rfl) (by kernel_rfl) ?_
          repeat (go_big_quiet_step ((rename_i p; first | exact calls_gr (unhide HX _ _ ((unhide HR).keep p.h)) | exact calls_gr (unhide HLL _))))
          refine wpQuiet_nil ?_
          rintro _ ⟨p, rfl⟩
          have hB3 := bstep hB p.h
          clear e0 e1 e2 e3 e4 e5 e6 e7 e8 e9 e10 e11 HR i1 i2
          cases okk with
          | true =>
            go_wp2_with fail
            go_roundw
            case rel => exact ⟨k + 1, by omega, by go_num, fun j hj => unhide HJ j hj rfl, hB3⟩
            case measure => simp [intOf]; omega
          | false =>
            have HF := hide (unhide HNK rfl)
            clear HNK
            go_wp2_with fail
            go_ret
            exact ⟨by rw [unhide HF]; rfl, hB3⟩
      · have hq' : opB o = false := by simpa using hq
        rw [hq'] at HX
        have HY := hide (unhide HNK (unhide H0 hq'))
        clear H0 HZ HS HP hq hq' HL HNK
        go_wp2_with fail
        refine wp_region_gr (by kernel_rfl) (by kernel_rfl) ?_
        repeat (go_big_quiet_step ((rename_i p; exact calls_gr (unhide HX _ _ ((unhide HR).keep p.h)))))
        refine wpQuiet_nil ?_
        rintro _ ⟨p, rfl⟩
        have hB3 := bstep hB p.h
        clear e0 e1 e2 e3 e4 e5 e6 e7 e8 e9 e10 e11 HR
        go_wp2_with fail
        go_ret
        exact ⟨by rw [unhide HY]; rfl, hB3⟩
    · have HY := hide (unhide HG (fun j hj => hok j (by omega)))
      clear g5
      go_wp2_with fail
      go_ret
      exact ⟨by rw [unhide HY]; rfl, hB⟩
end Go.Proofs.YtfhekoipnlmhoaaGreat

/- spec.ReplicaOk. -/
namespace Go.Proofs.YtfhekoipnlmhoaaGreat
open Go.RowKit
set_option linter.unusedVariables false
set_option maxRecDepth 100000

theorem voidS_b (w : World) (v : Value) (l : List Int) (h : Byt w v l) : Calls Tryz.prog 68 #[v] w fun e w' => e = .returned (.bool (voidB l)) ∧ w' = w := by
  cases hv : voidB l with
  | true => exact voidS_yes w v l h ((voidB_iff l).1 hv)
  | false => exact voidS_no w v l h (fun hh => by rw [(voidB_iff l).2 hh] at hv; cases hv)
set_option maxHeartbeats 20000000 in
theorem repS_any (n : Nat) (w : World) (a b c d e vo vu : Value) (r : RepV n) (h : RdRep n w a b c d e vo vu r) :
    Calls Tryz.prog 24 #[repVal r a b c d e vo vu] w fun e w' => e = .returned (.bool (repB r)) ∧ Below w.heap.size w w' := by
  obtain ⟨z, ab, nb, cb, ac, nc, cc, ad, nd, cd, ae, ne, ce, rfl, rfl, rfl, rfl, rfl⟩ := rd5 h.1
  obtain ⟨ao, co, rfl, _, _⟩ := Elems.shape h.2.1
  obtain ⟨au, cu, rfl, _, _⟩ := Elems.shape h.2.2
  have HN := hide (fun W (hW : Below w.heap.size w W) => nodeS_any n W _ _ _ _ _ r.first (h.1.keep hW))
  have HV := hide (fun W (hW : Below w.heap.size w W) => (show Calls Tryz.prog 68 #[.slice ab nb cb] W fun e w' => e = .returned (.bool (voidB r.first.name)) ∧ w' = W from by
    have hnm : Byt w (.slice ab nb cb) r.first.name := by
      obtain ⟨_, _, _, _, e0, _, _, hb, _⟩ := h.1
      simp only [List.cons.injEq, and_true] at e0
      obtain ⟨_, rfl, _⟩ := e0
      exact hb
    exact voidS_b W _ _ (hnm.keep hW)))
  have HO := hide (fun W (hW : Below w.heap.size w W) => opsS_any W _ r.ops (h.2.1.keep hW))
  have hmo := h.2.1.1
  have hmu := h.2.2.1
  unfold maxLen at hmo hmu
  have HAT := hide (fun W (hW : Below w.heap.size w W) j (hj : j < r.ops.length) => (show ∃ b off cap, (Value.slice ao r.ops.length co) = .slice (some ⟨b, off, none⟩) r.ops.length cap ∧ b < W.heap.size ∧ W.cell? ⟨b, off + j * 12 + 1, none⟩ = some (.int .i64 r.ops[j].atN) by
    rcases h.2.1.cases with ⟨e, _⟩ | ⟨b, off, cap, e, _, g4, g5⟩
    · rw [e] at hj; simp at hj
    · obtain ⟨_, _, _, _, _, _, _, e1, _⟩ := opc_at hW g4 (g5 j hj)
      exact ⟨b, off, cap, e, Nat.lt_of_lt_of_le g4 hW.size, e1⟩))
  have HAU := hide (fun W (hW : Below w.heap.size w W) (hp : 0 < r.und.length) => (show ∃ b off cap, (Value.slice au r.und.length cu) = .slice (some ⟨b, off, none⟩) r.und.length cap ∧ b < W.heap.size ∧ ∀ j (hj : j < r.und.length), W.cell? ⟨b, off + j * 2, none⟩ = some (.int .i64 r.und[j].1) ∧ W.cell? ⟨b, off + j * 2 + 1, none⟩ = some (.int .i64 r.und[j].2) by
    rcases h.2.2.cases with ⟨e, _⟩ | ⟨b, off, cap, e, _, g4, g5⟩
    · rw [e] at hp; simp at hp
    · exact ⟨b, off, cap, e, Nat.lt_of_lt_of_le g4 hW.size, fun j hj => ⟨(hW.cell (p := ⟨b, off + j * 2, none⟩) g4).trans (g5 j hj).1, (hW.cell (p := ⟨b, off + j * 2 + 1, none⟩) g4).trans (g5 j hj).2⟩⟩))
  unfold repVal
  have HRB := hide (show ∀ res, res = repB r → (res = (decide (0 ≤ r.id) && decide (r.id < 8) && (okN n r.first && !voidB r.first.name) && decide (0 ≤ r.clock) && decide (r.clock ≤ 1000000) && opsB r.ops && stampsB r.ops r.clock && undB r.und r.id r.clock)) from fun res e => e)
  obtain ⟨res, hres⟩ : ∃ res, res = repB r := ⟨_, rfl⟩
  rw [← hres]
  replace HRB := hide (unhide HRB res hres)
  clear hres
  have HG1 := hide (fun hh => stampsB_good (l := r.ops) (c := r.clock) hh)
  have HN1 := hide (fun k hk hh => stampsB_bad (l := r.ops) (c := r.clock) (k := k) hk hh)
  have HLG := hide (fun hh => undB_long (l := r.und) (id := r.id) (clk := r.clock) hh)
  have HG2 := hide (fun hn hh => undB_good (l := r.und) (id := r.id) (clk := r.clock) hn hh)
  have HN2 := hide (fun k hk hh => undB_bad (l := r.und) (id := r.id) (clk := r.clock) (k := k) hk hh)
  have HE := hide (fun k hk => undAt_eq (l := r.und) (id := r.id) (clk := r.clock) (k := k) hk)
  generalize okN n r.first = nb' at *
  generalize voidB r.first.name = vb at *
  generalize opsB r.ops = ob at *
  generalize stampsB r.ops r.clock = tb at *
  generalize undB r.und r.id r.clock = ub at *
  generalize hol : r.ops = l at *
  generalize hul : r.und = m at *
  clear hol hul h
  have hA := (Below.refl w.heap.size w).alloc (Nat.le_refl _) (.cells #[.int .i64 r.id, .int .i64 r.clock, .int .i64 z, .slice ab nb cb, .slice ac nc cc, .slice ad nd cd, .slice ae ne ce, .slice ao l.length co, .slice au m.length cu, .bool r.lost] 65)
  have l0 := Loc.made w #[.int .i64 r.id, .int .i64 r.clock, .int .i64 z, .slice ab nb cb, .slice ac nc cc, .slice ad nd cd, .slice ae ne ce, .slice ao l.length co, .slice au m.length cu, .bool r.lost] 65
  by_cases q1 : 0 ≤ r.id
  case neg =>
    have p1 : r.id < 0 := by omega
    have HF := hide (show res = false by rw [unhide HRB, decide_eq_false q1]; rfl)
    go_enter Tryz.func24, Tryz.ntmps24
    go_wp2_with fail
    go_ret
    exact ⟨by rw [unhide HF]; rfl, hA⟩
  have p1 : ¬ r.id < 0 := by omega
  by_cases q2 : r.id < 8
  case neg =>
    have p2 : 8 ≤ r.id := by omega
    have HF := hide (show res = false by rw [unhide HRB, decide_eq_false q2, Bool.and_false]; rfl)
    go_enter Tryz.func24, Tryz.ntmps24
    go_wp2_with fail
    go_ret
    exact ⟨by rw [unhide HF]; rfl, hA⟩
  have p2 : ¬ 8 ≤ r.id := by omega
  by_cases q3 : 0 ≤ r.clock
  case neg =>
    have p3 : r.clock < 0 := by omega
    have HF := hide (show res = false by rw [unhide HRB, decide_eq_false q3, Bool.and_false]; rfl)
    go_enter Tryz.func24, Tryz.ntmps24
    go_wp2_with fail
    go_ret
    exact ⟨by rw [unhide HF]; rfl, hA⟩
  have p3 : ¬ r.clock < 0 := by omega
  by_cases q4 : r.clock ≤ 1000000
  case neg =>
    have p4 : 1000000 < r.clock := by omega
    have HF := hide (show res = false by rw [unhide HRB, decide_eq_false q4, Bool.and_false]; rfl)
    go_enter Tryz.func24, Tryz.ntmps24
    go_wp2_with fail
    go_ret
    exact ⟨by rw [unhide HF]; rfl, hA⟩
  have p4 : ¬ 1000000 < r.clock := by omega
  rw [decide_eq_true q1, decide_eq_true q2, decide_eq_true q3, decide_eq_true q4, Bool.and_self, Bool.true_and, Bool.and_true, Bool.and_true] at HRB
  go_enter Tryz.func24, Tryz.ntmps24
  go_wp2_with fail
  generalize (w.alloc (.cells #[.int .i64 r.id, .int .i64 r.clock, .int .i64 z, .slice ab nb cb, .slice ac nc cc, .slice ad nd cd, .slice ae ne ce, .slice ao l.length co, .slice au m.length cu, .bool r.lost] 65)) = wa at *
  refine (unhide HN _ hA).mono ?_
  rintro e w1 ⟨rfl, hB⟩
  have hA1 := bstep hA hB
  replace l0 := l0.all hB
  clear hA hB HN
  obtain ⟨x0, x1, x2, x3, x4, x5, x6, x7, x8, x9⟩ := l0.ten
  cases hs : nb' with
  | false =>
    have HF := hide (show res = false by rw [unhide HRB, hs]; rfl)
    go_wp2_with fail
    go_ret
    exact ⟨by rw [unhide HF]; rfl, hA1⟩
  | true =>
  rw [hs, Bool.true_and] at HRB
  go_wp2_with fail
  refine (unhide HV _ hA1).mono ?_
  rintro e w1 ⟨rfl, rfl⟩
  cases hv : vb with
  | true =>
    have HF := hide (show res = false by rw [unhide HRB, hv]; rfl)
    go_wp2_with fail
    go_ret
    exact ⟨by rw [unhide HF]; rfl, hA1⟩
  | false =>
  rw [hv, Bool.not_false, Bool.true_and] at HRB
  go_wp2_with fail
  clear x0 x1 x2 x3 x4 x5 x6 x7 x8 x9
  refine (unhide HO _ hA1).mono ?_
  rintro e w2 ⟨rfl, hB⟩
  have hA2 := bstep hA1 hB
  replace l0 := l0.all hB
  clear hA1 hB HO
  obtain ⟨x0, x1, x2, x3, x4, x5, x6, x7, x8, x9⟩ := l0.ten
  cases ho : ob with
  | false =>
    have HF := hide (show res = false by rw [unhide HRB, ho]; rfl)
    go_wp2_with fail
    go_ret
    exact ⟨by rw [unhide HF]; rfl, hA2⟩
  | true =>
  rw [ho, Bool.true_and] at HRB
  by_cases hlong : 150 < m.length
  case pos =>
    have hd : (150 : Int) < (m.length : Int) := by omega
    have HF := hide (show res = false by rw [unhide HRB, unhide HLG hlong, Bool.and_false])
    go_wp2_with fail
    go_ret
    exact ⟨by rw [unhide HF]; rfl, hA2⟩
  have hd : ¬ (150 : Int) < (m.length : Int) := by omega
  go_wp2_with fail
  clear x0 x1 x2 x3 x4 x5 x6 x7 x8 x9
  have hSl : w.heap.size < w2.heap.size := l0.lt
  go_loopw [3] (fun i wr => ∃ k : Nat, k ≤ l.length ∧ i = .int .i64 k ∧ (∀ j (hj : j < l.length), j < k → l[j].atN ≤ r.clock) ∧ Below w2.heap.size w2 wr) (fun i _ => l.length - (intOf i).toNat)
  case atStart => exact ⟨0, Nat.zero_le _, rfl, fun j _ hj => by omega, Below.refl _ _⟩
  case round =>
    obtain ⟨k, hk, rfl, hok, hB⟩ := hrel
    have hAB := bstep hA2 hB
    obtain ⟨x0, x1, _, _, _, _, _, x7, x8, _⟩ := (l0.all hB).ten
    by_cases hlt : k < l.length
    · obtain ⟨pb, poff, pcap, epv, hpl, e1⟩ := unhide HAT wr hAB k hlt
      cases epv
      have hlt' : (k : Int) < (l.length : Int) := by omega
      have hk0 : (0 : Int) ≤ (k : Int) := by omega
      have hSr : w.heap.size < wr.heap.size := Nat.lt_of_lt_of_le hSl hB.size
      have hNE : Nonempty (Gr wr) := ⟨⟨wr, Below.refl _ _⟩⟩
      have HJ := hide (fun (hh : l[k].atN ≤ r.clock) j (hj : j < l.length) (hjk : j < k + 1) => (show l[j].atN ≤ r.clock by rcases Nat.lt_succ_iff_lt_or_eq.1 hjk with h1 | rfl; exact hok j hj h1; exact hh))
      have HNK := hide (fun (hh : r.clock < l[k].atN) => (show res = false by rw [unhide HRB, unhide HN1 k hlt hh]; rfl))
      generalize l[k].atN = oN at *
      clear HAT HAU HG1 HN1 HLG HG2 HN2 HE HRB hok
      go_wp2_with fail
      replace x1 := Gr.cell hSr x1
      replace x7 := Gr.cell hSr x7
      replace e1 := Gr.cell hpl e1
      by_cases hq : r.clock < oN
      · have HF := hide (unhide HNK hq)
        clear HNK HJ
        refine wp_region_gr (by kernel_rfl) (by kernel_rfl) ?_
        repeat (go_big_quiet_step (fail))
        refine wpQuiet_nil ?_
        rintro _ ⟨p, rfl⟩
        have hB3 := bstep hAB p.h
        clear x0 x1 x7 x8 e1
        go_wp2_with fail
        go_ret
        exact ⟨by rw [unhide HF]; rfl, hB3⟩
      · have HJ' := hide (unhide HJ (by omega))
        clear HNK HJ
        refine wp_region_gr (by kernel_rfl) (by kernel_rfl) ?_
        repeat (go_big_quiet_step (fail))
        refine wpQuiet_nil ?_
        rintro _ ⟨p, rfl⟩
        have hB3 := bstep hB p.h
        clear x0 x1 x7 x8 e1
        go_wp2_with fail
        go_roundw
        case rel => exact ⟨k + 1, by omega, by go_num, unhide HJ', hB3⟩
        case measure => simp [intOf]; omega
    · have htb := unhide HG1 (fun j hj => hok j hj (by omega))
      rw [htb, Bool.true_and] at HRB
      have e : k = l.length := by omega
      subst e
      replace l0 := l0.all hB
      clear HAT HG1 HN1 HLG hok htb hSl hA2 hB hlt hk
      go_wp2_with fail
      clear x0 x1 x7 x8
      generalize wr = wq at *
      have hSl : w.heap.size < wq.heap.size := l0.lt
      go_loopw [4] (fun i wr => ∃ k : Nat, k ≤ m.length ∧ i = .int .i64 k ∧ (∀ j, j < k → undAt m r.id r.clock j = true) ∧ Below wq.heap.size wq wr) (fun i _ => m.length - (intOf i).toNat)
      case atStart => exact ⟨0, Nat.zero_le _, rfl, fun j hj => by omega, Below.refl _ _⟩
      case round =>
        obtain ⟨k, hk, rfl, hok, hB⟩ := hrel
        have hABv := bstep hAB hB
        obtain ⟨x0, x1, _, _, _, _, _, x7, x8, _⟩ := (l0.all hB).ten
        by_cases hlt : k < m.length
        · obtain ⟨pb, poff, pcap, epv, hpl, hel⟩ := unhide HAU wr hABv (by omega)
          cases epv
          obtain ⟨e0, e1⟩ := hel k hlt
          have hlt' : (k : Int) < (m.length : Int) := by omega
          have hk0 : (0 : Int) ≤ (k : Int) := by omega
          have hSr : w.heap.size < wr.heap.size := Nat.lt_of_lt_of_le hSl hB.size
          have hNE : Nonempty (Gr wr) := ⟨⟨wr, Below.refl _ _⟩⟩
          have HE' := hide (unhide HE k hlt)
          have HJ := hide (fun (hh : undAt m r.id r.clock k = true) j (hj : j < k + 1) => (show undAt m r.id r.clock j = true by rcases Nat.lt_succ_iff_lt_or_eq.1 hj with h1 | rfl; exact hok j h1; exact hh))
          have HNK := hide (fun (hh : undAt m r.id r.clock k = false) => (show res = false by rw [unhide HRB, unhide HN2 k hlt hh]))
          have HP := hide (fun j (ej : k = j + 1) => (show ∃ q : Int × Int, m[k - 1]'(by omega) = q ∧ wr.cell? ⟨pb, poff + j * 2, none⟩ = some (.int .i64 q.1) ∧ wr.cell? ⟨pb, poff + j * 2 + 1, none⟩ = some (.int .i64 q.2) by
            obtain ⟨p0, p1⟩ := hel j (by omega)
            exact ⟨m[j], by subst ej; rfl, p0, p1⟩))
          generalize undAt m r.id r.clock k = okk at *
          generalize hoo : m[k] = o at *
          clear hoo hel HAU HG2 HN2 HE HRB hok
          go_wp2_with fail
          replace x0 := Gr.cell hSr x0
          replace x1 := Gr.cell hSr x1
          replace x8 := Gr.cell hSr x8
          replace e0 := Gr.cell hpl e0
          replace e1 := Gr.cell hpl e1
          by_cases hq : o.2 = r.id ∧ 1 ≤ o.1 ∧ o.1 ≤ r.clock
          case neg =>
            have HF := hide (unhide HNK (by
              rw [unhide HE']
              have : (decide (o.2 = r.id) && decide (1 ≤ o.1) && decide (o.1 ≤ r.clock)) = false := by
                rw [Bool.and_eq_false_iff, Bool.and_eq_false_iff]
                simp only [decide_eq_false_iff_not]
                omega
              rw [this, Bool.false_and]))
            clear HE' HJ HNK HP
            by_cases q1 : o.2 = r.id
            · by_cases q2 : 1 ≤ o.1
              · have q3 : r.clock < o.1 := by omega
                have d1 : (o.2 != r.id) = false := by simpa using q1
                have d2 : ¬ o.1 < 1 := by omega
                clear q1 hq
                refine wp_region_gr (by kernel_rfl) (by kernel_rfl) ?_
                repeat (go_big_quiet_step (fail))
                refine wpQuiet_nil ?_
                rintro _ ⟨p, rfl⟩
                have hB3 := bstep hABv p.h
                clear x0 x1 x7 x8 e0 e1
                go_wp2_with fail
                go_ret
                exact ⟨by rw [unhide HF]; rfl, hB3⟩
              · have q2' : o.1 < 1 := by omega
                have d1 : (o.2 != r.id) = false := by simpa using q1
                clear q1 hq
                refine wp_region_gr (by kernel_rfl) (by kernel_rfl) ?_
                repeat (go_big_quiet_step (fail))
                refine wpQuiet_nil ?_
                rintro _ ⟨p, rfl⟩
                have hB3 := bstep hABv p.h
                clear x0 x1 x7 x8 e0 e1
                go_wp2_with fail
                go_ret
                exact ⟨by rw [unhide HF]; rfl, hB3⟩
            · have d1 : (o.2 != r.id) = true := by simpa using q1
              clear hq
              refine wp_region_gr (by kernel_rfl) (by kernel_rfl) ?_
              repeat (go_big_quiet_step (fail))
              refine wpQuiet_nil ?_
              rintro _ ⟨p, rfl⟩
              have hB3 := bstep hABv p.h
              clear x0 x1 x7 x8 e0 e1
              go_wp2_with fail
              go_ret
              exact ⟨by rw [unhide HF]; rfl, hB3⟩
          obtain ⟨q1, q2, q3⟩ := hq
          have HE2 : okk = (decide (k = 0) || lessB (m[k - 1]'(by omega)).1 (m[k - 1]'(by omega)).2 o.1 o.2) := by
            rw [unhide HE', decide_eq_true q1, decide_eq_true q2, decide_eq_true q3]; rfl
          have d1 : (o.2 != r.id) = false := by simpa using q1
          have d2 : ¬ o.1 < 1 := by omega
          have d3 : ¬ r.clock < o.1 := by omega
          clear q1 HE'
          rcases Nat.eq_zero_or_pos k with hz | hpos
          · have HY := hide (unhide HJ (by rw [HE2, decide_eq_true hz]; rfl))
            have dz3 : ¬ 0 < k := by omega
            have dz4 : decide (0 < k) = false := by simp; omega
            clear HP HE2 HJ HNK hz
            refine wp_region_gr (by kernel_rfl) (by kernel_rfl) ?_
            repeat (go_big_quiet_step (fail))
            refine wpQuiet_nil ?_
            rintro _ ⟨p, rfl⟩
            have hB3 := bstep hB p.h
            clear x0 x1 x7 x8 e0 e1
            go_wp2_with fail
            go_roundw
            case rel => exact ⟨k + 1, by omega, by go_num, unhide HY, hB3⟩
            case measure => simp [intOf]; omega
          · obtain ⟨j, ej⟩ : ∃ j, k = j + 1 := ⟨k - 1, by omega⟩
            have dz3 : 0 < k := hpos
            have dz4 : decide (0 < k) = true := by simp; omega
            have hj1 : (k : Int) - 1 = (j : Int) := by omega
            have hj0 : (0 : Int) ≤ (j : Int) := by omega
            have hjl : (j : Int) < (m.length : Int) := by omega
            obtain ⟨q, eq, i1, i2⟩ := unhide HP j ej
            have HE3 : okk = lessB q.1 q.2 o.1 o.2 := by rw [HE2, eq, decide_eq_false (by omega), Bool.false_or]
            replace i1 := Gr.cell hpl i1
            replace i2 := Gr.cell hpl i2
            have HLL := hide (fun W => lessS_any W q.1 q.2 o.1 o.2)
            clear HE2 HP eq hpos
            generalize lessB q.1 q.2 o.1 o.2 = lb at *
            subst HE3
            clear ej
            refine wp_region_gr (by kernel_rfl) (by kernel_rfl) ?_
            repeat (go_big_quiet_step ((rename_i p; exact calls_gr (unhide HLL _))))
            refine wpQuiet_nil ?_
            rintro _ ⟨p, rfl⟩
            have hB3 := bstep hB p.h
            have hB4 := bstep hABv p.h
            clear x0 x1 x7 x8 e0 e1 i1 i2
            cases okk with
            | true =>
              go_wp2_with fail
              go_roundw
              case rel => exact ⟨k + 1, by omega, by go_num, unhide HJ rfl, hB3⟩
              case measure => simp [intOf]; omega
            | false =>
              have HF := hide (unhide HNK rfl)
              clear HNK
              go_wp2_with fail
              go_ret
              exact ⟨by rw [unhide HF]; rfl, hB4⟩
        · have HY := hide (show res = true by rw [unhide HRB, unhide HG2 (by omega) (fun j hj => hok j (by omega))])
          clear HAU
          go_wp2_with fail
          go_ret
          exact ⟨by rw [unhide HY]; rfl, hABv⟩
end Go.Proofs.YtfhekoipnlmhoaaGreat

/- A frame by what may turn: blocks by their number and what lies in them. -/
namespace Go.Proofs.YtfhekoipnlmhoaaGreat
open Go.RowKit
set_option linter.unusedVariables false

/-- All blocks but those that may turn (Mt) lie as they lay. -/
structure Frp (Mt : Nat → Obj → Prop) (a b : World) : Prop where
  os : b.os = a.os
  tape : b.tape = a.tape
  output : b.output = a.output
  size : a.heap.size ≤ b.heap.size
  block : ∀ i o, a.heap[i]? = some o → ¬ Mt i o → b.heap[i]? = some o
theorem Frp.refl (Mt : Nat → Obj → Prop) (a : World) : Frp Mt a a := ⟨rfl, rfl, rfl, Nat.le_refl _, fun _ _ h _ => h⟩
theorem Frp.trans {Mt : Nat → Obj → Prop} {a b c : World} (h : Frp Mt a b) (k : Frp Mt b c) : Frp Mt a c :=
  ⟨k.os.trans h.os, k.tape.trans h.tape, k.output.trans h.output, Nat.le_trans h.size k.size, fun i o hi hm => k.block i o (h.block i o hi hm) hm⟩
theorem Frp.ofBelow {a b : World} (h : Below a.heap.size a b) (Mt : Nat → Obj → Prop) : Frp Mt a b :=
  ⟨h.os, h.tape, h.output, h.size, fun i o hi _ => (h.block i (Array.getElem?_eq_some_iff.1 hi).1).trans hi⟩
theorem Frp.ofFrm {a b : World} {S : List Nat} (h : Frm a b S) {Mt : Nat → Obj → Prop} (hm : ∀ g ∈ S, ∀ o, a.heap[g]? = some o → Mt g o) : Frp Mt a b :=
  ⟨h.os, h.tape, h.output, h.size, fun i o hi hn => (h.block i (Array.getElem?_eq_some_iff.1 hi).1 (fun e => hn (hm i e o hi))).trans hi⟩
theorem Frp.below {Mt : Nat → Obj → Prop} {a b : World} {B : Nat} (h : Frp Mt a b) (hB : B ≤ a.heap.size) (hm : ∀ i o, i < B → ¬ Mt i o) : Below B a b :=
  ⟨h.os, h.tape, h.output, h.size, fun i hi => by
    have hlt : i < a.heap.size := by omega
    have := h.block i _ (Array.getElem?_eq_getElem hlt) (hm i _ hi)
    rw [this, Array.getElem?_eq_getElem hlt]⟩

theorem Loc.frp {Mt : Nat → Obj → Prop} {w w' : World} {g : Nat} {cs : Array Value} {T : TypeId} (h : Loc w g cs T) (f : Frp Mt w w') (hn : ¬ Mt g (.cells cs T (0, 0))) : Loc w' g cs T := f.block g _ h hn
theorem own_obj {w : World} {base : Nat} {e : TypeId} {size n : Nat} {v : Value} {xs : List Value} (h : w.ownsRow base e size v n xs) {g : Nat} (hg : v.ownBlock = some g) : ∃ cur, w.heap[g]? = some (.cells cur e (0, 0)) := by
  rcases h.2 with ⟨rfl, _⟩ | ⟨g', cap, cur, rfl, _, ho, _⟩
  · cases hg
  · cases hg; exact ⟨cur, ho⟩
/-- Rows of bytes at or beyond B may turn, nothing else. -/
def MtB (B : Nat) (i : Nat) (o : Obj) : Prop := B ≤ i ∧ ∃ cs, o = .cells cs 5 (0, 0)
theorem Frp.ofAppend {w w' : World} {B : Nat} {v : Value} {l : List Int} (ho : Own w B v l) (h : w.grownBy w' v.ownBlock) : Frp (MtB B) w w' :=
  Frp.ofFrm (Frm.ofGrown h) (fun g hg o hob => by
    have hg' : v.ownBlock = some g := by simpa using hg
    obtain ⟨cur, hcur⟩ := own_obj ho.2 hg'
    rw [hcur] at hob
    cases hob
    exact ⟨(ho.lt g hg').1, cur, rfl⟩)
theorem Frp.toBelow {B : Nat} {a b : World} (h : Frp (MtB B) a b) (hB : B ≤ a.heap.size) : Below B a b := h.below hB (fun i o hi hm => by have := hm.1; omega)
end Go.Proofs.YtfhekoipnlmhoaaGreat

/- A loop over a function, in our own words: what the caller owes where its rounds may make maps, box what they are handed, and return; the function that is ranged over by what it hands on, one by one. No program. -/
namespace Go.Proofs.YtfhekoipnlmhoaaGreat
open Go.RowKit Go.Shelf
set_option linter.unusedVariables false

/-- What I says stays said where the world grows, and where a block of the loop's own books (at D and D + 1) turns. -/
def Stays {β : Type} (D : Nat) (I : β → World → Prop) : Prop :=
  ∀ s W W' row, I s W → W.grownBy W' row → (∀ r, row = some r → r = D ∨ r = D + 1) → I s W'
/-- The books lie as they lay. -/
def BooksSame (D : Nat) (W W' : World) : Prop := W'.heap[D]? = W.heap[D]? ∧ W'.heap[D + 1]? = W.heap[D + 1]?
/-- How a round's body may be left. -/
def rndPost {α : Type} (D : Nat) (Mt : Nat → Obj → Prop) (I Ix : List α → World → Prop) (ys : List α) (W : World) : Exit → Act → World → Prop
  | .normal, _, W' => BooksSame D W W' ∧ Frp Mt W W' ∧ I ys W'
  | .ret, _, W' => BooksSame D W W' ∧ Ix ys W'
  | _, _, _ => False

/-- The function gf hands on the members of xs in their order, as long as it is told to go on; between two rounds it makes memory alone. A round turns none but those that may turn (Mt); what the function lays for itself (Bx) is none of them. -/
def Hands {α : Type} (P : Program) (gf : Nat) (lb : Array Value) (encs : α → Array Value) (Bx : Obj → Prop) (Mt : Nat → Obj → Prop) (xs : List α) (l : Nat) (w : World) : Prop :=
  ∀ (J Jx : List α → World → Prop), (∀ s W W', J s W → W.grownBy W' none → J s W') →
    (∀ m pre x W1, J pre W1 → pre ++ [x] <+: xs → YieldAt Fence.wide m P l (encs x) W1 fun e W' =>
      (e = .returned (.bool true) ∧ J (pre ++ [x]) W' ∧ Frp Mt W1 W') ∨ (e = .returned (.bool false) ∧ Jx (pre ++ [x]) W')) →
    ∀ (n : Nat) (W : World), Below w.heap.size w W → (∀ q o, W.heap.size ≤ q → Bx o → ¬ Mt q o) → J [] W →
      CallsIn Fence.wide n P gf (#[.func (.yield l) #[] #[]] ++ lb) W fun e W' => (∃ v, e = .returned v) ∧ (J xs W' ∨ ∃ pre, pre <+: xs ∧ Jx pre W')

theorem round_wide {m m' : Nat} {P : Program} {l : Nat} {f : FuncId} {tmps : Array Value} {assign body : Code} {w : World} {R : Ending → World → Prop}
    (h : RoundIn Fence.wide m P l f tmps assign body w R) : RoundIn Fence.wide m' P l f tmps assign body w R := ⟨h.1, fun c cs _ => h.2 c cs (room_wide _)⟩

variable {P : Program}

/-- One round: its record is ready; the hand-over, the body; the record behind it says how it was left. -/
theorem round_law {α : Type} {n m D : Nat} {Mt : Nat → Obj → Prop} {fn : FuncId} {rec : LoopState → Option Code → Loop} {tmps : Array Value} {assign body : Code}
    (I Ix : List α → World → Prop) (hI : Stays D I) (hIx : Stays D Ix) (hG : ∀ r, Mt (D + 1) (.loop r)) (hrec : ∀ st pe st' pe', { rec st pe with state := st', pending := pe' } = rec st' pe') (hst : ∀ st pe, (rec st pe).state = st)
    {pre : List α} {x : α} {W : World} (Ax : Act → World → Prop) (hAx : ∀ a', Stays D (fun (_ : Unit) W => Ax a' W))
    (hi : I pre W) (hD : W.heap[D]? = some (.deferred (some []))) (hL : W.heap[D + 1]? = some (.loop (rec .ready none)))
    (hassign : ∀ K : Act → World → Prop, (∀ a' W', Below W.heap.size W W' → Ax a' W' → K a' W') → assign.wpIn (Fence.wide.inRound (D + 1)) n P (Exit.then K (fun _ _ _ => False)) { tmps := tmps, defers := [] } W)
    (hbody : ∀ a' W', I pre W' → Ax a' W' → D + 2 ≤ W'.heap.size → body.wpIn (Fence.wide.inRound (D + 1)) n P (rndPost D Mt I Ix (pre ++ [x]) W') a' W') :
    RoundIn Fence.wide m P (D + 1) fn tmps assign body W fun e W' =>
      (e = .returned (.bool true) ∧ (I (pre ++ [x]) W' ∧ W'.heap[D]? = some (.deferred (some [])) ∧ W'.heap[D + 1]? = some (.loop (rec .ready none))) ∧ Frp Mt W W') ∨
      (e = .returned (.bool false) ∧ Ix (pre ++ [x]) W' ∧ W'.heap[D]? = some (.deferred (some [])) ∧ W'.heap[D + 1]? = some (.loop (rec .done (some .ret)))) := by
  refine round_wide (m := n) (roundIn_of_wpIn trivial (hassign _ ?_))
  intro a' W1 hB1 hax
  have hlt : D + 1 < W.heap.size := (Array.getElem?_eq_some_iff.1 hL).1
  have hi1 : I pre W1 := hI pre W W1 none hi ⟨hB1.os, hB1.tape, hB1.output, hB1.size, fun k hk _ => hB1.block k hk⟩ (fun r e => by cases e)
  have hD1 := (hB1.block D (by omega)).trans hD
  have hL1 := (hB1.block (D + 1) hlt).trans hL
  have hlt1 : D + 1 < W1.heap.size := (Array.getElem?_eq_some_iff.1 hL1).1
  refine ⟨_, run_beginRound hL1 (hst _ _), ?_⟩
  obtain ⟨W2, hW2⟩ : ∃ W2, W1.putObj (D + 1) (.loop { rec .ready none with state := .busy }) = W2 := ⟨_, rfl⟩
  have hg2 : W1.grownBy W2 (some (D + 1)) := by rw [← hW2]; exact grownBy_putObj' W1 (D + 1) _
  have hL2 : W2.heap[D + 1]? = some (.loop { rec .ready none with state := .busy }) := by rw [← hW2]; exact World.putObj_heap_same hlt1
  have hD2 : W2.heap[D]? = some (.deferred (some [])) := by rw [← hW2]; exact (World.putObj_heap_other (by omega)).trans hD1
  have hF2 : Frp Mt W W2 := (Frp.ofBelow hB1 Mt).trans (Frp.ofFrm (Frm.ofGrown hg2) (fun g h o ho => by simp at h; subst h; rw [hL1] at ho; cases ho; exact hG _))
  rw [hW2]
  have hi2 : I pre W2 := hI pre W1 W2 _ hi1 hg2 (fun r e => by cases e; exact .inr rfl)
  have hax2 : Ax a' W2 := hAx a' () W1 W2 _ hax hg2 (fun r e => by cases e; exact .inr rfl)
  have hlt2 : D + 2 ≤ W2.heap.size := by have := (Array.getElem?_eq_some_iff.1 hL2).1; omega
  refine wpIn_mono (hbody a' W2 hi2 hax2 hlt2) ?_
  have fin : ∀ (jump : Option Code) (W3 : World), BooksSame D W2 W3 → ∃ W4, (Instr.endRound (D + 1) jump).run P W3 = .ok (.bool jump.isNone) W4 ∧ W3.grownBy W4 (some (D + 1)) ∧ W4.heap[D]? = some (.deferred (some [])) ∧ W4.heap[D + 1]? = some (.loop (rec (if jump.isNone then .ready else .done) jump)) := by
    intro jump W3 hb
    have hL3 := hb.2.trans hL2
    have hlt3 : D + 1 < W3.heap.size := (Array.getElem?_eq_some_iff.1 hL3).1
    refine ⟨_, run_endRound jump hL3, grownBy_putObj' W3 (D + 1) _, (World.putObj_heap_other (by omega)).trans (hb.1.trans hD2), ?_⟩
    rw [World.putObj_heap_same hlt3]
    have := hrec .ready none (if jump.isNone then .ready else .done) jump
    rw [← this]
  rintro e a3 W3 hp
  cases e with
  | normal =>
    obtain ⟨hb, hF3, hi3⟩ := hp
    obtain ⟨W4, hr, hg4, hD4, hL4⟩ := fin none W3 hb
    exact ⟨_, W4, hr, .inl ⟨rfl, ⟨hI _ W3 W4 _ hi3 hg4 (fun r e => by cases e; exact .inr rfl), hD4, hL4⟩, (hF2.trans hF3).trans (Frp.ofFrm (Frm.ofGrown hg4) (fun g h o ho => by simp at h; subst h; rw [hb.2.trans hL2] at ho; cases ho; exact hG _))⟩⟩
  | ret =>
    obtain ⟨hb, hi3⟩ := hp
    obtain ⟨W4, hr, hg4, hD4, hL4⟩ := fin (some .ret) W3 hb
    exact ⟨_, W4, hr, .inr ⟨rfl, hIx _ W3 W4 _ hi3 hg4 (fun r e => by cases e; exact .inr rfl), hD4, hL4⟩⟩
  | exit id => exact hp.elim
  | goto t => exact hp.elim
  | panic ch => exact hp.elim
  | outgrown => exact hp.elim

/-- The loop. -/
theorem range_law {α : Type} {n : Nat} {g : Operand} {ps : Array Tmp} {assign body : Code} {Q : Exit → Act → World → Prop} {a : Act} {w : World} {gf : Nat} {lb : Array Value}
    (hg : a.eval g = .func (.func gf) #[] lb) (eg : ∀ args w, (callFunc gf args).run P w = .ok (.enter gf args) w)
    {encs : α → Array Value} {Bx : Obj → Prop} {Mt : Nat → Obj → Prop} {xs : List α} (hG : ∀ r, Mt (w.heap.size + 1) (.loop r)) (hGl : ∀ q o, w.heap.size + 2 ≤ q → Bx o → ¬ Mt q o) (hseq : Hands P gf lb encs Bx Mt xs (w.heap.size + 1) w) (hps : ∀ x, (encs x).size = ps.size)
    (I Ix : List α → World → Prop) (hI : Stays w.heap.size I) (hIx : Stays w.heap.size Ix) (h0 : I [] w)
    (Ax : α → Act → World → Prop) (hAx : ∀ x a', Stays w.heap.size (fun (_ : Unit) W => Ax x a' W))
    (hassign : ∀ (pre : List α) (x : α) (W : World) (K : Act → World → Prop), I pre W → w.heap.size + 2 ≤ W.heap.size → (∀ a' W', Below W.heap.size W W' → Ax x a' W' → K a' W') →
      assign.wpIn (Fence.wide.inRound (w.heap.size + 1)) n P (Exit.then K (fun _ _ _ => False)) { tmps := (ps.zip (encs x)).foldl (fun t (p, v) => t.setIfInBounds p v) a.tmps, defers := [] } W)
    (hbody : ∀ (pre : List α) (x : α) (a' : Act) (W : World), I pre W → Ax x a' W → pre ++ [x] <+: xs → w.heap.size + 2 ≤ W.heap.size →
      body.wpIn (Fence.wide.inRound (w.heap.size + 1)) n P (rndPost w.heap.size Mt I Ix (pre ++ [x]) W) a' W)
    (hdone : ∀ W : World, I xs W → W.heap[w.heap.size]? = some (.deferred (some [])) → Q .normal { a with defers := { target := .collected w.heap.size, args := #[] } :: a.defers } W)
    (hstop : ∀ (pre : List α) (W : World), pre <+: xs → Ix pre W → W.heap[w.heap.size]? = some (.deferred (some [])) → Code.ret.wpIn Fence.wide n P Q { a with defers := { target := .collected w.heap.size, args := #[] } :: a.defers } W) :
    (Code.rangeFunc g ps assign body).wpIn Fence.wide n P Q a w := by
  refine wpIn_rangeFunc ?_
  intro fn hfn
  obtain ⟨rec, hrec⟩ : ∃ rec : LoopState → Option Code → Loop, rec = fun st pe => { state := st, pending := pe, fn, tmps := a.tmps, params := ps, assign, body, defers := w.heap.size } := ⟨_, rfl⟩
  obtain ⟨W1, hW1⟩ : ∃ W1, (w.alloc (.deferred (some []))).alloc (.loop (rec .ready none)) = W1 := ⟨_, rfl⟩
  have hL1 : W1.heap[w.heap.size + 1]? = some (.loop (rec .ready none)) := by
    rw [← hW1]; have := World.alloc_heap_new (w.alloc (.deferred (some []))) (.loop (rec .ready none)); rwa [World.size_alloc] at this
  have hD1 : W1.heap[w.heap.size]? = some (.deferred (some [])) := by
    rw [← hW1]; exact (Below.heap_alloc _ _ _ (by simp)).trans (World.alloc_heap_new w _)
  have hB1 : Below w.heap.size w W1 := by rw [← hW1]; exact ((Below.refl _ w).alloc (Nat.le_refl _) _).alloc (by simp) _
  have hI1 : I [] W1 := hI [] w W1 none h0 ⟨hB1.os, hB1.tape, hB1.output, hB1.size, fun k hk _ => hB1.block k hk⟩ (fun r e => by cases e)
  refine ⟨w.heap.size + 1, [{ target := .collected w.heap.size, args := #[] }], W1, { target := .fn (.func gf) lb, args := #[.func (.yield (w.heap.size + 1)) #[] #[]] }, W1, gf,
    #[.func (.yield (w.heap.size + 1)) #[] #[]] ++ lb, W1, ?_, ?_, fun _ _ => trivial, ?_, (fun h => (by cases h)), ?_⟩
  · rw [← hW1, hrec]; exact run_enterLoop_outer _ _ _ _ _
  · simp only [resolve, hg]
    simp [go_sem]
  · simp [invoke, go_sem, eg]
  · refine (hseq
      (fun pre W => I pre W ∧ W.heap[w.heap.size]? = some (.deferred (some [])) ∧ W.heap[w.heap.size + 1]? = some (.loop (rec .ready none)))
      (fun pre W => Ix pre W ∧ W.heap[w.heap.size]? = some (.deferred (some [])) ∧ W.heap[w.heap.size + 1]? = some (.loop (rec .done (some .ret)))) ?_ ?_ (n - 1) W1 hB1 (fun q o h hb => hGl q o (by have := (Array.getElem?_eq_some_iff.1 hL1).1; omega) hb) ⟨hI1, hD1, hL1⟩).mono ?_
    · rintro s W W' ⟨hi, hD, hL⟩ hg'
      exact ⟨hI s W W' none hi hg' (fun r e => by cases e), (hg'.block _ (Array.getElem?_eq_some_iff.1 hD).1 (by simp)).trans hD, (hg'.block _ (Array.getElem?_eq_some_iff.1 hL).1 (by simp)).trans hL⟩
    · rintro m pre x W ⟨hi, hD, hL⟩ hpx
      have hy := run_yield (P := P) (args := encs x) hL (by rw [hrec]; exact hps x)
      rw [hrec] at hy
      refine ⟨fn, _, assign, body, hy, ?_⟩
      refine (round_law (n := n) (m := m) (fn := fn) (x := x) I Ix hI hIx hG (by rw [hrec]; exact fun _ _ _ _ => rfl) (by rw [hrec]; exact fun _ _ => rfl) (Ax x) (hAx x) hi hD hL (fun K hK => hassign pre x W K hi (by have := (Array.getElem?_eq_some_iff.1 hL).1; omega) hK) (fun a' W' hi' hax hl => hbody pre x a' W' hi' hax hpx hl)).mono ?_
      rintro e W' (⟨rfl, h1, h2⟩ | ⟨rfl, h1⟩)
      · exact .inl ⟨rfl, h1, h2⟩
      · exact .inr ⟨rfl, h1⟩
    · rintro e W2 ⟨⟨v, rfl⟩, (⟨hi, hD, hL⟩ | ⟨pre, hpre, hi, hD, hL⟩)⟩
      · have he := run_endLoop (P := P) hL (by rw [hrec]; simp)
        rw [hrec] at he
        exact ⟨none, _, he, hdone _ (hI xs W2 _ _ hi (grownBy_putObj' W2 _ _) (fun r e => by cases e; exact .inr rfl)) ((World.putObj_heap_other (by omega)).trans hD)⟩
      · have he := run_endLoop (P := P) hL (by rw [hrec]; simp)
        rw [hrec] at he
        exact ⟨some .ret, _, he, hstop pre _ hpre (hIx pre W2 _ _ hi (grownBy_putObj' W2 _ _) (fun r e => by cases e; exact .inr rfl)) ((World.putObj_heap_other (by omega)).trans hD)⟩
end Go.Proofs.YtfhekoipnlmhoaaGreat

/- impl.isSmall, impl.isDigit, impl.NameOk and impl.textOk answer what the plain tests say. -/
namespace Go.Proofs.YtfhekoipnlmhoaaGreat
open Go.RowKit
set_option linter.unusedVariables false

def smallB (x : Int) : Bool := decide (97 ≤ x ∧ x ≤ 122)
def digB (x : Int) : Bool := decide (48 ≤ x ∧ x ≤ 57)
theorem smallB_yes {x : Int} (h : 97 ≤ x ∧ x ≤ 122) : smallB x = true := by unfold smallB; simpa using h
theorem smallB_no {x : Int} (h : ¬ (97 ≤ x ∧ x ≤ 122)) : smallB x = false := by unfold smallB; simpa using h
theorem digB_yes {x : Int} (h : 48 ≤ x ∧ x ≤ 57) : digB x = true := by unfold digB; simpa using h
theorem digB_no {x : Int} (h : ¬ (48 ≤ x ∧ x ≤ 57)) : digB x = false := by unfold digB; simpa using h

theorem small_any (x : Int) (w : World) : Calls Tryz.prog 145 #[.int .u8 x] w fun e w' => e = .returned (.bool (smallB x)) ∧ w' = w := by
  by_cases h1 : 97 ≤ x
  · by_cases h2 : x ≤ 122
    · have HD := hide (smallB_yes ⟨h1, h2⟩)
      go_enter Tryz.func145, Tryz.ntmps145
      go_wp2
      go_ret
      exact ⟨by rw [unhide HD]; rfl, rfl⟩
    · have HD := hide (smallB_no (x := x) (by omega))
      go_enter Tryz.func145, Tryz.ntmps145
      go_wp2
      go_ret
      exact ⟨by rw [unhide HD]; rfl, rfl⟩
  · have HD := hide (smallB_no (x := x) (by omega))
    have d1 : decide (97 ≤ x) = false := by simpa using h1
    go_enter Tryz.func145, Tryz.ntmps145
    go_wp2
    go_ret
    exact ⟨by rw [unhide HD]; rfl, rfl⟩
theorem dig_any (x : Int) (w : World) : Calls Tryz.prog 146 #[.int .u8 x] w fun e w' => e = .returned (.bool (digB x)) ∧ w' = w := by
  by_cases h1 : 48 ≤ x
  · by_cases h2 : x ≤ 57
    · have HD := hide (digB_yes ⟨h1, h2⟩)
      go_enter Tryz.func146, Tryz.ntmps146
      go_wp2
      go_ret
      exact ⟨by rw [unhide HD]; rfl, rfl⟩
    · have HD := hide (digB_no (x := x) (by omega))
      go_enter Tryz.func146, Tryz.ntmps146
      go_wp2
      go_ret
      exact ⟨by rw [unhide HD]; rfl, rfl⟩
  · have HD := hide (digB_no (x := x) (by omega))
    have d1 : decide (48 ≤ x) = false := by simpa using h1
    go_enter Tryz.func146, Tryz.ntmps146
    go_wp2
    go_ret
    exact ⟨by rw [unhide HD]; rfl, rfl⟩

def standB (x : Int) : Bool := decide (32 ≤ x ∧ x ≤ 126)
theorem standB_yes {x : Int} (h : 32 ≤ x ∧ x ≤ 126) : standB x = true := by unfold standB; simpa using h
theorem standB_no {x : Int} (h : ¬ (32 ≤ x ∧ x ≤ 126)) : standB x = false := by unfold standB; simpa using h
theorem stand_any (x : Int) (w : World) : Calls Tryz.prog 144 #[.int .u8 x] w fun e w' => e = .returned (.bool (standB x)) ∧ w' = w := by
  by_cases h1 : 32 ≤ x
  · by_cases h2 : x ≤ 126
    · have HD := hide (standB_yes ⟨h1, h2⟩)
      go_enter Tryz.func144, Tryz.ntmps144
      go_wp2
      go_ret
      exact ⟨by rw [unhide HD]; rfl, rfl⟩
    · have HD := hide (standB_no (x := x) (by omega))
      go_enter Tryz.func144, Tryz.ntmps144
      go_wp2
      go_ret
      exact ⟨by rw [unhide HD]; rfl, rfl⟩
  · have HD := hide (standB_no (x := x) (by omega))
    have d1 : decide (32 ≤ x) = false := by simpa using h1
    go_enter Tryz.func144, Tryz.ntmps144
    go_wp2
    go_ret
    exact ⟨by rw [unhide HD]; rfl, rfl⟩

theorem nameI_short (w : World) (a : Option Addr) (n cap : Nat) (h : n < 1 ∨ 8 < n) :
    Calls Tryz.prog 115 #[.slice a n cap] w fun e w' => e = .returned (.bool false) ∧ w' = w := by
  by_cases h1 : n < 1
  · have h1' : (n : Int) < 1 := by omega
    go_enter Tryz.func115, Tryz.ntmps115
    go_wp2_with fail
    go_ret
    exact ⟨rfl, rfl⟩
  · have h1' : decide ((n : Int) < 1) = false := by simp; omega
    have h2 : (8 : Int) < (n : Int) := by omega
    go_enter Tryz.func115, Tryz.ntmps115
    go_wp2_with fail
    go_ret
    exact ⟨rfl, rfl⟩

open Classical in
set_option maxHeartbeats 1600000 in
theorem nameI_row (w : World) (b off cap : Nat) (l : List Int) (hok : okB l) (h1 : 1 ≤ l.length) (h8 : l.length ≤ 8)
    (hc : ∀ i, i < l.length → w.cell? ⟨b, off + i, none⟩ = some (.int .u8 (l.getD i 0))) :
    Calls Tryz.prog 115 #[.slice (some ⟨b, off, none⟩) l.length cap] w fun e w' => e = .returned (.bool (decide (NameOk l))) ∧ w' = w := by
  have d1 : decide ((l.length : Int) < 1) = false := by simp; omega
  have d2 : decide ((8 : Int) < (l.length : Int)) = false := by simp; omega
  have hl0 : (0 : Int) < (l.length : Int) := by omega
  obtain ⟨y, hy⟩ : ∃ y, y = l.getD 0 0 := ⟨_, rfl⟩
  have hcy : w.cell? ⟨b, off, none⟩ = some (.int .u8 y) := by rw [hy]; exact hc 0 (by omega)
  have HY := hide hy
  clear hy
  by_cases hs : 97 ≤ y ∧ y ≤ 122
  · have sy := smallB_yes hs
    go_enter Tryz.func115, Tryz.ntmps115
    go_wp2_with (go_at_call 145; refine (small_any y w).mono ?_; rintro e w' ⟨rfl, rfl⟩)
    go_loop [22] (fun i => ∃ k : Nat, k ≤ l.length ∧ i = .int .i64 k ∧ allTo nameCh l k) (fun i => l.length - (intOf i).toNat)
    case atStart => exact ⟨0, Nat.zero_le _, rfl, fun i hi => by omega⟩
    case round =>
      obtain ⟨k, hk, rfl, ha⟩ := hrel
      have HA := hide ha
      clear ha
      by_cases hlt : k < l.length
      · obtain ⟨x, hx⟩ : ∃ x, x = l.getD k 0 := ⟨_, rfl⟩
        have hcx : w'.cell? ⟨b, off + k, none⟩ = some (.int .u8 x) := by rw [hx]; exact hc _ hlt
        have HX := hide hx
        have hlt' : (k : Int) < (l.length : Int) := by omega
        clear hc hcy sy hx
        by_cases hn : 97 ≤ x ∧ x ≤ 122
        · have HN := hide (show nameCh k x from .inl hn)
          have sx := smallB_yes hn
          clear hn
          go_wp2_with (go_at_call 145; refine (small_any x _).mono ?_; rintro e w' ⟨rfl, rfl⟩)
          go_round
          case rel => exact ⟨k + 1, by omega, by go_num, allTo_step (unhide HA) (by rw [← unhide HX]; exact unhide HN)⟩
          case measure => simp [intOf]; omega
        · have sx := smallB_no hn
          by_cases hd : 48 ≤ x ∧ x ≤ 57
          · have hk0 : 0 < k := by
              by_cases e : k = 0
              · subst e; exact absurd hs (by rw [unhide HY, ← unhide HX]; exact hn)
              · omega
            have HN := hide (show nameCh k x from .inr ⟨hk0, hd⟩)
            have sd := digB_yes hd
            clear hn hd
            go_wp2_with (first | (go_at_call 145; refine (small_any x _).mono ?_; rintro e w' ⟨rfl, rfl⟩) | (go_at_call 146; refine (dig_any x _).mono ?_; rintro e w' ⟨rfl, rfl⟩))
            go_round
            case rel => exact ⟨k + 1, by omega, by go_num, allTo_step (unhide HA) (by rw [← unhide HX]; exact unhide HN)⟩
            case measure => simp [intOf]; omega
          · have sd := digB_no hd
            have HF := hide (show decide (NameOk l) = false by
              simp only [decide_eq_false_iff_not]
              rintro ⟨_, _, h⟩
              have := h k hlt
              rw [← unhide HX] at this
              rcases this with h | ⟨_, h⟩
              · exact hn h
              · exact hd h)
            clear hn hd
            go_wp2_with (first | (go_at_call 145; refine (small_any x _).mono ?_; rintro e w' ⟨rfl, rfl⟩) | (go_at_call 146; refine (dig_any x _).mono ?_; rintro e w' ⟨rfl, rfl⟩))
            go_ret
            exact ⟨by rw [unhide HF]; rfl, rfl⟩
      · have e : k = l.length := by omega
        subst e
        have HF := hide (show decide (NameOk l) = true by simp only [decide_eq_true_eq]; exact ⟨h1, h8, unhide HA⟩)
        clear hc
        go_wp2_with fail
        go_ret
        exact ⟨by rw [unhide HF]; rfl, rfl⟩
  · have sy := smallB_no hs
    have HF := hide (show decide (NameOk l) = false by
      simp only [decide_eq_false_iff_not]
      rintro ⟨_, _, h⟩
      have := h 0 (by omega)
      rw [← unhide HY] at this
      rcases this with h | ⟨h, _⟩
      · exact hs h
      · omega)
    clear hc hs
    go_enter Tryz.func115, Tryz.ntmps115
    go_wp2_with (go_at_call 145; refine (small_any y w).mono ?_; rintro e w' ⟨rfl, rfl⟩)
    go_ret
    exact ⟨by rw [unhide HF]; rfl, rfl⟩

open Classical in
theorem nameI_any (w : World) (v : Value) (l : List Int) (h : Byt w v l) :
    Calls Tryz.prog 115 #[v] w fun e w' => e = .returned (.bool (decide (NameOk l))) ∧ w' = w := by
  by_cases hl : l.length < 1 ∨ 8 < l.length
  · obtain ⟨a, cap, rfl, _⟩ := h.shape
    have hd : decide (NameOk l) = false := by simp only [decide_eq_false_iff_not]; rintro ⟨_, _, _⟩; omega
    rw [hd]
    exact nameI_short w a _ cap hl
  · obtain ⟨hok, hm, ⟨rfl, rfl⟩ | ⟨x, cap, rfl, hc, rfl⟩ | ⟨b, off, cap, rfl, _, _, _, _, h5⟩⟩ := h
    · simp at hl
    · simp at hl
    · exact nameI_row w b off cap l hok (by omega) (by omega) h5

theorem nameI_yes (w : World) (v : Value) (l : List Int) (h : Byt w v l) (hn : NameOk l) : Calls Tryz.prog 115 #[v] w fun e w' => e = .returned (.bool true) ∧ w' = w := by
  refine (nameI_any w v l h).mono ?_
  rintro e w' ⟨rfl, h⟩
  exact ⟨by simp [hn], h⟩
theorem nameI_no (w : World) (v : Value) (l : List Int) (h : Byt w v l) (hn : ¬ NameOk l) : Calls Tryz.prog 115 #[v] w fun e w' => e = .returned (.bool false) ∧ w' = w := by
  refine (nameI_any w v l h).mono ?_
  rintro e w' ⟨rfl, h⟩
  exact ⟨by simp [hn], h⟩
open Classical in
set_option maxHeartbeats 1600000 in
theorem textI_any (w : World) (v : Value) (l : List Int) (h : Byt w v l) :
    Calls Tryz.prog 114 #[v] w fun e w' => e = .returned (.bool (decide (TextOk l))) ∧ w' = w := by
  by_cases hl : 30 < l.length
  · obtain ⟨a, cap, rfl, _⟩ := h.shape
    have HD := hide (show decide (TextOk l) = false by simp only [decide_eq_false_iff_not]; rintro ⟨_, _⟩; omega)
    have d2 : (30 : Int) < (l.length : Int) := by omega
    go_enter Tryz.func114, Tryz.ntmps114
    go_wp2
    go_ret
    exact ⟨by rw [unhide HD]; rfl, rfl⟩
  have d2 : ¬ (30 : Int) < (l.length : Int) := by omega
  by_cases h0 : l = []
  · obtain ⟨a, cap, rfl, _⟩ := h.shape
    subst h0
    have HD := hide (show decide (TextOk []) = true by simp only [decide_eq_true_eq]; exact ⟨by simp, fun i hi => by simp at hi⟩)
    go_enter Tryz.func114, Tryz.ntmps114
    go_wp2
    refine wp_loop_rounds 1 ?_
    rw [rounds_succ]
    go_wp2
    go_ret
    exact ⟨by rw [unhide HD]; rfl, rfl⟩
  obtain ⟨hok, hm, ⟨_, e⟩ | ⟨_, _, _, _, e⟩ | ⟨b, off, cap, rfl, _, _, _, _, hc⟩⟩ := h
  · exact absurd e h0
  · exact absurd e h0
  go_enter Tryz.func114, Tryz.ntmps114
  go_wp2
  go_loop [10] (fun i => ∃ k : Nat, k ≤ l.length ∧ i = .int .i64 k ∧ allTo textCh l k) (fun i => l.length - (intOf i).toNat)
  case atStart => exact ⟨0, Nat.zero_le _, rfl, fun i hi => by omega⟩
  case round =>
    obtain ⟨k, hk, rfl, ha⟩ := hrel
    have HA := hide ha
    clear ha
    by_cases hlt : k < l.length
    · obtain ⟨x, hx⟩ : ∃ x, x = l.getD k 0 := ⟨_, rfl⟩
      have hcx : w.cell? ⟨b, off + k, none⟩ = some (.int .u8 x) := by rw [hx]; exact hc _ hlt
      have HX := hide hx
      have hlt' : (k : Int) < (l.length : Int) := by omega
      clear hc hx
      by_cases hn : textCh k x
      · have HN := hide hn
        have sx := standB_yes (x := x) (by unfold textCh at hn; omega)
        clear hn
        go_wp2_with (go_at_call 144; refine (stand_any x _).mono ?_; rintro e w' ⟨rfl, rfl⟩)
        go_round
        case rel => exact ⟨k + 1, by omega, by go_num, allTo_step (unhide HA) (by rw [← unhide HX]; exact unhide HN)⟩
        case measure => simp [intOf]; omega
      · have HF := hide (show decide (TextOk l) = false by
          simp only [decide_eq_false_iff_not]
          rintro ⟨_, h⟩
          exact hn (by rw [unhide HX]; exact h k hlt))
        have sx := standB_no (x := x) (by unfold textCh at hn; omega)
        clear hn
        go_wp2_with (go_at_call 144; refine (stand_any x _).mono ?_; rintro e w' ⟨rfl, rfl⟩)
        go_ret
        exact ⟨by rw [unhide HF]; rfl, rfl⟩
    · have e : k = l.length := by omega
      subst e
      have HF := hide (show decide (TextOk l) = true by simp only [decide_eq_true_eq]; exact ⟨by omega, unhide HA⟩)
      clear hc
      go_wp2
      go_ret
      exact ⟨by rw [unhide HF]; rfl, rfl⟩

theorem textI_yes (w : World) (v : Value) (l : List Int) (h : Byt w v l) (hn : TextOk l) : Calls Tryz.prog 114 #[v] w fun e w' => e = .returned (.bool true) ∧ w' = w := by
  refine (textI_any w v l h).mono ?_
  rintro e w' ⟨rfl, h⟩
  exact ⟨by simp [hn], h⟩
theorem textI_no (w : World) (v : Value) (l : List Int) (h : Byt w v l) (hn : ¬ TextOk l) : Calls Tryz.prog 114 #[v] w fun e w' => e = .returned (.bool false) ∧ w' = w := by
  refine (textI_any w v l h).mono ?_
  rintro e w' ⟨rfl, h⟩
  exact ⟨by simp [hn], h⟩

end Go.Proofs.YtfhekoipnlmhoaaGreat

/- bytes.Compare at readable rows answers the order of the bytes; bytes.Equal whether they are one. -/
namespace Go.Proofs.YtfhekoipnlmhoaaGreat
open Go.RowKit
set_option linter.unusedVariables false
set_option maxRecDepth 100000

theorem run_bytesOfB (w : World) (u : Value) (a : List Int) (h : Byt w u a) : (Extern.Bytes.bytesOf u).run Tryz.prog w = .ok ⟨(Lib.bytesOf a).toArray⟩ w := by
  obtain ⟨hoka, _, ⟨rfl, rfl⟩ | ⟨x, cap, rfl, hc, rfl⟩ | ⟨p, off, cap, rfl, h1, h2, h3, h4, h5⟩⟩ := h
  · rfl
  · rfl
  · have hl := Lib.run_loadBytesX (P := Tryz.prog) w a ⟨p, off, none⟩ .empty (fun j x hj => by
      have hjl : j < a.length := (List.getElem?_eq_some_iff.1 hj).1
      rw [add_plain, h5 j hjl, List.getD_eq_getElem?_getD, hj]; rfl)
    have he : (⟨ByteArray.empty.data ++ (Lib.bytesOf a).toArray⟩ : ByteArray) = ⟨(Lib.bytesOf a).toArray⟩ := by
      apply ByteArray.ext
      show (#[] : Array UInt8) ++ (Lib.bytesOf a).toArray = (Lib.bytesOf a).toArray
      simp
    rw [he] at hl
    exact hl

/-- The order of two rows: below 0, 0, above 0. -/
def cmpB (a b : List Int) : Int := Lib.compareBytes (Lib.bytesOf a) (Lib.bytesOf b)

theorem cmp_run (w : World) (u v : Value) (a b : List Int) (hu : Byt w u a) (hv : Byt w v b) : (callFunc 164 #[u, v]).run Tryz.prog w = .ok (.value (.int .i64 (cmpB a b))) w := by
  rw [run_callFunc_extern Tryz.func164 (by kernel_rfl) (by kernel_rfl) (by kernel_rfl) (e := Extern.BytealgCompare.compare) (by kernel_rfl)]
  have e : (Extern.BytealgCompare.compare #[u, v]).run Tryz.prog w = .ok (.int .i64 (cmpB a b)) w := by
    change Sem.run Tryz.prog (do pure (goInt (Extern.BytealgCompare.cmp (← Extern.Bytes.bytesOf u) (← Extern.Bytes.bytesOf v)))) w = _
    simp only [Sem.run_bind, Sem.run_pure, run_bytesOfB w u a hu, run_bytesOfB w v b hv, Result.andThen]
    rw [Lib.cmp_eq]
    rfl
  rw [e]
  rfl

theorem compare_less : ∀ (a b : List UInt8), Op.bytesLess a b = decide (Lib.compareBytes a b < 0)
  | [], [] => rfl
  | [], _ :: _ => rfl
  | _ :: _, [] => rfl
  | x :: a, y :: b => by
    have ih := compare_less a b
    unfold Op.bytesLess Lib.compareBytes
    by_cases h1 : x < y
    · simp [h1]
    · by_cases h2 : y < x
      · have hne : ¬ x = y := fun e => by subst e; exact h1 h2
        simp [h1, h2, hne]
      · have he : x = y := UInt8.le_antisymm (UInt8.not_lt.1 h2) (UInt8.not_lt.1 h1)
        subst he
        simp [h1, ih]
theorem lessB_cmp (a b : List Int) : lessT a b = decide (cmpB a b < 0) := by
  unfold lessT cmpB
  rw [toList_data, toList_data, str_list, str_list, compare_less]
  rfl
theorem compare_bd : ∀ (a b : List UInt8), -1 ≤ Lib.compareBytes a b ∧ Lib.compareBytes a b ≤ 1
  | [], [] => by decide
  | [], _ :: _ => by simp [Lib.compareBytes]
  | _ :: _, [] => by simp [Lib.compareBytes]
  | x :: a, y :: b => by
    have ih := compare_bd a b
    unfold Lib.compareBytes
    split
    · decide
    · split
      · decide
      · exact ih
theorem cmpB_bd (a b : List Int) : -1 ≤ cmpB a b ∧ cmpB a b ≤ 1 := compare_bd _ _

theorem cmpI_any (w : World) (u v : Value) (a b : List Int) (hu : Byt w u a) (hv : Byt w v b) :
    Calls Tryz.prog 159 #[u, v] w fun e w' => e = .returned (.int .i64 (cmpB a b)) ∧ w' = w := by
  have hr := cmp_run w u v a b hu hv
  obtain ⟨a1, k1, rfl, _⟩ := hu.shape
  obtain ⟨a2, k2, rfl, _⟩ := hv.shape
  generalize cmpB a b = c at *
  go_enter Tryz.func159, Tryz.ntmps159
  go_wp2
  go_ret
  exact ⟨rfl, rfl⟩
end Go.Proofs.YtfhekoipnlmhoaaGreat

/- impl.attrsOk answers what the plain test says. -/
namespace Go.Proofs.YtfhekoipnlmhoaaGreat
open Go.RowKit
set_option linter.unusedVariables false
set_option maxRecDepth 100000

open Classical in
set_option maxHeartbeats 3200000 in
theorem attrsI_any (w : World) (v : Value) (l : List (List Int × List Int)) (h : RdAttrs w v l) :
    Calls Tryz.prog 153 #[v] w fun e w' => e = .returned (.bool (decide (AttrsOk l))) ∧ Below w.heap.size w w' := by
  by_cases hl : 4 < l.length
  · obtain ⟨a, cap, rfl, _⟩ := Elems.shape h
    have HD := hide (show decide (AttrsOk l) = false by simp only [decide_eq_false_iff_not]; rintro ⟨_, _⟩; omega)
    have d2 : (4 : Int) < (l.length : Int) := by omega
    go_enter Tryz.func153, Tryz.ntmps153
    go_wp2_with fail
    go_ret
    exact ⟨by rw [unhide HD]; rfl, Below.refl _ _⟩
  have d2 : ¬ (4 : Int) < (l.length : Int) := by omega
  by_cases h0 : l = []
  · obtain ⟨a, cap, rfl, _⟩ := Elems.shape h
    subst h0
    have HD := hide (show decide (AttrsOk []) = true by simp only [decide_eq_true_eq]; exact ⟨by simp, fun i hi => by simp at hi⟩)
    go_enter Tryz.func153, Tryz.ntmps153
    go_wp2_with fail
    refine wp_loop_rounds 1 ?_
    rw [rounds_succ]
    go_wp2_with fail
    go_ret
    exact ⟨by rw [unhide HD]; rfl, Below.refl _ _⟩
  obtain ⟨_, ⟨_, e⟩ | ⟨_, _, _, _, e⟩ | ⟨b, off, cap, rfl, g1, g2, g3, g4, g5⟩⟩ := h
  · exact absurd e h0
  · exact absurd e h0
  go_enter Tryz.func153, Tryz.ntmps153
  go_wp2_with fail
  go_loopw [10] (fun i wr => ∃ k : Nat, k ≤ l.length ∧ i = .int .i64 k ∧ (∀ i, i < k → attrAt l i) ∧ Below w.heap.size w wr) (fun i _ => l.length - (intOf i).toNat)
  case atStart => exact ⟨0, Nat.zero_le _, rfl, fun i hi => by omega, Below.refl _ _⟩
  case round =>
    obtain ⟨k, hk, rfl, ha, hB⟩ := hrel
    have HA := hide ha
    clear ha
    by_cases hlt : k < l.length
    · obtain ⟨c0, c1, e0, e1, hc⟩ := two_of (g5 k hlt)
      obtain ⟨_, _, ee, hc0, hc1⟩ := hc
      simp only [List.cons.injEq, and_true] at ee
      obtain ⟨rfl, rfl⟩ := ee
      replace e0 := (hB.cell (p := ⟨b, off + k * 2, none⟩) g4).trans e0
      replace e1 := (hB.cell (p := ⟨b, off + k * 2 + 1, none⟩) g4).trans e1
      replace hc0 := hc0.keep hB
      replace hc1 := hc1.keep hB
      have hlt' : (k : Int) < (l.length : Int) := by omega
      have hk0 : (0 : Int) ≤ (k : Int) := by omega
      obtain ⟨x, hx⟩ : ∃ x, x = l[k] := ⟨_, rfl⟩
      rw [← hx] at hc0 hc1
      have hgd : l.getD k ([], []) = x := by rw [hx]; simp [hlt]
      obtain ⟨a0, n0, hv0, _, _⟩ := hc0.shape
      obtain ⟨a1, n1, hv1, _, _⟩ := hc1.shape
      subst hv0 hv1
      have HGD := hide hgd
      have HX := hide hx
      clear hgd hx
      have hB1 : Below wr.heap.size wr (wr.alloc (.cells #[.slice a0 x.1.length n0, .slice a1 x.2.length n1] 146)) := (Below.refl _ _).alloc (Nat.le_refl _) _
      have l1 := Loc.made wr #[.slice a0 x.1.length n0, .slice a1 x.2.length n1] 146
      have hcell : ∀ j, j < l.length → ∃ y : Value, y ∈ [y] ∧ wr.cell? ⟨b, off + j * 2, none⟩ = some y ∧ Byt wr y (l.getD j ([], [])).1 := by
        intro j hj
        obtain ⟨p0, p1, u0, u1, hp⟩ := two_of (g5 j hj)
        obtain ⟨_, _, ee, hp0, hp1⟩ := hp
        simp only [List.cons.injEq, and_true] at ee
        obtain ⟨rfl, rfl⟩ := ee
        exact ⟨_, by simp, (hB.cell (p := ⟨b, off + j * 2, none⟩) g4).trans u0, by rw [show l.getD j ([], []) = l[j] by simp [hj]]; exact hp0.keep hB⟩
      have HC := hide hcell
      clear hcell g5
      have hbs : b < wr.heap.size := Nat.lt_of_lt_of_le g4 hB.size
      generalize hn0 : x.1.length = m0 at *
      generalize hn1 : x.2.length = m1 at *
      clear hn0 hn1
      go_wp2_with fail
      generalize wr.alloc (.cells #[.slice a0 m0 n0, .slice a1 m1 n1] 146) = w1 at *
      have c0 : w1.cell? ⟨wr.heap.size, 0, none⟩ = some (.slice a0 m0 n0) := l1.cell 0
      have c1 : w1.cell? ⟨wr.heap.size, 1, none⟩ = some (.slice a1 m1 n1) := l1.cell 1
      have hA1 := bstep hB hB1
      have HB1 := hide hB1
      clear hB1 e0 e1
      refine (nameI_any w1 _ x.1 (hc0.keep (unhide HB1))).mono ?_
      rintro e w1 ⟨rfl, rfl⟩
      by_cases hn : NameOk x.1
      · rw [show decide (NameOk x.1) = true by simpa using hn]
        go_wp2_with fail
        refine (textI_any w1 _ x.2 (hc1.keep (unhide HB1))).mono ?_
        rintro e w1 ⟨rfl, rfl⟩
        by_cases ht : TextOk x.2
        · rw [show decide (TextOk x.2) = true by simpa using ht]
          by_cases hkz : k = 0
          · have HT := hide (show attrAt l k from ⟨by rw [unhide HGD]; exact hn, by rw [unhide HGD]; exact ht, fun h => by omega⟩)
            subst hkz
            clear hn ht HC HX HGD hc0 hc1 HB1
            go_wp2_with fail
            go_quiet (fail)
            go_wp2_with fail
            go_roundw
            case rel => exact ⟨1, by omega, by go_num, fun i hi => by obtain rfl : i = 0 := (by omega); exact unhide HT, below_drewN hA1 _⟩
            case measure => simp [intOf]; omega
          · obtain ⟨y, _, u0, hp0⟩ := unhide HC (k - 1) (by omega)
            have hB1 := unhide HB1
            replace u0 := (hB1.cell (p := ⟨b, off + (k - 1) * 2, none⟩) hbs).trans u0
            replace hp0 := hp0.keep hB1
            have hx0 := hc0.keep hB1
            generalize hy : (l.getD (k - 1) ([], [])).1 = yl at *
            obtain ⟨a2, n2, hv2, _, _⟩ := hp0.shape
            subst hv2
            generalize yl.length = m2 at *
            have hkp : 0 < k := by omega
            have hkd : decide (0 < k) = true := by simp; omega
            have hk1 : (0 : Int) ≤ (k : Int) - 1 := by omega
            have hk2 : (k : Int) - 1 < (l.length : Int) := by omega
            have hk3 : ((k : Int) - 1).toNat = k - 1 := by omega
            have hcq : ∀ q, Calls Tryz.prog 159 #[.slice a2 m2 n2, .slice a0 m0 n0] (w1.drewN q) fun e w' => e = .returned (.int .i64 (cmpB yl x.1)) ∧ w' = w1.drewN q := fun q => cmpI_any _ _ _ _ _ (hp0.keep (below_drewN (Below.refl _ _) q)) (hx0.keep (below_drewN (Below.refl _ _) q))
            have HQ := hide hcq
            have hlc := lessB_cmp yl x.1
            by_cases hl2 : lessT yl x.1 = true
            · have HT := hide (show attrAt l k from ⟨by rw [unhide HGD]; exact hn, by rw [unhide HGD]; exact ht, fun _ => by rw [unhide HGD, hy]; exact hl2⟩)
              have hcz : decide (0 ≤ cmpB yl x.1) = false := by rw [hlc] at hl2; simp at hl2 ⊢; omega
              have hcz' : ¬ 0 ≤ cmpB yl x.1 := by simpa using hcz
              clear hn ht HX HGD hc0 hc1 HB1 HC hcq hlc hl2 hy hp0 hx0 hB1
              generalize cmpB yl x.1 = cm at *
              go_wp2_with fail
              go_quiet ((go_at_call 159; exact Calls.quiet_of_same (unhide HQ _)))
              go_wp2_with fail
              go_roundw
              case rel => exact ⟨k + 1, by omega, by go_num, fun i hi => step_all (unhide HA) (unhide HT) i hi, below_drewN hA1 _⟩
              case measure => simp [intOf]; omega
            · have HF := hide (show decide (AttrsOk l) = false by
                simp only [decide_eq_false_iff_not]
                rintro ⟨_, h⟩
                exact hl2 (by have := (h k hlt).2.2 (by omega); rwa [unhide HGD, hy] at this))
              have hcz : decide (0 ≤ cmpB yl x.1) = true := by rw [hlc] at hl2; simp at hl2 ⊢; omega
              have hcz' : 0 ≤ cmpB yl x.1 := by simpa using hcz
              clear hn ht HX HGD hc0 hc1 HB1 HC hcq hlc hl2 hy hp0 hx0 hB1
              generalize cmpB yl x.1 = cm at *
              go_wp2_with fail
              go_quiet ((go_at_call 159; exact Calls.quiet_of_same (unhide HQ _)))
              go_wp2_with fail
              go_ret
              exact ⟨by rw [unhide HF]; rfl, below_drewN hA1 _⟩
        · rw [show decide (TextOk x.2) = false by simpa using ht]
          have HF := hide (show decide (AttrsOk l) = false by
            simp only [decide_eq_false_iff_not]
            rintro ⟨_, h⟩
            exact ht (by have := (h k hlt).2.1; rwa [unhide HGD] at this))
          clear hn ht
          go_wp2_with fail
          go_ret
          exact ⟨by rw [unhide HF]; rfl, hA1⟩
      · have hd : decide (NameOk x.1) = false := by simpa using hn
        rw [hd]
        have HF := hide (show decide (AttrsOk l) = false by
          simp only [decide_eq_false_iff_not]
          rintro ⟨_, h⟩
          exact hn (by have := (h k hlt).1; rwa [unhide HGD] at this))
        clear hn hd
        go_wp2_with fail
        go_ret
        exact ⟨by rw [unhide HF]; rfl, hA1⟩
    · have e : k = l.length := by omega
      subst e
      have HF := hide (show decide (AttrsOk l) = true by simp only [decide_eq_true_eq]; exact ⟨by omega, unhide HA⟩)
      clear g5
      go_wp2_with fail
      go_ret
      exact ⟨by rw [unhide HF]; rfl, hB⟩
end Go.Proofs.YtfhekoipnlmhoaaGreat

/- The set of void names: the map that fill makes, and sync.Once over it, by contracts: the lock, the two deferred calls, doSlow. -/
namespace Go.Proofs.YtfhekoipnlmhoaaGreat
open Go.RowKit
set_option linter.unusedVariables false
set_option maxRecDepth 100000

/-- The map of br and hr, as it is made. -/
def voidMap : Obj := .map #[{ key := .string ⟨#[98, 114]⟩, val := .agg #[], born := 0 }, { key := .string ⟨#[104, 114]⟩, val := .agg #[], born := 1 }] 2

theorem alloc_put (W : World) (o o' : Obj) : ({ (W.alloc o) with heap := (W.alloc o).heap.setIfInBounds W.heap.size o' } : World) = W.alloc o' := by
  have e : (W.heap.push o).setIfInBounds W.heap.size o' = W.heap.push o' := by
    apply Array.ext'
    rw [Array.toList_setIfInBounds, Array.toList_push, Array.toList_push]
    rw [List.set_append_right _ _ (by simp)]
    simp
  show ({ W with heap := (W.heap.push o).setIfInBounds W.heap.size o' } : World) = { W with heap := W.heap.push o' }
  rw [e]

theorem br_in (W : World) : (Instr.mapUpdate 160 (.map (some W.heap.size)) (.string ⟨#[98, 114]⟩) (.agg #[])).run Tryz.prog (W.alloc (.map #[] 0)) = .ok () (W.alloc (.map #[{ key := .string ⟨#[98, 114]⟩, val := .agg #[], born := 0 }] 1)) := by
  rw [run_mapUpdate_first (P := Tryz.prog) (W.alloc (.map #[] 0)) 160 9 148 W.heap.size 0 ⟨#[98, 114]⟩ (.agg #[]) Tryz.underlying160 Tryz.underlying9 (heap_alloc_new W _), alloc_put]
theorem hr_in (W : World) : (Instr.mapUpdate 160 (.map (some W.heap.size)) (.string ⟨#[104, 114]⟩) (.agg #[])).run Tryz.prog (W.alloc (.map #[{ key := .string ⟨#[98, 114]⟩, val := .agg #[], born := 0 }] 1)) = .ok () (W.alloc voidMap) := by
  have hb := heap_alloc_new W (.map #[{ key := .string ⟨#[98, 114]⟩, val := .agg #[], born := 0 }] 1)
  have hf : Instr.findNow .string (.string ⟨#[104, 114]⟩) ([{ key := .string ⟨#[98, 114]⟩, val := .agg #[], born := 0 }] : List MapEntry) 0 = some none := rfl
  have hc : (Instr.checkKey false 10000 9 (.string ⟨#[104, 114]⟩)).run Tryz.prog (W.alloc (.map #[{ key := .string ⟨#[98, 114]⟩, val := .agg #[], born := 0 }] 1)) = .ok () (W.alloc (.map #[{ key := .string ⟨#[98, 114]⟩, val := .agg #[], born := 0 }] 1)) := MapKept.run_checkKey (k := .string ⟨#[104, 114]⟩) Tryz.underlying9 (by simp [MapKept.IsKey]) false 9999
  simp [Instr.mapUpdate, run_underlying Tryz.underlying160, MapKept.run_getObj_map hb, hc, MapKept.run_findKey Tryz.underlying9 hf, MapKept.run_setObj_map _ hb, Result.andThen]
  exact alloc_put W _ _

theorem fill_any (g : Nat) (w : World) (cs : Array Value) (hl : Loc w g cs 162) (c3 : Value) (h3 : w.cell? ⟨g, 3, none⟩ = some c3) :
    Calls Tryz.prog 152 #[.pointer (some ⟨g, 0, none⟩)] w fun e w' => e = .returned (.tuple #[]) ∧ w' = (w.setCell ⟨g, 3, none⟩ (.map (some w.heap.size))).alloc voidMap := by
  have hmm := @run_makeMap Tryz.prog
  have h1 := br_in w
  have h2 := hr_in w
  have hg := hl.lt
  have f3 := hl.frozen 3
  go_enter Tryz.func152, Tryz.ntmps152
  go_wp2
  go_end0
  exact ⟨rfl, rfl⟩

theorem disable (w : World) : (callFunc 169 #[]).run Tryz.prog w = .ok (.value (.tuple #[])) w := run_call_mark0 Tryz.func169 (by kernel_rfl) (by kernel_rfl) (by kernel_rfl) .disable (by kernel_rfl) w
theorem enable (w : World) : (callFunc 171 #[]).run Tryz.prog w = .ok (.value (.tuple #[])) w := run_call_mark0 Tryz.func171 (by kernel_rfl) (by kernel_rfl) (by kernel_rfl) .enable (by kernel_rfl) w
theorem acquire (a : Addr) (w : World) : (callFunc 172 #[.pointer (some a)]).run Tryz.prog w = .ok (.value (.tuple #[])) w := run_call_marked Tryz.func172 (by kernel_rfl) (by kernel_rfl) (by kernel_rfl) .acquire (by kernel_rfl) a w
theorem releaseMerge (a : Addr) (w : World) : (callFunc 174 #[.pointer (some a)]).run Tryz.prog w = .ok (.value (.tuple #[])) w := run_call_marked Tryz.func174 (by kernel_rfl) (by kernel_rfl) (by kernel_rfl) .releaseMerge (by kernel_rfl) a w

theorem store_deferred (a : Addr) (x : Value) (u : FrameMode) (w : World) (hc : w.cell? a = some x) (hz : w.frozen? a = false) :
    CallsD Tryz.prog 163 #[.pointer (some a), .bool true] u w fun e u' w' => u' = u ∧ (e = .returned (.tuple #[]) ∧ w' = w.drew.setCell a (.int .u32 1)) := by
  have hc' : w.drew.cell? a = some x := by go_simp
  have hz' : w.drew.frozen? a = false := by go_simp
  have hst := run_call_store (P := Tryz.prog) Tryz.func167 (by kernel_rfl) (by kernel_rfl) (by kernel_rfl) (by kernel_rfl) (k := .u32) (y := 1) hc' hz'
  go_enter_d Tryz.func163, Tryz.ntmps163
  go_wp2
  go_region_calls
  all_goals (go_end0; exact ⟨rfl, rfl⟩)

theorem unlock_deferred (a : Addr) (u : FrameMode) (w : World) (hc : w.cell? a = some (.int .i32 1)) (hz : w.frozen? a = false) :
    CallsD Tryz.prog 162 #[.pointer (some a)] u w fun e u' w' => u' = u ∧ (e = .returned (.tuple #[]) ∧ w' = w.setCell a (.int .i32 0)) := by
  have hd := disable
  have he := enable
  have hr := releaseMerge
  have hadd := run_call_add (P := Tryz.prog) Tryz.func175 (by kernel_rfl) (by kernel_rfl) (by kernel_rfl) .i32 (by kernel_rfl) (y := -1) (s := 0) hc hz (by simp [go_sem]; rfl)
  have hcv := run_convert_to_unsafe (P := Tryz.prog) (src := 186) (dst := 190) Tryz.underlying186 Tryz.underlying190 (by kernel_rfl) hc
  go_enter_d Tryz.func162, Tryz.ntmps162
  go_wp2
  go_end0
  go_wp2
  go_end0
  exact ⟨rfl, rfl⟩

theorem lock_free (a : Addr) (w : World) (hc : w.cell? a = some (.int .i32 0)) (hz : w.frozen? a = false) :
    Calls Tryz.prog 161 #[.pointer (some a)] w fun e w' => e = .returned (.tuple #[]) ∧ w' = w.setCell a (.int .i32 1) := by
  have hd := disable
  have he := enable
  have ha := acquire
  have hcas := run_call_cas_hit (P := Tryz.prog) Tryz.func170 (by kernel_rfl) (by kernel_rfl) (by kernel_rfl) .i32 (by kernel_rfl) (y := 1) hc hz
  have hc' : (w.setCell a (.int .i32 1)).cell? a = some (.int .i32 1) := World.cell?_setCell_same w a _ hc
  have hcv := run_convert_to_unsafe (P := Tryz.prog) (src := 186) (dst := 190) Tryz.underlying186 Tryz.underlying190 (by kernel_rfl) hc'
  go_enter Tryz.func161, Tryz.ntmps161
  go_wp2
  first | go_end0 | (simp only [Exit.inBlock, Exit.then]; refine bodyPost_ret (results_none rfl _ _ _) rfl ?_) | refine bodyPost_ret (results_none rfl _ _ _) rfl ?_
  go_wp2
  go_end0
  exact ⟨rfl, rfl⟩

end Go.Proofs.YtfhekoipnlmhoaaGreat

/- sync.Once over the set of void names: doSlow and Do, the first time and later; has. -/
namespace Go.Proofs.YtfhekoipnlmhoaaGreat
open Go.RowKit
set_option linter.unusedVariables false
set_option maxRecDepth 100000

/-- A set that is not yet made; that is made. -/
def vs0 : Array Value := #[.int .u32 0, .int .i32 0, .int .u32 0, .map none]
def vs1 (m : Nat) : Array Value := #[.int .u32 1, .int .i32 0, .int .u32 0, .map (some m)]

theorem load_any (a : Addr) (x : Int) (w : World) (hc : w.cell? a = some (.int .u32 x)) (b : Bool) (hb : (x != 0) = b) :
    Calls Tryz.prog 157 #[.pointer (some a)] w fun e w' => e = .returned (.bool b) ∧ w' = w := by
  have hlo := run_call_load (P := Tryz.prog) Tryz.func160 (by kernel_rfl) (by kernel_rfl) (by kernel_rfl) .u32 (by kernel_rfl) hc
  go_enter Tryz.func157, Tryz.ntmps157
  go_wp2
  go_ret
  exact ⟨rfl, rfl⟩

theorem Frm.drew (w : World) (S : List Nat) : Frm w w.drew S := Frm.ofBelow ((Below.refl _ _).drew) S
theorem setCell_os (w : World) (a : Addr) (v : Value) : (w.setCell a v).os = w.os := by unfold World.setCell; repeat (first | rfl | split)
theorem setCell_tape (w : World) (a : Addr) (v : Value) : (w.setCell a v).tape = w.tape := by unfold World.setCell; repeat (first | rfl | split)
theorem setCell_output (w : World) (a : Addr) (v : Value) : (w.setCell a v).output = w.output := by unfold World.setCell; repeat (first | rfl | split)
theorem Frm.set (w : World) (g j : Nat) (v : Value) : Frm w (w.setCell ⟨g, j, none⟩ v) [g] :=
  ⟨setCell_os w _ v, setCell_tape w _ v, setCell_output w _ v, by simp, fun i _ hn => heap_setCell_other w ⟨g, j, none⟩ i v (fun e => hn (by simp; exact e))⟩
theorem Frm.alloc (w : World) (o : Obj) (S : List Nat) : Frm w (w.alloc o) S := Frm.ofBelow ((Below.refl _ _).alloc (Nat.le_refl _) _) S

set_option maxHeartbeats 1600000 in
theorem slow_any (g : Nat) (w : World) (hl : Loc w g vs0 162) :
    Calls Tryz.prog 158 #[.pointer (some ⟨g, 0, none⟩), .func (.func 152) #[.pointer (some ⟨g, 0, none⟩)] #[]] w fun e w' => e = .returned (.tuple #[]) ∧ ∃ m, w.heap.size ≤ m ∧ Loc w' g (vs1 m) 162 ∧ w'.heap[m]? = some voidMap ∧ Frm w w' [g] := by
  have h1 : w.cell? ⟨g, 1, none⟩ = some (.int .i32 0) := hl.cell 1
  have f1 := hl.frozen 1
  have l1 : Loc (w.setCell ⟨g, 1, none⟩ (.int .i32 1)) g #[.int .u32 0, .int .i32 1, .int .u32 0, .map none] 162 := hl.set 1 (.int .i32 1)
  have F1 := Frm.set w g 1 (.int .i32 1)
  have hnot : ∀ (x : Bool) (w : World), (Op.unary .not (.bool x)).run Tryz.prog w = .ok (.bool (!x)) w := fun _ _ => rfl
  go_enter_defers Tryz.func158, Tryz.ntmps158
  go_wp2_with (go_at_call 161; refine (lock_free ⟨g, 1, none⟩ _ (by go_simp) (by go_simp)).mono ?_; rintro e w' ⟨rfl, rfl⟩)
  generalize w.setCell ⟨g, 1, none⟩ (.int .i32 1) = w1 at *
  refine (load_any ⟨g, 0, none⟩ 0 w1 (l1.cell 0) false (by simp)).mono ?_
  rintro e w1 ⟨rfl, rfl⟩
  go_wp2_with fail
  refine (fill_any g w1 _ l1 _ (l1.cell 3)).mono ?_
  rintro e w2 ⟨rfl, hw2⟩
  have l2 : Loc w2 g #[.int .u32 0, .int .i32 1, .int .u32 0, .map (some w1.heap.size)] 162 := by rw [hw2]; exact (l1.set 3 (.map (some w1.heap.size))).alloc _
  have m2 : w2.heap[w1.heap.size]? = some voidMap := by rw [hw2]; have := heap_alloc_new (w1.setCell ⟨g, 3, none⟩ (.map (some w1.heap.size))) voidMap; rwa [show (w1.setCell ⟨g, 3, none⟩ (.map (some w1.heap.size))).heap.size = w1.heap.size by simp] at this
  have F2 : Frm w1 w2 [g] := by rw [hw2]; exact (Frm.set w1 g 3 _).trans (Frm.alloc _ _ _)
  have hne : w1.heap.size ≠ g := by have := l1.lt; omega
  have F12 := F1.trans F2
  have hmm := F1.size
  clear hw2
  generalize w1.heap.size = m at *
  go_wp2_with fail
  refine leaves_cons (f := 163) (args := #[.pointer (some ⟨g, 0, none⟩), .bool true]) (by simp) (by simp [go_sem]) ?_
  refine (store_deferred ⟨g, 0, none⟩ (.int .u32 0) .returning _ (l2.cell 0) (l2.frozen 0)).mono ?_
  rintro e u' w3 ⟨rfl, rfl, hw3⟩
  have ld : Loc w2.drew g #[.int .u32 0, .int .i32 1, .int .u32 0, .map (some m)] 162 := l2.frm (Frm.drew w2 []) (by simp)
  have l3 : Loc w3 g #[.int .u32 1, .int .i32 1, .int .u32 0, .map (some m)] 162 := by rw [hw3]; exact ld.set 0 (.int .u32 1)
  have F3 : Frm w2 w3 [g] := by rw [hw3]; exact (Frm.drew w2 _).trans (Frm.set _ g 0 _)
  clear hw3
  refine leaves_cons (f := 162) (args := #[.pointer (some ⟨g, 1, none⟩)]) (by simp [settle]) (by simp [go_sem]) ?_
  refine (unlock_deferred ⟨g, 1, none⟩ _ _ (l3.cell 1) (l3.frozen 1)).mono ?_
  rintro e u' w4 ⟨rfl, rfl, hw4⟩
  have l4 : Loc w4 g (vs1 m) 162 := by rw [hw4]; exact l3.set 1 (.int .i32 0)
  have F4 : Frm w3 w4 [g] := by rw [hw4]; exact Frm.set _ g 1 _
  have hm : m < w2.heap.size := by
    by_cases h : m < w2.heap.size
    · exact h
    · rw [Array.getElem?_eq_none (by omega)] at m2; cases m2
  have F34 := F3.trans F4
  have m4 : w4.heap[m]? = some voidMap := (F34.block m hm (by simpa using hne)).trans m2
  simp [Leaves, settle, results, Tryz.results158]
  exact ⟨m, hmm, l4, m4, F12.trans F34⟩
end Go.Proofs.YtfhekoipnlmhoaaGreat

/- sync.Once.Do over the set of void names, and the set asked: has. -/
namespace Go.Proofs.YtfhekoipnlmhoaaGreat
open Go.RowKit
set_option linter.unusedVariables false
set_option maxRecDepth 100000

/-- The set lies in block g, made or not yet. -/
def VMade (B : Nat) (w : World) (g : Nat) : Prop := ∃ m, B ≤ m ∧ Loc w g (vs1 m) 162 ∧ w.heap[m]? = some voidMap
def VSet (B : Nat) (w : World) (g : Nat) : Prop := Loc w g vs0 162 ∨ VMade B w g

theorem do_any (B g : Nat) (w : World) (h : VSet B w g) (hB : B ≤ w.heap.size) :
    Calls Tryz.prog 151 #[.pointer (some ⟨g, 0, none⟩), .func (.func 152) #[.pointer (some ⟨g, 0, none⟩)] #[]] w fun e w' => e = .returned (.tuple #[]) ∧ VMade B w' g ∧ Frm w w' [g] := by
  have hnot : ∀ (x : Bool) (w : World), (Op.unary .not (.bool x)).run Tryz.prog w = .ok (.bool (!x)) w := fun _ _ => rfl
  rcases h with hl | ⟨m, hbm, hl, hm⟩
  · have h0 : w.cell? ⟨g, 0, none⟩ = some (.int .u32 0) := hl.cell 0
    go_enter Tryz.func151, Tryz.ntmps151
    go_wp2_with fail
    refine (load_any ⟨g, 0, none⟩ 0 w h0 false (by simp)).mono ?_
    rintro e w ⟨rfl, rfl⟩
    go_wp2_with fail
    refine (slow_any g w hl).mono ?_
    rintro e w' ⟨rfl, m, hbm, l', m', F'⟩
    go_wp2_with fail
    go_end0
    exact ⟨rfl, ⟨m, Nat.le_trans hB hbm, l', m'⟩, F'⟩
  · have h0 : w.cell? ⟨g, 0, none⟩ = some (.int .u32 1) := hl.cell 0
    go_enter Tryz.func151, Tryz.ntmps151
    go_wp2_with fail
    refine (load_any ⟨g, 0, none⟩ 1 w h0 true (by simp)).mono ?_
    rintro e w ⟨rfl, rfl⟩
    go_wp2_with fail
    go_end0
    exact ⟨rfl, ⟨m, hbm, hl, hm⟩, Frm.refl _ _⟩

def voidS (s : ByteArray) : Bool := s == ⟨#[98, 114]⟩ || s == ⟨#[104, 114]⟩
theorem look_void (w : World) (m : Nat) (s : ByteArray) (hm : w.heap[m]? = some voidMap) :
    (Instr.lookup 160 (.map (some m)) (.string s) true).run Tryz.prog w = .ok (.tuple #[.agg #[], .bool (voidS s)]) w := by
  have hc : (Instr.checkKey false 10000 9 (.string s)).run Tryz.prog w = .ok () w := MapKept.run_checkKey (k := .string s) Tryz.underlying9 (by simp [MapKept.IsKey]) false 9999
  have hz : (zeroValue 148).run Tryz.prog w = .ok (.agg #[]) w := by kernel_rfl
  have hb : w.heap[m]? = some (.map #[{ key := .string ⟨#[98, 114]⟩, val := .agg #[], born := 0 }, { key := .string ⟨#[104, 114]⟩, val := .agg #[], born := 1 }] 2) := hm
  by_cases h1 : (s == ⟨#[98, 114]⟩) = true
  · have hf : Instr.findNow .string (.string s) ([{ key := .string ⟨#[98, 114]⟩, val := .agg #[], born := 0 }, { key := .string ⟨#[104, 114]⟩, val := .agg #[], born := 1 }] : List MapEntry) 0 = some (some (0, .agg #[])) := by simp [Instr.findNow, Instr.sameNow, h1]
    simp [Instr.lookup, run_underlying Tryz.underlying160, MapKept.run_getObj_map hb, hc, MapKept.run_findKey Tryz.underlying9 hf, Result.andThen, voidS, h1]
  · have h1' : (s == ⟨#[98, 114]⟩) = false := by simpa using h1
    by_cases h2 : (s == ⟨#[104, 114]⟩) = true
    · have hf : Instr.findNow .string (.string s) ([{ key := .string ⟨#[98, 114]⟩, val := .agg #[], born := 0 }, { key := .string ⟨#[104, 114]⟩, val := .agg #[], born := 1 }] : List MapEntry) 0 = some (some (1, .agg #[])) := by simp [Instr.findNow, Instr.sameNow, h1', h2]
      simp [Instr.lookup, run_underlying Tryz.underlying160, MapKept.run_getObj_map hb, hc, MapKept.run_findKey Tryz.underlying9 hf, Result.andThen, voidS, h1', h2]
    · have h2' : (s == ⟨#[104, 114]⟩) = false := by simpa using h2
      have hf : Instr.findNow .string (.string s) ([{ key := .string ⟨#[98, 114]⟩, val := .agg #[], born := 0 }, { key := .string ⟨#[104, 114]⟩, val := .agg #[], born := 1 }] : List MapEntry) 0 = some none := by simp [Instr.findNow, Instr.sameNow, h1', h2']
      simp [Instr.lookup, run_underlying Tryz.underlying160, MapKept.run_getObj_map hb, hc, MapKept.run_findKey Tryz.underlying9 hf, hz, Result.andThen, voidS, h1', h2']

theorem str_mk (l : List Int) (b : ByteArray) (h : b.data.toList = l.map (fun n => UInt8.ofNat n.toNat)) : str l = b :=
  ByteArray.ext (Array.ext' (by rw [str_list, h]))
open Classical in
theorem voidS_str (l : List Int) (hl : okB l) : voidS (str l) = decide (Void l) := by
  have e1 : (⟨#[98, 114]⟩ : ByteArray) = str [98, 114] := (str_mk _ _ rfl).symm
  have e2 : (⟨#[104, 114]⟩ : ByteArray) = str [104, 114] := (str_mk _ _ rfl).symm
  have hb : ∀ k, okB k → (str l == str k) = decide (l = k) := fun k hk => by
    by_cases h : l = k
    · subst h; rw [(MapKept.bytes_beq _ _).2 rfl]; simp
    · rw [decide_eq_false h, ← Bool.not_eq_true, MapKept.bytes_beq]
      intro e
      exact h (str_inj hl hk (by rw [e]))
  unfold voidS
  rw [e1, e2, hb _ okB_br, hb _ okB_hr]
  unfold Void
  rw [Bool.eq_iff_iff]
  simp

theorem hasmap_drew {w : World} {m : Nat} (h : w.heap[m]? = some voidMap) : w.drew.heap[m]? = some voidMap := h

open Classical in
set_option maxHeartbeats 1600000 in
theorem has_any (B g : Nat) (w : World) (v : Value) (l : List Int) (h : VSet B w g) (hBB : B ≤ w.heap.size) (hv : ∀ w', Frm w w' [g] → Byt w' v l) :
    Calls Tryz.prog 141 #[.pointer (some ⟨g, 0, none⟩), v] w fun e w' => e = .returned (.bool (decide (Void l))) ∧ VMade B w' g ∧ Frm w w' [g] := by
  have hmf : ∀ (fn : Fn) (first cap : Array Value) (w : World), (Instr.makeFunc fn first cap).run Tryz.prog w = .ok (.func fn first cap) w := fun _ _ _ _ => rfl
  have hg : g < w.heap.size := by
    rcases h with h | ⟨m, _, h, _⟩
    · exact h.lt
    · exact h.lt
  obtain ⟨a1, k1, rfl, _⟩ := (hv w (Frm.refl _ _)).shape
  have HV := hide hv
  clear hv
  go_enter Tryz.func141, Tryz.ntmps141
  go_wp2_with fail
  refine (do_any B g w h hBB).mono ?_
  rintro e w1 ⟨rfl, ⟨m, hbm, l1, m1⟩, F1⟩
  have h3 : w1.cell? ⟨g, 3, none⟩ = some (.map (some m)) := l1.cell 3
  have h3d : w1.drew.cell? ⟨g, 3, none⟩ = some (.map (some m)) := l1.cell 3
  have h3a : (w1.alloc (.cells #[] 148)).cell? ⟨g, 3, none⟩ = some (.map (some m)) := (l1.alloc _).cell 3
  have hlt : m < w1.heap.size := by
    by_cases h : m < w1.heap.size
    · exact h
    · rw [Array.getElem?_eq_none (by omega)] at m1; cases m1
  have hb1 : Byt w1 _ l := unhide HV w1 F1
  have c1 := conv_any w1.drew _ l (hb1.keep ((Below.refl _ _).drew))
  have c2 := conv_any (w1.alloc (.cells #[] 148)).drew _ l (hb1.keep (((Below.refl _ _).alloc (Nat.le_refl _) _).drew))
  have q1 := fun s => look_void w1.drew m s m1
  have q2 := fun s => look_void (w1.alloc (.cells #[] 148)).drew m s ((heap_alloc_old w1 _ hlt).trans m1)
  have HS := hide (voidS_str l hb1.1)
  generalize str l = s at *
  generalize l.length = n at *
  go_wp2_with fail
  go_region
  all_goals
    go_wp2_with fail
    go_ret
    exact ⟨by rw [← unhide HS]; rfl, ⟨m, hbm, (l1.alloc _).all ((Below.refl _ _).drew), (heap_alloc_old w1 _ hlt).trans m1⟩, F1.trans ((Frm.alloc w1 _ _).trans (Frm.drew _ _))⟩
end Go.Proofs.YtfhekoipnlmhoaaGreat
