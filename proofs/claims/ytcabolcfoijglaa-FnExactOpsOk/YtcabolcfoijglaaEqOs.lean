/- Rows of the same operations are alike. -/
import Derived.Test.YtcabolcfoijglaaOpsM
import Derived.Test.YtcabolcfoijglaaEqP
import Derived.Deep.RegionHeld3
namespace Go.Proofs.Ytcabolcfoijglaa
open Go.RowKit
set_option linter.unusedVariables false
set_option maxRecDepth 100000

set_option maxHeartbeats 3200000 in
theorem eqOps_same (w : World) (u v : Value) (l : List OpV) (hu : RdOps w u l) (hv : RdOps w v l) :
    Calls Try.prog 25 #[u, v] w fun e w' => e = .returned (.bool true) ∧ Below w.heap.size w w' := by
  have hm := hu.1
  unfold maxLen at hm
  obtain ⟨rfl, a, cap, rfl⟩ | ⟨b, off, cap, rfl, hnil, g4, g5⟩ := hu.cases
  · obtain ⟨a', cap', rfl, _, _⟩ := Elems.shape hv
    go_enter Try.func25, Try.ntmps25
    go_wp2_with fail
    refine wp_loop_rounds 1 ?_
    rw [rounds_succ]
    go_wp2_with fail
    go_ret
    exact ⟨rfl, Below.refl _ _⟩
  obtain ⟨rfl, _⟩ | ⟨b', off', cap', rfl, _, f4, f5⟩ := hv.cases
  · exact absurd rfl hnil
  go_enter Try.func25, Try.ntmps25
  go_wp2_with fail
  go_loopw [5] (fun i wr => ∃ k : Nat, k ≤ l.length ∧ i = .int .i64 k ∧ Below w.heap.size w wr) (fun i _ => l.length - (intOf i).toNat)
  case atStart => exact ⟨0, Nat.zero_le _, rfl, Below.refl _ _⟩
  case round =>
    obtain ⟨k, hk, rfl, hB⟩ := hrel
    by_cases hlt : k < l.length
    · have HE := hide (fun W u v (hu : RdOp W u l[k]) (hv : RdOp W v l[k]) => eqOp_same W u v l[k] hu hv)
      obtain ⟨a1, c1, a2, c2, a3, c3, e0, e1, e2, e3, e4, e5, e6, e7, e8, e9, e10, e11, hr⟩ := opc_at hB g4 (g5 k hlt)
      obtain ⟨a1', c1', a2', c2', a3', c3', i0, i1, i2, i3, i4, i5, i6, i7, i8, i9, i10, i11, hr'⟩ := opc_at hB f4 (f5 k hlt)
      have hlt' : (k : Int) < (l.length : Int) := by omega
      have hk0 : (0 : Int) ≤ (k : Int) := by omega
      have HR := hide hr
      have HR' := hide hr'
      unfold opVal at HR HR'
      generalize l[k] = o at *
      generalize o.key.length = nK at *
      generalize o.name.length = nN at *
      generalize o.text.length = nT at *
      clear g5 f5 hr hr' hnil
      go_wp2_with fail
      go_region_held3 (fun w' => w'.cell? ⟨b, off + k * 12, none⟩ = some (.int .i64 o.kind) ∧ w'.cell? ⟨b, off + k * 12 + 1, none⟩ = some (.int .i64 o.atN) ∧ w'.cell? ⟨b, off + k * 12 + 2, none⟩ = some (.int .i64 o.atR) ∧ w'.cell? ⟨b, off + k * 12 + 3, none⟩ = some (.int .i64 o.nodeN) ∧ w'.cell? ⟨b, off + k * 12 + 4, none⟩ = some (.int .i64 o.nodeR) ∧ w'.cell? ⟨b, off + k * 12 + 5, none⟩ = some (.int .i64 o.parN) ∧ w'.cell? ⟨b, off + k * 12 + 6, none⟩ = some (.int .i64 o.parR) ∧ w'.cell? ⟨b, off + k * 12 + 7, none⟩ = some (.slice a1 nK c1) ∧ w'.cell? ⟨b, off + k * 12 + 8, none⟩ = some (.int .i64 o.elem) ∧ w'.cell? ⟨b, off + k * 12 + 9, none⟩ = some (.slice a2 nN c2) ∧ w'.cell? ⟨b, off + k * 12 + 10, none⟩ = some (.slice a3 nT c3) ∧ w'.cell? ⟨b, off + k * 12 + 11, none⟩ = some (.bool o.gone) ∧ w'.cell? ⟨b', off' + k * 12, none⟩ = some (.int .i64 o.kind) ∧ w'.cell? ⟨b', off' + k * 12 + 1, none⟩ = some (.int .i64 o.atN) ∧ w'.cell? ⟨b', off' + k * 12 + 2, none⟩ = some (.int .i64 o.atR) ∧ w'.cell? ⟨b', off' + k * 12 + 3, none⟩ = some (.int .i64 o.nodeN) ∧ w'.cell? ⟨b', off' + k * 12 + 4, none⟩ = some (.int .i64 o.nodeR) ∧ w'.cell? ⟨b', off' + k * 12 + 5, none⟩ = some (.int .i64 o.parN) ∧ w'.cell? ⟨b', off' + k * 12 + 6, none⟩ = some (.int .i64 o.parR) ∧ w'.cell? ⟨b', off' + k * 12 + 7, none⟩ = some (.slice a1' nK c1') ∧ w'.cell? ⟨b', off' + k * 12 + 8, none⟩ = some (.int .i64 o.elem) ∧ w'.cell? ⟨b', off' + k * 12 + 9, none⟩ = some (.slice a2' nN c2') ∧ w'.cell? ⟨b', off' + k * 12 + 10, none⟩ = some (.slice a3' nT c3') ∧ w'.cell? ⟨b', off' + k * 12 + 11, none⟩ = some (.bool o.gone)) (first | exact ⟨by assumption, by assumption, by assumption, by assumption, by assumption, by assumption, by assumption, by assumption, by assumption, by assumption, by assumption, by assumption, by assumption, by assumption, by assumption, by assumption, by assumption, by assumption, by assumption, by assumption, by assumption, by assumption, by assumption, by assumption⟩ | simp [*])
        ((go_at_call 16; refine (unhide HE _ _ _ ((unhide HR).keep ((Below.refl _ _).drew)) ((unhide HR').keep ((Below.refl _ _).drew))).mono ?_; rintro e w2 ⟨rfl, hB2⟩; have s0 := cell_later hB2 e0; have s1 := cell_later hB2 e1; have s2 := cell_later hB2 e2; have s3 := cell_later hB2 e3; have s4 := cell_later hB2 e4; have s5 := cell_later hB2 e5; have s6 := cell_later hB2 e6; have s7 := cell_later hB2 e7; have s8 := cell_later hB2 e8; have s9 := cell_later hB2 e9; have s10 := cell_later hB2 e10; have s11 := cell_later hB2 e11; have r0 := cell_later hB2 i0; have r1 := cell_later hB2 i1; have r2 := cell_later hB2 i2; have r3 := cell_later hB2 i3; have r4 := cell_later hB2 i4; have r5 := cell_later hB2 i5; have r6 := cell_later hB2 i6; have r7 := cell_later hB2 i7; have r8 := cell_later hB2 i8; have r9 := cell_later hB2 i9; have r10 := cell_later hB2 i10; have r11 := cell_later hB2 i11))
      have hB3 := hB.trans ((Below.drew (Below.refl wr.heap.size wr)).trans hB2 |>.mono hB.size)
      clear e0 e1 e2 e3 e4 e5 e6 e7 e8 e9 e10 e11 i0 i1 i2 i3 i4 i5 i6 i7 i8 i9 i10 i11 s0 s1 s2 s3 s4 s5 s6 s7 s8 s9 s10 s11 r0 r1 r2 r3 r4 r5 r6 r7 r8 r9 r10 r11 hB2 HR HR'
      go_wp2_with fail
      go_roundw
      case rel => exact ⟨k + 1, by omega, by go_num, hB3⟩
      case measure => simp [intOf]; omega
    · clear g5 f5
      go_wp2_with fail
      go_ret
      exact ⟨rfl, hB⟩
end Go.Proofs.Ytcabolcfoijglaa
