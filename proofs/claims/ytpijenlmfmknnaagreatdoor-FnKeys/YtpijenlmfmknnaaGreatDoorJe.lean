/- Own texts joined: EvB, EvC, EvD, EvE, EvF, EvJ, EvM, EvN, EvK. -/
import Derived.Test.YtpijenlmfmknnaaGreatDoorJa
import Derived.Test.YtpijenlmfmknnaaGreatDoorJb
import Derived.Test.YtpijenlmfmknnaaGreatDoorJc
import Derived.Test.YtpijenlmfmknnaaGreatDoorJd

/- Slices of slices and of arrays. No program. -/
namespace Go.Proofs.YtpijenlmfmknnaaGreatDoor
open Go.RowKit
set_option linter.unusedVariables false
variable {P : Program} {ρ0 : Rn}

def OR (ρ : Rn) (x x' : Option Value) : Prop := match x with
  | none => x' = none
  | some v => ∃ v', x' = some v' ∧ VL ρ v v'
theorem bound_run {x x' : Option Value} {d top i : Nat} (hx : OR ρ0 x x') (h : boundK x d top = some i) :
    (x = none ∧ x' = none ∧ i = d) ∨ (∃ v', x.isSome = true ∧ x' = some v' ∧ i ≤ top ∧ ∀ y code w, i ≤ y → (Instr.sliceBound v' y code).run P w = .ok i w) := by
  unfold boundK at h
  split at h
  · cases h
    exact .inl ⟨rfl, hx, rfl⟩
  · rename_i k j
    split at h
    · rename_i hb
      cases h
      obtain ⟨v', e, hv⟩ := hx
      have := VL.int.1 hv
      subst this
      refine .inr ⟨_, rfl, e, Nat.le_of_ble_eq_true hb, fun y code w hy => ?_⟩
      simp only [Instr.sliceBound, asIntOf, Sem.run_bind, Sem.run_pure, Result.andThen, Int.ofNat_eq_natCast]
      rw [if_pos ⟨Int.natCast_nonneg _, by omega⟩]
      rfl
    · cases h
  · cases h
/-- The three bounds, whatever the true capacity. -/
theorem bounds_run {len cap cap' l h m : Nat} {lo hi mx lo' hi' mx' : Option Value} (hlo : OR ρ0 lo lo') (hhi : OR ρ0 hi hi') (hmx : OR ρ0 mx mx') (hb : bounds3 len cap lo hi mx = some (l, h, m)) (hlc : len ≤ cap) (hcc : cap ≤ cap') (isS : Bool) (w : World) :
    (Instr.sliceBounds isS len cap' lo' hi' mx').run P w = .ok (l, h, if mx.isNone then cap' else m) w ∧ l ≤ h ∧ h ≤ m ∧ m ≤ cap ∧ (mx.isNone = true → m = cap) := by
  unfold bounds3 at hb
  split at hb
  · rename_i m0 hm0
    split at hb
    · rename_i h0 hh0
      split at hb
      · rename_i l0 hl0
        split at hb
        · rename_i hcond
          cases hb
          have b1 := bound_run (P := P) hmx hm0
          have b2 := bound_run (P := P) hhi hh0
          have b3 := bound_run (P := P) hlo hl0
          have hle3 : l ≤ h := by
            rcases b3 with ⟨_, _, e⟩ | ⟨_, _, _, e, _⟩ <;> omega
          rcases b1 with ⟨e1, e2, e3⟩ | ⟨vm, e1, e2, e3, e4⟩
          · subst e1 e2 e3
            have hle2 : h ≤ m := by rcases b2 with ⟨_, _, e⟩ | ⟨_, _, _, e, _⟩ <;> omega
            refine ⟨?_, hle3, hle2, Nat.le_refl _, fun _ => rfl⟩
            rcases b2 with ⟨f1, f2, f3⟩ | ⟨vh, f1, f2, f3, f4⟩
            · subst f1 f2 f3
              rcases b3 with ⟨g1, g2, g3⟩ | ⟨vl, g1, g2, g3, g4⟩
              · subst g1 g2 g3
                simp [Instr.sliceBounds]
              · subst g2
                simp [Instr.sliceBounds, g4 h _ w hle3]
            · subst f2
              rcases b3 with ⟨g1, g2, g3⟩ | ⟨vl, g1, g2, g3, g4⟩
              · subst g1 g2 g3
                simp [Instr.sliceBounds, f4 cap' _ w (by omega)]
              · subst g2
                simp [Instr.sliceBounds, f4 cap' _ w (by omega), g4 h _ w hle3]
          · subst e2
            have hmn : mx.isNone = false := by cases mx with | none => cases e1 | some v => rfl
            rcases b2 with ⟨f1, f2, f3⟩ | ⟨vh, f1, f2, f3, f4⟩
            · subst f1
              rw [hmn] at hcond; cases hcond
            · subst f2
              refine ⟨?_, hle3, f3, e3, fun hc => by rw [hmn] at hc; cases hc⟩
              rw [hmn]
              rcases b3 with ⟨g1, g2, g3⟩ | ⟨vl, g1, g2, g3, g4⟩
              · subst g1 g2 g3
                simp [Instr.sliceBounds, e4 cap' _ w (by omega), f4 m _ w f3]
              · subst g2
                simp [Instr.sliceBounds, e4 cap' _ w (by omega), f4 m _ w f3, g4 h _ w hle3]
        · cases hb
      · cases hb
    · cases hb
  · cases hb
theorem OR.grow {ρ ρ' : Rn} (hρ : ρ.le ρ') {x x' : Option Value} (h : OR ρ x x') : OR ρ' x x' := by
  cases x with
  | none => exact h
  | some v => obtain ⟨v', e, hv⟩ := h; exact ⟨v', e, hv.grow hρ⟩
theorem OR.plain {x x' : Option Value} (h : OR ρ0 x x') (hp : x.all plainV = true) : x' = x := by
  cases x with
  | none => exact h
  | some v => obtain ⟨v', e, hv⟩ := h; rw [e, (plainV_iff hp).1 hv]
theorem snd_sliceK {t : TypeId} {x x' : Value} {lo hi mx lo' hi' mx' : Option Value} (hx : VL ρ0 x x') (hlo : OR ρ0 lo lo') (hhi : OR ρ0 hi hi') (hmx : OR ρ0 mx mx') :
    Sim P ρ0 (sliceK P t x lo hi mx) (Instr.sliceAt t x' lo' hi' mx') fun ρ a v => VL ρ a v := by
  have hpl : ∀ y, VL ρ0 y x' → Sim P ρ0 (slicePl P t y lo hi mx) (Instr.sliceAt t x' lo' hi' mx') fun ρ a v => VL ρ a v := by
    intro y hy
    unfold slicePl
    split
    · rename_i hp
      simp only [Bool.and_eq_true] at hp
      rw [(plainV_iff hp.1).1 hy, hlo.plain hp.2.1, hhi.plain hp.2.2.1, hmx.plain hp.2.2.2]
      exact snd_prun
    · exact .fail
  unfold sliceK
  split
  · rename_i n el hu
    split
    · rename_i b off size hz
      obtain ⟨_, p, hp, e1⟩ := VL.ptr.1 hx
      subst e1
      unfold sliceArr
      intro w0 B s s' v ρ w hρ ht H hfr
      obtain ⟨cc, s1, t1, t2, _⟩ := tells_bind (good_mcells _) ht
      obtain ⟨f1, f2, f3⟩ := tells_cells t1
      obtain ⟨q, hq, q2, q3, q4, c2, el2, fz2, q5, q6, q7, q8⟩ := H.obj b _ f1
      rw [show ρ b = some p from hρ _ _ hp] at hq; cases hq
      split at t2
      · rename_i l h m hfl hb
        rw [Bool.and_eq_true] at hfl
        have hnc := Nat.le_of_ble_eq_true hfl.2
        have hfl := hfl.1
        rw [forceN_eq, forceN_eq, forceN_eq] at t2
        obtain ⟨rfl, rfl⟩ := tells_pure t2
        have hsl := q3 (Nat.eq_of_beq_eq_true hfl)
        obtain ⟨hr, h1, h2, h3, h4⟩ := bounds_run (P := P) hlo hhi hmx hb (Nat.le_refl _) (Nat.le_refl _) false w
        have hm : (if mx.isNone then n else m) = m := by
          split
          · rename_i hc; exact (h4 hc).symm
          · rfl
        rw [hm] at hr
        refine ⟨.slice (some (if m = l then ⟨p.blk, p.off + off, none⟩ else (⟨p.blk, p.off + off, none⟩ : Addr).add (l * size))) (h - l) (m - l), w, ρ, ?_, H.congr fun id => by rw [f2], .rfl, ?_⟩
        · simp only [Instr.sliceAt, Sem.run_bind, run_underlying hu, Result.andThen, sureAddr_run, hr, szOf_run hz, Sem.run_pure]
        · refine VL.slice.2 ⟨rfl, by omega, p, hρ _ _ hp, _, _, rfl, by rw [hsl]; simp, fun _ => ?_, by omega⟩
          rw [beq_nat]
          by_cases hml : m = l
          · simp [hml]
          · simp only [hml, if_false, decide_false, Bool.false_eq_true, add_at]
            rw [Nat.add_assoc]
      · exact (tells_fail t2).elim
    · exact .fail
  · rename_i el hu
    split
    · rename_i b off len cap size hz
      obtain ⟨hlc, p, a', c', hp, rfl, e2, e3, e4⟩ := slice_place hx
      unfold sliceSl
      intro w0 B s s' v ρ w hρ ht H hfr
      obtain ⟨cc, s1, t1, t2, _⟩ := tells_bind (good_mcells _) ht
      obtain ⟨f1, f2, f3⟩ := tells_cells t1
      obtain ⟨q, hq, q2, q3, q4, c2, el2, fz2, q5, q6, q7, q8⟩ := H.obj b _ f1
      rw [show ρ b = some p from hρ _ _ hp] at hq; cases hq
      have hsz : p.sz = cc.1.length := q2
      split at t2
      · rename_i l h m hfl hb
        rw [Bool.or_eq_true] at hfl
        have hcc : cap ≤ c' := by rw [e2]; omega
        obtain ⟨hr, h1, h2, h3, h4⟩ := bounds_run (P := P) hlo hhi hmx hb hlc hcc true w
        obtain ⟨m', hm'⟩ : ∃ m', m' = if mx.isNone then c' else m := ⟨_, rfl⟩
        rw [← hm'] at hr
        have hrun : (Instr.sliceAt t (.slice (some a') len c') lo' hi' mx').run P w = .ok (.slice (if m' = l then some a' else some (a'.add (l * size))) (h - l) (m' - l)) w := by
          simp only [Instr.sliceAt, Instr.slice, Sem.run_bind, run_underlying hu, Result.andThen, hr, szOf_run hz, Sem.run_pure, Option.map_some]
        have H' : HR w0 B ρ s1.f w := H.congr fun id => by rw [f2]
        split at t2
        · rename_i hcond
          rw [forceN_eq, forceN_eq, forceN_eq] at t2
          obtain ⟨rfl, rfl⟩ := tells_pure t2
          refine ⟨_, w, ρ, hrun, H', .rfl, ?_⟩
          have hml : m ≤ m' := by
            rw [hm']
            split
            · rename_i hc; have := h4 hc; omega
            · exact Nat.le_refl _
          -- the room behind
          have hroom : m' = m + (if off + l * size + (m - l) * p.es = p.sz then p.sl else 0) := by
            by_cases hz0 : cc.2.2.1 = 0
            · have hs0 := q3 hz0
              rw [hs0] at e2 ⊢
              simp only [ite_self, Nat.add_zero] at e2 ⊢
              rw [hm']
              split
              · rename_i hc; rw [h4 hc]; exact e2
              · rfl
            · have hes : p.es = size := by
                rcases hfl with hfl | hfl
                · exact (hz0 (Nat.eq_of_beq_eq_true hfl)).elim
                · rw [q4 hz0]; exact Nat.eq_of_beq_eq_true hfl
              have hsum : off + l * size + (m - l) * p.es = off + m * p.es := by
                rw [hes, Nat.add_assoc, ← Nat.add_mul, show l + (m - l) = m by omega]
              rw [hsum, hm']
              split
              · rename_i hc
                rw [h4 hc]; exact e2
              · rename_i hc
                rw [Bool.or_eq_true] at hcond
                rcases hcond with hcond | hcond
                · rw [hcond] at hc; exact (hc rfl).elim
                · have hfs : cc.2.2.1 = size := by rw [← q4 hz0, hes]
                  have := slack_none (off := off) (c := m) q3 q4 hsz (by rw [hfs] at hcond ⊢; exact hcond)
                  rw [this]; rfl
          have hpe : ∃ a'', (if m' = l then some a' else some (a'.add (l * size))) = some a'' ∧ (m' ≠ l → a'' = a'.add (l * size)) := by
            by_cases hc : m' = l
            · exact ⟨a', by rw [if_pos hc], fun h => absurd hc h⟩
            · exact ⟨_, by rw [if_neg hc], fun _ => rfl⟩
          obtain ⟨a'', ha1, ha2⟩ := hpe
          rw [ha1]
          have hmc : m' ≤ c' := by rw [hm']; split <;> omega
          refine VL.slice.2 ⟨rfl, by omega, p, hρ _ _ hp, a'', m' - l, rfl, ?_, fun hne => ?_, by omega⟩
          · simp only []
            omega
          · have hc0 : c' ≠ 0 := by
              have : m' ≤ c' := by rw [hm']; split <;> omega
              omega
            rw [ha2 (by omega), e3 hc0, add_at, Nat.add_assoc]
        · obtain ⟨rfl, rfl⟩ := tells_pure t2
          exact ⟨_, w, ρ, hrun, H', .rfl, .junk⟩
      · exact (tells_fail t2).elim
    · rename_i l c n hz
      exact hpl _ hx
    · exact .fail
  · exact hpl _ hx
  · exact .fail
theorem snd_slice {e : En} {m : Operand → Value} (he : EnvR ρ0 e m) (t : TypeId) (x : Operand) (lo hi mx : Option Operand) :
    Sim P ρ0 (opSlice P t x lo hi mx e) (Instr.sliceAt t (m x) (lo.map m) (hi.map m) (mx.map m)) fun ρ a v => VL ρ a v := by
  have opt : ∀ {γ δ : Type} (y : Option Operand) (G : Option Value → M γ) (c : Sem δ) (R : Rn → γ → δ → Prop), (∀ v, OR ρ0 v (y.map m) → Sim P ρ0 (G v) c R) → Sim P ρ0 (mbind (mopt e y) G) c R := by
    intro γ δ y G c R h w0 B s s' a ρ w hρ ht H hfr
    obtain ⟨v, s1, t1, t2, _⟩ := tells_bind (good_mopt _ _) ht
    unfold mopt at t1
    split at t1
    · obtain ⟨rfl, rfl⟩ := tells_pure t1
      exact h none rfl w0 B _ s' a ρ w hρ t2 H hfr
    · split at t1
      · rename_i v' hv
        obtain ⟨rfl, rfl⟩ := tells_pure t1
        exact h (some v') ⟨_, rfl, he _ _ hv⟩ w0 B _ s' a ρ w hρ t2 H hfr
      · exact (tells_fail t1).elim
  unfold opSlice
  refine Sim.aev1 fun v hv => opt _ _ _ _ fun lo' hlo => opt _ _ _ _ fun hi' hhi => opt _ _ _ _ fun mx' hmx => ?_
  exact snd_sliceK (he x v hv) hlo hhi hmx
end Go.Proofs.YtpijenlmfmknnaaGreatDoor

/- append. No program. -/
namespace Go.Proofs.YtpijenlmfmknnaaGreatDoor
open Go.RowKit
set_option linter.unusedVariables false
variable {P : Program} {ρ0 : Rn}

structure ApT (P : Program) (t el : TypeId) (z : Nat) (zv : Value) (ti : TypeInfo) : Prop where
  u : P.underlying t = some (.slice el)
  i : P.info? el = some ti
  s : szOf P el = some z
  b : ti.bytes ≤ 4096
  z0 : z ≠ 0
  p : plainV zv = true
  l : zv.cells.size = z
  r : ∀ w, (zeroValue el).run P w = .ok zv w
theorem appT_run {t el : TypeId} {z : Nat} {zero : List Value} (h : appT P t = some (el, z, zero)) : ∃ zv ti, ApT P t el z zv ti ∧ zero = zv.cells.toList := by
  unfold appT at h
  split at h
  · cases h
  · rename_i el' hel
    split at h
    · rename_i size bytes zr hs hb hz
      split at h
      · rename_i hc
        cases h
        rw [Bool.and_eq_true] at hc
        obtain ⟨zv, hp, rfl, hr⟩ := zeroOf_run hz
        cases hi : P.info? el with
        | none => rw [hi] at hb; cases hb
        | some ti =>
          rw [hi] at hb
          cases hb
          refine ⟨zv, ti, ⟨elem_run hel, hi, hs, Nat.le_of_ble_eq_true hc.1, by omega, hp, ?_, hr⟩, rfl⟩
          have := Nat.eq_of_beq_eq_true hc.2
          rw [Array.length_toList] at this
          exact this
      · cases h
    · cases h
theorem info_run {t : TypeId} {ti : TypeInfo} (h : P.info? t = some ti) (w : World) : (typeInfo t).run P w = .ok ti w := by simp [typeInfo, h]

/-- What is appended. -/
def newOf (el : TypeId) (z n : Nat) (zeros : Bool) (y : Value) : Sem (Array Value) :=
  if !zeros then Builtin.firstCells z n y else if n * z = 0 then Pure.pure #[] else do Pure.pure (Builtin.zeroCells (← zeroValue el).cells n)
/-- How many. -/
def NumOk (P : Program) (zeros : Bool) (y : Value) (n : Nat) : Prop := if zeros then (∃ k, y = .int k (Int.ofNat n)) ∧ n ≤ 4096 else ∀ w, (Builtin.lenOf y).run P w = .ok n w
theorem zeros_of {x : Option TypeId} {zeros : Bool} (h : intT P x = some zeros) : (x = none ∧ zeros = false) ∨ ∃ t d, x = some t ∧ P.underlying t = some d ∧ ((zeros = true ∧ ∃ k, d = .int k) ∨ (zeros = false ∧ ∀ k, d ≠ .int k)) := by
  unfold intT at h
  split at h
  · rename_i t
    split at h
    · rename_i k hu
      cases h
      exact .inr ⟨t, _, rfl, hu, .inl ⟨rfl, k, rfl⟩⟩
    · rename_i d hni hu
      cases h
      exact .inr ⟨t, d, rfl, hu, .inr ⟨rfl, fun k e => hni k e⟩⟩
    · cases h
  · cases h; exact .inl ⟨rfl, rfl⟩
theorem next_small {need cap : Nat} (h1 : cap < need) (h2 : need ≤ 8192) : Builtin.nextslicecap need cap ≤ 100000 := by
  unfold Builtin.nextslicecap
  split
  · omega
  · split
    · omega
    · simp only [Builtin.growBy]
      repeat' split
      all_goals omega
/-- Behind the looks at the types: there is room, or there is none. -/
def appS (el : TypeId) (ti : TypeInfo) (z n : Nat) (zeros : Bool) (base : Option Addr) (len cap : Nat) (y : Value) : Sem Value :=
  if len + n ≤ cap then do
    let new ← newOf el z n zeros y
    match base with
    | some a => do storeCells (a.add (len * z)) new.toList; Pure.pure (.slice base (len + n) cap)
    | none => Pure.pure (.slice base (len + n) cap)
  else do
    let newCap ← choose (.appendCap (len + n) cap el)
    askRoom (newCap * ti.bytes)
    let old ← Builtin.firstCells z len (.slice base len cap)
    let new ← newOf el z n zeros y
    let zr ← zeroValue el
    let a ← newRow el (old ++ new ++ Builtin.zeroCells zr.cells (newCap - (len + n)))
    Pure.pure (.slice (some a) (len + n) newCap)
theorem app_run {t el : TypeId} {z n len cap : Nat} {zv : Value} {ti : TypeInfo} {ts : Array TypeId} {ty : TypeId} {args : Array Value} {base : Option Addr} {y : Value} {zeros : Bool} (A : ApT P t el z zv ti) (h0 : ts[0]? = some t)
    (ha : args[0]? = some (.slice base len cap)) (hy : args[1]? = some y) (hz : intT P ts[1]? = some zeros) (hn : NumOk P zeros y n) (hs : len + n ≤ cap ∨ len + n ≤ 8192) (w : World) :
    (Builtin.append_ ts ty args).run P w = (appS el ti z n zeros base len cap y).run P w := by
  have hbig : ∀ c, c ≤ 100000 → ¬ (c * ti.bytes > 2 ^ 48) := fun c hc => by
    have := Nat.mul_le_mul hc A.b
    omega
  have hmax : ¬ (((len + n : Nat) : Int) > IntKind.i64.max ∧ (zeros = true ∨ ti.bytes = 0)) ∨ len + n ≤ cap := by
    rcases hs with hs | hs
    · exact .inr hs
    · left
      rintro ⟨h, _⟩
      have : IntKind.i64.max = 9223372036854775807 := rfl
      rw [this] at h
      omega
  rcases zeros_of hz with ⟨h1, rfl⟩ | ⟨xt, d, h1, hd, ⟨rfl, k, rfl⟩ | ⟨rfl, hni⟩⟩
  · have hn' : ∀ w, (Builtin.lenOf y).run P w = .ok n w := hn
    simp only [Builtin.append_, h0, h1, ha, hy, Sem.run_bind, run_underlying A.u, Result.andThen, szOf_run A.s, Sem.run_pure, Bool.false_eq_true, if_false, hn', Sem.run_ite, appS, newOf, Bool.not_false, if_true]
    by_cases hc : len + n ≤ cap
    · rw [if_pos hc, if_pos hc]
      cases base <;> simp only [Sem.run_bind, Result.andThen]
    · rw [if_neg hc, if_neg hc]
      have hsm := next_small (need := len + n) (cap := cap) (by omega) (hs.resolve_left hc)
      simp only [info_run A.i]
      rw [if_neg (by simpa using hmax.resolve_right hc), if_neg (hbig _ hsm)]
  · obtain ⟨⟨k, rfl⟩, hle⟩ := (hn : (∃ k, y = .int k (Int.ofNat n)) ∧ n ≤ 4096)
    have hw := wrap_le hle
    have hb : n * ti.bytes ≤ 4096 * 4096 := Nat.mul_le_mul hle A.b
    have hcast : (n : Int) * (ti.bytes : Int) = ((n * ti.bytes : Nat) : Int) := by simp
    simp only [Builtin.append_, h0, h1, ha, hy, Sem.run_bind, run_underlying A.u, run_underlying hd, Result.andThen, szOf_run A.s, Sem.run_pure, if_true, asInt, asIntOf, Int.ofNat_eq_natCast, hw, Sem.run_ite, info_run A.i, hcast, appS, newOf, Bool.not_true, Bool.false_eq_true, if_false, Int.toNat_natCast]
    rw [if_neg (by omega), if_neg (by omega)]
    by_cases hc : len + n ≤ cap
    · rw [if_pos hc, if_pos hc]
      cases base <;> simp only [Sem.run_bind, Result.andThen]
    · rw [if_neg hc, if_neg hc]
      have hsm := next_small (need := len + n) (cap := cap) (by omega) (hs.resolve_left hc)
      rw [if_neg (by simpa using hmax.resolve_right hc), if_neg (hbig _ hsm)]
  · have hn' : ∀ w, (Builtin.lenOf y).run P w = .ok n w := hn
    cases d with
    | int k => exact (hni k rfl).elim
    | _ =>
      simp only [Builtin.append_, h0, h1, ha, hy, Sem.run_bind, run_underlying A.u, Result.andThen, szOf_run A.s, Sem.run_pure, Bool.false_eq_true, if_false, hn', Sem.run_ite, appS, newOf, Bool.not_false, if_true, run_underlying hd]
      by_cases hc : len + n ≤ cap
      · rw [if_pos hc, if_pos hc]
        cases base <;> simp only [Sem.run_bind, Result.andThen]
      · rw [if_neg hc, if_neg hc]
        have hsm := next_small (need := len + n) (cap := cap) (by omega) (hs.resolve_left hc)
        simp only [info_run A.i]
        rw [if_neg (by simpa using hmax.resolve_right hc), if_neg (hbig _ hsm)]
end Go.Proofs.YtpijenlmfmknnaaGreatDoor

/- append, whatever capacity it draws: in place or in a new row. No program. -/
namespace Go.Proofs.YtpijenlmfmknnaaGreatDoor
open Go.RowKit
set_option linter.unusedVariables false
variable {P : Program} {ρ0 : Rn}

/-- What is appended can be read in every world that the store stands for. -/
def NewOk (P : Program) (w0 : World) (B : Nat) (ρ1 : Rn) (h : Hf) (c : Sem (Array Value)) (new : List Value) : Prop :=
  ∀ w, HR w0 B ρ1 h w → ∃ l', c.run P w = .ok ⟨l'⟩ w ∧ LR (VL ρ1) new l'
theorem old_run {w0 w : World} {B : Nat} {ρ : Rn} {h : Hf} {b off len z c' : Nat} {a' : Addr} {l : List Value} {t : TypeId} {fl : Nat × Nat} {p : Pl} (H : HR w0 B ρ h w) (hp : ρ b = some p) (e1 : h b = some (.cells ⟨l⟩ t fl)) (e2 : off + len * z ≤ l.length)
    (hlc : len ≤ c') (ha : c' ≠ 0 → a' = ⟨p.blk, p.off + off, none⟩) : ∃ l', (Builtin.firstCells z len (.slice (some a') len c')).run P w = .ok ⟨l'⟩ w ∧ LR (VL ρ) ((l.drop off).take (len * z)) l' := by
  by_cases h0 : len = 0
  · subst h0
    refine ⟨[], by simp [Builtin.firstCells, loadCells, loadCellsFrom], ?_⟩
    rw [Nat.zero_mul]
    rfl
  · obtain ⟨l', h1, h2, _⟩ := rd_load (P := P) H hp e1 e2
    refine ⟨l', ?_, h2⟩
    rw [ha (by omega)]
    exact h1
/-- A new row, as 'append' makes it. -/
theorem app_grown {w0 w : World} {B : Nat} {ρ : Rn} {h : Hf} {n len cap z k : Nat} {el : TypeId} {ti : TypeInfo} {zv : Value} {t : TypeId} {zeros : Bool} {base : Option Addr} {y : Value} {old old' new : List Value} (A : ApT P t el z zv ti)
    (H : HR w0 B ρ h w) (hk : ρ k = none) (h16 : 16 ≤ k) (hold : (Builtin.firstCells z len (.slice base len cap)).run P { w with drawn := w.drawn + 1 } = .ok ⟨old'⟩ { w with drawn := w.drawn + 1 })
    (hor : LR (VL ρ) old old') (hnew : NewOk P w0 B ρ h (newOf el z n zeros y) new) (hlen : old.length + new.length = (len + n) * z) (hc : ¬ len + n ≤ cap) (hsm : len + n ≤ 8192) :
    ∃ v' w' ρ', (appS el ti z n zeros base len cap y).run P w = .ok v' w' ∧ HR w0 B ρ' (h.put k (some (.cells ⟨old ++ new⟩ el (z, 1)))) w' ∧ Ext ρ ρ' k (k + 1) ∧ VL ρ' (sliceV k 0 (len + n) (len + n)) v' := by
  obtain ⟨l', hl1, hl2⟩ := hnew _ (H.drew (w.drawn + 1))
  obtain ⟨nc, hnc⟩ : ∃ nc, nc = (Question.appendCap (len + n) cap el).cut (w.tape w.drawn (.appendCap (len + n) cap el)) := ⟨_, rfl⟩
  have hle : len + n ≤ nc := by rw [hnc]; simp only [Question.cut]; omega
  have hncm : nc ≤ 9223372036854775807 := by
    rw [hnc]
    simp only [Question.cut]
    have := Nat.mod_lt (w.tape w.drawn (.appendCap (len + n) cap el)) (show 0 < 2 ^ 63 - (len + n) by omega)
    omega
  obtain ⟨rest, hrest⟩ : ∃ rest, rest = reps zv.cells.toList (nc - (len + n)) := ⟨_, rfl⟩
  have hrl : rest.length = (nc - (len + n)) * z := by rw [hrest, reps_len, Array.length_toList, A.l]
  have hrun : (appS el ti z n zeros base len cap y).run P w = .ok (.slice (some ⟨w.heap.size, 0, none⟩) (len + n) nc) { w with heap := w.heap.push (.cells ⟨(old' ++ l') ++ rest⟩ el), drawn := w.drawn + 1 } := by
    have hf : (Question.appendCap (len + n) cap el).forced = false := rfl
    unfold appS
    rw [if_neg hc]
    have harr : (⟨old'⟩ : Array Value) ++ ⟨l'⟩ ++ ⟨rest⟩ = ⟨(old' ++ l') ++ rest⟩ := by apply Array.ext'; simp
    simp only [Sem.run_bind, run_choose, hf, Bool.false_eq_true, if_false, Result.andThen, ← hnc, run_askRoom, hold, hl1, A.r, newRow, run_newObj, Sem.run_pure, zeroCells_eq, ← hrest, harr]
  refine ⟨_, _, ρ.put k ⟨w.heap.size, 0, (old ++ new).length, z, nc - (len + n)⟩, hrun, ?_, .put hk _, ?_⟩
  · refine row_new (t' := el) (rest := rest) (fz := (0, 0)) z (nc - (len + n)) H hk h16 (hor.app hl2) (fun h0 => absurd h0 A.z0) (fun _ => rfl) (by rw [hrl]; exact Nat.le_refl _)
      (below_push H.below (Nat.le_trans H.base H.below.size) _).drew ?_ (fun x hx => ?_) ⟨.inl rfl, fun _ _ => rfl⟩
    · simp
    · simp only []
      rw [Array.getElem?_push, if_neg (by omega)]
  · refine VL.slice.2 ⟨rfl, Nat.le_refl _, _, if_pos rfl, ⟨w.heap.size, 0, none⟩, nc, rfl, ?_, fun _ => rfl, hncm⟩
    simp only [List.length_append, hlen, Nat.zero_add, if_true]
    omega
theorem snd_appAt {t el : TypeId} {z n b off len cap : Nat} {zv : Value} {ti : TypeInfo} {zeros : Bool} {y : Value} {new : List Value} {p : Pl} {a' : Addr} {c' : Nat} (A : ApT P t el z zv ti)
    {w0 w : World} {B : Nat} {s s' : Hp} {v : Value} {ρ : Rn} (ht : Tells (appAt el z b off len cap n new) s v s') (H : HR w0 B ρ s.f w) (hfr : Free ρ s.n s'.n) (hp : ρ b = some p) (hlc : len ≤ cap)
    (e2 : c' = cap + (if off + cap * p.es = p.sz then p.sl else 0)) (e3 : c' ≠ 0 → a' = ⟨p.blk, p.off + off, none⟩) (hcm : c' ≤ 9223372036854775807) (hnl : new.length = n * z)
    (hnew0 : NewOk P w0 B ρ s.f (newOf el z n zeros y) new) :
    ∃ v' w' ρ', (appS el ti z n zeros (some a') len c' y).run P w = .ok v' w' ∧ HR w0 B ρ' s'.f w' ∧ Ext ρ ρ' s.n s'.n ∧ VL ρ' v v' ∧ (len + n ≤ c' ∨ len + n ≤ 8192) := by
  unfold appAt at ht
  rw [forceN_eq] at ht
  have hcc : cap ≤ c' := by rw [e2]; omega
  split at ht
  · rename_i hin
    have hin := Nat.le_of_ble_eq_true hin
    have hin' : len + n ≤ c' := by omega
    have hval : ∀ ρ', ρ.le ρ' → VL ρ' (sliceV b off (len + n) cap) (.slice (some a') (len + n) c') := fun ρ' hρ' => VL.slice.2 ⟨rfl, hin, p, hρ' _ _ hp, a', c', rfl, e2, e3, hcm⟩
    obtain ⟨l', hl1, hl2⟩ := hnew0 w H
    unfold appIn at ht
    split at ht
    · rename_i hn0
      have hn0 := Nat.eq_of_beq_eq_true hn0
      obtain ⟨rfl, rfl⟩ := tells_pure ht
      have hl0 : l' = [] := by
        have := hl2.len
        rw [hnl, hn0, Nat.zero_mul] at this
        exact List.eq_nil_of_length_eq_zero this
      refine ⟨_, w, ρ, ?_, H, .rfl, hval ρ .rfl, .inl hin'⟩
      unfold appS
      rw [if_pos hin']
      simp only [Sem.run_bind, hl1, Result.andThen, hl0, storeCells, Sem.run_pure]
    · rename_i hn0
      have hn0 : n ≠ 0 := fun h => by subst h; cases hn0
      obtain ⟨u, s1, t1, t2, _⟩ := tells_bind (good_mstore _ _) ht
      obtain ⟨rfl, rfl⟩ := tells_pure t2
      have ha := e3 (by omega)
      have hptr : VL ρ (.pointer (some ⟨b, off + len * z, none⟩)) (.pointer (some (a'.add (len * z)))) := VL.ptr.2 ⟨rfl, p, hp, by rw [ha, add_at, Nat.add_assoc]⟩
      obtain ⟨u', w', ρ', hr, H', hE, _⟩ := sim_store (P := P) hptr hl2 w0 B s s' u ρ w .rfl t1 H hfr
      refine ⟨_, w', ρ', ?_, H', hE, hval ρ' hE.le, .inl hin'⟩
      unfold appS
      rw [if_pos hin']
      simp only [Sem.run_bind, hl1, Result.andThen, hr, Sem.run_pure]
  · rename_i hout
    have hout : ¬ len + n ≤ cap := fun h => by rw [Nat.ble_eq_true_of_le h] at hout; cases hout
    unfold appOut at ht
    split at ht
    · exact (tells_fail ht).elim
    · rename_i hsm
      have hsm := Nat.le_of_ble_eq_true hsm
      obtain ⟨cc, s1, t1, t2, hn1⟩ := tells_bind (good_mcells _) ht
      obtain ⟨f1, f2, f3⟩ := tells_cells t1
      obtain ⟨q, hq, q2, q3, q4, c2, el2, fz2, q5, q6, q7, q8⟩ := H.obj b _ f1
      rw [hp] at hq; cases hq
      have hsz : p.sz = cc.1.length := q2
      have H1 : HR w0 B ρ s1.f w := H.congr fun id => by rw [f2]
      -- what a new row tells, over whatever store
      have grown : ∀ (s2 s3 : Hp) (v : Value), Tells (grownK el z off len (len + n) cc.1 new) s2 v s3 → (∀ id o, s2.f id = some o → s.f id = some o) → s2.n = s.n → s3.n = s'.n → ¬ len + n ≤ c' →
          ∃ v' w' ρ', (appS el ti z n zeros (some a') len c' y).run P w = .ok v' w' ∧ HR w0 B ρ' s3.f w' ∧ Ext ρ ρ' s.n s'.n ∧ VL ρ' v v' := by
        intro s2 s3 v hg hsub hn2 hn3 hnc
        unfold grownK at hg
        obtain ⟨old, s4, g1, g2, _⟩ := tells_bind (good_cut _ _ _) hg
        obtain ⟨k1, rfl, e4⟩ := tells_cut g1
        rw [forceL_eq, e4] at g2
        obtain ⟨id, s5, g3, g4, _⟩ := tells_bind (good_mrow _ _ _) g2
        obtain ⟨rfl, e5⟩ := tells_pure g4
        rw [← e5] at g3
        obtain ⟨k2, rfl, h16, k3, k4⟩ := tells_row g3
        obtain ⟨old', ho1, ho2⟩ := old_run (P := P) (H.drew (w.drawn + 1)) hp f1 k1 (Nat.le_trans hlc hcc) e3
        have hkn : ρ s2.n = none := hfr s2.n (by omega) (by omega)
        have hH : HR w0 B ρ s2.f w := H.drop hsub
        -- the new part was read while the row was still there
        obtain ⟨l', hl1, hl2⟩ := hnew0 _ (H.drew (w.drawn + 1))
        have hol : ((cc.1.drop off).take (len * z)).length + new.length = (len + n) * z := by
          rw [List.length_take, List.length_drop, hnl, Nat.add_mul]; omega
        obtain ⟨nc, hnc'⟩ : ∃ nc, nc = (Question.appendCap (len + n) c' el).cut (w.tape w.drawn (.appendCap (len + n) c' el)) := ⟨_, rfl⟩
        have hle : len + n ≤ nc := by rw [hnc']; simp only [Question.cut]; omega
        have hncm : nc ≤ 9223372036854775807 := by
          rw [hnc']
          simp only [Question.cut]
          have := Nat.mod_lt (w.tape w.drawn (.appendCap (len + n) c' el)) (show 0 < 2 ^ 63 - (len + n) by omega)
          omega
        obtain ⟨rest, hrest⟩ : ∃ rest, rest = reps zv.cells.toList (nc - (len + n)) := ⟨_, rfl⟩
        have hrl : rest.length = (nc - (len + n)) * z := by rw [hrest, reps_len, Array.length_toList, A.l]
        have hrun : (appS el ti z n zeros (some a') len c' y).run P w = .ok (.slice (some ⟨w.heap.size, 0, none⟩) (len + n) nc) { w with heap := w.heap.push (.cells ⟨(old' ++ l') ++ rest⟩ el), drawn := w.drawn + 1 } := by
          have hf : (Question.appendCap (len + n) c' el).forced = false := rfl
          unfold appS
          rw [if_neg hnc]
          have harr : (⟨old'⟩ : Array Value) ++ ⟨l'⟩ ++ ⟨rest⟩ = ⟨(old' ++ l') ++ rest⟩ := by apply Array.ext'; simp
          simp only [Sem.run_bind, run_choose, hf, Bool.false_eq_true, if_false, Result.andThen, ← hnc', run_askRoom, ho1, hl1, A.r, newRow, run_newObj, Sem.run_pure, zeroCells_eq, ← hrest, harr]
        refine ⟨_, _, ρ.put s2.n ⟨w.heap.size, 0, ((cc.1.drop off).take (len * z) ++ new).length, z, nc - (len + n)⟩, hrun, ?_, ?_, ?_⟩
        · rw [k3]
          refine row_new (t' := el) (rest := rest) (fz := (0, 0)) z (nc - (len + n)) hH hkn h16 (ho2.app hl2) (fun h0 => absurd h0 A.z0) (fun _ => rfl) (by rw [hrl]; exact Nat.le_refl _)
            (below_push H.below (Nat.le_trans H.base H.below.size) _).drew ?_ (fun x hx => ?_) ⟨.inl rfl, fun _ _ => rfl⟩
          · simp
          · simp only []
            rw [Array.getElem?_push, if_neg (by omega)]
        · have hx : s'.n = s2.n + 1 := by omega
          rw [hx, ← hn2]
          exact .put hkn _
        · refine VL.slice.2 ⟨rfl, Nat.le_refl _, _, if_pos rfl, ⟨w.heap.size, 0, none⟩, nc, rfl, ?_, fun _ => rfl, hncm⟩
          simp only [List.length_append, hol, Nat.zero_add, if_true]
          omega
      split at t2
      · rename_i hc
        have hcc' : c' = cap := by rw [e2, slack_none q3 q4 hsz hc]; rfl
        obtain ⟨v', w', ρ', hr, H', hE, hv⟩ := grown s1 s' v t2 (fun id o e => by rw [f2] at e; exact e) f3 rfl (by omega)
        exact ⟨v', w', ρ', hr, H', hE, hv, .inr (by omega)⟩
      · rename_i hc
        split at t2
        · rename_i hfz
          have hfz := Nat.eq_of_beq_eq_true hfz
          obtain ⟨u, s2, t3, t4, hn2⟩ := tells_bind (good_set _ _) t2
          obtain ⟨h16, g1, g2⟩ := tells_set t3
          have hsub : ∀ id o, s2.f id = some o → s.f id = some o := fun id o e => by
            rw [g1, f2] at e
            unfold Hf.put at e
            split at e
            · cases e
            · exact e
          by_cases hplace : len + n ≤ c'
          · -- in place: the row goes on in the same block
            have hreach : off + cap * z = cc.1.length := by
              rw [hfz, Bool.or_eq_false_iff, Bool.not_eq_false'] at hc
              exact Nat.eq_of_beq_eq_true hc.2
            have hes : p.es = z := by rw [q4 (by rw [hfz]; exact A.z0), hfz]
            have hc2 : c' = cap + p.sl := by rw [e2, hes, hsz, if_pos hreach]
            have ha := e3 (by omega)
            have hB : B ≤ p.blk := H.own b _ p f1 h16 hp
            obtain ⟨l', hl1, hl2⟩ := hnew0 w H
            have hl'n : l'.length = n * z := by rw [hl2.len, hnl]
            have hmul : off + c' * z = cc.1.length + p.sl * z := by rw [hc2, Nat.add_mul]; omega
            have hmul2 : (len + n) * z ≤ c' * z := Nat.mul_le_mul_right z hplace
            rw [hes] at q6
            unfold grownK at t4
            obtain ⟨old, s4, k0, k5, _⟩ := tells_bind (good_cut _ _ _) t4
            obtain ⟨k1, rfl, e4⟩ := tells_cut k0
            rw [forceL_eq, e4] at k5
            obtain ⟨id, s5, k6, k7, _⟩ := tells_bind (good_mrow _ _ _) k5
            obtain ⟨rfl, e5⟩ := tells_pure k7
            rw [← e5] at k6
            obtain ⟨kone, rfl, kn16, kf, kn⟩ := tells_row k6
            rw [List.all_append, Bool.and_eq_true] at kone
            obtain ⟨w', c3, hr, hb', hs', tw, hk⟩ := store_run (P := P) (o := p.off + off + len * z) l' 0 w c2 q5 (by rw [hl'n, Nat.add_mul] at *; omega) (q7 h16).no (ones_of hl2 kone.2)
            have hkn : ρ s2.n = none := hfr s2.n (by omega) (by omega)
            refine ⟨.slice (some a') (len + n) c', w', ρ.put s2.n ⟨p.blk, p.off + off, (len + n) * z, z, c' - (len + n)⟩, ?_, ?_, ?_, ?_, .inl hplace⟩
            · unfold appS
              rw [if_pos hplace]
              simp only [Sem.run_bind, hl1, Result.andThen, ha, add_at]
              rw [show (storeCells ⟨p.blk, p.off + off + len * z, none⟩ l') = storeCells ⟨p.blk, p.off + off + len * z, none⟩ l' 0 from rfl, hr]
              rfl
            · rw [kf]
              refine (H.drop hsub).new hkn kn16 hB (fun id o p' ho hp' => ?_) (H.below.trans ⟨tw.os, tw.tape, tw.output, by rw [tw.size]; exact Nat.le_refl _, fun k hk => tw.other k (by omega)⟩) (fun id o p' ho hp' => ?_) ?_
              · have hid : id ≠ b := fun e => by rw [g1, e] at ho; unfold Hf.put at ho; rw [if_pos rfl] at ho; cases ho
                exact H.sep id b _ _ p' p hid (hsub _ _ ho) f1 hp' hp
              · have hid : id ≠ b := fun e => by rw [g1, e] at ho; unfold Hf.put at ho; rw [if_pos rfl] at ho; cases ho
                exact tw.other _ (H.sep id b _ _ _ _ hid (hsub _ _ ho) f1 hp' hp)
              · have hol : ((cc.1.drop off).take (len * z)).length = len * z := by rw [List.length_take, List.length_drop]; omega
                refine ⟨_, if_pos rfl, ?_, fun h0 => absurd h0 A.z0, fun _ => rfl, c3, el2, fz2, hb', ?_, (fun _ => ⟨by rw [hs']; exact (q7 h16).1, fun _ h0 => absurd h0 A.z0⟩), fun k v hkv => ?_⟩
                · simp only [List.size_toArray, List.length_append, hol, hnl, Nat.add_mul]
                · rw [hs']
                  simp only []
                  have : (len + n) * z + (c' - (len + n)) * z = c' * z := by rw [← Nat.add_mul]; congr 1; omega
                  omega
                · have hkv' : ((cc.1.drop off).take (len * z) ++ new)[k]? = some v := by simpa using hkv
                  rw [hk]
                  by_cases hlt : k < len * z
                  · rw [List.getElem?_append_left (by rw [hol]; exact hlt), List.getElem?_take, if_pos hlt, List.getElem?_drop] at hkv'
                    rw [if_neg (by simp only []; omega)]
                    obtain ⟨v', hv1, hv2⟩ := q8 (off + k) v (by simpa using hkv')
                    exact ⟨v', by rw [← hv1]; congr 1; simp only []; omega, hv2.grow (Rn.put_le hkn _)⟩
                  · rw [List.getElem?_append_right (by rw [hol]; omega), hol] at hkv'
                    obtain ⟨v', hv1, hv2⟩ := hl2.at hkv'
                    have hkl : k - len * z < l'.length := by
                      rcases Nat.lt_or_ge (k - len * z) l'.length with h | h
                      · exact h
                      · rw [List.getElem?_eq_none h] at hv1; cases hv1
                    rw [if_pos (by simp only []; omega)]
                    exact ⟨v', by rw [← hv1]; congr 1; simp only []; omega, hv2.grow (Rn.put_le hkn _)⟩
            · have hx : s'.n = s2.n + 1 := kn
              have hy : s2.n = s.n := by omega
              rw [hx, ← hy]
              exact .put hkn _
            · refine VL.slice.2 ⟨rfl, Nat.le_refl _, _, if_pos rfl, a', c', rfl, ?_, fun _ => by rw [ha]; rfl, hcm⟩
              simp only [Nat.zero_add, if_true]
              omega
          · obtain ⟨v', w', ρ', hr, H', hE, hv⟩ := grown s2 s' v t4 hsub (by omega) rfl hplace
            exact ⟨v', w', ρ', hr, H', hE, hv, .inr (by omega)⟩
        · exact (tells_fail t2).elim
theorem load_still : ∀ (n i : Nat) (a : Addr) (acc arr : Array Value) (w w' : World), (loadCellsFrom a i n acc).run P w = .ok arr w' → w' = w
  | 0, i, a, acc, arr, w, w', h => by simp only [loadCellsFrom, Sem.run_pure, Result.ok.injEq] at h; exact h.2.symm
  | n + 1, i, a, acc, arr, w, w', h => by
    simp only [loadCellsFrom, Sem.run_bind] at h
    have hl : ∀ r, (load (a.add i)).run P w = r → (∃ v, r = .ok v w) ∨ ∃ e, r = .halt e w := by
      intro r hr
      rw [run_load] at hr
      split at hr
      · exact .inl ⟨_, hr.symm⟩
      · split at hr
        · exact .inl ⟨_, hr.symm⟩
        · exact .inr ⟨_, hr.symm⟩
    rcases hl _ rfl with ⟨v, hv⟩ | ⟨e, he⟩
    · rw [hv] at h
      exact load_still n (i + 1) a _ arr w w' h
    · rw [he] at h; cases h
theorem first_still {z n : Nat} {y : Value} {arr : Array Value} {w w' : World} (h : (Builtin.firstCells z n y).run P w = .ok arr w') : w' = w := by
  unfold Builtin.firstCells at h
  split at h
  · exact load_still _ _ _ _ _ _ _ h
  · simp only [Sem.run_pure, Result.ok.injEq] at h; exact h.2.symm
  · simp only [Sem.run_pure, Result.ok.injEq] at h; exact h.2.symm
  · cases h
theorem snd_append {t : TypeId} {x x' y y' : Value} (hx : VL ρ0 x x') (hy : VL ρ0 y y') (ts : Array TypeId) (ty : TypeId) (args : Array Value) (h0 : ts[0]? = some t) (h1 : args[0]? = some x') (h2 : args[1]? = some y') :
    Sim P ρ0 (appendK P t ts[1]? x y) (Builtin.append_ ts ty args) fun ρ a v => VL ρ a v := by
  unfold appendK
  split
  · exact .fail
  · rename_i el z zero hA
    obtain ⟨zv, ti, A, rfl⟩ := appT_run hA
    -- with what is appended at hand
    have core : ∀ (zeros : Bool) (n : Nat) (new : List Value) (w0 : World) (B : Nat) (s s' : Hp) (v : Value) (ρ : Rn) (w : World), ρ0.le ρ → intT P ts[1]? = some zeros → NumOk P zeros y' n →
        Tells (appGo el z x n new) s v s' → HR w0 B ρ s.f w → Free ρ s.n s'.n → NewOk P w0 B ρ s.f (newOf el z n zeros y') new →
        ∃ v' w' ρ', (Builtin.append_ ts ty args).run P w = .ok v' w' ∧ HR w0 B ρ' s'.f w' ∧ Ext ρ ρ' s.n s'.n ∧ VL ρ' v v' := by
      intro zeros n new w0 B s s' v ρ w hρ hz hn ht H hfr hnew
      unfold appGo at ht
      split at ht
      · exact (tells_fail ht).elim
      · rename_i hlen
        have hnl := Nat.eq_of_beq_eq_true hlen
        split at ht
        · obtain ⟨_, _, e1⟩ := VL.nils.1 hx
          subst e1
          unfold appNil at ht
          split at ht
          · rename_i hn0
            have hn0 := Nat.eq_of_beq_eq_true hn0
            obtain ⟨rfl, rfl⟩ := tells_pure ht
            subst hn0
            obtain ⟨l', hl1, hl2⟩ := hnew w H
            refine ⟨.slice none 0 0, w, ρ, ?_, H, .rfl, VL.nils.2 ⟨rfl, rfl, rfl⟩⟩
            rw [app_run A h0 h1 h2 hz hn (.inl (Nat.le_refl _)) w]
            unfold appS
            rw [if_pos (Nat.le_refl _)]
            simp only [Sem.run_bind, hl1, Result.andThen, Sem.run_pure]
          · rename_i hn0
            have hn0 : n ≠ 0 := fun h => by subst h; cases hn0
            split at ht
            · rename_i hsm
              have hsm := Nat.le_of_ble_eq_true hsm
              obtain ⟨id, s1, t1, t2, _⟩ := tells_bind (good_mrow _ _ _) ht
              obtain ⟨rfl, rfl⟩ := tells_pure t2
              obtain ⟨_, rfl, h16, k3, k4⟩ := tells_row t1
              have hkn : ρ s.n = none := hfr s.n (Nat.le_refl _) (by omega)
              obtain ⟨v', w', ρ', hr, H', hE, hv⟩ := app_grown (P := P) (base := none) (len := 0) (cap := 0) (old := []) (old' := []) A H hkn h16 rfl rfl hnew (by simp [hnl]) (by omega) (by omega)
              refine ⟨v', w', ρ', ?_, by rw [k3]; exact H', by rw [k4]; exact hE, by simpa using hv⟩
              rw [app_run A h0 h1 h2 hz hn (.inr (by omega)) w]
              exact hr
            · exact (tells_fail ht).elim
        · rename_i b off len cap
          obtain ⟨hlc, p, a', c', hp, e1, e2, e3, e4⟩ := slice_place (hx.grow hρ)
          subst e1
          obtain ⟨v', w', ρ', hr, H', hE, hv, hsm⟩ := snd_appAt (P := P) A ht H hfr hp hlc e2 e3 e4 hnl hnew
          refine ⟨v', w', ρ', ?_, H', hE, hv⟩
          rw [app_run A h0 h1 h2 hz hn hsm w]
          exact hr
        · exact (tells_fail ht).elim
    split
    · exact .fail
    · rename_i hz
      split
      · rename_i k n
        split
        · rename_i hsm
          have hsm := Nat.le_of_ble_eq_true hsm
          rw [forceL_eq]
          have e1 := VL.int.1 hy
          subst e1
          intro w0 B s s' v ρ w hρ ht H hfr
          refine core true n _ w0 B s s' v ρ w hρ hz ⟨⟨k, rfl⟩, hsm⟩ ht H hfr fun w _ => ⟨reps zv.cells.toList n, ?_, reps_rel (plain_cells A.p) n⟩
          unfold newOf
          simp only [Bool.not_true, Bool.false_eq_true, if_false]
          by_cases hc : n * z = 0
          · rw [if_pos hc]
            have : reps zv.cells.toList n = [] := List.eq_nil_of_length_eq_zero (by rw [reps_len, Array.length_toList, A.l, hc])
            rw [this]; rfl
          · rw [if_neg hc]
            simp only [Sem.run_bind, A.r, Result.andThen, Sem.run_pure, zeroCells_eq]
        · exact .fail
      · exact .fail
    · rename_i hz
      split
      · rename_i n hn
        intro w0 B s s' v ρ w hρ ht H hfr
        obtain ⟨new, s1, t1, t2, hn1⟩ := tells_bind (good_firstK _ _ _) ht
        have hs1 : s1.f = s.f ∧ s1.n = s.n := by
          unfold firstK at t1
          split at t1
          · split at t1
            · obtain ⟨_, rfl⟩ := tells_pure t1; exact ⟨rfl, rfl⟩
            · obtain ⟨b, off, l, t, fl, _, _, _, _, g1, g2⟩ := tells_load t1
              exact ⟨g1, g2⟩
          · split at t1
            · obtain ⟨_, rfl⟩ := tells_pure t1; exact ⟨rfl, rfl⟩
            · exact (tells_fail t1).elim
          · rw [forceL_eq] at t1
            obtain ⟨_, rfl⟩ := tells_pure t1; exact ⟨rfl, rfl⟩
          · exact (tells_fail t1).elim
        have hnew : NewOk P w0 B ρ s1.f (newOf el z n false y') new := by
          intro w1 H1
          rw [hs1.1] at H1
          obtain ⟨arr, w2, ρ2, hr, H2, hE, l', rfl, hl, _⟩ := sim_first (P := P) (z := z) (n := n) hy (fun m hm => by rw [hn] at hm; cases hm; exact Nat.le_refl _) w0 B s s1 new ρ w1 hρ t1 H1 (fun id h1 h2 => by omega)
          -- nothing turns
          have hρ2 : ρ2 = ρ := by funext id; exact hE.out id (by omega)
          subst hρ2
          have hw2 : w2 = w1 := first_still hr
          subst hw2
          refine ⟨l', ?_, hl⟩
          unfold newOf
          simpa using hr
        obtain ⟨v', w', ρ', hr, H', hE, hv⟩ := core false n new w0 B s1 s' v ρ w hρ hz (fun w => lenK_run hy hn w) t2 (by rw [hs1.1]; exact H) (by rw [hs1.2]; exact hfr) hnew
        exact ⟨v', w', ρ', hr, H', by rw [← hs1.2]; exact hE, hv⟩
      · exact .fail
end Go.Proofs.YtpijenlmfmknnaaGreatDoor

/- An operation of whatever kind, its callee given. No program. -/
namespace Go.Proofs.YtpijenlmfmknnaaGreatDoor
open Go.RowKit
set_option linter.unusedVariables false
variable {P : Program}

/-- What an operation comes to: a value, nothing, or a call that returns one. -/
def Went (P : Program) (r : Result Next) (K : Value → World → Prop) : Prop := match r with
  | .ok (.value v) w => K v w
  | .ok .skip w => K undef w
  | .ok (.enter f args) w => Calls P f args w fun e w' => ∃ v, e = .returned v ∧ K v w'
  | _ => False
/-- Behind a piece: the store stands for memory, the value for the value. -/
def Post (w0 : World) (B : Nat) (ρ : Rn) (s s' : Hp) (v : Value) (v' : Value) (w' : World) : Prop := ∃ ρ', HR w0 B ρ' s'.f w' ∧ Ext ρ ρ' s.n s'.n ∧ VL ρ' v v'
theorem un_rel {ρ : Rn} : VL ρ unV undef := VL.tuple.2 ⟨[], rfl, rfl⟩
theorem went_of {ρ0 : Rn} {F : M Value} {c : Sem Next} (h : Sim P ρ0 F c OpR) {w0 w : World} {B : Nat} {s s' : Hp} {v : Value} (ht : Tells F s v s') (H : HR w0 B ρ0 s.f w) (hfr : Free ρ0 s.n s'.n) : Went P (c.run P w) (Post w0 B ρ0 s s' v) := by
  obtain ⟨nx, w', ρ', hr, H', hE, hR⟩ := h w0 B s s' v ρ0 w .rfl ht H hfr
  rw [hr]
  rcases hR with ⟨v', rfl, hv⟩ | ⟨rfl, rfl⟩
  · exact ⟨ρ', H', hE, hv⟩
  · exact ⟨ρ', H', hE, un_rel⟩
/-- A callee of the reckoner is sound. -/
def CallOk (P : Program) (E : Callee') : Prop := ∀ (f : FuncId) (vs : List Value) (s s' : Hp) (v : Value), E f vs s = some (v, s') →
  ∀ (w0 : World) (B : Nat) (ρ : Rn) (w : World) (vs' : List Value), HR w0 B ρ s.f w → LR (VL ρ) vs vs' → Free ρ s.n s'.n → Went P ((callFunc f ⟨vs'⟩).run P w) (Post w0 B ρ s s' v)
theorem tells_call {C : Hp → Option (Value × Hp)} {s s' : Hp} {v : Value} (h : Tells (mcall C) s v s') : C s = some (v, s') := by
  have e := h.pair
  have e2 : (match C s with | some (v, s) => some (v, s) | none => none) = some (v, s') := e
  cases hc : C s with
  | none => rw [hc] at e2; cases e2
  | some x => rw [hc] at e2; obtain ⟨a, b⟩ := x; cases e2; rfl

section
variable {ρ0 : Rn} {e : En} {m : Operand → Value}
theorem tells_aevs (he : EnvR ρ0 e m) : ∀ (l : List Operand) {s s' : Hp} {vs : List Value}, Tells (aevs e l) s vs s' → s' = s ∧ LR (VL ρ0) vs (l.map m)
  | [], s, s', vs, h => by obtain ⟨rfl, rfl⟩ := tells_pure h; exact ⟨rfl, rfl⟩
  | x :: l, s, s', vs, h => by
    unfold aevs at h
    split at h
    · rename_i v hv
      obtain ⟨ws, s1, h1, h2, _⟩ := tells_bind (good_aevs e l) h
      obtain ⟨rfl, hl⟩ := tells_aevs he l h1
      obtain ⟨rfl, rfl⟩ := tells_pure h2
      exact ⟨rfl, m x, l.map m, rfl, he x v hv, hl⟩
    · exact (tells_fail h).elim
theorem went_callV {E : Callee'} (hE : GoodE E) (hC : CallOk P E) (he : EnvR ρ0 e m) (f : Operand) (args : Array Operand) (ats : Array TypeId) (o : Oper) (ho : o.op = .call { callee := .value f, args, argTypes := ats })
    {w0 w : World} {B : Nat} {s s' : Hp} {v : Value} (ht : Tells (opCallV E f args e) s v s') (H : HR w0 B ρ0 s.f w) (hfr : Free ρ0 s.n s'.n) : Went P ((execOp m o).run P w) (Post w0 B ρ0 s s' v) := by
  unfold opCallV at ht
  obtain ⟨fv, s1, t1, t2, _⟩ := tells_bind (good_maev _) ht
  obtain ⟨hfv, rfl⟩ := tells_aev t1
  obtain ⟨vs, s2, t3, t4, _⟩ := tells_bind (good_aevs _ _) t2
  obtain ⟨rfl, hvs⟩ := tells_aevs he _ t3
  split at t4
  · rename_i g us hg
    unfold calleeK at hg
    split at hg
    · rename_i g' a b
      cases hg
      rw [forceL_eq] at t4
      obtain ⟨_, a', b', e1, ha, hb⟩ := VL.func.1 (he f _ hfv)
      have hcall := hC _ _ _ _ _ (tells_call t4) w0 B ρ0 w (a' ++ (args.toList.map m ++ b')) H (ha.app (hvs.app hb)) hfr
      have hx : (execOp m o).run P w = (callFunc g ⟨a' ++ (args.toList.map m ++ b')⟩).run P w := by
        have harr : (⟨a'⟩ : Array Value) ++ args.map m ++ ⟨b'⟩ = ⟨a' ++ (args.toList.map m ++ b')⟩ := by apply Array.ext'; simp
        simp only [execOp, ho, resolve, Deferred.ofValue, e1, Sem.run_bind, Sem.run_pure, Result.andThen, invoke, harr]
      rw [hx]; exact hcall
    · cases hg
  · exact (tells_fail t4).elim
theorem went_callI {E : Callee'} (hE : GoodE E) (hC : CallOk P E) (he : EnvR ρ0 e m) (r : Operand) (name : String) (args : Array Operand) (ats : Array TypeId) (o : Oper) (ho : o.op = .call { callee := .invoke r name, args, argTypes := ats })
    {w0 w : World} {B : Nat} {s s' : Hp} {v : Value} (ht : Tells (opCallI P E r name args e) s v s') (H : HR w0 B ρ0 s.f w) (hfr : Free ρ0 s.n s'.n) : Went P ((execOp m o).run P w) (Post w0 B ρ0 s s' v) := by
  unfold opCallI at ht
  split at ht
  · rename_i t x hr
    obtain ⟨vs, s2, t3, t4, _⟩ := tells_bind (good_aevs _ _) ht
    obtain ⟨rfl, hvs⟩ := tells_aevs he _ t3
    split at t4
    · rename_i g hg
      obtain ⟨x', e1, hx⟩ := VL.iface.1 (he r _ hr)
      have hcall := hC _ _ _ _ _ (tells_call t4) w0 B ρ0 w (x' :: args.toList.map m) H ⟨x', _, rfl, hx, hvs⟩ hfr
      unfold methodOf at hg
      split at hg
      · rename_i i hi
        split at hg
        · rename_i mt hm
          split at hg
          · cases hg
          · rename_i g' d hnp hpath hfn hu
            cases hg
            have hmeth : (method (P.types.size + Made.depth) t x' name).run P w = .ok (g, x') w := by
              have hpos : 0 < Made.depth := by decide
              have hd : P.types.size + Made.depth = (P.types.size + (Made.depth - 1)) + 1 := by omega
              have hpl : mt.path.toList = [] := by simpa using hpath
              rw [hd]
              simp only [method, Sem.run_bind, info_run hi, Result.andThen, hm, hpl, follow, Sem.run_pure, hpath, hfn, receiverAt, run_underlying hu]
              cases d <;> first
                | rfl
                | exact (hnp _ rfl).elim
            have hrun : (execOp m o).run P w = (callFunc g ⟨x' :: args.toList.map m⟩).run P w := by
              have harr : #[x'] ++ (args.map m) = ⟨x' :: args.toList.map m⟩ := by apply Array.ext'; simp
              have hext : (#[Value.iface t x'] ++ args.map m).extract 1 (#[Value.iface t x'] ++ args.map m).size = args.map m := by
                apply Array.ext'
                simp
                exact List.take_of_length_le (by simp)
              have h0 : (#[Value.iface t x'] ++ args.map m)[0]? = some (.iface t x') := by rw [Array.getElem?_append_left (by simp)]; rfl
              simp only [execOp, ho, resolve, e1, Sem.run_bind, Sem.run_pure, Result.andThen, invoke, h0, hext, callMethod, run_program, hmeth, harr]
            rw [hrun]; exact hcall
          · cases hg
        · cases hg
      · cases hg
    · exact (tells_fail t4).elim
  · exact (tells_fail ht).elim
end
end Go.Proofs.YtpijenlmfmknnaaGreatDoor

/- Operations one behind the other, as the model runs them. No program. -/
namespace Go.Proofs.YtpijenlmfmknnaaGreatDoor
open Go.RowKit
set_option linter.unusedVariables false
variable {P : Program}

def DefR (ρ : Rn) (d d' : Deferred) : Prop := ∃ g a b a' b', d = { target := .fn (.func g) ⟨b⟩, args := ⟨a⟩ } ∧ d' = { target := .fn (.func g) ⟨b'⟩, args := ⟨a'⟩ } ∧ LR (VL ρ) a a' ∧ LR (VL ρ) b b'
def DsR (ρ : Rn) : List Deferred → List Deferred → Prop
  | [], l => l = []
  | d :: l, l' => ∃ d' t, l' = d' :: t ∧ DefR ρ d d' ∧ DsR ρ l t
theorem DefR.grow {ρ ρ' : Rn} (hρ : ρ.le ρ') {d d' : Deferred} (h : DefR ρ d d') : DefR ρ' d d' := by
  obtain ⟨g, a, b, a', b', e1, e2, h1, h2⟩ := h
  exact ⟨g, a, b, a', b', e1, e2, h1.grow hρ, h2.grow hρ⟩
theorem DsR.grow {ρ ρ' : Rn} (hρ : ρ.le ρ') : ∀ {l l' : List Deferred}, DsR ρ l l' → DsR ρ' l l'
  | [], _, h => h
  | d :: l, _, ⟨d', t, e, hd, ht⟩ => ⟨d', t, e, hd.grow hρ, DsR.grow hρ ht⟩
/-- The temporaries and what is deferred. -/
structure ActR (ρ : Rn) (N : Nat) (t : TT) (ds : List Deferred) (a : Act) : Prop where
  size : a.tmps.size = N
  le : N ≤ 256
  tm : ∀ k, k ≤ 255 → VL ρ (tget8 t k) (a.tmps.getD k undef)
  df : DsR ρ ds a.defers
theorem ActR.grow {ρ ρ' : Rn} (hρ : ρ.le ρ') {N : Nat} {t : TT} {ds : List Deferred} {a : Act} (h : ActR ρ N t ds a) : ActR ρ' N t ds a :=
  ⟨h.size, h.le, fun k hk => (h.tm k hk).grow hρ, h.df.grow hρ⟩
def Glo' (ρ : Rn) : Prop := ∀ g, g < 16 → ∃ p, ρ g = some p ∧ p.blk = g ∧ p.off = 0
theorem env_of {ρ : Rn} {N : Nat} {t : TT} {ds : List Deferred} {a : Act} (h : ActR ρ N t ds a) (hg : Glo' ρ) : EnvR ρ (aev t) a.eval := by
  intro x v hx
  cases x with
  | tmp k =>
    unfold aev at hx
    simp only [] at hx
    split at hx
    · rename_i hb
      cases hx
      exact h.tm k (Nat.le_of_ble_eq_true hb)
    · cases hx
  | const c =>
    unfold aev at hx
    simp only [] at hx
    split at hx
    · rename_i hp; cases hx; exact plain_self hp
    · cases hx
  | global g =>
    unfold aev at hx
    simp only [] at hx
    split at hx
    · rename_i hb
      cases hx
      obtain ⟨p, h1, h2, h3⟩ := hg g (by have := Nat.le_of_ble_eq_true hb; omega)
      exact VL.ptr.2 ⟨rfl, p, h1, by rw [h2, h3]; rfl⟩
    · cases hx
  | func f => cases hx; exact VL.func.2 ⟨trivial, [], [], rfl, rfl, rfl⟩
theorem ActR.put {ρ : Rn} {N : Nat} {t : TT} {ds : List Deferred} {a : Act} (h : ActR ρ N t ds a) {d : Nat} {v v' : Value} (hd : d < N) (hv : VL ρ v v') : ActR ρ N (tset8 t d v id) ds (a.put (some d) v') := by
  refine ⟨by simp [Act.put, h.size], h.le, fun k hk => ?_, h.df⟩
  have hle := h.le
  rw [tget8_put _ _ _ _ (by omega) hk]
  simp only [Act.put, Array.getD_eq_getD_getElem?, Array.getElem?_setIfInBounds]
  by_cases hdk : d = k
  · rw [if_pos hdk, if_pos hdk, if_pos (by rw [h.size]; exact hd)]
    exact hv
  · rw [if_neg hdk, if_neg hdk, ← Array.getD_eq_getD_getElem?]
    exact h.tm k hk
theorem tells_put {N : Nat} {t t' : TT} {d : Option Tmp} {v : Value} {s s' : Hp} (h : Tells (putK N t d v) s t' s') : s' = s ∧ ((d = none ∧ t' = t) ∨ ∃ k, d = some k ∧ k < N ∧ t' = tset8 t k v id) := by
  unfold putK at h
  split at h
  · obtain ⟨rfl, rfl⟩ := tells_pure h; exact ⟨rfl, .inl ⟨rfl, rfl⟩⟩
  · rename_i k
    split at h
    · rename_i hb
      rw [tset8_eq] at h
      obtain ⟨rfl, rfl⟩ := tells_pure h
      exact ⟨rfl, .inr ⟨k, rfl, blt_lt hb, rfl⟩⟩
    · exact (tells_fail h).elim
theorem went_upon {o : Oper} {a : Act} {next : Act → World → Prop} {Q : Exit → Act → World → Prop} {r : Result Next} {K : Value → World → Prop} (h : Went P r K) (hk : ∀ v w, K v w → next (a.put o.dst v) w) : o.upon P a next Q r := by
  unfold Went at h
  split at h
  · exact hk _ _ h
  · exact hk _ _ h
  · refine Calls.mono h fun e w' he => ?_
    obtain ⟨v, rfl, hv⟩ := he
    exact hk _ _ hv
  · exact h.elim

section
variable {ρ0 : Rn} {e : En} {m : Operand → Value} {o : Oper}
theorem x_move (he : EnvR ρ0 e m) (x : Operand) (ho : o.op = .move x) : Sim P ρ0 (opMove x e) (execOp m o) OpR := by
  unfold execOp
  rw [ho]
  exact snd_move he x
theorem x_assign (he : EnvR ρ0 e m) (x : Operand) (ho : o.op = .assign x) : Sim P ρ0 (opMove x e) (execOp m o) OpR := by
  unfold execOp
  rw [ho]
  exact snd_move he x
theorem x_pick (he : EnvR ρ0 e m) (c : Operand) (a : Operand) (b : Operand) (ho : o.op = .pick c a b) : Sim P ρ0 (opPick c a b e) (execOp m o) OpR := by
  unfold execOp
  rw [ho]
  exact snd_pick he c a b
theorem x_alloc (he : EnvR ρ0 e m) (t : TypeId) (ho : o.op = .alloc t) : Sim P ρ0 (opAlloc P t) (execOp m o) OpR := by
  unfold execOp
  rw [ho]
  exact Sim.value (snd_alloc t)
theorem x_box (he : EnvR ρ0 e m) (t : TypeId) (x : Operand) (ho : o.op = .box t x) : Sim P ρ0 (opBox t x e) (execOp m o) OpR := by
  unfold execOp
  rw [ho]
  exact Sim.value (snd_box he t x)
theorem x_build (he : EnvR ρ0 e m) (t : TypeId) (parts : Array (Nat × Operand)) (ho : o.op = .build t parts) : Sim P ρ0 (opBuild P t parts e) (execOp m o) OpR := by
  unfold execOp
  rw [ho]
  exact Sim.value (snd_build he t parts)
theorem x_buildSlice (he : EnvR ρ0 e m) (t : TypeId) (len : Nat) (parts : Array (Nat × Operand)) (ho : o.op = .buildSlice t len parts) : Sim P ρ0 (opBuildSlice P t len parts e) (execOp m o) OpR := by
  unfold execOp
  rw [ho]
  exact Sim.value (snd_buildSlice he t len parts)
theorem x_load (he : EnvR ρ0 e m) (t : TypeId) (a : Operand) (ho : o.op = .load t a) : Sim P ρ0 (opLoad P t a e) (execOp m o) OpR := by
  unfold execOp
  rw [ho]
  exact Sim.value (snd_load he t a)
theorem x_store (he : EnvR ρ0 e m) (t : TypeId) (a : Operand) (x : Operand) (ho : o.op = .store t a x) : Sim P ρ0 (opStore P t a x e) (execOp m o) OpR := by
  unfold execOp
  rw [ho]
  exact snd_store he t a x
theorem x_binOp (he : EnvR ρ0 e m) (op : BinOp) (t : TypeId) (x : Operand) (y : Operand) (yt : TypeId) (ho : o.op = .binOp op t x y yt) : Sim P ρ0 (opBin P op t x y e) (execOp m o) OpR := by
  unfold execOp
  rw [ho]
  exact Sim.value (snd_bin he op t x y)
theorem x_unOp (he : EnvR ρ0 e m) (op : UnOp) (ut : TypeId) (x : Operand) (ho : o.op = .unOp op ut x) : Sim P ρ0 (opUnOp P op x e) (execOp m o) OpR := by
  unfold execOp
  rw [ho]
  exact Sim.value (snd_un he op x)
theorem x_convert (he : EnvR ρ0 e m) (src : TypeId) (dst : TypeId) (x : Operand) (ho : o.op = .convert src dst x) : Sim P ρ0 (opConvert P src dst x e) (execOp m o) OpR := by
  unfold execOp
  rw [ho]
  exact Sim.value (snd_convert he src dst x)
theorem x_makeInterface (he : EnvR ρ0 e m) (t : TypeId) (x : Operand) (ho : o.op = .makeInterface t x) : Sim P ρ0 (opMakeInterface P t x e) (execOp m o) OpR := by
  unfold execOp
  rw [ho]
  exact Sim.value (snd_makeInterface he t x)
theorem x_makeFunc (he : EnvR ρ0 e m) (fn : Fn) (a : Array Operand) (b : Array Operand) (ho : o.op = .makeFunc fn a b) : Sim P ρ0 (opMakeFunc fn a b e) (execOp m o) OpR := by
  unfold execOp
  rw [ho]
  exact Sim.value (snd_makeFunc he fn a b)
theorem x_makeMap (he : EnvR ρ0 e m) (t : TypeId) (r : Option Operand) (ho : o.op = .makeMap t r) : Sim P ρ0 (opMakeMap r) (execOp m o) OpR := by
  unfold execOp
  rw [ho]
  exact Sim.value (snd_makeMap t r m)
theorem x_makeSlice (he : EnvR ρ0 e m) (t : TypeId) (l : Operand) (c : Operand) (ho : o.op = .makeSlice t l c) : Sim P ρ0 (opMakeSlice P t l c e) (execOp m o) OpR := by
  unfold execOp
  rw [ho]
  exact Sim.value (snd_makeSlice he t l c)
theorem x_slice (he : EnvR ρ0 e m) (t : TypeId) (x : Operand) (lo : Option Operand) (hi : Option Operand) (mx : Option Operand) (ho : o.op = .slice t x lo hi mx) : Sim P ρ0 (opSlice P t x lo hi mx e) (execOp m o) OpR := by
  unfold execOp
  rw [ho]
  exact Sim.value (snd_slice he t x lo hi mx)
theorem x_fieldAddr (he : EnvR ρ0 e m) (t : TypeId) (x : Operand) (f : Nat) (ho : o.op = .fieldAddr t x f) : Sim P ρ0 (opFieldAddr P t x f e) (execOp m o) OpR := by
  unfold execOp
  rw [ho]
  exact Sim.value (snd_fieldAddr he t x f)
theorem x_field (he : EnvR ρ0 e m) (t : TypeId) (x : Operand) (f : Nat) (ho : o.op = .field t x f) : Sim P ρ0 (opField P t x f e) (execOp m o) OpR := by
  unfold execOp
  rw [ho]
  exact Sim.value (snd_field he t x f)
theorem x_indexAddr (he : EnvR ρ0 e m) (t : TypeId) (x : Operand) (ix : Operand) (ho : o.op = .indexAddr t x ix) : Sim P ρ0 (opIndexAddr P t x ix e) (execOp m o) OpR := by
  unfold execOp
  rw [ho]
  exact Sim.value (snd_indexAddr he t x ix)
theorem x_index (he : EnvR ρ0 e m) (t : TypeId) (x : Operand) (ix : Operand) (ho : o.op = .index t x ix) : Sim P ρ0 (opIndex P t x ix e) (execOp m o) OpR := by
  unfold execOp
  rw [ho]
  exact Sim.value (snd_index he t x ix)
theorem x_lookup (he : EnvR ρ0 e m) (t : TypeId) (x : Operand) (ix : Operand) (ok : Bool) (ho : o.op = .lookup t x ix ok) : Sim P ρ0 (opLookup P t x ix ok e) (execOp m o) OpR := by
  unfold execOp
  rw [ho]
  exact Sim.value (snd_lookup he t x ix ok)
theorem x_mapUpdate (he : EnvR ρ0 e m) (t : TypeId) (x : Operand) (k : Operand) (y : Operand) (ho : o.op = .mapUpdate t x k y) : Sim P ρ0 (opMapUpdate P t x k y e) (execOp m o) OpR := by
  unfold execOp
  rw [ho]
  exact snd_mapUpdate he t x k y
theorem x_insert (he : EnvR ρ0 e m) (t : TypeId) (x : Operand) (k : Operand) (y : Operand) (ho : o.op = .insert t x k y) : Sim P ρ0 (opMapUpdate P t x k y e) (execOp m o) OpR := by
  unfold execOp
  rw [ho]
  exact snd_mapUpdate he t x k y
theorem x_typeAssert (he : EnvR ρ0 e m) (x : Operand) (xt : TypeId) (t : TypeId) (ok : Bool) (ho : o.op = .typeAssert x xt t ok) : Sim P ρ0 (opTypeAssert P x t ok e) (execOp m o) OpR := by
  unfold execOp
  rw [ho]
  exact Sim.value (snd_typeAssert he x xt t ok)
theorem x_extract (he : EnvR ρ0 e m) (x : Operand) (i : Nat) (ho : o.op = .extract x i) : Sim P ρ0 (opExtract x i e) (execOp m o) OpR := by
  unfold execOp
  rw [ho]
  exact Sim.value (snd_extract he x i)
theorem x_builtin (he : EnvR ρ0 e m) (b : Builtin) (args : Array Operand) (ts : Array TypeId) (ho : o.op = .call { callee := .builtin b, args, argTypes := ts }) : Sim P ρ0 (opBuiltin P o.type b args ts e) (execOp m o) OpR := by
  unfold opBuiltin
  refine Sim.aevs he _ (fun _ => good_biltin _ _ _ _ _) fun vs hvs => ?_
  have hx : execOp m o = builtin b ts o.type (args.map fun | .const _ => true | _ => false) (args.map m) := by
    unfold execOp
    rw [ho]
    rfl
  rw [hx]
  have hlist : (args.map m) = ⟨args.toList.map m⟩ := by apply Array.ext'; simp
  rw [hlist]
  generalize args.toList.map m = us at *
  generalize (args.map fun | .const _ => true | _ => false) = cs
  obtain ⟨tl⟩ := ts
  show Sim P ρ0 (biltin P o.type b tl vs) _ _
  clear ho hx
  unfold biltin
  split
  · rename_i t tr x xr
    obtain ⟨x', ur, e1, hx', _⟩ := hvs
    subst e1
    exact Sim.value (snd_len hx' _ _ _ rfl rfl)
  · rename_i t tr x xr
    obtain ⟨x', ur, e1, hx', _⟩ := hvs
    subst e1
    exact Sim.value (snd_cap hx' _ _ _ rfl rfl)
  · rename_i t tr x y
    obtain ⟨x', ur, e1, hx', y', ur2, e2, hy', e3⟩ := hvs
    subst e1 e2
    have hh : tr.head? = (⟨t :: tr⟩ : Array TypeId)[1]? := by cases tr <;> rfl
    rw [hh]
    exact Sim.value (snd_append hx' hy' _ _ _ rfl rfl rfl)
  · unfold biPl
    split
    · rename_i hp
      rw [snd_plains hvs hp]
      exact Sim.value snd_prun
    · exact .fail
  · unfold biPl
    split
    · rename_i hp
      rw [snd_plains hvs hp]
      exact Sim.value snd_prun
    · exact .fail
  · rename_i t tr x
    obtain ⟨x', ur, e1, hx', _⟩ := hvs
    subst e1
    exact Sim.value (snd_clear hx' _ _ _ rfl rfl)
  · rename_i t tr x y
    obtain ⟨x', ur, e1, hx', y', ur2, e2, hy', e3⟩ := hvs
    subst e1 e2
    exact Sim.value (snd_copy hx' hy' _ _ _ rfl rfl rfl)
  · exact .fail
end
end Go.Proofs.YtpijenlmfmknnaaGreatDoor

/- One operation, and operations in the text's order. No program. -/
namespace Go.Proofs.YtpijenlmfmknnaaGreatDoor
open Go.RowKit
set_option linter.unusedVariables false
variable {P : Program}

theorem bool_only {ρ : Rn} {v : Value} {b : Bool} (h : VL ρ v (.bool b)) : v = .bool b ∨ v = .chan none := by
  cases v with
  | bool x => have := VL.bool.1 h; cases this; exact .inl rfl
  | int k i => have := VL.int.1 h; cases this
  | string s => have := VL.string.1 h; cases this
  | pointer a => cases a with
    | none => have := VL.nilp.1 h; cases this
    | some a => obtain ⟨_, p, _, e⟩ := VL.ptr.1 h; cases e
  | slice a l c => cases a with
    | none => have := (VL.nils.1 h).2.2; cases this
    | some a => obtain ⟨_, _, p, _, a', c', e, _⟩ := VL.slice.1 h; cases e
  | map r => cases r with
    | none => have := VL.nilm.1 h; cases this
    | some a => obtain ⟨p, _, e⟩ := VL.map.1 h; cases e
  | func fn f c =>
    obtain ⟨f⟩ := f
    obtain ⟨c⟩ := c
    obtain ⟨_, f', c', e, _⟩ := VL.func.1 h; cases e
  | nilFunc => have := VL.nilf.1 h; cases this
  | iface t x => obtain ⟨x', e, _⟩ := VL.iface.1 h; cases e
  | nilIface => have := VL.nili.1 h; cases this
  | agg c => obtain ⟨l⟩ := c; obtain ⟨l', e, _⟩ := VL.agg.1 h; cases e
  | tuple c => obtain ⟨l⟩ := c; obtain ⟨l', e, _⟩ := VL.tuple.1 h; cases e
  | chan c => cases c with
    | none => exact .inr rfl
    | some r => obtain ⟨n, h⟩ := h; cases n <;> exact h.elim
  | float k b => obtain ⟨n, h⟩ := h; cases n <;> exact h.elim
  | complex k a b => obtain ⟨n, h⟩ := h; cases n <;> exact h.elim
theorem wanted_of {ρ : Rn} {N : Nat} {t : TT} {ds : List Deferred} {a : Act} (h : ActR ρ N t ds a) {ops : Array Oper} {o : Oper} {b : Bool} (hw : wantedK ops t o = some b) : Region.wanted o (yielded ops a.tmps) = b := by
  unfold wantedK at hw
  unfold Region.wanted
  split at hw
  · rename_i hg
    cases hw
    rw [hg]
  · rename_i j want hg
    rw [hg]
    simp only []
    unfold yielded
    split at hw
    · rename_i d hd
      rw [hd]
      simp only [Option.bind_some]
      split at hw
      · rename_i x hle hx
        have hr := h.tm d (Nat.le_of_ble_eq_true hle)
        rw [hx] at hr
        have e := VL.bool.1 hr
        rw [Array.getD_eq_getD_getElem?] at e
        cases hq : a.tmps[d]? with
        | none => rw [hq] at e; cases e
        | some y =>
          rw [hq] at e
          have : y = .bool x := e
          subst this
          cases hw
          simp
      · cases hw
      · rename_i hle hnb hnj
        cases hw
        have hr := h.tm d (Nat.le_of_ble_eq_true hle)
        cases hq : a.tmps[d]? with
        | none => rfl
        | some y =>
          rw [Array.getD_eq_getD_getElem?, hq] at hr
          cases y <;> first
            | rfl
            | (rcases bool_only hr with e | e
               · exact (hnb _ e).elim
               · exact (hnj e).elim)
      · cases hw
    · rename_i hd
      rw [hd]
      cases hw
      rfl
theorem snd_disp {E : Callee'} (hE : GoodE E) (hC : CallOk P E) {o : Oper} {N : Nat} {t : TT} {ds ds1 : List Deferred} {a : Act} {w0 w : World} {B : Nat} {ρ : Rn} {s s1 : Hp} {v : Value} (ha : ActR ρ N t ds a)
    (ht : Tells ((disp P o).f E (aev t) ds) s (v, ds1) s1) (H : HR w0 B ρ s.f w) (hfr : Free ρ s.n s1.n) {next : Act → World → Prop} {Q : Exit → Act → World → Prop}
    (hk : ∀ v' w' ρ' dsx, HR w0 B ρ' s1.f w' → Ext ρ ρ' s.n s1.n → VL ρ' v v' → DsR ρ' ds1 dsx → next (({ a with defers := dsx } : Act).put o.dst v') w') : o.upon P a next Q ((execOp a.eval o).run P w) := by
  have he := env_of ha H.glo
  have went : ∀ {F : M Value}, Good F → (∀ w, Tells F s v s1 → Went P ((execOp a.eval o).run P w) (Post w0 B ρ s s1 v) ∨ ¬ HR w0 B ρ s.f w) → Tells (mbind F fun v => mpure (v, ds)) s (v, ds1) s1 → o.upon P a next Q ((execOp a.eval o).run P w) := by
    intro F hF hw ht
    obtain ⟨v2, s2, t1, t2, _⟩ := tells_bind hF ht
    obtain ⟨e, rfl⟩ := tells_pure t2
    cases e
    rcases hw w t1 with hw | hw
    · refine went_upon hw fun v' w' hp => ?_
      obtain ⟨ρ', H', hE', hv⟩ := hp
      exact hk v' w' ρ' a.defers H' hE' hv (ha.df.grow hE'.le)
    · exact (hw H).elim
  have pd : ∀ {F : En → M Value}, Good (F (aev t)) → Sim P ρ (F (aev t)) (execOp a.eval o) OpR → Tells ((pureD F).f E (aev t) ds) s (v, ds1) s1 → o.upon P a next Q ((execOp a.eval o).run P w) := by
    intro F hF hS ht
    exact went hF (fun w t1 => (Classical.em (HR w0 B ρ s.f w)).imp (fun H => went_of hS t1 H hfr) id) ht
  unfold disp at ht
  split at ht
  · rename_i x ho; exact pd (good_opMove _ _) (x_move he x ho) ht
  · rename_i x ho; exact pd (good_opMove _ _) (x_assign he x ho) ht
  · rename_i c a b ho; exact pd (good_opPick _ _ _ _) (x_pick he c a b ho) ht
  · rename_i t ho; exact pd (F := fun _ => opAlloc P t) (good_opAlloc _ _) (x_alloc he t ho) ht
  · rename_i t x ho; exact pd (good_opBox _ _ _) (x_box he t x ho) ht
  · rename_i t parts ho; exact pd (good_opBuild _ _ _ _) (x_build he t parts ho) ht
  · rename_i t len parts ho; exact pd (good_opBuildSlice _ _ _ _ _) (x_buildSlice he t len parts ho) ht
  · rename_i t a ho; exact pd (good_opLoad _ _ _ _) (x_load he t a ho) ht
  · rename_i t a x ho; exact pd (good_opStore _ _ _ _ _) (x_store he t a x ho) ht
  · rename_i x ho; exact pd (good_opNilCheck _ _) (snd_nilCheck he x _ ho) ht
  · rename_i op t x y yt ho; exact pd (good_opBin _ _ _ _ _ _) (x_binOp he op t x y yt ho) ht
  · rename_i op ut x ho; exact pd (good_opUnOp _ _ _ _) (x_unOp he op ut x ho) ht
  · rename_i src dst x ho; exact pd (good_opConvert _ _ _ _ _) (x_convert he src dst x ho) ht
  · rename_i t x ho; exact pd (good_opMakeInterface _ _ _ _) (x_makeInterface he t x ho) ht
  · rename_i fn a b ho; exact pd (good_opMakeFunc _ _ _ _) (x_makeFunc he fn a b ho) ht
  · rename_i t r ho; exact pd (F := fun _ => opMakeMap r) (good_opMakeMap _) (x_makeMap he t r ho) ht
  · rename_i t l c ho; exact pd (good_opMakeSlice _ _ _ _ _) (x_makeSlice he t l c ho) ht
  · rename_i t x lo hi mx ho; exact pd (good_opSlice _ _ _ _ _ _ _) (x_slice he t x lo hi mx ho) ht
  · rename_i t x f ho; exact pd (good_opFieldAddr _ _ _ _ _) (x_fieldAddr he t x f ho) ht
  · rename_i t x f ho; exact pd (good_opField _ _ _ _ _) (x_field he t x f ho) ht
  · rename_i t x ix ho; exact pd (good_opIndexAddr _ _ _ _ _) (x_indexAddr he t x ix ho) ht
  · rename_i t x ix ho; exact pd (good_opIndex _ _ _ _ _) (x_index he t x ix ho) ht
  · rename_i t x ix ok ho; exact pd (good_opLookup _ _ _ _ _ _) (x_lookup he t x ix ok ho) ht
  · rename_i t m k x ho; exact pd (good_opMapUpdate _ _ _ _ _ _) (x_mapUpdate he t m k x ho) ht
  · rename_i t m k x ho; exact pd (good_opMapUpdate _ _ _ _ _ _) (x_insert he t m k x ho) ht
  · rename_i x xt t ok ho; exact pd (good_opTypeAssert _ _ _ _ _) (x_typeAssert he x xt t ok ho) ht
  · rename_i x i ho; exact pd (good_opExtract _ _ _) (x_extract he x i ho) ht
  · rename_i b args ts ho; exact pd (good_opBuiltin _ _ _ _ _ _) (x_builtin he b args ts ho) ht
  · rename_i f args ats ho
    exact went (good_opCallV hE _ _ _) (fun w t1 => (Classical.em (HR w0 B ρ s.f w)).imp (fun H => went_callV hE hC he f args ats _ ho t1 H hfr) id) ht
  · rename_i r name args ats ho
    exact went (good_opCallI P hE _ _ _ _) (fun w t1 => (Classical.em (HR w0 B ρ s.f w)).imp (fun H => went_callI hE hC he r name args ats _ ho t1 H hfr) id) ht
  · rename_i f args ats ho
    obtain ⟨d, s2, t1, t2, _⟩ := tells_bind (good_opDefer _ _ _) ht
    obtain ⟨e, rfl⟩ := tells_pure t2
    cases e
    unfold opDefer at t1
    obtain ⟨fv, s3, t3, t4, _⟩ := tells_bind (good_maev _) t1
    obtain ⟨hfv, rfl⟩ := tells_aev t3
    obtain ⟨vs, s4, t5, t6, _⟩ := tells_bind (good_aevs _ _) t4
    obtain ⟨rfl, hvs⟩ := tells_aevs he _ t5
    unfold deferV at t6
    split at t6
    · rename_i g al bl
      rw [forceL_eq] at t6
      obtain ⟨rfl, rfl⟩ := tells_pure t6
      obtain ⟨_, a', b', e1, hal, hbl⟩ := VL.func.1 (he f _ hfv)
      have hx : (execOp a.eval o).run P w = .ok (.defer { target := .fn (.func g) ⟨b'⟩, args := ⟨a' ++ args.toList.map a.eval⟩ }) w := by
        have harr : (⟨a'⟩ : Array Value) ++ args.map a.eval = ⟨a' ++ args.toList.map a.eval⟩ := by apply Array.ext'; simp
        simp only [execOp, ho, resolve, Deferred.ofValue, e1, Sem.run_bind, Sem.run_pure, Result.andThen, harr]
      rw [hx]
      exact hk undef w ρ _ H .rfl un_rel ⟨_, _, rfl, ⟨g, _, _, _, _, rfl, rfl, hal.app hvs, hbl⟩, ha.df⟩
    · exact (tells_fail t6).elim
  · exact (tells_fail ht).elim
/-- Behind an operation. -/
def After (w0 : World) (B : Nat) (ρ : Rn) (s s' : Hp) (N : Nat) (t' : TT) (ds' : List Deferred) (a' : Act) (w' : World) : Prop := ∃ ρ', HR w0 B ρ' s'.f w' ∧ Ext ρ ρ' s.n s'.n ∧ ActR ρ' N t' ds' a'
theorem snd_opK {E : Callee'} (hE : GoodE E) (hC : CallOk P E) {ops : Array Oper} {o : Oper} {N : Nat} {t t' : TT} {ds ds' : List Deferred} {a : Act} {w0 w : World} {B : Nat} {ρ : Rn} {s s' : Hp} (ha : ActR ρ N t ds a)
    (ht : Tells (opK P E N ops o (t, ds)) s (t', ds') s') (H : HR w0 B ρ s.f w) (hfr : Free ρ s.n s'.n) {next : Act → World → Prop} (Q : Exit → Act → World → Prop) (hk : ∀ a' w', After w0 B ρ s s' N t' ds' a' w' → next a' w') :
    if Region.wanted o (yielded ops a.tmps) = true then o.wp P a w next Q else next (a.put o.dst undef) w := by
  unfold opK at ht
  simp only [] at ht
  split at ht
  · exact (tells_fail ht).elim
  · rename_i hw
    rw [wanted_of ha hw]
    simp only [Bool.false_eq_true, if_false]
    obtain ⟨t1, s1, k1, k2, _⟩ := tells_bind (good_putK _ _ _ _) ht
    obtain ⟨e, rfl⟩ := tells_pure k2
    cases e
    obtain ⟨rfl, hp⟩ := tells_put k1
    refine hk _ _ ⟨ρ, H, .rfl, ?_⟩
    rcases hp with ⟨h1, rfl⟩ | ⟨d, h1, hd, rfl⟩
    · rw [h1]; exact ha
    · rw [h1]; exact ha.put hd un_rel
  · rename_i hw
    rw [wanted_of ha hw]
    simp only [if_true]
    obtain ⟨x, s1, k1, k2, hn1⟩ := tells_bind (good_disp P hE o _ ds) ht
    obtain ⟨v, ds1⟩ := x
    simp only [] at k2
    obtain ⟨t1, s2, k3, k4, _⟩ := tells_bind (good_putK _ _ _ _) k2
    obtain ⟨e, rfl⟩ := tells_pure k4
    cases e
    obtain ⟨rfl, hp⟩ := tells_put k3
    unfold Oper.wp
    refine snd_disp hE hC ha k1 H hfr fun v' w' ρ' dsx H' hE' hv hds => hk _ _ ⟨ρ', H', hE', ?_⟩
    have ha' : ActR ρ' N t ds' { a with defers := dsx } := ⟨ha.size, ha.le, (ha.grow hE'.le).tm, hds⟩
    rcases hp with ⟨h1, rfl⟩ | ⟨d, h1, hd, rfl⟩
    · rw [h1]; exact ha'
    · rw [h1]; exact ha'.put hd hv
/-- In the text's order. -/
theorem snd_opsK {E : Callee'} (hE : GoodE E) (hC : CallOk P E) {ops : Array Oper} {N : Nat} {t' : TT} {ds' : List Deferred} {w0 : World} {B : Nat} {s' : Hp} {Q : Exit → Act → World → Prop} : ∀ (l : List Oper) (i : Nat) (t : TT) (ds : List Deferred) (a : Act) (w : World) (ρ : Rn) (s : Hp),
    (∀ (j : Nat) o, l[j]? = some o → ops[i + j]? = some o) → ActR ρ N t ds a → Tells (opsK P E N ops l (t, ds)) s (t', ds') s' → HR w0 B ρ s.f w → Free ρ s.n s'.n →
    (∀ a' w', After w0 B ρ s s' N t' ds' a' w' → Q .normal a' w') → wpOps P ops Q (List.range' i l.length) a w
  | [], i, t, ds, a, w, ρ, s, hl, ha, ht, H, hfr, hQ => by
    obtain ⟨e, rfl⟩ := tells_pure ht
    cases e
    exact hQ _ _ ⟨ρ, H, .rfl, ha⟩
  | o :: l, i, t, ds, a, w, ρ, s, hl, ha, ht, H, hfr, hQ => by
    obtain ⟨x, s1, k1, k2, hn1⟩ := tells_bind (good_opK P hE N ops o _) ht
    obtain ⟨t1, ds1⟩ := x
    have hn2 : s1.n ≤ s'.n := k2.le (good_opsK P hE N ops l _)
    have ho : ops[i]? = some o := by simpa using hl 0 o rfl
    have hrest : ∀ a' w', After w0 B ρ s s1 N t1 ds1 a' w' → wpOps P ops Q (List.range' (i + 1) l.length) a' w' := by
      rintro a' w' ⟨ρ', H', hE', ha'⟩
      refine snd_opsK hE hC l (i + 1) t1 ds1 a' w' ρ' s1 (fun j o' hj => ?_) ha' k2 H' (hfr.right hn1 hE') fun a2 w2 h2 => hQ _ _ ?_
      · have := hl (j + 1) o' (by simpa using hj)
        rw [show i + 1 + j = i + (j + 1) by omega]; exact this
      · obtain ⟨ρ2, H2, hE2, ha2⟩ := h2
        exact ⟨ρ2, H2, hE'.trans hE2 hn1 hn2, ha2⟩
    have hop := snd_opK hE hC ha k1 H (hfr.left hn2) Q hrest
    rw [List.length_cons, List.range'_succ]
    simp only [wpOps, ho]
    split at hop
    · rename_i hw
      rw [if_pos hw]
      exact .inl hop
    · rename_i hw
      rw [if_neg hw]
      exact hop
end Go.Proofs.YtpijenlmfmknnaaGreatDoor

/- A store for whatever a function tells of each number; which operations come before which; what an operation hangs on. No program. -/
namespace Go.Proofs.YtpijenlmfmknnaaGreatDoor
open Go.RowKit
set_option linter.unusedVariables false
variable {P : Program}

theorem mod_hi (k i : Nat) : k % 2 ^ (i + 1) = k % 2 ^ i + (if k.testBit i then 2 ^ i else 0) := by
  apply Nat.eq_of_testBit_eq
  intro b
  rw [Nat.testBit_mod_two_pow]
  by_cases hb : k.testBit i = true
  · rw [if_pos hb, Nat.add_comm (k % 2 ^ i) (2 ^ i)]
    by_cases h1 : b < i
    · rw [Nat.testBit_two_pow_add_gt h1, Nat.testBit_mod_two_pow]
      simp [h1, Nat.lt_succ_of_lt h1]
    · by_cases h2 : b = i
      · subst h2
        rw [Nat.testBit_two_pow_add_eq, Nat.testBit_mod_two_pow]
        simp [hb]
      · have hlt : 2 ^ i + k % 2 ^ i < 2 ^ (i + 1) := by
          have := Nat.mod_lt k (Nat.two_pow_pos i)
          rw [Nat.pow_succ]; omega
        have hlt2 : 2 ^ i + k % 2 ^ i < 2 ^ b := Nat.lt_of_lt_of_le hlt (Nat.pow_le_pow_right (by omega) (by omega))
        rw [Nat.testBit_lt_two_pow hlt2]
        simp; omega
  · rw [if_neg hb, Nat.add_zero (k % 2 ^ i), Nat.testBit_mod_two_pow]
    by_cases h1 : b < i
    · simp [h1, Nat.lt_succ_of_lt h1]
    · by_cases h2 : b = i
      · subst h2; simp [hb]
      · have : ¬ b < i + 1 := by omega
        simp [h1, this]
theorem tex0 {α : Type} (g : Nat → α) : ∃ t : T0 α, ∀ k, tget0 t k = g (k % 2 ^ 0) := ⟨g 0, fun k => by simp [tget0, Nat.mod_one]⟩
theorem tex1 {α : Type} (g : Nat → α) : ∃ t : T1 α, ∀ k, tget1 t k = g (k % 2 ^ 1) := by
  obtain ⟨a, ha⟩ := tex0 g
  obtain ⟨b, hb⟩ := tex0 fun k => g (k + 2 ^ 0)
  refine ⟨⟨a, b⟩, fun k => ?_⟩
  have hm := mod_hi k 0
  have hk := bit_land' k 0 1 rfl
  unfold tget1
  simp only [hk]
  rw [show (2 : Nat) ^ 1 = 2 ^ (0 + 1) from rfl, hm]
  cases k.testBit 0
  · exact ha k
  · exact hb k
theorem tex2 {α : Type} (g : Nat → α) : ∃ t : T2 α, ∀ k, tget2 t k = g (k % 2 ^ 2) := by
  obtain ⟨a, ha⟩ := tex1 g
  obtain ⟨b, hb⟩ := tex1 fun k => g (k + 2 ^ 1)
  refine ⟨⟨a, b⟩, fun k => ?_⟩
  have hm := mod_hi k 1
  have hk := bit_land' k 1 2 rfl
  unfold tget2
  simp only [hk]
  rw [show (2 : Nat) ^ 2 = 2 ^ (1 + 1) from rfl, hm]
  cases k.testBit 1
  · exact ha k
  · exact hb k
theorem tex3 {α : Type} (g : Nat → α) : ∃ t : T3 α, ∀ k, tget3 t k = g (k % 2 ^ 3) := by
  obtain ⟨a, ha⟩ := tex2 g
  obtain ⟨b, hb⟩ := tex2 fun k => g (k + 2 ^ 2)
  refine ⟨⟨a, b⟩, fun k => ?_⟩
  have hm := mod_hi k 2
  have hk := bit_land' k 2 4 rfl
  unfold tget3
  simp only [hk]
  rw [show (2 : Nat) ^ 3 = 2 ^ (2 + 1) from rfl, hm]
  cases k.testBit 2
  · exact ha k
  · exact hb k
theorem tex4 {α : Type} (g : Nat → α) : ∃ t : T4 α, ∀ k, tget4 t k = g (k % 2 ^ 4) := by
  obtain ⟨a, ha⟩ := tex3 g
  obtain ⟨b, hb⟩ := tex3 fun k => g (k + 2 ^ 3)
  refine ⟨⟨a, b⟩, fun k => ?_⟩
  have hm := mod_hi k 3
  have hk := bit_land' k 3 8 rfl
  unfold tget4
  simp only [hk]
  rw [show (2 : Nat) ^ 4 = 2 ^ (3 + 1) from rfl, hm]
  cases k.testBit 3
  · exact ha k
  · exact hb k
theorem tex5 {α : Type} (g : Nat → α) : ∃ t : T5 α, ∀ k, tget5 t k = g (k % 2 ^ 5) := by
  obtain ⟨a, ha⟩ := tex4 g
  obtain ⟨b, hb⟩ := tex4 fun k => g (k + 2 ^ 4)
  refine ⟨⟨a, b⟩, fun k => ?_⟩
  have hm := mod_hi k 4
  have hk := bit_land' k 4 16 rfl
  unfold tget5
  simp only [hk]
  rw [show (2 : Nat) ^ 5 = 2 ^ (4 + 1) from rfl, hm]
  cases k.testBit 4
  · exact ha k
  · exact hb k
theorem tex6 {α : Type} (g : Nat → α) : ∃ t : T6 α, ∀ k, tget6 t k = g (k % 2 ^ 6) := by
  obtain ⟨a, ha⟩ := tex5 g
  obtain ⟨b, hb⟩ := tex5 fun k => g (k + 2 ^ 5)
  refine ⟨⟨a, b⟩, fun k => ?_⟩
  have hm := mod_hi k 5
  have hk := bit_land' k 5 32 rfl
  unfold tget6
  simp only [hk]
  rw [show (2 : Nat) ^ 6 = 2 ^ (5 + 1) from rfl, hm]
  cases k.testBit 5
  · exact ha k
  · exact hb k
theorem tex7 {α : Type} (g : Nat → α) : ∃ t : T7 α, ∀ k, tget7 t k = g (k % 2 ^ 7) := by
  obtain ⟨a, ha⟩ := tex6 g
  obtain ⟨b, hb⟩ := tex6 fun k => g (k + 2 ^ 6)
  refine ⟨⟨a, b⟩, fun k => ?_⟩
  have hm := mod_hi k 6
  have hk := bit_land' k 6 64 rfl
  unfold tget7
  simp only [hk]
  rw [show (2 : Nat) ^ 7 = 2 ^ (6 + 1) from rfl, hm]
  cases k.testBit 6
  · exact ha k
  · exact hb k
theorem tex8 {α : Type} (g : Nat → α) : ∃ t : T8 α, ∀ k, tget8 t k = g (k % 2 ^ 8) := by
  obtain ⟨a, ha⟩ := tex7 g
  obtain ⟨b, hb⟩ := tex7 fun k => g (k + 2 ^ 7)
  refine ⟨⟨a, b⟩, fun k => ?_⟩
  have hm := mod_hi k 7
  have hk := bit_land' k 7 128 rfl
  unfold tget8
  simp only [hk]
  rw [show (2 : Nat) ^ 8 = 2 ^ (7 + 1) from rfl, hm]
  cases k.testBit 7
  · exact ha k
  · exact hb k
theorem tex9 {α : Type} (g : Nat → α) : ∃ t : T9 α, ∀ k, tget9 t k = g (k % 2 ^ 9) := by
  obtain ⟨a, ha⟩ := tex8 g
  obtain ⟨b, hb⟩ := tex8 fun k => g (k + 2 ^ 8)
  refine ⟨⟨a, b⟩, fun k => ?_⟩
  have hm := mod_hi k 8
  have hk := bit_land' k 8 256 rfl
  unfold tget9
  simp only [hk]
  rw [show (2 : Nat) ^ 9 = 2 ^ (8 + 1) from rfl, hm]
  cases k.testBit 8
  · exact ha k
  · exact hb k
theorem tex10 {α : Type} (g : Nat → α) : ∃ t : T10 α, ∀ k, tget10 t k = g (k % 2 ^ 10) := by
  obtain ⟨a, ha⟩ := tex9 g
  obtain ⟨b, hb⟩ := tex9 fun k => g (k + 2 ^ 9)
  refine ⟨⟨a, b⟩, fun k => ?_⟩
  have hm := mod_hi k 9
  have hk := bit_land' k 9 512 rfl
  unfold tget10
  simp only [hk]
  rw [show (2 : Nat) ^ 10 = 2 ^ (9 + 1) from rfl, hm]
  cases k.testBit 9
  · exact ha k
  · exact hb k
theorem tex11 {α : Type} (g : Nat → α) : ∃ t : T11 α, ∀ k, tget11 t k = g (k % 2 ^ 11) := by
  obtain ⟨a, ha⟩ := tex10 g
  obtain ⟨b, hb⟩ := tex10 fun k => g (k + 2 ^ 10)
  refine ⟨⟨a, b⟩, fun k => ?_⟩
  have hm := mod_hi k 10
  have hk := bit_land' k 10 1024 rfl
  unfold tget11
  simp only [hk]
  rw [show (2 : Nat) ^ 11 = 2 ^ (10 + 1) from rfl, hm]
  cases k.testBit 10
  · exact ha k
  · exact hb k
theorem tex12 {α : Type} (g : Nat → α) : ∃ t : T12 α, ∀ k, tget12 t k = g (k % 2 ^ 12) := by
  obtain ⟨a, ha⟩ := tex11 g
  obtain ⟨b, hb⟩ := tex11 fun k => g (k + 2 ^ 11)
  refine ⟨⟨a, b⟩, fun k => ?_⟩
  have hm := mod_hi k 11
  have hk := bit_land' k 11 2048 rfl
  unfold tget12
  simp only [hk]
  rw [show (2 : Nat) ^ 12 = 2 ^ (11 + 1) from rfl, hm]
  cases k.testBit 11
  · exact ha k
  · exact hb k
theorem tex13 {α : Type} (g : Nat → α) : ∃ t : T13 α, ∀ k, tget13 t k = g (k % 2 ^ 13) := by
  obtain ⟨a, ha⟩ := tex12 g
  obtain ⟨b, hb⟩ := tex12 fun k => g (k + 2 ^ 12)
  refine ⟨⟨a, b⟩, fun k => ?_⟩
  have hm := mod_hi k 12
  have hk := bit_land' k 12 4096 rfl
  unfold tget13
  simp only [hk]
  rw [show (2 : Nat) ^ 13 = 2 ^ (12 + 1) from rfl, hm]
  cases k.testBit 12
  · exact ha k
  · exact hb k
theorem hp_of (g : Hf) (n : Nat) (hg : ∀ id, 8191 < id → g id = none) : ∃ s : Hp, s.f = g ∧ s.n = n ∧ s.rd = 0 ∧ s.wr = 0 := by
  obtain ⟨t, ht⟩ := tex13 g
  refine ⟨⟨t, n, 0, 0⟩, ?_, rfl, rfl, rfl⟩
  funext id
  unfold Hp.f
  by_cases h : id ≤ 8191
  · rw [if_pos h]
    show tget13 t id = g id
    rw [ht, Nat.mod_eq_of_lt (by omega)]
  · rw [if_neg h, hg id (by omega)]
theorem tt_of (g : Nat → Value) : ∃ t : TT, ∀ k, k ≤ 255 → tget8 t k = g k := by
  obtain ⟨t, ht⟩ := tex8 g
  exact ⟨t, fun k hk => by rw [ht, Nat.mod_eq_of_lt (by omega)]⟩

/-! Which come before. -/
def befF (acc : Array Nat) (s : Nat) (e : Edge) : Nat := if Region.binds .any e then s ||| 2 ^ e.on ||| acc.getD e.on 0 else s
theorem bef_bits (acc : Array Nat) (i : Nat) : ∀ (l : List Edge) (s : Nat), (l.foldl (befF acc) s).testBit i = true → s.testBit i = true ∨ ∃ e ∈ l, Region.binds .any e = true ∧ (i = e.on ∨ (acc.getD e.on 0).testBit i = true)
  | [], s, h => .inl h
  | e :: l, s, h => by
    rw [List.foldl_cons] at h
    rcases bef_bits acc i l _ h with h | ⟨e', h1, h2⟩
    · unfold befF at h
      split at h
      · rename_i hb
        simp only [Nat.testBit_or, Bool.or_eq_true, Nat.testBit_two_pow, decide_eq_true_eq] at h
        rcases h with (h | h) | h
        · exact .inl h
        · exact .inr ⟨e, List.mem_cons_self, hb, .inl h.symm⟩
        · exact .inr ⟨e, List.mem_cons_self, hb, .inr h⟩
      · exact .inl h
    · exact .inr ⟨e', List.mem_cons_of_mem _ h1, h2⟩
/-- What is marked as coming before an operation is one that it waits for, or comes before one that it waits for. -/
def BefOk (ops : Array Oper) (acc : Array Nat) : Prop := ∀ j, j < acc.size → ∀ i, (acc.getD j 0).testBit i = true → ∃ o e, ops[j]? = some o ∧ e ∈ o.after.toList ∧ Region.binds .any e = true ∧ (i = e.on ∨ (e.on < j ∧ (acc.getD e.on 0).testBit i = true))
theorem befs_ok (ops : Array Oper) : ∀ (l : List Oper) (acc : Array Nat), (∀ (j : Nat) o, l[j]? = some o → ops[acc.size + j]? = some o) → BefOk ops acc →
    BefOk ops (l.foldl (fun acc o => acc.push (o.after.foldl (befF acc) 0)) acc)
  | [], acc, _, h => h
  | o :: l, acc, hl, h => by
    rw [List.foldl_cons]
    refine befs_ok ops l _ (fun j o' hj => ?_) fun j hj i hb => ?_
    · have := hl (j + 1) o' (by simpa using hj)
      rw [Array.size_push, show acc.size + 1 + j = acc.size + (j + 1) by omega]; exact this
    · rw [Array.size_push] at hj
      have same : ∀ k, k < acc.size → (acc.push (o.after.foldl (befF acc) 0)).getD k 0 = acc.getD k 0 := fun k hk => by
        rw [Array.getD_eq_getD_getElem?, Array.getD_eq_getD_getElem?, Array.getElem?_push, if_neg (by omega)]
      by_cases hlt : j < acc.size
      · rw [same j hlt] at hb
        obtain ⟨o', e, h1, h2, h3, h4⟩ := h j hlt i hb
        refine ⟨o', e, h1, h2, h3, h4.imp id fun h5 => ⟨h5.1, ?_⟩⟩
        rw [same e.on (by omega)]; exact h5.2
      · have hjj : j = acc.size := by omega
        subst hjj
        have hx : (acc.push (o.after.foldl (befF acc) 0)).getD acc.size 0 = o.after.foldl (befF acc) 0 := by
          rw [Array.getD_eq_getD_getElem?, Array.getElem?_push, if_pos rfl]; rfl
        rw [hx, ← Array.foldl_toList] at hb
        rcases bef_bits acc i _ _ hb with hb | ⟨e, h1, h2, h3⟩
        · simp at hb
        · refine ⟨o, e, by simpa using hl 0 o rfl, h1, h2, ?_⟩
          rcases h3 with h3 | h3
          · exact .inl h3
          · have hlt' : e.on < acc.size := by
              rcases Nat.lt_or_ge e.on acc.size with h | h
              · exact h
              · rw [Array.getD_eq_getD_getElem?, Array.getElem?_eq_none h] at h3; simp at h3
            exact .inr ⟨hlt', by rw [same e.on hlt']; exact h3⟩
theorem before_ok (ops : Array Oper) : BefOk ops (Region.before ops) := by
  have h : Region.before ops = ops.toList.foldl (fun acc o => acc.push (o.after.foldl (befF acc) 0)) #[] := by
    unfold Region.before
    rw [← Array.foldl_toList]
    rfl
  rw [h]
  exact befs_ok ops ops.toList #[] (fun j o hj => by simpa using hj) fun j hj => by simp at hj
end Go.Proofs.YtpijenlmfmknnaaGreatDoor

/- An operation hangs on the temporaries that it names. No program. -/
namespace Go.Proofs.YtpijenlmfmknnaaGreatDoor
open Go.RowKit
set_option linter.unusedVariables false
variable {P : Program}

theorem aevs_congr {e e2 : En} : ∀ (l : List Operand), (∀ x ∈ l, e x = e2 x) → aevs e l = aevs e2 l
  | [], _ => rfl
  | x :: l, h => by
    unfold aevs
    rw [h x List.mem_cons_self, aevs_congr l fun y hy => h y (List.mem_cons_of_mem _ hy)]
theorem mopt_congr {e e2 : En} (y : Option Operand) (h : ∀ x, y = some x → e x = e2 x) : mopt e y = mopt e2 y := by
  unfold mopt
  cases y with
  | none => rfl
  | some x => simp only [h x rfl]
theorem disp_congr {E : Callee'} {o : Oper} {e e2 : En} {ds : List Deferred} (h : ∀ x, x ∈ o.op.operands.toList → e x = e2 x) : (disp P o).f E e ds = (disp P o).f E e2 ds := by
  have pd : ∀ {F : En → M Value}, F e = F e2 → (pureD F).f E e ds = (pureD F).f E e2 ds := fun {F} hF => by unfold pureD; simp only [hF]
  unfold disp
  split
  · rename_i x ho
    rw [ho] at h
    have h0 := h x (by simp [Op.operands])
    exact pd (by simp only [opMove, h0])
  · rename_i x ho
    rw [ho] at h
    have h0 := h x (by simp [Op.operands])
    exact pd (by simp only [opMove, h0])
  · rename_i c a b ho
    rw [ho] at h
    have h0 := h c (by simp [Op.operands])
    have h1 := h a (by simp [Op.operands])
    have h2 := h b (by simp [Op.operands])
    exact pd (by simp only [opPick, h0, h1, h2])
  · rfl
  · rename_i t x ho
    rw [ho] at h
    have h0 := h x (by simp [Op.operands])
    exact pd (by simp only [opBox, h0])
  · rename_i t parts ho
    rw [ho] at h
    have h0 := aevs_congr (parts.toList.map (·.2)) fun x hx => h x (by simpa [Op.operands] using hx)
    exact pd (by simp only [opBuild, h0])
  · rename_i t len parts ho
    rw [ho] at h
    have h0 := aevs_congr (parts.toList.map (·.2)) fun x hx => h x (by simpa [Op.operands] using hx)
    exact pd (by simp only [opBuildSlice, h0])
  · rename_i t a ho
    rw [ho] at h
    have h0 := h a (by simp [Op.operands])
    exact pd (by simp only [opLoad, h0])
  · rename_i t a x ho
    rw [ho] at h
    have h0 := h a (by simp [Op.operands])
    have h1 := h x (by simp [Op.operands])
    exact pd (by simp only [opStore, h0, h1])
  · rename_i x ho
    rw [ho] at h
    have h0 := h x (by simp [Op.operands])
    exact pd (by simp only [opNilCheck, h0])
  · rename_i op t x y yt ho
    rw [ho] at h
    have h0 := h x (by simp [Op.operands])
    have h1 := h y (by simp [Op.operands])
    exact pd (by simp only [opBin, h0, h1])
  · rename_i op ut x ho
    rw [ho] at h
    have h0 := h x (by simp [Op.operands])
    exact pd (by simp only [opUnOp, h0])
  · rename_i src dst x ho
    rw [ho] at h
    have h0 := h x (by simp [Op.operands])
    exact pd (by simp only [opConvert, h0])
  · rename_i t x ho
    rw [ho] at h
    have h0 := h x (by simp [Op.operands])
    exact pd (by simp only [opMakeInterface, h0])
  · rename_i fn a b ho
    rw [ho] at h
    have h0 := aevs_congr a.toList fun x hx => h x (by simp only [Op.operands, Array.toList_append, List.mem_append]; exact .inl hx)
    have h1 := aevs_congr b.toList fun x hx => h x (by simp only [Op.operands, Array.toList_append, List.mem_append]; exact .inr hx)
    exact pd (by simp only [opMakeFunc, h0, h1])
  · rfl
  · rename_i t l c ho
    rw [ho] at h
    have h0 := h l (by simp [Op.operands])
    have h1 := h c (by simp [Op.operands])
    exact pd (by simp only [opMakeSlice, h0, h1])
  · rename_i t x lo hi mx ho
    rw [ho] at h
    have h0 := h x (by simp [Op.operands])
    have h1 := mopt_congr lo fun y hy => h y (by subst hy; simp [Op.operands])
    have h2 := mopt_congr hi fun y hy => h y (by subst hy; simp [Op.operands])
    have h3 := mopt_congr mx fun y hy => h y (by subst hy; simp [Op.operands])
    exact pd (by simp only [opSlice, h0, h1, h2, h3])
  · rename_i t x f ho
    rw [ho] at h
    have h0 := h x (by simp [Op.operands])
    exact pd (by simp only [opFieldAddr, h0])
  · rename_i t x f ho
    rw [ho] at h
    have h0 := h x (by simp [Op.operands])
    exact pd (by simp only [opField, h0])
  · rename_i t x ix ho
    rw [ho] at h
    have h0 := h x (by simp [Op.operands])
    have h1 := h ix (by simp [Op.operands])
    exact pd (by simp only [opIndexAddr, h0, h1])
  · rename_i t x ix ho
    rw [ho] at h
    have h0 := h x (by simp [Op.operands])
    have h1 := h ix (by simp [Op.operands])
    exact pd (by simp only [opIndex, h0, h1])
  · rename_i t x ix ok ho
    rw [ho] at h
    have h0 := h x (by simp [Op.operands])
    have h1 := h ix (by simp [Op.operands])
    exact pd (by simp only [opLookup, h0, h1])
  · rename_i t m k x ho
    rw [ho] at h
    have h0 := h m (by simp [Op.operands])
    have h1 := h k (by simp [Op.operands])
    have h2 := h x (by simp [Op.operands])
    exact pd (by simp only [opMapUpdate, h0, h1, h2])
  · rename_i t m k x ho
    rw [ho] at h
    have h0 := h m (by simp [Op.operands])
    have h1 := h k (by simp [Op.operands])
    have h2 := h x (by simp [Op.operands])
    exact pd (by simp only [opMapUpdate, h0, h1, h2])
  · rename_i x xt t ok ho
    rw [ho] at h
    have h0 := h x (by simp [Op.operands])
    exact pd (by simp only [opTypeAssert, h0])
  · rename_i x i ho
    rw [ho] at h
    have h0 := h x (by simp [Op.operands])
    exact pd (by simp only [opExtract, h0])
  · rename_i b args ts ho
    rw [ho] at h
    have h0 := aevs_congr args.toList fun x hx => h x (by simpa [Op.operands, Call.operands] using hx)
    exact pd (by simp only [opBuiltin, h0])
  · rename_i f args ats ho
    rw [ho] at h
    have h0 := h f (by simp [Op.operands, Call.operands])
    have h1 := aevs_congr args.toList fun x hx => h x (by simp [Op.operands, Call.operands]; right; simpa using hx)
    simp only [opCallV, h0, h1]
  · rename_i r name args ats ho
    rw [ho] at h
    have h0 := h r (by simp [Op.operands, Call.operands])
    have h1 := aevs_congr args.toList fun x hx => h x (by simp [Op.operands, Call.operands]; right; simpa using hx)
    simp only [opCallI, h0, h1]
  · rename_i f args ats ho
    rw [ho] at h
    have h0 := h f (by simp [Op.operands, Call.operands])
    have h1 := aevs_congr args.toList fun x hx => h x (by simp [Op.operands, Call.operands]; right; simpa using hx)
    simp only [opDefer, h0, h1]
  · rfl
/-- The temporary k is named. -/
def Nm (ops : Array Oper) (o : Oper) (k : Nat) : Prop := (namesT ops o).testBit k = true
theorem bits_mem : ∀ (l : List Operand) (k : Nat), Operand.tmp k ∈ l → (bitsOf l).testBit k = true
  | [], k, h => by cases h
  | x :: l, k, h => by
    cases x with
    | tmp j =>
      unfold bitsOf
      show (Nat.shiftLeft 1 j ||| bitsOf l).testBit k = true
      rw [Nat.testBit_or, Bool.or_eq_true]
      cases h with
      | head => exact .inl (bit_self k)
      | tail _ h => exact .inr (bits_mem l k h)
    | const v => cases h with | tail _ h => exact bits_mem l k h
    | global v => cases h with | tail _ h => exact bits_mem l k h
    | func v => cases h with | tail _ h => exact bits_mem l k h
theorem nm_op {ops : Array Oper} {o : Oper} {k : Nat} (h : Operand.tmp k ∈ o.op.operands.toList) : Nm ops o k := by
  unfold Nm namesT
  show (bitOf o.dst ||| (bitsOf o.op.operands.toList ||| _)).testBit k = true
  rw [Nat.testBit_or, Nat.testBit_or, bits_mem _ _ h]
  simp
theorem nm_dst {ops : Array Oper} {o : Oper} {k : Nat} (h : o.dst = some k) : Nm ops o k := by
  unfold Nm namesT
  show (bitOf o.dst ||| _).testBit k = true
  rw [Nat.testBit_or, h]
  unfold bitOf
  rw [bit_self]; rfl
theorem nm_guard {ops : Array Oper} {o : Oper} {j k : Nat} {b : Bool} (hg : o.guard = some (j, b)) (h : (ops[j]?).bind (·.dst) = some k) : Nm ops o k := by
  unfold Nm namesT
  rw [hg]
  show (bitOf o.dst ||| (bitsOf o.op.operands.toList ||| bitOf ((ops[j]?).bind (·.dst)))).testBit k = true
  rw [h, Nat.testBit_or, Nat.testBit_or]
  unfold bitOf
  rw [bit_self]; simp
/-- What an operation does to temporaries: it sets the one that is its own. -/
theorem opK_congr {E : Callee'} (hE : GoodE E) {N : Nat} {ops : Array Oper} {o : Oper} {t t2 t' : TT} {ds ds' : List Deferred} {s s' : Hp} (h : ∀ k, k ≤ 255 → Nm ops o k → tget8 t2 k = tget8 t k) (ht : Tells (opK P E N ops o (t, ds)) s (t', ds') s') :
    ∃ t2', Tells (opK P E N ops o (t2, ds)) s (t2', ds') s' ∧ ((o.dst = none ∧ t' = t ∧ t2' = t2) ∨ ∃ d v, o.dst = some d ∧ d < N ∧ t' = tset8 t d v id ∧ t2' = tset8 t2 d v id) := by
  have hw : wantedK ops t2 o = wantedK ops t o := by
    unfold wantedK
    cases hg : o.guard with
    | none => rfl
    | some x =>
      obtain ⟨j, want⟩ := x
      simp only []
      cases hd : (ops[j]?).bind (·.dst) with
      | none => rfl
      | some d =>
        simp only []
        cases hb : Nat.ble d 255 with
        | false => rfl
        | true => rw [h d (Nat.le_of_ble_eq_true hb) (nm_guard hg hd)]
  have hev : ∀ x, x ∈ o.op.operands.toList → aev t x = aev t2 x := by
    intro x hx
    cases x with
    | tmp k =>
      unfold aev
      simp only []
      cases hb : Nat.ble k 255 with
      | false => rfl
      | true => rw [h k (Nat.le_of_ble_eq_true hb) (nm_op hx)]
    | const v => rfl
    | global g => rfl
    | func f => rfl
  have hput : ∀ {v : Value} {a b : Hp} {tx : TT}, Tells (putK N t o.dst v) a tx b → ∃ ty, (∀ c, Tells (putK N t2 o.dst v) c ty c) ∧ b = a ∧ ((o.dst = none ∧ tx = t ∧ ty = t2) ∨ ∃ d v, o.dst = some d ∧ d < N ∧ tx = tset8 t d v id ∧ ty = tset8 t2 d v id) := by
    intro v a b tx hp
    obtain ⟨hb, hc⟩ := tells_put hp
    rcases hc with ⟨h1, h2⟩ | ⟨d, h1, h2, h3⟩
    · exact ⟨t2, fun c => ⟨fun J => by rw [h1]; rfl⟩, hb, .inl ⟨h1, h2, rfl⟩⟩
    · refine ⟨tset8 t2 d v id, fun c => ⟨fun J => ?_⟩, hb, .inr ⟨d, v, h1, h2, h3, rfl⟩⟩
      rw [h1]
      unfold putK
      have hlt : Nat.blt d N = true := by rw [blt_eq]; simpa using h2
      simp only [hlt]
      rw [tset8_eq]; rfl
  unfold opK at ht ⊢
  simp only [] at ht ⊢
  rw [hw]
  cases hq : wantedK ops t o with
  | none => rw [hq] at ht; exact (tells_fail ht).elim
  | some b =>
    rw [hq] at ht
    cases b with
    | false =>
      simp only [] at ht ⊢
      obtain ⟨tx, s1, k1, k2, _⟩ := tells_bind (good_putK _ _ _ _) ht
      obtain ⟨e, rfl⟩ := tells_pure k2
      cases e
      obtain ⟨ty, h1, rfl, h2⟩ := hput k1
      refine ⟨ty, ⟨fun J => ?_⟩, h2⟩
      exact (h1 s').eq _
    | true =>
      simp only [] at ht ⊢
      obtain ⟨x, s1, k1, k2, _⟩ := tells_bind (good_disp P hE o _ ds) ht
      obtain ⟨v, ds1⟩ := x
      simp only [] at k2
      obtain ⟨tx, s2, k3, k4, _⟩ := tells_bind (good_putK _ _ _ _) k2
      obtain ⟨e, rfl⟩ := tells_pure k4
      cases e
      obtain ⟨ty, h1, rfl, h2⟩ := hput k3
      rw [disp_congr hev] at k1
      refine ⟨ty, ⟨fun J => ?_⟩, h2⟩
      show ((disp P o).f E (aev t2) ds).run s _ = _
      rw [k1.eq]
      exact (h1 s').eq _
theorem tells_trk {α : Type} {F : M α} (hF : Good F) {s s' : Hp} {a : α} {r q : Nat} (h : Tells (mtrk F) s (a, r, q) s') :
    s.n ≤ s'.n ∧ (∀ id, q.testBit id = false → s'.f id = s.f id) ∧ (∀ id, s.n ≤ id → id < s'.n → q.testBit id = true) ∧
      ∀ g : Hp, g.n = s.n → (∀ id, (r ||| q).testBit id = true → g.f id = s.f id) → ∃ g', Tells F g a g' ∧ g'.n = s'.n ∧ (∀ id, q.testBit id = true → g'.f id = s'.f id) ∧ (∀ id, q.testBit id = false → g'.f id = g.f id) := by
  have e := h.pair
  rw [mtrk_eq] at e
  obtain ⟨a1, s1, r1, q1, e1, f, g1⟩ := hF.ok _ _ _ e
  rw [e1] at e
  have hr : s1.rd = r1 := by rw [f.rd]; simp
  have hq : s1.wr = q1 := by rw [f.wr]; simp
  rw [hr, hq] at e
  cases e
  refine ⟨f.n, fun id h => f.off id h, fun id h1 h2 => f.new id h1 h2, fun g hgn hg => ?_⟩
  obtain ⟨g', hp, eg⟩ := g1 g ⟨hgn, fun id h => hg id h⟩
  exact ⟨g', ⟨fun J => eg J⟩, hp.n, fun id h => hp.on id h, fun id h => hp.off id h⟩
end Go.Proofs.YtpijenlmfmknnaaGreatDoor

/- A region that draws its order: whatever the order, it comes to what the text's order comes to, for what clashes is in order. No program. -/
namespace Go.Proofs.YtpijenlmfmknnaaGreatDoor
open Go.RowKit
set_option linter.unusedVariables false
variable {P : Program}

def trk (ops : Array Oper) (R Q : Nat → Nat) (i : Nat) (o : Oper) : Trk := ⟨Q i, Nat.lor (R i) (Q i), bitOf o.dst, namesT ops o⟩
theorem apart_all {b : Nat} {x : Trk} : ∀ (acc : List Trk) (k : Nat), apart b x k acc = true → acc.length = k → ∀ m, m < k → ∀ y, acc[k - 1 - m]? = some y → clash y x = true → b.testBit m = true
  | [], k, h, hl, m, hm, y, hy, hc => by simp at hl; omega
  | z :: acc, k, h, hl, m, hm, y, hy, hc => by
    cases k with
    | zero => omega
    | succ k =>
      unfold apart at h
      rw [Bool.and_eq_true] at h
      by_cases e : m = k
      · subst e
        simp at hy
        subst hy
        rw [hc] at h
        simpa using h.1
      · have : k + 1 - 1 - m = (k - 1 - m) + 1 := by omega
        rw [this, List.getElem?_cons_succ] at hy
        exact apart_all acc k h.2 (by simpa using hl) m (by omega) y hy hc
/-- The text's order, step by step. -/
theorem draw_trace {E : Callee'} (hE : GoodE E) {N : Nat} {ops : Array Oper} : ∀ (l : List Oper) (bef : List Nat) (k : Nat) (acc : List Trk) (t t' : TT) (s s' : Hp), Tells (drawK P E N ops [] l bef k acc t) s t' s' → acc.length = k →
    ∃ (S : Nat → Hp) (T : Nat → TT) (R Q : Nat → Nat), S 0 = s ∧ T 0 = t ∧ S l.length = s' ∧ T l.length = t' ∧
      (∀ (j : Nat) o, l[j]? = some o → Tells (mtrk (opK P E N ops o (T j, []))) (S j) ((T (j + 1), []), R j, Q j) (S (j + 1))) ∧
      (∀ (j : Nat) o, l[j]? = some o → (∀ m, m < k → ∀ x, acc[k - 1 - m]? = some x → clash x (trk ops R Q j o) = true → (bef.getD j 0).testBit m = true) ∧
        ∀ (i : Nat) oi, i < j → l[i]? = some oi → clash (trk ops R Q i oi) (trk ops R Q j o) = true → (bef.getD j 0).testBit (k + i) = true)
  | [], bef, k, acc, t, t', s, s', h, hk => by
    unfold drawK at h
    obtain ⟨rfl, rfl⟩ := tells_pure h
    exact ⟨fun _ => s', fun _ => t', fun _ => 0, fun _ => 0, rfl, rfl, rfl, rfl, fun j o hj => by simp at hj, fun j o hj => by simp at hj⟩
  | o :: l, bef, k, acc, t, t', s, s', h, hk => by
    unfold drawK at h
    obtain ⟨x, s1, h1, h2, _⟩ := tells_bind (good_mtrk (good_opK P hE N ops o _)) h
    obtain ⟨⟨t1, ds1⟩, r, q⟩ := x
    simp only [] at h2
    split at h2
    · rename_i hc
      rw [Bool.and_eq_true] at hc
      have hd : ds1 = [] := by simpa using hc.1
      subst hd
      rw [forceN_eq] at h2
      obtain ⟨S, T, R, Q, e1, e2, e3, e4, e5, e6⟩ := draw_trace hE l bef.tail (k + 1) (⟨q, Nat.lor r q, bitOf o.dst, namesT ops o⟩ :: acc) t1 t' s1 s' h2 (by simp [hk])
      refine ⟨fun | 0 => s | j + 1 => S j, fun | 0 => t | j + 1 => T j, fun | 0 => r | j + 1 => R j, fun | 0 => q | j + 1 => Q j, rfl, rfl, e3, e4, fun j o' hj => ?_, fun j o' hj => ?_⟩
      · cases j with
        | zero =>
          simp at hj
          subst hj
          show Tells _ s ((T 0, []), r, q) (S 0)
          rw [e1, e2]; exact h1
        | succ j => exact e5 j o' (by simpa using hj)
      · have hbef : ∀ j, bef.getD (j + 1) 0 = bef.tail.getD j 0 := fun j => by cases bef <;> simp
        cases j with
        | zero =>
          simp at hj
          subst hj
          refine ⟨fun m hm y hy hcl => ?_, fun i oi hi => by omega⟩
          have hb0 : bef.getD 0 0 = bef.headD 0 := by cases bef <;> rfl
          rw [hb0]
          exact apart_all acc k hc.2 hk m hm y hy hcl
        | succ j =>
          obtain ⟨f1, f2⟩ := e6 j o' (by simpa using hj)
          rw [hbef]
          refine ⟨fun m hm y hy hcl => ?_, fun i oi hi hoi hcl => ?_⟩
          · exact f1 m (by omega) y (by rw [show k + 1 - 1 - m = (k - 1 - m) + 1 by omega, List.getElem?_cons_succ]; exact hy) hcl
          · cases i with
            | zero =>
              simp at hoi
              subst hoi
              exact f1 k (by omega) _ (by rw [show k + 1 - 1 - k = 0 by omega]; rfl) hcl
            | succ i =>
              have := f2 i oi (by omega) (by simpa using hoi) hcl
              rw [show k + (i + 1) = k + 1 + i by omega]; exact this
    · exact (tells_fail h2).elim

/-! The store where some are listed. -/
def HLm (S : Nat → Hp) (Q : Nat → Nat) (L : Nat → Bool) : Nat → Hf
  | 0 => (S 0).f
  | j + 1 => fun id => if L j && (Q j).testBit id then (S (j + 1)).f id else HLm S Q L j id
def TLm (T : Nat → TT) (D : Nat → Option Tmp) (L : Nat → Bool) : Nat → Nat → Value
  | 0 => tget8 (T 0)
  | j + 1 => fun k => if L j && decide (D j = some k) then tget8 (T (j + 1)) k else TLm T D L j k
section
variable {S : Nat → Hp} {Q : Nat → Nat} {T : Nat → TT} {D : Nat → Option Tmp} {L L' : Nat → Bool} {n : Nat}
theorem HL_pre (hs : ∀ i id, i < n → (Q i).testBit id = false → (S (i + 1)).f id = (S i).f id) {id : Nat} : ∀ m, m ≤ n → (∀ j, j < m → L j = false → (Q j).testBit id = false) → HLm S Q L m id = (S m).f id
  | 0, _, _ => rfl
  | m + 1, hm, h => by
    have ih := HL_pre hs m (by omega) fun j hj => h j (by omega)
    show (if L m && (Q m).testBit id then (S (m + 1)).f id else HLm S Q L m id) = _
    cases hq : (Q m).testBit id with
    | true =>
      cases hl : L m with
      | true => rfl
      | false => rw [h m (by omega) hl] at hq; cases hq
    | false => rw [Bool.and_false]; simp only [Bool.false_eq_true, if_false]; rw [ih, hs m id (by omega) hq]
theorem HL_post {id : Nat} {m : Nat} : ∀ k, (∀ j, m ≤ j → j < m + k → L j = true → (Q j).testBit id = false) → HLm S Q L (m + k) id = HLm S Q L m id
  | 0, _ => rfl
  | k + 1, h => by
    have ih := HL_post k fun j h1 h2 => h j h1 (by omega)
    show (if L (m + k) && (Q (m + k)).testBit id then (S (m + k + 1)).f id else HLm S Q L (m + k) id) = _
    rw [if_neg, ih]
    rw [Bool.and_eq_true]
    rintro ⟨h1, h2⟩
    rw [h (m + k) (by omega) (by omega) h1] at h2; cases h2
theorem HL_same {id i : Nat} (hL : ∀ j, j ≠ i → L' j = L j) (hq : (Q i).testBit id = false) : ∀ m, HLm S Q L' m id = HLm S Q L m id
  | 0 => rfl
  | m + 1 => by
    have ih := HL_same hL hq m
    show (if L' m && (Q m).testBit id then (S (m + 1)).f id else HLm S Q L' m id) = (if L m && (Q m).testBit id then (S (m + 1)).f id else HLm S Q L m id)
    rw [ih]
    by_cases e : m = i
    · subst e; rw [hq]; simp
    · rw [hL m e]
theorem TL_pre (hs : ∀ i k, i < n → k ≤ 255 → D i ≠ some k → tget8 (T (i + 1)) k = tget8 (T i) k) {k : Nat} (hk : k ≤ 255) : ∀ m, m ≤ n → (∀ j, j < m → L j = false → D j ≠ some k) → TLm T D L m k = tget8 (T m) k
  | 0, _, _ => rfl
  | m + 1, hm, h => by
    have ih := TL_pre hs hk m (by omega) fun j hj => h j (by omega)
    show (if L m && decide (D m = some k) then tget8 (T (m + 1)) k else TLm T D L m k) = _
    by_cases hq : D m = some k
    · cases hl : L m with
      | true => simp [hq]
      | false => exact absurd hq (h m (by omega) hl)
    · rw [if_neg (by simp [hq]), ih, hs m k (by omega) hk hq]
theorem TL_post {k : Nat} {m : Nat} : ∀ j0, (∀ j, m ≤ j → j < m + j0 → L j = true → D j ≠ some k) → TLm T D L (m + j0) k = TLm T D L m k
  | 0, _ => rfl
  | j0 + 1, h => by
    have ih := TL_post j0 fun j h1 h2 => h j h1 (by omega)
    show (if L (m + j0) && decide (D (m + j0) = some k) then tget8 (T (m + j0 + 1)) k else TLm T D L (m + j0) k) = _
    rw [if_neg, ih]
    rw [Bool.and_eq_true, decide_eq_true_eq]
    rintro ⟨h1, h2⟩
    exact h (m + j0) (by omega) (by omega) h1 h2
theorem TL_same {k i : Nat} (hL : ∀ j, j ≠ i → L' j = L j) (hq : D i ≠ some k) : ∀ m, TLm T D L' m k = TLm T D L m k
  | 0 => rfl
  | m + 1 => by
    have ih := TL_same hL hq m
    show (if L' m && decide (D m = some k) then tget8 (T (m + 1)) k else TLm T D L' m k) = (if L m && decide (D m = some k) then tget8 (T (m + 1)) k else TLm T D L m k)
    rw [ih]
    by_cases e : m = i
    · subst e; simp [hq]
    · rw [hL m e]
end
theorem land_bit {a b i : Nat} (ha : a.testBit i = true) (hb : b.testBit i = true) : Nat.land a b ≠ 0 := fun h => by
  have : (a &&& b).testBit i = true := by rw [Nat.testBit_and, ha, hb]; rfl
  rw [show a &&& b = Nat.land a b from rfl, h] at this
  simp at this
theorem clash_of {x y : Trk} {i : Nat} (h : (x.q.testBit i = true ∧ y.a.testBit i = true) ∨ (y.q.testBit i = true ∧ x.a.testBit i = true) ∨ (x.tw.testBit i = true ∧ y.ta.testBit i = true) ∨ (y.tw.testBit i = true ∧ x.ta.testBit i = true)) : clash x y = true := by
  unfold clash
  rw [Bool.not_eq_true', beq_nat, decide_eq_false_iff_not]
  intro he
  have hz : ∀ {a b : Nat}, Nat.lor a b = 0 → a = 0 ∧ b = 0 := fun {a b} hab => by
    have : a ||| b = 0 := hab
    exact Nat.or_eq_zero_iff.1 this
  obtain ⟨h1, h2⟩ := hz he
  obtain ⟨h3, h4⟩ := hz h1
  obtain ⟨h5, h6⟩ := hz h2
  rcases h with ⟨a, b⟩ | ⟨a, b⟩ | ⟨a, b⟩ | ⟨a, b⟩
  · exact land_bit a b h3
  · exact land_bit a b h4
  · exact land_bit a b h5
  · exact land_bit a b h6
end Go.Proofs.YtpijenlmfmknnaaGreatDoor
