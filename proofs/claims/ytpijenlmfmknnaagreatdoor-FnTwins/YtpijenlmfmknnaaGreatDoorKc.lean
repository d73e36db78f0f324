/- Own texts joined: EvS, EvV, EvY, EvZ, EvA, EvB, EvC, EvD. -/
import Derived.Test.YtpijenlmfmknnaaGreatDoorKa
import Derived.Test.YtpijenlmfmknnaaGreatDoorKb
import Derived.Laws.BytesString

/- Parts, addresses, functions, interfaces, maps. No program. -/
namespace Go.Proofs.YtpijenlmfmknnaaGreatDoor
open Go.RowKit
set_option linter.unusedVariables false
variable {P : Program} {ρ0 : Rn}

theorem Sim.aevs {γ δ : Type} {e : En} {m : Operand → Value} (he : EnvR ρ0 e m) {c : Sem δ} {R : Rn → γ → δ → Prop} : ∀ (l : List Operand) {G : List Value → M γ}, (∀ vs, Good (G vs)) →
    (∀ vs, LR (VL ρ0) vs (l.map m) → Sim P ρ0 (G vs) c R) → Sim P ρ0 (mbind (aevs e l) G) c R := by
  have tl : ∀ (l : List Operand) (s s' : Hp) (vs : List Value), Tells (Go.Proofs.YtpijenlmfmknnaaGreatDoor.aevs e l) s vs s' → s' = s ∧ LR (VL ρ0) vs (l.map m) := by
    intro l
    induction l with
    | nil =>
      intro s s' vs h
      obtain ⟨rfl, rfl⟩ := tells_pure h
      exact ⟨rfl, rfl⟩
    | cons x l ih =>
      intro s s' vs h
      unfold Go.Proofs.YtpijenlmfmknnaaGreatDoor.aevs at h
      split at h
      · rename_i v hv
        obtain ⟨ws, s1, h1, h2, _⟩ := tells_bind (good_aevs e l) h
        obtain ⟨rfl, hl⟩ := ih _ _ _ h1
        obtain ⟨rfl, rfl⟩ := tells_pure h2
        exact ⟨rfl, m x, l.map m, rfl, he x v hv, hl⟩
      · exact (tells_fail h).elim
  intro l G hG h w0 B s s' a ρ w hρ ht H hfr
  obtain ⟨vs, s1, h1, h2, _⟩ := tells_bind (good_aevs e l) ht
  obtain ⟨rfl, hl⟩ := tl l _ _ _ h1
  exact h vs hl w0 B _ s' a ρ w hρ h2 H hfr
theorem Sim.aev1 {γ δ : Type} {x : Option Value} {G : Value → M γ} {c : Sem δ} {R : Rn → γ → δ → Prop} (h : ∀ v, x = some v → Sim P ρ0 (G v) c R) : Sim P ρ0 (mbind (maev x) G) c R := by
  intro w0 B s s' a ρ w hρ ht H hfr
  obtain ⟨v, s1, h1, h2, _⟩ := tells_bind (good_maev x) ht
  obtain ⟨e1, rfl⟩ := tells_aev h1
  exact h v e1 w0 B _ s' a ρ w hρ h2 H hfr
theorem Sim.at {α γ : Type} {ρ1 : Rn} {F : M α} {c : Sem γ} {R : Rn → α → γ → Prop} (h : Sim P ρ0 F c R) (hρ : ρ0.le ρ1) : Sim P ρ1 F c R :=
  fun w0 B s s' a ρ w hρ' ht H hfr => h w0 B s s' a ρ w (hρ.trans hρ') ht H hfr
theorem Sim.cut {γ δ : Type} {off n : Nat} {l : List Value} {G : List Value → M γ} {c : Sem δ} {R : Rn → γ → δ → Prop} (h : off + n ≤ l.length → Sim P ρ0 (G ((l.drop off).take n)) c R) : Sim P ρ0 (mbind (cut off n l) G) c R := by
  intro w0 B s s' a ρ w hρ ht H hfr
  obtain ⟨vs, s1, h1, h2, _⟩ := tells_bind (good_cut _ _ _) ht
  obtain ⟨e1, rfl, rfl⟩ := tells_cut h1
  exact h e1 w0 B _ s' a ρ w hρ h2 H hfr
theorem extract_list (l : List Value) (off n : Nat) : (⟨l⟩ : Array Value).extract off (off + n) = ⟨(l.drop off).take n⟩ := by
  apply Array.ext'
  simp
theorem snd_part {t : TypeId} {l l' : List Value} {off : Nat} (hl : LR (VL ρ0) l l') : Sim P ρ0 (partK P t l off) (part t ⟨l'⟩ off) fun ρ a v => VL ρ a v := by
  unfold partK
  split
  · rename_i n hg hz
    unfold part
    refine Sim.skip true (aggOf_run hg) ?_
    simp only [if_true]
    refine Sim.skip n (szOf_run hz) ?_
    refine Sim.cut fun hle => ?_
    exact Sim.pure fun ρ hρ => VL.agg.2 ⟨_, by rw [extract_list], ((hl.grow hρ).drop off).take n⟩
  · rename_i n hg hz
    unfold part
    refine Sim.skip false (aggOf_run hg) ?_
    simp only [Bool.false_eq_true, if_false]
    intro w0 B s s' a ρ w hρ ht H hfr
    obtain ⟨e1, rfl⟩ := tells_aev ht
    obtain ⟨v', e2, hv⟩ := (hl.grow hρ).at e1
    refine ⟨v', w, ρ, ?_, H, .rfl, hv⟩
    have : (⟨l'⟩ : Array Value)[off]? = some v' := by simpa using e2
    rw [this]; rfl
  · exact .fail
theorem fieldOf_run {t : TypeId} {f off : Nat} {ft : TypeId} (h : fieldOf P t f = some (off, ft)) : ∃ fs fd, P.underlying t = some (.struct fs) ∧ fs[f]? = some fd ∧ fd.offset = off ∧ fd.type = ft := by
  unfold fieldOf at h
  split at h
  · rename_i fs hu
    split at h
    · rename_i fd hf
      cases h
      exact ⟨fs, fd, hu, hf, rfl, rfl⟩
    · cases h
  · cases h
theorem snd_field {e : En} {m : Operand → Value} (he : EnvR ρ0 e m) (t : TypeId) (x : Operand) (f : Nat) : Sim P ρ0 (opField P t x f e) (Instr.field t (m x) f) fun ρ a v => VL ρ a v := by
  unfold opField
  split
  · rename_i off ft l hf hx
    obtain ⟨fs, fd, hu, hfd, rfl, rfl⟩ := fieldOf_run hf
    obtain ⟨l', e1, hl⟩ := VL.agg.1 (he x _ hx)
    unfold Instr.field
    refine Sim.skip _ (run_underlying hu) ?_
    simp only [hfd, e1]
    refine Sim.skip (⟨l'⟩ : Array Value) (fun _ => rfl) ?_
    exact snd_part hl
  · exact .fail
theorem tells_add {a b : Addr} {n : Nat} {s s' : Hp} (h : Tells (addA a n) s b s') : ∃ k off, a = ⟨k, off, none⟩ ∧ b = ⟨k, off + n, none⟩ ∧ s' = s := by
  unfold addA at h
  split at h
  · rw [forceN_eq] at h
    obtain ⟨rfl, rfl⟩ := tells_pure h
    exact ⟨_, _, rfl, rfl, rfl⟩
  · exact (tells_fail h).elim
/-- An address further on. -/
theorem sim_ptrTo {a a' : Addr} {n : Nat} (ha : VL ρ0 (.pointer (some a)) (.pointer (some a'))) : Sim P ρ0 (ptrTo a n) (Pure.pure (Value.pointer (some (a'.add n)))) fun ρ a v => VL ρ a v := by
  intro w0 B s s' v ρ w hρ ht H hfr
  obtain ⟨b, s1, h1, h2, _⟩ := tells_bind (good_addA _ _) ht
  obtain ⟨k, off, rfl, rfl, rfl⟩ := tells_add h1
  obtain ⟨rfl, rfl⟩ := tells_pure h2
  refine ⟨_, w, ρ, rfl, H, .rfl, ?_⟩
  obtain ⟨_, p, hp, e1⟩ := VL.ptr.1 (ha.grow hρ)
  cases e1
  refine VL.ptr.2 ⟨rfl, p, hp, ?_⟩
  rw [add_at]
  simp only [Nat.add_assoc]
theorem snd_fieldAddr {e : En} {m : Operand → Value} (he : EnvR ρ0 e m) (t : TypeId) (x : Operand) (f : Nat) : Sim P ρ0 (opFieldAddr P t x f e) (Instr.fieldAt t (m x) f) fun ρ a v => VL ρ a v := by
  unfold opFieldAddr
  split
  · rename_i off a hf hx
    unfold offOf at hf
    split at hf
    · rename_i off' ft hf'
      split at hf
      · rename_i k hz
        cases hf
        obtain ⟨fs, fd, hu, hfd, rfl, rfl⟩ := fieldOf_run hf'
        have h1 := he x _ hx
        obtain ⟨_, p, _, e1⟩ := VL.ptr.1 h1
        rw [e1] at h1 ⊢
        unfold Instr.fieldAt
        refine Sim.skip _ (run_underlying hu) ?_
        simp only [hfd]
        refine Sim.skip _ sureAddr_run ?_
        refine Sim.skip _ (fun w => ?_) (sim_ptrTo h1)
        unfold fieldPlace
        simp only [Sem.run_bind, szOf_run hz, Result.andThen, Nat.add_one_ne_zero, if_false, Sem.run_pure]
      · cases hf
    · cases hf
  · exact .fail
theorem arrOf_run {t el : TypeId} {n z : Nat} (h : arrOf P t = some (n, z, el)) : P.underlying t = some (.array n el) ∧ szOf P el = some z := by
  unfold arrOf at h
  split at h
  · rename_i hu
    split at h
    · rename_i hz; cases h; exact ⟨hu, hz⟩
    · cases h
  · cases h
theorem elem_run {t el : TypeId} (h : elemOfS P t = some el) : P.underlying t = some (.slice el) := by
  unfold elemOfS at h
  split at h
  · rename_i hu; cases h; exact hu
  · cases h
theorem blt_lt {i n : Nat} (h : Nat.blt i n = true) : i < n := by rw [blt_eq] at h; simpa using h
theorem snd_indexAddr {e : En} {m : Operand → Value} (he : EnvR ρ0 e m) (t : TypeId) (x ix : Operand) : Sim P ρ0 (opIndexAddr P t x ix e) (Instr.indexAt t (m x) (m ix)) fun ρ a v => VL ρ a v := by
  unfold opIndexAddr
  split
  · rename_i a k i hx hi
    split
    · rename_i n z el hA
      split
      · rename_i hlt
        obtain ⟨hu, hz⟩ := arrOf_run hA
        have h1 := he x _ hx
        have h2 := VL.int.1 (he ix _ hi)
        obtain ⟨_, p, _, e1⟩ := VL.ptr.1 h1
        rw [e1] at h1 ⊢
        rw [h2]
        have hb : (0 : Int) ≤ (i : Int) ∧ (i : Int) < (n : Int) := ⟨Int.natCast_nonneg _, by have := blt_lt hlt; omega⟩
        intro w0 B s s' v ρ w hρ ht H hfr
        obtain ⟨v', w', ρ', hr, rest⟩ := sim_ptrTo (P := P) h1 w0 B s s' v ρ w hρ ht H hfr
        refine ⟨v', w', ρ', ?_, rest⟩
        rw [← hr]
        simp only [Instr.indexAt, asIntOf, Sem.run_bind, Sem.run_pure, Result.andThen, run_underlying hu, sureAddr_run, Int.ofNat_eq_natCast, Int.toNat_natCast]
        rw [if_pos hb]
        simp only [Sem.run_bind, szOf_run hz, Result.andThen]
        try rfl
      · exact .fail
    · exact .fail
  · rename_i a n c k i hx hi
    split
    · rename_i z hz' hlt
      cases hel : elemOfS P t with
      | none => rw [hel] at hz'; cases hz'
      | some el =>
        rw [hel] at hz'
        have hz : szOf P el = some z := hz'
        have hu := elem_run hel
        have h2 := VL.int.1 (he ix _ hi)
        obtain ⟨hsp, hlc, p, hp, a', c', e1, e2, e3, _⟩ := VL.slice.1 (he x _ hx)
        have hlt' := blt_lt hlt
        have ha' := e3 (by omega)
        have h1 : VL ρ0 (.pointer (some a)) (.pointer (some a')) := VL.ptr.2 ⟨hsp, p, hp, by rw [ha']⟩
        rw [e1, h2]
        have hb : (0 : Int) ≤ (i : Int) ∧ (i : Int) < (n : Int) := ⟨Int.natCast_nonneg _, by omega⟩
        intro w0 B s s' v ρ w hρ ht H hfr
        obtain ⟨v', w', ρ', hr, rest⟩ := sim_ptrTo (P := P) h1 w0 B s s' v ρ w hρ ht H hfr
        refine ⟨v', w', ρ', ?_, rest⟩
        rw [← hr]
        simp only [Instr.indexAt, asIntOf, Sem.run_bind, Sem.run_pure, Result.andThen, run_underlying hu, Int.ofNat_eq_natCast, Int.toNat_natCast]
        rw [if_pos hb]
        simp only [Sem.run_bind, szOf_run hz, Result.andThen]
        try rfl
    · exact .fail
  · exact .fail
theorem snd_index {e : En} {m : Operand → Value} (he : EnvR ρ0 e m) (t : TypeId) (x ix : Operand) : Sim P ρ0 (opIndex P t x ix e) (Instr.index t (m x) (m ix)) fun ρ a v => VL ρ a v := by
  unfold opIndex
  split
  · rename_i b k i hx hi
    rw [VL.string.1 (he x _ hx), VL.int.1 (he ix _ hi)]
    exact snd_prun
  · rename_i l k i hx hi
    split
    · rename_i n z el hA
      split
      · rename_i hlt
        obtain ⟨hu, hz⟩ := arrOf_run hA
        obtain ⟨l', e1, hl⟩ := VL.agg.1 (he x _ hx)
        rw [e1, VL.int.1 (he ix _ hi)]
        have hb : (0 : Int) ≤ (i : Int) ∧ (i : Int) < (n : Int) := ⟨Int.natCast_nonneg _, by have := blt_lt hlt; omega⟩
        intro w0 B s s' v ρ w hρ ht H hfr
        obtain ⟨v', w', ρ', hr, rest⟩ := snd_part (P := P) hl w0 B s s' v ρ w hρ ht H hfr
        refine ⟨v', w', ρ', ?_, rest⟩
        rw [← hr]
        simp only [Instr.index, asIntOf, Sem.run_bind, Sem.run_pure, Result.andThen, run_underlying hu, Int.ofNat_eq_natCast, Int.toNat_natCast]
        rw [if_pos hb]
        simp only [Sem.run_bind, szOf_run hz, Result.andThen]
        try rfl
      · exact .fail
    · exact .fail
  · exact .fail
theorem snd_extract {e : En} {m : Operand → Value} (he : EnvR ρ0 e m) (x : Operand) (i : Nat) : Sim P ρ0 (opExtract x i e) (Instr.extract (m x) i) fun ρ a v => VL ρ a v := by
  unfold opExtract
  split
  · rename_i l hx
    obtain ⟨l', e1, hl⟩ := VL.tuple.1 (he x _ hx)
    rw [e1]
    intro w0 B s s' v ρ w hρ ht H hfr
    obtain ⟨e2, rfl⟩ := tells_aev ht
    obtain ⟨v', e3, hv⟩ := (hl.grow hρ).at e2
    refine ⟨v', w, ρ, ?_, H, .rfl, hv⟩
    have : (⟨l'⟩ : Array Value)[i]? = some v' := by simpa using e3
    simp only [Instr.extract, this]; rfl
  · exact .fail
theorem snd_makeInterface {e : En} {m : Operand → Value} (he : EnvR ρ0 e m) (t : TypeId) (x : Operand) : Sim P ρ0 (opMakeInterface P t x e) (Instr.makeInterface t (m x)) fun ρ a v => VL ρ a v := by
  unfold opMakeInterface
  split
  · exact .fail
  · rename_i d hni hu
    refine Sim.aev1 fun v hv => ?_
    refine Sim.of (v := .iface t (m x)) (fun w => ?_) fun ρ hρ => VL.iface.2 ⟨_, rfl, (he x v hv).grow hρ⟩
    simp only [Instr.makeInterface, Sem.run_bind, run_underlying hu, Result.andThen]
    cases d <;> first
      | rfl
      | exact (hni _ rfl).elim
  · exact .fail
theorem snd_makeFunc {e : En} {m : Operand → Value} (he : EnvR ρ0 e m) (fn : Fn) (a b : Array Operand) : Sim P ρ0 (opMakeFunc fn a b e) (Instr.makeFunc fn (a.map m) (b.map m)) fun ρ a v => VL ρ a v := by
  unfold opMakeFunc
  split
  · rename_i hf
    refine Sim.aevs he _ (fun _ => good_bind (good_aevs _ _) fun _ => good_pure _) fun vs hvs => Sim.aevs he _ (fun _ => good_pure _) fun us hus => ?_
    refine Sim.of (v := .func fn (a.map m) (b.map m)) (fun w => rfl) fun ρ hρ => VL.func.2 ⟨?_, _, _, ?_, hvs.grow hρ, hus.grow hρ⟩
    · cases fn <;> first | exact trivial | cases hf
    · congr 1 <;> (apply Array.ext'; simp)
  · exact .fail
theorem snd_makeMap (t : TypeId) (r : Option Operand) (m : Operand → Value) : Sim P ρ0 (opMakeMap r) (Instr.makeMap t (r.map m)) fun ρ a v => VL ρ a v := by
  unfold opMakeMap
  split
  · intro w0 B s s' v ρ w hρ ht H hfr
    obtain ⟨id, s1, h1, h2, _⟩ := tells_bind (good_new _) ht
    obtain ⟨rfl, h16, e1, e2⟩ := tells_new h1
    obtain ⟨rfl, rfl⟩ := tells_pure h2
    have hn := hfr s.n (Nat.le_refl _) (by omega)
    refine ⟨.map (some w.heap.size), { w with heap := w.heap.push (.map #[] 0) }, ρ.put s.n ⟨w.heap.size, 0, 0, 0, 0⟩, rfl, ?_, ?_, VL.map.2 ⟨_, if_pos rfl, rfl⟩⟩
    · rw [e1]
      refine H.new hn h16 (Nat.le_trans H.base H.below.size) (fun id o p ho' hp => ?_) (below_push H.below (Nat.le_trans H.base H.below.size) _) (fun id o p ho' hp => ?_) ?_
      · obtain ⟨q, hq, hlt⟩ := (H.obj id o ho').place
        rw [hp] at hq; cases hq
        exact Nat.ne_of_lt hlt
      · obtain ⟨q, hq, hlt⟩ := (H.obj id o ho').place
        rw [hp] at hq; cases hq
        simp only []
        rw [Array.getElem?_push, if_neg (by omega)]
      · exact ⟨_, if_pos rfl, by simp⟩
    · rw [e2]; exact .put hn _
  · exact .fail
end Go.Proofs.YtpijenlmfmknnaaGreatDoor

/- Assertions, maps, literals, rows that are made. No program. -/
namespace Go.Proofs.YtpijenlmfmknnaaGreatDoor
open Go.RowKit
set_option linter.unusedVariables false
variable {P : Program} {ρ0 : Rn}

theorem zero_run {t : TypeId} {z : Value} (h : (P.info? t).bind (·.zero) = some z) (w : World) : (zeroValue t).run P w = .ok z w := by
  cases hi : P.info? t with
  | none => rw [hi] at h; cases h
  | some i =>
    rw [hi] at h
    simp only [Option.bind_some] at h
    simp [zeroValue, typeInfo, hi, h]
theorem two_rel {ρ : Rn} {v v' : Value} {b : Bool} (h : VL ρ v v') : VL ρ (.tuple ⟨[v, .bool b]⟩) (.tuple #[v', .bool b]) :=
  VL.tuple.2 ⟨[v', .bool b], rfl, v', [.bool b], rfl, h, .bool b, [], rfl, VL.bool.2 rfl, rfl⟩
theorem snd_typeAssert {e : En} {m : Operand → Value} (he : EnvR ρ0 e m) (x : Operand) (xt t : TypeId) (ok : Bool) :
    Sim P ρ0 (opTypeAssert P x t ok e) (Instr.typeAssert (m x) xt t ok) fun ρ a v => VL ρ a v := by
  unfold opTypeAssert
  split
  · exact .fail
  · rename_i d hni hu
    split
    · rename_i u v hx
      obtain ⟨v', e1, hv⟩ := VL.iface.1 (he x _ hx)
      rw [e1]
      have hrun : ∀ w, (Instr.typeAssert (.iface u v') xt t ok).run P w = (if u = t then (Pure.pure (if ok then .tuple #[v', .bool true] else v') : Sem Value) else
          (if ok then do Pure.pure (.tuple #[← zeroValue t, .bool false]) else runtimePanic (.typeAssertion (some xt) (some u) t ""))).run P w := by
        intro w
        simp only [Instr.typeAssert, Sem.run_bind, run_underlying hu, Result.andThen]
      unfold assertV
      split
      · rename_i hb
        have hut := Nat.eq_of_beq_eq_true hb
        refine Sim.of (v := .tuple #[v', .bool true]) (fun w => ?_) fun ρ hρ => two_rel (hv.grow hρ)
        rw [hrun, if_pos hut]; rfl
      · rename_i hb
        have hut := Nat.eq_of_beq_eq_true hb
        refine Sim.of (v := v') (fun w => ?_) fun ρ hρ => hv.grow hρ
        rw [hrun, if_pos hut]; rfl
      · rename_i hb
        have hut : ¬ u = t := fun h => by subst h; rw [Nat.beq_refl] at hb; cases hb
        split
        · rename_i z hz
          split
          · rename_i hp
            refine Sim.of (v := .tuple #[z, .bool false]) (fun w => ?_) fun ρ hρ => two_rel (plain_self hp)
            rw [hrun, if_neg hut]
            simp only [if_true, Sem.run_bind, zero_run hz, Result.andThen, Sem.run_pure]
          · exact .fail
        · exact .fail
      · exact .fail
    · exact .fail
  · exact .fail

/-! Maps. -/
theorem getObj_map {w : World} {r : Nat} {es : Array MapEntry} {c : Nat} (h : w.heap[r]? = some (.map es c)) : (getObj r).run P w = .ok (.map es c) w := by
  simp only [getObj, Sem.run, h]
theorem setObj_map {w : World} {r : Nat} {es : Array MapEntry} {c : Nat} (h : w.heap[r]? = some (.map es c)) (o : Obj) : (setObj r o).run P w = .ok () { w with heap := w.heap.setIfInBounds r o } := by
  simp only [setObj, Sem.run, h]
theorem tells_found {ok b : Bool} {v x : Value} {s s' : Hp} (h : Tells (foundV ok v b) s x s') : plainV v = true ∧ x = (if ok then .tuple ⟨[v, .bool b]⟩ else v) ∧ s' = s := by
  unfold foundV at h
  split at h
  · rename_i hp; obtain ⟨rfl, rfl⟩ := tells_pure h; exact ⟨hp, rfl, rfl⟩
  · rename_i hp; obtain ⟨rfl, rfl⟩ := tells_pure h; exact ⟨hp, rfl, rfl⟩
  · exact (tells_fail h).elim
theorem found_rel {ρ : Rn} {ok b : Bool} {v : Value} (hp : plainV v = true) : VL ρ (if ok then .tuple ⟨[v, .bool b]⟩ else v) (if ok then .tuple #[v, .bool b] else v) := by
  cases ok
  · exact plain_self hp
  · exact two_rel (plain_self hp)
theorem snd_lookup {e : En} {m : Operand → Value} (he : EnvR ρ0 e m) (t : TypeId) (x ix : Operand) (ok : Bool) : Sim P ρ0 (opLookup P t x ix ok e) (Instr.lookup t (m x) (m ix) ok) fun ρ a v => VL ρ a v := by
  unfold opLookup
  split
  · rename_i r k hx hk
    split
    · rename_i hp
      have hk' := plain_eq he hk hp
      intro w0 B s s' v ρ w hρ ht H hfr
      obtain ⟨p, hpr, e1⟩ := VL.map.1 ((he x _ hx).grow hρ)
      obtain ⟨o, s1, h1, h2, _⟩ := tells_bind (good_get r) ht
      obtain ⟨g1, g2, g3⟩ := tells_get h1
      unfold lookIn at h2
      split at h2
      · rename_i es c kt el hu
        obtain ⟨q, hq, hm⟩ := H.obj r _ g1
        rw [hpr] at hq; cases hq
        have H' : HR w0 B ρ s1.f w := H.congr fun id => by rw [g2]
        split at h2
        · rename_i u i v1 hck hfk
          obtain ⟨hpl, rfl, rfl⟩ := tells_found h2
          refine ⟨_, w, ρ, ?_, H', .rfl, found_rel hpl⟩
          rw [e1, hk']
          simp only [Instr.lookup, Sem.run_bind, run_underlying hu, Result.andThen, getObj_map hm, Sem.run_pure, prun_run _ _ hck, prun_run _ _ hfk]
        · rename_i u hck hfk
          split at h2
          · rename_i z hz
            obtain ⟨hpl, rfl, rfl⟩ := tells_found h2
            refine ⟨_, w, ρ, ?_, H', .rfl, found_rel hpl⟩
            rw [e1, hk']
            simp only [Instr.lookup, Sem.run_bind, run_underlying hu, Result.andThen, getObj_map hm, Sem.run_pure, prun_run _ _ hck, prun_run _ _ hfk, zero_run hz]
          · exact (tells_fail h2).elim
        · exact (tells_fail h2).elim
      · exact (tells_fail h2).elim
    · exact .fail
  · exact .fail
theorem snd_mapUpdate {e : En} {m : Operand → Value} (he : EnvR ρ0 e m) (t : TypeId) (x k y : Operand) :
    Sim P ρ0 (opMapUpdate P t x k y e) (do Instr.mapUpdate t (m x) (m k) (m y); Pure.pure Next.skip) OpR := by
  unfold opMapUpdate
  split
  · rename_i r kv v hx hk hy
    split
    · rename_i hp
      rw [Bool.and_eq_true] at hp
      have hk' := plain_eq he hk hp.1
      have hy' := plain_eq he hy hp.2
      intro w0 B s s' u ρ w hρ ht H hfr
      obtain ⟨p, hpr, e1⟩ := VL.map.1 ((he x _ hx).grow hρ)
      obtain ⟨o, s1, h1, h2, _⟩ := tells_bind (good_get r) ht
      obtain ⟨g1, g2, g3⟩ := tells_get h1
      unfold putIn at h2
      split at h2
      · rename_i es c kt el hu
        obtain ⟨q, hq, hm⟩ := H.obj r _ g1
        rw [hpr] at hq; cases hq
        split at h2
        · rename_i u1 hck hfk
          rw [forceL_eq, forceN_eq] at h2
          obtain ⟨u2, s2, h3, h4, _⟩ := tells_bind (good_set _ _) h2
          obtain ⟨h16, g4, g5⟩ := tells_set h3
          obtain ⟨rfl, rfl⟩ := tells_pure h4
          have hB : B ≤ p.blk := H.own r _ p g1 h16 hpr
          have hlt : p.blk < w.heap.size := by
            rcases Nat.lt_or_ge p.blk w.heap.size with h | h
            · exact h
            · rw [Array.getElem?_eq_none h] at hm; cases hm
          refine ⟨.skip, { w with heap := w.heap.setIfInBounds p.blk (.map ⟨es ++ [{ key := kv, val := v, born := c }]⟩ (c + 1)) }, ρ, ?_, ?_, .rfl, .inr ⟨rfl, rfl⟩⟩
          · rw [e1, hk', hy']
            have hpush : (⟨es⟩ : Array MapEntry).push { key := kv, val := v, born := c } = ⟨es ++ [{ key := kv, val := v, born := c }]⟩ := by apply Array.ext'; simp
            simp only [Instr.mapUpdate, Sem.run_bind, run_underlying hu, Result.andThen, getObj_map hm, prun_run _ _ hck, prun_run _ _ hfk, setObj_map hm, Sem.run_pure, hpush]
          · rw [g4, g2]
            refine H.set g1 hpr (H.below.trans ⟨rfl, rfl, rfl, by simp, fun j hj => ?_⟩) (fun j hj => ?_) ⟨p, hpr, ?_⟩
            · simp only [Array.getElem?_setIfInBounds]; rw [if_neg (by omega)]
            · simp only [Array.getElem?_setIfInBounds]; rw [if_neg (fun h => hj h.symm)]
            · simp [hlt]
        · exact (tells_fail h2).elim
      · exact (tells_fail h2).elim
    · exact .fail
  · exact .fail

/-! Rows and structs that are built of parts. -/
/-- Cells laid into a row one by one are pasted. -/
theorem lay_cells (off : Nat) : ∀ (vs : List Value) (j : Nat) (l : List Value), off + j + vs.length ≤ l.length →
    ((vs.zipIdx j).foldl (fun (cs : Array Value) (x : Value × Nat) => cs.setIfInBounds (off + x.2) x.1) ⟨l⟩).toList = l.take (off + j) ++ (vs ++ l.drop (off + j + vs.length))
  | [], j, l, h => by simp
  | v :: vs, j, l, h => by
    simp only [List.length_cons] at h
    simp only [List.zipIdx_cons, List.foldl_cons]
    have e : (⟨l⟩ : Array Value).setIfInBounds (off + j) v = ⟨l.set (off + j) v⟩ := by apply Array.ext'; simp
    rw [e, lay_cells off vs (j + 1) (l.set (off + j) v) (by rw [List.length_set]; omega)]
    simp only [List.length_cons]
    have h1 : (l.set (off + j) v).take (off + (j + 1)) = l.take (off + j) ++ [v] := by
      apply List.ext_getElem?
      intro i
      rw [List.getElem?_take, List.getElem?_set]
      by_cases hi : i < off + j
      · rw [if_pos (by omega), if_neg (by omega), List.getElem?_append_left (by rw [List.length_take]; omega), List.getElem?_take, if_pos hi]
      · by_cases hi2 : i = off + j
        · subst hi2
          rw [if_pos (by omega), if_pos rfl, if_pos (by omega), List.getElem?_append_right (by rw [List.length_take]; omega), List.length_take, show off + j - min (off + j) l.length = 0 by omega]
          rfl
        · rw [if_neg (by omega), List.getElem?_eq_none (by rw [List.length_append, List.length_take]; simp; omega)]
    have h2 : (l.set (off + j) v).drop (off + (j + 1) + vs.length) = l.drop (off + j + (vs.length + 1)) := by
      apply List.ext_getElem?
      intro i
      rw [List.getElem?_drop, List.getElem?_drop, List.getElem?_set, if_neg (by omega)]
      congr 1
      omega
    rw [h1, h2]
    simp
theorem fill_rel {place : Nat → Option (Nat × Nat)} : ∀ (parts : List (Nat × Value)) (parts' : List (Nat × Value)) (l l' k : List Value) (s s' : Hp),
    LR (VL ρ0) l l' → parts'.map (·.1) = parts.map (·.1) → LR (VL ρ0) (parts.map (·.2)) (parts'.map (·.2)) → Tells (fillK place l parts) s k s' → s' = s ∧ ∃ k', Instr.fill place ⟨l'⟩ parts' = some ⟨k'⟩ ∧ LR (VL ρ0) k k'
  | [], parts', l, l', k, s, s', hl, h1, h2, ht => by
    have : parts' = [] := by simpa using h1
    subst this
    unfold fillK at ht
    obtain ⟨rfl, rfl⟩ := tells_pure ht
    exact ⟨rfl, l', rfl, hl⟩
  | (i, v) :: parts, [], l, l', k, s, s', hl, h1, h2, ht => by simp at h1
  | (i, v) :: parts, (i', v') :: parts', l, l', k, s, s', hl, h1, h2, ht => by
    simp only [List.map_cons, List.cons.injEq] at h1
    obtain ⟨rfl, h1⟩ := h1
    obtain ⟨u', tl, e, hv, htl⟩ := h2
    simp only [List.map_cons, List.cons.injEq] at e
    obtain ⟨rfl, rfl⟩ := e
    unfold fillK at ht
    split at ht
    · rename_i off size hpl
      split at ht
      · rename_i vs hvs
        split at ht
        · rename_i hlen
          obtain ⟨l2, s1, t1, t2, _⟩ := tells_bind (good_paste _ _ _) ht
          obtain ⟨p1, rfl, rfl⟩ := tells_paste t1
          have hc := cellsK_rel hv hvs
          have hcl := hc.len
          rw [Array.length_toList] at hcl
          have hsz : v'.cells.size = size := by rw [hcl]; exact Nat.eq_of_beq_eq_true hlen
          have hll := hl.len
          have hlay := lay_cells off v'.cells.toList 0 l' (by rw [Array.length_toList]; omega)
          have hrel : LR (VL ρ0) (l.take off ++ (vs ++ l.drop (off + vs.length))) (l'.take off ++ (v'.cells.toList ++ l'.drop (off + vs.length))) := (hl.take off).app (hc.app (hl.drop _))
          obtain ⟨rfl, k', hk', hkk⟩ := fill_rel parts parts' _ _ k _ s' hrel h1 htl t2
          refine ⟨rfl, k', ?_, hkk⟩
          rw [← hk']
          simp only [Instr.fill, hpl]
          rw [if_neg]
          · congr 1
            apply Array.ext'
            rw [show (v'.cells.zipIdx.foldl (fun cs x => match x with | (c, j) => cs.setIfInBounds (off + j) c) (⟨l'⟩ : Array Value)).toList = _ from ?_]
            rw [← Array.foldl_toList, Array.toList_zipIdx]
            simp only [Nat.add_zero] at hlay
            rw [Array.length_toList, hcl] at hlay
            exact hlay
          · simp only [hsz, ne_eq, not_true_eq_false, decide_false, Bool.false_or, decide_eq_true_eq, List.size_toArray]
            omega
        · exact (tells_fail ht).elim
      · exact (tells_fail ht).elim
    · exact (tells_fail ht).elim
end Go.Proofs.YtpijenlmfmknnaaGreatDoor

/- Literals, made rows, lengths, conversions. No program. -/
namespace Go.Proofs.YtpijenlmfmknnaaGreatDoor
open Go.RowKit
set_option linter.unusedVariables false
variable {P : Program} {ρ0 : Rn}

theorem reps_get (l : List Value) : ∀ (n i : Nat), (reps l n)[i]? = if i < n * l.length then l[i % l.length]? else none
  | 0, i => by simp [reps]
  | n + 1, i => by
    rw [reps]
    by_cases h : i < l.length
    · rw [List.getElem?_append_left h, if_pos (by rw [Nat.succ_mul]; omega), Nat.mod_eq_of_lt h]
    · rw [List.getElem?_append_right (by omega), reps_get l n]
      by_cases h2 : i < (n + 1) * l.length
      · rw [if_pos h2, if_pos (by rw [Nat.succ_mul] at h2; omega)]
        congr 1
        rw [← Nat.mod_eq_sub_mod (by omega)]
      · rw [if_neg h2, if_neg (by rw [Nat.succ_mul] at h2; omega)]
theorem reps_len (l : List Value) : ∀ n, (reps l n).length = n * l.length
  | 0 => by simp [reps]
  | n + 1 => by rw [reps, List.length_append, reps_len l n, Nat.succ_mul]; omega
theorem range_reps (z : Array Value) (n : Nat) : (Array.range (n * z.size)).map (fun i => z[i % z.size]!) = ⟨reps z.toList n⟩ := by
  apply Array.ext'
  apply List.ext_getElem?
  intro i
  rw [reps_get, Array.length_toList]
  simp only [Array.toList_map, Array.toList_range, List.getElem?_map]
  by_cases h : i < n * z.size
  · rw [if_pos h, List.getElem?_range h]
    have hz : 0 < z.size := by
      rcases Nat.eq_zero_or_pos z.size with h0 | h0
      · rw [h0] at h; simp at h
      · exact h0
    have hlt : i % z.size < z.size := Nat.mod_lt _ hz
    simp [hlt]
  · rw [if_neg h, List.getElem?_eq_none (by simpa using Nat.le_of_not_lt h)]
    rfl
theorem reps_rel {ρ : Rn} {l : List Value} (h : LR (VL ρ) l l) : ∀ n, LR (VL ρ) (reps l n) (reps l n)
  | 0 => rfl
  | n + 1 => h.app (reps_rel h n)
theorem allSz_run : ∀ (fs : List Field) (pl : List (Nat × Nat)), allSz P fs = some pl → ∀ w, (fs.mapM fun f => do Pure.pure (f.offset, ← Go.sizeOf f.type) : Sem (List (Nat × Nat))).run P w = .ok pl w
  | [], pl, h, w => by cases h; rfl
  | f :: fs, pl, h, w => by
    unfold allSz at h
    split at h
    · rename_i n l hz hl
      cases h
      simp only [List.mapM_cons, Sem.run_bind, szOf_run hz, Result.andThen, Sem.run_pure, allSz_run fs l hl w]
    · cases h
theorem zip_fst {α β : Type} : ∀ (l : List α) (k : List β), k.length = l.length → (l.zip k).map (·.1) = l
  | [], [], _ => rfl
  | x :: l, y :: k, h => by simp [zip_fst l k (by simpa using h)]
theorem zip_snd {α β : Type} : ∀ (l : List α) (k : List β), k.length = l.length → (l.zip k).map (·.2) = k
  | [], [], _ => rfl
  | x :: l, y :: k, h => by simp [zip_snd l k (by simpa using h)]
theorem Sim.fill {γ δ : Type} {place : Nat → Option (Nat × Nat)} {l l' : List Value} {parts : Array (Nat × Operand)} {m : Operand → Value} {vs : List Value} {G : List Value → M γ} {c : Sem δ} {R : Rn → γ → δ → Prop}
    (hl : LR (VL ρ0) l l') (hvs : LR (VL ρ0) vs ((parts.toList.map (·.2)).map m))
    (h : ∀ k k', Instr.fill place ⟨l'⟩ (parts.map fun (i, x) => (i, m x)).toList = some ⟨k'⟩ → LR (VL ρ0) k k' → Sim P ρ0 (G k) c R) : Sim P ρ0 (mbind (fillK place l ((parts.toList.map (·.1)).zip vs)) G) c R := by
  intro w0 B s s' a ρ w hρ ht H hfr
  obtain ⟨k, s1, t1, t2, _⟩ := tells_bind (good_fillK _ _ _) ht
  have hlen : vs.length = (parts.toList.map (·.1)).length := by have := hvs.len; simpa using this.symm
  obtain ⟨rfl, k', hk, hkk⟩ := fill_rel (ρ0 := ρ0) ((parts.toList.map (·.1)).zip vs) (parts.map fun (i, x) => (i, m x)).toList l l' k s s1 hl
    (by rw [zip_fst _ _ hlen]; simp) (by
      have e : (parts.map fun (i, x) => (i, m x)).toList.map (·.2) = (parts.toList.map (·.2)).map m := by simp [Function.comp_def]
      rw [zip_snd _ _ hlen, e]; exact hvs) t1
  exact h k k' hk hkk w0 B _ s' a ρ w hρ t2 H hfr
theorem snd_build {e : En} {m : Operand → Value} (he : EnvR ρ0 e m) (t : TypeId) (parts : Array (Nat × Operand)) :
    Sim P ρ0 (opBuild P t parts e) (Instr.build t (parts.map fun (i, x) => (i, m x))) fun ρ a v => VL ρ a v := by
  unfold opBuild
  refine Sim.aevs he _ (fun _ => ?_) fun vs hvs => ?_
  · split
    · exact good_bind (good_fillK _ _ _) fun _ => good_pure _
    · exact good_fail
  · split
    · rename_i pl z hb
      unfold buildT at hb
      split at hb
      · rename_i fs z' hu hz
        split at hb
        · rename_i pl' ha
          cases hb
          obtain ⟨zv, hzp, rfl, hzr⟩ := zeroOf_run hz
          refine Sim.fill (l' := zv.cells.toList) (plain_cells hzp) hvs fun k k' hk hkk => ?_
          refine Sim.of (v := .agg ⟨k'⟩) (fun w => ?_) fun ρ hρ => VL.agg.2 ⟨k', rfl, hkk.grow hρ⟩
          have hmm : (fs.mapM fun f => do Pure.pure (f.offset, ← Go.sizeOf f.type) : Sem (Array (Nat × Nat))).run P w = .ok ⟨pl'⟩ w := by
            rw [Array.mapM_eq_mapM_toList, Sem.run_map, allSz_run _ _ ha w]; rfl
          have hpl : (fun (i : Nat) => (⟨pl'⟩ : Array (Nat × Nat))[i]?) = fun (i : Nat) => pl'[i]? := by funext i; simp
          have hcz : (⟨zv.cells.toList⟩ : Array Value) = zv.cells := by apply Array.ext'; rfl
          rw [hcz] at hk
          simp only [Instr.build, Sem.run_bind, hzr, Result.andThen, run_underlying hu, hmm, hpl, hk, Sem.run_pure]
        · cases hb
      · rename_i n el z' hu hz
        split at hb
        · rename_i n' hs
          cases hb
          obtain ⟨zv, hzp, rfl, hzr⟩ := zeroOf_run hz
          refine Sim.fill (l' := zv.cells.toList) (plain_cells hzp) hvs fun k k' hk hkk => ?_
          refine Sim.of (v := .agg ⟨k'⟩) (fun w => ?_) fun ρ hρ => VL.agg.2 ⟨k', rfl, hkk.grow hρ⟩
          have hcz : (⟨zv.cells.toList⟩ : Array Value) = zv.cells := by apply Array.ext'; rfl
          rw [hcz] at hk
          simp only [Instr.build, Sem.run_bind, hzr, Result.andThen, run_underlying hu, szOf_run hs, hk, Sem.run_pure]
        · cases hb
      · cases hb
    · exact .fail
theorem snd_buildSlice {e : En} {m : Operand → Value} (he : EnvR ρ0 e m) (t : TypeId) (len : Nat) (parts : Array (Nat × Operand)) :
    Sim P ρ0 (opBuildSlice P t len parts e) (Instr.buildSlice t len (parts.map fun (i, x) => (i, m x))) fun ρ a v => VL ρ a v := by
  unfold opBuildSlice
  refine Sim.aevs he _ (fun _ => ?_) fun vs hvs => ?_
  · repeat' (first | exact good_fail | (rw [forceL_eq]) | exact good_bind (good_fillK _ _ _) (fun _ => good_bind (good_mrow _ _ _) fun _ => good_pure _) | split)
  · split
    · rename_i el hel
      split
      · rename_i n z hs hz
        split
        · rename_i hc
          rw [Bool.and_eq_true, Bool.and_eq_true] at hc
          have hc0 := Nat.le_of_ble_eq_true hc.1.1
          have hc1 := Nat.le_of_ble_eq_true hc.1.2
          have hc2 := Nat.eq_of_beq_eq_true hc.2
          rw [forceL_eq]
          obtain ⟨zv, hzp, rfl, hzr⟩ := zeroOf_run hz
          have hzn : zv.cells.size = n := by rw [← hc2, Array.length_toList]
          refine Sim.fill (l' := reps zv.cells.toList len) (reps_rel (plain_cells hzp) len) hvs fun k k' hk hkk => ?_
          intro w0 B s s' v ρ w hρ ht H hfr
          obtain ⟨id, s1, t1, t2, _⟩ := tells_bind (good_mrow _ _ _) ht
          obtain ⟨rfl, rfl⟩ := tells_pure t2
          obtain ⟨a, w', ρ', hr, H', hE, p, h1, h2, h3, rfl⟩ := sim_row (P := P) hkk w0 B s s' id ρ w hρ t1 H hfr
          refine ⟨_, w', ρ', ?_, H', hE, slice_of h1 h2 h3 (Nat.le_refl _) (by omega)⟩
          have hrow0 : len * n = 0 → (Array.range (len * n)).map (fun i => (#[] : Array Value)[i % (#[] : Array Value).size]!) = (⟨reps zv.cells.toList len⟩ : Array Value) := by
            intro h0
            have : reps zv.cells.toList len = [] := List.eq_nil_of_length_eq_zero (by rw [reps_len, Array.length_toList, hzn, h0])
            rw [this, h0]; simp
          have hrow1 : (Array.range (len * n)).map (fun i => zv.cells[i % zv.cells.size]!) = (⟨reps zv.cells.toList len⟩ : Array Value) := by
            rw [← hzn, range_reps]
          have hk' : Instr.fill (fun i => some (i * n, n)) ⟨reps zv.cells.toList len⟩ (parts.map fun x => (x.1, m x.2)).toList = some ⟨k'⟩ := hk
          simp only [Instr.buildSlice, Sem.run_bind, run_underlying (elem_run hel), Result.andThen, szOf_run hs]
          rw [if_neg (by omega)]
          by_cases h0 : len * n = 0
          · rw [if_pos h0]
            simp only [Sem.run_bind, Sem.run_pure, Result.andThen, hrow0 h0, hk', hr]
          · rw [if_neg h0]
            simp only [Sem.run_bind, hzr, Sem.run_pure, Result.andThen, hrow1, hk', hr]
        · exact .fail
      · exact .fail
    · exact .fail
theorem wrap_le {m : Nat} (h : m ≤ 4096) : IntKind.wrap .i64 (m : Int) = (m : Int) := wrap_small m (by omega)
theorem snd_makeSlice {e : En} {m : Operand → Value} (he : EnvR ρ0 e m) (t : TypeId) (l c : Operand) :
    Sim P ρ0 (opMakeSlice P t l c e) (Instr.makeSlice t (m l) (m c)) fun ρ a v => VL ρ a v := by
  unfold opMakeSlice
  split
  · rename_i n k el hl hc hel
    split
    · rename_i size bytes z hs hb hz
      split
      · rename_i hcond
        simp only [Bool.and_eq_true] at hcond
        obtain ⟨⟨h1, h2⟩, h3, h4⟩ := hcond
        have h1 := Nat.le_of_ble_eq_true h1
        have h2 := Nat.le_of_ble_eq_true h2
        have h3 := Nat.le_of_ble_eq_true h3
        have h4 := Nat.eq_of_beq_eq_true h4
        rw [forceL_eq, VL.int.1 (he l _ hl), VL.int.1 (he c _ hc)]
        obtain ⟨zv, hzp, rfl, hzr⟩ := zeroOf_run hz
        have hzn : zv.cells.size = size := by rw [← h4, Array.length_toList]
        intro w0 B s s' v ρ w hρ ht H hfr
        obtain ⟨id, s1, t1, t2, _⟩ := tells_bind (good_mrow _ _ _) ht
        obtain ⟨rfl, rfl⟩ := tells_pure t2
        obtain ⟨a, w', ρ', hr, H', hE, p, p1, p2, p3, rfl⟩ := sim_row (P := P) (reps_rel (plain_cells hzp) k) w0 B s s' id ρ w hρ t1 H hfr
        refine ⟨_, w', ρ', ?_, H', hE, slice_of p1 p2 p3 h1 (by omega)⟩
        obtain ⟨ti, hti, hbt⟩ : ∃ ti, P.info? el = some ti ∧ ti.bytes = bytes := by
          cases hi : P.info? el with
          | none => rw [hi] at hb; cases hb
          | some ti => rw [hi] at hb; cases hb; exact ⟨ti, rfl, rfl⟩
        have hinfo : ∀ w, (typeInfo el).run P w = .ok ti w := fun w => by simp [typeInfo, hti]
        have hrow0 : k * size = 0 → (Array.range (k * size)).map (fun i => (#[] : Array Value)[i % (#[] : Array Value).size]!) = (⟨reps zv.cells.toList k⟩ : Array Value) := by
          intro h0
          have : reps zv.cells.toList k = [] := List.eq_nil_of_length_eq_zero (by rw [reps_len, Array.length_toList, hzn, h0])
          rw [this, h0]; simp
        have hrow1 : (Array.range (k * size)).map (fun i => zv.cells[i % zv.cells.size]!) = (⟨reps zv.cells.toList k⟩ : Array Value) := by
          rw [← hzn, range_reps]
        have hprod : bytes * k ≤ 4096 * 4096 := Nat.mul_le_mul h3 h2
        have hcast : (bytes : Int) * (k : Int) = ((bytes * k : Nat) : Int) := by simp
        simp only [Instr.makeSlice, asInt, asIntOf, Sem.run_bind, run_underlying (elem_run hel), Result.andThen, Sem.run_pure, hinfo, hbt, Int.ofNat_eq_natCast, wrap_le h2, wrap_le (Nat.le_trans h1 h2), hcast]
        rw [if_neg (by simp; omega)]
        simp only [Sem.run_bind, run_askRoom, Result.andThen, Int.toNat_natCast, szOf_run hs]
        by_cases h0 : k * size = 0
        · rw [if_pos h0]
          simp only [Sem.run_bind, Sem.run_pure, Result.andThen, hrow0 h0, hr]
        · rw [if_neg h0]
          simp only [Sem.run_bind, hzr, Sem.run_pure, Result.andThen, hrow1, hr]
      · exact .fail
    · exact .fail
  · exact .fail
theorem snd_len {t : TypeId} {x x' : Value} (hx : VL ρ0 x x') (ts : Array TypeId) (ty : TypeId) (args : Array Value) (h0 : ts[0]? = some t) (h1 : args[0]? = some x') :
    Sim P ρ0 (biLen P t x) (Builtin.len_ ts ty args) fun ρ a v => VL ρ a v := by
  unfold biLen
  split
  · rename_i el a n c hu
    have : ∃ a' c', x' = .slice a' n c' := by
      cases a with
      | none => obtain ⟨rfl, rfl, e⟩ := VL.nils.1 hx; exact ⟨_, _, e⟩
      | some a => obtain ⟨_, _, p, _, a', c', e, _⟩ := VL.slice.1 hx; exact ⟨_, _, e⟩
    obtain ⟨a', c', rfl⟩ := this
    refine Sim.of (v := goInt n) (fun w => ?_) fun ρ hρ => VL.int.2 rfl
    simp only [Builtin.len_, h0, h1, Sem.run_bind, run_underlying hu, Result.andThen, Sem.run_pure]
  · rename_i n el hu
    refine Sim.of (v := goInt n) (fun w => ?_) fun ρ hρ => VL.int.2 rfl
    simp only [Builtin.len_, h0, h1, Sem.run_bind, run_underlying hu, Result.andThen, Sem.run_pure]
  · rename_i b hu
    rw [forceN_eq]
    have e := VL.string.1 hx
    subst e
    refine Sim.of (v := goInt b.size) (fun w => ?_) fun ρ hρ => VL.int.2 rfl
    simp only [Builtin.len_, h0, h1, Sem.run_bind, run_underlying hu, Result.andThen, Sem.run_pure]
  · exact .fail
end Go.Proofs.YtpijenlmfmknnaaGreatDoor

/- Conversions; cap, clear, copy, min, max. No program. -/
namespace Go.Proofs.YtpijenlmfmknnaaGreatDoor
open Go.RowKit
set_option linter.unusedVariables false
variable {P : Program} {ρ0 : Rn}

theorem isU8_run {t : TypeId} (h : isU8 P t = true) : P.underlying t = some (.int .u8) := by
  unfold isU8 at h
  split at h
  · rename_i h'; exact h'
  · cases h
theorem vl_bytes {ρ : Rn} : ∀ (l : List UInt8), LR (VL ρ) (l.map fun x => Value.int .u8 x.toNat) (l.map fun x => Value.int .u8 x.toNat)
  | [] => rfl
  | x :: l => ⟨_, _, rfl, VL.int.2 rfl, vl_bytes l⟩
/-- A text as a row of bytes. -/
theorem snd_convStr (src dst : TypeId) (b : ByteArray) : Sim P ρ0 (convStr P src dst b) (convert src dst (.string b)) fun ρ a v => VL ρ a v := by
  unfold convStr
  split
  · rename_i el hel
    split
    · rename_i hc
      simp only [Bool.and_eq_true] at hc
      obtain ⟨⟨h8, hsrc⟩, hsz⟩ := hc
      have h8 := isU8_run h8
      have hsz := Nat.le_of_ble_eq_true hsz
      obtain ⟨ds, hds⟩ := Option.isSome_iff_exists.1 hsrc
      have hdst := elem_run hel
      rw [forceL_eq]
      intro w0 B s s' v ρ w hρ ht H hfr
      obtain ⟨id, s1, t1, t2, _⟩ := tells_bind (good_mrow _ _ _) ht
      rw [forceN_eq] at t2
      obtain ⟨rfl, rfl⟩ := tells_pure t2
      obtain ⟨h1, rfl, h16, e1, e2⟩ := tells_row t1
      have hn := hfr s.n (Nat.le_refl _) (by omega)
      -- what the model does
      obtain ⟨cap, hcap⟩ : ∃ cap, cap = (Question.appendCap b.size 0 el).cut (w.tape w.drawn (.appendCap b.size 0 el)) := ⟨_, rfl⟩
      have hle : b.size ≤ cap := by rw [hcap]; simp only [Question.cut]; omega
      have hcm : cap ≤ 9223372036854775807 := by
        rw [hcap]
        simp only [Question.cut]
        have := Nat.mod_lt (w.tape w.drawn (.appendCap b.size 0 el)) (show 0 < 2 ^ 63 - b.size by omega)
        omega
      obtain ⟨row, hrow⟩ : ∃ row : List Value, row = b.data.toList.map fun x => Value.int .u8 x.toNat := ⟨_, rfl⟩
      have hrl : row.length = b.size := by rw [hrow, List.length_map]; rfl
      obtain ⟨rest, hrest⟩ : ∃ rest : List Value, rest = List.replicate (cap - b.size) (.int .u8 0) := ⟨_, rfl⟩
      have hrs : rest.length = cap - b.size := by rw [hrest]; simp
      have hconv : (convert src dst (.string b)).run P w = (Conv.stringToBytes el b).run P w := by
        simp only [convert, Sem.run_bind, run_underlying hds, run_underlying hdst, Result.andThen, run_underlying h8]
      have harr : (b.data.map fun x => Value.int .u8 x.toNat) ++ Array.replicate (cap - b.size) (Value.int .u8 0) = (⟨row ++ rest⟩ : Array Value) := by
        apply Array.ext'
        rw [hrow, hrest]; simp
      have hrun : (Conv.stringToBytes el b).run P w = .ok (.slice (some ⟨w.heap.size, 0, none⟩) b.size cap)
          { w with heap := w.heap.push (.cells ⟨row ++ rest⟩ el ((row ++ rest).length, (row ++ rest).length + 1)), drawn := w.drawn + 1 } := by
        have hf : (Question.appendCap b.size 0 el).forced = false := rfl
        simp only [Conv.stringToBytes, Sem.run_bind, run_choose, hf, Bool.false_eq_true, if_false, Result.andThen, ← hcap, harr, newRow, run_newObj, Sem.run_pure, markStringish, run_shape]
        have hshape : ({ w with heap := w.heap.push (.cells ⟨row ++ rest⟩ el), drawn := w.drawn + 1 } : World).shape? w.heap.size = some (el, (row ++ rest).length) := by
          simp [World.shape?]
        rw [hshape]
        simp only [run_freeze]
        congr 1
        unfold World.freeze
        rw [if_neg (by omega)]
        simp only [World.mk.injEq, and_true]
        apply Array.ext
        · simp
        · intro i hi1 hi2
          simp only [Array.getElem_modify]
          split
          · rename_i hi
            subst hi
            simp
          · rename_i hi
            rw [Array.getElem_push_lt (by simp at hi2; omega), Array.getElem_push_lt]
      refine ⟨_, _, ρ.put s.n ⟨w.heap.size, 0, row.length, 1, cap - b.size⟩, hconv.trans hrun, ?_, ?_, ?_⟩
      · rw [e1, ← hrow]
        refine row_new (t' := el) (rest := rest) (fz := ((row ++ rest).length, (row ++ rest).length + 1)) 1 (cap - b.size) H hn h16 (by rw [hrow]; exact vl_bytes _) (fun h => by cases h) (fun _ => rfl) (by rw [hrs]; omega)
          (below_push H.below (Nat.le_trans H.base H.below.size) _).drew ?_ (fun x hx => ?_) ⟨.inr (Nat.le_refl _), fun _ h => by cases h⟩
        · simp
        · simp only []
          rw [Array.getElem?_push, if_neg (by omega)]
      · rw [e2]; exact .put hn _
      · rw [← hrow]
        refine VL.slice.2 ⟨rfl, Nat.le_refl _, _, if_pos rfl, ⟨w.heap.size, 0, none⟩, cap, by rw [hrl], ?_, fun _ => rfl, hcm⟩
        simp only [Nat.mul_one, Nat.zero_add, if_true]
        omega
    · exact .fail
  · exact snd_prun
theorem bytesOf_ints : ∀ (vs : List Value) (bs : List UInt8), bytesOf vs = some bs → ∃ ns : List Int, vs = ns.map (Value.int .u8) ∧ bs = ns.map fun n => UInt8.ofNat n.toNat
  | [], bs, h => by cases h; exact ⟨[], rfl, rfl⟩
  | v :: vs, bs, h => by
    unfold bytesOf at h
    split at h
    · rename_i e; cases e
    · rename_i n l e
      cases e
      split at h
      · rename_i bs' hb
        cases h
        obtain ⟨ns, rfl, rfl⟩ := bytesOf_ints _ _ hb
        exact ⟨n :: ns, rfl, rfl⟩
      · cases h
    · cases h
theorem ints_rel {ρ : Rn} : ∀ (ns : List Int) (l : List Value), LR (VL ρ) (ns.map (Value.int .u8)) l → l = ns.map (Value.int .u8)
  | [], l, h => h
  | n :: ns, l, ⟨v', t, e, hv, ht⟩ => by rw [e, VL.int.1 hv, ints_rel ns t ht]; rfl
theorem push_fold : ∀ (ns : List Int) (s : List UInt8), (ns.foldl (fun (r : ByteArray) n => r.push (UInt8.ofNat n.toNat)) ⟨⟨s⟩⟩) = ⟨⟨s ++ ns.map fun n => UInt8.ofNat n.toNat⟩⟩
  | [], s => by simp
  | n :: ns, s => by
    have e : (⟨⟨s⟩⟩ : ByteArray).push (UInt8.ofNat n.toNat) = ⟨⟨s ++ [UInt8.ofNat n.toNat]⟩⟩ := by
      show (⟨(⟨s⟩ : Array UInt8).push (UInt8.ofNat n.toNat)⟩ : ByteArray) = _
      congr 1
      apply Array.ext'
      simp
    simp only [List.foldl_cons, List.map_cons]
    rw [e, push_fold ns]
    simp
theorem snd_convSl {src dst : TypeId} {a : Addr} {n c : Nat} {v' : Value} (hv : VL ρ0 (.slice (some a) n c) v') : Sim P ρ0 (convSl P src dst a n c) (convert src dst v') fun ρ a v => VL ρ a v := by
  obtain ⟨hsp, hlc, p, hp, a', c', e1, e2, e3, _⟩ := VL.slice.1 hv
  subst e1
  unfold convSl
  split
  · rename_i el hel hd
    split
    · rename_i h8
      have hconv : ∀ w, (convert src dst (.slice (some a') n c')).run P w = (Conv.bytesToString (.slice (some a') n c')).run P w := fun w => by
        simp only [convert, Sem.run_bind, run_underlying (elem_run hel), run_underlying hd, Result.andThen, run_underlying (isU8_run h8)]
      split
      · rename_i hn
        have hn := Nat.eq_of_beq_eq_true hn
        subst hn
        refine Sim.of (v := .string ⟨⟨[]⟩⟩) (fun w => ?_) fun ρ _ => VL.string.2 rfl
        rw [hconv, run_bytesToString w a' 0 c' [] rfl]
        rfl
      · rename_i hn
        have hn : n ≠ 0 := fun h => by subst h; cases hn
        have ha' := e3 (by omega)
        have hptr : VL ρ0 (.pointer (some a)) (.pointer (some a')) := VL.ptr.2 ⟨hsp, p, hp, by rw [ha']⟩
        intro w0 B s s' v ρ w hρ ht H hfr
        obtain ⟨vs, s1, t1, t2, _⟩ := tells_bind (good_mload _ _) ht
        obtain ⟨arr, w', ρ', hr, H', hE, l', rfl, hl, hlen⟩ := sim_load (P := P) hptr w0 B s s1 vs ρ w hρ t1 H (hfr.left (t2.le (good_strOf _)))
        unfold strOf at t2
        split at t2
        · rename_i bs hbs
          rw [forceL_eq] at t2
          obtain ⟨rfl, rfl⟩ := tells_pure t2
          obtain ⟨ns, rfl, rfl⟩ := bytesOf_ints _ _ hbs
          have := ints_rel ns l' hl
          subst this
          -- a load turns nothing
          have hw : w' = w := by
            have h2 := hr
            obtain ⟨b, off, l, t, fl, rfl, f1, f2, f3, f4, f5⟩ := tells_load t1
            obtain ⟨q, hq, q2, q3, q4, c2, el2, fz2, q5, q6, q7, q8⟩ := H.obj b _ f1
            rw [show ρ b = some p from hρ _ _ hp] at hq; cases hq
            rw [ha'] at h2
            have hsz : p.sz = l.length := q2
            have hx : ∃ cs : List Value, (loadCells ⟨p.blk, p.off + off, none⟩ cs.length).run P w = .ok cs.toArray w ∧ cs.length = n := by
              refine ⟨(c2.toList.drop (p.off + off)).take n, load_run q5 _ _ fun j x hj => ?_, ?_⟩
              · rw [List.getElem?_take] at hj
                split at hj
                · rw [List.getElem?_drop, Array.getElem?_toList] at hj; exact hj
                · cases hj
              · rw [List.length_take, List.length_drop, Array.length_toList]; omega
            obtain ⟨cs, hc1, hc2⟩ := hx
            rw [hc2] at hc1
            rw [hc1] at h2
            cases h2; rfl
          subst hw
          refine ⟨_, w', ρ', ?_, H', hE, VL.string.2 rfl⟩
          rw [hconv, run_bytesToString w' a' n c' ns hr, show (ByteArray.empty) = (⟨⟨[]⟩⟩ : ByteArray) from rfl, push_fold]
          simp
        · exact (tells_fail t2).elim
    · exact .fail
  · rename_i el el' hel hd
    split
    · rename_i b off hc
      simp only [Bool.and_eq_true] at hc
      obtain ⟨⟨hsd, h8⟩, hc0⟩ := hc
      have hsd := Nat.eq_of_beq_eq_true hsd
      have hc0 := blt_lt hc0
      have h8 := isU8_run h8
      have ha' := e3 (by omega)
      split
      rotate_left
      · exact .fail
      rename_i h16
      have h16 := Nat.le_of_ble_eq_true h16
      intro w0 B s s' v ρ w hρ ht H hfr
      obtain ⟨cc, s1, t1, t2, _⟩ := tells_bind (good_mcells _) ht
      split at t2
      · exact (tells_fail t2).elim
      rename_i hop
      have hop : cc.2.1 ≠ 121 := fun h => by rw [h] at hop; cases hop
      obtain ⟨rfl, rfl⟩ := tells_pure t2
      obtain ⟨f1, f2, f3⟩ := tells_cells t1
      obtain ⟨q, hq, q2, q3, q4, c2, el2, fz2, q5, q6, q7, q8⟩ := H.obj b _ f1
      rw [show ρ b = some p from hρ _ _ hp] at hq; cases hq
      have hconv : (convert src dst (.slice (some a') n c')).run P w = .ok (.slice (some a') n c') (w.freeze ⟨p.blk, c2.size, none⟩ 1) := by
        have hshape : w.shape? p.blk = some (el2, c2.size) := by simp [World.shape?, q5]
        simp only [convert, Sem.run_bind, run_underlying hd, Result.andThen, run_underlying h8, hsd, beq_self_eq_true, markStringish, ha', run_shape, hshape, run_freeze, Sem.run_pure]
      refine ⟨_, _, ρ, hconv, ?_, .rfl, (hv.grow hρ)⟩
      have hlt : p.blk < w.heap.size := by
        rcases Nat.lt_or_ge p.blk w.heap.size with h | h
        · exact h
        · rw [Array.getElem?_eq_none h] at q5; cases q5
      -- the mark lies behind the cells
      have hfr1 : (w.freeze ⟨p.blk, c2.size, none⟩ 1) = { w with heap := w.heap.setIfInBounds p.blk (.cells c2 el2 (if fz2.1 == fz2.2 then (c2.size, c2.size + 1) else (min fz2.1 c2.size, max fz2.2 (c2.size + 1)))) } := by
        unfold World.freeze
        rw [if_neg (by omega)]
        simp only [World.mk.injEq, and_true]
        apply Array.ext
        · simp
        · intro i hi1 hi2
          simp only [Array.getElem_modify]
          have hg : w.heap[p.blk] = .cells c2 el2 fz2 := by
            have := q5
            rw [Array.getElem?_eq_getElem hlt] at this
            exact Option.some.inj this
          split
          · rename_i hi
            subst hi
            rw [hg]
            simp
          · rename_i hi
            rw [Array.getElem_setIfInBounds_ne (by simpa using hi2) hi]
      have H1 : HR w0 B ρ (s.f.put b (some (.cells ⟨cc.1⟩ cc.2.1 cc.2.2))) (w.freeze ⟨p.blk, c2.size, none⟩ 1) := by
        have hB : B ≤ p.blk := H.own b _ p f1 h16 (hρ _ _ hp)
        rw [hfr1]
        refine H.set f1 (hρ _ _ hp) (H.below.trans ⟨rfl, rfl, rfl, by simp, fun j hj => ?_⟩) (fun j hj => ?_) ⟨p, hρ _ _ hp, q2, q3, q4, c2, el2, (if fz2.1 == fz2.2 then (c2.size, c2.size + 1) else (min fz2.1 c2.size, max fz2.2 (c2.size + 1))), ?_, q6, ?_, q8⟩
        · simp only [Array.getElem?_setIfInBounds]; rw [if_neg (by omega)]
        · simp only [Array.getElem?_setIfInBounds]; rw [if_neg (fun h => hj h.symm)]
        · simp [hlt]
        · intro _
          refine ⟨?_, fun h _ => absurd h hop⟩
          split
          · exact .inr (Nat.le_refl _)
          · rename_i hne
            rcases (q7 h16).1 with q7 | q7
            · simp [q7] at hne
            · exact .inr (by simp only []; omega)
      refine H1.congr fun id => ?_
      rw [f2]
      unfold Hf.put
      split
      · rename_i hid; rw [← hid, f1]
      · rfl
    · exact .fail
  · exact .fail
end Go.Proofs.YtpijenlmfmknnaaGreatDoor

/- Conversions put together; cap, clear, copy, min, max; slices. No program. -/
namespace Go.Proofs.YtpijenlmfmknnaaGreatDoor
open Go.RowKit
set_option linter.unusedVariables false
variable {P : Program} {ρ0 : Rn}

theorem shape_of {w : World} {b : Nat} {c : Array Value} {t : TypeId} {fz : Nat × Nat} (h : w.heap[b]? = some (.cells c t fz)) : w.shape? b = some (t, c.size) := by simp [World.shape?, h]
theorem snd_convPtr {src dst : TypeId} {b off : Nat} {v' : Value} (hv : VL ρ0 (.pointer (some ⟨b, off, none⟩)) v') : Sim P ρ0 (convPtr P src dst b off) (convert src dst v') fun ρ a v => VL ρ a v := by
  obtain ⟨_, p, hp, e1⟩ := VL.ptr.1 hv
  subst e1
  unfold convPtr
  split
  · rename_i t hs hd
    split
    · rename_i k hz
      intro w0 B s s' v ρ w hρ ht H hfr
      obtain ⟨cc, s1, t1, t2, _⟩ := tells_bind (good_mcells _) ht
      obtain ⟨f1, f2, f3⟩ := tells_cells t1
      split at t2
      · rename_i hlt
        obtain ⟨rfl, rfl⟩ := tells_pure t2
        have hlt := blt_lt hlt
        obtain ⟨q, hq, q2, q3, q4, c2, el2, fz2, q5, q6, q7, q8⟩ := H.obj b _ f1
        rw [show ρ b = some p from hρ _ _ hp] at hq; cases hq
        have hsz : p.sz = cc.1.length := q2
        refine ⟨_, w, ρ, ?_, H.congr fun id => by rw [f2], .rfl, hv.grow hρ⟩
        have hno : ¬ (p.off + off ≥ c2.size) := by omega
        simp only [convert, Sem.run_bind, run_underlying hs, run_underlying hd, Result.andThen, Conv.unsafePointer, Conv.seenAt, viewAt, run_shape, shape_of q5, Option.isSome_some, if_true, Sem.run_pure, cellsIn, szOf_run hz]
        simp [hno]
      · exact (tells_fail t2).elim
    · exact .fail
  · exact .fail
theorem snd_convert {e : En} {m : Operand → Value} (he : EnvR ρ0 e m) (src dst : TypeId) (x : Operand) : Sim P ρ0 (opConvert P src dst x e) (convert src dst (m x)) fun ρ a v => VL ρ a v := by
  unfold opConvert
  split
  · rename_i b hx
    rw [VL.string.1 (he x _ hx)]
    exact snd_convStr src dst b
  · rename_i a n c hx
    exact snd_convSl (he x _ hx)
  · rename_i b off hx
    exact snd_convPtr (he x _ hx)
  · rename_i v _ _ _ hx
    split
    · rename_i hp
      rw [plain_eq he hx hp]
      exact snd_prun
    · exact .fail
  · exact .fail

/-! A slice's place: what stands there, or nothing. -/
theorem slice_place {ρ : Rn} {b off n c : Nat} {v' : Value} (h : VL ρ (sliceV b off n c) v') : n ≤ c ∧ ∃ p a' c', ρ b = some p ∧ v' = .slice (some a') n c' ∧ c' = c + (if off + c * p.es = p.sz then p.sl else 0) ∧ (c' ≠ 0 → a' = ⟨p.blk, p.off + off, none⟩) ∧ c' ≤ 9223372036854775807 := by
  obtain ⟨_, hlc, p, hp, a', c', e1, e2, e3, e4⟩ := VL.slice.1 h
  exact ⟨hlc, p, a', c', hp, e1, e2, e3, e4⟩
/-- Where the reckoner sees an end, there is no more room. -/
theorem slack_none {fl es sl sz off c len : Nat} (h3 : fl = 0 → sl = 0) (h4 : fl ≠ 0 → es = fl) (hz : sz = len) (hc : (Nat.beq fl 0 || !(Nat.beq (off + c * fl) len)) = true) :
    (if off + c * es = sz then sl else 0) = 0 := by
  by_cases h : fl = 0
  · rw [h3 h]; simp
  · rw [if_neg]
    intro he
    rw [h4 h, hz] at he
    rw [he, Nat.beq_refl, Bool.not_true, Bool.or_false] at hc
    exact h (Nat.eq_of_beq_eq_true hc)
theorem snd_cap {t : TypeId} {x x' : Value} (hx : VL ρ0 x x') (ts : Array TypeId) (ty : TypeId) (args : Array Value) (h0 : ts[0]? = some t) (h1 : args[0]? = some x') :
    Sim P ρ0 (biCap P t x) (Builtin.cap_ ts ty args) fun ρ a v => VL ρ a v := by
  unfold biCap
  split
  · rename_i el l c hu
    obtain ⟨rfl, rfl, e⟩ := VL.nils.1 hx
    subst e
    refine Sim.of (v := goInt 0) (fun w => ?_) fun ρ hρ => VL.int.2 rfl
    simp only [Builtin.cap_, h0, h1, Sem.run_bind, run_underlying hu, Result.andThen, Sem.run_pure]
    rfl
  · rename_i el b off l c hu
    obtain ⟨hlc, p, a', c', hp, rfl, e2, e3, _⟩ := slice_place hx
    intro w0 B s s' v ρ w hρ ht H hfr
    obtain ⟨d, s1, t1, t2, _⟩ := tells_bind (good_mcells _) ht
    obtain ⟨f1, f2, f3⟩ := tells_cells t1
    obtain ⟨q, hq, q2, q3, q4, c2, el2, fz2, q5, q6, q7, q8⟩ := H.obj b _ f1
    rw [show ρ b = some p from hρ _ _ hp] at hq; cases hq
    have hsz : p.sz = d.1.length := q2
    have hrun : (Builtin.cap_ ts ty args).run P w = .ok (goInt c') w := by
      simp only [Builtin.cap_, h0, h1, Sem.run_bind, run_underlying hu, Result.andThen, Sem.run_pure]
    split at t2
    · rename_i hc
      obtain ⟨rfl, rfl⟩ := tells_pure t2
      refine ⟨_, w, ρ, hrun, H.congr fun id => by rw [f2], .rfl, VL.int.2 ?_⟩
      have : c' = c := by rw [e2, slack_none q3 q4 hsz hc]; rfl
      rw [this]; rfl
    · obtain ⟨rfl, rfl⟩ := tells_pure t2
      exact ⟨_, w, ρ, hrun, H.congr fun id => by rw [f2], .rfl, .junk⟩
  · exact .fail
theorem snd_plains {vs : List Value} {l : List Value} (h : LR (VL ρ0) vs l) (hp : vs.all plainV = true) : l = vs := by
  induction vs generalizing l with
  | nil => exact h
  | cons v vs ih =>
    obtain ⟨v', t, e, hv, ht⟩ := h
    rw [List.all_cons, Bool.and_eq_true] at hp
    rw [e, (plainV_iff hp.1).1 hv, ih ht hp.2]
theorem slice_ptr {ρ : Rn} {a : Addr} {n c : Nat} {v' : Value} (h : VL ρ (.slice (some a) n c) v') (hn : n ≠ 0) : ∃ a' c', v' = .slice (some a') n c' ∧ VL ρ (.pointer (some a)) (.pointer (some a')) := by
  obtain ⟨hsp, hlc, p, hp, a', c', e1, e2, e3, _⟩ := VL.slice.1 h
  exact ⟨a', c', e1, VL.ptr.2 ⟨hsp, p, hp, by rw [e3 (by omega)]⟩⟩
/-- The first elements of a slice or a text. -/
theorem sim_first {z n : Nat} {x x' : Value} (hx : VL ρ0 x x') (hlen : ∀ m, lenK x = some m → n ≤ m) :
    Sim P ρ0 (firstK z n x) (Builtin.firstCells z n x') fun ρ l arr => ∃ l', arr = ⟨l'⟩ ∧ LR (VL ρ) l l' ∧ (z ≠ 0 → (∀ b, x ≠ .string b) → l.length = n * z) := by
  unfold firstK
  split
  · rename_i a k c
    split
    · rename_i hn
      have hn := Nat.eq_of_beq_eq_true hn
      subst hn
      obtain ⟨_, _, p, _, a', c', e1, _⟩ := VL.slice.1 hx
      subst e1
      refine Sim.of (v := (#[] : Array Value)) (fun w => ?_) fun ρ _ => ⟨[], rfl, rfl, fun _ _ => by simp⟩
      simp [Builtin.firstCells, loadCells, loadCellsFrom]
    · rename_i hn
      have hn : n ≠ 0 := fun h => by subst h; cases hn
      have hk := hlen k rfl
      obtain ⟨a', c', rfl, hp⟩ := slice_ptr hx (by omega)
      refine (sim_load hp).mono fun ρ vs arr _ h => ?_
      obtain ⟨l', e, hl, hlen⟩ := h
      exact ⟨l', e, hl, fun _ _ => hlen⟩
  · rename_i k c
    split
    · rename_i hn
      have hn := Nat.eq_of_beq_eq_true hn
      subst hn
      obtain ⟨_, _, e1⟩ := VL.nils.1 hx
      subst e1
      exact Sim.of (v := (#[] : Array Value)) (fun w => rfl) fun ρ _ => ⟨[], rfl, rfl, fun _ _ => by simp⟩
    · exact .fail
  · rename_i b
    have e := VL.string.1 hx
    subst e
    rw [forceL_eq]
    have hk : n ≤ b.size := hlen b.size rfl
    refine Sim.of (v := (⟨(b.data.toList.take n).map fun x => Value.int .u8 x.toNat⟩ : Array Value)) (fun w => ?_) fun ρ _ => ⟨_, rfl, vl_bytes _, fun _ hns => absurd rfl (hns b)⟩
    simp only [Builtin.firstCells, Sem.run_pure]
    congr 1
    apply Array.ext'
    simp only [Array.toList_map]
    congr 1
    rw [ByteArray.data_extract]
    simp
  · exact .fail
theorem lenK_run {x x' : Value} {n : Nat} (hx : VL ρ0 x x') (h : lenK x = some n) (w : World) : (Builtin.lenOf x').run P w = .ok n w := by
  unfold lenK at h
  split at h
  · rename_i a k c
    cases h
    cases a with
    | none => obtain ⟨rfl, _, e⟩ := VL.nils.1 hx; subst e; rfl
    | some a => obtain ⟨_, _, p, _, a', c', e, _⟩ := VL.slice.1 hx; subst e; rfl
  · cases h
    have e := VL.string.1 hx
    subst e; rfl
  · cases h
theorem zeroCells_eq (z : Array Value) (n : Nat) : Builtin.zeroCells z n = ⟨reps z.toList n⟩ := range_reps z n
theorem snd_clear {t : TypeId} {x x' : Value} (hx : VL ρ0 x x') (ts : Array TypeId) (ty : TypeId) (args : Array Value) (h0 : ts[0]? = some t) (h1 : args[0]? = some x') :
    Sim P ρ0 (biClear P t x) (Builtin.clear_ ts ty args) fun ρ a v => VL ρ a v := by
  have hun : ∀ ρ : Rn, VL ρ unV (.tuple #[]) := fun ρ => VL.tuple.2 ⟨[], rfl, rfl⟩
  unfold biClear
  split
  · rename_i el a n c hu
    split
    · rename_i hn
      have hn := Nat.eq_of_beq_eq_true hn
      subst hn
      obtain ⟨_, _, p, _, a', c', e1, _⟩ := VL.slice.1 hx
      subst e1
      refine Sim.of (v := .tuple #[]) (fun w => ?_) fun ρ _ => hun ρ
      simp [Builtin.clear_, h0, h1, run_underlying hu]
    · rename_i hn
      have hn : n ≠ 0 := fun h => by subst h; cases hn
      obtain ⟨a', c', rfl, hp⟩ := slice_ptr hx hn
      split
      · rename_i z hz
        rw [forceL_eq]
        obtain ⟨zv, hzp, rfl, hzr⟩ := zeroOf_run hz
        intro w0 B s s' v ρ w hρ ht H hfr
        obtain ⟨u, s1, t1, t2, _⟩ := tells_bind (good_mstore _ _) ht
        obtain ⟨rfl, rfl⟩ := tells_pure t2
        obtain ⟨u', w', ρ', hr, H', hE, _⟩ := sim_store (P := P) hp (reps_rel (plain_cells hzp) n) w0 B s s' u ρ w hρ t1 H hfr
        refine ⟨.tuple #[], w', ρ', ?_, H', hE, hun ρ'⟩
        cases n with
        | zero => exact (hn rfl).elim
        | succ n =>
          simp only [Builtin.clear_, h0, h1, Sem.run_bind, run_underlying hu, Result.andThen, hzr, zeroCells_eq]
          rw [hr]
          rfl
      · exact .fail
  · exact .fail
theorem snd_copy {t : TypeId} {x x' y y' : Value} (hx : VL ρ0 x x') (hy : VL ρ0 y y') (ts : Array TypeId) (ty : TypeId) (args : Array Value) (h0 : ts[0]? = some t) (h1 : args[0]? = some x') (h2 : args[1]? = some y') :
    Sim P ρ0 (biCopy P t x y) (Builtin.copy_ ts ty args) fun ρ a v => VL ρ a v := by
  unfold biCopy
  split
  · rename_i z a n c m hz' hm
    cases hel : elemOfS P t with
    | none => rw [hel] at hz'; cases hz'
    | some el =>
      rw [hel] at hz'
      have hz : szOf P el = some z := hz'
      rw [forceN_eq]
      obtain ⟨_, _, p, _, a0, c0, e1, _⟩ := VL.slice.1 hx
      subst e1
      intro w0 B s s' v ρ w hρ ht H hfr
      obtain ⟨vs, s1, t1, t2, hn1⟩ := tells_bind (good_firstK _ _ _) ht
      have hn2 : s1.n ≤ s'.n := t2.le (by split; exact good_pure _; exact good_bind (good_mstore _ _) fun _ => good_pure _)
      obtain ⟨arr, w1, ρ1, hr1, H1, hE1, l', rfl, hl, _⟩ := sim_first (P := P) (z := z) (n := Nat.min m n) hy (fun k hk => by rw [hm] at hk; cases hk; exact Nat.min_le_left _ _) w0 B s s1 vs ρ w hρ t1 H (hfr.left hn2)
      split at t2
      · rename_i hk
        have hk := Nat.eq_of_beq_eq_true hk
        obtain ⟨rfl, rfl⟩ := tells_pure t2
        -- nothing is copied
        have hl0 : l' = [] := by
          have hvs : vs = [] := by
            rw [hk] at t1
            unfold firstK at t1
            split at t1
            · exact (tells_pure t1).1
            · exact (tells_pure t1).1
            · rw [forceL_eq] at t1
              have := (tells_pure t1).1
              simpa using this
            · exact (tells_fail t1).elim
          subst hvs
          exact hl
        subst hl0
        rw [hk] at hr1
        refine ⟨goInt 0, w1, ρ1, ?_, H1, hE1, VL.int.2 rfl⟩
        simp only [Builtin.copy_, h0, h1, h2, Sem.run_bind, run_underlying (elem_run hel), Result.andThen, lenK_run hy hm, szOf_run hz, hk, hr1, storeCells, Sem.run_pure]
        try rfl
      · rename_i hk
        have hk : Nat.min m n ≠ 0 := fun h => by rw [h] at hk; cases hk
        obtain ⟨u, s2, t3, t4, _⟩ := tells_bind (good_mstore _ _) t2
        obtain ⟨rfl, rfl⟩ := tells_pure t4
        have hn0 : n ≠ 0 := fun h => by subst h; exact hk (Nat.min_zero m)
        obtain ⟨a', c', e5, hp⟩ := slice_ptr (hx.grow (hρ.trans hE1.le)) hn0
        cases e5
        obtain ⟨u', w', ρ', hr, H', hE, _⟩ := sim_store (P := P) hp hl w0 B s1 s' u ρ1 w1 .rfl t3 H1 (hfr.right hn1 hE1)
        refine ⟨goInt (Nat.min m n), w', ρ', ?_, H', hE1.trans hE hn1 hn2, VL.int.2 rfl⟩
        simp only [Builtin.copy_, h0, h1, h2, Sem.run_bind, run_underlying (elem_run hel), Result.andThen, lenK_run hy hm, szOf_run hz, hr1, hr, Sem.run_pure]
  · exact .fail
end Go.Proofs.YtpijenlmfmknnaaGreatDoor

/- Slices of slices and of arrays. No program. -/
namespace Go.Proofs.YtpijenlmfmknnaaGreatDoor
open Go.RowKit
set_option linter.unusedVariables false
variable {P : Program} {ρ0 : Rn}

def OR (ρ : Rn) (x x' : Option Value) : Prop := match x with
  | none => x' = none
  | some v => ∃ v', x' = some v' ∧ VL ρ v v'
theorem bound_run {x x' : Option Value} {d top i : Nat} (hx : OR ρ0 x x') (h : boundK x d top = some i) :
    (x = none ∧ x' = none ∧ i = d) ∨ (∃ v', x.isSome = true ∧ x' = some v' ∧ i ≤ top ∧ ∀ y code w, i ≤ y → (Instr.sliceBound v' y code).run P w = .ok i w) := by
  unfold boundK at h
  split at h
  · cases h
    exact .inl ⟨rfl, hx, rfl⟩
  · rename_i k j
    split at h
    · rename_i hb
      cases h
      obtain ⟨v', e, hv⟩ := hx
      have := VL.int.1 hv
      subst this
      refine .inr ⟨_, rfl, e, Nat.le_of_ble_eq_true hb, fun y code w hy => ?_⟩
      simp only [Instr.sliceBound, asIntOf, Sem.run_bind, Sem.run_pure, Result.andThen, Int.ofNat_eq_natCast]
      rw [if_pos ⟨Int.natCast_nonneg _, by omega⟩]
      rfl
    · cases h
  · cases h
/-- The three bounds, whatever the true capacity. -/
theorem bounds_run {len cap cap' l h m : Nat} {lo hi mx lo' hi' mx' : Option Value} (hlo : OR ρ0 lo lo') (hhi : OR ρ0 hi hi') (hmx : OR ρ0 mx mx') (hb : bounds3 len cap lo hi mx = some (l, h, m)) (hlc : len ≤ cap) (hcc : cap ≤ cap') (isS : Bool) (w : World) :
    (Instr.sliceBounds isS len cap' lo' hi' mx').run P w = .ok (l, h, if mx.isNone then cap' else m) w ∧ l ≤ h ∧ h ≤ m ∧ m ≤ cap ∧ (mx.isNone = true → m = cap) := by
  unfold bounds3 at hb
  split at hb
  · rename_i m0 hm0
    split at hb
    · rename_i h0 hh0
      split at hb
      · rename_i l0 hl0
        split at hb
        · rename_i hcond
          cases hb
          have b1 := bound_run (P := P) hmx hm0
          have b2 := bound_run (P := P) hhi hh0
          have b3 := bound_run (P := P) hlo hl0
          have hle3 : l ≤ h := by
            rcases b3 with ⟨_, _, e⟩ | ⟨_, _, _, e, _⟩ <;> omega
          rcases b1 with ⟨e1, e2, e3⟩ | ⟨vm, e1, e2, e3, e4⟩
          · subst e1 e2 e3
            have hle2 : h ≤ m := by rcases b2 with ⟨_, _, e⟩ | ⟨_, _, _, e, _⟩ <;> omega
            refine ⟨?_, hle3, hle2, Nat.le_refl _, fun _ => rfl⟩
            rcases b2 with ⟨f1, f2, f3⟩ | ⟨vh, f1, f2, f3, f4⟩
            · subst f1 f2 f3
              rcases b3 with ⟨g1, g2, g3⟩ | ⟨vl, g1, g2, g3, g4⟩
              · subst g1 g2 g3
                simp [Instr.sliceBounds]
              · subst g2
                simp [Instr.sliceBounds, g4 h _ w hle3]
            · subst f2
              rcases b3 with ⟨g1, g2, g3⟩ | ⟨vl, g1, g2, g3, g4⟩
              · subst g1 g2 g3
                simp [Instr.sliceBounds, f4 cap' _ w (by omega)]
              · subst g2
                simp [Instr.sliceBounds, f4 cap' _ w (by omega), g4 h _ w hle3]
          · subst e2
            have hmn : mx.isNone = false := by cases mx with | none => cases e1 | some v => rfl
            rcases b2 with ⟨f1, f2, f3⟩ | ⟨vh, f1, f2, f3, f4⟩
            · subst f1
              rw [hmn] at hcond; cases hcond
            · subst f2
              refine ⟨?_, hle3, f3, e3, fun hc => by rw [hmn] at hc; cases hc⟩
              rw [hmn]
              rcases b3 with ⟨g1, g2, g3⟩ | ⟨vl, g1, g2, g3, g4⟩
              · subst g1 g2 g3
                simp [Instr.sliceBounds, e4 cap' _ w (by omega), f4 m _ w f3]
              · subst g2
                simp [Instr.sliceBounds, e4 cap' _ w (by omega), f4 m _ w f3, g4 h _ w hle3]
        · cases hb
      · cases hb
    · cases hb
  · cases hb
theorem OR.grow {ρ ρ' : Rn} (hρ : ρ.le ρ') {x x' : Option Value} (h : OR ρ x x') : OR ρ' x x' := by
  cases x with
  | none => exact h
  | some v => obtain ⟨v', e, hv⟩ := h; exact ⟨v', e, hv.grow hρ⟩
theorem OR.plain {x x' : Option Value} (h : OR ρ0 x x') (hp : x.all plainV = true) : x' = x := by
  cases x with
  | none => exact h
  | some v => obtain ⟨v', e, hv⟩ := h; rw [e, (plainV_iff hp).1 hv]
theorem snd_sliceK {t : TypeId} {x x' : Value} {lo hi mx lo' hi' mx' : Option Value} (hx : VL ρ0 x x') (hlo : OR ρ0 lo lo') (hhi : OR ρ0 hi hi') (hmx : OR ρ0 mx mx') :
    Sim P ρ0 (sliceK P t x lo hi mx) (Instr.sliceAt t x' lo' hi' mx') fun ρ a v => VL ρ a v := by
  have hpl : ∀ y, VL ρ0 y x' → Sim P ρ0 (slicePl P t y lo hi mx) (Instr.sliceAt t x' lo' hi' mx') fun ρ a v => VL ρ a v := by
    intro y hy
    unfold slicePl
    split
    · rename_i hp
      simp only [Bool.and_eq_true] at hp
      rw [(plainV_iff hp.1).1 hy, hlo.plain hp.2.1, hhi.plain hp.2.2.1, hmx.plain hp.2.2.2]
      exact snd_prun
    · exact .fail
  unfold sliceK
  split
  · rename_i n el hu
    split
    · rename_i b off size hz
      obtain ⟨_, p, hp, e1⟩ := VL.ptr.1 hx
      subst e1
      unfold sliceArr
      intro w0 B s s' v ρ w hρ ht H hfr
      obtain ⟨cc, s1, t1, t2, _⟩ := tells_bind (good_mcells _) ht
      obtain ⟨f1, f2, f3⟩ := tells_cells t1
      obtain ⟨q, hq, q2, q3, q4, c2, el2, fz2, q5, q6, q7, q8⟩ := H.obj b _ f1
      rw [show ρ b = some p from hρ _ _ hp] at hq; cases hq
      split at t2
      · rename_i l h m hfl hb
        rw [Bool.and_eq_true] at hfl
        have hnc := Nat.le_of_ble_eq_true hfl.2
        have hfl := hfl.1
        rw [forceN_eq, forceN_eq, forceN_eq] at t2
        obtain ⟨rfl, rfl⟩ := tells_pure t2
        have hsl := q3 (Nat.eq_of_beq_eq_true hfl)
        obtain ⟨hr, h1, h2, h3, h4⟩ := bounds_run (P := P) hlo hhi hmx hb (Nat.le_refl _) (Nat.le_refl _) false w
        have hm : (if mx.isNone then n else m) = m := by
          split
          · rename_i hc; exact (h4 hc).symm
          · rfl
        rw [hm] at hr
        refine ⟨.slice (some (if m = l then ⟨p.blk, p.off + off, none⟩ else (⟨p.blk, p.off + off, none⟩ : Addr).add (l * size))) (h - l) (m - l), w, ρ, ?_, H.congr fun id => by rw [f2], .rfl, ?_⟩
        · simp only [Instr.sliceAt, Sem.run_bind, run_underlying hu, Result.andThen, sureAddr_run, hr, szOf_run hz, Sem.run_pure]
        · refine VL.slice.2 ⟨rfl, by omega, p, hρ _ _ hp, _, _, rfl, by rw [hsl]; simp, fun _ => ?_, by omega⟩
          rw [beq_nat]
          by_cases hml : m = l
          · simp [hml]
          · simp only [hml, if_false, decide_false, Bool.false_eq_true, add_at]
            rw [Nat.add_assoc]
      · exact (tells_fail t2).elim
    · exact .fail
  · rename_i el hu
    split
    · rename_i b off len cap size hz
      obtain ⟨hlc, p, a', c', hp, rfl, e2, e3, e4⟩ := slice_place hx
      unfold sliceSl
      intro w0 B s s' v ρ w hρ ht H hfr
      obtain ⟨cc, s1, t1, t2, _⟩ := tells_bind (good_mcells _) ht
      obtain ⟨f1, f2, f3⟩ := tells_cells t1
      obtain ⟨q, hq, q2, q3, q4, c2, el2, fz2, q5, q6, q7, q8⟩ := H.obj b _ f1
      rw [show ρ b = some p from hρ _ _ hp] at hq; cases hq
      have hsz : p.sz = cc.1.length := q2
      split at t2
      · rename_i l h m hfl hb
        rw [Bool.or_eq_true] at hfl
        have hcc : cap ≤ c' := by rw [e2]; omega
        obtain ⟨hr, h1, h2, h3, h4⟩ := bounds_run (P := P) hlo hhi hmx hb hlc hcc true w
        obtain ⟨m', hm'⟩ : ∃ m', m' = if mx.isNone then c' else m := ⟨_, rfl⟩
        rw [← hm'] at hr
        have hrun : (Instr.sliceAt t (.slice (some a') len c') lo' hi' mx').run P w = .ok (.slice (if m' = l then some a' else some (a'.add (l * size))) (h - l) (m' - l)) w := by
          simp only [Instr.sliceAt, Instr.slice, Sem.run_bind, run_underlying hu, Result.andThen, hr, szOf_run hz, Sem.run_pure, Option.map_some]
        have H' : HR w0 B ρ s1.f w := H.congr fun id => by rw [f2]
        split at t2
        · rename_i hcond
          rw [forceN_eq, forceN_eq, forceN_eq] at t2
          obtain ⟨rfl, rfl⟩ := tells_pure t2
          refine ⟨_, w, ρ, hrun, H', .rfl, ?_⟩
          have hml : m ≤ m' := by
            rw [hm']
            split
            · rename_i hc; have := h4 hc; omega
            · exact Nat.le_refl _
          -- the room behind
          have hroom : m' = m + (if off + l * size + (m - l) * p.es = p.sz then p.sl else 0) := by
            by_cases hz0 : cc.2.2.1 = 0
            · have hs0 := q3 hz0
              rw [hs0] at e2 ⊢
              simp only [ite_self, Nat.add_zero] at e2 ⊢
              rw [hm']
              split
              · rename_i hc; rw [h4 hc]; exact e2
              · rfl
            · have hes : p.es = size := by
                rcases hfl with hfl | hfl
                · exact (hz0 (Nat.eq_of_beq_eq_true hfl)).elim
                · rw [q4 hz0]; exact Nat.eq_of_beq_eq_true hfl
              have hsum : off + l * size + (m - l) * p.es = off + m * p.es := by
                rw [hes, Nat.add_assoc, ← Nat.add_mul, show l + (m - l) = m by omega]
              rw [hsum, hm']
              split
              · rename_i hc
                rw [h4 hc]; exact e2
              · rename_i hc
                rw [Bool.or_eq_true] at hcond
                rcases hcond with hcond | hcond
                · rw [hcond] at hc; exact (hc rfl).elim
                · have hfs : cc.2.2.1 = size := by rw [← q4 hz0, hes]
                  have := slack_none (off := off) (c := m) q3 q4 hsz (by rw [hfs] at hcond ⊢; exact hcond)
                  rw [this]; rfl
          have hpe : ∃ a'', (if m' = l then some a' else some (a'.add (l * size))) = some a'' ∧ (m' ≠ l → a'' = a'.add (l * size)) := by
            by_cases hc : m' = l
            · exact ⟨a', by rw [if_pos hc], fun h => absurd hc h⟩
            · exact ⟨_, by rw [if_neg hc], fun _ => rfl⟩
          obtain ⟨a'', ha1, ha2⟩ := hpe
          rw [ha1]
          have hmc : m' ≤ c' := by rw [hm']; split <;> omega
          refine VL.slice.2 ⟨rfl, by omega, p, hρ _ _ hp, a'', m' - l, rfl, ?_, fun hne => ?_, by omega⟩
          · simp only []
            omega
          · have hc0 : c' ≠ 0 := by
              have : m' ≤ c' := by rw [hm']; split <;> omega
              omega
            rw [ha2 (by omega), e3 hc0, add_at, Nat.add_assoc]
        · obtain ⟨rfl, rfl⟩ := tells_pure t2
          exact ⟨_, w, ρ, hrun, H', .rfl, .junk⟩
      · exact (tells_fail t2).elim
    · rename_i l c n hz
      exact hpl _ hx
    · exact .fail
  · exact hpl _ hx
  · exact .fail
theorem snd_slice {e : En} {m : Operand → Value} (he : EnvR ρ0 e m) (t : TypeId) (x : Operand) (lo hi mx : Option Operand) :
    Sim P ρ0 (opSlice P t x lo hi mx e) (Instr.sliceAt t (m x) (lo.map m) (hi.map m) (mx.map m)) fun ρ a v => VL ρ a v := by
  have opt : ∀ {γ δ : Type} (y : Option Operand) (G : Option Value → M γ) (c : Sem δ) (R : Rn → γ → δ → Prop), (∀ v, OR ρ0 v (y.map m) → Sim P ρ0 (G v) c R) → Sim P ρ0 (mbind (mopt e y) G) c R := by
    intro γ δ y G c R h w0 B s s' a ρ w hρ ht H hfr
    obtain ⟨v, s1, t1, t2, _⟩ := tells_bind (good_mopt _ _) ht
    unfold mopt at t1
    split at t1
    · obtain ⟨rfl, rfl⟩ := tells_pure t1
      exact h none rfl w0 B _ s' a ρ w hρ t2 H hfr
    · split at t1
      · rename_i v' hv
        obtain ⟨rfl, rfl⟩ := tells_pure t1
        exact h (some v') ⟨_, rfl, he _ _ hv⟩ w0 B _ s' a ρ w hρ t2 H hfr
      · exact (tells_fail t1).elim
  unfold opSlice
  refine Sim.aev1 fun v hv => opt _ _ _ _ fun lo' hlo => opt _ _ _ _ fun hi' hhi => opt _ _ _ _ fun mx' hmx => ?_
  exact snd_sliceK (he x v hv) hlo hhi hmx
end Go.Proofs.YtpijenlmfmknnaaGreatDoor

/- append. No program. -/
namespace Go.Proofs.YtpijenlmfmknnaaGreatDoor
open Go.RowKit
set_option linter.unusedVariables false
variable {P : Program} {ρ0 : Rn}

structure ApT (P : Program) (t el : TypeId) (z : Nat) (zv : Value) (ti : TypeInfo) : Prop where
  u : P.underlying t = some (.slice el)
  i : P.info? el = some ti
  s : szOf P el = some z
  b : ti.bytes ≤ 4096
  z0 : z ≠ 0
  p : plainV zv = true
  l : zv.cells.size = z
  r : ∀ w, (zeroValue el).run P w = .ok zv w
theorem appT_run {t el : TypeId} {z : Nat} {zero : List Value} (h : appT P t = some (el, z, zero)) : ∃ zv ti, ApT P t el z zv ti ∧ zero = zv.cells.toList := by
  unfold appT at h
  split at h
  · cases h
  · rename_i el' hel
    split at h
    · rename_i size bytes zr hs hb hz
      split at h
      · rename_i hc
        cases h
        rw [Bool.and_eq_true] at hc
        obtain ⟨zv, hp, rfl, hr⟩ := zeroOf_run hz
        cases hi : P.info? el with
        | none => rw [hi] at hb; cases hb
        | some ti =>
          rw [hi] at hb
          cases hb
          refine ⟨zv, ti, ⟨elem_run hel, hi, hs, Nat.le_of_ble_eq_true hc.1, by omega, hp, ?_, hr⟩, rfl⟩
          have := Nat.eq_of_beq_eq_true hc.2
          rw [Array.length_toList] at this
          exact this
      · cases h
    · cases h
theorem info_run {t : TypeId} {ti : TypeInfo} (h : P.info? t = some ti) (w : World) : (typeInfo t).run P w = .ok ti w := by simp [typeInfo, h]

/-- What is appended. -/
def newOf (el : TypeId) (z n : Nat) (zeros : Bool) (y : Value) : Sem (Array Value) :=
  if !zeros then Builtin.firstCells z n y else if n * z = 0 then Pure.pure #[] else do Pure.pure (Builtin.zeroCells (← zeroValue el).cells n)
/-- How many. -/
def NumOk (P : Program) (zeros : Bool) (y : Value) (n : Nat) : Prop := if zeros then (∃ k, y = .int k (Int.ofNat n)) ∧ n ≤ 4096 else ∀ w, (Builtin.lenOf y).run P w = .ok n w
theorem zeros_of {x : Option TypeId} {zeros : Bool} (h : intT P x = some zeros) : (x = none ∧ zeros = false) ∨ ∃ t d, x = some t ∧ P.underlying t = some d ∧ ((zeros = true ∧ ∃ k, d = .int k) ∨ (zeros = false ∧ ∀ k, d ≠ .int k)) := by
  unfold intT at h
  split at h
  · rename_i t
    split at h
    · rename_i k hu
      cases h
      exact .inr ⟨t, _, rfl, hu, .inl ⟨rfl, k, rfl⟩⟩
    · rename_i d hni hu
      cases h
      exact .inr ⟨t, d, rfl, hu, .inr ⟨rfl, fun k e => hni k e⟩⟩
    · cases h
  · cases h; exact .inl ⟨rfl, rfl⟩
theorem next_small {need cap : Nat} (h1 : cap < need) (h2 : need ≤ 8192) : Builtin.nextslicecap need cap ≤ 100000 := by
  unfold Builtin.nextslicecap
  split
  · omega
  · split
    · omega
    · simp only [Builtin.growBy]
      repeat' split
      all_goals omega
/-- Behind the looks at the types: there is room, or there is none. -/
def appS (el : TypeId) (ti : TypeInfo) (z n : Nat) (zeros : Bool) (base : Option Addr) (len cap : Nat) (y : Value) : Sem Value :=
  if len + n ≤ cap then do
    let new ← newOf el z n zeros y
    match base with
    | some a => do storeCells (a.add (len * z)) new.toList; Pure.pure (.slice base (len + n) cap)
    | none => Pure.pure (.slice base (len + n) cap)
  else do
    let newCap ← choose (.appendCap (len + n) cap el)
    askRoom (newCap * ti.bytes)
    let old ← Builtin.firstCells z len (.slice base len cap)
    let new ← newOf el z n zeros y
    let zr ← zeroValue el
    let a ← newRow el (old ++ new ++ Builtin.zeroCells zr.cells (newCap - (len + n)))
    Pure.pure (.slice (some a) (len + n) newCap)
theorem app_run {t el : TypeId} {z n len cap : Nat} {zv : Value} {ti : TypeInfo} {ts : Array TypeId} {ty : TypeId} {args : Array Value} {base : Option Addr} {y : Value} {zeros : Bool} (A : ApT P t el z zv ti) (h0 : ts[0]? = some t)
    (ha : args[0]? = some (.slice base len cap)) (hy : args[1]? = some y) (hz : intT P ts[1]? = some zeros) (hn : NumOk P zeros y n) (hs : len + n ≤ cap ∨ len + n ≤ 8192) (w : World) :
    (Builtin.append_ ts ty args).run P w = (appS el ti z n zeros base len cap y).run P w := by
  have hbig : ∀ c, c ≤ 100000 → ¬ (c * ti.bytes > 2 ^ 48) := fun c hc => by
    have := Nat.mul_le_mul hc A.b
    omega
  have hmax : ¬ (((len + n : Nat) : Int) > IntKind.i64.max ∧ (zeros = true ∨ ti.bytes = 0)) ∨ len + n ≤ cap := by
    rcases hs with hs | hs
    · exact .inr hs
    · left
      rintro ⟨h, _⟩
      have : IntKind.i64.max = 9223372036854775807 := rfl
      rw [this] at h
      omega
  rcases zeros_of hz with ⟨h1, rfl⟩ | ⟨xt, d, h1, hd, ⟨rfl, k, rfl⟩ | ⟨rfl, hni⟩⟩
  · have hn' : ∀ w, (Builtin.lenOf y).run P w = .ok n w := hn
    simp only [Builtin.append_, h0, h1, ha, hy, Sem.run_bind, run_underlying A.u, Result.andThen, szOf_run A.s, Sem.run_pure, Bool.false_eq_true, if_false, hn', Sem.run_ite, appS, newOf, Bool.not_false, if_true]
    by_cases hc : len + n ≤ cap
    · rw [if_pos hc, if_pos hc]
      cases base <;> simp only [Sem.run_bind, Result.andThen]
    · rw [if_neg hc, if_neg hc]
      have hsm := next_small (need := len + n) (cap := cap) (by omega) (hs.resolve_left hc)
      simp only [info_run A.i]
      rw [if_neg (by simpa using hmax.resolve_right hc), if_neg (hbig _ hsm)]
  · obtain ⟨⟨k, rfl⟩, hle⟩ := (hn : (∃ k, y = .int k (Int.ofNat n)) ∧ n ≤ 4096)
    have hw := wrap_le hle
    have hb : n * ti.bytes ≤ 4096 * 4096 := Nat.mul_le_mul hle A.b
    have hcast : (n : Int) * (ti.bytes : Int) = ((n * ti.bytes : Nat) : Int) := by simp
    simp only [Builtin.append_, h0, h1, ha, hy, Sem.run_bind, run_underlying A.u, run_underlying hd, Result.andThen, szOf_run A.s, Sem.run_pure, if_true, asInt, asIntOf, Int.ofNat_eq_natCast, hw, Sem.run_ite, info_run A.i, hcast, appS, newOf, Bool.not_true, Bool.false_eq_true, if_false, Int.toNat_natCast]
    rw [if_neg (by omega), if_neg (by omega)]
    by_cases hc : len + n ≤ cap
    · rw [if_pos hc, if_pos hc]
      cases base <;> simp only [Sem.run_bind, Result.andThen]
    · rw [if_neg hc, if_neg hc]
      have hsm := next_small (need := len + n) (cap := cap) (by omega) (hs.resolve_left hc)
      rw [if_neg (by simpa using hmax.resolve_right hc), if_neg (hbig _ hsm)]
  · have hn' : ∀ w, (Builtin.lenOf y).run P w = .ok n w := hn
    cases d with
    | int k => exact (hni k rfl).elim
    | _ =>
      simp only [Builtin.append_, h0, h1, ha, hy, Sem.run_bind, run_underlying A.u, Result.andThen, szOf_run A.s, Sem.run_pure, Bool.false_eq_true, if_false, hn', Sem.run_ite, appS, newOf, Bool.not_false, if_true, run_underlying hd]
      by_cases hc : len + n ≤ cap
      · rw [if_pos hc, if_pos hc]
        cases base <;> simp only [Sem.run_bind, Result.andThen]
      · rw [if_neg hc, if_neg hc]
        have hsm := next_small (need := len + n) (cap := cap) (by omega) (hs.resolve_left hc)
        simp only [info_run A.i]
        rw [if_neg (by simpa using hmax.resolve_right hc), if_neg (hbig _ hsm)]
end Go.Proofs.YtpijenlmfmknnaaGreatDoor

/- append, whatever capacity it draws: in place or in a new row. No program. -/
namespace Go.Proofs.YtpijenlmfmknnaaGreatDoor
open Go.RowKit
set_option linter.unusedVariables false
variable {P : Program} {ρ0 : Rn}

/-- What is appended can be read in every world that the store stands for. -/
def NewOk (P : Program) (w0 : World) (B : Nat) (ρ1 : Rn) (h : Hf) (c : Sem (Array Value)) (new : List Value) : Prop :=
  ∀ w, HR w0 B ρ1 h w → ∃ l', c.run P w = .ok ⟨l'⟩ w ∧ LR (VL ρ1) new l'
theorem old_run {w0 w : World} {B : Nat} {ρ : Rn} {h : Hf} {b off len z c' : Nat} {a' : Addr} {l : List Value} {t : TypeId} {fl : Nat × Nat} {p : Pl} (H : HR w0 B ρ h w) (hp : ρ b = some p) (e1 : h b = some (.cells ⟨l⟩ t fl)) (e2 : off + len * z ≤ l.length)
    (hlc : len ≤ c') (ha : c' ≠ 0 → a' = ⟨p.blk, p.off + off, none⟩) : ∃ l', (Builtin.firstCells z len (.slice (some a') len c')).run P w = .ok ⟨l'⟩ w ∧ LR (VL ρ) ((l.drop off).take (len * z)) l' := by
  by_cases h0 : len = 0
  · subst h0
    refine ⟨[], by simp [Builtin.firstCells, loadCells, loadCellsFrom], ?_⟩
    rw [Nat.zero_mul]
    rfl
  · obtain ⟨l', h1, h2, _⟩ := rd_load (P := P) H hp e1 e2
    refine ⟨l', ?_, h2⟩
    rw [ha (by omega)]
    exact h1
/-- A new row, as 'append' makes it. -/
theorem app_grown {w0 w : World} {B : Nat} {ρ : Rn} {h : Hf} {n len cap z k : Nat} {el : TypeId} {ti : TypeInfo} {zv : Value} {t : TypeId} {zeros : Bool} {base : Option Addr} {y : Value} {old old' new : List Value} (A : ApT P t el z zv ti)
    (H : HR w0 B ρ h w) (hk : ρ k = none) (h16 : 16 ≤ k) (hold : (Builtin.firstCells z len (.slice base len cap)).run P { w with drawn := w.drawn + 1 } = .ok ⟨old'⟩ { w with drawn := w.drawn + 1 })
    (hor : LR (VL ρ) old old') (hnew : NewOk P w0 B ρ h (newOf el z n zeros y) new) (hlen : old.length + new.length = (len + n) * z) (hc : ¬ len + n ≤ cap) (hsm : len + n ≤ 8192) :
    ∃ v' w' ρ', (appS el ti z n zeros base len cap y).run P w = .ok v' w' ∧ HR w0 B ρ' (h.put k (some (.cells ⟨old ++ new⟩ el (z, 1)))) w' ∧ Ext ρ ρ' k (k + 1) ∧ VL ρ' (sliceV k 0 (len + n) (len + n)) v' := by
  obtain ⟨l', hl1, hl2⟩ := hnew _ (H.drew (w.drawn + 1))
  obtain ⟨nc, hnc⟩ : ∃ nc, nc = (Question.appendCap (len + n) cap el).cut (w.tape w.drawn (.appendCap (len + n) cap el)) := ⟨_, rfl⟩
  have hle : len + n ≤ nc := by rw [hnc]; simp only [Question.cut]; omega
  have hncm : nc ≤ 9223372036854775807 := by
    rw [hnc]
    simp only [Question.cut]
    have := Nat.mod_lt (w.tape w.drawn (.appendCap (len + n) cap el)) (show 0 < 2 ^ 63 - (len + n) by omega)
    omega
  obtain ⟨rest, hrest⟩ : ∃ rest, rest = reps zv.cells.toList (nc - (len + n)) := ⟨_, rfl⟩
  have hrl : rest.length = (nc - (len + n)) * z := by rw [hrest, reps_len, Array.length_toList, A.l]
  have hrun : (appS el ti z n zeros base len cap y).run P w = .ok (.slice (some ⟨w.heap.size, 0, none⟩) (len + n) nc) { w with heap := w.heap.push (.cells ⟨(old' ++ l') ++ rest⟩ el), drawn := w.drawn + 1 } := by
    have hf : (Question.appendCap (len + n) cap el).forced = false := rfl
    unfold appS
    rw [if_neg hc]
    have harr : (⟨old'⟩ : Array Value) ++ ⟨l'⟩ ++ ⟨rest⟩ = ⟨(old' ++ l') ++ rest⟩ := by apply Array.ext'; simp
    simp only [Sem.run_bind, run_choose, hf, Bool.false_eq_true, if_false, Result.andThen, ← hnc, run_askRoom, hold, hl1, A.r, newRow, run_newObj, Sem.run_pure, zeroCells_eq, ← hrest, harr]
  refine ⟨_, _, ρ.put k ⟨w.heap.size, 0, (old ++ new).length, z, nc - (len + n)⟩, hrun, ?_, .put hk _, ?_⟩
  · refine row_new (t' := el) (rest := rest) (fz := (0, 0)) z (nc - (len + n)) H hk h16 (hor.app hl2) (fun h0 => absurd h0 A.z0) (fun _ => rfl) (by rw [hrl]; exact Nat.le_refl _)
      (below_push H.below (Nat.le_trans H.base H.below.size) _).drew ?_ (fun x hx => ?_) ⟨.inl rfl, fun _ _ => rfl⟩
    · simp
    · simp only []
      rw [Array.getElem?_push, if_neg (by omega)]
  · refine VL.slice.2 ⟨rfl, Nat.le_refl _, _, if_pos rfl, ⟨w.heap.size, 0, none⟩, nc, rfl, ?_, fun _ => rfl, hncm⟩
    simp only [List.length_append, hlen, Nat.zero_add, if_true]
    omega
theorem snd_appAt {t el : TypeId} {z n b off len cap : Nat} {zv : Value} {ti : TypeInfo} {zeros : Bool} {y : Value} {new : List Value} {p : Pl} {a' : Addr} {c' : Nat} (A : ApT P t el z zv ti)
    {w0 w : World} {B : Nat} {s s' : Hp} {v : Value} {ρ : Rn} (ht : Tells (appAt el z b off len cap n new) s v s') (H : HR w0 B ρ s.f w) (hfr : Free ρ s.n s'.n) (hp : ρ b = some p) (hlc : len ≤ cap)
    (e2 : c' = cap + (if off + cap * p.es = p.sz then p.sl else 0)) (e3 : c' ≠ 0 → a' = ⟨p.blk, p.off + off, none⟩) (hcm : c' ≤ 9223372036854775807) (hnl : new.length = n * z)
    (hnew0 : NewOk P w0 B ρ s.f (newOf el z n zeros y) new) :
    ∃ v' w' ρ', (appS el ti z n zeros (some a') len c' y).run P w = .ok v' w' ∧ HR w0 B ρ' s'.f w' ∧ Ext ρ ρ' s.n s'.n ∧ VL ρ' v v' ∧ (len + n ≤ c' ∨ len + n ≤ 8192) := by
  unfold appAt at ht
  rw [forceN_eq] at ht
  have hcc : cap ≤ c' := by rw [e2]; omega
  split at ht
  · rename_i hin
    have hin := Nat.le_of_ble_eq_true hin
    have hin' : len + n ≤ c' := by omega
    have hval : ∀ ρ', ρ.le ρ' → VL ρ' (sliceV b off (len + n) cap) (.slice (some a') (len + n) c') := fun ρ' hρ' => VL.slice.2 ⟨rfl, hin, p, hρ' _ _ hp, a', c', rfl, e2, e3, hcm⟩
    obtain ⟨l', hl1, hl2⟩ := hnew0 w H
    unfold appIn at ht
    split at ht
    · rename_i hn0
      have hn0 := Nat.eq_of_beq_eq_true hn0
      obtain ⟨rfl, rfl⟩ := tells_pure ht
      have hl0 : l' = [] := by
        have := hl2.len
        rw [hnl, hn0, Nat.zero_mul] at this
        exact List.eq_nil_of_length_eq_zero this
      refine ⟨_, w, ρ, ?_, H, .rfl, hval ρ .rfl, .inl hin'⟩
      unfold appS
      rw [if_pos hin']
      simp only [Sem.run_bind, hl1, Result.andThen, hl0, storeCells, Sem.run_pure]
    · rename_i hn0
      have hn0 : n ≠ 0 := fun h => by subst h; cases hn0
      obtain ⟨u, s1, t1, t2, _⟩ := tells_bind (good_mstore _ _) ht
      obtain ⟨rfl, rfl⟩ := tells_pure t2
      have ha := e3 (by omega)
      have hptr : VL ρ (.pointer (some ⟨b, off + len * z, none⟩)) (.pointer (some (a'.add (len * z)))) := VL.ptr.2 ⟨rfl, p, hp, by rw [ha, add_at, Nat.add_assoc]⟩
      obtain ⟨u', w', ρ', hr, H', hE, _⟩ := sim_store (P := P) hptr hl2 w0 B s s' u ρ w .rfl t1 H hfr
      refine ⟨_, w', ρ', ?_, H', hE, hval ρ' hE.le, .inl hin'⟩
      unfold appS
      rw [if_pos hin']
      simp only [Sem.run_bind, hl1, Result.andThen, hr, Sem.run_pure]
  · rename_i hout
    have hout : ¬ len + n ≤ cap := fun h => by rw [Nat.ble_eq_true_of_le h] at hout; cases hout
    unfold appOut at ht
    split at ht
    · exact (tells_fail ht).elim
    · rename_i hsm
      have hsm := Nat.le_of_ble_eq_true hsm
      obtain ⟨cc, s1, t1, t2, hn1⟩ := tells_bind (good_mcells _) ht
      obtain ⟨f1, f2, f3⟩ := tells_cells t1
      obtain ⟨q, hq, q2, q3, q4, c2, el2, fz2, q5, q6, q7, q8⟩ := H.obj b _ f1
      rw [hp] at hq; cases hq
      have hsz : p.sz = cc.1.length := q2
      have H1 : HR w0 B ρ s1.f w := H.congr fun id => by rw [f2]
      -- what a new row tells, over whatever store
      have grown : ∀ (s2 s3 : Hp) (v : Value), Tells (grownK el z off len (len + n) cc.1 new) s2 v s3 → (∀ id o, s2.f id = some o → s.f id = some o) → s2.n = s.n → s3.n = s'.n → ¬ len + n ≤ c' →
          ∃ v' w' ρ', (appS el ti z n zeros (some a') len c' y).run P w = .ok v' w' ∧ HR w0 B ρ' s3.f w' ∧ Ext ρ ρ' s.n s'.n ∧ VL ρ' v v' := by
        intro s2 s3 v hg hsub hn2 hn3 hnc
        unfold grownK at hg
        obtain ⟨old, s4, g1, g2, _⟩ := tells_bind (good_cut _ _ _) hg
        obtain ⟨k1, rfl, e4⟩ := tells_cut g1
        rw [forceL_eq, e4] at g2
        obtain ⟨id, s5, g3, g4, _⟩ := tells_bind (good_mrow _ _ _) g2
        obtain ⟨rfl, e5⟩ := tells_pure g4
        rw [← e5] at g3
        obtain ⟨k2, rfl, h16, k3, k4⟩ := tells_row g3
        obtain ⟨old', ho1, ho2⟩ := old_run (P := P) (H.drew (w.drawn + 1)) hp f1 k1 (Nat.le_trans hlc hcc) e3
        have hkn : ρ s2.n = none := hfr s2.n (by omega) (by omega)
        have hH : HR w0 B ρ s2.f w := H.drop hsub
        -- the new part was read while the row was still there
        obtain ⟨l', hl1, hl2⟩ := hnew0 _ (H.drew (w.drawn + 1))
        have hol : ((cc.1.drop off).take (len * z)).length + new.length = (len + n) * z := by
          rw [List.length_take, List.length_drop, hnl, Nat.add_mul]; omega
        obtain ⟨nc, hnc'⟩ : ∃ nc, nc = (Question.appendCap (len + n) c' el).cut (w.tape w.drawn (.appendCap (len + n) c' el)) := ⟨_, rfl⟩
        have hle : len + n ≤ nc := by rw [hnc']; simp only [Question.cut]; omega
        have hncm : nc ≤ 9223372036854775807 := by
          rw [hnc']
          simp only [Question.cut]
          have := Nat.mod_lt (w.tape w.drawn (.appendCap (len + n) c' el)) (show 0 < 2 ^ 63 - (len + n) by omega)
          omega
        obtain ⟨rest, hrest⟩ : ∃ rest, rest = reps zv.cells.toList (nc - (len + n)) := ⟨_, rfl⟩
        have hrl : rest.length = (nc - (len + n)) * z := by rw [hrest, reps_len, Array.length_toList, A.l]
        have hrun : (appS el ti z n zeros (some a') len c' y).run P w = .ok (.slice (some ⟨w.heap.size, 0, none⟩) (len + n) nc) { w with heap := w.heap.push (.cells ⟨(old' ++ l') ++ rest⟩ el), drawn := w.drawn + 1 } := by
          have hf : (Question.appendCap (len + n) c' el).forced = false := rfl
          unfold appS
          rw [if_neg hnc]
          have harr : (⟨old'⟩ : Array Value) ++ ⟨l'⟩ ++ ⟨rest⟩ = ⟨(old' ++ l') ++ rest⟩ := by apply Array.ext'; simp
          simp only [Sem.run_bind, run_choose, hf, Bool.false_eq_true, if_false, Result.andThen, ← hnc', run_askRoom, ho1, hl1, A.r, newRow, run_newObj, Sem.run_pure, zeroCells_eq, ← hrest, harr]
        refine ⟨_, _, ρ.put s2.n ⟨w.heap.size, 0, ((cc.1.drop off).take (len * z) ++ new).length, z, nc - (len + n)⟩, hrun, ?_, ?_, ?_⟩
        · rw [k3]
          refine row_new (t' := el) (rest := rest) (fz := (0, 0)) z (nc - (len + n)) hH hkn h16 (ho2.app hl2) (fun h0 => absurd h0 A.z0) (fun _ => rfl) (by rw [hrl]; exact Nat.le_refl _)
            (below_push H.below (Nat.le_trans H.base H.below.size) _).drew ?_ (fun x hx => ?_) ⟨.inl rfl, fun _ _ => rfl⟩
          · simp
          · simp only []
            rw [Array.getElem?_push, if_neg (by omega)]
        · have hx : s'.n = s2.n + 1 := by omega
          rw [hx, ← hn2]
          exact .put hkn _
        · refine VL.slice.2 ⟨rfl, Nat.le_refl _, _, if_pos rfl, ⟨w.heap.size, 0, none⟩, nc, rfl, ?_, fun _ => rfl, hncm⟩
          simp only [List.length_append, hol, Nat.zero_add, if_true]
          omega
      split at t2
      · rename_i hc
        have hcc' : c' = cap := by rw [e2, slack_none q3 q4 hsz hc]; rfl
        obtain ⟨v', w', ρ', hr, H', hE, hv⟩ := grown s1 s' v t2 (fun id o e => by rw [f2] at e; exact e) f3 rfl (by omega)
        exact ⟨v', w', ρ', hr, H', hE, hv, .inr (by omega)⟩
      · rename_i hc
        split at t2
        · rename_i hfz
          have hfz := Nat.eq_of_beq_eq_true hfz
          obtain ⟨u, s2, t3, t4, hn2⟩ := tells_bind (good_set _ _) t2
          obtain ⟨h16, g1, g2⟩ := tells_set t3
          have hsub : ∀ id o, s2.f id = some o → s.f id = some o := fun id o e => by
            rw [g1, f2] at e
            unfold Hf.put at e
            split at e
            · cases e
            · exact e
          by_cases hplace : len + n ≤ c'
          · -- in place: the row goes on in the same block
            have hreach : off + cap * z = cc.1.length := by
              rw [hfz, Bool.or_eq_false_iff, Bool.not_eq_false'] at hc
              exact Nat.eq_of_beq_eq_true hc.2
            have hes : p.es = z := by rw [q4 (by rw [hfz]; exact A.z0), hfz]
            have hc2 : c' = cap + p.sl := by rw [e2, hes, hsz, if_pos hreach]
            have ha := e3 (by omega)
            have hB : B ≤ p.blk := H.own b _ p f1 h16 hp
            obtain ⟨l', hl1, hl2⟩ := hnew0 w H
            have hl'n : l'.length = n * z := by rw [hl2.len, hnl]
            have hmul : off + c' * z = cc.1.length + p.sl * z := by rw [hc2, Nat.add_mul]; omega
            have hmul2 : (len + n) * z ≤ c' * z := Nat.mul_le_mul_right z hplace
            rw [hes] at q6
            unfold grownK at t4
            obtain ⟨old, s4, k0, k5, _⟩ := tells_bind (good_cut _ _ _) t4
            obtain ⟨k1, rfl, e4⟩ := tells_cut k0
            rw [forceL_eq, e4] at k5
            obtain ⟨id, s5, k6, k7, _⟩ := tells_bind (good_mrow _ _ _) k5
            obtain ⟨rfl, e5⟩ := tells_pure k7
            rw [← e5] at k6
            obtain ⟨kone, rfl, kn16, kf, kn⟩ := tells_row k6
            rw [List.all_append, Bool.and_eq_true] at kone
            obtain ⟨w', c3, hr, hb', hs', tw, hk⟩ := store_run (P := P) (o := p.off + off + len * z) l' 0 w c2 q5 (by rw [hl'n, Nat.add_mul] at *; omega) (q7 h16).no (ones_of hl2 kone.2)
            have hkn : ρ s2.n = none := hfr s2.n (by omega) (by omega)
            refine ⟨.slice (some a') (len + n) c', w', ρ.put s2.n ⟨p.blk, p.off + off, (len + n) * z, z, c' - (len + n)⟩, ?_, ?_, ?_, ?_, .inl hplace⟩
            · unfold appS
              rw [if_pos hplace]
              simp only [Sem.run_bind, hl1, Result.andThen, ha, add_at]
              rw [show (storeCells ⟨p.blk, p.off + off + len * z, none⟩ l') = storeCells ⟨p.blk, p.off + off + len * z, none⟩ l' 0 from rfl, hr]
              rfl
            · rw [kf]
              refine (H.drop hsub).new hkn kn16 hB (fun id o p' ho hp' => ?_) (H.below.trans ⟨tw.os, tw.tape, tw.output, by rw [tw.size]; exact Nat.le_refl _, fun k hk => tw.other k (by omega)⟩) (fun id o p' ho hp' => ?_) ?_
              · have hid : id ≠ b := fun e => by rw [g1, e] at ho; unfold Hf.put at ho; rw [if_pos rfl] at ho; cases ho
                exact H.sep id b _ _ p' p hid (hsub _ _ ho) f1 hp' hp
              · have hid : id ≠ b := fun e => by rw [g1, e] at ho; unfold Hf.put at ho; rw [if_pos rfl] at ho; cases ho
                exact tw.other _ (H.sep id b _ _ _ _ hid (hsub _ _ ho) f1 hp' hp)
              · have hol : ((cc.1.drop off).take (len * z)).length = len * z := by rw [List.length_take, List.length_drop]; omega
                refine ⟨_, if_pos rfl, ?_, fun h0 => absurd h0 A.z0, fun _ => rfl, c3, el2, fz2, hb', ?_, (fun _ => ⟨by rw [hs']; exact (q7 h16).1, fun _ h0 => absurd h0 A.z0⟩), fun k v hkv => ?_⟩
                · simp only [List.size_toArray, List.length_append, hol, hnl, Nat.add_mul]
                · rw [hs']
                  simp only []
                  have : (len + n) * z + (c' - (len + n)) * z = c' * z := by rw [← Nat.add_mul]; congr 1; omega
                  omega
                · have hkv' : ((cc.1.drop off).take (len * z) ++ new)[k]? = some v := by simpa using hkv
                  rw [hk]
                  by_cases hlt : k < len * z
                  · rw [List.getElem?_append_left (by rw [hol]; exact hlt), List.getElem?_take, if_pos hlt, List.getElem?_drop] at hkv'
                    rw [if_neg (by simp only []; omega)]
                    obtain ⟨v', hv1, hv2⟩ := q8 (off + k) v (by simpa using hkv')
                    exact ⟨v', by rw [← hv1]; congr 1; simp only []; omega, hv2.grow (Rn.put_le hkn _)⟩
                  · rw [List.getElem?_append_right (by rw [hol]; omega), hol] at hkv'
                    obtain ⟨v', hv1, hv2⟩ := hl2.at hkv'
                    have hkl : k - len * z < l'.length := by
                      rcases Nat.lt_or_ge (k - len * z) l'.length with h | h
                      · exact h
                      · rw [List.getElem?_eq_none h] at hv1; cases hv1
                    rw [if_pos (by simp only []; omega)]
                    exact ⟨v', by rw [← hv1]; congr 1; simp only []; omega, hv2.grow (Rn.put_le hkn _)⟩
            · have hx : s'.n = s2.n + 1 := kn
              have hy : s2.n = s.n := by omega
              rw [hx, ← hy]
              exact .put hkn _
            · refine VL.slice.2 ⟨rfl, Nat.le_refl _, _, if_pos rfl, a', c', rfl, ?_, fun _ => by rw [ha]; rfl, hcm⟩
              simp only [Nat.zero_add, if_true]
              omega
          · obtain ⟨v', w', ρ', hr, H', hE, hv⟩ := grown s2 s' v t4 hsub (by omega) rfl hplace
            exact ⟨v', w', ρ', hr, H', hE, hv, .inr (by omega)⟩
        · exact (tells_fail t2).elim
theorem load_still : ∀ (n i : Nat) (a : Addr) (acc arr : Array Value) (w w' : World), (loadCellsFrom a i n acc).run P w = .ok arr w' → w' = w
  | 0, i, a, acc, arr, w, w', h => by simp only [loadCellsFrom, Sem.run_pure, Result.ok.injEq] at h; exact h.2.symm
  | n + 1, i, a, acc, arr, w, w', h => by
    simp only [loadCellsFrom, Sem.run_bind] at h
    have hl : ∀ r, (load (a.add i)).run P w = r → (∃ v, r = .ok v w) ∨ ∃ e, r = .halt e w := by
      intro r hr
      rw [run_load] at hr
      split at hr
      · exact .inl ⟨_, hr.symm⟩
      · split at hr
        · exact .inl ⟨_, hr.symm⟩
        · exact .inr ⟨_, hr.symm⟩
    rcases hl _ rfl with ⟨v, hv⟩ | ⟨e, he⟩
    · rw [hv] at h
      exact load_still n (i + 1) a _ arr w w' h
    · rw [he] at h; cases h
theorem first_still {z n : Nat} {y : Value} {arr : Array Value} {w w' : World} (h : (Builtin.firstCells z n y).run P w = .ok arr w') : w' = w := by
  unfold Builtin.firstCells at h
  split at h
  · exact load_still _ _ _ _ _ _ _ h
  · simp only [Sem.run_pure, Result.ok.injEq] at h; exact h.2.symm
  · simp only [Sem.run_pure, Result.ok.injEq] at h; exact h.2.symm
  · cases h
theorem snd_append {t : TypeId} {x x' y y' : Value} (hx : VL ρ0 x x') (hy : VL ρ0 y y') (ts : Array TypeId) (ty : TypeId) (args : Array Value) (h0 : ts[0]? = some t) (h1 : args[0]? = some x') (h2 : args[1]? = some y') :
    Sim P ρ0 (appendK P t ts[1]? x y) (Builtin.append_ ts ty args) fun ρ a v => VL ρ a v := by
  unfold appendK
  split
  · exact .fail
  · rename_i el z zero hA
    obtain ⟨zv, ti, A, rfl⟩ := appT_run hA
    -- with what is appended at hand
    have core : ∀ (zeros : Bool) (n : Nat) (new : List Value) (w0 : World) (B : Nat) (s s' : Hp) (v : Value) (ρ : Rn) (w : World), ρ0.le ρ → intT P ts[1]? = some zeros → NumOk P zeros y' n →
        Tells (appGo el z x n new) s v s' → HR w0 B ρ s.f w → Free ρ s.n s'.n → NewOk P w0 B ρ s.f (newOf el z n zeros y') new →
        ∃ v' w' ρ', (Builtin.append_ ts ty args).run P w = .ok v' w' ∧ HR w0 B ρ' s'.f w' ∧ Ext ρ ρ' s.n s'.n ∧ VL ρ' v v' := by
      intro zeros n new w0 B s s' v ρ w hρ hz hn ht H hfr hnew
      unfold appGo at ht
      split at ht
      · exact (tells_fail ht).elim
      · rename_i hlen
        have hnl := Nat.eq_of_beq_eq_true hlen
        split at ht
        · obtain ⟨_, _, e1⟩ := VL.nils.1 hx
          subst e1
          unfold appNil at ht
          split at ht
          · rename_i hn0
            have hn0 := Nat.eq_of_beq_eq_true hn0
            obtain ⟨rfl, rfl⟩ := tells_pure ht
            subst hn0
            obtain ⟨l', hl1, hl2⟩ := hnew w H
            refine ⟨.slice none 0 0, w, ρ, ?_, H, .rfl, VL.nils.2 ⟨rfl, rfl, rfl⟩⟩
            rw [app_run A h0 h1 h2 hz hn (.inl (Nat.le_refl _)) w]
            unfold appS
            rw [if_pos (Nat.le_refl _)]
            simp only [Sem.run_bind, hl1, Result.andThen, Sem.run_pure]
          · rename_i hn0
            have hn0 : n ≠ 0 := fun h => by subst h; cases hn0
            split at ht
            · rename_i hsm
              have hsm := Nat.le_of_ble_eq_true hsm
              obtain ⟨id, s1, t1, t2, _⟩ := tells_bind (good_mrow _ _ _) ht
              obtain ⟨rfl, rfl⟩ := tells_pure t2
              obtain ⟨_, rfl, h16, k3, k4⟩ := tells_row t1
              have hkn : ρ s.n = none := hfr s.n (Nat.le_refl _) (by omega)
              obtain ⟨v', w', ρ', hr, H', hE, hv⟩ := app_grown (P := P) (base := none) (len := 0) (cap := 0) (old := []) (old' := []) A H hkn h16 rfl rfl hnew (by simp [hnl]) (by omega) (by omega)
              refine ⟨v', w', ρ', ?_, by rw [k3]; exact H', by rw [k4]; exact hE, by simpa using hv⟩
              rw [app_run A h0 h1 h2 hz hn (.inr (by omega)) w]
              exact hr
            · exact (tells_fail ht).elim
        · rename_i b off len cap
          obtain ⟨hlc, p, a', c', hp, e1, e2, e3, e4⟩ := slice_place (hx.grow hρ)
          subst e1
          obtain ⟨v', w', ρ', hr, H', hE, hv, hsm⟩ := snd_appAt (P := P) A ht H hfr hp hlc e2 e3 e4 hnl hnew
          refine ⟨v', w', ρ', ?_, H', hE, hv⟩
          rw [app_run A h0 h1 h2 hz hn hsm w]
          exact hr
        · exact (tells_fail ht).elim
    split
    · exact .fail
    · rename_i hz
      split
      · rename_i k n
        split
        · rename_i hsm
          have hsm := Nat.le_of_ble_eq_true hsm
          rw [forceL_eq]
          have e1 := VL.int.1 hy
          subst e1
          intro w0 B s s' v ρ w hρ ht H hfr
          refine core true n _ w0 B s s' v ρ w hρ hz ⟨⟨k, rfl⟩, hsm⟩ ht H hfr fun w _ => ⟨reps zv.cells.toList n, ?_, reps_rel (plain_cells A.p) n⟩
          unfold newOf
          simp only [Bool.not_true, Bool.false_eq_true, if_false]
          by_cases hc : n * z = 0
          · rw [if_pos hc]
            have : reps zv.cells.toList n = [] := List.eq_nil_of_length_eq_zero (by rw [reps_len, Array.length_toList, A.l, hc])
            rw [this]; rfl
          · rw [if_neg hc]
            simp only [Sem.run_bind, A.r, Result.andThen, Sem.run_pure, zeroCells_eq]
        · exact .fail
      · exact .fail
    · rename_i hz
      split
      · rename_i n hn
        intro w0 B s s' v ρ w hρ ht H hfr
        obtain ⟨new, s1, t1, t2, hn1⟩ := tells_bind (good_firstK _ _ _) ht
        have hs1 : s1.f = s.f ∧ s1.n = s.n := by
          unfold firstK at t1
          split at t1
          · split at t1
            · obtain ⟨_, rfl⟩ := tells_pure t1; exact ⟨rfl, rfl⟩
            · obtain ⟨b, off, l, t, fl, _, _, _, _, g1, g2⟩ := tells_load t1
              exact ⟨g1, g2⟩
          · split at t1
            · obtain ⟨_, rfl⟩ := tells_pure t1; exact ⟨rfl, rfl⟩
            · exact (tells_fail t1).elim
          · rw [forceL_eq] at t1
            obtain ⟨_, rfl⟩ := tells_pure t1; exact ⟨rfl, rfl⟩
          · exact (tells_fail t1).elim
        have hnew : NewOk P w0 B ρ s1.f (newOf el z n false y') new := by
          intro w1 H1
          rw [hs1.1] at H1
          obtain ⟨arr, w2, ρ2, hr, H2, hE, l', rfl, hl, _⟩ := sim_first (P := P) (z := z) (n := n) hy (fun m hm => by rw [hn] at hm; cases hm; exact Nat.le_refl _) w0 B s s1 new ρ w1 hρ t1 H1 (fun id h1 h2 => by omega)
          -- nothing turns
          have hρ2 : ρ2 = ρ := by funext id; exact hE.out id (by omega)
          subst hρ2
          have hw2 : w2 = w1 := first_still hr
          subst hw2
          refine ⟨l', ?_, hl⟩
          unfold newOf
          simpa using hr
        obtain ⟨v', w', ρ', hr, H', hE, hv⟩ := core false n new w0 B s1 s' v ρ w hρ hz (fun w => lenK_run hy hn w) t2 (by rw [hs1.1]; exact H) (by rw [hs1.2]; exact hfr) hnew
        exact ⟨v', w', ρ', hr, H', by rw [← hs1.2]; exact hE, hv⟩
      · exact .fail
end Go.Proofs.YtpijenlmfmknnaaGreatDoor
