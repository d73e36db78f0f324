/- Own texts joined: EvE, EvF, EvJ, EvM, EvN, EvK, EvU, EvCd, EvCl. -/
import Derived.Test.YtpijenlmfmknnaaGreatDoorKa
import Derived.Test.YtpijenlmfmknnaaGreatDoorKb
import Derived.Test.YtpijenlmfmknnaaGreatDoorKc
import Derived.LoopN
import Derived.Scope
import Derived.Defers

/- An operation of whatever kind, its callee given. No program. -/
namespace Go.Proofs.YtpijenlmfmknnaaGreatDoor
open Go.RowKit
set_option linter.unusedVariables false
variable {P : Program}

/-- What an operation comes to: a value, nothing, or a call that returns one. -/
def Went (P : Program) (r : Result Next) (K : Value → World → Prop) : Prop := match r with
  | .ok (.value v) w => K v w
  | .ok .skip w => K undef w
  | .ok (.enter f args) w => Calls P f args w fun e w' => ∃ v, e = .returned v ∧ K v w'
  | _ => False
/-- Behind a piece: the store stands for memory, the value for the value. -/
def Post (w0 : World) (B : Nat) (ρ : Rn) (s s' : Hp) (v : Value) (v' : Value) (w' : World) : Prop := ∃ ρ', HR w0 B ρ' s'.f w' ∧ Ext ρ ρ' s.n s'.n ∧ VL ρ' v v'
theorem un_rel {ρ : Rn} : VL ρ unV undef := VL.tuple.2 ⟨[], rfl, rfl⟩
theorem went_of {ρ0 : Rn} {F : M Value} {c : Sem Next} (h : Sim P ρ0 F c OpR) {w0 w : World} {B : Nat} {s s' : Hp} {v : Value} (ht : Tells F s v s') (H : HR w0 B ρ0 s.f w) (hfr : Free ρ0 s.n s'.n) : Went P (c.run P w) (Post w0 B ρ0 s s' v) := by
  obtain ⟨nx, w', ρ', hr, H', hE, hR⟩ := h w0 B s s' v ρ0 w .rfl ht H hfr
  rw [hr]
  rcases hR with ⟨v', rfl, hv⟩ | ⟨rfl, rfl⟩
  · exact ⟨ρ', H', hE, hv⟩
  · exact ⟨ρ', H', hE, un_rel⟩
/-- A callee of the reckoner is sound. -/
def CallOk (P : Program) (E : Callee') : Prop := ∀ (f : FuncId) (vs : List Value) (s s' : Hp) (v : Value), E f vs s = some (v, s') →
  ∀ (w0 : World) (B : Nat) (ρ : Rn) (w : World) (vs' : List Value), HR w0 B ρ s.f w → LR (VL ρ) vs vs' → Free ρ s.n s'.n → Went P ((callFunc f ⟨vs'⟩).run P w) (Post w0 B ρ s s' v)
theorem tells_call {C : Hp → Option (Value × Hp)} {s s' : Hp} {v : Value} (h : Tells (mcall C) s v s') : C s = some (v, s') := by
  have e := h.pair
  have e2 : (match C s with | some (v, s) => some (v, s) | none => none) = some (v, s') := e
  cases hc : C s with
  | none => rw [hc] at e2; cases e2
  | some x => rw [hc] at e2; obtain ⟨a, b⟩ := x; cases e2; rfl

section
variable {ρ0 : Rn} {e : En} {m : Operand → Value}
theorem tells_aevs (he : EnvR ρ0 e m) : ∀ (l : List Operand) {s s' : Hp} {vs : List Value}, Tells (aevs e l) s vs s' → s' = s ∧ LR (VL ρ0) vs (l.map m)
  | [], s, s', vs, h => by obtain ⟨rfl, rfl⟩ := tells_pure h; exact ⟨rfl, rfl⟩
  | x :: l, s, s', vs, h => by
    unfold aevs at h
    split at h
    · rename_i v hv
      obtain ⟨ws, s1, h1, h2, _⟩ := tells_bind (good_aevs e l) h
      obtain ⟨rfl, hl⟩ := tells_aevs he l h1
      obtain ⟨rfl, rfl⟩ := tells_pure h2
      exact ⟨rfl, m x, l.map m, rfl, he x v hv, hl⟩
    · exact (tells_fail h).elim
theorem went_callV {E : Callee'} (hE : GoodE E) (hC : CallOk P E) (he : EnvR ρ0 e m) (f : Operand) (args : Array Operand) (ats : Array TypeId) (o : Oper) (ho : o.op = .call { callee := .value f, args, argTypes := ats })
    {w0 w : World} {B : Nat} {s s' : Hp} {v : Value} (ht : Tells (opCallV E f args e) s v s') (H : HR w0 B ρ0 s.f w) (hfr : Free ρ0 s.n s'.n) : Went P ((execOp m o).run P w) (Post w0 B ρ0 s s' v) := by
  unfold opCallV at ht
  obtain ⟨fv, s1, t1, t2, _⟩ := tells_bind (good_maev _) ht
  obtain ⟨hfv, rfl⟩ := tells_aev t1
  obtain ⟨vs, s2, t3, t4, _⟩ := tells_bind (good_aevs _ _) t2
  obtain ⟨rfl, hvs⟩ := tells_aevs he _ t3
  split at t4
  · rename_i g us hg
    unfold calleeK at hg
    split at hg
    · rename_i g' a b
      cases hg
      rw [forceL_eq] at t4
      obtain ⟨_, a', b', e1, ha, hb⟩ := VL.func.1 (he f _ hfv)
      have hcall := hC _ _ _ _ _ (tells_call t4) w0 B ρ0 w (a' ++ (args.toList.map m ++ b')) H (ha.app (hvs.app hb)) hfr
      have hx : (execOp m o).run P w = (callFunc g ⟨a' ++ (args.toList.map m ++ b')⟩).run P w := by
        have harr : (⟨a'⟩ : Array Value) ++ args.map m ++ ⟨b'⟩ = ⟨a' ++ (args.toList.map m ++ b')⟩ := by apply Array.ext'; simp
        simp only [execOp, ho, resolve, Deferred.ofValue, e1, Sem.run_bind, Sem.run_pure, Result.andThen, invoke, harr]
      rw [hx]; exact hcall
    · cases hg
  · exact (tells_fail t4).elim
theorem went_callI {E : Callee'} (hE : GoodE E) (hC : CallOk P E) (he : EnvR ρ0 e m) (r : Operand) (name : String) (args : Array Operand) (ats : Array TypeId) (o : Oper) (ho : o.op = .call { callee := .invoke r name, args, argTypes := ats })
    {w0 w : World} {B : Nat} {s s' : Hp} {v : Value} (ht : Tells (opCallI P E r name args e) s v s') (H : HR w0 B ρ0 s.f w) (hfr : Free ρ0 s.n s'.n) : Went P ((execOp m o).run P w) (Post w0 B ρ0 s s' v) := by
  unfold opCallI at ht
  split at ht
  · rename_i t x hr
    obtain ⟨vs, s2, t3, t4, _⟩ := tells_bind (good_aevs _ _) ht
    obtain ⟨rfl, hvs⟩ := tells_aevs he _ t3
    split at t4
    · rename_i g hg
      obtain ⟨x', e1, hx⟩ := VL.iface.1 (he r _ hr)
      have hcall := hC _ _ _ _ _ (tells_call t4) w0 B ρ0 w (x' :: args.toList.map m) H ⟨x', _, rfl, hx, hvs⟩ hfr
      unfold methodOf at hg
      split at hg
      · rename_i i hi
        split at hg
        · rename_i mt hm
          split at hg
          · cases hg
          · rename_i g' d hnp hpath hfn hu
            cases hg
            have hmeth : (method (P.types.size + Made.depth) t x' name).run P w = .ok (g, x') w := by
              have hpos : 0 < Made.depth := by decide
              have hd : P.types.size + Made.depth = (P.types.size + (Made.depth - 1)) + 1 := by omega
              have hpl : mt.path.toList = [] := by simpa using hpath
              rw [hd]
              simp only [method, Sem.run_bind, info_run hi, Result.andThen, hm, hpl, follow, Sem.run_pure, hpath, hfn, receiverAt, run_underlying hu]
              cases d <;> first
                | rfl
                | exact (hnp _ rfl).elim
            have hrun : (execOp m o).run P w = (callFunc g ⟨x' :: args.toList.map m⟩).run P w := by
              have harr : #[x'] ++ (args.map m) = ⟨x' :: args.toList.map m⟩ := by apply Array.ext'; simp
              have hext : (#[Value.iface t x'] ++ args.map m).extract 1 (#[Value.iface t x'] ++ args.map m).size = args.map m := by
                apply Array.ext'
                simp
                exact List.take_of_length_le (by simp)
              have h0 : (#[Value.iface t x'] ++ args.map m)[0]? = some (.iface t x') := by rw [Array.getElem?_append_left (by simp)]; rfl
              simp only [execOp, ho, resolve, e1, Sem.run_bind, Sem.run_pure, Result.andThen, invoke, h0, hext, callMethod, run_program, hmeth, harr]
            rw [hrun]; exact hcall
          · cases hg
        · cases hg
      · cases hg
    · exact (tells_fail t4).elim
  · exact (tells_fail ht).elim
end
end Go.Proofs.YtpijenlmfmknnaaGreatDoor

/- Operations one behind the other, as the model runs them. No program. -/
namespace Go.Proofs.YtpijenlmfmknnaaGreatDoor
open Go.RowKit
set_option linter.unusedVariables false
variable {P : Program}

def DefR (ρ : Rn) (d d' : Deferred) : Prop := ∃ g a b a' b', d = { target := .fn (.func g) ⟨b⟩, args := ⟨a⟩ } ∧ d' = { target := .fn (.func g) ⟨b'⟩, args := ⟨a'⟩ } ∧ LR (VL ρ) a a' ∧ LR (VL ρ) b b'
def DsR (ρ : Rn) : List Deferred → List Deferred → Prop
  | [], l => l = []
  | d :: l, l' => ∃ d' t, l' = d' :: t ∧ DefR ρ d d' ∧ DsR ρ l t
theorem DefR.grow {ρ ρ' : Rn} (hρ : ρ.le ρ') {d d' : Deferred} (h : DefR ρ d d') : DefR ρ' d d' := by
  obtain ⟨g, a, b, a', b', e1, e2, h1, h2⟩ := h
  exact ⟨g, a, b, a', b', e1, e2, h1.grow hρ, h2.grow hρ⟩
theorem DsR.grow {ρ ρ' : Rn} (hρ : ρ.le ρ') : ∀ {l l' : List Deferred}, DsR ρ l l' → DsR ρ' l l'
  | [], _, h => h
  | d :: l, _, ⟨d', t, e, hd, ht⟩ => ⟨d', t, e, hd.grow hρ, DsR.grow hρ ht⟩
/-- The temporaries and what is deferred. -/
structure ActR (ρ : Rn) (N : Nat) (t : TT) (ds : List Deferred) (a : Act) : Prop where
  size : a.tmps.size = N
  le : N ≤ 256
  tm : ∀ k, k ≤ 255 → VL ρ (tget8 t k) (a.tmps.getD k undef)
  df : DsR ρ ds a.defers
theorem ActR.grow {ρ ρ' : Rn} (hρ : ρ.le ρ') {N : Nat} {t : TT} {ds : List Deferred} {a : Act} (h : ActR ρ N t ds a) : ActR ρ' N t ds a :=
  ⟨h.size, h.le, fun k hk => (h.tm k hk).grow hρ, h.df.grow hρ⟩
def Glo' (ρ : Rn) : Prop := ∀ g, g < 16 → ∃ p, ρ g = some p ∧ p.blk = g ∧ p.off = 0
theorem env_of {ρ : Rn} {N : Nat} {t : TT} {ds : List Deferred} {a : Act} (h : ActR ρ N t ds a) (hg : Glo' ρ) : EnvR ρ (aev t) a.eval := by
  intro x v hx
  cases x with
  | tmp k =>
    unfold aev at hx
    simp only [] at hx
    split at hx
    · rename_i hb
      cases hx
      exact h.tm k (Nat.le_of_ble_eq_true hb)
    · cases hx
  | const c =>
    unfold aev at hx
    simp only [] at hx
    split at hx
    · rename_i hp; cases hx; exact plain_self hp
    · cases hx
  | global g =>
    unfold aev at hx
    simp only [] at hx
    split at hx
    · rename_i hb
      cases hx
      obtain ⟨p, h1, h2, h3⟩ := hg g (by have := Nat.le_of_ble_eq_true hb; omega)
      exact VL.ptr.2 ⟨rfl, p, h1, by rw [h2, h3]; rfl⟩
    · cases hx
  | func f => cases hx; exact VL.func.2 ⟨trivial, [], [], rfl, rfl, rfl⟩
theorem ActR.put {ρ : Rn} {N : Nat} {t : TT} {ds : List Deferred} {a : Act} (h : ActR ρ N t ds a) {d : Nat} {v v' : Value} (hd : d < N) (hv : VL ρ v v') : ActR ρ N (tset8 t d v id) ds (a.put (some d) v') := by
  refine ⟨by simp [Act.put, h.size], h.le, fun k hk => ?_, h.df⟩
  have hle := h.le
  rw [tget8_put _ _ _ _ (by omega) hk]
  simp only [Act.put, Array.getD_eq_getD_getElem?, Array.getElem?_setIfInBounds]
  by_cases hdk : d = k
  · rw [if_pos hdk, if_pos hdk, if_pos (by rw [h.size]; exact hd)]
    exact hv
  · rw [if_neg hdk, if_neg hdk, ← Array.getD_eq_getD_getElem?]
    exact h.tm k hk
theorem tells_put {N : Nat} {t t' : TT} {d : Option Tmp} {v : Value} {s s' : Hp} (h : Tells (putK N t d v) s t' s') : s' = s ∧ ((d = none ∧ t' = t) ∨ ∃ k, d = some k ∧ k < N ∧ t' = tset8 t k v id) := by
  unfold putK at h
  split at h
  · obtain ⟨rfl, rfl⟩ := tells_pure h; exact ⟨rfl, .inl ⟨rfl, rfl⟩⟩
  · rename_i k
    split at h
    · rename_i hb
      rw [tset8_eq] at h
      obtain ⟨rfl, rfl⟩ := tells_pure h
      exact ⟨rfl, .inr ⟨k, rfl, blt_lt hb, rfl⟩⟩
    · exact (tells_fail h).elim
theorem went_upon {o : Oper} {a : Act} {next : Act → World → Prop} {Q : Exit → Act → World → Prop} {r : Result Next} {K : Value → World → Prop} (h : Went P r K) (hk : ∀ v w, K v w → next (a.put o.dst v) w) : o.upon P a next Q r := by
  unfold Went at h
  split at h
  · exact hk _ _ h
  · exact hk _ _ h
  · refine Calls.mono h fun e w' he => ?_
    obtain ⟨v, rfl, hv⟩ := he
    exact hk _ _ hv
  · exact h.elim

section
variable {ρ0 : Rn} {e : En} {m : Operand → Value} {o : Oper}
theorem x_move (he : EnvR ρ0 e m) (x : Operand) (ho : o.op = .move x) : Sim P ρ0 (opMove x e) (execOp m o) OpR := by
  unfold execOp
  rw [ho]
  exact snd_move he x
theorem x_assign (he : EnvR ρ0 e m) (x : Operand) (ho : o.op = .assign x) : Sim P ρ0 (opMove x e) (execOp m o) OpR := by
  unfold execOp
  rw [ho]
  exact snd_move he x
theorem x_pick (he : EnvR ρ0 e m) (c : Operand) (a : Operand) (b : Operand) (ho : o.op = .pick c a b) : Sim P ρ0 (opPick c a b e) (execOp m o) OpR := by
  unfold execOp
  rw [ho]
  exact snd_pick he c a b
theorem x_alloc (he : EnvR ρ0 e m) (t : TypeId) (ho : o.op = .alloc t) : Sim P ρ0 (opAlloc P t) (execOp m o) OpR := by
  unfold execOp
  rw [ho]
  exact Sim.value (snd_alloc t)
theorem x_box (he : EnvR ρ0 e m) (t : TypeId) (x : Operand) (ho : o.op = .box t x) : Sim P ρ0 (opBox t x e) (execOp m o) OpR := by
  unfold execOp
  rw [ho]
  exact Sim.value (snd_box he t x)
theorem x_build (he : EnvR ρ0 e m) (t : TypeId) (parts : Array (Nat × Operand)) (ho : o.op = .build t parts) : Sim P ρ0 (opBuild P t parts e) (execOp m o) OpR := by
  unfold execOp
  rw [ho]
  exact Sim.value (snd_build he t parts)
theorem x_buildSlice (he : EnvR ρ0 e m) (t : TypeId) (len : Nat) (parts : Array (Nat × Operand)) (ho : o.op = .buildSlice t len parts) : Sim P ρ0 (opBuildSlice P t len parts e) (execOp m o) OpR := by
  unfold execOp
  rw [ho]
  exact Sim.value (snd_buildSlice he t len parts)
theorem x_load (he : EnvR ρ0 e m) (t : TypeId) (a : Operand) (ho : o.op = .load t a) : Sim P ρ0 (opLoad P t a e) (execOp m o) OpR := by
  unfold execOp
  rw [ho]
  exact Sim.value (snd_load he t a)
theorem x_store (he : EnvR ρ0 e m) (t : TypeId) (a : Operand) (x : Operand) (ho : o.op = .store t a x) : Sim P ρ0 (opStore P t a x e) (execOp m o) OpR := by
  unfold execOp
  rw [ho]
  exact snd_store he t a x
theorem x_binOp (he : EnvR ρ0 e m) (op : BinOp) (t : TypeId) (x : Operand) (y : Operand) (yt : TypeId) (ho : o.op = .binOp op t x y yt) : Sim P ρ0 (opBin P op t x y e) (execOp m o) OpR := by
  unfold execOp
  rw [ho]
  exact Sim.value (snd_bin he op t x y)
theorem x_unOp (he : EnvR ρ0 e m) (op : UnOp) (ut : TypeId) (x : Operand) (ho : o.op = .unOp op ut x) : Sim P ρ0 (opUnOp P op x e) (execOp m o) OpR := by
  unfold execOp
  rw [ho]
  exact Sim.value (snd_un he op x)
theorem x_convert (he : EnvR ρ0 e m) (src : TypeId) (dst : TypeId) (x : Operand) (ho : o.op = .convert src dst x) : Sim P ρ0 (opConvert P src dst x e) (execOp m o) OpR := by
  unfold execOp
  rw [ho]
  exact Sim.value (snd_convert he src dst x)
theorem x_makeInterface (he : EnvR ρ0 e m) (t : TypeId) (x : Operand) (ho : o.op = .makeInterface t x) : Sim P ρ0 (opMakeInterface P t x e) (execOp m o) OpR := by
  unfold execOp
  rw [ho]
  exact Sim.value (snd_makeInterface he t x)
theorem x_makeFunc (he : EnvR ρ0 e m) (fn : Fn) (a : Array Operand) (b : Array Operand) (ho : o.op = .makeFunc fn a b) : Sim P ρ0 (opMakeFunc fn a b e) (execOp m o) OpR := by
  unfold execOp
  rw [ho]
  exact Sim.value (snd_makeFunc he fn a b)
theorem x_makeMap (he : EnvR ρ0 e m) (t : TypeId) (r : Option Operand) (ho : o.op = .makeMap t r) : Sim P ρ0 (opMakeMap r) (execOp m o) OpR := by
  unfold execOp
  rw [ho]
  exact Sim.value (snd_makeMap t r m)
theorem x_makeSlice (he : EnvR ρ0 e m) (t : TypeId) (l : Operand) (c : Operand) (ho : o.op = .makeSlice t l c) : Sim P ρ0 (opMakeSlice P t l c e) (execOp m o) OpR := by
  unfold execOp
  rw [ho]
  exact Sim.value (snd_makeSlice he t l c)
theorem x_slice (he : EnvR ρ0 e m) (t : TypeId) (x : Operand) (lo : Option Operand) (hi : Option Operand) (mx : Option Operand) (ho : o.op = .slice t x lo hi mx) : Sim P ρ0 (opSlice P t x lo hi mx e) (execOp m o) OpR := by
  unfold execOp
  rw [ho]
  exact Sim.value (snd_slice he t x lo hi mx)
theorem x_fieldAddr (he : EnvR ρ0 e m) (t : TypeId) (x : Operand) (f : Nat) (ho : o.op = .fieldAddr t x f) : Sim P ρ0 (opFieldAddr P t x f e) (execOp m o) OpR := by
  unfold execOp
  rw [ho]
  exact Sim.value (snd_fieldAddr he t x f)
theorem x_field (he : EnvR ρ0 e m) (t : TypeId) (x : Operand) (f : Nat) (ho : o.op = .field t x f) : Sim P ρ0 (opField P t x f e) (execOp m o) OpR := by
  unfold execOp
  rw [ho]
  exact Sim.value (snd_field he t x f)
theorem x_indexAddr (he : EnvR ρ0 e m) (t : TypeId) (x : Operand) (ix : Operand) (ho : o.op = .indexAddr t x ix) : Sim P ρ0 (opIndexAddr P t x ix e) (execOp m o) OpR := by
  unfold execOp
  rw [ho]
  exact Sim.value (snd_indexAddr he t x ix)
theorem x_index (he : EnvR ρ0 e m) (t : TypeId) (x : Operand) (ix : Operand) (ho : o.op = .index t x ix) : Sim P ρ0 (opIndex P t x ix e) (execOp m o) OpR := by
  unfold execOp
  rw [ho]
  exact Sim.value (snd_index he t x ix)
theorem x_lookup (he : EnvR ρ0 e m) (t : TypeId) (x : Operand) (ix : Operand) (ok : Bool) (ho : o.op = .lookup t x ix ok) : Sim P ρ0 (opLookup P t x ix ok e) (execOp m o) OpR := by
  unfold execOp
  rw [ho]
  exact Sim.value (snd_lookup he t x ix ok)
theorem x_mapUpdate (he : EnvR ρ0 e m) (t : TypeId) (x : Operand) (k : Operand) (y : Operand) (ho : o.op = .mapUpdate t x k y) : Sim P ρ0 (opMapUpdate P t x k y e) (execOp m o) OpR := by
  unfold execOp
  rw [ho]
  exact snd_mapUpdate he t x k y
theorem x_insert (he : EnvR ρ0 e m) (t : TypeId) (x : Operand) (k : Operand) (y : Operand) (ho : o.op = .insert t x k y) : Sim P ρ0 (opMapUpdate P t x k y e) (execOp m o) OpR := by
  unfold execOp
  rw [ho]
  exact snd_mapUpdate he t x k y
theorem x_typeAssert (he : EnvR ρ0 e m) (x : Operand) (xt : TypeId) (t : TypeId) (ok : Bool) (ho : o.op = .typeAssert x xt t ok) : Sim P ρ0 (opTypeAssert P x t ok e) (execOp m o) OpR := by
  unfold execOp
  rw [ho]
  exact Sim.value (snd_typeAssert he x xt t ok)
theorem x_extract (he : EnvR ρ0 e m) (x : Operand) (i : Nat) (ho : o.op = .extract x i) : Sim P ρ0 (opExtract x i e) (execOp m o) OpR := by
  unfold execOp
  rw [ho]
  exact Sim.value (snd_extract he x i)
theorem x_builtin (he : EnvR ρ0 e m) (b : Builtin) (args : Array Operand) (ts : Array TypeId) (ho : o.op = .call { callee := .builtin b, args, argTypes := ts }) : Sim P ρ0 (opBuiltin P o.type b args ts e) (execOp m o) OpR := by
  unfold opBuiltin
  refine Sim.aevs he _ (fun _ => good_biltin _ _ _ _ _) fun vs hvs => ?_
  have hx : execOp m o = builtin b ts o.type (args.map fun | .const _ => true | _ => false) (args.map m) := by
    unfold execOp
    rw [ho]
    rfl
  rw [hx]
  have hlist : (args.map m) = ⟨args.toList.map m⟩ := by apply Array.ext'; simp
  rw [hlist]
  generalize args.toList.map m = us at *
  generalize (args.map fun | .const _ => true | _ => false) = cs
  obtain ⟨tl⟩ := ts
  show Sim P ρ0 (biltin P o.type b tl vs) _ _
  clear ho hx
  unfold biltin
  split
  · rename_i t tr x xr
    obtain ⟨x', ur, e1, hx', _⟩ := hvs
    subst e1
    exact Sim.value (snd_len hx' _ _ _ rfl rfl)
  · rename_i t tr x xr
    obtain ⟨x', ur, e1, hx', _⟩ := hvs
    subst e1
    exact Sim.value (snd_cap hx' _ _ _ rfl rfl)
  · rename_i t tr x y
    obtain ⟨x', ur, e1, hx', y', ur2, e2, hy', e3⟩ := hvs
    subst e1 e2
    have hh : tr.head? = (⟨t :: tr⟩ : Array TypeId)[1]? := by cases tr <;> rfl
    rw [hh]
    exact Sim.value (snd_append hx' hy' _ _ _ rfl rfl rfl)
  · unfold biPl
    split
    · rename_i hp
      rw [snd_plains hvs hp]
      exact Sim.value snd_prun
    · exact .fail
  · unfold biPl
    split
    · rename_i hp
      rw [snd_plains hvs hp]
      exact Sim.value snd_prun
    · exact .fail
  · rename_i t tr x
    obtain ⟨x', ur, e1, hx', _⟩ := hvs
    subst e1
    exact Sim.value (snd_clear hx' _ _ _ rfl rfl)
  · rename_i t tr x y
    obtain ⟨x', ur, e1, hx', y', ur2, e2, hy', e3⟩ := hvs
    subst e1 e2
    exact Sim.value (snd_copy hx' hy' _ _ _ rfl rfl rfl)
  · exact .fail
end
end Go.Proofs.YtpijenlmfmknnaaGreatDoor

/- One operation, and operations in the text's order. No program. -/
namespace Go.Proofs.YtpijenlmfmknnaaGreatDoor
open Go.RowKit
set_option linter.unusedVariables false
variable {P : Program}

theorem bool_only {ρ : Rn} {v : Value} {b : Bool} (h : VL ρ v (.bool b)) : v = .bool b ∨ v = .chan none := by
  cases v with
  | bool x => have := VL.bool.1 h; cases this; exact .inl rfl
  | int k i => have := VL.int.1 h; cases this
  | string s => have := VL.string.1 h; cases this
  | pointer a => cases a with
    | none => have := VL.nilp.1 h; cases this
    | some a => obtain ⟨_, p, _, e⟩ := VL.ptr.1 h; cases e
  | slice a l c => cases a with
    | none => have := (VL.nils.1 h).2.2; cases this
    | some a => obtain ⟨_, _, p, _, a', c', e, _⟩ := VL.slice.1 h; cases e
  | map r => cases r with
    | none => have := VL.nilm.1 h; cases this
    | some a => obtain ⟨p, _, e⟩ := VL.map.1 h; cases e
  | func fn f c =>
    obtain ⟨f⟩ := f
    obtain ⟨c⟩ := c
    obtain ⟨_, f', c', e, _⟩ := VL.func.1 h; cases e
  | nilFunc => have := VL.nilf.1 h; cases this
  | iface t x => obtain ⟨x', e, _⟩ := VL.iface.1 h; cases e
  | nilIface => have := VL.nili.1 h; cases this
  | agg c => obtain ⟨l⟩ := c; obtain ⟨l', e, _⟩ := VL.agg.1 h; cases e
  | tuple c => obtain ⟨l⟩ := c; obtain ⟨l', e, _⟩ := VL.tuple.1 h; cases e
  | chan c => cases c with
    | none => exact .inr rfl
    | some r => obtain ⟨n, h⟩ := h; cases n <;> exact h.elim
  | float k b => obtain ⟨n, h⟩ := h; cases n <;> exact h.elim
  | complex k a b => obtain ⟨n, h⟩ := h; cases n <;> exact h.elim
theorem wanted_of {ρ : Rn} {N : Nat} {t : TT} {ds : List Deferred} {a : Act} (h : ActR ρ N t ds a) {ops : Array Oper} {o : Oper} {b : Bool} (hw : wantedK ops t o = some b) : Region.wanted o (yielded ops a.tmps) = b := by
  unfold wantedK at hw
  unfold Region.wanted
  split at hw
  · rename_i hg
    cases hw
    rw [hg]
  · rename_i j want hg
    rw [hg]
    simp only []
    unfold yielded
    split at hw
    · rename_i d hd
      rw [hd]
      simp only [Option.bind_some]
      split at hw
      · rename_i x hle hx
        have hr := h.tm d (Nat.le_of_ble_eq_true hle)
        rw [hx] at hr
        have e := VL.bool.1 hr
        rw [Array.getD_eq_getD_getElem?] at e
        cases hq : a.tmps[d]? with
        | none => rw [hq] at e; cases e
        | some y =>
          rw [hq] at e
          have : y = .bool x := e
          subst this
          cases hw
          simp
      · cases hw
      · rename_i hle hnb hnj
        cases hw
        have hr := h.tm d (Nat.le_of_ble_eq_true hle)
        cases hq : a.tmps[d]? with
        | none => rfl
        | some y =>
          rw [Array.getD_eq_getD_getElem?, hq] at hr
          cases y <;> first
            | rfl
            | (rcases bool_only hr with e | e
               · exact (hnb _ e).elim
               · exact (hnj e).elim)
      · cases hw
    · rename_i hd
      rw [hd]
      cases hw
      rfl
theorem snd_disp {E : Callee'} (hE : GoodE E) (hC : CallOk P E) {o : Oper} {N : Nat} {t : TT} {ds ds1 : List Deferred} {a : Act} {w0 w : World} {B : Nat} {ρ : Rn} {s s1 : Hp} {v : Value} (ha : ActR ρ N t ds a)
    (ht : Tells ((disp P o).f E (aev t) ds) s (v, ds1) s1) (H : HR w0 B ρ s.f w) (hfr : Free ρ s.n s1.n) {next : Act → World → Prop} {Q : Exit → Act → World → Prop}
    (hk : ∀ v' w' ρ' dsx, HR w0 B ρ' s1.f w' → Ext ρ ρ' s.n s1.n → VL ρ' v v' → DsR ρ' ds1 dsx → next (({ a with defers := dsx } : Act).put o.dst v') w') : o.upon P a next Q ((execOp a.eval o).run P w) := by
  have he := env_of ha H.glo
  have went : ∀ {F : M Value}, Good F → (∀ w, Tells F s v s1 → Went P ((execOp a.eval o).run P w) (Post w0 B ρ s s1 v) ∨ ¬ HR w0 B ρ s.f w) → Tells (mbind F fun v => mpure (v, ds)) s (v, ds1) s1 → o.upon P a next Q ((execOp a.eval o).run P w) := by
    intro F hF hw ht
    obtain ⟨v2, s2, t1, t2, _⟩ := tells_bind hF ht
    obtain ⟨e, rfl⟩ := tells_pure t2
    cases e
    rcases hw w t1 with hw | hw
    · refine went_upon hw fun v' w' hp => ?_
      obtain ⟨ρ', H', hE', hv⟩ := hp
      exact hk v' w' ρ' a.defers H' hE' hv (ha.df.grow hE'.le)
    · exact (hw H).elim
  have pd : ∀ {F : En → M Value}, Good (F (aev t)) → Sim P ρ (F (aev t)) (execOp a.eval o) OpR → Tells ((pureD F).f E (aev t) ds) s (v, ds1) s1 → o.upon P a next Q ((execOp a.eval o).run P w) := by
    intro F hF hS ht
    exact went hF (fun w t1 => (Classical.em (HR w0 B ρ s.f w)).imp (fun H => went_of hS t1 H hfr) id) ht
  unfold disp at ht
  split at ht
  · rename_i x ho; exact pd (good_opMove _ _) (x_move he x ho) ht
  · rename_i x ho; exact pd (good_opMove _ _) (x_assign he x ho) ht
  · rename_i c a b ho; exact pd (good_opPick _ _ _ _) (x_pick he c a b ho) ht
  · rename_i t ho; exact pd (F := fun _ => opAlloc P t) (good_opAlloc _ _) (x_alloc he t ho) ht
  · rename_i t x ho; exact pd (good_opBox _ _ _) (x_box he t x ho) ht
  · rename_i t parts ho; exact pd (good_opBuild _ _ _ _) (x_build he t parts ho) ht
  · rename_i t len parts ho; exact pd (good_opBuildSlice _ _ _ _ _) (x_buildSlice he t len parts ho) ht
  · rename_i t a ho; exact pd (good_opLoad _ _ _ _) (x_load he t a ho) ht
  · rename_i t a x ho; exact pd (good_opStore _ _ _ _ _) (x_store he t a x ho) ht
  · rename_i x ho; exact pd (good_opNilCheck _ _) (snd_nilCheck he x _ ho) ht
  · rename_i op t x y yt ho; exact pd (good_opBin _ _ _ _ _ _) (x_binOp he op t x y yt ho) ht
  · rename_i op ut x ho; exact pd (good_opUnOp _ _ _ _) (x_unOp he op ut x ho) ht
  · rename_i src dst x ho; exact pd (good_opConvert _ _ _ _ _) (x_convert he src dst x ho) ht
  · rename_i t x ho; exact pd (good_opMakeInterface _ _ _ _) (x_makeInterface he t x ho) ht
  · rename_i fn a b ho; exact pd (good_opMakeFunc _ _ _ _) (x_makeFunc he fn a b ho) ht
  · rename_i t r ho; exact pd (F := fun _ => opMakeMap r) (good_opMakeMap _) (x_makeMap he t r ho) ht
  · rename_i t l c ho; exact pd (good_opMakeSlice _ _ _ _ _) (x_makeSlice he t l c ho) ht
  · rename_i t x lo hi mx ho; exact pd (good_opSlice _ _ _ _ _ _ _) (x_slice he t x lo hi mx ho) ht
  · rename_i t x f ho; exact pd (good_opFieldAddr _ _ _ _ _) (x_fieldAddr he t x f ho) ht
  · rename_i t x f ho; exact pd (good_opField _ _ _ _ _) (x_field he t x f ho) ht
  · rename_i t x ix ho; exact pd (good_opIndexAddr _ _ _ _ _) (x_indexAddr he t x ix ho) ht
  · rename_i t x ix ho; exact pd (good_opIndex _ _ _ _ _) (x_index he t x ix ho) ht
  · rename_i t x ix ok ho; exact pd (good_opLookup _ _ _ _ _ _) (x_lookup he t x ix ok ho) ht
  · rename_i t m k x ho; exact pd (good_opMapUpdate _ _ _ _ _ _) (x_mapUpdate he t m k x ho) ht
  · rename_i t m k x ho; exact pd (good_opMapUpdate _ _ _ _ _ _) (x_insert he t m k x ho) ht
  · rename_i x xt t ok ho; exact pd (good_opTypeAssert _ _ _ _ _) (x_typeAssert he x xt t ok ho) ht
  · rename_i x i ho; exact pd (good_opExtract _ _ _) (x_extract he x i ho) ht
  · rename_i b args ts ho; exact pd (good_opBuiltin _ _ _ _ _ _) (x_builtin he b args ts ho) ht
  · rename_i f args ats ho
    exact went (good_opCallV hE _ _ _) (fun w t1 => (Classical.em (HR w0 B ρ s.f w)).imp (fun H => went_callV hE hC he f args ats _ ho t1 H hfr) id) ht
  · rename_i r name args ats ho
    exact went (good_opCallI P hE _ _ _ _) (fun w t1 => (Classical.em (HR w0 B ρ s.f w)).imp (fun H => went_callI hE hC he r name args ats _ ho t1 H hfr) id) ht
  · rename_i f args ats ho
    obtain ⟨d, s2, t1, t2, _⟩ := tells_bind (good_opDefer _ _ _) ht
    obtain ⟨e, rfl⟩ := tells_pure t2
    cases e
    unfold opDefer at t1
    obtain ⟨fv, s3, t3, t4, _⟩ := tells_bind (good_maev _) t1
    obtain ⟨hfv, rfl⟩ := tells_aev t3
    obtain ⟨vs, s4, t5, t6, _⟩ := tells_bind (good_aevs _ _) t4
    obtain ⟨rfl, hvs⟩ := tells_aevs he _ t5
    unfold deferV at t6
    split at t6
    · rename_i g al bl
      rw [forceL_eq] at t6
      obtain ⟨rfl, rfl⟩ := tells_pure t6
      obtain ⟨_, a', b', e1, hal, hbl⟩ := VL.func.1 (he f _ hfv)
      have hx : (execOp a.eval o).run P w = .ok (.defer { target := .fn (.func g) ⟨b'⟩, args := ⟨a' ++ args.toList.map a.eval⟩ }) w := by
        have harr : (⟨a'⟩ : Array Value) ++ args.map a.eval = ⟨a' ++ args.toList.map a.eval⟩ := by apply Array.ext'; simp
        simp only [execOp, ho, resolve, Deferred.ofValue, e1, Sem.run_bind, Sem.run_pure, Result.andThen, harr]
      rw [hx]
      exact hk undef w ρ _ H .rfl un_rel ⟨_, _, rfl, ⟨g, _, _, _, _, rfl, rfl, hal.app hvs, hbl⟩, ha.df⟩
    · exact (tells_fail t6).elim
  · exact (tells_fail ht).elim
/-- Behind an operation. -/
def After (w0 : World) (B : Nat) (ρ : Rn) (s s' : Hp) (N : Nat) (t' : TT) (ds' : List Deferred) (a' : Act) (w' : World) : Prop := ∃ ρ', HR w0 B ρ' s'.f w' ∧ Ext ρ ρ' s.n s'.n ∧ ActR ρ' N t' ds' a'
theorem snd_opK {E : Callee'} (hE : GoodE E) (hC : CallOk P E) {ops : Array Oper} {o : Oper} {N : Nat} {t t' : TT} {ds ds' : List Deferred} {a : Act} {w0 w : World} {B : Nat} {ρ : Rn} {s s' : Hp} (ha : ActR ρ N t ds a)
    (ht : Tells (opK P E N ops o (t, ds)) s (t', ds') s') (H : HR w0 B ρ s.f w) (hfr : Free ρ s.n s'.n) {next : Act → World → Prop} (Q : Exit → Act → World → Prop) (hk : ∀ a' w', After w0 B ρ s s' N t' ds' a' w' → next a' w') :
    if Region.wanted o (yielded ops a.tmps) = true then o.wp P a w next Q else next (a.put o.dst undef) w := by
  unfold opK at ht
  simp only [] at ht
  split at ht
  · exact (tells_fail ht).elim
  · rename_i hw
    rw [wanted_of ha hw]
    simp only [Bool.false_eq_true, if_false]
    obtain ⟨t1, s1, k1, k2, _⟩ := tells_bind (good_putK _ _ _ _) ht
    obtain ⟨e, rfl⟩ := tells_pure k2
    cases e
    obtain ⟨rfl, hp⟩ := tells_put k1
    refine hk _ _ ⟨ρ, H, .rfl, ?_⟩
    rcases hp with ⟨h1, rfl⟩ | ⟨d, h1, hd, rfl⟩
    · rw [h1]; exact ha
    · rw [h1]; exact ha.put hd un_rel
  · rename_i hw
    rw [wanted_of ha hw]
    simp only [if_true]
    obtain ⟨x, s1, k1, k2, hn1⟩ := tells_bind (good_disp P hE o _ ds) ht
    obtain ⟨v, ds1⟩ := x
    simp only [] at k2
    obtain ⟨t1, s2, k3, k4, _⟩ := tells_bind (good_putK _ _ _ _) k2
    obtain ⟨e, rfl⟩ := tells_pure k4
    cases e
    obtain ⟨rfl, hp⟩ := tells_put k3
    unfold Oper.wp
    refine snd_disp hE hC ha k1 H hfr fun v' w' ρ' dsx H' hE' hv hds => hk _ _ ⟨ρ', H', hE', ?_⟩
    have ha' : ActR ρ' N t ds' { a with defers := dsx } := ⟨ha.size, ha.le, (ha.grow hE'.le).tm, hds⟩
    rcases hp with ⟨h1, rfl⟩ | ⟨d, h1, hd, rfl⟩
    · rw [h1]; exact ha'
    · rw [h1]; exact ha'.put hd hv
/-- In the text's order. -/
theorem snd_opsK {E : Callee'} (hE : GoodE E) (hC : CallOk P E) {ops : Array Oper} {N : Nat} {t' : TT} {ds' : List Deferred} {w0 : World} {B : Nat} {s' : Hp} {Q : Exit → Act → World → Prop} : ∀ (l : List Oper) (i : Nat) (t : TT) (ds : List Deferred) (a : Act) (w : World) (ρ : Rn) (s : Hp),
    (∀ (j : Nat) o, l[j]? = some o → ops[i + j]? = some o) → ActR ρ N t ds a → Tells (opsK P E N ops l (t, ds)) s (t', ds') s' → HR w0 B ρ s.f w → Free ρ s.n s'.n →
    (∀ a' w', After w0 B ρ s s' N t' ds' a' w' → Q .normal a' w') → wpOps P ops Q (List.range' i l.length) a w
  | [], i, t, ds, a, w, ρ, s, hl, ha, ht, H, hfr, hQ => by
    obtain ⟨e, rfl⟩ := tells_pure ht
    cases e
    exact hQ _ _ ⟨ρ, H, .rfl, ha⟩
  | o :: l, i, t, ds, a, w, ρ, s, hl, ha, ht, H, hfr, hQ => by
    obtain ⟨x, s1, k1, k2, hn1⟩ := tells_bind (good_opK P hE N ops o _) ht
    obtain ⟨t1, ds1⟩ := x
    have hn2 : s1.n ≤ s'.n := k2.le (good_opsK P hE N ops l _)
    have ho : ops[i]? = some o := by simpa using hl 0 o rfl
    have hrest : ∀ a' w', After w0 B ρ s s1 N t1 ds1 a' w' → wpOps P ops Q (List.range' (i + 1) l.length) a' w' := by
      rintro a' w' ⟨ρ', H', hE', ha'⟩
      refine snd_opsK hE hC l (i + 1) t1 ds1 a' w' ρ' s1 (fun j o' hj => ?_) ha' k2 H' (hfr.right hn1 hE') fun a2 w2 h2 => hQ _ _ ?_
      · have := hl (j + 1) o' (by simpa using hj)
        rw [show i + 1 + j = i + (j + 1) by omega]; exact this
      · obtain ⟨ρ2, H2, hE2, ha2⟩ := h2
        exact ⟨ρ2, H2, hE'.trans hE2 hn1 hn2, ha2⟩
    have hop := snd_opK hE hC ha k1 H (hfr.left hn2) Q hrest
    rw [List.length_cons, List.range'_succ]
    simp only [wpOps, ho]
    split at hop
    · rename_i hw
      rw [if_pos hw]
      exact .inl hop
    · rename_i hw
      rw [if_neg hw]
      exact hop
end Go.Proofs.YtpijenlmfmknnaaGreatDoor

/- A store for whatever a function tells of each number; which operations come before which; what an operation hangs on. No program. -/
namespace Go.Proofs.YtpijenlmfmknnaaGreatDoor
open Go.RowKit
set_option linter.unusedVariables false
variable {P : Program}

theorem mod_hi (k i : Nat) : k % 2 ^ (i + 1) = k % 2 ^ i + (if k.testBit i then 2 ^ i else 0) := by
  apply Nat.eq_of_testBit_eq
  intro b
  rw [Nat.testBit_mod_two_pow]
  by_cases hb : k.testBit i = true
  · rw [if_pos hb, Nat.add_comm (k % 2 ^ i) (2 ^ i)]
    by_cases h1 : b < i
    · rw [Nat.testBit_two_pow_add_gt h1, Nat.testBit_mod_two_pow]
      simp [h1, Nat.lt_succ_of_lt h1]
    · by_cases h2 : b = i
      · subst h2
        rw [Nat.testBit_two_pow_add_eq, Nat.testBit_mod_two_pow]
        simp [hb]
      · have hlt : 2 ^ i + k % 2 ^ i < 2 ^ (i + 1) := by
          have := Nat.mod_lt k (Nat.two_pow_pos i)
          rw [Nat.pow_succ]; omega
        have hlt2 : 2 ^ i + k % 2 ^ i < 2 ^ b := Nat.lt_of_lt_of_le hlt (Nat.pow_le_pow_right (by omega) (by omega))
        rw [Nat.testBit_lt_two_pow hlt2]
        simp; omega
  · rw [if_neg hb, Nat.add_zero (k % 2 ^ i), Nat.testBit_mod_two_pow]
    by_cases h1 : b < i
    · simp [h1, Nat.lt_succ_of_lt h1]
    · by_cases h2 : b = i
      · subst h2; simp [hb]
      · have : ¬ b < i + 1 := by omega
        simp [h1, this]
theorem tex0 {α : Type} (g : Nat → α) : ∃ t : T0 α, ∀ k, tget0 t k = g (k % 2 ^ 0) := ⟨g 0, fun k => by simp [tget0, Nat.mod_one]⟩
theorem tex1 {α : Type} (g : Nat → α) : ∃ t : T1 α, ∀ k, tget1 t k = g (k % 2 ^ 1) := by
  obtain ⟨a, ha⟩ := tex0 g
  obtain ⟨b, hb⟩ := tex0 fun k => g (k + 2 ^ 0)
  refine ⟨⟨a, b⟩, fun k => ?_⟩
  have hm := mod_hi k 0
  have hk := bit_land' k 0 1 rfl
  unfold tget1
  simp only [hk]
  rw [show (2 : Nat) ^ 1 = 2 ^ (0 + 1) from rfl, hm]
  cases k.testBit 0
  · exact ha k
  · exact hb k
theorem tex2 {α : Type} (g : Nat → α) : ∃ t : T2 α, ∀ k, tget2 t k = g (k % 2 ^ 2) := by
  obtain ⟨a, ha⟩ := tex1 g
  obtain ⟨b, hb⟩ := tex1 fun k => g (k + 2 ^ 1)
  refine ⟨⟨a, b⟩, fun k => ?_⟩
  have hm := mod_hi k 1
  have hk := bit_land' k 1 2 rfl
  unfold tget2
  simp only [hk]
  rw [show (2 : Nat) ^ 2 = 2 ^ (1 + 1) from rfl, hm]
  cases k.testBit 1
  · exact ha k
  · exact hb k
theorem tex3 {α : Type} (g : Nat → α) : ∃ t : T3 α, ∀ k, tget3 t k = g (k % 2 ^ 3) := by
  obtain ⟨a, ha⟩ := tex2 g
  obtain ⟨b, hb⟩ := tex2 fun k => g (k + 2 ^ 2)
  refine ⟨⟨a, b⟩, fun k => ?_⟩
  have hm := mod_hi k 2
  have hk := bit_land' k 2 4 rfl
  unfold tget3
  simp only [hk]
  rw [show (2 : Nat) ^ 3 = 2 ^ (2 + 1) from rfl, hm]
  cases k.testBit 2
  · exact ha k
  · exact hb k
theorem tex4 {α : Type} (g : Nat → α) : ∃ t : T4 α, ∀ k, tget4 t k = g (k % 2 ^ 4) := by
  obtain ⟨a, ha⟩ := tex3 g
  obtain ⟨b, hb⟩ := tex3 fun k => g (k + 2 ^ 3)
  refine ⟨⟨a, b⟩, fun k => ?_⟩
  have hm := mod_hi k 3
  have hk := bit_land' k 3 8 rfl
  unfold tget4
  simp only [hk]
  rw [show (2 : Nat) ^ 4 = 2 ^ (3 + 1) from rfl, hm]
  cases k.testBit 3
  · exact ha k
  · exact hb k
theorem tex5 {α : Type} (g : Nat → α) : ∃ t : T5 α, ∀ k, tget5 t k = g (k % 2 ^ 5) := by
  obtain ⟨a, ha⟩ := tex4 g
  obtain ⟨b, hb⟩ := tex4 fun k => g (k + 2 ^ 4)
  refine ⟨⟨a, b⟩, fun k => ?_⟩
  have hm := mod_hi k 4
  have hk := bit_land' k 4 16 rfl
  unfold tget5
  simp only [hk]
  rw [show (2 : Nat) ^ 5 = 2 ^ (4 + 1) from rfl, hm]
  cases k.testBit 4
  · exact ha k
  · exact hb k
theorem tex6 {α : Type} (g : Nat → α) : ∃ t : T6 α, ∀ k, tget6 t k = g (k % 2 ^ 6) := by
  obtain ⟨a, ha⟩ := tex5 g
  obtain ⟨b, hb⟩ := tex5 fun k => g (k + 2 ^ 5)
  refine ⟨⟨a, b⟩, fun k => ?_⟩
  have hm := mod_hi k 5
  have hk := bit_land' k 5 32 rfl
  unfold tget6
  simp only [hk]
  rw [show (2 : Nat) ^ 6 = 2 ^ (5 + 1) from rfl, hm]
  cases k.testBit 5
  · exact ha k
  · exact hb k
theorem tex7 {α : Type} (g : Nat → α) : ∃ t : T7 α, ∀ k, tget7 t k = g (k % 2 ^ 7) := by
  obtain ⟨a, ha⟩ := tex6 g
  obtain ⟨b, hb⟩ := tex6 fun k => g (k + 2 ^ 6)
  refine ⟨⟨a, b⟩, fun k => ?_⟩
  have hm := mod_hi k 6
  have hk := bit_land' k 6 64 rfl
  unfold tget7
  simp only [hk]
  rw [show (2 : Nat) ^ 7 = 2 ^ (6 + 1) from rfl, hm]
  cases k.testBit 6
  · exact ha k
  · exact hb k
theorem tex8 {α : Type} (g : Nat → α) : ∃ t : T8 α, ∀ k, tget8 t k = g (k % 2 ^ 8) := by
  obtain ⟨a, ha⟩ := tex7 g
  obtain ⟨b, hb⟩ := tex7 fun k => g (k + 2 ^ 7)
  refine ⟨⟨a, b⟩, fun k => ?_⟩
  have hm := mod_hi k 7
  have hk := bit_land' k 7 128 rfl
  unfold tget8
  simp only [hk]
  rw [show (2 : Nat) ^ 8 = 2 ^ (7 + 1) from rfl, hm]
  cases k.testBit 7
  · exact ha k
  · exact hb k
theorem tex9 {α : Type} (g : Nat → α) : ∃ t : T9 α, ∀ k, tget9 t k = g (k % 2 ^ 9) := by
  obtain ⟨a, ha⟩ := tex8 g
  obtain ⟨b, hb⟩ := tex8 fun k => g (k + 2 ^ 8)
  refine ⟨⟨a, b⟩, fun k => ?_⟩
  have hm := mod_hi k 8
  have hk := bit_land' k 8 256 rfl
  unfold tget9
  simp only [hk]
  rw [show (2 : Nat) ^ 9 = 2 ^ (8 + 1) from rfl, hm]
  cases k.testBit 8
  · exact ha k
  · exact hb k
theorem tex10 {α : Type} (g : Nat → α) : ∃ t : T10 α, ∀ k, tget10 t k = g (k % 2 ^ 10) := by
  obtain ⟨a, ha⟩ := tex9 g
  obtain ⟨b, hb⟩ := tex9 fun k => g (k + 2 ^ 9)
  refine ⟨⟨a, b⟩, fun k => ?_⟩
  have hm := mod_hi k 9
  have hk := bit_land' k 9 512 rfl
  unfold tget10
  simp only [hk]
  rw [show (2 : Nat) ^ 10 = 2 ^ (9 + 1) from rfl, hm]
  cases k.testBit 9
  · exact ha k
  · exact hb k
theorem tex11 {α : Type} (g : Nat → α) : ∃ t : T11 α, ∀ k, tget11 t k = g (k % 2 ^ 11) := by
  obtain ⟨a, ha⟩ := tex10 g
  obtain ⟨b, hb⟩ := tex10 fun k => g (k + 2 ^ 10)
  refine ⟨⟨a, b⟩, fun k => ?_⟩
  have hm := mod_hi k 10
  have hk := bit_land' k 10 1024 rfl
  unfold tget11
  simp only [hk]
  rw [show (2 : Nat) ^ 11 = 2 ^ (10 + 1) from rfl, hm]
  cases k.testBit 10
  · exact ha k
  · exact hb k
theorem tex12 {α : Type} (g : Nat → α) : ∃ t : T12 α, ∀ k, tget12 t k = g (k % 2 ^ 12) := by
  obtain ⟨a, ha⟩ := tex11 g
  obtain ⟨b, hb⟩ := tex11 fun k => g (k + 2 ^ 11)
  refine ⟨⟨a, b⟩, fun k => ?_⟩
  have hm := mod_hi k 11
  have hk := bit_land' k 11 2048 rfl
  unfold tget12
  simp only [hk]
  rw [show (2 : Nat) ^ 12 = 2 ^ (11 + 1) from rfl, hm]
  cases k.testBit 11
  · exact ha k
  · exact hb k
theorem tex13 {α : Type} (g : Nat → α) : ∃ t : T13 α, ∀ k, tget13 t k = g (k % 2 ^ 13) := by
  obtain ⟨a, ha⟩ := tex12 g
  obtain ⟨b, hb⟩ := tex12 fun k => g (k + 2 ^ 12)
  refine ⟨⟨a, b⟩, fun k => ?_⟩
  have hm := mod_hi k 12
  have hk := bit_land' k 12 4096 rfl
  unfold tget13
  simp only [hk]
  rw [show (2 : Nat) ^ 13 = 2 ^ (12 + 1) from rfl, hm]
  cases k.testBit 12
  · exact ha k
  · exact hb k
theorem hp_of (g : Hf) (n : Nat) (hg : ∀ id, 8191 < id → g id = none) : ∃ s : Hp, s.f = g ∧ s.n = n ∧ s.rd = 0 ∧ s.wr = 0 := by
  obtain ⟨t, ht⟩ := tex13 g
  refine ⟨⟨t, n, 0, 0⟩, ?_, rfl, rfl, rfl⟩
  funext id
  unfold Hp.f
  by_cases h : id ≤ 8191
  · rw [if_pos h]
    show tget13 t id = g id
    rw [ht, Nat.mod_eq_of_lt (by omega)]
  · rw [if_neg h, hg id (by omega)]
theorem tt_of (g : Nat → Value) : ∃ t : TT, ∀ k, k ≤ 255 → tget8 t k = g k := by
  obtain ⟨t, ht⟩ := tex8 g
  exact ⟨t, fun k hk => by rw [ht, Nat.mod_eq_of_lt (by omega)]⟩

/-! Which come before. -/
def befF (acc : Array Nat) (s : Nat) (e : Edge) : Nat := if Region.binds .any e then s ||| 2 ^ e.on ||| acc.getD e.on 0 else s
theorem bef_bits (acc : Array Nat) (i : Nat) : ∀ (l : List Edge) (s : Nat), (l.foldl (befF acc) s).testBit i = true → s.testBit i = true ∨ ∃ e ∈ l, Region.binds .any e = true ∧ (i = e.on ∨ (acc.getD e.on 0).testBit i = true)
  | [], s, h => .inl h
  | e :: l, s, h => by
    rw [List.foldl_cons] at h
    rcases bef_bits acc i l _ h with h | ⟨e', h1, h2⟩
    · unfold befF at h
      split at h
      · rename_i hb
        simp only [Nat.testBit_or, Bool.or_eq_true, Nat.testBit_two_pow, decide_eq_true_eq] at h
        rcases h with (h | h) | h
        · exact .inl h
        · exact .inr ⟨e, List.mem_cons_self, hb, .inl h.symm⟩
        · exact .inr ⟨e, List.mem_cons_self, hb, .inr h⟩
      · exact .inl h
    · exact .inr ⟨e', List.mem_cons_of_mem _ h1, h2⟩
/-- What is marked as coming before an operation is one that it waits for, or comes before one that it waits for. -/
def BefOk (ops : Array Oper) (acc : Array Nat) : Prop := ∀ j, j < acc.size → ∀ i, (acc.getD j 0).testBit i = true → ∃ o e, ops[j]? = some o ∧ e ∈ o.after.toList ∧ Region.binds .any e = true ∧ (i = e.on ∨ (e.on < j ∧ (acc.getD e.on 0).testBit i = true))
theorem befs_ok (ops : Array Oper) : ∀ (l : List Oper) (acc : Array Nat), (∀ (j : Nat) o, l[j]? = some o → ops[acc.size + j]? = some o) → BefOk ops acc →
    BefOk ops (l.foldl (fun acc o => acc.push (o.after.foldl (befF acc) 0)) acc)
  | [], acc, _, h => h
  | o :: l, acc, hl, h => by
    rw [List.foldl_cons]
    refine befs_ok ops l _ (fun j o' hj => ?_) fun j hj i hb => ?_
    · have := hl (j + 1) o' (by simpa using hj)
      rw [Array.size_push, show acc.size + 1 + j = acc.size + (j + 1) by omega]; exact this
    · rw [Array.size_push] at hj
      have same : ∀ k, k < acc.size → (acc.push (o.after.foldl (befF acc) 0)).getD k 0 = acc.getD k 0 := fun k hk => by
        rw [Array.getD_eq_getD_getElem?, Array.getD_eq_getD_getElem?, Array.getElem?_push, if_neg (by omega)]
      by_cases hlt : j < acc.size
      · rw [same j hlt] at hb
        obtain ⟨o', e, h1, h2, h3, h4⟩ := h j hlt i hb
        refine ⟨o', e, h1, h2, h3, h4.imp id fun h5 => ⟨h5.1, ?_⟩⟩
        rw [same e.on (by omega)]; exact h5.2
      · have hjj : j = acc.size := by omega
        subst hjj
        have hx : (acc.push (o.after.foldl (befF acc) 0)).getD acc.size 0 = o.after.foldl (befF acc) 0 := by
          rw [Array.getD_eq_getD_getElem?, Array.getElem?_push, if_pos rfl]; rfl
        rw [hx, ← Array.foldl_toList] at hb
        rcases bef_bits acc i _ _ hb with hb | ⟨e, h1, h2, h3⟩
        · simp at hb
        · refine ⟨o, e, by simpa using hl 0 o rfl, h1, h2, ?_⟩
          rcases h3 with h3 | h3
          · exact .inl h3
          · have hlt' : e.on < acc.size := by
              rcases Nat.lt_or_ge e.on acc.size with h | h
              · exact h
              · rw [Array.getD_eq_getD_getElem?, Array.getElem?_eq_none h] at h3; simp at h3
            exact .inr ⟨hlt', by rw [same e.on hlt']; exact h3⟩
theorem before_ok (ops : Array Oper) : BefOk ops (Region.before ops) := by
  have h : Region.before ops = ops.toList.foldl (fun acc o => acc.push (o.after.foldl (befF acc) 0)) #[] := by
    unfold Region.before
    rw [← Array.foldl_toList]
    rfl
  rw [h]
  exact befs_ok ops ops.toList #[] (fun j o hj => by simpa using hj) fun j hj => by simp at hj
end Go.Proofs.YtpijenlmfmknnaaGreatDoor

/- An operation hangs on the temporaries that it names. No program. -/
namespace Go.Proofs.YtpijenlmfmknnaaGreatDoor
open Go.RowKit
set_option linter.unusedVariables false
variable {P : Program}

theorem aevs_congr {e e2 : En} : ∀ (l : List Operand), (∀ x ∈ l, e x = e2 x) → aevs e l = aevs e2 l
  | [], _ => rfl
  | x :: l, h => by
    unfold aevs
    rw [h x List.mem_cons_self, aevs_congr l fun y hy => h y (List.mem_cons_of_mem _ hy)]
theorem mopt_congr {e e2 : En} (y : Option Operand) (h : ∀ x, y = some x → e x = e2 x) : mopt e y = mopt e2 y := by
  unfold mopt
  cases y with
  | none => rfl
  | some x => simp only [h x rfl]
theorem disp_congr {E : Callee'} {o : Oper} {e e2 : En} {ds : List Deferred} (h : ∀ x, x ∈ o.op.operands.toList → e x = e2 x) : (disp P o).f E e ds = (disp P o).f E e2 ds := by
  have pd : ∀ {F : En → M Value}, F e = F e2 → (pureD F).f E e ds = (pureD F).f E e2 ds := fun {F} hF => by unfold pureD; simp only [hF]
  unfold disp
  split
  · rename_i x ho
    rw [ho] at h
    have h0 := h x (by simp [Op.operands])
    exact pd (by simp only [opMove, h0])
  · rename_i x ho
    rw [ho] at h
    have h0 := h x (by simp [Op.operands])
    exact pd (by simp only [opMove, h0])
  · rename_i c a b ho
    rw [ho] at h
    have h0 := h c (by simp [Op.operands])
    have h1 := h a (by simp [Op.operands])
    have h2 := h b (by simp [Op.operands])
    exact pd (by simp only [opPick, h0, h1, h2])
  · rfl
  · rename_i t x ho
    rw [ho] at h
    have h0 := h x (by simp [Op.operands])
    exact pd (by simp only [opBox, h0])
  · rename_i t parts ho
    rw [ho] at h
    have h0 := aevs_congr (parts.toList.map (·.2)) fun x hx => h x (by simpa [Op.operands] using hx)
    exact pd (by simp only [opBuild, h0])
  · rename_i t len parts ho
    rw [ho] at h
    have h0 := aevs_congr (parts.toList.map (·.2)) fun x hx => h x (by simpa [Op.operands] using hx)
    exact pd (by simp only [opBuildSlice, h0])
  · rename_i t a ho
    rw [ho] at h
    have h0 := h a (by simp [Op.operands])
    exact pd (by simp only [opLoad, h0])
  · rename_i t a x ho
    rw [ho] at h
    have h0 := h a (by simp [Op.operands])
    have h1 := h x (by simp [Op.operands])
    exact pd (by simp only [opStore, h0, h1])
  · rename_i x ho
    rw [ho] at h
    have h0 := h x (by simp [Op.operands])
    exact pd (by simp only [opNilCheck, h0])
  · rename_i op t x y yt ho
    rw [ho] at h
    have h0 := h x (by simp [Op.operands])
    have h1 := h y (by simp [Op.operands])
    exact pd (by simp only [opBin, h0, h1])
  · rename_i op ut x ho
    rw [ho] at h
    have h0 := h x (by simp [Op.operands])
    exact pd (by simp only [opUnOp, h0])
  · rename_i src dst x ho
    rw [ho] at h
    have h0 := h x (by simp [Op.operands])
    exact pd (by simp only [opConvert, h0])
  · rename_i t x ho
    rw [ho] at h
    have h0 := h x (by simp [Op.operands])
    exact pd (by simp only [opMakeInterface, h0])
  · rename_i fn a b ho
    rw [ho] at h
    have h0 := aevs_congr a.toList fun x hx => h x (by simp only [Op.operands, Array.toList_append, List.mem_append]; exact .inl hx)
    have h1 := aevs_congr b.toList fun x hx => h x (by simp only [Op.operands, Array.toList_append, List.mem_append]; exact .inr hx)
    exact pd (by simp only [opMakeFunc, h0, h1])
  · rfl
  · rename_i t l c ho
    rw [ho] at h
    have h0 := h l (by simp [Op.operands])
    have h1 := h c (by simp [Op.operands])
    exact pd (by simp only [opMakeSlice, h0, h1])
  · rename_i t x lo hi mx ho
    rw [ho] at h
    have h0 := h x (by simp [Op.operands])
    have h1 := mopt_congr lo fun y hy => h y (by subst hy; simp [Op.operands])
    have h2 := mopt_congr hi fun y hy => h y (by subst hy; simp [Op.operands])
    have h3 := mopt_congr mx fun y hy => h y (by subst hy; simp [Op.operands])
    exact pd (by simp only [opSlice, h0, h1, h2, h3])
  · rename_i t x f ho
    rw [ho] at h
    have h0 := h x (by simp [Op.operands])
    exact pd (by simp only [opFieldAddr, h0])
  · rename_i t x f ho
    rw [ho] at h
    have h0 := h x (by simp [Op.operands])
    exact pd (by simp only [opField, h0])
  · rename_i t x ix ho
    rw [ho] at h
    have h0 := h x (by simp [Op.operands])
    have h1 := h ix (by simp [Op.operands])
    exact pd (by simp only [opIndexAddr, h0, h1])
  · rename_i t x ix ho
    rw [ho] at h
    have h0 := h x (by simp [Op.operands])
    have h1 := h ix (by simp [Op.operands])
    exact pd (by simp only [opIndex, h0, h1])
  · rename_i t x ix ok ho
    rw [ho] at h
    have h0 := h x (by simp [Op.operands])
    have h1 := h ix (by simp [Op.operands])
    exact pd (by simp only [opLookup, h0, h1])
  · rename_i t m k x ho
    rw [ho] at h
    have h0 := h m (by simp [Op.operands])
    have h1 := h k (by simp [Op.operands])
    have h2 := h x (by simp [Op.operands])
    exact pd (by simp only [opMapUpdate, h0, h1, h2])
  · rename_i t m k x ho
    rw [ho] at h
    have h0 := h m (by simp [Op.operands])
    have h1 := h k (by simp [Op.operands])
    have h2 := h x (by simp [Op.operands])
    exact pd (by simp only [opMapUpdate, h0, h1, h2])
  · rename_i x xt t ok ho
    rw [ho] at h
    have h0 := h x (by simp [Op.operands])
    exact pd (by simp only [opTypeAssert, h0])
  · rename_i x i ho
    rw [ho] at h
    have h0 := h x (by simp [Op.operands])
    exact pd (by simp only [opExtract, h0])
  · rename_i b args ts ho
    rw [ho] at h
    have h0 := aevs_congr args.toList fun x hx => h x (by simpa [Op.operands, Call.operands] using hx)
    exact pd (by simp only [opBuiltin, h0])
  · rename_i f args ats ho
    rw [ho] at h
    have h0 := h f (by simp [Op.operands, Call.operands])
    have h1 := aevs_congr args.toList fun x hx => h x (by simp [Op.operands, Call.operands]; right; simpa using hx)
    simp only [opCallV, h0, h1]
  · rename_i r name args ats ho
    rw [ho] at h
    have h0 := h r (by simp [Op.operands, Call.operands])
    have h1 := aevs_congr args.toList fun x hx => h x (by simp [Op.operands, Call.operands]; right; simpa using hx)
    simp only [opCallI, h0, h1]
  · rename_i f args ats ho
    rw [ho] at h
    have h0 := h f (by simp [Op.operands, Call.operands])
    have h1 := aevs_congr args.toList fun x hx => h x (by simp [Op.operands, Call.operands]; right; simpa using hx)
    simp only [opDefer, h0, h1]
  · rfl
/-- The temporary k is named. -/
def Nm (ops : Array Oper) (o : Oper) (k : Nat) : Prop := (namesT ops o).testBit k = true
theorem bits_mem : ∀ (l : List Operand) (k : Nat), Operand.tmp k ∈ l → (bitsOf l).testBit k = true
  | [], k, h => by cases h
  | x :: l, k, h => by
    cases x with
    | tmp j =>
      unfold bitsOf
      show (Nat.shiftLeft 1 j ||| bitsOf l).testBit k = true
      rw [Nat.testBit_or, Bool.or_eq_true]
      cases h with
      | head => exact .inl (bit_self k)
      | tail _ h => exact .inr (bits_mem l k h)
    | const v => cases h with | tail _ h => exact bits_mem l k h
    | global v => cases h with | tail _ h => exact bits_mem l k h
    | func v => cases h with | tail _ h => exact bits_mem l k h
theorem nm_op {ops : Array Oper} {o : Oper} {k : Nat} (h : Operand.tmp k ∈ o.op.operands.toList) : Nm ops o k := by
  unfold Nm namesT
  show (bitOf o.dst ||| (bitsOf o.op.operands.toList ||| _)).testBit k = true
  rw [Nat.testBit_or, Nat.testBit_or, bits_mem _ _ h]
  simp
theorem nm_dst {ops : Array Oper} {o : Oper} {k : Nat} (h : o.dst = some k) : Nm ops o k := by
  unfold Nm namesT
  show (bitOf o.dst ||| _).testBit k = true
  rw [Nat.testBit_or, h]
  unfold bitOf
  rw [bit_self]; rfl
theorem nm_guard {ops : Array Oper} {o : Oper} {j k : Nat} {b : Bool} (hg : o.guard = some (j, b)) (h : (ops[j]?).bind (·.dst) = some k) : Nm ops o k := by
  unfold Nm namesT
  rw [hg]
  show (bitOf o.dst ||| (bitsOf o.op.operands.toList ||| bitOf ((ops[j]?).bind (·.dst)))).testBit k = true
  rw [h, Nat.testBit_or, Nat.testBit_or]
  unfold bitOf
  rw [bit_self]; simp
/-- What an operation does to temporaries: it sets the one that is its own. -/
theorem opK_congr {E : Callee'} (hE : GoodE E) {N : Nat} {ops : Array Oper} {o : Oper} {t t2 t' : TT} {ds ds' : List Deferred} {s s' : Hp} (h : ∀ k, k ≤ 255 → Nm ops o k → tget8 t2 k = tget8 t k) (ht : Tells (opK P E N ops o (t, ds)) s (t', ds') s') :
    ∃ t2', Tells (opK P E N ops o (t2, ds)) s (t2', ds') s' ∧ ((o.dst = none ∧ t' = t ∧ t2' = t2) ∨ ∃ d v, o.dst = some d ∧ d < N ∧ t' = tset8 t d v id ∧ t2' = tset8 t2 d v id) := by
  have hw : wantedK ops t2 o = wantedK ops t o := by
    unfold wantedK
    cases hg : o.guard with
    | none => rfl
    | some x =>
      obtain ⟨j, want⟩ := x
      simp only []
      cases hd : (ops[j]?).bind (·.dst) with
      | none => rfl
      | some d =>
        simp only []
        cases hb : Nat.ble d 255 with
        | false => rfl
        | true => rw [h d (Nat.le_of_ble_eq_true hb) (nm_guard hg hd)]
  have hev : ∀ x, x ∈ o.op.operands.toList → aev t x = aev t2 x := by
    intro x hx
    cases x with
    | tmp k =>
      unfold aev
      simp only []
      cases hb : Nat.ble k 255 with
      | false => rfl
      | true => rw [h k (Nat.le_of_ble_eq_true hb) (nm_op hx)]
    | const v => rfl
    | global g => rfl
    | func f => rfl
  have hput : ∀ {v : Value} {a b : Hp} {tx : TT}, Tells (putK N t o.dst v) a tx b → ∃ ty, (∀ c, Tells (putK N t2 o.dst v) c ty c) ∧ b = a ∧ ((o.dst = none ∧ tx = t ∧ ty = t2) ∨ ∃ d v, o.dst = some d ∧ d < N ∧ tx = tset8 t d v id ∧ ty = tset8 t2 d v id) := by
    intro v a b tx hp
    obtain ⟨hb, hc⟩ := tells_put hp
    rcases hc with ⟨h1, h2⟩ | ⟨d, h1, h2, h3⟩
    · exact ⟨t2, fun c => ⟨fun J => by rw [h1]; rfl⟩, hb, .inl ⟨h1, h2, rfl⟩⟩
    · refine ⟨tset8 t2 d v id, fun c => ⟨fun J => ?_⟩, hb, .inr ⟨d, v, h1, h2, h3, rfl⟩⟩
      rw [h1]
      unfold putK
      have hlt : Nat.blt d N = true := by rw [blt_eq]; simpa using h2
      simp only [hlt]
      rw [tset8_eq]; rfl
  unfold opK at ht ⊢
  simp only [] at ht ⊢
  rw [hw]
  cases hq : wantedK ops t o with
  | none => rw [hq] at ht; exact (tells_fail ht).elim
  | some b =>
    rw [hq] at ht
    cases b with
    | false =>
      simp only [] at ht ⊢
      obtain ⟨tx, s1, k1, k2, _⟩ := tells_bind (good_putK _ _ _ _) ht
      obtain ⟨e, rfl⟩ := tells_pure k2
      cases e
      obtain ⟨ty, h1, rfl, h2⟩ := hput k1
      refine ⟨ty, ⟨fun J => ?_⟩, h2⟩
      exact (h1 s').eq _
    | true =>
      simp only [] at ht ⊢
      obtain ⟨x, s1, k1, k2, _⟩ := tells_bind (good_disp P hE o _ ds) ht
      obtain ⟨v, ds1⟩ := x
      simp only [] at k2
      obtain ⟨tx, s2, k3, k4, _⟩ := tells_bind (good_putK _ _ _ _) k2
      obtain ⟨e, rfl⟩ := tells_pure k4
      cases e
      obtain ⟨ty, h1, rfl, h2⟩ := hput k3
      rw [disp_congr hev] at k1
      refine ⟨ty, ⟨fun J => ?_⟩, h2⟩
      show ((disp P o).f E (aev t2) ds).run s _ = _
      rw [k1.eq]
      exact (h1 s').eq _
theorem tells_trk {α : Type} {F : M α} (hF : Good F) {s s' : Hp} {a : α} {r q : Nat} (h : Tells (mtrk F) s (a, r, q) s') :
    s.n ≤ s'.n ∧ (∀ id, q.testBit id = false → s'.f id = s.f id) ∧ (∀ id, s.n ≤ id → id < s'.n → q.testBit id = true) ∧
      ∀ g : Hp, g.n = s.n → (∀ id, (r ||| q).testBit id = true → g.f id = s.f id) → ∃ g', Tells F g a g' ∧ g'.n = s'.n ∧ (∀ id, q.testBit id = true → g'.f id = s'.f id) ∧ (∀ id, q.testBit id = false → g'.f id = g.f id) := by
  have e := h.pair
  rw [mtrk_eq] at e
  obtain ⟨a1, s1, r1, q1, e1, f, g1⟩ := hF.ok _ _ _ e
  rw [e1] at e
  have hr : s1.rd = r1 := by rw [f.rd]; simp
  have hq : s1.wr = q1 := by rw [f.wr]; simp
  rw [hr, hq] at e
  cases e
  refine ⟨f.n, fun id h => f.off id h, fun id h1 h2 => f.new id h1 h2, fun g hgn hg => ?_⟩
  obtain ⟨g', hp, eg⟩ := g1 g ⟨hgn, fun id h => hg id h⟩
  exact ⟨g', ⟨fun J => eg J⟩, hp.n, fun id h => hp.on id h, fun id h => hp.off id h⟩
end Go.Proofs.YtpijenlmfmknnaaGreatDoor

/- A region that draws its order: whatever the order, it comes to what the text's order comes to, for what clashes is in order. No program. -/
namespace Go.Proofs.YtpijenlmfmknnaaGreatDoor
open Go.RowKit
set_option linter.unusedVariables false
variable {P : Program}

def trk (ops : Array Oper) (R Q : Nat → Nat) (i : Nat) (o : Oper) : Trk := ⟨Q i, Nat.lor (R i) (Q i), bitOf o.dst, namesT ops o⟩
theorem apart_all {b : Nat} {x : Trk} : ∀ (acc : List Trk) (k : Nat), apart b x k acc = true → acc.length = k → ∀ m, m < k → ∀ y, acc[k - 1 - m]? = some y → clash y x = true → b.testBit m = true
  | [], k, h, hl, m, hm, y, hy, hc => by simp at hl; omega
  | z :: acc, k, h, hl, m, hm, y, hy, hc => by
    cases k with
    | zero => omega
    | succ k =>
      unfold apart at h
      rw [Bool.and_eq_true] at h
      by_cases e : m = k
      · subst e
        simp at hy
        subst hy
        rw [hc] at h
        simpa using h.1
      · have : k + 1 - 1 - m = (k - 1 - m) + 1 := by omega
        rw [this, List.getElem?_cons_succ] at hy
        exact apart_all acc k h.2 (by simpa using hl) m (by omega) y hy hc
/-- The text's order, step by step. -/
theorem draw_trace {E : Callee'} (hE : GoodE E) {N : Nat} {ops : Array Oper} : ∀ (l : List Oper) (bef : List Nat) (k : Nat) (acc : List Trk) (t t' : TT) (s s' : Hp), Tells (drawK P E N ops [] l bef k acc t) s t' s' → acc.length = k →
    ∃ (S : Nat → Hp) (T : Nat → TT) (R Q : Nat → Nat), S 0 = s ∧ T 0 = t ∧ S l.length = s' ∧ T l.length = t' ∧
      (∀ (j : Nat) o, l[j]? = some o → Tells (mtrk (opK P E N ops o (T j, []))) (S j) ((T (j + 1), []), R j, Q j) (S (j + 1))) ∧
      (∀ (j : Nat) o, l[j]? = some o → (∀ m, m < k → ∀ x, acc[k - 1 - m]? = some x → clash x (trk ops R Q j o) = true → (bef.getD j 0).testBit m = true) ∧
        ∀ (i : Nat) oi, i < j → l[i]? = some oi → clash (trk ops R Q i oi) (trk ops R Q j o) = true → (bef.getD j 0).testBit (k + i) = true)
  | [], bef, k, acc, t, t', s, s', h, hk => by
    unfold drawK at h
    obtain ⟨rfl, rfl⟩ := tells_pure h
    exact ⟨fun _ => s', fun _ => t', fun _ => 0, fun _ => 0, rfl, rfl, rfl, rfl, fun j o hj => by simp at hj, fun j o hj => by simp at hj⟩
  | o :: l, bef, k, acc, t, t', s, s', h, hk => by
    unfold drawK at h
    obtain ⟨x, s1, h1, h2, _⟩ := tells_bind (good_mtrk (good_opK P hE N ops o _)) h
    obtain ⟨⟨t1, ds1⟩, r, q⟩ := x
    simp only [] at h2
    split at h2
    · rename_i hc
      rw [Bool.and_eq_true] at hc
      have hd : ds1 = [] := by simpa using hc.1
      subst hd
      rw [forceN_eq] at h2
      obtain ⟨S, T, R, Q, e1, e2, e3, e4, e5, e6⟩ := draw_trace hE l bef.tail (k + 1) (⟨q, Nat.lor r q, bitOf o.dst, namesT ops o⟩ :: acc) t1 t' s1 s' h2 (by simp [hk])
      refine ⟨fun | 0 => s | j + 1 => S j, fun | 0 => t | j + 1 => T j, fun | 0 => r | j + 1 => R j, fun | 0 => q | j + 1 => Q j, rfl, rfl, e3, e4, fun j o' hj => ?_, fun j o' hj => ?_⟩
      · cases j with
        | zero =>
          simp at hj
          subst hj
          show Tells _ s ((T 0, []), r, q) (S 0)
          rw [e1, e2]; exact h1
        | succ j => exact e5 j o' (by simpa using hj)
      · have hbef : ∀ j, bef.getD (j + 1) 0 = bef.tail.getD j 0 := fun j => by cases bef <;> simp
        cases j with
        | zero =>
          simp at hj
          subst hj
          refine ⟨fun m hm y hy hcl => ?_, fun i oi hi => by omega⟩
          have hb0 : bef.getD 0 0 = bef.headD 0 := by cases bef <;> rfl
          rw [hb0]
          exact apart_all acc k hc.2 hk m hm y hy hcl
        | succ j =>
          obtain ⟨f1, f2⟩ := e6 j o' (by simpa using hj)
          rw [hbef]
          refine ⟨fun m hm y hy hcl => ?_, fun i oi hi hoi hcl => ?_⟩
          · exact f1 m (by omega) y (by rw [show k + 1 - 1 - m = (k - 1 - m) + 1 by omega, List.getElem?_cons_succ]; exact hy) hcl
          · cases i with
            | zero =>
              simp at hoi
              subst hoi
              exact f1 k (by omega) _ (by rw [show k + 1 - 1 - k = 0 by omega]; rfl) hcl
            | succ i =>
              have := f2 i oi (by omega) (by simpa using hoi) hcl
              rw [show k + (i + 1) = k + 1 + i by omega]; exact this
    · exact (tells_fail h2).elim

/-! The store where some are listed. -/
def HLm (S : Nat → Hp) (Q : Nat → Nat) (L : Nat → Bool) : Nat → Hf
  | 0 => (S 0).f
  | j + 1 => fun id => if L j && (Q j).testBit id then (S (j + 1)).f id else HLm S Q L j id
def TLm (T : Nat → TT) (D : Nat → Option Tmp) (L : Nat → Bool) : Nat → Nat → Value
  | 0 => tget8 (T 0)
  | j + 1 => fun k => if L j && decide (D j = some k) then tget8 (T (j + 1)) k else TLm T D L j k
section
variable {S : Nat → Hp} {Q : Nat → Nat} {T : Nat → TT} {D : Nat → Option Tmp} {L L' : Nat → Bool} {n : Nat}
theorem HL_pre (hs : ∀ i id, i < n → (Q i).testBit id = false → (S (i + 1)).f id = (S i).f id) {id : Nat} : ∀ m, m ≤ n → (∀ j, j < m → L j = false → (Q j).testBit id = false) → HLm S Q L m id = (S m).f id
  | 0, _, _ => rfl
  | m + 1, hm, h => by
    have ih := HL_pre hs m (by omega) fun j hj => h j (by omega)
    show (if L m && (Q m).testBit id then (S (m + 1)).f id else HLm S Q L m id) = _
    cases hq : (Q m).testBit id with
    | true =>
      cases hl : L m with
      | true => rfl
      | false => rw [h m (by omega) hl] at hq; cases hq
    | false => rw [Bool.and_false]; simp only [Bool.false_eq_true, if_false]; rw [ih, hs m id (by omega) hq]
theorem HL_post {id : Nat} {m : Nat} : ∀ k, (∀ j, m ≤ j → j < m + k → L j = true → (Q j).testBit id = false) → HLm S Q L (m + k) id = HLm S Q L m id
  | 0, _ => rfl
  | k + 1, h => by
    have ih := HL_post k fun j h1 h2 => h j h1 (by omega)
    show (if L (m + k) && (Q (m + k)).testBit id then (S (m + k + 1)).f id else HLm S Q L (m + k) id) = _
    rw [if_neg, ih]
    rw [Bool.and_eq_true]
    rintro ⟨h1, h2⟩
    rw [h (m + k) (by omega) (by omega) h1] at h2; cases h2
theorem HL_same {id i : Nat} (hL : ∀ j, j ≠ i → L' j = L j) (hq : (Q i).testBit id = false) : ∀ m, HLm S Q L' m id = HLm S Q L m id
  | 0 => rfl
  | m + 1 => by
    have ih := HL_same hL hq m
    show (if L' m && (Q m).testBit id then (S (m + 1)).f id else HLm S Q L' m id) = (if L m && (Q m).testBit id then (S (m + 1)).f id else HLm S Q L m id)
    rw [ih]
    by_cases e : m = i
    · subst e; rw [hq]; simp
    · rw [hL m e]
theorem TL_pre (hs : ∀ i k, i < n → k ≤ 255 → D i ≠ some k → tget8 (T (i + 1)) k = tget8 (T i) k) {k : Nat} (hk : k ≤ 255) : ∀ m, m ≤ n → (∀ j, j < m → L j = false → D j ≠ some k) → TLm T D L m k = tget8 (T m) k
  | 0, _, _ => rfl
  | m + 1, hm, h => by
    have ih := TL_pre hs hk m (by omega) fun j hj => h j (by omega)
    show (if L m && decide (D m = some k) then tget8 (T (m + 1)) k else TLm T D L m k) = _
    by_cases hq : D m = some k
    · cases hl : L m with
      | true => simp [hq]
      | false => exact absurd hq (h m (by omega) hl)
    · rw [if_neg (by simp [hq]), ih, hs m k (by omega) hk hq]
theorem TL_post {k : Nat} {m : Nat} : ∀ j0, (∀ j, m ≤ j → j < m + j0 → L j = true → D j ≠ some k) → TLm T D L (m + j0) k = TLm T D L m k
  | 0, _ => rfl
  | j0 + 1, h => by
    have ih := TL_post j0 fun j h1 h2 => h j h1 (by omega)
    show (if L (m + j0) && decide (D (m + j0) = some k) then tget8 (T (m + j0 + 1)) k else TLm T D L (m + j0) k) = _
    rw [if_neg, ih]
    rw [Bool.and_eq_true, decide_eq_true_eq]
    rintro ⟨h1, h2⟩
    exact h (m + j0) (by omega) (by omega) h1 h2
theorem TL_same {k i : Nat} (hL : ∀ j, j ≠ i → L' j = L j) (hq : D i ≠ some k) : ∀ m, TLm T D L' m k = TLm T D L m k
  | 0 => rfl
  | m + 1 => by
    have ih := TL_same hL hq m
    show (if L' m && decide (D m = some k) then tget8 (T (m + 1)) k else TLm T D L' m k) = (if L m && decide (D m = some k) then tget8 (T (m + 1)) k else TLm T D L m k)
    rw [ih]
    by_cases e : m = i
    · subst e; simp [hq]
    · rw [hL m e]
end
theorem land_bit {a b i : Nat} (ha : a.testBit i = true) (hb : b.testBit i = true) : Nat.land a b ≠ 0 := fun h => by
  have : (a &&& b).testBit i = true := by rw [Nat.testBit_and, ha, hb]; rfl
  rw [show a &&& b = Nat.land a b from rfl, h] at this
  simp at this
theorem clash_of {x y : Trk} {i : Nat} (h : (x.q.testBit i = true ∧ y.a.testBit i = true) ∨ (y.q.testBit i = true ∧ x.a.testBit i = true) ∨ (x.tw.testBit i = true ∧ y.ta.testBit i = true) ∨ (y.tw.testBit i = true ∧ x.ta.testBit i = true)) : clash x y = true := by
  unfold clash
  rw [Bool.not_eq_true', beq_nat, decide_eq_false_iff_not]
  intro he
  have hz : ∀ {a b : Nat}, Nat.lor a b = 0 → a = 0 ∧ b = 0 := fun {a b} hab => by
    have : a ||| b = 0 := hab
    exact Nat.or_eq_zero_iff.1 this
  obtain ⟨h1, h2⟩ := hz he
  obtain ⟨h3, h4⟩ := hz h1
  obtain ⟨h5, h6⟩ := hz h2
  rcases h with ⟨a, b⟩ | ⟨a, b⟩ | ⟨a, b⟩ | ⟨a, b⟩
  · exact land_bit a b h3
  · exact land_bit a b h4
  · exact land_bit a b h5
  · exact land_bit a b h6
end Go.Proofs.YtpijenlmfmknnaaGreatDoor

/- A region that draws its order is sound. No program. -/
namespace Go.Proofs.YtpijenlmfmknnaaGreatDoor
open Go.RowKit
set_option linter.unusedVariables false
variable {P : Program}

theorem HL_none {S : Nat → Hp} {Q : Nat → Nat} {L : Nat → Bool} {id : Nat} (h : 8191 < id) : ∀ m, HLm S Q L m id = none
  | 0 => if_neg (by omega)
  | m + 1 => by
    show (if L m && (Q m).testBit id then (S (m + 1)).f id else HLm S Q L m id) = none
    split
    · exact if_neg (by omega)
    · exact HL_none h m
def Lf (L : Array Bool) (j : Nat) : Bool := L.getD j false
/-- What comes before a listed one is listed. -/
def Cl (ops : Array Oper) (L : Array Bool) : Prop := ∀ j i, Lf L j = true → ((Region.before ops).getD j 0).testBit i = true → Lf L i = true
theorem snd_draw (hm : P.follows .mixedOrders = true) {E : Callee'} (hE : GoodE E) (hC : CallOk P E) {ops : Array Oper} {N idr : Nat} {t t' : TT} {a : Act} {w0 w : World} {B : Nat} {ρ0 : Rn} {s s' : Hp} (hed : edgesOk ops = true) (ha : ActR ρ0 N t [] a)
    (ht : Tells (drawK P E N ops [] ops.toList (Region.before ops).toList 0 [] t) s t' s') (H : HR w0 B ρ0 s.f w) (hfr : Free ρ0 s.n s'.n) {Q : Exit → Act → World → Prop} (hk : ∀ a' w', After w0 B ρ0 s s' N t' [] a' w' → Q .normal a' w') :
    (Code.region idr ops true).wp P Q a w := by
  obtain ⟨S, T, R, Qf, e1, e2, e3, e4, e5, e6⟩ := draw_trace hE _ _ _ _ _ _ _ _ ht rfl
  have hop : ∀ (i : Nat) o, ops[i]? = some o → Tells (mtrk (opK P E N ops o (T i, []))) (S i) ((T (i + 1), []), R i, Qf i) (S (i + 1)) := fun i o ho => e5 i o (by simpa using ho)
  have hlt : ∀ i, i < ops.size → ∃ o, ops[i]? = some o := fun i hi => ⟨_, Array.getElem?_eq_getElem hi⟩
  have hsz : ∀ {i : Nat} {o : Oper}, ops[i]? = some o → i < ops.size := fun {i o} ho => by
    rcases Nat.lt_or_ge i ops.size with h | h
    · exact h
    · rw [Array.getElem?_eq_none h] at ho; cases ho
  have hlen : ops.toList.length = ops.size := Array.length_toList
  rw [hlen] at e3 e4
  have htrk : ∀ (i : Nat) o, ops[i]? = some o → _ := fun i o ho => tells_trk (good_opK P hE N ops o _) (hop i o ho)
  have hn1 : ∀ i, i < ops.size → (S i).n ≤ (S (i + 1)).n := fun i hi => let ⟨o, ho⟩ := hlt i hi; (htrk i o ho).1
  have hmono : ∀ k i, i + k ≤ ops.size → (S i).n ≤ (S (i + k)).n := by
    intro k
    induction k with
    | zero => exact fun i _ => Nat.le_refl _
    | succ k ih => exact fun i h => Nat.le_trans (ih i (by omega)) (hn1 (i + k) (by omega))
  have hmon : ∀ i j, i ≤ j → j ≤ ops.size → (S i).n ≤ (S j).n := fun i j hij hj => by
    have := hmono (j - i) i (by omega)
    rwa [show i + (j - i) = j by omega] at this
  have hsf : ∀ i id, i < ops.size → (Qf i).testBit id = false → (S (i + 1)).f id = (S i).f id := fun i id hi h => let ⟨o, ho⟩ := hlt i hi; (htrk i o ho).2.1 id h
  -- temporaries
  obtain ⟨D, hD⟩ : ∃ D : Nat → Option Tmp, D = fun i => (ops[i]?).bind (·.dst) := ⟨_, rfl⟩
  have hDo : ∀ {i : Nat} {o : Oper}, ops[i]? = some o → D i = o.dst := fun {i o} ho => by rw [hD]; simp only [ho]; rfl
  have hstart : ∀ (i : Nat) o, ops[i]? = some o → ∃ g', Tells (opK P E N ops o (T i, [])) (S i) (T (i + 1), []) g' := fun i o ho => by
    obtain ⟨g', h1, _⟩ := (htrk i o ho).2.2.2 (S i) rfl fun _ _ => rfl
    exact ⟨g', h1⟩
  have hst : ∀ i k, i < ops.size → k ≤ 255 → D i ≠ some k → tget8 (T (i + 1)) k = tget8 (T i) k := by
    intro i k hi hk hd
    obtain ⟨o, ho⟩ := hlt i hi
    obtain ⟨g', h1⟩ := hstart i o ho
    obtain ⟨t2, _, hc⟩ := opK_congr hE (fun _ _ _ => rfl) h1
    rcases hc with ⟨_, h2, _⟩ | ⟨d, v, h2, h3, h4, _⟩
    · rw [h2]
    · rw [h4, tget8_put _ d k _ (Nat.le_of_lt_succ (Nat.lt_of_lt_of_le h3 ha.le)) hk, if_neg]
      intro e; subst e
      exact hd ((hDo ho).trans h2)
  -- what clashes is in order
  have hbef := before_ok ops
  have hcl : ∀ (i j : Nat) oi oj, i < j → ops[i]? = some oi → ops[j]? = some oj → clash (trk ops R Qf i oi) (trk ops R Qf j oj) = true → ((Region.before ops).getD j 0).testBit i = true := by
    intro i j oi oj hij hoi hoj hc
    have := (e6 j oj (by simpa using hoj)).2 i oi hij (by simpa using hoi) hc
    rw [Nat.zero_add] at this
    rw [← this]
    congr 1
    rw [Array.getD_eq_getD_getElem?, List.getD_eq_getElem?_getD, Array.getElem?_toList]
  have hbsz : ∀ {j i : Nat}, ((Region.before ops).getD j 0).testBit i = true → j < (Region.before ops).size := fun {j i} h => by
    rcases Nat.lt_or_ge j (Region.before ops).size with h' | h'
    · exact h'
    · rw [Array.getD_eq_getD_getElem?, Array.getElem?_eq_none h'] at h; simp at h
  refine region_inv hm (fun L a w => L.size = ops.size ∧ Cl ops L ∧ ∃ ρ, HR w0 B ρ (HLm S Qf (Lf L) ops.size) w ∧ ρ0.le ρ ∧ (∀ id, ρ id = ρ0 id ∨ ∃ i, i < ops.size ∧ Lf L i = true ∧ (S i).n ≤ id ∧ id < (S (i + 1)).n) ∧
    a.tmps.size = N ∧ (∀ k, k ≤ 255 → VL ρ (TLm T D (Lf L) ops.size k) (a.tmps.getD k undef)) ∧ a.defers = []) (fun L a w h => h.1) ?_ ?_ ?_
  · -- at the beginning
    have hL0 : ∀ j, Lf (Array.replicate ops.size false) j = false := fun j => by
      show (Array.replicate ops.size false).getD j false = false
      rw [Array.getD_eq_getD_getElem?, Array.getElem?_replicate]
      split <;> rfl
    refine ⟨by simp, (fun j i hj => by rw [hL0] at hj; cases hj), ρ0, ?_, .rfl, fun id => .inl rfl, ha.size, fun k hk => ?_, ?_⟩
    · refine (H.drew _).congr fun id => ?_
      have := HL_post (S := S) (Q := Qf) (L := Lf (Array.replicate ops.size false)) (id := id) (m := 0) ops.size fun j _ _ hj => by rw [hL0] at hj; cases hj
      rw [Nat.zero_add] at this
      rw [this]
      show (S 0).f id = s.f id
      rw [e1]
    · have := TL_post (T := T) (D := D) (L := Lf (Array.replicate ops.size false)) (k := k) (m := 0) ops.size fun j _ _ hj => by rw [hL0] at hj; cases hj
      rw [Nat.zero_add] at this
      rw [this]
      show VL ρ0 (tget8 (T 0) k) _
      rw [e2]; exact ha.tm k hk
    · exact ha.df
  · -- one more
    rintro L a1 w1 i o ⟨hLs, hCl, ρ, H1, hle, hout, hts, htm, hdf⟩ hr ho
    have hi := hsz ho
    have hLi : Lf L i = false := by
      have := ready_off hLs hr
      show L.getD i false = false
      rw [Array.getD_eq_getD_getElem?, ← Array.getElem?_toList, this]; rfl
    -- what comes before it is listed
    have hpre : ∀ j, ((Region.before ops).getD i 0).testBit j = true → Lf L j = true := by
      intro j hj
      obtain ⟨o', e, h1, h2, h3, h4⟩ := hbef i (hbsz hj) j hj
      rw [ho] at h1; cases h1
      have hon : Lf L e.on = true := ready_pred hr ho e.on (by
        rw [Array.any_eq_true']
        exact ⟨e, Array.mem_toList_iff.1 h2, by simp [h3]⟩)
      rcases h4 with h4 | ⟨_, h4⟩
      · rw [h4]; exact hon
      · exact hCl e.on j hon h4
    -- none that clashes with it has come too early, nor is one wanting
    have early : ∀ j oj, ops[j]? = some oj → j < i → Lf L j = false → clash (trk ops R Qf j oj) (trk ops R Qf i o) = false := fun j oj hoj hji hj => by
      cases hc : clash (trk ops R Qf j oj) (trk ops R Qf i o) with
      | false => rfl
      | true => rw [hpre j (hcl j i oj o hji hoj ho hc)] at hj; cases hj
    have late : ∀ j oj, ops[j]? = some oj → i < j → Lf L j = true → clash (trk ops R Qf i o) (trk ops R Qf j oj) = false := fun j oj hoj hij hj => by
      cases hc : clash (trk ops R Qf i o) (trk ops R Qf j oj) with
      | false => rfl
      | true => rw [hCl j i hj (hcl i j o oj hij ho hoj hc)] at hLi; cases hLi
    have split_at : ∀ m, m ≤ ops.size → m + (ops.size - m) = ops.size := fun m hm => by omega
    have hall : ∀ {x y : Nat}, (Nat.lor x y) = x ||| y := fun {x y} => rfl
    -- the store where it runs
    have hA : ∀ id, (R i ||| Qf i).testBit id = true → HLm S Qf (Lf L) ops.size id = (S i).f id := by
      intro id hid
      have h1 : HLm S Qf (Lf L) i id = (S i).f id := HL_pre hsf i (by omega) fun j hj hl => by
        obtain ⟨oj, hoj⟩ := hlt j (by omega)
        cases hq : (Qf j).testBit id with
        | false => rfl
        | true =>
          have := early j oj hoj hj hl
          rw [clash_of (x := trk ops R Qf j oj) (y := trk ops R Qf i o) (i := id) (.inl ⟨hq, hid⟩)] at this; cases this
      have h2 := HL_post (S := S) (Q := Qf) (L := Lf L) (id := id) (m := i) (ops.size - i) fun j h1 h2 hl => by
        have hne : j ≠ i := fun e => by subst e; rw [hLi] at hl; cases hl
        obtain ⟨oj, hoj⟩ := hlt j (by omega)
        cases hq : (Qf j).testBit id with
        | false => rfl
        | true =>
          have := late j oj hoj (by omega) hl
          rw [clash_of (x := trk ops R Qf i o) (y := trk ops R Qf j oj) (i := id) (.inr (.inl ⟨hq, hid⟩))] at this; cases this
      rw [split_at i (by omega)] at h2
      rw [h2, h1]
    have dbit : ∀ {x : Option Tmp} {k : Nat}, x = some k → (bitOf x).testBit k = true := fun {x k} hx => by rw [hx]; exact bit_self k
    have hT : ∀ k, k ≤ 255 → Nm ops o k → TLm T D (Lf L) ops.size k = tget8 (T i) k := by
      intro k hk hnm
      have h1 : TLm T D (Lf L) i k = tget8 (T i) k := TL_pre hst hk i (by omega) fun j hj hl hd => by
        obtain ⟨oj, hoj⟩ := hlt j (by omega)
        have := early j oj hoj hj hl
        rw [clash_of (x := trk ops R Qf j oj) (y := trk ops R Qf i o) (i := k) (.inr (.inr (.inl ⟨dbit ((hDo hoj).symm.trans hd), hnm⟩)))] at this; cases this
      have h2 := TL_post (T := T) (D := D) (L := Lf L) (k := k) (m := i) (ops.size - i) fun j h1 h2 hl hd => by
        have hne : j ≠ i := fun e => by subst e; rw [hLi] at hl; cases hl
        obtain ⟨oj, hoj⟩ := hlt j (by omega)
        have := late j oj hoj (by omega) hl
        rw [clash_of (x := trk ops R Qf i o) (y := trk ops R Qf j oj) (i := k) (.inr (.inr (.inr ⟨dbit ((hDo hoj).symm.trans hd), hnm⟩)))] at this; cases this
      rw [split_at i (by omega)] at h2
      rw [h2, h1]
    obtain ⟨g, hgf, hgn, _, _⟩ := hp_of (HLm S Qf (Lf L) ops.size) (S i).n fun id h => HL_none h _
    obtain ⟨tL, htL⟩ := tt_of (TLm T D (Lf L) ops.size)
    obtain ⟨g', k1, k2, k3, k4⟩ := (htrk i o ho).2.2.2 g hgn fun id h => by rw [hgf]; exact hA id h
    obtain ⟨tL', k5, k6⟩ := opK_congr hE (t2 := tL) (fun k hk hnm => by rw [htL k hk]; exact hT k hk hnm) k1
    have haL : ActR ρ N tL [] a1 := ⟨hts, ha.le, fun k hk => by rw [htL k hk]; exact htm k hk, hdf⟩
    have hfree : Free ρ g.n g'.n := by
      intro id h1 h2
      rw [hgn] at h1
      rw [k2] at h2
      rcases hout id with h | ⟨j, hj, hlj, h3, h4⟩
      · rw [h]
        refine hfr id ?_ ?_
        · rw [← e1]; exact Nat.le_trans (hmon 0 i (by omega) (by omega)) h1
        · rw [← e3]; exact Nat.lt_of_lt_of_le h2 (hmon (i + 1) ops.size (by omega) (by omega))
      · exfalso
        have hne : j ≠ i := fun e => by subst e; rw [hLi] at hlj; cases hlj
        rcases Nat.lt_or_gt_of_ne hne with hji | hji
        · have := hmon (j + 1) i (by omega) (by omega); omega
        · have := hmon (i + 1) j (by omega) (by omega); omega
    refine snd_opK hE hC haL k5 (by rw [hgf]; exact H1) hfree Q fun a2 w2 hA2 => ?_
    obtain ⟨ρ2, H2, hX2, ha2⟩ := hA2
    -- behind it
    have hL2 : ∀ j, Lf (L.setIfInBounds i true) j = if j = i then true else Lf L j := fun j => by
      show (L.setIfInBounds i true).getD j false = if j = i then true else L.getD j false
      rw [Array.getD_eq_getD_getElem?, Array.getD_eq_getD_getElem?, Array.getElem?_setIfInBounds]
      by_cases e : i = j
      · subst e; rw [if_pos rfl, if_pos rfl, if_pos (by omega)]; rfl
      · rw [if_neg e, if_neg (fun h => e h.symm)]
    have hLne : ∀ j, j ≠ i → Lf (L.setIfInBounds i true) j = Lf L j := fun j hj => by rw [hL2, if_neg hj]
    refine ⟨by simp [hLs], fun j i' hj hb => ?_, ρ2, ?_, hle.trans hX2.le, fun id => ?_, ha2.size, fun k hk => ?_, ha2.df⟩
    · rw [hL2] at hj ⊢
      by_cases e : i' = i
      · rw [if_pos e]
      · rw [if_neg e]
        by_cases e2 : j = i
        · subst e2; exact hpre i' hb
        · rw [if_neg e2] at hj; exact hCl j i' hj hb
    · refine H2.congr fun id => ?_
      cases hq : (Qf i).testBit id with
      | false => rw [HL_same hLne hq, k4 id hq, hgf]
      | true =>
        rw [k3 id hq]
        have h1 : HLm S Qf (Lf (L.setIfInBounds i true)) (i + 1) id = (S (i + 1)).f id := by
          show (if Lf (L.setIfInBounds i true) i && (Qf i).testBit id then _ else _) = _
          rw [hL2, if_pos rfl, hq]; rfl
        have h2 := HL_post (S := S) (Q := Qf) (L := Lf (L.setIfInBounds i true)) (id := id) (m := i + 1) (ops.size - (i + 1)) fun j h1 h2 hl => by
          rw [hLne j (by omega)] at hl
          obtain ⟨oj, hoj⟩ := hlt j (by omega)
          cases hq2 : (Qf j).testBit id with
          | false => rfl
          | true =>
            have := late j oj hoj (by omega) hl
            rw [clash_of (x := trk ops R Qf i o) (y := trk ops R Qf j oj) (i := id) (.inl ⟨hq, by show (R j ||| Qf j).testBit id = true; rw [Nat.testBit_or, hq2]; simp⟩)] at this; cases this
        rw [split_at (i + 1) (by omega)] at h2
        rw [h2, h1]
    · by_cases hin : g.n ≤ id ∧ id < g'.n
      · exact .inr ⟨i, hi, by rw [hL2, if_pos rfl], by rw [← hgn]; exact hin.1, by rw [← k2]; exact hin.2⟩
      · rw [hX2.out id hin]
        rcases hout id with h | ⟨j, h1, h2, h3⟩
        · exact .inl h
        · refine .inr ⟨j, h1, ?_, h3⟩
          rw [hL2]; split
          · rfl
          · exact h2
    · have hv := ha2.tm k hk
      have hgoal : TLm T D (Lf (L.setIfInBounds i true)) ops.size k = tget8 tL' k := by
        by_cases hd : D i = some k
        · have h1 : TLm T D (Lf (L.setIfInBounds i true)) (i + 1) k = tget8 (T (i + 1)) k := by
            show (if Lf (L.setIfInBounds i true) i && decide (D i = some k) then _ else _) = _
            rw [hL2, if_pos rfl]; simp [hd]
          have h2 := TL_post (T := T) (D := D) (L := Lf (L.setIfInBounds i true)) (k := k) (m := i + 1) (ops.size - (i + 1)) fun j h1 h2 hl hdj => by
            rw [hLne j (by omega)] at hl
            obtain ⟨oj, hoj⟩ := hlt j (by omega)
            have := late j oj hoj (by omega) hl
            rw [clash_of (x := trk ops R Qf i o) (y := trk ops R Qf j oj) (i := k) (.inr (.inr (.inl ⟨dbit ((hDo ho).symm.trans hd), nm_dst ((hDo hoj).symm.trans hdj)⟩)))] at this; cases this
          rw [split_at (i + 1) (by omega)] at h2
          rw [h2, h1]
          rcases k6 with ⟨f1, _, _⟩ | ⟨d, v, f1, f2, f3, f4⟩
          · rw [hDo ho, f1] at hd; cases hd
          · have : d = k := by rw [hDo ho, f1] at hd; exact Option.some.inj hd
            subst this
            rw [f3, f4, tget8_put _ d d _ hk hk, tget8_put _ d d _ hk hk]
            simp
        · rw [TL_same hLne hd]
          rcases k6 with ⟨_, _, f3⟩ | ⟨d, v, f1, f2, _, f4⟩
          · rw [f3, htL k hk]
          · rw [f4, tget8_put _ d k _ (Nat.le_of_lt_succ (Nat.lt_of_lt_of_le f2 ha.le)) hk, if_neg, htL k hk]
            intro e; subst e
            exact hd ((hDo ho).trans f1)
      rw [hgoal]; exact hv
  · -- all are listed
    rintro L a1 w1 ⟨hLs, hCl, ρ, H1, hle, hout, hts, htm, hdf⟩ hr
    have hLall : ∀ j, j < ops.size → Lf L j = true := fun j hj => ready_all hLs hed hr (j + 1) j (by omega) hj
    refine hk a1 w1 ⟨ρ, ?_, ⟨hle, fun id hid => ?_⟩, hts, ha.le, fun k hk => ?_, hdf⟩
    · refine H1.congr fun id => ?_
      rw [HL_pre hsf ops.size (Nat.le_refl _) (fun j hj hl => by rw [hLall j hj] at hl; cases hl), e3]
    · rcases hout id with h | ⟨j, h1, h2, h3, h4⟩
      · exact h
      · exfalso
        refine hid ⟨?_, ?_⟩
        · rw [← e1]; exact Nat.le_trans (hmon 0 j (by omega) (by omega)) h3
        · rw [← e3]; exact Nat.lt_of_lt_of_le h4 (hmon (j + 1) ops.size (by omega) (by omega))
    · have := htm k hk
      rw [TL_pre hst hk ops.size (Nat.le_refl _) (fun j hj hl => by rw [hLall j hj] at hl; cases hl), e4] at this
      exact this
end Go.Proofs.YtpijenlmfmknnaaGreatDoor

/- Code and calls of the reckoner are sound. No program. -/
namespace Go.Proofs.YtpijenlmfmknnaaGreatDoor
open Go.RowKit
set_option linter.unusedVariables false
variable {P : Program}

/-- Code run by Ev is sound. -/
def CodeOk (P : Program) (Ev : EvT) : Prop := ∀ (c : Code) (N : Nat) (t : TT) (ds : List Deferred) (s s' : Hp) (e : Exit) (t' : TT) (ds' : List Deferred), Tells (Ev c N (t, ds)) s (e, t', ds') s' →
  ∀ (w0 : World) (B : Nat) (ρ : Rn) (w : World) (a : Act) (Q : Exit → Act → World → Prop), ActR ρ N t ds a → HR w0 B ρ s.f w → Free ρ s.n s'.n → (∀ a' w', After w0 B ρ s s' N t' ds' a' w' → Q e a' w') → c.wp P Q a w
theorem cond_eval {ρ : Rn} {N : Nat} {t : TT} {ds : List Deferred} {a : Act} (ha : ActR ρ N t ds a) (hg : Glo' ρ) {c : Operand} {b : Bool} (h : aev t c = some (.bool b)) : a.eval c = .bool b := VL.bool.1 (env_of ha hg c _ h)
theorem after_trans {w0 : World} {B : Nat} {ρ ρ1 : Rn} {s s1 s' : Hp} {N : Nat} {t' : TT} {ds' : List Deferred} {a' : Act} {w' : World} (hE : Ext ρ ρ1 s.n s1.n) (h1 : s.n ≤ s1.n) (h2 : s1.n ≤ s'.n) (h : After w0 B ρ1 s1 s' N t' ds' a' w') : After w0 B ρ s s' N t' ds' a' w' := by
  obtain ⟨ρ', H', hE', ha'⟩ := h
  exact ⟨ρ', H', hE.trans hE' h1 h2, ha'⟩
theorem code_step (hm : P.follows .mixedOrders = true) {Ev : EvT} {E : Callee'} (hv : ∀ c N a, Good (Ev c N a)) (hE : GoodE E) (hC : CallOk P E) (hok : CodeOk P Ev)
    (hloop : ∀ c, ∀ (N : Nat) (t : TT) (ds : List Deferred) (s s' : Hp) (e : Exit) (t' : TT) (ds' : List Deferred), Tells (mbind (Ev c N (t, ds)) (cdSeq Ev (.loop c) N)) s (e, t', ds') s' →
      ∀ (w0 : World) (B : Nat) (ρ : Rn) (w : World) (a : Act) (Q : Exit → Act → World → Prop), ActR ρ N t ds a → HR w0 B ρ s.f w → Free ρ s.n s'.n → (∀ a' w', After w0 B ρ s s' N t' ds' a' w' → Q e a' w') → (Code.loop c).wp P Q a w) : CodeOk P (evStep P Ev E) := by
  intro c N t ds s s' e t' ds' ht w0 B ρ w a Q ha H hfr hQ
  have ht' : Tells ((stp P c).f Ev E N (t, ds)) s (e, t', ds') s' := ht
  unfold stp at ht'
  have here : (e = .normal ∧ t' = t ∧ ds' = ds ∧ s' = s) → Q .normal a w := by
    rintro ⟨rfl, rfl, rfl, rfl⟩
    exact hQ _ _ ⟨ρ, H, .rfl, ha⟩
  split at ht'
  · obtain ⟨h1, rfl⟩ := tells_pure ht'
    cases h1
    exact wp_skip (hQ _ _ ⟨ρ, H, .rfl, ha⟩)
  · obtain ⟨h1, rfl⟩ := tells_pure ht'
    cases h1
    exact wp_label (hQ _ _ ⟨ρ, H, .rfl, ha⟩)
  · rename_i id ops
    obtain ⟨x, s1, k1, k2, _⟩ := tells_bind (good_opsK P hE _ _ _ _) ht'
    obtain ⟨h1, rfl⟩ := tells_pure k2
    cases h1
    refine wp_region ?_
    have := snd_opsK hE hC ops.toList 0 t ds a w ρ s (fun j o hj => by simpa using hj) ha k1 H hfr hQ
    rw [Array.length_toList, ← List.range_eq_range'] at this
    exact this
  · rename_i id ops
    have ht2 : Tells (cdDraw P E ops N (t, ds)) s (e, t', ds') s' := ht'
    unfold cdDraw at ht2
    split at ht2
    · rename_i t0 hed heq
      cases heq
      obtain ⟨x, s1, k1, k2, _⟩ := tells_bind (good_drawK P hE _ _ _ _ _ _ _ _) ht2
      obtain ⟨h1, rfl⟩ := tells_pure k2
      cases h1
      exact snd_draw hm hE hC hed ha k1 H hfr hQ
    · exact (tells_fail ht2).elim
  · rename_i x y
    obtain ⟨z, s1, k1, k2, hn1⟩ := tells_bind (hv _ _ _) ht'
    obtain ⟨e1, t1, ds1⟩ := z
    have hgs : Good (cdSeq Ev y N (e1, t1, ds1)) := by
      unfold cdSeq
      split
      · exact hv _ _ _
      · exact good_pure _
    have hn2 := k2.le hgs
    refine wp_seq ?_
    refine hok x N t ds s s1 e1 t1 ds1 k1 w0 B ρ w a _ ha H (hfr.left hn2) fun a1 w1 hA => ?_
    obtain ⟨ρ1, H1, hE1, ha1⟩ := id hA
    cases e1 with
    | normal => exact hok y N t1 ds1 s1 s' e t' ds' k2 w0 B ρ1 w1 a1 Q ha1 H1 (hfr.right hn1 hE1) fun a2 w2 hA2 => hQ _ _ (after_trans hE1 hn1 hn2 hA2)
    | _ =>
      obtain ⟨h1, rfl⟩ := tells_pure k2
      cases h1
      exact hQ _ _ hA
  · rename_i c x y
    have ht2 : Tells (cdCond Ev c x y N (t, ds)) s (e, t', ds') s' := ht'
    unfold cdCond at ht2
    split at ht2
    · rename_i hc
      exact wp_cond_true (cond_eval ha H.glo hc) (hok x N t ds s s' e t' ds' ht2 w0 B ρ w a Q ha H hfr hQ)
    · rename_i hc
      exact wp_cond_false (cond_eval ha H.glo hc) (hok y N t ds s s' e t' ds' ht2 w0 B ρ w a Q ha H hfr hQ)
    · exact (tells_fail ht2).elim
  · rename_i bid c
    obtain ⟨z, s1, k1, k2, hn1⟩ := tells_bind (hv _ _ _) ht'
    obtain ⟨e1, t1, ds1⟩ := z
    refine wp_block ?_
    unfold cdBlock at k2
    split at k2
    · rename_i id' x heq
      cases heq
      split at k2
      · rename_i hid
        have hid := Nat.eq_of_beq_eq_true hid
        obtain ⟨h1, rfl⟩ := tells_pure k2
        cases h1
        refine hok c N t ds s _ _ t' ds' k1 w0 B ρ w a _ ha H hfr fun a1 w1 hA => ?_
        show (if id' = bid then Q .normal a1 w1 else Q (.exit id') a1 w1)
        rw [if_pos hid]; exact hQ _ _ hA
      · rename_i hid
        have hid : ¬ id' = bid := fun h => by subst h; rw [Nat.beq_refl] at hid; cases hid
        obtain ⟨h1, rfl⟩ := tells_pure k2
        cases h1
        refine hok c N t ds s _ _ t' ds' k1 w0 B ρ w a _ ha H hfr fun a1 w1 hA => ?_
        show (if id' = bid then Q .normal a1 w1 else Q (.exit id') a1 w1)
        rw [if_neg hid]; exact hQ _ _ hA
    · rename_i hne
      obtain ⟨h1, rfl⟩ := tells_pure k2
      cases h1
      refine hok c N t ds s _ _ t' ds' k1 w0 B ρ w a _ ha H hfr fun a1 w1 hA => ?_
      cases e with
      | exit id' => exact (hne id' (t', ds') rfl).elim
      | _ => exact hQ _ _ hA
  · rename_i c
    exact hloop c N t ds s s' e t' ds' ht' w0 B ρ w a Q ha H hfr hQ
  · rename_i c
    obtain ⟨z, s1, k1, k2, hn1⟩ := tells_bind (hv _ _ _) ht'
    obtain ⟨e1, t1, ds1⟩ := z
    refine wp_scope_straight ?_
    unfold cdScope at k2
    split at k2
    · exact (tells_fail k2).elim
    · rename_i hne
      obtain ⟨h1, rfl⟩ := tells_pure k2
      cases h1
      refine hok c N t ds s _ _ t' ds' k1 w0 B ρ w a _ ha H hfr fun a1 w1 hA => ?_
      cases e with
      | goto l => exact (hne l (t', ds') rfl).elim
      | _ => exact hQ _ _ hA
  · obtain ⟨h1, rfl⟩ := tells_pure ht'
    cases h1
    exact wp_exit (hQ _ _ ⟨ρ, H, .rfl, ha⟩)
  · obtain ⟨h1, rfl⟩ := tells_pure ht'
    cases h1
    exact wp_ret (hQ _ _ ⟨ρ, H, .rfl, ha⟩)
  · exact (tells_fail ht').elim

/-! Results and arguments. -/
theorem loadVar_still {t : TypeId} {a : Addr} {v : Value} {w w' : World} (h : (loadVar t a).run P w = .ok v w') : w' = w := by
  unfold loadVar at h
  rw [Sem.run_bind] at h
  have hag : ∀ r, (isAgg t).run P w = r → (∃ b, r = .ok b w) ∨ ∃ e, r = .halt e w := by
    intro r hr
    unfold isAgg underlying at hr
    simp only [Sem.run_bind, run_program, Result.andThen] at hr
    split at hr
    · rename_i x wx hx
      split at hx
      · cases hx
        split at hr <;> exact .inl ⟨_, hr.symm⟩
      · cases hx
    · rename_i x wx hx
      split at hx
      · cases hx
      · cases hx; exact .inr ⟨_, hr.symm⟩
  have hsz : ∀ r, (Go.sizeOf t).run P w = r → (∃ b, r = .ok b w) ∨ ∃ e, r = .halt e w := by
    intro r hr
    unfold Go.sizeOf typeInfo at hr
    simp only [Sem.run_bind, run_program, Result.andThen] at hr
    split at hr
    · rename_i x wx hx
      split at hx
      · cases hx; exact .inl ⟨_, hr.symm⟩
      · cases hx
    · rename_i x wx hx
      split at hx
      · cases hx
      · cases hx; exact .inr ⟨_, hr.symm⟩
  rcases hag _ rfl with ⟨b, hb⟩ | ⟨e, he⟩
  · rw [hb] at h
    simp only [Result.andThen] at h
    cases b with
    | true =>
      simp only [if_true, Sem.run_bind] at h
      rcases hsz _ rfl with ⟨n, hn⟩ | ⟨e, he⟩
      · rw [hn] at h
        simp only [Result.andThen] at h
        cases hl : (loadCells a n).run P w with
        | ok arr w2 =>
          rw [hl] at h
          simp only [Sem.run_pure, Result.ok.injEq] at h
          have := load_still n 0 a #[] arr w w2 hl
          rw [← h.2, this]
        | halt e w2 => rw [hl] at h; cases h
      · rw [he] at h; cases h
    | false =>
      simp only [Bool.false_eq_true, if_false] at h
      rw [run_load] at h
      split at h
      · cases h; rfl
      · split at h
        · cases h; rfl
        · cases h
  · rw [he] at h; cases h
def resF (tmps : Array Value) : ResultVar → Sem Value
  | .tmp t => Pure.pure (tmps.getD t undef)
  | .cell a t => do loadVar t (← asAddr (tmps.getD a undef))
theorem res_run {ρ : Rn} {N : Nat} {t : TT} {ds : List Deferred} {a : Act} {w0 w : World} {B : Nat} (ha : ActR ρ N t ds a) : ∀ (l : List ResultVar) (s s' : Hp) (vs : List Value), Tells (resK P t l) s vs s' → HR w0 B ρ s.f w →
    s'.f = s.f ∧ s'.n = s.n ∧ ∃ vs', (l.mapM (resF a.tmps)).run P w = .ok vs' w ∧ LR (VL ρ) vs vs'
  | [], s, s', vs, ht, H => by
    obtain ⟨rfl, rfl⟩ := tells_pure ht
    exact ⟨rfl, rfl, [], rfl, rfl⟩
  | .tmp k :: l, s, s', vs, ht, H => by
    unfold resK at ht
    split at ht
    · rename_i hk
      obtain ⟨us, s1, k1, k2, _⟩ := tells_bind (good_resK P t l) ht
      obtain ⟨rfl, rfl⟩ := tells_pure k2
      obtain ⟨f1, f2, us', f3, f4⟩ := res_run ha l s _ us k1 H
      refine ⟨f1, f2, a.tmps.getD k undef :: us', ?_, _, us', rfl, ha.tm k (Nat.le_of_ble_eq_true hk), f4⟩
      simp only [List.mapM_cons, Sem.run_bind, resF, Sem.run_pure, Result.andThen, f3]
    · exact (tells_fail ht).elim
  | .cell k ty :: l, s, s', vs, ht, H => by
    unfold resK at ht
    split at ht
    · rename_i x hk hx
      obtain ⟨v, s1, k1, k2, hn1⟩ := tells_bind (good_loadK _ _ _) ht
      obtain ⟨us, s2, k3, k4, _⟩ := tells_bind (good_resK P t l) k2
      obtain ⟨rfl, rfl⟩ := tells_pure k4
      have hr := ha.tm k (Nat.le_of_ble_eq_true hk)
      rw [hx] at hr
      obtain ⟨_, p, hp, e1⟩ := VL.ptr.1 hr
      have hs1 : s1.f = s.f ∧ s1.n = s.n := by
        cases hg : aggOf P ty with
        | none => rw [hg] at k1; cases hz : szOf P ty <;> (rw [hz] at k1; exact (tells_fail k1).elim)
        | some b =>
          cases hz : szOf P ty with
          | none => rw [hg, hz] at k1; cases b <;> exact (tells_fail k1).elim
          | some n =>
            rw [hg, hz] at k1
            cases b with
            | true =>
              obtain ⟨xs, s3, j1, j2, _⟩ := tells_bind (good_mload _ _) k1
              obtain ⟨_, rfl⟩ := tells_pure j2
              obtain ⟨_, _, _, _, _, _, _, _, _, g1, g2⟩ := tells_load j1
              exact ⟨g1, g2⟩
            | false =>
              obtain ⟨xs, s3, j1, j2, _⟩ := tells_bind (good_mload _ _) k1
              obtain ⟨_, rfl⟩ := tells_aev j2
              obtain ⟨_, _, _, _, _, _, _, _, _, g1, g2⟩ := tells_load j1
              exact ⟨g1, g2⟩
      obtain ⟨v', w', ρ', hrun, H', hE, hv⟩ := snd_loadK (P := P) ty (e1 ▸ hr) w0 B s s1 v ρ w .rfl k1 H (fun id h1 h2 => by omega)
      have hρ : ρ' = ρ := by funext id; exact hE.out id (by omega)
      subst hρ
      have hw : w' = w := loadVar_still hrun
      subst hw
      obtain ⟨f1, f2, us', f3, f4⟩ := res_run ha l s1 _ us k3 (by rw [hs1.1]; exact H)
      refine ⟨f1.trans hs1.1, f2.trans hs1.2, v' :: us', ?_, v', us', rfl, hv, f4⟩
      have has : ∀ w, (asAddr (a.tmps.getD k undef)).run P w = .ok ⟨p.blk, p.off + x.off, none⟩ w := fun w => by rw [e1]; rfl
      simp only [List.mapM_cons, Sem.run_bind, resF, has, Result.andThen, hrun, f3, Sem.run_pure]
    · exact (tells_fail ht).elim
theorem results_run {ρ : Rn} {N : Nat} {t : TT} {ds : List Deferred} {a : Act} {w0 w : World} {B : Nat} (ha : ActR ρ N t ds a) {fn : Func} {s s' : Hp} {vs : List Value} (ht : Tells (resK P t fn.results.toList) s vs s') (H : HR w0 B ρ s.f w) :
    s'.f = s.f ∧ s'.n = s.n ∧ ∃ v', (results fn a.tmps).run P w = .ok v' w ∧ VL ρ (tupK vs) v' := by
  obtain ⟨f1, f2, vs', f3, f4⟩ := res_run ha _ s s' vs ht H
  refine ⟨f1, f2, ?_⟩
  have hmm : (fn.results.mapM (resF a.tmps)).run P w = .ok ⟨vs'⟩ w := by
    rw [Array.mapM_eq_mapM_toList, Sem.run_map, f3]; rfl
  have hres : (results fn a.tmps).run P w = .ok (if h : (⟨vs'⟩ : Array Value).size = 1 then (⟨vs'⟩ : Array Value)[0] else .tuple ⟨vs'⟩) w := by
    have : results fn a.tmps = (do let vs ← fn.results.mapM (resF a.tmps); Pure.pure (if h : vs.size = 1 then vs[0] else .tuple vs)) := rfl
    rw [this, Sem.run_bind, hmm]
    rfl
  refine ⟨_, hres, ?_⟩
  match vs, vs', f4 with
  | [], _, e => subst e; exact VL.tuple.2 ⟨[], rfl, rfl⟩
  | [v], _, ⟨v', tl, e, hv, htl⟩ =>
    have : tl = [] := htl
    subst this
    subst e
    exact hv
  | v :: u :: l, _, ⟨v', tl, e, hv, u', tl2, e2, hu, htl⟩ =>
    subst e2
    subst e
    rw [dif_neg (by simp)]
    exact VL.tuple.2 ⟨_, rfl, v', _, rfl, hv, u', tl2, rfl, hu, htl⟩
end Go.Proofs.YtpijenlmfmknnaaGreatDoor

/- Calls of the reckoner are sound, where its hooks are. No program. -/
namespace Go.Proofs.YtpijenlmfmknnaaGreatDoor
open Go.RowKit
set_option linter.unusedVariables false
variable {P : Program}

/-- No function of the program tells the number of goroutines. -/
def NoGo (P : Program) : Prop := ∀ (f : Nat) (fn : Func), P.funcs[f]? = some fn → fn.name ≠ "runtime.NumGoroutine"
def HookOk (P : Program) (X : Hook) : Prop := ∀ f vs F, X f vs = some F → ∀ (s s' : Hp) (v : Value), F s = some (v, s') → ∀ (w0 : World) (B : Nat) (ρ : Rn) (w : World) (vs' : List Value), HR w0 B ρ s.f w → LR (VL ρ) vs vs' → Free ρ s.n s'.n →
  Went P ((callFunc f ⟨vs'⟩).run P w) (Post w0 B ρ s s' v)
/-- A deferred call, while its caller returns. -/
def DefOk (P : Program) (g : FuncId) (vs : List Value) (F : Hp → Option (Value × Hp)) : Prop := ∀ (s s' : Hp) (v : Value), F s = some (v, s') → ∀ (w0 : World) (B : Nat) (ρ : Rn) (w : World) (vs' : List Value), HR w0 B ρ s.f w → LR (VL ρ) vs vs' → Free ρ s.n s'.n →
  (callFunc g ⟨vs'⟩).run P w = .ok (.enter g ⟨vs'⟩) w ∧ CallsD P g ⟨vs'⟩ .returning w fun e u' w' => u' = .returning ∧ (∃ v', e = .returned v') ∧ ∃ ρ', HR w0 B ρ' s'.f w' ∧ Ext ρ ρ' s.n s'.n
def DHookOk (P : Program) (D : Hook) : Prop := ∀ g vs F, D g vs = some F → DefOk P g vs F
theorem tells_args : ∀ (l : List Value) (t t' : TT) (k : Nat) (s s' : Hp), k + l.length ≤ 256 → Tells (argsT t k l) s t' s' → s' = s ∧ ∀ j, j ≤ 255 → tget8 t' j = if k ≤ j ∧ j < k + l.length then (l[j - k]?).getD unV else tget8 t j
  | [], t, t', k, s, s', hk, h => by
    unfold argsT at h
    obtain ⟨rfl, rfl⟩ := tells_pure h
    exact ⟨rfl, fun j hj => by rw [if_neg (by simp)]⟩
  | v :: l, t, t', k, s, s', hk, h => by
    simp only [List.length_cons] at hk
    unfold argsT at h
    obtain ⟨t1, s1, h1, h2, _⟩ := tells_bind (by rw [tset8_eq]; exact good_pure _) h
    rw [tset8_eq] at h1
    obtain ⟨rfl, rfl⟩ := tells_pure h1
    rw [forceN_eq] at h2
    obtain ⟨rfl, h3⟩ := tells_args l _ t' (k + 1) _ s' (by omega) h2
    refine ⟨rfl, fun j hj => ?_⟩
    rw [h3 j hj, tget8_put _ k j _ (by omega) hj]
    simp only [List.length_cons]
    by_cases e : k = j
    · subst e
      rw [if_neg (by omega), if_pos rfl, if_pos (by omega)]
      simp
    · by_cases h4 : k + 1 ≤ j ∧ j < k + 1 + l.length
      · rw [if_pos h4, if_pos (by omega), show j - k = (j - (k + 1)) + 1 by omega]
        simp
      · rw [if_neg h4, if_neg e, if_neg (by omega)]
theorem act_args {ρ : Rn} {vs vs' : List Value} {t : TT} {N : Nat} {s s' : Hp} (hN : N ≤ 256) (hl : vs.length ≤ N) (hvs : LR (VL ρ) vs vs') (ht : Tells (argsT (tmk8 unV) 0 vs) s t s') :
    s' = s ∧ ActR ρ N t [] { tmps := (⟨vs'⟩ : Array Value) ++ Array.replicate (N - (⟨vs'⟩ : Array Value).size) undef, defers := [] } := by
  obtain ⟨h1, h2⟩ := tells_args vs _ t 0 s s' (by omega) ht
  have hlen := hvs.len
  refine ⟨h1, ?_, hN, fun k hk => ?_, rfl⟩
  · simp; omega
  · rw [h2 k hk, tget8_mk]
    simp only [Array.getD_eq_getD_getElem?, Nat.zero_le, true_and, Nat.zero_add, Nat.sub_zero]
    by_cases hlt : k < vs.length
    · rw [if_pos hlt, Array.getElem?_append_left (by simp; omega)]
      obtain ⟨v', e1, hv⟩ := hvs.at (List.getElem?_eq_getElem hlt)
      rw [List.getElem?_eq_getElem hlt]
      have : (⟨vs'⟩ : Array Value)[k]? = some v' := by simpa using e1
      rw [this]; exact hv
    · rw [if_neg hlt, Array.getElem?_append_right (by simp; omega), Array.getElem?_replicate]
      split <;> exact un_rel
theorem enter_run (hN : NoGo P) {f : FuncId} {fn : Func} {c : Code} (hf : P.funcs[f]? = some fn) (hb : fn.body = some c) (args : Array Value) (w : World) : (callFunc f args).run P w = .ok (.enter f args) w := by
  simp [callFunc, hf, hN f fn hf, hb]
theorem body_ok {fn : Func} {args : List Value} {c : Code} {b : Bool} (h : fn.body = some c) (hb : (Nat.ble fn.ntmps 256 && Nat.ble args.length fn.ntmps) = true) : fn.ntmps ≤ 256 ∧ args.length ≤ fn.ntmps := by
  rw [Bool.and_eq_true] at hb
  exact ⟨Nat.le_of_ble_eq_true hb.1, Nat.le_of_ble_eq_true hb.2⟩
theorem tells_run {F : M Value} (hF : Good F) {s s' : Hp} {v : Value} (h : F.run s (fun v s => some (v, s)) = some (v, s')) : Tells F s v s' := by
  obtain ⟨a, s1, r, q, e, f, _⟩ := hF.ok s _ _ h
  have := (e fun v s => some (v, s)).symm.trans h
  cases this
  exact ⟨fun J => e J⟩
/-- A deferred call by its body. -/
theorem callD_ok (hN : NoGo P) {X : Hook} {Ev : EvT} (hv : ∀ c N a, Good (Ev c N a)) (hok : CodeOk P Ev) (g : FuncId) (vs : List Value) : DefOk P g vs (callD P X Ev g vs) := by
  intro s s' v hF w0 B ρ w vs' H hvs hfr
  unfold callD at hF
  split at hF
  · cases hF
  · split at hF
    · cases hF
    · rename_i fn hf
      have hgood : Good (enterD P Ev fn vs) := by
        unfold enterD
        split
        · refine good_bind (good_argsT _ _ _) fun t => good_bind (hv _ _ _) fun x => ?_
          unfold leaveD
          split
          · exact good_bind (good_resK P _ _) fun _ => good_pure _
          · exact good_bind (good_resK P _ _) fun _ => good_pure _
          · exact good_fail
        · exact good_fail
      have ht := tells_run hgood hF
      unfold enterD at ht
      split at ht
      · rename_i c hb hc
        obtain ⟨h1, h2⟩ := body_ok (b := true) hb hc
        obtain ⟨t, s1, k1, k2, _⟩ := tells_bind (good_argsT _ _ _) ht
        obtain ⟨rfl, ha⟩ := act_args h1 h2 hvs k1
        obtain ⟨z, s2, k3, k4, hn2⟩ := tells_bind (hv _ _ _) k2
        obtain ⟨e, t2, ds2⟩ := z
        refine ⟨enter_run hN hf hb _ w, ?_⟩
        have hres : (e = .normal ∨ e = .ret) ∧ ds2 = [] ∧ Tells (mbind (resK P t2 fn.results.toList) fun vs => mpure (tupK vs)) s2 v s' := by
          unfold leaveD at k4
          split at k4
          · rename_i heq; cases heq; exact ⟨.inl rfl, rfl, k4⟩
          · rename_i heq; cases heq; exact ⟨.inr rfl, rfl, k4⟩
          · exact (tells_fail k4).elim
        obtain ⟨he, rfl, k5⟩ := hres
        obtain ⟨us, s3, k6, k7, hn3⟩ := tells_bind (good_resK P _ _) k5
        obtain ⟨rfl, rfl⟩ := tells_pure k7
        refine CallsD.mono (callsD_of_wp hf hb (R := fun e w' => (∃ v', e = .returned v') ∧ ∃ ρ', HR w0 B ρ' s'.f w' ∧ Ext ρ ρ' s1.n s'.n) ?_) fun e u' w' h => ⟨h.1, h.2⟩
        refine hok c fn.ntmps t [] s1 s2 e t2 [] k3 w0 B ρ w _ _ ha H (hfr.left hn3) fun a' w' hA => ?_
        obtain ⟨ρ', H', hE', ha'⟩ := hA
        obtain ⟨f1, f2, v', f3, f4⟩ := results_run ha' k6 H'
        have hdf : a'.defers = [] := ha'.df
        have hgo : a'.defers = [] ∧ ∃ v, (results fn a'.tmps).run P w' = .ok v w' ∧ ((∃ v', Ending.returned v = .returned v') ∧ ∃ ρ', HR w0 B ρ' s'.f w' ∧ Ext ρ ρ' s1.n s'.n) :=
          ⟨hdf, v', f3, ⟨_, rfl⟩, ρ', H'.congr fun id => by rw [f1], by rw [f2]; exact hE'⟩
        rcases he with rfl | rfl
        · exact hgo
        · exact hgo
      · exact (tells_fail ht).elim
theorem leaves_ok {D : Hook} {E : Callee'} (hDg : GoodH D) (hEg : GoodE E) (hD : DHookOk P D) (hE : ∀ g vs, DefOk P g vs (E g vs)) {w0 : World} {B : Nat} {fn : Func} {N : Nat} {t : TT} {a : Act} {R : Ending → World → Prop} {sf : Hp} : ∀ (ds ds' : List Deferred) (s : Hp) (w : World) (ρ : Rn),
    DsR ρ ds ds' → ActR ρ N t [] { tmps := a.tmps, defers := [] } → HR w0 B ρ s.f w → ∀ u, Tells (defsK D E ds) s u sf → Free ρ s.n sf.n → (∀ ρ' w', HR w0 B ρ' sf.f w' → Ext ρ ρ' s.n sf.n → ActR ρ' N t [] { tmps := a.tmps, defers := [] } → ∃ v, (results fn a.tmps).run P w' = .ok v w' ∧ R (.returned v) w') →
    Leaves P fn a.tmps R ds' .returning w
  | [], ds', s, w, ρ, hds, ha, H, u, ht, hfr, hR => by
    have : ds' = [] := hds
    subst this
    unfold defsK at ht
    obtain ⟨_, rfl⟩ := tells_pure ht
    exact hR ρ w H .rfl ha
  | d :: ds, _, s, w, ρ, ⟨d', tl, e, ⟨g, al, bl, al', bl', e1, e2, h1, h2⟩, htl⟩, ha, H, u, ht, hfr, hR => by
    subst e
    subst e1
    subst e2
    unfold defsK at ht
    have hgd : Good (defK D E { target := .fn (.func g) ⟨bl⟩, args := ⟨al⟩ }) := by
      unfold defK
      simp only []
      rw [forceL_eq]
      split
      · rename_i F hF
        exact hDg _ _ _ hF
      · exact hEg _ _
    obtain ⟨v, s1, k1, k2, hn1⟩ := tells_bind hgd ht
    have hn2 := k2.le (good_defsK hDg hEg ds)
    unfold defK at k1
    simp only [] at k1
    rw [forceL_eq] at k1
    have key : ∃ F, DefOk P g (al ++ bl) F ∧ F s = some (v, s1) := by
      split at k1
      · rename_i F hF
        exact ⟨F, hD _ _ _ hF, tells_call k1⟩
      · exact ⟨_, hE g _, tells_call k1⟩
    obtain ⟨F, hF1, hF2⟩ := key
    obtain ⟨hent, hcall⟩ := hF1 s s1 v hF2 w0 B ρ w (al' ++ bl') H (h1.app h2) (hfr.left hn2)
    have harr : (⟨al'⟩ : Array Value) ++ ⟨bl'⟩ = ⟨al' ++ bl'⟩ := by apply Array.ext'; simp
    refine leaves_cons (by simp) (f := g) (args := ⟨al' ++ bl'⟩) (by show (callFunc g ((⟨al'⟩ : Array Value) ++ ⟨bl'⟩)).run P w = _; rw [harr]; exact hent) (CallsD.mono hcall ?_)
    rintro e u' w' ⟨rfl, ⟨v', rfl⟩, ρ', H', hE'⟩
    refine leaves_ok hDg hEg hD hE ds tl s1 w' ρ' (htl.grow hE'.le) (ha.grow hE'.le) H' u k2 (hfr.right hn1 hE') fun ρ2 w2 H2 hE2 ha2 => hR ρ2 w2 H2 (hE'.trans hE2 hn1 hn2) ha2
theorem call_ok (hN : NoGo P) {X D : Hook} {Ev : EvT} {E : Callee'} (hXg : GoodH X) (hDg : GoodH D) (hX : HookOk P X) (hD : DHookOk P D) (hv : ∀ c N a, Good (Ev c N a)) (hok : CodeOk P Ev) (hEg : GoodE E) (hE : ∀ g vs, DefOk P g vs (E g vs)) :
    CallOk P (callK P X D Ev E) := by
  intro f vs s s' v hF w0 B ρ w vs' H hvs hfr
  unfold callK at hF
  split at hF
  · rename_i F hx
    exact hX f vs F hx s s' v hF w0 B ρ w vs' H hvs hfr
  · split at hF
    · cases hF
    · rename_i fn hf
      have hgl : ∀ x, Good (leaveK P D E fn x) := by
        intro x
        unfold leaveK
        split
        · exact good_bind (good_defsK hDg hEg _) fun _ => good_bind (good_resK P _ _) fun _ => good_pure _
        · exact good_bind (good_defsK hDg hEg _) fun _ => good_bind (good_resK P _ _) fun _ => good_pure _
        · exact good_fail
      have hgood : Good (enterK P D Ev E fn vs) := by
        unfold enterK
        split
        · exact good_bind (good_argsT _ _ _) fun t => good_bind (hv _ _ _) fun x => hgl x
        · exact good_fail
      have ht := tells_run hgood hF
      unfold enterK at ht
      split at ht
      · rename_i c hb hc
        obtain ⟨h1, h2⟩ := body_ok (b := true) hb hc
        obtain ⟨t, s1, k1, k2, _⟩ := tells_bind (good_argsT _ _ _) ht
        obtain ⟨rfl, ha⟩ := act_args h1 h2 hvs k1
        obtain ⟨z, s2, k3, k4, hn2⟩ := tells_bind (hv _ _ _) k2
        obtain ⟨e, t2, ds2⟩ := z
        have hn4 := k4.le (hgl _)
        rw [enter_run hN hf hb]
        have hres : (e = .normal ∨ e = .ret) ∧ Tells (mbind (defsK D E ds2) fun _ => mbind (resK P t2 fn.results.toList) fun vs => mpure (tupK vs)) s2 v s' := by
          unfold leaveK at k4
          split at k4
          · rename_i heq; cases heq; exact ⟨.inl rfl, k4⟩
          · rename_i heq; cases heq; exact ⟨.inr rfl, k4⟩
          · exact (tells_fail k4).elim
        obtain ⟨he, k5⟩ := hres
        obtain ⟨u, s3, k6, k7, hn3⟩ := tells_bind (good_defsK hDg hEg _) k5
        obtain ⟨us, s4, k8, k9, hn5⟩ := tells_bind (good_resK P _ _) k7
        obtain ⟨rfl, rfl⟩ := tells_pure k9
        show Calls P f ⟨vs'⟩ w _
        refine calls_of_wp_defers hf hb ?_
        refine hok c fn.ntmps t [] s1 s2 e t2 ds2 k3 w0 B ρ w _ _ ha H (hfr.left hn4) fun a' w' hA => ?_
        obtain ⟨ρ', H', hE', ha'⟩ := hA
        have hlv : Leaves P fn a'.tmps (fun e w' => ∃ v', e = .returned v' ∧ Post w0 B ρ s1 s' (tupK us) v' w') a'.defers .returning w' := by
          refine leaves_ok hDg hEg hD hE ds2 a'.defers s2 w' ρ' ha'.df ⟨ha'.size, ha'.le, ha'.tm, rfl⟩ H' u k6 ((hfr.right hn2 hE').left hn5) fun ρ2 w2 H2 hE2 ha2 => ?_
          obtain ⟨f1, f2, v', f3, f4⟩ := results_run ha2 k8 H2
          exact ⟨v', f3, v', rfl, ρ2, H2.congr fun id => by rw [f1], by rw [f2]; exact hE'.trans hE2 hn2 hn3, f4⟩
        rcases he with rfl | rfl
        · exact hlv
        · exact hlv
      · exact (tells_fail ht).elim
/-! All depths. -/
theorem ev_ok (hm : P.follows .mixedOrders = true) (hN : NoGo P) {X D : Hook} (hXg : GoodH X) (hDg : GoodH D) (hX : HookOk P X) (hD : DHookOk P D) : ∀ n, CodeOk P (ev P X D n) := by
  intro n
  induction n using Nat.strongRecOn with
  | _ n ih =>
    cases n with
    | zero => intro c N t ds s s' e t' ds' ht; exact (tells_fail ht).elim
    | succ n =>
      have hv := good_ev P hXg hDg n
      have hn := ih n (by omega)
      have hDef : ∀ g vs, DefOk P g vs (callD P X (ev P X D n) g vs) := callD_ok hN hv hn
      have hcall := call_ok hN hXg hDg hX hD hv hn (good_callD P hv) hDef
      refine code_step hm hv (good_callK P hXg hDg hv (good_callD P hv)) hcall hn ?_
      -- loops: round by round
      have rounds : ∀ (k : Nat), k ≤ n → ∀ c (N : Nat) (t : TT) (ds : List Deferred) (s s' : Hp) (e : Exit) (t' : TT) (ds' : List Deferred), Tells (mbind (ev P X D k c N (t, ds)) (cdSeq (ev P X D k) (.loop c) N)) s (e, t', ds') s' →
          ∀ (w0 : World) (B : Nat) (ρ : Rn) (w : World) (a : Act) (Q : Exit → Act → World → Prop), ActR ρ N t ds a → HR w0 B ρ s.f w → Free ρ s.n s'.n → (∀ a' w', After w0 B ρ s s' N t' ds' a' w' → Q e a' w') → Code.rounds P c Q (k + 1) a w := by
        intro k
        induction k with
        | zero =>
          intro hk c N t ds s s' e t' ds' ht
          obtain ⟨x, s1, k1, _⟩ := tells_bind (good_ev P hXg hDg 0 c N (t, ds)) ht
          exact (tells_fail k1).elim
        | succ k ihk =>
          intro hk c N t ds s s' e t' ds' ht w0 B ρ w a Q ha H hfr hQ
          obtain ⟨x, s1, k1, k2, hn1⟩ := tells_bind (good_ev P hXg hDg (k + 1) c N (t, ds)) ht
          obtain ⟨e1, t1, ds1⟩ := x
          have hgs : Good (cdSeq (ev P X D (k + 1)) (.loop c) N (e1, t1, ds1)) := by
            unfold cdSeq
            split
            · exact good_ev P hXg hDg _ _ _ _
            · exact good_pure _
          have hn2 := k2.le hgs
          rw [rounds_succ]
          refine ih (k + 1) (by omega) c N t ds s s1 e1 t1 ds1 k1 w0 B ρ w a _ ha H (hfr.left hn2) fun a1 w1 hA => ?_
          obtain ⟨ρ1, H1, hE1, ha1⟩ := id hA
          cases e1 with
          | normal =>
            have k3 : Tells (mbind (ev P X D k c N (t1, ds1)) (cdSeq (ev P X D k) (.loop c) N)) s1 (e, t', ds') s' := k2
            exact ihk (by omega) c N t1 ds1 s1 s' e t' ds' k3 w0 B ρ1 w1 a1 Q ha1 H1 (hfr.right hn1 hE1) fun a2 w2 hA2 => hQ _ _ (after_trans hE1 hn1 hn2 hA2)
          | _ =>
            obtain ⟨h1, rfl⟩ := tells_pure k2
            cases h1
            exact hQ _ _ hA
      intro c N t ds s s' e t' ds' ht w0 B ρ w a Q ha H hfr hQ
      exact wp_loop_rounds (n + 1) (rounds n (Nat.le_refl _) c N t ds s s' e t' ds' ht w0 B ρ w a Q ha H hfr hQ)
/-- THE RECKONER IS SOUND: what it tells of a call, the call comes to. -/
theorem reckon (hm : P.follows .mixedOrders = true) (hN : NoGo P) {X D : Hook} (hXg : GoodH X) (hDg : GoodH D) (hX : HookOk P X) (hD : DHookOk P D) (n : Nat) : CallOk P (call P X D n) :=
  have hv := good_ev P hXg hDg n
  have hn := ev_ok hm hN hXg hDg hX hD n
  call_ok hN hXg hDg hX hD hv hn (good_callD P hv) (callD_ok hN hv hn)
end Go.Proofs.YtpijenlmfmknnaaGreatDoor
