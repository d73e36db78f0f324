/- Own texts joined: EvO, EvP, EvQ, EvS, EvV, EvY, EvZ, EvA. -/
import Derived.Test.YtpijenlmfmknnaaGreatDoorJa
import Derived.Test.YtpijenlmfmknnaaGreatDoorJb
import Derived.Test.YtpijenlmfmknnaaGreatDoorJc
import Derived.Laws.Entries
import Derived.Laws.BytesString

/- What a piece of the reckoner tells, memory tells too. No program. -/
namespace Go.Proofs.YtpijenlmfmknnaaGreatDoor
open Go.RowKit
set_option linter.unusedVariables false

structure Tells {α : Type} (F : M α) (s : Hp) (a : α) (s' : Hp) : Prop where
  eq : ∀ {β : Type} (J : α → Hp → Option β), F.run s J = J a s'
theorem Tells.pair {α : Type} {F : M α} {s s' : Hp} {a : α} (h : Tells F s a s') : F.run s (fun a s => some (a, s)) = some (a, s') := h.eq _
theorem tells_pure {α : Type} {a b : α} {s s' : Hp} (h : Tells (mpure a) s b s') : b = a ∧ s' = s := by
  have e : some (a, s) = some (b, s') := h.pair
  cases e
  exact ⟨rfl, rfl⟩
theorem tells_fail {α : Type} {b : α} {s s' : Hp} (h : Tells mfail s b s') : False := by
  have e : none = some (b, s') := h.pair
  cases e
theorem tells_bind {α γ : Type} {F : M α} {G : α → M γ} (hF : Good F) {s s' : Hp} {b : γ} (h : Tells (mbind F G) s b s') : ∃ a s1, Tells F s a s1 ∧ Tells (G a) s1 b s' ∧ s.n ≤ s1.n := by
  obtain ⟨a, s1, r, q, e, f, _⟩ := hF.ok s _ _ h.pair
  exact ⟨a, s1, ⟨fun J => e J⟩, ⟨fun J => (e fun a s => (G a).run s J).symm.trans (h.eq J)⟩, f.n⟩
theorem Tells.le {α : Type} {F : M α} (hF : Good F) {s s' : Hp} {a : α} (h : Tells F s a s') : s.n ≤ s'.n := by
  obtain ⟨b, s1, r, q, e, f, _⟩ := hF.ok s _ _ h.pair
  have e2 : some (b, s1) = some (a, s') := (e fun a s => some (a, s)).symm.trans h.pair
  cases e2
  exact f.n
theorem tells_get {b : Nat} {s s' : Hp} {o : Obj} (h : Tells (mget b) s o s') : s.f b = some o ∧ s'.f = s.f ∧ s'.n = s.n := by
  have e := h.pair
  rw [mget_eq] at e
  cases hb : s.f b with
  | none => rw [hb] at e; cases e
  | some x => rw [hb] at e; cases e; exact ⟨rfl, rfl, rfl⟩
theorem tells_set {b : Nat} {o : Option Obj} {s s' : Hp} {u : Unit} (h : Tells (mset b o) s u s') : 16 ≤ b ∧ s'.f = s.f.put b o ∧ s'.n = s.n := by
  have e := h.pair
  rw [mset_eq] at e
  split at e
  · rename_i hc
    cases e
    refine ⟨hc.1, ?_, rfl⟩
    funext id
    rw [put_f _ _ _ _ hc.2]; rfl
  · cases e
theorem tells_new {o : Obj} {s s' : Hp} {id : Nat} (h : Tells (mnew o) s id s') : id = s.n ∧ 16 ≤ s.n ∧ s'.f = s.f.put s.n (some o) ∧ s'.n = s.n + 1 := by
  have e := h.pair
  rw [mnew_eq] at e
  split at e
  · rename_i hc
    cases e
    refine ⟨rfl, hc.1, ?_, rfl⟩
    funext id
    rw [put_f _ _ _ _ hc.2]; rfl
  · cases e
theorem tells_cut {off n : Nat} {l vs : List Value} {s s' : Hp} (h : Tells (cut off n l) s vs s') : off + n ≤ l.length ∧ vs = (l.drop off).take n ∧ s' = s := by
  unfold cut at h
  split at h
  · rename_i hb
    rw [forceL_eq] at h
    obtain ⟨h1, h2⟩ := tells_pure h
    exact ⟨Nat.le_of_ble_eq_true hb, h1, h2⟩
  · exact (tells_fail h).elim
theorem tells_paste {off : Nat} {vs l k : List Value} {s s' : Hp} (h : Tells (paste off vs l) s k s') : off + vs.length ≤ l.length ∧ k = l.take off ++ (vs ++ l.drop (off + vs.length)) ∧ s' = s := by
  unfold paste at h
  split at h
  · rename_i hb
    rw [forceL_eq] at h
    obtain ⟨h1, h2⟩ := tells_pure h
    exact ⟨Nat.le_of_ble_eq_true hb, h1, h2⟩
  · exact (tells_fail h).elim
theorem tells_cells {b : Nat} {s s' : Hp} {c : List Value × TypeId × (Nat × Nat)} (h : Tells (mcells b) s c s') : s.f b = some (.cells ⟨c.1⟩ c.2.1 c.2.2) ∧ s'.f = s.f ∧ s'.n = s.n := by
  obtain ⟨o, s1, h1, h2, _⟩ := tells_bind (good_get b) h
  obtain ⟨e1, e2, e3⟩ := tells_get h1
  unfold cellsO at h2
  split at h2
  · obtain ⟨rfl, rfl⟩ := tells_pure h2
    exact ⟨e1, e2, e3⟩
  · exact (tells_fail h2).elim
theorem tells_load {a : Addr} {n : Nat} {vs : List Value} {s s' : Hp} (h : Tells (mload a n) s vs s') :
    ∃ b off l t fl, a = ⟨b, off, none⟩ ∧ s.f b = some (.cells ⟨l⟩ t fl) ∧ off + n ≤ l.length ∧ vs = (l.drop off).take n ∧ s'.f = s.f ∧ s'.n = s.n := by
  unfold mload at h
  split at h
  · rename_i b off
    obtain ⟨c, s1, h1, h2, _⟩ := tells_bind (good_mcells b) h
    obtain ⟨e1, e2, e3⟩ := tells_cells h1
    obtain ⟨f1, f2, rfl⟩ := tells_cut h2
    exact ⟨b, off, c.1, c.2.1, c.2.2, rfl, e1, f1, f2, e2, e3⟩
  · exact (tells_fail h).elim
theorem tells_store {a : Addr} {vs : List Value} {u : Unit} {s s' : Hp} (h : Tells (mstore a vs) s u s') :
    ∃ b off l t fl, a = ⟨b, off, none⟩ ∧ 16 ≤ b ∧ s.f b = some (.cells ⟨l⟩ t fl) ∧ off + vs.length ≤ l.length ∧ vs.all oneV = true ∧
      s'.f = s.f.put b (some (.cells ⟨l.take off ++ (vs ++ l.drop (off + vs.length))⟩ t fl)) ∧ s'.n = s.n := by
  unfold mstore at h
  split at h
  · rename_i b off
    obtain ⟨c, s1, h1, h2, _⟩ := tells_bind (good_mcells b) h
    obtain ⟨e1, e2, e3⟩ := tells_cells h1
    split at h2
    · rename_i h1v
      obtain ⟨l, s2, h3, h4, _⟩ := tells_bind (good_paste _ _ _) h2
      obtain ⟨f1, rfl, rfl⟩ := tells_paste h3
      obtain ⟨g1, g2, g3⟩ := tells_set h4
      exact ⟨b, off, c.1, c.2.1, c.2.2, rfl, g1, e1, f1, h1v, by rw [g2, e2], by rw [g3, e3]⟩
    · exact (tells_fail h2).elim
  · exact (tells_fail h).elim
theorem tells_row {t : TypeId} {l : List Value} {fl : Nat × Nat} {id : Nat} {s s' : Hp} (h : Tells (mrow t l fl) s id s') :
    l.all oneV = true ∧ id = s.n ∧ 16 ≤ s.n ∧ s'.f = s.f.put s.n (some (.cells ⟨l⟩ t fl)) ∧ s'.n = s.n + 1 := by
  unfold mrow at h
  split at h
  · rename_i h1
    obtain ⟨e1, e2, e3, e4⟩ := tells_new h
    exact ⟨h1, e1, e2, e3, e4⟩
  · exact (tells_fail h).elim
theorem tells_aev {x : Option Value} {v : Value} {s s' : Hp} (h : Tells (maev x) s v s') : x = some v ∧ s' = s := by
  unfold maev at h
  split at h
  · obtain ⟨rfl, rfl⟩ := tells_pure h; exact ⟨rfl, rfl⟩
  · exact (tells_fail h).elim

/-! What stands for what, behind a piece. -/
variable {P : Program}
/-- Numbers from n up to m are new; and no other number gets a new meaning. -/
def Free (ρ : Rn) (n m : Nat) : Prop := ∀ id, n ≤ id → id < m → ρ id = none
structure Ext (ρ ρ' : Rn) (n m : Nat) : Prop where
  le : ρ.le ρ'
  out : ∀ id, ¬ (n ≤ id ∧ id < m) → ρ' id = ρ id
theorem Ext.rfl {ρ : Rn} {n m : Nat} : Ext ρ ρ n m := ⟨.rfl, fun _ _ => Eq.refl _⟩
theorem Ext.trans {a b c : Rn} {n m k : Nat} (h : Ext a b n m) (h' : Ext b c m k) (hn : n ≤ m) (hm : m ≤ k) : Ext a c n k :=
  ⟨h.le.trans h'.le, fun id hid => (h'.out id (by omega)).trans (h.out id (by omega))⟩
theorem Ext.put {ρ : Rn} {n : Nat} (hn : ρ n = none) (p : Pl) : Ext ρ (ρ.put n p) n (n + 1) := ⟨Rn.put_le hn p, fun id hid => if_neg (by omega)⟩
theorem Free.left {ρ : Rn} {n m k : Nat} (h : Free ρ n k) (hm : m ≤ k) : Free ρ n m := fun id h1 h2 => h id h1 (by omega)
theorem Free.right {ρ ρ' : Rn} {n m k : Nat} (h : Free ρ n k) (hn : n ≤ m) (e : Ext ρ ρ' n m) : Free ρ' m k := fun id h1 h2 => by
  rw [e.out id (by omega)]; exact h id (by omega) h2

/-- Wherever the piece F tells something, the model's piece c runs, and tells what stands for it. -/
def Sim (P : Program) {α γ : Type} (ρ0 : Rn) (F : M α) (c : Sem γ) (R : Rn → α → γ → Prop) : Prop :=
  ∀ (w0 : World) (B : Nat) (s s' : Hp) (a : α) (ρ : Rn) (w : World), ρ0.le ρ → Tells F s a s' → HR w0 B ρ s.f w → Free ρ s.n s'.n →
    ∃ v w' ρ', c.run P w = .ok v w' ∧ HR w0 B ρ' s'.f w' ∧ Ext ρ ρ' s.n s'.n ∧ R ρ' a v
theorem Sim.bind {α γ δ ε : Type} {ρ0 : Rn} {F : M α} {G : α → M δ} {c : Sem γ} {k : γ → Sem ε} {R : Rn → α → γ → Prop} {S : Rn → δ → ε → Prop}
    (hF : Good F) (hG : ∀ a, Good (G a)) (h : Sim P ρ0 F c R) (hk : ∀ ρ a v, ρ0.le ρ → R ρ a v → Sim P ρ (G a) (k v) S) : Sim P ρ0 (mbind F G) (c >>= k) S := by
  intro w0 B s s' b ρ w hρ ht H hfr
  obtain ⟨a, s1, h1, h2, hn⟩ := tells_bind hF ht
  have hn2 := h2.le (hG a)
  obtain ⟨v, w1, ρ1, hr, H1, he, hR⟩ := h w0 B s s1 a ρ w hρ h1 H (hfr.left hn2)
  obtain ⟨v2, w2, ρ2, hr2, H2, he2, hS⟩ := hk ρ1 a v (hρ.trans he.le) hR w0 B s1 s' b ρ1 w1 .rfl h2 H1 (hfr.right hn he)
  refine ⟨v2, w2, ρ2, ?_, H2, he.trans he2 hn hn2, hS⟩
  rw [Sem.run_bind, hr]
  exact hr2
theorem Sim.fail {α γ : Type} {ρ0 : Rn} {c : Sem γ} {R : Rn → α → γ → Prop} : Sim P ρ0 mfail c R := fun _ _ _ _ _ _ _ _ h => (tells_fail h).elim
theorem Sim.pure {α γ : Type} {ρ0 : Rn} {a : α} {v : γ} {R : Rn → α → γ → Prop} (h : ∀ ρ, ρ0.le ρ → R ρ a v) : Sim P ρ0 (mpure a) (Pure.pure v) R := by
  intro w0 B s s' b ρ w hρ ht H hfr
  obtain ⟨rfl, rfl⟩ := tells_pure ht
  exact ⟨v, w, ρ, Eq.refl _, H, .rfl, h ρ hρ⟩
/-- A piece that touches no memory, ahead of the rest. -/
theorem Sim.skip {α γ δ : Type} {ρ0 : Rn} {F : M α} {c : Sem γ} {k : γ → Sem δ} {R : Rn → α → δ → Prop} (v : γ) (hc : ∀ w, c.run P w = .ok v w) (h : Sim P ρ0 F (k v) R) : Sim P ρ0 F (c >>= k) R := by
  intro w0 B s s' b ρ w hρ ht H hfr
  obtain ⟨v2, w2, ρ2, hr, rest⟩ := h w0 B s s' b ρ w hρ ht H hfr
  refine ⟨v2, w2, ρ2, ?_, rest⟩
  rw [Sem.run_bind, hc]
  exact hr
theorem Sim.mono {α γ : Type} {ρ0 : Rn} {F : M α} {c : Sem γ} {R S : Rn → α → γ → Prop} (h : Sim P ρ0 F c R) (hRS : ∀ ρ a v, ρ0.le ρ → R ρ a v → S ρ a v) : Sim P ρ0 F c S := by
  intro w0 B s s' b ρ w hρ ht H hfr
  obtain ⟨v2, w2, ρ2, hr, H2, he, hR⟩ := h w0 B s s' b ρ w hρ ht H hfr
  exact ⟨v2, w2, ρ2, hr, H2, he, hRS _ _ _ (hρ.trans he.le) hR⟩
theorem one_of {ρ : Rn} {v v' : Value} (h : VL ρ v v') (h1 : oneV v = true) : v'.oneCell' = true := by
  cases v with
  | bool b => rw [VL.bool.1 h]; rfl
  | int k i => rw [VL.int.1 h]; rfl
  | string s => rw [VL.string.1 h]; rfl
  | pointer a => cases a with
    | none => rw [VL.nilp.1 h]; rfl
    | some a => obtain ⟨_, p, _, e⟩ := VL.ptr.1 h; rw [e]; rfl
  | slice a l c => cases a with
    | none => rw [(VL.nils.1 h).2.2]; rfl
    | some a => obtain ⟨_, _, p, _, a', c', e, _⟩ := VL.slice.1 h; rw [e]; rfl
  | map r => cases r with
    | none => rw [VL.nilm.1 h]; rfl
    | some a => obtain ⟨p, _, e⟩ := VL.map.1 h; rw [e]; rfl
  | func fn f c =>
    obtain ⟨f⟩ := f
    obtain ⟨c⟩ := c
    obtain ⟨_, f', c', e, _⟩ := VL.func.1 h; rw [e]; rfl
  | nilFunc => rw [VL.nilf.1 h]; rfl
  | iface t x => obtain ⟨x', e, _⟩ := VL.iface.1 h; rw [e]; rfl
  | nilIface => rw [VL.nili.1 h]; rfl
  | agg c => cases h1
  | tuple c => cases h1
  | chan c => cases h1
  | float k b => obtain ⟨n, h⟩ := h; cases n <;> exact h.elim
  | complex k a b => obtain ⟨n, h⟩ := h; cases n <;> exact h.elim
theorem ones_of {ρ : Rn} : ∀ {l l' : List Value}, LR (VL ρ) l l' → l.all oneV = true → ∀ v ∈ l', v.oneCell' = true
  | [], _, e, _, v, hv => by rw [e] at hv; cases hv
  | x :: l, _, ⟨x', t, e, hx, ht⟩, h1, v, hv => by
    rw [List.all_cons, Bool.and_eq_true] at h1
    rw [e] at hv
    cases hv with
    | head => exact one_of hx h1.1
    | tail _ hm => exact ones_of ht h1.2 v hm

/-- Cells that are looked at are there. -/
theorem rd_load {w0 w : World} {B : Nat} {ρ : Rn} {h : Hf} {b off n : Nat} {l : List Value} {t : TypeId} {fl : Nat × Nat} {p : Pl} (H : HR w0 B ρ h w) (hp : ρ b = some p) (e1 : h b = some (.cells ⟨l⟩ t fl)) (e2 : off + n ≤ l.length) :
    ∃ l', (loadCells ⟨p.blk, p.off + off, none⟩ n).run P w = .ok ⟨l'⟩ w ∧ LR (VL ρ) ((l.drop off).take n) l' ∧ l'.length = n := by
  obtain ⟨q, hq, h2, h3, h4, c', el', fz, h5, h6, h7, h8⟩ := H.obj b _ e1
  rw [hp] at hq
  cases hq
  have hsz : p.sz = l.length := h2
  have hvl : ((l.drop off).take n).length = n := by rw [List.length_take, List.length_drop]; omega
  have hex : ∃ l', l'.length = n ∧ (∀ (j : Nat) v', l'[j]? = some v' → c'[p.off + off + j]? = some v') ∧ LR (VL ρ) ((l.drop off).take n) l' := by
    refine ⟨(c'.toList.drop (p.off + off)).take n, ?_, fun j v' hj => ?_, ?_⟩
    · rw [List.length_take, List.length_drop, Array.length_toList]; omega
    · rw [List.getElem?_take] at hj
      split at hj
      · rw [List.getElem?_drop, Array.getElem?_toList] at hj; exact hj
      · cases hj
    · refine LR.of ?_ fun i v v' hv hv' => ?_
      · rw [hvl, List.length_take, List.length_drop, Array.length_toList]; omega
      · rw [List.getElem?_take] at hv hv'
        split at hv
        · rename_i hin
          rw [if_pos hin] at hv'
          rw [List.getElem?_drop] at hv
          rw [List.getElem?_drop, Array.getElem?_toList] at hv'
          obtain ⟨u, hu, hvu⟩ := h8 (off + i) v (by simpa using hv)
          rw [show p.off + (off + i) = p.off + off + i by omega, hv'] at hu
          cases hu; exact hvu
        · cases hv
  obtain ⟨l', hl1, hl2, hl3⟩ := hex
  refine ⟨l', ?_, hl3, hl1⟩
  have := load_run (P := P) h5 (p.off + off) l' hl2
  rw [hl1] at this
  exact this
/-- Loading cells. -/
theorem sim_load {ρ0 : Rn} {a a' : Addr} {n : Nat} (ha : VL ρ0 (.pointer (some a)) (.pointer (some a'))) :
    Sim P ρ0 (mload a n) (loadCells a' n) (fun ρ vs x => ∃ l', x = ⟨l'⟩ ∧ LR (VL ρ) vs l' ∧ vs.length = n) := by
  intro w0 B s s' vs ρ w hρ ht H hfr
  obtain ⟨b, off, l, t, fl, rfl, e1, e2, rfl, e3, e4⟩ := tells_load ht
  obtain ⟨_, p, hp, ep⟩ := VL.ptr.1 (ha.grow hρ)
  cases ep
  obtain ⟨l', h1, h2, h3⟩ := rd_load (P := P) H hp e1 e2
  exact ⟨⟨l'⟩, w, ρ, h1, H.congr fun id => by rw [e3], .rfl, l', Eq.refl _, h2, by rw [List.length_take, List.length_drop]; omega⟩
/-- Storing cells. -/
theorem sim_store {ρ0 : Rn} {a a' : Addr} {vs vs' : List Value} (ha : VL ρ0 (.pointer (some a)) (.pointer (some a'))) (hv : LR (VL ρ0) vs vs') :
    Sim P ρ0 (mstore a vs) (storeCells a' vs') (fun _ _ _ => True) := by
  intro w0 B s s' u ρ w hρ ht H hfr
  obtain ⟨b, off, l, t, fl, rfl, h16, e1, e2, e3, e4, e5⟩ := tells_store ht
  obtain ⟨_, p, hp, ep⟩ := VL.ptr.1 (ha.grow hρ)
  cases ep
  have hv' := hv.grow hρ
  have hlen := hv'.len
  obtain ⟨q, hq, h2, h3, h4, c', el', fz, h5, h6, h7, h8⟩ := H.obj b _ e1
  rw [show (ρ b = some p) from hp] at hq
  cases hq
  have hsz : p.sz = l.length := h2
  obtain ⟨w', c2, hr, hb', hs', tw, hk⟩ := store_run (P := P) (o := p.off + off) vs' 0 w c' h5 (by omega) (h7 h16).no (ones_of hv' e3)
  have hB : B ≤ p.blk := H.own b _ p e1 h16 hp
  refine ⟨(), w', ρ, hr, ?_, .rfl, trivial⟩
  rw [e4]
  refine H.set e1 hp (H.below.trans ⟨tw.os, tw.tape, tw.output, by rw [tw.size]; exact Nat.le_refl _, fun k hk => tw.other k (by omega)⟩) (fun x hx => tw.other x hx) ?_
  refine ⟨p, hp, ?_, h3, h4, c2, el', fz, hb', by rw [hs']; exact h6, by rw [hs']; exact h7, fun k v hkv => ?_⟩
  · simp only [List.size_toArray, List.length_append, List.length_take, List.length_drop]
    omega
  · have hkv' : (l.take off ++ (vs ++ l.drop (off + vs.length)))[k]? = some v := by simpa using hkv
    rw [hk (p.off + k)]
    by_cases hin : off ≤ k ∧ k < off + vs.length
    · rw [if_pos (by omega)]
      rw [List.getElem?_append_right (by rw [List.length_take]; omega), List.getElem?_append_left (by rw [List.length_take]; omega), List.length_take, show k - min off l.length = k - off by omega] at hkv'
      rw [show p.off + k - (p.off + off + 0) = k - off by omega]
      exact hv'.at hkv'
    · rw [if_neg (by omega)]
      have : l[k]? = some v := by
        by_cases hlt : k < off
        · rw [List.getElem?_append_left (by rw [List.length_take]; omega), List.getElem?_take, if_pos hlt] at hkv'
          exact hkv'
        · rw [List.getElem?_append_right (by rw [List.length_take]; omega), List.getElem?_append_right (by rw [List.length_take]; omega), List.length_take, List.getElem?_drop] at hkv'
          rw [← hkv']
          congr 1
          omega
      exact h8 k v (by simpa using this)
end Go.Proofs.YtpijenlmfmknnaaGreatDoor

/- Operations that make and touch memory: what the reckoner tells of them, the model does. No program. -/
namespace Go.Proofs.YtpijenlmfmknnaaGreatDoor
open Go.RowKit
set_option linter.unusedVariables false
variable {P : Program} {ρ0 : Rn}

/-- The operands' values stand for the model's. -/
def EnvR (ρ : Rn) (e : En) (m : Operand → Value) : Prop := ∀ x v, e x = some v → VL ρ v (m x)
def OpR (ρ : Rn) (v : Value) (nx : Next) : Prop := (∃ v', nx = .value v' ∧ VL ρ v v') ∨ (nx = .skip ∧ v = unV)
theorem Sim.value {F : M Value} {c : Sem Value} (h : Sim P ρ0 F c fun ρ a v => VL ρ a v) : Sim P ρ0 F (c >>= fun x => Pure.pure (Next.value x)) OpR := by
  intro w0 B s s' a ρ w hρ ht H hfr
  obtain ⟨v, w', ρ', hr, H', he, hR⟩ := h w0 B s s' a ρ w hρ ht H hfr
  refine ⟨.value v, w', ρ', ?_, H', he, .inl ⟨v, rfl, hR⟩⟩
  rw [Sem.run_bind, hr]; rfl
theorem sim_aev {x : Option Value} {c : Sem Value} {v' : Value} (hc : c = Pure.pure v') (hx : ∀ v, x = some v → VL ρ0 v v') : Sim P ρ0 (maev x) c fun ρ a v => VL ρ a v := by
  intro w0 B s s' a ρ w hρ ht H hfr
  obtain ⟨rfl, rfl⟩ := tells_aev ht
  exact ⟨v', w, ρ, by rw [hc]; rfl, H, .rfl, (hx a rfl).grow hρ⟩
theorem snd_move {e : En} {m : Operand → Value} (he : EnvR ρ0 e m) (x : Operand) : Sim P ρ0 (opMove x e) (Pure.pure (Next.value (m x))) OpR := by
  have := Sim.value (P := P) (sim_aev (c := Pure.pure (m x)) rfl fun v hv => he x v hv)
  exact this
theorem snd_pick {e : En} {m : Operand → Value} (he : EnvR ρ0 e m) (c a b : Operand) :
    Sim P ρ0 (opPick c a b e) (do Pure.pure (Next.value (if ← asBool (m c) then m a else m b))) OpR := by
  unfold opPick
  split
  · rename_i hc
    have := VL.bool.1 (he c _ hc)
    rw [this]
    exact snd_move he a
  · rename_i hc
    have := VL.bool.1 (he c _ hc)
    rw [this]
    exact snd_move he b
  · exact .fail

/-! Cells of a value. -/
theorem cellsK_rel {ρ : Rn} {v v' : Value} {vs : List Value} (h : VL ρ v v') (hc : cellsK v = some vs) : LR (VL ρ) vs v'.cells.toList := by
  have one : ∀ {x x' : Value}, VL ρ x x' → x'.cells = #[x'] → LR (VL ρ) [x] x'.cells.toList := fun hx e => by
    rw [e]; exact ⟨_, [], rfl, hx, rfl⟩
  unfold cellsK at hc
  split at hc
  · cases hc
    obtain ⟨l', e, hl⟩ := VL.agg.1 h
    rw [e]; exact hl
  · cases hc
  · rename_i h1 h2
    cases hc
    cases v with
    | agg c => obtain ⟨l⟩ := c; exact (h1 l rfl).elim
    | chan c => exact (h2 c rfl).elim
    | bool b => exact one h (by rw [VL.bool.1 h]; rfl)
    | int k i => exact one h (by rw [VL.int.1 h]; rfl)
    | string s => exact one h (by rw [VL.string.1 h]; rfl)
    | pointer a => cases a with
      | none => exact one h (by rw [VL.nilp.1 h]; rfl)
      | some a => exact one h (by obtain ⟨_, p, _, e⟩ := VL.ptr.1 h; rw [e]; rfl)
    | slice a l c => cases a with
      | none => exact one h (by rw [(VL.nils.1 h).2.2]; rfl)
      | some a => exact one h (by obtain ⟨_, _, p, _, a', c', e, _⟩ := VL.slice.1 h; rw [e]; rfl)
    | map r => cases r with
      | none => exact one h (by rw [VL.nilm.1 h]; rfl)
      | some a => exact one h (by obtain ⟨p, _, e⟩ := VL.map.1 h; rw [e]; rfl)
    | func fn f c =>
      obtain ⟨f⟩ := f
      obtain ⟨c⟩ := c
      exact one h (by obtain ⟨_, f', c', e, _⟩ := VL.func.1 h; rw [e]; rfl)
    | nilFunc => exact one h (by rw [VL.nilf.1 h]; rfl)
    | iface t x => exact one h (by obtain ⟨x', e, _⟩ := VL.iface.1 h; rw [e]; rfl)
    | nilIface => exact one h (by rw [VL.nili.1 h]; rfl)
    | tuple c => obtain ⟨l⟩ := c; exact one h (by obtain ⟨l', e, _⟩ := VL.tuple.1 h; rw [e]; rfl)
    | float k b => obtain ⟨n, h⟩ := h; cases n <;> exact h.elim
    | complex k a b => obtain ⟨n, h⟩ := h; cases n <;> exact h.elim
theorem plain_self {ρ : Rn} {v : Value} (h : plainV v = true) : VL ρ v v := (plainV_iff h).2 rfl
theorem plain_cells {ρ : Rn} {v : Value} (h : plainV v = true) : LR (VL ρ) v.cells.toList v.cells.toList := by
  have hs : VL ρ v v := plain_self h
  cases v with
  | agg c =>
    obtain ⟨l⟩ := c
    obtain ⟨l', e, hl⟩ := VL.agg.1 hs
    cases e
    exact hl
  | chan c => cases h
  | _ => exact ⟨_, [], rfl, hs, rfl⟩

/-! New rows. -/
theorem row_new {w0 w w' : World} {B : Nat} {ρ : Rn} {h : Hf} {n : Nat} {l l' rest : List Value} {t t' : TypeId} {fl fz : Nat × Nat} (es sl : Nat) (H : HR w0 B ρ h w) (hn : ρ n = none) (h16 : 16 ≤ n)
    (hl : LR (VL ρ) l l') (hf0 : fl.1 = 0 → sl = 0) (hf1 : fl.1 ≠ 0 → es = fl.1) (hr : sl * es ≤ rest.length) (hb : Below B w0 w')
    (hw : w'.heap[w.heap.size]? = some (.cells ⟨l' ++ rest⟩ t' fz)) (ho : ∀ x, x < w.heap.size → w'.heap[x]? = w.heap[x]?) (hfz : Fy t fl (l' ++ rest).length fz) :
    HR w0 B (ρ.put n ⟨w.heap.size, 0, l.length, es, sl⟩) (h.put n (some (.cells ⟨l⟩ t fl))) w' := by
  have hle := Rn.put_le hn ⟨w.heap.size, 0, l.length, es, sl⟩
  have hlen := hl.len
  refine H.new hn h16 (Nat.le_trans H.base H.below.size) (fun id o p ho' hp => ?_) hb (fun id o p ho' hp => ?_) ?_
  · obtain ⟨q, hq, hlt⟩ := (H.obj id o ho').place
    rw [hp] at hq; cases hq
    exact Nat.ne_of_lt hlt
  · obtain ⟨q, hq, hlt⟩ := (H.obj id o ho').place
    rw [hp] at hq; cases hq
    exact ho _ hlt
  · refine ⟨_, if_pos rfl, rfl, hf0, hf1, ⟨l' ++ rest⟩, t', fz, hw, ?_, (fun _ => hfz), fun k v hk => ?_⟩
    · simp only [List.size_toArray, List.length_append]; omega
    · obtain ⟨v', h1, h2⟩ := hl.at (i := k) (v := v) (by simpa using hk)
      refine ⟨v', ?_, h2.grow hle⟩
      simp only [Nat.zero_add]
      have hk' : k < l'.length := by
        rcases Nat.lt_or_ge k l'.length with h | h
        · exact h
        · rw [List.getElem?_eq_none h] at h1; cases h1
      simpa [List.getElem?_append_left hk'] using h1
theorem below_push {B : Nat} {w0 w : World} (h : Below B w0 w) (hB : B ≤ w.heap.size) (o : Obj) : Below B w0 { w with heap := w.heap.push o } := h.alloc hB o
theorem sim_row {t : TypeId} {l l' : List Value} (hl : LR (VL ρ0) l l') :
    Sim P ρ0 (mrow t l (0, 0)) (newRow t ⟨l'⟩) fun ρ id a => ∃ p, ρ id = some p ∧ p.off = 0 ∧ p.sl = 0 ∧ a = ⟨p.blk, 0, none⟩ := by
  intro w0 B s s' id ρ w hρ ht H hfr
  obtain ⟨h1, rfl, h16, e1, e2⟩ := tells_row ht
  have hn := hfr s.n (Nat.le_refl _) (by omega)
  refine ⟨⟨w.heap.size, 0, none⟩, { w with heap := w.heap.push (.cells ⟨l'⟩ t) }, ρ.put s.n ⟨w.heap.size, 0, l.length, 0, 0⟩, rfl, ?_, ?_, _, if_pos rfl, rfl, rfl, rfl⟩
  · rw [e1]
    refine row_new (rest := []) (t' := t) (fz := (0, 0)) 0 0 H hn h16 (hl.grow hρ) (fun _ => rfl) (fun h => absurd rfl h) (by simp) (below_push H.below (Nat.le_trans H.base H.below.size) _) ?_ (fun x hx => ?_) ⟨.inl rfl, fun _ _ => rfl⟩
    · simp
    · rw [Array.getElem?_push, if_neg (by omega)]
  · rw [e2]; exact .put hn _
theorem ptr_of {ρ : Rn} {id : Nat} {p : Pl} (h : ρ id = some p) (h0 : p.off = 0) : VL ρ (ptrV id 0) (.pointer (some ⟨p.blk, 0, none⟩)) :=
  VL.ptr.2 ⟨rfl, p, h, by simp [h0]⟩
theorem slice_of {ρ : Rn} {id n c : Nat} {p : Pl} (h : ρ id = some p) (h0 : p.off = 0) (hs : p.sl = 0) (hn : n ≤ c) (hc : c ≤ 9223372036854775807) : VL ρ (sliceV id 0 n c) (.slice (some ⟨p.blk, 0, none⟩) n c) :=
  VL.slice.2 ⟨rfl, hn, p, h, _, c, rfl, by rw [hs]; simp, fun _ => by simp [h0], hc⟩

theorem zeroOf_run {t : TypeId} {z : List Value} (h : zeroOf P t = some z) : ∃ v, plainV v = true ∧ z = v.cells.toList ∧ ∀ w, (zeroValue t).run P w = .ok v w := by
  unfold zeroOf at h
  split at h
  · rename_i v hv
    split at h
    · rename_i hp
      cases h
      refine ⟨v, hp, rfl, fun w => ?_⟩
      cases hi : P.info? t with
      | none => rw [hi] at hv; cases hv
      | some i =>
        rw [hi] at hv
        simp only [Option.bind_some] at hv
        simp [zeroValue, typeInfo, hi, hv]
    · cases h
  · cases h
theorem szOf_run {t : TypeId} {n : Nat} (h : szOf P t = some n) (w : World) : (sizeOf t).run P w = .ok n w := by
  unfold szOf at h
  cases hi : P.info? t with
  | none => rw [hi] at h; cases h
  | some i => rw [hi] at h; cases h; simp [Go.sizeOf, typeInfo, hi]
theorem aggOf_run {t : TypeId} {b : Bool} (h : aggOf P t = some b) (w : World) : (isAgg t).run P w = .ok b w := by
  unfold aggOf at h
  split at h
  · rename_i d hd; cases h; simp [isAgg, run_underlying hd]
  · rename_i d hd; cases h; simp [isAgg, run_underlying hd]
  · rename_i d h1 h2 hd
    cases h
    simp only [isAgg, Sem.run_bind, run_underlying hd, Result.andThen_ok]
    cases d <;> first
      | rfl
      | exact (h1 _ rfl).elim
      | exact (h2 _ _ rfl).elim
  · cases h
theorem snd_alloc (t : TypeId) : Sim P ρ0 (opAlloc P t) (Instr.alloc t true (.tuple #[])) fun ρ a v => VL ρ a v := by
  unfold opAlloc
  split
  · rename_i z hz
    obtain ⟨v, hp, rfl, hr⟩ := zeroOf_run hz
    unfold Instr.alloc
    refine Sim.skip v hr ?_
    refine Sim.bind (good_mrow _ _ _) (fun _ => good_pure _) (sim_row (plain_cells hp)) fun ρ id a hρ h => ?_
    obtain ⟨p, h1, h2, h3, rfl⟩ := h
    exact Sim.pure fun ρ' hρ' => ptr_of (hρ' _ _ h1) h2
  · exact .fail
theorem snd_box {e : En} {m : Operand → Value} (he : EnvR ρ0 e m) (t : TypeId) (x : Operand) : Sim P ρ0 (opBox t x e) (Instr.box t (m x)) fun ρ a v => VL ρ a v := by
  unfold opBox
  split
  · rename_i vs hv
    cases hx : e x with
    | none => rw [hx] at hv; cases hv
    | some v =>
      rw [hx] at hv
      unfold Instr.box
      refine Sim.bind (good_mrow _ _ _) (fun _ => good_pure _) (sim_row (l' := (m x).cells.toList) (cellsK_rel (he x v hx) hv)) fun ρ id a hρ h => ?_
      obtain ⟨p, h1, h2, h3, rfl⟩ := h
      exact Sim.pure fun ρ' hρ' => ptr_of (hρ' _ _ h1) h2
  · exact .fail
/-- A variable loaded. -/
theorem snd_loadK {a a' : Addr} (t : TypeId) (ha : VL ρ0 (.pointer (some a)) (.pointer (some a'))) : Sim P ρ0 (loadK a (aggOf P t) (szOf P t)) (loadVar t a') fun ρ a v => VL ρ a v := by
  cases hg : aggOf P t with
  | none => cases szOf P t <;> exact .fail
  | some b =>
    cases hz : szOf P t with
    | none => cases b <;> exact .fail
    | some n =>
      unfold loadVar
      refine Sim.skip b (aggOf_run hg) ?_
      cases b with
      | true =>
        simp only [if_true]
        refine Sim.skip n (szOf_run hz) ?_
        refine Sim.bind (good_mload _ _) (fun _ => good_pure _) (sim_load ha) fun ρ vs arr hρ h => ?_
        obtain ⟨l', rfl, hl, _⟩ := h
        exact Sim.pure fun ρ' hρ' => VL.agg.2 ⟨l', rfl, hl.grow hρ'⟩
      | false =>
        simp only [Bool.false_eq_true, if_false]
        intro w0 B s s' v ρ w hρ ht H hfr
        obtain ⟨vs, s1, h1, h2, hn⟩ := tells_bind (good_mload _ _) ht
        obtain ⟨e1, rfl⟩ := tells_aev h2
        obtain ⟨arr, w', ρ', hr, H', hE, l', rfl, hl, hlen⟩ := sim_load (P := P) (n := 1) ha w0 B s _ vs ρ w hρ h1 H hfr
        match vs, hlen with
        | [x], _ =>
          simp at e1
          subst e1
          obtain ⟨x', tl, e3, hx, htl⟩ := hl
          have htl' : tl = [] := htl
          subst htl'
          subst e3
          refine ⟨x', w', ρ', ?_, H', hE, hx⟩
          simp only [loadCells, loadCellsFrom, Sem.run_bind] at hr
          have hadd : a'.add 0 = a' := by simp [Addr.add]
          rw [hadd] at hr
          cases hq : (load a').run P w with
          | ok y wy =>
            rw [hq] at hr
            simp only [Result.andThen, Sem.run_pure, Result.ok.injEq] at hr
            obtain ⟨e5, e6⟩ := hr
            subst e6
            have : #[].push y = #[x'] := e5
            simp at this
            rw [this]
          | halt y wy => rw [hq] at hr; cases hr
theorem sureAddr_run {a : Addr} (w : World) : (Instr.sureAddr (.pointer (some a))).run P w = .ok a w := rfl
theorem snd_load {e : En} {m : Operand → Value} (he : EnvR ρ0 e m) (t : TypeId) (x : Operand) : Sim P ρ0 (opLoad P t x e) (Instr.loadAt t (m x)) fun ρ a v => VL ρ a v := by
  unfold opLoad
  split
  · rename_i a ha
    have h1 := he x _ ha
    obtain ⟨_, p, _, e1⟩ := VL.ptr.1 h1
    rw [e1] at h1 ⊢
    exact Sim.skip _ sureAddr_run (snd_loadK t h1)
  · exact .fail
theorem snd_store {e : En} {m : Operand → Value} (he : EnvR ρ0 e m) (t : TypeId) (x y : Operand) :
    Sim P ρ0 (opStore P t x y e) (do Instr.storeAt t (m x) (m y); Pure.pure Next.skip) OpR := by
  unfold opStore
  split
  · rename_i a vs n ha hv hz
    cases hy : e y with
    | none => rw [hy] at hv; cases hv
    | some v =>
      rw [hy] at hv
      have h1 := he x _ ha
      have h2 := cellsK_rel (he y v hy) hv
      obtain ⟨_, p, _, e1⟩ := VL.ptr.1 h1
      rw [e1] at h1 ⊢
      split
      · rename_i hn
        have hlen : (m y).cells.size = n := by
          have := h2.len
          rw [Array.length_toList] at this
          rw [this]; exact Nat.eq_of_beq_eq_true hn
        intro w0 B s s' u ρ w hρ ht H hfr
        obtain ⟨u1, s1, t1, t2, hn1⟩ := tells_bind (good_mstore _ _) ht
        obtain ⟨rfl, rfl⟩ := tells_pure t2
        obtain ⟨v1, w', ρ', hr, H', hE, _⟩ := sim_store (P := P) h1 h2 w0 B s s' u1 ρ w hρ t1 H hfr
        refine ⟨.skip, w', ρ', ?_, H', hE, .inr ⟨rfl, rfl⟩⟩
        simp only [Instr.storeAt, Sem.run_bind, sureAddr_run, Result.andThen, storeVar, szOf_run hz, hlen, ne_eq, not_true_eq_false, if_false, Sem.run_pure]
        rw [hr]
      · exact .fail
  · exact .fail
end Go.Proofs.YtpijenlmfmknnaaGreatDoor

/- Operations without memory of their own: numbers, texts, parts, addresses. No program. -/
namespace Go.Proofs.YtpijenlmfmknnaaGreatDoor
open Go.RowKit
set_option linter.unusedVariables false
variable {P : Program} {ρ0 : Rn}

theorem prun_run {α : Type} : ∀ (c : Sem α) (a : α), prun P c = some a → ∀ w, c.run P w = .ok a w
  | .pure x, a, h, w => by cases h; rfl
  | .program k, a, h, w => prun_run (k P) a h w
  | .mark _ k, a, h, w => prun_run k a h w
  | .load _ _ _, a, h, w => by cases h
  | .store _ _ _ _, a, h, w => by cases h
  | .new _ _, a, h, w => by cases h
  | .shape _ _, a, h, w => by cases h
  | .freeze _ _ _, a, h, w => by cases h
  | .frozen _ _, a, h, w => by cases h
  | .getObj _ _, a, h, w => by cases h
  | .setObj _ _ _, a, h, w => by cases h
  | .choose _ _, a, h, w => by cases h
  | .sys _ _, a, h, w => by cases h
  | .halt _, a, h, w => by cases h
theorem Sim.of {α γ : Type} {a : α} {v : γ} {c : Sem γ} {R : Rn → α → γ → Prop} (hc : ∀ w, c.run P w = .ok v w) (h : ∀ ρ, ρ0.le ρ → R ρ a v) : Sim P ρ0 (mpure a) c R := by
  intro w0 B s s' b ρ w hρ ht H hfr
  obtain ⟨rfl, rfl⟩ := tells_pure ht
  exact ⟨v, w, ρ, hc w, H, .rfl, h ρ hρ⟩
theorem snd_prun {c : Sem Value} : Sim P ρ0 (mprun P c) c fun ρ a v => VL ρ a v := by
  unfold mprun
  split
  · rename_i v hv
    split
    · rename_i hp
      rw [forceV_eq]
      exact Sim.of (prun_run c v hv) fun ρ _ => plain_self hp
    · exact .fail
  · exact .fail
theorem plain_eq {e : En} {m : Operand → Value} (he : EnvR ρ0 e m) {x : Operand} {v : Value} (hx : e x = some v) (hp : plainV v = true) : m x = v := (plainV_iff hp).1 (he x v hx)

/-! Numbers. -/
theorem beq_nat (m n : Nat) : Nat.beq m n = decide (m = n) := by
  cases h : Nat.beq m n with
  | true => simp [Nat.eq_of_beq_eq_true h]
  | false =>
    symm
    rw [decide_eq_false_iff_not]
    intro e
    subst e
    rw [Nat.beq_refl] at h; cases h
theorem eqI_eq (a b : Int) : eqI a b = (a == b) := by
  rw [Bool.eq_iff_iff, beq_iff_eq]
  cases a <;> cases b <;> simp [eqI, beq_nat] <;> omega
theorem blt_eq (m n : Nat) : Nat.blt m n = decide (m < n) := by
  cases h : Nat.blt m n with
  | true => have := Nat.le_of_ble_eq_true h; simp; omega
  | false =>
    symm
    rw [decide_eq_false_iff_not]
    intro hlt
    have : Nat.blt m n = true := Nat.ble_eq_true_of_le hlt
    rw [this] at h; cases h
theorem ltI_eq (a b : Int) : ltI a b = decide (a < b) := by
  rw [Bool.eq_iff_iff, decide_eq_true_iff]
  cases a <;> cases b <;> simp only [ltI, blt_eq, decide_eq_true_iff, Bool.false_eq_true, false_iff, true_iff, Int.ofNat_eq_natCast] <;> omega
theorem addI_eq (a b : Int) : addI a b = a + b := by
  cases a <;> cases b <;> rfl
theorem subNat_eq (m n : Nat) : subNat m n = (m : Int) - n := by
  unfold subNat
  split
  · rename_i h
    have := Nat.le_of_ble_eq_true h
    show ((m - n : Nat) : Int) = _
    omega
  · rename_i h
    have : ¬ n ≤ m := fun hc => by rw [Nat.ble_eq_true_of_le hc] at h; cases h
    rw [Int.negSucc_eq]
    omega
theorem subI_eq (a b : Int) : subI a b = a - b := by
  cases a <;> cases b <;> first | exact subNat_eq _ _ | rfl
theorem sameK_eq {k k' : IntKind} (h : sameK k k' = true) : k' = k := by
  cases k <;> cases k' <;> first | rfl | cases h
theorem wrap_small (m : Nat) (h : m ≤ 4611686018427387904) : IntKind.wrap .i64 (Int.ofNat m) = Int.ofNat m := by
  have h1 : (Int.ofNat m) % (2 ^ 64 : Int) = Int.ofNat m := Int.emod_eq_of_lt (by simp) (by show (m : Int) < _; omega)
  show (let m' := (Int.ofNat m) % (2 ^ 64 : Int); if (true && decide (m' ≥ (2 ^ 63 : Int))) = true then m' - (2 ^ 64 : Int) else m') = _
  simp only [h1]
  rw [if_neg]
  simp
  omega
theorem tells_wrap {k : IntKind} {n m : Int} {s s' : Hp} (h : Tells (wrapK k n) s m s') : m = k.wrap n ∧ s' = s := by
  unfold wrapK at h
  split at h
  · rw [forceN_eq] at h
    split at h
    · rename_i hb
      obtain ⟨rfl, rfl⟩ := tells_pure h
      exact ⟨(wrap_small _ (Nat.le_of_ble_eq_true hb)).symm, rfl⟩
    · rw [forceI_eq] at h
      exact tells_pure h
  · rw [forceI_eq] at h
    exact tells_pure h
theorem guard_int {op : BinOp} {t : TypeId} {x y : Operand} {k k' : IntKind} {a b : Int} (w : World) : (eqGuard op t x y (.int k a) (.int k' b)).run P w = .ok () w := by
  unfold eqGuard
  cases op <;> rfl
theorem snd_cmp {c : Int → Int → Bool} {op : BinOp} {t : TypeId} {x y : Operand} {a b a' b' : Value} (ha : VL ρ0 a a') (hb : VL ρ0 b b')
    (hop : ∀ k i j w, (binOp op t (.int k i) (.int k j)).run P w = .ok (.bool (c i j)) w)
    (hv : Sim P ρ0 (binV P op t x y a b) (do eqGuard op t x y a' b'; binOp op t a' b') fun ρ a v => VL ρ a v) :
    Sim P ρ0 (cmpV P c op t x y a b) (do eqGuard op t x y a' b'; binOp op t a' b') fun ρ a v => VL ρ a v := by
  unfold cmpV
  split
  · rename_i k i k' j
    have e1 := VL.int.1 ha
    have e2 := VL.int.1 hb
    subst e1 e2
    split
    · rename_i hk
      have := sameK_eq hk
      subst this
      rw [forceB_eq]
      refine Sim.of (fun w => ?_) fun ρ _ => VL.bool.2 rfl
      simp only [Sem.run_bind, guard_int, Result.andThen, hop]
    · exact .fail
  · exact hv
theorem snd_arith {c : Int → Int → Int} {op : BinOp} {t : TypeId} {x y : Operand} {a b a' b' : Value} (ha : VL ρ0 a a') (hb : VL ρ0 b b')
    (hop : ∀ k i j w, (binOp op t (.int k i) (.int k j)).run P w = .ok (.int k (k.wrap (c i j))) w)
    (hv : Sim P ρ0 (binV P op t x y a b) (do eqGuard op t x y a' b'; binOp op t a' b') fun ρ a v => VL ρ a v) :
    Sim P ρ0 (arithV P c op t x y a b) (do eqGuard op t x y a' b'; binOp op t a' b') fun ρ a v => VL ρ a v := by
  unfold arithV
  split
  · rename_i k i k' j
    have e1 := VL.int.1 ha
    have e2 := VL.int.1 hb
    subst e1 e2
    split
    · rename_i hk
      have := sameK_eq hk
      subst this
      intro w0 B s s' v ρ w hρ ht H hfr
      obtain ⟨n, s1, h1, h2, _⟩ := tells_bind (good_wrapK _ _) ht
      obtain ⟨rfl, rfl⟩ := tells_wrap h1
      obtain ⟨rfl, rfl⟩ := tells_pure h2
      refine ⟨_, w, ρ, ?_, H, .rfl, VL.int.2 rfl⟩
      simp only [Sem.run_bind, guard_int, Result.andThen, hop]
    · exact .fail
  · exact hv
/-- A nil and another one differ. -/
theorem nil_equal {t : TypeId} {d : TypeDesc} {a b a' b' : Value} (hd : P.underlying t = some d) (ha : VL ρ0 a a') (hb : VL ρ0 b b') (h : nilPair d a b = true) (w : World) :
    (Op.equal t a' b').run P w = .ok false w ∧ (∀ op x y, (eqGuard op t x y a' b').run P w = .ok () w) ∧
      (∀ w, (binOp .eql t a' b').run P w = ((Op.equal t a' b') >>= fun r => Pure.pure (Value.bool r)).run P w) ∧ (∀ w, (binOp .neq t a' b').run P w = ((Op.equal t a' b') >>= fun r => Pure.pure (Value.bool !r)).run P w) := by
  have key : ∀ (X Y : Value), (∀ d, (Op.equalIn (d + 1) t X Y).run P w = .ok false w) → (Op.equal t X Y).run P w = .ok false w := fun _ _ h => h 9999
  unfold nilPair at h
  split at h
  · obtain ⟨_, p, _, e⟩ := VL.ptr.1 ha
    have e2 := VL.nilp.1 hb
    subst e e2
    exact ⟨key _ _ (fun d => by simp [Op.equalIn, run_underlying hd]), fun op x y => by unfold eqGuard; cases op <;> rfl, fun _ => rfl, fun _ => rfl⟩
  · obtain ⟨_, p, _, e⟩ := VL.ptr.1 hb
    have e2 := VL.nilp.1 ha
    subst e e2
    exact ⟨key _ _ (fun d => by simp [Op.equalIn, run_underlying hd]), fun op x y => by unfold eqGuard; cases op <;> rfl, fun _ => rfl, fun _ => rfl⟩
  · obtain ⟨_, _, p, _, a2, c2, e, _⟩ := VL.slice.1 ha
    have e2 := (VL.nils.1 hb).2.2
    subst e e2
    exact ⟨key _ _ (fun d => by simp [Op.equalIn, run_underlying hd]), fun op x y => by unfold eqGuard; cases op <;> rfl, fun _ => rfl, fun _ => rfl⟩
  · obtain ⟨_, _, p, _, a2, c2, e, _⟩ := VL.slice.1 hb
    have e2 := (VL.nils.1 ha).2.2
    subst e e2
    exact ⟨key _ _ (fun d => by simp [Op.equalIn, run_underlying hd]), fun op x y => by unfold eqGuard; cases op <;> rfl, fun _ => rfl, fun _ => rfl⟩
  · rename_i fn f c
    obtain ⟨f⟩ := f
    obtain ⟨c⟩ := c
    obtain ⟨_, f', c', e, _⟩ := VL.func.1 ha
    have e2 := VL.nilf.1 hb
    subst e e2
    exact ⟨key _ _ (fun d => by simp [Op.equalIn, run_underlying hd]), fun op x y => by unfold eqGuard; cases op <;> rfl, fun _ => rfl, fun _ => rfl⟩
  · rename_i fn f c
    obtain ⟨f⟩ := f
    obtain ⟨c⟩ := c
    obtain ⟨_, f', c', e, _⟩ := VL.func.1 hb
    have e2 := VL.nilf.1 ha
    subst e e2
    exact ⟨key _ _ (fun d => by simp [Op.equalIn, run_underlying hd]), fun op x y => by unfold eqGuard; cases op <;> rfl, fun _ => rfl, fun _ => rfl⟩
  · obtain ⟨x', e, _⟩ := VL.iface.1 ha
    have e2 := VL.nili.1 hb
    subst e e2
    exact ⟨key _ _ (fun d => by simp [Op.equalIn, run_underlying hd]), fun op x y => by unfold eqGuard; cases op <;> rfl, fun _ => rfl, fun _ => rfl⟩
  · obtain ⟨x', e, _⟩ := VL.iface.1 hb
    have e2 := VL.nili.1 ha
    subst e e2
    exact ⟨key _ _ (fun d => by simp [Op.equalIn, run_underlying hd]), fun op x y => by unfold eqGuard; cases op <;> rfl, fun _ => rfl, fun _ => rfl⟩
  · obtain ⟨p, _, e⟩ := VL.map.1 ha
    have e2 := VL.nilm.1 hb
    subst e e2
    exact ⟨key _ _ (fun d => by simp [Op.equalIn, run_underlying hd]), fun op x y => by unfold eqGuard; cases op <;> rfl, fun _ => rfl, fun _ => rfl⟩
  · obtain ⟨p, _, e⟩ := VL.map.1 hb
    have e2 := VL.nilm.1 ha
    subst e e2
    exact ⟨key _ _ (fun d => by simp [Op.equalIn, run_underlying hd]), fun op x y => by unfold eqGuard; cases op <;> rfl, fun _ => rfl, fun _ => rfl⟩
  · cases h
theorem snd_binV {op : BinOp} {t : TypeId} {x y : Operand} {a b a' b' : Value} (ha : VL ρ0 a a') (hb : VL ρ0 b b') :
    Sim P ρ0 (binV P op t x y a b) (do eqGuard op t x y a' b'; binOp op t a' b') fun ρ a v => VL ρ a v := by
  unfold binV
  split
  · rename_i hp
    rw [Bool.and_eq_true] at hp
    rw [(plainV_iff hp.1).1 ha, (plainV_iff hp.2).1 hb]
    exact snd_prun
  · unfold nilV
    split
    · rename_i d hd
      split
      · rename_i hn
        refine Sim.of (v := .bool false) (fun w => ?_) fun ρ _ => VL.bool.2 rfl
        obtain ⟨h1, h2, h3, h4⟩ := nil_equal hd ha hb hn w
        simp only [Sem.run_bind, h2, Result.andThen, h3, h1, Sem.run_pure]
      · exact .fail
    · rename_i d hd
      split
      · rename_i hn
        refine Sim.of (v := .bool true) (fun w => ?_) fun ρ _ => VL.bool.2 rfl
        obtain ⟨h1, h2, h3, h4⟩ := nil_equal hd ha hb hn w
        simp only [Sem.run_bind, h2, Result.andThen, h4, h1, Sem.run_pure, Bool.not_false]
      · exact .fail
    · exact .fail
theorem dec_le (i j : Int) : decide (i ≤ j) = !decide (j < i) := by
  rw [Bool.eq_iff_iff]
  simp
theorem snd_bin {e : En} {m : Operand → Value} (he : EnvR ρ0 e m) (op : BinOp) (t : TypeId) (x y : Operand) :
    Sim P ρ0 (opBin P op t x y e) (do eqGuard op t x y (m x) (m y); binOp op t (m x) (m y)) fun ρ a v => VL ρ a v := by
  unfold opBin
  split
  · rename_i a b hx hy
    have ha := he x _ hx
    have hb := he y _ hy
    unfold binD
    split
    · exact snd_arith ha hb (fun k i j w => by simp [binOp, Op.intArith, addI_eq]) (snd_binV ha hb)
    · exact snd_arith ha hb (fun k i j w => by simp [binOp, Op.intArith, subI_eq]) (snd_binV ha hb)
    · exact snd_cmp ha hb (fun k i j w => by simp [binOp, Op.intCmp, eqI_eq]) (snd_binV ha hb)
    · exact snd_cmp ha hb (fun k i j w => by simp [binOp, Op.intCmp, eqI_eq, bne]) (snd_binV ha hb)
    · exact snd_cmp ha hb (fun k i j w => by simp [binOp, Op.intCmp, ltI_eq]) (snd_binV ha hb)
    · exact snd_cmp ha hb (fun k i j w => by simp [binOp, Op.intCmp, ltI_eq]; exact dec_le _ _) (snd_binV ha hb)
    · exact snd_cmp ha hb (fun k i j w => by simp [binOp, Op.intCmp, ltI_eq]) (snd_binV ha hb)
    · exact snd_cmp ha hb (fun k i j w => by simp [binOp, Op.intCmp, ltI_eq]; exact dec_le _ _) (snd_binV ha hb)
    · exact snd_binV ha hb
  · exact .fail
theorem snd_un {e : En} {m : Operand → Value} (he : EnvR ρ0 e m) (op : UnOp) (x : Operand) : Sim P ρ0 (opUnOp P op x e) (Op.unary op (m x)) fun ρ a v => VL ρ a v := by
  unfold opUnOp
  split
  · rename_i a hx
    split
    · rename_i hp
      rw [plain_eq he hx hp]
      exact snd_prun
    · exact .fail
  · exact .fail
theorem snd_nilCheck {e : En} {m : Operand → Value} (he : EnvR ρ0 e m) (x : Operand) (o : Oper) (ho : o.op = .nilCheck x) : Sim P ρ0 (opNilCheck x e) (execOp m o) OpR := by
  unfold opNilCheck
  split
  · rename_i a hx
    have h1 := he x _ hx
    obtain ⟨_, p, _, e1⟩ := VL.ptr.1 h1
    have hE : execOp m o = Pure.pure (Next.value (m x)) := by simp only [execOp, ho, e1]
    rw [hE]
    exact Sim.pure fun ρ hρ => .inl ⟨_, rfl, h1.grow hρ⟩
  · rename_i f a b hx
    obtain ⟨a⟩ := a
    obtain ⟨b⟩ := b
    have h1 := he x _ hx
    obtain ⟨_, f', c', e1, _⟩ := VL.func.1 h1
    have hE : execOp m o = Pure.pure (Next.value (m x)) := by simp only [execOp, ho, e1]
    rw [hE]
    exact Sim.pure fun ρ hρ => .inl ⟨_, rfl, h1.grow hρ⟩
  · rename_i t v hx
    have h1 := he x _ hx
    obtain ⟨x', e1, _⟩ := VL.iface.1 h1
    have hE : execOp m o = Pure.pure (Next.value (m x)) := by simp only [execOp, ho, e1]
    rw [hE]
    exact Sim.pure fun ρ hρ => .inl ⟨_, rfl, h1.grow hρ⟩
  · exact .fail
end Go.Proofs.YtpijenlmfmknnaaGreatDoor

/- Parts, addresses, functions, interfaces, maps. No program. -/
namespace Go.Proofs.YtpijenlmfmknnaaGreatDoor
open Go.RowKit
set_option linter.unusedVariables false
variable {P : Program} {ρ0 : Rn}

theorem Sim.aevs {γ δ : Type} {e : En} {m : Operand → Value} (he : EnvR ρ0 e m) {c : Sem δ} {R : Rn → γ → δ → Prop} : ∀ (l : List Operand) {G : List Value → M γ}, (∀ vs, Good (G vs)) →
    (∀ vs, LR (VL ρ0) vs (l.map m) → Sim P ρ0 (G vs) c R) → Sim P ρ0 (mbind (aevs e l) G) c R := by
  have tl : ∀ (l : List Operand) (s s' : Hp) (vs : List Value), Tells (Go.Proofs.YtpijenlmfmknnaaGreatDoor.aevs e l) s vs s' → s' = s ∧ LR (VL ρ0) vs (l.map m) := by
    intro l
    induction l with
    | nil =>
      intro s s' vs h
      obtain ⟨rfl, rfl⟩ := tells_pure h
      exact ⟨rfl, rfl⟩
    | cons x l ih =>
      intro s s' vs h
      unfold Go.Proofs.YtpijenlmfmknnaaGreatDoor.aevs at h
      split at h
      · rename_i v hv
        obtain ⟨ws, s1, h1, h2, _⟩ := tells_bind (good_aevs e l) h
        obtain ⟨rfl, hl⟩ := ih _ _ _ h1
        obtain ⟨rfl, rfl⟩ := tells_pure h2
        exact ⟨rfl, m x, l.map m, rfl, he x v hv, hl⟩
      · exact (tells_fail h).elim
  intro l G hG h w0 B s s' a ρ w hρ ht H hfr
  obtain ⟨vs, s1, h1, h2, _⟩ := tells_bind (good_aevs e l) ht
  obtain ⟨rfl, hl⟩ := tl l _ _ _ h1
  exact h vs hl w0 B _ s' a ρ w hρ h2 H hfr
theorem Sim.aev1 {γ δ : Type} {x : Option Value} {G : Value → M γ} {c : Sem δ} {R : Rn → γ → δ → Prop} (h : ∀ v, x = some v → Sim P ρ0 (G v) c R) : Sim P ρ0 (mbind (maev x) G) c R := by
  intro w0 B s s' a ρ w hρ ht H hfr
  obtain ⟨v, s1, h1, h2, _⟩ := tells_bind (good_maev x) ht
  obtain ⟨e1, rfl⟩ := tells_aev h1
  exact h v e1 w0 B _ s' a ρ w hρ h2 H hfr
theorem Sim.at {α γ : Type} {ρ1 : Rn} {F : M α} {c : Sem γ} {R : Rn → α → γ → Prop} (h : Sim P ρ0 F c R) (hρ : ρ0.le ρ1) : Sim P ρ1 F c R :=
  fun w0 B s s' a ρ w hρ' ht H hfr => h w0 B s s' a ρ w (hρ.trans hρ') ht H hfr
theorem Sim.cut {γ δ : Type} {off n : Nat} {l : List Value} {G : List Value → M γ} {c : Sem δ} {R : Rn → γ → δ → Prop} (h : off + n ≤ l.length → Sim P ρ0 (G ((l.drop off).take n)) c R) : Sim P ρ0 (mbind (cut off n l) G) c R := by
  intro w0 B s s' a ρ w hρ ht H hfr
  obtain ⟨vs, s1, h1, h2, _⟩ := tells_bind (good_cut _ _ _) ht
  obtain ⟨e1, rfl, rfl⟩ := tells_cut h1
  exact h e1 w0 B _ s' a ρ w hρ h2 H hfr
theorem extract_list (l : List Value) (off n : Nat) : (⟨l⟩ : Array Value).extract off (off + n) = ⟨(l.drop off).take n⟩ := by
  apply Array.ext'
  simp
theorem snd_part {t : TypeId} {l l' : List Value} {off : Nat} (hl : LR (VL ρ0) l l') : Sim P ρ0 (partK P t l off) (part t ⟨l'⟩ off) fun ρ a v => VL ρ a v := by
  unfold partK
  split
  · rename_i n hg hz
    unfold part
    refine Sim.skip true (aggOf_run hg) ?_
    simp only [if_true]
    refine Sim.skip n (szOf_run hz) ?_
    refine Sim.cut fun hle => ?_
    exact Sim.pure fun ρ hρ => VL.agg.2 ⟨_, by rw [extract_list], ((hl.grow hρ).drop off).take n⟩
  · rename_i n hg hz
    unfold part
    refine Sim.skip false (aggOf_run hg) ?_
    simp only [Bool.false_eq_true, if_false]
    intro w0 B s s' a ρ w hρ ht H hfr
    obtain ⟨e1, rfl⟩ := tells_aev ht
    obtain ⟨v', e2, hv⟩ := (hl.grow hρ).at e1
    refine ⟨v', w, ρ, ?_, H, .rfl, hv⟩
    have : (⟨l'⟩ : Array Value)[off]? = some v' := by simpa using e2
    rw [this]; rfl
  · exact .fail
theorem fieldOf_run {t : TypeId} {f off : Nat} {ft : TypeId} (h : fieldOf P t f = some (off, ft)) : ∃ fs fd, P.underlying t = some (.struct fs) ∧ fs[f]? = some fd ∧ fd.offset = off ∧ fd.type = ft := by
  unfold fieldOf at h
  split at h
  · rename_i fs hu
    split at h
    · rename_i fd hf
      cases h
      exact ⟨fs, fd, hu, hf, rfl, rfl⟩
    · cases h
  · cases h
theorem snd_field {e : En} {m : Operand → Value} (he : EnvR ρ0 e m) (t : TypeId) (x : Operand) (f : Nat) : Sim P ρ0 (opField P t x f e) (Instr.field t (m x) f) fun ρ a v => VL ρ a v := by
  unfold opField
  split
  · rename_i off ft l hf hx
    obtain ⟨fs, fd, hu, hfd, rfl, rfl⟩ := fieldOf_run hf
    obtain ⟨l', e1, hl⟩ := VL.agg.1 (he x _ hx)
    unfold Instr.field
    refine Sim.skip _ (run_underlying hu) ?_
    simp only [hfd, e1]
    refine Sim.skip (⟨l'⟩ : Array Value) (fun _ => rfl) ?_
    exact snd_part hl
  · exact .fail
theorem tells_add {a b : Addr} {n : Nat} {s s' : Hp} (h : Tells (addA a n) s b s') : ∃ k off, a = ⟨k, off, none⟩ ∧ b = ⟨k, off + n, none⟩ ∧ s' = s := by
  unfold addA at h
  split at h
  · rw [forceN_eq] at h
    obtain ⟨rfl, rfl⟩ := tells_pure h
    exact ⟨_, _, rfl, rfl, rfl⟩
  · exact (tells_fail h).elim
/-- An address further on. -/
theorem sim_ptrTo {a a' : Addr} {n : Nat} (ha : VL ρ0 (.pointer (some a)) (.pointer (some a'))) : Sim P ρ0 (ptrTo a n) (Pure.pure (Value.pointer (some (a'.add n)))) fun ρ a v => VL ρ a v := by
  intro w0 B s s' v ρ w hρ ht H hfr
  obtain ⟨b, s1, h1, h2, _⟩ := tells_bind (good_addA _ _) ht
  obtain ⟨k, off, rfl, rfl, rfl⟩ := tells_add h1
  obtain ⟨rfl, rfl⟩ := tells_pure h2
  refine ⟨_, w, ρ, rfl, H, .rfl, ?_⟩
  obtain ⟨_, p, hp, e1⟩ := VL.ptr.1 (ha.grow hρ)
  cases e1
  refine VL.ptr.2 ⟨rfl, p, hp, ?_⟩
  rw [add_at]
  simp only [Nat.add_assoc]
theorem snd_fieldAddr {e : En} {m : Operand → Value} (he : EnvR ρ0 e m) (t : TypeId) (x : Operand) (f : Nat) : Sim P ρ0 (opFieldAddr P t x f e) (Instr.fieldAt t (m x) f) fun ρ a v => VL ρ a v := by
  unfold opFieldAddr
  split
  · rename_i off a hf hx
    unfold offOf at hf
    split at hf
    · rename_i off' ft hf'
      split at hf
      · rename_i k hz
        cases hf
        obtain ⟨fs, fd, hu, hfd, rfl, rfl⟩ := fieldOf_run hf'
        have h1 := he x _ hx
        obtain ⟨_, p, _, e1⟩ := VL.ptr.1 h1
        rw [e1] at h1 ⊢
        unfold Instr.fieldAt
        refine Sim.skip _ (run_underlying hu) ?_
        simp only [hfd]
        refine Sim.skip _ sureAddr_run ?_
        refine Sim.skip _ (fun w => ?_) (sim_ptrTo h1)
        unfold fieldPlace
        simp only [Sem.run_bind, szOf_run hz, Result.andThen, Nat.add_one_ne_zero, if_false, Sem.run_pure]
      · cases hf
    · cases hf
  · exact .fail
theorem arrOf_run {t el : TypeId} {n z : Nat} (h : arrOf P t = some (n, z, el)) : P.underlying t = some (.array n el) ∧ szOf P el = some z := by
  unfold arrOf at h
  split at h
  · rename_i hu
    split at h
    · rename_i hz; cases h; exact ⟨hu, hz⟩
    · cases h
  · cases h
theorem elem_run {t el : TypeId} (h : elemOfS P t = some el) : P.underlying t = some (.slice el) := by
  unfold elemOfS at h
  split at h
  · rename_i hu; cases h; exact hu
  · cases h
theorem blt_lt {i n : Nat} (h : Nat.blt i n = true) : i < n := by rw [blt_eq] at h; simpa using h
theorem snd_indexAddr {e : En} {m : Operand → Value} (he : EnvR ρ0 e m) (t : TypeId) (x ix : Operand) : Sim P ρ0 (opIndexAddr P t x ix e) (Instr.indexAt t (m x) (m ix)) fun ρ a v => VL ρ a v := by
  unfold opIndexAddr
  split
  · rename_i a k i hx hi
    split
    · rename_i n z el hA
      split
      · rename_i hlt
        obtain ⟨hu, hz⟩ := arrOf_run hA
        have h1 := he x _ hx
        have h2 := VL.int.1 (he ix _ hi)
        obtain ⟨_, p, _, e1⟩ := VL.ptr.1 h1
        rw [e1] at h1 ⊢
        rw [h2]
        have hb : (0 : Int) ≤ (i : Int) ∧ (i : Int) < (n : Int) := ⟨Int.natCast_nonneg _, by have := blt_lt hlt; omega⟩
        intro w0 B s s' v ρ w hρ ht H hfr
        obtain ⟨v', w', ρ', hr, rest⟩ := sim_ptrTo (P := P) h1 w0 B s s' v ρ w hρ ht H hfr
        refine ⟨v', w', ρ', ?_, rest⟩
        rw [← hr]
        simp only [Instr.indexAt, asIntOf, Sem.run_bind, Sem.run_pure, Result.andThen, run_underlying hu, sureAddr_run, Int.ofNat_eq_natCast, Int.toNat_natCast]
        rw [if_pos hb]
        simp only [Sem.run_bind, szOf_run hz, Result.andThen]
        try rfl
      · exact .fail
    · exact .fail
  · rename_i a n c k i hx hi
    split
    · rename_i z hz' hlt
      cases hel : elemOfS P t with
      | none => rw [hel] at hz'; cases hz'
      | some el =>
        rw [hel] at hz'
        have hz : szOf P el = some z := hz'
        have hu := elem_run hel
        have h2 := VL.int.1 (he ix _ hi)
        obtain ⟨hsp, hlc, p, hp, a', c', e1, e2, e3, _⟩ := VL.slice.1 (he x _ hx)
        have hlt' := blt_lt hlt
        have ha' := e3 (by omega)
        have h1 : VL ρ0 (.pointer (some a)) (.pointer (some a')) := VL.ptr.2 ⟨hsp, p, hp, by rw [ha']⟩
        rw [e1, h2]
        have hb : (0 : Int) ≤ (i : Int) ∧ (i : Int) < (n : Int) := ⟨Int.natCast_nonneg _, by omega⟩
        intro w0 B s s' v ρ w hρ ht H hfr
        obtain ⟨v', w', ρ', hr, rest⟩ := sim_ptrTo (P := P) h1 w0 B s s' v ρ w hρ ht H hfr
        refine ⟨v', w', ρ', ?_, rest⟩
        rw [← hr]
        simp only [Instr.indexAt, asIntOf, Sem.run_bind, Sem.run_pure, Result.andThen, run_underlying hu, Int.ofNat_eq_natCast, Int.toNat_natCast]
        rw [if_pos hb]
        simp only [Sem.run_bind, szOf_run hz, Result.andThen]
        try rfl
    · exact .fail
  · exact .fail
theorem snd_index {e : En} {m : Operand → Value} (he : EnvR ρ0 e m) (t : TypeId) (x ix : Operand) : Sim P ρ0 (opIndex P t x ix e) (Instr.index t (m x) (m ix)) fun ρ a v => VL ρ a v := by
  unfold opIndex
  split
  · rename_i b k i hx hi
    rw [VL.string.1 (he x _ hx), VL.int.1 (he ix _ hi)]
    exact snd_prun
  · rename_i l k i hx hi
    split
    · rename_i n z el hA
      split
      · rename_i hlt
        obtain ⟨hu, hz⟩ := arrOf_run hA
        obtain ⟨l', e1, hl⟩ := VL.agg.1 (he x _ hx)
        rw [e1, VL.int.1 (he ix _ hi)]
        have hb : (0 : Int) ≤ (i : Int) ∧ (i : Int) < (n : Int) := ⟨Int.natCast_nonneg _, by have := blt_lt hlt; omega⟩
        intro w0 B s s' v ρ w hρ ht H hfr
        obtain ⟨v', w', ρ', hr, rest⟩ := snd_part (P := P) hl w0 B s s' v ρ w hρ ht H hfr
        refine ⟨v', w', ρ', ?_, rest⟩
        rw [← hr]
        simp only [Instr.index, asIntOf, Sem.run_bind, Sem.run_pure, Result.andThen, run_underlying hu, Int.ofNat_eq_natCast, Int.toNat_natCast]
        rw [if_pos hb]
        simp only [Sem.run_bind, szOf_run hz, Result.andThen]
        try rfl
      · exact .fail
    · exact .fail
  · exact .fail
theorem snd_extract {e : En} {m : Operand → Value} (he : EnvR ρ0 e m) (x : Operand) (i : Nat) : Sim P ρ0 (opExtract x i e) (Instr.extract (m x) i) fun ρ a v => VL ρ a v := by
  unfold opExtract
  split
  · rename_i l hx
    obtain ⟨l', e1, hl⟩ := VL.tuple.1 (he x _ hx)
    rw [e1]
    intro w0 B s s' v ρ w hρ ht H hfr
    obtain ⟨e2, rfl⟩ := tells_aev ht
    obtain ⟨v', e3, hv⟩ := (hl.grow hρ).at e2
    refine ⟨v', w, ρ, ?_, H, .rfl, hv⟩
    have : (⟨l'⟩ : Array Value)[i]? = some v' := by simpa using e3
    simp only [Instr.extract, this]; rfl
  · exact .fail
theorem snd_makeInterface {e : En} {m : Operand → Value} (he : EnvR ρ0 e m) (t : TypeId) (x : Operand) : Sim P ρ0 (opMakeInterface P t x e) (Instr.makeInterface t (m x)) fun ρ a v => VL ρ a v := by
  unfold opMakeInterface
  split
  · exact .fail
  · rename_i d hni hu
    refine Sim.aev1 fun v hv => ?_
    refine Sim.of (v := .iface t (m x)) (fun w => ?_) fun ρ hρ => VL.iface.2 ⟨_, rfl, (he x v hv).grow hρ⟩
    simp only [Instr.makeInterface, Sem.run_bind, run_underlying hu, Result.andThen]
    cases d <;> first
      | rfl
      | exact (hni _ rfl).elim
  · exact .fail
theorem snd_makeFunc {e : En} {m : Operand → Value} (he : EnvR ρ0 e m) (fn : Fn) (a b : Array Operand) : Sim P ρ0 (opMakeFunc fn a b e) (Instr.makeFunc fn (a.map m) (b.map m)) fun ρ a v => VL ρ a v := by
  unfold opMakeFunc
  split
  · rename_i hf
    refine Sim.aevs he _ (fun _ => good_bind (good_aevs _ _) fun _ => good_pure _) fun vs hvs => Sim.aevs he _ (fun _ => good_pure _) fun us hus => ?_
    refine Sim.of (v := .func fn (a.map m) (b.map m)) (fun w => rfl) fun ρ hρ => VL.func.2 ⟨?_, _, _, ?_, hvs.grow hρ, hus.grow hρ⟩
    · cases fn <;> first | exact trivial | cases hf
    · congr 1 <;> (apply Array.ext'; simp)
  · exact .fail
theorem snd_makeMap (t : TypeId) (r : Option Operand) (m : Operand → Value) : Sim P ρ0 (opMakeMap r) (Instr.makeMap t (r.map m)) fun ρ a v => VL ρ a v := by
  unfold opMakeMap
  split
  · intro w0 B s s' v ρ w hρ ht H hfr
    obtain ⟨id, s1, h1, h2, _⟩ := tells_bind (good_new _) ht
    obtain ⟨rfl, h16, e1, e2⟩ := tells_new h1
    obtain ⟨rfl, rfl⟩ := tells_pure h2
    have hn := hfr s.n (Nat.le_refl _) (by omega)
    refine ⟨.map (some w.heap.size), { w with heap := w.heap.push (.map #[] 0) }, ρ.put s.n ⟨w.heap.size, 0, 0, 0, 0⟩, rfl, ?_, ?_, VL.map.2 ⟨_, if_pos rfl, rfl⟩⟩
    · rw [e1]
      refine H.new hn h16 (Nat.le_trans H.base H.below.size) (fun id o p ho' hp => ?_) (below_push H.below (Nat.le_trans H.base H.below.size) _) (fun id o p ho' hp => ?_) ?_
      · obtain ⟨q, hq, hlt⟩ := (H.obj id o ho').place
        rw [hp] at hq; cases hq
        exact Nat.ne_of_lt hlt
      · obtain ⟨q, hq, hlt⟩ := (H.obj id o ho').place
        rw [hp] at hq; cases hq
        simp only []
        rw [Array.getElem?_push, if_neg (by omega)]
      · exact ⟨_, if_pos rfl, by simp⟩
    · rw [e2]; exact .put hn _
  · exact .fail
end Go.Proofs.YtpijenlmfmknnaaGreatDoor

/- Assertions, maps, literals, rows that are made. No program. -/
namespace Go.Proofs.YtpijenlmfmknnaaGreatDoor
open Go.RowKit
set_option linter.unusedVariables false
variable {P : Program} {ρ0 : Rn}

theorem zero_run {t : TypeId} {z : Value} (h : (P.info? t).bind (·.zero) = some z) (w : World) : (zeroValue t).run P w = .ok z w := by
  cases hi : P.info? t with
  | none => rw [hi] at h; cases h
  | some i =>
    rw [hi] at h
    simp only [Option.bind_some] at h
    simp [zeroValue, typeInfo, hi, h]
theorem two_rel {ρ : Rn} {v v' : Value} {b : Bool} (h : VL ρ v v') : VL ρ (.tuple ⟨[v, .bool b]⟩) (.tuple #[v', .bool b]) :=
  VL.tuple.2 ⟨[v', .bool b], rfl, v', [.bool b], rfl, h, .bool b, [], rfl, VL.bool.2 rfl, rfl⟩
theorem snd_typeAssert {e : En} {m : Operand → Value} (he : EnvR ρ0 e m) (x : Operand) (xt t : TypeId) (ok : Bool) :
    Sim P ρ0 (opTypeAssert P x t ok e) (Instr.typeAssert (m x) xt t ok) fun ρ a v => VL ρ a v := by
  unfold opTypeAssert
  split
  · exact .fail
  · rename_i d hni hu
    split
    · rename_i u v hx
      obtain ⟨v', e1, hv⟩ := VL.iface.1 (he x _ hx)
      rw [e1]
      have hrun : ∀ w, (Instr.typeAssert (.iface u v') xt t ok).run P w = (if u = t then (Pure.pure (if ok then .tuple #[v', .bool true] else v') : Sem Value) else
          (if ok then do Pure.pure (.tuple #[← zeroValue t, .bool false]) else runtimePanic (.typeAssertion (some xt) (some u) t ""))).run P w := by
        intro w
        simp only [Instr.typeAssert, Sem.run_bind, run_underlying hu, Result.andThen]
      unfold assertV
      split
      · rename_i hb
        have hut := Nat.eq_of_beq_eq_true hb
        refine Sim.of (v := .tuple #[v', .bool true]) (fun w => ?_) fun ρ hρ => two_rel (hv.grow hρ)
        rw [hrun, if_pos hut]; rfl
      · rename_i hb
        have hut := Nat.eq_of_beq_eq_true hb
        refine Sim.of (v := v') (fun w => ?_) fun ρ hρ => hv.grow hρ
        rw [hrun, if_pos hut]; rfl
      · rename_i hb
        have hut : ¬ u = t := fun h => by subst h; rw [Nat.beq_refl] at hb; cases hb
        split
        · rename_i z hz
          split
          · rename_i hp
            refine Sim.of (v := .tuple #[z, .bool false]) (fun w => ?_) fun ρ hρ => two_rel (plain_self hp)
            rw [hrun, if_neg hut]
            simp only [if_true, Sem.run_bind, zero_run hz, Result.andThen, Sem.run_pure]
          · exact .fail
        · exact .fail
      · exact .fail
    · exact .fail
  · exact .fail

/-! Maps. -/
theorem getObj_map {w : World} {r : Nat} {es : Array MapEntry} {c : Nat} (h : w.heap[r]? = some (.map es c)) : (getObj r).run P w = .ok (.map es c) w := by
  simp only [getObj, Sem.run, h]
theorem setObj_map {w : World} {r : Nat} {es : Array MapEntry} {c : Nat} (h : w.heap[r]? = some (.map es c)) (o : Obj) : (setObj r o).run P w = .ok () { w with heap := w.heap.setIfInBounds r o } := by
  simp only [setObj, Sem.run, h]
theorem tells_found {ok b : Bool} {v x : Value} {s s' : Hp} (h : Tells (foundV ok v b) s x s') : plainV v = true ∧ x = (if ok then .tuple ⟨[v, .bool b]⟩ else v) ∧ s' = s := by
  unfold foundV at h
  split at h
  · rename_i hp; obtain ⟨rfl, rfl⟩ := tells_pure h; exact ⟨hp, rfl, rfl⟩
  · rename_i hp; obtain ⟨rfl, rfl⟩ := tells_pure h; exact ⟨hp, rfl, rfl⟩
  · exact (tells_fail h).elim
theorem found_rel {ρ : Rn} {ok b : Bool} {v : Value} (hp : plainV v = true) : VL ρ (if ok then .tuple ⟨[v, .bool b]⟩ else v) (if ok then .tuple #[v, .bool b] else v) := by
  cases ok
  · exact plain_self hp
  · exact two_rel (plain_self hp)
theorem snd_lookup {e : En} {m : Operand → Value} (he : EnvR ρ0 e m) (t : TypeId) (x ix : Operand) (ok : Bool) : Sim P ρ0 (opLookup P t x ix ok e) (Instr.lookup t (m x) (m ix) ok) fun ρ a v => VL ρ a v := by
  unfold opLookup
  split
  · rename_i r k hx hk
    split
    · rename_i hp
      have hk' := plain_eq he hk hp
      intro w0 B s s' v ρ w hρ ht H hfr
      obtain ⟨p, hpr, e1⟩ := VL.map.1 ((he x _ hx).grow hρ)
      obtain ⟨o, s1, h1, h2, _⟩ := tells_bind (good_get r) ht
      obtain ⟨g1, g2, g3⟩ := tells_get h1
      unfold lookIn at h2
      split at h2
      · rename_i es c kt el hu
        obtain ⟨q, hq, hm⟩ := H.obj r _ g1
        rw [hpr] at hq; cases hq
        have H' : HR w0 B ρ s1.f w := H.congr fun id => by rw [g2]
        split at h2
        · rename_i u i v1 hck hfk
          obtain ⟨hpl, rfl, rfl⟩ := tells_found h2
          refine ⟨_, w, ρ, ?_, H', .rfl, found_rel hpl⟩
          rw [e1, hk']
          simp only [Instr.lookup, Sem.run_bind, run_underlying hu, Result.andThen, getObj_map hm, Sem.run_pure, prun_run _ _ hck, prun_run _ _ hfk]
        · rename_i u hck hfk
          split at h2
          · rename_i z hz
            obtain ⟨hpl, rfl, rfl⟩ := tells_found h2
            refine ⟨_, w, ρ, ?_, H', .rfl, found_rel hpl⟩
            rw [e1, hk']
            simp only [Instr.lookup, Sem.run_bind, run_underlying hu, Result.andThen, getObj_map hm, Sem.run_pure, prun_run _ _ hck, prun_run _ _ hfk, zero_run hz]
          · exact (tells_fail h2).elim
        · exact (tells_fail h2).elim
      · exact (tells_fail h2).elim
    · exact .fail
  · exact .fail
theorem snd_mapUpdate {e : En} {m : Operand → Value} (he : EnvR ρ0 e m) (t : TypeId) (x k y : Operand) :
    Sim P ρ0 (opMapUpdate P t x k y e) (do Instr.mapUpdate t (m x) (m k) (m y); Pure.pure Next.skip) OpR := by
  unfold opMapUpdate
  split
  · rename_i r kv v hx hk hy
    split
    · rename_i hp
      rw [Bool.and_eq_true] at hp
      have hk' := plain_eq he hk hp.1
      have hy' := plain_eq he hy hp.2
      intro w0 B s s' u ρ w hρ ht H hfr
      obtain ⟨p, hpr, e1⟩ := VL.map.1 ((he x _ hx).grow hρ)
      obtain ⟨o, s1, h1, h2, _⟩ := tells_bind (good_get r) ht
      obtain ⟨g1, g2, g3⟩ := tells_get h1
      unfold putIn at h2
      split at h2
      · rename_i es c kt el hu
        obtain ⟨q, hq, hm⟩ := H.obj r _ g1
        rw [hpr] at hq; cases hq
        split at h2
        · rename_i u1 hck hfk
          rw [forceL_eq, forceN_eq] at h2
          obtain ⟨u2, s2, h3, h4, _⟩ := tells_bind (good_set _ _) h2
          obtain ⟨h16, g4, g5⟩ := tells_set h3
          obtain ⟨rfl, rfl⟩ := tells_pure h4
          have hB : B ≤ p.blk := H.own r _ p g1 h16 hpr
          have hlt : p.blk < w.heap.size := by
            rcases Nat.lt_or_ge p.blk w.heap.size with h | h
            · exact h
            · rw [Array.getElem?_eq_none h] at hm; cases hm
          refine ⟨.skip, { w with heap := w.heap.setIfInBounds p.blk (.map ⟨es ++ [{ key := kv, val := v, born := c }]⟩ (c + 1)) }, ρ, ?_, ?_, .rfl, .inr ⟨rfl, rfl⟩⟩
          · rw [e1, hk', hy']
            have hpush : (⟨es⟩ : Array MapEntry).push { key := kv, val := v, born := c } = ⟨es ++ [{ key := kv, val := v, born := c }]⟩ := by apply Array.ext'; simp
            simp only [Instr.mapUpdate, Sem.run_bind, run_underlying hu, Result.andThen, getObj_map hm, prun_run _ _ hck, prun_run _ _ hfk, setObj_map hm, Sem.run_pure, hpush]
          · rw [g4, g2]
            refine H.set g1 hpr (H.below.trans ⟨rfl, rfl, rfl, by simp, fun j hj => ?_⟩) (fun j hj => ?_) ⟨p, hpr, ?_⟩
            · simp only [Array.getElem?_setIfInBounds]; rw [if_neg (by omega)]
            · simp only [Array.getElem?_setIfInBounds]; rw [if_neg (fun h => hj h.symm)]
            · simp [hlt]
        · exact (tells_fail h2).elim
      · exact (tells_fail h2).elim
    · exact .fail
  · exact .fail

/-! Rows and structs that are built of parts. -/
/-- Cells laid into a row one by one are pasted. -/
theorem lay_cells (off : Nat) : ∀ (vs : List Value) (j : Nat) (l : List Value), off + j + vs.length ≤ l.length →
    ((vs.zipIdx j).foldl (fun (cs : Array Value) (x : Value × Nat) => cs.setIfInBounds (off + x.2) x.1) ⟨l⟩).toList = l.take (off + j) ++ (vs ++ l.drop (off + j + vs.length))
  | [], j, l, h => by simp
  | v :: vs, j, l, h => by
    simp only [List.length_cons] at h
    simp only [List.zipIdx_cons, List.foldl_cons]
    have e : (⟨l⟩ : Array Value).setIfInBounds (off + j) v = ⟨l.set (off + j) v⟩ := by apply Array.ext'; simp
    rw [e, lay_cells off vs (j + 1) (l.set (off + j) v) (by rw [List.length_set]; omega)]
    simp only [List.length_cons]
    have h1 : (l.set (off + j) v).take (off + (j + 1)) = l.take (off + j) ++ [v] := by
      apply List.ext_getElem?
      intro i
      rw [List.getElem?_take, List.getElem?_set]
      by_cases hi : i < off + j
      · rw [if_pos (by omega), if_neg (by omega), List.getElem?_append_left (by rw [List.length_take]; omega), List.getElem?_take, if_pos hi]
      · by_cases hi2 : i = off + j
        · subst hi2
          rw [if_pos (by omega), if_pos rfl, if_pos (by omega), List.getElem?_append_right (by rw [List.length_take]; omega), List.length_take, show off + j - min (off + j) l.length = 0 by omega]
          rfl
        · rw [if_neg (by omega), List.getElem?_eq_none (by rw [List.length_append, List.length_take]; simp; omega)]
    have h2 : (l.set (off + j) v).drop (off + (j + 1) + vs.length) = l.drop (off + j + (vs.length + 1)) := by
      apply List.ext_getElem?
      intro i
      rw [List.getElem?_drop, List.getElem?_drop, List.getElem?_set, if_neg (by omega)]
      congr 1
      omega
    rw [h1, h2]
    simp
theorem fill_rel {place : Nat → Option (Nat × Nat)} : ∀ (parts : List (Nat × Value)) (parts' : List (Nat × Value)) (l l' k : List Value) (s s' : Hp),
    LR (VL ρ0) l l' → parts'.map (·.1) = parts.map (·.1) → LR (VL ρ0) (parts.map (·.2)) (parts'.map (·.2)) → Tells (fillK place l parts) s k s' → s' = s ∧ ∃ k', Instr.fill place ⟨l'⟩ parts' = some ⟨k'⟩ ∧ LR (VL ρ0) k k'
  | [], parts', l, l', k, s, s', hl, h1, h2, ht => by
    have : parts' = [] := by simpa using h1
    subst this
    unfold fillK at ht
    obtain ⟨rfl, rfl⟩ := tells_pure ht
    exact ⟨rfl, l', rfl, hl⟩
  | (i, v) :: parts, [], l, l', k, s, s', hl, h1, h2, ht => by simp at h1
  | (i, v) :: parts, (i', v') :: parts', l, l', k, s, s', hl, h1, h2, ht => by
    simp only [List.map_cons, List.cons.injEq] at h1
    obtain ⟨rfl, h1⟩ := h1
    obtain ⟨u', tl, e, hv, htl⟩ := h2
    simp only [List.map_cons, List.cons.injEq] at e
    obtain ⟨rfl, rfl⟩ := e
    unfold fillK at ht
    split at ht
    · rename_i off size hpl
      split at ht
      · rename_i vs hvs
        split at ht
        · rename_i hlen
          obtain ⟨l2, s1, t1, t2, _⟩ := tells_bind (good_paste _ _ _) ht
          obtain ⟨p1, rfl, rfl⟩ := tells_paste t1
          have hc := cellsK_rel hv hvs
          have hcl := hc.len
          rw [Array.length_toList] at hcl
          have hsz : v'.cells.size = size := by rw [hcl]; exact Nat.eq_of_beq_eq_true hlen
          have hll := hl.len
          have hlay := lay_cells off v'.cells.toList 0 l' (by rw [Array.length_toList]; omega)
          have hrel : LR (VL ρ0) (l.take off ++ (vs ++ l.drop (off + vs.length))) (l'.take off ++ (v'.cells.toList ++ l'.drop (off + vs.length))) := (hl.take off).app (hc.app (hl.drop _))
          obtain ⟨rfl, k', hk', hkk⟩ := fill_rel parts parts' _ _ k _ s' hrel h1 htl t2
          refine ⟨rfl, k', ?_, hkk⟩
          rw [← hk']
          simp only [Instr.fill, hpl]
          rw [if_neg]
          · congr 1
            apply Array.ext'
            rw [show (v'.cells.zipIdx.foldl (fun cs x => match x with | (c, j) => cs.setIfInBounds (off + j) c) (⟨l'⟩ : Array Value)).toList = _ from ?_]
            rw [← Array.foldl_toList, Array.toList_zipIdx]
            simp only [Nat.add_zero] at hlay
            rw [Array.length_toList, hcl] at hlay
            exact hlay
          · simp only [hsz, ne_eq, not_true_eq_false, decide_false, Bool.false_or, decide_eq_true_eq, List.size_toArray]
            omega
        · exact (tells_fail ht).elim
      · exact (tells_fail ht).elim
    · exact (tells_fail ht).elim
end Go.Proofs.YtpijenlmfmknnaaGreatDoor

/- Literals, made rows, lengths, conversions. No program. -/
namespace Go.Proofs.YtpijenlmfmknnaaGreatDoor
open Go.RowKit
set_option linter.unusedVariables false
variable {P : Program} {ρ0 : Rn}

theorem reps_get (l : List Value) : ∀ (n i : Nat), (reps l n)[i]? = if i < n * l.length then l[i % l.length]? else none
  | 0, i => by simp [reps]
  | n + 1, i => by
    rw [reps]
    by_cases h : i < l.length
    · rw [List.getElem?_append_left h, if_pos (by rw [Nat.succ_mul]; omega), Nat.mod_eq_of_lt h]
    · rw [List.getElem?_append_right (by omega), reps_get l n]
      by_cases h2 : i < (n + 1) * l.length
      · rw [if_pos h2, if_pos (by rw [Nat.succ_mul] at h2; omega)]
        congr 1
        rw [← Nat.mod_eq_sub_mod (by omega)]
      · rw [if_neg h2, if_neg (by rw [Nat.succ_mul] at h2; omega)]
theorem reps_len (l : List Value) : ∀ n, (reps l n).length = n * l.length
  | 0 => by simp [reps]
  | n + 1 => by rw [reps, List.length_append, reps_len l n, Nat.succ_mul]; omega
theorem range_reps (z : Array Value) (n : Nat) : (Array.range (n * z.size)).map (fun i => z[i % z.size]!) = ⟨reps z.toList n⟩ := by
  apply Array.ext'
  apply List.ext_getElem?
  intro i
  rw [reps_get, Array.length_toList]
  simp only [Array.toList_map, Array.toList_range, List.getElem?_map]
  by_cases h : i < n * z.size
  · rw [if_pos h, List.getElem?_range h]
    have hz : 0 < z.size := by
      rcases Nat.eq_zero_or_pos z.size with h0 | h0
      · rw [h0] at h; simp at h
      · exact h0
    have hlt : i % z.size < z.size := Nat.mod_lt _ hz
    simp [hlt]
  · rw [if_neg h, List.getElem?_eq_none (by simpa using Nat.le_of_not_lt h)]
    rfl
theorem reps_rel {ρ : Rn} {l : List Value} (h : LR (VL ρ) l l) : ∀ n, LR (VL ρ) (reps l n) (reps l n)
  | 0 => rfl
  | n + 1 => h.app (reps_rel h n)
theorem allSz_run : ∀ (fs : List Field) (pl : List (Nat × Nat)), allSz P fs = some pl → ∀ w, (fs.mapM fun f => do Pure.pure (f.offset, ← Go.sizeOf f.type) : Sem (List (Nat × Nat))).run P w = .ok pl w
  | [], pl, h, w => by cases h; rfl
  | f :: fs, pl, h, w => by
    unfold allSz at h
    split at h
    · rename_i n l hz hl
      cases h
      simp only [List.mapM_cons, Sem.run_bind, szOf_run hz, Result.andThen, Sem.run_pure, allSz_run fs l hl w]
    · cases h
theorem zip_fst {α β : Type} : ∀ (l : List α) (k : List β), k.length = l.length → (l.zip k).map (·.1) = l
  | [], [], _ => rfl
  | x :: l, y :: k, h => by simp [zip_fst l k (by simpa using h)]
theorem zip_snd {α β : Type} : ∀ (l : List α) (k : List β), k.length = l.length → (l.zip k).map (·.2) = k
  | [], [], _ => rfl
  | x :: l, y :: k, h => by simp [zip_snd l k (by simpa using h)]
theorem Sim.fill {γ δ : Type} {place : Nat → Option (Nat × Nat)} {l l' : List Value} {parts : Array (Nat × Operand)} {m : Operand → Value} {vs : List Value} {G : List Value → M γ} {c : Sem δ} {R : Rn → γ → δ → Prop}
    (hl : LR (VL ρ0) l l') (hvs : LR (VL ρ0) vs ((parts.toList.map (·.2)).map m))
    (h : ∀ k k', Instr.fill place ⟨l'⟩ (parts.map fun (i, x) => (i, m x)).toList = some ⟨k'⟩ → LR (VL ρ0) k k' → Sim P ρ0 (G k) c R) : Sim P ρ0 (mbind (fillK place l ((parts.toList.map (·.1)).zip vs)) G) c R := by
  intro w0 B s s' a ρ w hρ ht H hfr
  obtain ⟨k, s1, t1, t2, _⟩ := tells_bind (good_fillK _ _ _) ht
  have hlen : vs.length = (parts.toList.map (·.1)).length := by have := hvs.len; simpa using this.symm
  obtain ⟨rfl, k', hk, hkk⟩ := fill_rel (ρ0 := ρ0) ((parts.toList.map (·.1)).zip vs) (parts.map fun (i, x) => (i, m x)).toList l l' k s s1 hl
    (by rw [zip_fst _ _ hlen]; simp) (by
      have e : (parts.map fun (i, x) => (i, m x)).toList.map (·.2) = (parts.toList.map (·.2)).map m := by simp [Function.comp_def]
      rw [zip_snd _ _ hlen, e]; exact hvs) t1
  exact h k k' hk hkk w0 B _ s' a ρ w hρ t2 H hfr
theorem snd_build {e : En} {m : Operand → Value} (he : EnvR ρ0 e m) (t : TypeId) (parts : Array (Nat × Operand)) :
    Sim P ρ0 (opBuild P t parts e) (Instr.build t (parts.map fun (i, x) => (i, m x))) fun ρ a v => VL ρ a v := by
  unfold opBuild
  refine Sim.aevs he _ (fun _ => ?_) fun vs hvs => ?_
  · split
    · exact good_bind (good_fillK _ _ _) fun _ => good_pure _
    · exact good_fail
  · split
    · rename_i pl z hb
      unfold buildT at hb
      split at hb
      · rename_i fs z' hu hz
        split at hb
        · rename_i pl' ha
          cases hb
          obtain ⟨zv, hzp, rfl, hzr⟩ := zeroOf_run hz
          refine Sim.fill (l' := zv.cells.toList) (plain_cells hzp) hvs fun k k' hk hkk => ?_
          refine Sim.of (v := .agg ⟨k'⟩) (fun w => ?_) fun ρ hρ => VL.agg.2 ⟨k', rfl, hkk.grow hρ⟩
          have hmm : (fs.mapM fun f => do Pure.pure (f.offset, ← Go.sizeOf f.type) : Sem (Array (Nat × Nat))).run P w = .ok ⟨pl'⟩ w := by
            rw [Array.mapM_eq_mapM_toList, Sem.run_map, allSz_run _ _ ha w]; rfl
          have hpl : (fun (i : Nat) => (⟨pl'⟩ : Array (Nat × Nat))[i]?) = fun (i : Nat) => pl'[i]? := by funext i; simp
          have hcz : (⟨zv.cells.toList⟩ : Array Value) = zv.cells := by apply Array.ext'; rfl
          rw [hcz] at hk
          simp only [Instr.build, Sem.run_bind, hzr, Result.andThen, run_underlying hu, hmm, hpl, hk, Sem.run_pure]
        · cases hb
      · rename_i n el z' hu hz
        split at hb
        · rename_i n' hs
          cases hb
          obtain ⟨zv, hzp, rfl, hzr⟩ := zeroOf_run hz
          refine Sim.fill (l' := zv.cells.toList) (plain_cells hzp) hvs fun k k' hk hkk => ?_
          refine Sim.of (v := .agg ⟨k'⟩) (fun w => ?_) fun ρ hρ => VL.agg.2 ⟨k', rfl, hkk.grow hρ⟩
          have hcz : (⟨zv.cells.toList⟩ : Array Value) = zv.cells := by apply Array.ext'; rfl
          rw [hcz] at hk
          simp only [Instr.build, Sem.run_bind, hzr, Result.andThen, run_underlying hu, szOf_run hs, hk, Sem.run_pure]
        · cases hb
      · cases hb
    · exact .fail
theorem snd_buildSlice {e : En} {m : Operand → Value} (he : EnvR ρ0 e m) (t : TypeId) (len : Nat) (parts : Array (Nat × Operand)) :
    Sim P ρ0 (opBuildSlice P t len parts e) (Instr.buildSlice t len (parts.map fun (i, x) => (i, m x))) fun ρ a v => VL ρ a v := by
  unfold opBuildSlice
  refine Sim.aevs he _ (fun _ => ?_) fun vs hvs => ?_
  · repeat' (first | exact good_fail | (rw [forceL_eq]) | exact good_bind (good_fillK _ _ _) (fun _ => good_bind (good_mrow _ _ _) fun _ => good_pure _) | split)
  · split
    · rename_i el hel
      split
      · rename_i n z hs hz
        split
        · rename_i hc
          rw [Bool.and_eq_true, Bool.and_eq_true] at hc
          have hc0 := Nat.le_of_ble_eq_true hc.1.1
          have hc1 := Nat.le_of_ble_eq_true hc.1.2
          have hc2 := Nat.eq_of_beq_eq_true hc.2
          rw [forceL_eq]
          obtain ⟨zv, hzp, rfl, hzr⟩ := zeroOf_run hz
          have hzn : zv.cells.size = n := by rw [← hc2, Array.length_toList]
          refine Sim.fill (l' := reps zv.cells.toList len) (reps_rel (plain_cells hzp) len) hvs fun k k' hk hkk => ?_
          intro w0 B s s' v ρ w hρ ht H hfr
          obtain ⟨id, s1, t1, t2, _⟩ := tells_bind (good_mrow _ _ _) ht
          obtain ⟨rfl, rfl⟩ := tells_pure t2
          obtain ⟨a, w', ρ', hr, H', hE, p, h1, h2, h3, rfl⟩ := sim_row (P := P) hkk w0 B s s' id ρ w hρ t1 H hfr
          refine ⟨_, w', ρ', ?_, H', hE, slice_of h1 h2 h3 (Nat.le_refl _) (by omega)⟩
          have hrow0 : len * n = 0 → (Array.range (len * n)).map (fun i => (#[] : Array Value)[i % (#[] : Array Value).size]!) = (⟨reps zv.cells.toList len⟩ : Array Value) := by
            intro h0
            have : reps zv.cells.toList len = [] := List.eq_nil_of_length_eq_zero (by rw [reps_len, Array.length_toList, hzn, h0])
            rw [this, h0]; simp
          have hrow1 : (Array.range (len * n)).map (fun i => zv.cells[i % zv.cells.size]!) = (⟨reps zv.cells.toList len⟩ : Array Value) := by
            rw [← hzn, range_reps]
          have hk' : Instr.fill (fun i => some (i * n, n)) ⟨reps zv.cells.toList len⟩ (parts.map fun x => (x.1, m x.2)).toList = some ⟨k'⟩ := hk
          simp only [Instr.buildSlice, Sem.run_bind, run_underlying (elem_run hel), Result.andThen, szOf_run hs]
          rw [if_neg (by omega)]
          by_cases h0 : len * n = 0
          · rw [if_pos h0]
            simp only [Sem.run_bind, Sem.run_pure, Result.andThen, hrow0 h0, hk', hr]
          · rw [if_neg h0]
            simp only [Sem.run_bind, hzr, Sem.run_pure, Result.andThen, hrow1, hk', hr]
        · exact .fail
      · exact .fail
    · exact .fail
theorem wrap_le {m : Nat} (h : m ≤ 4096) : IntKind.wrap .i64 (m : Int) = (m : Int) := wrap_small m (by omega)
theorem snd_makeSlice {e : En} {m : Operand → Value} (he : EnvR ρ0 e m) (t : TypeId) (l c : Operand) :
    Sim P ρ0 (opMakeSlice P t l c e) (Instr.makeSlice t (m l) (m c)) fun ρ a v => VL ρ a v := by
  unfold opMakeSlice
  split
  · rename_i n k el hl hc hel
    split
    · rename_i size bytes z hs hb hz
      split
      · rename_i hcond
        simp only [Bool.and_eq_true] at hcond
        obtain ⟨⟨h1, h2⟩, h3, h4⟩ := hcond
        have h1 := Nat.le_of_ble_eq_true h1
        have h2 := Nat.le_of_ble_eq_true h2
        have h3 := Nat.le_of_ble_eq_true h3
        have h4 := Nat.eq_of_beq_eq_true h4
        rw [forceL_eq, VL.int.1 (he l _ hl), VL.int.1 (he c _ hc)]
        obtain ⟨zv, hzp, rfl, hzr⟩ := zeroOf_run hz
        have hzn : zv.cells.size = size := by rw [← h4, Array.length_toList]
        intro w0 B s s' v ρ w hρ ht H hfr
        obtain ⟨id, s1, t1, t2, _⟩ := tells_bind (good_mrow _ _ _) ht
        obtain ⟨rfl, rfl⟩ := tells_pure t2
        obtain ⟨a, w', ρ', hr, H', hE, p, p1, p2, p3, rfl⟩ := sim_row (P := P) (reps_rel (plain_cells hzp) k) w0 B s s' id ρ w hρ t1 H hfr
        refine ⟨_, w', ρ', ?_, H', hE, slice_of p1 p2 p3 h1 (by omega)⟩
        obtain ⟨ti, hti, hbt⟩ : ∃ ti, P.info? el = some ti ∧ ti.bytes = bytes := by
          cases hi : P.info? el with
          | none => rw [hi] at hb; cases hb
          | some ti => rw [hi] at hb; cases hb; exact ⟨ti, rfl, rfl⟩
        have hinfo : ∀ w, (typeInfo el).run P w = .ok ti w := fun w => by simp [typeInfo, hti]
        have hrow0 : k * size = 0 → (Array.range (k * size)).map (fun i => (#[] : Array Value)[i % (#[] : Array Value).size]!) = (⟨reps zv.cells.toList k⟩ : Array Value) := by
          intro h0
          have : reps zv.cells.toList k = [] := List.eq_nil_of_length_eq_zero (by rw [reps_len, Array.length_toList, hzn, h0])
          rw [this, h0]; simp
        have hrow1 : (Array.range (k * size)).map (fun i => zv.cells[i % zv.cells.size]!) = (⟨reps zv.cells.toList k⟩ : Array Value) := by
          rw [← hzn, range_reps]
        have hprod : bytes * k ≤ 4096 * 4096 := Nat.mul_le_mul h3 h2
        have hcast : (bytes : Int) * (k : Int) = ((bytes * k : Nat) : Int) := by simp
        simp only [Instr.makeSlice, asInt, asIntOf, Sem.run_bind, run_underlying (elem_run hel), Result.andThen, Sem.run_pure, hinfo, hbt, Int.ofNat_eq_natCast, wrap_le h2, wrap_le (Nat.le_trans h1 h2), hcast]
        rw [if_neg (by simp; omega)]
        simp only [Sem.run_bind, run_askRoom, Result.andThen, Int.toNat_natCast, szOf_run hs]
        by_cases h0 : k * size = 0
        · rw [if_pos h0]
          simp only [Sem.run_bind, Sem.run_pure, Result.andThen, hrow0 h0, hr]
        · rw [if_neg h0]
          simp only [Sem.run_bind, hzr, Sem.run_pure, Result.andThen, hrow1, hr]
      · exact .fail
    · exact .fail
  · exact .fail
theorem snd_len {t : TypeId} {x x' : Value} (hx : VL ρ0 x x') (ts : Array TypeId) (ty : TypeId) (args : Array Value) (h0 : ts[0]? = some t) (h1 : args[0]? = some x') :
    Sim P ρ0 (biLen P t x) (Builtin.len_ ts ty args) fun ρ a v => VL ρ a v := by
  unfold biLen
  split
  · rename_i el a n c hu
    have : ∃ a' c', x' = .slice a' n c' := by
      cases a with
      | none => obtain ⟨rfl, rfl, e⟩ := VL.nils.1 hx; exact ⟨_, _, e⟩
      | some a => obtain ⟨_, _, p, _, a', c', e, _⟩ := VL.slice.1 hx; exact ⟨_, _, e⟩
    obtain ⟨a', c', rfl⟩ := this
    refine Sim.of (v := goInt n) (fun w => ?_) fun ρ hρ => VL.int.2 rfl
    simp only [Builtin.len_, h0, h1, Sem.run_bind, run_underlying hu, Result.andThen, Sem.run_pure]
  · rename_i n el hu
    refine Sim.of (v := goInt n) (fun w => ?_) fun ρ hρ => VL.int.2 rfl
    simp only [Builtin.len_, h0, h1, Sem.run_bind, run_underlying hu, Result.andThen, Sem.run_pure]
  · rename_i b hu
    rw [forceN_eq]
    have e := VL.string.1 hx
    subst e
    refine Sim.of (v := goInt b.size) (fun w => ?_) fun ρ hρ => VL.int.2 rfl
    simp only [Builtin.len_, h0, h1, Sem.run_bind, run_underlying hu, Result.andThen, Sem.run_pure]
  · exact .fail
end Go.Proofs.YtpijenlmfmknnaaGreatDoor

/- Conversions; cap, clear, copy, min, max. No program. -/
namespace Go.Proofs.YtpijenlmfmknnaaGreatDoor
open Go.RowKit
set_option linter.unusedVariables false
variable {P : Program} {ρ0 : Rn}

theorem isU8_run {t : TypeId} (h : isU8 P t = true) : P.underlying t = some (.int .u8) := by
  unfold isU8 at h
  split at h
  · rename_i h'; exact h'
  · cases h
theorem vl_bytes {ρ : Rn} : ∀ (l : List UInt8), LR (VL ρ) (l.map fun x => Value.int .u8 x.toNat) (l.map fun x => Value.int .u8 x.toNat)
  | [] => rfl
  | x :: l => ⟨_, _, rfl, VL.int.2 rfl, vl_bytes l⟩
/-- A text as a row of bytes. -/
theorem snd_convStr (src dst : TypeId) (b : ByteArray) : Sim P ρ0 (convStr P src dst b) (convert src dst (.string b)) fun ρ a v => VL ρ a v := by
  unfold convStr
  split
  · rename_i el hel
    split
    · rename_i hc
      simp only [Bool.and_eq_true] at hc
      obtain ⟨⟨h8, hsrc⟩, hsz⟩ := hc
      have h8 := isU8_run h8
      have hsz := Nat.le_of_ble_eq_true hsz
      obtain ⟨ds, hds⟩ := Option.isSome_iff_exists.1 hsrc
      have hdst := elem_run hel
      rw [forceL_eq]
      intro w0 B s s' v ρ w hρ ht H hfr
      obtain ⟨id, s1, t1, t2, _⟩ := tells_bind (good_mrow _ _ _) ht
      rw [forceN_eq] at t2
      obtain ⟨rfl, rfl⟩ := tells_pure t2
      obtain ⟨h1, rfl, h16, e1, e2⟩ := tells_row t1
      have hn := hfr s.n (Nat.le_refl _) (by omega)
      -- what the model does
      obtain ⟨cap, hcap⟩ : ∃ cap, cap = (Question.appendCap b.size 0 el).cut (w.tape w.drawn (.appendCap b.size 0 el)) := ⟨_, rfl⟩
      have hle : b.size ≤ cap := by rw [hcap]; simp only [Question.cut]; omega
      have hcm : cap ≤ 9223372036854775807 := by
        rw [hcap]
        simp only [Question.cut]
        have := Nat.mod_lt (w.tape w.drawn (.appendCap b.size 0 el)) (show 0 < 2 ^ 63 - b.size by omega)
        omega
      obtain ⟨row, hrow⟩ : ∃ row : List Value, row = b.data.toList.map fun x => Value.int .u8 x.toNat := ⟨_, rfl⟩
      have hrl : row.length = b.size := by rw [hrow, List.length_map]; rfl
      obtain ⟨rest, hrest⟩ : ∃ rest : List Value, rest = List.replicate (cap - b.size) (.int .u8 0) := ⟨_, rfl⟩
      have hrs : rest.length = cap - b.size := by rw [hrest]; simp
      have hconv : (convert src dst (.string b)).run P w = (Conv.stringToBytes el b).run P w := by
        simp only [convert, Sem.run_bind, run_underlying hds, run_underlying hdst, Result.andThen, run_underlying h8]
      have harr : (b.data.map fun x => Value.int .u8 x.toNat) ++ Array.replicate (cap - b.size) (Value.int .u8 0) = (⟨row ++ rest⟩ : Array Value) := by
        apply Array.ext'
        rw [hrow, hrest]; simp
      have hrun : (Conv.stringToBytes el b).run P w = .ok (.slice (some ⟨w.heap.size, 0, none⟩) b.size cap)
          { w with heap := w.heap.push (.cells ⟨row ++ rest⟩ el ((row ++ rest).length, (row ++ rest).length + 1)), drawn := w.drawn + 1 } := by
        have hf : (Question.appendCap b.size 0 el).forced = false := rfl
        simp only [Conv.stringToBytes, Sem.run_bind, run_choose, hf, Bool.false_eq_true, if_false, Result.andThen, ← hcap, harr, newRow, run_newObj, Sem.run_pure, markStringish, run_shape]
        have hshape : ({ w with heap := w.heap.push (.cells ⟨row ++ rest⟩ el), drawn := w.drawn + 1 } : World).shape? w.heap.size = some (el, (row ++ rest).length) := by
          simp [World.shape?]
        rw [hshape]
        simp only [run_freeze]
        congr 1
        unfold World.freeze
        rw [if_neg (by omega)]
        simp only [World.mk.injEq, and_true]
        apply Array.ext
        · simp
        · intro i hi1 hi2
          simp only [Array.getElem_modify]
          split
          · rename_i hi
            subst hi
            simp
          · rename_i hi
            rw [Array.getElem_push_lt (by simp at hi2; omega), Array.getElem_push_lt]
      refine ⟨_, _, ρ.put s.n ⟨w.heap.size, 0, row.length, 1, cap - b.size⟩, hconv.trans hrun, ?_, ?_, ?_⟩
      · rw [e1, ← hrow]
        refine row_new (t' := el) (rest := rest) (fz := ((row ++ rest).length, (row ++ rest).length + 1)) 1 (cap - b.size) H hn h16 (by rw [hrow]; exact vl_bytes _) (fun h => by cases h) (fun _ => rfl) (by rw [hrs]; omega)
          (below_push H.below (Nat.le_trans H.base H.below.size) _).drew ?_ (fun x hx => ?_) ⟨.inr (Nat.le_refl _), fun _ h => by cases h⟩
        · simp
        · simp only []
          rw [Array.getElem?_push, if_neg (by omega)]
      · rw [e2]; exact .put hn _
      · rw [← hrow]
        refine VL.slice.2 ⟨rfl, Nat.le_refl _, _, if_pos rfl, ⟨w.heap.size, 0, none⟩, cap, by rw [hrl], ?_, fun _ => rfl, hcm⟩
        simp only [Nat.mul_one, Nat.zero_add, if_true]
        omega
    · exact .fail
  · exact snd_prun
theorem bytesOf_ints : ∀ (vs : List Value) (bs : List UInt8), bytesOf vs = some bs → ∃ ns : List Int, vs = ns.map (Value.int .u8) ∧ bs = ns.map fun n => UInt8.ofNat n.toNat
  | [], bs, h => by cases h; exact ⟨[], rfl, rfl⟩
  | v :: vs, bs, h => by
    unfold bytesOf at h
    split at h
    · rename_i e; cases e
    · rename_i n l e
      cases e
      split at h
      · rename_i bs' hb
        cases h
        obtain ⟨ns, rfl, rfl⟩ := bytesOf_ints _ _ hb
        exact ⟨n :: ns, rfl, rfl⟩
      · cases h
    · cases h
theorem ints_rel {ρ : Rn} : ∀ (ns : List Int) (l : List Value), LR (VL ρ) (ns.map (Value.int .u8)) l → l = ns.map (Value.int .u8)
  | [], l, h => h
  | n :: ns, l, ⟨v', t, e, hv, ht⟩ => by rw [e, VL.int.1 hv, ints_rel ns t ht]; rfl
theorem push_fold : ∀ (ns : List Int) (s : List UInt8), (ns.foldl (fun (r : ByteArray) n => r.push (UInt8.ofNat n.toNat)) ⟨⟨s⟩⟩) = ⟨⟨s ++ ns.map fun n => UInt8.ofNat n.toNat⟩⟩
  | [], s => by simp
  | n :: ns, s => by
    have e : (⟨⟨s⟩⟩ : ByteArray).push (UInt8.ofNat n.toNat) = ⟨⟨s ++ [UInt8.ofNat n.toNat]⟩⟩ := by
      show (⟨(⟨s⟩ : Array UInt8).push (UInt8.ofNat n.toNat)⟩ : ByteArray) = _
      congr 1
      apply Array.ext'
      simp
    simp only [List.foldl_cons, List.map_cons]
    rw [e, push_fold ns]
    simp
theorem snd_convSl {src dst : TypeId} {a : Addr} {n c : Nat} {v' : Value} (hv : VL ρ0 (.slice (some a) n c) v') : Sim P ρ0 (convSl P src dst a n c) (convert src dst v') fun ρ a v => VL ρ a v := by
  obtain ⟨hsp, hlc, p, hp, a', c', e1, e2, e3, _⟩ := VL.slice.1 hv
  subst e1
  unfold convSl
  split
  · rename_i el hel hd
    split
    · rename_i h8
      have hconv : ∀ w, (convert src dst (.slice (some a') n c')).run P w = (Conv.bytesToString (.slice (some a') n c')).run P w := fun w => by
        simp only [convert, Sem.run_bind, run_underlying (elem_run hel), run_underlying hd, Result.andThen, run_underlying (isU8_run h8)]
      split
      · rename_i hn
        have hn := Nat.eq_of_beq_eq_true hn
        subst hn
        refine Sim.of (v := .string ⟨⟨[]⟩⟩) (fun w => ?_) fun ρ _ => VL.string.2 rfl
        rw [hconv, run_bytesToString w a' 0 c' [] rfl]
        rfl
      · rename_i hn
        have hn : n ≠ 0 := fun h => by subst h; cases hn
        have ha' := e3 (by omega)
        have hptr : VL ρ0 (.pointer (some a)) (.pointer (some a')) := VL.ptr.2 ⟨hsp, p, hp, by rw [ha']⟩
        intro w0 B s s' v ρ w hρ ht H hfr
        obtain ⟨vs, s1, t1, t2, _⟩ := tells_bind (good_mload _ _) ht
        obtain ⟨arr, w', ρ', hr, H', hE, l', rfl, hl, hlen⟩ := sim_load (P := P) hptr w0 B s s1 vs ρ w hρ t1 H (hfr.left (t2.le (good_strOf _)))
        unfold strOf at t2
        split at t2
        · rename_i bs hbs
          rw [forceL_eq] at t2
          obtain ⟨rfl, rfl⟩ := tells_pure t2
          obtain ⟨ns, rfl, rfl⟩ := bytesOf_ints _ _ hbs
          have := ints_rel ns l' hl
          subst this
          -- a load turns nothing
          have hw : w' = w := by
            have h2 := hr
            obtain ⟨b, off, l, t, fl, rfl, f1, f2, f3, f4, f5⟩ := tells_load t1
            obtain ⟨q, hq, q2, q3, q4, c2, el2, fz2, q5, q6, q7, q8⟩ := H.obj b _ f1
            rw [show ρ b = some p from hρ _ _ hp] at hq; cases hq
            rw [ha'] at h2
            have hsz : p.sz = l.length := q2
            have hx : ∃ cs : List Value, (loadCells ⟨p.blk, p.off + off, none⟩ cs.length).run P w = .ok cs.toArray w ∧ cs.length = n := by
              refine ⟨(c2.toList.drop (p.off + off)).take n, load_run q5 _ _ fun j x hj => ?_, ?_⟩
              · rw [List.getElem?_take] at hj
                split at hj
                · rw [List.getElem?_drop, Array.getElem?_toList] at hj; exact hj
                · cases hj
              · rw [List.length_take, List.length_drop, Array.length_toList]; omega
            obtain ⟨cs, hc1, hc2⟩ := hx
            rw [hc2] at hc1
            rw [hc1] at h2
            cases h2; rfl
          subst hw
          refine ⟨_, w', ρ', ?_, H', hE, VL.string.2 rfl⟩
          rw [hconv, run_bytesToString w' a' n c' ns hr, show (ByteArray.empty) = (⟨⟨[]⟩⟩ : ByteArray) from rfl, push_fold]
          simp
        · exact (tells_fail t2).elim
    · exact .fail
  · rename_i el el' hel hd
    split
    · rename_i b off hc
      simp only [Bool.and_eq_true] at hc
      obtain ⟨⟨hsd, h8⟩, hc0⟩ := hc
      have hsd := Nat.eq_of_beq_eq_true hsd
      have hc0 := blt_lt hc0
      have h8 := isU8_run h8
      have ha' := e3 (by omega)
      split
      rotate_left
      · exact .fail
      rename_i h16
      have h16 := Nat.le_of_ble_eq_true h16
      intro w0 B s s' v ρ w hρ ht H hfr
      obtain ⟨cc, s1, t1, t2, _⟩ := tells_bind (good_mcells _) ht
      split at t2
      · exact (tells_fail t2).elim
      rename_i hop
      have hop : cc.2.1 ≠ 121 := fun h => by rw [h] at hop; cases hop
      obtain ⟨rfl, rfl⟩ := tells_pure t2
      obtain ⟨f1, f2, f3⟩ := tells_cells t1
      obtain ⟨q, hq, q2, q3, q4, c2, el2, fz2, q5, q6, q7, q8⟩ := H.obj b _ f1
      rw [show ρ b = some p from hρ _ _ hp] at hq; cases hq
      have hconv : (convert src dst (.slice (some a') n c')).run P w = .ok (.slice (some a') n c') (w.freeze ⟨p.blk, c2.size, none⟩ 1) := by
        have hshape : w.shape? p.blk = some (el2, c2.size) := by simp [World.shape?, q5]
        simp only [convert, Sem.run_bind, run_underlying hd, Result.andThen, run_underlying h8, hsd, beq_self_eq_true, markStringish, ha', run_shape, hshape, run_freeze, Sem.run_pure]
      refine ⟨_, _, ρ, hconv, ?_, .rfl, (hv.grow hρ)⟩
      have hlt : p.blk < w.heap.size := by
        rcases Nat.lt_or_ge p.blk w.heap.size with h | h
        · exact h
        · rw [Array.getElem?_eq_none h] at q5; cases q5
      -- the mark lies behind the cells
      have hfr1 : (w.freeze ⟨p.blk, c2.size, none⟩ 1) = { w with heap := w.heap.setIfInBounds p.blk (.cells c2 el2 (if fz2.1 == fz2.2 then (c2.size, c2.size + 1) else (min fz2.1 c2.size, max fz2.2 (c2.size + 1)))) } := by
        unfold World.freeze
        rw [if_neg (by omega)]
        simp only [World.mk.injEq, and_true]
        apply Array.ext
        · simp
        · intro i hi1 hi2
          simp only [Array.getElem_modify]
          have hg : w.heap[p.blk] = .cells c2 el2 fz2 := by
            have := q5
            rw [Array.getElem?_eq_getElem hlt] at this
            exact Option.some.inj this
          split
          · rename_i hi
            subst hi
            rw [hg]
            simp
          · rename_i hi
            rw [Array.getElem_setIfInBounds_ne (by simpa using hi2) hi]
      have H1 : HR w0 B ρ (s.f.put b (some (.cells ⟨cc.1⟩ cc.2.1 cc.2.2))) (w.freeze ⟨p.blk, c2.size, none⟩ 1) := by
        have hB : B ≤ p.blk := H.own b _ p f1 h16 (hρ _ _ hp)
        rw [hfr1]
        refine H.set f1 (hρ _ _ hp) (H.below.trans ⟨rfl, rfl, rfl, by simp, fun j hj => ?_⟩) (fun j hj => ?_) ⟨p, hρ _ _ hp, q2, q3, q4, c2, el2, (if fz2.1 == fz2.2 then (c2.size, c2.size + 1) else (min fz2.1 c2.size, max fz2.2 (c2.size + 1))), ?_, q6, ?_, q8⟩
        · simp only [Array.getElem?_setIfInBounds]; rw [if_neg (by omega)]
        · simp only [Array.getElem?_setIfInBounds]; rw [if_neg (fun h => hj h.symm)]
        · simp [hlt]
        · intro _
          refine ⟨?_, fun h _ => absurd h hop⟩
          split
          · exact .inr (Nat.le_refl _)
          · rename_i hne
            rcases (q7 h16).1 with q7 | q7
            · simp [q7] at hne
            · exact .inr (by simp only []; omega)
      refine H1.congr fun id => ?_
      rw [f2]
      unfold Hf.put
      split
      · rename_i hid; rw [← hid, f1]
      · rfl
    · exact .fail
  · exact .fail
end Go.Proofs.YtpijenlmfmknnaaGreatDoor

/- Conversions put together; cap, clear, copy, min, max; slices. No program. -/
namespace Go.Proofs.YtpijenlmfmknnaaGreatDoor
open Go.RowKit
set_option linter.unusedVariables false
variable {P : Program} {ρ0 : Rn}

theorem shape_of {w : World} {b : Nat} {c : Array Value} {t : TypeId} {fz : Nat × Nat} (h : w.heap[b]? = some (.cells c t fz)) : w.shape? b = some (t, c.size) := by simp [World.shape?, h]
theorem snd_convPtr {src dst : TypeId} {b off : Nat} {v' : Value} (hv : VL ρ0 (.pointer (some ⟨b, off, none⟩)) v') : Sim P ρ0 (convPtr P src dst b off) (convert src dst v') fun ρ a v => VL ρ a v := by
  obtain ⟨_, p, hp, e1⟩ := VL.ptr.1 hv
  subst e1
  unfold convPtr
  split
  · rename_i t hs hd
    split
    · rename_i k hz
      intro w0 B s s' v ρ w hρ ht H hfr
      obtain ⟨cc, s1, t1, t2, _⟩ := tells_bind (good_mcells _) ht
      obtain ⟨f1, f2, f3⟩ := tells_cells t1
      split at t2
      · rename_i hlt
        obtain ⟨rfl, rfl⟩ := tells_pure t2
        have hlt := blt_lt hlt
        obtain ⟨q, hq, q2, q3, q4, c2, el2, fz2, q5, q6, q7, q8⟩ := H.obj b _ f1
        rw [show ρ b = some p from hρ _ _ hp] at hq; cases hq
        have hsz : p.sz = cc.1.length := q2
        refine ⟨_, w, ρ, ?_, H.congr fun id => by rw [f2], .rfl, hv.grow hρ⟩
        have hno : ¬ (p.off + off ≥ c2.size) := by omega
        simp only [convert, Sem.run_bind, run_underlying hs, run_underlying hd, Result.andThen, Conv.unsafePointer, Conv.seenAt, viewAt, run_shape, shape_of q5, Option.isSome_some, if_true, Sem.run_pure, cellsIn, szOf_run hz]
        simp [hno]
      · exact (tells_fail t2).elim
    · exact .fail
  · exact .fail
theorem snd_convert {e : En} {m : Operand → Value} (he : EnvR ρ0 e m) (src dst : TypeId) (x : Operand) : Sim P ρ0 (opConvert P src dst x e) (convert src dst (m x)) fun ρ a v => VL ρ a v := by
  unfold opConvert
  split
  · rename_i b hx
    rw [VL.string.1 (he x _ hx)]
    exact snd_convStr src dst b
  · rename_i a n c hx
    exact snd_convSl (he x _ hx)
  · rename_i b off hx
    exact snd_convPtr (he x _ hx)
  · rename_i v _ _ _ hx
    split
    · rename_i hp
      rw [plain_eq he hx hp]
      exact snd_prun
    · exact .fail
  · exact .fail

/-! A slice's place: what stands there, or nothing. -/
theorem slice_place {ρ : Rn} {b off n c : Nat} {v' : Value} (h : VL ρ (sliceV b off n c) v') : n ≤ c ∧ ∃ p a' c', ρ b = some p ∧ v' = .slice (some a') n c' ∧ c' = c + (if off + c * p.es = p.sz then p.sl else 0) ∧ (c' ≠ 0 → a' = ⟨p.blk, p.off + off, none⟩) ∧ c' ≤ 9223372036854775807 := by
  obtain ⟨_, hlc, p, hp, a', c', e1, e2, e3, e4⟩ := VL.slice.1 h
  exact ⟨hlc, p, a', c', hp, e1, e2, e3, e4⟩
/-- Where the reckoner sees an end, there is no more room. -/
theorem slack_none {fl es sl sz off c len : Nat} (h3 : fl = 0 → sl = 0) (h4 : fl ≠ 0 → es = fl) (hz : sz = len) (hc : (Nat.beq fl 0 || !(Nat.beq (off + c * fl) len)) = true) :
    (if off + c * es = sz then sl else 0) = 0 := by
  by_cases h : fl = 0
  · rw [h3 h]; simp
  · rw [if_neg]
    intro he
    rw [h4 h, hz] at he
    rw [he, Nat.beq_refl, Bool.not_true, Bool.or_false] at hc
    exact h (Nat.eq_of_beq_eq_true hc)
theorem snd_cap {t : TypeId} {x x' : Value} (hx : VL ρ0 x x') (ts : Array TypeId) (ty : TypeId) (args : Array Value) (h0 : ts[0]? = some t) (h1 : args[0]? = some x') :
    Sim P ρ0 (biCap P t x) (Builtin.cap_ ts ty args) fun ρ a v => VL ρ a v := by
  unfold biCap
  split
  · rename_i el l c hu
    obtain ⟨rfl, rfl, e⟩ := VL.nils.1 hx
    subst e
    refine Sim.of (v := goInt 0) (fun w => ?_) fun ρ hρ => VL.int.2 rfl
    simp only [Builtin.cap_, h0, h1, Sem.run_bind, run_underlying hu, Result.andThen, Sem.run_pure]
    rfl
  · rename_i el b off l c hu
    obtain ⟨hlc, p, a', c', hp, rfl, e2, e3, _⟩ := slice_place hx
    intro w0 B s s' v ρ w hρ ht H hfr
    obtain ⟨d, s1, t1, t2, _⟩ := tells_bind (good_mcells _) ht
    obtain ⟨f1, f2, f3⟩ := tells_cells t1
    obtain ⟨q, hq, q2, q3, q4, c2, el2, fz2, q5, q6, q7, q8⟩ := H.obj b _ f1
    rw [show ρ b = some p from hρ _ _ hp] at hq; cases hq
    have hsz : p.sz = d.1.length := q2
    have hrun : (Builtin.cap_ ts ty args).run P w = .ok (goInt c') w := by
      simp only [Builtin.cap_, h0, h1, Sem.run_bind, run_underlying hu, Result.andThen, Sem.run_pure]
    split at t2
    · rename_i hc
      obtain ⟨rfl, rfl⟩ := tells_pure t2
      refine ⟨_, w, ρ, hrun, H.congr fun id => by rw [f2], .rfl, VL.int.2 ?_⟩
      have : c' = c := by rw [e2, slack_none q3 q4 hsz hc]; rfl
      rw [this]; rfl
    · obtain ⟨rfl, rfl⟩ := tells_pure t2
      exact ⟨_, w, ρ, hrun, H.congr fun id => by rw [f2], .rfl, .junk⟩
  · exact .fail
theorem snd_plains {vs : List Value} {l : List Value} (h : LR (VL ρ0) vs l) (hp : vs.all plainV = true) : l = vs := by
  induction vs generalizing l with
  | nil => exact h
  | cons v vs ih =>
    obtain ⟨v', t, e, hv, ht⟩ := h
    rw [List.all_cons, Bool.and_eq_true] at hp
    rw [e, (plainV_iff hp.1).1 hv, ih ht hp.2]
theorem slice_ptr {ρ : Rn} {a : Addr} {n c : Nat} {v' : Value} (h : VL ρ (.slice (some a) n c) v') (hn : n ≠ 0) : ∃ a' c', v' = .slice (some a') n c' ∧ VL ρ (.pointer (some a)) (.pointer (some a')) := by
  obtain ⟨hsp, hlc, p, hp, a', c', e1, e2, e3, _⟩ := VL.slice.1 h
  exact ⟨a', c', e1, VL.ptr.2 ⟨hsp, p, hp, by rw [e3 (by omega)]⟩⟩
/-- The first elements of a slice or a text. -/
theorem sim_first {z n : Nat} {x x' : Value} (hx : VL ρ0 x x') (hlen : ∀ m, lenK x = some m → n ≤ m) :
    Sim P ρ0 (firstK z n x) (Builtin.firstCells z n x') fun ρ l arr => ∃ l', arr = ⟨l'⟩ ∧ LR (VL ρ) l l' ∧ (z ≠ 0 → (∀ b, x ≠ .string b) → l.length = n * z) := by
  unfold firstK
  split
  · rename_i a k c
    split
    · rename_i hn
      have hn := Nat.eq_of_beq_eq_true hn
      subst hn
      obtain ⟨_, _, p, _, a', c', e1, _⟩ := VL.slice.1 hx
      subst e1
      refine Sim.of (v := (#[] : Array Value)) (fun w => ?_) fun ρ _ => ⟨[], rfl, rfl, fun _ _ => by simp⟩
      simp [Builtin.firstCells, loadCells, loadCellsFrom]
    · rename_i hn
      have hn : n ≠ 0 := fun h => by subst h; cases hn
      have hk := hlen k rfl
      obtain ⟨a', c', rfl, hp⟩ := slice_ptr hx (by omega)
      refine (sim_load hp).mono fun ρ vs arr _ h => ?_
      obtain ⟨l', e, hl, hlen⟩ := h
      exact ⟨l', e, hl, fun _ _ => hlen⟩
  · rename_i k c
    split
    · rename_i hn
      have hn := Nat.eq_of_beq_eq_true hn
      subst hn
      obtain ⟨_, _, e1⟩ := VL.nils.1 hx
      subst e1
      exact Sim.of (v := (#[] : Array Value)) (fun w => rfl) fun ρ _ => ⟨[], rfl, rfl, fun _ _ => by simp⟩
    · exact .fail
  · rename_i b
    have e := VL.string.1 hx
    subst e
    rw [forceL_eq]
    have hk : n ≤ b.size := hlen b.size rfl
    refine Sim.of (v := (⟨(b.data.toList.take n).map fun x => Value.int .u8 x.toNat⟩ : Array Value)) (fun w => ?_) fun ρ _ => ⟨_, rfl, vl_bytes _, fun _ hns => absurd rfl (hns b)⟩
    simp only [Builtin.firstCells, Sem.run_pure]
    congr 1
    apply Array.ext'
    simp only [Array.toList_map]
    congr 1
    rw [ByteArray.data_extract]
    simp
  · exact .fail
theorem lenK_run {x x' : Value} {n : Nat} (hx : VL ρ0 x x') (h : lenK x = some n) (w : World) : (Builtin.lenOf x').run P w = .ok n w := by
  unfold lenK at h
  split at h
  · rename_i a k c
    cases h
    cases a with
    | none => obtain ⟨rfl, _, e⟩ := VL.nils.1 hx; subst e; rfl
    | some a => obtain ⟨_, _, p, _, a', c', e, _⟩ := VL.slice.1 hx; subst e; rfl
  · cases h
    have e := VL.string.1 hx
    subst e; rfl
  · cases h
theorem zeroCells_eq (z : Array Value) (n : Nat) : Builtin.zeroCells z n = ⟨reps z.toList n⟩ := range_reps z n
theorem snd_clear {t : TypeId} {x x' : Value} (hx : VL ρ0 x x') (ts : Array TypeId) (ty : TypeId) (args : Array Value) (h0 : ts[0]? = some t) (h1 : args[0]? = some x') :
    Sim P ρ0 (biClear P t x) (Builtin.clear_ ts ty args) fun ρ a v => VL ρ a v := by
  have hun : ∀ ρ : Rn, VL ρ unV (.tuple #[]) := fun ρ => VL.tuple.2 ⟨[], rfl, rfl⟩
  unfold biClear
  split
  · rename_i el a n c hu
    split
    · rename_i hn
      have hn := Nat.eq_of_beq_eq_true hn
      subst hn
      obtain ⟨_, _, p, _, a', c', e1, _⟩ := VL.slice.1 hx
      subst e1
      refine Sim.of (v := .tuple #[]) (fun w => ?_) fun ρ _ => hun ρ
      simp [Builtin.clear_, h0, h1, run_underlying hu]
    · rename_i hn
      have hn : n ≠ 0 := fun h => by subst h; cases hn
      obtain ⟨a', c', rfl, hp⟩ := slice_ptr hx hn
      split
      · rename_i z hz
        rw [forceL_eq]
        obtain ⟨zv, hzp, rfl, hzr⟩ := zeroOf_run hz
        intro w0 B s s' v ρ w hρ ht H hfr
        obtain ⟨u, s1, t1, t2, _⟩ := tells_bind (good_mstore _ _) ht
        obtain ⟨rfl, rfl⟩ := tells_pure t2
        obtain ⟨u', w', ρ', hr, H', hE, _⟩ := sim_store (P := P) hp (reps_rel (plain_cells hzp) n) w0 B s s' u ρ w hρ t1 H hfr
        refine ⟨.tuple #[], w', ρ', ?_, H', hE, hun ρ'⟩
        cases n with
        | zero => exact (hn rfl).elim
        | succ n =>
          simp only [Builtin.clear_, h0, h1, Sem.run_bind, run_underlying hu, Result.andThen, hzr, zeroCells_eq]
          rw [hr]
          rfl
      · exact .fail
  · exact .fail
theorem snd_copy {t : TypeId} {x x' y y' : Value} (hx : VL ρ0 x x') (hy : VL ρ0 y y') (ts : Array TypeId) (ty : TypeId) (args : Array Value) (h0 : ts[0]? = some t) (h1 : args[0]? = some x') (h2 : args[1]? = some y') :
    Sim P ρ0 (biCopy P t x y) (Builtin.copy_ ts ty args) fun ρ a v => VL ρ a v := by
  unfold biCopy
  split
  · rename_i z a n c m hz' hm
    cases hel : elemOfS P t with
    | none => rw [hel] at hz'; cases hz'
    | some el =>
      rw [hel] at hz'
      have hz : szOf P el = some z := hz'
      rw [forceN_eq]
      obtain ⟨_, _, p, _, a0, c0, e1, _⟩ := VL.slice.1 hx
      subst e1
      intro w0 B s s' v ρ w hρ ht H hfr
      obtain ⟨vs, s1, t1, t2, hn1⟩ := tells_bind (good_firstK _ _ _) ht
      have hn2 : s1.n ≤ s'.n := t2.le (by split; exact good_pure _; exact good_bind (good_mstore _ _) fun _ => good_pure _)
      obtain ⟨arr, w1, ρ1, hr1, H1, hE1, l', rfl, hl, _⟩ := sim_first (P := P) (z := z) (n := Nat.min m n) hy (fun k hk => by rw [hm] at hk; cases hk; exact Nat.min_le_left _ _) w0 B s s1 vs ρ w hρ t1 H (hfr.left hn2)
      split at t2
      · rename_i hk
        have hk := Nat.eq_of_beq_eq_true hk
        obtain ⟨rfl, rfl⟩ := tells_pure t2
        -- nothing is copied
        have hl0 : l' = [] := by
          have hvs : vs = [] := by
            rw [hk] at t1
            unfold firstK at t1
            split at t1
            · exact (tells_pure t1).1
            · exact (tells_pure t1).1
            · rw [forceL_eq] at t1
              have := (tells_pure t1).1
              simpa using this
            · exact (tells_fail t1).elim
          subst hvs
          exact hl
        subst hl0
        rw [hk] at hr1
        refine ⟨goInt 0, w1, ρ1, ?_, H1, hE1, VL.int.2 rfl⟩
        simp only [Builtin.copy_, h0, h1, h2, Sem.run_bind, run_underlying (elem_run hel), Result.andThen, lenK_run hy hm, szOf_run hz, hk, hr1, storeCells, Sem.run_pure]
        try rfl
      · rename_i hk
        have hk : Nat.min m n ≠ 0 := fun h => by rw [h] at hk; cases hk
        obtain ⟨u, s2, t3, t4, _⟩ := tells_bind (good_mstore _ _) t2
        obtain ⟨rfl, rfl⟩ := tells_pure t4
        have hn0 : n ≠ 0 := fun h => by subst h; exact hk (Nat.min_zero m)
        obtain ⟨a', c', e5, hp⟩ := slice_ptr (hx.grow (hρ.trans hE1.le)) hn0
        cases e5
        obtain ⟨u', w', ρ', hr, H', hE, _⟩ := sim_store (P := P) hp hl w0 B s1 s' u ρ1 w1 .rfl t3 H1 (hfr.right hn1 hE1)
        refine ⟨goInt (Nat.min m n), w', ρ', ?_, H', hE1.trans hE hn1 hn2, VL.int.2 rfl⟩
        simp only [Builtin.copy_, h0, h1, h2, Sem.run_bind, run_underlying (elem_run hel), Result.andThen, lenK_run hy hm, szOf_run hz, hr1, hr, Sem.run_pure]
  · exact .fail
end Go.Proofs.YtpijenlmfmknnaaGreatDoor
