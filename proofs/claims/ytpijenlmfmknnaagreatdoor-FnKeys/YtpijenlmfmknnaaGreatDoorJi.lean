/- Own texts joined: All, Alive, FoWg, AliveA, LKeys, OpenO. -/
import Derived.Test.YtpijenlmfmknnaaGreatDoorJa
import Derived.Test.YtpijenlmfmknnaaGreatDoorJb
import Derived.Test.YtpijenlmfmknnaaGreatDoorJc
import Derived.Test.YtpijenlmfmknnaaGreatDoorJd
import Derived.Test.YtpijenlmfmknnaaGreatDoorJe
import Derived.Test.YtpijenlmfmknnaaGreatDoorJf
import Derived.Test.YtpijenlmfmknnaaGreatDoorJg
import Derived.Test.YtpijenlmfmknnaaGreatDoorJh
import Derived.Test.YtpijenlmfmknnaaGreatDoorProg
import Derived.ChangeArms
import Derived.ChangeSlices
import Derived.WideShapes

/- A part of the reckoning of alive(): one call, over the blocks that it touches. -/
namespace Go.Proofs.YtpijenlmfmknnaaGreatDoor
set_option linter.unusedVariables false
set_option maxRecDepth 1000000
def all : Memo := .mk 36 ([.agg ⟨[.int .i64 (.ofNat 1), .int .i64 (.ofNat 1), .int .i64 (.ofNat 0), .slice (some ⟨407, 0, none⟩) 4 4, .slice none 0 0, .slice none 0 0, .slice (some ⟨428, 0, none⟩) 1 1, .slice (some ⟨686, 0, none⟩) 2 2, .slice none 0 0, .bool false]⟩]) 3460 3882
  ([(0, .cells ⟨[.int .i64 (.ofNat 0), .int .i64 (.ofNat 0)]⟩ 0 (0, 0)),
    (1, .cells ⟨[.int .i64 (.ofNat 0), .int .i64 (.ofNat 1)]⟩ 0 (0, 0)),
    (407, .cells ⟨[.int .u8 (.ofNat 98), .int .u8 (.ofNat 111), .int .u8 (.ofNat 100), .int .u8 (.ofNat 121)]⟩ 5 (1, 1)),
    (415, .cells ⟨[.int .u8 (.ofNat 112)]⟩ 5 (1, 1)),
    (423, .cells ⟨[.int .u8 (.ofNat 97)]⟩ 5 (1, 1)),
    (426, .cells ⟨[.int .i64 (.ofNat 1), .slice none 0 0, .slice (some ⟨423, 0, none⟩) 1 1, .slice none 0 0, .slice none 0 0]⟩ 55 (5, 1)),
    (428, .cells ⟨[.int .i64 (.ofNat 0), .slice (some ⟨415, 0, none⟩) 1 1, .slice none 0 0, .slice none 0 0, .slice (some ⟨426, 0, none⟩) 1 1]⟩ 55 (5, 1)),
    (507, .cells ⟨[.int .i64 (.ofNat 500)]⟩ 3 (1, 1)),
    (509, .cells ⟨[.int .u8 (.ofNat 120)]⟩ 5 (1, 1)),
    (682, .cells ⟨[.int .i64 (.ofNat 0), .int .i64 (.ofNat 500)]⟩ 3 (1, 1)),
    (684, .cells ⟨[.int .u8 (.ofNat 98)]⟩ 5 (1, 1)),
    (686, .cells ⟨[.int .i64 (.ofNat 0), .int .i64 (.ofNat 1), .int .i64 (.ofNat 0), .int .i64 (.ofNat 0), .int .i64 (.ofNat 0), .int .i64 (.ofNat 0), .int .i64 (.ofNat 0), .slice (some ⟨682, 0, none⟩) 2 2, .int .i64 (.ofNat 0), .slice (some ⟨684, 0, none⟩) 1 1, .slice none 0 0, .bool false, .int .i64 (.ofNat 0), .int .i64 (.ofNat 1), .int .i64 (.ofNat 1), .int .i64 (.ofNat 0), .int .i64 (.ofNat 0), .int .i64 (.ofNat 0), .int .i64 (.ofNat 0), .slice (some ⟨507, 0, none⟩) 1 1, .int .i64 (.ofNat 1), .slice none 0 0, .slice (some ⟨509, 0, none⟩) 1 1, .bool false]⟩ 121 (12, 1))])
  ([(3881, some (.cells ⟨[.int .u8 (.ofNat 60), .int .u8 (.ofNat 98), .int .u8 (.ofNat 111), .int .u8 (.ofNat 100), .int .u8 (.ofNat 121), .int .u8 (.ofNat 62), .int .u8 (.ofNat 60), .int .u8 (.ofNat 98), .int .u8 (.ofNat 62), .int .u8 (.ofNat 60), .int .u8 (.ofNat 47), .int .u8 (.ofNat 98), .int .u8 (.ofNat 62), .int .u8 (.ofNat 60), .int .u8 (.ofNat 112), .int .u8 (.ofNat 62), .int .u8 (.ofNat 97), .int .u8 (.ofNat 60), .int .u8 (.ofNat 47), .int .u8 (.ofNat 112), .int .u8 (.ofNat 62), .int .u8 (.ofNat 120), .int .u8 (.ofNat 60), .int .u8 (.ofNat 47), .int .u8 (.ofNat 98), .int .u8 (.ofNat 111), .int .u8 (.ofNat 100), .int .u8 (.ofNat 121), .int .u8 (.ofNat 62)]⟩ 5 (1, 1)))])
  (.tuple ⟨[.slice (some ⟨3881, 0, none⟩) 29 29, .bool true]⟩)
theorem all_ok : memoOk Tryz.prog hooks hookB 3000 all = true := by decide +kernel
end Go.Proofs.YtpijenlmfmknnaaGreatDoor

/- alive() comes to true: reckoned by the kernel, whatever the world. -/
namespace Go.Proofs.YtpijenlmfmknnaaGreatDoor
open Go.RowKit
set_option linter.unusedVariables false
set_option maxRecDepth 1000000

def memos : List Memo := [ala, alb, alc, ald, ale, alf, alg, alh, ali, alj, alk, all]
def memoHs (X : Hook) : List Memo → Hook
  | [] => X
  | m :: l => orHook (memoH m) (memoHs X l)
theorem memos_good {X : Hook} (hX : GoodH X) : ∀ l, GoodH (memoHs X l)
  | [] => hX
  | m :: l => or_good (memo_good m) (memos_good hX l)
theorem memos_ok {P : Program} {X : Hook} (hX : HookOk P X) : ∀ l, (∀ m ∈ l, HookOk P (memoH m)) → HookOk P (memoHs X l)
  | [], _ => hX
  | m :: l, h => or_ok (h m List.mem_cons_self) (memos_ok hX l fun x hx => h x (List.mem_cons_of_mem _ hx))
theorem part_ok {m : Memo} (h : memoOk Tryz.prog hooks hookB 3000 m = true) : HookOk Tryz.prog (memoH m) := memo_ok (good_call Tryz.prog hooks_good hookB_good 3000) (reckoned 3000) h
theorem parts_ok : ∀ m ∈ memos, HookOk Tryz.prog (memoH m) := by
  intro m hm
  simp only [memos, List.mem_cons, List.not_mem_nil, or_false] at hm
  rcases hm with rfl | rfl | rfl | rfl | rfl | rfl | rfl | rfl | rfl | rfl | rfl | rfl
  · exact part_ok ala_ok
  · exact part_ok alb_ok
  · exact part_ok alc_ok
  · exact part_ok ald_ok
  · exact part_ok ale_ok
  · exact part_ok alf_ok
  · exact part_ok alg_ok
  · exact part_ok alh_ok
  · exact part_ok ali_ok
  · exact part_ok alj_ok
  · exact part_ok alk_ok
  · exact part_ok all_ok
def hooks1 : Hook := memoHs hooks memos
def heap0 : Hp := ⟨storeT [(0, .cells ⟨[.int .i64 (.ofNat 0), .int .i64 (.ofNat 0)]⟩ 0 (0, 0)), (1, .cells ⟨[.int .i64 (.ofNat 0), .int .i64 (.ofNat 1)]⟩ 0 (0, 0))] (tmk13 none), 16, 0, 0⟩
def isTrue' : Option (Value × Hp) → Bool
  | some (.bool true, s) => Nat.ble 16 s.n
  | _ => false
theorem alive_run : isTrue' (call Tryz.prog hooks1 hookB 3000 7 [] heap0) = true := by decide +kernel
end Go.Proofs.YtpijenlmfmknnaaGreatDoor

/- The two package variables. -/
namespace Go.Proofs.YtpijenlmfmknnaaGreatDoor
open Go.RowKit
set_option linter.unusedVariables false

/-- The two package variables. -/
def Glo (w : World) : Prop := w.cell? ⟨0, 0, none⟩ = some (.int .i64 0) ∧ w.cell? ⟨0, 1, none⟩ = some (.int .i64 0) ∧ w.cell? ⟨1, 0, none⟩ = some (.int .i64 0) ∧ w.cell? ⟨1, 1, none⟩ = some (.int .i64 1)
theorem Glo.frm {w w' : World} {S : List Nat} (h : Glo w) (f : Frm w w' S) (hS : ∀ q ∈ S, 2 ≤ q) : Glo w' := by
  have hc : ∀ b j v, b < 2 → w.cell? ⟨b, j, none⟩ = some v → w'.cell? ⟨b, j, none⟩ = some v := fun b j v hb hv => (World.cell?_of_block (f.block b (lt_of_cell hv) (fun e => by have := hS b e; omega))).trans hv
  exact ⟨hc 0 0 _ (by omega) h.1, hc 0 1 _ (by omega) h.2.1, hc 1 0 _ (by omega) h.2.2.1, hc 1 1 _ (by omega) h.2.2.2⟩
theorem Glo.keep {w w' : World} (h : Glo w) (hb : Below w.heap.size w w') : Glo w' := h.frm (Frm.ofBelow hb []) (fun q hq => by cases hq)
end Go.Proofs.YtpijenlmfmknnaaGreatDoor

/- alive() as a contract: it tells true, and writes nothing that was there. -/
namespace Go.Proofs.YtpijenlmfmknnaaGreatDoor
open Go.RowKit
set_option linter.unusedVariables false
set_option maxRecDepth 100000

def rn0 : Rn := fun g => if g < 16 then some ⟨g, 0, 2, 1, 0⟩ else none
theorem heap0_f (id : Nat) (o : Obj) (h : heap0.f id = some o) : (id = 0 ∧ o = .cells ⟨[.int .i64 (.ofNat 0), .int .i64 (.ofNat 0)]⟩ 0 (0, 0)) ∨ (id = 1 ∧ o = .cells ⟨[.int .i64 (.ofNat 0), .int .i64 (.ofNat 1)]⟩ 0 (0, 0)) := by
  unfold Hp.f at h
  split at h
  · rename_i hle
    by_cases h0 : id = 0
    · subst h0
      exact .inl ⟨rfl, (Option.some.inj h).symm⟩
    · by_cases h1 : id = 1
      · subst h1
        exact .inr ⟨rfl, (Option.some.inj h).symm⟩
      · rw [show heap0.h = storeT [(0, .cells ⟨[.int .i64 (.ofNat 0), .int .i64 (.ofNat 0)]⟩ 0 (0, 0)), (1, .cells ⟨[.int .i64 (.ofNat 0), .int .i64 (.ofNat 1)]⟩ 0 (0, 0))] (tmk13 none) from rfl, store_off _ _ _ hle (by simp) (by simp; omega), tget13_mk] at h
        cases h
  · cases h
theorem two_cells {w : World} {g : Nat} {a b : Value} (h0 : w.cell? ⟨g, 0, none⟩ = some a) (h1 : w.cell? ⟨g, 1, none⟩ = some b) : ∃ c' el' fz, w.heap[g]? = some (.cells c' el' fz) ∧ c'[0]? = some a ∧ c'[1]? = some b := by
  cases hg : w.heap[g]? with
  | none => simp [World.cell?, hg] at h0
  | some o =>
    cases o with
    | cells c' el' fz =>
      rw [cell_at hg] at h0 h1
      exact ⟨c', el', fz, rfl, h0, h1⟩
    | _ => simp [World.cell?, hg] at h0
theorem glo_obj {w : World} {g : Nat} {a b : Value} (hg : g < 16) (h0 : w.cell? ⟨g, 0, none⟩ = some a) (h1 : w.cell? ⟨g, 1, none⟩ = some b) (ha : plain0 a = true) (hb : plain0 b = true) : ObjR rn0 w g (.cells ⟨[a, b]⟩ 0 (0, 0)) := by
  obtain ⟨c', el', fz, e1, e2, e3⟩ := two_cells h0 h1
  refine ⟨⟨g, 0, 2, 1, 0⟩, if_pos hg, rfl, (fun _ => rfl), (fun h => absurd rfl h), c', el', fz, e1, ?_, (fun h => by omega), fun k v hk => ?_⟩
  · have : 1 < c'.size := by
      rcases Nat.lt_or_ge 1 c'.size with h | h
      · exact h
      · rw [Array.getElem?_eq_none h] at e3; cases e3
    show 0 + 2 + 0 * 1 ≤ c'.size
    omega
  · match k, hk with
    | 0, hk => cases hk; exact ⟨_, by simpa using e2, (plain0_iff ha).2 rfl⟩
    | 1, hk => cases hk; exact ⟨_, by simpa using e3, (plain0_iff hb).2 rfl⟩
    | k + 2, hk => simp at hk
theorem start_hr {w : World} (hG : Glo w) : HR w w.heap.size rn0 heap0.f w := by
  refine ⟨.refl _ _, Nat.le_refl _, fun id o h => ?_, fun i j oi oj pi pj hij hi hj ei ej => ?_, fun id o p h h16 => ?_, fun g hg => ⟨_, if_pos hg, rfl, rfl⟩⟩
  · rcases heap0_f id o h with ⟨rfl, rfl⟩ | ⟨rfl, rfl⟩
    · exact glo_obj (by omega) hG.1 hG.2.1 rfl rfl
    · exact glo_obj (by omega) hG.2.2.1 hG.2.2.2 rfl rfl
  · have hb : ∀ i o p, heap0.f i = some o → rn0 i = some p → p.blk = i := fun i o p h hp => by
      have : i < 16 := by rcases heap0_f i o h with ⟨rfl, _⟩ | ⟨rfl, _⟩ <;> omega
      unfold rn0 at hp
      rw [if_pos this] at hp
      cases hp
      rfl
    rw [hb i oi pi hi ei, hb j oj pj hj ej]
    exact hij
  · rcases heap0_f id o h with ⟨rfl, _⟩ | ⟨rfl, _⟩ <;> omega
theorem alive_any (w : World) (hG : Glo w) : Calls Tryz.prog 7 #[] w fun e w' => e = .returned (.bool true) ∧ Below w.heap.size w w' := by
  have hok : CallOk Tryz.prog (call Tryz.prog hooks1 hookB 3000) := reckon (by kernel_rfl) noGo (memos_good hooks_good memos) hookB_good (memos_ok hooks_ok memos parts_ok) hookB_ok 3000
  have hr := alive_run
  unfold isTrue' at hr
  split at hr
  · rename_i s heq
    have hw := hok 7 [] heap0 s (.bool true) heq w w.heap.size rn0 w [] (start_hr hG) rfl (fun id h1 h2 => by
      have h1 : 16 ≤ id := h1
      unfold rn0
      rw [if_neg (by omega)])
    have hent : (callFunc 7 ⟨[]⟩).run Tryz.prog w = .ok (.enter 7 ⟨[]⟩) w := by
      have hname : (Tryz.f7.name == "runtime.NumGoroutine") = false := by kernel_rfl
      have hbody : Tryz.f7.body.isNone = false := by kernel_rfl
      simp only [callFunc, Sem.run_bind, run_program, Result.andThen, Tryz.func7, hname, hbody, Bool.false_eq_true, if_false, Sem.run_pure]
    rw [hent] at hw
    have hw : Calls Tryz.prog 7 ⟨[]⟩ w _ := hw
    refine Calls.mono hw ?_
    rintro e w' ⟨v', rfl, ρ', H', hE, hv⟩
    exact ⟨by rw [VL.bool.1 hv], H'.below⟩
  · cases hr
end Go.Proofs.YtpijenlmfmknnaaGreatDoor

/- The law on a key between two keys, walked by its callees' contracts. -/
namespace Go.Proofs.YtpijenlmfmknnaaGreatDoor
open Go.RowKit
set_option linter.unusedVariables false
set_option maxRecDepth 100000

theorem ints_last {w : World} {v : Value} {l : List Int} (h : Ints w v l) (hl : 0 < l.length) : ∃ b off cap, v = .slice (some ⟨b, off, none⟩) l.length cap ∧ w.cell? ⟨b, off + (l.length - 1), none⟩ = some (.int .i64 (l.getD (l.length - 1) 0)) := by
  obtain ⟨hok, _, ⟨rfl, e⟩ | ⟨x, cap, rfl, hc, e⟩ | ⟨b, off, cap, rfl, _, _, _, _, h5⟩⟩ := h
  · subst e; simp at hl
  · subst e; simp at hl
  · exact ⟨b, off, cap, rfl, h5 _ (by omega)⟩
set_option maxHeartbeats 6400000 in
theorem law_keys (w : World) (code : Value) (l : List Int) (h : Byt w code l) (hG : Glo w) :
    Calls Tryz.prog 3 #[code] w fun e w' => e = .returned (.bool true) ∧ Below w.heap.size w w' := by
  have HD := hide (drawBetween_any w code l h)
  obtain ⟨a0, c0, rfl, _, _⟩ := h.shape
  clear h
  go_enter Tryz.func3, Tryz.ntmps3
  go_wp2_with fail
  refine (unhide HD).mono ?_
  rintro e w1 ⟨a, c, k, a', c', k', rfl, i1, j1, hk, hk', hB1⟩
  clear HD
  go_wp2_with fail
  refine (btI_all w1 _ _ k k' i1 j1).mono ?_
  rintro e w2 ⟨v, r, rfl, ho2, hr2, hB2⟩
  have i2 := i1.keep hB2
  have j2 := j1.keep hB2
  have hA2 := bstep hB1 hB2
  have hG2 := hG.keep hA2
  have hr := unhide hr2
  have o2 := ho2.ints
  clear i1 j1 hB1 hB2 hr2 ho2 hG
  cases hb : btAll k k' with
  | none =>
    rw [hb] at hr
    have hr : r = [] := hr.symm
    subst hr
    obtain ⟨a3, c3, rfl, _, _⟩ := o2.shape
    have HA := hide (alive_any w2 hG2)
    clear hb hG2 o2 i2 j2
    rw [show (none : Option (List Int)).isSome = false from rfl]
    go_wp2_with fail
    refine (unhide HA).mono ?_
    rintro e w3 ⟨rfl, hB3⟩
    have hA3 := bstep hA2 hB3
    clear hA2 hB3 HA
    go_wp2_with fail
    go_ret
    exact ⟨rfl, hA3⟩
  | some r' =>
    rw [hb] at hr
    have hr : r' = r := hr
    subst hr
    obtain ⟨hg, hrl⟩ := between_good hb
    rw [show (some r' : Option (List Int)).isSome = true from rfl]
    obtain ⟨b3, of3, c3, rfl, hc3⟩ := ints_last o2 hg.ne
    have K1 := hide (fun W (hW : Below w2.heap.size w2 W) => klI_any W _ _ k r' (i2.keep hW) (o2.keep hW))
    have K2 := hide (fun W (hW : Below w2.heap.size w2 W) => klI_any W _ _ r' k' (o2.keep hW) (j2.keep hW))
    have K3 := hide (fun W (hW : Below w2.heap.size w2 W) => klI_any W _ _ r' r' (o2.keep hW) (o2.keep hW))
    have HC := hide (fun W (hW : Below w2.heap.size w2 W) => (World.cell?_of_block (hW.block _ (lt_of_cell hc3))).trans hc3)
    have GL : k.length = 0 ∨ klB k r' = true := hg.lo.imp (fun e => by rw [e]; rfl) id
    have GH : k'.length = 0 ∨ klB r' k' = true := hg.hi.imp (fun e => by rw [e]; rfl) id
    have hne := hg.ne
    have hls := hg.last
    have hB0 := Below.refl w2.heap.size w2
    rw [klB_irr r'] at K3
    clear hb hG2 o2 i2 j2 hc3 hg
    generalize klB k r' = t1 at *
    generalize klB r' k' = t2 at *
    generalize r'.getD (r'.length - 1) 0 = z at *
    generalize r'.length = n at *
    generalize k.length = p at *
    generalize k'.length = p' at *
    obtain ⟨n, rfl⟩ : ∃ m, n = m + 1 := ⟨n - 1, by omega⟩
    rw [Nat.add_sub_cancel] at HC
    have hn12 : (n : Int) + 1 ≤ 12 := by omega
    clear hr hrl hne k k' r'
    have hP : p = 0 ∨ ∃ q, p = q + 1 ∧ t1 = true := by
      rcases GL with h | h
      · exact .inl h
      · cases p with
        | zero => exact .inl rfl
        | succ q => exact .inr ⟨q, rfl, h⟩
    have hP' : p' = 0 ∨ ∃ q, p' = q + 1 ∧ t2 = true := by
      rcases GH with h | h
      · exact .inl h
      · cases p' with
        | zero => exact .inl rfl
        | succ q => exact .inr ⟨q, rfl, h⟩
    clear GL GH
    rcases hP with rfl | ⟨q, rfl, rfl⟩ <;> rcases hP' with rfl | ⟨q', rfl, rfl⟩
    · go_wp2_with fail
      refine (unhide K3 _ hB0).mono ?_
      rintro e w3 ⟨rfl, hC3⟩
      have hB3 := bstep hB0 hC3
      clear hC3
      have hcc := unhide HC _ hB3
      go_wp2
      go_ret
      exact ⟨rfl, bstep hA2 hB3⟩
    · have hq' : ¬ ((q' : Int) + 1 = 0) := by omega
      go_wp2_with fail
      refine (unhide K2 _ hB0).mono ?_
      rintro e w3 ⟨rfl, hC3⟩
      have hB3 := bstep hB0 hC3
      clear hC3
      go_wp2_with fail
      refine (unhide K3 _ hB3).mono ?_
      rintro e w4 ⟨rfl, hC4⟩
      have hB4 := bstep hB3 hC4
      clear hC4
      have hcc := unhide HC _ hB4
      go_wp2
      go_ret
      exact ⟨rfl, bstep hA2 hB4⟩
    · have hq : ¬ ((q : Int) + 1 = 0) := by omega
      go_wp2_with fail
      refine (unhide K1 _ hB0).mono ?_
      rintro e w3 ⟨rfl, hC3⟩
      have hB3 := bstep hB0 hC3
      clear hC3
      go_wp2_with fail
      refine (unhide K3 _ hB3).mono ?_
      rintro e w4 ⟨rfl, hC4⟩
      have hB4 := bstep hB3 hC4
      clear hC4
      have hcc := unhide HC _ hB4
      go_wp2
      go_ret
      exact ⟨rfl, bstep hA2 hB4⟩
    · have hq' : ¬ ((q' : Int) + 1 = 0) := by omega
      have hq : ¬ ((q : Int) + 1 = 0) := by omega
      go_wp2_with fail
      refine (unhide K1 _ hB0).mono ?_
      rintro e w3 ⟨rfl, hC3⟩
      have hB3 := bstep hB0 hC3
      clear hC3
      go_wp2_with fail
      refine (unhide K2 _ hB3).mono ?_
      rintro e w4 ⟨rfl, hC4⟩
      have hB4 := bstep hB3 hC4
      clear hC4
      go_wp2_with fail
      refine (unhide K3 _ hB4).mono ?_
      rintro e w5 ⟨rfl, hC5⟩
      have hB5 := bstep hB4 hC5
      clear hC5
      have hcc := unhide HC _ hB5
      go_wp2
      go_ret
      exact ⟨rfl, bstep hA2 hB5⟩
end Go.Proofs.YtpijenlmfmknnaaGreatDoor

/- An argument of a law that can be read as data is a row of numbers, a stamp, an operation: what the data's readings open to. No condition. -/
namespace Go.Proofs.YtpijenlmfmknnaaGreatDoor
open Go.RowKit Go.ChangeShapes
set_option linter.unusedVariables false
set_option maxRecDepth 100000

variable {H : Type} {enc : TypeId × Value → H} {W : World} {held : Bool}

theorem open_bytesO {fuel : Nat} {cs : List Value} {x : DataW H × List MemPlace} (h : DataW.trod enc Tryz.prog W 0 (fun _ => true) held fuel 22 cs = some x) :
    ∃ v l, cs = [v] ∧ Byt W v l := by
  rcases open_ints Tryz.underlying22 Tryz.underlying5 (by kernel_rfl) h with ⟨hcs, _⟩ | ⟨a, len, cap, zs, hcs, _, hl, hm, hz, _, hcell, hwz⟩
  · exact ⟨_, _, hcs, byt_of_row (zs := []) (.inl ⟨rfl, rfl, rfl, rfl⟩)⟩
  · exact ⟨_, _, hcs, byt_of_row (.inr ⟨_, rfl, hl, hm, by simpa using hz, hcell, hwz⟩)⟩
/-- An argument that is a row of bytes. -/
theorem arg_bytesO {r : Reach} {base : Nat} {v : Value} {d : DataW H} {p : List MemPlace} (hv : Value.okWide Tryz.prog W r base 22 v) (h : DataW.Trod enc Tryz.prog W 0 (fun _ => true) held 22 v d p) : ∃ l, Byt W v l := by
  obtain ⟨a, len, cap, rfl⟩ := WideShapes.okWide_slice Tryz.underlying22 hv
  obtain ⟨fuel, hf⟩ := h
  obtain ⟨u, l, hu, hb⟩ := open_bytesO hf
  simp [Value.cells] at hu
  subst hu
  exact ⟨l, hb⟩
end Go.Proofs.YtpijenlmfmknnaaGreatDoor
