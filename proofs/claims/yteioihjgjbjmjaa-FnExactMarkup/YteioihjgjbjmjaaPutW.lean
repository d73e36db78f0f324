/- The writer of impl's Markup: what it holds, what may turn while it writes; put puts words behind what is there. -/
import Derived.Test.YteioihjgjbjmjaaOnceW
import Derived.Test.YteioihjgjbjmjaaSayS
import Derived.Test.YteioihjgjbjmjaaStr
namespace Go.Proofs.Yteioihjgjbjmjaa
open Go.RowKit
set_option linter.unusedVariables false
set_option maxRecDepth 100000

/-- What may turn while the writer writes: its own block, and rows of bytes at or beyond B. -/
def MtW (B g : Nat) (i : Nat) (o : Obj) : Prop := (i = g ∧ ∃ cs, o = .cells cs 81 (0, 0)) ∨ MtB B i o
/-- The writer lies in block g, and has written L. -/
def Wr (B : Nat) (w : World) (g : Nat) (L : List Int) : Prop := ∃ o, Own w B o L ∧ WSet B o w g

theorem WSet.loc {B : Nat} {o : Value} {w : World} {g : Nat} (h : WSet B o w g) : ∃ cs, Loc w g cs 81 ∧ cs[0]? = some o ∧ w.cell? ⟨g, 0, none⟩ = some o ∧ w.frozen? ⟨g, 0, none⟩ = false := by
  rcases h with h | ⟨m, _, h, _⟩
  · exact ⟨_, h, rfl, h.cell 0, h.frozen 0⟩
  · exact ⟨_, h, rfl, h.cell 0, h.frozen 0⟩
theorem own_notw {B b : Nat} {v : Value} {l : List Int} {w : World} {g : Nat} {cs : Array Value} (ho : Own w b v l) (h : Loc w g cs 81) : v.ownBlock ≠ some g := by
  intro e
  obtain ⟨cur, hc⟩ := own_obj ho.2 e
  unfold Loc at h
  rw [h] at hc
  injection hc with hc
  injection hc with _ hc
  revert hc
  decide
theorem map_at {w : World} {m : Nat} (h : w.heap[m]? = some voidMap) : m < w.heap.size := by
  by_cases hm : m < w.heap.size
  · exact hm
  · rw [Array.getElem?_eq_none (by omega)] at h; cases h
theorem own_notm {b : Nat} {v : Value} {l : List Int} {w : World} {m : Nat} (ho : Own w b v l) (h : w.heap[m]? = some voidMap) : v.ownBlock ≠ some m := by
  intro e
  obtain ⟨cur, hc⟩ := own_obj ho.2 e
  rw [h] at hc
  injection hc with hc
  cases hc
theorem loc_grownW {w w' : World} {K : Nat} {row : Option Nat} {cs : Array Value} {T : TypeId} (hK : Loc w K cs T) (hg : w.grownBy w' row) (hn : row ≠ some K) : Loc w' K cs T := by
  unfold Loc at hK ⊢
  rw [hg.block K (Array.getElem?_eq_some_iff.1 hK).1 (fun e => hn e.symm)]
  exact hK
theorem WSet.grown {B b : Nat} {o v : Value} {l : List Int} {w w' : World} {g : Nat} (h : WSet B o w g) (ho : Own w b v l) (hg : w.grownBy w' v.ownBlock) : WSet B o w' g := by
  rcases h with h | ⟨m, hm, h, h2⟩
  · exact .inl (loc_grownW h hg (own_notw (B := B) ho h))
  · exact .inr ⟨m, hm, loc_grownW h hg (own_notw (B := B) ho h), (hg.block m (map_at h2) (fun e => own_notm ho h2 e.symm)).trans h2⟩
theorem WSet.set {B : Nat} {o : Value} {w : World} {g : Nat} (h : WSet B o w g) (v : Value) : WSet B v (w.setCell ⟨g, 0, none⟩ v) g := by
  rcases h with h | ⟨m, hm, h, h2⟩
  · exact .inl (h.set 0 v)
  · refine .inr ⟨m, hm, h.set 0 v, (heap_setCell_other w ⟨g, 0, none⟩ m v (fun e => ?_)).trans h2⟩
    have e' : m = g := e
    subst e'
    unfold Loc at h
    rw [h] at h2
    injection h2 with h2
    cases h2
theorem WSet.keep {B : Nat} {o : Value} {w w' : World} {g : Nat} (h : WSet B o w g) (hb : Below w.heap.size w w') : WSet B o w' g := by
  rcases h with h | ⟨m, hm, h, h2⟩
  · exact .inl (h.all hb)
  · exact .inr ⟨m, hm, h.all hb, (hb.block m (map_at h2)).trans h2⟩
theorem Wr.keep {B : Nat} {w w' : World} {g : Nat} {L : List Int} (h : Wr B w g L) (hb : Below w.heap.size w w') : Wr B w' g L := by
  obtain ⟨o, h1, h2⟩ := h
  exact ⟨o, h1.keep hb, h2.keep hb⟩
theorem FrpW.ofB {B g : Nat} {a b : World} (h : Frp (MtB B) a b) : Frp (MtW B g) a b := ⟨h.os, h.tape, h.output, h.size, fun i o hi hm => h.block i o hi (fun k => hm (.inr k))⟩
theorem FrpW.ofFrm {B g : Nat} {a b : World} {cs : Array Value} (hl : Loc a g cs 81) (h : Frm a b [g]) : Frp (MtW B g) a b :=
  Frp.ofFrm h (fun i hi o ho => by
    have e : i = g := by simpa using hi
    subst e
    unfold Loc at hl
    rw [hl] at ho
    cases ho
    exact .inl ⟨rfl, cs, rfl⟩)
theorem FrpW.toBelow {B g : Nat} {a b : World} {S : Nat} (h : Frp (MtW B g) a b) (hS : S ≤ a.heap.size) (hB : S ≤ B) (hg : S ≤ g) : Below S a b := h.below hS (fun i o hi hm => by
  rcases hm with ⟨e, _⟩ | ⟨h1, _⟩ <;> omega)
theorem not_mtW {B g i : Nat} {cs : Array Value} {T : TypeId} (h1 : T ≠ 81) (h2 : T ≠ 5) : ¬ MtW B g i (.cells cs T (0, 0)) := by
  rintro (⟨_, cs', h⟩ | ⟨_, cs', h⟩)
  · injection h with _ h; exact h1 h
  · injection h with _ h; exact h2 h

/-- Bytes were put behind out, and out was stored. -/
theorem wr_put {B g : Nat} {w w' : World} {o v : Value} {L m : List Int} (ho : Own w B o L) (hs : WSet B o w g) (ho' : Own w' B v m) (hg : w.grownBy w' o.ownBlock) :
    (w'.cell? ⟨g, 0, none⟩ = some o ∧ w'.frozen? ⟨g, 0, none⟩ = false) ∧ Wr B (w'.setCell ⟨g, 0, none⟩ v) g m ∧ Frp (MtW B g) w (w'.setCell ⟨g, 0, none⟩ v) := by
  have hs' := hs.grown ho hg
  obtain ⟨cs, hl, _, c0, f0⟩ := hs'.loc
  have hne := own_notw (B := B) ho' hl
  refine ⟨⟨c0, f0⟩, ⟨v, ho'.frm (Frm.set w' g 0 v) (fun i hi hi' => ?_), hs'.set v⟩, (FrpW.ofB (Frp.ofAppend ho hg)).trans (FrpW.ofFrm hl (Frm.set w' g 0 v))⟩
  have e1 : i = g := by simpa using hi'
  have e2 : v.ownBlock = some i := by simpa [FB] using hi
  exact hne (by rw [e2, e1])

/-- A string, and its bytes. -/
def WordOk (p : ByteArray × List Int) : Prop := Lib.strCells p.1 = vals p.2 ∧ okB p.2
theorem word_str {l : List Int} (h : okB l) : WordOk (str l, l) := by
  refine ⟨?_, h⟩
  show Lib.strCells (str l) = vals l
  unfold Lib.strCells vals
  rw [str_list, List.map_map]
  refine List.map_congr_left (fun x hx => ?_)
  have := h x hx
  show Value.int .u8 ((UInt8.ofNat x.toNat).toNat : Int) = Value.int .u8 x
  rw [UInt8.toNat_ofNat', Value.int.injEq]
  refine ⟨rfl, ?_⟩
  omega
theorem words1 {a : ByteArray × List Int} (ha : WordOk a) : ∀ p ∈ [a], WordOk p := fun p hp => by simp at hp; subst hp; exact ha
theorem words2 {a b : ByteArray × List Int} (ha : WordOk a) (hb : WordOk b) : ∀ p ∈ [a, b], WordOk p := fun p hp => by
  simp at hp
  rcases hp with rfl | rfl
  · exact ha
  · exact hb
theorem words3 {a b c : ByteArray × List Int} (ha : WordOk a) (hb : WordOk b) (hc : WordOk c) : ∀ p ∈ [a, b, c], WordOk p := fun p hp => by
  simp at hp
  rcases hp with rfl | rfl | rfl
  · exact ha
  · exact hb
  · exact hc
theorem flatW_take (ws : List (ByteArray × List Int)) (j : Nat) (h : j < ws.length) : ((ws.take (j + 1)).map (·.2)).flatten = ((ws.take j).map (·.2)).flatten ++ ws[j].2 := by
  rw [List.take_succ_eq_append_getElem h, List.map_append, List.flatten_append]
  simp
theorem flatW_le (ws : List (ByteArray × List Int)) (j : Nat) : ((ws.take j).map (·.2)).flatten.length ≤ (ws.map (·.2)).flatten.length := by
  have : (ws.map (·.2)).flatten = ((ws.take j).map (·.2)).flatten ++ ((ws.drop j).map (·.2)).flatten := by rw [← List.flatten_append, ← List.map_append, List.take_append_drop]
  rw [this, List.length_append]
  omega

set_option maxHeartbeats 3200000 in
theorem put_any (B g k cap : Nat) (w : World) (L : List Int) (ws : List (ByteArray × List Int)) (hw : Wr B w g L) (hB : B ≤ w.heap.size) (hk : Loc w k (ws.map (fun p => Value.string p.1)).toArray 9) (hs : ∀ p ∈ ws, WordOk p)
    (hn : ws.length ≤ 1000) (hlen : L.length + (ws.map (·.2)).flatten.length ≤ 100000000) :
    Calls Try.prog 69 #[.pointer (some ⟨g, 0, none⟩), .slice (some ⟨k, 0, none⟩) ws.length cap] w fun e w' => e = .returned (.tuple #[]) ∧ Wr B w' g (L ++ (ws.map (·.2)).flatten) ∧ Frp (MtW B g) w w' := by
  have hn' : (ws.length : Int) ≤ 9223372036854775807 := by omega
  have hnw : ¬ MtW B g k (.cells (ws.map (fun p => Value.string p.1)).toArray 9 (0, 0)) := not_mtW (by decide) (by decide)
  go_enter Try.func69, Try.ntmps69
  go_wp2_with fail
  go_loopw [8] (fun i wr => ∃ j : Nat, j ≤ ws.length ∧ i = .int .i64 j ∧ Wr B wr g (L ++ ((ws.take j).map (·.2)).flatten) ∧ Frp (MtW B g) w wr) (fun i _ => ws.length - (intOf i).toNat)
  case atStart => exact ⟨0, Nat.zero_le _, rfl, by simpa using hw, Frp.refl _ _⟩
  case round =>
    obtain ⟨j, hj, rfl, hr, hb⟩ := hrel
    by_cases hjl : j < ws.length
    · have hst := flatW_take ws j hjl
      have hle := flatW_le ws (j + 1)
      obtain ⟨p, hp⟩ : ∃ p, p = ws[j] := ⟨_, rfl⟩
      have hpo : WordOk p := by rw [hp]; exact hs _ (List.getElem_mem hjl)
      have hc : wr.cell? ⟨k, j, none⟩ = some (.string p.1) := by
        rw [(hk.frp hb hnw).cell j]
        simp [hjl, hp]
      obtain ⟨s, m⟩ := p
      rw [← hp] at hst
      replace hst : ((ws.take (j + 1)).map (·.2)).flatten = ((ws.take j).map (·.2)).flatten ++ m := hst
      replace hc : wr.cell? ⟨k, j, none⟩ = some (.string s) := hc
      obtain ⟨hsm, hmo⟩ := hpo
      replace hsm : Lib.strCells s = vals m := hsm
      replace hmo : okB m := hmo
      have hBr : B ≤ wr.heap.size := Nat.le_trans hB hb.size
      have hl2 : (L ++ ((ws.take j).map (·.2)).flatten).length + m.length ≤ 100000000 := by
        rw [hst] at hle
        simp only [List.length_append] at hle ⊢
        omega
      have hjl' : (j : Int) < (ws.length : Int) := by omega
      obtain ⟨M, hM⟩ : ∃ M, M = L ++ ((ws.take j).map (·.2)).flatten := ⟨_, rfl⟩
      have HL := hide (show L ++ ((ws.take (j + 1)).map (·.2)).flatten = M ++ m by rw [hst, hM, List.append_assoc])
      rw [← hM] at hr hl2
      obtain ⟨o, hr1, hr2⟩ := hr
      obtain ⟨ab, cb, hbv, _, _⟩ := hr1.byt.shape
      subst hbv
      obtain ⟨cs, _, _, c0, f0⟩ := hr2.loc
      have HR := hide hr1
      have HS := hide hr2
      have HM := hide hsm
      have HO := hide hmo
      clear hr1 hr2 hst hp hle hM hsm hmo hs hk hw
      go_wp2_with (at_builtin; refine wpList_apps rfl _ _ rfl B _ M rfl (unhide HR) _ m rfl (unhide HM) (unhide HO) (by omega) hBr ?_)
      intro v2 w2 ho2 hg2
      obtain ⟨⟨c2, f2⟩, W2, F2⟩ := wr_put (unhide HR) (unhide HS) ho2 hg2
      have HW := hide (show Wr B (w2.setCell ⟨g, 0, none⟩ v2) g (L ++ ((ws.take (j + 1)).map (·.2)).flatten) by rw [unhide HL]; exact W2)
      obtain ⟨a2, cc2, hv2, _, _⟩ := ho2.byt.shape
      generalize (M ++ m).length = N2 at hv2
      subst hv2
      clear ho2 hg2 W2
      go_wp2_with fail
      go_roundw
      case rel => exact ⟨j + 1, by omega, by go_num, unhide HW, hb.trans F2⟩
      case measure => simp [intOf]; omega
    · have e : j = ws.length := by omega
      subst e
      rw [List.take_length] at hr
      clear hk hs hw
      go_wp2_with fail
      go_end0
      exact ⟨rfl, hr, hb⟩
end Go.Proofs.Yteioihjgjbjmjaa
