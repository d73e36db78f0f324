/- A loop over a function, in our own words: what the caller owes where its rounds may make maps, box what they are handed, and return; the function that is ranged over by what it hands on, one by one. No program. -/
import Derived.Test.YteioihjgjbjmjaaFrpT
import Derived.RangeFuncNested
import Derived.RangeFuncBound
import Derived.RangeFuncCalls
import Derived.RangeFuncLeaves
import Derived.Shelf.Abstract
import Derived.WalkKit
import Derived.OwnWalkIn
import Derived.TacticsInMore
import Derived.LoopNIn
import Derived.LoopIn
namespace Go.Proofs.Yteioihjgjbjmjaa
open Go.RowKit Go.Shelf
set_option linter.unusedVariables false

/-- What I says stays said where the world grows, and where a block of the loop's own books (at D and D + 1) turns. -/
def Stays {β : Type} (D : Nat) (I : β → World → Prop) : Prop :=
  ∀ s W W' row, I s W → W.grownBy W' row → (∀ r, row = some r → r = D ∨ r = D + 1) → I s W'
/-- The books lie as they lay. -/
def BooksSame (D : Nat) (W W' : World) : Prop := W'.heap[D]? = W.heap[D]? ∧ W'.heap[D + 1]? = W.heap[D + 1]?
/-- How a round's body may be left. -/
def rndPost {α : Type} (D : Nat) (Mt : Nat → Obj → Prop) (I Ix : List α → World → Prop) (ys : List α) (W : World) : Exit → Act → World → Prop
  | .normal, _, W' => BooksSame D W W' ∧ Frp Mt W W' ∧ I ys W'
  | .ret, _, W' => BooksSame D W W' ∧ Ix ys W'
  | _, _, _ => False

/-- The function gf hands on the members of xs in their order, as long as it is told to go on; between two rounds it makes memory alone. A round turns none but those that may turn (Mt); what the function lays for itself (Bx) is none of them. -/
def Hands {α : Type} (P : Program) (gf : Nat) (lb : Array Value) (encs : α → Array Value) (Bx : Obj → Prop) (Mt : Nat → Obj → Prop) (xs : List α) (l : Nat) (w : World) : Prop :=
  ∀ (J Jx : List α → World → Prop), (∀ s W W', J s W → W.grownBy W' none → J s W') →
    (∀ m pre x W1, J pre W1 → pre ++ [x] <+: xs → YieldAt Fence.wide m P l (encs x) W1 fun e W' =>
      (e = .returned (.bool true) ∧ J (pre ++ [x]) W' ∧ Frp Mt W1 W') ∨ (e = .returned (.bool false) ∧ Jx (pre ++ [x]) W')) →
    ∀ (n : Nat) (W : World), Below w.heap.size w W → (∀ q o, W.heap.size ≤ q → Bx o → ¬ Mt q o) → J [] W →
      CallsIn Fence.wide n P gf (#[.func (.yield l) #[] #[]] ++ lb) W fun e W' => (∃ v, e = .returned v) ∧ (J xs W' ∨ ∃ pre, pre <+: xs ∧ Jx pre W')

theorem round_wide {m m' : Nat} {P : Program} {l : Nat} {f : FuncId} {tmps : Array Value} {assign body : Code} {w : World} {R : Ending → World → Prop}
    (h : RoundIn Fence.wide m P l f tmps assign body w R) : RoundIn Fence.wide m' P l f tmps assign body w R := ⟨h.1, fun c cs _ => h.2 c cs (room_wide _)⟩

variable {P : Program}

/-- One round: its record is ready; the hand-over, the body; the record behind it says how it was left. -/
theorem round_law {α : Type} {n m D : Nat} {Mt : Nat → Obj → Prop} {fn : FuncId} {rec : LoopState → Option Code → Loop} {tmps : Array Value} {assign body : Code}
    (I Ix : List α → World → Prop) (hI : Stays D I) (hIx : Stays D Ix) (hG : ∀ r, Mt (D + 1) (.loop r)) (hrec : ∀ st pe st' pe', { rec st pe with state := st', pending := pe' } = rec st' pe') (hst : ∀ st pe, (rec st pe).state = st)
    {pre : List α} {x : α} {W : World} (Ax : Act → World → Prop) (hAx : ∀ a', Stays D (fun (_ : Unit) W => Ax a' W))
    (hi : I pre W) (hD : W.heap[D]? = some (.deferred (some []))) (hL : W.heap[D + 1]? = some (.loop (rec .ready none)))
    (hassign : ∀ K : Act → World → Prop, (∀ a' W', Below W.heap.size W W' → Ax a' W' → K a' W') → assign.wpIn (Fence.wide.inRound (D + 1)) n P (Exit.then K (fun _ _ _ => False)) { tmps := tmps, defers := [] } W)
    (hbody : ∀ a' W', I pre W' → Ax a' W' → D + 2 ≤ W'.heap.size → body.wpIn (Fence.wide.inRound (D + 1)) n P (rndPost D Mt I Ix (pre ++ [x]) W') a' W') :
    RoundIn Fence.wide m P (D + 1) fn tmps assign body W fun e W' =>
      (e = .returned (.bool true) ∧ (I (pre ++ [x]) W' ∧ W'.heap[D]? = some (.deferred (some [])) ∧ W'.heap[D + 1]? = some (.loop (rec .ready none))) ∧ Frp Mt W W') ∨
      (e = .returned (.bool false) ∧ Ix (pre ++ [x]) W' ∧ W'.heap[D]? = some (.deferred (some [])) ∧ W'.heap[D + 1]? = some (.loop (rec .done (some .ret)))) := by
  refine round_wide (m := n) (roundIn_of_wpIn trivial (hassign _ ?_))
  intro a' W1 hB1 hax
  have hlt : D + 1 < W.heap.size := (Array.getElem?_eq_some_iff.1 hL).1
  have hi1 : I pre W1 := hI pre W W1 none hi ⟨hB1.os, hB1.tape, hB1.output, hB1.size, fun k hk _ => hB1.block k hk⟩ (fun r e => by cases e)
  have hD1 := (hB1.block D (by omega)).trans hD
  have hL1 := (hB1.block (D + 1) hlt).trans hL
  have hlt1 : D + 1 < W1.heap.size := (Array.getElem?_eq_some_iff.1 hL1).1
  refine ⟨_, run_beginRound hL1 (hst _ _), ?_⟩
  obtain ⟨W2, hW2⟩ : ∃ W2, W1.putObj (D + 1) (.loop { rec .ready none with state := .busy }) = W2 := ⟨_, rfl⟩
  have hg2 : W1.grownBy W2 (some (D + 1)) := by rw [← hW2]; exact grownBy_putObj' W1 (D + 1) _
  have hL2 : W2.heap[D + 1]? = some (.loop { rec .ready none with state := .busy }) := by rw [← hW2]; exact World.putObj_heap_same hlt1
  have hD2 : W2.heap[D]? = some (.deferred (some [])) := by rw [← hW2]; exact (World.putObj_heap_other (by omega)).trans hD1
  have hF2 : Frp Mt W W2 := (Frp.ofBelow hB1 Mt).trans (Frp.ofFrm (Frm.ofGrown hg2) (fun g h o ho => by simp at h; subst h; rw [hL1] at ho; cases ho; exact hG _))
  rw [hW2]
  have hi2 : I pre W2 := hI pre W1 W2 _ hi1 hg2 (fun r e => by cases e; exact .inr rfl)
  have hax2 : Ax a' W2 := hAx a' () W1 W2 _ hax hg2 (fun r e => by cases e; exact .inr rfl)
  have hlt2 : D + 2 ≤ W2.heap.size := by have := (Array.getElem?_eq_some_iff.1 hL2).1; omega
  refine wpIn_mono (hbody a' W2 hi2 hax2 hlt2) ?_
  have fin : ∀ (jump : Option Code) (W3 : World), BooksSame D W2 W3 → ∃ W4, (Instr.endRound (D + 1) jump).run P W3 = .ok (.bool jump.isNone) W4 ∧ W3.grownBy W4 (some (D + 1)) ∧ W4.heap[D]? = some (.deferred (some [])) ∧ W4.heap[D + 1]? = some (.loop (rec (if jump.isNone then .ready else .done) jump)) := by
    intro jump W3 hb
    have hL3 := hb.2.trans hL2
    have hlt3 : D + 1 < W3.heap.size := (Array.getElem?_eq_some_iff.1 hL3).1
    refine ⟨_, run_endRound jump hL3, grownBy_putObj' W3 (D + 1) _, (World.putObj_heap_other (by omega)).trans (hb.1.trans hD2), ?_⟩
    rw [World.putObj_heap_same hlt3]
    have := hrec .ready none (if jump.isNone then .ready else .done) jump
    rw [← this]
  rintro e a3 W3 hp
  cases e with
  | normal =>
    obtain ⟨hb, hF3, hi3⟩ := hp
    obtain ⟨W4, hr, hg4, hD4, hL4⟩ := fin none W3 hb
    exact ⟨_, W4, hr, .inl ⟨rfl, ⟨hI _ W3 W4 _ hi3 hg4 (fun r e => by cases e; exact .inr rfl), hD4, hL4⟩, (hF2.trans hF3).trans (Frp.ofFrm (Frm.ofGrown hg4) (fun g h o ho => by simp at h; subst h; rw [hb.2.trans hL2] at ho; cases ho; exact hG _))⟩⟩
  | ret =>
    obtain ⟨hb, hi3⟩ := hp
    obtain ⟨W4, hr, hg4, hD4, hL4⟩ := fin (some .ret) W3 hb
    exact ⟨_, W4, hr, .inr ⟨rfl, hIx _ W3 W4 _ hi3 hg4 (fun r e => by cases e; exact .inr rfl), hD4, hL4⟩⟩
  | exit id => exact hp.elim
  | goto t => exact hp.elim
  | panic ch => exact hp.elim
  | outgrown => exact hp.elim

/-- The loop. -/
theorem range_law {α : Type} {n : Nat} {g : Operand} {ps : Array Tmp} {assign body : Code} {Q : Exit → Act → World → Prop} {a : Act} {w : World} {gf : Nat} {lb : Array Value}
    (hg : a.eval g = .func (.func gf) #[] lb) (eg : ∀ args w, (callFunc gf args).run P w = .ok (.enter gf args) w)
    {encs : α → Array Value} {Bx : Obj → Prop} {Mt : Nat → Obj → Prop} {xs : List α} (hG : ∀ r, Mt (w.heap.size + 1) (.loop r)) (hGl : ∀ q o, w.heap.size + 2 ≤ q → Bx o → ¬ Mt q o) (hseq : Hands P gf lb encs Bx Mt xs (w.heap.size + 1) w) (hps : ∀ x, (encs x).size = ps.size)
    (I Ix : List α → World → Prop) (hI : Stays w.heap.size I) (hIx : Stays w.heap.size Ix) (h0 : I [] w)
    (Ax : α → Act → World → Prop) (hAx : ∀ x a', Stays w.heap.size (fun (_ : Unit) W => Ax x a' W))
    (hassign : ∀ (pre : List α) (x : α) (W : World) (K : Act → World → Prop), I pre W → w.heap.size + 2 ≤ W.heap.size → (∀ a' W', Below W.heap.size W W' → Ax x a' W' → K a' W') →
      assign.wpIn (Fence.wide.inRound (w.heap.size + 1)) n P (Exit.then K (fun _ _ _ => False)) { tmps := (ps.zip (encs x)).foldl (fun t (p, v) => t.setIfInBounds p v) a.tmps, defers := [] } W)
    (hbody : ∀ (pre : List α) (x : α) (a' : Act) (W : World), I pre W → Ax x a' W → pre ++ [x] <+: xs → w.heap.size + 2 ≤ W.heap.size →
      body.wpIn (Fence.wide.inRound (w.heap.size + 1)) n P (rndPost w.heap.size Mt I Ix (pre ++ [x]) W) a' W)
    (hdone : ∀ W : World, I xs W → W.heap[w.heap.size]? = some (.deferred (some [])) → Q .normal { a with defers := { target := .collected w.heap.size, args := #[] } :: a.defers } W)
    (hstop : ∀ (pre : List α) (W : World), pre <+: xs → Ix pre W → W.heap[w.heap.size]? = some (.deferred (some [])) → Code.ret.wpIn Fence.wide n P Q { a with defers := { target := .collected w.heap.size, args := #[] } :: a.defers } W) :
    (Code.rangeFunc g ps assign body).wpIn Fence.wide n P Q a w := by
  refine wpIn_rangeFunc ?_
  intro fn hfn
  obtain ⟨rec, hrec⟩ : ∃ rec : LoopState → Option Code → Loop, rec = fun st pe => { state := st, pending := pe, fn, tmps := a.tmps, params := ps, assign, body, defers := w.heap.size } := ⟨_, rfl⟩
  obtain ⟨W1, hW1⟩ : ∃ W1, (w.alloc (.deferred (some []))).alloc (.loop (rec .ready none)) = W1 := ⟨_, rfl⟩
  have hL1 : W1.heap[w.heap.size + 1]? = some (.loop (rec .ready none)) := by
    rw [← hW1]; have := World.alloc_heap_new (w.alloc (.deferred (some []))) (.loop (rec .ready none)); rwa [World.size_alloc] at this
  have hD1 : W1.heap[w.heap.size]? = some (.deferred (some [])) := by
    rw [← hW1]; exact (Below.heap_alloc _ _ _ (by simp)).trans (World.alloc_heap_new w _)
  have hB1 : Below w.heap.size w W1 := by rw [← hW1]; exact ((Below.refl _ w).alloc (Nat.le_refl _) _).alloc (by simp) _
  have hI1 : I [] W1 := hI [] w W1 none h0 ⟨hB1.os, hB1.tape, hB1.output, hB1.size, fun k hk _ => hB1.block k hk⟩ (fun r e => by cases e)
  refine ⟨w.heap.size + 1, [{ target := .collected w.heap.size, args := #[] }], W1, { target := .fn (.func gf) lb, args := #[.func (.yield (w.heap.size + 1)) #[] #[]] }, W1, gf,
    #[.func (.yield (w.heap.size + 1)) #[] #[]] ++ lb, W1, ?_, ?_, fun _ _ => trivial, ?_, (fun h => (by cases h)), ?_⟩
  · rw [← hW1, hrec]; exact run_enterLoop_outer _ _ _ _ _
  · simp only [resolve, hg]
    simp [go_sem]
  · simp [invoke, go_sem, eg]
  · refine (hseq
      (fun pre W => I pre W ∧ W.heap[w.heap.size]? = some (.deferred (some [])) ∧ W.heap[w.heap.size + 1]? = some (.loop (rec .ready none)))
      (fun pre W => Ix pre W ∧ W.heap[w.heap.size]? = some (.deferred (some [])) ∧ W.heap[w.heap.size + 1]? = some (.loop (rec .done (some .ret)))) ?_ ?_ (n - 1) W1 hB1 (fun q o h hb => hGl q o (by have := (Array.getElem?_eq_some_iff.1 hL1).1; omega) hb) ⟨hI1, hD1, hL1⟩).mono ?_
    · rintro s W W' ⟨hi, hD, hL⟩ hg'
      exact ⟨hI s W W' none hi hg' (fun r e => by cases e), (hg'.block _ (Array.getElem?_eq_some_iff.1 hD).1 (by simp)).trans hD, (hg'.block _ (Array.getElem?_eq_some_iff.1 hL).1 (by simp)).trans hL⟩
    · rintro m pre x W ⟨hi, hD, hL⟩ hpx
      have hy := run_yield (P := P) (args := encs x) hL (by rw [hrec]; exact hps x)
      rw [hrec] at hy
      refine ⟨fn, _, assign, body, hy, ?_⟩
      refine (round_law (n := n) (m := m) (fn := fn) (x := x) I Ix hI hIx hG (by rw [hrec]; exact fun _ _ _ _ => rfl) (by rw [hrec]; exact fun _ _ => rfl) (Ax x) (hAx x) hi hD hL (fun K hK => hassign pre x W K hi (by have := (Array.getElem?_eq_some_iff.1 hL).1; omega) hK) (fun a' W' hi' hax hl => hbody pre x a' W' hi' hax hpx hl)).mono ?_
      rintro e W' (⟨rfl, h1, h2⟩ | ⟨rfl, h1⟩)
      · exact .inl ⟨rfl, h1, h2⟩
      · exact .inr ⟨rfl, h1⟩
    · rintro e W2 ⟨⟨v, rfl⟩, (⟨hi, hD, hL⟩ | ⟨pre, hpre, hi, hD, hL⟩)⟩
      · have he := run_endLoop (P := P) hL (by rw [hrec]; simp)
        rw [hrec] at he
        exact ⟨none, _, he, hdone _ (hI xs W2 _ _ hi (grownBy_putObj' W2 _ _) (fun r e => by cases e; exact .inr rfl)) ((World.putObj_heap_other (by omega)).trans hD)⟩
      · have he := run_endLoop (P := P) hL (by rw [hrec]; simp)
        rw [hrec] at he
        exact ⟨some .ret, _, he, hstop pre _ hpre (hIx pre W2 _ _ hi (grownBy_putObj' W2 _ _) (fun r e => by cases e; exact .inr rfl)) ((World.putObj_heap_other (by omega)).trans hD)⟩
end Go.Proofs.Yteioihjgjbjmjaa
