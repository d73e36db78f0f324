/- Own texts joined: Base, RegI, EvT, Ev, EvL, EvR. -/
import Derived.WalkKit
import Derived.OpenShut
import Derived.WalkSpells
import Derived.WalkSmall
import Derived.Laws.AppendOwnNone
import Derived.Laws.CopyOwn
import Derived.OrdersIn
import Derived.OwnWalkIn
import GoSem.Core.Code
import Derived.Defers
import Derived.Below

/- Rows of bytes in memory, as the contracts of this seat speak of them: what may be read, what is owned, what other blocks keep. No condition. -/
namespace Go.Proofs.YtpijenlmfmknnaaGreatDoor
open Go.RowKit
set_option linter.unusedVariables false

theorem hide {p : Prop} (h : p) : Hid p := h
theorem unhide {p : Prop} (h : Hid p) : p := h

/-- Each number is a byte. -/
def okB (l : List Int) : Prop := ∀ x ∈ l, 0 ≤ x ∧ x ≤ 255

/-- The cells of a row of bytes. -/
def vals (l : List Int) : List Value := l.map (Value.int .u8)

/-- The value v is a slice whose elements can be read in w: the bytes l. -/
def Byt (w : World) (v : Value) (l : List Int) : Prop :=
  okB l ∧ l.length ≤ maxLen ∧
  ((v = .slice none 0 0 ∧ l = []) ∨
   (∃ x cap, v = .slice (some x) 0 cap ∧ cap ≤ maxLen ∧ l = []) ∨
   (∃ b off cap, v = .slice (some ⟨b, off, none⟩) l.length cap ∧ l.length ≤ cap ∧ cap ≤ maxLen ∧ l ≠ [] ∧ b < w.heap.size ∧
      ∀ i, i < l.length → w.cell? ⟨b, off + i, none⟩ = some (.int .u8 (l.getD i 0))))

/-- The value v is a slice at the head of a block of the call's own, from 'base' on: the bytes l. -/
def Own (w : World) (base : Nat) (v : Value) (l : List Int) : Prop := okB l ∧ w.ownsRow base 5 1 v l.length (vals l)

theorem okB_nil : okB [] := fun _ h => by cases h
theorem okB.app {a b : List Int} (h : okB a) (k : okB b) : okB (a ++ b) := fun x hx => by
  rcases List.mem_append.1 hx with h' | h'
  · exact h x h'
  · exact k x h'
theorem okB.take {a : List Int} (h : okB a) (n : Nat) : okB (a.take n) := fun x hx => h x (List.mem_of_mem_take hx)
theorem okB.drop {a : List Int} (h : okB a) (n : Nat) : okB (a.drop n) := fun x hx => h x (List.mem_of_mem_drop hx)
theorem okB.at {a : List Int} (h : okB a) (i : Nat) : 0 ≤ a[i]?.getD 0 ∧ a[i]?.getD 0 ≤ 255 := by
  by_cases hi : i < a.length
  · rw [List.getElem?_eq_getElem hi]; exact h _ (List.getElem_mem hi)
  · rw [List.getElem?_eq_none (by omega)]; decide
theorem okB.one {x : Int} (h0 : 0 ≤ x) (h1 : x ≤ 255) : okB [x] := fun y hy => by simp at hy; subst hy; exact ⟨h0, h1⟩

theorem vals_len (l : List Int) : (vals l).length = l.length := by simp [vals]
theorem vals_at {l : List Int} {i : Nat} (h : i < l.length) : (vals l)[i]? = some (.int .u8 (l.getD i 0)) := by simp [vals, h]

/-- What is owned lies in a block between 'base' and the heap's end. -/
theorem Own.lt {w : World} {base : Nat} {v : Value} {l : List Int} (h : Own w base v l) : ∀ k, v.ownBlock = some k → base ≤ k ∧ k < w.heap.size := h.2.lt

theorem Own.mono {w : World} {base base' : Nat} {v : Value} {l : List Int} (h : Own w base v l) (hb : base' ≤ base) : Own w base' v l := by
  refine ⟨h.1, h.2.1, ?_⟩
  rcases h.2.2 with h' | ⟨g, cap, cur, h1, h2, h3⟩
  · exact .inl h'
  · exact .inr ⟨g, cap, cur, h1, by omega, h3⟩

/-- What is owned can be read. -/
theorem Own.byt {w : World} {base : Nat} {v : Value} {l : List Int} (h : Own w base v l) : Byt w v l := by
  obtain ⟨hok, hlen, hrow⟩ := h
  have hl := hlen
  rcases hrow with ⟨rfl, h0⟩ | ⟨g, cap, cur, rfl, hb, hg, hnc, hcm, hcs, htake⟩
  · exact ⟨hok, by omega, .inl ⟨rfl, List.eq_nil_of_length_eq_zero h0⟩⟩
  · refine ⟨hok, by omega, .inr ?_⟩
    by_cases h0 : l = []
    · subst h0; exact .inl ⟨_, cap, rfl, hcm, rfl⟩
    · refine .inr ⟨g, 0, cap, rfl, hnc, hcm, h0, ?_, fun i hi => ?_⟩
      · by_cases hlt : g < w.heap.size
        · exact hlt
        · rw [Array.getElem?_eq_none (by omega)] at hg; cases hg
      · have := World.ownsRow.cellAt (w := w) (base := base) (e := 5) (size := 1) (g := g) (n := l.length) (cap := cap) (xs := vals l) ⟨hlen, .inr ⟨g, cap, cur, rfl, hb, hg, hnc, hcm, hcs, htake⟩⟩ i (by omega)
        rw [vals_at hi] at this
        simpa using this

/-- The length that a readable value bears. -/
theorem Byt.shape {w : World} {v : Value} {l : List Int} (h : Byt w v l) : ∃ a cap, v = .slice a l.length cap ∧ l.length ≤ cap ∧ cap ≤ maxLen := by
  obtain ⟨_, hm, ⟨rfl, rfl⟩ | ⟨x, cap, rfl, hc, rfl⟩ | ⟨b, off, cap, rfl, h1, h2, _⟩⟩ := h
  · exact ⟨none, 0, rfl, Nat.le_refl _, hm⟩
  · exact ⟨some x, cap, rfl, Nat.zero_le _, hc⟩
  · exact ⟨_, cap, rfl, h1, h2⟩

/-- A world in which all blocks that were there stand as they stood. -/
theorem Byt.keep {w w' : World} {v : Value} {l : List Int} (h : Byt w v l) (hb : Below w.heap.size w w') : Byt w' v l := by
  obtain ⟨hok, hm, h1 | h2 | ⟨b, off, cap, rfl, h1, h2, h3, h4, h5⟩⟩ := h
  · exact ⟨hok, hm, .inl h1⟩
  · exact ⟨hok, hm, .inr (.inl h2)⟩
  · exact ⟨hok, hm, .inr (.inr ⟨b, off, cap, rfl, h1, h2, h3, Nat.lt_of_lt_of_le h4 hb.size, fun i hi => by rw [hb.cell (p := ⟨b, off + i, none⟩) h4]; exact h5 i hi⟩)⟩

theorem Own.keep {w w' : World} {base : Nat} {v : Value} {l : List Int} (h : Own w base v l) (hb : Below w.heap.size w w') : Own w' base v l :=
  ⟨h.1, h.2.kept (row := none) ⟨hb.os, hb.tape, hb.output, hb.size, fun k hk _ => hb.block k hk⟩ (by cases hv : v.ownBlock <;> simp)⟩

theorem Below.ofGrown {w w' : World} (h : w.grownBy w' none) : Below w.heap.size w w' := ⟨h.os, h.tape, h.output, h.size, fun k hk => h.block k hk (by simp)⟩
/-- Two steps of which the first keeps all that was there, the second what was there before both. -/
theorem bstep {a b c : World} (h : Below a.heap.size a b) (k : Below b.heap.size b c) : Below a.heap.size a c := h.trans (k.mono h.size)
theorem add_plain (b off i : Nat) : (⟨b, off, none⟩ : Addr).add i = ⟨b, off + i, none⟩ := by
  unfold Addr.add
  by_cases h : i = 0 <;> simp [h]
theorem lt_of_cell {w : World} {a : Addr} {v : Value} (h : w.cell? a = some v) : a.block < w.heap.size := by
  by_cases hlt : a.block < w.heap.size
  · exact hlt
  · unfold World.cell? at h
    rw [Array.getElem?_eq_none (by omega)] at h
    cases h

/-- An argument that was read as a row of numbers is a readable row of bytes. -/
theorem byt_of_row {w : World} {a : Option Addr} {len cap : Nat} {zs : List Int}
    (h : (a = none ∧ len = 0 ∧ cap = 0 ∧ zs = []) ∨ ∃ x, a = some x ∧ len ≤ cap ∧ cap ≤ maxLen ∧ zs.length = cap ∧ (∀ i, i < zs.length → w.cell? (x.add i) = some (.int .u8 (zs.getD i 0))) ∧ ∀ n ∈ zs, (Lit.int .u8 n).wf = true) :
    Byt w (.slice a len cap) (zs.take len) := by
  rcases h with ⟨rfl, rfl, rfl, rfl⟩ | ⟨x, rfl, hl, hm, hz, hcell, hwz⟩
  · exact ⟨okB_nil, by simp [maxLen], .inl ⟨rfl, rfl⟩⟩
  · have hok : okB (zs.take len) := fun n hn => bounds_u8 (hwz n (List.mem_of_mem_take hn))
    have hlen : (zs.take len).length = len := by simp; omega
    by_cases h0 : len = 0
    · subst h0
      exact ⟨hok, by simp [maxLen], .inr (.inl ⟨x, cap, rfl, hm, by simp⟩)⟩
    · obtain ⟨b, off, spot⟩ := x
      have hc := hcell 0 (by omega)
      have hspot : spot = none := by simpa [Addr.add] using World.cell?_spot hc
      subst hspot
      refine ⟨hok, by omega, .inr (.inr ⟨b, off, cap, by rw [hlen], by omega, hm, ?_, ?_, fun i hi => ?_⟩)⟩
      · intro e; rw [e] at hlen; simp at hlen; omega
      · have := lt_of_cell hc; simpa [Addr.add] using this
      · have hi' := hcell i (by omega)
        rw [List.getD_eq_getElem?_getD, List.getElem?_take, if_pos (by omega), ← List.getD_eq_getElem?_getD]
        rw [add_plain] at hi'
        exact hi'

end Go.Proofs.YtpijenlmfmknnaaGreatDoor

/- A region that draws its order, by what is said at each point of its way: a step for each operation, in place of a way for each order. Plain, and in a round of a loop over a function. No program. -/
namespace Go.Proofs.YtpijenlmfmknnaaGreatDoor
open Go.RowKit
set_option linter.unusedVariables false

/-- How many are not yet listed. -/
def todo : List Bool → Nat
  | [] => 0
  | b :: l => (if b then 0 else 1) + todo l
theorem todo_set : ∀ (l : List Bool) (i : Nat), l[i]? = some false → todo (l.set i true) + 1 = todo l
  | [], i, h => by simp at h
  | b :: l, 0, h => by
    have e : b = false := by simpa using h
    subst e
    simp only [List.set_cons_zero, todo, if_true, Bool.false_eq_true, if_false]
    omega
  | b :: l, i + 1, h => by
    have ih := todo_set l i (by simpa using h)
    simp only [List.set_cons_succ, todo]
    omega
theorem todo_none : ∀ (l : List Bool), todo l = 0 → ∀ (i : Nat) (b : Bool), l[i]? = some b → b = true
  | [], _, i, b, h => by simp at h
  | c :: l, h0, 0, b, h => by
    have e : c = b := by simpa using h
    subst e
    cases c with
    | true => rfl
    | false => simp [todo] at h0
  | c :: l, h0, i + 1, b, h => todo_none l (by simp only [todo] at h0; omega) i b (by simpa using h)
theorem todo_all (n : Nat) : todo (List.replicate n false) = n := by
  induction n with
  | zero => rfl
  | succ n ih => rw [List.replicate_succ]; simp only [todo, Bool.false_eq_true, if_false]; omega
theorem ready_off {md : Region.Mode} {ops : Array Oper} {L : Array Bool} {i : Nat} (hs : L.size = ops.size) (h : i ∈ Region.ready md ops L) : L.toList[i]? = some false := by
  unfold Region.ready at h
  rw [List.mem_filter, List.mem_range, Bool.and_eq_true] at h
  obtain ⟨h1, h2, _⟩ := h
  have hi : i < L.size := by omega
  rw [Array.getD_eq_getD_getElem?, Array.getElem?_eq_getElem hi] at h2
  rw [Array.getElem?_toList, Array.getElem?_eq_getElem hi]
  simpa using h2
theorem ready_none {md : Region.Mode} {ops : Array Oper} {L : Array Bool} (hs : L.size = ops.size) (h : todo L.toList = 0) : Region.ready md ops L = [] := by
  rw [List.eq_nil_iff_forall_not_mem]
  intro i hi
  have := todo_none _ h i false (ready_off hs hi)
  cases this

/-- What an operation waits for is listed where it is ready. -/
theorem ready_pred {md : Region.Mode} {ops : Array Oper} {L : Array Bool} {i : Nat} {o : Oper} (h : i ∈ Region.ready md ops L) (ho : ops[i]? = some o) (j : Nat) (he : o.after.any (fun e => Region.binds md e && e.on == j) = true) : L.getD j false = true := by
  unfold Region.ready at h
  rw [List.mem_filter, Bool.and_eq_true, ho] at h
  obtain ⟨_, _, h3⟩ := h
  simp only [Option.map_some, Option.getD_some] at h3
  rw [Array.any_eq_true] at he
  obtain ⟨k, hk, hb⟩ := he
  rw [Bool.and_eq_true, beq_iff_eq] at hb
  rw [Array.all_eq_true] at h3
  have := h3 k hk
  rw [Bool.or_eq_true, hb.1, hb.2] at this
  simpa using this
/-- Where each waits for earlier ones alone, none is ready only behind the last. -/
theorem ready_all {md : Region.Mode} {ops : Array Oper} {L : Array Bool} (hs : L.size = ops.size) (hb : (List.range ops.size).all (fun i => ((ops[i]?).map fun o => o.after.all fun e => !Region.binds md e || decide (e.on < i)).getD true) = true)
    (h : Region.ready md ops L = []) : ∀ (n i : Nat), i < n → i < ops.size → L.getD i false = true
  | 0, i, hn, _ => by omega
  | n + 1, i, hn, hi => by
    by_cases hlt : i < n
    · exact ready_all hs hb h n i hlt hi
    have e : i = n := by omega
    subst e
    have hL : i < L.size := by omega
    by_cases hf : L.getD i false = true
    · exact hf
    exfalso
    have hmem : i ∈ Region.ready md ops L := by
      unfold Region.ready
      rw [List.mem_filter, List.mem_range, Bool.and_eq_true]
      refine ⟨hi, ?_, ?_⟩
      · rw [Array.getD_eq_getD_getElem?, Array.getElem?_eq_getElem hL] at hf ⊢
        simpa using hf
      · have hbi := List.all_eq_true.1 hb i (List.mem_range.2 hi)
        rw [Array.getElem?_eq_getElem hi] at hbi ⊢
        simp only [Option.map_some, Option.getD_some] at hbi ⊢
        rw [Array.all_eq_true] at hbi ⊢
        intro k hk
        have hk' := hbi k hk
        rw [Bool.or_eq_true] at hk' ⊢
        rcases hk' with hk' | hk'
        · exact .inl hk'
        · right
          have hlt' : (ops[i].after[k]).on < i := by simpa using hk'
          exact ready_all hs hb h i _ hlt' (by omega)
    rw [h] at hmem
    cases hmem

variable {P : Program} {ops : Array Oper} {Q : Exit → Act → World → Prop}

theorem any_inv {md : Region.Mode} (I : Array Bool → Act → World → Prop) (hsz : ∀ L a w, I L a w → L.size = ops.size)
    (hstep : ∀ L a w i o, I L a w → i ∈ Region.ready md ops L → ops[i]? = some o → if Region.wanted o (yielded ops a.tmps) = true then Oper.wp P o a w (I (L.setIfInBounds i true)) Q else I (L.setIfInBounds i true) (a.put o.dst undef) w)
    (hdone : ∀ L a w, I L a w → Region.ready md ops L = [] → Q .normal a w) :
    ∀ (fuel : Nat) (L : Array Bool) (a : Act) (w : World), todo L.toList ≤ fuel → I L a w → wpAny P md ops Q fuel L a w
  | 0, L, a, w, hf, hI => by
    have hr := ready_none (md := md) (hsz L a w hI) (by omega)
    exact ⟨hr, hdone L a w hI hr⟩
  | fuel + 1, L, a, w, hf, hI => by
    refine ⟨fun hr => hdone L a w hI hr, fun i hi => ?_⟩
    have ho := todo_set _ _ (ready_off (hsz L a w hI) hi)
    have key : ∀ a' w', I (L.setIfInBounds i true) a' w' → wpAny P md ops Q fuel (L.setIfInBounds i true) a' w' := fun a' w' h' =>
      any_inv I hsz hstep hdone fuel _ a' w' (by rw [Array.toList_setIfInBounds]; omega) h'
    unfold wpOp
    cases hoi : ops[i]? with
    | none =>
      unfold Region.ready at hi
      rw [List.mem_filter, List.mem_range] at hi
      rw [Array.getElem?_eq_getElem hi.1] at hoi
      cases hoi
    | some o =>
      have hs := hstep L a w i o hI hi hoi
      simp only []
      split
      · rename_i hw
        rw [if_pos hw] at hs
        exact .inl (Oper.wp_mono key hs)
      · rename_i hw
        rw [if_neg hw] at hs
        exact key _ _ hs
/-- The region, plain. -/
theorem region_inv {id : Nat} {a : Act} {w : World} (hm : P.follows .mixedOrders = true) (I : Array Bool → Act → World → Prop) (hsz : ∀ L a w, I L a w → L.size = ops.size)
    (h0 : I (Array.replicate ops.size false) a w.drew)
    (hstep : ∀ L a w i o, I L a w → i ∈ Region.ready .any ops L → ops[i]? = some o → if Region.wanted o (yielded ops a.tmps) = true then Oper.wp P o a w (I (L.setIfInBounds i true)) Q else I (L.setIfInBounds i true) (a.put o.dst undef) w)
    (hdone : ∀ L a w, I L a w → Region.ready .any ops L = [] → Q .normal a w) : (Code.region id ops true).wp P Q a w :=
  wp_region_any hm (any_inv I hsz hstep hdone _ _ _ _ (by rw [Array.toList_replicate, todo_all]; exact Nat.le_refl _) h0)
end Go.Proofs.YtpijenlmfmknnaaGreatDoor

/- A store of numbered things as a tree of pairs, laid out level by level, and words that make the kernel reckon a thing at once. No program. -/
namespace Go.Proofs.YtpijenlmfmknnaaGreatDoor
structure Pr (α : Type) where
  a : α
  b : α
abbrev T0 (α : Type) := α
abbrev T1 (α : Type) := Pr (T0 α)
abbrev T2 (α : Type) := Pr (T1 α)
abbrev T3 (α : Type) := Pr (T2 α)
abbrev T4 (α : Type) := Pr (T3 α)
abbrev T5 (α : Type) := Pr (T4 α)
abbrev T6 (α : Type) := Pr (T5 α)
abbrev T7 (α : Type) := Pr (T6 α)
abbrev T8 (α : Type) := Pr (T7 α)
abbrev T9 (α : Type) := Pr (T8 α)
abbrev T10 (α : Type) := Pr (T9 α)
abbrev T11 (α : Type) := Pr (T10 α)
abbrev T12 (α : Type) := Pr (T11 α)
abbrev T13 (α : Type) := Pr (T12 α)
def tmk0 {α : Type} (x : α) : T0 α := x
def tmk1 {α : Type} (x : α) : T1 α := Pr.mk (tmk0 x) (tmk0 x)
def tmk2 {α : Type} (x : α) : T2 α := Pr.mk (tmk1 x) (tmk1 x)
def tmk3 {α : Type} (x : α) : T3 α := Pr.mk (tmk2 x) (tmk2 x)
def tmk4 {α : Type} (x : α) : T4 α := Pr.mk (tmk3 x) (tmk3 x)
def tmk5 {α : Type} (x : α) : T5 α := Pr.mk (tmk4 x) (tmk4 x)
def tmk6 {α : Type} (x : α) : T6 α := Pr.mk (tmk5 x) (tmk5 x)
def tmk7 {α : Type} (x : α) : T7 α := Pr.mk (tmk6 x) (tmk6 x)
def tmk8 {α : Type} (x : α) : T8 α := Pr.mk (tmk7 x) (tmk7 x)
def tmk9 {α : Type} (x : α) : T9 α := Pr.mk (tmk8 x) (tmk8 x)
def tmk10 {α : Type} (x : α) : T10 α := Pr.mk (tmk9 x) (tmk9 x)
def tmk11 {α : Type} (x : α) : T11 α := Pr.mk (tmk10 x) (tmk10 x)
def tmk12 {α : Type} (x : α) : T12 α := Pr.mk (tmk11 x) (tmk11 x)
def tmk13 {α : Type} (x : α) : T13 α := Pr.mk (tmk12 x) (tmk12 x)
def tget0 {α : Type} (t : T0 α) (_k : Nat) : α := t
def tget1 {α : Type} (t : T1 α) (k : Nat) : α := match Nat.beq (Nat.land k 1) 0 with
  | true => tget0 t.a k
  | false => tget0 t.b k
def tget2 {α : Type} (t : T2 α) (k : Nat) : α := match Nat.beq (Nat.land k 2) 0 with
  | true => tget1 t.a k
  | false => tget1 t.b k
def tget3 {α : Type} (t : T3 α) (k : Nat) : α := match Nat.beq (Nat.land k 4) 0 with
  | true => tget2 t.a k
  | false => tget2 t.b k
def tget4 {α : Type} (t : T4 α) (k : Nat) : α := match Nat.beq (Nat.land k 8) 0 with
  | true => tget3 t.a k
  | false => tget3 t.b k
def tget5 {α : Type} (t : T5 α) (k : Nat) : α := match Nat.beq (Nat.land k 16) 0 with
  | true => tget4 t.a k
  | false => tget4 t.b k
def tget6 {α : Type} (t : T6 α) (k : Nat) : α := match Nat.beq (Nat.land k 32) 0 with
  | true => tget5 t.a k
  | false => tget5 t.b k
def tget7 {α : Type} (t : T7 α) (k : Nat) : α := match Nat.beq (Nat.land k 64) 0 with
  | true => tget6 t.a k
  | false => tget6 t.b k
def tget8 {α : Type} (t : T8 α) (k : Nat) : α := match Nat.beq (Nat.land k 128) 0 with
  | true => tget7 t.a k
  | false => tget7 t.b k
def tget9 {α : Type} (t : T9 α) (k : Nat) : α := match Nat.beq (Nat.land k 256) 0 with
  | true => tget8 t.a k
  | false => tget8 t.b k
def tget10 {α : Type} (t : T10 α) (k : Nat) : α := match Nat.beq (Nat.land k 512) 0 with
  | true => tget9 t.a k
  | false => tget9 t.b k
def tget11 {α : Type} (t : T11 α) (k : Nat) : α := match Nat.beq (Nat.land k 1024) 0 with
  | true => tget10 t.a k
  | false => tget10 t.b k
def tget12 {α : Type} (t : T12 α) (k : Nat) : α := match Nat.beq (Nat.land k 2048) 0 with
  | true => tget11 t.a k
  | false => tget11 t.b k
def tget13 {α : Type} (t : T13 α) (k : Nat) : α := match Nat.beq (Nat.land k 4096) 0 with
  | true => tget12 t.a k
  | false => tget12 t.b k
def tset0.{u} {α : Type} {β : Sort u} (_t : T0 α) (_k : Nat) (v : α) (K : T0 α → β) : β := K v
def tset1.{u} {α : Type} {β : Sort u} (t : T1 α) (k : Nat) (v : α) (K : T1 α → β) : β := match t with
  | ⟨a, b⟩ => match Nat.beq (Nat.land k 1) 0 with
    | true => tset0 a k v fun x => K ⟨x, b⟩
    | false => tset0 b k v fun x => K ⟨a, x⟩
def tset2.{u} {α : Type} {β : Sort u} (t : T2 α) (k : Nat) (v : α) (K : T2 α → β) : β := match t with
  | ⟨a, b⟩ => match Nat.beq (Nat.land k 2) 0 with
    | true => tset1 a k v fun x => K ⟨x, b⟩
    | false => tset1 b k v fun x => K ⟨a, x⟩
def tset3.{u} {α : Type} {β : Sort u} (t : T3 α) (k : Nat) (v : α) (K : T3 α → β) : β := match t with
  | ⟨a, b⟩ => match Nat.beq (Nat.land k 4) 0 with
    | true => tset2 a k v fun x => K ⟨x, b⟩
    | false => tset2 b k v fun x => K ⟨a, x⟩
def tset4.{u} {α : Type} {β : Sort u} (t : T4 α) (k : Nat) (v : α) (K : T4 α → β) : β := match t with
  | ⟨a, b⟩ => match Nat.beq (Nat.land k 8) 0 with
    | true => tset3 a k v fun x => K ⟨x, b⟩
    | false => tset3 b k v fun x => K ⟨a, x⟩
def tset5.{u} {α : Type} {β : Sort u} (t : T5 α) (k : Nat) (v : α) (K : T5 α → β) : β := match t with
  | ⟨a, b⟩ => match Nat.beq (Nat.land k 16) 0 with
    | true => tset4 a k v fun x => K ⟨x, b⟩
    | false => tset4 b k v fun x => K ⟨a, x⟩
def tset6.{u} {α : Type} {β : Sort u} (t : T6 α) (k : Nat) (v : α) (K : T6 α → β) : β := match t with
  | ⟨a, b⟩ => match Nat.beq (Nat.land k 32) 0 with
    | true => tset5 a k v fun x => K ⟨x, b⟩
    | false => tset5 b k v fun x => K ⟨a, x⟩
def tset7.{u} {α : Type} {β : Sort u} (t : T7 α) (k : Nat) (v : α) (K : T7 α → β) : β := match t with
  | ⟨a, b⟩ => match Nat.beq (Nat.land k 64) 0 with
    | true => tset6 a k v fun x => K ⟨x, b⟩
    | false => tset6 b k v fun x => K ⟨a, x⟩
def tset8.{u} {α : Type} {β : Sort u} (t : T8 α) (k : Nat) (v : α) (K : T8 α → β) : β := match t with
  | ⟨a, b⟩ => match Nat.beq (Nat.land k 128) 0 with
    | true => tset7 a k v fun x => K ⟨x, b⟩
    | false => tset7 b k v fun x => K ⟨a, x⟩
def tset9.{u} {α : Type} {β : Sort u} (t : T9 α) (k : Nat) (v : α) (K : T9 α → β) : β := match t with
  | ⟨a, b⟩ => match Nat.beq (Nat.land k 256) 0 with
    | true => tset8 a k v fun x => K ⟨x, b⟩
    | false => tset8 b k v fun x => K ⟨a, x⟩
def tset10.{u} {α : Type} {β : Sort u} (t : T10 α) (k : Nat) (v : α) (K : T10 α → β) : β := match t with
  | ⟨a, b⟩ => match Nat.beq (Nat.land k 512) 0 with
    | true => tset9 a k v fun x => K ⟨x, b⟩
    | false => tset9 b k v fun x => K ⟨a, x⟩
def tset11.{u} {α : Type} {β : Sort u} (t : T11 α) (k : Nat) (v : α) (K : T11 α → β) : β := match t with
  | ⟨a, b⟩ => match Nat.beq (Nat.land k 1024) 0 with
    | true => tset10 a k v fun x => K ⟨x, b⟩
    | false => tset10 b k v fun x => K ⟨a, x⟩
def tset12.{u} {α : Type} {β : Sort u} (t : T12 α) (k : Nat) (v : α) (K : T12 α → β) : β := match t with
  | ⟨a, b⟩ => match Nat.beq (Nat.land k 2048) 0 with
    | true => tset11 a k v fun x => K ⟨x, b⟩
    | false => tset11 b k v fun x => K ⟨a, x⟩
def tset13.{u} {α : Type} {β : Sort u} (t : T13 α) (k : Nat) (v : α) (K : T13 α → β) : β := match t with
  | ⟨a, b⟩ => match Nat.beq (Nat.land k 4096) 0 with
    | true => tset12 a k v fun x => K ⟨x, b⟩
    | false => tset12 b k v fun x => K ⟨a, x⟩
def forceN.{u} {β : Sort u} (n : Nat) (K : Nat → β) : β := match n with
  | 0 => K 0
  | m + 1 => K (m + 1)
def forceI.{u} {β : Sort u} (i : Int) (K : Int → β) : β := match i with
  | .ofNat n => forceN n fun n => K (.ofNat n)
  | .negSucc n => forceN n fun n => K (.negSucc n)
def forceB.{u} {β : Sort u} (b : Bool) (K : Bool → β) : β := match b with
  | true => K true
  | false => K false
def forceL.{u} {α : Type} {β : Sort u} (l : List α) (K : List α → β) : β := match l with
  | [] => K []
  | x :: l => forceL l fun l => K (x :: l)
def forceV.{u} {β : Sort u} (v : Value) (K : Value → β) : β := match v with
  | .bool b => forceB b fun b => K (.bool b)
  | .int k i => forceI i fun i => K (.int k i)
  | .agg ⟨l⟩ => forceL l fun l => K (.agg ⟨l⟩)
  | .tuple ⟨l⟩ => forceL l fun l => K (.tuple ⟨l⟩)
  | v => K v
end Go.Proofs.YtpijenlmfmknnaaGreatDoor

/- A reckoner of closed calls: it runs a function's code over a small store of numbered blocks, whatever the order that a region draws and whatever the capacity that 'append' draws. Its soundness stands in other texts. No program. -/
namespace Go.Proofs.YtpijenlmfmknnaaGreatDoor
set_option linter.unusedVariables false

/-- The store: block k's object, the next number, which blocks were read, which were written. -/
structure Hp where
  h : T13 (Option Obj)
  n : Nat
  rd : Nat
  wr : Nat

abbrev TT := T8 Value

/-- A value that bears no address. -/
def plain0 : Value → Bool
  | .bool _ | .int _ _ | .string _ | .pointer none | .map none | .nilFunc | .nilIface => true
  | .slice none l c => Nat.beq l 0 && Nat.beq c 0
  | _ => false
def plainL : List Value → Bool
  | [] => true
  | v :: l => plain0 v && plainL l
def plain1 : Value → Bool
  | .agg ⟨l⟩ => plainL l
  | v => plain0 v
def plainM : List Value → Bool
  | [] => true
  | v :: l => plain1 v && plainM l
def plainV : Value → Bool
  | .tuple ⟨l⟩ => plainM l
  | v => plain1 v

section
variable (P : Program)

/-- What a piece of the model that touches no memory tells. -/
def prun {α : Type} : Sem α → Option α
  | .pure a => some a
  | .program k => prun (k P)
  | .mark _ k => prun k
  | _ => none

def szOf (t : TypeId) : Option Nat := (P.info? t).map (·.size)
def aggOf (t : TypeId) : Option Bool := match P.underlying t with
  | some (.struct _) | some (.array _ _) => some true
  | some _ => some false
  | none => none
def zeroOf (t : TypeId) : Option (List Value) := match (P.info? t).bind (·.zero) with
  | some v => if plainV v then some v.cells.toList else none
  | none => none
def elemOfS (t : TypeId) : Option TypeId := match P.underlying t with
  | some (.slice e) => some e
  | _ => none
def fieldOf (s : TypeId) (f : Nat) : Option (Nat × TypeId) := match P.underlying s with
  | some (.struct fs) => match (fs[f]? : Option Field) with
    | some fd => some (fd.offset, fd.type)
    | none => none
  | _ => none
def allSz : List Field → Option (List (Nat × Nat))
  | [] => some []
  | f :: fs => match szOf P f.type, allSz fs with
    | some n, some l => some ((f.offset, n) :: l)
    | _, _ => none

/-- A piece of the reckoner: it goes on with what it tells, and the store. -/
structure M (α : Type) where
  run : ∀ {β : Type}, Hp → (α → Hp → Option β) → Option β
def mpure {α : Type} (a : α) : M α := ⟨fun s K => K a s⟩
def mfail {α : Type} : M α := ⟨fun _ _ => none⟩
def mbind {α γ : Type} (F : M α) (G : α → M γ) : M γ := ⟨fun s K => F.run s fun a s => (G a).run s K⟩

def aev (t : TT) : Operand → Option Value
  | .tmp k => match Nat.ble k 255 with
    | true => some (tget8 t k)
    | false => none
  | .const v => match plainV v with
    | true => some v
    | false => none
  | .global g => match Nat.ble g 15 with
    | true => some (.pointer (some ⟨g, 0, none⟩))
    | false => none
  | .func f => some (.func (.func f) #[] #[])
def maev (x : Option Value) : M Value := match x with
  | some v => mpure v
  | none => mfail
def aevs (e : Operand → Option Value) : List Operand → M (List Value)
  | [] => mpure []
  | x :: l => match e x with
    | some v => mbind (aevs e l) fun vs => mpure (v :: vs)
    | none => mfail

/-- Looks at block b. -/
def mget (b : Nat) : M Obj := ⟨fun s K => match s with
  | ⟨h, n, rd, wr⟩ => match Nat.ble b 8191 with
    | true => match tget13 h b with
      | some o => forceN (Nat.lor rd (Nat.shiftLeft 1 b)) fun rd => K o ⟨h, n, rd, wr⟩
      | none => none
    | false => none⟩
/-- Turns block b, which is one of the call's own. -/
def mset (b : Nat) (o : Option Obj) : M Unit := ⟨fun s K => match s with
  | ⟨h, n, rd, wr⟩ => match Nat.ble b 8191 && Nat.ble 16 b with
    | true => tset13 h b o fun h => forceN (Nat.lor wr (Nat.shiftLeft 1 b)) fun wr => K () ⟨h, n, rd, wr⟩
    | false => none⟩
/-- A new block. -/
def mnew (o : Obj) : M Nat := ⟨fun s K => match s with
  | ⟨h, n, rd, wr⟩ => match Nat.ble n 8191 && Nat.ble 16 n with
    | true => tset13 h n (some o) fun h => forceN (Nat.lor wr (Nat.shiftLeft 1 n)) fun wr => forceN (n + 1) fun m => K n ⟨h, m, rd, wr⟩
    | false => none⟩

/-- n cells from off on. -/
def cut (off n : Nat) (l : List Value) : M (List Value) :=
  match Nat.ble (off + n) l.length with
  | true => forceL ((l.drop off).take n) mpure
  | false => mfail
def paste (off : Nat) (vs l : List Value) : M (List Value) :=
  match Nat.ble (off + vs.length) l.length with
  | true => forceL (l.take off ++ (vs ++ l.drop (off + vs.length))) mpure
  | false => mfail
def cellsO : Obj → M (List Value × TypeId × (Nat × Nat))
  | .cells ⟨l⟩ t f => mpure (l, t, f)
  | _ => mfail
def mcells (b : Nat) : M (List Value × TypeId × (Nat × Nat)) := mbind (mget b) cellsO
def mload (a : Addr) (n : Nat) : M (List Value) := match a with
  | ⟨b, off, none⟩ => mbind (mcells b) fun c => cut off n c.1
  | _ => mfail
def oneV : Value → Bool
  | .agg _ | .tuple _ | .chan _ => false
  | _ => true
def mstore (a : Addr) (vs : List Value) : M Unit := match a with
  | ⟨b, off, none⟩ => mbind (mcells b) fun c => match vs.all oneV with
    | true => mbind (paste off vs c.1) fun l => mset b (some (.cells ⟨l⟩ c.2.1 c.2.2))
    | false => mfail
  | _ => mfail
def mrow (t : TypeId) (l : List Value) (fl : Nat × Nat) : M Nat := match l.all oneV with
  | true => mnew (.cells ⟨l⟩ t fl)
  | false => mfail
def addA (a : Addr) (n : Nat) : M Addr := match a with
  | ⟨b, off, none⟩ => forceN (off + n) fun off => mpure ⟨b, off, none⟩
  | _ => mfail
def cellsK : Value → Option (List Value)
  | .agg ⟨l⟩ => some l
  | .chan _ => none
  | v => some [v]
/-- A part of a struct or an array. -/
def partK (t : TypeId) (l : List Value) (off : Nat) : M Value := match aggOf P t, szOf P t with
  | some true, some n => mbind (cut off n l) fun vs => mpure (.agg ⟨vs⟩)
  | some false, some _ => maev l[off]?
  | _, _ => mfail
def fillK (place : Nat → Option (Nat × Nat)) : List Value → List (Nat × Value) → M (List Value)
  | cells, [] => mpure cells
  | cells, (i, v) :: rest => match place i with
    | some (off, size) => match cellsK v with
      | some vs => match Nat.beq vs.length size with
        | true => mbind (paste off vs cells) fun cells => fillK place cells rest
        | false => mfail
      | none => mfail
    | none => mfail
def reps (l : List Value) : Nat → List Value
  | 0 => []
  | n + 1 => l ++ reps l n
/-- A nil and another one, at a type that has it. -/
def nilPair : TypeDesc → Value → Value → Bool
  | .pointer _, .pointer (some _), .pointer none | .pointer _, .pointer none, .pointer (some _) => true
  | .slice _, .slice (some _) _ _, .slice none 0 0 | .slice _, .slice none 0 0, .slice (some _) _ _ => true
  | .func _ _ _, .func _ _ _, .nilFunc | .func _ _ _, .nilFunc, .func _ _ _ => true
  | .interface _, .iface _ _, .nilIface | .interface _, .nilIface, .iface _ _ => true
  | .map _ _, .map (some _), .map none | .map _ _, .map none, .map (some _) => true
  | _, _, _ => false
def bytesOf : List Value → Option (List UInt8)
  | [] => some []
  | .int .u8 n :: l => match bytesOf l with
    | some bs => some (UInt8.ofNat n.toNat :: bs)
    | none => none
  | _ => none
def isU8 (t : TypeId) : Bool := match P.underlying t with
  | some (.int .u8) => true
  | _ => false
/-- What a piece of the model without memory tells. -/
def mprun (x : Sem Value) : M Value := match prun P x with
  | some v => match plainV v with
    | true => forceV v mpure
    | false => mfail
  | none => mfail
/-- Elements of a slice or a string that is appended or copied: n of them. -/
def firstK (size n : Nat) (x : Value) : M (List Value) := match x with
  | .slice (some a) _ _ => match Nat.beq n 0 with
    | true => mpure []
    | false => mload a (n * size)
  | .slice none _ _ => match Nat.beq n 0 with
    | true => mpure []
    | false => mfail
  | .string b => forceL ((b.data.toList.take n).map fun x => Value.int .u8 x.toNat) mpure
  | _ => mfail
def lenK : Value → Option Nat
  | .slice _ n _ => some n
  | .string s => some s.size
  | _ => none
def sliceV (b off n c : Nat) : Value := .slice (some ⟨b, off, none⟩) n c
def grownK (el : TypeId) (z off len need : Nat) (l new : List Value) : M Value :=
  mbind (cut off (len * z) l) fun old => forceL (old ++ new) fun l => mbind (mrow el l (z, 1)) fun id => mpure (sliceV id 0 need need)
def appNil (el : TypeId) (z n : Nat) (new : List Value) : M Value := match Nat.beq n 0 with
  | true => mpure (.slice none 0 0)
  | false => match Nat.ble n 4096 with
    | true => mbind (mrow el new (z, 1)) fun id => mpure (sliceV id 0 n n)
    | false => mfail
def appIn (z b off len n need cap : Nat) (new : List Value) : M Value := match Nat.beq n 0 with
  | true => mpure (sliceV b off need cap)
  | false => mbind (mstore ⟨b, off + len * z, none⟩ new) fun _ => mpure (sliceV b off need cap)
def appOut (el : TypeId) (z b off len need cap : Nat) (new : List Value) : M Value := match Nat.ble need 4096 with
  | false => mfail
  | true => mbind (mcells b) fun c => match Nat.beq c.2.2.1 0 || !(Nat.beq (off + cap * c.2.2.1) c.1.length) with
    | true => grownK el z off len need c.1 new
    | false => match Nat.beq c.2.2.1 z with
      | true => mbind (mset b none) fun _ => grownK el z off len need c.1 new
      | false => mfail
def appAt (el : TypeId) (z b off len cap n : Nat) (new : List Value) : M Value := forceN (len + n) fun need => match Nat.ble need cap with
  | true => appIn z b off len n need cap new
  | false => appOut el z b off len need cap new
def appGo (el : TypeId) (z : Nat) (x : Value) (n : Nat) (new : List Value) : M Value := match Nat.beq new.length (n * z) with
  | false => mfail
  | true => match x with
    | .slice none 0 0 => appNil el z n new
    | .slice (some ⟨b, off, none⟩) len cap => appAt el z b off len cap n new
    | _ => mfail
def intT (t : Option TypeId) : Option Bool := match t with
  | some t => (match P.underlying t with
    | some (.int _) => some true
    | some _ => some false
    | none => none)
  | none => some false
/-- The elements' size and zero of a slice's type that is appended to. -/
def appT (t : TypeId) : Option (TypeId × Nat × List Value) := match elemOfS P t with
  | none => none
  | some el => match szOf P el, (P.info? el).map (·.bytes), zeroOf P el with
    | some (size + 1), some bytes, some zero => match Nat.ble bytes 4096 && Nat.beq zero.length (size + 1) with
      | true => some (el, size + 1, zero)
      | false => none
    | _, _, _ => none
def appendK (at0 : TypeId) (at1 : Option TypeId) (x y : Value) : M Value :=
  match appT P at0 with
  | none => mfail
  | some (el, z, zero) => match intT P at1 with
    | none => mfail
    | some true => match y with
      | .int _ (.ofNat n) => match Nat.ble n 4096 with
        | true => forceL (reps zero n) fun new => appGo el z x n new
        | false => mfail
      | _ => mfail
    | some false => match lenK y with
      | some n => mbind (firstK z n y) fun new => appGo el z x n new
      | none => mfail

def boundK (x : Option Value) (dflt top : Nat) : Option Nat := match x with
  | none => some dflt
  | some (.int _ (.ofNat i)) => match Nat.ble i top with
    | true => some i
    | false => none
  | _ => none
/-- A slice's three bounds. -/
def bounds3 (len cap : Nat) (lo hi mx : Option Value) : Option (Nat × Nat × Nat) := match boundK mx cap cap with
  | some m => match boundK hi len m with
    | some h => match boundK lo 0 h with
      | some l => match mx.isNone || hi.isSome with
        | true => some (l, h, m)
        | false => none
      | none => none
    | none => none
  | none => none
def sliceArr (n size b off : Nat) (lo hi mx : Option Value) : M Value := mbind (mcells b) fun c => match Nat.beq c.2.2.1 0 && Nat.ble n 4096, bounds3 n n lo hi mx with
  | true, some (l, h, m) => forceN (if Nat.beq m l then off else off + l * size) fun off => forceN (h - l) fun n => forceN (m - l) fun c => mpure (sliceV b off n c)
  | _, _ => mfail
def sliceSl (size b off len cap : Nat) (lo hi mx : Option Value) : M Value := mbind (mcells b) fun c => match Nat.beq c.2.2.1 0 || Nat.beq c.2.2.1 size, bounds3 len cap lo hi mx with
  | true, some (l, h, m) => match mx.isNone || (Nat.beq c.2.2.1 0 || !(Nat.beq (off + m * size) c.1.length)) with
    | true => forceN (off + l * size) fun off => forceN (h - l) fun n => forceN (m - l) fun c => mpure (sliceV b off n c)
    | false => mpure (.chan none)
  | _, _ => mfail
def slicePl (t : TypeId) (x : Value) (lo hi mx : Option Value) : M Value := match plainV x && (lo.all plainV && (hi.all plainV && mx.all plainV)) with
  | true => mprun P (Instr.sliceAt t x lo hi mx)
  | false => mfail
def sliceK (t : TypeId) (x : Value) (lo hi mx : Option Value) : M Value :=
  match P.underlying t with
  | some (.array n el) => match x, szOf P el with
    | .pointer (some ⟨b, off, none⟩), some size => sliceArr n size b off lo hi mx
    | _, _ => mfail
  | some (.slice el) => match x, szOf P el with
    | .slice (some ⟨b, off, none⟩) len cap, some size => sliceSl size b off len cap lo hi mx
    | .slice none l c, some _ => slicePl P t (.slice none l c) lo hi mx
    | _, _ => mfail
  | some .string => slicePl P t x lo hi mx
  | _ => mfail
def mopt (e : Operand → Option Value) (y : Option Operand) : M (Option Value) := match y with
  | none => mpure none
  | some y => match e y with
    | some v => mpure (some v)
    | none => mfail

/-- Whatever runs a function. -/
abbrev Callee' := FuncId → List Value → Hp → Option (Value × Hp)
def mcall (C : Hp → Option (Value × Hp)) : M Value := ⟨fun s K => match C s with
  | some (v, s) => K v s
  | none => none⟩

abbrev En := Operand → Option Value
def unV : Value := .tuple #[]
def opMove (x : Operand) (e : En) : M Value := maev (e x)
def opPick (c a b : Operand) (e : En) : M Value := match e c with
  | some (.bool true) => maev (e a)
  | some (.bool false) => maev (e b)
  | _ => mfail
def ptrV (b off : Nat) : Value := .pointer (some ⟨b, off, none⟩)
def opAlloc (t : TypeId) : M Value := match zeroOf P t with
  | some z => mbind (mrow t z (0, 0)) fun id => mpure (ptrV id 0)
  | none => mfail
def opBox (t : TypeId) (x : Operand) (e : En) : M Value := match (e x).bind cellsK with
  | some vs => mbind (mrow t vs (0, 0)) fun id => mpure (ptrV id 0)
  | none => mfail
/-- Places and zero of a struct's or an array's parts. -/
def buildT (t : TypeId) : Option ((Nat → Option (Nat × Nat)) × List Value) := match P.underlying t, zeroOf P t with
  | some (.struct fs), some z => match allSz P fs.toList with
    | some pl => some ((pl[·]?), z)
    | none => none
  | some (.array _ el), some z => match szOf P el with
    | some n => some ((fun i => some (i * n, n)), z)
    | none => none
  | _, _ => none
def opBuild (t : TypeId) (parts : Array (Nat × Operand)) (e : En) : M Value := mbind (aevs e (parts.toList.map (·.2))) fun vs => match buildT P t with
  | some (pl, z) => mbind (fillK pl z ((parts.toList.map (·.1)).zip vs)) fun l => mpure (.agg ⟨l⟩)
  | none => mfail
def opBuildSlice (t : TypeId) (len : Nat) (parts : Array (Nat × Operand)) (e : En) : M Value := mbind (aevs e (parts.toList.map (·.2))) fun vs => match elemOfS P t with
  | some el => match szOf P el, zeroOf P el with
    | some n, some z => match (Nat.ble len 4096 && Nat.ble (len * n) 4096) && Nat.beq z.length n with
      | true => forceL (reps z len) fun cells => mbind (fillK (fun i => some (i * n, n)) cells ((parts.toList.map (·.1)).zip vs)) fun l => mbind (mrow el l (0, 0)) fun id => mpure (sliceV id 0 len len)
      | false => mfail
    | _, _ => mfail
  | none => mfail
def loadK (a : Addr) : Option Bool → Option Nat → M Value
  | some true, some n => mbind (mload a n) fun vs => mpure (.agg ⟨vs⟩)
  | some false, some _ => mbind (mload a 1) fun vs => maev vs.head?
  | _, _ => mfail
def opLoad (t : TypeId) (a : Operand) (e : En) : M Value := match e a with
  | some (.pointer (some a)) => loadK a (aggOf P t) (szOf P t)
  | _ => mfail
def opStore (t : TypeId) (a x : Operand) (e : En) : M Value := match e a, (e x).bind cellsK, szOf P t with
  | some (.pointer (some a)), some vs, some n => match Nat.beq vs.length n with
    | true => mbind (mstore a vs) fun _ => mpure unV
    | false => mfail
  | _, _, _ => mfail
def opNilCheck (x : Operand) (e : En) : M Value := match e x with
  | some (.pointer (some a)) => mpure (.pointer (some a))
  | some (.func (.func f) a b) => mpure (.func (.func f) a b)
  | some (.iface t v) => mpure (.iface t v)
  | _ => mfail
/-- Numbers that need no wrapping are left as they are. -/
def wrapK (k : IntKind) (n : Int) : M Int := match k, n with
  | .i64, .ofNat m => forceN m fun m => match Nat.ble m 4611686018427387904 with
    | true => mpure (.ofNat m)
    | false => forceI (IntKind.wrap .i64 (.ofNat m)) mpure
  | k, n => forceI (k.wrap n) mpure
def subNat (m n : Nat) : Int := match Nat.ble n m with
  | true => .ofNat (m - n)
  | false => .negSucc (n - m - 1)
def ltI : Int → Int → Bool
  | .ofNat m, .ofNat n => Nat.blt m n
  | .ofNat _, .negSucc _ => false
  | .negSucc _, .ofNat _ => true
  | .negSucc m, .negSucc n => Nat.blt n m
def eqI : Int → Int → Bool
  | .ofNat m, .ofNat n => Nat.beq m n
  | .negSucc m, .negSucc n => Nat.beq m n
  | _, _ => false
def addI : Int → Int → Int
  | .ofNat m, .ofNat n => .ofNat (m + n)
  | a, b => a + b
def subI : Int → Int → Int
  | .ofNat m, .ofNat n => subNat m n
  | a, b => a - b
def sameK : IntKind → IntKind → Bool
  | .i64, .i64 | .u8, .u8 | .i32, .i32 | .u32, .u32 | .u64, .u64 => true
  | _, _ => false
def nilV (op : BinOp) (d : Option TypeDesc) (a b : Value) : M Value := match op, d with
  | .eql, some d => (match nilPair d a b with
    | true => mpure (.bool false)
    | false => mfail)
  | .neq, some d => (match nilPair d a b with
    | true => mpure (.bool true)
    | false => mfail)
  | _, _ => mfail
def binV (op : BinOp) (t : TypeId) (x y : Operand) (a b : Value) : M Value := match plainV a && plainV b with
  | true => mprun P (do eqGuard op t x y a b; binOp op t a b)
  | false => nilV op (P.underlying t) a b
def cmpV (c : Int → Int → Bool) (op : BinOp) (t : TypeId) (x y : Operand) : Value → Value → M Value
  | .int k a, .int k' b => match sameK k k' with
    | true => forceB (c a b) fun b => mpure (.bool b)
    | false => mfail
  | a, b => binV P op t x y a b
def arithV (c : Int → Int → Int) (op : BinOp) (t : TypeId) (x y : Operand) : Value → Value → M Value
  | .int k a, .int k' b => match sameK k k' with
    | true => mbind (wrapK k (c a b)) fun n => mpure (.int k n)
    | false => mfail
  | a, b => binV P op t x y a b
def binD (op : BinOp) (t : TypeId) (x y : Operand) : Value → Value → M Value := match op with
  | .add => arithV P addI .add t x y
  | .sub => arithV P subI .sub t x y
  | .eql => cmpV P eqI .eql t x y
  | .neq => cmpV P (fun a b => !(eqI a b)) .neq t x y
  | .lss => cmpV P ltI .lss t x y
  | .leq => cmpV P (fun a b => !(ltI b a)) .leq t x y
  | .gtr => cmpV P (fun a b => ltI b a) .gtr t x y
  | .geq => cmpV P (fun a b => !(ltI a b)) .geq t x y
  | op => binV P op t x y
def opBin (op : BinOp) (t : TypeId) (x y : Operand) (e : En) : M Value := match e x, e y with
  | some a, some b => binD P op t x y a b
  | _, _ => mfail
def opUnOp (op : UnOp) (x : Operand) (e : En) : M Value := match e x with
  | some a => match plainV a with
    | true => mprun P (Op.unary op a)
    | false => mfail
  | none => mfail
def convStr (src dst : TypeId) (b : ByteArray) : M Value := match elemOfS P dst with
  | some el => match isU8 P el && (P.underlying src).isSome && Nat.ble b.size 4096 with
    | true => forceL (b.data.toList.map fun x => Value.int .u8 x.toNat) fun l => mbind (mrow el l (1, 1)) fun id => forceN l.length fun n => mpure (sliceV id 0 n n)
    | false => mfail
  | none => mprun P (convert src dst (.string b))
def strOf (vs : List Value) : M Value := match bytesOf vs with
  | some bs => forceL bs fun bs => mpure (.string ⟨⟨bs⟩⟩)
  | none => mfail
def convSl (src dst : TypeId) (a : Addr) (n c : Nat) : M Value := match elemOfS P src, P.underlying dst with
  | some el, some .string => match isU8 P el with
    | true => (match Nat.beq n 0 with
      | true => mpure (.string ⟨⟨[]⟩⟩)
      | false => mbind (mload a n) strOf)
    | false => mfail
  | some _, some (.slice el') => match Nat.beq src dst && isU8 P el' && Nat.blt 0 c, a with
    | true, ⟨b, off, none⟩ => match Nat.ble 16 b with
      | true => mbind (mcells b) fun cc => (match Nat.beq cc.2.1 121 with
        | true => mfail
        | false => mpure (sliceV b off n c))
      | false => mfail
    | _, _ => mfail
  | _, _ => mfail
def convPtr (src dst : TypeId) (b off : Nat) : M Value := match P.underlying src, P.underlying dst with
  | some (.pointer t), some .unsafePointer => match szOf P t with
    | some (_ + 1) => mbind (mcells b) fun c => match Nat.blt off c.1.length with
      | true => mpure (ptrV b off)
      | false => mfail
    | _ => mfail
  | _, _ => mfail
def opConvert (src dst : TypeId) (x : Operand) (e : En) : M Value := match e x with
  | some (.string b) => convStr P src dst b
  | some (.slice (some a) n c) => convSl P src dst a n c
  | some (.pointer (some ⟨b, off, none⟩)) => convPtr P src dst b off
  | some v => match plainV v with
    | true => mprun P (convert src dst v)
    | false => mfail
  | none => mfail
def opMakeInterface (t : TypeId) (x : Operand) (e : En) : M Value := match P.underlying t with
  | some (.interface _) => mfail
  | some _ => mbind (maev (e x)) fun v => mpure (.iface t v)
  | none => mfail
def fnOk : Fn → Bool
  | .func _ => true
  | _ => false
def opMakeFunc (fn : Fn) (first captured : Array Operand) (e : En) : M Value := match fnOk fn with
  | true => mbind (aevs e first.toList) fun a => mbind (aevs e captured.toList) fun b => mpure (.func fn ⟨a⟩ ⟨b⟩)
  | false => mfail
def opMakeMap (r : Option Operand) : M Value := match r with
  | none => mbind (mnew (.map #[] 0)) fun id => mpure (.map (some id))
  | some _ => mfail
def opMakeSlice (t : TypeId) (l c : Operand) (e : En) : M Value := match e l, e c, elemOfS P t with
  | some (.int .i64 (.ofNat n)), some (.int .i64 (.ofNat m)), some el => match szOf P el, (P.info? el).map (·.bytes), zeroOf P el with
    | some size, some bytes, some z => match (Nat.ble n m && Nat.ble m 4096) && (Nat.ble bytes 4096 && Nat.beq z.length size) with
      | true => forceL (reps z m) fun l => mbind (mrow el l (0, 0)) fun id => mpure (sliceV id 0 n m)
      | false => mfail
    | _, _, _ => mfail
  | _, _, _ => mfail
def opSlice (t : TypeId) (x : Operand) (lo hi mx : Option Operand) (e : En) : M Value :=
  mbind (maev (e x)) fun x => mbind (mopt e lo) fun lo => mbind (mopt e hi) fun hi => mbind (mopt e mx) fun mx => sliceK P t x lo hi mx
/-- A field's offset, where it has cells. -/
def offOf (t : TypeId) (f : Nat) : Option Nat := match fieldOf P t f with
  | some (off, ft) => match szOf P ft with
    | some (_ + 1) => some off
    | _ => none
  | none => none
def ptrTo (a : Addr) (n : Nat) : M Value := mbind (addA a n) fun a => mpure (.pointer (some a))
def opFieldAddr (t : TypeId) (x : Operand) (f : Nat) (e : En) : M Value := match offOf P t f, e x with
  | some off, some (.pointer (some a)) => ptrTo a off
  | _, _ => mfail
def opField (t : TypeId) (x : Operand) (f : Nat) (e : En) : M Value := match fieldOf P t f, e x with
  | some (off, ft), some (.agg ⟨l⟩) => partK P ft l off
  | _, _ => mfail
def arrOf (t : TypeId) : Option (Nat × Nat × TypeId) := match P.underlying t with
  | some (.array n el) => match szOf P el with
    | some z => some (n, z, el)
    | none => none
  | _ => none
def opIndexAddr (t : TypeId) (x ix : Operand) (e : En) : M Value := match e x, e ix with
  | some (.pointer (some a)), some (.int _ (.ofNat i)) => match arrOf P t with
    | some (n, z, _) => match Nat.blt i n with
      | true => ptrTo a (i * z)
      | false => mfail
    | none => mfail
  | some (.slice (some a) n _), some (.int _ (.ofNat i)) => match (elemOfS P t).bind (szOf P), Nat.blt i n with
    | some z, true => ptrTo a (i * z)
    | _, _ => mfail
  | _, _ => mfail
def opIndex (t : TypeId) (x ix : Operand) (e : En) : M Value := match e x, e ix with
  | some (.string b), some (.int k i) => mprun P (Instr.index t (.string b) (.int k i))
  | some (.agg ⟨l⟩), some (.int _ (.ofNat i)) => match arrOf P t with
    | some (n, z, el) => match Nat.blt i n with
      | true => partK P el l (i * z)
      | false => mfail
    | none => mfail
  | _, _ => mfail
def foundV (ok : Bool) (v : Value) (b : Bool) : M Value := match plainV v, ok with
  | true, true => mpure (.tuple ⟨[v, .bool b]⟩)
  | true, false => mpure v
  | false, _ => mfail
def lookIn (t : TypeId) (k : Value) (ok : Bool) (o : Obj) : M Value := match o, P.underlying t with
  | .map es _, some (.map kt el) => match prun P (Instr.checkKey es.isEmpty 10000 kt k), prun P (Instr.findKey kt k es.toList) with
    | some _, some (some (_, v)) => foundV ok v true
    | some _, some none => match (P.info? el).bind (·.zero) with
      | some z => foundV ok z false
      | none => mfail
    | _, _ => mfail
  | _, _ => mfail
def opLookup (t : TypeId) (x ix : Operand) (ok : Bool) (e : En) : M Value := match e x, e ix with
  | some (.map (some r)), some k => match plainV k with
    | true => mbind (mget r) (lookIn P t k ok)
    | false => mfail
  | _, _ => mfail
def putIn (t : TypeId) (r : Nat) (k v : Value) (o : Obj) : M Value := match o, P.underlying t with
  | .map ⟨es⟩ c, some (.map kt _) => match prun P (Instr.checkKey false 10000 kt k), prun P (Instr.findKey kt k es) with
    | some _, some none => forceL (es ++ [{ key := k, val := v, born := c }]) fun es => forceN (c + 1) fun c => mbind (mset r (some (.map ⟨es⟩ c))) fun _ => mpure unV
    | _, _ => mfail
  | _, _ => mfail
def opMapUpdate (t : TypeId) (m k x : Operand) (e : En) : M Value := match e m, e k, e x with
  | some (.map (some r)), some k, some v => match plainV k && plainV v with
    | true => mbind (mget r) (putIn P t r k v)
    | false => mfail
  | _, _, _ => mfail
def assertV (t u : TypeId) (ok : Bool) (v : Value) : M Value := match Nat.beq u t, ok with
  | true, true => mpure (.tuple ⟨[v, .bool true]⟩)
  | true, false => mpure v
  | false, true => match (P.info? t).bind (·.zero) with
    | some z => match plainV z with
      | true => mpure (.tuple ⟨[z, .bool false]⟩)
      | false => mfail
    | none => mfail
  | false, false => mfail
def opTypeAssert (x : Operand) (t : TypeId) (ok : Bool) (e : En) : M Value := match P.underlying t with
  | some (.interface _) => mfail
  | some _ => (match e x with
    | some (.iface u v) => assertV P t u ok v
    | _ => mfail)
  | none => mfail
def opExtract (t : Operand) (i : Nat) (e : En) : M Value := match e t with
  | some (.tuple ⟨l⟩) => maev l[i]?
  | _ => mfail
def biLen (t : TypeId) (x : Value) : M Value := match P.underlying t, x with
  | some (.slice _), .slice _ n _ => mpure (.int .i64 (.ofNat n))
  | some (.array n _), _ => mpure (.int .i64 (.ofNat n))
  | some .string, .string b => forceN b.size fun n => mpure (.int .i64 (.ofNat n))
  | _, _ => mfail
def biCap (t : TypeId) (x : Value) : M Value := match P.underlying t, x with
  | some (.slice _), .slice none _ c => mpure (.int .i64 (.ofNat c))
  | some (.slice _), .slice (some ⟨b, off, none⟩) _ c => mbind (mcells b) fun d => match Nat.beq d.2.2.1 0 || !(Nat.beq (off + c * d.2.2.1) d.1.length) with
    | true => mpure (.int .i64 (.ofNat c))
    | false => mpure (.chan none)
  | _, _ => mfail
def biClear (t : TypeId) (x : Value) : M Value := match P.underlying t, x with
  | some (.slice el), .slice (some a) n _ => match Nat.beq n 0 with
    | true => mpure unV
    | false => match zeroOf P el with
      | some z => forceL (reps z n) fun l => mbind (mstore a l) fun _ => mpure unV
      | none => mfail
  | _, _ => mfail
def biCopy (t : TypeId) (x y : Value) : M Value := match (elemOfS P t).bind (szOf P), x, lenK y with
  | some z, .slice (some a) n _, some m => forceN (Nat.min m n) fun k => mbind (firstK z k y) fun vs => match Nat.beq k 0 with
    | true => mpure (.int .i64 0)
    | false => mbind (mstore a vs) fun _ => mpure (.int .i64 (.ofNat k))
  | _, _, _ => mfail
def biPl (vs : List Value) (x : Sem Value) : M Value := match vs.all plainV with
  | true => mprun P x
  | false => mfail
def biltin (ty : TypeId) (b : Builtin) (ts : List TypeId) (vs : List Value) : M Value := match b, ts, vs with
  | .len, t :: _, x :: _ => biLen P t x
  | .cap, t :: _, x :: _ => biCap P t x
  | .append, t :: ts, [x, y] => appendK P t ts.head? x y
  | .min, ts, vs => biPl P vs (Builtin.min_ ⟨ts⟩ ty ⟨vs⟩)
  | .max, ts, vs => biPl P vs (Builtin.max_ ⟨ts⟩ ty ⟨vs⟩)
  | .clear, t :: _, [x] => biClear P t x
  | .copy, t :: _, [x, y] => biCopy P t x y
  | _, _, _ => mfail
def opBuiltin (ty : TypeId) (b : Builtin) (args : Array Operand) (ts : Array TypeId) (e : En) : M Value := mbind (aevs e args.toList) fun vs => biltin P ty b ts.toList vs
/-- A function value's callee and arguments. -/
def calleeK (fv : Value) (args : List Value) : Option (FuncId × List Value) := match fv with
  | .func (.func f) ⟨a⟩ ⟨b⟩ => some (f, a ++ (args ++ b))
  | _ => none
def methodOf (t : TypeId) (name : String) : Option FuncId := match P.info? t with
  | some i => match i.methods.find? (·.name == name) with
    | some m => match m.path.isEmpty, m.func, P.underlying t with
      | true, some (_, false), some (.pointer _) => none
      | true, some (f, false), some _ => some f
      | _, _, _ => none
    | none => none
  | none => none
def opCallV (E : Callee') (f : Operand) (args : Array Operand) (e : En) : M Value := mbind (maev (e f)) fun fv => mbind (aevs e args.toList) fun vs => match calleeK fv vs with
  | some (g, vs) => forceL vs fun vs => mcall (E g vs)
  | none => mfail
def opCallI (E : Callee') (r : Operand) (name : String) (args : Array Operand) (e : En) : M Value := match e r with
  | some (.iface t v) => mbind (aevs e args.toList) fun vs => match methodOf P t name with
    | some g => mcall (E g (v :: vs))
    | none => mfail
  | _ => mfail
def deferV (fv : Value) (vs : List Value) : M Deferred := match fv with
  | .func (.func g) ⟨a⟩ ⟨b⟩ => forceL (a ++ vs) fun vs => mpure { target := .fn (.func g) ⟨b⟩, args := ⟨vs⟩ }
  | _ => mfail
def opDefer (f : Operand) (args : Array Operand) (e : En) : M Deferred := mbind (maev (e f)) fun fv => mbind (aevs e args.toList) fun vs => deferV fv vs

/-- How an operation is run: found once for each place of the text. -/
structure Dsp where
  f : Callee' → En → List Deferred → M (Value × List Deferred)
def pureD (F : En → M Value) : Dsp := ⟨fun _ e ds => mbind (F e) fun v => mpure (v, ds)⟩
def disp (o : Oper) : Dsp := match o.op with
  | .move x => pureD (opMove x)
  | .assign x => pureD (opMove x)
  | .pick c a b => pureD (opPick c a b)
  | .alloc t => pureD fun _ => opAlloc P t
  | .box t x => pureD (opBox t x)
  | .build t parts => pureD (opBuild P t parts)
  | .buildSlice t len parts => pureD (opBuildSlice P t len parts)
  | .load t a => pureD (opLoad P t a)
  | .store t a x => pureD (opStore P t a x)
  | .nilCheck x => pureD (opNilCheck x)
  | .binOp op t x y _ => pureD (opBin P op t x y)
  | .unOp op _ x => pureD (opUnOp P op x)
  | .convert src dst x => pureD (opConvert P src dst x)
  | .makeInterface t x => pureD (opMakeInterface P t x)
  | .makeFunc fn a b => pureD (opMakeFunc fn a b)
  | .makeMap _ r => pureD fun _ => opMakeMap r
  | .makeSlice t l c => pureD (opMakeSlice P t l c)
  | .slice t x lo hi mx => pureD (opSlice P t x lo hi mx)
  | .fieldAddr t x f => pureD (opFieldAddr P t x f)
  | .field t x f => pureD (opField P t x f)
  | .indexAddr t x ix => pureD (opIndexAddr P t x ix)
  | .index t x ix => pureD (opIndex P t x ix)
  | .lookup t x ix ok => pureD (opLookup P t x ix ok)
  | .mapUpdate t m k x => pureD (opMapUpdate P t m k x)
  | .insert t m k x => pureD (opMapUpdate P t m k x)
  | .typeAssert x _ t ok => pureD (opTypeAssert P x t ok)
  | .extract t i => pureD (opExtract t i)
  | .call { callee := .builtin b, args, argTypes } => pureD (opBuiltin P o.type b args argTypes)
  | .call { callee := .value f, args, argTypes := _ } => ⟨fun E e ds => mbind (opCallV E f args e) fun v => mpure (v, ds)⟩
  | .call { callee := .invoke r name, args, argTypes := _ } => ⟨fun E e ds => mbind (opCallI P E r name args e) fun v => mpure (v, ds)⟩
  | .defer { callee := .value f, args, argTypes := _ } => ⟨fun _ e ds => mbind (opDefer f args e) fun d => mpure (unV, d :: ds)⟩
  | _ => ⟨fun _ _ _ => mfail⟩

/-- Is the operation wanted? -/
def wantedK (ops : Array Oper) (t : TT) (o : Oper) : Option Bool := match o.guard with
  | none => some true
  | some (j, want) => match (ops[j]?).bind (·.dst) with
    | some d => match Nat.ble d 255, tget8 t d with
      | true, .bool b => some (b == want)
      | true, .chan none => none
      | true, _ => some false
      | false, _ => none
    | none => some false
def putK (N : Nat) (t : TT) (d : Option Tmp) (v : Value) : M TT := match d with
  | none => mpure t
  | some d => match Nat.blt d N with
    | true => tset8 t d v mpure
    | false => mfail
abbrev Ac := TT × List Deferred
def opK (E : Callee') (N : Nat) (ops : Array Oper) (o : Oper) (a : Ac) : M Ac := match a with
  | (t, ds) => match wantedK ops t o with
    | none => mfail
    | some false => mbind (putK N t o.dst unV) fun t => mpure (t, ds)
    | some true => (match disp P o with
      | ⟨f⟩ => mbind (f E (aev t) ds) fun x => match x with
        | (v, ds) => mbind (putK N t o.dst v) fun t => mpure (t, ds))
def opsK (E : Callee') (N : Nat) (ops : Array Oper) : List Oper → Ac → M Ac
  | [], a => mpure a
  | o :: l, a => mbind (opK P E N ops o a) fun a => opsK E N ops l a

def bitsOf (l : List Operand) : Nat := match l with
  | [] => 0
  | .tmp k :: l => Nat.lor (Nat.shiftLeft 1 k) (bitsOf l)
  | _ :: l => bitsOf l
def bitOf (d : Option Tmp) : Nat := match d with
  | some d => Nat.shiftLeft 1 d
  | none => 0
/-- Which temporaries an operation names. -/
def namesT (ops : Array Oper) (o : Oper) : Nat := Nat.lor (bitOf o.dst) (Nat.lor (bitsOf o.op.operands.toList) (match o.guard with
  | some (j, _) => bitOf ((ops[j]?).bind (·.dst))
  | none => 0))
/-- The marks of an operation that was run: what it wrote, what it touched, the temporary that it set, those that it names. -/
structure Trk where
  q : Nat
  a : Nat
  tw : Nat
  ta : Nat
def clash (x y : Trk) : Bool := !(Nat.beq (Nat.lor (Nat.lor (Nat.land x.q y.a) (Nat.land y.q x.a)) (Nat.lor (Nat.land x.tw y.ta) (Nat.land y.tw x.ta))) 0)
/-- Each of the earlier ones (the last first, its number k - 1) that clashes with x is known to come before it. -/
def apart (bef : Nat) (x : Trk) : Nat → List Trk → Bool
  | 0, _ => true
  | _, [] => true
  | k + 1, y :: l => (!(clash y x) || Nat.testBit bef k) && apart bef x k l
/-- A piece with its own marks. -/
def mtrk {α : Type} (F : M α) : M (α × Nat × Nat) := ⟨fun s K => match s with
  | ⟨h, n, rd, wr⟩ => F.run ⟨h, n, 0, 0⟩ fun a s => match s with
    | ⟨h, n, r, q⟩ => forceN (Nat.lor rd r) fun rd => forceN (Nat.lor wr q) fun wr => K (a, r, q) ⟨h, n, rd, wr⟩⟩
def drawK (E : Callee') (N : Nat) (ops : Array Oper) (ds : List Deferred) : List Oper → List Nat → Nat → List Trk → TT → M TT
  | [], _, _, _, t => mpure t
  | o :: l, bef, k, acc, t => mbind (mtrk (opK P E N ops o (t, ds))) fun x => match x with
    | ((t, ds'), r, q) =>
      let x : Trk := ⟨q, Nat.lor r q, bitOf o.dst, namesT ops o⟩
      match ds'.isEmpty && apart (bef.headD 0) x k acc with
      | true => forceN (k + 1) fun k => drawK E N ops ds l bef.tail k (x :: acc) t
      | false => mfail
def edgesOk (ops : Array Oper) : Bool := (List.range ops.size).all fun i => ((ops[i]?).map fun o => o.after.all fun e => !Region.binds .any e || decide (e.on < i)).getD true

abbrev Ea := Exit × TT × List Deferred
abbrev EvT := Code → Nat → Ac → M Ea
def cdDraw (E : Callee') (ops : Array Oper) (N : Nat) (a : Ac) : M Ea := match edgesOk ops, a with
  | true, (t, []) => mbind (drawK P E N ops [] ops.toList (Region.before ops).toList 0 [] t) fun t => mpure (.normal, t, [])
  | _, _ => mfail
def cdSeq (Ev : EvT) (b : Code) (N : Nat) (x : Ea) : M Ea := match x with
  | (.normal, t, ds) => Ev b N (t, ds)
  | x => mpure x
def cdCond (Ev : EvT) (c : Operand) (a b : Code) (N : Nat) (x : Ac) : M Ea := match aev x.1 c with
  | some (.bool true) => Ev a N x
  | some (.bool false) => Ev b N x
  | _ => mfail
def cdBlock (id : Nat) (x : Ea) : M Ea := match x with
  | (.exit id', a) => match Nat.beq id' id with
    | true => mpure (.normal, a)
    | false => mpure (.exit id', a)
  | x => mpure x
def cdScope (x : Ea) : M Ea := match x with
  | (.goto _, _) => mfail
  | x => mpure x

/-- Code: how it is run is found once for each place of the text. -/
structure Stp where
  f : EvT → Callee' → Nat → Ac → M Ea
def stp (c : Code) : Stp := match c with
  | .skip => ⟨fun _ _ _ a => mpure (.normal, a)⟩
  | .label _ => ⟨fun _ _ _ a => mpure (.normal, a)⟩
  | .region _ ops false => ⟨fun _ E N a => mbind (opsK P E N ops ops.toList a) fun a => mpure (.normal, a)⟩
  | .region _ ops true => ⟨fun _ E N a => cdDraw P E ops N a⟩
  | .seq x y => ⟨fun Ev _ N a => mbind (Ev x N a) (cdSeq Ev y N)⟩
  | .cond c x y => ⟨fun Ev _ N a => cdCond Ev c x y N a⟩
  | .block id c => ⟨fun Ev _ N a => mbind (Ev c N a) (cdBlock id)⟩
  | .loop c => ⟨fun Ev _ N a => mbind (Ev c N a) (cdSeq Ev (.loop c) N)⟩
  | .scope c => ⟨fun Ev _ N a => mbind (Ev c N a) cdScope⟩
  | .exit id => ⟨fun _ _ _ a => mpure (.exit id, a)⟩
  | .ret => ⟨fun _ _ _ a => mpure (.ret, a)⟩
  | _ => ⟨fun _ _ _ _ => mfail⟩
def evStep (Ev : EvT) (E : Callee') (c : Code) (N : Nat) (a : Ac) : M Ea := match stp P c with
  | ⟨f⟩ => f Ev E N a

/-- Results of a call. -/
def resK (t : TT) : List ResultVar → M (List Value)
  | [] => mpure []
  | .tmp k :: l => match Nat.ble k 255 with
    | true => mbind (resK t l) fun vs => mpure (tget8 t k :: vs)
    | false => mfail
  | .cell a ty :: l => match Nat.ble a 255, tget8 t a with
    | true, .pointer (some x) => mbind (loadK x (aggOf P ty) (szOf P ty)) fun v => mbind (resK t l) fun vs => mpure (v :: vs)
    | _, _ => mfail
def tupK (vs : List Value) : Value := match vs with
  | [v] => v
  | vs => .tuple ⟨vs⟩
def argsT : TT → Nat → List Value → M TT
  | t, _, [] => mpure t
  | t, k, v :: l => mbind (tset8 t k v mpure) fun t => forceN (k + 1) fun k => argsT t k l

/-- What a call without a body of its own, or by a contract, tells. -/
abbrev Hook := FuncId → List Value → Option (Hp → Option (Value × Hp))

/-- A deferred call: a body that defers nothing. -/
def leaveD (fn : Func) (x : Ea) : M Value := match x with
  | (.normal, t, []) => mbind (resK P t fn.results.toList) fun vs => mpure (tupK vs)
  | (.ret, t, []) => mbind (resK P t fn.results.toList) fun vs => mpure (tupK vs)
  | _ => mfail
def enterD (Ev : EvT) (fn : Func) (args : List Value) : M Value :=
  match fn.body, Nat.ble fn.ntmps 256 && Nat.ble args.length fn.ntmps with
  | some c, true => mbind (argsT (tmk8 unV) 0 args) fun t => mbind (Ev c fn.ntmps (t, [])) (leaveD P fn)
  | _, _ => mfail
def callD (X : Hook) (Ev : EvT) : Callee' := fun f args s => match X f args with
  | some _ => none
  | none => match P.funcs[f]? with
    | none => none
    | some fn => (enterD P Ev fn args).run s fun v s => some (v, s)
def defK (D : Hook) (E : Callee') (d : Deferred) : M Value := match d.target, d.args with
  | .fn (.func g) ⟨b⟩, ⟨a⟩ => forceL (a ++ b) fun vs => match D g vs with
    | some F => mcall F
    | none => mcall (E g vs)
  | _, _ => mfail
def defsK (D : Hook) (E : Callee') : List Deferred → M Unit
  | [] => mpure ()
  | d :: ds => mbind (defK D E d) fun _ => defsK D E ds
def leaveK (D : Hook) (E : Callee') (fn : Func) (x : Ea) : M Value := match x with
  | (.normal, t, ds) => mbind (defsK D E ds) fun _ => mbind (resK P t fn.results.toList) fun vs => mpure (tupK vs)
  | (.ret, t, ds) => mbind (defsK D E ds) fun _ => mbind (resK P t fn.results.toList) fun vs => mpure (tupK vs)
  | _ => mfail
def enterK (D : Hook) (Ev : EvT) (E : Callee') (fn : Func) (args : List Value) : M Value :=
  match fn.body, Nat.ble fn.ntmps 256 && Nat.ble args.length fn.ntmps with
  | some c, true => mbind (argsT (tmk8 unV) 0 args) fun t => mbind (Ev c fn.ntmps (t, [])) (leaveK P D E fn)
  | _, _ => mfail
/-- A call: its body, then what it deferred, then its results. -/
def callK (X D : Hook) (Ev : EvT) (E : Callee') (f : FuncId) (args : List Value) (s : Hp) : Option (Value × Hp) :=
  match X f args with
  | some F => F s
  | none => match P.funcs[f]? with
    | none => none
    | some fn => (enterK P D Ev E fn args).run s fun v s => some (v, s)

/-- Code and calls, to a depth. -/
def ev (X D : Hook) : Nat → EvT
  | 0 => fun _ _ _ => mfail
  | n + 1 => evStep P (ev X D n) (callK P X D (ev X D n) (callD P X (ev X D n)))
def call (X D : Hook) (n : Nat) : Callee' := callK P X D (ev P X D n) (callD P X (ev P X D n))
end
end Go.Proofs.YtpijenlmfmknnaaGreatDoor

/- The laws of the store of pairs and of the forcing words. No program. -/
namespace Go.Proofs.YtpijenlmfmknnaaGreatDoor
set_option linter.unusedVariables false

theorem bit_land (k i : Nat) : Nat.beq (Nat.land k (2 ^ i)) 0 = !k.testBit i := by
  have h : ∀ j, (Nat.land k (2 ^ i)).testBit j = (k.testBit j && decide (i = j)) := fun j => by
    show (k &&& 2 ^ i).testBit j = _
    rw [Nat.testBit_and, Nat.testBit_two_pow]
  cases hb : k.testBit i with
  | false =>
    have h0 : Nat.land k (2 ^ i) = 0 := by
      apply Nat.eq_of_testBit_eq
      intro j
      rw [h j, Nat.zero_testBit]
      by_cases e : i = j
      · subst e; rw [hb]; rfl
      · simp [e]
    rw [h0]; rfl
  | true =>
    have hi := h i
    rw [hb] at hi
    cases hz : Nat.beq (Nat.land k (2 ^ i)) 0 with
    | false => rfl
    | true =>
      rw [Nat.eq_of_beq_eq_true hz] at hi
      simp at hi
theorem mod_bits (k j m : Nat) : (k % 2 ^ m = j % 2 ^ m) ↔ ∀ b, b < m → k.testBit b = j.testBit b := by
  constructor
  · intro h b hb
    have := congrArg (fun x => Nat.testBit x b) h
    simpa [Nat.testBit_mod_two_pow, hb] using this
  · intro h
    apply Nat.eq_of_testBit_eq
    intro b
    rw [Nat.testBit_mod_two_pow, Nat.testBit_mod_two_pow]
    by_cases hb : b < m
    · rw [h b hb]
    · simp [hb]
theorem mod_bit (k j i : Nat) : (k % 2 ^ (i + 1) = j % 2 ^ (i + 1)) ↔ (k % 2 ^ i = j % 2 ^ i ∧ k.testBit i = j.testBit i) := by
  rw [mod_bits, mod_bits]
  constructor
  · exact fun h => ⟨fun b hb => h b (by omega), h i (by omega)⟩
  · intro h b hb
    by_cases e : b = i
    · subst e; exact h.2
    · exact h.1 b (by omega)
theorem bit_land' (k i n : Nat) (hn : n = 2 ^ i) : Nat.beq (Nat.land k n) 0 = !k.testBit i := by subst hn; exact bit_land k i

theorem tset0_eq.{u} {α : Type} {β : Sort u} (t : T0 α) (k : Nat) (v : α) (K : T0 α → β) : tset0 t k v K = K (tset0 t k v id) := rfl
theorem tget0_set {α : Type} (t : T0 α) (k j : Nat) (v : α) : tget0 (tset0 t k v id) j = if k % 2 ^ 0 = j % 2 ^ 0 then v else tget0 t j := by
  rw [if_pos (by simp [Nat.mod_one])]; rfl
theorem tget0_mk {α : Type} (x : α) (j : Nat) : tget0 (tmk0 x) j = x := rfl
theorem tset1_eq.{u} {α : Type} {β : Sort u} (t : T1 α) (k : Nat) (v : α) (K : T1 α → β) : tset1 t k v K = K (tset1 t k v id) := by
  obtain ⟨a, b⟩ := t
  unfold tset1
  cases Nat.beq (Nat.land k 1) 0
  · exact (tset0_eq b k v _).trans (congrArg K (tset0_eq b k v (fun x => (⟨a, x⟩ : T1 α))).symm)
  · exact (tset0_eq a k v _).trans (congrArg K (tset0_eq a k v (fun x => (⟨x, b⟩ : T1 α))).symm)
theorem tget1_set {α : Type} (t : T1 α) (k j : Nat) (v : α) : tget1 (tset1 t k v id) j = if k % 2 ^ 1 = j % 2 ^ 1 then v else tget1 t j := by
  obtain ⟨a, b⟩ := t
  have hm := mod_bit k j 0
  have hk := bit_land' k 0 1 rfl
  have hj := bit_land' j 0 1 rfl
  have h1 : tset1 ⟨a, b⟩ k v id = if k.testBit 0 then (⟨a, tset0 b k v id⟩ : T1 α) else ⟨tset0 a k v id, b⟩ := by
    unfold tset1
    simp only [hk]
    cases k.testBit 0
    · exact tset0_eq a k v _
    · exact tset0_eq b k v _
  have h2 : ∀ t : T1 α, tget1 t j = if j.testBit 0 then tget0 t.b j else tget0 t.a j := by
    intro t
    unfold tget1
    simp only [hj]
    cases j.testBit 0 <;> rfl
  rw [h1, h2, h2]
  have ga := tget0_set a k j v
  have gb := tget0_set b k j v
  by_cases hc : k % 2 ^ 0 = j % 2 ^ 0
  · rw [if_pos hc] at ga gb
    cases e1 : k.testBit 0 <;> cases e2 : j.testBit 0 <;> rw [e1, e2] at hm
    · rw [if_pos (show k % 2 ^ 1 = j % 2 ^ 1 from hm.2 ⟨hc, rfl⟩)]; exact ga
    · rw [if_neg (show ¬ (k % 2 ^ 1 = j % 2 ^ 1) from fun h => by cases (hm.1 h).2)]; rfl
    · rw [if_neg (show ¬ (k % 2 ^ 1 = j % 2 ^ 1) from fun h => by cases (hm.1 h).2)]; rfl
    · rw [if_pos (show k % 2 ^ 1 = j % 2 ^ 1 from hm.2 ⟨hc, rfl⟩)]; exact gb
  · rw [if_neg hc] at ga gb
    rw [if_neg (show ¬ (k % 2 ^ 1 = j % 2 ^ 1) from fun h => hc (hm.1 h).1)]
    cases k.testBit 0 <;> cases j.testBit 0
    · exact ga
    · rfl
    · rfl
    · exact gb
theorem tget1_mk {α : Type} (x : α) (j : Nat) : tget1 (tmk1 x) j = x := by
  simp only [tget1, tmk1]
  split <;> exact tget0_mk x j
theorem tset2_eq.{u} {α : Type} {β : Sort u} (t : T2 α) (k : Nat) (v : α) (K : T2 α → β) : tset2 t k v K = K (tset2 t k v id) := by
  obtain ⟨a, b⟩ := t
  unfold tset2
  cases Nat.beq (Nat.land k 2) 0
  · exact (tset1_eq b k v _).trans (congrArg K (tset1_eq b k v (fun x => (⟨a, x⟩ : T2 α))).symm)
  · exact (tset1_eq a k v _).trans (congrArg K (tset1_eq a k v (fun x => (⟨x, b⟩ : T2 α))).symm)
theorem tget2_set {α : Type} (t : T2 α) (k j : Nat) (v : α) : tget2 (tset2 t k v id) j = if k % 2 ^ 2 = j % 2 ^ 2 then v else tget2 t j := by
  obtain ⟨a, b⟩ := t
  have hm := mod_bit k j 1
  have hk := bit_land' k 1 2 rfl
  have hj := bit_land' j 1 2 rfl
  have h1 : tset2 ⟨a, b⟩ k v id = if k.testBit 1 then (⟨a, tset1 b k v id⟩ : T2 α) else ⟨tset1 a k v id, b⟩ := by
    unfold tset2
    simp only [hk]
    cases k.testBit 1
    · exact tset1_eq a k v _
    · exact tset1_eq b k v _
  have h2 : ∀ t : T2 α, tget2 t j = if j.testBit 1 then tget1 t.b j else tget1 t.a j := by
    intro t
    unfold tget2
    simp only [hj]
    cases j.testBit 1 <;> rfl
  rw [h1, h2, h2]
  have ga := tget1_set a k j v
  have gb := tget1_set b k j v
  by_cases hc : k % 2 ^ 1 = j % 2 ^ 1
  · rw [if_pos hc] at ga gb
    cases e1 : k.testBit 1 <;> cases e2 : j.testBit 1 <;> rw [e1, e2] at hm
    · rw [if_pos (show k % 2 ^ 2 = j % 2 ^ 2 from hm.2 ⟨hc, rfl⟩)]; exact ga
    · rw [if_neg (show ¬ (k % 2 ^ 2 = j % 2 ^ 2) from fun h => by cases (hm.1 h).2)]; rfl
    · rw [if_neg (show ¬ (k % 2 ^ 2 = j % 2 ^ 2) from fun h => by cases (hm.1 h).2)]; rfl
    · rw [if_pos (show k % 2 ^ 2 = j % 2 ^ 2 from hm.2 ⟨hc, rfl⟩)]; exact gb
  · rw [if_neg hc] at ga gb
    rw [if_neg (show ¬ (k % 2 ^ 2 = j % 2 ^ 2) from fun h => hc (hm.1 h).1)]
    cases k.testBit 1 <;> cases j.testBit 1
    · exact ga
    · rfl
    · rfl
    · exact gb
theorem tget2_mk {α : Type} (x : α) (j : Nat) : tget2 (tmk2 x) j = x := by
  simp only [tget2, tmk2]
  split <;> exact tget1_mk x j
theorem tset3_eq.{u} {α : Type} {β : Sort u} (t : T3 α) (k : Nat) (v : α) (K : T3 α → β) : tset3 t k v K = K (tset3 t k v id) := by
  obtain ⟨a, b⟩ := t
  unfold tset3
  cases Nat.beq (Nat.land k 4) 0
  · exact (tset2_eq b k v _).trans (congrArg K (tset2_eq b k v (fun x => (⟨a, x⟩ : T3 α))).symm)
  · exact (tset2_eq a k v _).trans (congrArg K (tset2_eq a k v (fun x => (⟨x, b⟩ : T3 α))).symm)
theorem tget3_set {α : Type} (t : T3 α) (k j : Nat) (v : α) : tget3 (tset3 t k v id) j = if k % 2 ^ 3 = j % 2 ^ 3 then v else tget3 t j := by
  obtain ⟨a, b⟩ := t
  have hm := mod_bit k j 2
  have hk := bit_land' k 2 4 rfl
  have hj := bit_land' j 2 4 rfl
  have h1 : tset3 ⟨a, b⟩ k v id = if k.testBit 2 then (⟨a, tset2 b k v id⟩ : T3 α) else ⟨tset2 a k v id, b⟩ := by
    unfold tset3
    simp only [hk]
    cases k.testBit 2
    · exact tset2_eq a k v _
    · exact tset2_eq b k v _
  have h2 : ∀ t : T3 α, tget3 t j = if j.testBit 2 then tget2 t.b j else tget2 t.a j := by
    intro t
    unfold tget3
    simp only [hj]
    cases j.testBit 2 <;> rfl
  rw [h1, h2, h2]
  have ga := tget2_set a k j v
  have gb := tget2_set b k j v
  by_cases hc : k % 2 ^ 2 = j % 2 ^ 2
  · rw [if_pos hc] at ga gb
    cases e1 : k.testBit 2 <;> cases e2 : j.testBit 2 <;> rw [e1, e2] at hm
    · rw [if_pos (show k % 2 ^ 3 = j % 2 ^ 3 from hm.2 ⟨hc, rfl⟩)]; exact ga
    · rw [if_neg (show ¬ (k % 2 ^ 3 = j % 2 ^ 3) from fun h => by cases (hm.1 h).2)]; rfl
    · rw [if_neg (show ¬ (k % 2 ^ 3 = j % 2 ^ 3) from fun h => by cases (hm.1 h).2)]; rfl
    · rw [if_pos (show k % 2 ^ 3 = j % 2 ^ 3 from hm.2 ⟨hc, rfl⟩)]; exact gb
  · rw [if_neg hc] at ga gb
    rw [if_neg (show ¬ (k % 2 ^ 3 = j % 2 ^ 3) from fun h => hc (hm.1 h).1)]
    cases k.testBit 2 <;> cases j.testBit 2
    · exact ga
    · rfl
    · rfl
    · exact gb
theorem tget3_mk {α : Type} (x : α) (j : Nat) : tget3 (tmk3 x) j = x := by
  simp only [tget3, tmk3]
  split <;> exact tget2_mk x j
theorem tset4_eq.{u} {α : Type} {β : Sort u} (t : T4 α) (k : Nat) (v : α) (K : T4 α → β) : tset4 t k v K = K (tset4 t k v id) := by
  obtain ⟨a, b⟩ := t
  unfold tset4
  cases Nat.beq (Nat.land k 8) 0
  · exact (tset3_eq b k v _).trans (congrArg K (tset3_eq b k v (fun x => (⟨a, x⟩ : T4 α))).symm)
  · exact (tset3_eq a k v _).trans (congrArg K (tset3_eq a k v (fun x => (⟨x, b⟩ : T4 α))).symm)
theorem tget4_set {α : Type} (t : T4 α) (k j : Nat) (v : α) : tget4 (tset4 t k v id) j = if k % 2 ^ 4 = j % 2 ^ 4 then v else tget4 t j := by
  obtain ⟨a, b⟩ := t
  have hm := mod_bit k j 3
  have hk := bit_land' k 3 8 rfl
  have hj := bit_land' j 3 8 rfl
  have h1 : tset4 ⟨a, b⟩ k v id = if k.testBit 3 then (⟨a, tset3 b k v id⟩ : T4 α) else ⟨tset3 a k v id, b⟩ := by
    unfold tset4
    simp only [hk]
    cases k.testBit 3
    · exact tset3_eq a k v _
    · exact tset3_eq b k v _
  have h2 : ∀ t : T4 α, tget4 t j = if j.testBit 3 then tget3 t.b j else tget3 t.a j := by
    intro t
    unfold tget4
    simp only [hj]
    cases j.testBit 3 <;> rfl
  rw [h1, h2, h2]
  have ga := tget3_set a k j v
  have gb := tget3_set b k j v
  by_cases hc : k % 2 ^ 3 = j % 2 ^ 3
  · rw [if_pos hc] at ga gb
    cases e1 : k.testBit 3 <;> cases e2 : j.testBit 3 <;> rw [e1, e2] at hm
    · rw [if_pos (show k % 2 ^ 4 = j % 2 ^ 4 from hm.2 ⟨hc, rfl⟩)]; exact ga
    · rw [if_neg (show ¬ (k % 2 ^ 4 = j % 2 ^ 4) from fun h => by cases (hm.1 h).2)]; rfl
    · rw [if_neg (show ¬ (k % 2 ^ 4 = j % 2 ^ 4) from fun h => by cases (hm.1 h).2)]; rfl
    · rw [if_pos (show k % 2 ^ 4 = j % 2 ^ 4 from hm.2 ⟨hc, rfl⟩)]; exact gb
  · rw [if_neg hc] at ga gb
    rw [if_neg (show ¬ (k % 2 ^ 4 = j % 2 ^ 4) from fun h => hc (hm.1 h).1)]
    cases k.testBit 3 <;> cases j.testBit 3
    · exact ga
    · rfl
    · rfl
    · exact gb
theorem tget4_mk {α : Type} (x : α) (j : Nat) : tget4 (tmk4 x) j = x := by
  simp only [tget4, tmk4]
  split <;> exact tget3_mk x j
theorem tset5_eq.{u} {α : Type} {β : Sort u} (t : T5 α) (k : Nat) (v : α) (K : T5 α → β) : tset5 t k v K = K (tset5 t k v id) := by
  obtain ⟨a, b⟩ := t
  unfold tset5
  cases Nat.beq (Nat.land k 16) 0
  · exact (tset4_eq b k v _).trans (congrArg K (tset4_eq b k v (fun x => (⟨a, x⟩ : T5 α))).symm)
  · exact (tset4_eq a k v _).trans (congrArg K (tset4_eq a k v (fun x => (⟨x, b⟩ : T5 α))).symm)
theorem tget5_set {α : Type} (t : T5 α) (k j : Nat) (v : α) : tget5 (tset5 t k v id) j = if k % 2 ^ 5 = j % 2 ^ 5 then v else tget5 t j := by
  obtain ⟨a, b⟩ := t
  have hm := mod_bit k j 4
  have hk := bit_land' k 4 16 rfl
  have hj := bit_land' j 4 16 rfl
  have h1 : tset5 ⟨a, b⟩ k v id = if k.testBit 4 then (⟨a, tset4 b k v id⟩ : T5 α) else ⟨tset4 a k v id, b⟩ := by
    unfold tset5
    simp only [hk]
    cases k.testBit 4
    · exact tset4_eq a k v _
    · exact tset4_eq b k v _
  have h2 : ∀ t : T5 α, tget5 t j = if j.testBit 4 then tget4 t.b j else tget4 t.a j := by
    intro t
    unfold tget5
    simp only [hj]
    cases j.testBit 4 <;> rfl
  rw [h1, h2, h2]
  have ga := tget4_set a k j v
  have gb := tget4_set b k j v
  by_cases hc : k % 2 ^ 4 = j % 2 ^ 4
  · rw [if_pos hc] at ga gb
    cases e1 : k.testBit 4 <;> cases e2 : j.testBit 4 <;> rw [e1, e2] at hm
    · rw [if_pos (show k % 2 ^ 5 = j % 2 ^ 5 from hm.2 ⟨hc, rfl⟩)]; exact ga
    · rw [if_neg (show ¬ (k % 2 ^ 5 = j % 2 ^ 5) from fun h => by cases (hm.1 h).2)]; rfl
    · rw [if_neg (show ¬ (k % 2 ^ 5 = j % 2 ^ 5) from fun h => by cases (hm.1 h).2)]; rfl
    · rw [if_pos (show k % 2 ^ 5 = j % 2 ^ 5 from hm.2 ⟨hc, rfl⟩)]; exact gb
  · rw [if_neg hc] at ga gb
    rw [if_neg (show ¬ (k % 2 ^ 5 = j % 2 ^ 5) from fun h => hc (hm.1 h).1)]
    cases k.testBit 4 <;> cases j.testBit 4
    · exact ga
    · rfl
    · rfl
    · exact gb
theorem tget5_mk {α : Type} (x : α) (j : Nat) : tget5 (tmk5 x) j = x := by
  simp only [tget5, tmk5]
  split <;> exact tget4_mk x j
theorem tset6_eq.{u} {α : Type} {β : Sort u} (t : T6 α) (k : Nat) (v : α) (K : T6 α → β) : tset6 t k v K = K (tset6 t k v id) := by
  obtain ⟨a, b⟩ := t
  unfold tset6
  cases Nat.beq (Nat.land k 32) 0
  · exact (tset5_eq b k v _).trans (congrArg K (tset5_eq b k v (fun x => (⟨a, x⟩ : T6 α))).symm)
  · exact (tset5_eq a k v _).trans (congrArg K (tset5_eq a k v (fun x => (⟨x, b⟩ : T6 α))).symm)
theorem tget6_set {α : Type} (t : T6 α) (k j : Nat) (v : α) : tget6 (tset6 t k v id) j = if k % 2 ^ 6 = j % 2 ^ 6 then v else tget6 t j := by
  obtain ⟨a, b⟩ := t
  have hm := mod_bit k j 5
  have hk := bit_land' k 5 32 rfl
  have hj := bit_land' j 5 32 rfl
  have h1 : tset6 ⟨a, b⟩ k v id = if k.testBit 5 then (⟨a, tset5 b k v id⟩ : T6 α) else ⟨tset5 a k v id, b⟩ := by
    unfold tset6
    simp only [hk]
    cases k.testBit 5
    · exact tset5_eq a k v _
    · exact tset5_eq b k v _
  have h2 : ∀ t : T6 α, tget6 t j = if j.testBit 5 then tget5 t.b j else tget5 t.a j := by
    intro t
    unfold tget6
    simp only [hj]
    cases j.testBit 5 <;> rfl
  rw [h1, h2, h2]
  have ga := tget5_set a k j v
  have gb := tget5_set b k j v
  by_cases hc : k % 2 ^ 5 = j % 2 ^ 5
  · rw [if_pos hc] at ga gb
    cases e1 : k.testBit 5 <;> cases e2 : j.testBit 5 <;> rw [e1, e2] at hm
    · rw [if_pos (show k % 2 ^ 6 = j % 2 ^ 6 from hm.2 ⟨hc, rfl⟩)]; exact ga
    · rw [if_neg (show ¬ (k % 2 ^ 6 = j % 2 ^ 6) from fun h => by cases (hm.1 h).2)]; rfl
    · rw [if_neg (show ¬ (k % 2 ^ 6 = j % 2 ^ 6) from fun h => by cases (hm.1 h).2)]; rfl
    · rw [if_pos (show k % 2 ^ 6 = j % 2 ^ 6 from hm.2 ⟨hc, rfl⟩)]; exact gb
  · rw [if_neg hc] at ga gb
    rw [if_neg (show ¬ (k % 2 ^ 6 = j % 2 ^ 6) from fun h => hc (hm.1 h).1)]
    cases k.testBit 5 <;> cases j.testBit 5
    · exact ga
    · rfl
    · rfl
    · exact gb
theorem tget6_mk {α : Type} (x : α) (j : Nat) : tget6 (tmk6 x) j = x := by
  simp only [tget6, tmk6]
  split <;> exact tget5_mk x j
theorem tset7_eq.{u} {α : Type} {β : Sort u} (t : T7 α) (k : Nat) (v : α) (K : T7 α → β) : tset7 t k v K = K (tset7 t k v id) := by
  obtain ⟨a, b⟩ := t
  unfold tset7
  cases Nat.beq (Nat.land k 64) 0
  · exact (tset6_eq b k v _).trans (congrArg K (tset6_eq b k v (fun x => (⟨a, x⟩ : T7 α))).symm)
  · exact (tset6_eq a k v _).trans (congrArg K (tset6_eq a k v (fun x => (⟨x, b⟩ : T7 α))).symm)
theorem tget7_set {α : Type} (t : T7 α) (k j : Nat) (v : α) : tget7 (tset7 t k v id) j = if k % 2 ^ 7 = j % 2 ^ 7 then v else tget7 t j := by
  obtain ⟨a, b⟩ := t
  have hm := mod_bit k j 6
  have hk := bit_land' k 6 64 rfl
  have hj := bit_land' j 6 64 rfl
  have h1 : tset7 ⟨a, b⟩ k v id = if k.testBit 6 then (⟨a, tset6 b k v id⟩ : T7 α) else ⟨tset6 a k v id, b⟩ := by
    unfold tset7
    simp only [hk]
    cases k.testBit 6
    · exact tset6_eq a k v _
    · exact tset6_eq b k v _
  have h2 : ∀ t : T7 α, tget7 t j = if j.testBit 6 then tget6 t.b j else tget6 t.a j := by
    intro t
    unfold tget7
    simp only [hj]
    cases j.testBit 6 <;> rfl
  rw [h1, h2, h2]
  have ga := tget6_set a k j v
  have gb := tget6_set b k j v
  by_cases hc : k % 2 ^ 6 = j % 2 ^ 6
  · rw [if_pos hc] at ga gb
    cases e1 : k.testBit 6 <;> cases e2 : j.testBit 6 <;> rw [e1, e2] at hm
    · rw [if_pos (show k % 2 ^ 7 = j % 2 ^ 7 from hm.2 ⟨hc, rfl⟩)]; exact ga
    · rw [if_neg (show ¬ (k % 2 ^ 7 = j % 2 ^ 7) from fun h => by cases (hm.1 h).2)]; rfl
    · rw [if_neg (show ¬ (k % 2 ^ 7 = j % 2 ^ 7) from fun h => by cases (hm.1 h).2)]; rfl
    · rw [if_pos (show k % 2 ^ 7 = j % 2 ^ 7 from hm.2 ⟨hc, rfl⟩)]; exact gb
  · rw [if_neg hc] at ga gb
    rw [if_neg (show ¬ (k % 2 ^ 7 = j % 2 ^ 7) from fun h => hc (hm.1 h).1)]
    cases k.testBit 6 <;> cases j.testBit 6
    · exact ga
    · rfl
    · rfl
    · exact gb
theorem tget7_mk {α : Type} (x : α) (j : Nat) : tget7 (tmk7 x) j = x := by
  simp only [tget7, tmk7]
  split <;> exact tget6_mk x j
theorem tset8_eq.{u} {α : Type} {β : Sort u} (t : T8 α) (k : Nat) (v : α) (K : T8 α → β) : tset8 t k v K = K (tset8 t k v id) := by
  obtain ⟨a, b⟩ := t
  unfold tset8
  cases Nat.beq (Nat.land k 128) 0
  · exact (tset7_eq b k v _).trans (congrArg K (tset7_eq b k v (fun x => (⟨a, x⟩ : T8 α))).symm)
  · exact (tset7_eq a k v _).trans (congrArg K (tset7_eq a k v (fun x => (⟨x, b⟩ : T8 α))).symm)
theorem tget8_set {α : Type} (t : T8 α) (k j : Nat) (v : α) : tget8 (tset8 t k v id) j = if k % 2 ^ 8 = j % 2 ^ 8 then v else tget8 t j := by
  obtain ⟨a, b⟩ := t
  have hm := mod_bit k j 7
  have hk := bit_land' k 7 128 rfl
  have hj := bit_land' j 7 128 rfl
  have h1 : tset8 ⟨a, b⟩ k v id = if k.testBit 7 then (⟨a, tset7 b k v id⟩ : T8 α) else ⟨tset7 a k v id, b⟩ := by
    unfold tset8
    simp only [hk]
    cases k.testBit 7
    · exact tset7_eq a k v _
    · exact tset7_eq b k v _
  have h2 : ∀ t : T8 α, tget8 t j = if j.testBit 7 then tget7 t.b j else tget7 t.a j := by
    intro t
    unfold tget8
    simp only [hj]
    cases j.testBit 7 <;> rfl
  rw [h1, h2, h2]
  have ga := tget7_set a k j v
  have gb := tget7_set b k j v
  by_cases hc : k % 2 ^ 7 = j % 2 ^ 7
  · rw [if_pos hc] at ga gb
    cases e1 : k.testBit 7 <;> cases e2 : j.testBit 7 <;> rw [e1, e2] at hm
    · rw [if_pos (show k % 2 ^ 8 = j % 2 ^ 8 from hm.2 ⟨hc, rfl⟩)]; exact ga
    · rw [if_neg (show ¬ (k % 2 ^ 8 = j % 2 ^ 8) from fun h => by cases (hm.1 h).2)]; rfl
    · rw [if_neg (show ¬ (k % 2 ^ 8 = j % 2 ^ 8) from fun h => by cases (hm.1 h).2)]; rfl
    · rw [if_pos (show k % 2 ^ 8 = j % 2 ^ 8 from hm.2 ⟨hc, rfl⟩)]; exact gb
  · rw [if_neg hc] at ga gb
    rw [if_neg (show ¬ (k % 2 ^ 8 = j % 2 ^ 8) from fun h => hc (hm.1 h).1)]
    cases k.testBit 7 <;> cases j.testBit 7
    · exact ga
    · rfl
    · rfl
    · exact gb
theorem tget8_mk {α : Type} (x : α) (j : Nat) : tget8 (tmk8 x) j = x := by
  simp only [tget8, tmk8]
  split <;> exact tget7_mk x j
theorem tset9_eq.{u} {α : Type} {β : Sort u} (t : T9 α) (k : Nat) (v : α) (K : T9 α → β) : tset9 t k v K = K (tset9 t k v id) := by
  obtain ⟨a, b⟩ := t
  unfold tset9
  cases Nat.beq (Nat.land k 256) 0
  · exact (tset8_eq b k v _).trans (congrArg K (tset8_eq b k v (fun x => (⟨a, x⟩ : T9 α))).symm)
  · exact (tset8_eq a k v _).trans (congrArg K (tset8_eq a k v (fun x => (⟨x, b⟩ : T9 α))).symm)
theorem tget9_set {α : Type} (t : T9 α) (k j : Nat) (v : α) : tget9 (tset9 t k v id) j = if k % 2 ^ 9 = j % 2 ^ 9 then v else tget9 t j := by
  obtain ⟨a, b⟩ := t
  have hm := mod_bit k j 8
  have hk := bit_land' k 8 256 rfl
  have hj := bit_land' j 8 256 rfl
  have h1 : tset9 ⟨a, b⟩ k v id = if k.testBit 8 then (⟨a, tset8 b k v id⟩ : T9 α) else ⟨tset8 a k v id, b⟩ := by
    unfold tset9
    simp only [hk]
    cases k.testBit 8
    · exact tset8_eq a k v _
    · exact tset8_eq b k v _
  have h2 : ∀ t : T9 α, tget9 t j = if j.testBit 8 then tget8 t.b j else tget8 t.a j := by
    intro t
    unfold tget9
    simp only [hj]
    cases j.testBit 8 <;> rfl
  rw [h1, h2, h2]
  have ga := tget8_set a k j v
  have gb := tget8_set b k j v
  by_cases hc : k % 2 ^ 8 = j % 2 ^ 8
  · rw [if_pos hc] at ga gb
    cases e1 : k.testBit 8 <;> cases e2 : j.testBit 8 <;> rw [e1, e2] at hm
    · rw [if_pos (show k % 2 ^ 9 = j % 2 ^ 9 from hm.2 ⟨hc, rfl⟩)]; exact ga
    · rw [if_neg (show ¬ (k % 2 ^ 9 = j % 2 ^ 9) from fun h => by cases (hm.1 h).2)]; rfl
    · rw [if_neg (show ¬ (k % 2 ^ 9 = j % 2 ^ 9) from fun h => by cases (hm.1 h).2)]; rfl
    · rw [if_pos (show k % 2 ^ 9 = j % 2 ^ 9 from hm.2 ⟨hc, rfl⟩)]; exact gb
  · rw [if_neg hc] at ga gb
    rw [if_neg (show ¬ (k % 2 ^ 9 = j % 2 ^ 9) from fun h => hc (hm.1 h).1)]
    cases k.testBit 8 <;> cases j.testBit 8
    · exact ga
    · rfl
    · rfl
    · exact gb
theorem tget9_mk {α : Type} (x : α) (j : Nat) : tget9 (tmk9 x) j = x := by
  simp only [tget9, tmk9]
  split <;> exact tget8_mk x j
theorem tset10_eq.{u} {α : Type} {β : Sort u} (t : T10 α) (k : Nat) (v : α) (K : T10 α → β) : tset10 t k v K = K (tset10 t k v id) := by
  obtain ⟨a, b⟩ := t
  unfold tset10
  cases Nat.beq (Nat.land k 512) 0
  · exact (tset9_eq b k v _).trans (congrArg K (tset9_eq b k v (fun x => (⟨a, x⟩ : T10 α))).symm)
  · exact (tset9_eq a k v _).trans (congrArg K (tset9_eq a k v (fun x => (⟨x, b⟩ : T10 α))).symm)
theorem tget10_set {α : Type} (t : T10 α) (k j : Nat) (v : α) : tget10 (tset10 t k v id) j = if k % 2 ^ 10 = j % 2 ^ 10 then v else tget10 t j := by
  obtain ⟨a, b⟩ := t
  have hm := mod_bit k j 9
  have hk := bit_land' k 9 512 rfl
  have hj := bit_land' j 9 512 rfl
  have h1 : tset10 ⟨a, b⟩ k v id = if k.testBit 9 then (⟨a, tset9 b k v id⟩ : T10 α) else ⟨tset9 a k v id, b⟩ := by
    unfold tset10
    simp only [hk]
    cases k.testBit 9
    · exact tset9_eq a k v _
    · exact tset9_eq b k v _
  have h2 : ∀ t : T10 α, tget10 t j = if j.testBit 9 then tget9 t.b j else tget9 t.a j := by
    intro t
    unfold tget10
    simp only [hj]
    cases j.testBit 9 <;> rfl
  rw [h1, h2, h2]
  have ga := tget9_set a k j v
  have gb := tget9_set b k j v
  by_cases hc : k % 2 ^ 9 = j % 2 ^ 9
  · rw [if_pos hc] at ga gb
    cases e1 : k.testBit 9 <;> cases e2 : j.testBit 9 <;> rw [e1, e2] at hm
    · rw [if_pos (show k % 2 ^ 10 = j % 2 ^ 10 from hm.2 ⟨hc, rfl⟩)]; exact ga
    · rw [if_neg (show ¬ (k % 2 ^ 10 = j % 2 ^ 10) from fun h => by cases (hm.1 h).2)]; rfl
    · rw [if_neg (show ¬ (k % 2 ^ 10 = j % 2 ^ 10) from fun h => by cases (hm.1 h).2)]; rfl
    · rw [if_pos (show k % 2 ^ 10 = j % 2 ^ 10 from hm.2 ⟨hc, rfl⟩)]; exact gb
  · rw [if_neg hc] at ga gb
    rw [if_neg (show ¬ (k % 2 ^ 10 = j % 2 ^ 10) from fun h => hc (hm.1 h).1)]
    cases k.testBit 9 <;> cases j.testBit 9
    · exact ga
    · rfl
    · rfl
    · exact gb
theorem tget10_mk {α : Type} (x : α) (j : Nat) : tget10 (tmk10 x) j = x := by
  simp only [tget10, tmk10]
  split <;> exact tget9_mk x j
theorem tset11_eq.{u} {α : Type} {β : Sort u} (t : T11 α) (k : Nat) (v : α) (K : T11 α → β) : tset11 t k v K = K (tset11 t k v id) := by
  obtain ⟨a, b⟩ := t
  unfold tset11
  cases Nat.beq (Nat.land k 1024) 0
  · exact (tset10_eq b k v _).trans (congrArg K (tset10_eq b k v (fun x => (⟨a, x⟩ : T11 α))).symm)
  · exact (tset10_eq a k v _).trans (congrArg K (tset10_eq a k v (fun x => (⟨x, b⟩ : T11 α))).symm)
theorem tget11_set {α : Type} (t : T11 α) (k j : Nat) (v : α) : tget11 (tset11 t k v id) j = if k % 2 ^ 11 = j % 2 ^ 11 then v else tget11 t j := by
  obtain ⟨a, b⟩ := t
  have hm := mod_bit k j 10
  have hk := bit_land' k 10 1024 rfl
  have hj := bit_land' j 10 1024 rfl
  have h1 : tset11 ⟨a, b⟩ k v id = if k.testBit 10 then (⟨a, tset10 b k v id⟩ : T11 α) else ⟨tset10 a k v id, b⟩ := by
    unfold tset11
    simp only [hk]
    cases k.testBit 10
    · exact tset10_eq a k v _
    · exact tset10_eq b k v _
  have h2 : ∀ t : T11 α, tget11 t j = if j.testBit 10 then tget10 t.b j else tget10 t.a j := by
    intro t
    unfold tget11
    simp only [hj]
    cases j.testBit 10 <;> rfl
  rw [h1, h2, h2]
  have ga := tget10_set a k j v
  have gb := tget10_set b k j v
  by_cases hc : k % 2 ^ 10 = j % 2 ^ 10
  · rw [if_pos hc] at ga gb
    cases e1 : k.testBit 10 <;> cases e2 : j.testBit 10 <;> rw [e1, e2] at hm
    · rw [if_pos (show k % 2 ^ 11 = j % 2 ^ 11 from hm.2 ⟨hc, rfl⟩)]; exact ga
    · rw [if_neg (show ¬ (k % 2 ^ 11 = j % 2 ^ 11) from fun h => by cases (hm.1 h).2)]; rfl
    · rw [if_neg (show ¬ (k % 2 ^ 11 = j % 2 ^ 11) from fun h => by cases (hm.1 h).2)]; rfl
    · rw [if_pos (show k % 2 ^ 11 = j % 2 ^ 11 from hm.2 ⟨hc, rfl⟩)]; exact gb
  · rw [if_neg hc] at ga gb
    rw [if_neg (show ¬ (k % 2 ^ 11 = j % 2 ^ 11) from fun h => hc (hm.1 h).1)]
    cases k.testBit 10 <;> cases j.testBit 10
    · exact ga
    · rfl
    · rfl
    · exact gb
theorem tget11_mk {α : Type} (x : α) (j : Nat) : tget11 (tmk11 x) j = x := by
  simp only [tget11, tmk11]
  split <;> exact tget10_mk x j
theorem tset12_eq.{u} {α : Type} {β : Sort u} (t : T12 α) (k : Nat) (v : α) (K : T12 α → β) : tset12 t k v K = K (tset12 t k v id) := by
  obtain ⟨a, b⟩ := t
  unfold tset12
  cases Nat.beq (Nat.land k 2048) 0
  · exact (tset11_eq b k v _).trans (congrArg K (tset11_eq b k v (fun x => (⟨a, x⟩ : T12 α))).symm)
  · exact (tset11_eq a k v _).trans (congrArg K (tset11_eq a k v (fun x => (⟨x, b⟩ : T12 α))).symm)
theorem tget12_set {α : Type} (t : T12 α) (k j : Nat) (v : α) : tget12 (tset12 t k v id) j = if k % 2 ^ 12 = j % 2 ^ 12 then v else tget12 t j := by
  obtain ⟨a, b⟩ := t
  have hm := mod_bit k j 11
  have hk := bit_land' k 11 2048 rfl
  have hj := bit_land' j 11 2048 rfl
  have h1 : tset12 ⟨a, b⟩ k v id = if k.testBit 11 then (⟨a, tset11 b k v id⟩ : T12 α) else ⟨tset11 a k v id, b⟩ := by
    unfold tset12
    simp only [hk]
    cases k.testBit 11
    · exact tset11_eq a k v _
    · exact tset11_eq b k v _
  have h2 : ∀ t : T12 α, tget12 t j = if j.testBit 11 then tget11 t.b j else tget11 t.a j := by
    intro t
    unfold tget12
    simp only [hj]
    cases j.testBit 11 <;> rfl
  rw [h1, h2, h2]
  have ga := tget11_set a k j v
  have gb := tget11_set b k j v
  by_cases hc : k % 2 ^ 11 = j % 2 ^ 11
  · rw [if_pos hc] at ga gb
    cases e1 : k.testBit 11 <;> cases e2 : j.testBit 11 <;> rw [e1, e2] at hm
    · rw [if_pos (show k % 2 ^ 12 = j % 2 ^ 12 from hm.2 ⟨hc, rfl⟩)]; exact ga
    · rw [if_neg (show ¬ (k % 2 ^ 12 = j % 2 ^ 12) from fun h => by cases (hm.1 h).2)]; rfl
    · rw [if_neg (show ¬ (k % 2 ^ 12 = j % 2 ^ 12) from fun h => by cases (hm.1 h).2)]; rfl
    · rw [if_pos (show k % 2 ^ 12 = j % 2 ^ 12 from hm.2 ⟨hc, rfl⟩)]; exact gb
  · rw [if_neg hc] at ga gb
    rw [if_neg (show ¬ (k % 2 ^ 12 = j % 2 ^ 12) from fun h => hc (hm.1 h).1)]
    cases k.testBit 11 <;> cases j.testBit 11
    · exact ga
    · rfl
    · rfl
    · exact gb
theorem tget12_mk {α : Type} (x : α) (j : Nat) : tget12 (tmk12 x) j = x := by
  simp only [tget12, tmk12]
  split <;> exact tget11_mk x j
theorem tset13_eq.{u} {α : Type} {β : Sort u} (t : T13 α) (k : Nat) (v : α) (K : T13 α → β) : tset13 t k v K = K (tset13 t k v id) := by
  obtain ⟨a, b⟩ := t
  unfold tset13
  cases Nat.beq (Nat.land k 4096) 0
  · exact (tset12_eq b k v _).trans (congrArg K (tset12_eq b k v (fun x => (⟨a, x⟩ : T13 α))).symm)
  · exact (tset12_eq a k v _).trans (congrArg K (tset12_eq a k v (fun x => (⟨x, b⟩ : T13 α))).symm)
theorem tget13_set {α : Type} (t : T13 α) (k j : Nat) (v : α) : tget13 (tset13 t k v id) j = if k % 2 ^ 13 = j % 2 ^ 13 then v else tget13 t j := by
  obtain ⟨a, b⟩ := t
  have hm := mod_bit k j 12
  have hk := bit_land' k 12 4096 rfl
  have hj := bit_land' j 12 4096 rfl
  have h1 : tset13 ⟨a, b⟩ k v id = if k.testBit 12 then (⟨a, tset12 b k v id⟩ : T13 α) else ⟨tset12 a k v id, b⟩ := by
    unfold tset13
    simp only [hk]
    cases k.testBit 12
    · exact tset12_eq a k v _
    · exact tset12_eq b k v _
  have h2 : ∀ t : T13 α, tget13 t j = if j.testBit 12 then tget12 t.b j else tget12 t.a j := by
    intro t
    unfold tget13
    simp only [hj]
    cases j.testBit 12 <;> rfl
  rw [h1, h2, h2]
  have ga := tget12_set a k j v
  have gb := tget12_set b k j v
  by_cases hc : k % 2 ^ 12 = j % 2 ^ 12
  · rw [if_pos hc] at ga gb
    cases e1 : k.testBit 12 <;> cases e2 : j.testBit 12 <;> rw [e1, e2] at hm
    · rw [if_pos (show k % 2 ^ 13 = j % 2 ^ 13 from hm.2 ⟨hc, rfl⟩)]; exact ga
    · rw [if_neg (show ¬ (k % 2 ^ 13 = j % 2 ^ 13) from fun h => by cases (hm.1 h).2)]; rfl
    · rw [if_neg (show ¬ (k % 2 ^ 13 = j % 2 ^ 13) from fun h => by cases (hm.1 h).2)]; rfl
    · rw [if_pos (show k % 2 ^ 13 = j % 2 ^ 13 from hm.2 ⟨hc, rfl⟩)]; exact gb
  · rw [if_neg hc] at ga gb
    rw [if_neg (show ¬ (k % 2 ^ 13 = j % 2 ^ 13) from fun h => hc (hm.1 h).1)]
    cases k.testBit 12 <;> cases j.testBit 12
    · exact ga
    · rfl
    · rfl
    · exact gb
theorem tget13_mk {α : Type} (x : α) (j : Nat) : tget13 (tmk13 x) j = x := by
  simp only [tget13, tmk13]
  split <;> exact tget12_mk x j
theorem tget13_put {α : Type} (t : T13 α) (k j : Nat) (v : α) (hk : k ≤ 8191) (hj : j ≤ 8191) : tget13 (tset13 t k v id) j = if k = j then v else tget13 t j := by
  rw [tget13_set, Nat.mod_eq_of_lt (by omega), Nat.mod_eq_of_lt (by omega)]
theorem tget8_put {α : Type} (t : T8 α) (k j : Nat) (v : α) (hk : k ≤ 255) (hj : j ≤ 255) : tget8 (tset8 t k v id) j = if k = j then v else tget8 t j := by
  rw [tget8_set, Nat.mod_eq_of_lt (by omega), Nat.mod_eq_of_lt (by omega)]
theorem forceN_eq.{u} {β : Sort u} (n : Nat) (K : Nat → β) : forceN n K = K n := by cases n <;> rfl
theorem forceI_eq.{u} {β : Sort u} (n : Int) (K : Int → β) : forceI n K = K n := match n with
  | .ofNat n => forceN_eq n fun n => K (.ofNat n)
  | .negSucc n => forceN_eq n fun n => K (.negSucc n)
theorem forceB_eq.{u} {β : Sort u} (n : Bool) (K : Bool → β) : forceB n K = K n := by cases n <;> rfl
theorem forceL_eq.{u} {α : Type} {β : Sort u} (l : List α) (K : List α → β) : forceL l K = K l := by
  induction l generalizing K with
  | nil => rfl
  | cons x l ih => rw [forceL, ih]
theorem forceV_eq.{u} {β : Sort u} (v : Value) (K : Value → β) : forceV v K = K v := by
  unfold forceV
  split
  · exact forceB_eq _ _
  · exact forceI_eq _ _
  · exact forceL_eq _ _
  · exact forceL_eq _ _
  · rfl
end Go.Proofs.YtpijenlmfmknnaaGreatDoor

/- How the reckoner's small store stands for memory: which block each number is, what lies there, what is as it was. No program. -/
namespace Go.Proofs.YtpijenlmfmknnaaGreatDoor
open Go.RowKit
set_option linter.unusedVariables false

/-- Where a numbered block lies: block, first cell, cells known; elements' size and how many more elements there is room for. -/
structure Pl where
  blk : Nat
  off : Nat
  sz : Nat
  es : Nat
  sl : Nat
abbrev Rn := Nat → Option Pl

/-- Two rows, one by one. -/
def LR (R : Value → Value → Prop) : List Value → List Value → Prop
  | [], l => l = []
  | v :: l, l' => ∃ v' t, l' = v' :: t ∧ R v v' ∧ LR R l t

def SlR (ρ : Rn) (a : Addr) (l c : Nat) (v' : Value) : Prop :=
  a.spot = none ∧ l ≤ c ∧ ∃ p, ρ a.block = some p ∧ ∃ a' c', v' = .slice (some a') l c' ∧ c' = c + (if a.off + c * p.es = p.sz then p.sl else 0) ∧
    (c' ≠ 0 → a' = ⟨p.blk, p.off + a.off, none⟩) ∧ c' ≤ 9223372036854775807
def fnFine : Fn → Prop
  | .yield _ => False
  | _ => True

/-- The value v of the reckoner stands for v', to a depth. -/
def VR (ρ : Rn) : Nat → Value → Value → Prop
  | 0, _, _ => False
  | n + 1, v, v' => match v with
    | .chan none => True
    | .bool b => v' = .bool b
    | .int k i => v' = .int k i
    | .string s => v' = .string s
    | .pointer none => v' = .pointer none
    | .pointer (some a) => a.spot = none ∧ ∃ p, ρ a.block = some p ∧ v' = .pointer (some ⟨p.blk, p.off + a.off, none⟩)
    | .slice none l c => l = 0 ∧ c = 0 ∧ v' = .slice none 0 0
    | .slice (some a) l c => SlR ρ a l c v'
    | .map none => v' = .map none
    | .map (some r) => ∃ p, ρ r = some p ∧ v' = .map (some p.blk)
    | .func fn f c => fnFine fn ∧ ∃ f' c', v' = .func fn ⟨f'⟩ ⟨c'⟩ ∧ LR (VR ρ n) f.toList f' ∧ LR (VR ρ n) c.toList c'
    | .nilFunc => v' = .nilFunc
    | .iface t x => ∃ x', v' = .iface t x' ∧ VR ρ n x x'
    | .nilIface => v' = .nilIface
    | .agg cs => ∃ cs', v' = .agg ⟨cs'⟩ ∧ LR (VR ρ n) cs.toList cs'
    | .tuple cs => ∃ cs', v' = .tuple ⟨cs'⟩ ∧ LR (VR ρ n) cs.toList cs'
    | _ => False
def VL (ρ : Rn) (v v' : Value) : Prop := ∃ n, VR ρ n v v'

theorem LR.mono {R S : Value → Value → Prop} (h : ∀ v v', R v v' → S v v') : ∀ {l l' : List Value}, LR R l l' → LR S l l'
  | [], _, e => e
  | v :: l, _, ⟨v', t, e, hv, ht⟩ => ⟨v', t, e, h _ _ hv, LR.mono h ht⟩
theorem VR.up {ρ : Rn} : ∀ {n : Nat} {v v' : Value}, VR ρ n v v' → VR ρ (n + 1) v v'
  | 0, v, v', h => h.elim
  | n + 1, v, v', h => by
    have ih : ∀ x x', VR ρ n x x' → VR ρ (n + 1) x x' := fun _ _ => VR.up
    unfold VR at h ⊢
    split at h <;> first
      | exact h
      | (obtain ⟨h1, f', c', e, h2, h3⟩ := h; exact ⟨h1, f', c', e, h2.mono ih, h3.mono ih⟩)
      | (obtain ⟨x', e, h2⟩ := h; exact ⟨x', e, ih _ _ h2⟩)
      | (obtain ⟨x', e, h2⟩ := h; exact ⟨x', e, h2.mono ih⟩)
theorem VR.le {ρ : Rn} {n m : Nat} {v v' : Value} (h : VR ρ n v v') (hm : n ≤ m) : VR ρ m v v' := by
  induction m with
  | zero => have : n = 0 := by omega
            subst this; exact h
  | succ m ih =>
    by_cases e : n = m + 1
    · subst e; exact h
    · exact (ih (by omega)).up
/-- A finite row has one depth. -/
theorem LR.deep {ρ : Rn} : ∀ {l l' : List Value}, LR (VL ρ) l l' → ∃ n, LR (VR ρ n) l l'
  | [], _, e => ⟨0, e⟩
  | v :: l, _, ⟨v', t, e, ⟨n, hv⟩, ht⟩ => by
    obtain ⟨m, hm⟩ := LR.deep ht
    exact ⟨n + m, v', t, e, hv.le (by omega), hm.mono fun _ _ h => h.le (by omega)⟩
theorem LR.flat {ρ : Rn} {n : Nat} {l l' : List Value} (h : LR (VR ρ n) l l') : LR (VL ρ) l l' := h.mono fun _ _ h => ⟨n, h⟩

section
variable {ρ : Rn} {v' : Value}
theorem VL.of {v : Value} (h : VR ρ 1 v v') : VL ρ v v' := ⟨1, h⟩
theorem VL.bool {b : Bool} : VL ρ (.bool b) v' ↔ v' = .bool b := ⟨fun ⟨n, h⟩ => by cases n with | zero => exact h.elim | succ n => exact h, fun h => ⟨1, h⟩⟩
theorem VL.int {k : IntKind} {i : Int} : VL ρ (.int k i) v' ↔ v' = .int k i := ⟨fun ⟨n, h⟩ => by cases n with | zero => exact h.elim | succ n => exact h, fun h => ⟨1, h⟩⟩
theorem VL.string {s : ByteArray} : VL ρ (.string s) v' ↔ v' = .string s := ⟨fun ⟨n, h⟩ => by cases n with | zero => exact h.elim | succ n => exact h, fun h => ⟨1, h⟩⟩
theorem VL.ptr {a : Addr} : VL ρ (.pointer (some a)) v' ↔ a.spot = none ∧ ∃ p, ρ a.block = some p ∧ v' = .pointer (some ⟨p.blk, p.off + a.off, none⟩) :=
  ⟨fun ⟨n, h⟩ => by cases n with | zero => exact h.elim | succ n => exact h, fun h => ⟨1, h⟩⟩
theorem VL.nilp : VL ρ (.pointer none) v' ↔ v' = .pointer none := ⟨fun ⟨n, h⟩ => by cases n with | zero => exact h.elim | succ n => exact h, fun h => ⟨1, h⟩⟩
theorem VL.nils {l c : Nat} : VL ρ (.slice none l c) v' ↔ l = 0 ∧ c = 0 ∧ v' = .slice none 0 0 := ⟨fun ⟨n, h⟩ => by cases n with | zero => exact h.elim | succ n => exact h, fun h => ⟨1, h⟩⟩
theorem VL.slice {a : Addr} {l c : Nat} : VL ρ (.slice (some a) l c) v' ↔ SlR ρ a l c v' := ⟨fun ⟨n, h⟩ => by cases n with | zero => exact h.elim | succ n => exact h, fun h => ⟨1, h⟩⟩
theorem VL.map {r : Nat} : VL ρ (.map (some r)) v' ↔ ∃ p, ρ r = some p ∧ v' = .map (some p.blk) := ⟨fun ⟨n, h⟩ => by cases n with | zero => exact h.elim | succ n => exact h, fun h => ⟨1, h⟩⟩
theorem VL.nilm : VL ρ (.map none) v' ↔ v' = .map none := ⟨fun ⟨n, h⟩ => by cases n with | zero => exact h.elim | succ n => exact h, fun h => ⟨1, h⟩⟩
theorem VL.nilf : VL ρ .nilFunc v' ↔ v' = .nilFunc := ⟨fun ⟨n, h⟩ => by cases n with | zero => exact h.elim | succ n => exact h, fun h => ⟨1, h⟩⟩
theorem VL.nili : VL ρ .nilIface v' ↔ v' = .nilIface := ⟨fun ⟨n, h⟩ => by cases n with | zero => exact h.elim | succ n => exact h, fun h => ⟨1, h⟩⟩
theorem VL.junk : VL ρ (.chan none) v' := ⟨1, trivial⟩
theorem VL.agg {l : List Value} : VL ρ (.agg ⟨l⟩) v' ↔ ∃ l', v' = .agg ⟨l'⟩ ∧ LR (VL ρ) l l' := by
  constructor
  · rintro ⟨n, h⟩
    cases n with
    | zero => exact h.elim
    | succ n => obtain ⟨l', e, h⟩ := h; exact ⟨l', e, h.flat⟩
  · rintro ⟨l', e, h⟩
    obtain ⟨n, hn⟩ := h.deep
    exact ⟨n + 1, l', e, hn⟩
theorem VL.tuple {l : List Value} : VL ρ (.tuple ⟨l⟩) v' ↔ ∃ l', v' = .tuple ⟨l'⟩ ∧ LR (VL ρ) l l' := by
  constructor
  · rintro ⟨n, h⟩
    cases n with
    | zero => exact h.elim
    | succ n => obtain ⟨l', e, h⟩ := h; exact ⟨l', e, h.flat⟩
  · rintro ⟨l', e, h⟩
    obtain ⟨n, hn⟩ := h.deep
    exact ⟨n + 1, l', e, hn⟩
theorem VL.iface {t : TypeId} {x : Value} : VL ρ (.iface t x) v' ↔ ∃ x', v' = .iface t x' ∧ VL ρ x x' := by
  constructor
  · rintro ⟨n, h⟩
    cases n with
    | zero => exact h.elim
    | succ n => obtain ⟨l', e, h⟩ := h; exact ⟨l', e, n, h⟩
  · rintro ⟨l', e, n, h⟩
    exact ⟨n + 1, l', e, h⟩
theorem VL.func {fn : Fn} {f c : List Value} : VL ρ (.func fn ⟨f⟩ ⟨c⟩) v' ↔ fnFine fn ∧ ∃ f' c', v' = .func fn ⟨f'⟩ ⟨c'⟩ ∧ LR (VL ρ) f f' ∧ LR (VL ρ) c c' := by
  constructor
  · rintro ⟨n, h⟩
    cases n with
    | zero => exact h.elim
    | succ n => obtain ⟨h1, f', c', e, h2, h3⟩ := h; exact ⟨h1, f', c', e, h2.flat, h3.flat⟩
  · rintro ⟨h1, f', c', e, h2, h3⟩
    obtain ⟨n, hn⟩ := h2.deep
    obtain ⟨m, hm⟩ := h3.deep
    exact ⟨n + m + 1, h1, f', c', e, hn.mono fun _ _ h => h.le (by omega), hm.mono fun _ _ h => h.le (by omega)⟩
end

/-! More numbers known. -/
def Rn.le (ρ ρ' : Rn) : Prop := ∀ i p, ρ i = some p → ρ' i = some p
theorem SlR.grow {ρ ρ' : Rn} (hρ : ρ.le ρ') {a : Addr} {l c : Nat} {v' : Value} (h : SlR ρ a l c v') : SlR ρ' a l c v' := by
  obtain ⟨h1, h2, p, h3, h4⟩ := h
  exact ⟨h1, h2, p, hρ _ _ h3, h4⟩
theorem VR.grow {ρ ρ' : Rn} (hρ : ρ.le ρ') : ∀ {n : Nat} {v v' : Value}, VR ρ n v v' → VR ρ' n v v'
  | 0, v, v', h => h.elim
  | n + 1, v, v', h => by
    have ih : ∀ x x', VR ρ n x x' → VR ρ' n x x' := fun _ _ => VR.grow hρ
    unfold VR at h ⊢
    split at h <;> first
      | exact h
      | exact h.grow hρ
      | (obtain ⟨h1, f', c', e, h2, h3⟩ := h; exact ⟨h1, f', c', e, h2.mono ih, h3.mono ih⟩)
      | (obtain ⟨h1, p, e, h2⟩ := h; exact ⟨h1, p, hρ _ _ e, h2⟩)
      | (obtain ⟨p, e, h2⟩ := h; exact ⟨p, hρ _ _ e, h2⟩)
      | (obtain ⟨x', e, h2⟩ := h; exact ⟨x', e, ih _ _ h2⟩)
      | (obtain ⟨x', e, h2⟩ := h; exact ⟨x', e, h2.mono ih⟩)
theorem VL.grow {ρ ρ' : Rn} (hρ : ρ.le ρ') {v v' : Value} (h : VL ρ v v') : VL ρ' v v' := by
  obtain ⟨n, h⟩ := h
  exact ⟨n, h.grow hρ⟩
theorem LR.grow {ρ ρ' : Rn} (hρ : ρ.le ρ') {l l' : List Value} (h : LR (VL ρ) l l') : LR (VL ρ') l l' := h.mono fun _ _ h => h.grow hρ
theorem Rn.le.rfl {ρ : Rn} : ρ.le ρ := fun _ _ h => h
theorem Rn.le.trans {a b c : Rn} (h : a.le b) (k : b.le c) : a.le c := fun i p e => k i p (h i p e)

/-! Rows. -/
theorem LR.len {R : Value → Value → Prop} : ∀ {l l' : List Value}, LR R l l' → l'.length = l.length
  | [], _, e => by rw [e]
  | v :: l, _, ⟨v', t, e, _, ht⟩ => by rw [e, List.length_cons, List.length_cons, LR.len ht]
theorem LR.at {R : Value → Value → Prop} : ∀ {l l' : List Value} {i : Nat} {v : Value}, LR R l l' → l[i]? = some v → ∃ v', l'[i]? = some v' ∧ R v v'
  | [], _, i, v, e, h => by simp at h
  | x :: l, _, 0, v, ⟨v', t, e, hv, _⟩, h => by
    subst e
    simp at h
    subst h
    exact ⟨v', by simp, hv⟩
  | x :: l, _, i + 1, v, ⟨v', t, e, _, ht⟩, h => by
    subst e
    simpa using LR.at ht (by simpa using h)
theorem LR.of {R : Value → Value → Prop} : ∀ {l l' : List Value}, l'.length = l.length → (∀ (i : Nat) v v', l[i]? = some v → l'[i]? = some v' → R v v') → LR R l l'
  | [], l', e, _ => by
    show l' = []
    simpa using e
  | v :: l, [], e, _ => by simp at e
  | v :: l, v' :: t, e, h => ⟨v', t, rfl, h 0 v v' (by simp) (by simp), LR.of (by simpa using e) fun i x x' hx hx' => h (i + 1) x x' (by simpa using hx) (by simpa using hx')⟩
theorem LR.app {R : Value → Value → Prop} : ∀ {l l' k k' : List Value}, LR R l l' → LR R k k' → LR R (l ++ k) (l' ++ k')
  | [], _, k, k', e, h => by rw [e]; exact h
  | v :: l, _, k, k', ⟨v', t, e, hv, ht⟩, h => ⟨v', t ++ k', by rw [e]; rfl, hv, LR.app ht h⟩
theorem LR.take {R : Value → Value → Prop} : ∀ {l l' : List Value} (n : Nat), LR R l l' → LR R (l.take n) (l'.take n)
  | l, l', 0, _ => by simp [LR]
  | [], _, n + 1, e => by rw [e]; simp [LR]
  | v :: l, _, n + 1, ⟨v', t, e, hv, ht⟩ => ⟨v', t.take n, by rw [e]; rfl, hv, LR.take n ht⟩
theorem LR.drop {R : Value → Value → Prop} : ∀ {l l' : List Value} (n : Nat), LR R l l' → LR R (l.drop n) (l'.drop n)
  | l, l', 0, h => h
  | [], _, n + 1, e => by rw [e]; simp [LR]
  | v :: l, _, n + 1, ⟨v', t, e, hv, ht⟩ => by subst e; exact LR.drop n ht

/-! Values without an address stand for themselves. -/
theorem plain0_iff {ρ : Rn} {v v' : Value} (h : plain0 v = true) : VL ρ v v' ↔ v' = v := by
  cases v with
  | bool b => exact VL.bool
  | int k i => exact VL.int
  | string s => exact VL.string
  | pointer a => cases a with
    | none => exact VL.nilp
    | some a => cases h
  | slice a l c => cases a with
    | none =>
      rw [plain0, Bool.and_eq_true] at h
      have h1 := Nat.eq_of_beq_eq_true h.1
      have h2 := Nat.eq_of_beq_eq_true h.2
      subst h1 h2
      rw [VL.nils]
      simp
    | some a => cases h
  | map r => cases r with
    | none => exact VL.nilm
    | some a => cases h
  | nilFunc => exact VL.nilf
  | nilIface => exact VL.nili
  | _ => cases h
theorem plainL_iff {ρ : Rn} : ∀ {l l' : List Value}, plainL l = true → (LR (VL ρ) l l' ↔ l' = l)
  | [], _, _ => Iff.rfl
  | v :: l, l', h => by
    rw [plainL, Bool.and_eq_true] at h
    constructor
    · rintro ⟨v', t, e, hv, ht⟩
      rw [e, (plain0_iff h.1).1 hv, (plainL_iff h.2).1 ht]
    · intro e
      exact ⟨v, l, e, (plain0_iff h.1).2 rfl, (plainL_iff h.2).2 rfl⟩
theorem plain1_iff {ρ : Rn} {v v' : Value} (h : plain1 v = true) : VL ρ v v' ↔ v' = v := by
  unfold plain1 at h
  split at h
  · rw [VL.agg]
    constructor
    · rintro ⟨l', e, hl⟩; rw [e, (plainL_iff h).1 hl]
    · intro e; exact ⟨_, e, (plainL_iff h).2 rfl⟩
  · exact plain0_iff h
theorem plainM_iff {ρ : Rn} : ∀ {l l' : List Value}, plainM l = true → (LR (VL ρ) l l' ↔ l' = l)
  | [], _, _ => Iff.rfl
  | v :: l, l', h => by
    rw [plainM, Bool.and_eq_true] at h
    constructor
    · rintro ⟨v', t, e, hv, ht⟩
      rw [e, (plain1_iff h.1).1 hv, (plainM_iff h.2).1 ht]
    · intro e
      exact ⟨v, l, e, (plain1_iff h.1).2 rfl, (plainM_iff h.2).2 rfl⟩
theorem plainV_iff {ρ : Rn} {v v' : Value} (h : plainV v = true) : VL ρ v v' ↔ v' = v := by
  unfold plainV at h
  split at h
  · rw [VL.tuple]
    constructor
    · rintro ⟨l', e, hl⟩; rw [e, (plainM_iff h).1 hl]
    · intro e; exact ⟨_, e, (plainM_iff h).2 rfl⟩
  · exact plain1_iff h

/-! The store and memory. -/
abbrev Hf := Nat → Option Obj
/-- No cell of n is frozen. -/
def Fz (n : Nat) (fz : Nat × Nat) : Prop := fz.1 = fz.2 ∨ n ≤ fz.1
theorem Fz.no {n : Nat} {fz : Nat × Nat} (h : Fz n fz) : ∀ o, o < n → ¬ (fz.1 ≤ o ∧ o < fz.2) := fun o ho hc => by
  rcases h with h | h <;> omega
/-- Beyond that: a whole row of operations bears no mark. -/
def Fy (T : TypeId) (fl : Nat × Nat) (n : Nat) (fz : Nat × Nat) : Prop := Fz n fz ∧ (T = 121 → fl.1 = 0 → fz.1 = fz.2)
theorem Fy.no {T : TypeId} {fl : Nat × Nat} {n : Nat} {fz : Nat × Nat} (h : Fy T fl n fz) : ∀ o, o < n → ¬ (fz.1 ≤ o ∧ o < fz.2) := h.1.no
/-- What block number 'id' stands for lies in memory. -/
def ObjR (ρ : Rn) (w : World) (id : Nat) : Obj → Prop
  | .cells cs T fl => ∃ p, ρ id = some p ∧ p.sz = cs.size ∧ (fl.1 = 0 → p.sl = 0) ∧ (fl.1 ≠ 0 → p.es = fl.1) ∧
      ∃ c' el' fz, w.heap[p.blk]? = some (.cells c' el' fz) ∧ p.off + p.sz + p.sl * p.es ≤ c'.size ∧ (16 ≤ id → Fy T fl c'.size fz) ∧
        ∀ k v, cs[k]? = some v → ∃ v', c'[p.off + k]? = some v' ∧ VL ρ v v'
  | .map es clk => ∃ p, ρ id = some p ∧ w.heap[p.blk]? = some (.map es clk)
  | _ => False
structure HR (w0 : World) (B : Nat) (ρ : Rn) (h : Hf) (w : World) : Prop where
  below : Below B w0 w
  base : B ≤ w0.heap.size
  obj : ∀ id o, h id = some o → ObjR ρ w id o
  sep : ∀ i j oi oj pi pj, i ≠ j → h i = some oi → h j = some oj → ρ i = some pi → ρ j = some pj → pi.blk ≠ pj.blk
  own : ∀ id o p, h id = some o → 16 ≤ id → ρ id = some p → B ≤ p.blk
  glo : ∀ g, g < 16 → ∃ p, ρ g = some p ∧ p.blk = g ∧ p.off = 0
def Hp.f (s : Hp) : Hf := fun id => if id ≤ 8191 then tget13 s.h id else none
end Go.Proofs.YtpijenlmfmknnaaGreatDoor
