/- Own texts joined: Base, To, App, Cur, New0, LocB, DrawI, BaseZ, ToZ, AppZ, DrawK, KlM, KlS, DrB, NameS, NameB, KeyS, KeyI, DigI, BtM, BtS, KlI. -/
import Derived.WalkKit
import Derived.OpenShut
import Derived.WalkSpells
import Derived.WalkSmall
import Derived.Laws.AppendOwnNone
import Derived.Laws.CopyOwn
import Derived.Test.YtpijenlmfmknnaaGreatDoorChecked
import Derived.Deep.QuietTactic
import Derived.BigQuiet

/- Rows of bytes in memory, as the contracts of this seat speak of them: what may be read, what is owned, what other blocks keep. No condition. -/
namespace Go.Proofs.YtpijenlmfmknnaaGreatDoor
open Go.RowKit
set_option linter.unusedVariables false

theorem hide {p : Prop} (h : p) : Hid p := h
theorem unhide {p : Prop} (h : Hid p) : p := h

/-- Each number is a byte. -/
def okB (l : List Int) : Prop := ∀ x ∈ l, 0 ≤ x ∧ x ≤ 255

/-- The cells of a row of bytes. -/
def vals (l : List Int) : List Value := l.map (Value.int .u8)

/-- The value v is a slice whose elements can be read in w: the bytes l. -/
def Byt (w : World) (v : Value) (l : List Int) : Prop :=
  okB l ∧ l.length ≤ maxLen ∧
  ((v = .slice none 0 0 ∧ l = []) ∨
   (∃ x cap, v = .slice (some x) 0 cap ∧ cap ≤ maxLen ∧ l = []) ∨
   (∃ b off cap, v = .slice (some ⟨b, off, none⟩) l.length cap ∧ l.length ≤ cap ∧ cap ≤ maxLen ∧ l ≠ [] ∧ b < w.heap.size ∧
      ∀ i, i < l.length → w.cell? ⟨b, off + i, none⟩ = some (.int .u8 (l.getD i 0))))

/-- The value v is a slice at the head of a block of the call's own, from 'base' on: the bytes l. -/
def Own (w : World) (base : Nat) (v : Value) (l : List Int) : Prop := okB l ∧ w.ownsRow base 5 1 v l.length (vals l)

theorem getD_at {l : List Int} {k : Nat} (h : k < l.length) : l.getD k 0 = l[k] := by simp [h]
theorem okB_nil : okB [] := fun _ h => by cases h
theorem okB.app {a b : List Int} (h : okB a) (k : okB b) : okB (a ++ b) := fun x hx => by
  rcases List.mem_append.1 hx with h' | h'
  · exact h x h'
  · exact k x h'
theorem okB.take {a : List Int} (h : okB a) (n : Nat) : okB (a.take n) := fun x hx => h x (List.mem_of_mem_take hx)
theorem okB.drop {a : List Int} (h : okB a) (n : Nat) : okB (a.drop n) := fun x hx => h x (List.mem_of_mem_drop hx)
theorem okB.at {a : List Int} (h : okB a) (i : Nat) : 0 ≤ a[i]?.getD 0 ∧ a[i]?.getD 0 ≤ 255 := by
  by_cases hi : i < a.length
  · rw [List.getElem?_eq_getElem hi]; exact h _ (List.getElem_mem hi)
  · rw [List.getElem?_eq_none (by omega)]; decide
theorem okB.one {x : Int} (h0 : 0 ≤ x) (h1 : x ≤ 255) : okB [x] := fun y hy => by simp at hy; subst hy; exact ⟨h0, h1⟩

theorem vals_len (l : List Int) : (vals l).length = l.length := by simp [vals]
theorem vals_at {l : List Int} {i : Nat} (h : i < l.length) : (vals l)[i]? = some (.int .u8 (l.getD i 0)) := by simp [vals, h]

/-- What is owned lies in a block between 'base' and the heap's end. -/
theorem Own.lt {w : World} {base : Nat} {v : Value} {l : List Int} (h : Own w base v l) : ∀ k, v.ownBlock = some k → base ≤ k ∧ k < w.heap.size := h.2.lt

theorem Own.mono {w : World} {base base' : Nat} {v : Value} {l : List Int} (h : Own w base v l) (hb : base' ≤ base) : Own w base' v l := by
  refine ⟨h.1, h.2.1, ?_⟩
  rcases h.2.2 with h' | ⟨g, cap, cur, h1, h2, h3⟩
  · exact .inl h'
  · exact .inr ⟨g, cap, cur, h1, by omega, h3⟩

/-- What is owned can be read. -/
theorem Own.byt {w : World} {base : Nat} {v : Value} {l : List Int} (h : Own w base v l) : Byt w v l := by
  obtain ⟨hok, hlen, hrow⟩ := h
  have hl := hlen
  rcases hrow with ⟨rfl, h0⟩ | ⟨g, cap, cur, rfl, hb, hg, hnc, hcm, hcs, htake⟩
  · exact ⟨hok, by omega, .inl ⟨rfl, List.eq_nil_of_length_eq_zero h0⟩⟩
  · refine ⟨hok, by omega, .inr ?_⟩
    by_cases h0 : l = []
    · subst h0; exact .inl ⟨_, cap, rfl, hcm, rfl⟩
    · refine .inr ⟨g, 0, cap, rfl, hnc, hcm, h0, ?_, fun i hi => ?_⟩
      · by_cases hlt : g < w.heap.size
        · exact hlt
        · rw [Array.getElem?_eq_none (by omega)] at hg; cases hg
      · have := World.ownsRow.cellAt (w := w) (base := base) (e := 5) (size := 1) (g := g) (n := l.length) (cap := cap) (xs := vals l) ⟨hlen, .inr ⟨g, cap, cur, rfl, hb, hg, hnc, hcm, hcs, htake⟩⟩ i (by omega)
        rw [vals_at hi] at this
        simpa using this

/-- The length that a readable value bears. -/
theorem Byt.shape {w : World} {v : Value} {l : List Int} (h : Byt w v l) : ∃ a cap, v = .slice a l.length cap ∧ l.length ≤ cap ∧ cap ≤ maxLen := by
  obtain ⟨_, hm, ⟨rfl, rfl⟩ | ⟨x, cap, rfl, hc, rfl⟩ | ⟨b, off, cap, rfl, h1, h2, _⟩⟩ := h
  · exact ⟨none, 0, rfl, Nat.le_refl _, hm⟩
  · exact ⟨some x, cap, rfl, Nat.zero_le _, hc⟩
  · exact ⟨_, cap, rfl, h1, h2⟩

/-- A world in which all blocks that were there stand as they stood. -/
theorem Byt.keep {w w' : World} {v : Value} {l : List Int} (h : Byt w v l) (hb : Below w.heap.size w w') : Byt w' v l := by
  obtain ⟨hok, hm, h1 | h2 | ⟨b, off, cap, rfl, h1, h2, h3, h4, h5⟩⟩ := h
  · exact ⟨hok, hm, .inl h1⟩
  · exact ⟨hok, hm, .inr (.inl h2)⟩
  · exact ⟨hok, hm, .inr (.inr ⟨b, off, cap, rfl, h1, h2, h3, Nat.lt_of_lt_of_le h4 hb.size, fun i hi => by rw [hb.cell (p := ⟨b, off + i, none⟩) h4]; exact h5 i hi⟩)⟩

theorem Own.keep {w w' : World} {base : Nat} {v : Value} {l : List Int} (h : Own w base v l) (hb : Below w.heap.size w w') : Own w' base v l :=
  ⟨h.1, h.2.kept (row := none) ⟨hb.os, hb.tape, hb.output, hb.size, fun k hk _ => hb.block k hk⟩ (by cases hv : v.ownBlock <;> simp)⟩

/-- A write into another block leaves what is owned. -/
theorem Own.keepBy {w w' : World} {base : Nat} {v : Value} {l : List Int} {row : Option Nat} (h : Own w base v l) (hg : w.grownBy w' row) (hne : v.ownBlock = none ∨ v.ownBlock ≠ row) : Own w' base v l :=
  ⟨h.1, h.2.kept hg hne⟩

theorem Below.ofGrown {w w' : World} (h : w.grownBy w' none) : Below w.heap.size w w' := ⟨h.os, h.tape, h.output, h.size, fun k hk => h.block k hk (by simp)⟩
theorem Below.toGrown {w w' : World} (h : Below w.heap.size w w') (row : Option Nat) : w.grownBy w' row := ⟨h.os, h.tape, h.output, h.size, fun k hk _ => h.block k hk⟩

/-- Two steps of which the first keeps all that was there, the second what was there before both. -/
theorem bstep {a b c : World} (h : Below a.heap.size a b) (k : Below b.heap.size b c) : Below a.heap.size a c := h.trans (k.mono h.size)
/-- A write into a block that was not there at the start. -/
theorem bstepBy {a b c : World} {row : Option Nat} (h : Below a.heap.size a b) (k : b.grownBy c row) (hr : ∀ g, row = some g → a.heap.size ≤ g) : Below a.heap.size a c := h.grown k h.size hr
theorem grown_trans {a b c : World} {row : Option Nat} (h : a.grownBy b row) (k : b.grownBy c row) : a.grownBy c row :=
  ⟨k.os.trans h.os, k.tape.trans h.tape, k.output.trans h.output, Nat.le_trans h.size k.size, fun i hi hne => (k.block i (Nat.lt_of_lt_of_le hi h.size) hne).trans (h.block i hi hne)⟩

theorem add_plain (b off i : Nat) : (⟨b, off, none⟩ : Addr).add i = ⟨b, off + i, none⟩ := by
  unfold Addr.add
  by_cases h : i = 0 <;> simp [h]
theorem lt_of_cell {w : World} {a : Addr} {v : Value} (h : w.cell? a = some v) : a.block < w.heap.size := by
  by_cases hlt : a.block < w.heap.size
  · exact hlt
  · unfold World.cell? at h
    rw [Array.getElem?_eq_none (by omega)] at h
    cases h

/-- An argument that was read as a row of numbers is a readable row of bytes. -/
theorem byt_of_row {w : World} {a : Option Addr} {len cap : Nat} {zs : List Int}
    (h : (a = none ∧ len = 0 ∧ cap = 0 ∧ zs = []) ∨ ∃ x, a = some x ∧ len ≤ cap ∧ cap ≤ maxLen ∧ zs.length = cap ∧ (∀ i, i < zs.length → w.cell? (x.add i) = some (.int .u8 (zs.getD i 0))) ∧ ∀ n ∈ zs, (Lit.int .u8 n).wf = true) :
    Byt w (.slice a len cap) (zs.take len) := by
  rcases h with ⟨rfl, rfl, rfl, rfl⟩ | ⟨x, rfl, hl, hm, hz, hcell, hwz⟩
  · exact ⟨okB_nil, by simp [maxLen], .inl ⟨rfl, rfl⟩⟩
  · have hok : okB (zs.take len) := fun n hn => bounds_u8 (hwz n (List.mem_of_mem_take hn))
    have hlen : (zs.take len).length = len := by simp; omega
    by_cases h0 : len = 0
    · subst h0
      exact ⟨hok, by simp [maxLen], .inr (.inl ⟨x, cap, rfl, hm, by simp⟩)⟩
    · obtain ⟨b, off, spot⟩ := x
      have hc := hcell 0 (by omega)
      have hspot : spot = none := by simpa [Addr.add] using World.cell?_spot hc
      subst hspot
      refine ⟨hok, by omega, .inr (.inr ⟨b, off, cap, by rw [hlen], by omega, hm, ?_, ?_, fun i hi => ?_⟩)⟩
      · intro e; rw [e] at hlen; simp at hlen; omega
      · have := lt_of_cell hc; simpa [Addr.add] using this
      · have hi' := hcell i (by omega)
        rw [List.getD_eq_getElem?_getD, List.getElem?_take, if_pos (by omega), ← List.getD_eq_getElem?_getD]
        rw [add_plain] at hi'
        exact hi'

end Go.Proofs.YtpijenlmfmknnaaGreatDoor

/- The law's own helpers over bytes: a copy of a row, by its contract. -/
namespace Go.Proofs.YtpijenlmfmknnaaGreatDoor
open Go.RowKit
set_option linter.unusedVariables false

end Go.Proofs.YtpijenlmfmknnaaGreatDoor

/- An append of a readable row of bytes to an owned one, as one law for the walk. -/
namespace Go.Proofs.YtpijenlmfmknnaaGreatDoor
open Go.RowKit
set_option linter.unusedVariables false

theorem Own.alloc {w : World} {base : Nat} {v : Value} {l : List Int} (h : Own w base v l) (o : Obj) : Own (w.alloc o) base v l := ⟨h.1, h.2.alloc o⟩
theorem Byt.alloc {w : World} {v : Value} {l : List Int} (h : Byt w v l) (o : Obj) : Byt (w.alloc o) v l := h.keep ((Below.refl _ _).alloc (Nat.le_refl _) o)
/-- A block of the call's own that was there when the row was made is no older than 'base'. -/
theorem Own.base_le {w : World} {base : Nat} {v : Value} {l : List Int} (h : Own w base v l) : ∀ g, v.ownBlock = some g → base ≤ g := fun g hg => (h.lt g hg).1

end Go.Proofs.YtpijenlmfmknnaaGreatDoor

/- The cursor over the bytes of a draw, by contracts: it tells some byte, and writes its own block alone. -/
namespace Go.Proofs.YtpijenlmfmknnaaGreatDoor
open Go.RowKit
set_option linter.unusedVariables false

theorem i64_and255 (n : Int) : bits .and .i64 n 255 = n % 256 := by
  have h255 : (BitVec.ofInt 64 255).toNat = 2 ^ 8 - 1 := by decide
  have key : (BitVec.ofInt 64 n &&& BitVec.ofInt 64 255).toNat = (n % ((2 ^ 64 : Nat) : Int)).toNat % 2 ^ 8 := by
    rw [BitVec.toNat_and, BitVec.toNat_ofInt, h255, Nat.and_two_pow_sub_one_eq_mod]
  show IntKind.i64.wrap ((BitVec.ofInt 64 n &&& BitVec.ofInt 64 255).toNat : Nat) = n % 256
  rw [key, IntKind.wrap_i64]
  omega

/-- The block g, made behind w0, is a cursor over the bytes l of the value code, which were there in w0; the world w has them still. -/
structure Cur (w0 w : World) (g : Nat) (code : Value) (l : List Int) : Prop where
  bytes : Byt w0 code l
  below : Below w0.heap.size w0 w
  new : w0.heap.size ≤ g
  cells : ∃ (i : Nat) (h : Int), i ≤ l.length ∧ w.heap[g]? = some (.cells #[code, .int .i64 i, .int .i64 h] 64 (0, 0))

theorem Cur.lt {w0 w : World} {g : Nat} {code : Value} {l : List Int} (h : Cur w0 w g code l) : g < w.heap.size := by
  obtain ⟨i, x, _, hg⟩ := h.cells
  by_cases hlt : g < w.heap.size
  · exact hlt
  · rw [Array.getElem?_eq_none (by omega)] at hg; cases hg

/-- A world in which the cursor's block, and all that was there before it, stand as they stood. -/
theorem Cur.keep {w0 w w' : World} {g : Nat} {code : Value} {l : List Int} {row : Option Nat} (h : Cur w0 w g code l) (hg : w.grownBy w' row) (hne : some g ≠ row) (hr : ∀ k, row = some k → w0.heap.size ≤ k) : Cur w0 w' g code l := by
  refine ⟨h.bytes, h.below.grown hg h.below.size hr, h.new, ?_⟩
  obtain ⟨i, x, hi, hc⟩ := h.cells
  exact ⟨i, x, hi, (hg.block g h.lt hne).trans hc⟩
theorem Cur.keepAll {w0 w w' : World} {g : Nat} {code : Value} {l : List Int} (h : Cur w0 w g code l) (hB : Below w.heap.size w w') : Cur w0 w' g code l :=
  h.keep (Below.toGrown hB none) (by simp) (fun k hk => by cases hk)

theorem set_grown (w : World) (g j : Nat) (v : Value) : w.grownBy (w.setCell ⟨g, j, none⟩ v) (some g) :=
  ⟨rfl, rfl, rfl, by simp, fun k _ hk => heap_setCell_other w ⟨g, j, none⟩ k v (fun e => hk (by simp [e]))⟩
theorem grown_drewN {a b : World} {row : Option Nat} (h : a.grownBy b row) (n : Nat) : a.grownBy (b.drewN n) row := ⟨h.os, h.tape, h.output, h.size, h.block⟩
/-- The cursor behind a step. -/
theorem Cur.turn {w0 w w' : World} {g : Nat} {code : Value} {l : List Int} (h : Cur w0 w g code l) (hw : w.grownBy w' (some g)) (i : Nat) (x : Int) (hi : i ≤ l.length)
    (hc : w'.heap[g]? = some (.cells #[code, .int .i64 i, .int .i64 x] 64 (0, 0))) : Cur w0 w' g code l :=
  ⟨h.bytes, h.below.grown hw h.below.size (fun k hk => by cases hk; exact h.new), h.new, i, x, hi, hc⟩

set_option maxHeartbeats 1600000 in
set_option maxRecDepth 1000000 in
theorem l1Byte_any (w0 w : World) (g : Nat) (code : Value) (l : List Int) (h : Cur w0 w g code l) :
    Calls Tryz.prog 27 #[.pointer (some ⟨g, 0, none⟩)] w fun e w' => ∃ x : Int, 0 ≤ x ∧ x ≤ 255 ∧ e = .returned (.int .i64 x) ∧ Cur w0 w' g code l ∧ w.grownBy w' (some g) := by
  obtain ⟨i, x, hi, hg⟩ := h.cells
  have c0 : w.cell? ⟨g, 0, none⟩ = some code := by rw [cell_of_row w g 0 _ _ _ hg]; rfl
  have c1 : w.cell? ⟨g, 1, none⟩ = some (.int .i64 i) := by rw [cell_of_row w g 1 _ _ _ hg]; rfl
  have c2 : w.cell? ⟨g, 2, none⟩ = some (.int .i64 x) := by rw [cell_of_row w g 2 _ _ _ hg]; rfl
  have f1 : w.frozen? ⟨g, 1, none⟩ = false := frozen_of_row w g 1 _ _ hg
  have f2 : w.frozen? ⟨g, 2, none⟩ = false := frozen_of_row w g 2 _ _ hg
  by_cases hlt : i < l.length
  · obtain ⟨hok, hm, ⟨rfl, rfl⟩ | ⟨y, cap, rfl, hc, rfl⟩ | ⟨b, off, cap, rfl, h1, h2, h3, h4, h5⟩⟩ := h.bytes
    · simp at hlt
    · simp at hlt
    obtain ⟨c, hc⟩ : ∃ c, c = l.getD i 0 := ⟨_, rfl⟩
    have hcx : w.cell? ⟨b, off + i, none⟩ = some (.int .u8 c) := by rw [hc]; exact (h.below.cell (p := ⟨b, off + i, none⟩) h4).trans (h5 i hlt)
    have hcb : 0 ≤ c ∧ c ≤ 255 := by rw [hc, List.getD_eq_getElem?_getD]; exact hok.at _
    have hbg : b ≠ g := by have := h.new; omega
    have hi' : (i : Int) < (l.length : Int) := by omega
    unfold maxLen at hm h2
    clear hc h5
    have HG := hide hg
    have HH := hide h
    clear hg h
    obtain ⟨hcb0, hcb1⟩ := hcb
    go_enter Tryz.func27, Tryz.ntmps27
    go_wp2
    generalize wrap64 (wrap64 (x * 6364136223846793005) + 1442695040888963407) = y
    go_quiet (fail)
    go_wp2
    go_quiet (fail)
    go_wp2
    rw [i64_and255]
    generalize bits BinOp.xor IntKind.i64 (y / 8589934592) (y / 35184372088832) = z
    go_quiet (fail)
    go_wp2
    rw [i64_and255]
    go_ret
    refine ⟨(z % 256 + c) % 256, by omega, by omega, rfl, (unhide HH).turn ?hw (i + 1) y (by omega) ?hc, ?hw⟩
    case hw => repeat (first | exact set_grown _ _ _ _ | refine grown_drewN ?_ _ | refine grown_trans ?_ (set_grown _ _ _ _))
    case hc =>
      rw [show ((i + 1 : Nat) : Int) = (i : Int) + 1 by omega]
      exact heap_setCell_same _ g 1 _ _ _ (heap_setCell_same w g 2 _ _ _ (unhide HG))
  · obtain ⟨a, cap, rfl, hlc, hcm⟩ := h.bytes.shape
    have hm := h.bytes.2.1
    unfold maxLen at hm
    have hi' : ¬ (i : Int) < (l.length : Int) := by omega
    have HG := hide hg
    have HH := hide h
    clear hg h
    go_enter Tryz.func27, Tryz.ntmps27
    go_wp2
    generalize wrap64 (wrap64 (x * 6364136223846793005) + 1442695040888963407) = y
    go_quiet (fail)
    go_wp2
    go_quiet (fail)
    go_wp2
    rw [i64_and255]
    generalize bits BinOp.xor IntKind.i64 (y / 8589934592) (y / 35184372088832) = z
    go_ret
    refine ⟨z % 256, by omega, by omega, rfl, (unhide HH).turn ?hw i y hi ?hc, ?hw⟩
    case hw => repeat (first | exact set_grown _ _ _ _ | refine grown_drewN ?_ _ | refine grown_trans ?_ (set_grown _ _ _ _))
    case hc => exact heap_setCell_same w g 2 _ _ _ (unhide HG)
theorem tmod_below {x n : Int} (hx0 : 0 ≤ x) (hn : 1 ≤ n) : 0 ≤ x % n ∧ x % n < n := ⟨Int.emod_nonneg _ (by omega), Int.emod_lt_of_pos _ (by omega)⟩

set_option maxHeartbeats 1600000 in
theorem l1Below_any (w0 w : World) (g : Nat) (code : Value) (l : List Int) (n : Int) (h : Cur w0 w g code l) (hn : 1 ≤ n) (hn1 : n ≤ 1000000000) :
    Calls Tryz.prog 16 #[.pointer (some ⟨g, 0, none⟩), .int .i64 n] w fun e w' => ∃ x : Int, 0 ≤ x ∧ x < n ∧ e = .returned (.int .i64 x) ∧ Cur w0 w' g code l ∧ w.grownBy w' (some g) := by
  by_cases h256 : n ≤ 256
  · go_enter Tryz.func16, Tryz.ntmps16
    go_wp2_with fail
    refine (l1Byte_any w0 w g code l h).mono ?_
    rintro e w1 ⟨x, hx0, hx1, rfl, hC, hG⟩
    have hb := tmod_below hx0 hn
    have HB := hide hb
    clear hb
    go_wp2
    go_ret
    exact ⟨_, (unhide HB).1, (unhide HB).2, rfl, hC, hG⟩
  · go_enter Tryz.func16, Tryz.ntmps16
    go_wp2_with fail
    refine (l1Byte_any w0 w g code l h).mono ?_
    rintro e w1 ⟨x1, hx0, hx1, rfl, hC1, hG1⟩
    go_wp2_with fail
    refine (l1Byte_any w0 w1 g code l hC1).mono ?_
    rintro e w2 ⟨x2, hy0, hy1, rfl, hC2, hG2⟩
    go_wp2_with fail
    refine (l1Byte_any w0 w2 g code l hC2).mono ?_
    rintro e w3 ⟨x3, hz0, hz1, rfl, hC3, hG3⟩
    go_wp2_with fail
    refine (l1Byte_any w0 w3 g code l hC3).mono ?_
    rintro e w4 ⟨x4, hu0, hu1, rfl, hC4, hG4⟩
    have hb := tmod_below (x := x1 * 16777216 + x2 * 65536 + x3 * 256 + x4) (by omega) hn
    have HB := hide hb
    have HG := hide (grown_trans (grown_trans (grown_trans hG1 hG2) hG3) hG4)
    clear hb hG1 hG2 hG3 hG4 hC1 hC2 hC3
    go_wp2
    go_ret
    exact ⟨_, (unhide HB).1, (unhide HB).2, rfl, hC4, unhide HG⟩

set_option maxHeartbeats 1600000 in
theorem l1Once_any (w0 w : World) (g : Nat) (code : Value) (l : List Int) (n : Int) (h : Cur w0 w g code l) (hn : 1 ≤ n) (hn1 : n ≤ 1000000000) :
    Calls Tryz.prog 15 #[.pointer (some ⟨g, 0, none⟩), .int .i64 n] w fun e w' => ∃ b : Bool, e = .returned (.bool b) ∧ Cur w0 w' g code l ∧ w.grownBy w' (some g) := by
  go_enter Tryz.func15, Tryz.ntmps15
  go_wp2_with fail
  refine (l1Below_any w0 w g code l n h hn hn1).mono ?_
  rintro e w1 ⟨x, hx0, hx1, rfl, hC, hG⟩
  go_wp2
  go_ret
  exact ⟨_, rfl, hC, hG⟩

/-- A slice of whole numbers that can be read. -/
def IntsC (w : World) (v : Value) (l : List Int) : Prop := ∃ b off cap, v = .slice (some ⟨b, off, none⟩) l.length cap ∧ b < w.heap.size ∧ ∀ i, i < l.length → w.cell? ⟨b, off + i, none⟩ = some (.int .i64 (l.getD i 0))

set_option maxHeartbeats 1600000 in
theorem l1PickInt_any (w0 w : World) (g : Nat) (code : Value) (l : List Int) (v : Value) (m : List Int) (h : Cur w0 w g code l) (hm0 : 1 ≤ m.length) (hm1 : m.length ≤ 1000) (hv : IntsC w v m) (hne : ∀ a n c, v = .slice (some a) n c → a.block ≠ g) :
    Calls Tryz.prog 26 #[.pointer (some ⟨g, 0, none⟩), v] w fun e w' => ∃ x ∈ m, e = .returned (.int .i64 x) ∧ Cur w0 w' g code l ∧ w.grownBy w' (some g) := by
  obtain ⟨b, off, cap, rfl, hb, hc⟩ := hv
  have hbg : b ≠ g := hne _ _ _ rfl
  clear hne
  go_enter Tryz.func26, Tryz.ntmps26
  go_wp2_with fail
  refine (l1Below_any w0 w g code l m.length h (by omega) (by omega)).mono ?_
  rintro e w1 ⟨x, hx0, hx1, rfl, hC, hG⟩
  obtain ⟨j, rfl⟩ := Int.eq_ofNat_of_zero_le hx0
  have hj : j < m.length := by omega
  obtain ⟨y, hy⟩ : ∃ y, y = m.getD j 0 := ⟨_, rfl⟩
  have hcj : w1.cell? ⟨b, off + j, none⟩ = some (.int .i64 y) := by rw [hy]; exact hG.cell (a := ⟨b, off + j, none⟩) (hc j hj) (by simp; omega)
  have hmem : y ∈ m := by rw [hy, getD_at hj]; exact List.getElem_mem hj
  clear hc hy
  have hG' := hide hG
  clear hG
  go_wp2
  go_ret
  exact ⟨y, hmem, rfl, hC, unhide hG'⟩

end Go.Proofs.YtpijenlmfmknnaaGreatDoor

/- The cursor at its beginning. -/
namespace Go.Proofs.YtpijenlmfmknnaaGreatDoor
open Go.RowKit
set_option linter.unusedVariables false

/-- What a new cursor is. -/
theorem Cur.made (w : World) (code : Value) (l : List Int) (x : Int) (h : Byt w code l) : Cur w (w.alloc (.cells #[code, .int .i64 0, .int .i64 x] 64)) w.heap.size code l :=
  ⟨h, (Below.refl _ _).alloc (Nat.le_refl _) _, Nat.le_refl _, 0, x, Nat.zero_le _, heap_alloc_new w _⟩

set_option maxHeartbeats 1600000 in
theorem l1New_any (w : World) (code : Value) (l : List Int) (h : Byt w code l) :
    Calls Tryz.prog 12 #[code] w fun e w' => e = .returned (.pointer (some ⟨w.heap.size, 0, none⟩)) ∧ Cur w w' w.heap.size code l ∧ Below w.heap.size w w' := by
  have hm := h.2.1
  unfold maxLen at hm
  by_cases h0 : l = []
  · obtain ⟨a, cap, rfl, _⟩ := h.shape
    subst h0
    go_enter Tryz.func12, Tryz.ntmps12
    go_wp2
    refine wp_loop_rounds 1 ?_
    rw [rounds_succ]
    go_wp2
    go_ret
    exact ⟨rfl, Cur.made _ _ _ _ h, (Below.refl _ _).alloc (Nat.le_refl _) _⟩
  · have h' := h
    obtain ⟨hok, _, ⟨rfl, rfl⟩ | ⟨x, cap, rfl, hc, rfl⟩ | ⟨b, off, cap, rfl, h1, h2, h3, h4, h5⟩⟩ := h'
    · exact absurd rfl h0
    · exact absurd rfl h0
    go_enter Tryz.func12, Tryz.ntmps12
    go_wp2
    go_loop [3, 4] (fun x i => ∃ (k : Nat) (y : Int), k ≤ l.length ∧ i = .int .i64 k ∧ x = .int .i64 y) (fun _ i => l.length - (intOf i).toNat)
    case atStart => exact ⟨0, _, Nat.zero_le _, rfl, rfl⟩
    case round =>
      obtain ⟨k, y, hk, rfl, rfl⟩ := hrel
      by_cases hlt : k < l.length
      · obtain ⟨c, hcc⟩ : ∃ c, c = l.getD k 0 := ⟨_, rfl⟩
        have hcx : w.cell? ⟨b, off + k, none⟩ = some (.int .u8 c) := by rw [hcc]; exact h5 k hlt
        have hcb : 0 ≤ c ∧ c ≤ 255 := by rw [hcc, List.getD_eq_getElem?_getD]; exact hok.at _
        have hlt' : (k : Int) < (l.length : Int) := by omega
        obtain ⟨hcb0, hcb1⟩ := hcb
        clear h5 hcc
        by_cases h4k : k < 4000
        · have h4k' : (k : Int) < 4000 := by omega
          go_wp2
          go_round
          case rel => exact ⟨k + 1, _, by omega, by go_num, rfl⟩
          case measure => simp [intOf]; omega
        · have h4k' : ¬ (k : Int) < 4000 := by omega
          go_wp2
          go_ret
          exact ⟨rfl, Cur.made _ _ _ _ h, (Below.refl _ _).alloc (Nat.le_refl _) _⟩
      · have hlt' : decide ((k : Int) < (l.length : Int)) = false := by simp; omega
        clear h5
        go_wp2
        go_ret
        exact ⟨rfl, Cur.made _ _ _ _ h, (Below.refl _ _).alloc (Nat.le_refl _) _⟩

/-- An owned row that was made behind the cursor keeps its bytes while the cursor goes on. -/
theorem Own.past {w w' : World} {base g : Nat} {v : Value} {l : List Int} (h : Own w base v l) (hg : w.grownBy w' (some g)) (hb : g < base) : Own w' base v l :=
  h.keepBy hg (.inr (fun e => by have := h.base_le g e; omega))

/-- A step that writes a block which was not there at the start adds nothing to what may have been written. -/
theorem grown_new {a b c : World} {row row' : Option Nat} (h : a.grownBy b row) (k : b.grownBy c row') (hr : ∀ q, row' = some q → a.heap.size ≤ q) : a.grownBy c row :=
  ⟨k.os.trans h.os, k.tape.trans h.tape, k.output.trans h.output, Nat.le_trans h.size k.size, fun i hi hne => (k.block i (Nat.lt_of_lt_of_le hi h.size) (fun e => by have := hr i e.symm; omega)).trans (h.block i hi hne)⟩
theorem grown_below {a b c : World} {row : Option Nat} (h : a.grownBy b row) (k : Below b.heap.size b c) : a.grownBy c row := grown_new h (Below.toGrown k none) (fun q hq => by cases hq)

end Go.Proofs.YtpijenlmfmknnaaGreatDoor

/- Blocks of a call's own: what is known of them whole, and what becomes of them while others are written. -/
namespace Go.Proofs.YtpijenlmfmknnaaGreatDoor
open Go.RowKit
set_option linter.unusedVariables false

/-- The block of an owned slice. -/
def FB (v : Value) : List Nat := v.ownBlock.toList

/-- Of the blocks that were there none but those in S has turned. -/
structure Frm (w w' : World) (S : List Nat) : Prop where
  os : w'.os = w.os
  tape : w'.tape = w.tape
  output : w'.output = w.output
  size : w.heap.size ≤ w'.heap.size
  block : ∀ k, k < w.heap.size → k ∉ S → w'.heap[k]? = w.heap[k]?

theorem Frm.refl (w : World) (S : List Nat) : Frm w w S := ⟨rfl, rfl, rfl, Nat.le_refl _, fun _ _ _ => rfl⟩
theorem Frm.trans {a b c : World} {S : List Nat} (h : Frm a b S) (k : Frm b c S) : Frm a c S :=
  ⟨k.os.trans h.os, k.tape.trans h.tape, k.output.trans h.output, Nat.le_trans h.size k.size, fun i hi hn => (k.block i (Nat.lt_of_lt_of_le hi h.size) hn).trans (h.block i hi hn)⟩
theorem Frm.mono {a b : World} {S S' : List Nat} (h : Frm a b S) (hs : ∀ g ∈ S, g ∈ S') : Frm a b S' := ⟨h.os, h.tape, h.output, h.size, fun i hi hn => h.block i hi (fun e => hn (hs i e))⟩
theorem Frm.ofBelow {a b : World} (h : Below a.heap.size a b) (S : List Nat) : Frm a b S := ⟨h.os, h.tape, h.output, h.size, fun i hi _ => h.block i hi⟩
theorem Frm.ofGrown {a b : World} {row : Option Nat} (h : a.grownBy b row) : Frm a b row.toList := ⟨h.os, h.tape, h.output, h.size, fun i hi hn => h.block i hi (fun e => hn (by rw [← e]; simp))⟩
theorem Frm.below {a b : World} {S : List Nat} {B : Nat} (h : Frm a b S) (hB : B ≤ a.heap.size) (hs : ∀ g ∈ S, B ≤ g) : Below B a b := ⟨h.os, h.tape, h.output, h.size, fun i hi => h.block i (by omega) (fun e => by have := hs i e; omega)⟩
/-- A step that writes blocks which were not there at the start. -/
theorem Frm.new {a b c : World} {S S' : List Nat} (h : Frm a b S) (k : Frm b c S') (hs : ∀ g ∈ S', a.heap.size ≤ g) : Frm a c S :=
  ⟨k.os.trans h.os, k.tape.trans h.tape, k.output.trans h.output, Nat.le_trans h.size k.size, fun i hi hn => (k.block i (Nat.lt_of_lt_of_le hi h.size) (fun e => by have := hs i e; omega)).trans (h.block i hi hn)⟩

theorem ownsRow_frm {w w' : World} {base : Nat} {e : TypeId} {size : Nat} {v : Value} {n : Nat} {xs : List Value} {S : List Nat} (h : w.ownsRow base e size v n xs) (f : Frm w w' S) (hd : ∀ g ∈ FB v, g ∉ S) : w'.ownsRow base e size v n xs := by
  refine ⟨h.1, ?_⟩
  rcases h.2 with h' | ⟨g, cap, cur, rfl, hb, hg, hr⟩
  · exact .inl h'
  · have hlt : g < w.heap.size := by
      by_cases hlt : g < w.heap.size
      · exact hlt
      · rw [Array.getElem?_eq_none (by omega)] at hg; cases hg
    exact .inr ⟨g, cap, cur, rfl, hb, (f.block g hlt (hd g (by simp [FB, Value.ownBlock]))).trans hg, hr⟩
theorem Own.frm {w w' : World} {base : Nat} {v : Value} {l : List Int} {S : List Nat} (h : Own w base v l) (f : Frm w w' S) (hd : ∀ g ∈ FB v, g ∉ S) : Own w' base v l := ⟨h.1, ownsRow_frm h.2 f hd⟩
/-- Blocks from lo on, below hi. -/
def Rng (F : List Nat) (lo hi : Nat) : Prop := ∀ g ∈ F, lo ≤ g ∧ g < hi
theorem Rng.mono {F : List Nat} {lo hi lo' hi' : Nat} (h : Rng F lo hi) (h1 : lo' ≤ lo) (h2 : hi ≤ hi') : Rng F lo' hi' := fun g hg => by have := h g hg; omega
theorem Rng.app {F G : List Nat} {lo hi : Nat} (h : Rng F lo hi) (k : Rng G lo hi) : Rng (F ++ G) lo hi := fun g hg => by
  rcases List.mem_append.1 hg with h' | h'
  · exact h g h'
  · exact k g h'
theorem Rng.nil (lo hi : Nat) : Rng [] lo hi := fun g hg => by cases hg
/-- A block of the call's own that is known whole. -/
def Loc (w : World) (g : Nat) (cs : Array Value) (T : TypeId) : Prop := w.heap[g]? = some (.cells cs T (0, 0))
theorem Loc.lt {w : World} {g : Nat} {cs : Array Value} {T : TypeId} (h : Loc w g cs T) : g < w.heap.size := by
  by_cases hlt : g < w.heap.size
  · exact hlt
  · unfold Loc at h; rw [Array.getElem?_eq_none (by omega)] at h; cases h
theorem Loc.cell {w : World} {g : Nat} {cs : Array Value} {T : TypeId} (h : Loc w g cs T) (j : Nat) : w.cell? ⟨g, j, none⟩ = cs[j]? := cell_of_row w g j cs T (0, 0) h
theorem Loc.frozen {w : World} {g : Nat} {cs : Array Value} {T : TypeId} (h : Loc w g cs T) (j : Nat) : w.frozen? ⟨g, j, none⟩ = false := frozen_of_row w g j cs T h
theorem Loc.keep {w w' : World} {g : Nat} {cs : Array Value} {T : TypeId} {B : Nat} (h : Loc w g cs T) (hb : Below B w w') (hB : g < B) : Loc w' g cs T := (hb.block g hB).trans h
theorem Loc.all {w w' : World} {g : Nat} {cs : Array Value} {T : TypeId} (h : Loc w g cs T) (hb : Below w.heap.size w w') : Loc w' g cs T := h.keep hb h.lt
theorem Loc.frm {w w' : World} {g : Nat} {cs : Array Value} {T : TypeId} {S : List Nat} (h : Loc w g cs T) (f : Frm w w' S) (hn : g ∉ S) : Loc w' g cs T := (f.block g h.lt hn).trans h
theorem Loc.set {w : World} {g : Nat} {cs : Array Value} {T : TypeId} (h : Loc w g cs T) (j : Nat) (v : Value) : Loc (w.setCell ⟨g, j, none⟩ v) g (cs.setIfInBounds j v) T := heap_setCell_same w g j cs T v h
theorem Loc.other {w : World} {g : Nat} {cs : Array Value} {T : TypeId} (h : Loc w g cs T) (q j : Nat) (v : Value) (hn : g ≠ q) : Loc (w.setCell ⟨q, j, none⟩ v) g cs T := (heap_setCell_other w ⟨q, j, none⟩ g v hn).trans h
theorem Loc.alloc {w : World} {g : Nat} {cs : Array Value} {T : TypeId} (h : Loc w g cs T) (o : Obj) : Loc (w.alloc o) g cs T := (heap_alloc_old w o h.lt).trans h
theorem Loc.made (w : World) (cs : Array Value) (T : TypeId) : Loc (w.alloc (.cells cs T)) w.heap.size cs T := heap_alloc_new w _
end Go.Proofs.YtpijenlmfmknnaaGreatDoor

/- spec.l4drawId: an id that is drawn. -/
namespace Go.Proofs.YtpijenlmfmknnaaGreatDoor
open Go.RowKit
set_option linter.unusedVariables false
set_option maxRecDepth 100000

end Go.Proofs.YtpijenlmfmknnaaGreatDoor

/- Rows of ints in memory: what may be read, what is owned. -/
namespace Go.Proofs.YtpijenlmfmknnaaGreatDoor
open Go.RowKit
set_option linter.unusedVariables false

/-- Each number is a byte. -/
def okZ (l : List Int) : Prop := ∀ x ∈ l, -9223372036854775808 ≤ x ∧ x ≤ 9223372036854775807

/-- The cells of a row of bytes. -/
def valz (l : List Int) : List Value := l.map (Value.int .i64)

/-- The value v is a slice whose elements can be read in w: the bytes l. -/
def Ints (w : World) (v : Value) (l : List Int) : Prop :=
  okZ l ∧ l.length ≤ maxLen ∧
  ((v = .slice none 0 0 ∧ l = []) ∨
   (∃ x cap, v = .slice (some x) 0 cap ∧ cap ≤ maxLen ∧ l = []) ∨
   (∃ b off cap, v = .slice (some ⟨b, off, none⟩) l.length cap ∧ l.length ≤ cap ∧ cap ≤ maxLen ∧ l ≠ [] ∧ b < w.heap.size ∧
      ∀ i, i < l.length → w.cell? ⟨b, off + i, none⟩ = some (.int .i64 (l.getD i 0))))

/-- The value v is a slice at the head of a block of the call's own, from 'base' on: the bytes l. -/
def OwnZ (w : World) (base : Nat) (v : Value) (l : List Int) : Prop := okZ l ∧ w.ownsRow base 3 1 v l.length (valz l)

theorem okZ_nil : okZ [] := fun _ h => by cases h
theorem okZ.app {a b : List Int} (h : okZ a) (k : okZ b) : okZ (a ++ b) := fun x hx => by
  rcases List.mem_append.1 hx with h' | h'
  · exact h x h'
  · exact k x h'
theorem okZ.take {a : List Int} (h : okZ a) (n : Nat) : okZ (a.take n) := fun x hx => h x (List.mem_of_mem_take hx)
theorem okZ.drop {a : List Int} (h : okZ a) (n : Nat) : okZ (a.drop n) := fun x hx => h x (List.mem_of_mem_drop hx)
theorem okZ.at {a : List Int} (h : okZ a) (i : Nat) : -9223372036854775808 ≤ a[i]?.getD 0 ∧ a[i]?.getD 0 ≤ 9223372036854775807 := by
  by_cases hi : i < a.length
  · rw [List.getElem?_eq_getElem hi]; exact h _ (List.getElem_mem hi)
  · rw [List.getElem?_eq_none (by omega)]; decide
theorem okZ.one {x : Int} (h0 : -9223372036854775808 ≤ x) (h1 : x ≤ 9223372036854775807) : okZ [x] := fun y hy => by simp at hy; subst hy; exact ⟨h0, h1⟩

theorem valz_len (l : List Int) : (valz l).length = l.length := by simp [valz]
theorem valz_app (a b : List Int) : valz (a ++ b) = valz a ++ valz b := by simp [valz]
theorem valz_one (l : List Int) : ∀ u ∈ valz l, u.oneCell' = true := ints_oneCell _ _
theorem valz_at {l : List Int} {i : Nat} (h : i < l.length) : (valz l)[i]? = some (.int .i64 (l.getD i 0)) := by simp [valz, h]

/-- What is owned lies in a block between 'base' and the heap's end. -/
theorem OwnZ.lt {w : World} {base : Nat} {v : Value} {l : List Int} (h : OwnZ w base v l) : ∀ k, v.ownBlock = some k → base ≤ k ∧ k < w.heap.size := h.2.lt

theorem OwnZ.mono {w : World} {base base' : Nat} {v : Value} {l : List Int} (h : OwnZ w base v l) (hb : base' ≤ base) : OwnZ w base' v l := by
  refine ⟨h.1, h.2.1, ?_⟩
  rcases h.2.2 with h' | ⟨g, cap, cur, h1, h2, h3⟩
  · exact .inl h'
  · exact .inr ⟨g, cap, cur, h1, by omega, h3⟩

/-- What is owned can be read. -/
theorem OwnZ.ints {w : World} {base : Nat} {v : Value} {l : List Int} (h : OwnZ w base v l) : Ints w v l := by
  obtain ⟨hok, hlen, hrow⟩ := h
  have hl := hlen
  rcases hrow with ⟨rfl, h0⟩ | ⟨g, cap, cur, rfl, hb, hg, hnc, hcm, hcs, htake⟩
  · exact ⟨hok, by omega, .inl ⟨rfl, List.eq_nil_of_length_eq_zero h0⟩⟩
  · refine ⟨hok, by omega, .inr ?_⟩
    by_cases h0 : l = []
    · subst h0; exact .inl ⟨_, cap, rfl, hcm, rfl⟩
    · refine .inr ⟨g, 0, cap, rfl, hnc, hcm, h0, ?_, fun i hi => ?_⟩
      · by_cases hlt : g < w.heap.size
        · exact hlt
        · rw [Array.getElem?_eq_none (by omega)] at hg; cases hg
      · have := World.ownsRow.cellAt (w := w) (base := base) (e := 3) (size := 1) (g := g) (n := l.length) (cap := cap) (xs := valz l) ⟨hlen, .inr ⟨g, cap, cur, rfl, hb, hg, hnc, hcm, hcs, htake⟩⟩ i (by omega)
        rw [valz_at hi] at this
        simpa using this

/-- The length that a readable value bears. -/
theorem Ints.shape {w : World} {v : Value} {l : List Int} (h : Ints w v l) : ∃ a cap, v = .slice a l.length cap ∧ l.length ≤ cap ∧ cap ≤ maxLen := by
  obtain ⟨_, hm, ⟨rfl, rfl⟩ | ⟨x, cap, rfl, hc, rfl⟩ | ⟨b, off, cap, rfl, h1, h2, _⟩⟩ := h
  · exact ⟨none, 0, rfl, Nat.le_refl _, hm⟩
  · exact ⟨some x, cap, rfl, Nat.zero_le _, hc⟩
  · exact ⟨_, cap, rfl, h1, h2⟩

/-- A world in which all blocks that were there stand as they stood. -/
theorem Ints.keep {w w' : World} {v : Value} {l : List Int} (h : Ints w v l) (hb : Below w.heap.size w w') : Ints w' v l := by
  obtain ⟨hok, hm, h1 | h2 | ⟨b, off, cap, rfl, h1, h2, h3, h4, h5⟩⟩ := h
  · exact ⟨hok, hm, .inl h1⟩
  · exact ⟨hok, hm, .inr (.inl h2)⟩
  · exact ⟨hok, hm, .inr (.inr ⟨b, off, cap, rfl, h1, h2, h3, Nat.lt_of_lt_of_le h4 hb.size, fun i hi => by rw [hb.cell (p := ⟨b, off + i, none⟩) h4]; exact h5 i hi⟩)⟩

theorem OwnZ.keep {w w' : World} {base : Nat} {v : Value} {l : List Int} (h : OwnZ w base v l) (hb : Below w.heap.size w w') : OwnZ w' base v l :=
  ⟨h.1, h.2.kept (row := none) ⟨hb.os, hb.tape, hb.output, hb.size, fun k hk _ => hb.block k hk⟩ (by cases hv : v.ownBlock <;> simp)⟩

/-- A write into another block leaves what is owned. -/
theorem OwnZ.keepBy {w w' : World} {base : Nat} {v : Value} {l : List Int} {row : Option Nat} (h : OwnZ w base v l) (hg : w.grownBy w' row) (hne : v.ownBlock = none ∨ v.ownBlock ≠ row) : OwnZ w' base v l :=
  ⟨h.1, h.2.kept hg hne⟩

end Go.Proofs.YtpijenlmfmknnaaGreatDoor

/- The law's own helpers over ints: a copy of a row, by its contract. -/
namespace Go.Proofs.YtpijenlmfmknnaaGreatDoor
open Go.RowKit
set_option linter.unusedVariables false

theorem Tryz.info3 : (Tryz.prog.info? 3).map (fun i => (i.zero, i.size, i.bytes)) = some (some (.int .i64 0), 1, 8) := by kernel_rfl

end Go.Proofs.YtpijenlmfmknnaaGreatDoor

/- An append of a readable row of ints to an owned one, as one law for the walk. -/
namespace Go.Proofs.YtpijenlmfmknnaaGreatDoor
open Go.RowKit
set_option linter.unusedVariables false

/-- 'append(out, src...)': out owned, src readable: what comes is owned, and no block but out's own has been written. -/
theorem wpList_appZ {w : World} {ops : Array Oper} {rest : List Oper} {o : Oper} {a : Act} {Q : Exit → Act → World → Prop} (hgd : o.guard = none) (s x : Operand)
    (ho : o.op = .call { callee := .builtin .append, args := #[s, x], argTypes := #[23, 23] })
    (base : Nat) (v : Value) (l : List Int) (hs : a.eval s = v) (hown : OwnZ w base v l) (u : Value) (m : List Int) (hx : a.eval x = u) (hu : Ints w u m)
    (hlen : l.length + m.length ≤ 134217728) (hbase : base ≤ w.heap.size)
    (h : ∀ v' w', OwnZ w' base v' (l ++ m) → w.grownBy w' v.ownBlock → wpList Tryz.prog ops Q rest (a.put o.dst v') w') : wpList Tryz.prog ops Q (o :: rest) a w := by
  obtain ⟨i0, hi, hz0, hz1, hz2⟩ := info_parts Tryz.info3
  have hfull : ∀ (ad : Addr) (c : Nat), a.eval x = .slice (some ad) m.length c → (∀ j, j < m.length → w.cell? (ad.add j) = some (.int .i64 (m.getD j 0))) → wpList Tryz.prog ops Q (o :: rest) a w := by
    intro ad c hx' hc
    refine wpList_append_own _ hgd s x 23 ho base 3 i0 (.int .i64 0) 1 8 Tryz.underlying23 hi hz0 hz1 hz2 rfl (by decide) v l.length (valz l) hs hown.2 ad m.length c (valz m) hx' (by rw [valz_len]; omega) ?_ (valz_one m) (by unfold maxLen; omega) (by omega) hbase ?_
    · intro j y hj
      have hlt : j < m.length := by
        by_cases hlt : j < m.length
        · exact hlt
        · rw [List.getElem?_eq_none (by rw [valz_len]; omega)] at hj; cases hj
      rw [valz_at hlt] at hj
      rw [hc j hlt]; exact hj
    · intro v' w' h1 h2 _
      refine h v' w' ⟨hown.1.app hu.1, ?_⟩ h2
      rw [valz_app, List.length_append]; exact h1
  obtain ⟨hok, hm, ⟨rfl, rfl⟩ | ⟨y, cap, rfl, hc, rfl⟩ | ⟨b, off, cap, rfl, h1, h2, h3, h4, h5⟩⟩ := hu
  · refine wpList_append_own_none hgd s x 23 ho base 3 i0 1 Tryz.underlying23 hi v l.length (valz l) hs hown.2 hx ?_
    exact h v w (by rw [List.append_nil]; exact hown) (World.grownBy.refl _ _)
  · exact hfull y cap hx (fun j hj => by simp at hj)
  · exact hfull ⟨b, off, none⟩ cap hx (fun j hj => by rw [add_plain]; exact h5 j hj)

/-- A new block of one int. -/
theorem int_one (w : World) (x : Int) (h0 : -9223372036854775808 ≤ x) (h1 : x ≤ 9223372036854775807) : Ints (w.alloc (.cells #[.int .i64 x] 3)) (.slice (some ⟨w.heap.size, 0, none⟩) 1 1) [x] := by
  refine ⟨okZ.one h0 h1, by simp [maxLen], .inr (.inr ⟨w.heap.size, 0, 1, rfl, by simp, by simp [maxLen], by simp, by simp, fun i hi => ?_⟩)⟩
  have e : i = 0 := by simpa using hi
  subst e
  simp
/-- No row at all. -/
theorem ownz_nil (w : World) (base : Nat) : OwnZ w base (.slice none 0 0) [] := ⟨okZ_nil, rfl, .inl ⟨rfl, rfl⟩⟩
theorem OwnZ.alloc {w : World} {base : Nat} {v : Value} {l : List Int} (h : OwnZ w base v l) (o : Obj) : OwnZ (w.alloc o) base v l := ⟨h.1, h.2.alloc o⟩
theorem Ints.alloc {w : World} {v : Value} {l : List Int} (h : Ints w v l) (o : Obj) : Ints (w.alloc o) v l := h.keep ((Below.refl _ _).alloc (Nat.le_refl _) o)
/-- A block of the call's own that was there when the row was made is no older than 'base'. -/
theorem OwnZ.base_le {w : World} {base : Nat} {v : Value} {l : List Int} (h : OwnZ w base v l) : ∀ g, v.ownBlock = some g → base ≤ g := fun g hg => (h.lt g hg).1

end Go.Proofs.YtpijenlmfmknnaaGreatDoor

/- spec.l4drawKey: a row of numbers that is drawn. -/
namespace Go.Proofs.YtpijenlmfmknnaaGreatDoor
open Go.RowKit
set_option linter.unusedVariables false
set_option maxRecDepth 100000

theorem OwnZ.past {w w' : World} {base g : Nat} {v : Value} {l : List Int} (h : OwnZ w base v l) (hg : w.grownBy w' (some g)) (hb : g < base) : OwnZ w' base v l :=
  h.keepBy hg (.inr (fun e => by have := h.base_le g e; omega))
theorem intsC_made (w : World) (m : List Int) (n : Nat) (hn : m.length = n) : IntsC (w.alloc (.cells (m.map (Value.int .i64)).toArray 3)) (.slice (some ⟨w.heap.size, 0, none⟩) n n) m := by
  subst hn
  refine ⟨w.heap.size, 0, m.length, rfl, by simp, fun i hi => ?_⟩
  rw [World.cell?_alloc_at _ _ _ _ rfl]
  simp [hi]

/-- A slice's length. -/
def slen : Value → Nat
  | .slice _ n _ => n
  | _ => 0

set_option maxHeartbeats 6400000 in
theorem drawKey_any (w0 w : World) (g : Nat) (code : Value) (l : List Int) (h : Cur w0 w g code l) :
    Calls Tryz.prog 13 #[.pointer (some ⟨g, 0, none⟩)] w fun e w' => ∃ a c k, e = .returned (.slice a k.length c) ∧ OwnZ w' w.heap.size (.slice a k.length c) k ∧ k.length ≤ 13 ∧ Cur w0 w' g code l ∧ w.grownBy w' (some g) := by
  have hgl := h.lt
  go_enter Tryz.func13, Tryz.ntmps13
  go_wp2_with fail
  refine (l1Below_any w0 w g code l 3 h (by omega) (by omega)).mono ?_
  rintro e w1 ⟨n, hn0, hn1, rfl, hC1, hG1⟩
  go_wp2_with fail
  obtain ⟨n, rfl⟩ := Int.eq_ofNat_of_zero_le hn0
  have hn2 : n < 3 := by omega
  clear hn0 hn1
  go_loopw [3, 5] (fun o i wr => ∃ (j : Nat) (a : Option Addr) (c : Nat) (k : List Int), j ≤ 1 + n ∧ i = .int .i64 j ∧ o = .slice a k.length c ∧ OwnZ wr w.heap.size (.slice a k.length c) k ∧ k.length = j ∧ Cur w0 wr g code l ∧ w.grownBy wr (some g)) (fun _ i _ => 1 + n - (intOf i).toNat)
  case atStart => exact ⟨0, none, 0, [], Nat.zero_le _, rfl, rfl, ownz_nil _ _, rfl, hC1, hG1⟩
  case round =>
    obtain ⟨j, a, c, k, hj, rfl, rfl, ho, hk, hC, hG⟩ := hrel
    clear hC1 hG1
    subst hk
    by_cases hlt : k.length < 1 + n
    · have hlt' : (k.length : Int) < 1 + (n : Int) := by omega
      go_wp2_with fail
      refine (l1Below_any w0 wr g code l 9 hC (by omega) (by omega)).mono ?_
      rintro e w2 ⟨x, hx0, hx1, rfl, hC2, hG2⟩
      have ho2 := ho.past hG2 hgl
      have hG2' := grown_trans hG hG2
      clear hC hG hG2 ho
      go_wp2_with fail
      have hA3 := (Below.refl w2.heap.size w2).alloc (Nat.le_refl _) (.cells #[.int .i64 0, .int .i64 1, .int .i64 2, .int .i64 500, .int .i64 999, .int .i64 998, .int .i64 x] 3)
      have hi3 : IntsC (w2.alloc (.cells #[.int .i64 0, .int .i64 1, .int .i64 2, .int .i64 500, .int .i64 999, .int .i64 998, .int .i64 x] 3)) (.slice (some ⟨w2.heap.size, 0, none⟩) 7 7) [0, 1, 2, 500, 999, 998, x] := intsC_made w2 [0, 1, 2, 500, 999, 998, x] 7 rfl
      refine (l1PickInt_any w0 _ g code l _ [0, 1, 2, 500, 999, 998, x] (hC2.keepAll hA3) (by simp) (by simp) hi3 (fun a n c e => by injection e with e; injection e with e; subst e; have := hC2.lt; simp; omega)).mono ?_
      rintro e w4 ⟨y, hy, rfl, hC4, hG4⟩
      have hy0 : 0 ≤ y ∧ y ≤ 999 := by simp at hy; omega
      have ho4 := (ho2.keep hA3).past hG4 hgl
      have hG4' := grown_trans (grown_below hG2' hA3) hG4
      clear hC2 hG2' hA3 hi3 hG4 ho2 hy
      have hY := hide (int_one w4 y (by omega) (by omega))
      go_wp2_with (at_builtin; refine wpList_appZ rfl _ _ rfl w.heap.size _ k rfl (ho4.alloc _) _ [y] rfl (unhide hY) ?c1 ?c2 ?_)
      case c1 => first | omega | (simp; omega)
      case c2 => have := hG4'.size; first | omega | (simp; omega)
      intro v5 w5 ho5 hg5
      have hgn : ∀ q, (Value.slice a k.length c).ownBlock = some q → w.heap.size ≤ q := fun q hq => (ho4.lt q hq).1
      have hA5 := grown_trans (Below.toGrown ((Below.refl w4.heap.size w4).alloc (Nat.le_refl _) (.cells #[.int .i64 y] 3)) _) hg5
      have hG5 := grown_new hG4' hA5 hgn
      have hC5 := hC4.keep hA5 (fun e => by have := hgn g e.symm; omega) (fun q hq => by have := hgn q hq; have := h.below.size; omega)
      obtain ⟨a5, c5, rfl, _, _⟩ := ho5.ints.shape
      clear hY hg5 hA5 hgn ho4 hC4 hG4'
      go_wp2_with fail
      go_roundw
      case rel => exact ⟨k.length + 1, a5, c5, k ++ [y], by omega, by go_num, rfl, ho5, by simp, hC5, hG5⟩
      case measure => simp [intOf]; omega
    · obtain ⟨z, hz⟩ : ∃ z, z = k.getD n 0 := ⟨_, rfl⟩
      have hlk : k.length = n + 1 := by omega
      obtain ⟨q, rfl⟩ : ∃ q, a = some ⟨q, 0, none⟩ := by
        obtain ⟨_, hr⟩ := ho
        rcases hr.2 with ⟨e, h0⟩ | ⟨q, cap, cur, e, _⟩
        · omega
        · exact ⟨q, by injection e⟩
      have hq := ho.lt q rfl
      have hcz : wr.cell? ⟨q, n, none⟩ = some (.int .i64 z) := by rw [hz, ho.2.cellAt n (by omega), valz_at (by omega)]
      have hfz := ho.2.frozenAt n
      have hst := ho.2.stored n (.int .i64 1)
      have hset : (valz k).set n (.int .i64 1) = valz (k.set n 1) := by unfold valz; rw [List.map_set]
      rw [hset] at hst
      have e1 : (k.length : Int) - 1 = (n : Int) := by omega
      have hltn : n < k.length := by omega
      have HS := hide (show OwnZ (wr.setCell ⟨q, n, none⟩ (.int .i64 1)) w.heap.size (.slice (some ⟨q, 0, none⟩) (k.set n 1).length c) (k.set n 1) ∧ wr.grownBy (wr.setCell ⟨q, n, none⟩ (.int .i64 1)) (some q) from ⟨⟨fun y hy => by
          rcases List.mem_or_eq_of_mem_set hy with h' | h'
          · exact ho.1 y h'
          · omega, by rw [List.length_set]; exact hst.1⟩, hst.2⟩)
      clear hst hset hz
      rw [List.length_set] at HS
      have HO := hide ho
      clear ho
      clear hlk
      obtain ⟨N, hN⟩ : ∃ N, N = k.length := ⟨_, rfl⟩
      have HN := hide (show k.length = N ∧ N ≤ 3 from ⟨hN.symm, by omega⟩)
      rw [← hN] at hj hlt e1 hltn HS HO ⊢
      clear hN
      have hlt' : ¬ (N : Int) < 1 + (n : Int) := by omega
      by_cases hz0 : z = 0
      · have dz : (z == 0) = true := by simp [hz0]
        clear hz0
        go_wp2_with fail
        obtain ⟨hoB, hgB⟩ := unhide HS
        have hCB := hC.keep hgB (by simp; omega) (fun r hr => by simp at hr; have := h.below.size; omega)
        have hGB := grown_new hG hgB (fun r hr => by simp at hr; omega)
        have HNB := hide (show (k.set n 1).length = N ∧ N ≤ 3 by rw [List.length_set]; exact unhide HN)
        clear hC hG hgB HS HO HN hcz hfz
        generalize (wr.setCell ⟨q, n, none⟩ (.int .i64 1)) = wB at *
        generalize k.set n 1 = kB at *
        refine (l1Once_any w0 wB g code l 15 hCB (by omega) (by omega)).mono ?_
        rintro e w6 ⟨b6, rfl, hC6, hG6⟩
        have ho6 := hoB.past hG6 hgl
        have hG6' := grown_trans hGB hG6
        clear hoB hCB hGB hG6
        cases b6
        · have HNk := hide (show kB.length = N ∧ N ≤ 4 from ⟨(unhide HNB).1, by have := (unhide HNB).2; omega⟩)
          clear HNB
          generalize kB = kD at *
          go_wp2_with fail
          refine (l1Once_any w0 w6 g code l 30 hC6 (by omega) (by omega)).mono ?_
          rintro e w9 ⟨b9, rfl, hC9, hG9⟩
          have ho9 := ho6.past hG9 hgl
          have hG9' := grown_trans hG6' hG9
          cases b9
          · go_wp2_with fail
            go_ret
            exact ⟨_, _, kD, by rw [(unhide HNk).1]; rfl, by rw [(unhide HNk).1]; exact ho9, by have := unhide HNk; omega, hC9, hG9'⟩
          · go_wp2_with fail
            go_loopw [3] (fun o wr => ∃ (a : Option Addr) (c m : Nat) (k : List Int), o = .slice a m c ∧ OwnZ wr w.heap.size (.slice a m c) k ∧ Hid (k.length = m) ∧ m ≤ 13 ∧ Cur w0 wr g code l ∧ w.grownBy wr (some g)) (fun o _ => 13 - slen o)
            case atStart => exact ⟨_, _, _, kD, rfl, ho9, hide (unhide HNk).1, by have := unhide HNk; omega, hC9, hG9'⟩
            case round =>
              clear ho9 hC9 hG9 hG9'
              obtain ⟨a, c, m, k, rfl, ho, HNk, hm, hC, hG⟩ := hrel
              go_wp2_with fail
              refine (l1Below_any w0 _ g code l 2 hC (by omega) (by omega)).mono ?_
              rintro e wx ⟨x, hx0, hx1, rfl, hCx, hGx⟩
              have hox := ho.past hGx hgl
              have hGx' := grown_trans hG hGx
              clear ho hC hG hGx
              by_cases hlt : (m : Int) < 12 + x
              · have hY := hide (int_one wx 1 (by omega) (by omega))
                go_wp2_with (at_builtin; refine wpList_appZ rfl _ _ rfl w.heap.size _ k rfl (hox.alloc _) _ [1] rfl (unhide hY) ?c1 ?c2 ?_)
                case c1 => have := unhide HNk; first | omega | (simp; omega)
                case c2 => have := hGx'.size; first | omega | (simp; omega)
                intro v7 w7 ho7 hg7
                have hgn := fun q hq => (hox.lt q hq).1
                have hA7 := grown_trans (Below.toGrown ((Below.refl wx.heap.size wx).alloc (Nat.le_refl _) (.cells #[.int .i64 1] 3)) _) hg7
                have hG7 := grown_new hGx' hA7 hgn
                have hC7 := hCx.keep hA7 (fun e => by have := hgn g e.symm; omega) (fun q hq => by have := hgn q hq; have := h.below.size; omega)
                obtain ⟨a7, c7, rfl, _, _⟩ := ho7.ints.shape
                clear hY hg7 hA7 hgn
                go_wp2_with fail
                go_roundw
                case rel => exact ⟨a7, c7, _, k ++ [1], rfl, ho7, hide rfl, by have := unhide HNk; simp; omega, hC7, hG7⟩
                case measure => have := unhide HNk; simp [slen]; omega
              · go_wp2_with fail
                go_ret
                exact ⟨a, c, k, by rw [unhide HNk]; rfl, by rw [unhide HNk]; exact hox, by have := unhide HNk; omega, hCx, hGx'⟩
        · go_wp2_with fail
          have hA7 := (Below.refl w6.heap.size w6).alloc (Nat.le_refl _) (.cells #[.int .i64 0, .int .i64 (-1), .int .i64 1000] 3)
          have hi7 : IntsC (w6.alloc (.cells #[.int .i64 0, .int .i64 (-1), .int .i64 1000] 3)) (.slice (some ⟨w6.heap.size, 0, none⟩) 3 3) [0, -1, 1000] := intsC_made w6 [0, -1, 1000] 3 rfl
          refine (l1PickInt_any w0 _ g code l _ [0, -1, 1000] (hC6.keepAll hA7) (by simp) (by simp) hi7 (fun a n c e => by injection e with e; injection e with e; subst e; have := hC6.lt; simp; omega)).mono ?_
          rintro e w7 ⟨y, hy, rfl, hC7, hG7⟩
          have hy0 : -1 ≤ y ∧ y ≤ 1000 := by simp at hy; omega
          have ho7 := (ho6.keep hA7).past hG7 hgl
          have hG7' := grown_trans (grown_below hG6' hA7) hG7
          clear hA7 hi7 hG7 hy ho6 hC6 hG6'
          have hY := hide (int_one w7 y (by omega) (by omega))
          go_wp2_with (at_builtin; refine wpList_appZ rfl _ _ rfl w.heap.size _ kB rfl (ho7.alloc _) _ [y] rfl (unhide hY) ?c1 ?c2 ?_)
          case c1 => have := unhide HNB; first | omega | (simp; omega)
          case c2 => have := hG7'.size; first | omega | (simp; omega)
          intro v8 w8 ho8 hg8
          have hgn := fun q hq => (ho7.lt q hq).1
          have hA8 := grown_trans (Below.toGrown ((Below.refl w7.heap.size w7).alloc (Nat.le_refl _) (.cells #[.int .i64 y] 3)) _) hg8
          have hG8 := grown_new hG7' hA8 hgn
          have hC8 := hC7.keep hA8 (fun e => by have := hgn g e.symm; omega) (fun q hq => by have := hgn q hq; have := h.below.size; omega)
          obtain ⟨a8, c8, rfl, _, _⟩ := ho8.ints.shape
          obtain ⟨M, hM⟩ : ∃ M, M = (kB ++ [y]).length := ⟨_, rfl⟩
          have HNk := hide (show (kB ++ [y]).length = M ∧ M ≤ 4 from ⟨hM.symm, by rw [hM]; have := unhide HNB; simp; omega⟩)
          rw [← hM] at ho8 ⊢
          clear hM HNB
          generalize kB ++ [y] = kD at *
          clear hY hg8 hA8 hgn ho7 hC7 hG7'
          go_wp2_with fail
          refine (l1Once_any w0 w8 g code l 30 hC8 (by omega) (by omega)).mono ?_
          rintro e w9 ⟨b9, rfl, hC9, hG9⟩
          have ho9 := ho8.past hG9 hgl
          have hG9' := grown_trans hG8 hG9
          cases b9
          · go_wp2_with fail
            go_ret
            exact ⟨_, _, kD, by rw [(unhide HNk).1]; rfl, by rw [(unhide HNk).1]; exact ho9, by have := unhide HNk; omega, hC9, hG9'⟩
          · go_wp2_with fail
            go_loopw [3] (fun o wr => ∃ (a : Option Addr) (c m : Nat) (k : List Int), o = .slice a m c ∧ OwnZ wr w.heap.size (.slice a m c) k ∧ Hid (k.length = m) ∧ m ≤ 13 ∧ Cur w0 wr g code l ∧ w.grownBy wr (some g)) (fun o _ => 13 - slen o)
            case atStart => exact ⟨_, _, _, kD, rfl, ho9, hide (unhide HNk).1, by have := unhide HNk; omega, hC9, hG9'⟩
            case round =>
              clear ho9 hC9 hG9 hG9'
              obtain ⟨a, c, m, k, rfl, ho, HNk, hm, hC, hG⟩ := hrel
              go_wp2_with fail
              refine (l1Below_any w0 _ g code l 2 hC (by omega) (by omega)).mono ?_
              rintro e wx ⟨x, hx0, hx1, rfl, hCx, hGx⟩
              have hox := ho.past hGx hgl
              have hGx' := grown_trans hG hGx
              clear ho hC hG hGx
              by_cases hlt : (m : Int) < 12 + x
              · have hY := hide (int_one wx 1 (by omega) (by omega))
                go_wp2_with (at_builtin; refine wpList_appZ rfl _ _ rfl w.heap.size _ k rfl (hox.alloc _) _ [1] rfl (unhide hY) ?c1 ?c2 ?_)
                case c1 => have := unhide HNk; first | omega | (simp; omega)
                case c2 => have := hGx'.size; first | omega | (simp; omega)
                intro v7 w7 ho7 hg7
                have hgn := fun q hq => (hox.lt q hq).1
                have hA7 := grown_trans (Below.toGrown ((Below.refl wx.heap.size wx).alloc (Nat.le_refl _) (.cells #[.int .i64 1] 3)) _) hg7
                have hG7 := grown_new hGx' hA7 hgn
                have hC7 := hCx.keep hA7 (fun e => by have := hgn g e.symm; omega) (fun q hq => by have := hgn q hq; have := h.below.size; omega)
                obtain ⟨a7, c7, rfl, _, _⟩ := ho7.ints.shape
                clear hY hg7 hA7 hgn
                go_wp2_with fail
                go_roundw
                case rel => exact ⟨a7, c7, _, k ++ [1], rfl, ho7, hide rfl, by have := unhide HNk; simp; omega, hC7, hG7⟩
                case measure => have := unhide HNk; simp [slen]; omega
              · go_wp2_with fail
                go_ret
                exact ⟨a, c, k, by rw [unhide HNk]; rfl, by rw [unhide HNk]; exact hox, by have := unhide HNk; omega, hCx, hGx'⟩
      · have dz : (z == 0) = false := by simpa using hz0
        clear hz0
        go_wp2_with fail
        have hoB := unhide HO
        have hCB := hC
        have hGB := hG
        have HNB := HN
        clear hC hG HS HO HN hcz hfz
        obtain ⟨wB, ewB⟩ : ∃ x, x = wr := ⟨_, rfl⟩
        subst ewB
        generalize k = kB at *
        refine (l1Once_any w0 wB g code l 15 hCB (by omega) (by omega)).mono ?_
        rintro e w6 ⟨b6, rfl, hC6, hG6⟩
        have ho6 := hoB.past hG6 hgl
        have hG6' := grown_trans hGB hG6
        clear hoB hCB hGB hG6
        cases b6
        · have HNk := hide (show kB.length = N ∧ N ≤ 4 from ⟨(unhide HNB).1, by have := (unhide HNB).2; omega⟩)
          clear HNB
          generalize kB = kD at *
          go_wp2_with fail
          refine (l1Once_any w0 w6 g code l 30 hC6 (by omega) (by omega)).mono ?_
          rintro e w9 ⟨b9, rfl, hC9, hG9⟩
          have ho9 := ho6.past hG9 hgl
          have hG9' := grown_trans hG6' hG9
          cases b9
          · go_wp2_with fail
            go_ret
            exact ⟨_, _, kD, by rw [(unhide HNk).1]; rfl, by rw [(unhide HNk).1]; exact ho9, by have := unhide HNk; omega, hC9, hG9'⟩
          · go_wp2_with fail
            go_loopw [3] (fun o wr => ∃ (a : Option Addr) (c m : Nat) (k : List Int), o = .slice a m c ∧ OwnZ wr w.heap.size (.slice a m c) k ∧ Hid (k.length = m) ∧ m ≤ 13 ∧ Cur w0 wr g code l ∧ w.grownBy wr (some g)) (fun o _ => 13 - slen o)
            case atStart => exact ⟨_, _, _, kD, rfl, ho9, hide (unhide HNk).1, by have := unhide HNk; omega, hC9, hG9'⟩
            case round =>
              clear ho9 hC9 hG9 hG9'
              obtain ⟨a, c, m, k, rfl, ho, HNk, hm, hC, hG⟩ := hrel
              go_wp2_with fail
              refine (l1Below_any w0 _ g code l 2 hC (by omega) (by omega)).mono ?_
              rintro e wx ⟨x, hx0, hx1, rfl, hCx, hGx⟩
              have hox := ho.past hGx hgl
              have hGx' := grown_trans hG hGx
              clear ho hC hG hGx
              by_cases hlt : (m : Int) < 12 + x
              · have hY := hide (int_one wx 1 (by omega) (by omega))
                go_wp2_with (at_builtin; refine wpList_appZ rfl _ _ rfl w.heap.size _ k rfl (hox.alloc _) _ [1] rfl (unhide hY) ?c1 ?c2 ?_)
                case c1 => have := unhide HNk; first | omega | (simp; omega)
                case c2 => have := hGx'.size; first | omega | (simp; omega)
                intro v7 w7 ho7 hg7
                have hgn := fun q hq => (hox.lt q hq).1
                have hA7 := grown_trans (Below.toGrown ((Below.refl wx.heap.size wx).alloc (Nat.le_refl _) (.cells #[.int .i64 1] 3)) _) hg7
                have hG7 := grown_new hGx' hA7 hgn
                have hC7 := hCx.keep hA7 (fun e => by have := hgn g e.symm; omega) (fun q hq => by have := hgn q hq; have := h.below.size; omega)
                obtain ⟨a7, c7, rfl, _, _⟩ := ho7.ints.shape
                clear hY hg7 hA7 hgn
                go_wp2_with fail
                go_roundw
                case rel => exact ⟨a7, c7, _, k ++ [1], rfl, ho7, hide rfl, by have := unhide HNk; simp; omega, hC7, hG7⟩
                case measure => have := unhide HNk; simp [slen]; omega
              · go_wp2_with fail
                go_ret
                exact ⟨a, c, k, by rw [unhide HNk]; rfl, by rw [unhide HNk]; exact hox, by have := unhide HNk; omega, hCx, hGx'⟩
        · go_wp2_with fail
          have hA7 := (Below.refl w6.heap.size w6).alloc (Nat.le_refl _) (.cells #[.int .i64 0, .int .i64 (-1), .int .i64 1000] 3)
          have hi7 : IntsC (w6.alloc (.cells #[.int .i64 0, .int .i64 (-1), .int .i64 1000] 3)) (.slice (some ⟨w6.heap.size, 0, none⟩) 3 3) [0, -1, 1000] := intsC_made w6 [0, -1, 1000] 3 rfl
          refine (l1PickInt_any w0 _ g code l _ [0, -1, 1000] (hC6.keepAll hA7) (by simp) (by simp) hi7 (fun a n c e => by injection e with e; injection e with e; subst e; have := hC6.lt; simp; omega)).mono ?_
          rintro e w7 ⟨y, hy, rfl, hC7, hG7⟩
          have hy0 : -1 ≤ y ∧ y ≤ 1000 := by simp at hy; omega
          have ho7 := (ho6.keep hA7).past hG7 hgl
          have hG7' := grown_trans (grown_below hG6' hA7) hG7
          clear hA7 hi7 hG7 hy ho6 hC6 hG6'
          have hY := hide (int_one w7 y (by omega) (by omega))
          go_wp2_with (at_builtin; refine wpList_appZ rfl _ _ rfl w.heap.size _ kB rfl (ho7.alloc _) _ [y] rfl (unhide hY) ?c1 ?c2 ?_)
          case c1 => have := unhide HNB; first | omega | (simp; omega)
          case c2 => have := hG7'.size; first | omega | (simp; omega)
          intro v8 w8 ho8 hg8
          have hgn := fun q hq => (ho7.lt q hq).1
          have hA8 := grown_trans (Below.toGrown ((Below.refl w7.heap.size w7).alloc (Nat.le_refl _) (.cells #[.int .i64 y] 3)) _) hg8
          have hG8 := grown_new hG7' hA8 hgn
          have hC8 := hC7.keep hA8 (fun e => by have := hgn g e.symm; omega) (fun q hq => by have := hgn q hq; have := h.below.size; omega)
          obtain ⟨a8, c8, rfl, _, _⟩ := ho8.ints.shape
          obtain ⟨M, hM⟩ : ∃ M, M = (kB ++ [y]).length := ⟨_, rfl⟩
          have HNk := hide (show (kB ++ [y]).length = M ∧ M ≤ 4 from ⟨hM.symm, by rw [hM]; have := unhide HNB; simp; omega⟩)
          rw [← hM] at ho8 ⊢
          clear hM HNB
          generalize kB ++ [y] = kD at *
          clear hY hg8 hA8 hgn ho7 hC7 hG7'
          go_wp2_with fail
          refine (l1Once_any w0 w8 g code l 30 hC8 (by omega) (by omega)).mono ?_
          rintro e w9 ⟨b9, rfl, hC9, hG9⟩
          have ho9 := ho8.past hG9 hgl
          have hG9' := grown_trans hG8 hG9
          cases b9
          · go_wp2_with fail
            go_ret
            exact ⟨_, _, kD, by rw [(unhide HNk).1]; rfl, by rw [(unhide HNk).1]; exact ho9, by have := unhide HNk; omega, hC9, hG9'⟩
          · go_wp2_with fail
            go_loopw [3] (fun o wr => ∃ (a : Option Addr) (c m : Nat) (k : List Int), o = .slice a m c ∧ OwnZ wr w.heap.size (.slice a m c) k ∧ Hid (k.length = m) ∧ m ≤ 13 ∧ Cur w0 wr g code l ∧ w.grownBy wr (some g)) (fun o _ => 13 - slen o)
            case atStart => exact ⟨_, _, _, kD, rfl, ho9, hide (unhide HNk).1, by have := unhide HNk; omega, hC9, hG9'⟩
            case round =>
              clear ho9 hC9 hG9 hG9'
              obtain ⟨a, c, m, k, rfl, ho, HNk, hm, hC, hG⟩ := hrel
              go_wp2_with fail
              refine (l1Below_any w0 _ g code l 2 hC (by omega) (by omega)).mono ?_
              rintro e wx ⟨x, hx0, hx1, rfl, hCx, hGx⟩
              have hox := ho.past hGx hgl
              have hGx' := grown_trans hG hGx
              clear ho hC hG hGx
              by_cases hlt : (m : Int) < 12 + x
              · have hY := hide (int_one wx 1 (by omega) (by omega))
                go_wp2_with (at_builtin; refine wpList_appZ rfl _ _ rfl w.heap.size _ k rfl (hox.alloc _) _ [1] rfl (unhide hY) ?c1 ?c2 ?_)
                case c1 => have := unhide HNk; first | omega | (simp; omega)
                case c2 => have := hGx'.size; first | omega | (simp; omega)
                intro v7 w7 ho7 hg7
                have hgn := fun q hq => (hox.lt q hq).1
                have hA7 := grown_trans (Below.toGrown ((Below.refl wx.heap.size wx).alloc (Nat.le_refl _) (.cells #[.int .i64 1] 3)) _) hg7
                have hG7 := grown_new hGx' hA7 hgn
                have hC7 := hCx.keep hA7 (fun e => by have := hgn g e.symm; omega) (fun q hq => by have := hgn q hq; have := h.below.size; omega)
                obtain ⟨a7, c7, rfl, _, _⟩ := ho7.ints.shape
                clear hY hg7 hA7 hgn
                go_wp2_with fail
                go_roundw
                case rel => exact ⟨a7, c7, _, k ++ [1], rfl, ho7, hide rfl, by have := unhide HNk; simp; omega, hC7, hG7⟩
                case measure => have := unhide HNk; simp [slen]; omega
              · go_wp2_with fail
                go_ret
                exact ⟨a, c, k, by rw [unhide HNk]; rfl, by rw [unhide HNk]; exact hox, by have := unhide HNk; omega, hCx, hGx'⟩
end Go.Proofs.YtpijenlmfmknnaaGreatDoor

/- The order of keys, in plain mathematics. -/
namespace Go.Proofs.YtpijenlmfmknnaaGreatDoor
set_option linter.unusedVariables false

/-- By the first number in which they differ; the one that begins the other one is less. -/
def klB : List Int → List Int → Bool
  | [], [] => false
  | [], _ :: _ => true
  | _ :: _, [] => false
  | x :: a, y :: b => if x = y then klB a b else decide (x < y)

theorem klB_end {a b : List Int} (h : a = [] ∨ b = []) : klB a b = decide (a.length < b.length) := by
  cases a <;> cases b <;> simp [klB] at *
theorem drop_cons {l : List Int} {k : Nat} (h : k < l.length) : l.drop k = l.getD k 0 :: l.drop (k + 1) := by
  rw [List.drop_eq_getElem_cons h, getD_at h]
theorem klB_same {a b : List Int} {k : Nat} (ha : k < a.length) (hb : k < b.length) (e : a.getD k 0 = b.getD k 0) : klB (a.drop k) (b.drop k) = klB (a.drop (k + 1)) (b.drop (k + 1)) := by
  rw [drop_cons ha, drop_cons hb, klB, if_pos e]
theorem klB_diff {a b : List Int} {k : Nat} (ha : k < a.length) (hb : k < b.length) (e : a.getD k 0 ≠ b.getD k 0) : klB (a.drop k) (b.drop k) = decide (a.getD k 0 < b.getD k 0) := by
  rw [drop_cons ha, drop_cons hb, klB, if_neg e]
theorem klB_over {a b : List Int} {k : Nat} (ha : k ≤ a.length) (hb : k ≤ b.length) (h : k = a.length ∨ k = b.length) : klB (a.drop k) (b.drop k) = decide (a.length < b.length) := by
  rw [klB_end (by rcases h with rfl | rfl <;> simp)]
  simp only [List.length_drop]
  rw [Bool.eq_iff_iff]
  simp only [decide_eq_true_eq]
  omega
theorem klB_irr (a : List Int) : klB a a = false := by
  induction a with
  | nil => rfl
  | cons x a ih => rw [klB, if_pos rfl, ih]
end Go.Proofs.YtpijenlmfmknnaaGreatDoor

/- spec.KeyLess answers what the plain order says. -/
namespace Go.Proofs.YtpijenlmfmknnaaGreatDoor
open Go.RowKit
set_option linter.unusedVariables false

set_option maxHeartbeats 1600000 in
set_option maxRecDepth 1000000 in
theorem klS_any (w : World) (u v : Value) (a b : List Int) (hu : Ints w u a) (hv : Ints w v b) :
    Calls Tryz.prog 14 #[u, v] w fun e w' => e = .returned (.bool (klB a b)) ∧ Below w.heap.size w w' := by
  have hma := hu.2.1
  have hmb := hv.2.1
  unfold maxLen at hma hmb
  by_cases h0 : a = [] ∨ b = []
  · have HE := hide (klB_end h0)
    have h0' : a.length = 0 ∨ b.length = 0 := by rcases h0 with rfl | rfl <;> simp
    obtain ⟨a1, c1, rfl, _⟩ := hu.shape
    obtain ⟨a2, c2, rfl, _⟩ := hv.shape
    clear hu hv h0
    generalize a.length = n at *
    generalize b.length = m at *
    rcases h0' with rfl | rfl
    all_goals
      go_enter Tryz.func14, Tryz.ntmps14
      go_wp2
      refine wp_loop_rounds 1 ?_
      rw [rounds_succ]
      go_wp2
      all_goals
        go_ret
        exact ⟨by rw [unhide HE]; simp, Below.refl _ _⟩
  have ha0 : a ≠ [] := fun h => h0 (.inl h)
  have hb0 : b ≠ [] := fun h => h0 (.inr h)
  obtain ⟨hoka, _, ⟨rfl, rfl⟩ | ⟨x, cap, rfl, hc, rfl⟩ | ⟨p, off, cap, rfl, h1, h2, h3, h4, h5⟩⟩ := hu
  · exact absurd rfl ha0
  · exact absurd rfl ha0
  obtain ⟨hokb, _, ⟨rfl, rfl⟩ | ⟨x, cap, rfl, hc, rfl⟩ | ⟨q, off', cap', rfl, g1, g2, g3, g4, g5⟩⟩ := hv
  · exact absurd rfl hb0
  · exact absurd rfl hb0
  generalize hA : a.length = n at *
  generalize hC : b.length = m at *
  clear h0
  go_enter Tryz.func14, Tryz.ntmps14
  go_wp2
  go_loopw [5] (fun i wr => ∃ k : Nat, k ≤ n ∧ k ≤ m ∧ i = .int .i64 k ∧ Hid (klB a b = klB (a.drop k) (b.drop k)) ∧ Below w.heap.size w wr) (fun i _ => n - (intOf i).toNat)
  case atStart => exact ⟨0, Nat.zero_le _, Nat.zero_le _, rfl, hide rfl, Below.refl _ _⟩
  case round =>
    obtain ⟨k, hk, hk', rfl, ht, hB⟩ := hrel
    by_cases hlt : k < n ∧ k < m
    · obtain ⟨hka, hkb⟩ := hlt
      obtain ⟨x, hx⟩ : ∃ x, x = a.getD k 0 := ⟨_, rfl⟩
      obtain ⟨y, hy⟩ : ∃ y, y = b.getD k 0 := ⟨_, rfl⟩
      have c1 : wr.cell? ⟨p, off + k, none⟩ = some (.int .i64 x) := by rw [hx]; exact (hB.cell (p := ⟨p, off + k, none⟩) h4).trans (h5 k hka)
      have c2 : wr.cell? ⟨q, off' + k, none⟩ = some (.int .i64 y) := by rw [hy]; exact (hB.cell (p := ⟨q, off' + k, none⟩) g4).trans (g5 k hkb)
      have HX := hide hx
      have HY := hide hy
      have hlt' : (k : Int) < (n : Int) := by omega
      have hlt2 : (k : Int) < (m : Int) := by omega
      clear hx hy h5 g5
      by_cases hxy : x = y
      · have HT := hide ((unhide ht).trans (klB_same (by omega) (by omega) (by rw [← unhide HX, ← unhide HY]; exact hxy)))
        have hne : (x != y) = false := by simp [hxy]
        clear hxy
        go_wp2
        go_quiet (fail)
        go_wp2
        go_roundw
        case rel => exact ⟨k + 1, by omega, by omega, by go_num, HT, below_drewN hB _⟩
        case measure => simp [intOf]; omega
      · have HD := hide ((unhide ht).trans (klB_diff (by omega) (by omega) (by rw [← unhide HX, ← unhide HY]; exact hxy)))
        rw [← unhide HX, ← unhide HY] at HD
        have hne : (x != y) = true := by simp [hxy]
        clear hxy ht
        go_wp2
        go_quiet (fail)
        go_wp2
        go_quiet (fail)
        go_wp2
        go_ret
        exact ⟨by rw [unhide HD]; rfl, below_drewN (below_drewN hB _) _⟩
    · have HD := hide ((unhide ht).trans (klB_over (by omega) (by omega) (by omega)))
      rw [hA, hC] at HD
      clear h5 g5 ht
      rcases (show k = n ∨ (k < n ∧ k = m) by omega) with rfl | ⟨hlt', rfl⟩
      · go_wp2
        go_ret
        exact ⟨by rw [unhide HD]; simp, hB⟩
      · have hlt2 : (k : Int) < (n : Int) := by omega
        go_wp2
        go_ret
        exact ⟨by rw [unhide HD]; simp, hB⟩
end Go.Proofs.YtpijenlmfmknnaaGreatDoor

/- spec.DrawBetween: two drawn rows of numbers. -/
namespace Go.Proofs.YtpijenlmfmknnaaGreatDoor
open Go.RowKit
set_option linter.unusedVariables false
set_option maxRecDepth 100000

def DrBAns (w : World) (e : Ending) (w' : World) : Prop := ∃ a c k a' c' k', e = .returned (.tuple #[.slice a k.length c, .slice a' k'.length c']) ∧ Ints w' (.slice a k.length c) k ∧ Ints w' (.slice a' k'.length c') k' ∧ k.length ≤ 13 ∧ k'.length ≤ 13 ∧ Below w.heap.size w w'
set_option maxHeartbeats 6400000 in
theorem drawBetween_any (w : World) (code : Value) (l : List Int) (h : Byt w code l) : Calls Tryz.prog 5 #[code] w (DrBAns w) := by
  have HN := hide (l1New_any w code l h)
  obtain ⟨a0, c0, rfl, _, _⟩ := h.shape
  clear h
  go_enter Tryz.func5, Tryz.ntmps5
  go_wp2_with fail
  refine (unhide HN).mono ?_
  rintro e w1 ⟨rfl, hC1, hB1⟩
  clear HN
  have hg1 := hC1.lt
  go_wp2_with fail
  refine (drawKey_any w w1 _ _ l hC1).mono ?_
  rintro e w2 ⟨a, c, k, rfl, ho2, hk2, hC2, hG2⟩
  go_wp2_with fail
  refine (drawKey_any w w2 _ _ l hC2).mono ?_
  rintro e w3 ⟨a', c', k', rfl, ho3, hk3, hC3, hG3⟩
  have hgs2 := hG2.size
  have ho2' := ho2.past hG3 (by omega)
  have hB3 : Below w.heap.size w w3 := bstepBy (bstepBy hB1 hG2 (fun q hq => by simp at hq; omega)) hG3 (fun q hq => by simp at hq; omega)
  have i2 := ho2'.ints
  have i3 := ho3.ints
  have ho2b := ho2'.mono (base' := w1.heap.size) (Nat.le_refl _)
  have ho3b := ho3.mono (base' := w1.heap.size) (by omega)
  have HO := hide (And.intro ho2b ho3b)
  have HK := hide (And.intro hk2 hk3)
  clear hG2 hG3 hC1 hC2 ho2 ho3 ho2' hB1 hgs2 ho2b ho3b hk2 hk3
  go_wp2_with fail
  refine (klS_any w3 _ _ k' k i3 i2).mono ?_
  rintro e w4 ⟨rfl, hB4⟩
  have hC4 := hC3.keepAll hB4
  have i2' := i2.keep hB4
  have i3' := i3.keep hB4
  have HO4 := hide (And.intro ((unhide HO).1.keep hB4) ((unhide HO).2.keep hB4))
  have hA4 := bstep hB3 hB4
  have hg4 : w.heap.size < w1.heap.size := hg1
  clear hB3 hB4 hC3 i2 i3 HO hg1
  generalize klB k' k = t at *
  cases t with
  | true =>
    go_wp2_with fail
    refine (l1Once_any w w4 _ _ l 8 hC4 (by omega) (by omega)).mono ?_
    rintro e w5 ⟨bb, rfl, hC5, hG5⟩
    have j2 := ((unhide HO4).1.past hG5 hg4)
    have j3 := ((unhide HO4).2.past hG5 hg4)
    have hA5 := bstepBy hA4 hG5 (fun q hq => by simp at hq; omega)
    clear hC4 hG5 HO4 i2' i3' hA4
    cases bb with
    | false =>
      have i2 := j2.ints
      have i3 := j3.ints
      clear j2 j3 hC5
      go_wp2_with fail
      go_ret2
      exact ⟨a', c', k', a, c, k, rfl, i3, i2, (unhide HK).2, (unhide HK).1, hA5⟩
    | true =>
      go_wp2_with fail
      refine (l1Below_any w w5 _ _ l 8 hC5 (by omega) (by omega)).mono ?_
      rintro e w6 ⟨x, hx0, hx1, rfl, hC6, hG6⟩
      have i2 := (j2.past hG6 hg4).ints
      have i3 := (j3.past hG6 hg4).ints
      have hA6 := bstepBy hA5 hG6 (fun q hq => by simp at hq; omega)
      clear j2 j3 hC5 hC6 hG6 hA5
      rcases (show x = 0 ∨ x = 1 ∨ (x ≠ 0 ∧ x ≠ 1) by omega) with rfl | rfl | ⟨n0, n1⟩
      · clear hx0 hx1
        go_wp2_with fail
        go_ret2
        exact ⟨none, 0, [], a', c', k', rfl, (ownz_nil w6 0).ints, i3, by simp, (unhide HK).2, hA6⟩
      · clear hx0 hx1
        go_wp2_with fail
        go_ret2
        exact ⟨a, c, k, none, 0, [], rfl, i2, (ownz_nil w6 0).ints, (unhide HK).1, by simp, hA6⟩
      · clear hx0 hx1
        go_wp2_with fail
        go_ret2
        exact ⟨a, c, k, a', c', k', rfl, i2, i3, (unhide HK).1, (unhide HK).2, hA6⟩
  | false =>
    go_wp2_with fail
    refine (l1Below_any w w4 _ _ l 8 hC4 (by omega) (by omega)).mono ?_
    rintro e w6 ⟨x, hx0, hx1, rfl, hC6, hG6⟩
    have i2 := ((unhide HO4).1.past hG6 hg4).ints
    have i3 := ((unhide HO4).2.past hG6 hg4).ints
    have hA6 := bstepBy hA4 hG6 (fun q hq => by simp at hq; omega)
    clear hC4 hC6 hG6 hA4 HO4 i2' i3'
    rcases (show x = 0 ∨ x = 1 ∨ (x ≠ 0 ∧ x ≠ 1) by omega) with rfl | rfl | ⟨n0, n1⟩
    · clear hx0 hx1
      go_wp2_with fail
      go_ret2
      exact ⟨none, 0, [], a', c', k', rfl, (ownz_nil w6 0).ints, i3, by simp, (unhide HK).2, hA6⟩
    · clear hx0 hx1
      go_wp2_with fail
      go_ret2
      exact ⟨a, c, k, none, 0, [], rfl, i2, (ownz_nil w6 0).ints, (unhide HK).1, by simp, hA6⟩
    · clear hx0 hx1
      go_wp2_with fail
      go_ret2
      exact ⟨a, c, k, a', c', k', rfl, i2, i3, (unhide HK).1, (unhide HK).2, hA6⟩
end Go.Proofs.YtpijenlmfmknnaaGreatDoor

/- spec.NameOk and spec.l2text answer what the plain tests say. -/
namespace Go.Proofs.YtpijenlmfmknnaaGreatDoor
open Go.RowKit
set_option linter.unusedVariables false

/-- The test f holds of each of the first k bytes. -/
def allTo (f : Nat → Int → Prop) (l : List Int) (k : Nat) : Prop := ∀ i, i < k → f i (l.getD i 0)
theorem allTo_step {f : Nat → Int → Prop} {l : List Int} {k : Nat} (h : allTo f l k) (h1 : f k (l.getD k 0)) : allTo f l (k + 1) := fun i hi => by
  by_cases e : i = k
  · subst e; exact h1
  · exact h i (by omega)

/-- A byte that may stand at place i of a name. -/
def nameCh (i : Nat) (x : Int) : Prop := (97 ≤ x ∧ x ≤ 122) ∨ (0 < i ∧ 48 ≤ x ∧ x ≤ 57)
def NameOk (l : List Int) : Prop := 1 ≤ l.length ∧ l.length ≤ 8 ∧ allTo nameCh l l.length
/-- A byte that may stand in a text. -/
def textCh (_ : Nat) (x : Int) : Prop := 32 ≤ x ∧ x ≤ 126
def TextOk (l : List Int) : Prop := l.length ≤ 30 ∧ allTo textCh l l.length

/-- The tests as truth values. -/
def allB (f : Nat → Int → Bool) (l : List Int) : Bool := (List.range l.length).all fun i => f i (l.getD i 0)
theorem allB_iff {f : Nat → Int → Bool} {p : Nat → Int → Prop} (h : ∀ i x, f i x = true ↔ p i x) (l : List Int) : allB f l = true ↔ allTo p l l.length := by
  unfold allB allTo
  rw [List.all_eq_true]
  constructor
  · intro k i hi; exact (h _ _).1 (k i (List.mem_range.2 hi))
  · intro k i hi; exact (h _ _).2 (k i (List.mem_range.1 hi))
def nameB (l : List Int) : Bool := decide (1 ≤ l.length) && decide (l.length ≤ 8) && allB (fun i x => decide (97 ≤ x ∧ x ≤ 122) || decide (0 < i ∧ 48 ≤ x ∧ x ≤ 57)) l
theorem nameB_iff (l : List Int) : nameB l = true ↔ NameOk l := by
  unfold nameB NameOk
  rw [Bool.and_eq_true, Bool.and_eq_true, decide_eq_true_eq, decide_eq_true_eq, allB_iff (p := nameCh) (fun i x => by unfold nameCh; rw [Bool.or_eq_true, decide_eq_true_eq, decide_eq_true_eq]), and_assoc]
def textB (l : List Int) : Bool := decide (l.length ≤ 30) && allB (fun _ x => decide (32 ≤ x ∧ x ≤ 126)) l
theorem textB_iff (l : List Int) : textB l = true ↔ TextOk l := by
  unfold textB TextOk
  rw [Bool.and_eq_true, decide_eq_true_eq, allB_iff (p := textCh) (fun i x => by unfold textCh; rw [decide_eq_true_eq])]

end Go.Proofs.YtpijenlmfmknnaaGreatDoor

/- spec.NameOk and spec.l2text answer the plain tests' Booleans. -/
namespace Go.Proofs.YtpijenlmfmknnaaGreatDoor
open Go.RowKit
set_option linter.unusedVariables false

end Go.Proofs.YtpijenlmfmknnaaGreatDoor

/- spec.l4key answers what the plain test says. -/
namespace Go.Proofs.YtpijenlmfmknnaaGreatDoor
open Go.RowKit
set_option linter.unusedVariables false

/-- A number that may stand in a key. -/
def keyCh (_ : Nat) (x : Int) : Prop := 0 ≤ x ∧ x ≤ 999
def KeyOk (l : List Int) : Prop := 1 ≤ l.length ∧ l.length ≤ 12 ∧ l.getD (l.length - 1) 0 ≠ 0 ∧ allTo keyCh l l.length

def keyB (l : List Int) : Bool := decide (1 ≤ l.length) && (decide (l.length ≤ 12) && (decide (l.getD (l.length - 1) 0 ≠ 0) && allB (fun _ x => decide (0 ≤ x ∧ x ≤ 999)) l))
theorem keyB_iff (l : List Int) : keyB l = true ↔ KeyOk l := by
  unfold keyB KeyOk
  rw [Bool.and_eq_true, Bool.and_eq_true, Bool.and_eq_true, decide_eq_true_eq, decide_eq_true_eq, decide_eq_true_eq, allB_iff (p := keyCh) (fun i x => by unfold keyCh; rw [decide_eq_true_eq])]
end Go.Proofs.YtpijenlmfmknnaaGreatDoor

/- impl.keyOk answers what the plain test says. -/
namespace Go.Proofs.YtpijenlmfmknnaaGreatDoor
open Go.RowKit
set_option linter.unusedVariables false
set_option maxRecDepth 100000

theorem keyI_short (w : World) (a : Option Addr) (n cap : Nat) (h : n < 1 ∨ 12 < n) :
    Calls Tryz.prog 17 #[.slice a n cap] w fun e w' => e = .returned (.bool false) ∧ w' = w := by
  by_cases h1 : n < 1
  · have h1' : (n : Int) < 1 := by omega
    go_enter Tryz.func17, Tryz.ntmps17
    go_wp2
    go_ret
    exact ⟨rfl, rfl⟩
  · have h1' : decide ((n : Int) < 1) = false := by simp; omega
    have h2 : (12 : Int) < (n : Int) := by omega
    go_enter Tryz.func17, Tryz.ntmps17
    go_wp2
    go_ret
    exact ⟨rfl, rfl⟩

open Classical in
set_option maxHeartbeats 1600000 in
theorem keyI_row (w : World) (b off cap : Nat) (l : List Int) (hok : okZ l) (h1 : 1 ≤ l.length) (h8 : l.length ≤ 12)
    (hc : ∀ i, i < l.length → w.cell? ⟨b, off + i, none⟩ = some (.int .i64 (l.getD i 0))) :
    Calls Tryz.prog 17 #[.slice (some ⟨b, off, none⟩) l.length cap] w fun e w' => e = .returned (.bool (decide (KeyOk l))) ∧ w' = w := by
  have d1 : decide ((l.length : Int) < 1) = false := by simp; omega
  have d2 : decide ((12 : Int) < (l.length : Int)) = false := by simp; omega
  obtain ⟨n, hn⟩ : ∃ n, l.length = n + 1 := ⟨l.length - 1, by omega⟩
  obtain ⟨z, hz⟩ : ∃ z, z = l.getD n 0 := ⟨_, rfl⟩
  have hcz : w.cell? ⟨b, off + n, none⟩ = some (.int .i64 z) := by rw [hz]; exact hc _ (by omega)
  have HZ := hide hz
  have HC := hide hc
  have HN := hide hn
  have e1 : (l.length : Int) - 1 = (n : Int) := by omega
  have hlt0 : n < l.length := by omega
  clear hc hz hn
  go_enter Tryz.func17, Tryz.ntmps17
  go_wp2
  go_loop [15] (fun i => ∃ k : Nat, k ≤ l.length ∧ i = .int .i64 k ∧ allTo keyCh l k) (fun i => l.length - (intOf i).toNat)
  case atStart => exact ⟨0, Nat.zero_le _, rfl, fun i hi => by omega⟩
  case round =>
    obtain ⟨k, hk, rfl, ha⟩ := hrel
    have HA := hide ha
    clear ha
    by_cases hlt : k < l.length
    · obtain ⟨x, hx⟩ : ∃ x, x = l.getD k 0 := ⟨_, rfl⟩
      have hcx : w.cell? ⟨b, off + k, none⟩ = some (.int .i64 x) := by rw [hx]; exact unhide HC _ hlt
      have HX := hide hx
      have hlt' : (k : Int) < (l.length : Int) := by omega
      clear hx hcz
      by_cases hn : keyCh k x
      · have HN := hide hn
        have q1 : decide (x < 0) = false := by unfold keyCh at hn; simp; omega
        have q2 : decide (999 < x) = false := by unfold keyCh at hn; simp; omega
        clear hn
        go_wp2
        go_round
        case rel => exact ⟨k + 1, by omega, by go_num, allTo_step (unhide HA) (by rw [← unhide HX]; exact unhide HN)⟩
        case measure => simp [intOf]; omega
      · have HF := hide (show decide (KeyOk l) = false by
          simp only [decide_eq_false_iff_not]
          rintro ⟨_, _, _, h⟩
          exact hn (by rw [unhide HX]; exact h k hlt))
        have hcase : decide (x < 0) = true ∨ (decide (x < 0) = false ∧ decide (999 < x) = true) := by
          unfold keyCh at hn; simp; omega
        clear hn
        rcases hcase with q1 | ⟨q1, q2⟩
        all_goals
          go_wp2
          go_ret
          exact ⟨by rw [unhide HF]; rfl, rfl⟩
    · have e : k = l.length := by omega
      subst e
      by_cases hz0 : z = 0
      · have HF := hide (show decide (KeyOk l) = false by
          simp only [decide_eq_false_iff_not]
          rintro ⟨_, _, h, _⟩
          rw [unhide HN, Nat.add_sub_cancel, ← unhide HZ] at h
          exact h hz0)
        have dz : (z != 0) = false := by simp [hz0]
        clear hz0
        go_wp2
        go_ret
        exact ⟨by rw [unhide HF]; rfl, rfl⟩
      · have HF := hide (show decide (KeyOk l) = true by
          simp only [decide_eq_true_eq]
          exact ⟨h1, h8, by rw [unhide HN, Nat.add_sub_cancel, ← unhide HZ]; exact hz0, unhide HA⟩)
        have dz : (z != 0) = true := by simp [hz0]
        clear hz0
        go_wp2
        go_ret
        exact ⟨by rw [unhide HF]; rfl, rfl⟩

open Classical in
theorem keyI_any (w : World) (v : Value) (l : List Int) (h : Ints w v l) :
    Calls Tryz.prog 17 #[v] w fun e w' => e = .returned (.bool (decide (KeyOk l))) ∧ w' = w := by
  by_cases hl : l.length < 1 ∨ 12 < l.length
  · obtain ⟨a, cap, rfl, _⟩ := h.shape
    have hd : decide (KeyOk l) = false := by simp only [decide_eq_false_iff_not]; rintro ⟨_, _, _⟩; omega
    rw [hd]
    exact keyI_short w a _ cap hl
  · obtain ⟨hok, hm, ⟨rfl, rfl⟩ | ⟨x, cap, rfl, hc, rfl⟩ | ⟨b, off, cap, rfl, _, _, _, _, h5⟩⟩ := h
    · simp at hl
    · simp at hl
    · exact keyI_row w b off cap l hok (by omega) (by omega) h5
theorem keyI_b (w : World) (v : Value) (l : List Int) (h : Ints w v l) : Calls Tryz.prog 17 #[v] w fun e w' => e = .returned (.bool (keyB l)) ∧ w' = w := by
  refine (keyI_any w v l h).mono ?_
  rintro e w' ⟨rfl, h⟩
  refine ⟨?_, h⟩
  by_cases hn : KeyOk l
  · rw [(keyB_iff l).2 hn]; simp [hn]
  · rw [Bool.eq_false_iff.2 (fun k => hn ((keyB_iff l).1 k))]; simp [hn]
end Go.Proofs.YtpijenlmfmknnaaGreatDoor

/- impl.numberOf answers a key's number at a place. -/
namespace Go.Proofs.YtpijenlmfmknnaaGreatDoor
open Go.RowKit
set_option linter.unusedVariables false
set_option maxRecDepth 100000

set_option maxHeartbeats 1600000 in
theorem digI_any (w : World) (v : Value) (l : List Int) (i : Nat) (h : Ints w v l) :
    Calls Tryz.prog 18 #[v, .int .i64 i] w fun e w' => e = .returned (.int .i64 (l.getD i 0)) ∧ w' = w := by
  have hm := h.2.1
  unfold maxLen at hm
  by_cases hi : i < l.length
  · obtain ⟨hok, _, ⟨rfl, rfl⟩ | ⟨x, cap, rfl, hc, rfl⟩ | ⟨b, off, cap, rfl, _, _, _, _, h5⟩⟩ := h
    · simp at hi
    · simp at hi
    have hcx := h5 i hi
    have hi' : (i : Int) < (l.length : Int) := by omega
    generalize l.getD i 0 = z at *
    clear h5
    go_enter Tryz.func18, Tryz.ntmps18
    go_wp2
    go_ret
    exact ⟨rfl, rfl⟩
  · obtain ⟨a, cap, rfl, _⟩ := h.shape
    have HZ := hide (show l.getD i 0 = 0 by simp [List.getD_eq_getElem?_getD, List.getElem?_eq_none (show l.length ≤ i by omega)])
    have hi' : ¬ (i : Int) < (l.length : Int) := by omega
    clear h
    rw [unhide HZ]
    go_enter Tryz.func18, Tryz.ntmps18
    go_wp2
    go_ret
    exact ⟨rfl, rfl⟩

end Go.Proofs.YtpijenlmfmknnaaGreatDoor

/- A key between two keys, in plain mathematics. -/
namespace Go.Proofs.YtpijenlmfmknnaaGreatDoor
set_option linter.unusedVariables false

/-- The upper number at the place i. -/
def hiB (b : List Int) (i : Nat) (opn : Bool) : Int := if opn then 1000 else b.getD i 0
/-- f places from i on. -/
def btGo (a b : List Int) : Nat → Nat → Bool → List Int → Option (List Int)
  | 0, _, _, _ => none
  | f + 1, i, opn, out => if 1 < hiB b i opn - a.getD i 0 then some (out ++ [(a.getD i 0 + hiB b i opn) / 2]) else btGo a b f (i + 1) (opn || decide (a.getD i 0 < hiB b i opn)) (out ++ [a.getD i 0])
def bt (a b : List Int) : Option (List Int) := btGo a b 12 0 (decide (b.length = 0)) []

theorem btGo_yes {a b out : List Int} {f i : Nat} {opn : Bool} (h : 1 < hiB b i opn - a.getD i 0) : btGo a b (f + 1) i opn out = some (out ++ [(a.getD i 0 + hiB b i opn) / 2]) := by rw [btGo, if_pos h]
theorem btGo_on {a b out : List Int} {f i : Nat} {opn : Bool} (h : ¬ 1 < hiB b i opn - a.getD i 0) : btGo a b (f + 1) i opn out = btGo a b f (i + 1) (opn || decide (a.getD i 0 < hiB b i opn)) (out ++ [a.getD i 0]) := by rw [btGo, if_neg h]
theorem btGo_len {a b : List Int} {f i : Nat} {opn : Bool} {out r : List Int} (h : btGo a b f i opn out = some r) : r.length ≤ out.length + f := by
  induction f generalizing i opn out with
  | zero => cases h
  | succ f ih =>
    rw [btGo] at h
    split at h
    · injection h with h; subst h; simp
    · have := ih h; simp at this; omega

/-- What is told of two rows. -/
def btBad (a b : List Int) : Bool := (decide (0 < a.length) && !keyB a) || ((decide (0 < b.length) && !keyB b) || (decide (0 < b.length) && !klB a b))
def btAll (a b : List Int) : Option (List Int) := if btBad a b then none else bt a b
theorem btAll_len {a b r : List Int} (h : btAll a b = some r) : r.length ≤ 12 := by
  unfold btAll at h
  split at h
  · cases h
  · have := btGo_len h; simpa using this
/-- Each number of a row that is a key, or empty, is in 0 .. 999. -/
theorem key_rng {a : List Int} (h : (decide (0 < a.length) && !keyB a) = false) (i : Nat) : 0 ≤ a.getD i 0 ∧ a.getD i 0 ≤ 999 := by
  by_cases hi : i < a.length
  · have hk : keyB a = true := by
      have : decide (0 < a.length) = true := by simp; omega
      rw [this] at h
      simpa using h
    obtain ⟨_, _, _, h4⟩ := (keyB_iff a).1 hk
    have := h4 i hi
    unfold keyCh at this
    exact this
  · have : a.getD i 0 = 0 := by simp [List.getD_eq_getElem?_getD, List.getElem?_eq_none (show a.length ≤ i by omega)]
    omega
end Go.Proofs.YtpijenlmfmknnaaGreatDoor

/- spec.l4digit and spec.l4between, by their contracts. -/
namespace Go.Proofs.YtpijenlmfmknnaaGreatDoor
open Go.RowKit
set_option linter.unusedVariables false
set_option maxRecDepth 100000

/-- What is returned: the row and true, or nothing and false. -/
def BtAns (w w' : World) (e : Ending) (r : Option (List Int)) : Prop := ∃ v l, e = .returned (.tuple #[v, .bool r.isSome]) ∧ OwnZ w' w.heap.size v l ∧ Hid (r.getD [] = l) ∧ Below w.heap.size w w'

end Go.Proofs.YtpijenlmfmknnaaGreatDoor

/- impl.KeyLess answers what the plain order says. -/
namespace Go.Proofs.YtpijenlmfmknnaaGreatDoor
open Go.RowKit
set_option linter.unusedVariables false

set_option maxHeartbeats 1600000 in
set_option maxRecDepth 1000000 in
theorem rowLess_any (w : World) (u v : Value) (a b : List Int) (hu : Ints w u a) (hv : Ints w v b) :
    Calls Tryz.prog 19 #[u, v] w fun e w' => e = .returned (.bool (klB a b)) ∧ Below w.heap.size w w' := by
  have hma := hu.2.1
  have hmb := hv.2.1
  unfold maxLen at hma hmb
  by_cases h0 : a = [] ∨ b = []
  · have HE := hide (klB_end h0)
    have h0' : a.length = 0 ∨ b.length = 0 := by rcases h0 with rfl | rfl <;> simp
    obtain ⟨a1, c1, rfl, _⟩ := hu.shape
    obtain ⟨a2, c2, rfl, _⟩ := hv.shape
    clear hu hv h0
    generalize a.length = n at *
    generalize b.length = m at *
    rcases h0' with rfl | rfl <;> rcases a1 with _ | a1
    all_goals
      go_enter Tryz.func19, Tryz.ntmps19
      go_wp2
      all_goals
        refine wp_loop_rounds 1 ?_
        rw [rounds_succ]
        go_wp2
        go_ret
        exact ⟨by rw [unhide HE]; simp, Below.refl _ _⟩
  have ha0 : a ≠ [] := fun h => h0 (.inl h)
  have hb0 : b ≠ [] := fun h => h0 (.inr h)
  obtain ⟨hoka, _, ⟨rfl, rfl⟩ | ⟨x, cap, rfl, hc, rfl⟩ | ⟨p, off, cap, rfl, h1, h2, h3, h4, h5⟩⟩ := hu
  · exact absurd rfl ha0
  · exact absurd rfl ha0
  obtain ⟨hokb, _, ⟨rfl, rfl⟩ | ⟨x, cap, rfl, hc, rfl⟩ | ⟨q, off', cap', rfl, g1, g2, g3, g4, g5⟩⟩ := hv
  · exact absurd rfl hb0
  · exact absurd rfl hb0
  generalize hA : a.length = n at *
  generalize hC : b.length = m at *
  clear h0
  go_enter Tryz.func19, Tryz.ntmps19
  go_wp2
  all_goals
    go_loopw [15] (fun i wr => ∃ k : Nat, k ≤ n ∧ k ≤ m ∧ i = .int .i64 k ∧ Hid (klB a b = klB (a.drop k) (b.drop k)) ∧ Below w.heap.size w wr) (fun i _ => n - (intOf i).toNat)
    case atStart => exact ⟨0, Nat.zero_le _, Nat.zero_le _, rfl, hide rfl, Below.refl _ _⟩
    case round =>
      obtain ⟨k, hk, hk', rfl, ht, hB⟩ := hrel
      by_cases hlt : k < n ∧ k < m
      · obtain ⟨hka, hkb⟩ := hlt
        obtain ⟨x, hx⟩ : ∃ x, x = a.getD k 0 := ⟨_, rfl⟩
        obtain ⟨y, hy⟩ : ∃ y, y = b.getD k 0 := ⟨_, rfl⟩
        have c1 : wr.cell? ⟨p, off + k, none⟩ = some (.int .i64 x) := by rw [hx]; exact (hB.cell (p := ⟨p, off + k, none⟩) h4).trans (h5 k hka)
        have c2 : wr.cell? ⟨q, off' + k, none⟩ = some (.int .i64 y) := by rw [hy]; exact (hB.cell (p := ⟨q, off' + k, none⟩) g4).trans (g5 k hkb)
        have HX := hide hx
        have HY := hide hy
        have hlt' : (k : Int) < (n : Int) := by omega
        have hlt2 : (k : Int) < (m : Int) := by omega
        clear hx hy h5 g5
        by_cases hxy : x = y
        · have HT := hide ((unhide ht).trans (klB_same (by omega) (by omega) (by rw [← unhide HX, ← unhide HY]; exact hxy)))
          have hne : (x != y) = false := by simp [hxy]
          clear hxy
          go_wp2
          go_roundw
          case rel => exact ⟨k + 1, by omega, by omega, by go_num, HT, hB⟩
          case measure => simp [intOf]; omega
        · have HD := hide ((unhide ht).trans (klB_diff (by omega) (by omega) (by rw [← unhide HX, ← unhide HY]; exact hxy)))
          rw [← unhide HX, ← unhide HY] at HD
          have hne : (x != y) = true := by simp [hxy]
          clear hxy ht
          go_wp2
          go_ret
          exact ⟨by rw [unhide HD]; rfl, hB⟩
      · have HD := hide ((unhide ht).trans (klB_over (by omega) (by omega) (by omega)))
        rw [hA, hC] at HD
        clear h5 g5 ht
        rcases (show k = n ∨ (k < n ∧ k = m) by omega) with rfl | ⟨hlt', rfl⟩ <;> first | (exfalso; omega) | skip
        all_goals
          go_wp2
          go_ret
          exact ⟨by rw [unhide HD]; simp, hB⟩

set_option maxHeartbeats 1600000 in
set_option maxRecDepth 1000000 in
theorem klI_any (w : World) (u v : Value) (a b : List Int) (hu : Ints w u a) (hv : Ints w v b) :
    Calls Tryz.prog 8 #[u, v] w fun e w' => e = .returned (.bool (klB a b)) ∧ Below w.heap.size w w' := by
  have HL := hide (rowLess_any w u v a b hu hv)
  obtain ⟨a1, c1, rfl, _⟩ := hu.shape
  obtain ⟨a2, c2, rfl, _⟩ := hv.shape
  clear hu hv
  go_enter Tryz.func8, Tryz.ntmps8
  go_wp2_with fail
  refine (unhide HL).mono ?_
  rintro e w1 ⟨rfl, hB1⟩
  go_wp2
  go_ret
  exact ⟨rfl, hB1⟩
end Go.Proofs.YtpijenlmfmknnaaGreatDoor
