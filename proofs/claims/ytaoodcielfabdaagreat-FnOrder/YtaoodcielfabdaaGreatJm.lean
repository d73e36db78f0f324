/- Own texts joined: DrP, L5ops, L5bent, NameI, IdJ, IdI, OpN, PutOI, KeyI, OpI. -/
import Derived.Test.YtaoodcielfabdaaGreatJa
import Derived.Test.YtaoodcielfabdaaGreatJb
import Derived.Test.YtaoodcielfabdaaGreatJc
import Derived.Test.YtaoodcielfabdaaGreatJd
import Derived.Test.YtaoodcielfabdaaGreatJe
import Derived.Test.YtaoodcielfabdaaGreatJf
import Derived.Test.YtaoodcielfabdaaGreatJg
import Derived.Test.YtaoodcielfabdaaGreatJh
import Derived.Test.YtaoodcielfabdaaGreatJi
import Derived.Test.YtaoodcielfabdaaGreatJj
import Derived.Test.YtaoodcielfabdaaGreatJk
import Derived.Test.YtaoodcielfabdaaGreatJl
import Derived.Test.YtaoodcielfabdaaGreatChecked

/- Rows of operations that are drawn: their blocks lie behind the cursor's. -/
namespace Go.Proofs.YtaoodcielfabdaaGreat
open Go.RowKit
set_option linter.unusedVariables false
set_option maxRecDepth 100000

/-- The cells of an operation whose rows lie in blocks of their own behind g. -/
def RdG (g : Nat) (w : World) (C : List Value) (o : OpV) : Prop := ∃ k n t, C = [.int .i64 o.kind, .int .i64 o.atN, .int .i64 o.atR, .int .i64 o.nodeN, .int .i64 o.nodeR, .int .i64 o.parN, .int .i64 o.parR, k, .int .i64 o.elem, n, t, .bool o.gone] ∧ OwnZ w (g + 1) k o.key ∧ RowM w (g + 1) n o.name ∧ RowM w (g + 1) t o.text
theorem RdG.rd {g : Nat} {w : World} {C : List Value} {o : OpV} (h : RdG g w C o) : RdOpC w C o := by
  obtain ⟨k, n, t, e, h1, h2, h3⟩ := h
  exact ⟨k, n, t, e, h1.ints, h2.byt, h3.byt⟩
theorem RdG.by {g : Nat} {w w' : World} {C : List Value} {o : OpV} (h : RdG g w C o) (hg : w.grownBy w' (some g)) : RdG g w' C o := by
  obtain ⟨k, n, t, e, h1, h2, h3⟩ := h
  exact ⟨k, n, t, e, h1.keepBy hg (.inr (fun e => by have := (h1.lt _ e).1; omega)), h2.keepBy hg (fun q e e2 => by have := (h2.lt _ e).1; cases e2; omega), h3.keepBy hg (fun q e e2 => by have := (h3.lt _ e).1; cases e2; omega)⟩
theorem RdG.keep {g : Nat} {w w' : World} {C : List Value} {o : OpV} (h : RdG g w C o) (hB : Below w.heap.size w w') : RdG g w' C o := by
  obtain ⟨k, n, t, e, h1, h2, h3⟩ := h
  exact ⟨k, n, t, e, h1.keep hB, h2.keep hB, h3.keep hB⟩
theorem OwM.rdg {w : World} {base g : Nat} {o : OpV} {k n t : Value} (h : OwM w base o k n t) (hb : g < base) : RdG g w [.int .i64 o.kind, .int .i64 o.atN, .int .i64 o.atR, .int .i64 o.nodeN, .int .i64 o.nodeR, .int .i64 o.parN, .int .i64 o.parR, k, .int .i64 o.elem, n, t, .bool o.gone] o :=
  ⟨k, n, t, rfl, h.1.mono hb, h.2.1.mono hb, h.2.2.1.mono hb⟩
/-- A row of operations may grow in its own block: the operations' rows are none of it, by their type. -/
theorem RdG.own {g base m : Nat} {w w' : World} {C : List Value} {o : OpV} {v : Value} {xs : List Value} (h : RdG g w C o) (hv : w.ownsRow base 38 12 v m xs) (hg : w.grownBy w' v.ownBlock) : RdG g w' C o := by
  obtain ⟨k, n, t, e, h1, h2, h3⟩ := h
  have hb : ∀ q, v.ownBlock = some q → ∃ cur, w.heap[q]? = some (.cells cur 38 (0, 0)) := fun q hq => by
    rcases hv.2 with ⟨rfl, _⟩ | ⟨q', cap, cur, rfl, _, hc, _⟩
    · simp [Value.ownBlock] at hq
    · simp [Value.ownBlock] at hq
      subst hq
      exact ⟨cur, hc⟩
  have k1 : ∀ q, k.ownBlock = some q → v.ownBlock ≠ some q := fun q hq hq' => by
    obtain ⟨cur, hc⟩ := hb q hq'
    rcases h1.2.2 with ⟨rfl, _⟩ | ⟨q', cap, cur', rfl, _, hc', _⟩
    · simp [Value.ownBlock] at hq
    · simp [Value.ownBlock] at hq
      subst hq
      rw [hc] at hc'
      have := Option.some.inj hc'
      injection this with _ e2
      exact absurd e2 (by decide)
  have kb : ∀ (u : Value) (l : List Int), RowM w (g + 1) u l → ∀ q, u.ownBlock = some q → v.ownBlock ≠ some q := fun u l hu q hq hq' => by
    obtain ⟨cur, hc⟩ := hb q hq'
    rcases hu.2 with ⟨rfl, _⟩ | ⟨q', cap, cur', fz, rfl, _, hc', _⟩
    · simp [Value.ownBlock] at hq
    · simp [Value.ownBlock] at hq
      subst hq
      rw [hc] at hc'
      have := Option.some.inj hc'
      injection this with _ e2
      exact absurd e2 (by decide)
  refine ⟨k, n, t, e, ?_, h2.keepBy hg (fun q hq => kb n _ h2 q hq), h3.keepBy hg (fun q hq => kb t _ h3 q hq)⟩
  exact h1.keepBy hg (by
    cases hk : k.ownBlock with
    | none => exact .inl rfl
    | some q => exact .inr (fun e2 => k1 q hk e2.symm))
/-- A drawn row of operations, its block behind the cursor's, from B on. -/
def DrOps (g B : Nat) (w : World) (v : Value) (l : List OpV) : Prop := g < B ∧ ShOpsP (RdG g w) w B v l
theorem DrOps.rd {g B : Nat} {w : World} {v : Value} {l : List OpV} (h : DrOps g B w v l) : RdOps w v l := ShOpsP.rdOps (fun _ _ hr => hr.rd) h.2
theorem DrOps.by {g B : Nat} {w w' : World} {v : Value} {l : List OpV} (h : DrOps g B w v l) (hg : w.grownBy w' (some g)) : DrOps g B w' v l :=
  ⟨h.1, ShOpsP.to (fun _ _ hr => hr.by hg) h.2 (Frm.ofGrown hg) (fun q hq => by have := h.1; simp at hq; omega)⟩
theorem DrOps.keep {g B : Nat} {w w' : World} {v : Value} {l : List OpV} (h : DrOps g B w v l) (hB : Below w.heap.size w w') : DrOps g B w' v l :=
  ⟨h.1, ShOpsP.to (fun _ _ hr => hr.keep hB) h.2 (Frm.ofBelow hB []) (fun q hq => by simp at hq)⟩
theorem DrOps.shape {g B : Nat} {w : World} {v : Value} {l : List OpV} (h : DrOps g B w v l) : ∃ a c, v = .slice a l.length c := by
  obtain ⟨a, c, e, _⟩ := Elems.shape h.rd
  exact ⟨a, c, e⟩
theorem DrOps.blk {g B : Nat} {w : World} {v : Value} {l : List OpV} (h : DrOps g B w v l) : ∀ q, v.ownBlock = some q → B ≤ q ∧ q < w.heap.size := by
  obtain ⟨_, Cs, _, _, h3⟩ := h
  exact fun q hq => h3.lt q hq
/-- What l5put hands on is drawn again. -/
theorem PutRP.dr {g B : Nat} {w w' : World} {v u : Value} {l pl : List OpV} (hp : PutRP (RdG g w) w.heap.size w' v u l pl) (h : DrOps g B w v l) (hB : Below w.heap.size w w') (hg : B ≤ w.heap.size) : DrOps g B w' u pl := by
  rcases hp with ⟨rfl, e⟩ | hs
  · rw [e]; exact h.keep hB
  · exact ⟨h.1, ShOpsP.low (ShOpsP.to (S := []) (fun _ _ hr => hr.keep hB) hs (Frm.refl _ _) (fun q hq => by simp at hq)) hg⟩
theorem Frm.toGrown {w w' : World} {b : Nat} (f : Frm w w' [b]) : w.grownBy w' (some b) := ⟨f.os, f.tape, f.output, f.size, fun k hk hn => f.block k hk (fun e => hn (by simp at e; rw [e]))⟩
/-- Its first operation. -/
theorem DrOps.head {g B : Nat} {w : World} {v : Value} {l : List OpV} (h : DrOps g B w v l) (hl : 0 < l.length) : ∃ b cap a1 c1 a2 c2 a3 c3, ∃ o : OpV, l[0]? = some o ∧ v = .slice (some ⟨b, 0, none⟩) l.length cap ∧ B ≤ b ∧ b < w.heap.size ∧ (w.cell? ⟨b, 0, none⟩ = some (.int .i64 o.kind) ∧ w.cell? ⟨b, 1, none⟩ = some (.int .i64 o.atN) ∧ w.cell? ⟨b, 2, none⟩ = some (.int .i64 o.atR) ∧ w.cell? ⟨b, 3, none⟩ = some (.int .i64 o.nodeN) ∧ w.cell? ⟨b, 4, none⟩ = some (.int .i64 o.nodeR) ∧ w.cell? ⟨b, 5, none⟩ = some (.int .i64 o.parN) ∧ w.cell? ⟨b, 6, none⟩ = some (.int .i64 o.parR) ∧ w.cell? ⟨b, 7, none⟩ = some (.slice a1 o.key.length c1) ∧ w.cell? ⟨b, 8, none⟩ = some (.int .i64 o.elem) ∧ w.cell? ⟨b, 9, none⟩ = some (.slice a2 o.name.length c2) ∧ w.cell? ⟨b, 10, none⟩ = some (.slice a3 o.text.length c3) ∧ w.cell? ⟨b, 11, none⟩ = some (.bool o.gone)) ∧ RdG g w [.int .i64 o.kind, .int .i64 o.atN, .int .i64 o.atR, .int .i64 o.nodeN, .int .i64 o.nodeR, .int .i64 o.parN, .int .i64 o.parR, .slice a1 o.key.length c1, .int .i64 o.elem, .slice a2 o.name.length c2, .slice a3 o.text.length c3, .bool o.gone] o := by
  obtain ⟨hg, Cs, z1, z2, z3⟩ := h
  rcases z3.2 with ⟨_, e⟩ | ⟨b, cap, cur, rfl, hb, hc, _⟩
  · omega
  have hlt := (z3.lt b rfl).2
  obtain ⟨zl, zr⟩ := z2 0 hl
  obtain ⟨k, n, t, e, h1, h2, h3⟩ := zr
  obtain ⟨a1, c1, rfl, _, _⟩ := h1.ints.shape
  obtain ⟨a2, c2, rfl, _, _⟩ := h2.byt.shape
  obtain ⟨a3, c3, rfl, _, _⟩ := h3.byt.shape
  have hcs : ∃ D Ds, Cs = D :: Ds := by
    cases Cs with
    | nil => simp at z1; omega
    | cons D Ds => exact ⟨D, Ds, rfl⟩
  obtain ⟨D, Ds, rfl⟩ := hcs
  have eD : (D :: Ds).getD 0 [] = D := rfl
  rw [eD] at e zl
  have hcell : ∀ j, j < 12 → w.cell? ⟨b, j, none⟩ = D[j]? := fun j hj => by
    have hD : D.length = 12 := zl
    have h0 := z3.1
    rw [z3.cellAt j (by omega), List.flatten_cons, List.getElem?_append_left (by omega)]
  rw [e] at hcell
  exact ⟨b, cap, a1, c1, a2, c2, a3, c3, l[0], by simp [hl], rfl, hb, hlt, ⟨hcell 0 (by omega), hcell 1 (by omega), hcell 2 (by omega), hcell 3 (by omega), hcell 4 (by omega), hcell 5 (by omega), hcell 6 (by omega), hcell 7 (by omega), hcell 8 (by omega), hcell 9 (by omega), hcell 10 (by omega), hcell 11 (by omega)⟩, ⟨_, _, _, rfl, h1, h2, h3⟩⟩
/-- A row grown in its own block is drawn still. -/
theorem DrOps.grown {g B : Nat} {w w' : World} {v v' : Value} {l l' : List OpV} (h : DrOps g B w v l) (hs : ShOpsP (RdG g w) w' B v' l') (hg : w.grownBy w' v.ownBlock) : DrOps g B w' v' l' := by
  obtain ⟨hgB, Cs, z1, z2, z3⟩ := h
  exact ⟨hgB, ShOpsP.to (S := []) (fun _ _ hr => hr.own z3 hg) hs (Frm.refl _ _) (fun q hq => by simp at hq)⟩
end Go.Proofs.YtaoodcielfabdaaGreat

/- spec.l5ops draws a row of operations. -/
namespace Go.Proofs.YtaoodcielfabdaaGreat
open Go.RowKit
set_option linter.unusedVariables false
set_option maxRecDepth 100000

set_option maxHeartbeats 12800000 in
theorem l5ops_any (w0 w : World) (g : Nat) (code : Value) (l : List Int) (h : Cur w0 w g code l) :
    Calls Tryz.prog 77 #[.pointer (some ⟨g, 0, none⟩)] w fun e w' => ∃ a c m, e = .returned (.slice a m.length c) ∧ DrOps g w.heap.size w' (.slice a m.length c) m ∧ (∀ x ∈ m, SmO x 40) ∧ m.length ≤ 14 ∧ Cur w0 w' g code l ∧ w.grownBy w' (some g) := by
  have hgl := h.lt
  go_enter Tryz.func77, Tryz.ntmps77
  go_wp2_with fail
  refine (l1Below_any w0 w g code l 14 h (by omega) (by omega)).mono ?_
  rintro e w1 ⟨n, hn0, hn1, rfl, hC1, hG1⟩
  go_wp2_with fail
  obtain ⟨n, rfl⟩ := Int.eq_ofNat_of_zero_le hn0
  have hn2 : n < 14 := by omega
  clear hn0 hn1
  go_loopw [3, 5] (fun o i wr => ∃ (j : Nat) (a : Option Addr) (c : Nat) (m : List OpV), j ≤ n ∧ i = .int .i64 j ∧ o = .slice a m.length c ∧ DrOps g w.heap.size wr (.slice a m.length c) m ∧ (∀ x ∈ m, SmO x 40) ∧ m.length ≤ j ∧ Cur w0 wr g code l ∧ w.grownBy wr (some g)) (fun _ i _ => n - (intOf i).toNat)
  case atStart => exact ⟨0, none, 0, [], Nat.zero_le _, rfl, rfl, ⟨hgl, sh_noneP _ _ _⟩, fun x hx => by simp at hx, Nat.le_refl _, hC1, hG1⟩
  case round =>
    obtain ⟨j, a, c, m, hj, rfl, rfl, ho, hSm, hml, hC, hG⟩ := hrel
    clear hC1 hG1 h
    by_cases hlt : j < n
    · have hlt' : (j : Int) < (n : Int) := by omega
      go_wp2_with fail
      refine (l4op_any w0 wr g code l hC).mono ?_
      rintro e w2 ⟨o, k, nn, t, rfl, hOw, hSo, hC2, hG2⟩
      obtain ⟨ak, ck, rfl, _, _⟩ := hOw.1.ints.shape
      obtain ⟨an, cn, rfl, _, _⟩ := hOw.2.1.byt.shape
      obtain ⟨tt, ct, rfl, _, _⟩ := hOw.2.2.1.byt.shape
      have ho2 := ho.by hG2
      have hG2' := grown_trans hG hG2
      have hgr := hC.lt
      have hB3 : Below w2.heap.size w2 (w2.alloc (.cells #[.int .i64 o.kind, .int .i64 o.atN, .int .i64 o.atR, .int .i64 o.nodeN, .int .i64 o.nodeR, .int .i64 o.parN, .int .i64 o.parR, .slice ak o.key.length ck, .int .i64 o.elem, .slice an o.name.length cn, .slice tt o.text.length ct, .bool o.gone] 38)) := (Below.refl _ _).alloc (Nat.le_refl _) _
      have l3 := Loc.made w2 #[.int .i64 o.kind, .int .i64 o.atN, .int .i64 o.atR, .int .i64 o.nodeN, .int .i64 o.nodeR, .int .i64 o.parN, .int .i64 o.parR, .slice ak o.key.length ck, .int .i64 o.elem, .slice an o.name.length cn, .slice tt o.text.length ct, .bool o.gone] 38
      have HX := hide (And.intro (ho2.keep hB3) (And.intro (hOw.keep hB3) (And.intro (hC2.keepAll hB3) (And.intro (grown_below hG2' hB3) l3))))
      clear hC hG hG2 ho ho2 hOw hC2 hG2' hB3 l3
      unfold opVal
      go_wp2_with fail
      obtain ⟨ho3, hOw, hC3, hG3, l3⟩ := unhide HX
      clear HX
      generalize (w2.alloc (.cells #[.int .i64 o.kind, .int .i64 o.atN, .int .i64 o.atR, .int .i64 o.nodeN, .int .i64 o.nodeR, .int .i64 o.parN, .int .i64 o.parR, .slice ak o.key.length ck, .int .i64 o.elem, .slice an o.name.length cn, .slice tt o.text.length ct, .bool o.gone] 38)) = w3 at *
      have HOK := hide (opS_any w3 _ o hOw.rd)
      unfold opVal at HOK
      refine (unhide HOK).mono ?_
      rintro e w4 ⟨rfl, hB⟩
      have ho4 := ho3.keep hB
      have hO4 := hOw.keep hB
      have hC4 := hC3.keepAll hB
      have hG4 := grown_below hG3 hB
      have l4 := l3.all hB
      clear HOK ho3 hOw hC3 hG3 l3 hB
      cases hb : opB o with
      | false =>
        go_wp2_with fail
        go_roundw
        case rel => exact ⟨j + 1, a, c, m, by omega, by go_num, rfl, ho4, hSm, by omega, hC4, hG4⟩
        case measure => simp [intOf]; omega
      | true =>
        have hg4 := hC4.lt
        have HP := hide (l5put_shP (RdG g w4) w4 w4 (fun _ _ hr => hr.rd) (Below.refl _ _) (.slice a m.length c) _ m o (ShOpsP.elems ho4.2) hO4.rd (fun k n t e => by
          unfold opVal at e
          simp at e
          obtain ⟨rfl, rfl, rfl⟩ := e
          exact hO4.rdg hgr) (by omega) (by have := hSo.1; omega) (fun x hx => by have := (hSm x hx).1; omega))
        unfold opVal at HP
        obtain ⟨x0, x1, x2, x3, x4, x5, x6, x7, x8, x9, x10, x11⟩ := l4.twelve
        go_wp2_with fail
        clear x0 x1 x2 x3 x4 x5 x6 x7 x8 x9 x10 x11
        refine (unhide HP).mono ?_
        rintro e w5 ⟨u, rfl, hPR, hB⟩
        have ho5 := PutRP.dr hPR ho4 hB hG4.size
        have hC5 := hC4.keepAll hB
        have hG5 := grown_below hG4 hB
        obtain ⟨a5, c5, rfl⟩ := ho5.shape
        have hSm5 : ∀ x ∈ putL m o, SmO x 40 := fun x hx => by
          rcases putL_mem hx with rfl | hx
          · exact hSo.up (by omega)
          · exact hSm x hx
        have hlen := putL_len m o
        generalize putL m o = m5 at *
        generalize putOk m o = kk at *
        clear HP hPR ho4 hB hO4 hC4 hG4 l4
        go_wp2_with fail
        go_roundw
        case rel => exact ⟨j + 1, a5, c5, m5, by omega, by go_num, rfl, ho5, hSm5, by omega, hC5, hG5⟩
        case measure => simp [intOf]; omega
    · have hlt' : ¬ (j : Int) < (n : Int) := by omega
      go_wp2_with fail
      go_ret
      exact ⟨a, c, m, rfl, ho, hSm, by omega, hC, hG⟩
end Go.Proofs.YtaoodcielfabdaaGreat

/- spec.l5bentOps draws a row of operations that may be bent. -/
namespace Go.Proofs.YtaoodcielfabdaaGreat
open Go.RowKit
set_option linter.unusedVariables false
set_option maxRecDepth 100000

theorem head_mem {l : List OpV} {o : OpV} (h : l[0]? = some o) : o ∈ l := List.mem_of_getElem? h
theorem RdG.at {g : Nat} {w : World} {o : OpV} {k n t : Value} (z : Int) (h : RdG g w [.int .i64 o.kind, .int .i64 o.atN, .int .i64 o.atR, .int .i64 o.nodeN, .int .i64 o.nodeR, .int .i64 o.parN, .int .i64 o.parR, k, .int .i64 o.elem, n, t, .bool o.gone] o) : RdG g w [.int .i64 o.kind, .int .i64 z, .int .i64 o.atR, .int .i64 o.nodeN, .int .i64 o.nodeR, .int .i64 o.parN, .int .i64 o.parR, k, .int .i64 o.elem, n, t, .bool o.gone] { o with atN := z } := by
  obtain ⟨k', n', t', e, h1, h2, h3⟩ := h
  simp at e
  obtain ⟨rfl, rfl, rfl⟩ := e
  exact ⟨_, _, _, rfl, h1, h2, h3⟩

set_option maxHeartbeats 12800000 in
theorem l5bent_any (w0 w : World) (g : Nat) (code : Value) (l : List Int) (h : Cur w0 w g code l) :
    Calls Tryz.prog 33 #[.pointer (some ⟨g, 0, none⟩)] w fun e w' => ∃ a c m, e = .returned (.slice a m.length c) ∧ DrOps g w.heap.size w' (.slice a m.length c) m ∧ (∀ x ∈ m, SmO x 40) ∧ m.length ≤ 151 ∧ Cur w0 w' g code l ∧ w.grownBy w' (some g) := by
  have hgl := h.lt
  have hw0 := h.new
  go_enter Tryz.func33, Tryz.ntmps33
  go_wp2_with fail
  refine (l5ops_any w0 w g code l h).mono ?_
  rintro e w1 ⟨a, c, m, rfl, ho, hSm, hml, hC, hG⟩
  go_wp2_with fail
  refine (l1Once_any w0 w1 g code l 8 hC (by omega) (by omega)).mono ?_
  rintro e w2 ⟨b1, rfl, hC2, hG2⟩
  have ho2 := ho.by hG2
  have hG2' := grown_trans hG hG2
  clear ho hC hG hG2 h
  cases b1 with
  | false =>
    go_wp2_with fail
    go_ret
    exact ⟨a, c, m, rfl, ho2, hSm, by omega, hC2, hG2'⟩
  | true =>
  by_cases hpos : 0 < m.length
  case neg =>
    have hp : ¬ (0 : Int) < (m.length : Int) := by omega
    have hp' : decide (0 < m.length) = false := decide_eq_false hpos
    have HML := hide (show m.length ≤ 151 by omega)
    clear hpos hml
    go_wp2_with fail
    go_ret
    exact ⟨a, c, m, rfl, ho2, hSm, unhide HML, hC2, hG2'⟩
  have hp : (0 : Int) < (m.length : Int) := by omega
  have hp' : decide (0 < m.length) = true := decide_eq_true hpos
  go_wp2_with fail
  refine (l1Below_any w0 w2 g code l 3 hC2 (by omega) (by omega)).mono ?_
  rintro e w3 ⟨n, hn0, hn1, rfl, hC3, hG3⟩
  have ho3 := ho2.by hG3
  have hG3' := grown_trans hG2' hG3
  clear ho2 hC2 hG3 hG2'
  obtain ⟨b, cap, a1, c1, a2, c2, a3, c3, o, hoo, ev, hbB, hbl, ⟨x0, x1, x2, x3, x4, x5, x6, x7, x8, x9, x10, x11⟩, hR⟩ := ho3.head hpos
  cases ev
  have hSo := hSm o (head_mem hoo)
  have h3 : n = 0 ∨ n = 1 ∨ n = 2 := by omega
  rcases h3 with rfl | rfl | rfl
  · -- the first one once more
    have hB4 : Below w3.heap.size w3 (w3.alloc (.cells #[.int .i64 o.kind, .int .i64 o.atN, .int .i64 o.atR, .int .i64 o.nodeN, .int .i64 o.nodeR, .int .i64 o.parN, .int .i64 o.parR, .slice a1 o.key.length c1, .int .i64 o.elem, .slice a2 o.name.length c2, .slice a3 o.text.length c3, .bool o.gone] 38)) := (Below.refl _ _).alloc (Nat.le_refl _) _
    have l4 := Loc.made w3 #[.int .i64 o.kind, .int .i64 o.atN, .int .i64 o.atR, .int .i64 o.nodeN, .int .i64 o.nodeR, .int .i64 o.parN, .int .i64 o.parR, .slice a1 o.key.length c1, .int .i64 o.elem, .slice a2 o.name.length c2, .slice a3 o.text.length c3, .bool o.gone] 38
    have HS := hide (And.intro (ho3.keep hB4) (And.intro (hC3.keepAll hB4) (And.intro (grown_below hG3' hB4) (And.intro l4 (hR.keep hB4)))))
    have HSG := hide (SegP.one (P := RdG g (w3.alloc (.cells #[.int .i64 o.kind, .int .i64 o.atN, .int .i64 o.atR, .int .i64 o.nodeN, .int .i64 o.nodeR, .int .i64 o.parN, .int .i64 o.parR, .slice a1 o.key.length c1, .int .i64 o.elem, .slice a2 o.name.length c2, .slice a3 o.text.length c3, .bool o.gone] 38))) (C := [.int .i64 o.kind, .int .i64 o.atN, .int .i64 o.atR, .int .i64 o.nodeN, .int .i64 o.nodeR, .int .i64 o.parN, .int .i64 o.parR, .slice a1 o.key.length c1, .int .i64 o.elem, .slice a2 o.name.length c2, .slice a3 o.text.length c3, .bool o.gone]) (o := o) rfl l4 (hR.keep hB4))
    clear hB4 l4 ho3 hC3 hG3' hR
    go_wp2_with (at_builtin; refine wpList_appShP (P := RdG g (w3.alloc (.cells #[.int .i64 o.kind, .int .i64 o.atN, .int .i64 o.atR, .int .i64 o.nodeN, .int .i64 o.nodeR, .int .i64 o.parN, .int .i64 o.parR, .slice a1 o.key.length c1, .int .i64 o.elem, .slice a2 o.name.length c2, .slice a3 o.text.length c3, .bool o.gone] 38))) (w0 := (w3.alloc (.cells #[.int .i64 o.kind, .int .i64 o.atN, .int .i64 o.atR, .int .i64 o.nodeN, .int .i64 o.nodeR, .int .i64 o.parN, .int .i64 o.parR, .slice a1 o.key.length c1, .int .i64 o.elem, .slice a2 o.name.length c2, .slice a3 o.text.length c3, .bool o.gone] 38))) (fun _ _ hr => hr.rd) rfl _ _ rfl w.heap.size _ m rfl (unhide HS).1.2 _ [o] rfl (unhide HSG) ?c1 ?c2 ?_)
    case c1 => simp; omega
    case c2 => have := (unhide HS).2.2.1.size; exact this
    intro v' w5 hs5 hg5
    obtain ⟨ho4, hC4, hG4, _, _⟩ := unhide HS
    have ho5 := DrOps.grown ho4 hs5 hg5
    have hbn : ∀ q, (Value.slice (some ⟨b, 0, none⟩) m.length c).ownBlock = some q → w.heap.size ≤ q := fun q hq => (ho4.blk q hq).1
    have hC5 := hC4.keep hg5 (fun e => by have := hbn g e.symm; omega) (fun q hq => by have := hbn q hq; omega)
    have hG5 := grown_new hG4 hg5 hbn
    obtain ⟨a5, c5, rfl⟩ := ho5.shape
    have hSm5 : ∀ x ∈ m ++ [o], SmO x 40 := fun x hx => by
      rcases List.mem_append.1 hx with hx | hx
      · exact hSm x hx
      · simp at hx; rw [hx]; exact hSo
    have hl5 : (m ++ [o]).length ≤ 151 := by simp; omega
    generalize m ++ [o] = m5 at *
    clear HS HSG hs5 hg5 ho4 hC4 hG4 x0 x1 x2 x3 x4 x5 x6 x7 x8 x9 x10 x11
    go_wp2_with fail
    go_ret
    exact ⟨a5, c5, m5, rfl, ho5, hSm5, hl5, hC5, hG5⟩
  · -- the first one bent
    clear x0 x1 x2 x3 x4 x5 x6 x7 x8 x9 x10 x11
    go_wp2_with fail
    refine (l4bent_any w0 w3 g code l hC3).mono ?_
    rintro e w5 ⟨o, k, nn, t, rfl, hOw, hSb, hC5, hG5⟩
    obtain ⟨ak, ck, rfl, _, _⟩ := hOw.1.ints.shape
    obtain ⟨an, cn, rfl, _, _⟩ := hOw.2.1.byt.shape
    obtain ⟨tt, ct, rfl, _, _⟩ := hOw.2.2.1.byt.shape
    have ho5 := ho3.by hG5
    have hG5' := grown_trans hG3' hG5
    have hg3 := hC3.lt
    have hs5 := ho5.2.set 0 hpos (.int .i64 o.kind) (.int .i64 o.atN) (.int .i64 o.atR) (.int .i64 o.nodeN) (.int .i64 o.nodeR) (.int .i64 o.parN) (.int .i64 o.parR) (.slice ak o.key.length ck) (.int .i64 o.elem) (.slice an o.name.length cn) (.slice tt o.text.length ct) (.bool o.gone) o (hOw.rdg hg3)
    simp only [Nat.zero_mul, Nat.zero_add, List.length_set] at hs5
    have hb5 : (Value.slice (some ⟨b, 0, none⟩) m.length c).ownBlock = some b := rfl
    have ho6 := DrOps.grown ho5 hs5.1 (by rw [hb5]; exact hs5.2.toGrown)
    have hC6 := hC5.keep hs5.2.toGrown (fun e => by cases e; omega) (fun q hq => by cases hq; omega)
    have hG6 := grown_new hG5' hs5.2.toGrown (fun q hq => by cases hq; exact hbB)
    have hSm6 : ∀ x ∈ m.set 0 o, SmO x 40 := fun x hx => by
      rcases List.mem_or_eq_of_mem_set hx with hx | hx
      · exact hSm x hx
      · rw [hx]; exact hSb
    have HF := hide (And.intro ho6 (And.intro hC6 hG6))
    obtain ⟨⟨y0, q0⟩, f0⟩ := ho5.2.cells 0 hpos 0 (by omega)
    obtain ⟨⟨y1, q1⟩, f1⟩ := ho5.2.cells 0 hpos 1 (by omega)
    obtain ⟨⟨y2, q2⟩, f2⟩ := ho5.2.cells 0 hpos 2 (by omega)
    obtain ⟨⟨y3, q3⟩, f3⟩ := ho5.2.cells 0 hpos 3 (by omega)
    obtain ⟨⟨y4, q4⟩, f4⟩ := ho5.2.cells 0 hpos 4 (by omega)
    obtain ⟨⟨y5, q5⟩, f5⟩ := ho5.2.cells 0 hpos 5 (by omega)
    obtain ⟨⟨y6, q6⟩, f6⟩ := ho5.2.cells 0 hpos 6 (by omega)
    obtain ⟨⟨y7, q7⟩, f7⟩ := ho5.2.cells 0 hpos 7 (by omega)
    obtain ⟨⟨y8, q8⟩, f8⟩ := ho5.2.cells 0 hpos 8 (by omega)
    obtain ⟨⟨y9, q9⟩, f9⟩ := ho5.2.cells 0 hpos 9 (by omega)
    obtain ⟨⟨y10, q10⟩, f10⟩ := ho5.2.cells 0 hpos 10 (by omega)
    obtain ⟨⟨y11, q11⟩, f11⟩ := ho5.2.cells 0 hpos 11 (by omega)
    simp only [Nat.zero_mul, Nat.zero_add] at q0 f0 q1 f1 q2 f2 q3 f3 q4 f4 q5 f5 q6 f6 q7 f7 q8 f8 q9 f9 q10 f10 q11 f11
    clear ho3 hC3 hG3' ho5 hC5 hG5 hG5' hs5 ho6 hC6 hG6 hOw hR
    unfold opVal
    go_wp2_with fail
    go_ret
    obtain ⟨ho6, hC6, hG6⟩ := unhide HF
    exact ⟨some ⟨b, 0, none⟩, c, m.set 0 o, by rw [List.length_set]; rfl, by rw [List.length_set]; exact ho6, hSm6, by rw [List.length_set]; omega, hC6, hG6⟩
  · -- as many as there may not be
    have hml2 : m.length ≤ 151 := by omega
    clear x0 x1 x2 x3 x4 x5 x6 x7 x8 x9 x10 x11 hR hml hSo hoo hp hp'
    go_wp2_with fail
    go_loopw [3, 4] (fun v i wr => ∃ (j : Nat) (a : Option Addr) (c : Nat) (m : List OpV), i = .int .i64 j ∧ j ≤ m.length ∧ v = .slice a m.length c ∧ DrOps g w.heap.size wr (.slice a m.length c) m ∧ (∀ x ∈ m, SmO x 40) ∧ m.length ≤ 151 ∧ 0 < m.length ∧ Cur w0 wr g code l ∧ w.grownBy wr (some g)) (fun v _ _ => 151 - slen v)
    case atStart => exact ⟨0, _, _, m, rfl, Nat.zero_le _, rfl, ho3, hSm, hml2, hpos, hC3, hG3'⟩
    case round =>
      clear ho3 hC3 hG3' hSm hml2 hpos hbB hbl
      obtain ⟨j, a, c, m, rfl, hj, rfl, ho3, hSm, hml, hpos, hC3, hG3⟩ := hrel
      by_cases hfull : m.length ≤ 150
      case neg =>
        have hf : ¬ (m.length : Int) ≤ 150 := by omega
        go_wp2_with fail
        go_ret
        exact ⟨a, c, m, rfl, ho3, hSm, hml, hC3, hG3⟩
      have hf : (m.length : Int) ≤ 150 := by omega
      have hp : (0 : Int) < (m.length : Int) := by omega
      obtain ⟨b, cap, a1, c1, a2, c2, a3, c3, o, hoo, ev, hbB, hbl, ⟨x0, x1, x2, x3, x4, x5, x6, x7, x8, x9, x10, x11⟩, hR⟩ := ho3.head hpos
      cases ev
      have hSo := hSm o (head_mem hoo)
      have hjb : (j : Int) ≤ 151 := by omega
      have hB4 : Below wr.heap.size wr (wr.alloc (.cells #[.int .i64 o.kind, .int .i64 (100 + (j : Int)), .int .i64 o.atR, .int .i64 o.nodeN, .int .i64 o.nodeR, .int .i64 o.parN, .int .i64 o.parR, .slice a1 o.key.length c1, .int .i64 o.elem, .slice a2 o.name.length c2, .slice a3 o.text.length c3, .bool o.gone] 38)) := (Below.refl _ _).alloc (Nat.le_refl _) _
      have hB5 : Below wr.heap.size wr ((wr.alloc (.cells #[.int .i64 o.kind, .int .i64 (100 + (j : Int)), .int .i64 o.atR, .int .i64 o.nodeN, .int .i64 o.nodeR, .int .i64 o.parN, .int .i64 o.parR, .slice a1 o.key.length c1, .int .i64 o.elem, .slice a2 o.name.length c2, .slice a3 o.text.length c3, .bool o.gone] 38)).alloc (.cells #[.int .i64 o.kind, .int .i64 (100 + (j : Int)), .int .i64 o.atR, .int .i64 o.nodeN, .int .i64 o.nodeR, .int .i64 o.parN, .int .i64 o.parR, .slice a1 o.key.length c1, .int .i64 o.elem, .slice a2 o.name.length c2, .slice a3 o.text.length c3, .bool o.gone] 38)) := hB4.alloc hB4.size _
      have l4 := Loc.made (wr.alloc (.cells #[.int .i64 o.kind, .int .i64 (100 + (j : Int)), .int .i64 o.atR, .int .i64 o.nodeN, .int .i64 o.nodeR, .int .i64 o.parN, .int .i64 o.parR, .slice a1 o.key.length c1, .int .i64 o.elem, .slice a2 o.name.length c2, .slice a3 o.text.length c3, .bool o.gone] 38)) #[.int .i64 o.kind, .int .i64 (100 + (j : Int)), .int .i64 o.atR, .int .i64 o.nodeN, .int .i64 o.nodeR, .int .i64 o.parN, .int .i64 o.parR, .slice a1 o.key.length c1, .int .i64 o.elem, .slice a2 o.name.length c2, .slice a3 o.text.length c3, .bool o.gone] 38
      have HS := hide (And.intro (ho3.keep hB5) (And.intro (hC3.keepAll hB5) (And.intro (grown_below hG3 hB5) (hR.keep hB5))))
      have HSG := hide (SegP.one (P := RdG g ((wr.alloc (.cells #[.int .i64 o.kind, .int .i64 (100 + (j : Int)), .int .i64 o.atR, .int .i64 o.nodeN, .int .i64 o.nodeR, .int .i64 o.parN, .int .i64 o.parR, .slice a1 o.key.length c1, .int .i64 o.elem, .slice a2 o.name.length c2, .slice a3 o.text.length c3, .bool o.gone] 38)).alloc (.cells #[.int .i64 o.kind, .int .i64 (100 + (j : Int)), .int .i64 o.atR, .int .i64 o.nodeN, .int .i64 o.nodeR, .int .i64 o.parN, .int .i64 o.parR, .slice a1 o.key.length c1, .int .i64 o.elem, .slice a2 o.name.length c2, .slice a3 o.text.length c3, .bool o.gone] 38))) (C := [.int .i64 o.kind, .int .i64 (100 + (j : Int)), .int .i64 o.atR, .int .i64 o.nodeN, .int .i64 o.nodeR, .int .i64 o.parN, .int .i64 o.parR, .slice a1 o.key.length c1, .int .i64 o.elem, .slice a2 o.name.length c2, .slice a3 o.text.length c3, .bool o.gone]) (o := { o with atN := 100 + (j : Int) }) rfl l4 ((hR.keep hB5).at _))
      clear hB4 hB5 l4 ho3 hC3 hG3 hR
      rw [World.size_alloc] at HSG
      go_wp2_with (at_builtin; refine wpList_appShP (P := RdG g ((wr.alloc (.cells #[.int .i64 o.kind, .int .i64 (100 + (j : Int)), .int .i64 o.atR, .int .i64 o.nodeN, .int .i64 o.nodeR, .int .i64 o.parN, .int .i64 o.parR, .slice a1 o.key.length c1, .int .i64 o.elem, .slice a2 o.name.length c2, .slice a3 o.text.length c3, .bool o.gone] 38)).alloc (.cells #[.int .i64 o.kind, .int .i64 (100 + (j : Int)), .int .i64 o.atR, .int .i64 o.nodeN, .int .i64 o.nodeR, .int .i64 o.parN, .int .i64 o.parR, .slice a1 o.key.length c1, .int .i64 o.elem, .slice a2 o.name.length c2, .slice a3 o.text.length c3, .bool o.gone] 38))) (w0 := ((wr.alloc (.cells #[.int .i64 o.kind, .int .i64 (100 + (j : Int)), .int .i64 o.atR, .int .i64 o.nodeN, .int .i64 o.nodeR, .int .i64 o.parN, .int .i64 o.parR, .slice a1 o.key.length c1, .int .i64 o.elem, .slice a2 o.name.length c2, .slice a3 o.text.length c3, .bool o.gone] 38)).alloc (.cells #[.int .i64 o.kind, .int .i64 (100 + (j : Int)), .int .i64 o.atR, .int .i64 o.nodeN, .int .i64 o.nodeR, .int .i64 o.parN, .int .i64 o.parR, .slice a1 o.key.length c1, .int .i64 o.elem, .slice a2 o.name.length c2, .slice a3 o.text.length c3, .bool o.gone] 38))) (fun _ _ hr => hr.rd) rfl _ _ rfl w.heap.size _ m rfl (unhide HS).1.2 _ [{ o with atN := 100 + (j : Int) }] rfl (unhide HSG) ?c3 ?c4 ?_)
      case c3 => simp; omega
      case c4 => have := (unhide HS).2.2.1.size; exact this
      intro v' w5 hs5 hg5
      obtain ⟨ho4, hC4, hG4, _⟩ := unhide HS
      have ho5 := DrOps.grown ho4 hs5 hg5
      have hbn : ∀ q, (Value.slice (some ⟨b, 0, none⟩) m.length c).ownBlock = some q → w.heap.size ≤ q := fun q hq => (ho4.blk q hq).1
      have hC5 := hC4.keep hg5 (fun e => by have := hbn g e.symm; omega) (fun q hq => by have := hbn q hq; omega)
      have hG5 := grown_new hG4 hg5 hbn
      obtain ⟨a5, c5, rfl⟩ := ho5.shape
      have hSm5 : ∀ x ∈ m ++ [{ o with atN := 100 + (j : Int) }], SmO x 40 := fun x hx => by
        rcases List.mem_append.1 hx with hx | hx
        · exact hSm x hx
        · simp at hx; rw [hx]; exact hSo
      have hl5 : (m ++ [{ o with atN := 100 + (j : Int) }]).length = m.length + 1 := by simp
      generalize m ++ [{ o with atN := 100 + (j : Int) }] = m5 at *
      clear HS HSG hs5 hg5 ho4 hC4 hG4 x0 x1 x2 x3 x4 x5 x6 x7 x8 x9 x10 x11
      go_wp2_with fail
      go_roundw
      case rel => exact ⟨j + 1, a5, c5, m5, by go_num, by omega, rfl, ho5, hSm5, by omega, by omega, hC5, hG5⟩
      case measure => simp [slen]; omega
end Go.Proofs.YtaoodcielfabdaaGreat

/- impl.isSmall, impl.isDigit, impl.NameOk and impl.textOk answer what the plain tests say. -/
namespace Go.Proofs.YtaoodcielfabdaaGreat
open Go.RowKit
set_option linter.unusedVariables false

def smallB (x : Int) : Bool := decide (97 ≤ x ∧ x ≤ 122)
def digB (x : Int) : Bool := decide (48 ≤ x ∧ x ≤ 57)
theorem smallB_yes {x : Int} (h : 97 ≤ x ∧ x ≤ 122) : smallB x = true := by unfold smallB; simpa using h
theorem smallB_no {x : Int} (h : ¬ (97 ≤ x ∧ x ≤ 122)) : smallB x = false := by unfold smallB; simpa using h
theorem digB_yes {x : Int} (h : 48 ≤ x ∧ x ≤ 57) : digB x = true := by unfold digB; simpa using h
theorem digB_no {x : Int} (h : ¬ (48 ≤ x ∧ x ≤ 57)) : digB x = false := by unfold digB; simpa using h

theorem small_any (x : Int) (w : World) : Calls Tryz.prog 132 #[.int .u8 x] w fun e w' => e = .returned (.bool (smallB x)) ∧ w' = w := by
  by_cases h1 : 97 ≤ x
  · by_cases h2 : x ≤ 122
    · have HD := hide (smallB_yes ⟨h1, h2⟩)
      go_enter Tryz.func132, Tryz.ntmps132
      go_wp2
      go_ret
      exact ⟨by rw [unhide HD]; rfl, rfl⟩
    · have HD := hide (smallB_no (x := x) (by omega))
      go_enter Tryz.func132, Tryz.ntmps132
      go_wp2
      go_ret
      exact ⟨by rw [unhide HD]; rfl, rfl⟩
  · have HD := hide (smallB_no (x := x) (by omega))
    have d1 : decide (97 ≤ x) = false := by simpa using h1
    go_enter Tryz.func132, Tryz.ntmps132
    go_wp2
    go_ret
    exact ⟨by rw [unhide HD]; rfl, rfl⟩
theorem dig_any (x : Int) (w : World) : Calls Tryz.prog 133 #[.int .u8 x] w fun e w' => e = .returned (.bool (digB x)) ∧ w' = w := by
  by_cases h1 : 48 ≤ x
  · by_cases h2 : x ≤ 57
    · have HD := hide (digB_yes ⟨h1, h2⟩)
      go_enter Tryz.func133, Tryz.ntmps133
      go_wp2
      go_ret
      exact ⟨by rw [unhide HD]; rfl, rfl⟩
    · have HD := hide (digB_no (x := x) (by omega))
      go_enter Tryz.func133, Tryz.ntmps133
      go_wp2
      go_ret
      exact ⟨by rw [unhide HD]; rfl, rfl⟩
  · have HD := hide (digB_no (x := x) (by omega))
    have d1 : decide (48 ≤ x) = false := by simpa using h1
    go_enter Tryz.func133, Tryz.ntmps133
    go_wp2
    go_ret
    exact ⟨by rw [unhide HD]; rfl, rfl⟩

def standB (x : Int) : Bool := decide (32 ≤ x ∧ x ≤ 126)
theorem standB_yes {x : Int} (h : 32 ≤ x ∧ x ≤ 126) : standB x = true := by unfold standB; simpa using h
theorem standB_no {x : Int} (h : ¬ (32 ≤ x ∧ x ≤ 126)) : standB x = false := by unfold standB; simpa using h
theorem stand_any (x : Int) (w : World) : Calls Tryz.prog 131 #[.int .u8 x] w fun e w' => e = .returned (.bool (standB x)) ∧ w' = w := by
  by_cases h1 : 32 ≤ x
  · by_cases h2 : x ≤ 126
    · have HD := hide (standB_yes ⟨h1, h2⟩)
      go_enter Tryz.func131, Tryz.ntmps131
      go_wp2
      go_ret
      exact ⟨by rw [unhide HD]; rfl, rfl⟩
    · have HD := hide (standB_no (x := x) (by omega))
      go_enter Tryz.func131, Tryz.ntmps131
      go_wp2
      go_ret
      exact ⟨by rw [unhide HD]; rfl, rfl⟩
  · have HD := hide (standB_no (x := x) (by omega))
    have d1 : decide (32 ≤ x) = false := by simpa using h1
    go_enter Tryz.func131, Tryz.ntmps131
    go_wp2
    go_ret
    exact ⟨by rw [unhide HD]; rfl, rfl⟩

theorem nameI_short (w : World) (a : Option Addr) (n cap : Nat) (h : n < 1 ∨ 8 < n) :
    Calls Tryz.prog 88 #[.slice a n cap] w fun e w' => e = .returned (.bool false) ∧ w' = w := by
  by_cases h1 : n < 1
  · have h1' : (n : Int) < 1 := by omega
    go_enter Tryz.func88, Tryz.ntmps88
    go_wp2_with fail
    go_ret
    exact ⟨rfl, rfl⟩
  · have h1' : decide ((n : Int) < 1) = false := by simp; omega
    have h2 : (8 : Int) < (n : Int) := by omega
    go_enter Tryz.func88, Tryz.ntmps88
    go_wp2_with fail
    go_ret
    exact ⟨rfl, rfl⟩

open Classical in
set_option maxHeartbeats 1600000 in
theorem nameI_row (w : World) (b off cap : Nat) (l : List Int) (hok : okB l) (h1 : 1 ≤ l.length) (h8 : l.length ≤ 8)
    (hc : ∀ i, i < l.length → w.cell? ⟨b, off + i, none⟩ = some (.int .u8 (l.getD i 0))) :
    Calls Tryz.prog 88 #[.slice (some ⟨b, off, none⟩) l.length cap] w fun e w' => e = .returned (.bool (decide (NameOk l))) ∧ w' = w := by
  have d1 : decide ((l.length : Int) < 1) = false := by simp; omega
  have d2 : decide ((8 : Int) < (l.length : Int)) = false := by simp; omega
  have hl0 : (0 : Int) < (l.length : Int) := by omega
  obtain ⟨y, hy⟩ : ∃ y, y = l.getD 0 0 := ⟨_, rfl⟩
  have hcy : w.cell? ⟨b, off, none⟩ = some (.int .u8 y) := by rw [hy]; exact hc 0 (by omega)
  have HY := hide hy
  clear hy
  by_cases hs : 97 ≤ y ∧ y ≤ 122
  · have sy := smallB_yes hs
    go_enter Tryz.func88, Tryz.ntmps88
    go_wp2_with (go_at_call 132; refine (small_any y w).mono ?_; rintro e w' ⟨rfl, rfl⟩)
    go_loop [22] (fun i => ∃ k : Nat, k ≤ l.length ∧ i = .int .i64 k ∧ allTo nameCh l k) (fun i => l.length - (intOf i).toNat)
    case atStart => exact ⟨0, Nat.zero_le _, rfl, fun i hi => by omega⟩
    case round =>
      obtain ⟨k, hk, rfl, ha⟩ := hrel
      have HA := hide ha
      clear ha
      by_cases hlt : k < l.length
      · obtain ⟨x, hx⟩ : ∃ x, x = l.getD k 0 := ⟨_, rfl⟩
        have hcx : w'.cell? ⟨b, off + k, none⟩ = some (.int .u8 x) := by rw [hx]; exact hc _ hlt
        have HX := hide hx
        have hlt' : (k : Int) < (l.length : Int) := by omega
        clear hc hcy sy hx
        by_cases hn : 97 ≤ x ∧ x ≤ 122
        · have HN := hide (show nameCh k x from .inl hn)
          have sx := smallB_yes hn
          clear hn
          go_wp2_with (go_at_call 132; refine (small_any x _).mono ?_; rintro e w' ⟨rfl, rfl⟩)
          go_round
          case rel => exact ⟨k + 1, by omega, by go_num, allTo_step (unhide HA) (by rw [← unhide HX]; exact unhide HN)⟩
          case measure => simp [intOf]; omega
        · have sx := smallB_no hn
          by_cases hd : 48 ≤ x ∧ x ≤ 57
          · have hk0 : 0 < k := by
              by_cases e : k = 0
              · subst e; exact absurd hs (by rw [unhide HY, ← unhide HX]; exact hn)
              · omega
            have HN := hide (show nameCh k x from .inr ⟨hk0, hd⟩)
            have sd := digB_yes hd
            clear hn hd
            go_wp2_with (first | (go_at_call 132; refine (small_any x _).mono ?_; rintro e w' ⟨rfl, rfl⟩) | (go_at_call 133; refine (dig_any x _).mono ?_; rintro e w' ⟨rfl, rfl⟩))
            go_round
            case rel => exact ⟨k + 1, by omega, by go_num, allTo_step (unhide HA) (by rw [← unhide HX]; exact unhide HN)⟩
            case measure => simp [intOf]; omega
          · have sd := digB_no hd
            have HF := hide (show decide (NameOk l) = false by
              simp only [decide_eq_false_iff_not]
              rintro ⟨_, _, h⟩
              have := h k hlt
              rw [← unhide HX] at this
              rcases this with h | ⟨_, h⟩
              · exact hn h
              · exact hd h)
            clear hn hd
            go_wp2_with (first | (go_at_call 132; refine (small_any x _).mono ?_; rintro e w' ⟨rfl, rfl⟩) | (go_at_call 133; refine (dig_any x _).mono ?_; rintro e w' ⟨rfl, rfl⟩))
            go_ret
            exact ⟨by rw [unhide HF]; rfl, rfl⟩
      · have e : k = l.length := by omega
        subst e
        have HF := hide (show decide (NameOk l) = true by simp only [decide_eq_true_eq]; exact ⟨h1, h8, unhide HA⟩)
        clear hc
        go_wp2_with fail
        go_ret
        exact ⟨by rw [unhide HF]; rfl, rfl⟩
  · have sy := smallB_no hs
    have HF := hide (show decide (NameOk l) = false by
      simp only [decide_eq_false_iff_not]
      rintro ⟨_, _, h⟩
      have := h 0 (by omega)
      rw [← unhide HY] at this
      rcases this with h | ⟨h, _⟩
      · exact hs h
      · omega)
    clear hc hs
    go_enter Tryz.func88, Tryz.ntmps88
    go_wp2_with (go_at_call 132; refine (small_any y w).mono ?_; rintro e w' ⟨rfl, rfl⟩)
    go_ret
    exact ⟨by rw [unhide HF]; rfl, rfl⟩

open Classical in
theorem nameI_any (w : World) (v : Value) (l : List Int) (h : Byt w v l) :
    Calls Tryz.prog 88 #[v] w fun e w' => e = .returned (.bool (decide (NameOk l))) ∧ w' = w := by
  by_cases hl : l.length < 1 ∨ 8 < l.length
  · obtain ⟨a, cap, rfl, _⟩ := h.shape
    have hd : decide (NameOk l) = false := by simp only [decide_eq_false_iff_not]; rintro ⟨_, _, _⟩; omega
    rw [hd]
    exact nameI_short w a _ cap hl
  · obtain ⟨hok, hm, ⟨rfl, rfl⟩ | ⟨x, cap, rfl, hc, rfl⟩ | ⟨b, off, cap, rfl, _, _, _, _, h5⟩⟩ := h
    · simp at hl
    · simp at hl
    · exact nameI_row w b off cap l hok (by omega) (by omega) h5

theorem nameI_yes (w : World) (v : Value) (l : List Int) (h : Byt w v l) (hn : NameOk l) : Calls Tryz.prog 88 #[v] w fun e w' => e = .returned (.bool true) ∧ w' = w := by
  refine (nameI_any w v l h).mono ?_
  rintro e w' ⟨rfl, h⟩
  exact ⟨by simp [hn], h⟩
theorem nameI_no (w : World) (v : Value) (l : List Int) (h : Byt w v l) (hn : ¬ NameOk l) : Calls Tryz.prog 88 #[v] w fun e w' => e = .returned (.bool false) ∧ w' = w := by
  refine (nameI_any w v l h).mono ?_
  rintro e w' ⟨rfl, h⟩
  exact ⟨by simp [hn], h⟩
open Classical in
set_option maxHeartbeats 1600000 in
theorem textI_any (w : World) (v : Value) (l : List Int) (h : Byt w v l) :
    Calls Tryz.prog 87 #[v] w fun e w' => e = .returned (.bool (decide (TextOk l))) ∧ w' = w := by
  by_cases hl : 30 < l.length
  · obtain ⟨a, cap, rfl, _⟩ := h.shape
    have HD := hide (show decide (TextOk l) = false by simp only [decide_eq_false_iff_not]; rintro ⟨_, _⟩; omega)
    have d2 : (30 : Int) < (l.length : Int) := by omega
    go_enter Tryz.func87, Tryz.ntmps87
    go_wp2
    go_ret
    exact ⟨by rw [unhide HD]; rfl, rfl⟩
  have d2 : ¬ (30 : Int) < (l.length : Int) := by omega
  by_cases h0 : l = []
  · obtain ⟨a, cap, rfl, _⟩ := h.shape
    subst h0
    have HD := hide (show decide (TextOk []) = true by simp only [decide_eq_true_eq]; exact ⟨by simp, fun i hi => by simp at hi⟩)
    go_enter Tryz.func87, Tryz.ntmps87
    go_wp2
    refine wp_loop_rounds 1 ?_
    rw [rounds_succ]
    go_wp2
    go_ret
    exact ⟨by rw [unhide HD]; rfl, rfl⟩
  obtain ⟨hok, hm, ⟨_, e⟩ | ⟨_, _, _, _, e⟩ | ⟨b, off, cap, rfl, _, _, _, _, hc⟩⟩ := h
  · exact absurd e h0
  · exact absurd e h0
  go_enter Tryz.func87, Tryz.ntmps87
  go_wp2
  go_loop [10] (fun i => ∃ k : Nat, k ≤ l.length ∧ i = .int .i64 k ∧ allTo textCh l k) (fun i => l.length - (intOf i).toNat)
  case atStart => exact ⟨0, Nat.zero_le _, rfl, fun i hi => by omega⟩
  case round =>
    obtain ⟨k, hk, rfl, ha⟩ := hrel
    have HA := hide ha
    clear ha
    by_cases hlt : k < l.length
    · obtain ⟨x, hx⟩ : ∃ x, x = l.getD k 0 := ⟨_, rfl⟩
      have hcx : w.cell? ⟨b, off + k, none⟩ = some (.int .u8 x) := by rw [hx]; exact hc _ hlt
      have HX := hide hx
      have hlt' : (k : Int) < (l.length : Int) := by omega
      clear hc hx
      by_cases hn : textCh k x
      · have HN := hide hn
        have sx := standB_yes (x := x) (by unfold textCh at hn; omega)
        clear hn
        go_wp2_with (go_at_call 131; refine (stand_any x _).mono ?_; rintro e w' ⟨rfl, rfl⟩)
        go_round
        case rel => exact ⟨k + 1, by omega, by go_num, allTo_step (unhide HA) (by rw [← unhide HX]; exact unhide HN)⟩
        case measure => simp [intOf]; omega
      · have HF := hide (show decide (TextOk l) = false by
          simp only [decide_eq_false_iff_not]
          rintro ⟨_, h⟩
          exact hn (by rw [unhide HX]; exact h k hlt))
        have sx := standB_no (x := x) (by unfold textCh at hn; omega)
        clear hn
        go_wp2_with (go_at_call 131; refine (stand_any x _).mono ?_; rintro e w' ⟨rfl, rfl⟩)
        go_ret
        exact ⟨by rw [unhide HF]; rfl, rfl⟩
    · have e : k = l.length := by omega
      subst e
      have HF := hide (show decide (TextOk l) = true by simp only [decide_eq_true_eq]; exact ⟨by omega, unhide HA⟩)
      clear hc
      go_wp2
      go_ret
      exact ⟨by rw [unhide HF]; rfl, rfl⟩

theorem textI_yes (w : World) (v : Value) (l : List Int) (h : Byt w v l) (hn : TextOk l) : Calls Tryz.prog 87 #[v] w fun e w' => e = .returned (.bool true) ∧ w' = w := by
  refine (textI_any w v l h).mono ?_
  rintro e w' ⟨rfl, h⟩
  exact ⟨by simp [hn], h⟩
theorem textI_no (w : World) (v : Value) (l : List Int) (h : Byt w v l) (hn : ¬ TextOk l) : Calls Tryz.prog 87 #[v] w fun e w' => e = .returned (.bool false) ∧ w' = w := by
  refine (textI_any w v l h).mono ?_
  rintro e w' ⟨rfl, h⟩
  exact ⟨by simp [hn], h⟩

end Go.Proofs.YtaoodcielfabdaaGreat

/- impl.stampOk, impl.idOk, impl.NameOk, impl.textOk, impl.valueOk, impl.loneOk answer what the plain tests say. -/
namespace Go.Proofs.YtaoodcielfabdaaGreat
open Go.RowKit
set_option linter.unusedVariables false
set_option maxRecDepth 100000

def stampB (n r : Int) : Bool := decide (1 ≤ n) && (decide (n ≤ 1000000) && (decide (0 ≤ r) && decide (r < 8)))
theorem stampB_cases (n r : Int) :
    (stampB n r = false ∧ decide (1 ≤ n) = false) ∨
    (stampB n r = false ∧ decide (1 ≤ n) = true ∧ decide (n ≤ 1000000) = false) ∨
    (stampB n r = false ∧ decide (1 ≤ n) = true ∧ decide (n ≤ 1000000) = true ∧ decide (0 ≤ r) = false) ∨
    (stampB n r = true ∧ decide (1 ≤ n) = true ∧ decide (n ≤ 1000000) = true ∧ decide (0 ≤ r) = true ∧ decide (r < 8) = true) ∨
    (stampB n r = false ∧ decide (1 ≤ n) = true ∧ decide (n ≤ 1000000) = true ∧ decide (0 ≤ r) = true ∧ decide (r < 8) = false) := by
  unfold stampB
  cases decide (1 ≤ n) <;> cases decide (n ≤ 1000000) <;> cases decide (0 ≤ r) <;> cases decide (r < 8) <;> simp

set_option maxHeartbeats 1600000 in
theorem stampI_any (w : World) (n r : Int) :
    Calls Tryz.prog 90 #[.agg #[.int .i64 n, .int .i64 r]] w fun e w' => e = .returned (.bool (stampB n r)) ∧ w' = w.alloc (.cells #[.int .i64 n, .int .i64 r] 35) := by
  rcases stampB_cases n r with ⟨h, q1⟩ | ⟨h, q1, q2⟩ | ⟨h, q1, q2, q3⟩ | ⟨h, q1, q2, q3, q4⟩ | ⟨h, q1, q2, q3, q4⟩
  all_goals
    have HE := hide h
    clear h
    go_enter Tryz.func90, Tryz.ntmps90
    go_wp2
    go_ret
    exact ⟨by rw [unhide HE]; rfl, rfl⟩

theorem idB_stamp (n r : Int) :
    (stampB n r = true ∧ idB n r = true) ∨
    (stampB n r = false ∧ idB n r = false ∧ (n == 0) = false) ∨
    (stampB n r = false ∧ idB n r = false ∧ n = 0 ∧ (n == 0) = true ∧ decide (0 ≤ r) = false) ∨
    (stampB n r = false ∧ idB n r = decide (r ≤ 121) ∧ n = 0 ∧ (n == 0) = true ∧ decide (0 ≤ r) = true) := by
  unfold stampB idB
  by_cases a : n = 0
  · subst a
    by_cases b : 0 ≤ r
    · right; right; right
      refine ⟨by simp, ?_, rfl, rfl, by simpa using b⟩
      rw [Bool.eq_iff_iff]
      simp
      omega
    · right; right; left
      refine ⟨by simp, ?_, rfl, rfl, by simpa using b⟩
      rw [Bool.eq_false_iff]
      simp only [ne_eq, Bool.and_eq_true, Bool.or_eq_true, decide_eq_true_eq]
      omega
  · by_cases c : 1 ≤ n ∧ n ≤ 1000000 ∧ 0 ≤ r ∧ r < 8
    · left
      simp only [Bool.and_eq_true, Bool.or_eq_true, decide_eq_true_eq]
      omega
    · right; left
      refine ⟨?_, ?_, by simpa using a⟩
      · rw [Bool.eq_false_iff]
        simp only [ne_eq, Bool.and_eq_true, decide_eq_true_eq]
        omega
      · rw [Bool.eq_false_iff]
        simp only [ne_eq, Bool.and_eq_true, Bool.or_eq_true, decide_eq_true_eq]
        omega

set_option maxHeartbeats 1600000 in
theorem idI_any (w : World) (n r : Int) :
    Calls Tryz.prog 84 #[.agg #[.int .i64 n, .int .i64 r]] w fun e w' => e = .returned (.bool (idB n r)) ∧ w' = (w.alloc (.cells #[.int .i64 n, .int .i64 r] 35)).alloc (.cells #[.int .i64 n, .int .i64 r] 35) := by
  have HS := hide (stampI_any (w.alloc (.cells #[.int .i64 n, .int .i64 r] 35)) n r)
  rcases idB_stamp n r with ⟨h, k⟩ | ⟨h, k, q1⟩ | ⟨h, k, rfl, q1, q2⟩ | ⟨h, k, rfl, q1, q2⟩
  all_goals
    rw [h] at HS
    have HE := hide k
    clear h k
    go_enter Tryz.func84, Tryz.ntmps84
    go_wp2_with fail
    refine (unhide HS).mono ?_
    rintro e w1 ⟨rfl, rfl⟩
    go_wp2
    go_ret
    exact ⟨by rw [unhide HE]; rfl, rfl⟩

theorem nameI_b (w : World) (v : Value) (l : List Int) (h : Byt w v l) : Calls Tryz.prog 88 #[v] w fun e w' => e = .returned (.bool (nameB l)) ∧ w' = w := by
  by_cases hn : NameOk l
  · rw [(nameB_iff l).2 hn]; exact nameI_yes w v l h hn
  · rw [Bool.eq_false_iff.2 (fun k => hn ((nameB_iff l).1 k))]; exact nameI_no w v l h hn
theorem textI_b (w : World) (v : Value) (l : List Int) (h : Byt w v l) : Calls Tryz.prog 87 #[v] w fun e w' => e = .returned (.bool (textB l)) ∧ w' = w := by
  by_cases hn : TextOk l
  · rw [(textB_iff l).2 hn]; exact textI_yes w v l h hn
  · rw [Bool.eq_false_iff.2 (fun k => hn ((textB_iff l).1 k))]; exact textI_no w v l h hn

def valB (t : List Int) (gone : Bool) : Bool := if gone then (t.length : Int) == 0 else textB t
set_option maxHeartbeats 1600000 in
theorem valI_any (w : World) (v : Value) (t : List Int) (gone : Bool) (h : Byt w v t) :
    Calls Tryz.prog 89 #[v, .bool gone] w fun e w' => e = .returned (.bool (valB t gone)) ∧ w' = w := by
  have HT := hide (textI_b w v t h)
  obtain ⟨a, c, rfl, _, _⟩ := h.shape
  clear h
  cases gone
  · go_enter Tryz.func89, Tryz.ntmps89
    go_wp2_with fail
    refine (unhide HT).mono ?_
    rintro e w1 ⟨rfl, rfl⟩
    go_wp2
    go_ret
    exact ⟨rfl, rfl⟩
  · go_enter Tryz.func89, Tryz.ntmps89
    go_wp2_with fail
    go_ret
    exact ⟨rfl, rfl⟩

/-- Elem, Name and Text of a node without Kids. -/
def loneB (k : Int) (n t : List Int) : Bool := if k = 0 then nameB n && (t.length : Int) == 0 else if k = 1 then (n.length : Int) == 0 && textB t else false

theorem attrsI_none (w : World) : Calls Tryz.prog 159 #[.slice none 0 0] w fun e w' => e = .returned (.bool true) ∧ w' = w := by
  go_enter Tryz.func159, Tryz.ntmps159
  go_wp2
  refine wp_loop_rounds 1 ?_
  rw [rounds_succ]
  go_wp2
  go_ret
  exact ⟨rfl, rfl⟩

set_option maxHeartbeats 3200000 in
theorem partI_lone (w : World) (k : Int) (vn vt : Value) (n t : List Int) (g : Nat) (hn : Byt w vn n) (ht : Byt w vt t) :
    Calls Tryz.prog 130 #[.agg #[.int .i64 k, vn, vt, .slice none 0 0, .slice none 0 0], .pointer (some ⟨g, 0, none⟩)] w fun e w' => e = .returned (.bool (loneB k n t)) ∧ w' = w.alloc (.cells #[.int .i64 k, vn, vt, .slice none 0 0, .slice none 0 0] 26) := by
  have HA := hide ((Below.refl w.heap.size w).alloc (Nat.le_refl _) (.cells #[.int .i64 k, vn, vt, .slice none 0 0, .slice none 0 0] 26))
  have HN := hide (nameI_b _ vn n (hn.keep (unhide HA)))
  have HT := hide (textI_b _ vt t (ht.keep (unhide HA)))
  obtain ⟨a1, c1, rfl, _, _⟩ := hn.shape
  obtain ⟨a2, c2, rfl, _, _⟩ := ht.shape
  clear hn ht
  by_cases k0 : k = 0
  · subst k0
    have HE := hide (show loneB 0 n t = (nameB n && (t.length : Int) == 0) from rfl)
    generalize nameB n = x at *
    generalize n.length = ln at *
    generalize t.length = lt at *
    cases x
    · go_enter Tryz.func130, Tryz.ntmps130
      go_wp2_with fail
      refine (unhide HN).mono ?_
      rintro e w1 ⟨rfl, rfl⟩
      go_wp2_with fail
      go_ret
      exact ⟨by rw [unhide HE]; rfl, rfl⟩
    · by_cases h0 : lt = 0
      · subst h0
        go_enter Tryz.func130, Tryz.ntmps130
        go_wp2_with fail
        refine (unhide HN).mono ?_
        rintro e w1 ⟨rfl, rfl⟩
        go_wp2_with fail
        refine (attrsI_none _).mono ?_
        rintro e w1 ⟨rfl, rfl⟩
        go_wp2_with fail
        go_ret
        exact ⟨by rw [unhide HE]; rfl, rfl⟩
      · have h0' : ((lt : Int) == 0) = false := by simpa using h0
        go_enter Tryz.func130, Tryz.ntmps130
        go_wp2_with fail
        refine (unhide HN).mono ?_
        rintro e w1 ⟨rfl, rfl⟩
        go_wp2_with fail
        go_ret
        exact ⟨by rw [unhide HE, h0']; rfl, rfl⟩
  · by_cases k1 : k = 1
    · subst k1
      have HE := hide (show loneB 1 n t = ((n.length : Int) == 0 && textB t) from rfl)
      generalize textB t = x at *
      generalize n.length = ln at *
      generalize t.length = lt at *
      by_cases h0 : ln = 0
      · subst h0
        cases x
        · go_enter Tryz.func130, Tryz.ntmps130
          go_wp2_with fail
          refine (unhide HT).mono ?_
          rintro e w1 ⟨rfl, rfl⟩
          go_wp2_with fail
          go_ret
          exact ⟨by rw [unhide HE]; rfl, rfl⟩
        · go_enter Tryz.func130, Tryz.ntmps130
          go_wp2_with fail
          refine (unhide HT).mono ?_
          rintro e w1 ⟨rfl, rfl⟩
          go_wp2_with fail
          go_ret
          exact ⟨by rw [unhide HE]; rfl, rfl⟩
      · have h0' : ((ln : Int) == 0) = false := by simpa using h0
        go_enter Tryz.func130, Tryz.ntmps130
        go_wp2_with fail
        go_ret
        exact ⟨by rw [unhide HE, h0']; rfl, rfl⟩
    · have HE := hide (show loneB k n t = false by unfold loneB; rw [if_neg k0, if_neg k1])
      have q0 : (k == 0) = false := by simpa using k0
      have q1 : (k == 1) = false := by simpa using k1
      go_enter Tryz.func130, Tryz.ntmps130
      go_wp2_with fail
      go_ret
      exact ⟨by rw [unhide HE]; rfl, rfl⟩

set_option maxHeartbeats 3200000 in
theorem loneI_any (w : World) (k : Int) (vn vt : Value) (n t : List Int) (hn : Byt w vn n) (ht : Byt w vt t) :
    Calls Tryz.prog 86 #[.agg #[.int .i64 k, vn, vt, .slice none 0 0, .slice none 0 0]] w fun e w' => e = .returned (.bool (loneB k n t)) ∧ w' = ((w.alloc (.cells #[.int .i64 k, vn, vt, .slice none 0 0, .slice none 0 0] 26)).alloc (.cells #[.int .u32 0, .int .i32 0, .int .u32 0, .map none] 160)).alloc (.cells #[.int .i64 k, vn, vt, .slice none 0 0, .slice none 0 0] 26) := by
  have HN := hide (fun W (h : Below w.heap.size w W) => hn.keep h)
  have HT := hide (fun W (h : Below w.heap.size w W) => ht.keep h)
  obtain ⟨a1, c1, rfl, _, _⟩ := hn.shape
  obtain ⟨a2, c2, rfl, _, _⟩ := ht.shape
  clear hn ht
  go_enter Tryz.func86, Tryz.ntmps86
  go_wp2_with fail
  have HB := hide (((Below.refl w.heap.size w).alloc (Nat.le_refl _) (.cells #[.int .i64 k, .slice a1 n.length c1, .slice a2 t.length c2, .slice none 0 0, .slice none 0 0] 26)).alloc (by simp) (.cells #[.int .u32 0, .int .i32 0, .int .u32 0, .map none] 160))
  refine (partI_lone _ k _ _ n t _ (unhide HN _ (unhide HB)) (unhide HT _ (unhide HB))).mono ?_
  rintro e w1 ⟨rfl, rfl⟩
  go_wp2
  go_ret
  exact ⟨rfl, rfl⟩

end Go.Proofs.YtaoodcielfabdaaGreat

/- impl.isZeroOp answers what the plain test says. -/
namespace Go.Proofs.YtaoodcielfabdaaGreat
open Go.RowKit
set_option linter.unusedVariables false
set_option maxRecDepth 100000

def zeroOpB (o : OpV) : Bool := (o.kind == 0) && (zeroB o.atN o.atR && (zeroB o.nodeN o.nodeR && (zeroB o.parN o.parR && ((o.key.length : Int) == 0 && ((o.elem == 0) && ((o.name.length : Int) == 0 && ((o.text.length : Int) == 0 && !o.gone)))))))

set_option maxHeartbeats 3200000 in
theorem zeroI_any (w : World) (o : OpV) (a1 a2 a3 : Option Addr) (c1 c2 c3 : Nat) :
    Calls Tryz.prog 91 #[opVal o (.slice a1 o.key.length c1) (.slice a2 o.name.length c2) (.slice a3 o.text.length c3)] w fun e w' => e = .returned (.bool (zeroOpB o)) ∧ Below w.heap.size w w' := by
  unfold opVal
  go_enter Tryz.func91, Tryz.ntmps91
  go_wp2_with fail
  all_goals
    go_ret
    exact ⟨by simp [zeroOpB, zeroB, *], (Below.refl w.heap.size w).alloc (Nat.le_refl _) _⟩
end Go.Proofs.YtaoodcielfabdaaGreat

/- The test of an operation, the two ways round, in plain mathematics. -/
namespace Go.Proofs.YtaoodcielfabdaaGreat
set_option linter.unusedVariables false

theorem headB_eq (o : OpV) : opHeadB o = (decide (o.kind < 0) || (decide (3 < o.kind) || (!stampB o.atN o.atR || !textB o.text))) := by
  unfold opHeadB stampB
  have e1 : decide (1 ≤ o.atN) = !decide (o.atN < 1) := by rw [Bool.eq_iff_iff]; simp
  have e2 : decide (o.atN ≤ 1000000) = !decide (1000000 < o.atN) := by rw [Bool.eq_iff_iff]; simp
  have e3 : decide (0 ≤ o.atR) = !decide (o.atR < 0) := by rw [Bool.eq_iff_iff]; simp
  have e4 : decide (o.atR < 8) = !decide (8 ≤ o.atR) := by rw [Bool.eq_iff_iff]; simp
  rw [e1, e2, e3, e4]
  cases decide (o.kind < 0) <;> cases decide (3 < o.kind) <;> cases decide (o.atN < 1) <;> cases decide (1000000 < o.atN) <;> cases decide (o.atR < 0) <;> cases decide (8 ≤ o.atR) <;> rfl
theorem text_none {t : List Int} (h : ((t.length : Int) == 0) = true) : textB t = true := by
  have : t = [] := by simpa using h
  subst this
  rfl
theorem len_nil : ((([] : List Int).length : Int) == 0) = true := rfl
theorem zero_zero : zeroB 0 0 = true := rfl

def rest0 (o : OpV) : OpV := ⟨0, 0, 0, o.nodeN, o.nodeR, 0, 0, [], 0, [], [], o.gone⟩
def rest1 (o : OpV) : OpV := ⟨0, 0, 0, 0, 0, 0, 0, [], o.elem, o.name, o.text, o.gone⟩
def rest2 (o : OpV) : OpV := ⟨0, 0, 0, 0, 0, o.parN, o.parR, o.key, o.elem, o.name, [], o.gone⟩
def rest3 (o : OpV) : OpV := ⟨0, 0, 0, 0, 0, o.parN, o.parR, o.key, o.elem, [], [], false⟩

theorem opB_0 {o : OpV} (h : o.kind = 0) : opB o = (stampB o.atN o.atR && ((idB o.parN o.parR && (keyB o.key && loneB o.elem o.name o.text)) && zeroOpB (rest0 o))) := by
  unfold opB
  rw [headB_eq, h]
  simp only [Int.lt_irrefl, decide_false, Bool.false_or, beq_self_eq_true, if_true, show decide ((3 : Int) < 0) = false from rfl]
  unfold opNewB zeroOpB rest0
  simp only [zero_zero, len_nil, beq_self_eq_true, Bool.true_and]
  unfold loneB
  cases hs : stampB o.atN o.atR
  · simp
  cases idB o.parN o.parR
  · simp
  cases keyB o.key
  · simp
  cases zeroB o.nodeN o.nodeR
  · simp
  cases o.gone
  · by_cases e1 : o.elem = 1
    · rw [e1]
      cases textB o.text <;> simp
    · by_cases e0 : o.elem = 0
      · rw [e0]
        cases ht : textB o.text
        · cases hl : ((o.text.length : Int) == 0)
          · simp
          · rw [text_none hl] at ht; cases ht
        · simp
      · simp [e0, e1]
  · simp

theorem opB_1 {o : OpV} (h : o.kind = 1) : opB o = (stampB o.atN o.atR && ((idB o.nodeN o.nodeR && (idB o.parN o.parR && keyB o.key)) && zeroOpB (rest1 o))) := by
  unfold opB
  rw [headB_eq, h]
  simp only [show decide ((1 : Int) < 0) = false from rfl, Bool.false_or, show ((1 : Int) == 0) = false from rfl, show ((1 : Int) == 1) = true from rfl, show decide ((3 : Int) < 1) = false from rfl, if_true]
  unfold opMoveB zeroOpB rest1
  simp only [zero_zero, len_nil, beq_self_eq_true, Bool.true_and]
  cases hs : stampB o.atN o.atR
  · simp
  cases idB o.nodeN o.nodeR
  · simp
  cases idB o.parN o.parR
  · simp
  cases keyB o.key
  · simp
  cases hl : ((o.text.length : Int) == 0)
  · simp
  · rw [text_none hl]; simp

theorem opB_2 {o : OpV} (h : o.kind = 2) : opB o = (stampB o.atN o.atR && ((idB o.nodeN o.nodeR && textB o.text) && zeroOpB (rest2 o))) := by
  unfold opB
  rw [headB_eq, h]
  simp only [show decide ((2 : Int) < 0) = false from rfl, Bool.false_or, show ((2 : Int) == 0) = false from rfl, show ((2 : Int) == 1) = false from rfl, show decide ((3 : Int) < 2) = false from rfl]
  unfold opRestB zeroOpB rest2
  rw [h]
  simp only [zero_zero, len_nil, beq_self_eq_true, Bool.true_and, if_true]
  have ek : decide (0 < (o.key.length : Int)) = !((o.key.length : Int) == 0) := by rw [Bool.eq_iff_iff]; simp [Nat.pos_iff_ne_zero]
  rw [ek]
  cases hs : stampB o.atN o.atR
  · simp
  cases idB o.nodeN o.nodeR
  · simp
  cases textB o.text
  · simp
  cases zeroB o.parN o.parR
  · simp
  cases ((o.key.length : Int) == 0)
  · simp
  cases (o.elem == 0)
  · simp
  simp

theorem opB_3 {o : OpV} (h : o.kind = 3) : opB o = (stampB o.atN o.atR && ((idB o.nodeN o.nodeR && (nameB o.name && valB o.text o.gone)) && zeroOpB (rest3 o))) := by
  unfold opB
  rw [headB_eq, h]
  simp only [show decide ((3 : Int) < 0) = false from rfl, Bool.false_or, show ((3 : Int) == 0) = false from rfl, show ((3 : Int) == 1) = false from rfl, show decide ((3 : Int) < 3) = false from rfl]
  unfold opRestB zeroOpB rest3 valB
  rw [h]
  simp only [zero_zero, len_nil, beq_self_eq_true, Bool.true_and, show ((3 : Int) == 2) = false from rfl]
  have ek : decide (0 < (o.key.length : Int)) = !((o.key.length : Int) == 0) := by rw [Bool.eq_iff_iff]; simp [Nat.pos_iff_ne_zero]
  rw [ek]
  cases hs : stampB o.atN o.atR
  · simp
  cases idB o.nodeN o.nodeR
  · simp
  cases zeroB o.parN o.parR
  · simp
  cases ((o.key.length : Int) == 0)
  · simp
  cases (o.elem == 0)
  · simp
  cases nameB o.name
  · simp
  cases o.gone
  · cases textB o.text <;> simp
  · cases hl : ((o.text.length : Int) == 0)
    · simp
    · rw [text_none hl]; simp

theorem opB_4 {o : OpV} (h0 : o.kind ≠ 0) (h1 : o.kind ≠ 1) (h2 : o.kind ≠ 2) (h3 : o.kind ≠ 3) : opB o = false := by
  have : (decide (o.kind < 0) || decide (3 < o.kind)) = true := by
    simp only [Bool.or_eq_true, decide_eq_true_eq]
    omega
  unfold opB
  rw [headB_eq, ← Bool.or_assoc, this]
  rfl
end Go.Proofs.YtaoodcielfabdaaGreat

/- impl.putNums, impl.putIds, impl.putKey and impl.putValue, by their contracts. -/
namespace Go.Proofs.YtaoodcielfabdaaGreat
open Go.RowKit
set_option linter.unusedVariables false
set_option maxRecDepth 100000

theorem putI_own (w : World) (v : Value) (l : List Int) (n : Int) (h : Byt w v l) (hl : l.length ≤ 60000000) :
    Calls Tryz.prog 173 #[v, .int .i64 n] w fun e w' => ∃ a c, e = .returned (.slice a (putAll l n).length c) ∧ Own w' w.heap.size (.slice a (putAll l n).length c) (putAll l n) ∧ Below w.heap.size w w' := by
  refine (putI_any w v l n h (by omega)).mono ?_
  rintro e w' ⟨v', rfl, ho, hB⟩
  obtain ⟨a, c, rfl, _, _⟩ := ho.byt.shape
  exact ⟨a, c, rfl, ho, hB⟩

set_option maxHeartbeats 3200000 in
theorem putNums_any (w : World) (base : Nat) (v u : Value) (l k : List Int) (h : Own w base v l) (hb : base ≤ w.heap.size) (hu : Ints w u k) (hl : l.length ≤ 20000000) (hk : k.length ≤ 2097152) :
    Calls Tryz.prog 162 #[v, u] w fun e w' => ∃ a c, e = .returned (.slice a (putNs l k).length c) ∧ Own w' base (.slice a (putNs l k).length c) (putNs l k) ∧ Below w.heap.size w w' := by
  have HU := hide hu
  obtain ⟨a1, c1, rfl, _, _⟩ := h.byt.shape
  obtain ⟨a', c', rfl, _, _⟩ := hu.shape
  clear hu
  go_enter Tryz.func162, Tryz.ntmps162
  go_wp2_with fail
  go_loopw [0, 9] (fun b i wr => ∃ (j : Nat) (a2 : Option Addr) (c2 : Nat), j ≤ k.length ∧ i = .int .i64 j ∧ b = .slice a2 (putNs l (k.take j)).length c2 ∧ Own wr base (.slice a2 (putNs l (k.take j)).length c2) (putNs l (k.take j)) ∧ Below w.heap.size w wr) (fun _ i _ => k.length - (intOf i).toNat)
  case atStart => exact ⟨0, a1, c1, Nat.zero_le _, rfl, rfl, h, Below.refl _ _⟩
  case round =>
    obtain ⟨j, a2, c2, hj, rfl, rfl, ho, hB⟩ := hrel
    clear h
    by_cases hlt : j < k.length
    · have HS := hide (putNs_step l k j hlt)
      have hq := putNs_len l (k.take j)
      rw [List.length_take, Nat.min_eq_left hj] at hq
      generalize hpt : putNs l (k.take j) = lj at *
      clear hpt
      have hlt' : (j : Int) < (k.length : Int) := by omega
      obtain ⟨x, hx⟩ : ∃ x, x = k.getD j 0 := ⟨_, rfl⟩
      rw [← hx] at HS
      obtain ⟨hok, hm, ⟨_, e⟩ | ⟨_, _, _, _, e⟩ | ⟨b, off, cap, e, h1, h2, h3, h4, h5⟩⟩ := (unhide HU).keep hB
      · rw [e] at hlt; simp at hlt
      · rw [e] at hlt; simp at hlt
      have e1 : a' = some ⟨b, off, none⟩ := by injection e
      have hcx := h5 j hlt
      rw [← hx] at hcx
      clear hx h5 e HU
      subst e1
      go_wp2_with fail
      refine (putI_own wr _ lj x ho.byt (by omega)).mono ?_
      rintro e w2 ⟨a3, c3, rfl, ho3, hB3⟩
      rw [← unhide HS] at ho3 ⊢
      go_wp2_with fail
      go_roundw
      case rel => exact ⟨j + 1, a3, c3, by omega, by go_num, rfl, ho3.mono (by have := hB.size; omega), bstep hB hB3⟩
      case measure => simp [intOf]; omega
    · obtain rfl : j = k.length := by omega
      have HE := hide (show putNs l (k.take k.length) = putNs l k by rw [List.take_of_length_le (Nat.le_refl _)])
      rw [unhide HE] at ho ⊢
      clear HE
      go_wp2_with fail
      go_ret
      exact ⟨a2, c2, rfl, ho, hB⟩

/-- Ids, one behind the other. -/
def putIdL (l : List Int) : List (Int × Int) → List Int
  | [] => l
  | x :: t => putIdL (putId l x.1 x.2) t
theorem putIdL_step (l : List Int) (t : List (Int × Int)) (j : Nat) (h : j < t.length) : putIdL l (t.take (j + 1)) = putId (putIdL l (t.take j)) (t[j]).1 (t[j]).2 := by
  induction t generalizing l j with
  | nil => simp at h
  | cons x t ih =>
    cases j with
    | zero => simp [putIdL]
    | succ j =>
      rw [List.take_succ_cons, List.take_succ_cons, putIdL, putIdL, ih _ j (by simpa using h)]
      simp
theorem putIdL_len (l : List Int) (t : List (Int × Int)) : (putIdL l t).length ≤ l.length + 10 * t.length := by
  induction t generalizing l with
  | nil => simp [putIdL]
  | cons x t ih =>
    rw [putIdL, List.length_cons]
    have := ih (putId l x.1 x.2)
    have := putId_len l x.1 x.2
    omega
theorem putId_two (l : List Int) (n r : Int) : putNs l [n, r] = putId l n r := rfl
theorem ints_two (w : World) (n r : Int) (h : okZ [n, r]) : Ints (w.alloc (.cells #[.int .i64 n, .int .i64 r] 3)) (.slice (some ⟨w.heap.size, 0, none⟩) 2 2) [n, r] := by
  refine ⟨h, by simp [maxLen], .inr (.inr ⟨w.heap.size, 0, 2, rfl, by simp, by simp [maxLen], by simp, by simp, fun i hi => ?_⟩)⟩
  have : i = 0 ∨ i = 1 := by simp at hi; omega
  rcases this with rfl | rfl <;> simp

set_option maxHeartbeats 3200000 in
theorem putIds_any (w : World) (base : Nat) (v : Value) (l : List Int) (t : List (Int × Int)) (b off cap : Nat) (h : Own w base v l) (hb : base ≤ w.heap.size) (hl : l.length ≤ 10000000) (hk : t.length ≤ 1000)
    (hw : b < w.heap.size) (hz : ∀ x ∈ t, okZ [x.1, x.2]) (h0 : ∀ j (hj : j < t.length), w.cell? ⟨b, off + j * 2, none⟩ = some (.int .i64 (t[j]).1)) (h1 : ∀ j (hj : j < t.length), w.cell? ⟨b, off + j * 2 + 1, none⟩ = some (.int .i64 (t[j]).2)) :
    Calls Tryz.prog 161 #[v, .slice (some ⟨b, off, none⟩) t.length cap] w fun e w' => ∃ a c, e = .returned (.slice a (putIdL l t).length c) ∧ Own w' base (.slice a (putIdL l t).length c) (putIdL l t) ∧ Below w.heap.size w w' := by
  obtain ⟨a1, c1, rfl, _, _⟩ := h.byt.shape
  go_enter Tryz.func161, Tryz.ntmps161
  go_wp2_with fail
  go_loopw [0, 9] (fun b i wr => ∃ (j : Nat) (a2 : Option Addr) (c2 : Nat), j ≤ t.length ∧ i = .int .i64 j ∧ b = .slice a2 (putIdL l (t.take j)).length c2 ∧ Own wr base (.slice a2 (putIdL l (t.take j)).length c2) (putIdL l (t.take j)) ∧ Below w.heap.size w wr) (fun _ i _ => t.length - (intOf i).toNat)
  case atStart => exact ⟨0, a1, c1, Nat.zero_le _, rfl, rfl, h, Below.refl _ _⟩
  case round =>
    obtain ⟨j, a2, c2, hj, rfl, rfl, ho, hB⟩ := hrel
    clear h
    by_cases hlt : j < t.length
    · have HS := hide (putIdL_step l t j hlt)
      have hq := putIdL_len l (t.take j)
      rw [List.length_take, Nat.min_eq_left hj] at hq
      generalize hpt : putIdL l (t.take j) = lj at *
      clear hpt
      have hlt' : (j : Int) < (t.length : Int) := by omega
      have hzj := hz _ (List.getElem_mem hlt)
      have x0 : wr.cell? ⟨b, off + j * 2, none⟩ = some (.int .i64 (t[j]).1) := (hB.cell (p := ⟨b, off + j * 2, none⟩) hw).trans (h0 j hlt)
      have x1 : wr.cell? ⟨b, off + j * 2 + 1, none⟩ = some (.int .i64 (t[j]).2) := (hB.cell (p := ⟨b, off + j * 2 + 1, none⟩) hw).trans (h1 j hlt)
      generalize (t[j]).1 = n at *
      generalize (t[j]).2 = r at *
      clear h0 h1 hz
      go_wp2_with fail
      have hi : Ints ((wr.alloc (.cells #[.int .i64 n, .int .i64 r] 35)).alloc (.cells #[.int .i64 n, .int .i64 r] 3)) (.slice (some ⟨wr.heap.size + 1, 0, none⟩) 2 2) [n, r] := by
        have h := ints_two (wr.alloc (.cells #[.int .i64 n, .int .i64 r] 35)) n r hzj
        rw [show (wr.alloc (.cells #[.int .i64 n, .int .i64 r] 35)).heap.size = wr.heap.size + 1 by simp] at h
        exact h
      have hB2 := ((Below.refl wr.heap.size wr).alloc (Nat.le_refl _) (.cells #[.int .i64 n, .int .i64 r] 35)).alloc (by simp) (.cells #[.int .i64 n, .int .i64 r] 3)
      refine (putNums_any _ base _ _ lj [n, r] (ho.keep hB2) (by have := hB.size; have := hB2.size; omega) hi (by omega) (by simp)).mono ?_
      rintro e w2 ⟨a3, c3, rfl, ho3, hB3⟩
      have hB4 := bstep hB2 hB3
      clear hB2 hB3 hi
      rw [putId_two, ← unhide HS] at ho3 ⊢
      go_wp2_with fail
      go_roundw
      case rel => exact ⟨j + 1, a3, c3, by omega, by go_num, rfl, ho3, bstep hB hB4⟩
      case measure => simp [intOf]; omega
    · obtain rfl : j = t.length := by omega
      have HE := hide (show putIdL l (t.take t.length) = putIdL l t by rw [List.take_of_length_le (Nat.le_refl _)])
      rw [unhide HE] at ho ⊢
      clear HE
      go_wp2_with fail
      go_ret
      exact ⟨a2, c2, rfl, ho, hB⟩

theorem ints_one (w : World) (n : Int) (h : okZ [n]) : Ints (w.alloc (.cells #[.int .i64 n] 3)) (.slice (some ⟨w.heap.size, 0, none⟩) 1 1) [n] := by
  refine ⟨h, by simp [maxLen], .inr (.inr ⟨w.heap.size, 0, 1, rfl, by simp, by simp [maxLen], by simp, by simp, fun i hi => ?_⟩)⟩
  have : i = 0 := by simpa using hi
  subst this
  simp
theorem okZ_in {n : Int} (h : inR n) : okZ [n] := okZ.one (by have := h.1; omega) (by have := h.2; omega)
theorem okZ_in2 {n r : Int} (h : inR n) (k : inR r) : okZ [n, r] := (okZ_in h).app (okZ_in k)

/-- One number more. -/
theorem putNum1 (w : World) (base : Nat) (v : Value) (l : List Int) (n : Int) (h : Own w base v l) (hb : base ≤ w.heap.size) (hn : inR n) (hl : l.length ≤ 20000000) :
    Calls Tryz.prog 162 #[v, .slice (some ⟨w.heap.size, 0, none⟩) 1 1] (w.alloc (.cells #[.int .i64 n] 3)) fun e w' => ∃ a c, e = .returned (.slice a (putAll l n).length c) ∧ Own w' base (.slice a (putAll l n).length c) (putAll l n) ∧ Below w.heap.size w w' := by
  have hB2 := (Below.refl w.heap.size w).alloc (Nat.le_refl _) (.cells #[.int .i64 n] 3)
  refine (putNums_any _ base _ _ l [n] (h.keep hB2) (by have := hB2.size; omega) (ints_one w n (okZ_in hn)) hl (by simp)).mono ?_
  rintro e w' ⟨a, c, rfl, ho, hB⟩
  exact ⟨a, c, rfl, ho, bstep hB2 hB⟩

set_option maxHeartbeats 3200000 in
theorem putKey_any (w : World) (base : Nat) (v u : Value) (l k : List Int) (h : Own w base v l) (hb : base ≤ w.heap.size) (hu : Ints w u k) (hl : l.length ≤ 10000000) (hk : k.length ≤ 2097152) :
    Calls Tryz.prog 163 #[v, u] w fun e w' => ∃ a c, e = .returned (.slice a (putKey l k).length c) ∧ Own w' base (.slice a (putKey l k).length c) (putKey l k) ∧ Below w.heap.size w w' := by
  have hp := putAll_len l (k.length : Int)
  have H1 := hide (putNum1 w base v l (k.length : Int) h hb ⟨by omega, by omega⟩ (by omega))
  have HU := hide hu
  obtain ⟨a1, c1, rfl, _, _⟩ := h.byt.shape
  obtain ⟨a', c', rfl, _, _⟩ := hu.shape
  clear h hu
  unfold putKey
  generalize putAll l (k.length : Int) = lp at *
  go_enter Tryz.func163, Tryz.ntmps163
  go_wp2_with fail
  refine (unhide H1).mono ?_
  clear H1
  rintro e w1 ⟨a2, c2, rfl, ho, hB⟩
  go_wp2_with fail
  refine (putNums_any w1 base _ _ lp k ho (by have := hB.size; omega) ((unhide HU).keep hB) (by omega) hk).mono ?_
  rintro e w2 ⟨a3, c3, rfl, ho3, hB3⟩
  have hB4 := bstep hB hB3
  clear ho hB hB3
  go_wp2_with fail
  go_ret
  exact ⟨a3, c3, rfl, ho3, hB4⟩

theorem putTI_own (w : World) (v u : Value) (l t : List Int) (h : Byt w v l) (hu : Byt w u t) (hl : l.length ≤ 60000000) :
    Calls Tryz.prog 164 #[v, u] w fun e w' => ∃ a c, e = .returned (.slice a (putT l t).length c) ∧ Own w' w.heap.size (.slice a (putT l t).length c) (putT l t) ∧ Below w.heap.size w w' := by
  refine (putTI_any w v u l t h hu hl).mono ?_
  rintro e w' ⟨v', rfl, ho, hB⟩
  obtain ⟨a, c, rfl, _, _⟩ := ho.byt.shape
  exact ⟨a, c, rfl, ho, hB⟩
def putVal (l t : List Int) (gone : Bool) : List Int := if gone then putAll l 1 else putT (putAll l 0) t
set_option maxHeartbeats 3200000 in
theorem putVal_any (w : World) (base : Nat) (v u : Value) (l t : List Int) (gone : Bool) (h : Own w base v l) (hb : base ≤ w.heap.size) (hu : Byt w u t) (hl : l.length ≤ 10000000) :
    Calls Tryz.prog 165 #[v, u, .bool gone] w fun e w' => ∃ a c, e = .returned (.slice a (putVal l t gone).length c) ∧ Own w' base (.slice a (putVal l t gone).length c) (putVal l t gone) ∧ Below w.heap.size w w' := by
  have H1 := hide (fun n hn => putNum1 w base v l n h hb hn (by omega))
  have HU := hide hu
  obtain ⟨a1, c1, rfl, _, _⟩ := h.byt.shape
  obtain ⟨a', c', rfl, _, _⟩ := hu.shape
  clear h hu
  cases gone
  · have hp := putAll_len l 0
    unfold putVal
    rw [if_neg (by decide)]
    have H2 := hide (unhide H1 0 ⟨by decide, by decide⟩)
    clear H1
    generalize putAll l 0 = lp at *
    go_enter Tryz.func165, Tryz.ntmps165
    go_wp2_with fail
    refine (unhide H2).mono ?_
    clear H2
    rintro e w1 ⟨a2, c2, rfl, ho, hB⟩
    go_wp2_with fail
    refine (putTI_own w1 _ _ lp t ho.byt ((unhide HU).keep hB) (by omega)).mono ?_
    rintro e w2 ⟨a3, c3, rfl, ho3, hB3⟩
    have hB4 := bstep hB hB3
    have ho4 := ho3.mono (base' := base) (by have := hB.size; omega)
    clear ho hB hB3 ho3
    go_wp2_with fail
    go_ret
    exact ⟨a3, c3, rfl, ho4, hB4⟩
  · unfold putVal
    rw [if_pos rfl]
    have H2 := hide (unhide H1 1 ⟨by decide, by decide⟩)
    clear H1
    generalize putAll l 1 = lp at *
    go_enter Tryz.func165, Tryz.ntmps165
    go_wp2_with fail
    refine (unhide H2).mono ?_
    clear H2
    rintro e w1 ⟨a2, c2, rfl, ho, hB⟩
    go_wp2_with fail
    go_ret
    exact ⟨a2, c2, rfl, ho, hB⟩
end Go.Proofs.YtaoodcielfabdaaGreat

/- impl.keyOk answers what the plain test says. -/
namespace Go.Proofs.YtaoodcielfabdaaGreat
open Go.RowKit
set_option linter.unusedVariables false
set_option maxRecDepth 100000

theorem keyI_short (w : World) (a : Option Addr) (n cap : Nat) (h : n < 1 ∨ 12 < n) :
    Calls Tryz.prog 85 #[.slice a n cap] w fun e w' => e = .returned (.bool false) ∧ w' = w := by
  by_cases h1 : n < 1
  · have h1' : (n : Int) < 1 := by omega
    go_enter Tryz.func85, Tryz.ntmps85
    go_wp2
    go_ret
    exact ⟨rfl, rfl⟩
  · have h1' : decide ((n : Int) < 1) = false := by simp; omega
    have h2 : (12 : Int) < (n : Int) := by omega
    go_enter Tryz.func85, Tryz.ntmps85
    go_wp2
    go_ret
    exact ⟨rfl, rfl⟩

open Classical in
set_option maxHeartbeats 1600000 in
theorem keyI_row (w : World) (b off cap : Nat) (l : List Int) (hok : okZ l) (h1 : 1 ≤ l.length) (h8 : l.length ≤ 12)
    (hc : ∀ i, i < l.length → w.cell? ⟨b, off + i, none⟩ = some (.int .i64 (l.getD i 0))) :
    Calls Tryz.prog 85 #[.slice (some ⟨b, off, none⟩) l.length cap] w fun e w' => e = .returned (.bool (decide (KeyOk l))) ∧ w' = w := by
  have d1 : decide ((l.length : Int) < 1) = false := by simp; omega
  have d2 : decide ((12 : Int) < (l.length : Int)) = false := by simp; omega
  obtain ⟨n, hn⟩ : ∃ n, l.length = n + 1 := ⟨l.length - 1, by omega⟩
  obtain ⟨z, hz⟩ : ∃ z, z = l.getD n 0 := ⟨_, rfl⟩
  have hcz : w.cell? ⟨b, off + n, none⟩ = some (.int .i64 z) := by rw [hz]; exact hc _ (by omega)
  have HZ := hide hz
  have HC := hide hc
  have HN := hide hn
  have e1 : (l.length : Int) - 1 = (n : Int) := by omega
  have hlt0 : n < l.length := by omega
  clear hc hz hn
  go_enter Tryz.func85, Tryz.ntmps85
  go_wp2
  go_loop [15] (fun i => ∃ k : Nat, k ≤ l.length ∧ i = .int .i64 k ∧ allTo keyCh l k) (fun i => l.length - (intOf i).toNat)
  case atStart => exact ⟨0, Nat.zero_le _, rfl, fun i hi => by omega⟩
  case round =>
    obtain ⟨k, hk, rfl, ha⟩ := hrel
    have HA := hide ha
    clear ha
    by_cases hlt : k < l.length
    · obtain ⟨x, hx⟩ : ∃ x, x = l.getD k 0 := ⟨_, rfl⟩
      have hcx : w.cell? ⟨b, off + k, none⟩ = some (.int .i64 x) := by rw [hx]; exact unhide HC _ hlt
      have HX := hide hx
      have hlt' : (k : Int) < (l.length : Int) := by omega
      clear hx hcz
      by_cases hn : keyCh k x
      · have HN := hide hn
        have q1 : decide (x < 0) = false := by unfold keyCh at hn; simp; omega
        have q2 : decide (999 < x) = false := by unfold keyCh at hn; simp; omega
        clear hn
        go_wp2
        go_round
        case rel => exact ⟨k + 1, by omega, by go_num, allTo_step (unhide HA) (by rw [← unhide HX]; exact unhide HN)⟩
        case measure => simp [intOf]; omega
      · have HF := hide (show decide (KeyOk l) = false by
          simp only [decide_eq_false_iff_not]
          rintro ⟨_, _, _, h⟩
          exact hn (by rw [unhide HX]; exact h k hlt))
        have hcase : decide (x < 0) = true ∨ (decide (x < 0) = false ∧ decide (999 < x) = true) := by
          unfold keyCh at hn; simp; omega
        clear hn
        rcases hcase with q1 | ⟨q1, q2⟩
        all_goals
          go_wp2
          go_ret
          exact ⟨by rw [unhide HF]; rfl, rfl⟩
    · have e : k = l.length := by omega
      subst e
      by_cases hz0 : z = 0
      · have HF := hide (show decide (KeyOk l) = false by
          simp only [decide_eq_false_iff_not]
          rintro ⟨_, _, h, _⟩
          rw [unhide HN, Nat.add_sub_cancel, ← unhide HZ] at h
          exact h hz0)
        have dz : (z != 0) = false := by simp [hz0]
        clear hz0
        go_wp2
        go_ret
        exact ⟨by rw [unhide HF]; rfl, rfl⟩
      · have HF := hide (show decide (KeyOk l) = true by
          simp only [decide_eq_true_eq]
          exact ⟨h1, h8, by rw [unhide HN, Nat.add_sub_cancel, ← unhide HZ]; exact hz0, unhide HA⟩)
        have dz : (z != 0) = true := by simp [hz0]
        clear hz0
        go_wp2
        go_ret
        exact ⟨by rw [unhide HF]; rfl, rfl⟩

open Classical in
theorem keyI_any (w : World) (v : Value) (l : List Int) (h : Ints w v l) :
    Calls Tryz.prog 85 #[v] w fun e w' => e = .returned (.bool (decide (KeyOk l))) ∧ w' = w := by
  by_cases hl : l.length < 1 ∨ 12 < l.length
  · obtain ⟨a, cap, rfl, _⟩ := h.shape
    have hd : decide (KeyOk l) = false := by simp only [decide_eq_false_iff_not]; rintro ⟨_, _, _⟩; omega
    rw [hd]
    exact keyI_short w a _ cap hl
  · obtain ⟨hok, hm, ⟨rfl, rfl⟩ | ⟨x, cap, rfl, hc, rfl⟩ | ⟨b, off, cap, rfl, _, _, _, _, h5⟩⟩ := h
    · simp at hl
    · simp at hl
    · exact keyI_row w b off cap l hok (by omega) (by omega) h5
theorem keyI_b (w : World) (v : Value) (l : List Int) (h : Ints w v l) : Calls Tryz.prog 85 #[v] w fun e w' => e = .returned (.bool (keyB l)) ∧ w' = w := by
  refine (keyI_any w v l h).mono ?_
  rintro e w' ⟨rfl, h⟩
  refine ⟨?_, h⟩
  by_cases hn : KeyOk l
  · rw [(keyB_iff l).2 hn]; simp [hn]
  · rw [Bool.eq_false_iff.2 (fun k => hn ((keyB_iff l).1 k))]; simp [hn]
end Go.Proofs.YtaoodcielfabdaaGreat

/- impl.OpOk answers what the plain test says. -/
namespace Go.Proofs.YtaoodcielfabdaaGreat
open Go.RowKit
set_option linter.unusedVariables false
set_option maxRecDepth 100000

theorem balloc {w w' : World} {o : Obj} (h : Below w.heap.size w w') : Below w.heap.size w (w'.alloc o) := h.alloc h.size o

set_option maxHeartbeats 6400000 in
theorem opI_0 (w : World) (o : OpV) (a1 a2 a3 : Option Addr) (c1 c2 c3 : Nat) (hk : Ints w (.slice a1 o.key.length c1) o.key) (hn : Byt w (.slice a2 o.name.length c2) o.name) (ht : Byt w (.slice a3 o.text.length c3) o.text) (k0 : o.kind = 0) :
    Calls Tryz.prog 36 #[opVal o (.slice a1 o.key.length c1) (.slice a2 o.name.length c2) (.slice a3 o.text.length c3)] w fun e w' => e = .returned (.bool (opB o)) ∧ Below w.heap.size w w' := by
  have hE := opB_0 k0
  have HK := hide hk
  have HM := hide hn
  have HX := hide ht
  clear hk hn ht
  unfold opVal
  rw [k0]
  go_enter Tryz.func36, Tryz.ntmps36
  go_wp2_with fail
  refine (idI_any _ o.parN o.parR).mono ?_
  rintro e w1 ⟨rfl, ew⟩
  obtain rfl := ew
  cases hx : idB o.parN o.parR
  · rw [hx] at hE
    clear hx
    go_wp2_with fail
    refine (stampI_any _ o.atN o.atR).mono ?_
    rintro e w1 ⟨rfl, rfl⟩
    cases hs : stampB o.atN o.atR
    · have HF := hide (show opB o = false by rw [hE, hs]; rfl)
      clear hE hs
      go_wp2_with fail
      go_ret
      exact ⟨by rw [unhide HF]; rfl, (by repeat (first | exact Below.refl _ _ | refine balloc ?_))⟩
    · have HF := hide (show opB o = false by rw [hE, hs]; rfl)
      clear hE hs
      go_wp2_with fail
      go_ret
      exact ⟨by rw [unhide HF]; rfl, (by repeat (first | exact Below.refl _ _ | refine balloc ?_))⟩
  rw [hx] at hE
  clear hx
  go_wp2_with fail
  refine (keyI_b _ _ o.key ((unhide HK).keep (by repeat (first | exact Below.refl _ _ | refine balloc ?_)))).mono ?_
  rintro e w1 ⟨rfl, ew⟩
  obtain rfl := ew
  cases hx : keyB o.key
  · rw [hx] at hE
    clear hx
    go_wp2_with fail
    refine (stampI_any _ o.atN o.atR).mono ?_
    rintro e w1 ⟨rfl, rfl⟩
    cases hs : stampB o.atN o.atR
    · have HF := hide (show opB o = false by rw [hE, hs]; rfl)
      clear hE hs
      go_wp2_with fail
      go_ret
      exact ⟨by rw [unhide HF]; rfl, (by repeat (first | exact Below.refl _ _ | refine balloc ?_))⟩
    · have HF := hide (show opB o = false by rw [hE, hs]; rfl)
      clear hE hs
      go_wp2_with fail
      go_ret
      exact ⟨by rw [unhide HF]; rfl, (by repeat (first | exact Below.refl _ _ | refine balloc ?_))⟩
  rw [hx] at hE
  clear hx
  go_wp2_with fail
  refine (loneI_any _ o.elem _ _ o.name o.text ((unhide HM).keep (by repeat (first | exact Below.refl _ _ | refine balloc ?_))) ((unhide HX).keep (by repeat (first | exact Below.refl _ _ | refine balloc ?_)))).mono ?_
  rintro e w1 ⟨rfl, ew⟩
  obtain rfl := ew
  cases hx : loneB o.elem o.name o.text
  · rw [hx] at hE
    clear hx
    go_wp2_with fail
    refine (stampI_any _ o.atN o.atR).mono ?_
    rintro e w1 ⟨rfl, rfl⟩
    cases hs : stampB o.atN o.atR
    · have HF := hide (show opB o = false by rw [hE, hs]; rfl)
      clear hE hs
      go_wp2_with fail
      go_ret
      exact ⟨by rw [unhide HF]; rfl, (by repeat (first | exact Below.refl _ _ | refine balloc ?_))⟩
    · have HF := hide (show opB o = false by rw [hE, hs]; rfl)
      clear hE hs
      go_wp2_with fail
      go_ret
      exact ⟨by rw [unhide HF]; rfl, (by repeat (first | exact Below.refl _ _ | refine balloc ?_))⟩
  rw [hx] at hE
  clear hx
  go_wp2_with fail
  refine (stampI_any _ o.atN o.atR).mono ?_
  rintro e w1 ⟨rfl, rfl⟩
  cases hs : stampB o.atN o.atR
  · have HF := hide (show opB o = false by rw [hE, hs]; rfl)
    clear hE hs
    go_wp2_with fail
    go_ret
    exact ⟨by rw [unhide HF]; rfl, (by repeat (first | exact Below.refl _ _ | refine balloc ?_))⟩
  · rw [hs] at hE
    have HF := hide (show opB o = zeroOpB (rest0 o) by rw [hE]; rfl)
    clear hE hs
    go_wp2_with fail
    refine (zeroI_any _ (rest0 o) none none none 0 0 0).mono ?_
    rintro e w1 ⟨rfl, hB1⟩
    have hA := bstep (a := w) (by repeat (first | exact Below.refl _ _ | refine balloc ?_)) hB1
    clear hB1
    go_wp2_with fail
    go_ret
    exact ⟨by rw [unhide HF]; rfl, hA⟩

set_option maxHeartbeats 6400000 in
theorem opI_1 (w : World) (o : OpV) (a1 a2 a3 : Option Addr) (c1 c2 c3 : Nat) (hk : Ints w (.slice a1 o.key.length c1) o.key) (hn : Byt w (.slice a2 o.name.length c2) o.name) (ht : Byt w (.slice a3 o.text.length c3) o.text) (k0 : o.kind = 1) :
    Calls Tryz.prog 36 #[opVal o (.slice a1 o.key.length c1) (.slice a2 o.name.length c2) (.slice a3 o.text.length c3)] w fun e w' => e = .returned (.bool (opB o)) ∧ Below w.heap.size w w' := by
  have hE := opB_1 k0
  have HK := hide hk
  have HM := hide hn
  have HX := hide ht
  clear hk hn ht
  unfold opVal
  rw [k0]
  go_enter Tryz.func36, Tryz.ntmps36
  go_wp2_with fail
  refine (idI_any _ o.nodeN o.nodeR).mono ?_
  rintro e w1 ⟨rfl, ew⟩
  obtain rfl := ew
  cases hx : idB o.nodeN o.nodeR
  · rw [hx] at hE
    clear hx
    go_wp2_with fail
    refine (stampI_any _ o.atN o.atR).mono ?_
    rintro e w1 ⟨rfl, rfl⟩
    cases hs : stampB o.atN o.atR
    · have HF := hide (show opB o = false by rw [hE, hs]; rfl)
      clear hE hs
      go_wp2_with fail
      go_ret
      exact ⟨by rw [unhide HF]; rfl, (by repeat (first | exact Below.refl _ _ | refine balloc ?_))⟩
    · have HF := hide (show opB o = false by rw [hE, hs]; rfl)
      clear hE hs
      go_wp2_with fail
      go_ret
      exact ⟨by rw [unhide HF]; rfl, (by repeat (first | exact Below.refl _ _ | refine balloc ?_))⟩
  rw [hx] at hE
  clear hx
  go_wp2_with fail
  refine (idI_any _ o.parN o.parR).mono ?_
  rintro e w1 ⟨rfl, ew⟩
  obtain rfl := ew
  cases hx : idB o.parN o.parR
  · rw [hx] at hE
    clear hx
    go_wp2_with fail
    refine (stampI_any _ o.atN o.atR).mono ?_
    rintro e w1 ⟨rfl, rfl⟩
    cases hs : stampB o.atN o.atR
    · have HF := hide (show opB o = false by rw [hE, hs]; rfl)
      clear hE hs
      go_wp2_with fail
      go_ret
      exact ⟨by rw [unhide HF]; rfl, (by repeat (first | exact Below.refl _ _ | refine balloc ?_))⟩
    · have HF := hide (show opB o = false by rw [hE, hs]; rfl)
      clear hE hs
      go_wp2_with fail
      go_ret
      exact ⟨by rw [unhide HF]; rfl, (by repeat (first | exact Below.refl _ _ | refine balloc ?_))⟩
  rw [hx] at hE
  clear hx
  go_wp2_with fail
  refine (keyI_b _ _ o.key ((unhide HK).keep (by repeat (first | exact Below.refl _ _ | refine balloc ?_)))).mono ?_
  rintro e w1 ⟨rfl, ew⟩
  obtain rfl := ew
  cases hx : keyB o.key
  · rw [hx] at hE
    clear hx
    go_wp2_with fail
    refine (stampI_any _ o.atN o.atR).mono ?_
    rintro e w1 ⟨rfl, rfl⟩
    cases hs : stampB o.atN o.atR
    · have HF := hide (show opB o = false by rw [hE, hs]; rfl)
      clear hE hs
      go_wp2_with fail
      go_ret
      exact ⟨by rw [unhide HF]; rfl, (by repeat (first | exact Below.refl _ _ | refine balloc ?_))⟩
    · have HF := hide (show opB o = false by rw [hE, hs]; rfl)
      clear hE hs
      go_wp2_with fail
      go_ret
      exact ⟨by rw [unhide HF]; rfl, (by repeat (first | exact Below.refl _ _ | refine balloc ?_))⟩
  rw [hx] at hE
  clear hx
  go_wp2_with fail
  refine (stampI_any _ o.atN o.atR).mono ?_
  rintro e w1 ⟨rfl, rfl⟩
  cases hs : stampB o.atN o.atR
  · have HF := hide (show opB o = false by rw [hE, hs]; rfl)
    clear hE hs
    go_wp2_with fail
    go_ret
    exact ⟨by rw [unhide HF]; rfl, (by repeat (first | exact Below.refl _ _ | refine balloc ?_))⟩
  · rw [hs] at hE
    have HF := hide (show opB o = zeroOpB (rest1 o) by rw [hE]; rfl)
    clear hE hs
    go_wp2_with fail
    refine (zeroI_any _ (rest1 o) none a2 a3 0 c2 c3).mono ?_
    rintro e w1 ⟨rfl, hB1⟩
    have hA := bstep (a := w) (by repeat (first | exact Below.refl _ _ | refine balloc ?_)) hB1
    clear hB1
    go_wp2_with fail
    go_ret
    exact ⟨by rw [unhide HF]; rfl, hA⟩

set_option maxHeartbeats 6400000 in
theorem opI_2 (w : World) (o : OpV) (a1 a2 a3 : Option Addr) (c1 c2 c3 : Nat) (hk : Ints w (.slice a1 o.key.length c1) o.key) (hn : Byt w (.slice a2 o.name.length c2) o.name) (ht : Byt w (.slice a3 o.text.length c3) o.text) (k0 : o.kind = 2) :
    Calls Tryz.prog 36 #[opVal o (.slice a1 o.key.length c1) (.slice a2 o.name.length c2) (.slice a3 o.text.length c3)] w fun e w' => e = .returned (.bool (opB o)) ∧ Below w.heap.size w w' := by
  have hE := opB_2 k0
  have HK := hide hk
  have HM := hide hn
  have HX := hide ht
  clear hk hn ht
  unfold opVal
  rw [k0]
  go_enter Tryz.func36, Tryz.ntmps36
  go_wp2_with fail
  refine (idI_any _ o.nodeN o.nodeR).mono ?_
  rintro e w1 ⟨rfl, ew⟩
  obtain rfl := ew
  cases hx : idB o.nodeN o.nodeR
  · rw [hx] at hE
    clear hx
    go_wp2_with fail
    refine (stampI_any _ o.atN o.atR).mono ?_
    rintro e w1 ⟨rfl, rfl⟩
    cases hs : stampB o.atN o.atR
    · have HF := hide (show opB o = false by rw [hE, hs]; rfl)
      clear hE hs
      go_wp2_with fail
      go_ret
      exact ⟨by rw [unhide HF]; rfl, (by repeat (first | exact Below.refl _ _ | refine balloc ?_))⟩
    · have HF := hide (show opB o = false by rw [hE, hs]; rfl)
      clear hE hs
      go_wp2_with fail
      go_ret
      exact ⟨by rw [unhide HF]; rfl, (by repeat (first | exact Below.refl _ _ | refine balloc ?_))⟩
  rw [hx] at hE
  clear hx
  go_wp2_with fail
  refine (textI_b _ _ o.text ((unhide HX).keep (by repeat (first | exact Below.refl _ _ | refine balloc ?_)))).mono ?_
  rintro e w1 ⟨rfl, ew⟩
  obtain rfl := ew
  cases hx : textB o.text
  · rw [hx] at hE
    clear hx
    go_wp2_with fail
    refine (stampI_any _ o.atN o.atR).mono ?_
    rintro e w1 ⟨rfl, rfl⟩
    cases hs : stampB o.atN o.atR
    · have HF := hide (show opB o = false by rw [hE, hs]; rfl)
      clear hE hs
      go_wp2_with fail
      go_ret
      exact ⟨by rw [unhide HF]; rfl, (by repeat (first | exact Below.refl _ _ | refine balloc ?_))⟩
    · have HF := hide (show opB o = false by rw [hE, hs]; rfl)
      clear hE hs
      go_wp2_with fail
      go_ret
      exact ⟨by rw [unhide HF]; rfl, (by repeat (first | exact Below.refl _ _ | refine balloc ?_))⟩
  rw [hx] at hE
  clear hx
  go_wp2_with fail
  refine (stampI_any _ o.atN o.atR).mono ?_
  rintro e w1 ⟨rfl, rfl⟩
  cases hs : stampB o.atN o.atR
  · have HF := hide (show opB o = false by rw [hE, hs]; rfl)
    clear hE hs
    go_wp2_with fail
    go_ret
    exact ⟨by rw [unhide HF]; rfl, (by repeat (first | exact Below.refl _ _ | refine balloc ?_))⟩
  · rw [hs] at hE
    have HF := hide (show opB o = zeroOpB (rest2 o) by rw [hE]; rfl)
    clear hE hs
    go_wp2_with fail
    refine (zeroI_any _ (rest2 o) a1 a2 none c1 c2 0).mono ?_
    rintro e w1 ⟨rfl, hB1⟩
    have hA := bstep (a := w) (by repeat (first | exact Below.refl _ _ | refine balloc ?_)) hB1
    clear hB1
    go_wp2_with fail
    go_ret
    exact ⟨by rw [unhide HF]; rfl, hA⟩

set_option maxHeartbeats 6400000 in
theorem opI_3 (w : World) (o : OpV) (a1 a2 a3 : Option Addr) (c1 c2 c3 : Nat) (hk : Ints w (.slice a1 o.key.length c1) o.key) (hn : Byt w (.slice a2 o.name.length c2) o.name) (ht : Byt w (.slice a3 o.text.length c3) o.text) (k0 : o.kind = 3) :
    Calls Tryz.prog 36 #[opVal o (.slice a1 o.key.length c1) (.slice a2 o.name.length c2) (.slice a3 o.text.length c3)] w fun e w' => e = .returned (.bool (opB o)) ∧ Below w.heap.size w w' := by
  have hE := opB_3 k0
  have HK := hide hk
  have HM := hide hn
  have HX := hide ht
  clear hk hn ht
  unfold opVal
  rw [k0]
  go_enter Tryz.func36, Tryz.ntmps36
  go_wp2_with fail
  refine (idI_any _ o.nodeN o.nodeR).mono ?_
  rintro e w1 ⟨rfl, ew⟩
  obtain rfl := ew
  cases hx : idB o.nodeN o.nodeR
  · rw [hx] at hE
    clear hx
    go_wp2_with fail
    refine (stampI_any _ o.atN o.atR).mono ?_
    rintro e w1 ⟨rfl, rfl⟩
    cases hs : stampB o.atN o.atR
    · have HF := hide (show opB o = false by rw [hE, hs]; rfl)
      clear hE hs
      go_wp2_with fail
      go_ret
      exact ⟨by rw [unhide HF]; rfl, (by repeat (first | exact Below.refl _ _ | refine balloc ?_))⟩
    · have HF := hide (show opB o = false by rw [hE, hs]; rfl)
      clear hE hs
      go_wp2_with fail
      go_ret
      exact ⟨by rw [unhide HF]; rfl, (by repeat (first | exact Below.refl _ _ | refine balloc ?_))⟩
  rw [hx] at hE
  clear hx
  go_wp2_with fail
  refine (nameI_b _ _ o.name ((unhide HM).keep (by repeat (first | exact Below.refl _ _ | refine balloc ?_)))).mono ?_
  rintro e w1 ⟨rfl, ew⟩
  obtain rfl := ew
  cases hx : nameB o.name
  · rw [hx] at hE
    clear hx
    go_wp2_with fail
    refine (stampI_any _ o.atN o.atR).mono ?_
    rintro e w1 ⟨rfl, rfl⟩
    cases hs : stampB o.atN o.atR
    · have HF := hide (show opB o = false by rw [hE, hs]; rfl)
      clear hE hs
      go_wp2_with fail
      go_ret
      exact ⟨by rw [unhide HF]; rfl, (by repeat (first | exact Below.refl _ _ | refine balloc ?_))⟩
    · have HF := hide (show opB o = false by rw [hE, hs]; rfl)
      clear hE hs
      go_wp2_with fail
      go_ret
      exact ⟨by rw [unhide HF]; rfl, (by repeat (first | exact Below.refl _ _ | refine balloc ?_))⟩
  rw [hx] at hE
  clear hx
  go_wp2_with fail
  refine (valI_any _ _ o.text o.gone ((unhide HX).keep (by repeat (first | exact Below.refl _ _ | refine balloc ?_)))).mono ?_
  rintro e w1 ⟨rfl, ew⟩
  obtain rfl := ew
  cases hx : valB o.text o.gone
  · rw [hx] at hE
    clear hx
    go_wp2_with fail
    refine (stampI_any _ o.atN o.atR).mono ?_
    rintro e w1 ⟨rfl, rfl⟩
    cases hs : stampB o.atN o.atR
    · have HF := hide (show opB o = false by rw [hE, hs]; rfl)
      clear hE hs
      go_wp2_with fail
      go_ret
      exact ⟨by rw [unhide HF]; rfl, (by repeat (first | exact Below.refl _ _ | refine balloc ?_))⟩
    · have HF := hide (show opB o = false by rw [hE, hs]; rfl)
      clear hE hs
      go_wp2_with fail
      go_ret
      exact ⟨by rw [unhide HF]; rfl, (by repeat (first | exact Below.refl _ _ | refine balloc ?_))⟩
  rw [hx] at hE
  clear hx
  go_wp2_with fail
  refine (stampI_any _ o.atN o.atR).mono ?_
  rintro e w1 ⟨rfl, rfl⟩
  cases hs : stampB o.atN o.atR
  · have HF := hide (show opB o = false by rw [hE, hs]; rfl)
    clear hE hs
    go_wp2_with fail
    go_ret
    exact ⟨by rw [unhide HF]; rfl, (by repeat (first | exact Below.refl _ _ | refine balloc ?_))⟩
  · rw [hs] at hE
    have HF := hide (show opB o = zeroOpB (rest3 o) by rw [hE]; rfl)
    clear hE hs
    go_wp2_with fail
    refine (zeroI_any _ (rest3 o) a1 none none c1 0 0).mono ?_
    rintro e w1 ⟨rfl, hB1⟩
    have hA := bstep (a := w) (by repeat (first | exact Below.refl _ _ | refine balloc ?_)) hB1
    clear hB1
    go_wp2_with fail
    go_ret
    exact ⟨by rw [unhide HF]; rfl, hA⟩

set_option maxHeartbeats 6400000 in
theorem opI_4 (w : World) (o : OpV) (a1 a2 a3 : Option Addr) (c1 c2 c3 : Nat) (h0 : o.kind ≠ 0) (h1 : o.kind ≠ 1) (h2 : o.kind ≠ 2) (h3 : o.kind ≠ 3) :
    Calls Tryz.prog 36 #[opVal o (.slice a1 o.key.length c1) (.slice a2 o.name.length c2) (.slice a3 o.text.length c3)] w fun e w' => e = .returned (.bool (opB o)) ∧ Below w.heap.size w w' := by
  have HF := hide (opB_4 h0 h1 h2 h3)
  have q0 : (o.kind == 0) = false := by simpa using h0
  have q1 : (o.kind == 1) = false := by simpa using h1
  have q2 : (o.kind == 2) = false := by simpa using h2
  have q3 : (o.kind == 3) = false := by simpa using h3
  clear h0 h1 h2 h3
  unfold opVal
  go_enter Tryz.func36, Tryz.ntmps36
  go_wp2_with fail
  refine (stampI_any _ o.atN o.atR).mono ?_
  rintro e w1 ⟨rfl, rfl⟩
  cases hs : stampB o.atN o.atR
  all_goals
    clear hs
    go_wp2_with fail
    go_ret
    exact ⟨by rw [unhide HF]; rfl, (by repeat (first | exact Below.refl _ _ | refine balloc ?_))⟩

/-- impl.OpOk, whatever it is asked. -/
theorem opI_any (w : World) (v : Value) (o : OpV) (h : RdOp w v o) :
    Calls Tryz.prog 36 #[v] w fun e w' => e = .returned (.bool (opB o)) ∧ Below w.heap.size w w' := by
  obtain ⟨k, n, t, rfl, hk, hn, ht⟩ := h
  obtain ⟨a1, c1, rfl, _, _⟩ := hk.shape
  obtain ⟨a2, c2, rfl, _, _⟩ := hn.shape
  obtain ⟨a3, c3, rfl, _, _⟩ := ht.shape
  by_cases k0 : o.kind = 0
  · exact opI_0 w o a1 a2 a3 c1 c2 c3 hk hn ht k0
  by_cases k1 : o.kind = 1
  · exact opI_1 w o a1 a2 a3 c1 c2 c3 hk hn ht k1
  by_cases k2 : o.kind = 2
  · exact opI_2 w o a1 a2 a3 c1 c2 c3 hk hn ht k2
  by_cases k3 : o.kind = 3
  · exact opI_3 w o a1 a2 a3 c1 c2 c3 hk hn ht k3
  exact opI_4 w o a1 a2 a3 c1 c2 c3 k0 k1 k2 k3
end Go.Proofs.YtaoodcielfabdaaGreat
