/- Own texts joined: Apart, CopyI, RdF, AppAt, StepC, TidiedI, JoinS. -/
import Derived.Test.YteioihjgjbjmjaaJa
import Derived.Test.YteioihjgjbjmjaaJb
import Derived.Test.YteioihjgjbjmjaaJc
import Derived.Test.YteioihjgjbjmjaaJd
import Derived.Deep.RegionLaw
import Derived.Deep.RegionHeld3
import Derived.Maps.AppendAt
import Derived.Laws.AppendOwnNone
import Derived.Shelf.Abstract

/- Owned rows lie apart. -/
namespace Go.Proofs.Yteioihjgjbjmjaa
open Go.RowKit
set_option linter.unusedVariables false

/-- Two owned rows of which one was made behind the other lie in different blocks. -/
theorem own_apart {w w' : World} {b b' : Nat} {v v' : Value} {l l' : List Int} (h : Own w b v l) (h' : Own w' b' v' l') (hs : w.heap.size ≤ b') : v.ownBlock = none ∨ v.ownBlock ≠ v'.ownBlock := by
  cases hv : v.ownBlock with
  | none => exact .inl rfl
  | some g =>
    right
    intro e
    have h1 := h.lt g hv
    have h2 := h'.lt g e.symm
    omega
theorem own_apart' {w w' : World} {b b' : Nat} {v v' : Value} {l l' : List Int} (h : Own w b v l) (h' : Own w' b' v' l') (hs : w.heap.size ≤ b') : v'.ownBlock = none ∨ v'.ownBlock ≠ v.ownBlock := by
  cases hv : v'.ownBlock with
  | none => exact .inl rfl
  | some g =>
    right
    intro e
    have h1 := h.lt g e.symm
    have h2 := h'.lt g hv
    omega
end Go.Proofs.Yteioihjgjbjmjaa

/- impl.copyAttrs copies attributes into memory of its own. -/
namespace Go.Proofs.Yteioihjgjbjmjaa
open Go.RowKit
set_option linter.unusedVariables false
set_option maxRecDepth 100000

theorem two_new (w : World) (x y : Value) (T : TypeId) : ∀ (j : Nat) (u : Value), [x, y][j]? = some u → (w.alloc (.cells #[x, y] T)).cell? ((⟨w.heap.size, 0, none⟩ : Addr).add j) = some u := by
  intro j u hu
  exact World.news_of_block (heap_alloc_new w (.cells #[x, y] T)) j u (by simpa using hu)
theorem fb_apart {w w' : World} {b b' : Nat} {u v : Value} {l m : List Int} (h : Own w b u l) (k : Own w' b' v m) (hs : w.heap.size ≤ b') : (FB u ++ FB v).Nodup ∧ ∀ q ∈ FB u ++ FB v, q < w'.heap.size ∨ q < w.heap.size := by
  refine ⟨List.nodup_append.2 ⟨?_, ?_, ?_⟩, ?_⟩
  · unfold FB; cases u.ownBlock <;> simp
  · unfold FB; cases v.ownBlock <;> simp
  · intro a ha c hc e
    have h1 := (h.lt a (by simpa [FB] using ha)).2
    have h2 := (k.lt c (by simpa [FB] using hc)).1
    omega
  · intro q hq
    rcases List.mem_append.1 hq with hq | hq
    · exact .inr (h.lt q (by simpa [FB] using hq)).2
    · exact .inl (k.lt q (by simpa [FB] using hq)).2

/-- Two new copies, ready to go behind a row of attributes. -/
theorem push_two {w0n : Nat} {wr w2 w3 : World} {b2 : Nat} {v v2 v3 : Value} {l : List (List Int × List Int)} {x1 x2 : List Int} {F : List Nat} (hE : Below wr.heap.size wr w3) (h2 : Own w2 b2 v2 x1) (hB3 : Below w2.heap.size w2 w3) (h3 : Own w3 w2.heap.size v3 x2) (hs : wr.heap.size < w2.heap.size)
    (hF : OwElems wr 88 2 v l (OwAttr wr) F) (hR : Rng F w0n wr.heap.size) (hb2 : wr.heap.size < b2) {A : Array Value} {T : TypeId} :
    OwElems (w3.alloc (.cells A T)) 88 2 v l (OwAttr (w3.alloc (.cells A T))) F ∧ OwAttr (w3.alloc (.cells A T)) [v2, v3] (x1, x2) (FB v2 ++ FB v3) ∧ (FB v2 ++ FB v3).Nodup ∧ (∀ g ∈ F, g ∉ FB v2 ++ FB v3) ∧ (∀ q, q ∈ F ∨ q ∈ FB v2 ++ FB v3 → q < (w3.alloc (.cells A T)).heap.size) ∧ (wr.heap.size ∉ FB v) ∧ (∀ q ∈ FB v, q ∈ F) ∧ (∀ q ∈ FB v2 ++ FB v3, wr.heap.size < q) := by
  have hE4 : Below wr.heap.size wr (w3.alloc (.cells A T)) := bstep hE ((Below.refl _ _).alloc (Nat.le_refl _) _)
  have h24 : Own (w3.alloc (.cells A T)) b2 v2 x1 := (h2.keep hB3).alloc _
  have h34 : Own (w3.alloc (.cells A T)) w2.heap.size v3 x2 := h3.alloc _
  have hFl : ∀ g ∈ F, g < wr.heap.size := fun g hg => (hR g hg).2
  obtain ⟨nd, _⟩ := fb_apart h2 h3 (Nat.le_refl _)
  have hge : ∀ q ∈ FB v2 ++ FB v3, wr.heap.size < q ∧ q < (w3.alloc (.cells A T)).heap.size := by
    intro q hq
    rcases List.mem_append.1 hq with hq | hq
    · have := h24.lt q (by simpa [FB] using hq); omega
    · have := h34.lt q (by simpa [FB] using hq); have := (h2.lt); have h5 := hs; exact ⟨by have := h24.lt; omega, by omega⟩
  refine ⟨OwAttrs.frm hF (Frm.ofBelow hE4 []) (fun _ _ => by simp), ⟨v2, v3, rfl, h24.mono (Nat.zero_le _), h34.mono (Nat.zero_le _), rfl⟩, nd, fun g hg hg' => by have := hFl g hg; have := (hge g hg').1; omega, fun q hq => ?_, fun hq => ?_, fun q hq => ?_, fun q hq => (hge q hq).1⟩
  · rcases hq with hq | hq
    · have := hFl q hq; have := hE4.size; omega
    · exact (hge q hq).2
  · obtain ⟨_, _, _, _, _, h5, rfl⟩ := hF
    have := hFl _ (List.mem_append_left _ hq)
    omega
  · obtain ⟨_, _, _, _, _, h5, rfl⟩ := hF
    exact List.mem_append_left _ hq

set_option maxHeartbeats 6400000 in
theorem copyAttrs_any (w : World) (v : Value) (l : List (List Int × List Int)) (h : RdAttrs w v l) (hl : l.length ≤ 4194304) (hx : ∀ x ∈ l, x.1.length ≤ 4194304 ∧ x.2.length ≤ 4194304) :
    Calls Try.prog 64 #[v] w fun e w' => ∃ u, e = .returned u ∧ ∃ F, OwAttrs w' u l F ∧ F.Nodup ∧ Rng F w.heap.size w'.heap.size ∧ Below w.heap.size w w' := by
  obtain ⟨ad, cd, rfl, _, _⟩ := Elems.shape h
  obtain ⟨i0, hi, hz0, hz1, hz2⟩ := info_parts Try.info88
  have hm : (l.length : Int) ≤ 9223372036854775807 := by omega
  go_enter Try.func64, Try.ntmps64
  go_wp2_with fail
  go_loopw [3, 8] (fun b i wr => ∃ j : Nat, j ≤ l.length ∧ i = .int .i64 j ∧ ∃ F, OwAttrs wr b (l.take j) F ∧ F.Nodup ∧ Rng F w.heap.size wr.heap.size ∧ Below w.heap.size w wr) (fun _ i _ => l.length - (intOf i).toNat)
  case atStart => exact ⟨0, Nat.zero_le _, rfl, [], ⟨[], [], by simp, by simp, fun i hi => by simp at hi, World.ownsRow_nil _ _ _ _, rfl⟩, List.nodup_nil, fun g hg => by simp at hg, Below.refl _ _⟩
  case round =>
    obtain ⟨j, hj, rfl, F, hF, hN, hRg, hB⟩ := hrel
    by_cases hjl : j < l.length
    · have hst : l.take (j + 1) = l.take j ++ [l[j]] := List.take_succ_eq_append_getElem hjl
      obtain ⟨pb, poff, rfl, hpl, hun, _, C, hC, hcell, hra⟩ := h.at hjl
      clear hun
      have hxl := hx l[j] (List.getElem_mem hjl)
      obtain ⟨x, hxx⟩ : ∃ x, x = l[j] := ⟨_, rfl⟩
      rw [← hxx] at hra hst hxl
      obtain ⟨y0, y1, rfl, hy0, hy1⟩ := hra
      have q0 := hcell 0 (by omega)
      have q1 := hcell 1 (by omega)
      simp only [List.getElem?_cons_zero, List.getElem?_cons_succ, Nat.add_zero] at q0 q1
      obtain ⟨s0, g0, rfl, _, _⟩ := hy0.shape
      obtain ⟨s1, g1, rfl, _, _⟩ := hy1.shape
      have u0 : wr.cell? ⟨pb, poff + j * 2, none⟩ = some (.slice s0 x.1.length g0) := (hB.cell (p := ⟨pb, poff + j * 2, none⟩) hpl).trans q0
      have u1 : wr.cell? ⟨pb, poff + j * 2 + 1, none⟩ = some (.slice s1 x.2.length g1) := (hB.cell (p := ⟨pb, poff + j * 2 + 1, none⟩) hpl).trans q1
      have hjl' : (j : Int) < (l.length : Int) := by omega
      have hB1 : Below wr.heap.size wr (wr.alloc (.cells #[.slice s0 x.1.length g0, .slice s1 x.2.length g1] 88)) := (Below.refl _ _).alloc (Nat.le_refl _) _
      have a1 := Loc.made wr #[.slice s0 x.1.length g0, .slice s1 x.2.length g1] 88
      have HF := hide (show OwElems wr 88 2 _ (l.take j) (OwAttr wr) F from hF)
      have hlj : (l.take j).length = j := by rw [List.length_take]; omega
      have HST := hide hst
      clear hF hst hxx hcell
      go_wp2_with fail
      generalize (wr.alloc (.cells #[.slice s0 x.1.length g0, .slice s1 x.2.length g1] 88)) = w1 at *
      have hW1 := bstep hB hB1
      have H1 := hide (clone_any w1.drew (.slice s0 x.1.length g0) x.1 (hy0.keep (hW1.drew)) (by omega))
      have ad0 := a1.all ((Below.refl w1.heap.size w1).drew)
      have z0 : w1.drew.cell? ⟨wr.heap.size, 0, none⟩ = some (.slice s0 x.1.length g0) := ad0.cell 0
      have z1 : w1.drew.cell? ⟨wr.heap.size, 1, none⟩ = some (.slice s1 x.2.length g1) := ad0.cell 1
      have b0 : w1.cell? ⟨wr.heap.size, 0, none⟩ = some (.slice s0 x.1.length g0) := a1.cell 0
      have b1 : w1.cell? ⟨wr.heap.size, 1, none⟩ = some (.slice s1 x.2.length g1) := a1.cell 1
      have HR := hide hRg
      have HNd := hide hN
      clear hRg hN u0 u1
      go_region_held3 (fun w' => w'.cell? ⟨wr.heap.size, 0, none⟩ = some (.slice s0 x.1.length g0) ∧ w'.cell? ⟨wr.heap.size, 1, none⟩ = some (.slice s1 x.2.length g1))
        (first | exact ⟨by assumption, by assumption⟩ | simp [*])
        (first
          | (go_at_call 63; refine (unhide H1).mono ?_; clear H1; rintro e w2 ⟨v2, rfl, ho2, hB2⟩; have a2 := ad0.all hB2; have z0 : w2.cell? ⟨wr.heap.size, 0, none⟩ = some (.slice s0 x.1.length g0) := a2.cell 0; have z1 : w2.cell? ⟨wr.heap.size, 1, none⟩ = some (.slice s1 x.2.length g1) := a2.cell 1; have hW2 := bstep hW1.drew hB2; have hE2 : Below wr.heap.size wr w2 := bstep hB1.drew hB2; obtain ⟨p2, k2, hv2, _, _⟩ := ho2.byt.shape; subst hv2)
          | (go_at_call 63; refine (clone_any w2 (.slice s1 x.2.length g1) x.2 (hy1.keep hW2) (by omega)).mono ?_; rintro e w3 ⟨v3, rfl, ho3, hB3⟩; have a3 := a2.all hB3; have z0 : w3.cell? ⟨wr.heap.size, 0, none⟩ = some (.slice s0 x.1.length g0) := a3.cell 0; have z1 : w3.cell? ⟨wr.heap.size, 1, none⟩ = some (.slice s1 x.2.length g1) := a3.cell 1; have hW3 := bstep hW2 hB3; have hE3 : Below wr.heap.size wr w3 := bstep hE2 hB3; obtain ⟨p3, k3, hv3, _, _⟩ := ho3.byt.shape; subst hv3; have z0' : (w3.alloc (.cells #[.slice p2 x.1.length k2, .slice p3 x.2.length k3] 88)).cell? ⟨wr.heap.size, 0, none⟩ = some (.slice s0 x.1.length g0) := (a3.alloc _).cell 0; have z1' : (w3.alloc (.cells #[.slice p2 x.1.length k2, .slice p3 x.2.length k3] 88)).cell? ⟨wr.heap.size, 1, none⟩ = some (.slice s1 x.2.length g1) := (a3.alloc _).cell 1; have HY := hide (push_two (A := #[.slice p2 x.1.length k2, .slice p3 x.2.length k3]) (T := 88) hE3 ho2 hB3 ho3 (Nat.lt_of_lt_of_le a1.lt hB2.size) (unhide HF) (unhide HR) a1.lt))
          | (refine step_push (R := OwAttr) (fun h f d => OwAttr.frm h f d) rfl (.tmp 12) (.tmp 20) 29 rfl 88 i0 (.agg #[.slice none 0 0, .slice none 0 0]) 2 48 Try.underlying29 hi hz0 hz1 hz2 rfl (by decide) _ (l.take j) F (by rfl) (unhide HY).1 (unhide HNd) ⟨w3.heap.size, 0, none⟩ 1 [.slice p2 x.1.length k2, .slice p3 x.2.length k3] x (FB (.slice p2 x.1.length k2) ++ FB (.slice p3 x.2.length k3)) (by rfl) rfl (two_new w3 _ _ _) (by intro y hy; simp at hy; rcases hy with rfl | rfl <;> rfl) (unhide HY).2.1 (unhide HY).2.2.1 (unhide HY).2.2.2.1 (unhide HY).2.2.2.2.1 (by rw [hlj]; unfold maxLen; omega) (by rw [hlj]; omega) ?_; intro g9 cap9 w9 F9 hF9 hN9 hM9 hf9 hg9; have a9 := (a3.alloc (.cells #[.slice p2 x.1.length k2, .slice p3 x.2.length k3] 88)).frm hf9 ((unhide HY).2.2.2.2.2.1); have z0 : w9.cell? ⟨wr.heap.size, 0, none⟩ = some (.slice s0 x.1.length g0) := a9.cell 0; have z1 : w9.cell? ⟨wr.heap.size, 1, none⟩ = some (.slice s1 x.2.length g1) := a9.cell 1))
      have hW4 : Below w.heap.size w (w3.alloc (.cells #[.slice p2 x.1.length k2, .slice p3 x.2.length k3] 88)) := bstep hW3 ((Below.refl _ _).alloc (Nat.le_refl _) _)
      have hW9 : Below w.heap.size w w9 := hW4.trans (hf9.below hW4.size (fun q hq => (unhide HR q ((unhide HY).2.2.2.2.2.2.1 q hq)).1))
      have HO9 := hide (show OwAttrs w9 (.slice (some ⟨g9, 0, none⟩) (j + 1) cap9) (l.take (j + 1)) F9 by
        rw [unhide HST]
        rw [hlj] at hF9
        exact hF9)
      have HR9 := hide (show Rng F9 w.heap.size w9.heap.size from fun q hq => ⟨by
        rcases hM9 q hq with k | k | k
        · exact (unhide HR q k).1
        · have := (unhide HY).2.2.2.2.2.2.2 q k; have := hB.size; omega
        · rw [k]; exact hW4.size, OwAttrs.lt (unhide HO9) q hq⟩)
      clear hF9 hM9
      go_wp2_with fail
      go_roundw
      case rel => exact ⟨j + 1, by omega, by go_num, F9, unhide HO9, hN9, unhide HR9, hW9⟩
      case measure => simp [intOf]; omega
    · have e : j = l.length := by omega
      subst e
      rw [List.take_length] at hF
      go_wp2_with fail
      go_ret
      exact ⟨_, rfl, F, hF, hN, hRg, hB⟩
end Go.Proofs.Yteioihjgjbjmjaa

/- The five values of a node have their shapes. -/
namespace Go.Proofs.Yteioihjgjbjmjaa
open Go.RowKit
set_option linter.unusedVariables false

theorem rd_five {n : Nat} {w : World} {a b c d e : Value} {t : Tr n} (h : RdNode n w [a, b, c, d, e] t) : ∃ z ab nb cb ac nc cc ad nd cd ae ne ce, a = .int .i64 z ∧ b = .slice ab nb cb ∧ c = .slice ac nc cc ∧ d = .slice ad nd cd ∧ e = .slice ae ne ce := by
  cases n with
  | zero => exact absurd h (by unfold RdNode; exact id)
  | succ n =>
    obtain ⟨_, _, _, _, e0, k1, k2, hb, hc, hd, he⟩ := h
    simp only [List.cons.injEq, and_true] at e0
    obtain ⟨rfl, rfl, rfl, rfl, rfl⟩ := e0
    obtain ⟨ab, cb, rfl, _, _⟩ := hb.shape
    obtain ⟨ac, cc, rfl, _, _⟩ := hc.shape
    obtain ⟨ad, cd, rfl, _, _⟩ := Elems.shape hd
    obtain ⟨ae, ce, rfl, _, _⟩ := Elems.shape he
    exact ⟨_, _, _, _, _, _, _, _, _, _, _, _, _, rfl, rfl, rfl, rfl, rfl⟩

end Go.Proofs.Yteioihjgjbjmjaa

/- An append of a readable row of bytes to an owned one: what comes lies where the row lay, or in a new block. -/
namespace Go.Proofs.Yteioihjgjbjmjaa
open Go.RowKit
set_option linter.unusedVariables false

theorem run_appAt {w : World} (ty : TypeId) (base : Nat) (v : Value) (l : List Int) (hown : Own w base v l) (u : Value) (m : List Int) (hu : Byt w u m) (hlen : l.length + m.length ≤ 134217728) (hbase : base ≤ w.heap.size) :
    ∃ v' w', (Builtin.append_ #[22, 22] ty #[v, u]).run Try.prog w = .ok v' w' ∧ Own w' base v' (l ++ m) ∧ w.grownBy w' v.ownBlock ∧ (v'.ownBlock = v.ownBlock ∨ v'.ownBlock = some w.heap.size) := by
  obtain ⟨i0, hi, hz0, hz1, hz2⟩ := info_parts Try.info5
  have hfull : ∀ (ad : Addr) (c : Nat), u = .slice (some ad) m.length c → (∀ j, j < m.length → w.cell? (ad.add j) = some (.int .u8 (m.getD j 0))) → ∃ v' w', (Builtin.append_ #[22, 22] ty #[v, u]).run Try.prog w = .ok v' w' ∧ Own w' base v' (l ++ m) ∧ w.grownBy w' v.ownBlock ∧ (v'.ownBlock = v.ownBlock ∨ v'.ownBlock = some w.heap.size) := by
    intro ad c hx' hc
    obtain ⟨v', w', hr, h2, h3, _, h5⟩ := run_append_own_at (P := Try.prog) w base 22 ty 5 i0 (.int .u8 0) 1 1 Try.underlying22 hi hz0 hz1 hz2 rfl (by decide) v l.length (vals l) hown.2 ad m.length c (vals m) (by rw [vals_len]; omega) (by
      intro j y hj
      have hlt : j < m.length := by
        by_cases hlt : j < m.length
        · exact hlt
        · rw [List.getElem?_eq_none (by rw [vals_len]; omega)] at hj; cases hj
      rw [vals_at hlt] at hj
      rw [hc j hlt]; exact hj) (vals_one m) (by unfold maxLen; omega) (by omega) hbase
    subst hx'
    refine ⟨v', w', hr, ⟨hown.1.app hu.1, ?_⟩, h3, h5⟩
    rw [vals_app, List.length_append]; exact h2
  obtain ⟨hok, hm, ⟨rfl, rfl⟩ | ⟨y, cap, rfl, hc, rfl⟩ | ⟨b, off, cap, rfl, h1, h2, h3, h4, h5⟩⟩ := id hu
  · exact ⟨v, w, run_append_owned_none (P := Try.prog) (w := w) base 22 ty 5 i0 1 Try.underlying22 hi v l.length (vals l) hown.2, by rw [List.append_nil]; exact hown, World.grownBy.refl _ _, .inl rfl⟩
  · exact hfull y cap rfl (fun j hj => by simp at hj)
  · exact hfull ⟨b, off, none⟩ cap rfl (fun j hj => by rw [add_plain]; exact h5 j hj)

theorem step_appAt {w : World} {ops : Array Oper} {o : Oper} {a : Act} {K : Act → World → Prop} {Q : Exit → Act → World → Prop} {E : Prop} (hgd : o.guard = none) (s x : Operand)
    (ho : o.op = .call { callee := .builtin .append, args := #[s, x], argTypes := #[22, 22] })
    (base : Nat) (v : Value) (l : List Int) (hs : a.eval s = v) (hown : Own w base v l) (u : Value) (m : List Int) (hx : a.eval x = u) (hu : Byt w u m)
    (hlen : l.length + m.length ≤ 134217728) (hbase : base ≤ w.heap.size)
    (h : ∀ v' w', Own w' base v' (l ++ m) → w.grownBy w' v.ownBlock → (v'.ownBlock = v.ownBlock ∨ v'.ownBlock = some w.heap.size) → K (a.put o.dst v') w') : if Region.wanted o (yielded ops a.tmps) = true then Oper.wp Try.prog o a w K Q else E := by
  have hw : Region.wanted o (yielded ops a.tmps) = true := by simp [Region.wanted, hgd]
  rw [if_pos hw]
  obtain ⟨v', w', hr, h1, h2, h3⟩ := run_appAt o.type base v l hown u m hu hlen hbase
  unfold Oper.wp execOp
  simp only [ho, resolve, invoke, builtin, Sem.run_bind, Sem.run_pure, Result.andThen_ok, List.map_toArray, List.map_cons, List.map_nil, hs, hx, hr]
  exact h v' w' h1 h2 h3

theorem wpList_appAt {w : World} {ops : Array Oper} {rest : List Oper} {o : Oper} {a : Act} {Q : Exit → Act → World → Prop} (hgd : o.guard = none) (s x : Operand)
    (ho : o.op = .call { callee := .builtin .append, args := #[s, x], argTypes := #[22, 22] })
    (base : Nat) (v : Value) (l : List Int) (hs : a.eval s = v) (hown : Own w base v l) (u : Value) (m : List Int) (hx : a.eval x = u) (hu : Byt w u m)
    (hlen : l.length + m.length ≤ 134217728) (hbase : base ≤ w.heap.size)
    (h : ∀ v' w', Own w' base v' (l ++ m) → w.grownBy w' v.ownBlock → (v'.ownBlock = v.ownBlock ∨ v'.ownBlock = some w.heap.size) → wpList Try.prog ops Q rest (a.put o.dst v') w') : wpList Try.prog ops Q (o :: rest) a w := by
  refine wpList_plain hgd fun K hK' => ?_
  have := step_appAt (ops := ops) (K := K) (Q := Q) (E := True) hgd s x ho base v l hs hown u m hx hu hlen hbase (fun v' w' h1 h2 h3 => hK' _ _ (h v' w' h1 h2 h3))
  rw [if_pos (by simp [Region.wanted, hgd])] at this
  exact this
end Go.Proofs.Yteioihjgjbjmjaa

/- A call of a Go function as one step of a region that draws its order, by the callee's contract. No program. -/
namespace Go.Proofs.Yteioihjgjbjmjaa
open Go.RowKit
set_option linter.unusedVariables false

theorem step_call {P : Program} {ops : Array Oper} {o : Oper} {a : Act} {w : World} {K : Act → World → Prop} {Q : Exit → Act → World → Prop} {E : Prop} (hgd : o.guard = none) (f : FuncId) (xs : List Operand) (tys : Array TypeId)
    (ho : o.op = .call { callee := .value (.func f), args := xs.toArray, argTypes := tys }) (he : ∀ args w, (callFunc f args).run P w = .ok (.enter f args) w) (args : List Value) (hx : xs.map a.eval = args) {R : Ending → World → Prop} (hc : Calls P f args.toArray w R)
    (h : ∀ e w', R e w' → ∃ v, e = .returned v ∧ K (a.put o.dst v) w') : if Region.wanted o (yielded ops a.tmps) = true then Oper.wp P o a w K Q else E := by
  have hw : Region.wanted o (yielded ops a.tmps) = true := by simp [Region.wanted, hgd]
  rw [if_pos hw]
  subst hx
  unfold Oper.wp execOp
  simp [ho, resolve, invoke, go_sem, he]
  refine hc.mono ?_
  intro e w' hR
  obtain ⟨v, rfl, hk⟩ := h e w' hR
  exact hk
end Go.Proofs.Yteioihjgjbjmjaa

/- impl.tidied tells a tree tidied, in memory of its own. -/
namespace Go.Proofs.Yteioihjgjbjmjaa
open Go.RowKit Go.Shelf
set_option linter.unusedVariables false
set_option maxRecDepth 100000

/-- What tidied tells of a tree. -/
def TdAt (n : Nat) (t : Tr n) : Prop := ∀ (w : World) (a b c d e : Value), RdNode n w [a, b, c, d, e] t → szT n t ≤ 2097152 →
    Calls Try.prog 39 #[.agg #[a, b, c, d, e]] w fun e w' => ∃ (kd : Int) (a1 : Option Addr) (n1 c1 : Nat) (a2 : Option Addr) (n2 c2 : Nat) (a3 : Option Addr) (n3 c3 : Nat) (a4 : Option Addr) (n4 c4 : Nat), e = .returned (.agg #[.int .i64 kd, .slice a1 n1 c1, .slice a2 n2 c2, .slice a3 n3 c3, .slice a4 n4 c4]) ∧ ∃ F, OwNode n w' [.int .i64 kd, .slice a1 n1 c1, .slice a2 n2 c2, .slice a3 n3 c3, .slice a4 n4 c4] (tidyT n t) F ∧ F.Nodup ∧ Rng F w.heap.size w'.heap.size ∧ Below w.heap.size w w'

/-- A kid, as tidying takes it. -/
def mb (n : Nat) (k : Tr (n + 1)) : Mb (Tr (n + 1)) := if k.kind = 1 then .inr k.text else .inl (tidyT (n + 1) k)
theorem tidyT_two (n : Nat) (t : Tr (n + 2)) : tidyT (n + 2) t = (⟨t.kind, t.name, t.text, t.attrs, (tidyI [] [] (t.kids.map (mb n))).map (unMb n)⟩ : Nd (Tr (n + 1))) := rfl

theorem attr_le {l : List (List Int × List Int)} {x : List Int × List Int} (h : x ∈ l) : x.1.length + x.2.length ≤ szA l := by
  unfold szA
  have : x.1.length + x.2.length ∈ l.map (fun x => x.1.length + x.2.length) := List.mem_map.2 ⟨x, h, rfl⟩
  have := sum_mem this
  omega

theorem kids_wt (n : Nat) : ∀ l : List (Tr (n + 1)), ((l.map (mb n)).map (wtK (szT (n + 1)))).sum ≤ 2 * (l.length + (l.map (szT (n + 1))).sum)
  | [] => by simp
  | k :: l => by
    have h0 := kids_wt n l
    have h1 := tidyT_sz (n + 1) k
    have h2 := text_sz n k
    have h3 : wtK (szT (n + 1)) (mb n k) ≤ 2 * (1 + szT (n + 1) k) := by
      unfold mb
      split
      · show 2 * k.text.length ≤ _; omega
      · show 1 + szT (n + 1) (tidyT (n + 1) k) ≤ _; omega
    simp only [List.map_cons, List.sum_cons, List.length_cons]
    omega
theorem own_addr {w : World} {b : Nat} {a : Option Addr} {m c : Nat} {l : List Int} (h : Own w b (.slice a m c) l) : l = [] ∨ ∃ g, a = some ⟨g, 0, none⟩ := by
  rcases h.2.2 with ⟨e, h0⟩ | ⟨g, cap, cur, e, _⟩
  · exact .inl (List.eq_nil_of_length_eq_zero h0)
  · injection e with e
    exact .inr ⟨g, e⟩
/-- How far tidying has come: what is there, the row, what is left. -/
def Way (n : Nat) (A : List (Mb (Tr (n + 1)))) (r : List Int) (rest all : List (Mb (Tr (n + 1)))) : Prop :=
  tidyI A r rest = tidyI [] [] all ∧ (A.map (wtM (szT (n + 1)))).sum + 2 * r.length + (rest.map (wtK (szT (n + 1)))).sum ≤ 4194304
theorem Way.len {n : Nat} {A : List (Mb (Tr (n + 1)))} {r : List Int} {rest all : List (Mb (Tr (n + 1)))} (h : Way n A r rest all) : A.length + r.length ≤ 4194304 := by
  have := wtM_len (szT (n + 1)) A
  have := h.2
  omega
theorem Way.text {n : Nat} {A : List (Mb (Tr (n + 1)))} {r l : List Int} {rest all : List (Mb (Tr (n + 1)))} (h : Way n A r (.inr l :: rest) all) : Way n A (r ++ l) rest all := by
  refine ⟨h.1, ?_⟩
  have := h.2
  simp only [List.map_cons, List.sum_cons, wtK] at this
  rw [List.length_append]
  omega
theorem Way.elem {n : Nat} {A : List (Mb (Tr (n + 1)))} {r : List Int} {k : Tr (n + 1)} {rest all : List (Mb (Tr (n + 1)))} (h : Way n A r (.inl k :: rest) all) : Way n (A ++ (cutL r).map .inr ++ [.inl k]) [] rest all := by
  refine ⟨h.1, ?_⟩
  have h1 := h.2
  have h2 := cut_wt (szT (n + 1)) r.length r (Nat.le_refl _)
  simp only [List.map_cons, List.sum_cons, wtK] at h1
  simp only [List.map_append, List.sum_append, List.map_cons, List.map_nil, List.sum_cons, List.sum_nil, List.length_nil, wtM]
  omega
theorem unMb_inr (n : Nat) (l : List (List Int)) : (l.map (.inr : List Int → Mb (Tr (n + 1)))).map (unMb n) = l.map (txtN n) := by
  rw [List.map_map]
  rfl

theorem store5 {w : World} {po : Nat} {z0 z1 z2 z3 z4 : Value} {T : TypeId} (h : Loc w po #[z0, z1, z2, z3, z4] T) (a b c d e : Value) :
    Loc (((((w.setCell ⟨po, 0, none⟩ a).setCell ⟨po, 1, none⟩ b).setCell ⟨po, 2, none⟩ c).setCell ⟨po, 3, none⟩ d).setCell ⟨po, 4, none⟩ e) po #[a, b, c, d, e] T ∧ Frm w (((((w.setCell ⟨po, 0, none⟩ a).setCell ⟨po, 1, none⟩ b).setCell ⟨po, 2, none⟩ c).setCell ⟨po, 3, none⟩ d).setCell ⟨po, 4, none⟩ e) [po] :=
  ⟨((((h.set 0 a).set 1 b).set 2 c).set 3 d).set 4 e, ((((Frm.set _ _ _ _).trans (Frm.set _ _ _ _)).trans (Frm.set _ _ _ _)).trans (Frm.set _ _ _ _)).trans (Frm.set _ _ _ _)⟩
theorem own_notN {w : World} {b : Nat} {v : Value} {l : List Int} {g : Nat} {cs : Array Value} (ho : Own w b v l) (h : Loc w g cs 32) : v.ownBlock ≠ some g := by
  intro e
  obtain ⟨cur, hc⟩ := own_obj ho.2 e
  unfold Loc at h
  rw [h] at hc
  injection hc with hc
  injection hc with _ hc
  revert hc
  decide
theorem attrs_notN {w : World} {v : Value} {l : List (List Int × List Int)} {F : List Nat} {g : Nat} {cs : Array Value} (ho : OwAttrs w v l F) (h : Loc w g cs 32) : g ∉ F := by
  obtain ⟨Cs, Fs, e1, e2, e3, e4, rfl⟩ := ho
  intro hg
  rcases List.mem_append.1 hg with hg | hg
  · obtain ⟨cur, hc⟩ := own_obj e4 (g := g) (by simpa [FB] using hg)
    unfold Loc at h
    rw [h] at hc
    injection hc with hc
    injection hc with _ hc
    revert hc
    decide
  · obtain ⟨G, hG, hgG⟩ := List.mem_flatten.1 hg
    obtain ⟨i, hi, hGi⟩ := List.getElem_of_mem hG
    obtain ⟨_, a, b, _, oa, ob, hF⟩ := e3 i (by omega)
    have e : Fs.getD i [] = G := by rw [← hGi]; simp [hi]
    rw [e] at hF
    rw [hF] at hgG
    rcases List.mem_append.1 hgG with h' | h'
    · exact own_notN oa h (by simpa [FB] using h')
    · exact own_notN ob h (by simpa [FB] using h')

theorem Frm.more {a b c : World} {S S' : List Nat} (h : Frm a b S) (k : Frm b c S') (hs : ∀ q ∈ S', q ∈ S ∨ a.heap.size ≤ q) : Frm a c S :=
  ⟨k.os.trans h.os, k.tape.trans h.tape, k.output.trans h.output, Nat.le_trans h.size k.size, fun i hi hn => (k.block i (Nat.lt_of_lt_of_le hi h.size) (fun hm => by
    rcases hs i hm with h' | h'
    · exact hn h'
    · omega)).trans (h.block i hi hn)⟩
theorem five_lies (w : World) (a b c d e : Value) (T : TypeId) : ∀ (j : Nat) (u : Value), [a, b, c, d, e][j]? = some u → (w.alloc (.cells #[a, b, c, d, e] T)).cell? ((⟨w.heap.size, 0, none⟩ : Addr).add j) = some u := by
  intro j u hu
  exact World.news_of_block (heap_alloc_new w (.cells #[a, b, c, d, e] T)) j u (by simpa using hu)

theorem FB_len (a : Option Addr) (m m' c : Nat) : FB (.slice a m c) = FB (.slice a m' c) := by cases a <;> rfl

-- <<Td1def
def Td1 (w1 : World) (bn pr : Nat) (T0 nmv atv : Value) (kd : Int) (ln : List Int) (la : List (List Int × List Int)) (L : Array Bool) (a : Act) (w : World) : Prop :=
  ∃ b0 b1 b2 b3 b4 b5 b6 b7 b8 b9 b10 x3 x7 x8 x9 x10 x11 x12 x13 x14 x15, L = #[b0, b1, b2, b3, b4, b5, b6, b7, b8, b9, b10] ∧ a = { tmps := #[T0, .pointer (some ⟨bn, 0, none⟩), .pointer (some ⟨pr, 0, none⟩), x3, undef, undef, undef, x7, x8, x9, x10, x11, x12, x13, x14, x15, undef, undef, undef, undef, undef, undef, undef, undef, undef, undef, undef, undef, undef, undef, undef, undef, undef, undef, undef, undef, undef, undef, undef, undef, undef, undef, undef, undef, undef, undef, undef, undef], defers := [] } ∧ Below w1.heap.size w1 w ∧ (b0 = true → x7 = .pointer (some ⟨bn, 0, none⟩)) ∧ (b1 = true → x8 = .int .i64 kd) ∧ (b2 = true → x9 = .pointer (some ⟨bn, 1, none⟩)) ∧ (b3 = true → x10 = nmv) ∧ (b4 = true → Own w w1.heap.size x11 ln) ∧ (b5 = true → x12 = .pointer (some ⟨bn, 3, none⟩)) ∧ (b6 = true → x13 = atv) ∧ (b7 = true → b4 = true ∧ ∃ Fa, OwAttrs w x14 la Fa ∧ Fa.Nodup ∧ Rng Fa w1.heap.size w.heap.size ∧ ∀ q ∈ Fa, q ∉ FB x11) ∧ (b8 = true → b4 = true ∧ b7 = true ∧ x15 = .agg #[.int .i64 kd, x11, .slice none 0 0, x14, .slice none 0 0]) ∧ (b9 = true → ∃ po, x3 = .pointer (some ⟨po, 0, none⟩) ∧ w1.heap.size ≤ po ∧ Loc w po (if b10 = true then #[.int .i64 kd, x11, .slice none 0 0, x14, .slice none 0 0] else #[.int .i64 0, .slice none 0 0, .slice none 0 0, .slice none 0 0, .slice none 0 0]) 32) ∧ (b10 = true → b9 = true ∧ b8 = true)
theorem Td1_cases {i : Nat} (h : i < 11) : i = 0 ∨ i = 1 ∨ i = 2 ∨ i = 3 ∨ i = 4 ∨ i = 5 ∨ i = 6 ∨ i = 7 ∨ i = 8 ∨ i = 9 ∨ i = 10 := by omega
-- Td1def>>

set_option maxHeartbeats 6400000 in
theorem tidied_core (n : Nat) (t : Tr (n + 2)) (hno : t.text = []) (H : ∀ k ∈ t.kids, k.kind ≠ 1 → TdAt (n + 1) k) : TdAt (n + 2) t := by
  intro w0 a b c d e hrd hsz
  have hszT : szT (n + 2) t = t.name.length + t.text.length + szA t.attrs + (t.kids.length + (t.kids.map (szT (n + 1))).sum) := rfl
  obtain ⟨_, _, _, _, e0, k1, k2, hb, hc, hd, he⟩ := hrd
  simp only [List.cons.injEq, and_true] at e0
  obtain ⟨rfl, rfl, rfl, rfl, rfl⟩ := e0
  obtain ⟨ab, cb, rfl, _, _⟩ := hb.shape
  obtain ⟨ac, cc, rfl, _, _⟩ := hc.shape
  obtain ⟨ad, cd, rfl, _, _⟩ := Elems.shape hd
  obtain ⟨ae, ce, rfl, _, _⟩ := Elems.shape he
  obtain ⟨l0, l1, hB1⟩ := two w0 #[.int .i64 t.kind, .slice ab t.name.length cb, .slice ac t.text.length cc, .slice ad t.attrs.length cd, .slice ae t.kids.length ce] #[.int .i64 0, .slice none 0 0, .slice none 0 0, .slice none 0 0, .slice none 0 0] 32 32
  obtain ⟨x0, x1, x2, x3, x4⟩ := l0.five
  have hal : t.attrs.length ≤ 4194304 := by unfold szA at hszT; omega
  have hnl : t.name.length ≤ 4194304 := by omega
  have hax : ∀ x ∈ t.attrs, x.1.length ≤ 4194304 ∧ x.2.length ≤ 4194304 := fun x hx => by have := attr_le hx; omega
  have hkl : t.kids.length ≤ 2097152 := by omega
  have hmK : (t.kids.length : Int) ≤ 9223372036854775807 := by omega
  have HSZ := hide hszT
  have HNO := hide hno
  clear hszT hno
  go_enter Try.func39, Try.ntmps39
  go_wp2_with fail
  generalize hW1 : (w0.alloc (.cells #[.int .i64 t.kind, .slice ab t.name.length cb, .slice ac t.text.length cc, .slice ad t.attrs.length cd, .slice ae t.kids.length ce] 32)).alloc (.cells #[.int .i64 0, .slice none 0 0, .slice none 0 0, .slice none 0 0, .slice none 0 0] 32) = w1 at *
  have hs1 : w0.heap.size + 2 ≤ w1.heap.size := by rw [← hW1]; simp
  clear hW1
  have HAX := hide hax
  clear hax
  refine region_inv (by kernel_rfl) (Td1 w1 w0.heap.size (w0.heap.size + 1) (.agg #[.int .i64 t.kind, .slice ab t.name.length cb, .slice ac t.text.length cc, .slice ad t.attrs.length cd, .slice ae t.kids.length ce]) (.slice ab t.name.length cb) (.slice ad t.attrs.length cd) t.kind t.name t.attrs) ?sz ?h0 ?step ?dn
  case sz =>
      rintro L a w ⟨b0, b1, b2, b3, b4, b5, b6, b7, b8, b9, b10, x3, x7, x8, x9, x10, x11, x12, x13, x14, x15, rfl, _⟩
      rfl
  case h0 =>
      refine ⟨false, false, false, false, false, false, false, false, false, false, false, undef, undef, undef, undef, undef, undef, undef, undef, undef, undef, rfl, rfl, (Below.refl _ _).drew, ?_⟩
      simp
-- <<Td1step
  case step =>
      intro L a w i o hI hi ho
      obtain ⟨b0, b1, b2, b3, b4, b5, b6, b7, b8, b9, b10, x3, x7, x8, x9, x10, x11, x12, x13, x14, x15, rfl, rfl, h0, f0, f1, f2, f3, f4, f5, f6, f7, f8, f9, f10⟩ := hI
      have F10 : b10 = true → b4 = true := fun h => (f8 (f10 h).2).1
      have F10b : b10 = true → b7 = true := fun h => (f8 (f10 h).2).2.1
      rcases Td1_cases (ready_lt hi) with rfl | rfl | rfl | rfl | rfl | rfl | rfl | rfl | rfl | rfl | rfl
      · obtain rfl := Option.some.inj ho
        go_simp
        exact ⟨true, b1, b2, b3, b4, b5, b6, b7, b8, b9, b10, x3, _, x8, x9, x10, x11, x12, x13, x14, x15, rfl, rfl, h0, (fun _ => rfl), f1, f2, f3, f4, f5, f6, f7, f8, f9, f10⟩
      · have g0 := ready_pred hi ho 0
        obtain rfl := Option.some.inj ho
        have e0 := f0 (g0 (by kernel_rfl))
        subst e0
        have c0 : w.cell? ⟨w0.heap.size, 0, none⟩ = some (.int .i64 t.kind) := (l0.all h0).cell 0
        go_simp
        exact ⟨b0, true, b2, b3, b4, b5, b6, b7, b8, b9, b10, x3, _, _, x9, x10, x11, x12, x13, x14, x15, rfl, rfl, h0, f0, (fun _ => rfl), f2, f3, f4, f5, f6, f7, f8, f9, f10⟩
      · obtain rfl := Option.some.inj ho
        go_simp
        exact ⟨b0, b1, true, b3, b4, b5, b6, b7, b8, b9, b10, x3, x7, x8, _, x10, x11, x12, x13, x14, x15, rfl, rfl, h0, f0, f1, (fun _ => rfl), f3, f4, f5, f6, f7, f8, f9, f10⟩
      · have g2 := ready_pred hi ho 2
        obtain rfl := Option.some.inj ho
        have e2 := f2 (g2 (by kernel_rfl))
        subst e2
        have c0 : w.cell? ⟨w0.heap.size, 1, none⟩ = some (.slice ab t.name.length cb) := (l0.all h0).cell 1
        go_simp
        exact ⟨b0, b1, b2, true, b4, b5, b6, b7, b8, b9, b10, x3, x7, x8, _, _, x11, x12, x13, x14, x15, rfl, rfl, h0, f0, f1, f2, (fun _ => rfl), f4, f5, f6, f7, f8, f9, f10⟩
      · have g3 := ready_pred hi ho 3
        obtain rfl := Option.some.inj ho
        have e3 := f3 (g3 (by kernel_rfl))
        subst e3
        have hb4 : b4 = false := by simpa using ready_off rfl hi
        go_simp
        refine (clone_any w _ t.name (hb.keep (bstep hB1 h0)) (by omega)).mono ?_
        rintro e w' ⟨v', rfl, ho', hb'⟩
        exact ⟨b0, b1, b2, b3, true, b5, b6, b7, b8, b9, b10, x3, x7, x8, x9, _, _, x12, x13, x14, x15, rfl, rfl, bstep h0 hb', f0, f1, f2, f3, (fun _ => ho'.mono h0.size), f5, f6, (fun h => by rw [(f7 h).1] at hb4; cases hb4), (fun h => by rw [(f8 h).1] at hb4; cases hb4), (fun h => by obtain ⟨po, q1, q2, q3⟩ := f9 h; refine ⟨po, q1, q2, ?_⟩; have hb10 : b10 = false := (by cases b10 with | false => rfl | true => exact absurd (F10 rfl) (by rw [hb4]; simp)); subst hb10; exact q3.all hb'), f10⟩
      · obtain rfl := Option.some.inj ho
        go_simp
        exact ⟨b0, b1, b2, b3, b4, true, b6, b7, b8, b9, b10, x3, x7, x8, x9, x10, x11, _, x13, x14, x15, rfl, rfl, h0, f0, f1, f2, f3, f4, (fun _ => rfl), f6, f7, f8, f9, f10⟩
      · have g5 := ready_pred hi ho 5
        obtain rfl := Option.some.inj ho
        have e5 := f5 (g5 (by kernel_rfl))
        subst e5
        have c0 : w.cell? ⟨w0.heap.size, 3, none⟩ = some (.slice ad t.attrs.length cd) := (l0.all h0).cell 3
        go_simp
        exact ⟨b0, b1, b2, b3, b4, b5, true, b7, b8, b9, b10, x3, x7, x8, x9, x10, x11, _, _, x14, x15, rfl, rfl, h0, f0, f1, f2, f3, f4, f5, (fun _ => rfl), f7, f8, f9, f10⟩
      · have g6 := ready_pred hi ho 6
        have g4 := ready_pred hi ho 4
        obtain rfl := Option.some.inj ho
        have e6 := f6 (g6 (by kernel_rfl))
        have e4 : b4 = true := g4 (by kernel_rfl)
        subst e6 e4
        have hb7 : b7 = false := by simpa using ready_off rfl hi
        go_simp
        refine (copyAttrs_any w _ t.attrs (RdAttrs.keep hd (bstep hB1 h0)) hal (unhide HAX)).mono ?_
        rintro e w' ⟨v', rfl, Fa, ho', nd', r', hb'⟩
        exact ⟨b0, b1, b2, b3, true, b5, b6, true, b8, b9, b10, x3, x7, x8, x9, x10, x11, x12, _, _, x15, rfl, rfl, bstep h0 hb', f0, f1, f2, f3, (fun h => (f4 h).keep hb'), f5, f6, (fun _ => ⟨rfl, Fa, ho', nd', r'.mono h0.size (Nat.le_refl _), fun q hq hq' => by have := (r' q hq).1; have := ((f4 rfl).lt q (by simpa [FB] using hq')).2; omega⟩), (fun h => by rw [(f8 h).2.1] at hb7; cases hb7), (fun h => by obtain ⟨po, q1, q2, q3⟩ := f9 h; refine ⟨po, q1, q2, ?_⟩; have hb10 : b10 = false := (by cases b10 with | false => rfl | true => exact absurd (F10b rfl) (by rw [hb7]; simp)); subst hb10; exact q3.all hb'), f10⟩
      · have g1 := ready_pred hi ho 1
        have g4 := ready_pred hi ho 4
        have g7 := ready_pred hi ho 7
        obtain rfl := Option.some.inj ho
        have e1 := f1 (g1 (by kernel_rfl))
        have e4 : b4 = true := g4 (by kernel_rfl)
        have e7 : b7 = true := g7 (by kernel_rfl)
        subst e1 e4 e7
        obtain ⟨p2, k2', hv2, _, _⟩ := (f4 rfl).byt.shape
        obtain ⟨_, Fa, q1, q2, q3, q4⟩ := f7 rfl
        obtain ⟨p3, k3', hv3⟩ : ∃ p3 k3', x14 = .slice p3 t.attrs.length k3' := by
          obtain ⟨_, _, _, _, _, e4, _⟩ := q1
          exact own_nil_shape e4
        subst hv2 hv3
        go_simp
        exact ⟨b0, b1, b2, b3, true, b5, b6, true, true, b9, b10, x3, x7, _, x9, x10, _, x12, x13, _, _, rfl, rfl, h0, f0, f1, f2, f3, f4, f5, f6, f7, (fun _ => ⟨rfl, rfl, rfl⟩), f9, (fun h => ⟨(f10 h).1, rfl⟩)⟩
      · obtain rfl := Option.some.inj ho
        have hb9 : b9 = false := by simpa using ready_off rfl hi
        have hb10 : b10 = false := by
          cases b10 with
          | false => rfl
          | true => rw [(f10 rfl).1] at hb9; cases hb9
        subst hb10
        have hb' : Below w.heap.size w (w.alloc (.cells #[.int .i64 0, .slice none 0 0, .slice none 0 0, .slice none 0 0, .slice none 0 0] 32)) := (Below.refl _ _).alloc (Nat.le_refl _) _
        go_simp
        exact ⟨b0, b1, b2, b3, b4, b5, b6, b7, b8, true, false, _, x7, x8, x9, x10, x11, x12, x13, x14, x15, rfl, rfl, bstep h0 hb', f0, f1, f2, f3, (fun h => (f4 h).keep hb'), f5, f6, (fun h => by obtain ⟨q0, Fa, q1, q2, q3, q4⟩ := f7 h; exact ⟨q0, Fa, OwAttrs.frm q1 (Frm.ofBelow hb' []) (fun _ _ => by simp), q2, q3.mono (Nat.le_refl _) hb'.size, q4⟩), f8, (fun _ => ⟨w.heap.size, rfl, h0.size, Loc.made w _ _⟩), (fun h => by cases h)⟩
      · have g8 := ready_pred hi ho 8
        have g9 := ready_pred hi ho 9
        obtain rfl := Option.some.inj ho
        have e9 : b9 = true := g9 (by kernel_rfl)
        have e8 : b8 = true := g8 (by kernel_rfl)
        obtain ⟨e4, e7, e15⟩ := f8 e8
        have hb10 : b10 = false := by simpa using ready_off rfl hi
        subst e4 e7 e8 e9 e15 hb10
        obtain ⟨po, q1, q2, q3⟩ := f9 rfl
        replace q3 : Loc w po #[.int .i64 0, .slice none 0 0, .slice none 0 0, .slice none 0 0, .slice none 0 0] 32 := q3
        subst q1
        obtain ⟨p2, k2', hv2, _, _⟩ := (f4 rfl).byt.shape
        obtain ⟨_, Fa, r1, r2, r3, r4⟩ := f7 rfl
        obtain ⟨p3, k3', hv3⟩ : ∃ p3 k3', x14 = .slice p3 t.attrs.length k3' := by
          obtain ⟨_, _, _, _, _, e4, _⟩ := r1
          exact own_nil_shape e4
        subst hv2 hv3
        obtain ⟨y0, y1, y2, y3, y4⟩ := q3.five
        have u0 := q3.frozen 0
        have u1 := q3.frozen 1
        have u2 := q3.frozen 2
        have u3 := q3.frozen 3
        have u4 := q3.frozen 4
        obtain ⟨s1, s2⟩ := store5 q3 (.int .i64 t.kind) (.slice p2 t.name.length k2') (.slice none 0 0) (.slice p3 t.attrs.length k3') (.slice none 0 0)
        have s3 := h0.trans (s2.below (Nat.le_of_lt (Nat.lt_of_le_of_lt (Nat.zero_le _) (Nat.lt_of_le_of_lt q2 q3.lt)) |> fun _ => h0.size) (fun g hg => by simp at hg; omega))
        have s4 := (f4 rfl).frm s2 (fun g hg hg' => own_notN (f4 rfl) q3 (by have e : g = po := (by simpa using hg'); rw [← e]; simpa [FB] using hg))
        have s5 := OwAttrs.frm r1 s2 (fun g hg hg' => attrs_notN r1 q3 (by have e : g = po := (by simpa using hg'); rw [← e]; exact hg))
        go_simp
        exact ⟨b0, b1, b2, b3, true, b5, b6, true, true, true, true, _, x7, x8, x9, x10, _, x12, x13, _, _, rfl, rfl, s3, f0, f1, f2, f3, (fun _ => s4), f5, f6, (fun _ => ⟨rfl, Fa, s5, r2, r3.mono (Nat.le_refl _) s2.size, r4⟩), (fun _ => ⟨rfl, rfl, rfl⟩), (fun _ => ⟨po, rfl, q2, s1⟩), (fun _ => ⟨rfl, rfl⟩)⟩
-- Td1step>>
  case dn =>
    intro L a w2 hI hre
    have hall := ready_all (L := L) (by obtain ⟨b0, b1, b2, b3, b4, b5, b6, b7, b8, b9, b10, x3, x7, x8, x9, x10, x11, x12, x13, x14, x15, rfl, _⟩ := hI; rfl) (by kernel_rfl) hre 11
    obtain ⟨b0, b1, b2, b3, b4, b5, b6, b7, b8, b9, b10, x3, x7, x8, x9, x10, x11, x12, x13, x14, x15, rfl, rfl, h0, f0, f1, f2, f3, f4, f5, f6, f7, f8, f9, f10⟩ := hI
    have s4 : b4 = true := hall 4 (by omega) (by decide)
    have s7 : b7 = true := hall 7 (by omega) (by decide)
    have s9 : b9 = true := hall 9 (by omega) (by decide)
    have s10 : b10 = true := hall 10 (by omega) (by decide)
    subst s4 s7 s9 s10
    obtain ⟨po, q1, q2, q3⟩ := f9 rfl
    replace q3 : Loc w2 po #[.int .i64 t.kind, x11, .slice none 0 0, x14, .slice none 0 0] 32 := q3
    obtain ⟨_, Fa, r1, r2, r3, r4⟩ := f7 rfl
    have r0 := f4 rfl
    subst q1
    clear hall f0 f1 f2 f3 f4 f5 f6 f7 f8 f9 f10 hre
    obtain ⟨p2, k2', hv2, _, _⟩ := r0.byt.shape
    obtain ⟨p3, k3', hv3⟩ : ∃ p3 k3', x14 = .slice p3 t.attrs.length k3' := by
      obtain ⟨_, _, _, _, _, e4, _⟩ := r1
      exact own_nil_shape e4
    have hO : OutAt n w1.heap.size w2 po t.kind x11 (.slice none 0 0) x14 (.slice none 0 0) t.name [] t.attrs (([] : List (Mb (Tr (n + 1)))).map (unMb n)) Fa [] := by
      refine ⟨q3, r0.mono (Nat.zero_le _), ⟨okB_nil, World.ownsRow_nil _ _ _ _⟩, r1, OwElems.none _ _ _ _, ?_, fun q hq => ?_⟩
      · show (FB x11 ++ [] ++ Fa ++ []).Nodup
        rw [List.append_nil, List.append_nil]
        exact List.nodup_append.2 ⟨FB_nodup _, r2, fun a ha b hb e => r4 b hb (e ▸ ha)⟩
      · have hq' : q ∈ FB x11 ∨ q ∈ Fa := by simpa [FB, Value.ownBlock] using hq
        rcases hq' with h | h
        · exact ⟨(r0.lt q (by simpa [FB] using h)).1, (r0.lt q (by simpa [FB] using h)).2, fun e => own_notN r0 q3 (by rw [← e]; simpa [FB] using h)⟩
        · exact ⟨(r3 q h).1, (r3 q h).2, fun e => attrs_notN r1 q3 (e ▸ h)⟩
    subst hv2 hv3
    have hB2 : Below w0.heap.size w0 w2 := bstep hB1 h0
    have lr2 := l1.all h0
    have c4 : w2.cell? ⟨w0.heap.size, 4, none⟩ = some (.slice ae t.kids.length ce) := (l0.all h0).cell 4
    have hway0 : Way n [] [] ((t.kids.map (mb n)).drop 0) (t.kids.map (mb n)) := by
      refine ⟨rfl, ?_⟩
      have h1 := kids_wt n t.kids
      have h2 := unhide HSZ
      simp only [List.map_nil, List.sum_nil, List.length_nil, List.drop_zero]
      omega
    have HWY := hide hway0
    have hlo : w1.heap.size ≤ w2.heap.size := h0.size
    have hpo := q3.lt
    have HMS : Hid (∀ j (h : j < t.kids.length), (t.kids.map (mb n)).drop j = mb n t.kids[j] :: (t.kids.map (mb n)).drop (j + 1)) := fun j h => by
      rw [List.drop_eq_getElem_cons (by simpa using h)]
      simp
    generalize hms : t.kids.map (mb n) = ms at *
    clear hway0 r0 r1 r2 r3 r4 q3 x0 x1 x2 x3 x4 hb hc hd h0 l0 l1
    go_wp2_with fail
    go_loopw [4, 19] (fun row i wr => ∃ j : Nat, j ≤ t.kids.length ∧ i = .int .i64 j ∧ ∃ r A ka km kc Fk, Own wr w1.heap.size row r ∧ OutAt n w1.heap.size wr po t.kind (.slice p2 t.name.length k2') (.slice none 0 0) (.slice p3 t.attrs.length k3') (.slice ka km kc) t.name [] t.attrs (A.map (unMb n)) Fa Fk ∧ Hid (∀ q ∈ FB row, q ≠ po ∧ q ∉ FB (.slice p2 t.name.length k2') ++ FB (.slice none 0 0) ++ Fa ++ Fk) ∧ Hid (Way n A r (ms.drop j) ms) ∧ Below w0.heap.size w0 wr ∧ Loc wr (w0.heap.size + 1) #[.int .i64 0, .slice none 0 0, .slice none 0 0, .slice none 0 0, .slice none 0 0] 32 ∧ w1.heap.size ≤ wr.heap.size) (fun _ i _ => t.kids.length - (intOf i).toNat)
    case atStart => exact ⟨0, Nat.zero_le _, rfl, [], [], none, 0, 0, [], ⟨okB_nil, World.ownsRow_nil _ _ _ _⟩, hO, fun q hq => by simp [FB, Value.ownBlock] at hq, unhide HWY, hB2, lr2, hlo⟩
    case round =>
      clear hO hB2 lr2 HWY c4 hlo hpo
      obtain ⟨j, hj, rfl, r, A, ka, km, kc, Fk, hrw, hO, hdj, hway, hBr, lr, hlo⟩ := hrel
      have hndk : Fk.Nodup := (List.nodup_append.1 hO.nodup).2.1
      have hFlt : ∀ q ∈ Fk, q < wr.heap.size := fun q hq => (hO.rng q (List.mem_append_right _ hq)).2.1
      have hkvF : ∀ q ∈ FB (.slice ka km kc), q ∈ Fk := fun q hq => by
        obtain ⟨_, _, _, _, _, _, rfl⟩ := hO.kids
        exact List.mem_append_left _ hq
      obtain ⟨ra, rc, hrv, hrc1, _⟩ := hrw.byt.shape
      obtain ⟨rb, hrab⟩ : ∃ rb, r = [] ∨ ra = some ⟨rb, 0, none⟩ := by
        rcases own_addr (hrv ▸ hrw) with h | ⟨g, h⟩
        · exact ⟨0, .inl h⟩
        · exact ⟨g, .inr h⟩
      subst hrv
      have hrk : ∀ q ∈ FB (.slice ra r.length rc), q ∉ FB (.slice ka km kc) := fun q hq hq' => (unhide hdj q hq).2 (List.mem_append_right _ (hkvF q hq'))
      by_cases hjl : j < t.kids.length
      · have hway' := unhide hway
        rw [unhide HMS j hjl] at hway'
        obtain ⟨pb, poff, rfl, hpl, hun, _, hC⟩ := he.at hjl
        clear hun
        obtain ⟨kid, hkid⟩ : ∃ kid, kid = t.kids[j] := ⟨_, rfl⟩
        have hmem : kid ∈ t.kids := by rw [hkid]; exact List.getElem_mem hjl
        obtain ⟨d0, d1, d2, d3, d4, e0, e1, e2, e3, e4, hx⟩ := five_of hC
        rw [← hkid] at hx hway'
        replace e0 := (hBr.cell (p := ⟨pb, poff + j * 5, none⟩) hpl).trans e0
        replace e1 := (hBr.cell (p := ⟨pb, poff + j * 5 + 1, none⟩) hpl).trans e1
        replace e2 := (hBr.cell (p := ⟨pb, poff + j * 5 + 2, none⟩) hpl).trans e2
        replace e3 := (hBr.cell (p := ⟨pb, poff + j * 5 + 3, none⟩) hpl).trans e3
        replace e4 := (hBr.cell (p := ⟨pb, poff + j * 5 + 4, none⟩) hpl).trans e4
        obtain ⟨_, _, _, _, ee, kk1, kk2, hkb, hkc, hkd, hke⟩ := id hx
        simp only [List.cons.injEq, and_true] at ee
        obtain ⟨rfl, rfl, rfl, rfl, rfl⟩ := ee
        obtain ⟨ab', cb', rfl, _, _⟩ := hkb.shape
        obtain ⟨ac', cc', rfl, _, _⟩ := hkc.shape
        obtain ⟨ad', cd', rfl, _, _⟩ := Elems.shape hkd
        obtain ⟨ae', ce', rfl, _, _⟩ := Elems.shape hke
        have hksz : szT (n + 1) kid + 1 ≤ szT (n + 2) t := sz_kid hmem
        have hktx := text_sz n kid
        have hjl' : (j : Int) < (t.kids.length : Int) := by omega
        have hBa : Below wr.heap.size wr (wr.alloc (.cells #[.int .i64 kid.kind, .slice ab' kid.name.length cb', .slice ac' kid.text.length cc', .slice ad' kid.attrs.length cd', .slice ae' kid.kids.length ce'] 32)) := (Below.refl _ _).alloc (Nat.le_refl _) _
        have lk := Loc.made wr #[.int .i64 kid.kind, .slice ab' kid.name.length cb', .slice ac' kid.text.length cc', .slice ad' kid.attrs.length cd', .slice ae' kid.kids.length ce'] 32
        have hOa := hO.keep hBa
        have hBw := bstep hBr hBa
        have lra := lr.all hBa
        have hrwa := hrw.alloc (.cells #[.int .i64 kid.kind, .slice ab' kid.name.length cb', .slice ac' kid.text.length cc', .slice ad' kid.attrs.length cd', .slice ae' kid.kids.length ce'] 32)
        have HX := hide hx
        have HKM := hide hmem
        have hlen := hway'.len
        have hloa := Nat.le_trans hlo hBa.size
        obtain ⟨y0, y1, y2, y3, y4⟩ := lk.five
        have hO0 := hO.loc.lt
        clear hC hO lr hx hmem hkid hway HMS he
        by_cases hz : kid.kind = 1
        · have dz : (kid.kind == 1) = true := by simpa using hz
          have hw2 : Way n A (r ++ kid.text) (ms.drop (j + 1)) ms := by
            have e : mb n kid = .inr kid.text := by unfold mb; rw [if_pos hz]
            rw [e] at hway'
            exact hway'.text
          have hlen2 := hw2.len
          rw [List.length_append] at hlen2
          have HWY := hide hw2
          have HRW := hide hrwa
          clear hz hw2 hway' hrw hrwa
          go_wp2_with (at_builtin; (refine wpList_appAt rfl _ _ rfl w1.heap.size _ r rfl (unhide HRW) _ kid.text rfl (hkc.keep hBw) (by omega) hloa ?_))
          intro v7 w7 ho7 hg7 hat
          have F7 := Frm.ofGrown hg7
          have hS : ∀ q ∈ (Value.slice ra r.length rc).ownBlock.toList, q ∈ FB (.slice ra r.length rc) := fun q hq => hq
          have hO7 := hOa.frm F7 (fun h => (unhide hdj po (hS po h)).1 rfl) (fun q hq h => (unhide hdj q (hS q h)).2 hq)
          have hlra : w0.heap.size + 1 ∉ (Value.slice ra r.length rc).ownBlock.toList := fun h => by
            have := ((unhide HRW).lt _ (by simpa using h)).1
            omega
          have lr7 := lra.frm F7 hlra
          have hB7 : Below w0.heap.size w0 w7 := hBw.trans (F7.below hBw.size (fun q hq => by have := ((unhide HRW).lt q (by simpa using hq)).1; omega))
          have hd7 : Hid (∀ q ∈ FB v7, q ≠ po ∧ q ∉ FB (.slice p2 t.name.length k2') ++ FB (.slice none 0 0) ++ Fa ++ Fk) := fun q hq => by
            have hq' : v7.ownBlock = some q := by simpa [FB] using hq
            rcases hat with h | h
            · exact unhide hdj q (by rw [h] at hq'; simpa [FB] using hq')
            · rw [h] at hq'
              have e := Option.some.inj hq'
              refine ⟨fun e' => ?_, fun hm => ?_⟩
              · have := hOa.loc.lt; simp only [World.size_alloc] at this e; omega
              · have := (hOa.rng q hm).2.1; simp only [World.size_alloc] at this e; omega
          have hlo7 := Nat.le_trans hloa F7.size
          have HO7 := hide (And.intro ho7 hO7)
          obtain ⟨a7, c7, hv7, _, _⟩ := ho7.byt.shape
          generalize (r ++ kid.text).length = n7 at hv7
          subst hv7
          clear ho7 hO7 hg7 F7 hat y0 y1 y2 y3 y4 e0 e1 e2 e3 e4
          go_wp2_with fail
          go_roundw
          case rel => exact ⟨j + 1, by omega, by go_num, _, A, ka, km, kc, Fk, (unhide HO7).1, (unhide HO7).2, hd7, unhide HWY, hB7, lr7, hlo7⟩
          case measure => simp [intOf]; omega
        · have dz : (kid.kind == 1) = false := by simpa using hz
          have hw2 : Way n (A ++ (cutL r).map .inr ++ [.inl (tidyT (n + 1) kid)]) [] (ms.drop (j + 1)) ms := by
            have e : mb n kid = .inl (tidyT (n + 1) kid) := by unfold mb; rw [if_neg hz]
            rw [e] at hway'
            exact hway'.elem
          have hlen2 := hw2.len
          rw [List.length_append, List.length_append, List.length_map, List.length_singleton] at hlen2
          have HWY := hide hw2
          have HK := hide (H kid (unhide HKM) hz)
          have HS6 := hide (show szT (n + 1) kid ≤ 2097152 by omega)
          obtain ⟨i0, hi0, hz0, hz1, hz2⟩ := info_parts Try.info32
          clear hz hw2 hway' hrw H
          go_wp2_with fail
          generalize (wr.alloc (.cells #[.int .i64 kid.kind, .slice ab' kid.name.length cb', .slice ac' kid.text.length cc', .slice ad' kid.attrs.length cd', .slice ae' kid.kids.length ce'] 32)) = wa at *
          have hdr : Below wa.heap.size wa wa.drew := (Below.refl _ _).drew
          have hOd := hOa.keep hdr
          have lkd := lk.all hdr
          have hrwd := hrwa.keep hdr
          have hpk : po ∉ FB (.slice ka km kc) := fun h => (hOd.rng po (List.mem_append_right _ (hkvF po h))).2.2 rfl
          have hkk : wr.heap.size ∉ FB (.slice ka km kc) := fun h => by have := hFlt _ (hkvF _ h); omega
          have HP := hide (putTexts_any n wa.drew ka km kc ra rb 0 rc (A.map (unMb n)) Fk r hOd.kids hndk (fun q hq => (hOd.rng q (List.mem_append_right _ hq)).2.1) hrab hrc1 (fun w' f => (hrwd.frm f hrk).byt) (by rw [List.length_map]; omega))
          have c4 : wa.drew.cell? ⟨po, 4, none⟩ = some (.slice ka km kc) := hOd.loc.cell 4
          have c4' : wa.cell? ⟨po, 4, none⟩ = some (.slice ka km kc) := hOa.loc.cell 4
          have k0 : wa.drew.cell? ⟨wr.heap.size, 0, none⟩ = some (.int .i64 kid.kind) := lkd.cell 0
          have k1 : wa.drew.cell? ⟨wr.heap.size, 1, none⟩ = some (.slice ab' kid.name.length cb') := lkd.cell 1
          have k2 : wa.drew.cell? ⟨wr.heap.size, 2, none⟩ = some (.slice ac' kid.text.length cc') := lkd.cell 2
          have k3 : wa.drew.cell? ⟨wr.heap.size, 3, none⟩ = some (.slice ad' kid.attrs.length cd') := lkd.cell 3
          have k4 : wa.drew.cell? ⟨wr.heap.size, 4, none⟩ = some (.slice ae' kid.kids.length ce') := lkd.cell 4
          have hBd := hBw.drew
          have hrn : Hid (∀ q ∈ FB (.slice ka km kc), w0.heap.size ≤ q) := fun q hq => by have := (hOd.rng q (List.mem_append_right _ (hkvF q hq))).1; omega
          have hnk : wr.heap.size ≠ po := fun e => by have := hO0; omega
          clear y0 y1 y2 y3 y4
          have he1 : ∀ args w, (callFunc 65 args).run Try.prog w = .ok (.enter 65 args) w := enters_of Try.func65 (by kernel_rfl) rfl
          have he2 : ∀ args w, (callFunc 39 args).run Try.prog w = .ok (.enter 39 args) w := enters_of Try.func39 (by kernel_rfl) rfl
          go_region_law
            (first
              | (refine step_call (by rfl) 65 [.tmp 31, .tmp 32] #[30, 22] (by rfl) he1 [.slice ka km kc, .slice ra r.length rc] (by rfl) (unhide HP) ?_; clear HP; rintro e w6 ⟨v6, rfl, F6, hk6, nd6, hm6, fr6, hb6⟩; have c4 : w6.cell? ⟨po, 4, none⟩ = some (.slice ka km kc) := (hOd.loc.frm fr6 hpk).cell 4; have lk6 := lkd.frm fr6 hkk; have k0 : w6.cell? ⟨wr.heap.size, 0, none⟩ = some (.int .i64 kid.kind) := lk6.cell 0; have k1 : w6.cell? ⟨wr.heap.size, 1, none⟩ = some (.slice ab' kid.name.length cb') := lk6.cell 1; have k2 : w6.cell? ⟨wr.heap.size, 2, none⟩ = some (.slice ac' kid.text.length cc') := lk6.cell 2; have k3 : w6.cell? ⟨wr.heap.size, 3, none⟩ = some (.slice ad' kid.attrs.length cd') := lk6.cell 3; have k4 : w6.cell? ⟨wr.heap.size, 4, none⟩ = some (.slice ae' kid.kids.length ce') := lk6.cell 4; have hW6 : Below w0.heap.size w0 w6 := hBd.trans (fr6.below hBd.size (unhide hrn)); obtain ⟨a6, n6, m6, hv6⟩ : ∃ a6 n6 m6, v6 = .slice a6 n6 m6 := (by obtain ⟨_, _, _, _, _, e4, _⟩ := hk6; obtain ⟨a, b, h⟩ := own_nil_shape e4; exact ⟨a, _, b, h⟩); subst hv6; refine ⟨_, rfl, ?_⟩)
              | (refine step_call (by rfl) 39 [.tmp 34] #[32] (by rfl) he2 [.agg #[.int .i64 kid.kind, .slice ab' kid.name.length cb', .slice ac' kid.text.length cc', .slice ad' kid.attrs.length cd', .slice ae' kid.kids.length ce']] (by rfl) (unhide HK w6 _ _ _ _ _ ((unhide HX).keep hW6) (unhide HS6)) ?_; clear HK; rintro e w7 ⟨kd, a1, n1, c1, a2, n2, c2, a3, n3, c3, a4, n4, cz, rfl, G, hG, ndG, rG, hB7⟩; have c4 : w7.cell? ⟨po, 4, none⟩ = some (.slice ka km kc) := ((hOd.loc.frm fr6 hpk).all hB7).cell 4; have lk7 := lk6.all hB7; have k0 : w7.cell? ⟨wr.heap.size, 0, none⟩ = some (.int .i64 kid.kind) := lk7.cell 0; have k1 : w7.cell? ⟨wr.heap.size, 1, none⟩ = some (.slice ab' kid.name.length cb') := lk7.cell 1; have k2 : w7.cell? ⟨wr.heap.size, 2, none⟩ = some (.slice ac' kid.text.length cc') := lk7.cell 2; have k3 : w7.cell? ⟨wr.heap.size, 3, none⟩ = some (.slice ad' kid.attrs.length cd') := lk7.cell 3; have k4 : w7.cell? ⟨wr.heap.size, 4, none⟩ = some (.slice ae' kid.kids.length ce') := lk7.cell 4; have hb8 : Below w7.heap.size w7 (w7.alloc (.cells #[.int .i64 kd, .slice a1 n1 c1, .slice a2 n2 c2, .slice a3 n3 c3, .slice a4 n4 cz] 32)) := (Below.refl _ _).alloc (Nat.le_refl _) _; have c48 : (w7.alloc (.cells #[.int .i64 kd, .slice a1 n1 c1, .slice a2 n2 c2, .slice a3 n3 c3, .slice a4 n4 cz] 32)).cell? ⟨po, 4, none⟩ = some (.slice ka km kc) := (((hOd.loc.frm fr6 hpk).all hB7).all hb8).cell 4; have lk8 := lk7.all hb8; have k0x : (w7.alloc (.cells #[.int .i64 kd, .slice a1 n1 c1, .slice a2 n2 c2, .slice a3 n3 c3, .slice a4 n4 cz] 32)).cell? ⟨wr.heap.size, 0, none⟩ = some (.int .i64 kid.kind) := lk8.cell 0; have k1x : (w7.alloc (.cells #[.int .i64 kd, .slice a1 n1 c1, .slice a2 n2 c2, .slice a3 n3 c3, .slice a4 n4 cz] 32)).cell? ⟨wr.heap.size, 1, none⟩ = some (.slice ab' kid.name.length cb') := lk8.cell 1; have k2x : (w7.alloc (.cells #[.int .i64 kd, .slice a1 n1 c1, .slice a2 n2 c2, .slice a3 n3 c3, .slice a4 n4 cz] 32)).cell? ⟨wr.heap.size, 2, none⟩ = some (.slice ac' kid.text.length cc') := lk8.cell 2; have k3x : (w7.alloc (.cells #[.int .i64 kd, .slice a1 n1 c1, .slice a2 n2 c2, .slice a3 n3 c3, .slice a4 n4 cz] 32)).cell? ⟨wr.heap.size, 3, none⟩ = some (.slice ad' kid.attrs.length cd') := lk8.cell 3; have k4x : (w7.alloc (.cells #[.int .i64 kd, .slice a1 n1 c1, .slice a2 n2 c2, .slice a3 n3 c3, .slice a4 n4 cz] 32)).cell? ⟨wr.heap.size, 4, none⟩ = some (.slice ae' kid.kids.length ce') := lk8.cell 4; refine ⟨_, rfl, ?_⟩)
              | (refine step_push (R := OwNode (n + 1)) (fun h f d => OwNode.frm h f d) rfl (.tmp 33) (.tmp 36) 30 rfl 32 i0 (.agg #[.int .i64 0, .slice none 0 0, .slice none 0 0, .slice none 0 0, .slice none 0 0]) 5 104 Try.underlying30 hi0 hz0 hz1 hz2 rfl (by decide) _ (A.map (unMb n) ++ (cutL r).map (txtN n)) F6 (by rfl) (OwKids.frm (OwKids.frm hk6 (Frm.ofBelow hB7 []) (fun _ _ => by simp)) (Frm.ofBelow hb8 []) (fun _ _ => by simp)) nd6 ⟨w7.heap.size, 0, none⟩ 1 [.int .i64 kd, .slice a1 n1 c1, .slice a2 n2 c2, .slice a3 n3 c3, .slice a4 n4 cz] (tidyT (n + 1) kid) G (by rfl) rfl (five_lies w7 _ _ _ _ _ _) (by intro y hy; simp at hy; rcases hy with rfl | rfl | rfl | rfl | rfl <;> rfl) (hG.keep hb8) ndG (fun g hg hg' => by have := (hm6 g hg).2; have := (rG g hg').1; omega) (fun q hq => by have h1 := hB7.size; have h2 := hb8.size; rcases hq with hq | hq; (have := (hm6 q hq).2; omega); (have := (rG q hq).2; omega)) (by rw [List.length_append, List.length_map, List.length_map]; unfold maxLen; omega) (by rw [List.length_append, List.length_map, List.length_map]; omega) ?_; intro g9 cap9 w9 F9 hF9 hN9 hM9 hf9 hg9; generalize ((A.map (unMb n) ++ (cutL r).map (txtN n)).length + 1) = n9 at hF9 ⊢; have hf9' : Frm wa.drew w9 (FB (.slice ka km kc)) := (fr6.more (Frm.ofBelow (bstep hB7 hb8) []) (fun _ h => by cases h)).more hf9 hb6; have c4 : w9.cell? ⟨po, 4, none⟩ = some (.slice ka km kc) := (hOd.loc.frm hf9' hpk).cell 4; have lk9 := lkd.frm hf9' hkk; have k0 : w9.cell? ⟨wr.heap.size, 0, none⟩ = some (.int .i64 kid.kind) := lk9.cell 0; have k1 : w9.cell? ⟨wr.heap.size, 1, none⟩ = some (.slice ab' kid.name.length cb') := lk9.cell 1; have k2 : w9.cell? ⟨wr.heap.size, 2, none⟩ = some (.slice ac' kid.text.length cc') := lk9.cell 2; have k3 : w9.cell? ⟨wr.heap.size, 3, none⟩ = some (.slice ad' kid.attrs.length cd') := lk9.cell 3; have k4 : w9.cell? ⟨wr.heap.size, 4, none⟩ = some (.slice ae' kid.kids.length ce') := lk9.cell 4; have z49 := (hOd.loc.frm hf9' hpk).frozen 4; have lks := lk9.other po 4 (.slice (some ⟨g9, 0, none⟩) n9 cap9) hnk; have k0s : (w9.setCell ⟨po, 4, none⟩ (.slice (some ⟨g9, 0, none⟩) n9 cap9)).cell? ⟨wr.heap.size, 0, none⟩ = some (.int .i64 kid.kind) := lks.cell 0; have k1s : (w9.setCell ⟨po, 4, none⟩ (.slice (some ⟨g9, 0, none⟩) n9 cap9)).cell? ⟨wr.heap.size, 1, none⟩ = some (.slice ab' kid.name.length cb') := lks.cell 1; have k2s : (w9.setCell ⟨po, 4, none⟩ (.slice (some ⟨g9, 0, none⟩) n9 cap9)).cell? ⟨wr.heap.size, 2, none⟩ = some (.slice ac' kid.text.length cc') := lks.cell 2; have k3s : (w9.setCell ⟨po, 4, none⟩ (.slice (some ⟨g9, 0, none⟩) n9 cap9)).cell? ⟨wr.heap.size, 3, none⟩ = some (.slice ad' kid.attrs.length cd') := lks.cell 3; have k4s : (w9.setCell ⟨po, 4, none⟩ (.slice (some ⟨g9, 0, none⟩) n9 cap9)).cell? ⟨wr.heap.size, 4, none⟩ = some (.slice ae' kid.kids.length ce') := lks.cell 4))
          all_goals
            have hfq : ∀ q ∈ F9, (q ∈ Fk ∨ wa.drew.heap.size ≤ q) ∧ q < w9.heap.size := fun q hq => by
              refine ⟨?_, OwElems.lt hF9 (fun C x G h => OwNode.lt h) q hq⟩
              have s6 := fr6.size
              have s7 := hB7.size
              rcases hM9 q hq with h | h | h
              · exact (hm6 q h).1
              · have := (rG q h).1; right; omega
              · right; simp only [World.size_alloc] at h; omega
            have hO9 := hOd.setKids hf9' hpk (fun q hq hq' => (List.nodup_append.1 hOd.nodup).2.2 q hq q (hkvF q hq') rfl) hF9 hN9 hfq hloa
            have hr9 : Own (w9.setCell ⟨po, 4, none⟩ (.slice (some ⟨g9, 0, none⟩) n9 cap9)) w1.heap.size (.slice ra 0 rc) [] := ((hrwd.frm hf9' hrk).frm (Frm.set w9 po 4 _) (fun q hq hq' => (unhide hdj q hq).1 (by simpa using hq'))).cut0
            have hd9 : Hid (∀ q ∈ FB (.slice ra 0 rc), q ≠ po ∧ q ∉ FB (.slice p2 t.name.length k2') ++ FB (.slice none 0 0) ++ Fa ++ F9) := fun q hq => by
              rw [FB_len ra 0 r.length rc] at hq
              have hd := unhide hdj q hq
              refine ⟨hd.1, fun hm => ?_⟩
              rcases List.mem_append.1 hm with h | h
              · exact hd.2 (List.mem_append_left _ h)
              · rcases (hfq q h).1 with h' | h'
                · exact hd.2 (List.mem_append_right _ h')
                · have := (hrwd.lt q (by simpa [FB] using hq)).2; omega
            have hB9 : Below w0.heap.size w0 w9 := hBd.trans (hf9'.below hBd.size (unhide hrn))
            have hBX := hB9.setCell (p := ⟨po, 4, none⟩) (by show w0.heap.size ≤ po; omega) (.slice (some ⟨g9, 0, none⟩) n9 cap9)
            have hlrn : w0.heap.size + 1 ∉ FB (.slice ka km kc) := fun h => by
              have := (hOd.rng _ (List.mem_append_right _ (hkvF _ h))).1
              omega
            have lr9 := ((lra.all hdr).frm hf9' hlrn).other po 4 (.slice (some ⟨g9, 0, none⟩) n9 cap9) (by omega)
            have hlo9 : w1.heap.size ≤ (w9.setCell ⟨po, 4, none⟩ (.slice (some ⟨g9, 0, none⟩) n9 cap9)).heap.size := by
              have h1 := hf9'.size
              have h2 : wa.heap.size = wa.drew.heap.size := rfl
              simp only [World.size_setCell]
              omega
            have HO9 := hide (show OutAt n w1.heap.size (w9.setCell ⟨po, 4, none⟩ (.slice (some ⟨g9, 0, none⟩) n9 cap9)) po t.kind (.slice p2 t.name.length k2') (.slice none 0 0) (.slice p3 t.attrs.length k3') (.slice (some ⟨g9, 0, none⟩) n9 cap9) t.name [] t.attrs ((A ++ (cutL r).map (Sum.inr : List Int → Mb (Tr (n + 1))) ++ [(Sum.inl (tidyT (n + 1) kid) : Mb (Tr (n + 1)))]).map (unMb n)) Fa F9 by
              rw [List.map_append, List.map_append, unMb_inr]
              exact hO9)
            clear hO9 hOd hOa
            generalize r.length = rn at *
            go_wp2_with fail
            go_roundw
            case rel => exact ⟨j + 1, by omega, by go_num, [], _, _, _, _, F9, hr9, unhide HO9, hd9, unhide HWY, hBX, lr9, hlo9⟩
            case measure => simp [intOf]; omega
      · have hwl : Way n A r [] ms := by
          have := unhide hway
          rwa [List.drop_of_length_le (by rw [← hms]; simp; omega)] at this
        have hlen := hwl.len
        have HP := hide (putTexts_any n wr ka km kc ra rb 0 rc (A.map (unMb n)) Fk r hO.kids hndk hFlt hrab hrc1 (fun w' f => (hrw.frm f hrk).byt) (by rw [List.length_map]; omega))
        have htree : tidyT (n + 2) t = (⟨t.kind, t.name, [], t.attrs, A.map (unMb n) ++ (cutL r).map (txtN n)⟩ : Nd (Tr (n + 1))) := by
          rw [tidyT_two, unhide HNO, hms, ← hwl.1]
          simp only [tidyI, List.map_append, unMb_inr]
          rfl
        have HT := hide htree
        have y4 : wr.cell? ⟨po, 4, none⟩ = some (.slice ka km kc) := hO.loc.cell 4
        have hpk : po ∉ FB (.slice ka km kc) := fun h => (hO.rng po (List.mem_append_right _ (hkvF po h))).2.2 rfl
        have hjl' : ¬ (j : Int) < (t.kids.length : Int) := by omega
        have hrn : w0.heap.size + 1 ∉ FB (.slice ka km kc) := fun h => by
          have := (hO.rng _ (List.mem_append_right _ (hkvF _ h))).1
          omega
        clear htree hway hwl HMS he H
        generalize r.length = rn at *
        go_wp2_with fail
        refine (unhide HP).mono ?_
        clear HP
        rintro e w5 ⟨v5, rfl, F5, hk5, nd5, hm5, fr5, hb5⟩
        have hO5 := hO.setKids fr5 hpk (fun q hq hq' => (List.nodup_append.1 hO.nodup).2.2 q hq q (hkvF q hq') rfl) hk5 nd5 hm5 hlo
        have hl5 := hO.loc.frm fr5 hpk
        have lr5 := lr.frm fr5 hrn
        obtain ⟨a5, m5, hv5⟩ : ∃ a5 m5, v5 = .slice a5 (A.map (unMb n) ++ (cutL r).map (txtN n)).length m5 := by
          obtain ⟨_, _, _, _, _, e4, _⟩ := hk5
          exact own_nil_shape e4
        generalize (A.map (unMb n) ++ (cutL r).map (txtN n)).length = n5 at hv5
        subst hv5
        have u4 : w5.cell? ⟨po, 4, none⟩ = some (.slice ka km kc) := hl5.cell 4
        have v4 := hl5.frozen 4
        have hne : po ≠ w0.heap.size + 1 := by omega
        have lr6 := lr5.other po 4 (.slice a5 n5 m5) (fun e => hne e.symm)
        obtain ⟨y0', y1', y2', y3', y4'⟩ := hO5.loc.five
        obtain ⟨g0, g1, g2, g3, g4⟩ := lr6.five
        have i0 := lr6.frozen 0
        have i1 := lr6.frozen 1
        have i2 := lr6.frozen 2
        have i3 := lr6.frozen 3
        have i4 := lr6.frozen 4
        obtain ⟨lX, fX⟩ := store5 lr6 (.int .i64 t.kind) (.slice p2 t.name.length k2') (.slice none 0 0) (.slice p3 t.attrs.length k3') (.slice a5 n5 m5)
        have hOX := hO5.frm fX (by simpa using hne) (fun q hq hq' => by
          have := (hO5.rng q hq).1
          have e : q = w0.heap.size + 1 := by simpa using hq'
          omega)
        have hB5 : Below w0.heap.size w0 w5 := hBr.trans (fr5.below hBr.size (fun q hq => by have := (hO.rng q (List.mem_append_right _ (hkvF q hq))).1; omega))
        have hBX := (hB5.setCell (p := ⟨po, 4, none⟩) (by show w0.heap.size ≤ po; omega) (.slice a5 n5 m5))
        have hBX2 := hBX.trans (fX.below hBX.size (fun q hq => by have e : q = w0.heap.size + 1 := (by simpa using hq); omega))
        have fin := hOX.node k1 k2
        have HF := hide (And.intro fin (And.intro hOX.nodup (And.intro hOX.rng hBX2)))
        clear fin hOX hBX hBX2 fX hB5 lr6 lr5 hO5 hO hk5 nd5 hm5 fr5 hb5
        go_wp2_with fail
        obtain ⟨fin, nd, rg, bel⟩ := unhide HF
        exact bodyPost_ret (v := .agg #[.int .i64 t.kind, .slice p2 t.name.length k2', .slice none 0 0, .slice p3 t.attrs.length k3', .slice a5 n5 m5]) (by simp [results, Try.results39, go_sem, g0, g1, g2, g3, g4]) rfl ⟨t.kind, p2, _, k2', none, 0, 0, p3, _, k3', a5, n5, m5, rfl, _, by rw [unhide HT]; exact fin, nd, fun q hq => ⟨by have := (rg q hq).1; omega, (rg q hq).2.1⟩, bel⟩
end Go.Proofs.Yteioihjgjbjmjaa

/- spec.l2join puts a text's bytes behind kids, one by one. -/
namespace Go.Proofs.Yteioihjgjbjmjaa
open Go.RowKit Go.Shelf
set_option linter.unusedVariables false
set_option maxRecDepth 100000

/-- The last element apart. -/
theorem ow_unsnoc {α : Type} {w : World} {e : TypeId} {size : Nat} {v : Value} {l : List α} {y : α} {R : List Value → α → List Nat → Prop} {F : List Nat} (h : OwElems w e size v (l ++ [y]) R F) :
    ∃ (Cs : List (List Value)) (Fs : List (List Nat)) (C : List Value) (G : List Nat), Cs.length = l.length ∧ Fs.length = l.length ∧ (∀ i (hi : i < l.length), (Cs.getD i []).length = size ∧ R (Cs.getD i []) l[i] (Fs.getD i [])) ∧ C.length = size ∧ R C y G ∧ w.ownsRow 0 e size v (l.length + 1) (Cs.flatten ++ C) ∧ F = FB v ++ (Fs.flatten ++ G) := by
  obtain ⟨Cs, Fs, h1, h2, h3, h4, h5⟩ := h
  simp only [List.length_append, List.length_cons, List.length_nil, Nat.zero_add] at h1 h2 h4
  obtain ⟨Cs', C, rfl⟩ : ∃ Cs' C, Cs = Cs' ++ [C] := ⟨Cs.dropLast, Cs.getLast (by intro e; subst e; simp at h1), (List.dropLast_concat_getLast _).symm⟩
  obtain ⟨Fs', G, rfl⟩ : ∃ Fs' G, Fs = Fs' ++ [G] := ⟨Fs.dropLast, Fs.getLast (by intro e; subst e; simp at h2), (List.dropLast_concat_getLast _).symm⟩
  have e1 : Cs'.length = l.length := by simpa using h1
  have e2 : Fs'.length = l.length := by simpa using h2
  have hl := h3 l.length (by simp)
  have g1 : (Cs' ++ [C]).getD l.length [] = C := by rw [← e1]; simp
  have g2 : (Fs' ++ [G]).getD l.length [] = G := by rw [← e2]; simp
  rw [g1, g2] at hl
  simp only [List.getElem_concat_length] at hl
  refine ⟨Cs', Fs', C, G, e1, e2, fun i hi => ?_, hl.1, hl.2, by simpa using h4, by simpa using h5⟩
  have := h3 i (by simp; omega)
  have f1 : (Cs' ++ [C]).getD i [] = Cs'.getD i [] := by rw [List.getD_eq_getElem?_getD, List.getD_eq_getElem?_getD, List.getElem?_append_left (by omega)]
  have f2 : (Fs' ++ [G]).getD i [] = Fs'.getD i [] := by rw [List.getD_eq_getElem?_getD, List.getD_eq_getElem?_getD, List.getElem?_append_left (by omega)]
  rw [f1, f2, List.getElem_append_left hi] at this
  exact this
/-- A last element laid anew. -/
theorem ow_snocF {α : Type} {R : World → List Value → α → List Nat → Prop} (hRf : ∀ {w w' : World} {S : List Nat} {C : List Value} {x : α} {G : List Nat}, R w C x G → Frm w w' S → (∀ g ∈ G, g ∉ S) → R w' C x G)
    {w w' : World} {e : TypeId} {size : Nat} {l : List α} {Cs : List (List Value)} {Fs : List (List Nat)} {C : List Value} {y : α} {G S : List Nat} {g cap m : Nat}
    (h1 : Cs.length = l.length) (h2 : Fs.length = l.length) (h3 : ∀ i (hi : i < l.length), (Cs.getD i []).length = size ∧ R w (Cs.getD i []) l[i] (Fs.getD i []))
    (hC : C.length = size) (hy : R w' C y G) (hm : m = l.length + 1)
    (k1 : w'.ownsRow 0 e size (.slice (some ⟨g, 0, none⟩) m cap) m (Cs.flatten ++ C)) (hf : Frm w w' S) (hS : ∀ q ∈ Fs.flatten, q ∉ S) :
    OwElems w' e size (.slice (some ⟨g, 0, none⟩) m cap) (l ++ [y]) (R w') (g :: (Fs.flatten ++ G)) := by
  subst hm
  refine ⟨Cs ++ [C], Fs ++ [G], by simp [h1], by simp [h2], fun i hi => ?_, ?_, ?_⟩
  · by_cases hil : i < l.length
    · have a := h3 i hil
      have e1 : (Cs ++ [C]).getD i [] = Cs.getD i [] := by rw [List.getD_eq_getElem?_getD, List.getD_eq_getElem?_getD, List.getElem?_append_left (by omega)]
      have e2 : (Fs ++ [G]).getD i [] = Fs.getD i [] := by rw [List.getD_eq_getElem?_getD, List.getD_eq_getElem?_getD, List.getElem?_append_left (by omega)]
      rw [e1, e2, List.getElem_append_left hil]
      exact ⟨a.1, hRf a.2 hf (fun q hq => hS q (mem_flat hq))⟩
    · have e0 : i = l.length := by simp at hi; omega
      subst e0
      have e1 : (Cs ++ [C]).getD l.length [] = C := by rw [← h1]; simp
      have e2 : (Fs ++ [G]).getD l.length [] = G := by rw [← h2]; simp
      rw [e1, e2]
      simp only [List.getElem_concat_length]
      exact ⟨hC, hy⟩
  · simp only [List.length_append, List.length_cons, List.length_nil, List.flatten_append, List.flatten_cons, List.flatten_nil, List.append_nil]
    exact k1
  · simp [FB, Value.ownBlock]

/-- What lies behind the kids as they are joined: owned, no element is a text. -/
def Jn (n : Nat) (w : World) (v : Value) (ks : List (Mb (Tr (n + 1)))) (F : List Nat) : Prop := OwKids (n + 1) w v (ks.map (unMb n)) F ∧ F.Nodup ∧ ∀ k, .inl k ∈ ks → k.kind ≠ 1

/-- One byte goes behind the text that is last: the store. -/
theorem jn_store {n : Nat} {w w' : World} {g m cap : Nat} {pre : List (Mb (Tr (n + 1)))} {lt : List Int} {F : List Nat} (h : Jn n w (.slice (some ⟨g, 0, none⟩) m cap) (pre ++ [.inr lt]) F) (hlt : ∀ q ∈ F, q < w.heap.size) :
    m = pre.length + 1 ∧ ∃ vt, Own w 0 vt lt ∧ (∀ q ∈ FB vt, q ∈ F) ∧ w.cell? ⟨g, pre.length * 5, none⟩ = some (.int .i64 1) ∧ w.cell? ⟨g, pre.length * 5 + 2, none⟩ = some vt ∧ w.frozen? ⟨g, pre.length * 5 + 2, none⟩ = false ∧
      ∀ (w' : World) (vt' : Value) (lt' : List Int) (x : List Nat), w.heap.size ≤ w'.heap.size → Frm w w' (FB vt) → Own w' 0 vt' lt' → (∀ q ∈ FB vt', q ∈ FB vt ∨ w.heap.size ≤ q) →
        ∃ F', Jn n (w'.setCell ⟨g, pre.length * 5 + 2, none⟩ vt') (.slice (some ⟨g, 0, none⟩) m cap) (pre ++ [.inr lt']) F' ∧ (∀ q ∈ F', (q ∈ F ∨ w.heap.size ≤ q) ∧ q < (w'.setCell ⟨g, pre.length * 5 + 2, none⟩ vt').heap.size) ∧ Frm w (w'.setCell ⟨g, pre.length * 5 + 2, none⟩ vt') F ∧ (w'.cell? ⟨g, pre.length * 5 + 2, none⟩ = some vt ∧ w'.frozen? ⟨g, pre.length * 5 + 2, none⟩ = false) := by
  obtain ⟨h1, h2, h3⟩ := h
  have h1' : OwElems w 32 5 (.slice (some ⟨g, 0, none⟩) m cap) (pre.map (unMb n) ++ [txtN n lt]) (OwNode (n + 1) w) F := by
    have : (pre ++ [(Sum.inr lt : Mb (Tr (n + 1)))]).map (unMb n) = pre.map (unMb n) ++ [txtN n lt] := by rw [List.map_append]; rfl
    rw [← this]; exact h1
  obtain ⟨Cs, Fs, C, G, e1, e2, e3, eC, hy, e4, e5⟩ := ow_unsnoc h1'
  rw [List.length_map] at e1 e2 e4
  have hm : m = pre.length + 1 := by
    obtain ⟨_, _, e⟩ := own_nil_shape e4
    injection e
  subst hm
  have hlC : Cs.flatten.length = pre.length * 5 := by
    have := e4.1
    rw [List.length_append, eC] at this
    omega
  obtain ⟨nm, vt, at', kd, Fc, Fd, rfl, k1, k2, o1, o2, o3, o4, rfl⟩ := hy
  have hcell : ∀ j, j < 5 → w.cell? ⟨g, pre.length * 5 + j, none⟩ = [Value.int .i64 1, nm, vt, at', kd][j]? := fun j hj => by
    have := e4.cellAt (pre.length * 5 + j) (by omega)
    rw [this, List.getElem?_append_right (by omega), hlC]
    congr 1
    omega
  have hvF : ∀ q ∈ FB vt, q ∈ F := fun q hq => by rw [e5]; simp only [List.mem_append]; exact .inr (.inr (.inl (.inl (.inr hq))))
  have hgF : g ∈ F := by rw [e5]; exact List.mem_append_left _ (by simp [FB, Value.ownBlock])
  have hND : (g :: (Fs.flatten ++ (FB nm ++ FB vt ++ Fc ++ Fd))).Nodup := by
    have := h2
    rw [e5] at this
    simpa [FB, Value.ownBlock] using this
  have hgv : g ∉ FB vt := fun hq => (List.nodup_cons.1 hND).1 (by simp only [List.mem_append]; exact .inr (.inl (.inl (.inr hq))))
  refine ⟨rfl, vt, o2, hvF, hcell 0 (by omega), hcell 2 (by omega), e4.frozenAt _, ?_⟩
  intro w' vt' lt' _ hs hf hov hat
  have hrow' := ownsRow_frm e4 hf (fun q hq => by
    have e : q = g := by simpa [FB, Value.ownBlock] using hq
    rw [e]; exact hgv)
  have hc' : w'.cell? ⟨g, pre.length * 5 + 2, none⟩ = some vt := by
    rw [hrow'.cellAt (pre.length * 5 + 2) (by omega), List.getElem?_append_right (by omega), hlC]
    have : pre.length * 5 + 2 - pre.length * 5 = 2 := by omega
    rw [this]; rfl
  obtain ⟨s1, s2⟩ := hrow'.stored (pre.length * 5 + 2) vt'
  have hset : (Cs.flatten ++ [Value.int .i64 1, nm, vt, at', kd]).set (pre.length * 5 + 2) vt' = Cs.flatten ++ [.int .i64 1, nm, vt', at', kd] := by
    rw [List.set_append_right _ _ (by omega), hlC]
    have : pre.length * 5 + 2 - pre.length * 5 = 2 := by omega
    rw [this]; rfl
  replace s1 : (w'.setCell ⟨g, pre.length * 5 + 2, none⟩ vt').ownsRow 0 32 5 (.slice (some ⟨g, 0, none⟩) (pre.length + 1) cap) (pre.length + 1) (Cs.flatten ++ [.int .i64 1, nm, vt', at', kd]) := by
    rw [← hset]; exact s1
  have hfs : Frm w (w'.setCell ⟨g, pre.length * 5 + 2, none⟩ vt') (FB vt ++ [g]) := (hf.mono (fun q hq => List.mem_append_left _ hq)).trans ((Frm.set w' g _ vt').mono (fun q hq => List.mem_append_right _ hq))
  have hdj : ∀ q, q ∈ Fs.flatten ∨ q ∈ FB nm ∨ q ∈ Fc ∨ q ∈ Fd → q ∉ FB vt ++ [g] := by
    intro q hq hm
    obtain ⟨n1, n2⟩ := List.nodup_cons.1 hND
    obtain ⟨n3, n4, n5⟩ := List.nodup_append.1 n2
    obtain ⟨n6, n7, n8⟩ := List.nodup_append.1 n4
    obtain ⟨n9, n10, n11⟩ := List.nodup_append.1 n6
    obtain ⟨n12, n13, n14⟩ := List.nodup_append.1 n9
    rcases List.mem_append.1 hm with hm | hm
    · rcases hq with hq | hq | hq | hq
      · exact n5 q hq q (by simp only [List.mem_append]; exact .inl (.inl (.inr hm))) rfl
      · exact n14 q hq q hm rfl
      · exact n11 q (by simp only [List.mem_append]; exact .inr hm) q hq rfl
      · exact n8 q (by simp only [List.mem_append]; exact .inl (.inr hm)) q hq rfl
    · have e : q = g := by simpa using hm
      rw [e] at hq
      refine n1 ?_
      simp only [List.mem_append]
      rcases hq with hq | hq | hq | hq
      · exact .inl hq
      · exact .inr (.inl (.inl (.inl hq)))
      · exact .inr (.inl (.inr hq))
      · exact .inr (.inr hq)
  have hvg : ∀ q ∈ FB vt', q ≠ g := fun q hq e => by
    rcases hat q hq with h | h
    · exact hgv (e ▸ h)
    · have := hlt g hgF; omega
  have hnode : OwNode (n + 1) (w'.setCell ⟨g, pre.length * 5 + 2, none⟩ vt') [.int .i64 1, nm, vt', at', kd] (txtN n lt') (FB nm ++ FB vt' ++ Fc ++ Fd) :=
    ⟨nm, vt', at', kd, Fc, Fd, rfl, by show (-9223372036854775808 : Int) ≤ 1; omega, by show (1 : Int) ≤ 9223372036854775807; omega, o1.frm hfs (fun q hq => hdj q (.inr (.inl hq))), hov.frm (Frm.set w' g _ vt') (fun q hq hq' => hvg q hq (by simpa using hq')), o3.frm hfs (fun q hq => hdj q (.inr (.inr (.inl hq)))), OwElems.frm o4 hfs (fun q hq => hdj q (.inr (.inr (.inr hq)))) (fun C x G h hG => OwNode.frm h hfs hG), rfl⟩
  have hres := ow_snocF (R := OwNode (n + 1)) (fun h f d => OwNode.frm h f d) (l := pre.map (unMb n)) (by rw [List.length_map]; exact e1) (by rw [List.length_map]; exact e2) (by simpa using e3) rfl hnode (by rw [List.length_map]) s1 hfs (fun q hq => hdj q (.inl hq))
  refine ⟨_, ⟨by rw [List.map_append]; exact hres, ?_, ?_⟩, ?_, ?_, hc', hrow'.frozenAt _⟩
  · obtain ⟨n1, n2⟩ := List.nodup_cons.1 hND
    obtain ⟨n3, n4, n5⟩ := List.nodup_append.1 n2
    obtain ⟨n6, n7, n8⟩ := List.nodup_append.1 n4
    obtain ⟨n9, n10, n11⟩ := List.nodup_append.1 n6
    obtain ⟨n12, n13, n14⟩ := List.nodup_append.1 n9
    have hnew : ∀ q ∈ FB vt', ∀ X : List Nat, (∀ p ∈ X, p ∈ F) → (∀ p ∈ X, p ∉ FB vt) → q ∉ X := fun q hq X hX hX' hm => by
      rcases hat q hq with h | h
      · exact hX' q hm h
      · have := hlt q (hX q hm); omega
    have hsub : ∀ p, p ∈ Fs.flatten ∨ p ∈ FB nm ∨ p ∈ Fc ∨ p ∈ Fd → p ∈ F ∧ p ∉ FB vt := fun p hp => ⟨by
      rw [e5]; simp only [List.mem_append]
      rcases hp with hp | hp | hp | hp
      · exact .inr (.inl hp)
      · exact .inr (.inr (.inl (.inl (.inl hp))))
      · exact .inr (.inr (.inl (.inr hp)))
      · exact .inr (.inr (.inr hp)), fun hm => hdj p hp (List.mem_append_left _ hm)⟩
    refine List.nodup_cons.2 ⟨fun hm => ?_, List.nodup_append.2 ⟨n3, List.nodup_append.2 ⟨List.nodup_append.2 ⟨List.nodup_append.2 ⟨n12, FB_nodup _, ?_⟩, n10, ?_⟩, n7, ?_⟩, ?_⟩⟩
    · simp only [List.mem_append] at hm
      rcases hm with hm | ((hm | hm) | hm) | hm
      · exact hdj g (.inl hm) (by simp)
      · exact hdj g (.inr (.inl hm)) (by simp)
      · exact hvg g hm rfl
      · exact hdj g (.inr (.inr (.inl hm))) (by simp)
      · exact hdj g (.inr (.inr (.inr hm))) (by simp)
    · intro a ha b hb e
      exact hnew b hb (FB nm) (fun p hp => (hsub p (.inr (.inl hp))).1) (fun p hp => (hsub p (.inr (.inl hp))).2) (e ▸ ha)
    · intro a ha b hb e
      rcases List.mem_append.1 ha with ha | ha
      · exact n11 a (List.mem_append_left _ ha) b hb e
      · exact hnew a ha Fc (fun p hp => (hsub p (.inr (.inr (.inl hp)))).1) (fun p hp => (hsub p (.inr (.inr (.inl hp)))).2) (e ▸ hb)
    · intro a ha b hb e
      simp only [List.mem_append] at ha
      rcases ha with (ha | ha) | ha
      · exact n8 a (by simp only [List.mem_append]; exact .inl (.inl ha)) b hb e
      · exact hnew a ha Fd (fun p hp => (hsub p (.inr (.inr (.inr hp)))).1) (fun p hp => (hsub p (.inr (.inr (.inr hp)))).2) (e ▸ hb)
      · exact n8 a (by simp only [List.mem_append]; exact .inr ha) b hb e
    · intro a ha b hb e
      simp only [List.mem_append] at hb
      rcases hb with ((hb | hb) | hb) | hb
      · exact n5 a ha b (by simp only [List.mem_append]; exact .inl (.inl (.inl hb))) e
      · exact hnew b hb Fs.flatten (fun p hp => (hsub p (.inl hp)).1) (fun p hp => (hsub p (.inl hp)).2) (e ▸ ha)
      · exact n5 a ha b (by simp only [List.mem_append]; exact .inl (.inr hb)) e
      · exact n5 a ha b (by simp only [List.mem_append]; exact .inr hb) e
  · intro k hk
    rcases List.mem_append.1 hk with hk | hk
    · exact h3 k (List.mem_append_left _ hk)
    · simp at hk
  · intro q hq
    refine ⟨?_, ?_⟩
    · simp only [List.mem_cons, List.mem_append] at hq
      rw [e5]; simp only [List.mem_append]
      rcases hq with hq | hq | ((hq | hq) | hq) | hq
      · left; left; rw [hq]; simp [FB, Value.ownBlock]
      · exact .inl (.inr (.inl hq))
      · exact .inl (.inr (.inr (.inl (.inl (.inl hq)))))
      · rcases hat q hq with h | h
        · exact .inl (.inr (.inr (.inl (.inl (.inr h)))))
        · exact .inr h
      · exact .inl (.inr (.inr (.inl (.inr hq))))
      · exact .inl (.inr (.inr (.inr hq)))
    · exact OwElems.lt hres (fun C x G h => OwNode.lt h) q hq
  · exact hfs.mono (fun q hq => by
      rcases List.mem_append.1 hq with hq | hq
      · exact hvF q hq
      · have e : q = g := by simpa using hq
        rw [e]; exact hgF)
end Go.Proofs.Yteioihjgjbjmjaa
