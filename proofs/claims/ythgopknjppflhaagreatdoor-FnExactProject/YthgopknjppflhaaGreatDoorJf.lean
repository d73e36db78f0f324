/- Own texts joined: CopyI, CopyL, L5rd, L5rk, KlS, L5ah, L5kd, StepC. -/
import Derived.Test.YthgopknjppflhaaGreatDoorJa
import Derived.Test.YthgopknjppflhaaGreatDoorJb
import Derived.Test.YthgopknjppflhaaGreatDoorJc
import Derived.Test.YthgopknjppflhaaGreatDoorJd
import Derived.Test.YthgopknjppflhaaGreatDoorJe
import Derived.Deep.RegionLaw
import Derived.Deep.RegionHeld3
import Derived.Test.YthgopknjppflhaaGreatDoorChecked
import Derived.Deep.QuietTactic
import Derived.BigQuiet
import Derived.Shelf.Abstract

/- impl.copyAttrs copies attributes into memory of its own. -/
namespace Go.Proofs.YthgopknjppflhaaGreatDoor
open Go.RowKit
set_option linter.unusedVariables false
set_option maxRecDepth 100000

theorem two_new (w : World) (x y : Value) (T : TypeId) : ∀ (j : Nat) (u : Value), [x, y][j]? = some u → (w.alloc (.cells #[x, y] T)).cell? ((⟨w.heap.size, 0, none⟩ : Addr).add j) = some u := by
  intro j u hu
  exact World.news_of_block (heap_alloc_new w (.cells #[x, y] T)) j u (by simpa using hu)
theorem fb_apart {w w' : World} {b b' : Nat} {u v : Value} {l m : List Int} (h : Own w b u l) (k : Own w' b' v m) (hs : w.heap.size ≤ b') : (FB u ++ FB v).Nodup ∧ ∀ q ∈ FB u ++ FB v, q < w'.heap.size ∨ q < w.heap.size := by
  refine ⟨List.nodup_append.2 ⟨?_, ?_, ?_⟩, ?_⟩
  · unfold FB; cases u.ownBlock <;> simp
  · unfold FB; cases v.ownBlock <;> simp
  · intro a ha c hc e
    have h1 := (h.lt a (by simpa [FB] using ha)).2
    have h2 := (k.lt c (by simpa [FB] using hc)).1
    omega
  · intro q hq
    rcases List.mem_append.1 hq with hq | hq
    · exact .inr (h.lt q (by simpa [FB] using hq)).2
    · exact .inl (k.lt q (by simpa [FB] using hq)).2

/-- Two new copies, ready to go behind a row of attributes. -/
theorem push_two {w0n : Nat} {wr w2 w3 : World} {b2 : Nat} {v v2 v3 : Value} {l : List (List Int × List Int)} {x1 x2 : List Int} {F : List Nat} (hE : Below wr.heap.size wr w3) (h2 : Own w2 b2 v2 x1) (hB3 : Below w2.heap.size w2 w3) (h3 : Own w3 w2.heap.size v3 x2) (hs : wr.heap.size < w2.heap.size)
    (hF : OwElems wr 85 2 v l (OwAttr wr) F) (hR : Rng F w0n wr.heap.size) (hb2 : wr.heap.size < b2) {A : Array Value} {T : TypeId} :
    OwElems (w3.alloc (.cells A T)) 85 2 v l (OwAttr (w3.alloc (.cells A T))) F ∧ OwAttr (w3.alloc (.cells A T)) [v2, v3] (x1, x2) (FB v2 ++ FB v3) ∧ (FB v2 ++ FB v3).Nodup ∧ (∀ g ∈ F, g ∉ FB v2 ++ FB v3) ∧ (∀ q, q ∈ F ∨ q ∈ FB v2 ++ FB v3 → q < (w3.alloc (.cells A T)).heap.size) ∧ (wr.heap.size ∉ FB v) ∧ (∀ q ∈ FB v, q ∈ F) ∧ (∀ q ∈ FB v2 ++ FB v3, wr.heap.size < q) := by
  have hE4 : Below wr.heap.size wr (w3.alloc (.cells A T)) := bstep hE ((Below.refl _ _).alloc (Nat.le_refl _) _)
  have h24 : Own (w3.alloc (.cells A T)) b2 v2 x1 := (h2.keep hB3).alloc _
  have h34 : Own (w3.alloc (.cells A T)) w2.heap.size v3 x2 := h3.alloc _
  have hFl : ∀ g ∈ F, g < wr.heap.size := fun g hg => (hR g hg).2
  obtain ⟨nd, _⟩ := fb_apart h2 h3 (Nat.le_refl _)
  have hge : ∀ q ∈ FB v2 ++ FB v3, wr.heap.size < q ∧ q < (w3.alloc (.cells A T)).heap.size := by
    intro q hq
    rcases List.mem_append.1 hq with hq | hq
    · have := h24.lt q (by simpa [FB] using hq); omega
    · have := h34.lt q (by simpa [FB] using hq); have := (h2.lt); have h5 := hs; exact ⟨by have := h24.lt; omega, by omega⟩
  refine ⟨OwAttrs.frm hF (Frm.ofBelow hE4 []) (fun _ _ => by simp), ⟨v2, v3, rfl, h24.mono (Nat.zero_le _), h34.mono (Nat.zero_le _), rfl⟩, nd, fun g hg hg' => by have := hFl g hg; have := (hge g hg').1; omega, fun q hq => ?_, fun hq => ?_, fun q hq => ?_, fun q hq => (hge q hq).1⟩
  · rcases hq with hq | hq
    · have := hFl q hq; have := hE4.size; omega
    · exact (hge q hq).2
  · obtain ⟨_, _, _, _, _, h5, rfl⟩ := hF
    have := hFl _ (List.mem_append_left _ hq)
    omega
  · obtain ⟨_, _, _, _, _, h5, rfl⟩ := hF
    exact List.mem_append_left _ hq

set_option maxHeartbeats 6400000 in
theorem copyAttrs_any (w : World) (v : Value) (l : List (List Int × List Int)) (h : RdAttrs w v l) (hl : l.length ≤ 4194304) (hx : ∀ x ∈ l, x.1.length ≤ 4194304 ∧ x.2.length ≤ 4194304) :
    Calls Tryz.prog 77 #[v] w fun e w' => ∃ u, e = .returned u ∧ ∃ F, OwAttrs w' u l F ∧ F.Nodup ∧ Rng F w.heap.size w'.heap.size ∧ Below w.heap.size w w' := by
  obtain ⟨ad, cd, rfl, _, _⟩ := Elems.shape h
  obtain ⟨i0, hi, hz0, hz1, hz2⟩ := info_parts Tryz.info85
  have hm : (l.length : Int) ≤ 9223372036854775807 := by omega
  go_enter Tryz.func77, Tryz.ntmps77
  go_wp2_with fail
  go_loopw [3, 8] (fun b i wr => ∃ j : Nat, j ≤ l.length ∧ i = .int .i64 j ∧ ∃ F, OwAttrs wr b (l.take j) F ∧ F.Nodup ∧ Rng F w.heap.size wr.heap.size ∧ Below w.heap.size w wr) (fun _ i _ => l.length - (intOf i).toNat)
  case atStart => exact ⟨0, Nat.zero_le _, rfl, [], ⟨[], [], by simp, by simp, fun i hi => by simp at hi, World.ownsRow_nil _ _ _ _, rfl⟩, List.nodup_nil, fun g hg => by simp at hg, Below.refl _ _⟩
  case round =>
    obtain ⟨j, hj, rfl, F, hF, hN, hRg, hB⟩ := hrel
    by_cases hjl : j < l.length
    · have hst : l.take (j + 1) = l.take j ++ [l[j]] := List.take_succ_eq_append_getElem hjl
      obtain ⟨pb, poff, rfl, hpl, hun, _, C, hC, hcell, hra⟩ := h.at hjl
      clear hun
      have hxl := hx l[j] (List.getElem_mem hjl)
      obtain ⟨x, hxx⟩ : ∃ x, x = l[j] := ⟨_, rfl⟩
      rw [← hxx] at hra hst hxl
      obtain ⟨y0, y1, rfl, hy0, hy1⟩ := hra
      have q0 := hcell 0 (by omega)
      have q1 := hcell 1 (by omega)
      simp only [List.getElem?_cons_zero, List.getElem?_cons_succ, Nat.add_zero] at q0 q1
      obtain ⟨s0, g0, rfl, _, _⟩ := hy0.shape
      obtain ⟨s1, g1, rfl, _, _⟩ := hy1.shape
      have u0 : wr.cell? ⟨pb, poff + j * 2, none⟩ = some (.slice s0 x.1.length g0) := (hB.cell (p := ⟨pb, poff + j * 2, none⟩) hpl).trans q0
      have u1 : wr.cell? ⟨pb, poff + j * 2 + 1, none⟩ = some (.slice s1 x.2.length g1) := (hB.cell (p := ⟨pb, poff + j * 2 + 1, none⟩) hpl).trans q1
      have hjl' : (j : Int) < (l.length : Int) := by omega
      have hB1 : Below wr.heap.size wr (wr.alloc (.cells #[.slice s0 x.1.length g0, .slice s1 x.2.length g1] 85)) := (Below.refl _ _).alloc (Nat.le_refl _) _
      have a1 := Loc.made wr #[.slice s0 x.1.length g0, .slice s1 x.2.length g1] 85
      have HF := hide (show OwElems wr 85 2 _ (l.take j) (OwAttr wr) F from hF)
      have hlj : (l.take j).length = j := by rw [List.length_take]; omega
      have HST := hide hst
      clear hF hst hxx hcell
      go_wp2_with fail
      generalize (wr.alloc (.cells #[.slice s0 x.1.length g0, .slice s1 x.2.length g1] 85)) = w1 at *
      have hW1 := bstep hB hB1
      have H1 := hide (clone_any w1.drew (.slice s0 x.1.length g0) x.1 (hy0.keep (hW1.drew)) (by omega))
      have ad0 := a1.all ((Below.refl w1.heap.size w1).drew)
      have z0 : w1.drew.cell? ⟨wr.heap.size, 0, none⟩ = some (.slice s0 x.1.length g0) := ad0.cell 0
      have z1 : w1.drew.cell? ⟨wr.heap.size, 1, none⟩ = some (.slice s1 x.2.length g1) := ad0.cell 1
      have b0 : w1.cell? ⟨wr.heap.size, 0, none⟩ = some (.slice s0 x.1.length g0) := a1.cell 0
      have b1 : w1.cell? ⟨wr.heap.size, 1, none⟩ = some (.slice s1 x.2.length g1) := a1.cell 1
      have HR := hide hRg
      have HNd := hide hN
      clear hRg hN u0 u1
      go_region_held3 (fun w' => w'.cell? ⟨wr.heap.size, 0, none⟩ = some (.slice s0 x.1.length g0) ∧ w'.cell? ⟨wr.heap.size, 1, none⟩ = some (.slice s1 x.2.length g1))
        (first | exact ⟨by assumption, by assumption⟩ | simp [*])
        (first
          | (go_at_call 76; refine (unhide H1).mono ?_; clear H1; rintro e w2 ⟨v2, rfl, ho2, hB2⟩; have a2 := ad0.all hB2; have z0 : w2.cell? ⟨wr.heap.size, 0, none⟩ = some (.slice s0 x.1.length g0) := a2.cell 0; have z1 : w2.cell? ⟨wr.heap.size, 1, none⟩ = some (.slice s1 x.2.length g1) := a2.cell 1; have hW2 := bstep hW1.drew hB2; have hE2 : Below wr.heap.size wr w2 := bstep hB1.drew hB2; obtain ⟨p2, k2, hv2, _, _⟩ := ho2.byt.shape; subst hv2)
          | (go_at_call 76; refine (clone_any w2 (.slice s1 x.2.length g1) x.2 (hy1.keep hW2) (by omega)).mono ?_; rintro e w3 ⟨v3, rfl, ho3, hB3⟩; have a3 := a2.all hB3; have z0 : w3.cell? ⟨wr.heap.size, 0, none⟩ = some (.slice s0 x.1.length g0) := a3.cell 0; have z1 : w3.cell? ⟨wr.heap.size, 1, none⟩ = some (.slice s1 x.2.length g1) := a3.cell 1; have hW3 := bstep hW2 hB3; have hE3 : Below wr.heap.size wr w3 := bstep hE2 hB3; obtain ⟨p3, k3, hv3, _, _⟩ := ho3.byt.shape; subst hv3; have z0' : (w3.alloc (.cells #[.slice p2 x.1.length k2, .slice p3 x.2.length k3] 85)).cell? ⟨wr.heap.size, 0, none⟩ = some (.slice s0 x.1.length g0) := (a3.alloc _).cell 0; have z1' : (w3.alloc (.cells #[.slice p2 x.1.length k2, .slice p3 x.2.length k3] 85)).cell? ⟨wr.heap.size, 1, none⟩ = some (.slice s1 x.2.length g1) := (a3.alloc _).cell 1; have HY := hide (push_two (A := #[.slice p2 x.1.length k2, .slice p3 x.2.length k3]) (T := 85) hE3 ho2 hB3 ho3 (Nat.lt_of_lt_of_le a1.lt hB2.size) (unhide HF) (unhide HR) a1.lt))
          | (refine step_push (R := OwAttr) (fun h f d => OwAttr.frm h f d) rfl (.tmp 12) (.tmp 20) 27 rfl 85 i0 (.agg #[.slice none 0 0, .slice none 0 0]) 2 48 Tryz.underlying27 hi hz0 hz1 hz2 rfl (by decide) _ (l.take j) F (by rfl) (unhide HY).1 (unhide HNd) ⟨w3.heap.size, 0, none⟩ 1 [.slice p2 x.1.length k2, .slice p3 x.2.length k3] x (FB (.slice p2 x.1.length k2) ++ FB (.slice p3 x.2.length k3)) (by rfl) rfl (two_new w3 _ _ _) (by intro y hy; simp at hy; rcases hy with rfl | rfl <;> rfl) (unhide HY).2.1 (unhide HY).2.2.1 (unhide HY).2.2.2.1 (unhide HY).2.2.2.2.1 (by rw [hlj]; unfold maxLen; omega) (by rw [hlj]; omega) ?_; intro g9 cap9 w9 F9 hF9 hN9 hM9 hf9 hg9; have a9 := (a3.alloc (.cells #[.slice p2 x.1.length k2, .slice p3 x.2.length k3] 85)).frm hf9 ((unhide HY).2.2.2.2.2.1); have z0 : w9.cell? ⟨wr.heap.size, 0, none⟩ = some (.slice s0 x.1.length g0) := a9.cell 0; have z1 : w9.cell? ⟨wr.heap.size, 1, none⟩ = some (.slice s1 x.2.length g1) := a9.cell 1))
      have hW4 : Below w.heap.size w (w3.alloc (.cells #[.slice p2 x.1.length k2, .slice p3 x.2.length k3] 85)) := bstep hW3 ((Below.refl _ _).alloc (Nat.le_refl _) _)
      have hW9 : Below w.heap.size w w9 := hW4.trans (hf9.below hW4.size (fun q hq => (unhide HR q ((unhide HY).2.2.2.2.2.2.1 q hq)).1))
      have HO9 := hide (show OwAttrs w9 (.slice (some ⟨g9, 0, none⟩) (j + 1) cap9) (l.take (j + 1)) F9 by
        rw [unhide HST]
        rw [hlj] at hF9
        exact hF9)
      have HR9 := hide (show Rng F9 w.heap.size w9.heap.size from fun q hq => ⟨by
        rcases hM9 q hq with k | k | k
        · exact (unhide HR q k).1
        · have := (unhide HY).2.2.2.2.2.2.2 q k; have := hB.size; omega
        · rw [k]; exact hW4.size, OwAttrs.lt (unhide HO9) q hq⟩)
      clear hF9 hM9
      go_wp2_with fail
      go_roundw
      case rel => exact ⟨j + 1, by omega, by go_num, F9, unhide HO9, hN9, unhide HR9, hW9⟩
      case measure => simp [intOf]; omega
    · have e : j = l.length := by omega
      subst e
      rw [List.take_length] at hF
      go_wp2_with fail
      go_ret
      exact ⟨_, rfl, F, hF, hN, hRg, hB⟩
end Go.Proofs.YthgopknjppflhaaGreatDoor

/- impl.copyLone: a node without its kids, in memory of its own. -/
namespace Go.Proofs.YthgopknjppflhaaGreatDoor
open Go.RowKit
set_option linter.unusedVariables false
set_option maxRecDepth 100000

def Cl1 (w1 : World) (bn pr : Nat) (T0 nmv txv atv : Value) (kd : Int) (ln lt : List Int) (la : List (List Int × List Int)) (L : Array Bool) (a : Act) (w : World) : Prop :=
  ∃ b0 b1 b2 b3 b4 b5 b6 b7 b8 b9 b10 b11 b12 x3 x4 x5 x6 x7 x8 x9 x10 x11 x12 x13 x14, L = #[b0, b1, b2, b3, b4, b5, b6, b7, b8, b9, b10, b11, b12] ∧ a = { tmps := #[T0, .pointer (some ⟨bn, 0, none⟩), .pointer (some ⟨pr, 0, none⟩), x3, x4, x5, x6, x7, x8, x9, x10, x11, x12, x13, x14], defers := [] } ∧ Frm w1 w [pr] ∧ Loc w pr (if b12 = true then #[.int .i64 kd, x7, x10, x13, .slice none 0 0] else #[.int .i64 0, .slice none 0 0, .slice none 0 0, .slice none 0 0, .slice none 0 0]) 30 ∧ (b0 = true → x3 = .pointer (some ⟨bn, 0, none⟩)) ∧ (b1 = true → x4 = .int .i64 kd) ∧ (b2 = true → x5 = .pointer (some ⟨bn, 1, none⟩)) ∧ (b3 = true → x6 = nmv) ∧ (b4 = true → Own w w1.heap.size x7 ln) ∧ (b5 = true → x8 = .pointer (some ⟨bn, 2, none⟩)) ∧ (b6 = true → x9 = txv) ∧ (b7 = true → b4 = true ∧ Own w w1.heap.size x10 lt ∧ ∀ q ∈ FB x10, q ∉ FB x7) ∧ (b8 = true → x11 = .pointer (some ⟨bn, 3, none⟩)) ∧ (b9 = true → x12 = atv) ∧ (b10 = true → b7 = true ∧ ∃ Fa, OwAttrs w x13 la Fa ∧ Fa.Nodup ∧ Rng Fa w1.heap.size w.heap.size ∧ ∀ q ∈ Fa, q ∉ FB x7 ∧ q ∉ FB x10) ∧ (b11 = true → b10 = true ∧ x14 = .agg #[.int .i64 kd, x7, x10, x13, .slice none 0 0]) ∧ (b12 = true → b11 = true)
theorem Cl1_cases {i : Nat} (h : i < 13) : i = 0 ∨ i = 1 ∨ i = 2 ∨ i = 3 ∨ i = 4 ∨ i = 5 ∨ i = 6 ∨ i = 7 ∨ i = 8 ∨ i = 9 ∨ i = 10 ∨ i = 11 ∨ i = 12 := by omega

set_option maxHeartbeats 6400000 in
theorem copyLone_any (n : Nat) (w0 : World) (a b c d e : Value) (t : Tr (n + 1)) (hrd : RdNode (n + 1) w0 [a, b, c, d, e] t) (hsz : szT (n + 1) t ≤ 2097152) :
    Calls Tryz.prog 56 #[.agg #[a, b, c, d, e]] w0 fun e w' => ∃ p2 k2 p3 k3 p4 k4, e = .returned (.agg #[.int .i64 t.kind, .slice p2 t.name.length k2, .slice p3 t.text.length k3, .slice p4 t.attrs.length k4, .slice none 0 0]) ∧
      ∃ Fa, Own w' 0 (.slice p2 t.name.length k2) t.name ∧ Own w' 0 (.slice p3 t.text.length k3) t.text ∧ OwAttrs w' (.slice p4 t.attrs.length k4) t.attrs Fa ∧ (FB (.slice p2 t.name.length k2) ++ FB (.slice p3 t.text.length k3) ++ Fa).Nodup ∧ Rng (FB (.slice p2 t.name.length k2) ++ FB (.slice p3 t.text.length k3) ++ Fa) (w0.heap.size + 2) w'.heap.size ∧ Below w0.heap.size w0 w' := by
  have hszT : szT (n + 1) t = t.name.length + t.text.length + szA t.attrs + (t.kids.length + (t.kids.map (szT n)).sum) := rfl
  obtain ⟨_, _, _, _, e0, k1, k2, hb, hc, hd, he⟩ := hrd
  simp only [List.cons.injEq, and_true] at e0
  obtain ⟨rfl, rfl, rfl, rfl, rfl⟩ := e0
  obtain ⟨ab, cb, rfl, _, _⟩ := hb.shape
  obtain ⟨ac, cc, rfl, _, _⟩ := hc.shape
  obtain ⟨ad, cd, rfl, _, _⟩ := Elems.shape hd
  obtain ⟨ae, ce, rfl, _, _⟩ := Elems.shape he
  obtain ⟨l0, l1, hB1⟩ := two w0 #[.int .i64 t.kind, .slice ab t.name.length cb, .slice ac t.text.length cc, .slice ad t.attrs.length cd, .slice ae t.kids.length ce] #[.int .i64 0, .slice none 0 0, .slice none 0 0, .slice none 0 0, .slice none 0 0] 30 30
  have hal : t.attrs.length ≤ 4194304 := by unfold szA at hszT; omega
  have hnl : t.name.length ≤ 4194304 := by omega
  have htl : t.text.length ≤ 4194304 := by omega
  have hax : ∀ x ∈ t.attrs, x.1.length ≤ 4194304 ∧ x.2.length ≤ 4194304 := fun x hx => by have := attr_le hx; omega
  clear hszT
  go_enter Tryz.func56, Tryz.ntmps56
  go_wp2_with fail
  generalize hW1 : (w0.alloc (.cells #[.int .i64 t.kind, .slice ab t.name.length cb, .slice ac t.text.length cc, .slice ad t.attrs.length cd, .slice ae t.kids.length ce] 30)).alloc (.cells #[.int .i64 0, .slice none 0 0, .slice none 0 0, .slice none 0 0, .slice none 0 0] 30) = w1 at *
  have hs1 : w0.heap.size + 2 ≤ w1.heap.size := by rw [← hW1]; simp
  clear hW1
  have HAX := hide hax
  clear hax
  have hbp : w0.heap.size ∉ [w0.heap.size + 1] := by simp
  have hBw : ∀ {w : World}, Frm w1 w [w0.heap.size + 1] → Below w0.heap.size w0 w := fun f => hB1.trans (f.below hB1.size (fun q hq => by simp at hq; omega))
  refine region_inv (by kernel_rfl) (Cl1 w1 w0.heap.size (w0.heap.size + 1) (.agg #[.int .i64 t.kind, .slice ab t.name.length cb, .slice ac t.text.length cc, .slice ad t.attrs.length cd, .slice ae t.kids.length ce]) (.slice ab t.name.length cb) (.slice ac t.text.length cc) (.slice ad t.attrs.length cd) t.kind t.name t.text t.attrs) ?sz ?h0 ?step ?dn
  case sz =>
      rintro L a w ⟨b0, b1, b2, b3, b4, b5, b6, b7, b8, b9, b10, b11, b12, x3, x4, x5, x6, x7, x8, x9, x10, x11, x12, x13, x14, rfl, _⟩
      rfl
  case h0 =>
      refine ⟨false, false, false, false, false, false, false, false, false, false, false, false, false, undef, undef, undef, undef, undef, undef, undef, undef, undef, undef, undef, undef, rfl, rfl, Frm.ofBelow ((Below.refl _ _).drew) _, l1.all ((Below.refl _ _).drew), ?_⟩
      simp
  case step =>
      intro L a w i o hI hi ho
      obtain ⟨b0, b1, b2, b3, b4, b5, b6, b7, b8, b9, b10, b11, b12, x3, x4, x5, x6, x7, x8, x9, x10, x11, x12, x13, x14, rfl, rfl, h0, h1, f0, f1, f2, f3, f4, f5, f6, f7, f8, f9, f10, f11, f12⟩ := hI
      rcases Cl1_cases (ready_lt hi) with rfl | rfl | rfl | rfl | rfl | rfl | rfl | rfl | rfl | rfl | rfl | rfl | rfl
      · obtain rfl := Option.some.inj ho
        go_simp
        exact ⟨true, b1, b2, b3, b4, b5, b6, b7, b8, b9, b10, b11, b12, _, x4, x5, x6, x7, x8, x9, x10, x11, x12, x13, x14, rfl, rfl, h0, h1, (fun _ => rfl), f1, f2, f3, f4, f5, f6, f7, f8, f9, f10, f11, f12⟩
      · have g0 := ready_pred hi ho 0
        obtain rfl := Option.some.inj ho
        have e0 := f0 (g0 (by kernel_rfl))
        subst e0
        have c0 : w.cell? ⟨w0.heap.size, 0, none⟩ = some (.int .i64 t.kind) := (l0.frm h0 hbp).cell 0
        go_simp
        exact ⟨b0, true, b2, b3, b4, b5, b6, b7, b8, b9, b10, b11, b12, _, _, x5, x6, x7, x8, x9, x10, x11, x12, x13, x14, rfl, rfl, h0, h1, f0, (fun _ => rfl), f2, f3, f4, f5, f6, f7, f8, f9, f10, f11, f12⟩
      · obtain rfl := Option.some.inj ho
        go_simp
        exact ⟨b0, b1, true, b3, b4, b5, b6, b7, b8, b9, b10, b11, b12, x3, x4, _, x6, x7, x8, x9, x10, x11, x12, x13, x14, rfl, rfl, h0, h1, f0, f1, (fun _ => rfl), f3, f4, f5, f6, f7, f8, f9, f10, f11, f12⟩
      · have g2 := ready_pred hi ho 2
        obtain rfl := Option.some.inj ho
        have e2 := f2 (g2 (by kernel_rfl))
        subst e2
        have c0 : w.cell? ⟨w0.heap.size, 1, none⟩ = some (.slice ab t.name.length cb) := (l0.frm h0 hbp).cell 1
        go_simp
        exact ⟨b0, b1, b2, true, b4, b5, b6, b7, b8, b9, b10, b11, b12, x3, x4, _, _, x7, x8, x9, x10, x11, x12, x13, x14, rfl, rfl, h0, h1, f0, f1, f2, (fun _ => rfl), f4, f5, f6, f7, f8, f9, f10, f11, f12⟩
      · have g3 := ready_pred hi ho 3
        obtain rfl := Option.some.inj ho
        have e3 := f3 (g3 (by kernel_rfl))
        subst e3
        have hb4 : b4 = false := by simpa using ready_off rfl hi
        have hb12 : b12 = false := by
          cases b12 with
          | false => rfl
          | true => have := (f7 (f10 (f11 (f12 rfl)).1).1).1; rw [hb4] at this; cases this
        subst hb12
        go_simp
        refine (clone_any w _ t.name (hb.keep (hBw h0)) (by omega)).mono ?_
        rintro e w' ⟨v', rfl, ho', hb'⟩
        exact ⟨b0, b1, b2, b3, true, b5, b6, b7, b8, b9, b10, b11, false, x3, x4, x5, _, _, x8, x9, x10, x11, x12, x13, x14, rfl, rfl, h0.trans (Frm.ofBelow hb' _), h1.all hb', f0, f1, f2, f3, (fun _ => ho'.mono h0.size), f5, f6, (fun h => by rw [(f7 h).1] at hb4; cases hb4), f8, f9, (fun h => by have := (f7 (f10 h).1).1; rw [hb4] at this; cases this), (fun h => by have := (f7 (f10 (f11 h).1).1).1; rw [hb4] at this; cases this), f12⟩
      · obtain rfl := Option.some.inj ho
        go_simp
        exact ⟨b0, b1, b2, b3, b4, true, b6, b7, b8, b9, b10, b11, b12, x3, x4, x5, x6, x7, _, x9, x10, x11, x12, x13, x14, rfl, rfl, h0, h1, f0, f1, f2, f3, f4, (fun _ => rfl), f6, f7, f8, f9, f10, f11, f12⟩
      · have g5 := ready_pred hi ho 5
        obtain rfl := Option.some.inj ho
        have e5 := f5 (g5 (by kernel_rfl))
        subst e5
        have c0 : w.cell? ⟨w0.heap.size, 2, none⟩ = some (.slice ac t.text.length cc) := (l0.frm h0 hbp).cell 2
        go_simp
        exact ⟨b0, b1, b2, b3, b4, b5, true, b7, b8, b9, b10, b11, b12, x3, x4, x5, x6, x7, _, _, x10, x11, x12, x13, x14, rfl, rfl, h0, h1, f0, f1, f2, f3, f4, f5, (fun _ => rfl), f7, f8, f9, f10, f11, f12⟩
      · have g6 := ready_pred hi ho 6
        have g4 := ready_pred hi ho 4
        obtain rfl := Option.some.inj ho
        have e6 := f6 (g6 (by kernel_rfl))
        have e4 : b4 = true := g4 (by kernel_rfl)
        subst e6 e4
        have hb7 : b7 = false := by simpa using ready_off rfl hi
        have hb12 : b12 = false := by
          cases b12 with
          | false => rfl
          | true => have := (f10 (f11 (f12 rfl)).1).1; rw [hb7] at this; cases this
        subst hb12
        go_simp
        refine (clone_any w _ t.text (hc.keep (hBw h0)) (by omega)).mono ?_
        rintro e w' ⟨v', rfl, ho', hb'⟩
        exact ⟨b0, b1, b2, b3, true, b5, b6, true, b8, b9, b10, b11, false, x3, x4, x5, x6, x7, x8, _, _, x11, x12, x13, x14, rfl, rfl, h0.trans (Frm.ofBelow hb' _), h1.all hb', f0, f1, f2, f3, (fun h => (f4 h).keep hb'), f5, f6, (fun _ => ⟨rfl, ho'.mono h0.size, fun q hq hq' => by have := (ho'.lt q (by simpa [FB] using hq)).1; have := ((f4 rfl).lt q (by simpa [FB] using hq')).2; omega⟩), f8, f9, (fun h => by rw [(f10 h).1] at hb7; cases hb7), (fun h => by have := (f10 (f11 h).1).1; rw [hb7] at this; cases this), f12⟩
      · obtain rfl := Option.some.inj ho
        go_simp
        exact ⟨b0, b1, b2, b3, b4, b5, b6, b7, true, b9, b10, b11, b12, x3, x4, x5, x6, x7, x8, x9, x10, _, x12, x13, x14, rfl, rfl, h0, h1, f0, f1, f2, f3, f4, f5, f6, f7, (fun _ => rfl), f9, f10, f11, f12⟩
      · have g8 := ready_pred hi ho 8
        obtain rfl := Option.some.inj ho
        have e8 := f8 (g8 (by kernel_rfl))
        subst e8
        have c0 : w.cell? ⟨w0.heap.size, 3, none⟩ = some (.slice ad t.attrs.length cd) := (l0.frm h0 hbp).cell 3
        go_simp
        exact ⟨b0, b1, b2, b3, b4, b5, b6, b7, b8, true, b10, b11, b12, x3, x4, x5, x6, x7, x8, x9, x10, _, _, x13, x14, rfl, rfl, h0, h1, f0, f1, f2, f3, f4, f5, f6, f7, f8, (fun _ => rfl), f10, f11, f12⟩
      · have g9 := ready_pred hi ho 9
        have g7 := ready_pred hi ho 7
        obtain rfl := Option.some.inj ho
        have e9 := f9 (g9 (by kernel_rfl))
        have e7 : b7 = true := g7 (by kernel_rfl)
        have e4 := (f7 e7).1
        subst e9 e7 e4
        have hb10 : b10 = false := by simpa using ready_off rfl hi
        have hb12 : b12 = false := by
          cases b12 with
          | false => rfl
          | true => have := (f11 (f12 rfl)).1; rw [hb10] at this; cases this
        subst hb12
        go_simp
        refine (copyAttrs_any w _ t.attrs (RdAttrs.keep hd (hBw h0)) hal (unhide HAX)).mono ?_
        rintro e w' ⟨v', rfl, Fa, ho', nd', r', hb'⟩
        exact ⟨b0, b1, b2, b3, true, b5, b6, true, b8, b9, true, b11, false, x3, x4, x5, x6, x7, x8, x9, x10, x11, _, _, x14, rfl, rfl, h0.trans (Frm.ofBelow hb' _), h1.all hb', f0, f1, f2, f3, (fun h => (f4 h).keep hb'), f5, f6, (fun h => ⟨(f7 h).1, (f7 h).2.1.keep hb', (f7 h).2.2⟩), f8, f9, (fun _ => ⟨rfl, Fa, ho', nd', r'.mono h0.size (Nat.le_refl _), fun q hq => ⟨fun hq' => by have := (r' q hq).1; have := ((f4 rfl).lt q (by simpa [FB] using hq')).2; omega, fun hq' => by have := (r' q hq).1; have := ((f7 rfl).2.1.lt q (by simpa [FB] using hq')).2; omega⟩⟩), (fun h => by rw [(f11 h).1] at hb10; cases hb10), f12⟩
      · have g1 := ready_pred hi ho 1
        have g10 := ready_pred hi ho 10
        obtain rfl := Option.some.inj ho
        have e1 := f1 (g1 (by kernel_rfl))
        have e10 : b10 = true := g10 (by kernel_rfl)
        have e7 := (f10 e10).1
        have e4 := (f7 e7).1
        subst e1 e10 e7 e4
        obtain ⟨p2, k2', hv2, _, _⟩ := (f4 rfl).byt.shape
        obtain ⟨p3, k3', hv3, _, _⟩ := (f7 rfl).2.1.byt.shape
        obtain ⟨_, Fa, q1, q2, q3, q4⟩ := f10 rfl
        obtain ⟨p4, k4', hv4⟩ : ∃ p4 k4', x13 = .slice p4 t.attrs.length k4' := by
          obtain ⟨_, _, _, _, _, e4, _⟩ := q1
          exact own_nil_shape e4
        subst hv2 hv3 hv4
        go_simp
        exact ⟨b0, b1, b2, b3, true, b5, b6, true, b8, b9, true, true, b12, x3, _, x5, x6, _, x8, x9, _, x11, x12, _, _, rfl, rfl, h0, h1, f0, f1, f2, f3, f4, f5, f6, f7, f8, f9, f10, (fun _ => ⟨rfl, rfl⟩), (fun h => rfl)⟩
      · have g11 := ready_pred hi ho 11
        obtain rfl := Option.some.inj ho
        have e11 : b11 = true := g11 (by kernel_rfl)
        obtain ⟨e10, e14⟩ := f11 e11
        have e7 := (f10 e10).1
        have e4 := (f7 e7).1
        have hb12 : b12 = false := by simpa using ready_off rfl hi
        subst e4 e7 e10 e11 e14 hb12
        replace h1 : Loc w (w0.heap.size + 1) #[.int .i64 0, .slice none 0 0, .slice none 0 0, .slice none 0 0, .slice none 0 0] 30 := h1
        obtain ⟨p2, k2', hv2, _, _⟩ := (f4 rfl).byt.shape
        obtain ⟨p3, k3', hv3, _, _⟩ := (f7 rfl).2.1.byt.shape
        obtain ⟨_, Fa, r1, r2, r3, r4⟩ := f10 rfl
        obtain ⟨p4, k4', hv4⟩ : ∃ p4 k4', x13 = .slice p4 t.attrs.length k4' := by
          obtain ⟨_, _, _, _, _, e4, _⟩ := r1
          exact own_nil_shape e4
        subst hv2 hv3 hv4
        obtain ⟨y0, y1, y2, y3, y4⟩ := h1.five
        have u0 := h1.frozen 0
        have u1 := h1.frozen 1
        have u2 := h1.frozen 2
        have u3 := h1.frozen 3
        have u4 := h1.frozen 4
        obtain ⟨s1, s2⟩ := store5 h1 (.int .i64 t.kind) (.slice p2 t.name.length k2') (.slice p3 t.text.length k3') (.slice p4 t.attrs.length k4') (.slice none 0 0)
        have s3 := h0.trans s2
        have s4 := (f4 rfl).frm s2 (fun g hg hg' => by have := ((f4 rfl).lt g (by simpa [FB] using hg)).1; simp at hg'; omega)
        have s5 := (f7 rfl).2.1.frm s2 (fun g hg hg' => by have := ((f7 rfl).2.1.lt g (by simpa [FB] using hg)).1; simp at hg'; omega)
        have s6 := OwAttrs.frm r1 s2 (fun g hg hg' => by have := (r3 g hg).1; simp at hg'; omega)
        go_simp
        exact ⟨b0, b1, b2, b3, true, b5, b6, true, b8, b9, true, true, true, x3, x4, x5, x6, _, x8, x9, _, x11, x12, _, _, rfl, rfl, s3, s1, f0, f1, f2, f3, (fun _ => s4), f5, f6, (fun _ => ⟨rfl, s5, (f7 rfl).2.2⟩), f8, f9, (fun _ => ⟨rfl, Fa, s6, r2, r3.mono (Nat.le_refl _) s2.size, r4⟩), (fun _ => ⟨rfl, rfl⟩), (fun _ => rfl)⟩
  case dn =>
    intro L a w2 hI hre
    have hall := ready_all (L := L) (by obtain ⟨b0, b1, b2, b3, b4, b5, b6, b7, b8, b9, b10, b11, b12, x3, x4, x5, x6, x7, x8, x9, x10, x11, x12, x13, x14, rfl, _⟩ := hI; rfl) (by kernel_rfl) hre 13
    obtain ⟨b0, b1, b2, b3, b4, b5, b6, b7, b8, b9, b10, b11, b12, x3, x4, x5, x6, x7, x8, x9, x10, x11, x12, x13, x14, rfl, rfl, h0, h1, f0, f1, f2, f3, f4, f5, f6, f7, f8, f9, f10, f11, f12⟩ := hI
    have s12 : b12 = true := hall 12 (by omega) (by decide)
    have e11 := f12 s12
    obtain ⟨e10, e14⟩ := f11 e11
    have e7 := (f10 e10).1
    have e4 := (f7 e7).1
    subst s12 e11 e10 e7 e4
    replace h1 : Loc w2 (w0.heap.size + 1) #[.int .i64 t.kind, x7, x10, x13, .slice none 0 0] 30 := h1
    have r0 := f4 rfl
    obtain ⟨_, r1, r1d⟩ := f7 rfl
    obtain ⟨_, Fa, r2, r3, r4, r5⟩ := f10 rfl
    have hB2 := hBw h0
    clear hall f0 f1 f2 f3 f4 f5 f6 f7 f8 f9 f10 f11 f12 hre h0
    obtain ⟨p2, k2', hv2, _, _⟩ := r0.byt.shape
    obtain ⟨p3, k3', hv3, _, _⟩ := r1.byt.shape
    obtain ⟨p4, k4', hv4⟩ : ∃ p4 k4', x13 = .slice p4 t.attrs.length k4' := by
      obtain ⟨_, _, _, _, _, e4, _⟩ := r2
      exact own_nil_shape e4
    subst hv2 hv3 hv4
    obtain ⟨g0, g1, g2, g3, g4⟩ := h1.five
    have nd : (FB (.slice p2 t.name.length k2') ++ FB (.slice p3 t.text.length k3') ++ Fa).Nodup := by
      refine List.nodup_append.2 ⟨List.nodup_append.2 ⟨FB_nodup _, FB_nodup _, fun a ha b hb e => r1d b hb (e ▸ ha)⟩, r3, fun a ha b hb e => ?_⟩
      subst e
      rcases List.mem_append.1 ha with ha | ha
      · exact (r5 a hb).1 ha
      · exact (r5 a hb).2 ha
    have rg : Rng (FB (.slice p2 t.name.length k2') ++ FB (.slice p3 t.text.length k3') ++ Fa) (w0.heap.size + 2) w2.heap.size := ((r0.rng.mono hs1 (Nat.le_refl _)).app (r1.rng.mono hs1 (Nat.le_refl _))).app (r4.mono hs1 (Nat.le_refl _))
    have HF := hide (And.intro (r0.mono (base' := 0) (Nat.zero_le _)) (And.intro (r1.mono (base' := 0) (Nat.zero_le _)) (And.intro r2 (And.intro nd (And.intro rg hB2)))))
    clear r0 r1 r1d r2 r3 r4 r5 nd rg hB2
    go_wp2_with fail
    obtain ⟨q1, q2, q3, q4, q5, q6⟩ := unhide HF
    exact bodyPost_ret (v := .agg #[.int .i64 t.kind, .slice p2 t.name.length k2', .slice p3 t.text.length k3', .slice p4 t.attrs.length k4', .slice none 0 0]) (by simp [results, Tryz.results56, go_sem, g0, g1, g2, g3, g4]) rfl ⟨p2, k2', p3, k3', p4, k4', rfl, q1, q2, Fa, q3, by rw [← List.append_assoc]; exact q4, by rw [← List.append_assoc]; exact q5, q6⟩
end Go.Proofs.YthgopknjppflhaaGreatDoor

/- A state that is a caller's; spec.l5find over it. -/
namespace Go.Proofs.YthgopknjppflhaaGreatDoor
open Go.RowKit
set_option linter.unusedVariables false
set_option maxRecDepth 100000

def StR (w : World) (sb : Nat) (a : Option Addr) (c : Nat) (l : List PlV) (F : List Nat) : Prop := Loc w sb #[.slice a l.length c] 35 ∧ OwPlsM w (.slice a l.length c) l F
theorem StR.keep {w w' : World} {sb : Nat} {a : Option Addr} {c : Nat} {l : List PlV} {F : List Nat} (h : StR w sb a c l F) (hb : Below w.heap.size w w') : StR w' sb a c l F := ⟨h.1.all hb, OwPlsM.frm h.2 (Frm.ofBelow hb []) (fun _ _ => by simp)⟩
theorem StR.frm {w w' : World} {sb : Nat} {a : Option Addr} {c : Nat} {l : List PlV} {F S : List Nat} (h : StR w sb a c l F) (f : Frm w w' S) (hs : sb ∉ S) (hd : ∀ g ∈ F, g ∉ S) : StR w' sb a c l F := ⟨h.1.frm f hs, OwPlsM.frm h.2 f hd⟩
theorem StR.cells {w : World} {sb : Nat} {a : Option Addr} {c : Nat} {l : List PlV} {F : List Nat} (h : StR w sb a c l F) {j : Nat} {p : PlV} (hj : l[j]? = some p) :
    ∃ b k ck n cn t ct q cq, a = some ⟨b, 0, none⟩ ∧ b ∈ F ∧ w.cell? ⟨b, j * 9, none⟩ = some (.int .i64 p.idN) ∧ w.cell? ⟨b, j * 9 + 1, none⟩ = some (.int .i64 p.idR) ∧ w.cell? ⟨b, j * 9 + 2, none⟩ = some (.int .i64 p.parN) ∧ w.cell? ⟨b, j * 9 + 3, none⟩ = some (.int .i64 p.parR) ∧ w.cell? ⟨b, j * 9 + 4, none⟩ = some (.slice k p.key.length ck) ∧ w.cell? ⟨b, j * 9 + 5, none⟩ = some (.int .i64 p.kind) ∧ w.cell? ⟨b, j * 9 + 6, none⟩ = some (.slice n p.name.length cn) ∧ w.cell? ⟨b, j * 9 + 7, none⟩ = some (.slice t p.text.length ct) ∧ w.cell? ⟨b, j * 9 + 8, none⟩ = some (.slice q p.attrs.length cq) ∧
      Byt w (.slice n p.name.length cn) p.name ∧ RdAttrs w (.slice q p.attrs.length cq) p.attrs ∧ (∀ x, w.frozen? ⟨b, x, none⟩ = false) ∧ Ints w (.slice k p.key.length ck) p.key := by
  obtain ⟨h1, h2⟩ := h
  obtain ⟨hlt, rfl⟩ := List.getElem?_eq_some_iff.1 hj
  obtain ⟨Cs, Fs, l1, l2, hR, hrow, hF⟩ := h2
  obtain ⟨q1, q2⟩ := hR j hlt
  have hrow' := hrow
  rcases hrow.2 with ⟨_, e0⟩ | ⟨g, cap, cur, e0, hb, hg, hnc, hcm, hcs, htake⟩
  · omega
  injection e0 with x1 _ x3
  subst x1 x3
  have hcell := fun x (hx : x < 9) => own_cellAt hrow' (fun i hi => (hR i (by omega)).1) l1 j x hlt hx
  have hrd := q2.rd
  obtain ⟨k, n, t, q, e, r1, r2, r3, r4⟩ := hrd
  obtain ⟨ka, kc, rfl, _, _⟩ := r1.shape
  obtain ⟨na, nc, rfl, _, _⟩ := r2.shape
  obtain ⟨ta, tc, rfl, _, _⟩ := r3.shape
  obtain ⟨qa, qc, rfl, _, _⟩ := Elems.shape r4
  rw [e] at hcell
  exact ⟨g, ka, kc, na, nc, ta, tc, qa, qc, rfl, by rw [hF]; simp [FB, Value.ownBlock], hcell 0 (by decide), hcell 1 (by decide), hcell 2 (by decide), hcell 3 (by decide), hcell 4 (by decide), hcell 5 (by decide), hcell 6 (by decide), hcell 7 (by decide), hcell 8 (by decide), r2, r4, fun x => hrow'.frozenAt x, r1⟩
set_option maxHeartbeats 3200000 in
theorem l5findR_any (w : World) (sb : Nat) (a : Option Addr) (c : Nat) (l : List PlV) (F : List Nat) (i : IdV) (h : StR w sb a c l F) (hl : l.length ≤ 100000) :
    Calls Tryz.prog 43 #[.pointer (some ⟨sb, 0, none⟩), .agg #[.int .i64 i.1, .int .i64 i.2]] w fun e w' => e = .returned (.int .i64 (findI l i)) ∧ Below w.heap.size w w' := by
  obtain ⟨iN, iR⟩ := i
  have hA := (Below.refl w.heap.size w).alloc (Nat.le_refl _) (.cells #[.int .i64 iN, .int .i64 iR] 51)
  have lb := Loc.made w #[.int .i64 iN, .int .i64 iR] 51
  have h1 := h.keep hA
  have LL := hide (And.intro hA (And.intro lb h1))
  have hR : ∀ r, findI l (iN, iR) = r → Hid (findI l (iN, iR) = r) := fun r e => hide e
  clear hA lb h h1
  go_enter Tryz.func43, Tryz.ntmps43
  go_wp2_with fail
  obtain ⟨hA, lb, h1⟩ := unhide LL
  clear LL
  generalize (w.alloc (.cells #[.int .i64 iN, .int .i64 iR] 51)) = w1 at *
  go_loopw [5] (fun x wr => ∃ j : Nat, j ≤ l.length ∧ x = .int .i64 (j : Int) ∧ (∀ t p, t < j → l[t]? = some p → p.id ≠ (iN, iR)) ∧ Below w1.heap.size w1 wr) (fun x _ => l.length - (intOf x).toNat)
  case atStart => exact ⟨0, Nat.zero_le _, rfl, fun t p ht => by omega, Below.refl _ _⟩
  case round =>
    obtain ⟨j, hj, rfl, hno, hb⟩ := hrel
    have hr := h1.keep hb
    have y0 : wr.cell? ⟨sb, 0, none⟩ = some (.slice a l.length c) := hr.1.cell 0
    have lbr := lb.all hb
    have v0 : wr.cell? ⟨w.heap.size, 0, none⟩ = some (.int .i64 iN) := lbr.cell 0
    have v1 : wr.cell? ⟨w.heap.size, 1, none⟩ = some (.int .i64 iR) := lbr.cell 1
    have hj0 : (0 : Int) ≤ (j : Int) := by omega
    by_cases hlt : j < l.length
    · have hlt' : (j : Int) < (l.length : Int) := by omega
      obtain ⟨p, hp⟩ : ∃ p, l[j]? = some p := ⟨l[j], by simp [hlt]⟩
      obtain ⟨b, k, ck, n, cn, t, ct, x, cx, rfl, _, z0, z1, _⟩ := hr.cells hp
      clear lbr hr
      by_cases e1 : p.idN = iN
      · by_cases e2 : p.idR = iR
        · have hfi : findI l (iN, iR) = (j : Int) := by
            have : posP l (iN, iR) = some j := by
              obtain ⟨h', rfl⟩ := List.getElem?_eq_some_iff.1 hp
              exact posP_some.2 ⟨h', by simp [PlV.id, e1, e2], fun t ht => hno t _ ht (by simp [show t < l.length by omega])⟩
            simp [findI, this]
          have HE := hide (And.intro hfi (bstep hA hb))
          have d1 : (p.idN == iN) = true := by simpa using e1
          have d2 : (p.idR == iR) = true := by simpa using e2
          clear hfi hno e1 e2 hb hA h1 lb
          go_wp2_with fail
          go_quiet (fail)
          go_wp2_with fail
          go_ret
          exact ⟨by rw [(unhide HE).1]; rfl, below_drewN (unhide HE).2 _⟩
        · have d1 : (p.idN == iN) = true := by simpa using e1
          have d2 : (p.idR == iR) = false := by simpa using e2
          have HE := hide (show ∀ t p, t < j + 1 → l[t]? = some p → p.id ≠ (iN, iR) from fun t p' ht hp' => by
            by_cases et : t = j
            · subst et; rw [hp] at hp'; cases hp'; intro e; exact e2 (Prod.mk.inj e).2
            · exact hno t p' (by omega) hp')
          have HB := hide hb
          clear hno e1 e2 hb
          go_wp2_with fail
          go_quiet (fail)
          go_wp2_with fail
          go_roundw
          case rel => exact ⟨j + 1, by omega, by go_num, unhide HE, below_drewN (unhide HB) _⟩
          case measure => simp [intOf]; omega
      · have d1 : (p.idN == iN) = false := by simpa using e1
        have HE := hide (show ∀ t p, t < j + 1 → l[t]? = some p → p.id ≠ (iN, iR) from fun t p' ht hp' => by
          by_cases et : t = j
          · subst et; rw [hp] at hp'; cases hp'; intro e; exact e1 (Prod.mk.inj e).1
          · exact hno t p' (by omega) hp')
        have HB := hide hb
        clear hno e1 hb
        go_wp2_with fail
        go_quiet (fail)
        go_wp2_with fail
        go_roundw
        case rel => exact ⟨j + 1, by omega, by go_num, unhide HE, below_drewN (unhide HB) _⟩
        case measure => simp [intOf]; omega
    · have hlt' : ¬ (j : Int) < (l.length : Int) := by omega
      have hfi : findI l (iN, iR) = -1 := by
        have : posP l (iN, iR) = none := posP_none.2 (fun p hp => by
          obtain ⟨t, ht, rfl⟩ := List.getElem_of_mem hp
          exact hno t _ (by omega) (by simp [ht]))
        simp [findI, this]
      have HE := hide (And.intro hfi (bstep hA hb))
      clear hfi hno hb hA h1 lb hr lbr
      go_wp2_with fail
      go_ret
      exact ⟨by rw [(unhide HE).1]; rfl, (unhide HE).2⟩
end Go.Proofs.YthgopknjppflhaaGreatDoor

/- spec.l5takes, spec.l5under over a state that is a caller's. -/
namespace Go.Proofs.YthgopknjppflhaaGreatDoor
open Go.RowKit
set_option linter.unusedVariables false
set_option maxRecDepth 100000

set_option maxHeartbeats 3200000 in
theorem l5takesR_any (w : World) (sb : Nat) (a : Option Addr) (c : Nat) (l : List PlV) (F : List Nat) (i : IdV) (h : StR w sb a c l F) (hl : l.length ≤ 100000) (kI : Int) (hk : kI = findI l i) :
    Calls Tryz.prog 47 #[.pointer (some ⟨sb, 0, none⟩), .int .i64 kI] w fun e w' => e = .returned (.bool (takesV l i)) ∧ w' = w := by
  cases hp : posP l i with
  | none =>
    have e1 : kI = -1 := by rw [hk]; simp [findI, hp]
    have e2 : takesV l i = false := by simp [takesV, hp]
    subst e1
    rw [e2]
    clear hk e2 h
    go_enter Tryz.func47, Tryz.ntmps47
    go_wp2_with fail
    go_ret
    exact ⟨rfl, rfl⟩
  | some k =>
    obtain ⟨p, hkp, hid⟩ := posP_at hp
    obtain ⟨hlt, _, _⟩ := posP_some.1 hp
    have e1 : kI = (k : Int) := by rw [hk]; simp [findI, hp]
    have e2 : takesV l i = (elemP p && !voidB p.name) := by simp [takesV, hp, hkp]
    subst e1
    rw [e2]
    obtain ⟨b, kk, ck, n, cn, t, ct, x, cx, rfl, _, z0, z1, _, _, _, z5, z6, _, _, hby, _⟩ := h.cells hkp
    have y0 : w.cell? ⟨sb, 0, none⟩ = some (.slice (some ⟨b, 0, none⟩) l.length c) := h.1.cell 0
    have hlt' : (k : Int) < (l.length : Int) := by omega
    have hk0 : (0 : Int) ≤ (k : Int) := by omega
    have HV := hide (voidS_b w _ p.name hby)
    clear hk e2 h hby hid hp
    by_cases hz : p.kind = 0
    · have dz : (p.kind == 0) = true := by simpa using hz
      have ez : elemP p = true := by simp [elemP, hz]
      rw [ez]
      clear hz ez
      generalize voidB p.name = bv at *
      go_enter Tryz.func47, Tryz.ntmps47
      go_wp2_with fail
      refine (unhide HV).mono ?_
      rintro e w' ⟨rfl, rfl⟩
      cases bv with
      | true =>
        go_wp2_with fail
        go_ret
        exact ⟨rfl, rfl⟩
      | false =>
        go_wp2_with fail
        go_ret
        exact ⟨rfl, rfl⟩
    · have dz : (p.kind == 0) = false := by simpa using hz
      have ez : elemP p = false := by simp [elemP, hz]
      rw [ez]
      clear hz ez
      go_enter Tryz.func47, Tryz.ntmps47
      go_wp2_with fail
      go_ret
      exact ⟨rfl, rfl⟩
set_option maxHeartbeats 6400000 in
theorem l5underR_any (w : World) (sb : Nat) (a : Option Addr) (c : Nat) (l : List PlV) (F : List Nat) (i by_ : IdV) (h : StR w sb a c l F) (hl : l.length ≤ 100000) :
    Calls Tryz.prog 48 #[.pointer (some ⟨sb, 0, none⟩), .agg #[.int .i64 i.1, .int .i64 i.2], .agg #[.int .i64 by_.1, .int .i64 by_.2]] w fun e w' => e = .returned (.bool (underS l (l.length + 1) i by_)) ∧ Below w.heap.size w w' := by
  obtain ⟨iN, iR⟩ := i
  obtain ⟨bN, bR⟩ := by_
  have hA : Below w.heap.size w ((w.alloc (.cells #[.int .i64 iN, .int .i64 iR] 51)).alloc (.cells #[.int .i64 bN, .int .i64 bR] 51)) := bstep ((Below.refl _ _).alloc (Nat.le_refl _) _) ((Below.refl _ _).alloc (Nat.le_refl _) _)
  have l0 := (Loc.made w #[.int .i64 iN, .int .i64 iR] 51).all (((Below.refl _ _).alloc (Nat.le_refl _) (.cells #[.int .i64 bN, .int .i64 bR] 51)))
  have l1 := Loc.made (w.alloc (.cells #[.int .i64 iN, .int .i64 iR] 51)) #[.int .i64 bN, .int .i64 bR] 51
  simp only [World.size_alloc] at l1
  have LL := hide (And.intro hA (And.intro l0 l1))
  obtain ⟨R, hR⟩ : ∃ R, R = underS l (l.length + 1) (iN, iR) (bN, bR) := ⟨_, rfl⟩
  rw [← hR]
  have HR := hide hR
  clear hA l0 l1 hR
  go_enter Tryz.func48, Tryz.ntmps48
  go_wp2_with fail
  obtain ⟨hA, l0, l1⟩ := unhide LL
  clear LL
  generalize ((w.alloc (.cells #[.int .i64 iN, .int .i64 iR] 51)).alloc (.cells #[.int .i64 bN, .int .i64 bR] 51)) = w1 at *
  go_loopw [7] (fun x wr => ∃ (j : Nat) (cN cR : Int), j ≤ l.length + 1 ∧ x = .int .i64 (j : Int) ∧ R = underS l (l.length + 1 - j) (cN, cR) (bN, bR) ∧ Loc wr w.heap.size #[.int .i64 cN, .int .i64 cR] 51 ∧ Loc wr (w.heap.size + 1) #[.int .i64 bN, .int .i64 bR] 51 ∧ Below w.heap.size w wr) (fun x _ => l.length + 1 - (intOf x).toNat)
  case atStart => exact ⟨0, iN, iR, Nat.zero_le _, rfl, unhide HR, l0, l1, hA⟩
  case round =>
    clear l0 l1 hA HR
    obtain ⟨j, cN, cR, hj, rfl, hu, l0, l1, hb⟩ := hrel
    have hs := h.keep hb
    have y0 : wr.cell? ⟨sb, 0, none⟩ = some (.slice a l.length c) := hs.1.cell 0
    by_cases hlt : j ≤ l.length
    · have hlt' : (j : Int) ≤ (l.length : Int) := by omega
      have v0 : wr.cell? ⟨w.heap.size, 0, none⟩ = some (.int .i64 cN) := l0.cell 0
      have v1 : wr.cell? ⟨w.heap.size, 1, none⟩ = some (.int .i64 cR) := l0.cell 1
      have v2 : wr.cell? ⟨w.heap.size + 1, 0, none⟩ = some (.int .i64 bN) := l1.cell 0
      have v3 : wr.cell? ⟨w.heap.size + 1, 1, none⟩ = some (.int .i64 bR) := l1.cell 1
      obtain ⟨f, hf⟩ : ∃ f, l.length + 1 - j = f + 1 := ⟨l.length - j, by omega⟩
      rw [hf] at hu
      unfold underS at hu
      by_cases he : (cN, cR) = (bN, bR)
      · rw [if_pos he] at hu
        subst hu
        obtain ⟨e1, e2⟩ := Prod.mk.inj he
        have d1 : (cN == bN) = true := by simpa using e1
        have d2 : (cR == bR) = true := by simpa using e2
        have HB := hide hb
        clear he e1 e2 hb hs l0 l1 h
        go_wp2_with fail
        go_ret
        exact ⟨rfl, unhide HB⟩
      · rw [if_neg he] at hu
        have dd : ((cN == bN) && (cR == bR)) = false := by
          cases h1 : (cN == bN) with
          | false => rfl
          | true =>
            cases h2 : (cR == bR) with
            | false => rfl
            | true => exact absurd (by rw [beq_iff_eq.1 h1, beq_iff_eq.1 h2]) he
        have HF := hide (l5findR_any wr sb a c l F (cN, cR) hs hl)
        have HU := hide hu
        have HL := hide (And.intro hb (And.intro l0 l1))
        have hd12 : (cN == bN) = false ∨ ((cN == bN) = true ∧ (cR == bR) = false) := by
          cases h1 : (cN == bN) with
          | false => exact .inl rfl
          | true => rw [h1] at dd; exact .inr ⟨rfl, by simpa using dd⟩
        clear he hu hb hs l0 l1 dd
        rcases hd12 with d1 | ⟨d1, d2⟩
        all_goals
          go_wp2_with fail
          refine (unhide HF).mono ?_
          rintro e w5 ⟨rfl, hb5⟩
          obtain ⟨hb, l0, l1⟩ := unhide HL
          have hbw := bstep hb hb5
          have hs5 := h.keep hbw
          have l05 := l0.all hb5
          have l15 := l1.all hb5
          have hu := unhide HU
          clear HF HL HU hb l0 l1 hb5 y0 v0 v1 v2 v3
          cases hp : posP l (cN, cR) with
          | none =>
            have hfi : findI l (cN, cR) = -1 := by simp [findI, hp]
            rw [hp] at hu
            subst hu
            rw [hfi]
            have HB := hide hbw
            clear hfi hbw hs5 l05 l15 hp h
            go_wp2_with fail
            go_ret
            exact ⟨rfl, unhide HB⟩
          | some k =>
            obtain ⟨p, hkp, hid⟩ := posP_at hp
            obtain ⟨hkl, _, _⟩ := posP_some.1 hp
            have hfi : findI l (cN, cR) = (k : Int) := by simp [findI, hp]
            rw [hp] at hu
            simp only [hkp] at hu
            rw [hfi]
            by_cases hk2 : k < 2
            · rw [if_pos hk2] at hu
              subst hu
              have hk2' : (k : Int) < 2 := by omega
              have HB := hide hbw
              clear hfi hbw hs5 l05 l15 hp h hk2
              go_wp2_with fail
              go_ret
              exact ⟨rfl, unhide HB⟩
            · rw [if_neg hk2] at hu
              have hk2' : ¬ (k : Int) < 2 := by omega
              have hkl' : (k : Int) < (l.length : Int) := by omega
              have hk0 : (0 : Int) ≤ (k : Int) := by omega
              have y0 : w5.cell? ⟨sb, 0, none⟩ = some (.slice a l.length c) := hs5.1.cell 0
              obtain ⟨b, kk, ck, n, cn, t, ct, x, cx, rfl, _, _, _, z2, z3, _⟩ := hs5.cells hkp
              have v0 : w5.cell? ⟨w.heap.size, 0, none⟩ = some (.int .i64 cN) := l05.cell 0
              have v1 : w5.cell? ⟨w.heap.size, 1, none⟩ = some (.int .i64 cR) := l05.cell 1
              have g0 := l05.frozen 0
              have g1 := l05.frozen 1
              have l06 := (l05.set 0 (.int .i64 p.parN)).set 1 (.int .i64 p.parR)
              have l16 := (l15.other w.heap.size 0 (.int .i64 p.parN) (by omega)).other w.heap.size 1 (.int .i64 p.parR) (by omega)
              have hb6 : Below w.heap.size w ((w5.setCell ⟨w.heap.size, 0, none⟩ (.int .i64 p.parN)).setCell ⟨w.heap.size, 1, none⟩ (.int .i64 p.parR)) := bstepBy (bstepBy hbw (set_grownM _ _ _ _) (fun q hq => by cases hq; exact Nat.le_refl _)) (set_grownM _ _ _ _) (fun q hq => by cases hq; exact Nat.le_refl _)
              have hf' : l.length + 1 - (j + 1) = f := by omega
              have HE := hide (And.intro l06 (And.intro l16 hb6))
              have HU := hide (show R = underS l (l.length + 1 - (j + 1)) (p.parN, p.parR) (bN, bR) by rw [hf']; exact hu)
              clear hfi hbw hs5 l05 l15 l06 l16 hb6 hp hk2 hu hf'
              go_wp2_with fail
              go_roundw
              case rel => exact ⟨j + 1, p.parN, p.parR, by omega, by go_num, unhide HU, (unhide HE).1, (unhide HE).2.1, (unhide HE).2.2⟩
              case measure => simp [intOf]; omega
    · have hlt' : ¬ (j : Int) ≤ (l.length : Int) := by omega
      have e0 : l.length + 1 - j = 0 := by omega
      rw [e0] at hu
      unfold underS at hu
      subst hu
      have HB := hide hb
      clear hb hs l0 l1 h hlt
      go_wp2_with fail
      go_ret
      exact ⟨rfl, unhide HB⟩
end Go.Proofs.YthgopknjppflhaaGreatDoor

/- spec.KeyLess answers what the plain order says. -/
namespace Go.Proofs.YthgopknjppflhaaGreatDoor
open Go.RowKit
set_option linter.unusedVariables false

set_option maxHeartbeats 1600000 in
set_option maxRecDepth 1000000 in
theorem klS_any (w : World) (u v : Value) (a b : List Int) (hu : Ints w u a) (hv : Ints w v b) :
    Calls Tryz.prog 97 #[u, v] w fun e w' => e = .returned (.bool (klB a b)) ∧ Below w.heap.size w w' := by
  have hma := hu.2.1
  have hmb := hv.2.1
  unfold maxLen at hma hmb
  by_cases h0 : a = [] ∨ b = []
  · have HE := hide (klB_end h0)
    have h0' : a.length = 0 ∨ b.length = 0 := by rcases h0 with rfl | rfl <;> simp
    obtain ⟨a1, c1, rfl, _⟩ := hu.shape
    obtain ⟨a2, c2, rfl, _⟩ := hv.shape
    clear hu hv h0
    generalize a.length = n at *
    generalize b.length = m at *
    rcases h0' with rfl | rfl
    all_goals
      go_enter Tryz.func97, Tryz.ntmps97
      go_wp2
      refine wp_loop_rounds 1 ?_
      rw [rounds_succ]
      go_wp2
      all_goals
        go_ret
        exact ⟨by rw [unhide HE]; simp, Below.refl _ _⟩
  have ha0 : a ≠ [] := fun h => h0 (.inl h)
  have hb0 : b ≠ [] := fun h => h0 (.inr h)
  obtain ⟨hoka, _, ⟨rfl, rfl⟩ | ⟨x, cap, rfl, hc, rfl⟩ | ⟨p, off, cap, rfl, h1, h2, h3, h4, h5⟩⟩ := hu
  · exact absurd rfl ha0
  · exact absurd rfl ha0
  obtain ⟨hokb, _, ⟨rfl, rfl⟩ | ⟨x, cap, rfl, hc, rfl⟩ | ⟨q, off', cap', rfl, g1, g2, g3, g4, g5⟩⟩ := hv
  · exact absurd rfl hb0
  · exact absurd rfl hb0
  generalize hA : a.length = n at *
  generalize hC : b.length = m at *
  clear h0
  go_enter Tryz.func97, Tryz.ntmps97
  go_wp2
  go_loopw [5] (fun i wr => ∃ k : Nat, k ≤ n ∧ k ≤ m ∧ i = .int .i64 k ∧ Hid (klB a b = klB (a.drop k) (b.drop k)) ∧ Below w.heap.size w wr) (fun i _ => n - (intOf i).toNat)
  case atStart => exact ⟨0, Nat.zero_le _, Nat.zero_le _, rfl, hide rfl, Below.refl _ _⟩
  case round =>
    obtain ⟨k, hk, hk', rfl, ht, hB⟩ := hrel
    by_cases hlt : k < n ∧ k < m
    · obtain ⟨hka, hkb⟩ := hlt
      obtain ⟨x, hx⟩ : ∃ x, x = a.getD k 0 := ⟨_, rfl⟩
      obtain ⟨y, hy⟩ : ∃ y, y = b.getD k 0 := ⟨_, rfl⟩
      have c1 : wr.cell? ⟨p, off + k, none⟩ = some (.int .i64 x) := by rw [hx]; exact (hB.cell (p := ⟨p, off + k, none⟩) h4).trans (h5 k hka)
      have c2 : wr.cell? ⟨q, off' + k, none⟩ = some (.int .i64 y) := by rw [hy]; exact (hB.cell (p := ⟨q, off' + k, none⟩) g4).trans (g5 k hkb)
      have HX := hide hx
      have HY := hide hy
      have hlt' : (k : Int) < (n : Int) := by omega
      have hlt2 : (k : Int) < (m : Int) := by omega
      clear hx hy h5 g5
      by_cases hxy : x = y
      · have HT := hide ((unhide ht).trans (klB_same (by omega) (by omega) (by rw [← unhide HX, ← unhide HY]; exact hxy)))
        have hne : (x != y) = false := by simp [hxy]
        clear hxy
        go_wp2
        go_quiet (fail)
        go_wp2
        go_roundw
        case rel => exact ⟨k + 1, by omega, by omega, by go_num, HT, below_drewN hB _⟩
        case measure => simp [intOf]; omega
      · have HD := hide ((unhide ht).trans (klB_diff (by omega) (by omega) (by rw [← unhide HX, ← unhide HY]; exact hxy)))
        rw [← unhide HX, ← unhide HY] at HD
        have hne : (x != y) = true := by simp [hxy]
        clear hxy ht
        go_wp2
        go_quiet (fail)
        go_wp2
        go_quiet (fail)
        go_wp2
        go_ret
        exact ⟨by rw [unhide HD]; rfl, below_drewN (below_drewN hB _) _⟩
    · have HD := hide ((unhide ht).trans (klB_over (by omega) (by omega) (by omega)))
      rw [hA, hC] at HD
      clear h5 g5 ht
      rcases (show k = n ∨ (k < n ∧ k = m) by omega) with rfl | ⟨hlt', rfl⟩
      · go_wp2
        go_ret
        exact ⟨by rw [unhide HD]; simp, hB⟩
      · have hlt2 : (k : Int) < (n : Int) := by omega
        go_wp2
        go_ret
        exact ⟨by rw [unhide HD]; simp, hB⟩
end Go.Proofs.YthgopknjppflhaaGreatDoor

/- spec.l5ahead. -/
namespace Go.Proofs.YthgopknjppflhaaGreatDoor
open Go.RowKit
set_option linter.unusedVariables false
set_option maxRecDepth 100000

set_option maxHeartbeats 3200000 in
theorem l5ahead_any (w : World) (p q : PlV) (k1 n1 t1 a1 k2 n2 t2 a2 : Option Addr) (ck1 cn1 ct1 ca1 ck2 cn2 ct2 ca2 : Nat) (h1 : Ints w (.slice k1 p.key.length ck1) p.key) (h2 : Ints w (.slice k2 q.key.length ck2) q.key) :
    Calls Tryz.prog 86 #[.agg #[.int .i64 p.idN, .int .i64 p.idR, .int .i64 p.parN, .int .i64 p.parR, .slice k1 p.key.length ck1, .int .i64 p.kind, .slice n1 p.name.length cn1, .slice t1 p.text.length ct1, .slice a1 p.attrs.length ca1], .agg #[.int .i64 q.idN, .int .i64 q.idR, .int .i64 q.parN, .int .i64 q.parR, .slice k2 q.key.length ck2, .int .i64 q.kind, .slice n2 q.name.length cn2, .slice t2 q.text.length ct2, .slice a2 q.attrs.length ca2]] w fun e w' => e = .returned (.bool (aheadB p q)) ∧ Below w.heap.size w w' := by
  have hA : Below w.heap.size w ((w.alloc (.cells #[.int .i64 p.idN, .int .i64 p.idR, .int .i64 p.parN, .int .i64 p.parR, .slice k1 p.key.length ck1, .int .i64 p.kind, .slice n1 p.name.length cn1, .slice t1 p.text.length ct1, .slice a1 p.attrs.length ca1] 54)).alloc (.cells #[.int .i64 q.idN, .int .i64 q.idR, .int .i64 q.parN, .int .i64 q.parR, .slice k2 q.key.length ck2, .int .i64 q.kind, .slice n2 q.name.length cn2, .slice t2 q.text.length ct2, .slice a2 q.attrs.length ca2] 54)) := bstep ((Below.refl _ _).alloc (Nat.le_refl _) _) ((Below.refl _ _).alloc (Nat.le_refl _) _)
  have l0 := (Loc.made w #[.int .i64 p.idN, .int .i64 p.idR, .int .i64 p.parN, .int .i64 p.parR, .slice k1 p.key.length ck1, .int .i64 p.kind, .slice n1 p.name.length cn1, .slice t1 p.text.length ct1, .slice a1 p.attrs.length ca1] 54).alloc (.cells #[.int .i64 q.idN, .int .i64 q.idR, .int .i64 q.parN, .int .i64 q.parR, .slice k2 q.key.length ck2, .int .i64 q.kind, .slice n2 q.name.length cn2, .slice t2 q.text.length ct2, .slice a2 q.attrs.length ca2] 54)
  have l1 := Loc.made (w.alloc (.cells #[.int .i64 p.idN, .int .i64 p.idR, .int .i64 p.parN, .int .i64 p.parR, .slice k1 p.key.length ck1, .int .i64 p.kind, .slice n1 p.name.length cn1, .slice t1 p.text.length ct1, .slice a1 p.attrs.length ca1] 54)) #[.int .i64 q.idN, .int .i64 q.idR, .int .i64 q.parN, .int .i64 q.parR, .slice k2 q.key.length ck2, .int .i64 q.kind, .slice n2 q.name.length cn2, .slice t2 q.text.length ct2, .slice a2 q.attrs.length ca2] 54
  simp only [World.size_alloc] at l1
  have HK := hide (fun W (hW : Below w.heap.size w W) => klS_any W _ _ p.key q.key (h1.keep hW) (h2.keep hW))
  have HK2 := hide (fun W (hW : Below w.heap.size w W) => klS_any W _ _ q.key p.key (h2.keep hW) (h1.keep hW))
  have hv : aheadB p q = (klB p.key q.key || (!klB q.key p.key && lessB p.idN p.idR q.idN q.idR)) := rfl
  rw [hv]
  have x4 := l0.cell 4
  have y4 := l1.cell 4
  have LL := hide (And.intro hA (And.intro l0 l1))
  clear h1 h2 hA l0 l1 hv
  generalize klB p.key q.key = b1 at *
  generalize klB q.key p.key = b2 at *
  go_enter Tryz.func86, Tryz.ntmps86
  go_wp2_with fail
  obtain ⟨hA, l0, l1⟩ := unhide LL
  clear LL
  refine (unhide HK _ hA).mono ?_
  rintro e w1 ⟨rfl, hB⟩
  replace hA := bstep hA hB
  replace l0 := l0.all hB
  replace l1 := l1.all hB
  clear HK x4 y4 hB
  cases b1 with
  | true =>
    have HE := hide hA
    clear hA l0 l1
    go_wp2_with fail
    go_ret
    exact ⟨rfl, unhide HE⟩
  | false =>
    have x4 := l0.cell 4
    have y4 := l1.cell 4
    have LL := hide (And.intro hA (And.intro l0 l1))
    clear hA l0 l1
    go_wp2_with fail
    obtain ⟨hA, l0, l1⟩ := unhide LL
    clear LL
    refine (unhide HK2 _ hA).mono ?_
    rintro e w2 ⟨rfl, hB⟩
    replace hA := bstep hA hB
    replace l0 := l0.all hB
    replace l1 := l1.all hB
    clear HK2 x4 y4 hB
    cases b2 with
    | true =>
      have HE := hide hA
      clear hA l0 l1
      go_wp2_with fail
      go_ret
      exact ⟨rfl, unhide HE⟩
    | false =>
      have x0 := l0.cell 0
      have x1 := l0.cell 1
      have y0 := l1.cell 0
      have y1 := l1.cell 1
      have LL := hide hA
      clear hA l0 l1
      go_wp2_with fail
      refine (lessS_any w2 _ _ _ _).mono ?_
      rintro e w3 ⟨rfl, hB⟩
      have HE := hide (bstep (unhide LL) hB)
      clear LL hB x0 x1 y0 y1
      go_wp2_with fail
      go_ret
      exact ⟨rfl, unhide HE⟩
end Go.Proofs.YthgopknjppflhaaGreatDoor

/- spec.l5kids. -/
namespace Go.Proofs.YthgopknjppflhaaGreatDoor
open Go.RowKit
set_option linter.unusedVariables false
set_option maxRecDepth 100000

theorem cell_laterP {w w' : World} (hB : Below w.heap.size w w') {p : Addr} {v : Value} (h : w.cell? p = some v) : w'.cell? p = some v := (hB.cell (lt_of_cell h)).trans h
def natZ (l : List Nat) : List Int := l.map (fun n : Nat => (n : Int))
theorem natZ_len (l : List Nat) : (natZ l).length = l.length := by simp [natZ]
theorem natZ_app (a b : List Nat) : natZ (a ++ b) = natZ a ++ natZ b := by simp [natZ]
/-- A store into an own row of numbers. -/
theorem OwnZ.set {w : World} {base g n c : Nat} {xs : List Int} (h : OwnZ w base (.slice (some ⟨g, 0, none⟩) n c) xs) (j : Nat) (y : Int) (hy : -9223372036854775808 ≤ y ∧ y ≤ 9223372036854775807) : OwnZ (w.setCell ⟨g, j, none⟩ (.int .i64 y)) base (.slice (some ⟨g, 0, none⟩) n c) (xs.set j y) := by
  have hn : n = xs.length := by
    obtain ⟨_, _, e, _⟩ := h.ints.shape
    injection e
  subst hn
  have hst := (h.2.stored j (.int .i64 y)).1
  refine ⟨fun x hx => ?_, ?_⟩
  · rcases List.mem_or_eq_of_mem_set hx with h' | rfl
    · exact h.1 x h'
    · exact hy
  · have e : valz (xs.set j y) = (valz xs).set j (.int .i64 y) := by simp [valz, List.map_set]
    rw [e, List.length_set]
    exact hst
theorem OwnZ.cellz {w : World} {base g n c : Nat} {xs : List Int} (h : OwnZ w base (.slice (some ⟨g, 0, none⟩) n c) xs) {j : Nat} (hj : j < xs.length) : w.cell? ⟨g, j, none⟩ = some (.int .i64 (xs.getD j 0)) := by
  have hn : n = xs.length := by
    obtain ⟨_, _, e, _⟩ := h.ints.shape
    injection e
  subst hn
  rw [h.2.cellAt j (by omega), valz_at hj]
theorem OwnZ.frz {w : World} {base g n c : Nat} {xs : List Int} (h : OwnZ w base (.slice (some ⟨g, 0, none⟩) n c) xs) (j : Nat) : w.frozen? ⟨g, j, none⟩ = false := by
  have hn : n = xs.length := by
    obtain ⟨_, _, e, _⟩ := h.ints.shape
    injection e
  subst hn
  exact h.2.frozenAt j
/-- The row while the new one looks for its place: k is where it may come. -/
def rowK (out : List Nat) (k : Nat) (y : Nat) : List Nat := out.take k ++ y :: out.drop k
theorem rowK_len (out : List Nat) {k : Nat} (hk : k ≤ out.length) (y : Nat) : (rowK out k y).length = out.length + 1 := by
  unfold rowK
  simp only [List.length_append, List.length_cons, List.length_take, List.length_drop]
  omega
theorem rowK_below (out : List Nat) {k : Nat} (hk : k + 1 ≤ out.length) (y : Nat) : (natZ (rowK out (k + 1) y)).getD k 0 = ((out.getD k 0 : Nat) : Int) := by
  unfold rowK natZ
  have h1 : k < (out.take (k + 1)).length := by rw [List.length_take]; omega
  rw [List.map_append, List.getD_eq_getElem?_getD, List.getElem?_append_left (by simpa using h1)]
  simp [show k < out.length by omega]
theorem rowK_shift (out : List Nat) {k : Nat} (hk : k + 1 ≤ out.length) (y : Nat) : (natZ (rowK out (k + 1) y)).set (k + 1) ((out.getD k 0 : Nat) : Int) = natZ (rowK out k (out.getD k 0)) := by
  have hd : out.drop k = out.getD k 0 :: out.drop (k + 1) := by
    rw [List.drop_eq_getElem_cons (by omega)]
    simp [show k < out.length by omega]
  have ht : out.take (k + 1) = out.take k ++ [out.getD k 0] := by
    rw [List.take_succ_eq_append_getElem (by omega)]
    simp [show k < out.length by omega]
  unfold rowK natZ
  rw [hd, ht]
  have e : (out.take k ++ [out.getD k 0]).length = k + 1 := by simp; omega
  rw [List.map_append, List.map_cons, List.set_append_right _ _ (by simp; omega)]
  simp only [List.length_map, e, Nat.sub_self, List.set_cons_zero]
  simp
theorem rowK_put (out : List Nat) {k : Nat} (hk : k ≤ out.length) (y i : Nat) : (natZ (rowK out k y)).set k (i : Int) = natZ (rowK out k i) := by
  unfold rowK natZ
  rw [List.map_append, List.map_cons, List.set_append_right _ _ (by simp; omega)]
  simp only [List.length_map, List.length_take]
  rw [show min k out.length = k by omega, Nat.sub_self, List.set_cons_zero]
  simp
theorem kidsTo_small (l : List PlV) (id : IdV) {n : Nat} (h : n ≤ 2) : kidsTo l id n = [] := by
  unfold kidsTo
  rw [show n - 2 = 0 by omega]
  rfl
theorem kidsTo_lt {l : List PlV} (id : IdV) : ∀ {n : Nat}, ∀ x ∈ kidsTo l id n, x < n
  | 0, x, hx => by rw [kidsTo_small l id (by omega)] at hx; cases hx
  | n + 1, x, hx => by
    by_cases h2 : 2 ≤ n
    · rw [kidsTo_succ l id h2] at hx
      unfold kidStep at hx
      by_cases hk : isKid l id n = true
      · rw [if_pos hk] at hx
        rcases List.mem_cons.1 ((insR_perm _ _ _).mem_iff.1 hx) with rfl | hx
        · omega
        · have := kidsTo_lt id x hx; omega
      · rw [if_neg hk] at hx
        have := kidsTo_lt id x hx; omega
    · rw [kidsTo_small l id (by omega)] at hx; cases hx
theorem kidsTo_len {l : List PlV} (id : IdV) : ∀ (n : Nat), (kidsTo l id n).length ≤ n
  | 0 => by rw [kidsTo_small l id (by omega)]; simp
  | n + 1 => by
    by_cases h2 : 2 ≤ n
    · rw [kidsTo_succ l id h2]
      unfold kidStep
      have := kidsTo_len (l := l) id n
      by_cases hk : isKid l id n = true
      · rw [if_pos hk, (insR_perm _ _ _).length_eq]; simp; omega
      · rw [if_neg hk]; omega
    · rw [kidsTo_small l id (by omega)]; simp

set_option maxHeartbeats 12800000 in
theorem l5kids_any (w : World) (sb : Nat) (a : Option Addr) (c : Nat) (l : List PlV) (F : List Nat) (id : IdV) (h : StR w sb a c l F) (hl : l.length ≤ 100000) :
    Calls Tryz.prog 67 #[.pointer (some ⟨sb, 0, none⟩), .agg #[.int .i64 id.1, .int .i64 id.2]] w fun e w' => ∃ v, e = .returned v ∧ OwnZ w' w.heap.size v (natZ (kidsV l id)) ∧ Below w.heap.size w w' := by
  refine calls_via ?_
  intro Q HQ
  obtain ⟨iN, iR⟩ := id
  have hA := (Below.refl w.heap.size w).alloc (Nat.le_refl _) (.cells #[.int .i64 iN, .int .i64 iR] 51)
  have lb := Loc.made w #[.int .i64 iN, .int .i64 iR] 51
  have LL := hide (And.intro hA (And.intro lb h))
  clear hA lb h
  go_enter Tryz.func67, Tryz.ntmps67
  go_wp2_with fail
  obtain ⟨hA, lb, h⟩ := unhide LL
  clear LL
  generalize (w.alloc (.cells #[.int .i64 iN, .int .i64 iR] 51)) = w1 at *
  go_loopw [5, 6] (fun o i wr => ∃ (j : Nat) (av : Option Addr) (cv : Nat), 2 ≤ j ∧ (j ≤ l.length ∨ j = 2) ∧ i = .int .i64 (j : Int) ∧ o = .slice av (kidsTo l (iN, iR) j).length cv ∧ OwnZ wr (w.heap.size + 1) (.slice av (kidsTo l (iN, iR) j).length cv) (natZ (kidsTo l (iN, iR) j)) ∧ Below w.heap.size w wr ∧ Loc wr w.heap.size #[.int .i64 iN, .int .i64 iR] 51) (fun _ i _ => l.length - (intOf i).toNat)
  case atStart => exact ⟨2, none, 0, Nat.le_refl _, .inr rfl, rfl, rfl, ownz_nil _ _, hA, lb⟩
  case round =>
    clear hA lb
    obtain ⟨j, av, cv, hj2, hjl, rfl, rfl, ho, hb, lb⟩ := hrel
    have hs := h.keep hb
    have y0 : wr.cell? ⟨sb, 0, none⟩ = some (.slice a l.length c) := hs.1.cell 0
    by_cases hlt : j < l.length
    case neg =>
      have hlt' : ¬ (j : Int) < (l.length : Int) := by omega
      have e : kidsTo l (iN, iR) j = kidsV l (iN, iR) := by
        rcases hjl with hjl | hjl
        · rw [show j = l.length by omega]; rfl
        · unfold kidsV
          rw [kidsTo_small l _ (by omega), kidsTo_small l _ (by omega)]
      rw [e] at ho
      rw [e]
      have HE := hide (unhide HQ _ wr ⟨_, rfl, ho.mono (by omega), hb⟩)
      clear ho hb lb hs h e hlt HQ
      go_wp2_with fail
      exact unhide HE
    have hlt' : (j : Int) < (l.length : Int) := by omega
    obtain ⟨p, hp⟩ : ∃ p, l[j]? = some p := ⟨l[j], by simp [hlt]⟩
    obtain ⟨b, k1, ck1, n1, cn1, t1, ct1, q1, cq1, rfl, _, e10, e11, e12, e13, e14, e15, e16, e17, e18, _, _, _, hkey1⟩ := hs.cells hp
    have v0 : wr.cell? ⟨w.heap.size, 0, none⟩ = some (.int .i64 iN) := lb.cell 0
    have v1 : wr.cell? ⟨w.heap.size, 1, none⟩ = some (.int .i64 iR) := lb.cell 1
    have hj0 : (0 : Int) ≤ (j : Int) := by omega
    have hsucc := kidsTo_succ l (iN, iR) hj2
    have HN := hide hsucc
    have HO := hide (And.intro ho (And.intro hb lb))
    clear hsucc ho hb lb hs hlt
    by_cases hpar : p.par = (iN, iR)
    case neg =>
      have hk : isKid l (iN, iR) j = false := by unfold isKid; rw [hp]; simp [hpar]
      have HR := hide (show kidsTo l (iN, iR) (j + 1) = kidsTo l (iN, iR) j by rw [unhide HN]; unfold kidStep; rw [hk]; rfl)
      have hd : (p.parN == iN) = false ∨ ((p.parN == iN) = true ∧ (p.parR == iR) = false) := by
        cases h1 : (p.parN == iN) with
        | false => exact .inl rfl
        | true =>
          refine .inr ⟨rfl, ?_⟩
          cases h2 : (p.parR == iR) with
          | false => rfl
          | true => exact absurd (show (p.parN, p.parR) = (iN, iR) by rw [beq_iff_eq.1 h1, beq_iff_eq.1 h2]) hpar
      clear hpar hk hp h HN hkey1 e10 e11 e14 e15 e16 e17 e18
      rcases hd with d1 | ⟨d1, d2⟩
      all_goals
        go_wp2_with fail
        go_quiet (fail)
        go_wp2_with fail
        go_roundw
        case rel =>
          obtain ⟨ho, hb, lb⟩ := unhide HO
          exact ⟨j + 1, av, cv, by omega, .inl (by omega), by go_num, by rw [unhide HR], by rw [unhide HR]; exact ho.keep (below_drewN (Below.refl _ _) _), below_drewN hb _, lb.all (below_drewN (Below.refl _ _) _)⟩
        case measure => simp [intOf]; omega
    have hk : isKid l (iN, iR) j = true := by unfold isKid; rw [hp]; simp [hpar]
    have HR := hide (show kidsTo l (iN, iR) (j + 1) = insR (aheadI l) j (kidsTo l (iN, iR) j) by rw [unhide HN]; unfold kidStep; rw [hk]; rfl)
    have d1 : (p.parN == iN) = true := by simpa using (Prod.mk.inj hpar).1
    have d2 : (p.parR == iR) = true := by simpa using (Prod.mk.inj hpar).2
    have HK := hide (And.intro (kidsTo_len (l := l) (iN, iR) j) (kidsTo_lt (l := l) (iN, iR) (n := j)))
    generalize kidsTo l (iN, iR) j = out at *
    clear hpar hk HN hkey1 e10 e11 e14 e15 e16 e17 e18
    go_wp2_with fail
    go_quiet (fail)
    obtain ⟨ho, hb, lb⟩ := unhide HO
    clear HO
    generalize hwd : wr.drewN _ = wd at *
    have hbd : Below w.heap.size w wd := by rw [← hwd]; exact below_drewN hb _
    have hod : OwnZ wd (w.heap.size + 1) (.slice av out.length cv) (natZ out) := by rw [← hwd]; exact ho.keep (below_drewN (Below.refl _ _) _)
    have lbd : Loc wd w.heap.size #[.int .i64 iN, .int .i64 iR] 51 := by rw [← hwd]; exact lb.all (below_drewN (Below.refl _ _) _)
    clear hwd ho hb lb v0 v1 y0 d1 d2 e12 e13
    have hol := (unhide HK).1
    have hY := hide (int_one wd (j : Int) (by omega) (by omega))
    go_wp2_with (at_builtin; refine wpList_appZ rfl _ _ rfl (w.heap.size + 1) _ (natZ out) rfl (hod.alloc _) _ [(j : Int)] rfl (unhide hY) ?c1 ?c2 ?_)
    case c1 => rw [natZ_len]; simp; omega
    case c2 => have := hbd.size; simp; omega
    intro v5 w5 ho5 hg5
    have hle : (natZ out ++ [(j : Int)]).length = out.length + 1 := by simp [natZ]
    obtain ⟨g5, c5, e5, _⟩ := ho5.2.form (by rw [hle]; omega)
    subst e5
    rw [hle] at ho5
    have hge5 : w.heap.size + 1 ≤ g5 := (ho5.lt g5 rfl).1
    have hb5 : Below w.heap.size w w5 := bstepBy (bstep hbd ((Below.refl _ _).alloc (Nat.le_refl _) _)) hg5 (fun q hq => by have := (hod.lt q hq).1; omega)
    have lb5 : Loc w5 w.heap.size #[.int .i64 iN, .int .i64 iR] 51 := (lbd.alloc _).frm (Frm.ofGrown hg5) (fun hm => by
      have hm' : w.heap.size ∈ FB (.slice av out.length cv) := hm
      have := (hod.lt w.heap.size (by simpa [FB] using hm')).1
      omega)
    clear hY hg5 hod lbd hbd
    rw [hle]
    clear hle
    go_wp2_with fail
    go_loopw [7] (fun kk wr => ∃ (k y : Nat), k ≤ out.length ∧ kk = .int .i64 (k : Int) ∧ Hid (cutK (aheadI l) j out out.length = cutK (aheadI l) j out k) ∧ OwnZ wr (w.heap.size + 1) (.slice (some ⟨g5, 0, none⟩) (out.length + 1) c5) (natZ (rowK out k y)) ∧ Below w.heap.size w wr ∧ Loc wr w.heap.size #[.int .i64 iN, .int .i64 iR] 51) (fun kk _ => (intOf kk).toNat)
    case atStart => exact ⟨out.length, j, Nat.le_refl _, rfl, hide rfl, by
      have e : rowK out out.length j = out ++ [j] := by unfold rowK; simp
      rw [e, natZ_app]
      exact ho5, hb5, lb5⟩
    case round =>
      clear ho5 hb5 lb5
      obtain ⟨k, y, hk, rfl, HC, hr, hbr, lbr⟩ := hrel
      -- what is left once its place is found
      have HX := hide (show cutK (aheadI l) j out out.length = k → ∀ wq, Below wr.heap.size wr wq → OwnZ (wq.setCell ⟨g5, k, none⟩ (.int .i64 (j : Int))) (w.heap.size + 1) (.slice (some ⟨g5, 0, none⟩) (kidsTo l (iN, iR) (j + 1)).length c5) (natZ (kidsTo l (iN, iR) (j + 1))) ∧ Below w.heap.size w (wq.setCell ⟨g5, k, none⟩ (.int .i64 (j : Int))) ∧ Loc (wq.setCell ⟨g5, k, none⟩ (.int .i64 (j : Int))) w.heap.size #[.int .i64 iN, .int .i64 iR] 51 ∧ out.length + 1 = (kidsTo l (iN, iR) (j + 1)).length from fun hcut wq hq => by
        have e : kidsTo l (iN, iR) (j + 1) = rowK out k j := by rw [unhide HR]; unfold insR rowK; rw [hcut]
        have e2 : (rowK out k j).length = out.length + 1 := rowK_len out hk j
        rw [e, e2]
        have h1 := (hr.keep hq).set k (j : Int) (by omega)
        rw [rowK_put out hk] at h1
        exact ⟨h1, bstepBy (bstep hbr hq) (set_grownM _ _ _ _) (fun q hq => by cases hq; omega), (lbr.all hq).other _ _ _ (by omega), rfl⟩)
      cases k with
      | zero =>
        have hcut : cutK (aheadI l) j out out.length = 0 := unhide HC
        have hc0 := hr.cellz (j := 0) (by rw [natZ_len, rowK_len out hk]; omega)
        have hf0 := hr.frz 0
        have HR0 := hide hr
        clear HC
        go_wp2_with fail
        go_quiet (fail)
        have hc0' : (wr.drewN nq).cell? ⟨g5, 0, none⟩ = _ := hc0
        have hf0' : (wr.drewN nq).frozen? ⟨g5, 0, none⟩ = false := hf0
        obtain ⟨x1, x2, x3, x4⟩ := unhide HX hcut (wr.drewN nq) (below_drewN (Below.refl _ _) _)
        have HY := hide (And.intro x1 (And.intro x2 (And.intro x3 x4)))
        clear x1 x2 x3 x4 HX hr hbr lbr hcut
        go_wp2_with fail
        go_roundw
        case rel =>
          obtain ⟨x1, x2, x3, x4⟩ := unhide HY
          exact ⟨j + 1, _, c5, by omega, .inl (by omega), by go_num, by rw [← x4], x1, x2, x3⟩
        case measure => simp [intOf]; omega
      | succ k =>
        obtain ⟨x, hx⟩ : ∃ x, x = out.getD k 0 := ⟨_, rfl⟩
        have hxj : x < j := by
          rw [hx, getD_in (by omega)]
          exact (unhide HK).2 _ (List.getElem_mem _)
        have hxl : x < l.length := by omega
        obtain ⟨q, hq⟩ : ∃ q, l[x]? = some q := ⟨l[x], by simp [hxl]⟩
        have hs := h.keep hbr
        obtain ⟨b1_, k1, ck1, n1, cn1, t1, ct1, q1, cq1, hbe1, _, e10, e11, e12, e13, e14, e15, e16, e17, e18, _, _, _, hkey1⟩ := hs.cells hp
        obtain ⟨b2_, k2, ck2, n2, cn2, t2, ct2, q2, cq2, hbe2, _, e20, e21, e22, e23, e24, e25, e26, e27, e28, _, _, _, hkey2⟩ := hs.cells hq
        injection hbe1 with hbe1
        injection hbe1 with hbe1 _ _
        injection hbe2 with hbe2
        injection hbe2 with hbe2 _ _
        subst hbe1 hbe2
        have y0 : wr.cell? ⟨sb, 0, none⟩ = some (.slice (some ⟨b, 0, none⟩) l.length c) := hs.1.cell 0
        have hcx := hr.cellz (j := k) (by rw [natZ_len, rowK_len out hk]; omega)
        rw [rowK_below out (by omega), ← hx] at hcx
        have hck := hr.cellz (j := k + 1) (by rw [natZ_len, rowK_len out hk]; omega)
        have hfk := hr.frz (k + 1)
        have hcut := unhide HC
        have hah : aheadI l j x = aheadB p q := by unfold aheadI; rw [hp, hq]
        rw [show cutK (aheadI l) j out (k + 1) = if aheadI l j (out.getD k 0) = true then cutK (aheadI l) j out k else k + 1 from rfl, ← hx, hah] at hcut
        have HA := hide (l5ahead_any wr p q k1 n1 t1 q1 k2 n2 t2 q2 ck1 cn1 ct1 cq1 ck2 cn2 ct2 cq2 hkey1 hkey2)
        have hkd : Below wr.heap.size wr wr.drew := (Below.refl _ _).drew
        replace HA := hide (l5ahead_any wr.drew p q k1 n1 t1 q1 k2 n2 t2 q2 ck1 cn1 ct1 cq1 ck2 cn2 ct2 cq2 (hkey1.keep hkd) (hkey2.keep hkd))
        generalize hK : k + 1 = K at *
        have hgt : decide (0 < K) = true := by simp; omega
        have hkm : IntKind.i64.wrap ((K : Int) - 1) = (k : Int) := by
          rw [IntKind.wrap_i64]
          omega
        have hk0 : (0 : Int) ≤ (k : Int) := by omega
        generalize hM : out.length + 1 = M at *
        have hkn : (k : Int) < (M : Int) := by omega
        have hKn : (K : Int) < (M : Int) := by omega
        have hK0 : (0 : Int) ≤ (K : Int) := by omega
        have hx0 : (0 : Int) ≤ (x : Int) := by omega
        have hxl' : (x : Int) < (l.length : Int) := by omega
        have HZ := hide (And.intro hr (And.intro hbr (And.intro lbr (And.intro hcut (And.intro hx (And.intro hk (And.intro hkd (And.intro hK hM))))))))
        clear hr hbr lbr hcut hx hk hkd hK hM hs hkey1 hkey2 hah hp hq HC hxj hxl
        go_wp2_with fail
        go_region_held3 (fun w' => w'.cell? ⟨sb, 0, none⟩ = some (.slice (some ⟨b, 0, none⟩) l.length c) ∧ w'.cell? ⟨g5, k, none⟩ = some (.int .i64 (x : Int)) ∧ w'.cell? ⟨b, j * 9, none⟩ = some (.int .i64 p.idN) ∧ w'.cell? ⟨b, j * 9 + 1, none⟩ = some (.int .i64 p.idR) ∧ w'.cell? ⟨b, j * 9 + 2, none⟩ = some (.int .i64 p.parN) ∧ w'.cell? ⟨b, j * 9 + 3, none⟩ = some (.int .i64 p.parR) ∧ w'.cell? ⟨b, j * 9 + 4, none⟩ = some (.slice k1 p.key.length ck1) ∧ w'.cell? ⟨b, j * 9 + 5, none⟩ = some (.int .i64 p.kind) ∧ w'.cell? ⟨b, j * 9 + 6, none⟩ = some (.slice n1 p.name.length cn1) ∧ w'.cell? ⟨b, j * 9 + 7, none⟩ = some (.slice t1 p.text.length ct1) ∧ w'.cell? ⟨b, j * 9 + 8, none⟩ = some (.slice q1 p.attrs.length cq1) ∧ w'.cell? ⟨b, x * 9, none⟩ = some (.int .i64 q.idN) ∧ w'.cell? ⟨b, x * 9 + 1, none⟩ = some (.int .i64 q.idR) ∧ w'.cell? ⟨b, x * 9 + 2, none⟩ = some (.int .i64 q.parN) ∧ w'.cell? ⟨b, x * 9 + 3, none⟩ = some (.int .i64 q.parR) ∧ w'.cell? ⟨b, x * 9 + 4, none⟩ = some (.slice k2 q.key.length ck2) ∧ w'.cell? ⟨b, x * 9 + 5, none⟩ = some (.int .i64 q.kind) ∧ w'.cell? ⟨b, x * 9 + 6, none⟩ = some (.slice n2 q.name.length cn2) ∧ w'.cell? ⟨b, x * 9 + 7, none⟩ = some (.slice t2 q.text.length ct2) ∧ w'.cell? ⟨b, x * 9 + 8, none⟩ = some (.slice q2 q.attrs.length cq2))
          (first | exact ⟨by assumption, by assumption, by assumption, by assumption, by assumption, by assumption, by assumption, by assumption, by assumption, by assumption, by assumption, by assumption, by assumption, by assumption, by assumption, by assumption, by assumption, by assumption, by assumption, by assumption⟩ | simp [*])
          (first | (go_at_call 86; refine (unhide HA).mono ?_; rintro e w7 ⟨rfl, hB7⟩; have hE7 := bstep (unhide HZ).2.2.2.2.2.2.1 hB7; have y0 := cell_laterP hE7 y0; have hcx := cell_laterP hE7 hcx; have e10 := cell_laterP hE7 e10; have e11 := cell_laterP hE7 e11; have e12 := cell_laterP hE7 e12; have e13 := cell_laterP hE7 e13; have e14 := cell_laterP hE7 e14; have e15 := cell_laterP hE7 e15; have e16 := cell_laterP hE7 e16; have e17 := cell_laterP hE7 e17; have e18 := cell_laterP hE7 e18; have e20 := cell_laterP hE7 e20; have e21 := cell_laterP hE7 e21; have e22 := cell_laterP hE7 e22; have e23 := cell_laterP hE7 e23; have e24 := cell_laterP hE7 e24; have e25 := cell_laterP hE7 e25; have e26 := cell_laterP hE7 e26; have e27 := cell_laterP hE7 e27; have e28 := cell_laterP hE7 e28))
        obtain ⟨hr, hbr, lbr, hcut, hx, hk, hkd, hK, hM⟩ := unhide HZ
        have hr7 := hr.keep hE7
        have hb7 := bstep hbr hE7
        have lb7 := lbr.all hE7
        have hck7 := cell_laterP hE7 hck
        have hfk7 := hr7.frz K
        clear hr hbr lbr hkd HZ HA hck hfk y0 e10 e11 e12 e13 e14 e15 e16 e17 e18 e20 e21 e22 e23 e24 e25 e26 e27 e28
        cases hbb : aheadB p q with
        | false =>
          rw [hbb] at hcut
          have hcut' : cutK (aheadI l) j out out.length = K := hcut.trans (by first | (simp; done) | (simp; exact hK))
          obtain ⟨x1, x2, x3, x4⟩ := unhide HX hcut' w7 hE7
          have HY := hide (And.intro x1 (And.intro x2 (And.intro x3 x4)))
          clear x1 x2 x3 x4 HX hr7 hb7 lb7 hcut hcut' hx hbb hE7 hB7 hcx
          go_wp2_with fail
          go_roundw
          case rel =>
            obtain ⟨x1, x2, x3, x4⟩ := unhide HY
            exact ⟨j + 1, _, c5, by omega, .inl (by omega), by go_num, by rw [← x4], x1, x2, x3⟩
          case measure => simp [intOf]; omega
        | true =>
          rw [hbb] at hcut
          have HCn := hide (show cutK (aheadI l) j out out.length = cutK (aheadI l) j out k from hcut.trans (by simp))
          have h9 := hr7.set K ((x : Nat) : Int) (by omega)
          rw [← hK, hx, rowK_shift out (by omega)] at h9
          rw [hK] at h9
          rw [← hx] at h9
          have HY := hide (And.intro h9 (And.intro (bstepBy hb7 (set_grownM w7 g5 K (.int .i64 (x : Int))) (fun q hq => by cases hq; omega)) (lb7.other g5 K (.int .i64 (x : Int)) (by omega))))
          have HKL := hide (show k ≤ out.length by omega)
          have hKk := hide hK
          clear HX h9 hr7 hb7 lb7 hcut hbb hE7 hB7 hx hK hM
          go_wp2_with fail
          go_roundw
          case rel =>
            obtain ⟨x1, x2, x3⟩ := unhide HY
            exact ⟨k, _, unhide HKL, by first | rfl | go_num, HCn, x1, x2, x3⟩
          case measure => have := unhide hKk; simp [intOf]; omega

end Go.Proofs.YthgopknjppflhaaGreatDoor

/- A call of a Go function as one step of a region that draws its order, by the callee's contract. No program. -/
namespace Go.Proofs.YthgopknjppflhaaGreatDoor
open Go.RowKit
set_option linter.unusedVariables false

theorem step_call {P : Program} {ops : Array Oper} {o : Oper} {a : Act} {w : World} {K : Act → World → Prop} {Q : Exit → Act → World → Prop} {E : Prop} (hgd : o.guard = none) (f : FuncId) (xs : List Operand) (tys : Array TypeId)
    (ho : o.op = .call { callee := .value (.func f), args := xs.toArray, argTypes := tys }) (he : ∀ args w, (callFunc f args).run P w = .ok (.enter f args) w) (args : List Value) (hx : xs.map a.eval = args) {R : Ending → World → Prop} (hc : Calls P f args.toArray w R)
    (h : ∀ e w', R e w' → ∃ v, e = .returned v ∧ K (a.put o.dst v) w') : if Region.wanted o (yielded ops a.tmps) = true then Oper.wp P o a w K Q else E := by
  have hw : Region.wanted o (yielded ops a.tmps) = true := by simp [Region.wanted, hgd]
  rw [if_pos hw]
  subst hx
  unfold Oper.wp execOp
  simp [ho, resolve, invoke, go_sem, he]
  refine hc.mono ?_
  intro e w' hR
  obtain ⟨v, rfl, hk⟩ := h e w' hR
  exact hk
end Go.Proofs.YthgopknjppflhaaGreatDoor
