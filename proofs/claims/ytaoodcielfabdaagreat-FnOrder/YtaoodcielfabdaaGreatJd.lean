/- Own texts joined: ZnA, Xb, L3ref, L3name, L3attr, NameB, L3keep. -/
import Derived.Test.YtaoodcielfabdaaGreatJa
import Derived.Test.YtaoodcielfabdaaGreatJb
import Derived.Test.YtaoodcielfabdaaGreatJc
import Derived.Maps.AppendAt
import Derived.ArgAppend
import Derived.Deep.RegionLaw
import Derived.WalkLawsBesides
import Derived.Deep.QuietTactic
import Derived.BigQuiet
import Derived.Deep.Cut
import Derived.Deep.CutRange
import Derived.Deep.AppendLies

/- append in a typed zone: the row it tells is of the zone, and the zone stays one. -/
namespace Go.Proofs.YtaoodcielfabdaaGreat
open Go.RowKit
set_option linter.unusedVariables false

structure ZTy (t : TypeId) (q : Nat) (i : TypeInfo) (z : Value) : Prop where
  und : Tryz.prog.underlying t = some (.slice (elT q))
  inf : Tryz.prog.info? (elT q) = some i
  zero : i.zero = some z
  size : i.size = elS q
  byt : i.bytes ≤ 104
  cel : z.cells.size = elS q
  typ : ∀ (w : World) (B N r : Nat) (u : Value), z.cells[r]? = some u → ZV w B N (kindAt (elT q) r) u

theorem heap_setCells {w : World} {g : Nat} {T : TypeId} {fz : Nat × Nat} : ∀ (vs : List Value) (w : World) (o : Nat) (cur : Array Value), w.heap[g]? = some (.cells cur T fz) →
    ∃ cur', (w.setCells g o vs).heap[g]? = some (.cells cur' T fz) ∧ cur'.size = cur.size ∧ (∀ j u, cur'[j]? = some u → cur[j]? = some u ∨ ∃ k, j = o + k ∧ vs[k]? = some u) ∧ w.grownBy (w.setCells g o vs) (some g) ∧ (w.setCells g o vs).heap.size = w.heap.size
  | [], w, o, cur, h => ⟨cur, h, rfl, fun j u hj => .inl hj, ⟨rfl, rfl, rfl, Nat.le_refl _, fun _ _ _ => rfl⟩, rfl⟩
  | v :: r, w, o, cur, h => by
    obtain ⟨cur', h1, h2, h3, h4, h5⟩ := heap_setCells (w := w) r (w.setCell ⟨g, o, none⟩ v) (o + 1) (cur.setIfInBounds o v) (heap_set_mark w g o cur T fz v h)
    refine ⟨cur', h1, by simpa using h2, fun j u hj => ?_, grown_trans (set_grownM w g o v) h4, by rw [World.setCells, h5]; simp⟩
    rcases h3 j u hj with h | ⟨k, rfl, hk⟩
    · by_cases hjo : j = o
      · subst hjo
        rw [Array.getElem?_setIfInBounds] at h
        simp at h
        exact .inr ⟨0, rfl, by simpa using h.2⟩
      · rw [Array.getElem?_setIfInBounds, if_neg (by omega)] at h
        exact .inl h
    · exact .inr ⟨k + 1, by omega, by simpa using hk⟩

/-- The block that a growing append makes. -/
theorem zone_fresh {w : World} {B N : Nat} {q : Nat} {i : TypeInfo} {z : Value} {t : TypeId} (hty : ZTy t q i z) (h : Zone w B N) (hB : B ≤ w.heap.size) (olds : List Value) (n : Nat) (hlo : olds.length = n * elS q) (hot : ∀ j u, olds[j]? = some u → ZV w B N (kindAt (elT q) j) u)
    (news : List Value) (m : Nat) (hl : news.length = m * elS q) (hnt : ∀ j u, news[j]? = some u → ZV w B N (kindAt (elT q) j) u) (cap : Nat) (hc : n + m ≤ cap) (hcm : cap ≤ maxLen) (hN : n + m ≤ N) :
    ZSl (w.drew.alloc (.cells (olds.toArray ++ news.toArray ++ Builtin.zeroCells z.cells (cap - (n + m))) (elT q))) B N (elT q) (elS q) (.slice (some ⟨w.heap.size, 0, none⟩) (n + m) cap) ∧
    Zone (w.drew.alloc (.cells (olds.toArray ++ news.toArray ++ Builtin.zeroCells z.cells (cap - (n + m))) (elT q))) B N ∧ Zs B [] w (w.drew.alloc (.cells (olds.toArray ++ news.toArray ++ Builtin.zeroCells z.cells (cap - (n + m))) (elT q))) := by
  have hsz : (olds.toArray ++ news.toArray ++ Builtin.zeroCells z.cells (cap - (n + m))).size = cap * elS q := by
    simp only [Array.size_append, List.size_toArray, size_zeroCells, hty.cel, hlo, hl, ← Nat.add_mul]
    congr 1
    omega
  have hA := (show Zone w.drew B N from h).alloc (cs := olds.toArray ++ news.toArray ++ Builtin.zeroCells z.cells (cap - (n + m))) (T := elT q) hB (fun _ j u hj => by
    rw [Array.getElem?_append] at hj
    split at hj
    · rename_i hlt
      rw [Array.getElem?_append] at hj
      split at hj
      · exact hot j u (by simpa using hj)
      · rename_i hge
        have hge' : olds.length ≤ j := by simpa using hge
        have := hnt (j - olds.length) u (by simpa using hj)
        have e : j = n * elS q + (j - olds.length) := by omega
        rw [e, kind_per]
        exact this
    · rename_i hge
      have hge' : olds.length + news.length ≤ j := by simpa using hge
      have hj' : (Builtin.zeroCells z.cells (cap - (n + m)))[j - (olds.length + news.length)]? = some u := by simpa using hj
      generalize hr : j - (olds.length + news.length) = r at hj'
      have e : j = (n + m) * elS q + r := by rw [Nat.add_mul, ← hlo, ← hl]; omega
      rw [e, kind_per, ← kind_mod]
      have hru : z.cells[r % elS q]? = some u := by
        unfold Builtin.zeroCells at hj'
        rw [Array.getElem?_map] at hj'
        have hlt : r % elS q < z.cells.size := by rw [hty.cel]; exact Nat.mod_lt _ (elS_pos q)
        cases hr2 : (Array.range ((cap - (n + m)) * z.cells.size))[r]? with
        | none => rw [hr2] at hj'; simp at hj'
        | some r2 =>
          rw [hr2] at hj'
          have h2 : r2 = r := by
            rw [Array.getElem?_range] at hr2
            split at hr2
            · simpa using hr2.symm
            · simp at hr2
          subst h2
          simp at hj'
          rw [hty.cel] at hj'
          rw [← hj']
          simp [hlt]
      exact hty.typ _ _ _ _ _ hru)
  have hz : Zs B [] w (w.drew.alloc (.cells (olds.toArray ++ news.toArray ++ Builtin.zeroCells z.cells (cap - (n + m))) (elT q))) := (Zs.refl B [] w).drew.trans hA.2
  refine ⟨⟨_, _, _, rfl, hc, hN, hcm, .inr ⟨_, rfl, hB, ?_⟩⟩, hA.1, hz⟩
  rw [← hsz]
  exact ZB.made w.drew _ _

theorem zone_append {w : World} {B N N' : Nat} {t : TypeId} {q : Nat} {i : TypeInfo} {z : Value} (hty : ZTy t q i z) (ty : TypeId) (h : Zone w B N) (hB : B ≤ w.heap.size) (a : Option Addr) (n c : Nat) (hs : ZSl w B N (elT q) (elS q) (.slice a n c))
    (ad : Addr) (m c' : Nat) (news : List Value) (hl : news.length = m * elS q) (hnews : ∀ j u, news[j]? = some u → w.cell? (ad.add j) = some u) (hnt : ∀ j u, news[j]? = some u → ZV w B N (kindAt (elT q) j) u) (hN : N ≤ N') (hnm : n + m ≤ N') (hb : N' ≤ 1000000000) :
    ∃ a' cap w', (Builtin.append_ #[t, t] ty #[.slice a n c, .slice (some ad) m c']).run Tryz.prog w = .ok (.slice a' (n + m) cap) w' ∧ ZSl w' B N' (elT q) (elS q) (.slice a' (n + m) cap) ∧ Zone w' B N' ∧ Zs B [] w w' := by
  have h' := h.mono hN
  have hs' := hs.step (Zs.refl B [] w) hN
  have hnt' : ∀ j u, news[j]? = some u → ZV w B N' (kindAt (elT q) j) u := fun j u hj => (hnt j u hj).step (Zs.refl B [] w) hN
  have h63 : n + m ≤ maxLen := by unfold maxLen; omega
  have hby : (n + m) * i.bytes ≤ 140737488355328 := Nat.le_trans (Nat.mul_le_mul hnm hty.byt) (by omega)
  have hl' : news.length = m * i.size := by rw [hty.size]; exact hl
  clear h hs hnt
  obtain ⟨a1, n1, c1, e1, h1, h2, h3, h4⟩ := hs'
  cases e1
  rcases h4 with ⟨rfl, rfl⟩ | ⟨g, rfl, hBg, cur, fz, hg, hcs⟩
  · obtain rfl : n = 0 := by omega
    by_cases hm : m = 0
    · subst hm
      obtain rfl : news = [] := List.eq_nil_of_length_eq_zero (by simpa using hl)
      refine ⟨none, 0, w, ?_, ⟨_, _, _, rfl, by omega, by omega, by omega, .inl ⟨rfl, rfl⟩⟩, h', Zs.refl _ _ _⟩
      simp [Builtin.append_, run_underlying hty.und, sizeOf, typeInfo, hty.inf, Builtin.lenOf, Builtin.firstCells, loadCells, loadCellsFrom]
    · have hr := run_append_nil (P := Tryz.prog) w t ty (elT q) i z hty.und hty.inf hty.zero ad m c' news hl' hnews (by omega) (by unfold maxLen at h63; omega) (by simp only [Nat.zero_add] at hby; omega)
      have hf := zone_fresh hty h' hB [] 0 (by simp) (fun j u hj => by simp at hj) news m hl hnt' (grownCap w m 0 (elT q)) (by simpa using grownCap_ge w m 0 (elT q)) (grownCap_le_maxLen w m 0 (elT q) (by unfold maxLen at h63 ⊢; omega)) hnm
      simp only [Nat.zero_add] at hf ⊢
      have e : ([] : List Value).toArray ++ news.toArray = news.toArray := by simp
      rw [e] at hf
      exact ⟨_, _, _, hr, hf⟩
  · by_cases hroom : n + m ≤ c
    · have hfit : n * elS q + news.length ≤ cur.size := by rw [hl, hcs, ← Nat.add_mul]; exact Nat.mul_le_mul_right _ hroom
      have hfr := (h' g cur _ fz hBg hg (isZ_elT q)).1
      have hrun := run_append_room_cells (P := Tryz.prog) w t ty (elT q) i hty.und hty.inf g 0 n c ad m c' news hl' hnews (fun u hu => by obtain ⟨j, hj, rfl⟩ := List.getElem_of_mem hu; exact (hnt' j _ (by simp [hj])).one) hroom
        (by intro j hj; rw [hty.size, cell_of_row w g _ cur _ fz hg]; simp; omega)
        (by intro j hj; rw [hty.size]; exact frozen_mark w g _ cur _ fz hg (hfr _ (by omega)))
      rw [hty.size, Nat.zero_add] at hrun
      obtain ⟨cur', k1, k2, k3, k4, k5⟩ := heap_setCells (w := w) news w (n * elS q) cur hg
      obtain ⟨hz, hzs⟩ := h'.row (isZ_elT q) hBg hg k2 (fun j u hj => by
        rcases k3 j u hj with h | ⟨k, rfl, hk⟩
        · exact (h' g cur _ fz hBg hg (isZ_elT q)).2 j u h
        · rw [kind_per]; exact hnt' k u hk) k1 k4 k5
      exact ⟨_, _, _, hrun, ⟨_, _, _, rfl, hroom, hnm, h3, .inr ⟨g, rfl, hBg, cur', fz, k1, by rw [k2, hcs]⟩⟩, hz, hzs⟩
    · have hle : n * elS q ≤ cur.size := by rw [hcs]; exact Nat.mul_le_mul_right _ h1
      have hlo : (cur.toList.take (n * elS q)).length = n * elS q := by simp; omega
      have hold : ∀ j u, (cur.toList.take (n * elS q))[j]? = some u → cur[j]? = some u := fun j u hj => by
        rw [List.getElem?_take] at hj
        split at hj
        · simpa using hj
        · cases hj
      have hr := run_append_grow (P := Tryz.prog) w t ty (elT q) i z hty.und hty.inf hty.zero ⟨g, 0, none⟩ n c (cur.toList.take (n * elS q)) (by rw [hty.size]; exact hlo)
        (by intro j u hj; rw [add_plain, Nat.zero_add, cell_of_row w g j cur _ fz hg]; exact hold j u hj) ad m c' news hl' hnews (by omega) (by unfold maxLen at h63; omega) (growslice_fits (by omega) hby)
      have hf := zone_fresh hty h' hB (cur.toList.take (n * elS q)) n hlo (fun j u hj => (h' g cur _ fz hBg hg (isZ_elT q)).2 j u (hold j u hj)) news m hl hnt' (grownCap w (n + m) c (elT q)) (grownCap_ge w (n + m) c (elT q)) (grownCap_le_maxLen w (n + m) c (elT q) h63) hnm
      exact ⟨_, _, _, hr, hf⟩
/-- At the list of a plain region's operations. -/
theorem wpList_zapp {w : World} {B N N' : Nat} {t : TypeId} {q : Nat} {i : TypeInfo} {z : Value} (hty : ZTy t q i z) {ops : Array Oper} {rest : List Oper} {o : Oper} {a : Act} {Q : Exit → Act → World → Prop} (hgd : o.guard = none) (s x : Operand)
    (ho : o.op = .call { callee := .builtin .append, args := #[s, x], argTypes := #[t, t] }) (h : Zone w B N) (hB : B ≤ w.heap.size) (p : Option Addr) (n c : Nat) (he : a.eval s = .slice p n c) (hs : ZSl w B N (elT q) (elS q) (.slice p n c))
    (ad : Addr) (m c' : Nat) (news : List Value) (hx : a.eval x = .slice (some ad) m c') (hl : news.length = m * elS q) (hnews : ∀ j u, news[j]? = some u → w.cell? (ad.add j) = some u) (hnt : ∀ j u, news[j]? = some u → ZV w B N (kindAt (elT q) j) u) (hN : N ≤ N') (hnm : n + m ≤ N') (hb : N' ≤ 1000000000)
    (hK : ∀ a' cap w', ZSl w' B N' (elT q) (elS q) (.slice a' (n + m) cap) → Zone w' B N' → Zs B [] w w' → wpList Tryz.prog ops Q rest (a.put o.dst (.slice a' (n + m) cap)) w') : wpList Tryz.prog ops Q (o :: rest) a w := by
  refine wpList_plain hgd fun K hK' => ?_
  obtain ⟨a', cap, w', hr, h1, h2, h3⟩ := zone_append hty o.type h hB p n c hs ad m c' news hl hnews hnt hN hnm hb
  unfold Oper.wp execOp
  simp only [ho, resolve, invoke, builtin, Sem.run_bind, Sem.run_pure, Result.andThen_ok, List.map_toArray, List.map_cons, List.map_nil, he, hx, hr]
  exact hK' _ _ (hK a' cap w' h1 h2 h3)
/-- As one step of a region that draws its order. -/
theorem step_zapp {w : World} {B N N' : Nat} {t : TypeId} {q : Nat} {i : TypeInfo} {z : Value} (hty : ZTy t q i z) {ops : Array Oper} {o : Oper} {a : Act} {K : Act → World → Prop} {Q : Exit → Act → World → Prop} {E : Prop} (hgd : o.guard = none) (s x : Operand)
    (ho : o.op = .call { callee := .builtin .append, args := #[s, x], argTypes := #[t, t] }) (h : Zone w B N) (hB : B ≤ w.heap.size) (p : Option Addr) (n c : Nat) (he : a.eval s = .slice p n c) (hs : ZSl w B N (elT q) (elS q) (.slice p n c))
    (ad : Addr) (m c' : Nat) (news : List Value) (hx : a.eval x = .slice (some ad) m c') (hl : news.length = m * elS q) (hnews : ∀ j u, news[j]? = some u → w.cell? (ad.add j) = some u) (hnt : ∀ j u, news[j]? = some u → ZV w B N (kindAt (elT q) j) u) (hN : N ≤ N') (hnm : n + m ≤ N') (hb : N' ≤ 1000000000)
    (hK : ∀ a' cap w', ZSl w' B N' (elT q) (elS q) (.slice a' (n + m) cap) → Zone w' B N' → Zs B [] w w' → K (a.put o.dst (.slice a' (n + m) cap)) w') : if Region.wanted o (yielded ops a.tmps) = true then Oper.wp Tryz.prog o a w K Q else E := by
  have hw : Region.wanted o (yielded ops a.tmps) = true := by simp [Region.wanted, hgd]
  rw [if_pos hw]
  obtain ⟨a', cap, w', hr, h1, h2, h3⟩ := zone_append hty o.type h hB p n c hs ad m c' news hl hnews hnt hN hnm hb
  unfold Oper.wp execOp
  simp only [ho, resolve, invoke, builtin, Sem.run_bind, Sem.run_pure, Result.andThen_ok, List.map_toArray, List.map_cons, List.map_nil, he, hx, hr]
  exact hK a' cap w' h1 h2 h3

theorem u8_info : (Tryz.prog.info? 5).map (fun i => (i.zero, i.size, i.bytes)) = some (some (.int .u8 0), 1, 1) := by kernel_rfl
theorem at_info : (Tryz.prog.info? 109).map (fun i => (i.zero, i.size, i.bytes)) = some (some (.agg #[.slice none 0 0, .slice none 0 0]), 2, 48) := by kernel_rfl
theorem nd_info : (Tryz.prog.info? 26).map (fun i => (i.zero, i.size, i.bytes)) = some (some (.agg #[.int .i64 0, .slice none 0 0, .slice none 0 0, .slice none 0 0, .slice none 0 0]), 5, 104) := by kernel_rfl
theorem znil (w : World) (B N q : Nat) : ZV w B N (q + 2) (.slice none 0 0) := ⟨none, 0, 0, rfl, Nat.le_refl _, Nat.zero_le _, Nat.zero_le _, .inl ⟨rfl, rfl⟩⟩
theorem zty0 : ∃ i, ZTy 22 0 i (.int .u8 0) := by
  obtain ⟨i, h1, h2, h3, h4⟩ := info_parts u8_info
  refine ⟨i, Tryz.underlying22, h1, h2, h3, by omega, rfl, fun w B N r u hu => ?_⟩
  match r, hu with
  | 0, hu => simp [Value.cells] at hu; subst hu; exact ⟨0, rfl, by decide, by decide⟩
theorem zty1 : ∃ i, ZTy 23 1 i (.agg #[.slice none 0 0, .slice none 0 0]) := by
  obtain ⟨i, h1, h2, h3, h4⟩ := info_parts at_info
  refine ⟨i, Tryz.underlying23, h1, h2, h3, by omega, rfl, fun w B N r u hu => ?_⟩
  match r, hu with
  | 0, hu => simp [Value.cells] at hu; subst hu; exact znil w B N 0
  | 1, hu => simp [Value.cells] at hu; subst hu; exact znil w B N 0
theorem zty2 : ∃ i, ZTy 24 2 i (.agg #[.int .i64 0, .slice none 0 0, .slice none 0 0, .slice none 0 0, .slice none 0 0]) := by
  obtain ⟨i, h1, h2, h3, h4⟩ := info_parts nd_info
  refine ⟨i, Tryz.underlying24, h1, h2, h3, by omega, rfl, fun w B N r u hu => ?_⟩
  match r, hu with
  | 0, hu => simp [Value.cells] at hu; subst hu; exact ⟨0, rfl⟩
  | 1, hu => simp [Value.cells] at hu; subst hu; exact znil w B N 0
  | 2, hu => simp [Value.cells] at hu; subst hu; exact znil w B N 0
  | 3, hu => simp [Value.cells] at hu; subst hu; exact znil w B N 1
  | 4, hu => simp [Value.cells] at hu; subst hu; exact znil w B N 2
end Go.Proofs.YtaoodcielfabdaaGreat

/- A node in the zone, and the box of the tree as it grows. -/
namespace Go.Proofs.YtaoodcielfabdaaGreat
open Go.RowKit
set_option linter.unusedVariables false
set_option maxRecDepth 100000


def ZN (w : World) (B N : Nat) (u0 u1 u2 u3 u4 : Value) : Prop := (∃ x, u0 = .int .i64 x) ∧ ZSl w B N 5 1 u1 ∧ ZSl w B N 5 1 u2 ∧ ZSl w B N 109 2 u3 ∧ ZSl w B N 26 5 u4
theorem ZN.step {B N N' : Nat} {S : List Nat} {w w' : World} {u0 u1 u2 u3 u4 : Value} (h : ZN w B N u0 u1 u2 u3 u4) (z : Zs B S w w') (hN : N ≤ N') : ZN w' B N' u0 u1 u2 u3 u4 :=
  ⟨h.1, ZSl.step (q := 0) h.2.1 z hN, ZSl.step (q := 0) h.2.2.1 z hN, ZSl.step (q := 1) h.2.2.2.1 z hN, ZSl.step (q := 2) h.2.2.2.2 z hN⟩
/-- Five cells of a row of nodes. -/
theorem Zone.five {w : World} {B N : Nat} (h : Zone w B N) {g m : Nat} (hz : ZB w g 26 m) (hB : B ≤ g) (j : Nat) (hj : (j + 1) * 5 ≤ m) :
    ∃ u0 u1 u2 u3 u4, w.cell? ⟨g, j * 5, none⟩ = some u0 ∧ w.cell? ⟨g, j * 5 + 1, none⟩ = some u1 ∧ w.cell? ⟨g, j * 5 + 2, none⟩ = some u2 ∧ w.cell? ⟨g, j * 5 + 3, none⟩ = some u3 ∧ w.cell? ⟨g, j * 5 + 4, none⟩ = some u4 ∧ ZN w B N u0 u1 u2 u3 u4 ∧
      w.frozen? ⟨g, j * 5, none⟩ = false ∧ w.frozen? ⟨g, j * 5 + 1, none⟩ = false ∧ w.frozen? ⟨g, j * 5 + 2, none⟩ = false ∧ w.frozen? ⟨g, j * 5 + 3, none⟩ = false ∧ w.frozen? ⟨g, j * 5 + 4, none⟩ = false := by
  have e0 : j * 5 % 5 = 0 := by omega
  have e1 : (j * 5 + 1) % 5 = 1 := by omega
  have e2 : (j * 5 + 2) % 5 = 2 := by omega
  have e3 : (j * 5 + 3) % 5 = 3 := by omega
  have e4 : (j * 5 + 4) % 5 = 4 := by omega
  obtain ⟨u0, c0, t0, f0⟩ := h.cell hz (.inr (.inr rfl)) hB (i := j * 5) (by omega)
  obtain ⟨u1, c1, t1, f1⟩ := h.cell hz (.inr (.inr rfl)) hB (i := j * 5 + 1) (by omega)
  obtain ⟨u2, c2, t2, f2⟩ := h.cell hz (.inr (.inr rfl)) hB (i := j * 5 + 2) (by omega)
  obtain ⟨u3, c3, t3, f3⟩ := h.cell hz (.inr (.inr rfl)) hB (i := j * 5 + 3) (by omega)
  obtain ⟨u4, c4, t4, f4⟩ := h.cell hz (.inr (.inr rfl)) hB (i := j * 5 + 4) (by omega)
  simp only [kindAt, e0, if_true] at t0
  simp [kindAt, e1] at t1
  simp [kindAt, e2] at t2
  simp [kindAt, e3] at t3
  simp [kindAt, e4] at t4
  exact ⟨u0, u1, u2, u3, u4, c0, c1, c2, c3, c4, ⟨t0, t1, t2, t3, t4⟩, f0, f1, f2, f3, f4⟩
/-- What a cell of a node must be. -/
theorem ZN.at {w : World} {B N : Nat} {u0 u1 u2 u3 u4 : Value} (h : ZN w B N u0 u1 u2 u3 u4) : ∀ i v, (#[u0, u1, u2, u3, u4] : Array Value)[i]? = some v → ZV w B N (kindAt 26 i) v := by
  intro i v hv
  match i, hv with
  | 0, hv => simp at hv; subst hv; exact h.1
  | 1, hv => simp at hv; subst hv; exact h.2.1
  | 2, hv => simp at hv; subst hv; exact h.2.2.1
  | 3, hv => simp at hv; subst hv; exact h.2.2.2.1
  | 4, hv => simp at hv; subst hv; exact h.2.2.2.2
theorem ZN.zero (w : World) (B N : Nat) : ZN w B N (.int .i64 0) (.slice none 0 0) (.slice none 0 0) (.slice none 0 0) (.slice none 0 0) := ⟨⟨0, rfl⟩, znil w B N 0, znil w B N 0, znil w B N 1, znil w B N 2⟩
theorem ZN.shape {w : World} {B N : Nat} {u0 u1 u2 u3 u4 : Value} (h : ZN w B N u0 u1 u2 u3 u4) : ∃ kd a1 n1 c1 a2 n2 c2 a3 n3 c3 a4 n4 c4, u0 = .int .i64 kd ∧ u1 = .slice a1 n1 c1 ∧ u2 = .slice a2 n2 c2 ∧ u3 = .slice a3 n3 c3 ∧ u4 = .slice a4 n4 c4 := by
  obtain ⟨⟨x, rfl⟩, ⟨a1, n1, c1, rfl, _⟩, ⟨a2, n2, c2, rfl, _⟩, ⟨a3, n3, c3, rfl, _⟩, ⟨a4, n4, c4, rfl, _⟩⟩ := h
  exact ⟨x, a1, n1, c1, a2, n2, c2, a3, n3, c3, a4, n4, c4, rfl, rfl, rfl, rfl, rfl⟩
theorem notZ : ¬ isZ 134 := by unfold isZ; decide
theorem notZs : ¬ isZ 4 := by unfold isZ; decide
/-- The box of the tree as it grows: k + 1 nodes are open. -/
def XB (w : World) (B N xb k : Nat) (og c : Nat) (m : Int) (ov : Bool) : Prop := Loc w xb #[.slice (some ⟨og, 0, none⟩) (k + 1) c, .int .i64 m, .bool ov] 134 ∧ B ≤ og ∧ k + 1 ≤ c ∧ c ≤ maxLen ∧ ZB w og 26 (c * 5) ∧ k < 20 ∧ 0 ≤ m ∧ m ≤ N
theorem XB.zs {w w' : World} {B N N' xb k og c : Nat} {m : Int} {ov : Bool} (h : XB w B N xb k og c m ov) (z : Zs B [] w w') (hN : N ≤ N') : XB w' B N' xb k og c m ov :=
  ⟨h.1.zs z (by simp) notZ, h.2.1, h.2.2.1, h.2.2.2.1, z.zb _ _ _ (.inr (.inr rfl)) h.2.2.2.2.1, h.2.2.2.2.2.1, h.2.2.2.2.2.2.1, by have := h.2.2.2.2.2.2.2; omega⟩
/-- A change of a box that is none of the zone's. -/
theorem Zone.box {w : World} {B N g : Nat} {cs : Array Value} {T : TypeId} (h : Zone w B N) (hl : Loc w g cs T) (hT : ¬ isZ T) (hB : B ≤ g) (j : Nat) (v : Value) : Zone (w.setCell ⟨g, j, none⟩ v) B N ∧ Zs B [g] w (w.setCell ⟨g, j, none⟩ v) := by
  have hgl := hl.lt
  have ho := set_grownM w g j v
  have hg' := hl.set j v
  have hz : Zs B [g] w (w.setCell ⟨g, j, none⟩ v) := by
    refine ⟨ho.os, ho.tape, ho.output, ho.size, fun k hk => ho.block k (by omega) (by simp; omega), fun k T' m hT' hb => ?_, fun k hk hn _ => ho.block k hk (fun e => hn (by cases e; simp))⟩
    by_cases hk : k = g
    · subst hk
      obtain ⟨c1, f1, e1, s1⟩ := hb
      unfold Loc at hl
      rw [hl] at e1
      cases e1
      exact absurd hT' hT
    · exact hb.of (ho.block k hb.lt (by simpa using hk))
  refine ⟨fun k c1 T1 f1 hk hc hT1 => ?_, hz⟩
  by_cases hkg : k = g
  · subst hkg
    unfold Loc at hg'
    rw [hg'] at hc
    cases hc
    exact absurd hT1 hT
  · have hlt : k < w.heap.size := by have := (Array.getElem?_eq_some_iff.1 hc).1; simpa using this
    have hc' := hc
    rw [ho.block k hlt (by simpa using hkg)] at hc'
    obtain ⟨h1, h2⟩ := h k c1 T1 f1 hk hc' hT1
    exact ⟨h1, fun i v hi => (h2 i v hi).step hz (Nat.le_refl _)⟩
/-- A node was stored into a row of nodes. -/
theorem Zone.put5 {w : World} {B N : Nat} (h : Zone w B N) {g m : Nat} (hz : ZB w g 26 m) (hB : B ≤ g) (j : Nat) {u0 u1 u2 u3 u4 : Value} (hn : ZN w B N u0 u1 u2 u3 u4) :
    Zone (((((w.setCell ⟨g, j * 5, none⟩ u0).setCell ⟨g, j * 5 + 1, none⟩ u1).setCell ⟨g, j * 5 + 2, none⟩ u2).setCell ⟨g, j * 5 + 3, none⟩ u3).setCell ⟨g, j * 5 + 4, none⟩ u4) B N ∧
      Zs B [] w (((((w.setCell ⟨g, j * 5, none⟩ u0).setCell ⟨g, j * 5 + 1, none⟩ u1).setCell ⟨g, j * 5 + 2, none⟩ u2).setCell ⟨g, j * 5 + 3, none⟩ u3).setCell ⟨g, j * 5 + 4, none⟩ u4) := by
  have e0 : kindAt 26 (j * 5) = 1 := by simp [kindAt]
  have e1 : kindAt 26 (j * 5 + 1) = 2 := by have : (j * 5 + 1) % 5 = 1 := by omega
                                            simp [kindAt, this]
  have e2 : kindAt 26 (j * 5 + 2) = 2 := by have : (j * 5 + 2) % 5 = 2 := by omega
                                            simp [kindAt, this]
  have e3 : kindAt 26 (j * 5 + 3) = 3 := by have : (j * 5 + 3) % 5 = 3 := by omega
                                            simp [kindAt, this]
  have e4 : kindAt 26 (j * 5 + 4) = 4 := by have : (j * 5 + 4) % 5 = 4 := by omega
                                            simp [kindAt, this]
  obtain ⟨a0, z0⟩ := h.set (i := j * 5) (v := u0) (.inr (.inr rfl)) hB hz (by rw [e0]; exact hn.1)
  have hz0 := z0.zb _ _ _ (.inr (.inr rfl)) hz
  obtain ⟨a1, z1⟩ := a0.set (i := j * 5 + 1) (v := u1) (.inr (.inr rfl)) hB hz0 (by rw [e1]; exact (hn.step z0 (Nat.le_refl _)).2.1)
  have z01 := z0.trans z1
  have hz1 := z01.zb _ _ _ (.inr (.inr rfl)) hz
  obtain ⟨a2, z2⟩ := a1.set (i := j * 5 + 2) (v := u2) (.inr (.inr rfl)) hB hz1 (by rw [e2]; exact (hn.step z01 (Nat.le_refl _)).2.2.1)
  have z02 := z01.trans z2
  have hz2 := z02.zb _ _ _ (.inr (.inr rfl)) hz
  obtain ⟨a3, z3⟩ := a2.set (i := j * 5 + 3) (v := u3) (.inr (.inr rfl)) hB hz2 (by rw [e3]; exact (hn.step z02 (Nat.le_refl _)).2.2.2.1)
  have z03 := z02.trans z3
  have hz3 := z03.zb _ _ _ (.inr (.inr rfl)) hz
  obtain ⟨a4, z4⟩ := a3.set (i := j * 5 + 4) (v := u4) (.inr (.inr rfl)) hB hz3 (by rw [e4]; exact (hn.step z03 (Nat.le_refl _)).2.2.2.2)
  exact ⟨a4, z03.trans z4⟩
/-- Behind a step that may turn the box: k + 1 nodes are open. -/
def XQ (w : World) (B N xb k : Nat) (w' : World) : Prop := Zone w' B N ∧ Zs B [xb] w w' ∧ ∃ og c m ov, XB w' B N xb k og c m ov
theorem Zone.start (w : World) (N : Nat) : Zone w w.heap.size N := fun k cur T fz hk hc _ => by rw [Array.getElem?_eq_none (by omega)] at hc; cases hc
end Go.Proofs.YtaoodcielfabdaaGreat

/- spec.l3letter, spec.l3blank and spec.l3ref end; what they tell is in its bounds. -/
namespace Go.Proofs.YtaoodcielfabdaaGreat
open Go.RowKit
set_option linter.unusedVariables false
set_option maxRecDepth 100000


theorem Zs.drewN {B : Nat} {S : List Nat} {w w' : World} (h : Zs B S w w') (q : Nat) : Zs B S w (w'.drewN q) := ⟨h.os, h.tape, h.output, h.size, h.low, h.zb, h.oth⟩
theorem notZt : ¬ isZ 9 := by unfold isZ; decide
/-- A row of bytes that lies below the zone. -/
def RB (B : Nat) (v : Value) (l : List Int) (w : World) : Prop := ∃ W0 : World, W0.heap.size = B ∧ Byt W0 v l ∧ Below B W0 w
theorem RB.byt {B : Nat} {v : Value} {l : List Int} {w : World} (h : RB B v l w) : Byt w v l := by
  obtain ⟨W0, rfl, h1, h2⟩ := h
  exact h1.keep h2
theorem RB.zs {B : Nat} {v : Value} {l : List Int} {w w' : World} {S : List Nat} (h : RB B v l w) (z : Zs B S w w') : RB B v l w' := by
  obtain ⟨W0, h0, h1, h2⟩ := h
  exact ⟨W0, h0, h1, h2.trans z.below⟩
theorem Byt.part {w : World} {v : Value} {l : List Int} (h : Byt w v l) (k n : Nat) (hn : 0 < n) (hk : k + n ≤ l.length) : ∃ b off cap, v = .slice (some ⟨b, off, none⟩) l.length cap ∧ l.length ≤ cap ∧ Byt w (.slice (some ⟨b, off + k, none⟩) n (cap - k)) ((l.drop k).take n) := by
  have hel : ((l.drop k).take n).length = n := by simp; omega
  obtain ⟨hok, hm, ⟨rfl, rfl⟩ | ⟨x, c, rfl, _, rfl⟩ | ⟨b, off, cap, rfl, h1, h2, h3, h4, h5⟩⟩ := h
  · simp at hk; omega
  · simp at hk; omega
  · refine ⟨b, off, cap, rfl, h1, (hok.drop k).take n, by omega, .inr (.inr ⟨b, off + k, cap - k, by rw [hel], by omega, by omega, ?_, h4, fun i hi => ?_⟩)⟩
    · intro e; rw [e] at hel; simp at hel; omega
    · have hi' : i < n := by omega
      have := h5 (k + i) (by omega)
      rw [Nat.add_assoc, this]
      simp [hi', List.getElem?_drop]
def letB (x : Int) : Bool := (decide (97 ≤ x) && decide (x ≤ 122)) || (decide (65 ≤ x) && decide (x ≤ 90))
theorem l3letter_any (w : World) (x : Int) (h0 : 0 ≤ x) (h1 : x ≤ 255) : Calls Tryz.prog 117 #[.int .u8 x] w fun e w' => e = .returned (.bool (letB x)) ∧ w' = w := by
  unfold letB
  go_enter Tryz.func117, Tryz.ntmps117
  by_cases a1 : 97 ≤ x <;> by_cases a2 : x ≤ 122 <;> by_cases a3 : 65 ≤ x <;> by_cases a4 : x ≤ 90 <;> go_wp2 <;> go_ret <;> simp_all
theorem l3blank_any (w : World) (x : Int) (h0 : 0 ≤ x) (h1 : x ≤ 255) : Calls Tryz.prog 120 #[.int .u8 x] w fun e w' => ∃ b : Bool, e = .returned (.bool b) ∧ w' = w := by
  go_enter Tryz.func120, Tryz.ntmps120
  by_cases a1 : x = 32
  · subst a1; go_wp2; go_ret; exact ⟨_, rfl, rfl⟩
  by_cases a2 : x = 9
  · subst a2; go_wp2; go_ret; exact ⟨_, rfl, rfl⟩
  by_cases a3 : x = 10
  · subst a3; go_wp2; go_ret; exact ⟨_, rfl, rfl⟩
  go_wp2
  go_ret
  exact ⟨_, rfl, rfl⟩
set_option maxHeartbeats 12800000 in
theorem l3ref_any (w : World) (B N : Nat) (v : Value) (l : List Int) (i : Nat) (hZ : Zone w B N) (hB : B ≤ w.heap.size) (hR : RB B v l w) (hi : i < l.length) (hl : l.length ≤ 1500) :
    Calls Tryz.prog 119 #[v, .int .i64 (i : Int)] w fun e w' => ∃ (x : Int) (n : Nat), e = .returned (.tuple #[.int .u8 x, .int .i64 (n : Int)]) ∧ 0 ≤ x ∧ x ≤ 255 ∧ i + n ≤ l.length ∧ Zone w' B N ∧ Zs B [] w w' := by
  obtain ⟨vb, vo, vc, hv, hvc, _⟩ := hR.byt.part i 1 (by decide) (by omega)
  obtain ⟨hA, hAs⟩ := hZ.alloc (cs := #[.string ⟨#[38, 97, 109, 112, 59]⟩, .string ⟨#[38, 108, 116, 59]⟩, .string ⟨#[38, 103, 116, 59]⟩, .string ⟨#[38, 113, 117, 111, 116, 59]⟩]) (T := 9) hB (fun h => absurd h notZt)
  have lA := Loc.made w #[.string ⟨#[38, 97, 109, 112, 59]⟩, .string ⟨#[38, 108, 116, 59]⟩, .string ⟨#[38, 103, 116, 59]⟩, .string ⟨#[38, 113, 117, 111, 116, 59]⟩] 9
  have LL := hide (And.intro hA (And.intro hAs lA))
  clear hA hAs lA hZ
  go_enter Tryz.func119, Tryz.ntmps119
  subst hv
  go_wp2_with fail
  generalize (w.alloc (.cells #[.string ⟨#[38, 97, 109, 112, 59]⟩, .string ⟨#[38, 108, 116, 59]⟩, .string ⟨#[38, 103, 116, 59]⟩, .string ⟨#[38, 113, 117, 111, 116, 59]⟩] 9)) = w1 at *
  obtain ⟨hA, hAs, lA⟩ := unhide LL
  clear LL
  generalize w.heap.size = tb at *
  go_loopw [7] (fun q wr => ∃ j : Nat, j ≤ 4 ∧ q = .int .i64 (j : Int) ∧ Zone wr B N ∧ Zs B [] w wr ∧ Loc wr tb #[.string ⟨#[38, 97, 109, 112, 59]⟩, .string ⟨#[38, 108, 116, 59]⟩, .string ⟨#[38, 103, 116, 59]⟩, .string ⟨#[38, 113, 117, 111, 116, 59]⟩] 9) (fun q _ => 4 - (intOf q).toNat)
  case atStart => exact ⟨0, by omega, rfl, hA, hAs, lA⟩
  case round =>
    clear hA hAs lA
    obtain ⟨j, hj, rfl, hZr, hsr, hT⟩ := hrel
    have hbr := (hR.zs hsr).byt
    match j, hj with
    | 4, _ =>
      have HE := hide (And.intro hZr hsr)
      clear hZr hsr hT hbr
      go_wp2_with fail
      go_ret2
      exact ⟨0, 0, rfl, by decide, by decide, by omega, (unhide HE).1, (unhide HE).2⟩
    | 0, _ =>
      have e0 : wr.cell? ⟨tb, 0, none⟩ = some (.string ⟨#[38, 97, 109, 112, 59]⟩) := hT.cell 0
      by_cases hle : i + 5 ≤ l.length
      · have hd : decide ((i : Int) + 5 ≤ (l.length : Int)) = true := by simp; omega
        obtain ⟨_, _, _, e5, _, hby⟩ := hbr.part i 5 (by decide) hle
        cases e5
        have cx := fun q => conv_any (wr.drewN q) _ ((l.drop i).take 5) (hby.keep (below_drewN (Below.refl _ _) q))
        have hlm : ((l.drop i).take 5).length = 5 := by simp; omega
        generalize str ((l.drop i).take 5) = s1 at *
        have h1 : (i : Int) ≤ (i : Int) + 5 := by omega
        have h2 : (i : Int) + 5 ≤ (vc : Int) := by omega
        have h3 : (0 : Int) ≤ (i : Int) := by omega
        have h4 : (0 : Int) ≤ (i : Int) + 5 := by omega
        have h5 : (i : Int) + 5 ≤ (l.length : Int) := by omega
        clear hby hlm hbr
        cases hs : (s1.toList == [38, 97, 109, 112, 59]) with
        | true =>
          have HE := hide (And.intro hZr hsr)
          clear hZr hsr hT
          go_wp2_with fail
          go_quiet (fail)
          go_wp2_with fail
          go_ret2
          exact ⟨38, 5, rfl, by decide, by decide, hle, (unhide HE).1, (unhide HE).2.drewN _⟩
        | false =>
          have HE := hide (And.intro hZr (And.intro hsr hT))
          clear hZr hsr hT
          go_wp2_with fail
          go_quiet (fail)
          go_wp2_with fail
          go_roundw
          case rel => exact ⟨1, by decide, rfl, (unhide HE).1, (unhide HE).2.1.drewN _, (unhide HE).2.2⟩
          case measure => simp [intOf]
      · have hd : decide ((i : Int) + 5 ≤ (l.length : Int)) = false := by simp; omega
        have HE := hide (And.intro hZr (And.intro hsr hT))
        clear hZr hsr hT hbr
        go_wp2_with fail
        go_quiet (fail)
        go_wp2_with fail
        go_roundw
        case rel => exact ⟨1, by decide, rfl, (unhide HE).1, (unhide HE).2.1.drewN _, (unhide HE).2.2⟩
        case measure => simp [intOf]
    | 1, _ =>
      have e1 : wr.cell? ⟨tb, 1, none⟩ = some (.string ⟨#[38, 108, 116, 59]⟩) := hT.cell 1
      by_cases hle : i + 4 ≤ l.length
      · have hd : decide ((i : Int) + 4 ≤ (l.length : Int)) = true := by simp; omega
        obtain ⟨_, _, _, e5, _, hby⟩ := hbr.part i 4 (by decide) hle
        cases e5
        have cx := fun q => conv_any (wr.drewN q) _ ((l.drop i).take 4) (hby.keep (below_drewN (Below.refl _ _) q))
        have hlm : ((l.drop i).take 4).length = 4 := by simp; omega
        generalize str ((l.drop i).take 4) = s1 at *
        have h1 : (i : Int) ≤ (i : Int) + 4 := by omega
        have h2 : (i : Int) + 4 ≤ (vc : Int) := by omega
        have h3 : (0 : Int) ≤ (i : Int) := by omega
        have h4 : (0 : Int) ≤ (i : Int) + 4 := by omega
        have h5 : (i : Int) + 4 ≤ (l.length : Int) := by omega
        clear hby hlm hbr
        cases hs : (s1.toList == [38, 108, 116, 59]) with
        | true =>
          have HE := hide (And.intro hZr hsr)
          clear hZr hsr hT
          go_wp2_with fail
          go_quiet (fail)
          go_wp2_with fail
          go_ret2
          exact ⟨60, 4, rfl, by decide, by decide, hle, (unhide HE).1, (unhide HE).2.drewN _⟩
        | false =>
          have HE := hide (And.intro hZr (And.intro hsr hT))
          clear hZr hsr hT
          go_wp2_with fail
          go_quiet (fail)
          go_wp2_with fail
          go_roundw
          case rel => exact ⟨2, by decide, rfl, (unhide HE).1, (unhide HE).2.1.drewN _, (unhide HE).2.2⟩
          case measure => simp [intOf]
      · have hd : decide ((i : Int) + 4 ≤ (l.length : Int)) = false := by simp; omega
        have HE := hide (And.intro hZr (And.intro hsr hT))
        clear hZr hsr hT hbr
        go_wp2_with fail
        go_quiet (fail)
        go_wp2_with fail
        go_roundw
        case rel => exact ⟨2, by decide, rfl, (unhide HE).1, (unhide HE).2.1.drewN _, (unhide HE).2.2⟩
        case measure => simp [intOf]
    | 2, _ =>
      have e2 : wr.cell? ⟨tb, 2, none⟩ = some (.string ⟨#[38, 103, 116, 59]⟩) := hT.cell 2
      by_cases hle : i + 4 ≤ l.length
      · have hd : decide ((i : Int) + 4 ≤ (l.length : Int)) = true := by simp; omega
        obtain ⟨_, _, _, e5, _, hby⟩ := hbr.part i 4 (by decide) hle
        cases e5
        have cx := fun q => conv_any (wr.drewN q) _ ((l.drop i).take 4) (hby.keep (below_drewN (Below.refl _ _) q))
        have hlm : ((l.drop i).take 4).length = 4 := by simp; omega
        generalize str ((l.drop i).take 4) = s1 at *
        have h1 : (i : Int) ≤ (i : Int) + 4 := by omega
        have h2 : (i : Int) + 4 ≤ (vc : Int) := by omega
        have h3 : (0 : Int) ≤ (i : Int) := by omega
        have h4 : (0 : Int) ≤ (i : Int) + 4 := by omega
        have h5 : (i : Int) + 4 ≤ (l.length : Int) := by omega
        clear hby hlm hbr
        cases hs : (s1.toList == [38, 103, 116, 59]) with
        | true =>
          have HE := hide (And.intro hZr hsr)
          clear hZr hsr hT
          go_wp2_with fail
          go_quiet (fail)
          go_wp2_with fail
          go_ret2
          exact ⟨62, 4, rfl, by decide, by decide, hle, (unhide HE).1, (unhide HE).2.drewN _⟩
        | false =>
          have HE := hide (And.intro hZr (And.intro hsr hT))
          clear hZr hsr hT
          go_wp2_with fail
          go_quiet (fail)
          go_wp2_with fail
          go_roundw
          case rel => exact ⟨3, by decide, rfl, (unhide HE).1, (unhide HE).2.1.drewN _, (unhide HE).2.2⟩
          case measure => simp [intOf]
      · have hd : decide ((i : Int) + 4 ≤ (l.length : Int)) = false := by simp; omega
        have HE := hide (And.intro hZr (And.intro hsr hT))
        clear hZr hsr hT hbr
        go_wp2_with fail
        go_quiet (fail)
        go_wp2_with fail
        go_roundw
        case rel => exact ⟨3, by decide, rfl, (unhide HE).1, (unhide HE).2.1.drewN _, (unhide HE).2.2⟩
        case measure => simp [intOf]
    | 3, _ =>
      have e3 : wr.cell? ⟨tb, 3, none⟩ = some (.string ⟨#[38, 113, 117, 111, 116, 59]⟩) := hT.cell 3
      by_cases hle : i + 6 ≤ l.length
      · have hd : decide ((i : Int) + 6 ≤ (l.length : Int)) = true := by simp; omega
        obtain ⟨_, _, _, e5, _, hby⟩ := hbr.part i 6 (by decide) hle
        cases e5
        have cx := fun q => conv_any (wr.drewN q) _ ((l.drop i).take 6) (hby.keep (below_drewN (Below.refl _ _) q))
        have hlm : ((l.drop i).take 6).length = 6 := by simp; omega
        generalize str ((l.drop i).take 6) = s1 at *
        have h1 : (i : Int) ≤ (i : Int) + 6 := by omega
        have h2 : (i : Int) + 6 ≤ (vc : Int) := by omega
        have h3 : (0 : Int) ≤ (i : Int) := by omega
        have h4 : (0 : Int) ≤ (i : Int) + 6 := by omega
        have h5 : (i : Int) + 6 ≤ (l.length : Int) := by omega
        clear hby hlm hbr
        cases hs : (s1.toList == [38, 113, 117, 111, 116, 59]) with
        | true =>
          have HE := hide (And.intro hZr hsr)
          clear hZr hsr hT
          go_wp2_with fail
          go_quiet (fail)
          go_wp2_with fail
          go_ret2
          exact ⟨34, 6, rfl, by decide, by decide, hle, (unhide HE).1, (unhide HE).2.drewN _⟩
        | false =>
          have HE := hide (And.intro hZr (And.intro hsr hT))
          clear hZr hsr hT
          go_wp2_with fail
          go_quiet (fail)
          go_wp2_with fail
          go_roundw
          case rel => exact ⟨4, by decide, rfl, (unhide HE).1, (unhide HE).2.1.drewN _, (unhide HE).2.2⟩
          case measure => simp [intOf]
      · have hd : decide ((i : Int) + 6 ≤ (l.length : Int)) = false := by simp; omega
        have HE := hide (And.intro hZr (And.intro hsr hT))
        clear hZr hsr hT hbr
        go_wp2_with fail
        go_quiet (fail)
        go_wp2_with fail
        go_roundw
        case rel => exact ⟨4, by decide, rfl, (unhide HE).1, (unhide HE).2.1.drewN _, (unhide HE).2.2⟩
        case measure => simp [intOf]
    | n + 5, h => omega
end Go.Proofs.YtaoodcielfabdaaGreat

/- spec.l3name ends, in the zone. -/
namespace Go.Proofs.YtaoodcielfabdaaGreat
open Go.RowKit
set_option linter.unusedVariables false
set_option maxRecDepth 100000


theorem Byt.cellAt {w : World} {v : Value} {l : List Int} (h : Byt w v l) (j : Nat) (hj : j < l.length) : ∃ b off cap, v = .slice (some ⟨b, off, none⟩) l.length cap ∧ w.cell? ⟨b, off + j, none⟩ = some (.int .u8 (l.getD j 0)) ∧ 0 ≤ l.getD j 0 ∧ l.getD j 0 ≤ 255 := by
  obtain ⟨hok, hm, ⟨rfl, rfl⟩ | ⟨x, c, rfl, _, rfl⟩ | ⟨b, off, cap, rfl, h1, h2, h3, h4, h5⟩⟩ := h
  · simp at hj
  · simp at hj
  · exact ⟨b, off, cap, rfl, h5 j hj, by rw [List.getD_eq_getElem?_getD]; exact hok.at j⟩
set_option maxHeartbeats 12800000 in
theorem l3name_any (w : World) (B N : Nat) (v : Value) (l : List Int) (i : Nat) (hZ : Zone w B N) (hB : B ≤ w.heap.size) (hR : RB B v l w) (hi : i ≤ l.length) (hl : l.length ≤ 1500) (hN1 : 2000 ≤ N) (hN : N ≤ 900000000) :
    Calls Tryz.prog 150 #[v, .int .i64 (i : Int)] w fun e w' => ∃ a n c i', e = .returned (.tuple #[.slice a n c, .int .i64 ((i' : Nat) : Int)]) ∧ ZSl w' B N 5 1 (.slice a n c) ∧ i ≤ i' ∧ i' ≤ l.length ∧ (i < l.length → letB (l.getD i 0) = true → i < i') ∧ Zone w' B N ∧ Zs B [] w w' := by
  obtain ⟨va, vc, hv, hvc, hvm⟩ := hR.byt.shape
  subst hv
  obtain ⟨iz, hty⟩ := zty0
  go_enter Tryz.func150, Tryz.ntmps150
  go_wp2_with fail
  go_loopw [1, 6] (fun p o wr => ∃ (j : Nat) (oa : Option Addr) (oc : Nat), i ≤ j ∧ j ≤ l.length ∧ p = .int .i64 (j : Int) ∧ o = .slice oa (j - i) oc ∧ ZSl wr B N 5 1 (.slice oa (j - i) oc) ∧ Zone wr B N ∧ Zs B [] w wr) (fun p _ _ => l.length - (intOf p).toNat)
  case atStart => exact ⟨i, none, 0, Nat.le_refl _, hi, rfl, by simp, by rw [Nat.sub_self]; exact znil w B N 0, hZ, Zs.refl _ _ _⟩
  case round =>
    clear hZ
    obtain ⟨j, oa, oc, hij, hjl, rfl, rfl, ho, hZr, hsr⟩ := hrel
    have hBr : B ≤ wr.heap.size := Nat.le_trans hB hsr.size
    have hbr := (hR.zs hsr).byt
    by_cases hlt : j < l.length
    · have hlt' : (j : Int) < (l.length : Int) := by omega
      have hj0 : (0 : Int) ≤ (j : Int) := by omega
      obtain ⟨vb, vo, _, e5, cl, hx0, hx1⟩ := hbr.cellAt j hlt
      cases e5
      obtain ⟨x, hx⟩ : ∃ x, x = l.getD j 0 := ⟨_, rfl⟩
      rw [← hx] at cl hx0 hx1
      have HX := hide hx
      clear hbr hlt hx
      cases hlx : letB x with
      | true =>
        by_cases hup : 65 ≤ x ∧ x ≤ 90
        · obtain ⟨hu1, hu2⟩ := hup
          obtain ⟨hA, hAs⟩ := hZr.alloc (cs := #[.int .u8 (x + 32)]) (T := 5) hBr (fun _ i v hv => by
            match i, hv with
            | 0, hv => simp at hv; subst hv; exact ⟨x + 32, rfl, by omega, by omega⟩)
          have hsA := ZSl.step (q := 0) ho hAs (Nat.le_refl _)
          have hszA : B ≤ (wr.alloc (.cells #[.int .u8 (x + 32)] 5)).heap.size := by simp; omega
          have HH := hide (And.intro hA (And.intro hAs (And.intro hsA hszA)))
          clear hA hAs hsA hszA
          go_wp2_with fail
          refine (l3letter_any _ x hx0 hx1).mono ?_
          rintro e wr ⟨rfl, rfl⟩
          rw [hlx]
          clear hlx
          go_wp2_with (at_builtin; refine wpList_zapp hty rfl _ _ rfl (unhide HH).1 (unhide HH).2.2.2 oa (j - i) oc rfl (unhide HH).2.2.1 ⟨wr.heap.size, 0, none⟩ 1 1 [.int .u8 (x + 32)] rfl rfl (cell_one_new _ _ _) ?ht (Nat.le_refl N) (by omega) (by omega) ?_)
          case ht =>
            intro i v hv
            match i, hv with
            | 0, hv => simp at hv; subst hv; exact ⟨x + 32, rfl, by omega, by omega⟩
          intro a9 cap9 w9 k1 k2 k3
          have hz9 := hsr.trans ((unhide HH).2.1.trans k3)
          clear HH
          have hn9 : j - i + 1 = j + 1 - i := by omega
          rw [hn9] at k1 ⊢
          have HE := hide (And.intro k1 (And.intro k2 hz9))
          clear k1 k2 k3 hz9 cl hZr hsr ho
          go_wp2_with fail
          go_roundw
          case rel => exact ⟨j + 1, a9, cap9, by omega, by omega, by go_num, rfl, (unhide HE).1, (unhide HE).2.1, (unhide HE).2.2⟩
          case measure => simp [intOf]; omega
        · by_cases hu1 : x ≤ 90
          · have hu2 : ¬ 65 ≤ x := by omega
            clear hup
            obtain ⟨hA, hAs⟩ := hZr.alloc (cs := #[.int .u8 (x)]) (T := 5) hBr (fun _ i v hv => by
              match i, hv with
              | 0, hv => simp at hv; subst hv; exact ⟨x, rfl, by omega, by omega⟩)
            have hsA := ZSl.step (q := 0) ho hAs (Nat.le_refl _)
            have hszA : B ≤ (wr.alloc (.cells #[.int .u8 (x)] 5)).heap.size := by simp; omega
            have HH := hide (And.intro hA (And.intro hAs (And.intro hsA hszA)))
            clear hA hAs hsA hszA
            go_wp2_with fail
            refine (l3letter_any _ x hx0 hx1).mono ?_
            rintro e wr ⟨rfl, rfl⟩
            rw [hlx]
            clear hlx
            go_wp2_with (at_builtin; refine wpList_zapp hty rfl _ _ rfl (unhide HH).1 (unhide HH).2.2.2 oa (j - i) oc rfl (unhide HH).2.2.1 ⟨wr.heap.size, 0, none⟩ 1 1 [.int .u8 (x)] rfl rfl (cell_one_new _ _ _) ?ht (Nat.le_refl N) (by omega) (by omega) ?_)
            case ht =>
              intro i v hv
              match i, hv with
              | 0, hv => simp at hv; subst hv; exact ⟨x, rfl, by omega, by omega⟩
            intro a9 cap9 w9 k1 k2 k3
            have hz9 := hsr.trans ((unhide HH).2.1.trans k3)
            clear HH
            have hn9 : j - i + 1 = j + 1 - i := by omega
            rw [hn9] at k1 ⊢
            have HE := hide (And.intro k1 (And.intro k2 hz9))
            clear k1 k2 k3 hz9 cl hZr hsr ho
            go_wp2_with fail
            go_roundw
            case rel => exact ⟨j + 1, a9, cap9, by omega, by omega, by go_num, rfl, (unhide HE).1, (unhide HE).2.1, (unhide HE).2.2⟩
            case measure => simp [intOf]; omega
          · have hu3 : ¬ x ≤ 90 := hu1
            clear hup hu1
            obtain ⟨hA, hAs⟩ := hZr.alloc (cs := #[.int .u8 (x)]) (T := 5) hBr (fun _ i v hv => by
              match i, hv with
              | 0, hv => simp at hv; subst hv; exact ⟨x, rfl, by omega, by omega⟩)
            have hsA := ZSl.step (q := 0) ho hAs (Nat.le_refl _)
            have hszA : B ≤ (wr.alloc (.cells #[.int .u8 (x)] 5)).heap.size := by simp; omega
            have HH := hide (And.intro hA (And.intro hAs (And.intro hsA hszA)))
            clear hA hAs hsA hszA
            go_wp2_with fail
            refine (l3letter_any _ x hx0 hx1).mono ?_
            rintro e wr ⟨rfl, rfl⟩
            rw [hlx]
            clear hlx
            go_wp2_with (at_builtin; refine wpList_zapp hty rfl _ _ rfl (unhide HH).1 (unhide HH).2.2.2 oa (j - i) oc rfl (unhide HH).2.2.1 ⟨wr.heap.size, 0, none⟩ 1 1 [.int .u8 (x)] rfl rfl (cell_one_new _ _ _) ?ht (Nat.le_refl N) (by omega) (by omega) ?_)
            case ht =>
              intro i v hv
              match i, hv with
              | 0, hv => simp at hv; subst hv; exact ⟨x, rfl, by omega, by omega⟩
            intro a9 cap9 w9 k1 k2 k3
            have hz9 := hsr.trans ((unhide HH).2.1.trans k3)
            clear HH
            have hn9 : j - i + 1 = j + 1 - i := by omega
            rw [hn9] at k1 ⊢
            have HE := hide (And.intro k1 (And.intro k2 hz9))
            clear k1 k2 k3 hz9 cl hZr hsr ho
            go_wp2_with fail
            go_roundw
            case rel => exact ⟨j + 1, a9, cap9, by omega, by omega, by go_num, rfl, (unhide HE).1, (unhide HE).2.1, (unhide HE).2.2⟩
            case measure => simp [intOf]; omega
      | false =>
        by_cases hdg : 48 ≤ x ∧ x ≤ 57
        · obtain ⟨hd1, hd2⟩ := hdg
          have hu1 : x ≤ 90 := by omega
          have hu2 : ¬ 65 ≤ x := by omega
          obtain ⟨hA, hAs⟩ := hZr.alloc (cs := #[.int .u8 (x)]) (T := 5) hBr (fun _ i v hv => by
            match i, hv with
            | 0, hv => simp at hv; subst hv; exact ⟨x, rfl, by omega, by omega⟩)
          have hsA := ZSl.step (q := 0) ho hAs (Nat.le_refl _)
          have hszA : B ≤ (wr.alloc (.cells #[.int .u8 (x)] 5)).heap.size := by simp; omega
          have HH := hide (And.intro hA (And.intro hAs (And.intro hsA hszA)))
          clear hA hAs hsA hszA
          go_wp2_with fail
          refine (l3letter_any _ x hx0 hx1).mono ?_
          rintro e wr ⟨rfl, rfl⟩
          rw [hlx]
          clear hlx
          go_wp2_with (at_builtin; refine wpList_zapp hty rfl _ _ rfl (unhide HH).1 (unhide HH).2.2.2 oa (j - i) oc rfl (unhide HH).2.2.1 ⟨wr.heap.size, 0, none⟩ 1 1 [.int .u8 (x)] rfl rfl (cell_one_new _ _ _) ?ht (Nat.le_refl N) (by omega) (by omega) ?_)
          case ht =>
            intro i v hv
            match i, hv with
            | 0, hv => simp at hv; subst hv; exact ⟨x, rfl, by omega, by omega⟩
          intro a9 cap9 w9 k1 k2 k3
          have hz9 := hsr.trans ((unhide HH).2.1.trans k3)
          clear HH
          have hn9 : j - i + 1 = j + 1 - i := by omega
          rw [hn9] at k1 ⊢
          have HE := hide (And.intro k1 (And.intro k2 hz9))
          clear k1 k2 k3 hz9 cl hZr hsr ho
          go_wp2_with fail
          go_roundw
          case rel => exact ⟨j + 1, a9, cap9, by omega, by omega, by go_num, rfl, (unhide HE).1, (unhide HE).2.1, (unhide HE).2.2⟩
          case measure => simp [intOf]; omega
        · have HE := hide (show ZSl wr B N 5 1 (.slice oa (j - i) oc) ∧ i ≤ j ∧ j ≤ l.length ∧ (i < l.length → letB (l.getD i 0) = true → i < j) ∧ Zone wr B N ∧ Zs B [] w wr from ⟨ho, hij, hjl, (fun _ h => by
            rcases Nat.lt_or_ge i j with h' | h'
            · exact h'
            · obtain rfl : i = j := by omega
              rw [← unhide HX, hlx] at h
              cases h), hZr, hsr⟩)
          clear ho hZr hsr
          by_cases hd1 : 48 ≤ x
          · have hd2 : ¬ x ≤ 57 := by omega
            clear hdg
            go_wp2_with fail
            refine (l3letter_any _ x hx0 hx1).mono ?_
            rintro e wr ⟨rfl, rfl⟩
            rw [hlx]
            clear hlx
            go_wp2_with fail
            go_ret2
            exact ⟨oa, j - i, oc, j, rfl, unhide HE⟩
          · have hd2 : ¬ 48 ≤ x := hd1
            clear hdg hd1
            go_wp2_with fail
            refine (l3letter_any _ x hx0 hx1).mono ?_
            rintro e wr ⟨rfl, rfl⟩
            rw [hlx]
            clear hlx
            go_wp2_with fail
            go_ret2
            exact ⟨oa, j - i, oc, j, rfl, unhide HE⟩
    · have hlt' : ¬ (j : Int) < (l.length : Int) := by omega
      have HE := hide (show ZSl wr B N 5 1 (.slice oa (j - i) oc) ∧ i ≤ j ∧ j ≤ l.length ∧ (i < l.length → letB (l.getD i 0) = true → i < j) ∧ Zone wr B N ∧ Zs B [] w wr from ⟨ho, hij, hjl, fun _ _ => by omega, hZr, hsr⟩)
      clear ho hZr hsr hbr hlt
      go_wp2_with fail
      go_ret2
      exact ⟨oa, j - i, oc, j, rfl, unhide HE⟩
end Go.Proofs.YtaoodcielfabdaaGreat

/- spec.l3attr ends, in the zone. -/
namespace Go.Proofs.YtaoodcielfabdaaGreat
open Go.RowKit
set_option linter.unusedVariables false
set_option maxRecDepth 100000


theorem Zone.two {w : World} {B N : Nat} (h : Zone w B N) {g : Nat} (hz : ZB w g 109 2) (hB : B ≤ g) :
    ∃ a1 n1 c1 a2 n2 c2, w.cell? ⟨g, 0, none⟩ = some (.slice a1 n1 c1) ∧ w.cell? ⟨g, 1, none⟩ = some (.slice a2 n2 c2) ∧ ZSl w B N 5 1 (.slice a1 n1 c1) ∧ ZSl w B N 5 1 (.slice a2 n2 c2) ∧ w.frozen? ⟨g, 0, none⟩ = false ∧ w.frozen? ⟨g, 1, none⟩ = false := by
  obtain ⟨u0, c0, t0, f0⟩ := h.cell hz (.inr (.inl rfl)) hB (i := 0) (by decide)
  obtain ⟨u1, c1, t1, f1⟩ := h.cell hz (.inr (.inl rfl)) hB (i := 1) (by decide)
  have t0' : ZSl w B N 5 1 u0 := t0
  have t1' : ZSl w B N 5 1 u1 := t1
  obtain ⟨a1, n1, k1, rfl, _⟩ := id t0'
  obtain ⟨a2, n2, k2, rfl, _⟩ := id t1'
  exact ⟨a1, n1, k1, a2, n2, k2, c0, c1, t0', t1', f0, f1⟩
theorem Zone.put2 {w : World} {B N : Nat} (h : Zone w B N) {g : Nat} (hz : ZB w g 109 2) (hB : B ≤ g) {u0 u1 : Value} (h0 : ZSl w B N 5 1 u0) (h1 : ZSl w B N 5 1 u1) :
    Zone ((w.setCell ⟨g, 0, none⟩ u0).setCell ⟨g, 1, none⟩ u1) B N ∧ Zs B [] w ((w.setCell ⟨g, 0, none⟩ u0).setCell ⟨g, 1, none⟩ u1) ∧ ((w.setCell ⟨g, 0, none⟩ u0).setCell ⟨g, 1, none⟩ u1).cell? ⟨g, 0, none⟩ = some u0 ∧ ((w.setCell ⟨g, 0, none⟩ u0).setCell ⟨g, 1, none⟩ u1).cell? ⟨g, 1, none⟩ = some u1 := by
  obtain ⟨a0, z0⟩ := h.set (i := 0) (v := u0) (.inr (.inl rfl)) hB hz h0
  have hz0 := z0.zb _ _ _ (.inr (.inl rfl)) hz
  obtain ⟨a1, z1⟩ := a0.set (i := 1) (v := u1) (.inr (.inl rfl)) hB hz0 (ZSl.step (q := 0) h1 z0 (Nat.le_refl _))
  refine ⟨a1, z0.trans z1, ?_, ?_⟩
  · obtain ⟨cur, fz, hg, hs⟩ := hz
    have e1 := heap_set_mark _ g 1 _ _ _ u1 (heap_set_mark w g 0 cur _ fz u0 hg)
    rw [cell_of_row _ g 0 _ _ _ e1]
    simp [hs]
  · obtain ⟨cur, fz, hg, hs⟩ := hz
    have e1 := heap_set_mark _ g 1 _ _ _ u1 (heap_set_mark w g 0 cur _ fz u0 hg)
    rw [cell_of_row _ g 1 _ _ _ e1]
    simp [hs]
set_option maxHeartbeats 25600000 in
theorem l3attr_any (w : World) (B N : Nat) (v : Value) (l : List Int) (i : Nat) (hZ : Zone w B N) (hB : B ≤ w.heap.size) (hR : RB B v l w) (hi : i ≤ l.length) (hl : l.length ≤ 1500) (hN1 : 2000 ≤ N) (hN : N ≤ 900000000) :
    Calls Tryz.prog 151 #[v, .int .i64 (i : Int)] w fun e w' => ∃ a1 n1 c1 a2 n2 c2 i', e = .returned (.tuple #[.agg #[.slice a1 n1 c1, .slice a2 n2 c2], .int .i64 ((i' : Nat) : Int)]) ∧ ZSl w' B N 5 1 (.slice a1 n1 c1) ∧ ZSl w' B N 5 1 (.slice a2 n2 c2) ∧ i ≤ i' ∧ i' ≤ l.length ∧ (i < l.length → letB (l.getD i 0) = true → i < i') ∧ Zone w' B N ∧ Zs B [] w w' := by
  obtain ⟨va, vc, hv, hvc, hvm⟩ := hR.byt.shape
  subst hv
  have zat : ∀ (W : World) (i : Nat) (v : Value), (#[.slice none 0 0, .slice none 0 0] : Array Value)[i]? = some v → ZV W B N (kindAt 109 i) v := fun W i v hv => by
    match i, hv with
    | 0, hv => simp at hv; subst hv; exact znil W B N 0
    | 1, hv => simp at hv; subst hv; exact znil W B N 0
  obtain ⟨hA4, hs4⟩ := hZ.alloc (cs := #[.slice none 0 0, .slice none 0 0]) (T := 109) hB (fun _ => zat w)
  have hb4 := ZB.made w #[.slice none 0 0, .slice none 0 0] 109
  obtain ⟨hA6, hs6⟩ := hA4.alloc (cs := #[.slice none 0 0, .slice none 0 0]) (T := 109) (by simp; omega) (fun _ => zat _)
  have hb6 := ZB.made (w.alloc (.cells #[.slice none 0 0, .slice none 0 0] 109)) #[.slice none 0 0, .slice none 0 0] 109
  have hb4' := hs6.zb _ _ _ (.inr (.inl rfl)) hb4
  have hz46 := hs4.trans hs6
  simp only [World.size_alloc] at hb6
  have HN := hide (l3name_any _ B N _ l i hA6 (by simp; omega) (hR.zs hz46) hi hl hN1 hN)
  have LL := hide (And.intro hz46 (And.intro hb4' hb6))
  clear hA4 hs4 hb4 hA6 hs6 hb6 hb4' hz46 zat hZ
  go_enter Tryz.func151, Tryz.ntmps151
  go_wp2_with fail
  refine (unhide HN).mono ?_
  rintro e w3 ⟨na, nn, nc, i1, rfl, hn3, hi1, hi2, hpg, hZ3, hs3⟩
  clear HN
  obtain ⟨hz46, hb4, hb6⟩ := unhide LL
  clear LL
  have hB0 := hB
  generalize hp4e : w.heap.size = p4 at hb4 hb6 hB ⊢
  have hp6 : B ≤ p4 + 1 := by omega
  have hp4 : B ≤ p4 := by omega
  have hs2w0 := hz46.trans hs3
  have hb6 := hs3.zb _ _ _ (.inr (.inl rfl)) hb6
  have hb4 := hs3.zb _ _ _ (.inr (.inl rfl)) hb4
  obtain ⟨_, _, _, _, _, _, _, _, _, _, g0, _⟩ := hZ3.two hb6 hp6
  obtain ⟨_, _, _, _, _, _, c60, _, _, _, _, _⟩ := hZ3.two hb6 hp6
  obtain ⟨hZ4, hz4⟩ := hZ3.set (i := 0) (v := .slice na nn nc) (.inr (.inl rfl)) hp6 hb6 hn3
  have hb6 := hz4.zb _ _ _ (.inr (.inl rfl)) hb6
  have hb4 := hz4.zb _ _ _ (.inr (.inl rfl)) hb4
  have hs2w := hs2w0.trans hz4
  have LL := hide (And.intro hZ4 (And.intro hb6 (And.intro hb4 hs2w)))
  clear hZ4 hz4 hs2w0 hb6 hb4 hs2w hZ3 hs3 hn3 hz46
  go_upto_region 3 with fail
  generalize (w3.setCell ⟨p4 + 1, 0, none⟩ (.slice na nn nc)) = w4 at *
  clear c60 g0
  obtain ⟨hZ4, hb6, hb4, hs2w⟩ := unhide LL
  clear LL
  replace hb6 : ZB w4 (p4 + 1) 109 2 := hb6
  replace hb4 : ZB w4 p4 109 2 := hb4
  have hbr := (hR.zs hs2w).byt
  have hzr0 := Zs.refl B [] w4
  by_cases hge : l.length ≤ i1
  · have hge' : (l.length : Int) ≤ (i1 : Int) := by omega
    obtain ⟨d1, m1, k1, d2, m2, k2, r1, r2, hs1, hs2, _, _⟩ := hZ4.two (hzr0.zb _ _ _ (.inr (.inl rfl)) hb6) hp6
    obtain ⟨_, _, _, _, _, _, r3, r4, _, _, g3, g4⟩ := hZ4.two (hzr0.zb _ _ _ (.inr (.inl rfl)) hb4) hp4
    obtain ⟨hZ5, hz5, t1, t2⟩ := hZ4.put2 (hzr0.zb _ _ _ (.inr (.inl rfl)) hb4) hp4 hs1 hs2
    have HE := hide (And.intro (ZSl.step (q := 0) hs1 hz5 (Nat.le_refl _)) (And.intro (ZSl.step (q := 0) hs2 hz5 (Nat.le_refl _)) (And.intro hZ5 ((hs2w.trans hzr0).trans hz5))))
    have T1 := hide (And.intro t1 t2)
    clear hZ5 hz5 t1 t2 hs1 hs2
    go_wp2_with fail
    obtain ⟨t1, t2⟩ := unhide T1
    generalize ((w4.setCell ⟨p4, 0, none⟩ (.slice d1 m1 k1)).setCell ⟨p4, 1, none⟩ (.slice d2 m2 k2)) = w9 at *
    exact bodyPost_ret (v := .tuple #[.agg #[.slice d1 m1 k1, .slice d2 m2 k2], .int .i64 ((i1 : Nat) : Int)]) (by simp [results, Tryz.results151, go_sem, t1, t2]) rfl ⟨d1, m1, k1, d2, m2, k2, i1, rfl, (unhide HE).1, (unhide HE).2.1, by omega, by omega, hpg, (unhide HE).2.2.1, (unhide HE).2.2.2⟩
  have hlt : i1 < l.length := by omega
  have hlt' : ¬ (l.length : Int) ≤ (i1 : Int) := by omega
  have hi0 : (0 : Int) ≤ (i1 : Int) := by omega
  have hlt2 : (i1 : Int) < (l.length : Int) := by omega
  obtain ⟨vb, vo, _, e5, cl, hx0, hx1⟩ := hbr.cellAt i1 hlt
  cases e5
  generalize l.getD i1 0 = x at cl hx0 hx1
  by_cases hx61 : ¬ x = 61
  · have hxb : (x == 61) = false := by simpa using hx61
    obtain ⟨d1, m1, k1, d2, m2, k2, r1, r2, hs1, hs2, _, _⟩ := hZ4.two (hzr0.zb _ _ _ (.inr (.inl rfl)) hb6) hp6
    obtain ⟨_, _, _, _, _, _, r3, r4, _, _, g3, g4⟩ := hZ4.two (hzr0.zb _ _ _ (.inr (.inl rfl)) hb4) hp4
    obtain ⟨hZ5, hz5, t1, t2⟩ := hZ4.put2 (hzr0.zb _ _ _ (.inr (.inl rfl)) hb4) hp4 hs1 hs2
    have HE := hide (And.intro (ZSl.step (q := 0) hs1 hz5 (Nat.le_refl _)) (And.intro (ZSl.step (q := 0) hs2 hz5 (Nat.le_refl _)) (And.intro hZ5 ((hs2w.trans hzr0).trans hz5))))
    have T1 := hide (And.intro t1 t2)
    clear hZ5 hz5 t1 t2 hs1 hs2
    go_wp2_with fail
    obtain ⟨t1, t2⟩ := unhide T1
    generalize ((w4.setCell ⟨p4, 0, none⟩ (.slice d1 m1 k1)).setCell ⟨p4, 1, none⟩ (.slice d2 m2 k2)) = w9 at *
    exact bodyPost_ret (v := .tuple #[.agg #[.slice d1 m1 k1, .slice d2 m2 k2], .int .i64 ((i1 : Nat) : Int)]) (by simp [results, Tryz.results151, go_sem, t1, t2]) rfl ⟨d1, m1, k1, d2, m2, k2, i1, rfl, (unhide HE).1, (unhide HE).2.1, by omega, by omega, hpg, (unhide HE).2.2.1, (unhide HE).2.2.2⟩
  obtain rfl : x = 61 := by omega
  clear hx61
  go_upto_region 7 with fail
  clear cl
  obtain ⟨j1, hj1⟩ : ∃ j1, j1 = i1 + 1 := ⟨_, rfl⟩
  have hj1' : (i1 : Int) + 1 = (j1 : Int) := by omega
  rw [hj1']
  have HJ1 := hide hj1
  have HPG := hide hpg
  clear hpg hlt' hlt2 hge hx0 hx1 hj1' hj1 hi0
  go_cut [49] from 32 to 49 (fun t wx => ∃ bb : Bool, t = .bool bb ∧ (bb = true → j1 < l.length) ∧ wx = w4)
  case first =>
    by_cases hlt5 : j1 < l.length
    · have hlt' : (j1 : Int) < (l.length : Int) := by omega
      obtain ⟨_, _, _, e5, cl, hx0, hx1⟩ := hbr.cellAt j1 hlt5
      cases e5
      generalize l.getD j1 0 = x at cl hx0 hx1
      have hi01 : (0 : Int) ≤ (j1 : Int) := by omega
      have HL := hide hlt5
      clear hlt5 hlt
      by_cases h34 : x = 34
      · subst h34
        go_wp2_with fail
        go_meet
        exact ⟨_, rfl, (fun _ => unhide HL), rfl⟩
      · have hb34 : (x == 34) = false := by simpa using h34
        go_wp2_with fail
        go_meet
        exact ⟨_, rfl, (fun _ => unhide HL), rfl⟩
    · have hlt' : ¬ (j1 : Int) < (l.length : Int) := by omega
      clear hlt5 hlt
      go_wp2_with fail
      go_meet
      exact ⟨false, rfl, (fun h => by cases h), rfl⟩
  case rest =>
  obtain ⟨bb, rfl, hbb, hw⟩ := hcut
  subst wc
  have HBB := hide hbb
  clear hbb
  go_upto_if 49 with fail
  go_cut [1, 7] from 50 to 55 (fun p q wx => ∃ (j : Nat) (qv : Int), p = .int .i64 (j : Int) ∧ q = .int .u8 qv ∧ i1 < j ∧ j ≤ l.length ∧ 0 ≤ qv ∧ qv ≤ 255 ∧ wx = w4)
  case first =>
    cases bb with
    | true =>
      have hlt5 := unhide HBB rfl
      have hlt' : (j1 : Int) < (l.length : Int) := by omega
      obtain ⟨_, _, _, e5, cl, hx0, hx1⟩ := hbr.cellAt j1 hlt5
      cases e5
      generalize l.getD j1 0 = x at cl hx0 hx1
      have hi01 : (0 : Int) ≤ (j1 : Int) := by omega
      have HL := hide hlt5
      clear hlt5 hlt
      go_wp2_with fail
      go_meet
      have hj1 := unhide HJ1
      have hlt5 := unhide HL
      exact ⟨j1 + 1, x, by go_num, rfl, by omega, by omega, hx0, hx1, rfl⟩
    | false =>
      go_wp2_with fail
      go_meet
      have hj1 := unhide HJ1
      exact ⟨j1, 0, rfl, rfl, by omega, by omega, by decide, by decide, rfl⟩
  case rest =>
  obtain ⟨j0, qv, rfl, rfl, hj0, hj0l, hq0, hq1, hw⟩ := hcut
  subst wc
  clear HBB HJ1 hlt
  go_wp2_with fail
  go_loopw [1] (fun p wr => ∃ (j : Nat), p = .int .i64 (j : Int) ∧ i1 < j ∧ j ≤ l.length ∧ Zone wr B N ∧ Zs B [] w4 wr) (fun p _ => l.length - (intOf p).toNat)
  case atStart => exact ⟨j0, rfl, hj0, hj0l, hZ4, Zs.refl _ _ _⟩
  case round =>
    obtain ⟨j, rfl, hj1, hjl, hZr, hsr⟩ := hrel
    have hbr := (hR.zs (hs2w.trans hsr)).byt
    have HJ := hide (And.intro hj1 hjl)
    have hjz : (0 : Int) ≤ (j : Int) := by omega
    clear hj1 hjl hZ4 hj0 hj0l
    go_upto_region 10 with fail
    go_cut [86] from 56 to 119 (fun t wx => ∃ bb : Bool, t = .bool bb ∧ (bb = true → j < l.length) ∧ wx = wr)
    case first =>
      by_cases hlt5 : j < l.length
      · have hlt' : (j : Int) < (l.length : Int) := by omega
        obtain ⟨_, _, _, e5, cl, hx0, hx1⟩ := hbr.cellAt j hlt5
        cases e5
        generalize l.getD j 0 = x at cl hx0 hx1
        have HL := hide hlt5
        clear hlt5
        by_cases hxq : x = qv
        · subst hxq
          go_wp2_with fail
          go_meet
          exact ⟨_, rfl, (fun _ => unhide HL), rfl⟩
        · have hxb : (x == qv) = false := by simpa using hxq
          by_cases hqz : qv = 0
          · subst hqz
            go_wp2_with fail
            refine (l3blank_any _ x hx0 hx1).mono ?_
            rintro e wr ⟨b9, rfl, rfl⟩
            cases b9 with
            | true =>
              go_wp2_with fail
              go_meet
              exact ⟨_, rfl, (fun _ => unhide HL), rfl⟩
            | false =>
              go_wp2_with fail
              go_meet
              exact ⟨_, rfl, (fun _ => unhide HL), rfl⟩
          · have hqb : (qv == 0) = false := by simpa using hqz
            go_wp2_with fail
            go_meet
            exact ⟨_, rfl, (fun _ => unhide HL), rfl⟩
      · have hlt' : ¬ (j : Int) < (l.length : Int) := by omega
        clear hlt5
        go_wp2_with fail
        go_meet
        exact ⟨false, rfl, (fun h => by cases h), rfl⟩
    case rest =>
    obtain ⟨bb, rfl, hbb, hw⟩ := hcut
    subst wc
    obtain ⟨hj1, hjl⟩ := unhide HJ
    cases bb with
    | false =>
      by_cases hqz : qv = 0
      · subst hqz
        obtain ⟨d1, m1, k1, d2, m2, k2, r1, r2, hs1, hs2, _, _⟩ := hZr.two (hsr.zb _ _ _ (.inr (.inl rfl)) hb6) hp6
        obtain ⟨_, _, _, _, _, _, r3, r4, _, _, g3, g4⟩ := hZr.two (hsr.zb _ _ _ (.inr (.inl rfl)) hb4) hp4
        obtain ⟨hZ5, hz5, t1, t2⟩ := hZr.put2 (hsr.zb _ _ _ (.inr (.inl rfl)) hb4) hp4 hs1 hs2
        have HE := hide (And.intro (ZSl.step (q := 0) hs1 hz5 (Nat.le_refl _)) (And.intro (ZSl.step (q := 0) hs2 hz5 (Nat.le_refl _)) (And.intro hZ5 ((hs2w.trans hsr).trans hz5))))
        have T1 := hide (And.intro t1 t2)
        clear hZ5 hz5 t1 t2 hs1 hs2
        go_wp2_with fail
        obtain ⟨t1, t2⟩ := unhide T1
        generalize ((wr.setCell ⟨p4, 0, none⟩ (.slice d1 m1 k1)).setCell ⟨p4, 1, none⟩ (.slice d2 m2 k2)) = w9 at *
        exact bodyPost_ret (v := .tuple #[.agg #[.slice d1 m1 k1, .slice d2 m2 k2], .int .i64 ((j : Nat) : Int)]) (by simp [results, Tryz.results151, go_sem, t1, t2]) rfl ⟨d1, m1, k1, d2, m2, k2, j, rfl, (unhide HE).1, (unhide HE).2.1, by omega, by omega, (fun h1 h2 => by have := unhide HPG h1 h2; omega), (unhide HE).2.2.1, (unhide HE).2.2.2⟩
      · have hqb : (qv == 0) = false := by simpa using hqz
        by_cases hlt5 : j < l.length
        · have hlt' : (j : Int) < (l.length : Int) := by omega
          obtain ⟨d1, m1, k1, d2, m2, k2, r1, r2, hs1, hs2, _, _⟩ := hZr.two (hsr.zb _ _ _ (.inr (.inl rfl)) hb6) hp6
          obtain ⟨_, _, _, _, _, _, r3, r4, _, _, g3, g4⟩ := hZr.two (hsr.zb _ _ _ (.inr (.inl rfl)) hb4) hp4
          obtain ⟨hZ5, hz5, t1, t2⟩ := hZr.put2 (hsr.zb _ _ _ (.inr (.inl rfl)) hb4) hp4 hs1 hs2
          have HE := hide (And.intro (ZSl.step (q := 0) hs1 hz5 (Nat.le_refl _)) (And.intro (ZSl.step (q := 0) hs2 hz5 (Nat.le_refl _)) (And.intro hZ5 ((hs2w.trans hsr).trans hz5))))
          have T1 := hide (And.intro t1 t2)
          clear hZ5 hz5 t1 t2 hs1 hs2
          go_wp2_with fail
          obtain ⟨t1, t2⟩ := unhide T1
          generalize ((wr.setCell ⟨p4, 0, none⟩ (.slice d1 m1 k1)).setCell ⟨p4, 1, none⟩ (.slice d2 m2 k2)) = w9 at *
          exact bodyPost_ret (v := .tuple #[.agg #[.slice d1 m1 k1, .slice d2 m2 k2], .int .i64 (((j + 1) : Nat) : Int)]) (by simp [results, Tryz.results151, go_sem, t1, t2]) rfl ⟨d1, m1, k1, d2, m2, k2, (j + 1), rfl, (unhide HE).1, (unhide HE).2.1, by omega, by omega, (fun h1 h2 => by have := unhide HPG h1 h2; omega), (unhide HE).2.2.1, (unhide HE).2.2.2⟩
        · have hlt' : ¬ (j : Int) < (l.length : Int) := by omega
          obtain ⟨d1, m1, k1, d2, m2, k2, r1, r2, hs1, hs2, _, _⟩ := hZr.two (hsr.zb _ _ _ (.inr (.inl rfl)) hb6) hp6
          obtain ⟨_, _, _, _, _, _, r3, r4, _, _, g3, g4⟩ := hZr.two (hsr.zb _ _ _ (.inr (.inl rfl)) hb4) hp4
          obtain ⟨hZ5, hz5, t1, t2⟩ := hZr.put2 (hsr.zb _ _ _ (.inr (.inl rfl)) hb4) hp4 hs1 hs2
          have HE := hide (And.intro (ZSl.step (q := 0) hs1 hz5 (Nat.le_refl _)) (And.intro (ZSl.step (q := 0) hs2 hz5 (Nat.le_refl _)) (And.intro hZ5 ((hs2w.trans hsr).trans hz5))))
          have T1 := hide (And.intro t1 t2)
          clear hZ5 hz5 t1 t2 hs1 hs2
          go_wp2_with fail
          obtain ⟨t1, t2⟩ := unhide T1
          generalize ((wr.setCell ⟨p4, 0, none⟩ (.slice d1 m1 k1)).setCell ⟨p4, 1, none⟩ (.slice d2 m2 k2)) = w9 at *
          exact bodyPost_ret (v := .tuple #[.agg #[.slice d1 m1 k1, .slice d2 m2 k2], .int .i64 ((j : Nat) : Int)]) (by simp [results, Tryz.results151, go_sem, t1, t2]) rfl ⟨d1, m1, k1, d2, m2, k2, j, rfl, (unhide HE).1, (unhide HE).2.1, by omega, by omega, (fun h1 h2 => by have := unhide HPG h1 h2; omega), (unhide HE).2.2.1, (unhide HE).2.2.2⟩
    | true =>
      have hlt5 := hbb rfl
      clear hbb
      have hlt' : (j : Int) < (l.length : Int) := by omega
      have HF := hide (l3ref_any wr B N _ l j hZr (Nat.le_trans (Nat.le_trans hB0 hs2w.size) hsr.size) (hR.zs (hs2w.trans hsr)) hlt5 hl)
      clear hZr
      go_wp2_with fail
      refine (unhide HF).mono ?_
      rintro e w5 ⟨x, n, rfl, hx0, hx1, hjn, hZ5, hs5⟩
      clear HF
      have hs45 := hsr.trans hs5
      have hB5 : B ≤ w5.heap.size := Nat.le_trans (Nat.le_trans hB0 hs2w.size) hs45.size
      obtain ⟨_, _, _, d2, m2, k2, _, c61, _, hsv, _, g61⟩ := hZ5.two (hs45.zb _ _ _ (.inr (.inl rfl)) hb6) hp6
      clear hsr hs5
      by_cases hn0 : n = 0
      · subst hn0
        have hbr5 := (hR.zs (hs2w.trans hs45)).byt
        obtain ⟨_, _, _, e5, cl, hy0, hy1⟩ := hbr5.cellAt j hlt5
        cases e5
        generalize l.getD j 0 = y at cl hy0 hy1
        clear hx0 hx1 hjn hbr5 hbr
        have HJ9 := hide (show i1 < j + 1 ∧ j + 1 ≤ l.length ∧ j < j + 1 from ⟨by omega, by omega, by omega⟩)
        by_cases h32 : ¬ 32 ≤ y
        · have HE := hide (And.intro hZ5 hs45)
          clear hZ5 hs45 hsv
          go_wp2_with fail
          go_roundw
          case rel => exact ⟨j + 1, by go_num, (unhide HJ9).1, (unhide HJ9).2.1, (unhide HE).1, (unhide HE).2⟩
          case measure => have := unhide HJ9; simp [intOf]; omega
        have h32' : 32 ≤ y := by omega
        clear h32
        by_cases h126 : ¬ y ≤ 126
        · have HE := hide (And.intro hZ5 hs45)
          clear hZ5 hs45 hsv
          go_wp2_with fail
          go_roundw
          case rel => exact ⟨j + 1, by go_num, (unhide HJ9).1, (unhide HJ9).2.1, (unhide HE).1, (unhide HE).2⟩
          case measure => have := unhide HJ9; simp [intOf]; omega
        have h126' : y ≤ 126 := by omega
        clear h126
        by_cases h30 : ¬ m2 < 30
        · have h30' : ¬ (m2 : Int) < 30 := by omega
          have HE := hide (And.intro hZ5 hs45)
          clear hZ5 hs45 hsv h30
          go_wp2_with fail
          go_roundw
          case rel => exact ⟨j + 1, by go_num, (unhide HJ9).1, (unhide HJ9).2.1, (unhide HE).1, (unhide HE).2⟩
          case measure => have := unhide HJ9; simp [intOf]; omega
        have h30' : (m2 : Int) < 30 := by omega
        clear h30
        obtain ⟨hA, hAs⟩ := hZ5.alloc (cs := #[.int .u8 y]) (T := 5) hB5 (fun _ i v hv => by
          match i, hv with
          | 0, hv => simp at hv; subst hv; exact ⟨y, rfl, by omega, by omega⟩)
        have hsA := ZSl.step (q := 0) hsv hAs (Nat.le_refl _)
        have hszA : B ≤ (w5.alloc (.cells #[.int .u8 y] 5)).heap.size := by simp; omega
        have HH := hide (And.intro hA (And.intro (hs45.trans hAs) (And.intro hsA hszA)))
        clear hA hAs hsA hszA hZ5 hs45 hsv
        obtain ⟨iz, hty⟩ := zty0
        go_wp2_with (at_builtin; refine wpList_zapp hty rfl _ _ rfl (unhide HH).1 (unhide HH).2.2.2 d2 m2 k2 rfl (unhide HH).2.2.1 ⟨w5.heap.size, 0, none⟩ 1 1 [.int .u8 y] rfl rfl (cell_one_new _ _ _) ?ht (Nat.le_refl N) (by omega) (by omega) ?_)
        case ht =>
          intro i v hv
          match i, hv with
          | 0, hv => simp at hv; subst hv; exact ⟨y, rfl, by omega, by omega⟩
        intro a9 cap9 w9 q1 q2 q3
        have hz9 := (unhide HH).2.1.trans q3
        clear HH c61 g61
        have hb9 := hz9.zb _ _ _ (.inr (.inl rfl)) hb6
        obtain ⟨_, _, _, _, _, _, _, c61, _, _, _, g61⟩ := q2.two hb9 hp6
        obtain ⟨hZ8, hz8⟩ := q2.set (i := 1) (v := .slice a9 (m2 + 1) cap9) (.inr (.inl rfl)) hp6 hb9 q1
        have HE := hide (And.intro hZ8 (hz9.trans hz8))
        clear hZ8 hz8 hz9 hb9 q1 q2 q3
        go_wp2_with fail
        go_roundw
        case rel => exact ⟨j + 1, by go_num, (unhide HJ9).1, (unhide HJ9).2.1, (unhide HE).1, (unhide HE).2⟩
        case measure => have := unhide HJ9; simp [intOf]; omega
      · have hnb : ((n : Int) == 0) = false := by simp; omega
        clear hbr
        have HJ9 := hide (show i1 < j + n ∧ j + n ≤ l.length ∧ j < j + n from ⟨by omega, by omega, by omega⟩)
        by_cases h32 : ¬ 32 ≤ x
        · have HE := hide (And.intro hZ5 hs45)
          clear hZ5 hs45 hsv
          go_wp2_with fail
          go_roundw
          case rel => exact ⟨j + n, by go_num, (unhide HJ9).1, (unhide HJ9).2.1, (unhide HE).1, (unhide HE).2⟩
          case measure => have := unhide HJ9; simp [intOf]; omega
        have h32' : 32 ≤ x := by omega
        clear h32
        by_cases h126 : ¬ x ≤ 126
        · have HE := hide (And.intro hZ5 hs45)
          clear hZ5 hs45 hsv
          go_wp2_with fail
          go_roundw
          case rel => exact ⟨j + n, by go_num, (unhide HJ9).1, (unhide HJ9).2.1, (unhide HE).1, (unhide HE).2⟩
          case measure => have := unhide HJ9; simp [intOf]; omega
        have h126' : x ≤ 126 := by omega
        clear h126
        by_cases h30 : ¬ m2 < 30
        · have h30' : ¬ (m2 : Int) < 30 := by omega
          have HE := hide (And.intro hZ5 hs45)
          clear hZ5 hs45 hsv h30
          go_wp2_with fail
          go_roundw
          case rel => exact ⟨j + n, by go_num, (unhide HJ9).1, (unhide HJ9).2.1, (unhide HE).1, (unhide HE).2⟩
          case measure => have := unhide HJ9; simp [intOf]; omega
        have h30' : (m2 : Int) < 30 := by omega
        clear h30
        obtain ⟨hA, hAs⟩ := hZ5.alloc (cs := #[.int .u8 x]) (T := 5) hB5 (fun _ i v hv => by
          match i, hv with
          | 0, hv => simp at hv; subst hv; exact ⟨x, rfl, by omega, by omega⟩)
        have hsA := ZSl.step (q := 0) hsv hAs (Nat.le_refl _)
        have hszA : B ≤ (w5.alloc (.cells #[.int .u8 x] 5)).heap.size := by simp; omega
        have HH := hide (And.intro hA (And.intro (hs45.trans hAs) (And.intro hsA hszA)))
        clear hA hAs hsA hszA hZ5 hs45 hsv
        obtain ⟨iz, hty⟩ := zty0
        go_wp2_with (at_builtin; refine wpList_zapp hty rfl _ _ rfl (unhide HH).1 (unhide HH).2.2.2 d2 m2 k2 rfl (unhide HH).2.2.1 ⟨w5.heap.size, 0, none⟩ 1 1 [.int .u8 x] rfl rfl (cell_one_new _ _ _) ?ht (Nat.le_refl N) (by omega) (by omega) ?_)
        case ht =>
          intro i v hv
          match i, hv with
          | 0, hv => simp at hv; subst hv; exact ⟨x, rfl, by omega, by omega⟩
        intro a9 cap9 w9 q1 q2 q3
        have hz9 := (unhide HH).2.1.trans q3
        clear HH c61 g61
        have hb9 := hz9.zb _ _ _ (.inr (.inl rfl)) hb6
        obtain ⟨_, _, _, _, _, _, _, c61, _, _, _, g61⟩ := q2.two hb9 hp6
        obtain ⟨hZ8, hz8⟩ := q2.set (i := 1) (v := .slice a9 (m2 + 1) cap9) (.inr (.inl rfl)) hp6 hb9 q1
        have HE := hide (And.intro hZ8 (hz9.trans hz8))
        clear hZ8 hz8 hz9 hb9 q1 q2 q3
        go_wp2_with fail
        go_roundw
        case rel => exact ⟨j + n, by go_num, (unhide HJ9).1, (unhide HJ9).2.1, (unhide HE).1, (unhide HE).2⟩
        case measure => have := unhide HJ9; simp [intOf]; omega
end Go.Proofs.YtaoodcielfabdaaGreat

/- spec.NameOk and spec.l2text answer the plain tests' Booleans. -/
namespace Go.Proofs.YtaoodcielfabdaaGreat
open Go.RowKit
set_option linter.unusedVariables false

theorem nameS_b (w : World) (v : Value) (l : List Int) (h : Byt w v l) : Calls Tryz.prog 83 #[v] w fun e w' => e = .returned (.bool (nameB l)) ∧ w' = w := by
  by_cases hn : NameOk l
  · rw [(nameB_iff l).2 hn]; exact nameS_yes w v l h hn
  · rw [Bool.eq_false_iff.2 (fun k => hn ((nameB_iff l).1 k))]; exact nameS_no w v l h hn
theorem textS_b (w : World) (v : Value) (l : List Int) (h : Byt w v l) : Calls Tryz.prog 79 #[v] w fun e w' => e = .returned (.bool (textB l)) ∧ w' = w := by
  by_cases hn : TextOk l
  · rw [(textB_iff l).2 hn]; exact textS_yes w v l h hn
  · rw [Bool.eq_false_iff.2 (fun k => hn ((textB_iff l).1 k))]; exact textS_no w v l h hn

end Go.Proofs.YtaoodcielfabdaaGreat

/- spec.l3keep ends, in the zone. -/
namespace Go.Proofs.YtaoodcielfabdaaGreat
open Go.RowKit
set_option linter.unusedVariables false
set_option maxRecDepth 100000


theorem Zone.stretch {w : World} {B N q g c : Nat} (h : Zone w B N) (hz : ZB w g (elT q) (c * elS q)) (hB : B ≤ g) (o m : Nat) (hom : o + m ≤ c) :
    ∃ news : List Value, news.length = m * elS q ∧ (∀ j u, news[j]? = some u → w.cell? ((⟨g, o * elS q, none⟩ : Addr).add j) = some u) ∧ ∀ j u, news[j]? = some u → ZV w B N (kindAt (elT q) j) u := by
  obtain ⟨cur, fz, hg, hs⟩ := hz
  have hle : o * elS q + m * elS q ≤ c * elS q := by rw [← Nat.add_mul]; exact Nat.mul_le_mul_right _ hom
  have key : ∀ j u, ((cur.toList.drop (o * elS q)).take (m * elS q))[j]? = some u → cur[o * elS q + j]? = some u := fun j u hj => by
    rw [List.getElem?_take] at hj
    split at hj
    · rw [List.getElem?_drop] at hj
      simpa using hj
    · cases hj
  refine ⟨(cur.toList.drop (o * elS q)).take (m * elS q), by simp; omega, fun j u hj => ?_, fun j u hj => ?_⟩
  · rw [add_plain, cell_of_row w g _ cur _ fz hg]
    exact key j u hj
  · have := (h g cur _ fz hB hg (isZ_elT q)).2 _ u (key j u hj)
    rwa [kind_per] at this
theorem wpList_zapp0 {w : World} {t : TypeId} {q : Nat} {i : TypeInfo} {z : Value} (hty : ZTy t q i z) {ops : Array Oper} {rest : List Oper} {o : Oper} {a : Act} {Q : Exit → Act → World → Prop} (hgd : o.guard = none) (s x : Operand)
    (ho : o.op = .call { callee := .builtin .append, args := #[s, x], argTypes := #[t, t] }) (p : Option Addr) (n c : Nat) (he : a.eval s = .slice p n c) (hnc : n ≤ c) (hx : a.eval x = .slice none 0 0)
    (hK : wpList Tryz.prog ops Q rest (a.put o.dst (.slice p n c)) w) : wpList Tryz.prog ops Q (o :: rest) a w := by
  refine wpList_plain hgd fun K hK' => ?_
  have hr : (Builtin.append_ #[t, t] o.type #[.slice p n c, .slice none 0 0]).run Tryz.prog w = .ok (.slice p n c) w := by
    cases p <;> simp [Builtin.append_, run_underlying hty.und, sizeOf, typeInfo, hty.inf, Builtin.lenOf, Builtin.firstCells, hnc, storeCells]
  unfold Oper.wp execOp
  simp only [ho, resolve, invoke, builtin, Sem.run_bind, Sem.run_pure, Result.andThen_ok, List.map_toArray, List.map_cons, List.map_nil, he, hx, hr]
  exact hK' _ _ hK
theorem ZA.at {w : World} {B N : Nat} {u0 u1 : Value} (h0 : ZSl w B N 5 1 u0) (h1 : ZSl w B N 5 1 u1) : ∀ i v, (#[u0, u1] : Array Value)[i]? = some v → ZV w B N (kindAt 109 i) v := by
  intro i v hv
  match i, hv with
  | 0, hv => simp at hv; subst hv; exact h0
  | 1, hv => simp at hv; subst hv; exact h1
set_option maxHeartbeats 25600000 in
theorem l3keep_any (w : World) (B N : Nat) (la : Option Addr) (ln lc : Nat) (a1 : Option Addr) (n1 c1 : Nat) (a2 : Option Addr) (n2 c2 : Nat) (hZ : Zone w B N) (hB : B ≤ w.heap.size) (hl : ZSl w B N 109 2 (.slice la ln lc)) (h1 : ZSl w B N 5 1 (.slice a1 n1 c1)) (h2 : ZSl w B N 5 1 (.slice a2 n2 c2)) (hN1 : 2000 ≤ N) (hN : N ≤ 900000000) :
    Calls Tryz.prog 152 #[.slice la ln lc, .agg #[.slice a1 n1 c1, .slice a2 n2 c2]] w fun e w' => ∃ a n c, e = .returned (.slice a n c) ∧ ZSl w' B N 109 2 (.slice a n c) ∧ Zone w' B N ∧ Zs B [] w w' := by
  obtain ⟨hA, hAs⟩ := hZ.alloc (cs := #[.slice a1 n1 c1, .slice a2 n2 c2]) (T := 109) hB (fun _ => ZA.at h1 h2)
  have hbx := ZB.made w #[.slice a1 n1 c1, .slice a2 n2 c2] 109
  have hlb := Loc.made w #[.slice a1 n1 c1, .slice a2 n2 c2] 109
  have hsz : (w.alloc (.cells #[.slice a1 n1 c1, .slice a2 n2 c2] 109)).heap.size = w.heap.size + 1 := by simp
  have LL := hide (And.intro hA (And.intro hAs (And.intro hbx (And.intro hlb hsz))))
  clear hA hAs hbx hlb hsz hZ
  go_enter Tryz.func152, Tryz.ntmps152
  go_upto_region 1 with fail
  generalize (w.alloc (.cells #[.slice a1 n1 c1, .slice a2 n2 c2] 109)) = w1 at *
  obtain ⟨hA, hAs, hbx, hlb, hsz⟩ := unhide LL
  clear LL
  have hB0 := hB
  generalize hpb : w.heap.size = pb at hbx hlb hsz hB ⊢
  replace hbx : ZB w1 pb 109 2 := hbx
  have hl1 := ZSl.step (q := 1) hl hAs (Nat.le_refl _)
  obtain ⟨nl, hby, _⟩ := hA.byt (ZSl.step (q := 0) h1 hAs (Nat.le_refl _)) (by omega)
  have HV := hide (nameS_b w1 _ nl hby)
  have z0 : w1.cell? ⟨pb, 0, none⟩ = some (.slice a1 n1 c1) := hlb.cell 0
  have z1 : w1.cell? ⟨pb, 1, none⟩ = some (.slice a2 n2 c2) := hlb.cell 1
  have HA := hide (And.intro hA (And.intro hAs (And.intro hl1 hbx)))
  have HB1 := hide hby
  clear hA hAs hbx hlb hl1 hby hl h1 h2
  go_wp2_with fail
  refine (unhide HV).mono ?_
  rintro e w1 ⟨rfl, rfl⟩
  clear HV
  cases hnb : nameB nl with
  | false =>
    clear hnb
    go_wp2_with fail
    go_ret
    exact ⟨la, ln, lc, rfl, (unhide HA).2.2.1, (unhide HA).1, (unhide HA).2.1⟩
  | true =>
  clear hnb
  by_cases h4 : 4 ≤ ln
  · have h4' : (4 : Int) ≤ (ln : Int) := by omega
    clear h4
    go_wp2_with fail
    go_ret
    exact ⟨la, ln, lc, rfl, (unhide HA).2.2.1, (unhide HA).1, (unhide HA).2.1⟩
  have h4' : ¬ (4 : Int) ≤ (ln : Int) := by omega
  go_wp2_with fail
  clear h4'
  obtain ⟨hA, hAs, hl1, hbx⟩ := unhide HA
  clear HA
  obtain ⟨iz, hty⟩ := zty1
  go_loopw [5] (fun p wr => ∃ j : Nat, j ≤ ln ∧ p = .int .i64 (j : Int) ∧ Below w1.heap.size w1 wr ∧ Zone wr B N ∧ Zs B [] w1 wr) (fun p _ => ln - (intOf p).toNat)
  case atStart => exact ⟨0, Nat.zero_le _, rfl, Below.refl _ _, hA, Zs.refl _ _ _⟩
  case round =>
    obtain ⟨j, hj, rfl, hBr, hZr, hsr⟩ := hrel
    have zr0 := (hBr.cell (p := ⟨pb, 0, none⟩) (lt_of_cell z0)).trans z0
    have zr1 := (hBr.cell (p := ⟨pb, 1, none⟩) (lt_of_cell z1)).trans z1
    have hb1 := (unhide HB1).keep hBr
    have cx := fun q => conv_any (wr.drewN q) _ nl (hb1.keep (below_drewN (Below.refl _ _) q))
    have hl2 := ZSl.step (q := 1) hl1 hsr (Nat.le_refl _)
    have hb2 := hsr.zb _ _ _ (.inr (.inl rfl)) hbx
    have hBw : B ≤ wr.heap.size := Nat.le_trans (by omega) hsr.size
    have hsw := hAs.trans hsr
    clear hA hb1
    by_cases hlt : j < ln
    · have hd : decide ((j : Int) < (ln : Int)) = true := by simp; omega
      obtain ⟨_, _, _, e5, hlc, hlN, hlm, hr⟩ := id hl2
      cases e5
      obtain ⟨lg, rfl, hlg, hlz⟩ : ∃ lg, la = some ⟨lg, 0, none⟩ ∧ B ≤ lg ∧ ZB wr lg 109 (lc * 2) := by
        rcases hr with ⟨_, h⟩ | h
        · omega
        · exact h
      obtain ⟨u0, e0, t0, _⟩ := hZr.cell hlz (.inr (.inl rfl)) hlg (i := j * 2) (by omega)
      have t0' : ZSl wr B N 5 1 u0 := t0
      obtain ⟨d1, m1, k1, rfl, _⟩ := id t0'
      obtain ⟨ml, hbm, _⟩ := hZr.byt t0' (by omega)
      have cy := fun q => conv_any (wr.drewN q) _ ml (hbm.keep (below_drewN (Below.refl _ _) q))
      generalize str nl = s1 at *
      generalize str ml = s2 at *
      have hjz : (0 : Int) ≤ (j : Int) := by omega
      have hjl : (j : Int) < (ln : Int) := by omega
      clear hr t0 t0' hbm z0 z1
      cases hs : Op.bytesLess s2.toList s1.toList with
      | true =>
        have HE := hide (And.intro hBr (And.intro hZr hsr))
        clear hBr hZr hsr hl2 hb2 hsw hlz
        go_wp2_with fail
        go_quiet (fail)
        go_wp2_with fail
        go_roundw
        case rel => exact ⟨j + 1, by omega, by go_num, below_drewN (unhide HE).1 _, (unhide HE).2.1, (unhide HE).2.2.drewN _⟩
        case measure => simp [intOf]; omega
      | false =>
      cases hs2 : (s2.toList == s1.toList) with
      | true =>
        have HE := hide (And.intro hl2 (And.intro hZr hsw))
        clear hBr hZr hsr hl2 hb2 hsw hlz
        go_wp2_with fail
        go_quiet (fail)
        go_wp2_with fail
        go_quiet (fail)
        go_wp2_with fail
        go_ret
        exact ⟨_, _, _, rfl, (unhide HE).1, (unhide HE).2.1, ((unhide HE).2.2.drewN _).drewN _⟩
      | false =>
        have hjc : j < lc := by omega
        have hjc' : (j : Int) ≤ (lc : Int) := by omega
        have hln' : (ln : Int) ≤ (lc : Int) := by omega
        have hjl2 : (j : Int) ≤ (ln : Int) := by omega
        have HE := hide (And.intro hZr (And.intro hsw (And.intro hb2 (And.intro hlz hBw))))
        clear hBr hZr hsr hl2 hb2 hsw hlz hBw hl1 hAs hbx
        go_wp2_with fail
        go_quiet (fail)
        go_wp2_with fail
        go_quiet (fail)
        clear cx cy zr0 zr1 e0
        obtain ⟨nw0, hv1, hv2, hv3⟩ := Zone.stretch (q := 1) (unhide HE).1 (unhide HE).2.2.2.1 hlg 0 j (by omega)
        have HV := hide (And.intro hv2 hv3)
        clear hv2 hv3
        go_wp2_with (at_builtin; refine wpList_zapp hty rfl _ _ rfl (unhide HE).1 (unhide HE).2.2.2.2 none 0 0 rfl (znil _ B N 1) ⟨lg, 0, none⟩ j lc nw0 rfl hv1 (by have h := (unhide HV).1; rw [Nat.zero_mul] at h; exact h) (unhide HV).2 (Nat.le_refl N) (by omega) (by omega) ?_)
        intro oa oc w2 k1 k2 k3
        have hz2 := (unhide HE).2.1.trans (Zs.trans ((Zs.refl B [] wr).drewN _) k3)
        obtain ⟨d1, m1, q1, d2, m2, q2, r1, r2, hs1, hs2', _, _⟩ := k2.two (k3.zb _ _ _ (.inr (.inl rfl)) (unhide HE).2.2.1) (by omega)
        have hB2 : B ≤ w2.heap.size := Nat.le_trans hB0 hz2.size
        obtain ⟨hA, hAs⟩ := k2.alloc (cs := #[.slice d1 m1 q1, .slice d2 m2 q2]) (T := 109) hB2 (fun _ => ZA.at hs1 hs2')
        have hoA := ZSl.step (q := 1) k1 hAs (Nat.le_refl _)
        have hszA : B ≤ (w2.alloc (.cells #[.slice d1 m1 q1, .slice d2 m2 q2] 109)).heap.size := by simp; omega
        have ht2 := ZA.at (ZSl.step (q := 0) hs1 hAs (Nat.le_refl _)) (ZSl.step (q := 0) hs2' hAs (Nat.le_refl _))
        have HH := hide (And.intro hA (And.intro (hz2.trans hAs) (And.intro hoA (And.intro hszA (And.intro ht2 (k3.trans hAs))))))
        clear hA hAs hoA hszA ht2 k1 k2 k3 hz2 hs1 hs2'
        go_wp2_with (at_builtin; refine wpList_zapp hty rfl _ _ rfl (unhide HH).1 (unhide HH).2.2.2.1 oa j oc ?he (unhide HH).2.2.1 ⟨w2.heap.size, 0, none⟩ 1 1 [.slice d1 m1 q1, .slice d2 m2 q2] ?hx rfl (fun i u hu => World.news_of_block (heap_alloc_new w2 (.cells #[.slice d1 m1 q1, .slice d2 m2 q2] 109)) i u (by simpa using hu)) (fun i u hu => (unhide HH).2.2.2.2.1 i u (by simpa using hu)) (Nat.le_refl N) (by omega) (by omega) ?_)
        case he => rfl
        case hx => rfl
        intro oa2 oc2 w3 k1 k2 k3
        have hz3 := (unhide HH).2.1.trans k3
        have hzr3 := (unhide HH).2.2.2.2.2.trans k3
        have hB3 : B ≤ w3.heap.size := Nat.le_trans hB0 hz3.size
        clear r1 r2
        obtain ⟨nw, hw1, hw2, hw3⟩ := Zone.stretch (q := 1) k2 (hzr3.zb _ _ _ (.inr (.inl rfl)) (unhide HE).2.2.2.1) hlg j (ln - j) (by omega)
        have HH3 := hide (And.intro k2 (And.intro k1 (And.intro hz3 (And.intro hw2 (And.intro hw3 hB3)))))
        clear k1 k2 k3 hz3 hzr3 hw2 hw3 HH
        go_wp2_with (at_builtin; refine wpList_zapp hty rfl _ _ rfl (unhide HH3).1 (unhide HH3).2.2.2.2.2 oa2 (j + 1) oc2 ?he (unhide HH3).2.1 ⟨lg, j * 2, none⟩ (ln - j) (lc - j) nw ?hx hw1 (unhide HH3).2.2.2.1 (unhide HH3).2.2.2.2.1 (Nat.le_refl N) (by omega) (by omega) ?_)
        case he => rfl
        case hx => rfl
        intro oa3 oc3 w4 k1 k2 k3
        have HF := hide (And.intro k1 (And.intro k2 ((unhide HH3).2.2.1.trans k3)))
        clear k1 k2 k3 HH3
        go_wp2_with fail
        go_ret
        exact ⟨_, _, _, rfl, (unhide HF).1, (unhide HF).2.1, (unhide HF).2.2⟩
    · have hd : decide ((j : Int) < (ln : Int)) = false := by simp; omega
      obtain rfl : j = ln := by omega
      obtain ⟨_, _, _, e5, hlc, hlN, hlm, hr⟩ := id hl2
      cases e5
      have hln' : (j : Int) ≤ (lc : Int) := by omega
      have hjz : (0 : Int) ≤ (j : Int) := by omega
      clear z0 z1 hlt hj
      rcases hr with ⟨rfl, rfl⟩ | ⟨lg, rfl, hlg, hlz⟩
      · obtain rfl : j = 0 := by omega
        have HE := hide (And.intro hZr (And.intro hsw (And.intro hb2 hBw)))
        clear hBr hZr hsr hl2 hb2 hsw hBw hl1 hAs hbx
        go_wp2_with fail
        go_quiet (fail)
        go_wp2_with fail
        go_quiet (fail)
        clear cx zr0 zr1
        obtain ⟨d1, m1, q1, d2, m2, q2, r1, r2, hs1, hs2', _, _⟩ := (unhide HE).1.two (unhide HE).2.2.1 (by omega)
        have HH : Hid (∀ q, Zone ((wr.drewN q).alloc (.cells #[.slice d1 m1 q1, .slice d2 m2 q2] 109)) B N ∧ Zs B [] w ((wr.drewN q).alloc (.cells #[.slice d1 m1 q1, .slice d2 m2 q2] 109)) ∧ B ≤ ((wr.drewN q).alloc (.cells #[.slice d1 m1 q1, .slice d2 m2 q2] 109)).heap.size ∧ ∀ i v, (#[.slice d1 m1 q1, .slice d2 m2 q2] : Array Value)[i]? = some v → ZV ((wr.drewN q).alloc (.cells #[.slice d1 m1 q1, .slice d2 m2 q2] 109)) B N (kindAt 109 i) v) := hide (fun q => by
          obtain ⟨hZ9, hs9, hb9, hB9⟩ := unhide HE
          have hZq : Zone (wr.drewN q) B N := hZ9
          have hBq : B ≤ (wr.drewN q).heap.size := hB9
          obtain ⟨hA, hAs⟩ := hZq.alloc (cs := #[.slice d1 m1 q1, .slice d2 m2 q2]) (T := 109) hBq (fun _ => ZA.at (u0 := .slice d1 m1 q1) (u1 := .slice d2 m2 q2) hs1 hs2')
          have h1q : ZSl (wr.drewN q) B N 5 1 (.slice d1 m1 q1) := hs1
          have h2q : ZSl (wr.drewN q) B N 5 1 (.slice d2 m2 q2) := hs2'
          exact ⟨hA, (hs9.drewN q).trans hAs, Nat.le_trans hBq hAs.size, ZA.at (ZSl.step (q := 0) h1q hAs (Nat.le_refl _)) (ZSl.step (q := 0) h2q hAs (Nat.le_refl _))⟩)
        clear hs1 hs2'
        go_wp2_with (at_builtin; first | refine wpList_zapp0 hty rfl _ _ rfl none 0 0 rfl (Nat.le_refl _) rfl ?_ | (refine wpList_zapp hty rfl _ _ rfl (unhide HH _).1 (unhide HH _).2.2.1 none 0 0 ?he (znil _ B N 1) ⟨wr.heap.size, 0, none⟩ 1 1 [.slice d1 m1 q1, .slice d2 m2 q2] ?hx rfl (fun i u hu => World.news_of_block (heap_alloc_new _ (.cells #[.slice d1 m1 q1, .slice d2 m2 q2] 109)) i u (by simpa using hu)) (fun i u hu => (unhide HH _).2.2.2 i u (by simpa using hu)) (Nat.le_refl N) (by omega) (by omega) ?_))
        case he => rfl
        case hx => rfl
        intro oa2 oc2 w3 k1 k2 k3
        have hz3 := (unhide HH _).2.1.trans k3
        have HH3 := hide (And.intro k2 (And.intro k1 hz3))
        obtain ⟨_, _, _, e7, hoc2, _⟩ := id k1
        cases e7
        clear k1 k2 k3 hz3 HH
        go_wp2_with (at_builtin; refine wpList_zapp0 hty rfl _ _ rfl oa2 1 oc2 ?he hoc2 ?hx ?_)
        case he => rfl
        case hx => rfl
        go_wp2_with fail
        go_ret
        exact ⟨_, _, _, rfl, (unhide HH3).2.1, (unhide HH3).1, (unhide HH3).2.2⟩
      · have HE := hide (And.intro hZr (And.intro hsw (And.intro hb2 (And.intro hlz hBw))))
        clear hBr hZr hsr hl2 hb2 hsw hlz hBw hl1 hAs hbx
        go_wp2_with fail
        go_quiet (fail)
        go_wp2_with fail
        go_quiet (fail)
        clear cx zr0 zr1
        obtain ⟨nw0, hv1, hv2, hv3⟩ := Zone.stretch (q := 1) (unhide HE).1 (unhide HE).2.2.2.1 hlg 0 j (by omega)
        have HV := hide (And.intro hv2 hv3)
        clear hv2 hv3
        go_wp2_with (at_builtin; refine wpList_zapp hty rfl _ _ rfl (unhide HE).1 (unhide HE).2.2.2.2 none 0 0 rfl (znil _ B N 1) ⟨lg, 0, none⟩ j lc nw0 rfl hv1 (by have h := (unhide HV).1; rw [Nat.zero_mul] at h; exact h) (unhide HV).2 (Nat.le_refl N) (by omega) (by omega) ?_)
        intro oa oc w2 k1 k2 k3
        have hz2 := (unhide HE).2.1.trans (Zs.trans ((Zs.refl B [] wr).drewN _) k3)
        obtain ⟨d1, m1, q1, d2, m2, q2, r1, r2, hs1, hs2', _, _⟩ := k2.two (k3.zb _ _ _ (.inr (.inl rfl)) (unhide HE).2.2.1) (by omega)
        have hB2 : B ≤ w2.heap.size := Nat.le_trans hB0 hz2.size
        obtain ⟨hA, hAs⟩ := k2.alloc (cs := #[.slice d1 m1 q1, .slice d2 m2 q2]) (T := 109) hB2 (fun _ => ZA.at hs1 hs2')
        have hoA := ZSl.step (q := 1) k1 hAs (Nat.le_refl _)
        have hszA : B ≤ (w2.alloc (.cells #[.slice d1 m1 q1, .slice d2 m2 q2] 109)).heap.size := by simp; omega
        have ht2 := ZA.at (ZSl.step (q := 0) hs1 hAs (Nat.le_refl _)) (ZSl.step (q := 0) hs2' hAs (Nat.le_refl _))
        have HH := hide (And.intro hA (And.intro (hz2.trans hAs) (And.intro hoA (And.intro hszA (And.intro ht2 (k3.trans hAs))))))
        clear hA hAs hoA hszA ht2 k1 k2 k3 hz2 hs1 hs2'
        go_wp2_with (at_builtin; refine wpList_zapp hty rfl _ _ rfl (unhide HH).1 (unhide HH).2.2.2.1 oa j oc ?he (unhide HH).2.2.1 ⟨w2.heap.size, 0, none⟩ 1 1 [.slice d1 m1 q1, .slice d2 m2 q2] ?hx rfl (fun i u hu => World.news_of_block (heap_alloc_new w2 (.cells #[.slice d1 m1 q1, .slice d2 m2 q2] 109)) i u (by simpa using hu)) (fun i u hu => (unhide HH).2.2.2.2.1 i u (by simpa using hu)) (Nat.le_refl N) (by omega) (by omega) ?_)
        case he => rfl
        case hx => rfl
        intro oa2 oc2 w3 k1 k2 k3
        have hz3 := (unhide HH).2.1.trans k3
        have hzr3 := (unhide HH).2.2.2.2.2.trans k3
        have hB3 : B ≤ w3.heap.size := Nat.le_trans hB0 hz3.size
        clear r1 r2
        rcases Nat.eq_or_lt_of_le hlc with heq | hjc
        · subst heq
          have HH3 := hide (And.intro k2 (And.intro k1 (And.intro hz3 hB3)))
          clear k1 k2 k3 hz3 hzr3 HH
          go_wp2_with (at_builtin; refine wpList_zapp hty rfl _ _ rfl (unhide HH3).1 (unhide HH3).2.2.2 oa2 (j + 1) oc2 ?he (unhide HH3).2.1 ?ad 0 ?c9 [] ?hx (by simp) (fun i u hu => by simp at hu) (fun i u hu => by simp at hu) (Nat.le_refl N) (by omega) (by omega) ?_)
          case he => rfl
          case hx => rfl
          intro oa3 oc3 w4 k1 k2 k3
          have HF := hide (And.intro k1 (And.intro k2 ((unhide HH3).2.2.1.trans k3)))
          clear k1 k2 k3 HH3
          go_wp2_with fail
          go_ret
          exact ⟨_, _, _, rfl, (unhide HF).1, (unhide HF).2.1, (unhide HF).2.2⟩
        · have hjz9 := hjc
          have HH3 := hide (And.intro k2 (And.intro k1 (And.intro hz3 hB3)))
          clear k1 k2 k3 hz3 hzr3 HH
          go_wp2_with (at_builtin; refine wpList_zapp hty rfl _ _ rfl (unhide HH3).1 (unhide HH3).2.2.2 oa2 (j + 1) oc2 ?he (unhide HH3).2.1 ?ad2 0 ?c92 [] ?hx (by simp) (fun i u hu => by simp at hu) (fun i u hu => by simp at hu) (Nat.le_refl N) (by omega) (by omega) ?_)
          case he => rfl
          case hx => rfl
          intro oa3 oc3 w4 k1 k2 k3
          have HF := hide (And.intro k1 (And.intro k2 ((unhide HH3).2.2.1.trans k3)))
          clear k1 k2 k3 HH3
          go_wp2_with fail
          go_ret
          exact ⟨_, _, _, rfl, (unhide HF).1, (unhide HF).2.1, (unhide HF).2.2⟩
end Go.Proofs.YtaoodcielfabdaaGreat
