/- Own texts joined: BentT, L5first. -/
import Derived.Test.YtaoodcielfabdaaGreatJa
import Derived.Test.YtaoodcielfabdaaGreatJb
import Derived.Test.YtaoodcielfabdaaGreatJc
import Derived.Test.YtaoodcielfabdaaGreatJd
import Derived.Test.YtaoodcielfabdaaGreatJe
import Derived.Test.YtaoodcielfabdaaGreatJf
import Derived.Lib.SlBytesConst
import Derived.Deep.Cut

/- Rows that a call may append to, of which nothing is told; the five cells of a node. No program but append. -/
namespace Go.Proofs.YtaoodcielfabdaaGreat
open Go.RowKit
set_option linter.unusedVariables false
set_option maxRecDepth 100000


def Raw (w : World) (T : TypeId) (sz : Nat) (v : Value) : Prop := ∃ a n c, v = .slice a n c ∧ n ≤ c ∧ c ≤ maxLen ∧ ((a = none ∧ c = 0) ∨ ∃ g cur fz, a = some ⟨g, 0, none⟩ ∧ w.heap[g]? = some (.cells cur T fz) ∧ cur.size = c * sz ∧ ∀ j, j < cur.size → ¬ (fz.1 ≤ j ∧ j < fz.2))
theorem Raw.frm {w w' : World} {T : TypeId} {sz : Nat} {v : Value} {S : List Nat} (h : Raw w T sz v) (f : Frm w w' S) (hd : ∀ q ∈ FB v, q ∉ S) : Raw w' T sz v := by
  obtain ⟨a, n, c, rfl, h1, h2, h3 | ⟨g, cur, fz, rfl, h3, h4, h5⟩⟩ := h
  · exact ⟨a, n, c, rfl, h1, h2, .inl h3⟩
  · exact ⟨_, n, c, rfl, h1, h2, .inr ⟨g, cur, fz, rfl, (f.block g (Array.getElem?_eq_some_iff.1 h3).1 (hd g (by simp [FB, Value.ownBlock]))).trans h3, h4, h5⟩⟩
theorem RowM.raw {w : World} {base : Nat} {v : Value} {l : List Int} (h : RowM w base v l) : Raw w 5 1 v := by
  rcases h.2 with ⟨rfl, _⟩ | ⟨g, cap, cur, fz, rfl, _, hg, hz, h1, h2, h3, _⟩
  · exact ⟨none, 0, 0, rfl, Nat.le_refl _, Nat.zero_le _, .inl ⟨rfl, rfl⟩⟩
  · exact ⟨_, _, cap, rfl, h1, h2, .inr ⟨g, cur, fz, rfl, hg, by omega, fun j hj => hz j (by omega)⟩⟩
theorem own_raw {w : World} {base : Nat} {e : TypeId} {size n : Nat} {v : Value} {xs : List Value} (h : w.ownsRow base e size v n xs) : Raw w e size v := by
  rcases h.2 with ⟨rfl, rfl⟩ | ⟨g, cap, cur, rfl, _, hg, h1, h2, h3, _⟩
  · exact ⟨none, 0, 0, rfl, Nat.le_refl _, Nat.zero_le _, .inl ⟨rfl, rfl⟩⟩
  · exact ⟨_, _, cap, rfl, h1, h2, .inr ⟨g, cur, (0, 0), rfl, hg, h3, fun j _ hj => by simp at hj⟩⟩
theorem raw_append {w : World} {t : TypeId} {q : Nat} {i : TypeInfo} {z : Value} (hty : ZTy t q i z) (ty : TypeId) (a : Option Addr) (n c : Nat) (hs : Raw w (elT q) (elS q) (.slice a n c))
    (ad : Addr) (m c' : Nat) (news : List Value) (hl : news.length = m * elS q) (hnews : ∀ j u, news[j]? = some u → w.cell? (ad.add j) = some u) (hone : ∀ u ∈ news, u.oneCell' = true) (hm : 0 < m) (hnm : n + m ≤ 1000000000) :
    ∃ g' cap w', (Builtin.append_ #[t, t] ty #[.slice a n c, .slice (some ad) m c']).run Tryz.prog w = .ok (.slice (some ⟨g', 0, none⟩) (n + m) cap) w' ∧ Raw w' (elT q) (elS q) (.slice (some ⟨g', 0, none⟩) (n + m) cap) ∧ w.grownBy w' (Value.ownBlock (.slice a n c)) ∧ (g' ∈ FB (.slice a n c) ∨ g' = w.heap.size) := by
  have h63 : n + m ≤ maxLen := by unfold maxLen; omega
  have hby : (n + m) * i.bytes ≤ 140737488355328 := Nat.le_trans (Nat.mul_le_mul hnm hty.byt) (by omega)
  have hl' : news.length = m * i.size := by rw [hty.size]; exact hl
  have hfresh : ∀ (olds : List Value) (cap : Nat), olds.length = n * elS q → n + m ≤ cap → cap ≤ maxLen → ∀ row, Raw (w.drew.alloc (.cells (olds.toArray ++ news.toArray ++ Builtin.zeroCells z.cells (cap - (n + m))) (elT q))) (elT q) (elS q) (.slice (some ⟨w.heap.size, 0, none⟩) (n + m) cap) ∧ w.grownBy (w.drew.alloc (.cells (olds.toArray ++ news.toArray ++ Builtin.zeroCells z.cells (cap - (n + m))) (elT q))) row := by
    intro olds cap hlo hc hcm row
    have hsz : (olds.toArray ++ news.toArray ++ Builtin.zeroCells z.cells (cap - (n + m))).size = cap * elS q := by
      simp only [Array.size_append, List.size_toArray, size_zeroCells, hty.cel, hlo, hl, ← Nat.add_mul]
      congr 1
      omega
    exact ⟨⟨_, _, _, rfl, hc, hcm, .inr ⟨_, _, _, rfl, heap_alloc_new w.drew _, hsz, fun j _ hj => by simp at hj⟩⟩, ⟨rfl, rfl, rfl, by simp, fun k hk _ => heap_alloc_old w.drew _ hk⟩⟩
  obtain ⟨a1, n1, c1, e1, h1, h3, h4⟩ := hs
  cases e1
  rcases h4 with ⟨rfl, rfl⟩ | ⟨g, cur, fz, rfl, hg, hcs, hfr⟩
  · obtain rfl : n = 0 := by omega
    have hr := run_append_nil (P := Tryz.prog) w t ty (elT q) i z hty.und hty.inf hty.zero ad m c' news hl' hnews (by omega) (by unfold maxLen at h63; omega) (by simp only [Nat.zero_add] at hby; omega)
    have hf := hfresh [] (grownCap w m 0 (elT q)) (by simp) (by simpa using grownCap_ge w m 0 (elT q)) (grownCap_le_maxLen w m 0 (elT q) (by unfold maxLen at h63 ⊢; omega)) (Value.ownBlock (.slice none 0 0))
    simp only [Nat.zero_add] at hf ⊢
    have e : ([] : List Value).toArray ++ news.toArray = news.toArray := by simp
    rw [e] at hf
    exact ⟨_, _, _, hr, hf.1, hf.2, .inr rfl⟩
  · by_cases hroom : n + m ≤ c
    · have hfit : n * elS q + news.length ≤ cur.size := by rw [hl, hcs, ← Nat.add_mul]; exact Nat.mul_le_mul_right _ hroom
      have hrun := run_append_room_cells (P := Tryz.prog) w t ty (elT q) i hty.und hty.inf g 0 n c ad m c' news hl' hnews hone hroom
        (by intro j hj; rw [hty.size, cell_of_row w g _ cur _ fz hg]; simp; omega)
        (by intro j hj; rw [hty.size]; exact frozen_mark w g _ cur _ fz hg (hfr _ (by omega)))
      rw [hty.size, Nat.zero_add] at hrun
      obtain ⟨cur', k1, k2, k3, k4, k5⟩ := heap_setCells (w := w) news w (n * elS q) cur hg
      exact ⟨_, _, _, hrun, ⟨_, _, _, rfl, hroom, h3, .inr ⟨g, cur', fz, rfl, k1, by omega, fun j hj => hfr j (by omega)⟩⟩, k4, .inl (by simp [FB, Value.ownBlock])⟩
    · have hle : n * elS q ≤ cur.size := by rw [hcs]; exact Nat.mul_le_mul_right _ h1
      have hlo : (cur.toList.take (n * elS q)).length = n * elS q := by simp; omega
      have hold : ∀ j u, (cur.toList.take (n * elS q))[j]? = some u → cur[j]? = some u := fun j u hj => by
        rw [List.getElem?_take] at hj
        split at hj
        · simpa using hj
        · cases hj
      have hr := run_append_grow (P := Tryz.prog) w t ty (elT q) i z hty.und hty.inf hty.zero ⟨g, 0, none⟩ n c (cur.toList.take (n * elS q)) (by rw [hty.size]; exact hlo)
        (by intro j u hj; rw [add_plain, Nat.zero_add, cell_of_row w g j cur _ fz hg]; exact hold j u hj) ad m c' news hl' hnews (by omega) (by unfold maxLen at h63; omega) (growslice_fits (by omega) hby)
      have hf := hfresh (cur.toList.take (n * elS q)) (grownCap w (n + m) c (elT q)) hlo (grownCap_ge w (n + m) c (elT q)) (grownCap_le_maxLen w (n + m) c (elT q) h63) (Value.ownBlock (.slice (some ⟨g, 0, none⟩) n c))
      exact ⟨_, _, _, hr, hf.1, hf.2, .inr rfl⟩
theorem step_raw {w : World} {t : TypeId} {q : Nat} {i : TypeInfo} {z : Value} (hty : ZTy t q i z) {ops : Array Oper} {o : Oper} {a : Act} {K : Act → World → Prop} {Q : Exit → Act → World → Prop} {E : Prop} (hgd : o.guard = none) (s x : Operand)
    (ho : o.op = .call { callee := .builtin .append, args := #[s, x], argTypes := #[t, t] }) (p : Option Addr) (n c : Nat) (he : a.eval s = .slice p n c) (hs : Raw w (elT q) (elS q) (.slice p n c))
    (ad : Addr) (c' : Nat) (news : List Value) (hx : a.eval x = .slice (some ad) 1 c') (hl : news.length = elS q) (hnews : ∀ j u, news[j]? = some u → w.cell? (ad.add j) = some u) (hone : ∀ u ∈ news, u.oneCell' = true) (hnm : n + 1 ≤ 1000000000)
    (hK : ∀ g' cap w', Raw w' (elT q) (elS q) (.slice (some ⟨g', 0, none⟩) (n + 1) cap) → w.grownBy w' (Value.ownBlock (.slice p n c)) → (g' ∈ FB (.slice p n c) ∨ g' = w.heap.size) → K (a.put o.dst (.slice (some ⟨g', 0, none⟩) (n + 1) cap)) w') : if Region.wanted o (yielded ops a.tmps) = true then Oper.wp Tryz.prog o a w K Q else E := by
  have hw : Region.wanted o (yielded ops a.tmps) = true := by simp [Region.wanted, hgd]
  rw [if_pos hw]
  obtain ⟨a', cap, w', hr, h1, h2, h3⟩ := raw_append hty o.type p n c hs ad 1 c' news (by omega) hnews hone (by decide) hnm
  unfold Oper.wp execOp
  simp only [ho, resolve, invoke, builtin, Sem.run_bind, Sem.run_pure, Result.andThen_ok, List.map_toArray, List.map_cons, List.map_nil, he, hx, hr]
  exact hK a' cap w' h1 h2 h3
theorem wpList_raw {w : World} {t : TypeId} {q : Nat} {i : TypeInfo} {z : Value} (hty : ZTy t q i z) {ops : Array Oper} {rest : List Oper} {o : Oper} {a : Act} {Q : Exit → Act → World → Prop} (hgd : o.guard = none) (s x : Operand)
    (ho : o.op = .call { callee := .builtin .append, args := #[s, x], argTypes := #[t, t] }) (p : Option Addr) (n c : Nat) (he : a.eval s = .slice p n c) (hs : Raw w (elT q) (elS q) (.slice p n c))
    (ad : Addr) (c' : Nat) (news : List Value) (hx : a.eval x = .slice (some ad) 1 c') (hl : news.length = elS q) (hnews : ∀ j u, news[j]? = some u → w.cell? (ad.add j) = some u) (hone : ∀ u ∈ news, u.oneCell' = true) (hnm : n + 1 ≤ 1000000000)
    (hK : ∀ g' cap w', Raw w' (elT q) (elS q) (.slice (some ⟨g', 0, none⟩) (n + 1) cap) → w.grownBy w' (Value.ownBlock (.slice p n c)) → (g' ∈ FB (.slice p n c) ∨ g' = w.heap.size) → wpList Tryz.prog ops Q rest (a.put o.dst (.slice (some ⟨g', 0, none⟩) (n + 1) cap)) w') : wpList Tryz.prog ops Q (o :: rest) a w := by
  refine wpList_plain hgd fun K hK' => ?_
  have := step_raw (ops := ops) (K := K) (Q := Q) (E := True) hty hgd s x ho p n c he hs ad c' news hx hl hnews hone hnm (fun g' cap w' h1 h2 h3 => hK' _ _ (hK g' cap w' h1 h2 h3))
  rw [if_pos (by simp [Region.wanted, hgd])] at this
  exact this
/-- The five cells of a node. -/
def N5 (w : World) (bx off : Nat) (u0 u1 u2 u3 u4 : Value) : Prop := ∃ cur, w.heap[bx]? = some (.cells cur 26 (0, 0)) ∧ cur[off]? = some u0 ∧ cur[off + 1]? = some u1 ∧ cur[off + 2]? = some u2 ∧ cur[off + 3]? = some u3 ∧ cur[off + 4]? = some u4
theorem N5.lt {w : World} {bx off : Nat} {u0 u1 u2 u3 u4 : Value} (h : N5 w bx off u0 u1 u2 u3 u4) : bx < w.heap.size := by
  obtain ⟨cur, h, _⟩ := h
  exact (Array.getElem?_eq_some_iff.1 h).1
theorem N5.frm {w w' : World} {bx off : Nat} {u0 u1 u2 u3 u4 : Value} {S : List Nat} (h : N5 w bx off u0 u1 u2 u3 u4) (f : Frm w w' S) (hn : bx ∉ S) : N5 w' bx off u0 u1 u2 u3 u4 := by
  have hl := h.lt
  obtain ⟨cur, h0, h1⟩ := h
  exact ⟨cur, (f.block bx hl hn).trans h0, h1⟩
theorem N5.cells {w : World} {bx off : Nat} {u0 u1 u2 u3 u4 : Value} (h : N5 w bx off u0 u1 u2 u3 u4) : w.cell? ⟨bx, off, none⟩ = some u0 ∧ w.cell? ⟨bx, off + 1, none⟩ = some u1 ∧ w.cell? ⟨bx, off + 2, none⟩ = some u2 ∧ w.cell? ⟨bx, off + 3, none⟩ = some u3 ∧ w.cell? ⟨bx, off + 4, none⟩ = some u4 := by
  obtain ⟨cur, h0, h1, h2, h3, h4, h5⟩ := h
  have hc := fun i => cell_of_row w bx i cur _ _ h0
  exact ⟨(hc _).trans h1, (hc _).trans h2, (hc _).trans h3, (hc _).trans h4, (hc _).trans h5⟩
theorem N5.frozen {w : World} {bx off : Nat} {u0 u1 u2 u3 u4 : Value} (h : N5 w bx off u0 u1 u2 u3 u4) (j : Nat) : w.frozen? ⟨bx, j, none⟩ = false := by
  obtain ⟨cur, h0, _⟩ := h
  exact frozen_of_row w bx j cur _ h0
theorem N5.loc {w : World} {b : Nat} {u0 u1 u2 u3 u4 : Value} (h : Loc w b #[u0, u1, u2, u3, u4] 26) : N5 w b 0 u0 u1 u2 u3 u4 := ⟨_, h, rfl, rfl, rfl, rfl, rfl⟩
def Shp (i : Nat) (v : Value) : Prop := if i = 0 then ∃ x, v = .int .i64 x else ∃ a n c, v = .slice a n c
/-- A node's box, of whatever node. -/
def NB (w : World) (b : Nat) : Prop := ∃ kd a1 n1 c1 a2 n2 c2 a3 n3 c3 a4 n4 c4, N5 w b 0 (.int .i64 kd) (.slice a1 n1 c1) (.slice a2 n2 c2) (.slice a3 n3 c3) (.slice a4 n4 c4)
theorem NB.frm {w w' : World} {b : Nat} {S : List Nat} (h : NB w b) (f : Frm w w' S) (hn : b ∉ S) : NB w' b := by
  obtain ⟨kd, a1, n1, c1, a2, n2, c2, a3, n3, c3, a4, n4, c4, h⟩ := h
  exact ⟨kd, a1, n1, c1, a2, n2, c2, a3, n3, c3, a4, n4, c4, h.frm f hn⟩
theorem N5.put {w : World} {b i : Nat} {v u0 u1 u2 u3 u4 : Value} (h : N5 w b 0 u0 u1 u2 u3 u4) : N5 (w.setCell ⟨b, i, none⟩ v) b 0 (if i = 0 then v else u0) (if i = 1 then v else u1) (if i = 2 then v else u2) (if i = 3 then v else u3) (if i = 4 then v else u4) := by
  obtain ⟨cur, h0, h1, h2, h3, h4, h5⟩ := h
  have key : ∀ j u, cur[j]? = some u → (cur.setIfInBounds i v)[j]? = some (if i = j then v else u) := fun j u hj => by
    rw [Array.getElem?_setIfInBounds]
    by_cases e : i = j
    · subst e
      have := (Array.getElem?_eq_some_iff.1 hj).1
      simp [this]
    · simp [e, hj]
  exact ⟨_, heap_set_mark w b i cur _ (0, 0) v h0, key 0 _ h1, key 1 _ h2, key 2 _ h3, key 3 _ h4, key 4 _ h5⟩
theorem NB.store {w : World} {b bx off : Nat} (h : NB w b) (hr : (bx = b ∧ off = 0) ∨ bx ≠ b) (i : Nat) (v : Value) (hv : Shp i v) : NB (w.setCell ⟨bx, off + i, none⟩ v) b := by
  rcases hr with ⟨rfl, rfl⟩ | hne
  · obtain ⟨kd, a1, n1, c1, a2, n2, c2, a3, n3, c3, a4, n4, c4, h⟩ := h
    have := h.put (i := 0 + i) (v := v)
    rw [Nat.zero_add] at this ⊢
    by_cases e0 : i = 0
    · subst e0
      obtain ⟨x, rfl⟩ := hv
      exact ⟨x, a1, n1, c1, a2, n2, c2, a3, n3, c3, a4, n4, c4, by simpa using this⟩
    · obtain ⟨a, n, c, rfl⟩ : ∃ a n c, v = .slice a n c := by unfold Shp at hv; rw [if_neg e0] at hv; exact hv
      by_cases e1 : i = 1
      · subst e1; exact ⟨kd, a, n, c, a2, n2, c2, a3, n3, c3, a4, n4, c4, by simpa using this⟩
      by_cases e2 : i = 2
      · subst e2; exact ⟨kd, a1, n1, c1, a, n, c, a3, n3, c3, a4, n4, c4, by simpa using this⟩
      by_cases e3 : i = 3
      · subst e3; exact ⟨kd, a1, n1, c1, a2, n2, c2, a, n, c, a4, n4, c4, by simpa using this⟩
      by_cases e4 : i = 4
      · subst e4; exact ⟨kd, a1, n1, c1, a2, n2, c2, a3, n3, c3, a, n, c, by simpa using this⟩
      · exact ⟨kd, a1, n1, c1, a2, n2, c2, a3, n3, c3, a4, n4, c4, by simpa [e0, e1, e2, e3, e4] using this⟩
  · exact h.frm (set_frm w bx (off + i) v) (by simpa using fun e => hne e.symm)
theorem Raw.cell {w : World} {T : TypeId} {sz g n c : Nat} (h : Raw w T sz (.slice (some ⟨g, 0, none⟩) n c)) (j : Nat) (hj : j < c * sz) : ∃ v, w.cell? ⟨g, j, none⟩ = some v ∧ w.frozen? ⟨g, j, none⟩ = false := by
  obtain ⟨a, n', c', e, h1, h2, ⟨e0, _⟩ | ⟨g', cur, fz, e0, h3, h4, h5⟩⟩ := h
  · cases e; cases e0
  · cases e; cases e0
    exact ⟨cur[j], by rw [cell_of_row w g j cur T fz h3]; simp [h4, hj], frozen_mark w g j cur T fz h3 (h5 j (by omega))⟩
theorem Raw.set {w : World} {T : TypeId} {sz g n c : Nat} (h : Raw w T sz (.slice (some ⟨g, 0, none⟩) n c)) (j : Nat) (v : Value) : Raw (w.setCell ⟨g, j, none⟩ v) T sz (.slice (some ⟨g, 0, none⟩) n c) := by
  obtain ⟨a, n', c', e, h1, h2, ⟨e0, _⟩ | ⟨g', cur, fz, e0, h3, h4, h5⟩⟩ := h
  · cases e; cases e0
  · cases e; cases e0
    exact ⟨_, _, _, rfl, h1, h2, .inr ⟨g, _, fz, rfl, heap_set_mark w g j cur T fz v h3, by simpa using h4, fun i hi => h5 i (by simpa using hi)⟩⟩
/-- A block of nodes that bears a node at off. -/
def Bk (w : World) (bx off : Nat) : Prop := ∃ cur, w.heap[bx]? = some (.cells cur 26 (0, 0)) ∧ off + 5 ≤ cur.size
theorem N5.bk {w : World} {bx off : Nat} {u0 u1 u2 u3 u4 : Value} (h : N5 w bx off u0 u1 u2 u3 u4) : Bk w bx off := by
  obtain ⟨cur, h0, _, _, _, _, h5⟩ := h
  exact ⟨cur, h0, by have := (Array.getElem?_eq_some_iff.1 h5).1; omega⟩
theorem Bk.frm {w w' : World} {bx off : Nat} {S : List Nat} (h : Bk w bx off) (f : Frm w w' S) (hn : bx ∉ S) : Bk w' bx off := by
  obtain ⟨cur, h0, h1⟩ := h
  exact ⟨cur, (f.block bx (Array.getElem?_eq_some_iff.1 h0).1 hn).trans h0, h1⟩
theorem Bk.lt {w : World} {bx off : Nat} (h : Bk w bx off) : bx < w.heap.size := by
  obtain ⟨cur, h0, _⟩ := h
  exact (Array.getElem?_eq_some_iff.1 h0).1
theorem Bk.set {w : World} {bx off : Nat} (h : Bk w bx off) (j : Nat) (v : Value) : Bk (w.setCell ⟨bx, j, none⟩ v) bx off := by
  obtain ⟨cur, h0, h1⟩ := h
  exact ⟨_, heap_set_mark w bx j cur _ (0, 0) v h0, by simpa using h1⟩
theorem Bk.cell {w : World} {bx off : Nat} (h : Bk w bx off) (i : Nat) (hi : i < 5) : ∃ v, w.cell? ⟨bx, off + i, none⟩ = some v ∧ w.frozen? ⟨bx, off + i, none⟩ = false := by
  obtain ⟨cur, h0, h1⟩ := h
  have hlt : off + i < cur.size := by omega
  exact ⟨cur[off + i], by rw [cell_of_row w bx _ cur _ _ h0]; simp [hlt], frozen_of_row w bx _ cur _ h0⟩
theorem Bk.put4 {w : World} {bx off : Nat} (h : Bk w bx off) (v : Value) : (w.setCell ⟨bx, off + 4, none⟩ v).cell? ⟨bx, off + 4, none⟩ = some v := by
  obtain ⟨cur, h0, h1⟩ := h
  rw [cell_of_row _ bx _ _ _ _ (heap_set_mark w bx (off + 4) cur _ (0, 0) v h0)]
  rw [Array.getElem?_setIfInBounds]
  have : off + 4 < cur.size := by omega
  simp [this]
/-- The conversion of a constant's row: it gets its mark. -/
theorem mark_any (w : World) (p n c : Nat) (C : Array Value) (h : Loc w p C 5) : ∃ w', (convert 22 22 (.slice (some ⟨p, 0, none⟩) n c)).run Tryz.prog w = .ok (.slice (some ⟨p, 0, none⟩) n c) w' ∧ Frm w w' [p] ∧ w'.heap.size = w.heap.size := by
  have hsh : w.shape? p = some (5, C.size) := by unfold World.shape?; unfold Loc at h; rw [h]
  refine ⟨w.freeze ⟨p, C.size, none⟩ 1, ?_, ?_, ?_⟩
  · simp [convert, run_underlying Tryz.underlying22, run_underlying Tryz.underlying5, markStringish, hsh]
  · unfold World.freeze
    rw [if_neg (by decide)]
    refine ⟨rfl, rfl, rfl, by simp, fun k hk hn => ?_⟩
    simp only [List.mem_singleton] at hn
    show (w.heap.modify p _)[k]? = w.heap[k]?
    rw [Array.getElem?_modify, if_neg (fun e => hn e.symm)]
  · unfold World.freeze
    rw [if_neg (by decide)]
    simp
/-- A kid of an owned tree. -/
theorem OwNodeM.kid {d : Nat} {w : World} {u0 u1 u2 u3 u4 : Value} {t : Tr (d + 1)} {F : List Nat} (h : OwNodeM (d + 1) w [u0, u1, u2, u3, u4] t F) (hn : F.Nodup) (k : Nat) (hk : k < t.kids.length) :
    ∃ gk cap v0 v1 v2 v3 v4 F', u4 = .slice (some ⟨gk, 0, none⟩) t.kids.length cap ∧ N5 w gk (k * 5) v0 v1 v2 v3 v4 ∧ OwNodeM d w [v0, v1, v2, v3, v4] t.kids[k] F' ∧ F'.Nodup ∧ (∀ q ∈ F', q ∈ F) ∧ gk ∈ F ∧ gk ∉ F' := by
  obtain ⟨a, b, c, dv, Fc, Fd, e, k1, k2, h1, h2, h3, ⟨Cs, Fs, l1, l2, h4, h5, h6⟩, rfl⟩ := h
  simp only [List.cons.injEq, and_true] at e
  obtain ⟨rfl, rfl, rfl, rfl, rfl⟩ := e
  obtain ⟨q1, q2⟩ := h4 k hk
  have hrow := h5
  rcases h5.2 with ⟨_, e0⟩ | ⟨g, cap, cur, rfl, hb, hg, hnc, hcm, hcs, htake⟩
  · omega
  have hcell := fun j (hj : j < 5) => own_cellAt hrow (fun i hi => (h4 i (by omega)).1) l1 k j hk hj
  generalize hC : Cs.getD k [] = C at *
  match C, q1 with
  | [v0, v1, v2, v3, v4], _ =>
    have nd := (List.nodup_append.1 hn).2.1
    subst h6
    have nd2 := List.nodup_append.1 nd
    have hcc := fun j => cell_of_row w g j cur _ _ hg
    refine ⟨g, cap, v0, v1, v2, v3, v4, Fs.getD k [], rfl, ⟨cur, hg, ?_, ?_, ?_, ?_, ?_⟩, q2, nodup_at nd2.2.1, fun q hq => by simp [mem_flat hq], by simp [FB, Value.ownBlock], fun hq => nd2.2.2 g (by simp [FB, Value.ownBlock]) g (mem_flat hq) rfl⟩
    · exact (hcc _).symm.trans (hcell 0 (by decide))
    · exact (hcc _).symm.trans (hcell 1 (by decide))
    · exact (hcc _).symm.trans (hcell 2 (by decide))
    · exact (hcc _).symm.trans (hcell 3 (by decide))
    · exact (hcc _).symm.trans (hcell 4 (by decide))
end Go.Proofs.YtaoodcielfabdaaGreat

/- spec.l5first draws a node. -/
namespace Go.Proofs.YtaoodcielfabdaaGreat
open Go.RowKit
set_option linter.unusedVariables false
set_option maxRecDepth 100000


def NdW (v : Value) : Prop := ∃ kd a1 n1 c1 a2 n2 c2 a3 n3 c3 a4 n4 c4, v = .agg #[.int .i64 kd, .slice a1 n1 c1, .slice a2 n2 c2, .slice a3 n3 c3, .slice a4 n4 c4]
theorem NB.five {w : World} {rb : Nat} (h : NB w rb) (u0 u1 u2 u3 u4 : Value) : N5 (((((w.setCell ⟨rb, 0, none⟩ u0).setCell ⟨rb, 1, none⟩ u1).setCell ⟨rb, 2, none⟩ u2).setCell ⟨rb, 3, none⟩ u3).setCell ⟨rb, 4, none⟩ u4) rb 0 u0 u1 u2 u3 u4 := by
  obtain ⟨kd, a1, n1, c1, a2, n2, c2, a3, n3, c3, a4, n4, c4, h⟩ := h
  have := ((((h.put (i := 0) (v := u0)).put (i := 1) (v := u1)).put (i := 2) (v := u2)).put (i := 3) (v := u3)).put (i := 4) (v := u4)
  simpa using this
theorem five_frm (w : World) (rb : Nat) (u0 u1 u2 u3 u4 : Value) : Frm w (((((w.setCell ⟨rb, 0, none⟩ u0).setCell ⟨rb, 1, none⟩ u1).setCell ⟨rb, 2, none⟩ u2).setCell ⟨rb, 3, none⟩ u3).setCell ⟨rb, 4, none⟩ u4) [rb] :=
  ((((set_frm _ _ _ _).trans (set_frm _ _ _ _)).trans (set_frm _ _ _ _)).trans (set_frm _ _ _ _)).trans (set_frm _ _ _ _)
set_option maxHeartbeats 12800000 in
theorem l5first_any (w0 w : World) (g : Nat) (code : Value) (l : List Int) (h : Cur w0 w g code l) :
    Calls Tryz.prog 30 #[.pointer (some ⟨g, 0, none⟩)] w fun e w' => ∃ v, e = .returned v ∧ NdW v ∧ Cur w0 w' g code l ∧ w.grownBy w' (some g) := by
  have hlt := h.lt
  have hs0 := h.below.size
  have hA := (Below.refl w.heap.size w).alloc (Nat.le_refl _) (.cells #[.int .i64 0, .slice none 0 0, .slice none 0 0, .slice none 0 0, .slice none 0 0] 26)
  have lr := Loc.made w #[.int .i64 0, .slice none 0 0, .slice none 0 0, .slice none 0 0, .slice none 0 0] 26
  have HD := hide (l3draw_any w0 _ g code l (h.keepAll hA))
  have LL := hide (And.intro hA lr)
  clear hA lr h
  go_enter Tryz.func30, Tryz.ntmps30
  go_wp2_with fail
  refine (unhide HD).mono ?_
  rintro e w1 ⟨v1, rfl, m1, hv1, hC1, hG1⟩
  obtain ⟨hA, lr⟩ := unhide LL
  have lr1 := lr.frm (Frm.ofGrown hG1) (by simp; omega)
  have hG1' := grown_below' hA hG1
  have HB := hide (build_any w1 v1 m1 hv1)
  clear LL HD hA lr hG1
  go_wp2_with fail
  refine (unhide HB).mono ?_
  rintro e w2 ⟨v2, rfl, ⟨kd, a1, n1, c1, a2, n2, c2, a3, n3, c3, a4, n4, c4, ok, rfl⟩, hB2⟩
  have lr2 := lr1.all hB2
  have hC2 := hC1.keepAll hB2
  have hG2 := grown_below hG1' hB2
  have hwl := lr2.lt
  clear HB lr1 hC1 hG1' hB2 hv1
  have hA3 := (Below.refl w2.heap.size w2).alloc (Nat.le_refl _) (.cells #[.int .i64 kd, .slice a1 n1 c1, .slice a2 n2 c2, .slice a3 n3 c3, .slice a4 n4 c4] 26)
  have lb := Loc.made w2 #[.int .i64 kd, .slice a1 n1 c1, .slice a2 n2 c2, .slice a3 n3 c3, .slice a4 n4 c4] 26
  have LL := hide (And.intro (lr2.all hA3) (And.intro lb (And.intro (hC2.keepAll hA3) (grown_below hG2 hA3))))
  clear lr2 hA3 lb hC2 hG2
  go_upto_region 2 with fail
  generalize (w2.alloc (.cells #[.int .i64 kd, .slice a1 n1 c1, .slice a2 n2 c2, .slice a3 n3 c3, .slice a4 n4 c4] 26)) = w3 at *
  obtain ⟨lr3, lb3, hC3, hG3⟩ := unhide LL
  clear LL
  generalize w2.heap.size = b at *
  cases ok with
  | true =>
    have hrb5 := N5.loc lr3
    have hrb : NB _ w.heap.size := ⟨_, _, _, _, _, _, _, _, _, _, _, _, _, hrb5⟩
    have hnb := N5.loc lb3
    clear lb3
    have hput := hrb.five (.int .i64 kd) (.slice a1 n1 c1) (.slice a2 n2 c2) (.slice a3 n3 c3) (.slice a4 n4 c4)
    have hsf := five_frm w3 w.heap.size (.int .i64 kd) (.slice a1 n1 c1) (.slice a2 n2 c2) (.slice a3 n3 c3) (.slice a4 n4 c4)
    have hC9 := hC3.keep (Frm.toGrown' hsf) (by simp; omega) (fun q hq => by cases hq; exact hs0)
    have hG9 := grown_new hG3 (Frm.toGrown' hsf) (fun q hq => by cases hq; exact Nat.le_refl _)
    obtain ⟨y0, y1, y2, y3, y4⟩ := hrb5.cells
    have g0 := hrb5.frozen 0
    have g1 := hrb5.frozen 1
    have g2 := hrb5.frozen 2
    have g3 := hrb5.frozen 3
    have g4 := hrb5.frozen 4
    obtain ⟨z0, z1, z2, z3, z4⟩ := hnb.cells
    simp only [Nat.zero_add] at y0 y1 y2 y3 y4 z0 z1 z2 z3 z4
    have HE := hide (And.intro hput.cells (And.intro hC9 hG9))
    clear hput hsf hC9 hG9 hrb hrb5 hnb hC3 hG3 lr3
    go_wp2_with fail
    obtain ⟨⟨r0, r1, r2, r3, r4⟩, hC9, hG9⟩ := unhide HE
    simp only [Nat.zero_add] at r0 r1 r2 r3 r4
    exact bodyPost_ret (v := .agg #[(.int .i64 kd), (.slice a1 n1 c1), (.slice a2 n2 c2), (.slice a3 n3 c3), (.slice a4 n4 c4)]) (by simp [results, Tryz.results30, go_sem, r0, r1, r2, r3, r4]) rfl ⟨_, rfl, ⟨_, _, _, _, _, _, _, _, _, _, _, _, _, rfl⟩, hC9, hG9⟩
  | false =>
    have kc := Lib.run_convert_bytes_const (P := Tryz.prog) w3 22 5 #[.int .u8 98, .int .u8 111, .int .u8 100, .int .u8 121] 4 4 Tryz.underlying22 Tryz.underlying5
    have hA4 : Below w3.heap.size w3 (w3.alloc (.cells #[.int .u8 98, .int .u8 111, .int .u8 100, .int .u8 121] 5 (4, 5))) := (Below.refl _ _).alloc (Nat.le_refl _) _
    have lb4 := lb3.all hA4
    have hb4 := N5.loc lb4
    have hnb4 : NB _ b := ⟨_, _, _, _, _, _, _, _, _, _, _, _, _, hb4⟩
    have hput4 := hnb4.five (.int .i64 0) (.slice (some ⟨w3.heap.size, 0, none⟩) 4 4) (.slice none 0 0) (.slice none 0 0) (.slice none 0 0)
    have hsf4 := five_frm (w3.alloc (.cells #[.int .u8 98, .int .u8 111, .int .u8 100, .int .u8 121] 5 (4, 5))) b (.int .i64 0) (.slice (some ⟨w3.heap.size, 0, none⟩) 4 4) (.slice none 0 0) (.slice none 0 0) (.slice none 0 0)
    have lr5 := (lr3.all hA4).frm hsf4 (by simp; omega)
    have hC5 := (hC3.keepAll hA4).keep (Frm.toGrown' hsf4) (by simp; omega) (fun q hq => by cases hq; omega)
    have hG5 := grown_new (grown_below hG3 hA4) (Frm.toGrown' hsf4) (fun q hq => by cases hq; omega)
    obtain ⟨y0, y1, y2, y3, y4⟩ := hb4.cells
    have g0 := hb4.frozen 0
    have g1 := hb4.frozen 1
    have g2 := hb4.frozen 2
    have g3 := hb4.frozen 3
    have g4 := hb4.frozen 4
    simp only [Nat.zero_add] at y0 y1 y2 y3 y4
    have LL := hide (And.intro lr5 (And.intro hput4 (And.intro hC5 hG5)))
    clear hA4 lb4 hb4 hnb4 hput4 hsf4 lr5 hC5 hG5 lr3 lb3 hC3 hG3
    go_upto_region 4 with fail
    generalize ((((((w3.alloc (.cells #[.int .u8 98, .int .u8 111, .int .u8 100, .int .u8 121] 5 (4, 5))).setCell ⟨b, 0, none⟩ (.int .i64 0)).setCell ⟨b, 1, none⟩ (.slice (some ⟨w3.heap.size, 0, none⟩) 4 4)).setCell ⟨b, 2, none⟩ (.slice none 0 0)).setCell ⟨b, 3, none⟩ (.slice none 0 0)).setCell ⟨b, 4, none⟩ (.slice none 0 0)) = w5 at *
    obtain ⟨lr3, hnb, hC3, hG3⟩ := unhide LL
    clear LL kc y0 y1 y2 y3 y4 g0 g1 g2 g3 g4
    have hrb5 := N5.loc lr3
    have hrb : NB _ w.heap.size := ⟨_, _, _, _, _, _, _, _, _, _, _, _, _, hrb5⟩

    have hput := hrb.five (.int .i64 0) (.slice (some ⟨w3.heap.size, 0, none⟩) 4 4) (.slice none 0 0) (.slice none 0 0) (.slice none 0 0)
    have hsf := five_frm w5 w.heap.size (.int .i64 0) (.slice (some ⟨w3.heap.size, 0, none⟩) 4 4) (.slice none 0 0) (.slice none 0 0) (.slice none 0 0)
    have hC9 := hC3.keep (Frm.toGrown' hsf) (by simp; omega) (fun q hq => by cases hq; exact hs0)
    have hG9 := grown_new hG3 (Frm.toGrown' hsf) (fun q hq => by cases hq; exact Nat.le_refl _)
    obtain ⟨y0, y1, y2, y3, y4⟩ := hrb5.cells
    have g0 := hrb5.frozen 0
    have g1 := hrb5.frozen 1
    have g2 := hrb5.frozen 2
    have g3 := hrb5.frozen 3
    have g4 := hrb5.frozen 4
    obtain ⟨z0, z1, z2, z3, z4⟩ := hnb.cells
    simp only [Nat.zero_add] at y0 y1 y2 y3 y4 z0 z1 z2 z3 z4
    have HE := hide (And.intro hput.cells (And.intro hC9 hG9))
    clear hput hsf hC9 hG9 hrb hrb5 hnb hC3 hG3 lr3
    go_wp2_with fail
    obtain ⟨⟨r0, r1, r2, r3, r4⟩, hC9, hG9⟩ := unhide HE
    simp only [Nat.zero_add] at r0 r1 r2 r3 r4
    exact bodyPost_ret (v := .agg #[(.int .i64 0), (.slice (some ⟨w3.heap.size, 0, none⟩) 4 4), (.slice none 0 0), (.slice none 0 0), (.slice none 0 0)]) (by simp [results, Tryz.results30, go_sem, r0, r1, r2, r3, r4]) rfl ⟨_, rfl, ⟨_, _, _, _, _, _, _, _, _, _, _, _, _, rfl⟩, hC9, hG9⟩
end Go.Proofs.YtaoodcielfabdaaGreat
