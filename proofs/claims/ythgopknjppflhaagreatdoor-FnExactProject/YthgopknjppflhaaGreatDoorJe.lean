/- Own texts joined: Push, PlF, L5fd, AppM, L5tk, StrK, SetP, L5ao, L5sa, SetQ, RegI, L5do, PjS, PjN, KdO, PjZ, NdI, CloneI, HalfT, ToT2, ToT3, Apart. -/
import Derived.Test.YthgopknjppflhaaGreatDoorJa
import Derived.Test.YthgopknjppflhaaGreatDoorJb
import Derived.Test.YthgopknjppflhaaGreatDoorJc
import Derived.Test.YthgopknjppflhaaGreatDoorJd
import Derived.Deep.AppendLies
import Derived.WalkLawsBesides
import Derived.Deep.QuietTactic
import Derived.BigQuiet
import Derived.Deep.Cut
import Derived.Deep.CutRange
import Derived.OrdersIn
import Derived.OwnWalkIn
import Derived.Lib.BufferMore

/- 'append(rows, x)': one element behind a row of elements that owns its memory. -/
namespace Go.Proofs.YthgopknjppflhaaGreatDoor
open Go.RowKit
set_option linter.unusedVariables false

/-- A row of elements with one more behind it. -/
theorem OwElems.push {α : Type} {R : World → List Value → α → List Nat → Prop} (hRf : ∀ {w w' : World} {S : List Nat} {C : List Value} {x : α} {G : List Nat}, R w C x G → Frm w w' S → (∀ g ∈ G, g ∉ S) → R w' C x G)
    {w w' : World} {e : TypeId} {size : Nat} {v : Value} {l : List α} {Cs : List (List Value)} {Fs : List (List Nat)} {C : List Value} {y : α} {G : List Nat} {g cap : Nat}
    (h1 : Cs.length = l.length) (h2 : Fs.length = l.length) (h3 : ∀ i (hi : i < l.length), (Cs.getD i []).length = size ∧ R w (Cs.getD i []) l[i] (Fs.getD i []))
    (hN : (FB v ++ Fs.flatten).Nodup) (hC : C.length = size) (hy : R w C y G) (hGN : G.Nodup) (hFG : ∀ g ∈ FB v ++ Fs.flatten, g ∉ G) (hlt : ∀ q, q ∈ FB v ++ Fs.flatten ∨ q ∈ G → q < w.heap.size)
    (k1 : w'.ownsRow 0 e size (.slice (some ⟨g, 0, none⟩) (l.length + 1) cap) (l.length + 1) (Cs.flatten ++ C)) (k2 : w.grownBy w' v.ownBlock) (k3 : v.ownBlock = some g ∨ g = w.heap.size) :
    OwElems w' e size (.slice (some ⟨g, 0, none⟩) (l.length + 1) cap) (l ++ [y]) (R w') (g :: (Fs.flatten ++ G)) ∧ (g :: (Fs.flatten ++ G)).Nodup ∧ (∀ q ∈ g :: (Fs.flatten ++ G), q ∈ FB v ++ Fs.flatten ∨ q ∈ G ∨ q = w.heap.size) := by
  have hFd : ∀ q ∈ Fs.flatten, q ∉ v.ownBlock.toList := fun q hq hv => (List.nodup_append.1 hN).2.2 q (by simpa [FB] using hv) q hq rfl
  have hGd : ∀ q ∈ G, q ∉ v.ownBlock.toList := fun q hq hv => hFG q (List.mem_append_left _ (by simpa [FB] using hv)) hq
  have hf := Frm.ofGrown k2
  refine ⟨⟨Cs ++ [C], Fs ++ [G], by simp [h1], by simp [h2], fun i hi => ?_, ?_, ?_⟩, ?_, ?_⟩
  · by_cases hil : i < l.length
    · have a := h3 i hil
      have e1 : (Cs ++ [C]).getD i [] = Cs.getD i [] := by rw [List.getD_eq_getElem?_getD, List.getD_eq_getElem?_getD, List.getElem?_append_left (by omega)]
      have e2 : (Fs ++ [G]).getD i [] = Fs.getD i [] := by rw [List.getD_eq_getElem?_getD, List.getD_eq_getElem?_getD, List.getElem?_append_left (by omega)]
      rw [e1, e2, List.getElem_append_left hil]
      exact ⟨a.1, hRf a.2 hf (fun q hq => hFd q (mem_flat hq))⟩
    · have e0 : i = l.length := by simp at hi; omega
      subst e0
      have e1 : (Cs ++ [C]).getD l.length [] = C := by rw [← h1]; simp
      have e2 : (Fs ++ [G]).getD l.length [] = G := by rw [← h2]; simp
      rw [e1, e2]
      simp only [List.getElem_concat_length]
      exact ⟨hC, hRf hy hf hGd⟩
  · simp only [List.length_append, List.length_cons, List.length_nil, List.flatten_append, List.flatten_cons, List.flatten_nil, List.append_nil]
    exact k1
  · simp [FB, Value.ownBlock]
  · rw [List.nodup_cons]
    refine ⟨fun hq => ?_, List.nodup_append.2 ⟨(List.nodup_append.1 hN).2.1, hGN, fun a ha b hb hab => hFG a (List.mem_append_right _ ha) (hab ▸ hb)⟩⟩
    rcases List.mem_append.1 hq with hq | hq
    · rcases k3 with k3 | k3
      · exact hFd g hq (by simp [k3])
      · have := hlt g (.inl (List.mem_append_right _ hq)); omega
    · rcases k3 with k3 | k3
      · exact hGd g hq (by simp [k3])
      · have := hlt g (.inr hq); omega
  · intro q hq
    rcases List.mem_cons.1 hq with rfl | hq
    · rcases k3 with k3 | k3
      · exact .inl (List.mem_append_left _ (by simp [FB, k3]))
      · exact .inr (.inr k3)
    · rcases List.mem_append.1 hq with hq | hq
      · exact .inl (List.mem_append_right _ hq)
      · exact .inr (.inl hq)

/-- 'append(rows, x)' at the list of a plain region's operations. -/
theorem wpList_push {α : Type} {R : World → List Value → α → List Nat → Prop} (hRf : ∀ {w w' : World} {S : List Nat} {C : List Value} {x : α} {G : List Nat}, R w C x G → Frm w w' S → (∀ g ∈ G, g ∉ S) → R w' C x G)
    {w : World} {ops : Array Oper} {rest : List Oper} {o : Oper} {a : Act} {Q : Exit → Act → World → Prop} (hgd : o.guard = none) (s x : Operand) (t : TypeId)
    (ho : o.op = .call { callee := .builtin .append, args := #[s, x], argTypes := #[t, t] })
    (e : TypeId) (i : TypeInfo) (z : Value) (size bytes : Nat) (ht : Tryz.prog.underlying t = some (.slice e)) (hi : Tryz.prog.info? e = some i) (hz : i.zero = some z)
    (hsize : i.size = size) (hby : i.bytes = bytes) (hzs : z.cells.size = size) (hsz : 0 < size)
    (v : Value) (l : List α) (F : List Nat) (hs : a.eval s = v) (h : OwElems w e size v l (R w) F) (hN : F.Nodup)
    (ad : Addr) (c : Nat) (C : List Value) (y : α) (G : List Nat) (hx : a.eval x = .slice (some ad) 1 c) (hC : C.length = size) (hcell : ∀ j u, C[j]? = some u → w.cell? (ad.add j) = some u) (h1 : ∀ u ∈ C, u.oneCell' = true)
    (hy : R w C y G) (hGN : G.Nodup) (hFG : ∀ g ∈ F, g ∉ G) (hlt : ∀ q, q ∈ F ∨ q ∈ G → q < w.heap.size) (h63 : l.length + 1 ≤ maxLen) (hbytes : (l.length + 1) * bytes ≤ 140737488355328)
    (hK : ∀ g cap w' F', OwElems w' e size (.slice (some ⟨g, 0, none⟩) (l.length + 1) cap) (l ++ [y]) (R w') F' → F'.Nodup → (∀ q ∈ F', q ∈ F ∨ q ∈ G ∨ q = w.heap.size) → Frm w w' (FB v) → g < w'.heap.size → wpList Tryz.prog ops Q rest (a.put o.dst (.slice (some ⟨g, 0, none⟩) (l.length + 1) cap)) w') : wpList Tryz.prog ops Q (o :: rest) a w := by
  obtain ⟨Cs, Fs, e1, e2, e3, e4, rfl⟩ := h
  refine wpList_append_lies w hgd s x t ho 0 e i z size bytes ht hi hz hsize hby hzs hsz v l.length Cs.flatten hs e4 ad 1 c C hx (by omega) hcell h1 (by omega) h63 hbytes (Nat.zero_le _) w.heap.size rfl ?_
  intro g cap w' k1 k2 k3 k4
  obtain ⟨m1, m2, m3⟩ := OwElems.push (R := R) hRf e1 e2 e3 hN hC hy hGN hFG hlt k1 k2 k3
  exact hK g cap w' _ m1 m2 m3 (Frm.ofGrown k2) k4

/-- 'append(rows, x)' as one step of a region that draws its order. -/
theorem step_push {α : Type} {R : World → List Value → α → List Nat → Prop} (hRf : ∀ {w w' : World} {S : List Nat} {C : List Value} {x : α} {G : List Nat}, R w C x G → Frm w w' S → (∀ g ∈ G, g ∉ S) → R w' C x G)
    {w : World} {ops : Array Oper} {o : Oper} {a : Act} {K : Act → World → Prop} {Q : Exit → Act → World → Prop} {E : Prop} (hgd : o.guard = none) (s x : Operand) (t : TypeId)
    (ho : o.op = .call { callee := .builtin .append, args := #[s, x], argTypes := #[t, t] })
    (e : TypeId) (i : TypeInfo) (z : Value) (size bytes : Nat) (ht : Tryz.prog.underlying t = some (.slice e)) (hi : Tryz.prog.info? e = some i) (hz : i.zero = some z)
    (hsize : i.size = size) (hby : i.bytes = bytes) (hzs : z.cells.size = size) (hsz : 0 < size)
    (v : Value) (l : List α) (F : List Nat) (hs : a.eval s = v) (h : OwElems w e size v l (R w) F) (hN : F.Nodup)
    (ad : Addr) (c : Nat) (C : List Value) (y : α) (G : List Nat) (hx : a.eval x = .slice (some ad) 1 c) (hC : C.length = size) (hcell : ∀ j u, C[j]? = some u → w.cell? (ad.add j) = some u) (h1 : ∀ u ∈ C, u.oneCell' = true)
    (hy : R w C y G) (hGN : G.Nodup) (hFG : ∀ g ∈ F, g ∉ G) (hlt : ∀ q, q ∈ F ∨ q ∈ G → q < w.heap.size) (h63 : l.length + 1 ≤ maxLen) (hbytes : (l.length + 1) * bytes ≤ 140737488355328)
    (hK : ∀ g cap w' F', OwElems w' e size (.slice (some ⟨g, 0, none⟩) (l.length + 1) cap) (l ++ [y]) (R w') F' → F'.Nodup → (∀ q ∈ F', q ∈ F ∨ q ∈ G ∨ q = w.heap.size) → Frm w w' (FB v) → g < w'.heap.size → K (a.put o.dst (.slice (some ⟨g, 0, none⟩) (l.length + 1) cap)) w') : if Region.wanted o (yielded ops a.tmps) = true then Oper.wp Tryz.prog o a w K Q else E := by
  obtain ⟨Cs, Fs, e1, e2, e3, e4, rfl⟩ := h
  refine step_append_lies w hgd s x t ho 0 e i z size bytes ht hi hz hsize hby hzs hsz v l.length Cs.flatten hs e4 ad 1 c C hx (by omega) hcell h1 (by omega) h63 hbytes (Nat.zero_le _) w.heap.size rfl ?_
  intro g cap w' k1 k2 k3 k4
  obtain ⟨m1, m2, m3⟩ := OwElems.push (R := R) hRf e1 e2 e3 hN hC hy hGN hFG hlt k1 k2 k3
  exact hK g cap w' _ m1 m2 m3 (Frm.ofGrown k2) k4
end Go.Proofs.YthgopknjppflhaaGreatDoor

/- Places of which some parts are old and some are the call's own: the specification's state as it grows. No function of the program. -/
namespace Go.Proofs.YthgopknjppflhaaGreatDoor
open Go.RowKit
set_option linter.unusedVariables false
set_option maxRecDepth 100000

def IntsF (w0 w : World) (v : Value) (l : List Int) (F : List Nat) : Prop := (Ints w0 v l ∧ F = []) ∨ (OwnZ w 0 v l ∧ F = FB v)
def BytF (w0 w : World) (v : Value) (l : List Int) (F : List Nat) : Prop := (Byt w0 v l ∧ F = []) ∨ (RowM w 0 v l ∧ F = FB v)
def AttrO (w0 : World) (C : List Value) (x : List Int × List Int) (G : List Nat) : Prop := ∃ a b, C = [a, b] ∧ Byt w0 a x.1 ∧ Byt w0 b x.2 ∧ G = []
def AttrsF (w0 w : World) (v : Value) (l : List (List Int × List Int)) (F : List Nat) : Prop := (RdAttrs w0 v l ∧ F = []) ∨ OwElems w 85 2 v l (AttrO w0) F
/-- The nine cells of a place: its rows are old, or the call's own (F). -/
def PlF (w0 w : World) (C : List Value) (p : PlV) (F : List Nat) : Prop := ∃ k n t a F1 F2 F3, C = [.int .i64 p.idN, .int .i64 p.idR, .int .i64 p.parN, .int .i64 p.parR, k, .int .i64 p.kind, n, t, a] ∧ IntsF w0 w k p.key F1 ∧ BytF w0 w n p.name F2 ∧ Byt w0 t p.text ∧ AttrsF w0 w a p.attrs F3 ∧ F = F1 ++ F2 ++ F3
def PlsF (w0 w : World) (v : Value) (l : List PlV) (F : List Nat) : Prop := OwElems w 54 9 v l (PlF w0 w) F
theorem IntsF.frm {w0 w w' : World} {v : Value} {l : List Int} {F S : List Nat} (h : IntsF w0 w v l F) (f : Frm w w' S) (hd : ∀ g ∈ F, g ∉ S) : IntsF w0 w' v l F := by
  rcases h with h | ⟨h, rfl⟩
  · exact .inl h
  · exact .inr ⟨h.frm f hd, rfl⟩
theorem BytF.frm {w0 w w' : World} {v : Value} {l : List Int} {F S : List Nat} (h : BytF w0 w v l F) (f : Frm w w' S) (hd : ∀ g ∈ F, g ∉ S) : BytF w0 w' v l F := by
  rcases h with h | ⟨h, rfl⟩
  · exact .inl h
  · exact .inr ⟨h.frm f hd, rfl⟩
theorem AttrsF.frm {w0 w w' : World} {v : Value} {l : List (List Int × List Int)} {F S : List Nat} (h : AttrsF w0 w v l F) (f : Frm w w' S) (hd : ∀ g ∈ F, g ∉ S) : AttrsF w0 w' v l F := by
  rcases h with h | h
  · exact .inl h
  · exact .inr (OwElems.frm h f hd (fun C x G hr hG => hr))
theorem PlF.frm {w0 w w' : World} {C : List Value} {p : PlV} {F S : List Nat} (h : PlF w0 w C p F) (f : Frm w w' S) (hd : ∀ g ∈ F, g ∉ S) : PlF w0 w' C p F := by
  obtain ⟨k, n, t, a, F1, F2, F3, e, h1, h2, h3, h4, rfl⟩ := h
  exact ⟨k, n, t, a, F1, F2, F3, e, h1.frm f (fun g hg => hd g (by simp [hg])), h2.frm f (fun g hg => hd g (by simp [hg])), h3, h4.frm f (fun g hg => hd g (by simp [hg])), rfl⟩
theorem PlsF.frm {w0 w w' : World} {v : Value} {l : List PlV} {F S : List Nat} (h : PlsF w0 w v l F) (f : Frm w w' S) (hd : ∀ g ∈ F, g ∉ S) : PlsF w0 w' v l F := OwElems.frm h f hd (fun C x G hr hG => hr.frm f hG)
theorem IntsF.rd {w0 w : World} {v : Value} {l : List Int} {F : List Nat} (h : IntsF w0 w v l F) (hb : Below w0.heap.size w0 w) : Ints w v l := by
  rcases h with ⟨h, _⟩ | ⟨h, _⟩
  · exact h.keep hb
  · exact h.ints
theorem BytF.rd {w0 w : World} {v : Value} {l : List Int} {F : List Nat} (h : BytF w0 w v l F) (hb : Below w0.heap.size w0 w) : Byt w v l := by
  rcases h with ⟨h, _⟩ | ⟨h, _⟩
  · exact h.keep hb
  · exact h.byt
theorem AttrsF.rd {w0 w : World} {v : Value} {l : List (List Int × List Int)} {F : List Nat} (h : AttrsF w0 w v l F) (hb : Below w0.heap.size w0 w) : RdAttrs w v l := by
  rcases h with ⟨h, _⟩ | h
  · exact h.keep hb
  · exact OwElems.rd h (OwElems.len h) (fun C x G ⟨a, b, e, h1, h2, _⟩ => ⟨a, b, e, h1.keep hb, h2.keep hb⟩)
theorem PlF.rd {w0 w : World} {C : List Value} {p : PlV} {F : List Nat} (h : PlF w0 w C p F) (hb : Below w0.heap.size w0 w) : RdPlC w C p := by
  obtain ⟨k, n, t, a, F1, F2, F3, e, h1, h2, h3, h4, _⟩ := h
  exact ⟨k, n, t, a, e, h1.rd hb, h2.rd hb, h3.keep hb, h4.rd hb⟩
theorem PlsF.rd {w0 w : World} {v : Value} {l : List PlV} {F : List Nat} (h : PlsF w0 w v l F) (hb : Below w0.heap.size w0 w) : RdPls w v l := OwElems.rd h (OwElems.len h) (fun C x G hr => hr.rd hb)
/-- The specification's state in its box. -/
def StB (w0 w : World) (sb : Nat) (a : Option Addr) (c : Nat) (l : List PlV) (F : List Nat) : Prop := Loc w sb #[.slice a l.length c] 35 ∧ PlsF w0 w (.slice a l.length c) l F ∧ F.Nodup ∧ (∀ q ∈ F, w0.heap.size ≤ q ∧ q < w.heap.size ∧ q ≠ sb) ∧ w0.heap.size ≤ sb ∧ Below w0.heap.size w0 w
theorem StB.frm {w0 w w' : World} {sb : Nat} {a : Option Addr} {c : Nat} {l : List PlV} {F S : List Nat} (h : StB w0 w sb a c l F) (f : Frm w w' S) (hd : ∀ g ∈ F, g ∉ S) (hs : sb ∉ S) (hS : ∀ q ∈ S, w0.heap.size ≤ q) : StB w0 w' sb a c l F := by
  obtain ⟨h1, h2, h3, h4, h5, h6⟩ := h
  exact ⟨h1.frm f hs, h2.frm f hd, h3, fun q hq => ⟨(h4 q hq).1, Nat.lt_of_lt_of_le (h4 q hq).2.1 f.size, (h4 q hq).2.2⟩, h5, h6.trans (f.below h6.size hS)⟩
theorem StB.keep {w0 w w' : World} {sb : Nat} {a : Option Addr} {c : Nat} {l : List PlV} {F : List Nat} (h : StB w0 w sb a c l F) (hb : Below w.heap.size w w') : StB w0 w' sb a c l F := h.frm (Frm.ofBelow hb []) (fun _ _ => by simp) (by simp) (fun q hq => by cases hq)
end Go.Proofs.YthgopknjppflhaaGreatDoor

/- spec.l5find. -/
namespace Go.Proofs.YthgopknjppflhaaGreatDoor
open Go.RowKit
set_option linter.unusedVariables false
set_option maxRecDepth 100000


def findI (l : List PlV) (i : IdV) : Int := match posP l i with
  | some k => (k : Int)
  | none => -1
theorem StB.cells {w0 w : World} {sb : Nat} {a : Option Addr} {c : Nat} {l : List PlV} {F : List Nat} (h : StB w0 w sb a c l F) {j : Nat} {p : PlV} (hj : l[j]? = some p) :
    ∃ b k ck n cn t ct q cq, a = some ⟨b, 0, none⟩ ∧ b ∈ F ∧ w.cell? ⟨b, j * 9, none⟩ = some (.int .i64 p.idN) ∧ w.cell? ⟨b, j * 9 + 1, none⟩ = some (.int .i64 p.idR) ∧ w.cell? ⟨b, j * 9 + 2, none⟩ = some (.int .i64 p.parN) ∧ w.cell? ⟨b, j * 9 + 3, none⟩ = some (.int .i64 p.parR) ∧ w.cell? ⟨b, j * 9 + 4, none⟩ = some (.slice k p.key.length ck) ∧ w.cell? ⟨b, j * 9 + 5, none⟩ = some (.int .i64 p.kind) ∧ w.cell? ⟨b, j * 9 + 6, none⟩ = some (.slice n p.name.length cn) ∧ w.cell? ⟨b, j * 9 + 7, none⟩ = some (.slice t p.text.length ct) ∧ w.cell? ⟨b, j * 9 + 8, none⟩ = some (.slice q p.attrs.length cq) ∧
      Byt w (.slice n p.name.length cn) p.name ∧ RdAttrs w (.slice q p.attrs.length cq) p.attrs ∧ (∀ x, w.frozen? ⟨b, x, none⟩ = false) := by
  obtain ⟨h1, h2, h3, h4, h5, h6⟩ := h
  obtain ⟨hlt, rfl⟩ := List.getElem?_eq_some_iff.1 hj
  obtain ⟨Cs, Fs, l1, l2, hR, hrow, hF⟩ := h2
  obtain ⟨q1, q2⟩ := hR j hlt
  have hrow' := hrow
  rcases hrow.2 with ⟨_, e0⟩ | ⟨g, cap, cur, e0, hb, hg, hnc, hcm, hcs, htake⟩
  · omega
  injection e0 with x1 _ x3
  subst x1 x3
  have hcell := fun x (hx : x < 9) => own_cellAt hrow' (fun i hi => (hR i (by omega)).1) l1 j x hlt hx
  have hrd := PlF.rd q2 h6
  obtain ⟨k, n, t, q, e, r1, r2, r3, r4⟩ := hrd
  obtain ⟨ka, kc, rfl, _, _⟩ := r1.shape
  obtain ⟨na, nc, rfl, _, _⟩ := r2.shape
  obtain ⟨ta, tc, rfl, _, _⟩ := r3.shape
  obtain ⟨qa, qc, rfl, _, _⟩ := Elems.shape r4
  rw [e] at hcell
  exact ⟨g, ka, kc, na, nc, ta, tc, qa, qc, rfl, by rw [hF]; simp [FB, Value.ownBlock], hcell 0 (by decide), hcell 1 (by decide), hcell 2 (by decide), hcell 3 (by decide), hcell 4 (by decide), hcell 5 (by decide), hcell 6 (by decide), hcell 7 (by decide), hcell 8 (by decide), r2, r4, fun x => hrow'.frozenAt x⟩
end Go.Proofs.YthgopknjppflhaaGreatDoor

/- 'append(row, x)' where the row's block may bear a conversion's mark. -/
namespace Go.Proofs.YthgopknjppflhaaGreatDoor
open Go.RowKit
set_option linter.unusedVariables false

theorem heap_set_mark (w : World) (g i : Nat) (cs : Array Value) (t : TypeId) (fr : Nat × Nat) (v : Value) (hg : w.heap[g]? = some (.cells cs t fr)) : (w.setCell ⟨g, i, none⟩ v).heap[g]? = some (.cells (cs.setIfInBounds i v) t fr) := by
  unfold World.setCell
  simp [Array.getElem?_modify, hg]
theorem frozen_mark (w : World) (g j : Nat) (cs : Array Value) (t : TypeId) (fr : Nat × Nat) (hg : w.heap[g]? = some (.cells cs t fr)) (hj : ¬ (fr.1 ≤ j ∧ j < fr.2)) : w.frozen? ⟨g, j, none⟩ = false := by
  unfold World.frozen?
  simp only [hg]
  simpa using hj
theorem set_grownM (w : World) (g j : Nat) (v : Value) : w.grownBy (w.setCell ⟨g, j, none⟩ v) (some g) := ⟨rfl, rfl, rfl, by simp, fun k _ hk => heap_setCell_other w ⟨g, j, none⟩ k v (fun e => hk (by simp [e]))⟩
end Go.Proofs.YthgopknjppflhaaGreatDoor

/- spec.l5takes, spec.l5under. -/
namespace Go.Proofs.YthgopknjppflhaaGreatDoor
open Go.RowKit
set_option linter.unusedVariables false
set_option maxRecDepth 100000


theorem voidS_b (w : World) (v : Value) (l : List Int) (h : Byt w v l) : Calls Tryz.prog 44 #[v] w fun e w' => e = .returned (.bool (voidB l)) ∧ w' = w := by
  cases hv : voidB l with
  | true => exact voidS_yes w v l h ((voidB_iff _).1 hv)
  | false => exact voidS_no w v l h (fun e => by rw [(voidB_iff _).2 e] at hv; cases hv)
end Go.Proofs.YthgopknjppflhaaGreatDoor

/- Strings are in the order of their bytes. No program. -/
namespace Go.Proofs.YthgopknjppflhaaGreatDoor
open Go.RowKit
set_option linter.unusedVariables false

end Go.Proofs.YthgopknjppflhaaGreatDoor

/- A place of the specification's state is changed in its row. No function of the program. -/
namespace Go.Proofs.YthgopknjppflhaaGreatDoor
open Go.RowKit
set_option linter.unusedVariables false
set_option maxRecDepth 100000

theorem flat_upd_mem {Fs : List (List Nat)} {G : List Nat} {i q : Nat} (h : q ∈ (Fs.set i G).flatten) : q ∈ Fs.flatten ∨ q ∈ G := by
  obtain ⟨F, hF, hq⟩ := List.mem_flatten.1 h
  rcases List.mem_or_eq_of_mem_set hF with hF | rfl
  · exact .inl (List.mem_flatten.2 ⟨F, hF, hq⟩)
  · exact .inr hq
theorem flat_upd_nodup : ∀ {Fs : List (List Nat)} {G : List Nat} {i : Nat}, Fs.flatten.Nodup → G.Nodup → (∀ q ∈ G, q ∈ Fs.getD i [] ∨ q ∉ Fs.flatten) → (Fs.set i G).flatten.Nodup
  | [], _, _, _, _, _ => by simp
  | F :: Fs, G, 0, h, hG, hd => by
    rw [List.flatten_cons] at h
    have h' := List.nodup_append.1 h
    rw [List.set_cons_zero, List.flatten_cons]
    refine List.nodup_append.2 ⟨hG, h'.2.1, fun a ha b hb e => ?_⟩
    subst e
    rcases hd a ha with h1 | h1
    · exact h'.2.2 a (by simpa using h1) a hb rfl
    · exact h1 (by rw [List.flatten_cons]; exact List.mem_append_right _ hb)
  | F :: Fs, G, i + 1, h, hG, hd => by
    rw [List.flatten_cons] at h
    have h' := List.nodup_append.1 h
    rw [List.set_cons_succ, List.flatten_cons]
    refine List.nodup_append.2 ⟨h'.1, flat_upd_nodup h'.2.1 hG (fun q hq => ?_), fun a ha b hb e => ?_⟩
    · rcases hd q hq with h1 | h1
      · exact .inl (by simpa using h1)
      · exact .inr (fun hq' => h1 (by rw [List.flatten_cons]; exact List.mem_append_right _ hq'))
    · subst e
      rcases flat_upd_mem hb with hb | hb
      · exact h'.2.2 a ha a hb rfl
      · rcases hd a hb with h1 | h1
        · exact h'.2.2 a ha a (mem_flat (by simpa using h1)) rfl
        · exact h1 (by rw [List.flatten_cons]; exact List.mem_append_left _ ha)
/-- One place of the row: its cells, and what the row is once they have changed. -/
theorem PlsF.one {w0 w : World} {g cap : Nat} {l : List PlV} {F : List Nat} (h : PlsF w0 w (.slice (some ⟨g, 0, none⟩) l.length cap) l F) (hN : F.Nodup) (k : Nat) (hk : k < l.length) :
    ∃ Cs C G, RowJ w 54 9 g l.length cap Cs k C ∧ PlF w0 w C l[k] G ∧ G.Nodup ∧ (∀ q ∈ G, q ∈ F) ∧ g ∈ F ∧ g ∉ G ∧
      ∀ (w' : World) (D : List Value) (p' : PlV) (G' : List Nat), RowJ w' 54 9 g l.length cap Cs k D → Frm w w' [g] → PlF w0 w' D p' G' → G'.Nodup → (∀ q ∈ G', q ∈ G ∨ q ∉ F) →
        ∃ F', PlsF w0 w' (.slice (some ⟨g, 0, none⟩) (l.set k p').length cap) (l.set k p') F' ∧ F'.Nodup ∧ ∀ q ∈ F', q ∈ F ∨ q ∈ G' := by
  obtain ⟨Cs, Fs, e1, e2, e3, e4, rfl⟩ := h
  have hC : ∀ i, i < Cs.length → (Cs.getD i []).length = 9 := fun i hi => (e3 i (by omega)).1
  have hgF : g ∉ Fs.flatten := fun hq => (List.nodup_append.1 hN).2.2 g (by simp [FB, Value.ownBlock]) g hq rfl
  have hNf := (List.nodup_append.1 hN).2.1
  refine ⟨Cs, Cs.getD k [], Fs.getD k [], RowJ.start e1 hC k hk e4, (e3 k hk).2, nodup_at hNf, fun q hq => List.mem_append_right _ (mem_flat hq), by simp [FB, Value.ownBlock], fun hq => hgF (mem_flat hq), ?_⟩
  intro w' D p' G' hR f hp hGN hG'
  have hgG : g ∉ G' := fun hq => by
    rcases hG' g hq with h1 | h1
    · exact hgF (mem_flat h1)
    · exact h1 (by simp [FB, Value.ownBlock])
  refine ⟨FB (.slice (some ⟨g, 0, none⟩) l.length cap) ++ (Fs.set k G').flatten, ⟨Cs.set k D, Fs.set k G', by simp [e1], by simp [e2], fun i hi => ?_, ?_, ?_⟩, ?_, ?_⟩
  · have hi' : i < l.length := by simpa using hi
    by_cases e : i = k
    · subst e
      rw [getD_set_at _ _ _ (by omega), getD_set_at _ _ _ (by omega), List.getElem_set_self]
      exact ⟨hR.lenD, hp⟩
    · rw [getD_set_ne _ _ _ _ e, getD_set_ne _ _ _ _ e, List.getElem_set_ne (Ne.symm e)]
      exact ⟨(e3 i hi').1, (e3 i hi').2.frm f (fun q hq hq' => by simp at hq'; subst hq'; exact hgF (mem_flat hq))⟩
  · rw [List.length_set]
    exact hR.row
  · rw [List.length_set]
  · refine List.nodup_append.2 ⟨FB_nodup _, flat_upd_nodup hNf hGN (fun q hq => (hG' q hq).imp id (fun h1 h2 => h1 (List.mem_append_right _ h2))), fun a ha b hb e => ?_⟩
    have ea : a = g := by simpa [FB, Value.ownBlock] using ha
    subst e
    subst ea
    rcases flat_upd_mem hb with hb | hb
    · exact hgF hb
    · exact hgG hb
  · intro q hq
    rcases List.mem_append.1 hq with hq | hq
    · exact .inl (List.mem_append_left _ hq)
    · rcases flat_upd_mem hq with hq | hq
      · exact .inl (List.mem_append_right _ hq)
      · exact .inr hq
end Go.Proofs.YthgopknjppflhaaGreatDoor

/- spec.l5setAttr. -/
namespace Go.Proofs.YthgopknjppflhaaGreatDoor
open Go.RowKit
set_option linter.unusedVariables false
set_option maxRecDepth 100000


/-- A row of attributes of the call's own, whose parts are old. -/
def OwAO (w0 w : World) (B : Nat) (v : Value) (m : List (List Int × List Int)) : Prop := OwElems w 85 2 v m (AttrO w0) (FB v) ∧ ∀ q ∈ FB v, B ≤ q ∧ q < w.heap.size
theorem OwAO.frm {w0 w w' : World} {B : Nat} {v : Value} {m : List (List Int × List Int)} {S : List Nat} (h : OwAO w0 w B v m) (f : Frm w w' S) (hd : ∀ q ∈ FB v, q ∉ S) : OwAO w0 w' B v m :=
  ⟨OwElems.frm h.1 f hd (fun C x G hr hG => hr), fun q hq => ⟨(h.2 q hq).1, Nat.lt_of_lt_of_le (h.2 q hq).2 f.size⟩⟩
theorem OwAO.keep {w0 w w' : World} {B : Nat} {v : Value} {m : List (List Int × List Int)} (h : OwAO w0 w B v m) (hb : Below w.heap.size w w') : OwAO w0 w' B v m := h.frm (Frm.ofBelow hb []) (fun _ _ => by simp)
theorem OwAO.nil (w0 w : World) (B : Nat) : OwAO w0 w B (.slice none 0 0) [] := ⟨⟨[], [], rfl, rfl, fun i hi => by simp at hi, ⟨by simp, .inl ⟨rfl, rfl⟩⟩, rfl⟩, fun q hq => by simp [FB, Value.ownBlock] at hq⟩
theorem OwAO.shape {w0 w : World} {B : Nat} {v : Value} {m : List (List Int × List Int)} (h : OwAO w0 w B v m) : ∃ a c, v = .slice a m.length c := by
  obtain ⟨⟨_, _, _, _, _, hr, _⟩, _⟩ := h
  exact own_nil_shape hr
theorem AttrsF.at {w0 w : World} {v : Value} {l : List (List Int × List Int)} {F : List Nat} (h : AttrsF w0 w v l F) (hb : Below w0.heap.size w0 w) {i : Nat} (hi : i < l.length) :
    ∃ b off cap y1 d1 y2 d2, v = .slice (some ⟨b, off, none⟩) l.length cap ∧ b < w.heap.size ∧ w.cell? ⟨b, off + i * 2, none⟩ = some (.slice y1 l[i].1.length d1) ∧ w.cell? ⟨b, off + i * 2 + 1, none⟩ = some (.slice y2 l[i].2.length d2) ∧ Byt w0 (.slice y1 l[i].1.length d1) l[i].1 ∧ Byt w0 (.slice y2 l[i].2.length d2) l[i].2 := by
  rcases h with ⟨h, _⟩ | ⟨Cs, Fs, e1, e2, e3, e4, _⟩
  · obtain ⟨hm, ⟨_, e⟩ | ⟨_, _, _, _, e⟩ | ⟨pb, poff, cap, rfl, _, _, _, hpl, hel⟩⟩ := h
    · subst e; simp at hi
    · subst e; simp at hi
    obtain ⟨C, hC, hcell, y1, y2, rfl, h1, h2⟩ := hel i hi
    obtain ⟨a1, c1, rfl, _, _⟩ := h1.shape
    obtain ⟨a2, c2, rfl, _, _⟩ := h2.shape
    have q0 := hcell 0 (by omega)
    have q1 := hcell 1 (by omega)
    exact ⟨pb, poff, cap, a1, c1, a2, c2, rfl, Nat.lt_of_lt_of_le hpl hb.size, (hb.cell (p := ⟨pb, poff + i * 2, none⟩) hpl).trans q0, (hb.cell (p := ⟨pb, poff + i * 2 + 1, none⟩) hpl).trans q1, h1, h2⟩
  · rcases e4.2 with ⟨_, e0⟩ | ⟨g, cap, cur, rfl, _, hg, _⟩
    · omega
    obtain ⟨_, y1, y2, eC, h1, h2, _⟩ := e3 i hi
    have hcell := fun x (hx : x < 2) => own_cellAt e4 (fun i hi => (e3 i (by omega)).1) e1 i x hi hx
    rw [eC] at hcell
    obtain ⟨a1, c1, rfl, _, _⟩ := h1.shape
    obtain ⟨a2, c2, rfl, _, _⟩ := h2.shape
    exact ⟨g, 0, cap, a1, c1, a2, c2, rfl, (Array.getElem?_eq_some_iff.1 hg).1, by rw [Nat.zero_add]; exact hcell 0 (by decide), by rw [Nat.zero_add]; exact hcell 1 (by decide), h1, h2⟩
end Go.Proofs.YthgopknjppflhaaGreatDoor

/- spec.l5setAttr sets an attribute of a place. -/
namespace Go.Proofs.YthgopknjppflhaaGreatDoor
open Go.RowKit
set_option linter.unusedVariables false
set_option maxRecDepth 100000


theorem StB.same {w0 w w' : World} {sb b c : Nat} {l : List PlV} {F : List Nat} (h : StB w0 w sb (some ⟨b, 0, none⟩) c l F) {k : Nat} {p : PlV} (hk : l[k]? = some p) (hb : Below w.heap.size w w') : StB w0 w' sb (some ⟨b, 0, none⟩) c (l.set k p) F := by
  have e : l.set k p = l := by
    obtain ⟨hlt, rfl⟩ := List.getElem?_eq_some_iff.1 hk
    simp
  rw [e]
  exact h.keep hb
/-- A place's attributes are another row of the call's own. -/
theorem StB.attrs {w0 w w' : World} {sb b c : Nat} {l : List PlV} {F : List Nat} (h : StB w0 w sb (some ⟨b, 0, none⟩) c l F) {k : Nat} {p : PlV} (hk : l[k]? = some p) (hb : Below w.heap.size w w') {v : Value} {m : List (List Int × List Int)} (hv : OwAO w0 w' (w.heap.size + 1) v m) :
    ∃ F', StB w0 (w'.setCell ⟨b, k * 9 + 8, none⟩ v) sb (some ⟨b, 0, none⟩) c (l.set k { p with attrs := m }) F' ∧ Frm w (w'.setCell ⟨b, k * 9 + 8, none⟩ v) [b] ∧ ∀ q ∈ F', q ∈ F ∨ w.heap.size ≤ q := by
  obtain ⟨h1, h2, h3, h4, h5, h6⟩ := h
  obtain ⟨hlt, rfl⟩ := List.getElem?_eq_some_iff.1 hk
  obtain ⟨Cs, C, G, hR, hP, hGN, hGF, hbF, hbG, hcl⟩ := h2.one h3 k hlt
  have hbl := (h4 b hbF).2.1
  have hbs := (h4 b hbF).2.2
  have f1 : Frm w w' [] := Frm.ofBelow hb []
  have f2 := set_frm w' b (k * 9 + 8) v
  have f : Frm w (w'.setCell ⟨b, k * 9 + 8, none⟩ v) [b] := (f1.mono (fun q hq => by cases hq)).trans f2
  have hR9 := (hR.frm f1 (by simp)).put 8 (by decide) v
  obtain ⟨kv, n, t, a, F1, F2, F3, eC, q1, q2, q3, q4, eG⟩ := hP
  have hvb : ∀ q ∈ FB v, q ∉ [b] := fun q hq e => by have := (hv.2 q hq).1; simp at e; omega
  have hv9 := OwElems.frm hv.1 f2 hvb (fun C x G hr hG => hr)
  have hG1 : ∀ q ∈ F1 ++ F2, q ∈ G := fun q hq => by rw [eG]; exact List.mem_append_left _ hq
  have hGb : ∀ q ∈ F1 ++ F2, q ∉ [b] := fun q hq e => by simp at e; subst e; exact hbG (hG1 q hq)
  have hP9 : PlF w0 (w'.setCell ⟨b, k * 9 + 8, none⟩ v) (C.set 8 v) { l[k] with attrs := m } (F1 ++ F2 ++ FB v) := by
    subst eC
    exact ⟨kv, n, t, v, F1, F2, FB v, rfl, q1.frm f (fun q hq => hGb q (by simp [hq])), q2.frm f (fun q hq => hGb q (by simp [hq])), q3, .inr hv9, rfl⟩
  have hN9 : (F1 ++ F2 ++ FB v).Nodup := by
    rw [eG] at hGN
    refine List.nodup_append.2 ⟨(List.nodup_append.1 hGN).1, FB_nodup _, fun x hx y hy e => ?_⟩
    subst e
    have h7 := (h4 x (hGF x (hG1 x hx))).2.1
    have h8 := (hv.2 x hy).1
    omega
  obtain ⟨F', g1, g2, g3⟩ := hcl _ _ { l[k] with attrs := m } (F1 ++ F2 ++ FB v) hR9 f hP9 hN9 (fun q hq => by
    rcases List.mem_append.1 hq with hq | hq
    · exact .inl (hG1 q hq)
    · right; intro e; have h7 := (h4 q e).2.1; have h8 := (hv.2 q hq).1; omega)
  have hs9 := f.size
  refine ⟨F', ⟨?_, g1, g2, fun q hq => ?_, h5, h6.trans (f.below h6.size (fun q hq => by simp at hq; subst hq; exact (h4 q hbF).1))⟩, f, fun q hq => (g3 q hq).elim .inl (fun h7 => (List.mem_append.1 h7).elim (fun h8 => .inl (hGF q (hG1 q h8))) (fun h8 => .inr (by have := (hv.2 q h8).1; omega)))⟩
  · rw [List.length_set]
    exact h1.frm f (by simp; omega)
  · have hsl := h1.lt
    rcases g3 q hq with h7 | h7
    · have := h4 q h7; exact ⟨this.1, by omega, this.2.2⟩
    · rcases List.mem_append.1 h7 with h7 | h7
      · have := h4 q (hGF q (hG1 q h7)); exact ⟨this.1, by omega, this.2.2⟩
      · have h8 := hv.2 q h7
        have h9 := f2.size
        exact ⟨by have := h6.size; omega, by omega, by omega⟩
end Go.Proofs.YthgopknjppflhaaGreatDoor

/- A place of the specification's state is moved, or its text changed; a place is put behind the others. No function of the program. -/
namespace Go.Proofs.YthgopknjppflhaaGreatDoor
open Go.RowKit
set_option linter.unusedVariables false
set_option maxRecDepth 100000

theorem StB.one {w0 w : World} {sb b c : Nat} {l : List PlV} {F : List Nat} (h : StB w0 w sb (some ⟨b, 0, none⟩) c l F) {k : Nat} {p : PlV} (hk : l[k]? = some p) :
    ∃ Cs C G, RowJ w 54 9 b l.length c Cs k C ∧ PlF w0 w C p G ∧ G.Nodup ∧ b ∉ G ∧ b < w.heap.size ∧ b ≠ sb ∧
      ∀ (w' : World) (D : List Value) (p' : PlV) (G' : List Nat), RowJ w' 54 9 b l.length c Cs k D → Frm w w' [b] → PlF w0 w' D p' G' → G'.Nodup → (∀ q ∈ G', q ∈ G) →
        ∃ F', StB w0 w' sb (some ⟨b, 0, none⟩) c (l.set k p') F' ∧ ∀ q ∈ F', q ∈ F := by
  obtain ⟨h1, h2, h3, h4, h5, h6⟩ := h
  obtain ⟨hlt, rfl⟩ := List.getElem?_eq_some_iff.1 hk
  obtain ⟨Cs, C, G, hR, hP, hGN, hGF, hbF, hbG, hcl⟩ := h2.one h3 k hlt
  have hbl := (h4 b hbF).2.1
  have hbs := (h4 b hbF).2.2
  refine ⟨Cs, C, G, hR, hP, hGN, hbG, hbl, hbs, fun w' D p' G' hR' f hP' hN' hG' => ?_⟩
  obtain ⟨F', g1, g2, g3⟩ := hcl w' D p' G' hR' f hP' hN' (fun q hq => .inl (hG' q hq))
  have g4 : ∀ q ∈ F', q ∈ F := fun q hq => (g3 q hq).elim id (fun h7 => hGF q (hG' q h7))
  have hs9 := f.size
  refine ⟨F', ⟨?_, g1, g2, fun q hq => ?_, h5, h6.trans (f.below h6.size (fun q hq => by simp at hq; subst hq; exact (h4 q hbF).1))⟩, g4⟩
  · rw [List.length_set]
    exact h1.frm f (by simp; omega)
  · have := h4 q (g4 q hq)
    exact ⟨this.1, by omega, this.2.2⟩
theorem StB.text {w0 w : World} {sb b c : Nat} {l : List PlV} {F : List Nat} (h : StB w0 w sb (some ⟨b, 0, none⟩) c l F) {k : Nat} {p : PlV} (hk : l[k]? = some p) {v : Value} {t : List Int} (hv : Byt w0 v t) :
    (∃ F', StB w0 (w.setCell ⟨b, k * 9 + 7, none⟩ v) sb (some ⟨b, 0, none⟩) c (l.set k { p with text := t }) F' ∧ ∀ q ∈ F', q ∈ F) ∧ Frm w (w.setCell ⟨b, k * 9 + 7, none⟩ v) [b] := by
  obtain ⟨Cs, C, G, hR, hP, hGN, hbG, hbl, hbs, hcl⟩ := h.one hk
  have f := set_frm w b (k * 9 + 7) v
  obtain ⟨kv, n, t9, a, F1, F2, F3, eC, q1, q2, q3, q4, eG⟩ := hP.frm f (fun q hq e => by simp at e; subst e; exact hbG hq)
  refine ⟨hcl _ _ { p with text := t } G (hR.put 7 (by decide) v) f ?_ hGN (fun q hq => hq), f⟩
  subst eC
  exact ⟨kv, n, v, a, F1, F2, F3, rfl, q1, q2, hv, q4, eG⟩
theorem StB.key {w0 w : World} {sb b c : Nat} {l : List PlV} {F : List Nat} (h : StB w0 w sb (some ⟨b, 0, none⟩) c l F) {k : Nat} {p : PlV} (hk : l[k]? = some p) {v : Value} {t : List Int} (hv : Ints w0 v t) :
    (∃ F', StB w0 (w.setCell ⟨b, k * 9 + 4, none⟩ v) sb (some ⟨b, 0, none⟩) c (l.set k { p with key := t }) F' ∧ ∀ q ∈ F', q ∈ F) ∧ Frm w (w.setCell ⟨b, k * 9 + 4, none⟩ v) [b] := by
  obtain ⟨Cs, C, G, hR, hP, hGN, hbG, hbl, hbs, hcl⟩ := h.one hk
  have f := set_frm w b (k * 9 + 4) v
  obtain ⟨kv, n, t9, a, F1, F2, F3, eC, q1, q2, q3, q4, eG⟩ := hP.frm f (fun q hq e => by simp at e; subst e; exact hbG hq)
  subst eG
  refine ⟨hcl _ _ { p with key := t } ([] ++ F2 ++ F3) (hR.put 4 (by decide) v) f ?_ ?_ (fun q hq => ?_), f⟩
  · subst eC
    exact ⟨v, n, t9, a, [], F2, F3, rfl, .inl ⟨hv, rfl⟩, q2, q3, q4, rfl⟩
  · rw [List.append_assoc] at hGN
    exact (List.nodup_append.1 hGN).2.1
  · rw [List.append_assoc]
    exact List.mem_append_right _ hq
theorem StB.par {w0 w : World} {sb b c : Nat} {l : List PlV} {F : List Nat} (h : StB w0 w sb (some ⟨b, 0, none⟩) c l F) {k : Nat} {p : PlV} (hk : l[k]? = some p) (x y : Int) :
    (∃ F', StB w0 ((w.setCell ⟨b, k * 9 + 2, none⟩ (.int .i64 x)).setCell ⟨b, k * 9 + 3, none⟩ (.int .i64 y)) sb (some ⟨b, 0, none⟩) c (l.set k { p with parN := x, parR := y }) F' ∧ ∀ q ∈ F', q ∈ F) ∧ Frm w ((w.setCell ⟨b, k * 9 + 2, none⟩ (.int .i64 x)).setCell ⟨b, k * 9 + 3, none⟩ (.int .i64 y)) [b] := by
  obtain ⟨Cs, C, G, hR, hP, hGN, hbG, hbl, hbs, hcl⟩ := h.one hk
  have f := (set_frm w b (k * 9 + 2) (.int .i64 x)).trans (set_frm _ b (k * 9 + 3) (.int .i64 y))
  obtain ⟨kv, n, t9, a, F1, F2, F3, eC, q1, q2, q3, q4, eG⟩ := hP.frm f (fun q hq e => by simp at e; subst e; exact hbG hq)
  refine ⟨hcl _ _ { p with parN := x, parR := y } G ((hR.put 2 (by decide) (.int .i64 x)).put 3 (by decide) (.int .i64 y)) f ?_ hGN (fun q hq => hq), f⟩
  subst eC
  exact ⟨kv, n, t9, a, F1, F2, F3, rfl, q1, q2, q3, q4, eG⟩
theorem PlF.lt {w0 w : World} {C : List Value} {p : PlV} {G : List Nat} (h : PlF w0 w C p G) : ∀ q ∈ G, q < w.heap.size := by
  obtain ⟨k, n, t, a, F1, F2, F3, e, h1, h2, h3, h4, rfl⟩ := h
  intro q hq
  rcases List.mem_append.1 hq with hq | hq
  · rcases List.mem_append.1 hq with hq | hq
    · rcases h1 with ⟨_, rfl⟩ | ⟨h1, rfl⟩
      · cases hq
      · exact (h1.rng q hq).2
    · rcases h2 with ⟨_, rfl⟩ | ⟨h2, rfl⟩
      · cases hq
      · exact (h2.rng q hq).2
  · rcases h4 with ⟨_, rfl⟩ | h4
    · cases hq
    · exact OwElems.lt h4 (fun C x G ⟨_, _, _, _, _, e⟩ g hg => by rw [e] at hg; cases hg) q hq
theorem PlsF.head {w0 w : World} {v : Value} {l : List PlV} {F : List Nat} (h : PlsF w0 w v l F) : ∀ q ∈ FB v, q ∈ F := by
  obtain ⟨Cs, Fs, h1, h2, h3, h4, rfl⟩ := h
  exact fun q hq => List.mem_append_left _ hq
end Go.Proofs.YthgopknjppflhaaGreatDoor

/- A region that draws its order, by what is said at each point of its way: a step for each operation, in place of a way for each order. Plain, and in a round of a loop over a function. No program. -/
namespace Go.Proofs.YthgopknjppflhaaGreatDoor
open Go.RowKit
set_option linter.unusedVariables false

/-- How many are not yet listed. -/
def todo : List Bool → Nat
  | [] => 0
  | b :: l => (if b then 0 else 1) + todo l
theorem todo_set : ∀ (l : List Bool) (i : Nat), l[i]? = some false → todo (l.set i true) + 1 = todo l
  | [], i, h => by simp at h
  | b :: l, 0, h => by
    have e : b = false := by simpa using h
    subst e
    simp only [List.set_cons_zero, todo, if_true, Bool.false_eq_true, if_false]
    omega
  | b :: l, i + 1, h => by
    have ih := todo_set l i (by simpa using h)
    simp only [List.set_cons_succ, todo]
    omega
theorem todo_none : ∀ (l : List Bool), todo l = 0 → ∀ (i : Nat) (b : Bool), l[i]? = some b → b = true
  | [], _, i, b, h => by simp at h
  | c :: l, h0, 0, b, h => by
    have e : c = b := by simpa using h
    subst e
    cases c with
    | true => rfl
    | false => simp [todo] at h0
  | c :: l, h0, i + 1, b, h => todo_none l (by simp only [todo] at h0; omega) i b (by simpa using h)
theorem todo_all (n : Nat) : todo (List.replicate n false) = n := by
  induction n with
  | zero => rfl
  | succ n ih => rw [List.replicate_succ]; simp only [todo, Bool.false_eq_true, if_false]; omega
theorem ready_off {md : Region.Mode} {ops : Array Oper} {L : Array Bool} {i : Nat} (hs : L.size = ops.size) (h : i ∈ Region.ready md ops L) : L.toList[i]? = some false := by
  unfold Region.ready at h
  rw [List.mem_filter, List.mem_range, Bool.and_eq_true] at h
  obtain ⟨h1, h2, _⟩ := h
  have hi : i < L.size := by omega
  rw [Array.getD_eq_getD_getElem?, Array.getElem?_eq_getElem hi] at h2
  rw [Array.getElem?_toList, Array.getElem?_eq_getElem hi]
  simpa using h2
theorem ready_none {md : Region.Mode} {ops : Array Oper} {L : Array Bool} (hs : L.size = ops.size) (h : todo L.toList = 0) : Region.ready md ops L = [] := by
  rw [List.eq_nil_iff_forall_not_mem]
  intro i hi
  have := todo_none _ h i false (ready_off hs hi)
  cases this

/-- What an operation waits for is listed where it is ready. -/
theorem ready_pred {md : Region.Mode} {ops : Array Oper} {L : Array Bool} {i : Nat} {o : Oper} (h : i ∈ Region.ready md ops L) (ho : ops[i]? = some o) (j : Nat) (he : o.after.any (fun e => Region.binds md e && e.on == j) = true) : L.getD j false = true := by
  unfold Region.ready at h
  rw [List.mem_filter, Bool.and_eq_true, ho] at h
  obtain ⟨_, _, h3⟩ := h
  simp only [Option.map_some, Option.getD_some] at h3
  rw [Array.any_eq_true] at he
  obtain ⟨k, hk, hb⟩ := he
  rw [Bool.and_eq_true, beq_iff_eq] at hb
  rw [Array.all_eq_true] at h3
  have := h3 k hk
  rw [Bool.or_eq_true, hb.1, hb.2] at this
  simpa using this
theorem ready_lt {md : Region.Mode} {ops : Array Oper} {L : Array Bool} {i : Nat} (h : i ∈ Region.ready md ops L) : i < ops.size := by
  unfold Region.ready at h
  rw [List.mem_filter, List.mem_range] at h
  exact h.1
/-- Where each waits for earlier ones alone, none is ready only behind the last. -/
theorem ready_all {md : Region.Mode} {ops : Array Oper} {L : Array Bool} (hs : L.size = ops.size) (hb : (List.range ops.size).all (fun i => ((ops[i]?).map fun o => o.after.all fun e => !Region.binds md e || decide (e.on < i)).getD true) = true)
    (h : Region.ready md ops L = []) : ∀ (n i : Nat), i < n → i < ops.size → L.getD i false = true
  | 0, i, hn, _ => by omega
  | n + 1, i, hn, hi => by
    by_cases hlt : i < n
    · exact ready_all hs hb h n i hlt hi
    have e : i = n := by omega
    subst e
    have hL : i < L.size := by omega
    by_cases hf : L.getD i false = true
    · exact hf
    exfalso
    have hmem : i ∈ Region.ready md ops L := by
      unfold Region.ready
      rw [List.mem_filter, List.mem_range, Bool.and_eq_true]
      refine ⟨hi, ?_, ?_⟩
      · rw [Array.getD_eq_getD_getElem?, Array.getElem?_eq_getElem hL] at hf ⊢
        simpa using hf
      · have hbi := List.all_eq_true.1 hb i (List.mem_range.2 hi)
        rw [Array.getElem?_eq_getElem hi] at hbi ⊢
        simp only [Option.map_some, Option.getD_some] at hbi ⊢
        rw [Array.all_eq_true] at hbi ⊢
        intro k hk
        have hk' := hbi k hk
        rw [Bool.or_eq_true] at hk' ⊢
        rcases hk' with hk' | hk'
        · exact .inl hk'
        · right
          have hlt' : (ops[i].after[k]).on < i := by simpa using hk'
          exact ready_all hs hb h i _ hlt' (by omega)
    rw [h] at hmem
    cases hmem

variable {P : Program} {ops : Array Oper} {Q : Exit → Act → World → Prop}

theorem any_inv {md : Region.Mode} (I : Array Bool → Act → World → Prop) (hsz : ∀ L a w, I L a w → L.size = ops.size)
    (hstep : ∀ L a w i o, I L a w → i ∈ Region.ready md ops L → ops[i]? = some o → if Region.wanted o (yielded ops a.tmps) = true then Oper.wp P o a w (I (L.setIfInBounds i true)) Q else I (L.setIfInBounds i true) (a.put o.dst undef) w)
    (hdone : ∀ L a w, I L a w → Region.ready md ops L = [] → Q .normal a w) :
    ∀ (fuel : Nat) (L : Array Bool) (a : Act) (w : World), todo L.toList ≤ fuel → I L a w → wpAny P md ops Q fuel L a w
  | 0, L, a, w, hf, hI => by
    have hr := ready_none (md := md) (hsz L a w hI) (by omega)
    exact ⟨hr, hdone L a w hI hr⟩
  | fuel + 1, L, a, w, hf, hI => by
    refine ⟨fun hr => hdone L a w hI hr, fun i hi => ?_⟩
    have ho := todo_set _ _ (ready_off (hsz L a w hI) hi)
    have key : ∀ a' w', I (L.setIfInBounds i true) a' w' → wpAny P md ops Q fuel (L.setIfInBounds i true) a' w' := fun a' w' h' =>
      any_inv I hsz hstep hdone fuel _ a' w' (by rw [Array.toList_setIfInBounds]; omega) h'
    unfold wpOp
    cases hoi : ops[i]? with
    | none =>
      unfold Region.ready at hi
      rw [List.mem_filter, List.mem_range] at hi
      rw [Array.getElem?_eq_getElem hi.1] at hoi
      cases hoi
    | some o =>
      have hs := hstep L a w i o hI hi hoi
      simp only []
      split
      · rename_i hw
        rw [if_pos hw] at hs
        exact .inl (Oper.wp_mono key hs)
      · rename_i hw
        rw [if_neg hw] at hs
        exact key _ _ hs
/-- The region, plain. -/
theorem region_inv {id : Nat} {a : Act} {w : World} (hm : P.follows .mixedOrders = true) (I : Array Bool → Act → World → Prop) (hsz : ∀ L a w, I L a w → L.size = ops.size)
    (h0 : I (Array.replicate ops.size false) a w.drew)
    (hstep : ∀ L a w i o, I L a w → i ∈ Region.ready .any ops L → ops[i]? = some o → if Region.wanted o (yielded ops a.tmps) = true then Oper.wp P o a w (I (L.setIfInBounds i true)) Q else I (L.setIfInBounds i true) (a.put o.dst undef) w)
    (hdone : ∀ L a w, I L a w → Region.ready .any ops L = [] → Q .normal a w) : (Code.region id ops true).wp P Q a w :=
  wp_region_any hm (any_inv I hsz hstep hdone _ _ _ _ (by rw [Array.toList_replicate, todo_all]; exact Nat.le_refl _) h0)
end Go.Proofs.YthgopknjppflhaaGreatDoor

/- spec.l5do: one operation over the specification's state. -/
namespace Go.Proofs.YthgopknjppflhaaGreatDoor
open Go.RowKit
set_option linter.unusedVariables false
set_option maxRecDepth 100000

theorem pl_info : (Tryz.prog.info? 54).map (fun i => (i.zero, i.size, i.bytes)) = some (some (.agg #[.int .i64 0, .int .i64 0, .int .i64 0, .int .i64 0, .slice none 0 0, .int .i64 0, .slice none 0 0, .slice none 0 0, .slice none 0 0]), 9, 136) := by kernel_rfl
def DoR (w0 w : World) (sb : Nat) (F : List Nat) (m : List PlV) (w' : World) : Prop := ∃ a' c' F', StB w0 w' sb a' c' m F' ∧ Frm w w' (sb :: F) ∧ ∀ q ∈ F', q ∈ F ∨ w.heap.size ≤ q
theorem DoR.of {w0 w w' : World} {sb : Nat} {a : Option Addr} {c : Nat} {l m : List PlV} {F F' : List Nat} (h : StB w0 w' sb a c l F') (e : m = l) (f : Frm w w' (sb :: F)) (hF : ∀ q ∈ F', q ∈ F ∨ w.heap.size ≤ q) : DoR w0 w sb F m w' := ⟨a, c, F', e ▸ h, f, hF⟩
theorem Frm.more9 {a b c : World} {S S' : List Nat} (h : Frm a b S) (k : Frm b c S') (hs : ∀ q ∈ S', q ∈ S ∨ a.heap.size ≤ q) : Frm a c S :=
  ⟨k.os.trans h.os, k.tape.trans h.tape, k.output.trans h.output, Nat.le_trans h.size k.size, fun i hi hn => (k.block i (Nat.lt_of_lt_of_le hi h.size) (fun e => (hs i e).elim hn (fun h' => by omega))).trans (h.block i hi hn)⟩
def AfR (w0 w3 w : World) (sb : Nat) (a : Option Addr) (c : Nat) (l : List PlV) (F : List Nat) (o : OpV) (gq cq : Nat) : Prop := ∃ F', Loc w sb #[.slice a l.length c] 35 ∧ PlsF w0 w (.slice (some ⟨gq, 0, none⟩) (l.length + 1) cq) (l ++ [newP o]) F' ∧ F'.Nodup ∧ (∀ q ∈ F', w0.heap.size ≤ q ∧ q < w.heap.size ∧ q ≠ sb) ∧ w0.heap.size ≤ sb ∧ Below w0.heap.size w0 w ∧ (∀ q ∈ F', q ∈ F ∨ w3.heap.size ≤ q) ∧ Frm w3 w (sb :: F)
theorem AfR.done {w0 w3 w : World} {sb : Nat} {a : Option Addr} {c : Nat} {l : List PlV} {F : List Nat} {o : OpV} {gq cq : Nat} (h : AfR w0 w3 w sb a c l F o gq cq) : DoR w0 w3 sb F (l ++ [newP o]) (w.setCell ⟨sb, 0, none⟩ (.slice (some ⟨gq, 0, none⟩) (l.length + 1) cq)) := by
  obtain ⟨F', h1, h2, h3, h4, h5, h6, h7, h8⟩ := h
  have f := set_frm w sb 0 (.slice (some ⟨gq, 0, none⟩) (l.length + 1) cq)
  have hlen : (l ++ [newP o]).length = l.length + 1 := by simp
  refine ⟨some ⟨gq, 0, none⟩, cq, F', ⟨?_, ?_, h3, fun q hq => ⟨(h4 q hq).1, Nat.lt_of_lt_of_le (h4 q hq).2.1 f.size, (h4 q hq).2.2⟩, h5, h6.trans (f.below h6.size (fun q hq => by simp at hq; omega))⟩, h8.more9 f (fun q hq => by simp at hq; left; simp [hq]), h7⟩
  · rw [hlen]; exact h1.set 0 _
  · rw [hlen]; exact h2.frm f (fun q hq e => (h4 q hq).2.2 (by simpa using e))
end Go.Proofs.YthgopknjppflhaaGreatDoor

/- Is a state one that Fold may tell? As the specification asks and as the program asks: one answer. Plain mathematics. -/
namespace Go.Proofs.YthgopknjppflhaaGreatDoor
set_option linter.unusedVariables false

/-- A place as a node that has no kids. -/
def flatP (p : PlV) : Tr 1 := (⟨p.kind, p.name, p.text, p.attrs, []⟩ : Nd (Tr 0))
def loneP (p : PlV) : Bool := (okT 1 1 (flatP p) 2).1
def topB (p : PlV) : Bool := decide (p.kind = 0) && !voidB p.name && zeroB p.parN p.parR && decide (p.key.length = 0)
def restB (l : List PlV) (p : PlV) : Bool := keyB p.key && takesV l p.par && !underS l (l.length + 1) p.par p.id
def placeB (l : List PlV) (i : Nat) (p : PlV) : Bool := loneP p && idB p.idN p.idR && decide (posP l p.id = some i) && (if i < 2 then topB p else restB l p)
def idAt (l : List PlV) (i : Nat) (id : IdV) : Bool := match l[i]? with
  | some p => decide (p.id = id)
  | none => false
def eachB (l : List PlV) (f : Nat → PlV → Bool) : Bool := (List.range l.length).all (fun i => match l[i]? with
  | some p => f i p
  | none => false)
theorem eachB_iff (l : List PlV) (f : Nat → PlV → Bool) : eachB l f = true ↔ ∀ i p, l[i]? = some p → f i p = true := by
  unfold eachB
  rw [List.all_eq_true]
  constructor
  · intro h i p hp
    have hlt : i < l.length := (List.getElem?_eq_some_iff.1 hp).1
    have := h i (List.mem_range.2 hlt)
    rw [hp] at this
    exact this
  · intro h i hi
    have hlt := List.mem_range.1 hi
    have hp : l[i]? = some l[i] := by simp [hlt]
    rw [hp]
    exact h i _ hp
theorem idAt_iff {l : List PlV} {i : Nat} {id : IdV} (hi : i < l.length) : idAt l i id = true ↔ ∀ p, l[i]? = some p → p.id = id := by
  unfold idAt
  have hp : l[i]? = some l[i] := by simp [hi]
  rw [hp]
  simp
/-- As the specification asks. -/
def stB (l : List PlV) : Bool := decide (2 ≤ l.length) && decide (l.length ≤ 272) && idAt l 0 rootV && idAt l 1 trashV && eachB l (placeB l)
/-- As the program asks. -/
def newB (l : List PlV) (i : Nat) (p : PlV) : Bool := decide (posP (l.take i) p.id = none) && idB p.idN p.idR && loneP p
def topI (l : List PlV) (i : Nat) (id : IdV) : Bool := match l[i]? with
  | some p => decide (p.id = id) && decide (p.par = (0, 0)) && decide (p.key.length = 0) && takesV l id
  | none => false
def keysI (l : List PlV) (i : Nat) (p : PlV) : Bool := decide (i < 2) || (keyB p.key && takesV l p.par)
def freeI (l : List PlV) (i : Nat) (p : PlV) : Bool := decide (i < 2) || !within l l.length p.par p.id
def stI (l : List PlV) : Bool := decide (2 ≤ l.length) && decide (l.length ≤ 272) && eachB l (newB l) && topI l 0 rootV && topI l 1 trashV && eachB l (keysI l) && eachB l (freeI l)
theorem zero_iff (p : PlV) : zeroB p.parN p.parR = true ↔ p.par = (0, 0) := by
  unfold zeroB
  simp only [Bool.and_eq_true, decide_eq_true_eq]
  constructor
  · rintro ⟨h1, h2⟩
    show (p.parN, p.parR) = (0, 0)
    rw [h1, h2]
  · intro h
    exact Prod.mk.inj h
theorem takes_at {l : List PlV} {id : IdV} {i : Nat} {p : PlV} (hk : posP l id = some i) (hp : l[i]? = some p) : takesV l id = (elemP p && !voidB p.name) := by
  unfold takesV
  rw [hk]
  simp only [hp]
theorem takes_posS {l : List PlV} {id : IdV} (h : takesV l id = true) : ∃ j, posP l id = some j := by
  unfold takesV at h
  cases hk : posP l id with
  | none => rw [hk] at h; cases h
  | some j => exact ⟨j, rfl⟩
theorem uniq_of_pos {l : List PlV} (h : ∀ i p, l[i]? = some p → posP l p.id = some i) : (l.map PlV.id).Nodup := by
  refine List.pairwise_iff_getElem.2 (fun i j hi hj hij e => ?_)
  simp at hi hj e
  have h1 := h i l[i] (by simp [hi])
  have h2 := h j l[j] (by simp [hj])
  rw [e, h2] at h1
  have := Option.some.inj h1
  omega
theorem new_of_pos {l : List PlV} {i : Nat} {p : PlV} (hp : l[i]? = some p) (h : posP l p.id = some i) : posP (l.take i) p.id = none := by
  refine posP_none.2 (fun q hq e => ?_)
  obtain ⟨j, hj, rfl⟩ := List.getElem_of_mem hq
  have hj' : j < i := by rw [List.length_take] at hj; omega
  obtain ⟨h1, _, h3⟩ := posP_some.1 h
  rw [List.getElem_take] at e
  exact h3 j hj' e
theorem pos_of_new {l : List PlV} (h : ∀ i p, l[i]? = some p → posP (l.take i) p.id = none) {i : Nat} {p : PlV} (hp : l[i]? = some p) : posP l p.id = some i := by
  obtain ⟨hlt, rfl⟩ := List.getElem?_eq_some_iff.1 hp
  refine posP_some.2 ⟨hlt, rfl, fun j hj e => ?_⟩
  have h1 := posP_none.1 (h i l[i] hp) l[j] (by
    have : (l.take i)[j]'(by rw [List.length_take]; omega) = l[j] := List.getElem_take
    rw [← this]
    exact List.getElem_mem _)
  exact h1 e
/-- Both answers are one. -/
theorem st_eq (l : List PlV) : stB l = stI l := by
  rw [Bool.eq_iff_iff]
  unfold stB stI
  simp only [Bool.and_eq_true, decide_eq_true_eq, eachB_iff]
  constructor
  · rintro ⟨⟨⟨⟨h2, hm⟩, h0⟩, h1⟩, he⟩
    rw [idAt_iff (by omega)] at h0 h1
    have hpl : ∀ i p, l[i]? = some p → loneP p = true ∧ idB p.idN p.idR = true ∧ posP l p.id = some i ∧ (if i < 2 then topB p else restB l p) = true := fun i p hp => by
      have := he i p hp
      unfold placeB at this
      simp only [Bool.and_eq_true, decide_eq_true_eq] at this
      exact ⟨this.1.1.1, this.1.1.2, this.1.2, this.2⟩
    have hpos := fun i p hp => (hpl i p hp).2.2.1
    have hrest : ∀ i p, 2 ≤ i → l[i]? = some p → keyB p.key = true ∧ takesV l p.par = true ∧ underS l (l.length + 1) p.par p.id = false := fun i p hi hp => by
      have := (hpl i p hp).2.2.2
      rw [if_neg (by omega)] at this
      unfold restB at this
      simp only [Bool.and_eq_true, Bool.not_eq_true'] at this
      exact ⟨this.1.1, this.1.2, this.2⟩
    have hF : FrW l := ⟨h2, h0, h1, uniq_of_pos hpos, fun i p hi hp => takes_posS (hrest i p hi hp).2.1⟩
    have hfree := hF.free.2 (fun i p hi hp => (hrest i p hi hp).2.2)
    have htop : ∀ i id, i < 2 → (∀ p, l[i]? = some p → p.id = id) → topI l i id = true := fun i id hi hid => by
      have hlt : i < l.length := by omega
      have hp : l[i]? = some l[i] := by simp [hlt]
      have ht := (hpl i _ hp).2.2.2
      rw [if_pos hi] at ht
      unfold topB at ht
      simp only [Bool.and_eq_true, decide_eq_true_eq] at ht
      have hi2 := hid _ hp
      have hk := hpos i _ hp
      rw [hi2] at hk
      unfold topI
      rw [hp]
      simp only [Bool.and_eq_true, decide_eq_true_eq]
      refine ⟨⟨⟨hi2, (zero_iff _).1 ht.1.2⟩, ht.2⟩, ?_⟩
      rw [takes_at hk hp]
      unfold elemP
      simp only [Bool.and_eq_true, decide_eq_true_eq]
      exact ⟨ht.1.1.1, ht.1.1.2⟩
    refine ⟨⟨⟨⟨⟨⟨h2, hm⟩, fun i p hp => ?_⟩, htop 0 _ (by omega) h0⟩, htop 1 _ (by omega) h1⟩, fun i p hp => ?_⟩, fun i p hp => ?_⟩
    · unfold newB
      simp only [Bool.and_eq_true, decide_eq_true_eq]
      exact ⟨⟨new_of_pos hp (hpos i p hp), (hpl i p hp).2.1⟩, (hpl i p hp).1⟩
    · unfold keysI
      rw [Bool.or_eq_true, decide_eq_true_eq]
      by_cases hi : i < 2
      · exact .inl hi
      · refine .inr ?_
        rw [Bool.and_eq_true]
        exact ⟨(hrest i p (by omega) hp).1, (hrest i p (by omega) hp).2.1⟩
    · unfold freeI
      rw [Bool.or_eq_true, decide_eq_true_eq]
      by_cases hi : i < 2
      · exact .inl hi
      · refine .inr ?_
        rw [hfree i p (by omega) hp]
        rfl
  · rintro ⟨⟨⟨⟨⟨⟨h2, hm⟩, hn⟩, ht0⟩, ht1⟩, hk⟩, hf⟩
    have hnew : ∀ i p, l[i]? = some p → posP (l.take i) p.id = none ∧ idB p.idN p.idR = true ∧ loneP p = true := fun i p hp => by
      have := hn i p hp
      unfold newB at this
      simp only [Bool.and_eq_true, decide_eq_true_eq] at this
      exact ⟨this.1.1, this.1.2, this.2⟩
    have hpos := fun i p (hp : l[i]? = some p) => pos_of_new (fun i p hp => (hnew i p hp).1) hp
    have htop : ∀ i id, i < 2 → topI l i id = true → ∀ p, l[i]? = some p → p.id = id ∧ topB p = true := fun i id hi ht p hp => by
      unfold topI at ht
      rw [hp] at ht
      simp only [Bool.and_eq_true, decide_eq_true_eq] at ht
      obtain ⟨⟨⟨e1, e2⟩, e3⟩, e4⟩ := ht
      have hk := hpos i p hp
      rw [e1] at hk
      rw [takes_at hk hp] at e4
      unfold elemP at e4
      simp only [Bool.and_eq_true, decide_eq_true_eq] at e4
      refine ⟨e1, ?_⟩
      unfold topB
      simp only [Bool.and_eq_true, decide_eq_true_eq]
      exact ⟨⟨⟨e4.1, e4.2⟩, (zero_iff p).2 e2⟩, e3⟩
    have hkey : ∀ i p, 2 ≤ i → l[i]? = some p → keyB p.key = true ∧ takesV l p.par = true := fun i p hi hp => by
      have := hk i p hp
      unfold keysI at this
      rw [Bool.or_eq_true, decide_eq_true_eq, Bool.and_eq_true] at this
      rcases this with h | h
      · omega
      · exact h
    have hfree : ∀ i p, 2 ≤ i → l[i]? = some p → within l l.length p.par p.id = false := fun i p hi hp => by
      have := hf i p hp
      unfold freeI at this
      rw [Bool.or_eq_true, decide_eq_true_eq] at this
      rcases this with h | h
      · omega
      · simpa using h
    have hF : FrW l := ⟨h2, fun p hp => (htop 0 _ (by omega) ht0 p hp).1, fun p hp => (htop 1 _ (by omega) ht1 p hp).1, uniq_of_pos hpos, fun i p hi hp => takes_posS (hkey i p hi hp).2⟩
    have hund := hF.free.1 hfree
    refine ⟨⟨⟨⟨h2, hm⟩, (idAt_iff (by omega)).2 hF.root⟩, (idAt_iff (by omega)).2 hF.trash⟩, fun i p hp => ?_⟩
    unfold placeB
    simp only [Bool.and_eq_true, decide_eq_true_eq]
    refine ⟨⟨⟨(hnew i p hp).2.2, (hnew i p hp).2.1⟩, hpos i p hp⟩, ?_⟩
    by_cases hi : i < 2
    · rw [if_pos hi]
      have : i = 0 ∨ i = 1 := by omega
      rcases this with rfl | rfl
      · exact (htop 0 _ (by omega) ht0 p hp).2
      · exact (htop 1 _ (by omega) ht1 p hp).2
    · rw [if_neg hi]
      unfold restB
      simp only [Bool.and_eq_true, Bool.not_eq_true']
      exact ⟨⟨(hkey i p (by omega) hp).1, (hkey i p (by omega) hp).2⟩, hund i p (by omega) hp⟩
/-- What an accepted state is. -/
theorem st_fr {l : List PlV} (h : stB l = true) : Fr l ∧ l.length ≤ 272 := by
  have h' := h
  rw [st_eq] at h'
  unfold stB at h
  unfold stI at h'
  simp only [Bool.and_eq_true, decide_eq_true_eq, eachB_iff] at h h'
  obtain ⟨⟨⟨⟨h2, hm⟩, h0⟩, h1⟩, he⟩ := h
  rw [idAt_iff (by omega)] at h0 h1
  have hpos : ∀ i p, l[i]? = some p → posP l p.id = some i := fun i p hp => by
    have := he i p hp
    unfold placeB at this
    simp only [Bool.and_eq_true, decide_eq_true_eq] at this
    exact this.1.2
  have hF : FrW l := ⟨h2, h0, h1, uniq_of_pos hpos, fun i p hi hp => by
    have := h'.1.2 i p hp
    unfold keysI at this
    rw [Bool.or_eq_true, decide_eq_true_eq, Bool.and_eq_true] at this
    rcases this with h | h
    · omega
    · exact takes_posS h.2⟩
  exact ⟨hF.fr (fun i p hi hp => by
    have := h'.2 i p hp
    unfold freeI at this
    rw [Bool.or_eq_true, decide_eq_true_eq] at this
    rcases this with h | h
    · omega
    · simpa using h), hm⟩
end Go.Proofs.YthgopknjppflhaaGreatDoor

/- A tree whose kids lie in rows of their own, names, texts and attributes being a caller's. No function of the program. -/
namespace Go.Proofs.YthgopknjppflhaaGreatDoor
open Go.RowKit
set_option linter.unusedVariables false
set_option maxRecDepth 100000

def NodeQ (w0 : World) : (n : Nat) → World → List Value → Tr n → List Nat → Prop
  | 0 => fun _ _ _ _ => False
  | n + 1 => fun w C t F => ∃ a b c d, C = [.int .i64 t.kind, a, b, c, d] ∧ -9223372036854775808 ≤ t.kind ∧ t.kind ≤ 9223372036854775807 ∧ Byt w0 a t.name ∧ Byt w0 b t.text ∧ RdAttrs w0 c t.attrs ∧ OwElems w 30 5 d t.kids (NodeQ w0 n w) F
theorem NodeQ.frm {w0 : World} {n : Nat} {w w' : World} {C : List Value} {t : Tr n} {F S : List Nat} (h : NodeQ w0 n w C t F) (f : Frm w w' S) (hd : ∀ g ∈ F, g ∉ S) : NodeQ w0 n w' C t F := by
  induction n generalizing C F with
  | zero => exact h
  | succ n ih =>
    obtain ⟨a, b, c, d, e, k1, k2, h1, h2, h3, h4⟩ := h
    exact ⟨a, b, c, d, e, k1, k2, h1, h2, h3, OwElems.frm h4 f hd (fun C x G hr hG => ih hr hG)⟩
theorem NodeQ.keep {w0 : World} {n : Nat} {w w' : World} {C : List Value} {t : Tr n} {F : List Nat} (h : NodeQ w0 n w C t F) (hb : Below w.heap.size w w') : NodeQ w0 n w' C t F := h.frm (Frm.ofBelow hb []) (fun _ _ => by simp)
theorem NodeQ.lt {w0 : World} : ∀ {n : Nat} {w : World} {C : List Value} {t : Tr n} {F : List Nat}, NodeQ w0 n w C t F → ∀ g ∈ F, g < w.heap.size
  | 0, _, _, t, _, _ => t.elim
  | n + 1, w, C, t, F, ⟨a, b, c, d, _, _, _, _, _, _, hd⟩ => OwElems.lt hd (fun _ _ _ hr => NodeQ.lt hr)
theorem NodeQ.rd {w0 : World} {n : Nat} {w : World} {C : List Value} {t : Tr n} {F : List Nat} (h : NodeQ w0 n w C t F) (hB : Below w0.heap.size w0 w) : RdNode n w C t := by
  induction n generalizing C F with
  | zero => exact h
  | succ n ih =>
    obtain ⟨a, b, c, d, e, k1, k2, h1, h2, h3, h4⟩ := h
    exact ⟨a, b, c, d, e, k1, k2, h1.keep hB, h2.keep hB, h3.keep hB, OwElems.rd h4 (OwElems.len h4) (fun C x G hr => ih hr)⟩
/-- A node with no kids yet. -/
theorem NodeQ.bare {w0 w : World} {n : Nat} {k : Int} {N X : List Int} {A : List (List Int × List Int)} {a b c : Value} (h1 : -9223372036854775808 ≤ k) (h2 : k ≤ 9223372036854775807) (ha : Byt w0 a N) (hb : Byt w0 b X) (hc : RdAttrs w0 c A) : NodeQ w0 (n + 1) w [.int .i64 k, a, b, c, .slice none 0 0] (⟨k, N, X, A, []⟩ : Nd (Tr n)) [] :=
  ⟨a, b, c, _, rfl, h1, h2, ha, hb, hc, [], [], rfl, rfl, fun i hi => (by cases hi), World.ownsRow_nil _ _ _ _, rfl⟩
/-- How the kids come, one by one. -/
theorem prjK_stop {α : Type} (f : Nat → Int → α × Int) (ks : List Nat) (acc : List α) (left : Int) (h : left ≤ 0) : prjK f ks acc left = (acc, left) := by
  cases ks with
  | nil => rfl
  | cons k ks => unfold prjK; rw [if_pos h]
theorem prjK_next {α : Type} (f : Nat → Int → α × Int) (ks : List Nat) (i : Nat) (hi : i < ks.length) (acc : List α) (left : Int) (h : ¬ left ≤ 0) : prjK f (ks.drop i) acc left = prjK f (ks.drop (i + 1)) (acc ++ [(f ks[i] left).1]) (f ks[i] left).2 := by
  rw [List.drop_eq_getElem_cons hi]
  conv => lhs; unfold prjK
  rw [if_neg h]
theorem prj_zero {l : List PlV} {k : Nat} {p : PlV} (hp : l[k]? = some p) (left : Int) : prj l 0 k left = ((⟨p.kind, p.name, p.text, p.attrs, []⟩ : Nd (Tr 0)), left - 1) := by
  unfold prj
  rw [hp]
  rfl
theorem prj_succ {l : List PlV} {k m : Nat} {p : PlV} (hp : l[k]? = some p) (left : Int) : prj l (m + 1) k left = ((⟨p.kind, p.name, p.text, p.attrs, (prjK (prj l m) (kidsV l p.id) [] (left - 1)).1⟩ : Nd (Tr (m + 1))), (prjK (prj l m) (kidsV l p.id) [] (left - 1)).2) := by
  conv => lhs; unfold prj
  rw [hp]
  rfl
theorem prjK_rng {α : Type} (f : Nat → Int → α × Int) (B : Int) (hf : ∀ k left, -1000 ≤ left → left ≤ B → 0 < left → -1000 ≤ (f k left).2 ∧ (f k left).2 ≤ B) : ∀ (ks : List Nat) (acc : List α) (left : Int), -1000 ≤ left → left ≤ B → -1000 ≤ (prjK f ks acc left).2 ∧ (prjK f ks acc left).2 ≤ B
  | [], acc, left, h1, h2 => ⟨h1, h2⟩
  | k :: ks, acc, left, h1, h2 => by
    unfold prjK
    by_cases h : left ≤ 0
    · rw [if_pos h]; exact ⟨h1, h2⟩
    · rw [if_neg h]
      have := hf k left h1 h2 (by omega)
      exact prjK_rng f B hf ks _ _ this.1 this.2
/-- What is left stays within bounds. -/
theorem prj_rng (l : List PlV) : ∀ (m k : Nat) (left : Int), 0 < left → left ≤ 1000 → -1000 ≤ (prj l m k left).2 ∧ (prj l m k left).2 ≤ 1000
  | 0, k, left, h1, h2 => by
    unfold prj
    cases hp : l[k]? with
    | none => simp only; omega
    | some p => simp only; omega
  | m + 1, k, left, h1, h2 => by
    cases hp : l[k]? with
    | none =>
      conv => lhs; unfold prj
      conv => rhs; unfold prj
      rw [hp]
      simp only
      omega
    | some p =>
      rw [prj_succ hp]
      exact prjK_rng _ 1000 (fun k left' h3 h4 h5 => prj_rng l m k left' h5 h4) _ _ _ (by omega) (by omega)
end Go.Proofs.YthgopknjppflhaaGreatDoor

/- impl's kidsOf. -/
namespace Go.Proofs.YthgopknjppflhaaGreatDoor
open Go.RowKit
set_option linter.unusedVariables false
set_option maxRecDepth 100000

theorem ninesP {cs : Array Value} {w : World} {g : Nat} {T : TypeId} (h : Loc w g cs T) (v0 v1 v2 v3 v4 v5 v6 v7 v8 : Value) (e : cs = #[v0, v1, v2, v3, v4, v5, v6, v7, v8]) : w.cell? ⟨g, 0, none⟩ = some v0 ∧ w.cell? ⟨g, 1, none⟩ = some v1 ∧ w.cell? ⟨g, 2, none⟩ = some v2 ∧ w.cell? ⟨g, 3, none⟩ = some v3 ∧ w.cell? ⟨g, 4, none⟩ = some v4 ∧ w.cell? ⟨g, 5, none⟩ = some v5 ∧ w.cell? ⟨g, 6, none⟩ = some v6 ∧ w.cell? ⟨g, 7, none⟩ = some v7 ∧ w.cell? ⟨g, 8, none⟩ = some v8 := by
  subst e
  exact ⟨h.cell 0, h.cell 1, h.cell 2, h.cell 3, h.cell 4, h.cell 5, h.cell 6, h.cell 7, h.cell 8⟩
set_option maxHeartbeats 6400000 in
theorem kidsOf_any {w0 w : World} {g mb gr : Nat} {c : Nat} {l : List PlV} {F : List Nat} (h : FoQ w0 w g mb (some ⟨gr, 0, none⟩) c l F) (hB0 : Below w0.heap.size w0 w) (h2 : 2 ≤ l.length) (hu : (l.map PlV.id).Nodup) (id : IdV) :
    Calls Tryz.prog 57 #[.pointer (some ⟨g, 0, none⟩), .agg #[.int .i64 id.1, .int .i64 id.2]] w fun e w' => ∃ av cv ks F', e = .returned (.slice av (List.length ks) cv) ∧ PlsQ w0 w' (.slice av (List.length ks) cv) ks F' ∧ Rng F' w.heap.size w'.heap.size ∧ ks.map some = (kidsV l id).map (fun k => l[k]?) ∧ Below w.heap.size w w' := by
  refine calls_via ?_
  intro Q HQ
  obtain ⟨iN, iR⟩ := id
  obtain ⟨i0, hi0, hz0, hz1, hz2⟩ := info_parts pl_info
  have hA := (Below.refl w.heap.size w).alloc (Nat.le_refl _) (.cells #[.int .i64 iN, .int .i64 iR] 51)
  have lb := Loc.made w #[.int .i64 iN, .int .i64 iR] 51
  have h1 := h.keep hA
  obtain ⟨cs, lg, hc0, _⟩ := h1.set.loc
  have g0 : (w.alloc (.cells #[.int .i64 iN, .int .i64 iR] 51)).cell? ⟨g, 0, none⟩ = some (.slice (some ⟨gr, 0, none⟩) l.length c) := (lg.cell 0).trans hc0
  have hcap : l.length ≤ c := by
    obtain ⟨_, _, _, _, _, hrow, _⟩ := h.row
    rcases hrow.2 with ⟨e, _⟩ | ⟨g', cap', cur, e, _, _, hn, _⟩
    · cases e
    · injection e with _ _ e3; omega
  have hl := h.len
  have LL := hide (And.intro hA (And.intro lb (And.intro h1 (And.intro hB0 hu))))
  clear hA lb h1 lg hc0 h hu hB0
  have z2 : (2 : Int) ≤ (l.length : Int) := by omega
  have zc : (l.length : Int) ≤ (c : Int) := by omega
  have HNO := hide (fun (hm : l.length ≤ 2) (hu : (l.map PlV.id).Nodup) => (show ([] : List PlV).map some = (kidsV l (iN, iR)).map (fun k => l[k]?) from kids_sorted hu (iN, iR) (by rw [kidRow_small l _ hm]) (fun i j hi => by cases hi)))
  by_cases hc2 : c = 2
  · have hl2 : l.length - 2 = 0 := by omega
    have hl3 : l.length ≤ 2 := by omega
    subst hc2
    go_enter Tryz.func57, Tryz.ntmps57
    go_wp2_with fail
    obtain ⟨hA, lb, h1, hB0, hu⟩ := unhide LL
    clear g0 h1
    refine wp_loop_rounds 1 ?_
    rw [rounds_succ]
    go_wp2_with fail
    refine (sortPl_none _ _ _).mono ?_
    rintro e w2 ⟨rfl, rfl⟩
    have HE := hide (unhide HQ _ _ ⟨none, 0, [], [], rfl, ⟨[], [], rfl, rfl, fun i hi => (by cases hi), World.ownsRow_nil _ _ _ _, rfl⟩, fun q hq => (by cases hq), unhide HNO hl3 hu, hA⟩)
    clear lb hu hB0 hA
    go_wp2_with fail
    exact unhide HE
  go_enter Tryz.func57, Tryz.ntmps57
  go_wp2_with fail
  obtain ⟨hA, lb, h1, hB0, hu⟩ := unhide LL
  clear LL g0
  generalize (w.alloc (.cells #[.int .i64 iN, .int .i64 iR] 51)) = w1 at *
  have hlw : w.heap.size < w1.heap.size := lb.lt
  have hB01 := hB0.trans (hA.mono hB0.size)
  obtain ⟨m, hm⟩ : ∃ m, l.length = m + 2 := ⟨l.length - 2, by omega⟩
  have hm2 : l.length - 2 = m := by omega
  rw [hm2]
  have HMM := hide hm
  clear hm hm2
  go_loopw [5, 14] (fun v i wr => ∃ (j : Nat) (av : Option Addr) (cv : Nat) (Fk : List Nat), j ≤ m ∧ i = .int .i64 (j : Int) ∧ v = .slice av (kidRow l (iN, iR) (j + 2)).length cv ∧ PlsQ w0 wr (.slice av (kidRow l (iN, iR) (j + 2)).length cv) (kidRow l (iN, iR) (j + 2)) Fk ∧ Fk.Nodup ∧ Rng Fk w1.heap.size wr.heap.size ∧ Below w1.heap.size w1 wr) (fun _ i _ => m - (intOf i).toNat)
  case atStart =>
    refine ⟨0, none, 0, [], Nat.zero_le _, rfl, by rw [kidRow_small l _ (Nat.le_refl _)]; rfl, ?_, List.nodup_nil, fun q hq => (by cases hq), Below.refl _ _⟩
    rw [kidRow_small l _ (Nat.le_refl _)]
    exact ⟨[], [], rfl, rfl, fun i hi => (by cases hi), World.ownsRow_nil _ _ _ _, rfl⟩
  case round =>
    obtain ⟨j, av, cv, Fk, hj, rfl, rfl, hK, hKn, hKr, hB⟩ := hrel
    have lbr := lb.all hB
    have b0 : wr.cell? ⟨w.heap.size, 0, none⟩ = some (.int .i64 iN) := lbr.cell 0
    have b1 : wr.cell? ⟨w.heap.size, 1, none⟩ = some (.int .i64 iR) := lbr.cell 1
    have hm := unhide HMM
    have hkl : (kidRow l (iN, iR) (j + 2)).length ≤ 100000 := by
      have : (kidRow l (iN, iR) (j + 2)).length ≤ ((l.take (j + 2)).drop 2).length := List.length_filter_le _ _
      rw [List.length_drop, List.length_take] at this
      omega
    by_cases hlt : j < m
    · have hj2 : j + 2 < l.length := by omega
      obtain ⟨k1, ck, n1, cn, t1, ct, a1, ca, -, e0, e1, e2, e3, e4, e5, e6, e7, e8, r1, r2, r3, r4⟩ := (h1.keep hB).own hj2
      rw [show (j + 2) * 9 = 18 + j * 9 by omega] at e0 e1 e2 e3 e4 e5 e6 e7 e8
      have hst := kidRow_succ l (iN, iR) (show 2 ≤ j + 2 by omega) hj2
      generalize l[j + 2] = p at *
      clear hm
      have hlt' : (j : Int) < (m : Int) := by omega
      have hj0 : (0 : Int) ≤ (j : Int) := by omega
      have lx := Loc.made wr #[.int .i64 p.idN, .int .i64 p.idR, .int .i64 p.parN, .int .i64 p.parR, .slice k1 p.key.length ck, .int .i64 p.kind, .slice n1 p.name.length cn, .slice t1 p.text.length ct, .slice a1 p.attrs.length ca] 54
      have hx := (Below.refl wr.heap.size wr).alloc (Nat.le_refl _) (.cells #[.int .i64 p.idN, .int .i64 p.idR, .int .i64 p.parN, .int .i64 p.parR, .slice k1 p.key.length ck, .int .i64 p.kind, .slice n1 p.name.length cn, .slice t1 p.text.length ct, .slice a1 p.attrs.length ca] 54)
      obtain ⟨x0, x1, x2, x3, x4, x5, x6, x7, x8⟩ := ninesP lx _ _ _ _ _ _ _ _ _ rfl
      have hbw : w.heap.size < wr.heap.size := Nat.lt_of_lt_of_le hlw hB.size
      have c0 := (hx.cell (p := ⟨w.heap.size, 0, none⟩) hbw).trans b0
      have c1 := (hx.cell (p := ⟨w.heap.size, 1, none⟩) hbw).trans b1
      clear b0 b1 lbr
      have HR := hide (show PlQ w0 wr [.int .i64 p.idN, .int .i64 p.idR, .int .i64 p.parN, .int .i64 p.parR, .slice k1 p.key.length ck, .int .i64 p.kind, .slice n1 p.name.length cn, .slice t1 p.text.length ct, .slice a1 p.attrs.length ca] p [] from ⟨⟨_, _, _, _, rfl, r1, r2, r3, r4⟩, rfl⟩)
      have HX := hide hx
      have HK := hide (And.intro hK (And.intro hKn (And.intro hKr hB)))
      clear r1 r2 r3 r4 hx lx hK hKn hKr hB
      have HST := hide hst
      have HKL := hide hkl
      clear hst hkl
      by_cases q1 : p.parN = iN
      · by_cases q2 : p.parR = iR
        · have d1 : (p.parN == iN) = true := by simpa using q1
          have d2 : (p.parR == iR) = true := by simpa using q2
          have hlx : kidRow l (iN, iR) (j + 1 + 2) = kidRow l (iN, iR) (j + 2) ++ [p] := by
            rw [show j + 1 + 2 = j + 2 + 1 by omega, unhide HST, if_pos (show p.par = (iN, iR) by show (p.parN, p.parR) = _; rw [q1, q2])]
          clear q1 q2 HST
          have HLX := hide hlx
          clear hlx
          obtain ⟨hK, hKn, hKr, hB⟩ := unhide HK
          have hx := unhide HX
          have hAe := (Below.refl (wr.alloc (.cells #[.int .i64 p.idN, .int .i64 p.idR, .int .i64 p.parN, .int .i64 p.parR, .slice k1 p.key.length ck, .int .i64 p.kind, .slice n1 p.name.length cn, .slice t1 p.text.length ct, .slice a1 p.attrs.length ca] 54)).heap.size (wr.alloc (.cells #[.int .i64 p.idN, .int .i64 p.idR, .int .i64 p.parN, .int .i64 p.parR, .slice k1 p.key.length ck, .int .i64 p.kind, .slice n1 p.name.length cn, .slice t1 p.text.length ct, .slice a1 p.attrs.length ca] 54))).alloc (Nat.le_refl _) (.cells #[.int .i64 p.idN, .int .i64 p.idR, .int .i64 p.parN, .int .i64 p.parR, .slice k1 p.key.length ck, .int .i64 p.kind, .slice n1 p.name.length cn, .slice t1 p.text.length ct, .slice a1 p.attrs.length ca] 54)
          have lE := Loc.made (wr.alloc (.cells #[.int .i64 p.idN, .int .i64 p.idR, .int .i64 p.parN, .int .i64 p.parR, .slice k1 p.key.length ck, .int .i64 p.kind, .slice n1 p.name.length cn, .slice t1 p.text.length ct, .slice a1 p.attrs.length ca] 54)) #[.int .i64 p.idN, .int .i64 p.idR, .int .i64 p.parN, .int .i64 p.parR, .slice k1 p.key.length ck, .int .i64 p.kind, .slice n1 p.name.length cn, .slice t1 p.text.length ct, .slice a1 p.attrs.length ca] 54
          have hb2 := bstep hx hAe
          have hFr := PlsQ.lt hK
          have hs2 := hb2.size
          have HP := hide (show PlsQ w0 ((wr.alloc (.cells #[.int .i64 p.idN, .int .i64 p.idR, .int .i64 p.parN, .int .i64 p.parR, .slice k1 p.key.length ck, .int .i64 p.kind, .slice n1 p.name.length cn, .slice t1 p.text.length ct, .slice a1 p.attrs.length ca] 54)).alloc (.cells #[.int .i64 p.idN, .int .i64 p.idR, .int .i64 p.parN, .int .i64 p.parR, .slice k1 p.key.length ck, .int .i64 p.kind, .slice n1 p.name.length cn, .slice t1 p.text.length ct, .slice a1 p.attrs.length ca] 54)) (.slice av (kidRow l (iN, iR) (j + 2)).length cv) (kidRow l (iN, iR) (j + 2)) Fk ∧ (∀ i u, ([.int .i64 p.idN, .int .i64 p.idR, .int .i64 p.parN, .int .i64 p.parR, .slice k1 p.key.length ck, .int .i64 p.kind, .slice n1 p.name.length cn, .slice t1 p.text.length ct, .slice a1 p.attrs.length ca] : List Value)[i]? = some u → ((wr.alloc (.cells #[.int .i64 p.idN, .int .i64 p.idR, .int .i64 p.parN, .int .i64 p.parR, .slice k1 p.key.length ck, .int .i64 p.kind, .slice n1 p.name.length cn, .slice t1 p.text.length ct, .slice a1 p.attrs.length ca] 54)).alloc (.cells #[.int .i64 p.idN, .int .i64 p.idR, .int .i64 p.parN, .int .i64 p.parR, .slice k1 p.key.length ck, .int .i64 p.kind, .slice n1 p.name.length cn, .slice t1 p.text.length ct, .slice a1 p.attrs.length ca] 54)).cell? ((⟨(wr.alloc (.cells #[.int .i64 p.idN, .int .i64 p.idR, .int .i64 p.parN, .int .i64 p.parR, .slice k1 p.key.length ck, .int .i64 p.kind, .slice n1 p.name.length cn, .slice t1 p.text.length ct, .slice a1 p.attrs.length ca] 54)).heap.size, 0, none⟩ : Addr).add i) = some u) ∧ PlQ w0 ((wr.alloc (.cells #[.int .i64 p.idN, .int .i64 p.idR, .int .i64 p.parN, .int .i64 p.parR, .slice k1 p.key.length ck, .int .i64 p.kind, .slice n1 p.name.length cn, .slice t1 p.text.length ct, .slice a1 p.attrs.length ca] 54)).alloc (.cells #[.int .i64 p.idN, .int .i64 p.idR, .int .i64 p.parN, .int .i64 p.parR, .slice k1 p.key.length ck, .int .i64 p.kind, .slice n1 p.name.length cn, .slice t1 p.text.length ct, .slice a1 p.attrs.length ca] 54)) [.int .i64 p.idN, .int .i64 p.idR, .int .i64 p.parN, .int .i64 p.parR, .slice k1 p.key.length ck, .int .i64 p.kind, .slice n1 p.name.length cn, .slice t1 p.text.length ct, .slice a1 p.attrs.length ca] p [] ∧ (∀ q, q ∈ Fk ∨ q ∈ ([] : List Nat) → q < ((wr.alloc (.cells #[.int .i64 p.idN, .int .i64 p.idR, .int .i64 p.parN, .int .i64 p.parR, .slice k1 p.key.length ck, .int .i64 p.kind, .slice n1 p.name.length cn, .slice t1 p.text.length ct, .slice a1 p.attrs.length ca] 54)).alloc (.cells #[.int .i64 p.idN, .int .i64 p.idR, .int .i64 p.parN, .int .i64 p.parR, .slice k1 p.key.length ck, .int .i64 p.kind, .slice n1 p.name.length cn, .slice t1 p.text.length ct, .slice a1 p.attrs.length ca] 54)).heap.size) from
            ⟨PlsQ.frm hK (Frm.ofBelow hb2 []) (fun _ _ => by simp), fun i u hiu => by rw [add_plain, Nat.zero_add, lE.cell i]; simpa using hiu, unhide HR, fun q hq => by
              rcases hq with hq | hq
              · have := hFr q hq; omega
              · cases hq⟩)
          have HB2 := hide (And.intro (bstep hB hb2) hb2.size)
          have hsz : (wr.alloc (.cells #[.int .i64 p.idN, .int .i64 p.idR, .int .i64 p.parN, .int .i64 p.parR, .slice k1 p.key.length ck, .int .i64 p.kind, .slice n1 p.name.length cn, .slice t1 p.text.length ct, .slice a1 p.attrs.length ca] 54)).heap.size = wr.heap.size + 1 := by simp
          clear hAe lE hb2 hFr hs2 hx hK
          rw [hsz] at HP
          go_wp2_with (at_builtin; refine wpList_push (R := PlQ w0) (fun h f d => PlQ.frm h f d) rfl _ _ 33 rfl 54 i0 (.agg #[.int .i64 0, .int .i64 0, .int .i64 0, .int .i64 0, .slice none 0 0, .int .i64 0, .slice none 0 0, .slice none 0 0, .slice none 0 0]) 9 136 Tryz.underlying33 hi0 hz0 hz1 hz2 rfl (by decide) _ (kidRow l (iN, iR) (j + 2)) Fk rfl (unhide HP).1 hKn ⟨wr.heap.size + 1, 0, none⟩ 1 [.int .i64 p.idN, .int .i64 p.idR, .int .i64 p.parN, .int .i64 p.parR, .slice k1 p.key.length ck, .int .i64 p.kind, .slice n1 p.name.length cn, .slice t1 p.text.length ct, .slice a1 p.attrs.length ca] p [] ?hx rfl (unhide HP).2.1 ?o1 (unhide HP).2.2.1 List.nodup_nil (fun _ _ => by simp) (unhide HP).2.2.2 ?o2 ?o3 ?_)
          case hx => rfl
          case o1 => intro y hy; simp at hy; rcases hy with rfl | rfl | rfl | rfl | rfl | rfl | rfl | rfl | rfl <;> rfl
          case o2 => unfold maxLen; have := unhide HKL; omega
          case o3 => have := unhide HKL; omega
          intro g9 cap9 w9 F9 hF9 hN9 hM9 hf9 hg9
          obtain ⟨hW4, hs4⟩ := unhide HB2
          have hvF : ∀ q ∈ FB (.slice av (kidRow l (iN, iR) (j + 2)).length cv), q ∈ Fk := fun q hq => by
            obtain ⟨_, _, _, _, _, _, e⟩ := (unhide HP).1
            rw [e]
            exact List.mem_append_left _ hq
          have hB1s := hB.size
          have hW9 : Below w1.heap.size w1 w9 := hW4.trans (hf9.below hW4.size (fun q hq => (hKr q (hvF q hq)).1))
          have HO9 := hide (show PlsQ w0 w9 (.slice (some ⟨g9, 0, none⟩) (kidRow l (iN, iR) (j + 1 + 2)).length cap9) (kidRow l (iN, iR) (j + 1 + 2)) F9 by
            rw [unhide HLX]
            have : ((kidRow l (iN, iR) (j + 2)) ++ [p]).length = (kidRow l (iN, iR) (j + 2)).length + 1 := by simp
            rw [this]
            exact hF9)
          have HL9 := hide (show (kidRow l (iN, iR) (j + 2)).length + 1 = (kidRow l (iN, iR) (j + 1 + 2)).length by rw [unhide HLX]; simp)
          have HR9 := hide (show Rng F9 w1.heap.size w9.heap.size from fun q hq => ⟨(hM9 q hq).elim (fun k => (hKr q k).1) (fun k => by rw [k]; omega), PlsQ.lt (unhide HO9) q hq⟩)
          have HN9 := hide hN9
          have HW9 := hide hW9
          rw [unhide HL9]
          clear hF9 hM9 hN9 hf9 hW4 hvF hW9 HP HK HX x0 x1 x2 x3 x4 x5 x6 x7 x8 c0 c1 e0 e1 e2 e3 e4 e5 e6 e7 e8 hB hKr hs4 hB1s
          go_wp2_with fail
          go_roundw
          case rel => exact ⟨j + 1, some ⟨g9, 0, none⟩, cap9, F9, by omega, by go_num, rfl, unhide HO9, unhide HN9, unhide HR9, unhide HW9⟩
          case measure => simp [intOf]; omega
        · have d1 : (p.parN == iN) = true := by simpa using q1
          have d2 : (p.parR == iR) = false := by simpa using q2
          have hne : ¬ p.par = (iN, iR) := fun e => q2 (Prod.mk.inj e).2
          clear q1 q2
          have hlx : kidRow l (iN, iR) (j + 1 + 2) = kidRow l (iN, iR) (j + 2) := by rw [show j + 1 + 2 = j + 2 + 1 by omega, unhide HST, if_neg hne, List.append_nil]
          have HLX := hide hlx
          clear hlx hne HST
          go_wp2_with fail
          go_roundw
          case rel =>
            obtain ⟨hK, hKn, hKr, hB⟩ := unhide HK
            exact ⟨j + 1, av, cv, Fk, by omega, by go_num, by rw [unhide HLX], by rw [unhide HLX]; exact PlsQ.frm hK (Frm.ofBelow (unhide HX) []) (fun _ _ => by simp), hKn, hKr.mono (Nat.le_refl _) (unhide HX).size, bstep hB (unhide HX)⟩
          case measure => simp [intOf]; omega
      · have d1 : (p.parN == iN) = false := by simpa using q1
        have hne : ¬ p.par = (iN, iR) := fun e => q1 (Prod.mk.inj e).1
        clear q1
        have hlx : kidRow l (iN, iR) (j + 1 + 2) = kidRow l (iN, iR) (j + 2) := by rw [show j + 1 + 2 = j + 2 + 1 by omega, unhide HST, if_neg hne, List.append_nil]
        have HLX := hide hlx
        clear hlx hne HST
        go_wp2_with fail
        go_roundw
        case rel =>
          obtain ⟨hK, hKn, hKr, hB⟩ := unhide HK
          exact ⟨j + 1, av, cv, Fk, by omega, by go_num, by rw [unhide HLX], by rw [unhide HLX]; exact PlsQ.frm hK (Frm.ofBelow (unhide HX) []) (fun _ _ => by simp), hKn, hKr.mono (Nat.le_refl _) (unhide HX).size, bstep hB (unhide HX)⟩
        case measure => simp [intOf]; omega
    · have e : j = m := by omega
      have hnl : ¬ (j : Int) < (m : Int) := by omega
      have hAr := bstep hA hB
      have hsw := hB.size
      have hB0r : Below w0.heap.size w0 wr := hB01.trans (hB.mono hB01.size)
      have HS := hide (fun (ks : List PlV) => kids_sorted (ks := ks) hu (iN, iR))
      have hkr : kidRow l (iN, iR) (j + 2) = kidRow l (iN, iR) l.length := by rw [e, hm]
      rw [hkr] at hK hkl
      clear hm e
      by_cases hk0 : kidRow l (iN, iR) l.length = []
      · have HE := hide (unhide HQ (.returned (.slice av 0 cv)) wr ⟨av, cv, [], Fk, rfl, by rw [hk0] at hK; exact hK, hKr.mono (by omega) (Nat.le_refl _), unhide HS [] (by rw [hk0]) (fun i j hi => by cases hi), hAr⟩)
        rw [hkr, hk0]
        clear hK hu hB0r hB01 hB lb h1 b0 b1 lbr
        go_wp2_with fail
        refine (sortPl_none _ _ _).mono ?_
        rintro e w2 ⟨rfl, rfl⟩
        go_wp2_with fail
        exact unhide HE
      · obtain ⟨gk, hav⟩ : ∃ gk, av = some ⟨gk, 0, none⟩ := by
          obtain ⟨_, _, _, _, _, hrow, _⟩ := hK
          rcases hrow.2 with ⟨_, e0⟩ | ⟨g', cap', cur, e0, _⟩
          · exact absurd (List.length_eq_zero_iff.1 e0) hk0
          · injection e0 with e1 _ _; exact ⟨g', e1⟩
        subst hav
        have hgk : gk ∈ Fk := by
          obtain ⟨_, _, _, _, _, _, e⟩ := hK
          rw [e]
          exact List.mem_append_left _ (by simp [FB, Value.ownBlock])
        have hgr := hKr gk hgk
        have HP := hide (sortPl_any w0 wr gk cv _ Fk hK hk0 hkl hB0r (by have := hB01.size; omega))
        rw [hkr]
        have hpl : ∀ ks : List PlV, ks.Perm (kidRow l (iN, iR) l.length) → ks.length = (kidRow l (iN, iR) l.length).length := fun ks h => h.length_eq
        have HL := hide hpl
        have HAR := hide hAr
        clear hpl hAr hK hu hB0r hB01 hB lb h1 b0 b1 lbr
        generalize kidRow l (iN, iR) l.length = kr at *
        go_wp2_with fail
        refine (unhide HP).mono ?_
        rintro e w2 ⟨rfl, ks, hp, hs, hQ, hf⟩
        have hA2 := (unhide HAR).trans (hf.below (by have := (unhide HAR).size; omega) (fun q hq => by simp at hq; omega))
        have hlk := unhide HL ks hp
        have HE := hide (unhide HQ (.returned (.slice (some ⟨gk, 0, none⟩) ks.length cv)) w2 ⟨_, _, ks, [gk], rfl, hQ, fun q hq => by simp at hq; have := hf.size; omega, unhide HS ks hp hs, hA2⟩)
        rw [hlk] at HE
        clear hA2 hlk hQ hf hs hp HL HP
        go_wp2_with fail
        exact unhide HE

end Go.Proofs.YthgopknjppflhaaGreatDoor

/- How great the tree shown is. Plain mathematics. -/
namespace Go.Proofs.YthgopknjppflhaaGreatDoor
set_option linter.unusedVariables false

theorem sum_le_mul {α : Type} (f : α → Nat) (c : Nat) : ∀ (l : List α), (∀ x ∈ l, f x ≤ c) → (l.map f).sum ≤ c * l.length
  | [], _ => Nat.le_refl _
  | x :: r, h => by
    have h1 := h x (by simp)
    have h2 := sum_le_mul f c r (fun y hy => h y (by simp [hy]))
    rw [List.map_cons, List.sum_cons, List.length_cons, Nat.mul_succ]
    omega
theorem attrs_sz {l : List (List Int × List Int)} (h : AttrsOk l) : szA l ≤ 156 := by
  unfold szA
  have h1 := sum_le_mul (fun x : List Int × List Int => x.1.length + x.2.length) 38 l (fun x hx => by
    obtain ⟨i, hi, rfl⟩ := List.getElem_of_mem hx
    have := h.2 i hi
    unfold attrAt at this
    have e : l.getD i ([], []) = l[i] := by simp [hi]
    rw [e] at this
    have a1 := this.1.2.1
    have a2 := this.2.1.1
    omega)
  have := h.1
  omega
def smallP (p : PlV) : Prop := p.name.length + p.text.length + szA p.attrs ≤ 200
theorem lone_small {p : PlV} (h : loneP p = true) : smallP p := by
  unfold loneP at h
  rw [okT_succ, if_neg (by omega)] at h
  unfold smallP
  by_cases h1 : (flatP p).kind = 1
  · rw [if_pos h1] at h
    have h2 := (leafB_iff _).1 h
    have e1 : p.name.length = 0 := h2.1
    have e2 : p.attrs.length = 0 := h2.2.1
    have e3 : p.text.length ≤ 30 := h2.2.2.2.1
    have e4 : szA p.attrs = 0 := by rw [List.length_eq_zero_iff.1 e2]; rfl
    omega
  · rw [if_neg h1] at h
    by_cases h2 : elemB (flatP p) = true
    · have h3 := (elemB_iff _).1 h2
      have e1 : p.name.length ≤ 8 := h3.2.1.2.1
      have e2 : p.text.length = 0 := h3.2.2.1
      have e3 : AttrsOk p.attrs := h3.2.2.2.1
      have := attrs_sz e3
      omega
    · rw [if_neg h2] at h; cases h
theorem st_small {l : List PlV} (h : stB l = true) : ∀ p ∈ l, smallP p := by
  intro p hp
  obtain ⟨i, hi, rfl⟩ := List.getElem_of_mem hp
  unfold stB at h
  simp only [Bool.and_eq_true, eachB_iff] at h
  have := h.2 i l[i] (by simp [hi])
  unfold placeB at this
  simp only [Bool.and_eq_true] at this
  exact lone_small this.1.1.1
theorem prjK_sz {α : Type} (f : Nat → Int → α × Int) (sz : α → Nat) (hf : ∀ k left, 0 < left → 0 ≤ (f k left).2 ∧ ((sz (f k left).1 : Nat) : Int) + 1 ≤ 201 * (left - (f k left).2)) : ∀ (ks : List Nat) (acc : List α) (left : Int), 0 ≤ left → 0 ≤ (prjK f ks acc left).2 ∧ (((prjK f ks acc left).1.length + ((prjK f ks acc left).1.map sz).sum : Nat) : Int) ≤ ((acc.length + (acc.map sz).sum : Nat) : Int) + 201 * (left - (prjK f ks acc left).2)
  | [], acc, left, h => ⟨h, by simp [prjK]⟩
  | k :: ks, acc, left, h => by
    unfold prjK
    by_cases h0 : left ≤ 0
    · rw [if_pos h0]; exact ⟨h, by simp⟩
    · rw [if_neg h0]
      obtain ⟨h1, h2⟩ := hf k left (by omega)
      obtain ⟨h3, h4⟩ := prjK_sz f sz hf ks (acc ++ [(f k left).1]) (f k left).2 h1
      refine ⟨h3, ?_⟩
      rw [List.length_append, List.map_append, List.sum_append] at h4
      simp only [List.length_singleton, List.map_cons, List.map_nil, List.sum_cons, List.sum_nil, Nat.add_zero] at h4
      omega
theorem prj_sz {l : List PlV} (H : ∀ p ∈ l, smallP p) : ∀ (m k : Nat) (left : Int), 0 < left → 0 ≤ (prj l m k left).2 ∧ ((szT (m + 1) (prj l m k left).1 : Nat) : Int) + 1 ≤ 201 * (left - (prj l m k left).2)
  | 0, k, left, h => by
    unfold prj
    cases hp : l[k]? with
    | none =>
      simp only
      refine ⟨by omega, ?_⟩
      have e : szT 1 ((⟨0, [], [], [], []⟩ : Nd (Tr 0)) : Tr 1) = 0 := rfl
      rw [e]
      omega
    | some p =>
      simp only
      refine ⟨by omega, ?_⟩
      have hs := H p (List.mem_of_getElem? hp)
      unfold smallP at hs
      have e : szT 1 ((⟨p.kind, p.name, p.text, p.attrs, []⟩ : Nd (Tr 0)) : Tr 1) = p.name.length + p.text.length + szA p.attrs + (([] : List (Tr 0)).length + (([] : List (Tr 0)).map (szT 0)).sum) := rfl
      rw [e]
      simp only [List.length_nil, List.map_nil, List.sum_nil]
      omega
  | m + 1, k, left, h => by
    cases hp : l[k]? with
    | none =>
      have e0 : prj l (m + 1) k left = ((⟨0, [], [], [], []⟩ : Nd (Tr (m + 1))), left - 1) := by
        conv => lhs; unfold prj
        rw [hp]
        rfl
      have e1 : (prj l (m + 1) k left).2 = left - 1 := congrArg Prod.snd e0
      have e2 : szT (m + 2) (prj l (m + 1) k left).1 = 0 := by
        have : (prj l (m + 1) k left).1 = ((⟨0, [], [], [], []⟩ : Nd (Tr (m + 1))) : Tr (m + 2)) := congrArg Prod.fst e0
        rw [this]
        rfl
      rw [e1, e2]
      exact ⟨by omega, by omega⟩
    | some p =>
      have hs := H p (List.mem_of_getElem? hp)
      unfold smallP at hs
      have e0 := prj_succ (m := m) hp left
      obtain ⟨h1, h2⟩ := prjK_sz (prj l m) (szT (m + 1)) (fun k left h => prj_sz H m k left h) (kidsV l p.id) [] (left - 1) (by omega)
      have e1 : (prj l (m + 1) k left).2 = (prjK (prj l m) (kidsV l p.id) [] (left - 1)).2 := congrArg Prod.snd e0
      have e2 : szT (m + 2) (prj l (m + 1) k left).1 = p.name.length + p.text.length + szA p.attrs + ((prjK (prj l m) (kidsV l p.id) [] (left - 1)).1.length + ((prjK (prj l m) (kidsV l p.id) [] (left - 1)).1.map (szT (m + 1))).sum) := by
        have : (prj l (m + 1) k left).1 = ((⟨p.kind, p.name, p.text, p.attrs, (prjK (prj l m) (kidsV l p.id) [] (left - 1)).1⟩ : Nd (Tr (m + 1))) : Tr (m + 2)) := congrArg Prod.fst e0
        rw [this]
        rfl
      rw [e1, e2]
      simp only [List.length_nil, List.map_nil, List.sum_nil] at h2
      exact ⟨h1, by omega⟩
/-- What is shown. -/
def pjR (l : List PlV) : Tr 20 := if stB l = true then (prj l 19 0 120).1 else (⟨0, [], [], [], []⟩ : Nd (Tr 19))
theorem pjR_yes {l : List PlV} (h : stB l = true) : pjR l = (prj l 19 0 120).1 := if_pos h
theorem pjR_no {l : List PlV} (h : stB l = false) : pjR l = (⟨0, [], [], [], []⟩ : Nd (Tr 19)) := if_neg (by rw [h]; simp)
theorem pjR_sz (l : List PlV) : szT 20 (pjR l) ≤ 24120 := by
  by_cases h : stB l = true
  · rw [pjR_yes h]
    obtain ⟨h1, h2⟩ := prj_sz (st_small h) 19 0 120 (by omega)
    have h3 : ((szT 20 (prj l 19 0 120).1 : Nat) : Int) + 1 ≤ 201 * (120 - (prj l 19 0 120).2) := h2
    omega
  · rw [pjR_no (by simpa using h)]
    have : szT 20 ((⟨0, [], [], [], []⟩ : Nd (Tr 19)) : Tr 20) = 0 := rfl
    omega
end Go.Proofs.YthgopknjppflhaaGreatDoor

/- impl's nodeOf, loneOk over a place. -/
namespace Go.Proofs.YthgopknjppflhaaGreatDoor
open Go.RowKit
set_option linter.unusedVariables false
set_option maxRecDepth 100000

set_option maxHeartbeats 1600000 in
theorem nodeOf_any (w : World) (p : PlV) (k n t a : Option Addr) (ck cn ct ca : Nat) :
    Calls Tryz.prog 22 #[.agg #[.int .i64 p.idN, .int .i64 p.idR, .int .i64 p.parN, .int .i64 p.parR, .slice k p.key.length ck, .int .i64 p.kind, .slice n p.name.length cn, .slice t p.text.length ct, .slice a p.attrs.length ca]] w fun e w' => e = .returned (.agg #[.int .i64 p.kind, .slice n p.name.length cn, .slice t p.text.length ct, .slice a p.attrs.length ca, .slice none 0 0]) ∧ Below w.heap.size w w' := by
  have hA := ((Below.refl w.heap.size w).alloc (Nat.le_refl _) (.cells #[.int .i64 p.idN, .int .i64 p.idR, .int .i64 p.parN, .int .i64 p.parR, .slice k p.key.length ck, .int .i64 p.kind, .slice n p.name.length cn, .slice t p.text.length ct, .slice a p.attrs.length ca] 54)).alloc (by simp) (.cells #[.int .i64 p.kind, .slice n p.name.length cn, .slice t p.text.length ct, .slice a p.attrs.length ca, .slice none 0 0] 30)
  have HA := hide hA
  clear hA
  go_enter Tryz.func22, Tryz.ntmps22
  go_wp2
  exact bodyPost_ret (v := .agg #[.int .i64 p.kind, .slice n p.name.length cn, .slice t p.text.length ct, .slice a p.attrs.length ca, .slice none 0 0]) (by simp [results, Tryz.results22, go_sem]) rfl ⟨rfl, unhide HA⟩
theorem lone_part {p : PlV} : loneP p = (decide ((flatP p).kids.length = 0) && partB (flatP p)) := by
  have hk : (flatP p).kids = [] := rfl
  unfold loneP
  rw [okT_succ, if_neg (by omega), hk]
  by_cases h1 : (flatP p).kind = 1
  · rw [if_pos h1, partB_leaf h1]; simp
  · rw [if_neg h1, partB_elem h1]
    by_cases h2 : elemB (flatP p) = true
    · rw [if_pos h2, h2]; rfl
    · rw [if_neg h2]; simp [h2]
set_option maxHeartbeats 1600000 in
theorem loneQ_any (w0 w : World) (p : PlV) (n t a : Option Addr) (cn ct ca : Nat) (h1 : Byt w0 (.slice n p.name.length cn) p.name) (h2 : Byt w0 (.slice t p.text.length ct) p.text) (h3 : RdAttrs w0 (.slice a p.attrs.length ca) p.attrs) (hb : Below w0.heap.size w0 w) (hK : -9223372036854775808 ≤ p.kind ∧ p.kind ≤ 9223372036854775807) :
    Calls Tryz.prog 21 #[.agg #[.int .i64 p.kind, .slice n p.name.length cn, .slice t p.text.length ct, .slice a p.attrs.length ca, .slice none 0 0]] w fun e w' => e = .returned (.bool (loneP p)) ∧ Below w.heap.size w w' := by
  refine calls_via ?_
  intro Q HQ
  have hN : RdNode 1 w0 [.int .i64 p.kind, .slice n p.name.length cn, .slice t p.text.length ct, .slice a p.attrs.length ca, .slice none 0 0] (flatP p) := ⟨_, _, _, _, rfl, hK.1, hK.2, h1, h2, h3, Nat.zero_le _, .inl ⟨rfl, rfl⟩⟩
  have hA : Below w.heap.size w ((w.alloc (.cells #[.int .i64 p.kind, .slice n p.name.length cn, .slice t p.text.length ct, .slice a p.attrs.length ca, .slice none 0 0] 30)).alloc (.cells vs0 103)) := ((Below.refl w.heap.size w).alloc (Nat.le_refl _) _).alloc (by simp) _
  have lv := Loc.made (w.alloc (.cells #[.int .i64 p.kind, .slice n p.name.length cn, .slice t p.text.length ct, .slice a p.attrs.length ca, .slice none 0 0] 30)) vs0 103
  simp only [World.size_alloc] at lv
  have hs := hb.size
  have hlp := lone_part (p := p)
  have hk0 : decide ((flatP p).kids.length = 0) = true := rfl
  rw [hk0, Bool.true_and] at hlp
  have HX := hide (And.intro hA (And.intro lv (And.intro hN hb)))
  have HL := hide hlp
  clear hA lv hN h1 h2 h3 hb hK hlp hk0
  go_enter Tryz.func21, Tryz.ntmps21
  go_wp2_with fail
  obtain ⟨hA, lv, hN, hb⟩ := unhide HX
  refine (partI_any w.heap.size 0 w0 _ _ _ _ _ _ (flatP p) (w.heap.size + 1) hN (hb.trans (hA.mono hs)) (by omega) (.inl lv) hA.size).mono ?_
  rintro e w2 ⟨rfl, -, hf⟩
  rw [← unhide HL]
  have HE := hide (unhide HQ _ w2 ⟨rfl, hA.trans (hf.below hA.size (fun q hq => by simp at hq; omega))⟩)
  clear hA lv hN hb hf HX
  generalize loneP p = b at *
  go_wp2_with fail
  exact unhide HE
end Go.Proofs.YthgopknjppflhaaGreatDoor

/- bytes.Clone at a readable row answers the same bytes in memory of its own. -/
namespace Go.Proofs.YthgopknjppflhaaGreatDoor
open Go.RowKit
set_option linter.unusedVariables false
set_option maxRecDepth 100000

set_option maxHeartbeats 1600000 in
theorem clone_any (w : World) (v : Value) (l : List Int) (h : Byt w v l) (hl : l.length ≤ 67108864) :
    Calls Tryz.prog 76 #[v] w fun e w' => ∃ v', e = .returned v' ∧ Own w' w.heap.size v' l ∧ Below w.heap.size w w' := by
  by_cases hv : v = .slice none 0 0
  · subst hv
    have hl0 : l = [] := by
      obtain ⟨a, c, e, _⟩ := h.shape
      injection e with _ e2 _
      exact List.eq_nil_of_length_eq_zero e2.symm
    subst hl0
    have hq := Lib.run_eql_slice_nil_nil (P := Tryz.prog) w 0 0 Tryz.underlying26
    go_enter Tryz.func76, Tryz.ntmps76
    go_wp2_with fail
    go_ret
    exact ⟨_, rfl, ⟨okB_nil, World.ownsRow_nil _ _ _ _⟩, Below.refl _ _⟩
  · obtain ⟨x, c, rfl⟩ : ∃ x c, v = .slice (some x) l.length c := by
      obtain ⟨_, _, ⟨e, _⟩ | ⟨x, cap, rfl, hc, rfl⟩ | ⟨p, off, cap, rfl, _⟩⟩ := h
      · exact absurd e hv
      · exact ⟨x, cap, rfl⟩
      · exact ⟨_, cap, rfl⟩
    have hq := Lib.run_eql_slice_some_nil (P := Tryz.prog) w x l.length c Tryz.underlying26
    go_enter Tryz.func76, Tryz.ntmps76
    go_wp2_with (at_builtin; refine wpList_app rfl _ _ rfl w.heap.size _ [] rfl (own_none w) _ l rfl (h.alloc _) ?c1 ?c2 ?_)
    case c1 => first | omega | (simp; omega)
    case c2 => simp
    intro v1 w1 ho1 hg1
    have hB1 : Below w.heap.size w w1 := bstepBy ((Below.refl _ _).alloc (Nat.le_refl _) _) hg1 (fun g hg => by simp [Value.ownBlock] at hg; omega)
    clear hg1
    go_wp2
    go_ret
    exact ⟨_, rfl, ho1, hB1⟩
end Go.Proofs.YthgopknjppflhaaGreatDoor

/- The laws' own copy of a slice of attributes, of nodes, of a whole tree, by contracts. -/
namespace Go.Proofs.YthgopknjppflhaaGreatDoor
open Go.RowKit
set_option linter.unusedVariables false


theorem take_two (xs : List Value) (m : Nat) (v1 v2 : Value) (h : m + 2 ≤ xs.length) : ((xs.set m v1).set (m + 1) v2).take (m + 2) = xs.take m ++ [v1, v2] := by
  apply List.ext_getElem?
  intro i
  have hl : (xs.take m).length = m := by simp; omega
  rw [List.getElem?_take, List.getElem?_append, hl]
  by_cases h1 : i < m
  · rw [if_pos (by omega), if_pos h1, List.getElem?_set, if_neg (by omega), List.getElem?_set, if_neg (by omega), List.getElem?_take, if_pos h1]
  · rw [if_neg h1]
    by_cases h2 : i = m
    · subst h2
      rw [if_pos (by omega), List.getElem?_set, if_neg (by omega), List.getElem?_set, if_pos rfl, if_pos (by omega)]; simp
    · by_cases h3 : i = m + 1
      · subst h3
        rw [if_pos (by omega), List.getElem?_set, if_pos rfl, if_pos (by simp; omega)]; simp
      · rw [if_neg (by omega), List.getElem?_eq_none (by simp; omega)]
theorem take_more (xs : List Value) (m j : Nat) (ys : List Value) (v : Value) (h : xs.take (m + j) = ys) (hl : m + j < xs.length) : (xs.set (m + j) v).take (m + j + 1) = ys ++ [v] := by
  subst h
  have hl2 : m + j < (xs.set (m + j) v).length := by simpa using hl
  rw [List.take_succ_eq_append_getElem hl2, List.getElem_set_self, List.take_set_of_le (Nat.le_refl _)]
/-- The elements that have been laid so far in a row of the call's own. -/
structure Half {α : Type} (w : World) (e : TypeId) (size g n : Nat) (l : List α) (R : List Value → α → List Nat → Prop) (lo k : Nat) : Prop where
  laid : ∃ (Cs : List (List Value)) (Fs : List (List Nat)) (xs : List Value), Cs.length = k ∧ Fs.length = k ∧ (∀ i (hi : i < l.length), i < k → (Cs.getD i []).length = size ∧ R (Cs.getD i []) l[i] (Fs.getD i [])) ∧
    w.ownsRow 0 e size (.slice (some ⟨g, 0, none⟩) n n) n xs ∧ xs.take (k * size) = Cs.flatten ∧ Fs.flatten.Nodup ∧ Rng Fs.flatten lo w.heap.size

theorem Half.whole {α : Type} {w : World} {e : TypeId} {size g n : Nat} {l : List α} {R : List Value → α → List Nat → Prop} {lo : Nat} (h : Half w e size g n l R lo n) (hn : l.length = n) (hg : g < lo) :
    ∃ F, OwElems w e size (.slice (some ⟨g, 0, none⟩) n n) l R F ∧ F.Nodup ∧ (∀ q ∈ F, g ≤ q ∧ q < w.heap.size) := by
  obtain ⟨Cs, Fs, xs, h1, h2, h3, h4, h5, h6, h7⟩ := h.laid
  subst hn
  have hx : xs = Cs.flatten := by rw [← h5, List.take_of_length_le (by rw [h4.1]; exact Nat.le_refl _)]
  subst hx
  have hlt := (h4.lt g rfl).2
  refine ⟨FB (.slice (some ⟨g, 0, none⟩) l.length l.length) ++ Fs.flatten, ⟨Cs, Fs, h1, h2, fun i hi => h3 i hi hi, h4, rfl⟩, ?_, fun q hq => ?_⟩
  · rw [List.nodup_append]
    refine ⟨FB_nodup _, h6, fun a ha b hb e => ?_⟩
    have := h7 b hb
    simp [FB, Value.ownBlock] at ha
    omega
  · rcases List.mem_append.1 hq with h' | h'
    · simp [FB, Value.ownBlock] at h'; omega
    · have := h7 q h'; omega

theorem Half.start {α : Type} {w : World} {e : TypeId} {size g n : Nat} {l : List α} {R : List Value → α → List Nat → Prop} (lo : Nat) {xs : List Value} (h : w.ownsRow 0 e size (.slice (some ⟨g, 0, none⟩) n n) n xs) : Half w e size g n l R lo 0 :=
  ⟨[], [], xs, rfl, rfl, fun i hi h0 => by omega, h, by simp, by simp, Rng.nil _ _⟩

theorem flat_snoc {α : Type} (Cs : List (List α)) (C : List α) : (Cs ++ [C]).flatten = Cs.flatten ++ C := by simp
theorem getD_snoc {β : Type} (Cs : List (List β)) (C : List β) (i : Nat) : (Cs ++ [C]).getD i [] = if i < Cs.length then Cs.getD i [] else if i = Cs.length then C else [] := by
  by_cases h : i < Cs.length
  · rw [if_pos h, List.getD_eq_getElem?_getD, List.getElem?_append_left h, ← List.getD_eq_getElem?_getD]
  · rw [if_neg h]
    by_cases h2 : i = Cs.length
    · subst h2; simp
    · rw [if_neg h2, List.getD_eq_getElem?_getD, List.getElem?_eq_none (by simp; omega)]; rfl

/-- One element more. w1: behind the call that made it; w2: behind its store. -/
theorem Half.step {α : Type} {w w1 w2 : World} {e : TypeId} {size g n : Nat} {l : List α} {R R2 : List Value → α → List Nat → Prop} {lo k : Nat} (h : Half w e size g n l R lo k) (hk : k < l.length) (hlo : g < lo) (hlow : lo ≤ w.heap.size)
    (hB : Below w.heap.size w w1) (C : List Value) (G : List Nat) (hC : C.length = size) (hR : R2 C l[k] G) (hG : G.Nodup) (hrng : Rng G w.heap.size w1.heap.size)
    (hmono : ∀ C x G, R C x G → (∀ q ∈ G, q ≠ g) → R2 C x G) (hf : Frm w1 w2 [g]) (hs : ∀ xs : List Value, w1.ownsRow 0 e size (.slice (some ⟨g, 0, none⟩) n n) n xs → ∃ ys, w2.ownsRow 0 e size (.slice (some ⟨g, 0, none⟩) n n) n ys ∧ ys.take (k * size + size) = xs.take (k * size) ++ C) :
    Half w2 e size g n l R2 lo (k + 1) := by
  obtain ⟨Cs, Fs, xs, h1, h2, h3, h4, h5, h6, h7⟩ := h.laid
  have h4' : w1.ownsRow 0 e size (.slice (some ⟨g, 0, none⟩) n n) n xs := ownsRow_frm h4 (Frm.ofBelow hB []) (fun _ _ => by simp)
  obtain ⟨ys, hy1, hy2⟩ := hs xs h4'
  have hsz := hf.size
  have hsz1 := hB.size
  refine ⟨Cs ++ [C], Fs ++ [G], ys, by simp [h1], by simp [h2], fun i hi hik => ?_, hy1, ?_, ?_, ?_⟩
  · rw [getD_snoc, getD_snoc, h1, h2]
    by_cases hlt : i < k
    · rw [if_pos hlt, if_pos hlt]
      have := h3 i hi hlt
      refine ⟨this.1, hmono _ _ _ this.2 (fun q hq => ?_)⟩
      have := h7 q (mem_flat hq)
      omega
    · have e : i = k := by omega
      subst e
      rw [if_neg hlt, if_neg hlt, if_pos rfl, if_pos rfl]
      exact ⟨hC, hR⟩
  · rw [flat_snoc, ← h5, Nat.succ_mul]; exact hy2
  · rw [flat_snoc, List.nodup_append]
    exact ⟨h6, hG, fun a ha b hb e => by have := h7 a ha; have := hrng b hb; omega⟩
  · rw [flat_snoc]
    exact (h7.mono (Nat.le_refl _) (by omega)).app (hrng.mono (by omega) (by omega))

end Go.Proofs.YthgopknjppflhaaGreatDoor

/- What the model says of attributes and nodes: their zero, their cells. -/
namespace Go.Proofs.YthgopknjppflhaaGreatDoor
open Go.RowKit

theorem Tryz.info85 : (Tryz.prog.info? 85).map (fun i => (i.zero, i.size, i.bytes)) = some (some (.agg #[.slice none 0 0, .slice none 0 0]), 2, 48) := by kernel_rfl
theorem Tryz.info30 : (Tryz.prog.info? 30).map (fun i => (i.zero, i.size, i.bytes)) = some (some (.agg #[.int .i64 0, .slice none 0 0, .slice none 0 0, .slice none 0 0, .slice none 0 0]), 5, 104) := by kernel_rfl
end Go.Proofs.YthgopknjppflhaaGreatDoor

/- The laws' own copy of a slice of attributes, of nodes, of a whole tree: the walks. -/
namespace Go.Proofs.YthgopknjppflhaaGreatDoor
open Go.RowKit
set_option linter.unusedVariables false

theorem szA_one {l : List (List Int × List Int)} {k : Nat} (h : k < l.length) : l[k].1.length + l[k].2.length ≤ szA l := by
  have h1 := sumTo_step (fun x : List Int × List Int => x.1.length + x.2.length) l k h
  have h2 := sumTo_le (fun x : List Int × List Int => x.1.length + x.2.length) l (k + 1)
  unfold szA
  omega
set_option maxHeartbeats 3200000 in
theorem toAttrS_any (w : World) (v : Value) (l : List (List Int × List Int)) (h : RdAttrs w v l) (hs : szA l ≤ 2097152) :
    Calls Tryz.prog 71 #[v] w fun e w' => ∃ a c, e = .returned (.slice a l.length c) ∧ ∃ F, OwAttrs w' (.slice a l.length c) l F ∧ F.Nodup ∧ Rng F w.heap.size w'.heap.size ∧ Below w.heap.size w w' := by
  obtain ⟨i0, hi, hz0, hz1, hz2⟩ := info_parts Tryz.info85
  have hm := h.1
  have hlen : l.length ≤ 2097152 := by unfold szA at hs; omega
  by_cases h0 : l = []
  · obtain ⟨a, cap, rfl, _⟩ := Elems.shape h
    subst h0
    go_enter Tryz.func71, Tryz.ntmps71
    go_wp2_with (at_make; refine wpList_make_full _ rfl _ _ 27 rfl w.heap.size 85 i0 _ 2 Tryz.underlying27 hi hz0 hz1 .i64 .i64 _ _ 0 rfl rfl rfl rfl ?c1 ?c2 ?c3 ?_)
    case c1 => rw [hz2]; omega
    case c2 => exact Nat.zero_le _
    case c3 => exact Nat.le_refl _
    intro w1 hown hgrow
    have hB1 := Below.ofGrown hgrow
    have hH := (Half.start (α := List Int × List Int) (l := []) (R := OwAttr w1) (w.heap.size + 1) (ownsRow_base hown 0 (Nat.zero_le _))).whole rfl (by omega)
    have HH := hide hH
    clear hown hgrow hH
    go_wp2_with fail
    refine wp_loop_rounds 1 ?_
    rw [rounds_succ]
    go_wp2_with fail
    go_ret
    obtain ⟨F, hF, hnd, hr⟩ := unhide HH
    exact ⟨_, _, rfl, F, hF, hnd, hr, hB1⟩
  obtain ⟨_, ⟨_, e⟩ | ⟨_, _, _, _, e⟩ | ⟨b, off, cap, rfl, g1, g2, g3, g4, g5⟩⟩ := h
  · exact absurd e h0
  · exact absurd e h0
  go_enter Tryz.func71, Tryz.ntmps71
  go_wp2_with (at_make; refine wpList_make_full _ rfl _ _ 27 rfl w.heap.size 85 i0 _ 2 Tryz.underlying27 hi hz0 hz1 .i64 .i64 _ _ l.length rfl rfl rfl rfl ?c1 ?c2 ?c3 ?_)
  case c1 => rw [hz2]; omega
  case c2 => exact hm
  case c3 => exact Nat.le_refl _
  intro w1 hown hgrow
  have hB1 := Below.ofGrown hgrow
  have hH := Half.start (α := List Int × List Int) (l := l) (R := OwAttr w1) (w.heap.size + 1) (ownsRow_base hown 0 (Nat.zero_le _))
  have hlt1 := (hown.lt w.heap.size rfl).2
  clear hown hgrow
  go_wp2_with fail
  go_loopw [4] (fun i wr => ∃ k : Nat, k ≤ l.length ∧ i = .int .i64 k ∧ Half wr 85 2 w.heap.size l.length l (OwAttr wr) (w.heap.size + 1) k ∧ Below w.heap.size w wr ∧ w.heap.size + 1 ≤ wr.heap.size) (fun i _ => l.length - (intOf i).toNat)
  case atStart => exact ⟨0, Nat.zero_le _, rfl, hH, hB1, by omega⟩
  case round =>
    obtain ⟨k, hk, rfl, hr, hB, hsz⟩ := hrel
    clear hH hB1 hlt1
    by_cases hlt : k < l.length
    · obtain ⟨c0, c1, e0, e1, hc⟩ := two_of (g5 k hlt)
      obtain ⟨_, _, ee, hc0, hc1⟩ := hc
      simp only [List.cons.injEq, and_true] at ee
      obtain ⟨rfl, rfl⟩ := ee
      replace e0 := (hB.cell (p := ⟨b, off + k * 2, none⟩) g4).trans e0
      replace e1 := (hB.cell (p := ⟨b, off + k * 2 + 1, none⟩) g4).trans e1
      have hlt' : (k : Int) < (l.length : Int) := by omega
      clear g5
      go_wp2_with fail
      refine (toAttr_any wr _ _ l[k] (hc0.keep hB) (hc1.keep hB) (by have := szA_one hlt; omega)).mono ?_
      rintro e w2 ⟨a1, k1, a2, k2, rfl, G, hO, hnd, hrg, hB2⟩
      have hrow : ∃ xs : List Value, w2.ownsRow 0 85 2 (.slice (some ⟨w.heap.size, 0, none⟩) l.length l.length) l.length xs := by
        obtain ⟨_, _, xs, _, _, _, h4, _⟩ := hr.laid
        exact ⟨xs, ownsRow_frm h4 (Frm.ofBelow hB2 []) (fun _ _ => by simp)⟩
      obtain ⟨xs, hx⟩ := hrow
      have hxl := hx.1
      have q0 : w2.cell? ⟨w.heap.size, k * 2, none⟩ = some (xs[k * 2]'(by omega)) := by rw [hx.cellAt (k * 2) (by omega), List.getElem?_eq_getElem (by omega)]
      have q1 : w2.cell? ⟨w.heap.size, k * 2 + 1, none⟩ = some (xs[k * 2 + 1]'(by omega)) := by rw [hx.cellAt (k * 2 + 1) (by omega), List.getElem?_eq_getElem (by omega)]
      have f0 := hx.frozenAt (k * 2)
      have f1 := hx.frozenAt (k * 2 + 1)
      generalize xs[k * 2]'(by omega) = y0 at q0
      generalize xs[k * 2 + 1]'(by omega) = y1 at q1
      have hf : Frm w2 ((w2.setCell ⟨w.heap.size, k * 2, none⟩ (.slice a1 l[k].1.length k1)).setCell ⟨w.heap.size, k * 2 + 1, none⟩ (.slice a2 l[k].2.length k2)) [w.heap.size] := (set_frm w2 _ _ _).trans (set_frm _ _ _ _)
      have hstep : Half ((w2.setCell ⟨w.heap.size, k * 2, none⟩ (.slice a1 l[k].1.length k1)).setCell ⟨w.heap.size, k * 2 + 1, none⟩ (.slice a2 l[k].2.length k2)) 85 2 w.heap.size l.length l (OwAttr ((w2.setCell ⟨w.heap.size, k * 2, none⟩ (.slice a1 l[k].1.length k1)).setCell ⟨w.heap.size, k * 2 + 1, none⟩ (.slice a2 l[k].2.length k2))) (w.heap.size + 1) (k + 1) := by
        refine hr.step hlt (by omega) hsz hB2 [.slice a1 l[k].1.length k1, .slice a2 l[k].2.length k2] G rfl ?_ hnd hrg ?_ hf ?_
        · obtain ⟨_, _, e, o1, o2, rfl⟩ := hO
          exact ⟨_, _, e, o1.frm hf (fun g hg => by have := hrg g (by simp [hg]); simp; omega), o2.frm hf (fun g hg => by have := hrg g (by simp [hg]); simp; omega), rfl⟩
        · rintro C x G' ⟨u1, u2, e, o1, o2, rfl⟩ hne
          have hfb := (Frm.ofBelow hB2 [w.heap.size]).trans hf
          exact ⟨_, _, e, o1.frm hfb (fun g hg => by have := hne g (by simp [hg]); simp; omega), o2.frm hfb (fun g hg => by have := hne g (by simp [hg]); simp; omega), rfl⟩
        · intro zs hz
          have hzl := hz.1
          have t1 := (hz.stored (k * 2) (.slice a1 l[k].1.length k1)).1
          have t2 := (t1.stored (k * 2 + 1) (.slice a2 l[k].2.length k2)).1
          exact ⟨_, t2, take_two zs (k * 2) _ _ (by omega)⟩
      have HS := hide hstep
      have HB := hide (hB.trans ((hB2.mono hB.size).trans (hf.below (by have := hB2.size; have := hB.size; omega) (fun g hg => by simp at hg; omega))))
      have hs2 := hB2.size
      clear hstep hf hx hO hr hB2 hB e0 e1 hc0 hc1 hrg hnd
      go_wp2_with fail
      go_roundw
      case rel => exact ⟨k + 1, by omega, by go_num, unhide HS, unhide HB, by simp; omega⟩
      case measure => simp [intOf]; omega
    · have e : k = l.length := by omega
      subst e
      have HW := hide (hr.whole rfl (by omega))
      clear hr g5
      go_wp2_with fail
      go_ret
      obtain ⟨F, hF, hnd, hrg⟩ := unhide HW
      exact ⟨_, _, rfl, F, hF, hnd, hrg, hB⟩
end Go.Proofs.YthgopknjppflhaaGreatDoor

/- Owned rows lie apart. -/
namespace Go.Proofs.YthgopknjppflhaaGreatDoor
open Go.RowKit
set_option linter.unusedVariables false

end Go.Proofs.YthgopknjppflhaaGreatDoor
