/- Own texts joined: FoS, OwO, Via, FoF, PlF, SetP, CopyW, InsM, HalfT, ToT2, InA, InAO, StrK, SrA, DlA, OwOne, FoU, Push. -/
import Derived.Test.YtnfafchajjclaaaGreatDoorJa
import Derived.Test.YtnfafchajjclaaaGreatDoorJb
import Derived.Test.YtnfafchajjclaaaGreatDoorJc
import Derived.Test.YtnfafchajjclaaaGreatDoorJd
import Derived.Deep.RegionHeld3
import Derived.Laws.CopyOwn
import Derived.Lib.AppendZerosOnto
import Derived.Lib.Overlaps
import Derived.Lib.Walk
import Derived.Laws.Externs
import Derived.Laws.NewBlocks
import Derived.Deep.RegionLaw
import Derived.Deep.AppendLies
import Derived.Deep.CutBlock

/- The forest in memory: its places, its map, its set of void names. No function of the program. -/
namespace Go.Proofs.YtnfafchajjclaaaGreatDoor
open Go.RowKit Go.Maps
set_option linter.unusedVariables false
set_option maxRecDepth 100000

/-- A block of cells of one of the kinds that a place's rows are of. -/
def CellT (w : World) (q : Nat) : Prop := ∃ cs T fz, w.heap[q]? = some (.cells cs T fz) ∧ (T = 107 ∨ T = 3 ∨ T = 5 ∨ T = 108)
theorem cellT_row {w : World} {b s n : Nat} {T : TypeId} {v : Value} {xs : List Value} (h : w.ownsRow b T s v n xs) (hT : T = 107 ∨ T = 3 ∨ T = 5 ∨ T = 108) : ∀ q ∈ FB v, CellT w q := fun q hq => by
  obtain ⟨cs, e⟩ := own_obj h (g := q) (by simpa [FB] using hq)
  exact ⟨cs, T, _, e, hT⟩
theorem cellT_elems {α : Type} {w : World} {e : TypeId} {size : Nat} {v : Value} {l : List α} {R : List Value → α → List Nat → Prop} {F : List Nat} (h : OwElems w e size v l R F) (he : e = 107 ∨ e = 3 ∨ e = 5 ∨ e = 108) (hR : ∀ C x G, R C x G → ∀ q ∈ G, CellT w q) : ∀ q ∈ F, CellT w q := by
  obtain ⟨Cs, Fs, e1, e2, e3, e4, rfl⟩ := h
  intro q hq
  rcases List.mem_append.1 hq with hq | hq
  · exact cellT_row e4 he q hq
  · obtain ⟨G, hG, hgG⟩ := List.mem_flatten.1 hq
    obtain ⟨i, hi, rfl⟩ := List.getElem_of_mem hG
    have := (e3 i (by omega)).2
    rw [show Fs.getD i [] = Fs[i] by simp [hi]] at this
    exact hR _ _ _ this q hgG
theorem OwAttrs.typ {w : World} {v : Value} {l : List (List Int × List Int)} {F : List Nat} (h : OwAttrs w v l F) : ∀ q ∈ F, CellT w q :=
  cellT_elems h (.inr (.inr (.inr rfl))) (fun C x G ⟨a, b, _, h1, h2, e⟩ q hq => by
    rw [e] at hq
    rcases List.mem_append.1 hq with hq | hq
    · exact cellT_row h1.2 (.inr (.inr (.inl rfl))) q hq
    · exact cellT_row h2.2 (.inr (.inr (.inl rfl))) q hq)
theorem OwPlM.typ {w : World} {C : List Value} {p : PlV} {F : List Nat} (h : OwPlM w C p F) : ∀ q ∈ F, CellT w q := by
  obtain ⟨k, n, t, a, Fa, _, h1, h2, h3, h4, rfl⟩ := h
  intro g hg
  rcases List.mem_append.1 hg with hg | hg
  · rcases List.mem_append.1 hg with hg | hg
    · rcases List.mem_append.1 hg with hg | hg
      · exact cellT_row h1.2 (.inr (.inl rfl)) g hg
      · obtain ⟨cs, fz, e⟩ := rowm_obj h2 g hg
        exact ⟨cs, _, fz, e, .inr (.inr (.inl rfl))⟩
    · exact cellT_row h3.2 (.inr (.inr (.inl rfl))) g hg
  · exact OwAttrs.typ h4 g hg
theorem OwPlsM.typ {w : World} {v : Value} {l : List PlV} {F : List Nat} (h : OwPlsM w v l F) : ∀ q ∈ F, CellT w q := cellT_elems h (.inl rfl) (fun _ _ _ hr => hr.typ)
theorem CellT.notMap {w : World} {q : Nat} (h : CellT w q) {es : Array MapEntry} {c : Nat} : w.heap[q]? ≠ some (.map es c) := by
  obtain ⟨cs, T, fz, e, _⟩ := h
  rw [e]
  intro h
  cases h
theorem CellT.notL {w : World} {q : Nat} (h : CellT w q) {cs : Array Value} {T : TypeId} (hT : T ≠ 107 ∧ T ≠ 3 ∧ T ≠ 5 ∧ T ≠ 108) : ¬ Loc w q cs T := by
  obtain ⟨cs', T', fz', e, h⟩ := h
  unfold Loc
  rw [e]
  intro h'
  injection h' with h'
  injection h' with _ h' _
  subst h'
  rcases h with h | h | h | h
  · exact hT.1 h
  · exact hT.2.1 h
  · exact hT.2.2.1 h
  · exact hT.2.2.2 h
/-- What may be written beside the forest's own: blocks of cells. -/
def Cells (w : World) (q : Nat) : Prop := ∃ cs T fz, w.heap[q]? = some (.cells cs T fz)
theorem Cells.ofL {w : World} {q : Nat} {cs : Array Value} {T : TypeId} (h : Loc w q cs T) : Cells w q := ⟨cs, T, _, h⟩
theorem CellT.cells {w : World} {q : Nat} (h : CellT w q) : Cells w q := by
  obtain ⟨cs, T, fz, e, _⟩ := h
  exact ⟨cs, T, fz, e⟩
theorem FSet.lt {B : Nat} {o p : Value} {w : World} {g : Nat} (h : FSet B o p w g) : g < w.heap.size := by
  rcases h with h | ⟨m, _, h, _⟩
  · exact h.lt
  · exact h.lt
theorem void_map : ∃ es c, voidMap = .map es c := ⟨_, _, rfl⟩
theorem FSet.frm {B : Nat} {o p : Value} {w w' : World} {g : Nat} {S : List Nat} (h : FSet B o p w g) (f : Frm w w' S) (hg : g ∉ S) (hS : ∀ q ∈ S, q < B ∨ Cells w q) : FSet B o p w' g := by
  rcases h with h | ⟨m, hm, h, hv⟩
  · exact .inl (h.frm f hg)
  · have hlt : m < w.heap.size := by
      by_cases e : m < w.heap.size
      · exact e
      · rw [Array.getElem?_eq_none (by omega)] at hv; cases hv
    refine .inr ⟨m, hm, h.frm f hg, (f.block m hlt (fun e => ?_)).trans hv⟩
    rcases hS m e with e' | ⟨cs, T, fz, e'⟩
    · omega
    · obtain ⟨es, c, ev⟩ := void_map
      rw [hv, ev] at e'
      cases e'
theorem FSet.loc {B : Nat} {o p : Value} {w : World} {g : Nat} (h : FSet B o p w g) : ∃ cs, Loc w g cs 87 ∧ cs[0]? = some o ∧ cs[1]? = some p := by
  rcases h with h | ⟨m, _, h, _⟩
  · exact ⟨_, h, rfl, rfl⟩
  · exact ⟨_, h, rfl, rfl⟩
/-- The forest. -/
structure FoS (B : Nat) (w : World) (g mb : Nat) (a : Option Addr) (c : Nat) (l : List PlV) (F : List Nat) : Prop where
  set : FSet (mb + 1) (.slice a l.length c) (.map (some mb)) w g
  map : AtM w mb l
  row : OwPlsM w (.slice a l.length c) l F
  nd : F.Nodup
  ge : ∀ q ∈ F, B ≤ q
  geg : B ≤ g
  gem : B ≤ mb
  ids : ∀ p ∈ l, okI p.id ∧ okI p.par
  len : l.length ≤ 100000
theorem FoS.gF {B : Nat} {w : World} {g mb : Nat} {a : Option Addr} {c : Nat} {l : List PlV} {F : List Nat} (h : FoS B w g mb a c l F) : g ∉ F := fun hg => by
  obtain ⟨cs, hl, _⟩ := h.set.loc
  exact (OwPlsM.typ h.row g hg).notL (by decide) hl
theorem FoS.mF {B : Nat} {w : World} {g mb : Nat} {a : Option Addr} {c : Nat} {l : List PlV} {F : List Nat} (h : FoS B w g mb a c l F) : mb ∉ F := fun hg => by
  obtain ⟨es, k, e⟩ := h.map.isMap
  exact (OwPlsM.typ h.row mb hg).notMap e
theorem FoS.gm {B : Nat} {w : World} {g mb : Nat} {a : Option Addr} {c : Nat} {l : List PlV} {F : List Nat} (h : FoS B w g mb a c l F) : g ≠ mb := fun e => by
  obtain ⟨es, k, e'⟩ := h.map.isMap
  obtain ⟨cs, hl, _⟩ := h.set.loc
  unfold Loc at hl
  rw [e, e'] at hl
  cases hl
theorem FoS.frm {B : Nat} {w w' : World} {g mb : Nat} {a : Option Addr} {c : Nat} {l : List PlV} {F S : List Nat} (h : FoS B w g mb a c l F) (f : Frm w w' S) (hg : g ∉ S) (hm : mb ∉ S) (hF : ∀ q ∈ F, q ∉ S) (hS : ∀ q ∈ S, Cells w q) : FoS B w' g mb a c l F :=
  ⟨h.set.frm f hg (fun q hq => .inr (hS q hq)), h.map.frm f hm, h.row.frm f hF, h.nd, h.ge, h.geg, h.gem, h.ids, h.len⟩
theorem FoS.keep {B : Nat} {w w' : World} {g mb : Nat} {a : Option Addr} {c : Nat} {l : List PlV} {F : List Nat} (h : FoS B w g mb a c l F) (hb : Below w.heap.size w w') : FoS B w' g mb a c l F := h.frm (Frm.ofBelow hb []) (by simp) (by simp) (fun _ _ => by simp) (fun q hq => by cases hq)
/-- A box of a caller's is no part of the forest. -/
theorem FoS.box {B : Nat} {w : World} {g mb : Nat} {a : Option Addr} {c : Nat} {l : List PlV} {F : List Nat} (h : FoS B w g mb a c l F) {q : Nat} {cs : Array Value} {T : TypeId} (k : Loc w q cs T) (hT : T ≠ 107 ∧ T ≠ 3 ∧ T ≠ 5 ∧ T ≠ 108) (hT' : T ≠ 87) : q ∉ g :: mb :: F := fun hq => by
  rcases List.mem_cons.1 hq with rfl | hq
  · obtain ⟨cs', hl, _⟩ := h.set.loc
    unfold Loc at hl k
    rw [hl] at k
    injection k with k
    injection k with _ k
    exact hT' k.symm
  · rcases List.mem_cons.1 hq with rfl | hq
    · obtain ⟨es, k', e'⟩ := h.map.isMap
      unfold Loc at k
      rw [e'] at k
      cases k
    · exact (OwPlsM.typ h.row q hq).notL hT k
/-- What one operation of the forest leaves. -/
def FoT (B : Nat) (w : World) (g mb : Nat) (l' : List PlV) (F : List Nat) (w' : World) : Prop := ∃ a' c' F', FoS B w' g mb a' c' l' F' ∧ Frm w w' (g :: mb :: F) ∧ ∀ q ∈ F', q ∈ F ∨ w.heap.size ≤ q
end Go.Proofs.YtnfafchajjclaaaGreatDoor

/- Operations in blocks of their own. -/
namespace Go.Proofs.YtnfafchajjclaaaGreatDoor
open Go.RowKit
set_option linter.unusedVariables false
set_option maxRecDepth 100000

theorem Loc.twelve {w : World} {g : Nat} {v0 v1 v2 v3 v4 v5 v6 v7 v8 v9 v10 v11 : Value} {T : TypeId} (h : Loc w g #[v0, v1, v2, v3, v4, v5, v6, v7, v8, v9, v10, v11] T) :
    w.cell? ⟨g, 0, none⟩ = some v0 ∧ w.cell? ⟨g, 1, none⟩ = some v1 ∧ w.cell? ⟨g, 2, none⟩ = some v2 ∧ w.cell? ⟨g, 3, none⟩ = some v3 ∧ w.cell? ⟨g, 4, none⟩ = some v4 ∧ w.cell? ⟨g, 5, none⟩ = some v5 ∧ w.cell? ⟨g, 6, none⟩ = some v6 ∧ w.cell? ⟨g, 7, none⟩ = some v7 ∧ w.cell? ⟨g, 8, none⟩ = some v8 ∧ w.cell? ⟨g, 9, none⟩ = some v9 ∧ w.cell? ⟨g, 10, none⟩ = some v10 ∧ w.cell? ⟨g, 11, none⟩ = some v11 :=
  ⟨h.cell 0, h.cell 1, h.cell 2, h.cell 3, h.cell 4, h.cell 5, h.cell 6, h.cell 7, h.cell 8, h.cell 9, h.cell 10, h.cell 11⟩

theorem RdOp.keep {w w' : World} {v : Value} {o : OpV} (h : RdOp w v o) (hb : Below w.heap.size w w') : RdOp w' v o := by
  obtain ⟨k, n, t, rfl, h1, h2, h3⟩ := h
  exact ⟨k, n, t, rfl, h1.keep hb, h2.keep hb, h3.keep hb⟩
/-- An operation in blocks of its own, from 'base' on. -/
def OwOp (w : World) (base : Nat) (o : OpV) (k n t : Value) : Prop := OwnZ w base k o.key ∧ Own w base n o.name ∧ Own w base t o.text ∧ (FB k ++ FB n ++ FB t).Nodup
theorem OwOp.keep {w w' : World} {base : Nat} {o : OpV} {k n t : Value} (h : OwOp w base o k n t) (hb : Below w.heap.size w w') : OwOp w' base o k n t := ⟨h.1.keep hb, h.2.1.keep hb, h.2.2.1.keep hb, h.2.2.2⟩
theorem OwOp.rd {w : World} {base : Nat} {o : OpV} {k n t : Value} (h : OwOp w base o k n t) : RdOp w (opVal o k n t) o := ⟨k, n, t, rfl, h.1.ints, h.2.1.byt, h.2.2.1.byt⟩

/-- toOp, its rows by their parts. -/
theorem toOp_own (w : World) (v : Value) (o : OpV) (h : RdOp w v o) (hs : o.key.length + o.name.length + o.text.length ≤ 2097152) :
    Calls Tryz.prog 29 #[v] w fun e w' => ∃ a1 c1 a2 c2 a3 c3, e = .returned (opVal o (.slice a1 o.key.length c1) (.slice a2 o.name.length c2) (.slice a3 o.text.length c3)) ∧ OwOp w' w.heap.size o (.slice a1 o.key.length c1) (.slice a2 o.name.length c2) (.slice a3 o.text.length c3) ∧ Below w.heap.size w w' := by
  refine (toOp_any w v o h hs).mono ?_
  rintro e w' ⟨k, n, t, rfl, h1, h2, h3, h4, h5⟩
  obtain ⟨a1, c1, rfl, _, _⟩ := h1.ints.shape
  obtain ⟨a2, c2, rfl, _, _⟩ := h2.byt.shape
  obtain ⟨a3, c3, rfl, _, _⟩ := h3.byt.shape
  exact ⟨a1, c1, a2, c2, a3, c3, rfl, ⟨h1, h2, h3, h4⟩, h5⟩

end Go.Proofs.YtnfafchajjclaaaGreatDoor

/- Small laws of the walk. No program. -/
namespace Go.Proofs.YtnfafchajjclaaaGreatDoor
open Go.RowKit
set_option linter.unusedVariables false

theorem calls_via {P : Program} {f : FuncId} {args : Array Value} {w : World} {R : Ending → World → Prop} (h : ∀ Q : Ending → World → Prop, Hid (∀ e w', R e w' → Q e w') → Calls P f args w Q) : Calls P f args w R := h R (hide fun _ _ h => h)
end Go.Proofs.YtnfafchajjclaaaGreatDoor

/- The forest's find, takes. -/
namespace Go.Proofs.YtnfafchajjclaaaGreatDoor
open Go.RowKit Go.Maps
set_option linter.unusedVariables false
set_option maxRecDepth 100000

/-- Where the places lie. -/
theorem FoS.at {B : Nat} {w : World} {g mb : Nat} {a : Option Addr} {c : Nat} {l : List PlV} {F : List Nat} (h : FoS B w g mb a c l F) (hl : 0 < l.length) : ∃ gr, a = some ⟨gr, 0, none⟩ ∧ gr ∈ F := by
  obtain ⟨Cs, Fs, e1, e2, e3, e4, rfl⟩ := h.row
  obtain ⟨gr, cap, e, _, _⟩ := e4.form hl
  injection e with e _ _
  subst e
  exact ⟨gr, rfl, List.mem_append_left _ (by simp [FB, Value.ownBlock])⟩
set_option maxHeartbeats 1600000 in
theorem find_any {B : Nat} {w : World} {g mb : Nat} {a : Option Addr} {c : Nat} {l : List PlV} {F : List Nat} (h : FoS B w g mb a c l F) (i : IdV) (hi : okI i) :
    Calls Tryz.prog 97 #[.pointer (some ⟨g, 0, none⟩), idVal i] w fun e w' => (posP l i = none → e = .returned (.pointer none)) ∧ (∀ k, posP l i = some k → ∃ gr, a = some ⟨gr, 0, none⟩ ∧ e = .returned (.pointer (some ⟨gr, k * 9, none⟩))) ∧ Below w.heap.size w w' := by
  have hA : Below w.heap.size w (w.alloc (.cells #[.int .i64 i.1, .int .i64 i.2] 66)) := (Below.refl _ _).alloc (Nat.le_refl _) _
  have lb := Loc.made w #[.int .i64 i.1, .int .i64 i.2] 66
  have hd : Below (w.alloc (.cells #[.int .i64 i.1, .int .i64 i.2] 66)).heap.size (w.alloc (.cells #[.int .i64 i.1, .int .i64 i.2] 66)) (w.alloc (.cells #[.int .i64 i.1, .int .i64 i.2] 66)).drew := (Below.refl _ _).drew
  have h1 := h.keep hA
  have h2 := h1.keep hd
  obtain ⟨cs, lg, hc0, hc1⟩ := h2.set.loc
  obtain ⟨ci, hrun, hci⟩ := h2.map.look hi
  have g0 := lg.cell 0
  have g1 := lg.cell 1
  rw [hc0] at g0
  rw [hc1] at g1
  have hbw := bstep hA hd
  have hat := h.at
  have hlen := h.len
  have hP : ∀ k, posP l i = some k → k < l.length := fun k hk => (posP_some.1 hk).1
  unfold idVal at *
  have LL := hide (And.intro hbw (And.intro hat (And.intro hci hP)))
  have lbd := lb.all hd
  have b0 := lbd.cell 0
  have b1 := lbd.cell 1
  clear h h1 h2 hA hd lb lbd lg hc0 hc1 hbw hat hci hP hi
  refine calls_via ?_
  intro Q HQ
  generalize hp : posP l i = po at *
  go_enter Tryz.func97, Tryz.ntmps97
  go_wp2_with fail
  go_region
  cases po with
  | none =>
    go_wp2_with fail
    exact unhide HQ _ _ ⟨fun _ => rfl, fun k hk => (by cases hk), (unhide LL).1⟩
  | some k =>
    have hkl := (unhide LL).2.2.2 k rfl
    have hck := (unhide LL).2.2.1 k rfl
    obtain ⟨gr, rfl, _⟩ := (unhide LL).2.1 (by omega)
    subst hck
    have hk0 : (0 : Int) ≤ (k : Int) := by omega
    have hkl' : (k : Int) < (l.length : Int) := by omega
    go_wp2_with fail
    exact unhide HQ _ _ ⟨fun h => (by cases h), fun k' hk => (by cases hk; exact ⟨gr, rfl, rfl⟩), (unhide LL).1⟩
/-- A place in its row, cell by cell. -/
theorem FoS.own {B : Nat} {w : World} {g mb gr : Nat} {c : Nat} {l : List PlV} {F : List Nat} (h : FoS B w g mb (some ⟨gr, 0, none⟩) c l F) {k : Nat} (hk : k < l.length) :
    ∃ (k1 : Option Addr) (ck : Nat) (n1 : Option Addr) (cn : Nat) (t1 : Option Addr) (ct : Nat) (a1 : Option Addr) (ca : Nat) (Fa : List Nat), w.cell? ⟨gr, k * 9, none⟩ = some (.int .i64 l[k].idN) ∧ w.cell? ⟨gr, k * 9 + 1, none⟩ = some (.int .i64 l[k].idR) ∧ w.cell? ⟨gr, k * 9 + 2, none⟩ = some (.int .i64 l[k].parN) ∧ w.cell? ⟨gr, k * 9 + 3, none⟩ = some (.int .i64 l[k].parR) ∧ w.cell? ⟨gr, k * 9 + 4, none⟩ = some (.slice k1 l[k].key.length ck) ∧ w.cell? ⟨gr, k * 9 + 5, none⟩ = some (.int .i64 l[k].kind) ∧ w.cell? ⟨gr, k * 9 + 6, none⟩ = some (.slice n1 l[k].name.length cn) ∧ w.cell? ⟨gr, k * 9 + 7, none⟩ = some (.slice t1 l[k].text.length ct) ∧ w.cell? ⟨gr, k * 9 + 8, none⟩ = some (.slice a1 l[k].attrs.length ca) ∧ OwnZ w 0 (.slice k1 l[k].key.length ck) l[k].key ∧ RowM w 0 (.slice n1 l[k].name.length cn) l[k].name ∧ Own w 0 (.slice t1 l[k].text.length ct) l[k].text ∧ OwAttrs w (.slice a1 l[k].attrs.length ca) l[k].attrs Fa ∧ ∀ q ∈ FB (.slice k1 l[k].key.length ck) ++ FB (.slice n1 l[k].name.length cn) ++ FB (.slice t1 l[k].text.length ct) ++ Fa, q ∈ F ∧ q ≠ gr := by
  have hnd := h.nd
  obtain ⟨Cs, Fs, e1, e2, e3, e4, rfl⟩ := h.row
  obtain ⟨_, K, N, T, A, Fa, eC, o1, o2, o3, o4, eF⟩ := e3 k hk
  obtain ⟨k1, ck, rfl, _⟩ := o1.ints.shape
  obtain ⟨n1, cn, rfl, _⟩ := o2.byt.shape
  obtain ⟨t1, ct, rfl, _⟩ := o3.byt.shape
  obtain ⟨a1, ca, rfl, _⟩ := Elems.shape (OwAttrs.rd o4)
  have hcl := fun r (hr : r < 9) => own_cellAt e4 (fun i hi => (e3 i (by omega)).1) e1 k r hk hr
  rw [eC] at hcl
  have d := fun r hr => hcl r hr
  have d0 := d 0 (by omega)
  have d1 := d 1 (by omega)
  have d2 := d 2 (by omega)
  have d3 := d 3 (by omega)
  have d4 := d 4 (by omega)
  have d5 := d 5 (by omega)
  have d6 := d 6 (by omega)
  have d7 := d 7 (by omega)
  have d8 := d 8 (by omega)
  refine ⟨k1, ck, n1, cn, t1, ct, a1, ca, Fa, d0, d1, d2, d3, d4, d5, d6, d7, d8, o1, o2, o3, o4, fun q hq => ?_⟩
  rw [← eF] at hq
  refine ⟨List.mem_append_right _ (mem_flat hq), fun e => ?_⟩
  exact (List.nodup_append.1 hnd).2.2 gr (by simp [FB, Value.ownBlock]) q (mem_flat hq) e.symm
theorem takesV_some {l : List PlV} {i : IdV} {k : Nat} (hp : posP l i = some k) (hk : k < l.length) : takesV l i = (decide (l[k].kind = 0) && !voidB l[k].name) := by
  unfold takesV
  rw [hp]
  simp only [List.getElem?_eq_getElem hk]
  rfl
theorem takesV_none {l : List PlV} {i : IdV} (hp : posP l i = none) : takesV l i = false := by
  unfold takesV
  rw [hp]
end Go.Proofs.YtnfafchajjclaaaGreatDoor

/- Places of which some parts are old and some are the call's own: the specification's state as it grows. No function of the program. -/
namespace Go.Proofs.YtnfafchajjclaaaGreatDoor
open Go.RowKit
set_option linter.unusedVariables false
set_option maxRecDepth 100000

def IntsF (w0 w : World) (v : Value) (l : List Int) (F : List Nat) : Prop := (Ints w0 v l ∧ F = []) ∨ (OwnZ w 0 v l ∧ F = FB v)
def BytF (w0 w : World) (v : Value) (l : List Int) (F : List Nat) : Prop := (Byt w0 v l ∧ F = []) ∨ (RowM w 0 v l ∧ F = FB v)
def AttrO (w0 : World) (C : List Value) (x : List Int × List Int) (G : List Nat) : Prop := ∃ a b, C = [a, b] ∧ Byt w0 a x.1 ∧ Byt w0 b x.2 ∧ G = []
def AttrsF (w0 w : World) (v : Value) (l : List (List Int × List Int)) (F : List Nat) : Prop := (RdAttrs w0 v l ∧ F = []) ∨ OwElems w 108 2 v l (AttrO w0) F
/-- The nine cells of a place: its rows are old, or the call's own (F). -/
def PlF (w0 w : World) (C : List Value) (p : PlV) (F : List Nat) : Prop := ∃ k n t a F1 F2 F3, C = [.int .i64 p.idN, .int .i64 p.idR, .int .i64 p.parN, .int .i64 p.parR, k, .int .i64 p.kind, n, t, a] ∧ IntsF w0 w k p.key F1 ∧ BytF w0 w n p.name F2 ∧ Byt w0 t p.text ∧ AttrsF w0 w a p.attrs F3 ∧ F = F1 ++ F2 ++ F3
def PlsF (w0 w : World) (v : Value) (l : List PlV) (F : List Nat) : Prop := OwElems w 107 9 v l (PlF w0 w) F
theorem IntsF.frm {w0 w w' : World} {v : Value} {l : List Int} {F S : List Nat} (h : IntsF w0 w v l F) (f : Frm w w' S) (hd : ∀ g ∈ F, g ∉ S) : IntsF w0 w' v l F := by
  rcases h with h | ⟨h, rfl⟩
  · exact .inl h
  · exact .inr ⟨h.frm f hd, rfl⟩
theorem BytF.frm {w0 w w' : World} {v : Value} {l : List Int} {F S : List Nat} (h : BytF w0 w v l F) (f : Frm w w' S) (hd : ∀ g ∈ F, g ∉ S) : BytF w0 w' v l F := by
  rcases h with h | ⟨h, rfl⟩
  · exact .inl h
  · exact .inr ⟨h.frm f hd, rfl⟩
theorem AttrsF.frm {w0 w w' : World} {v : Value} {l : List (List Int × List Int)} {F S : List Nat} (h : AttrsF w0 w v l F) (f : Frm w w' S) (hd : ∀ g ∈ F, g ∉ S) : AttrsF w0 w' v l F := by
  rcases h with h | h
  · exact .inl h
  · exact .inr (OwElems.frm h f hd (fun C x G hr hG => hr))
theorem PlF.frm {w0 w w' : World} {C : List Value} {p : PlV} {F S : List Nat} (h : PlF w0 w C p F) (f : Frm w w' S) (hd : ∀ g ∈ F, g ∉ S) : PlF w0 w' C p F := by
  obtain ⟨k, n, t, a, F1, F2, F3, e, h1, h2, h3, h4, rfl⟩ := h
  exact ⟨k, n, t, a, F1, F2, F3, e, h1.frm f (fun g hg => hd g (by simp [hg])), h2.frm f (fun g hg => hd g (by simp [hg])), h3, h4.frm f (fun g hg => hd g (by simp [hg])), rfl⟩
theorem PlsF.frm {w0 w w' : World} {v : Value} {l : List PlV} {F S : List Nat} (h : PlsF w0 w v l F) (f : Frm w w' S) (hd : ∀ g ∈ F, g ∉ S) : PlsF w0 w' v l F := OwElems.frm h f hd (fun C x G hr hG => hr.frm f hG)
theorem IntsF.rd {w0 w : World} {v : Value} {l : List Int} {F : List Nat} (h : IntsF w0 w v l F) (hb : Below w0.heap.size w0 w) : Ints w v l := by
  rcases h with ⟨h, _⟩ | ⟨h, _⟩
  · exact h.keep hb
  · exact h.ints
theorem BytF.rd {w0 w : World} {v : Value} {l : List Int} {F : List Nat} (h : BytF w0 w v l F) (hb : Below w0.heap.size w0 w) : Byt w v l := by
  rcases h with ⟨h, _⟩ | ⟨h, _⟩
  · exact h.keep hb
  · exact h.byt
theorem AttrsF.rd {w0 w : World} {v : Value} {l : List (List Int × List Int)} {F : List Nat} (h : AttrsF w0 w v l F) (hb : Below w0.heap.size w0 w) : RdAttrs w v l := by
  rcases h with ⟨h, _⟩ | h
  · exact h.keep hb
  · exact OwElems.rd h (OwElems.len h) (fun C x G ⟨a, b, e, h1, h2, _⟩ => ⟨a, b, e, h1.keep hb, h2.keep hb⟩)
theorem PlF.rd {w0 w : World} {C : List Value} {p : PlV} {F : List Nat} (h : PlF w0 w C p F) (hb : Below w0.heap.size w0 w) : RdPlC w C p := by
  obtain ⟨k, n, t, a, F1, F2, F3, e, h1, h2, h3, h4, _⟩ := h
  exact ⟨k, n, t, a, e, h1.rd hb, h2.rd hb, h3.keep hb, h4.rd hb⟩
theorem PlsF.rd {w0 w : World} {v : Value} {l : List PlV} {F : List Nat} (h : PlsF w0 w v l F) (hb : Below w0.heap.size w0 w) : RdPls w v l := OwElems.rd h (OwElems.len h) (fun C x G hr => hr.rd hb)
/-- The specification's state in its box. -/
def StB (w0 w : World) (sb : Nat) (a : Option Addr) (c : Nat) (l : List PlV) (F : List Nat) : Prop := Loc w sb #[.slice a l.length c] 32 ∧ PlsF w0 w (.slice a l.length c) l F ∧ F.Nodup ∧ (∀ q ∈ F, w0.heap.size ≤ q ∧ q < w.heap.size ∧ q ≠ sb) ∧ w0.heap.size ≤ sb ∧ Below w0.heap.size w0 w
theorem StB.frm {w0 w w' : World} {sb : Nat} {a : Option Addr} {c : Nat} {l : List PlV} {F S : List Nat} (h : StB w0 w sb a c l F) (f : Frm w w' S) (hd : ∀ g ∈ F, g ∉ S) (hs : sb ∉ S) (hS : ∀ q ∈ S, w0.heap.size ≤ q) : StB w0 w' sb a c l F := by
  obtain ⟨h1, h2, h3, h4, h5, h6⟩ := h
  exact ⟨h1.frm f hs, h2.frm f hd, h3, fun q hq => ⟨(h4 q hq).1, Nat.lt_of_lt_of_le (h4 q hq).2.1 f.size, (h4 q hq).2.2⟩, h5, h6.trans (f.below h6.size hS)⟩
theorem StB.keep {w0 w w' : World} {sb : Nat} {a : Option Addr} {c : Nat} {l : List PlV} {F : List Nat} (h : StB w0 w sb a c l F) (hb : Below w.heap.size w w') : StB w0 w' sb a c l F := h.frm (Frm.ofBelow hb []) (fun _ _ => by simp) (by simp) (fun q hq => by cases hq)
end Go.Proofs.YtnfafchajjclaaaGreatDoor

/- A place of the specification's state is changed in its row. No function of the program. -/
namespace Go.Proofs.YtnfafchajjclaaaGreatDoor
open Go.RowKit
set_option linter.unusedVariables false
set_option maxRecDepth 100000

theorem flat_upd_mem {Fs : List (List Nat)} {G : List Nat} {i q : Nat} (h : q ∈ (Fs.set i G).flatten) : q ∈ Fs.flatten ∨ q ∈ G := by
  obtain ⟨F, hF, hq⟩ := List.mem_flatten.1 h
  rcases List.mem_or_eq_of_mem_set hF with hF | rfl
  · exact .inl (List.mem_flatten.2 ⟨F, hF, hq⟩)
  · exact .inr hq
theorem flat_upd_nodup : ∀ {Fs : List (List Nat)} {G : List Nat} {i : Nat}, Fs.flatten.Nodup → G.Nodup → (∀ q ∈ G, q ∈ Fs.getD i [] ∨ q ∉ Fs.flatten) → (Fs.set i G).flatten.Nodup
  | [], _, _, _, _, _ => by simp
  | F :: Fs, G, 0, h, hG, hd => by
    rw [List.flatten_cons] at h
    have h' := List.nodup_append.1 h
    rw [List.set_cons_zero, List.flatten_cons]
    refine List.nodup_append.2 ⟨hG, h'.2.1, fun a ha b hb e => ?_⟩
    subst e
    rcases hd a ha with h1 | h1
    · exact h'.2.2 a (by simpa using h1) a hb rfl
    · exact h1 (by rw [List.flatten_cons]; exact List.mem_append_right _ hb)
  | F :: Fs, G, i + 1, h, hG, hd => by
    rw [List.flatten_cons] at h
    have h' := List.nodup_append.1 h
    rw [List.set_cons_succ, List.flatten_cons]
    refine List.nodup_append.2 ⟨h'.1, flat_upd_nodup h'.2.1 hG (fun q hq => ?_), fun a ha b hb e => ?_⟩
    · rcases hd q hq with h1 | h1
      · exact .inl (by simpa using h1)
      · exact .inr (fun hq' => h1 (by rw [List.flatten_cons]; exact List.mem_append_right _ hq'))
    · subst e
      rcases flat_upd_mem hb with hb | hb
      · exact h'.2.2 a ha a hb rfl
      · rcases hd a hb with h1 | h1
        · exact h'.2.2 a ha a (mem_flat (by simpa using h1)) rfl
        · exact h1 (by rw [List.flatten_cons]; exact List.mem_append_left _ ha)
/-- One place of the row: its cells, and what the row is once they have changed. -/
theorem PlsF.one {w0 w : World} {g cap : Nat} {l : List PlV} {F : List Nat} (h : PlsF w0 w (.slice (some ⟨g, 0, none⟩) l.length cap) l F) (hN : F.Nodup) (k : Nat) (hk : k < l.length) :
    ∃ Cs C G, RowJ w 107 9 g l.length cap Cs k C ∧ PlF w0 w C l[k] G ∧ G.Nodup ∧ (∀ q ∈ G, q ∈ F) ∧ g ∈ F ∧ g ∉ G ∧
      ∀ (w' : World) (D : List Value) (p' : PlV) (G' : List Nat), RowJ w' 107 9 g l.length cap Cs k D → Frm w w' [g] → PlF w0 w' D p' G' → G'.Nodup → (∀ q ∈ G', q ∈ G ∨ q ∉ F) →
        ∃ F', PlsF w0 w' (.slice (some ⟨g, 0, none⟩) (l.set k p').length cap) (l.set k p') F' ∧ F'.Nodup ∧ ∀ q ∈ F', q ∈ F ∨ q ∈ G' := by
  obtain ⟨Cs, Fs, e1, e2, e3, e4, rfl⟩ := h
  have hC : ∀ i, i < Cs.length → (Cs.getD i []).length = 9 := fun i hi => (e3 i (by omega)).1
  have hgF : g ∉ Fs.flatten := fun hq => (List.nodup_append.1 hN).2.2 g (by simp [FB, Value.ownBlock]) g hq rfl
  have hNf := (List.nodup_append.1 hN).2.1
  refine ⟨Cs, Cs.getD k [], Fs.getD k [], RowJ.start e1 hC k hk e4, (e3 k hk).2, nodup_at hNf, fun q hq => List.mem_append_right _ (mem_flat hq), by simp [FB, Value.ownBlock], fun hq => hgF (mem_flat hq), ?_⟩
  intro w' D p' G' hR f hp hGN hG'
  have hgG : g ∉ G' := fun hq => by
    rcases hG' g hq with h1 | h1
    · exact hgF (mem_flat h1)
    · exact h1 (by simp [FB, Value.ownBlock])
  refine ⟨FB (.slice (some ⟨g, 0, none⟩) l.length cap) ++ (Fs.set k G').flatten, ⟨Cs.set k D, Fs.set k G', by simp [e1], by simp [e2], fun i hi => ?_, ?_, ?_⟩, ?_, ?_⟩
  · have hi' : i < l.length := by simpa using hi
    by_cases e : i = k
    · subst e
      rw [getD_set_at _ _ _ (by omega), getD_set_at _ _ _ (by omega), List.getElem_set_self]
      exact ⟨hR.lenD, hp⟩
    · rw [getD_set_ne _ _ _ _ e, getD_set_ne _ _ _ _ e, List.getElem_set_ne (Ne.symm e)]
      exact ⟨(e3 i hi').1, (e3 i hi').2.frm f (fun q hq hq' => by simp at hq'; subst hq'; exact hgF (mem_flat hq))⟩
  · rw [List.length_set]
    exact hR.row
  · rw [List.length_set]
  · refine List.nodup_append.2 ⟨FB_nodup _, flat_upd_nodup hNf hGN (fun q hq => (hG' q hq).imp id (fun h1 h2 => h1 (List.mem_append_right _ h2))), fun a ha b hb e => ?_⟩
    have ea : a = g := by simpa [FB, Value.ownBlock] using ha
    subst e
    subst ea
    rcases flat_upd_mem hb with hb | hb
    · exact hgF hb
    · exact hgG hb
  · intro q hq
    rcases List.mem_append.1 hq with hq | hq
    · exact .inl (List.mem_append_left _ hq)
    · rcases flat_upd_mem hq with hq | hq
      · exact .inl (List.mem_append_right _ hq)
      · exact .inr hq
end Go.Proofs.YtnfafchajjclaaaGreatDoor

/- 'copy(dst, src)' of elements of several cells, dst lying in a block that is known whole. No program. -/
namespace Go.Proofs.YtnfafchajjclaaaGreatDoor
open Go.RowKit
set_option linter.unusedVariables false

theorem run_copy_wide {P : Program} (w : World) (dT sT ty elem : TypeId) (s g o dLen dCap : Nat) (a : Addr) (sLen sCap : Nat) (cur : Array Value) (t : TypeId) (cs : List Value) (n : Nat)
    (hu : P.underlying dT = some (.slice elem)) (hs : (P.info? elem).map (·.size) = some s) (hg : w.heap[g]? = some (.cells cur t (0, 0))) (hn : n = Nat.min sLen dLen) (hcl : cs.length = n * s)
    (hsrc : ∀ j v, cs[j]? = some v → w.cell? (a.add j) = some v) (hfit : o + cs.length ≤ cur.size) (h1 : ∀ v ∈ cs, v.oneCell' = true) :
    (Builtin.copy_ #[dT, sT] ty #[.slice (some ⟨g, o, none⟩) dLen dCap, .slice (some a) sLen sCap]).run P w = .ok (goInt n) (w.setRow g (cur.toList.take o ++ cs ++ cur.toList.drop (o + cs.length)).toArray) := by
  have hl := run_loadCells_list (P := P) w a cs hsrc
  have hst := run_storeCells_at P g o t cs 0 cur w hg (by simpa using hfit) h1
  cases hq : P.info? elem with
  | none => simp [hq] at hs
  | some i =>
    have hi : i.size = s := by simpa [hq] using hs
    rw [hcl] at hl
    simp [Builtin.copy_, run_underlying hu, Builtin.lenOf, Builtin.firstCells, sizeOf, typeInfo, hq, hi, ← hn, hl, hst]
theorem setRow_frm (w : World) (g : Nat) (cs : Array Value) : Frm w (w.setRow g cs) [g] :=
  ⟨rfl, rfl, rfl, by simp [World.setRow], fun k _ hk => setRow_other w g k cs (fun e => hk (by simp [e]))⟩

/-- 'copy' at the list of a plain region's operations. -/
theorem wpList_copyw {P : Program} {w : World} {ops : Array Oper} {rest : List Oper} {o : Oper} {a : Act} {Q : Exit → Act → World → Prop} (hgd : o.guard = none) (d s : Operand) (dT sT : TypeId)
    (ho : o.op = .call { callee := .builtin .copy, args := #[d, s], argTypes := #[dT, sT] }) (elem : TypeId) (size : Nat) (hu : P.underlying dT = some (.slice elem)) (hsz : (P.info? elem).map (·.size) = some size)
    (g off dLen dCap : Nat) (ad : Addr) (sLen sCap : Nat) (hd : a.eval d = .slice (some ⟨g, off, none⟩) dLen dCap) (hs : a.eval s = .slice (some ad) sLen sCap)
    (cur : List Value) (t : TypeId) (hg : w.heap[g]? = some (.cells cur.toArray t (0, 0))) (cs : List Value) (n : Nat) (hn : n = Nat.min sLen dLen) (hcl : cs.length = n * size)
    (hsrc : ∀ j v, cs[j]? = some v → w.cell? (ad.add j) = some v) (hfit : off + cs.length ≤ cur.length) (h1 : ∀ v ∈ cs, v.oneCell' = true)
    (h : ∀ w', Hid (w'.heap[g]? = some (.cells (splice cur off cs).toArray t (0, 0))) → Frm w w' [g] → wpList P ops Q rest (a.put o.dst (goInt n)) w') : wpList P ops Q (o :: rest) a w := by
  refine wpList_plain hgd fun K hK => ?_
  have hrun := run_copy_wide (P := P) w dT sT o.type elem size g off dLen dCap ad sLen sCap cur.toArray t cs n hu hsz hg hn hcl hsrc (by simpa using hfit) h1
  unfold Oper.wp
  simp [execOp, ho, resolve, invoke, builtin, hd, hs, hrun, Result.andThen]
  exact hK _ _ (h _ (show _ = _ by simpa [splice] using setRow_heap w g _ _ t _ hg) (setRow_frm _ _ _))

/-- .. and as one step of a region that draws its order. -/
theorem step_copyw {P : Program} {w : World} {ops : Array Oper} {o : Oper} {a : Act} {K : Act → World → Prop} {Q : Exit → Act → World → Prop} {E : Prop} (hgd : o.guard = none) (d s : Operand) (dT sT : TypeId)
    (ho : o.op = .call { callee := .builtin .copy, args := #[d, s], argTypes := #[dT, sT] }) (elem : TypeId) (size : Nat) (hu : P.underlying dT = some (.slice elem)) (hsz : (P.info? elem).map (·.size) = some size)
    (g off dLen dCap : Nat) (ad : Addr) (sLen sCap : Nat) (hd : a.eval d = .slice (some ⟨g, off, none⟩) dLen dCap) (hs : a.eval s = .slice (some ad) sLen sCap)
    (cur : List Value) (t : TypeId) (hg : w.heap[g]? = some (.cells cur.toArray t (0, 0))) (cs : List Value) (n : Nat) (hn : n = Nat.min sLen dLen) (hcl : cs.length = n * size)
    (hsrc : ∀ j v, cs[j]? = some v → w.cell? (ad.add j) = some v) (hfit : off + cs.length ≤ cur.length) (h1 : ∀ v ∈ cs, v.oneCell' = true)
    (h : ∀ w', Hid (w'.heap[g]? = some (.cells (splice cur off cs).toArray t (0, 0))) → Frm w w' [g] → K (a.put o.dst (goInt n)) w') : if Region.wanted o (yielded ops a.tmps) = true then Oper.wp P o a w K Q else E := by
  have hw : Region.wanted o (yielded ops a.tmps) = true := by simp [Region.wanted, hgd]
  rw [if_pos hw]
  have hrun := run_copy_wide (P := P) w dT sT o.type elem size g off dLen dCap ad sLen sCap cur.toArray t cs n hu hsz hg hn hcl hsrc (by simpa using hfit) h1
  unfold Oper.wp
  simp [execOp, ho, resolve, invoke, builtin, hd, hs, hrun, Result.andThen]
  exact h _ (show _ = _ by simpa [splice] using setRow_heap w g _ _ t _ hg) (setRow_frm _ _ _)
end Go.Proofs.YtnfafchajjclaaaGreatDoor

/- What two copies make of a row: plain mathematics. -/
namespace Go.Proofs.YtnfafchajjclaaaGreatDoor
open Go.RowKit
set_option linter.unusedVariables false

theorem splice_get {α : Type} (L cs : List α) (o j : Nat) (h : o + cs.length ≤ L.length) : (splice L o cs)[j]? = if j < o then L[j]? else if j < o + cs.length then cs[j - o]? else L[j]? := by
  unfold splice
  have hl : (L.take o).length = o := by simp; omega
  by_cases h1 : j < o
  · rw [if_pos h1, List.getElem?_append_left (by omega), List.getElem?_take, if_pos h1]
  · rw [if_neg h1, List.getElem?_append_right (by omega), hl]
    by_cases h2 : j < o + cs.length
    · rw [if_pos h2, List.getElem?_append_left (by omega)]
    · rw [if_neg h2, List.getElem?_append_right (by omega), List.getElem?_drop]
      congr 1
      omega
theorem two_copies {α : Type} (L : List α) (R C Y : List α) (a c y : Nat) (hR : R.length = L.length) (hc : C.length = c) (hy : Y.length = y) (h : a + c + y ≤ L.length)
    (hg : ∀ j, R[j]? = if j < a then L[j]? else if j < a + c then C[j - a]? else if j < a + c + y then Y[j - (a + c)]? else R[j]?) : R.take (a + c + y) = L.take a ++ (C ++ Y) := by
  apply List.ext_getElem?
  intro j
  have hl : (L.take a).length = a := by simp; omega
  rw [List.getElem?_take, List.getElem?_append, hl, List.getElem?_take, List.getElem?_append, hc]
  by_cases h1 : j < a
  · rw [if_pos (by omega), if_pos h1, if_pos h1, hg j, if_pos h1]
  · rw [if_neg h1]
    by_cases h2 : j < a + c
    · rw [if_pos (by omega), if_pos (by omega), hg j, if_neg h1, if_pos h2]
    · rw [if_neg (show ¬ (j - a < c) by omega)]
      by_cases h3 : j < a + c + y
      · rw [if_pos h3, hg j, if_neg h1, if_neg h2, if_pos h3]; congr 1; omega
      · rw [if_neg h3, List.getElem?_eq_none (by omega)]
theorem ins_up {α : Type} (L C Y : List α) (a c y : Nat) (hc : C.length = c) (hy : Y.length = y) (h : a + c + y ≤ L.length) : (splice (splice L (a + c) Y) a C).take (a + c + y) = L.take a ++ (C ++ Y) := by
  have l1 := length_splice L (a + c) Y (by omega)
  refine two_copies L _ C Y a c y (by rw [length_splice _ _ _ (by omega), l1]) hc hy h (fun j => ?_)
  rw [splice_get _ _ _ _ (by omega), splice_get _ _ _ _ (by omega), hc, hy]
  by_cases h1 : j < a
  · simp only [if_pos h1, if_pos (show j < a + c by omega)]
  · by_cases h2 : j < a + c
    · simp only [if_neg h1, if_pos h2]
    · simp only [if_neg h1, if_neg h2]
      split <;> rfl
theorem ins_new {α : Type} (L C Y : List α) (a c y : Nat) (hc : C.length = c) (hy : Y.length = y) (h : a + c + y ≤ L.length) : (splice (splice L a C) (a + c) Y).take (a + c + y) = L.take a ++ (C ++ Y) := by
  have l1 := length_splice L a C (by omega)
  refine two_copies L _ C Y a c y (by rw [length_splice _ _ _ (by omega), l1]) hc hy h (fun j => ?_)
  rw [splice_get _ _ _ _ (by omega), splice_get _ _ _ _ (by omega), hc, hy]
  by_cases h1 : j < a
  · simp only [if_pos h1, if_pos (show j < a + c by omega)]
  · by_cases h2 : j < a + c
    · simp only [if_neg h1, if_pos h2]
    · simp only [if_neg h1, if_neg h2]
      split <;> rfl
end Go.Proofs.YtnfafchajjclaaaGreatDoor

/- The laws' own copy of a slice of attributes, of nodes, of a whole tree, by contracts. -/
namespace Go.Proofs.YtnfafchajjclaaaGreatDoor
open Go.RowKit
set_option linter.unusedVariables false


theorem take_two (xs : List Value) (m : Nat) (v1 v2 : Value) (h : m + 2 ≤ xs.length) : ((xs.set m v1).set (m + 1) v2).take (m + 2) = xs.take m ++ [v1, v2] := by
  apply List.ext_getElem?
  intro i
  have hl : (xs.take m).length = m := by simp; omega
  rw [List.getElem?_take, List.getElem?_append, hl]
  by_cases h1 : i < m
  · rw [if_pos (by omega), if_pos h1, List.getElem?_set, if_neg (by omega), List.getElem?_set, if_neg (by omega), List.getElem?_take, if_pos h1]
  · rw [if_neg h1]
    by_cases h2 : i = m
    · subst h2
      rw [if_pos (by omega), List.getElem?_set, if_neg (by omega), List.getElem?_set, if_pos rfl, if_pos (by omega)]; simp
    · by_cases h3 : i = m + 1
      · subst h3
        rw [if_pos (by omega), List.getElem?_set, if_pos rfl, if_pos (by simp; omega)]; simp
      · rw [if_neg (by omega), List.getElem?_eq_none (by simp; omega)]
theorem take_more (xs : List Value) (m j : Nat) (ys : List Value) (v : Value) (h : xs.take (m + j) = ys) (hl : m + j < xs.length) : (xs.set (m + j) v).take (m + j + 1) = ys ++ [v] := by
  subst h
  have hl2 : m + j < (xs.set (m + j) v).length := by simpa using hl
  rw [List.take_succ_eq_append_getElem hl2, List.getElem_set_self, List.take_set_of_le (Nat.le_refl _)]
theorem take_five (xs : List Value) (m : Nat) (v0 v1 v2 v3 v4 : Value) (h : m + 5 ≤ xs.length) :
    (((((xs.set m v0).set (m + 1) v1).set (m + 2) v2).set (m + 3) v3).set (m + 4) v4).take (m + 5) = xs.take m ++ [v0, v1, v2, v3, v4] := by
  have h0 := take_more xs m 0 (xs.take m) v0 rfl (by omega)
  have h1 := take_more (xs.set m v0) m 1 _ v1 h0 (by simp; omega)
  have h2 := take_more ((xs.set m v0).set (m + 1) v1) m 2 _ v2 h1 (by simp; omega)
  have h3 := take_more (((xs.set m v0).set (m + 1) v1).set (m + 2) v2) m 3 _ v3 h2 (by simp; omega)
  have h4 := take_more ((((xs.set m v0).set (m + 1) v1).set (m + 2) v2).set (m + 3) v3) m 4 _ v4 h3 (by simp; omega)
  simpa using h4

/-- The elements that have been laid so far in a row of the call's own. -/
structure Half {α : Type} (w : World) (e : TypeId) (size g n : Nat) (l : List α) (R : List Value → α → List Nat → Prop) (lo k : Nat) : Prop where
  laid : ∃ (Cs : List (List Value)) (Fs : List (List Nat)) (xs : List Value), Cs.length = k ∧ Fs.length = k ∧ (∀ i (hi : i < l.length), i < k → (Cs.getD i []).length = size ∧ R (Cs.getD i []) l[i] (Fs.getD i [])) ∧
    w.ownsRow 0 e size (.slice (some ⟨g, 0, none⟩) n n) n xs ∧ xs.take (k * size) = Cs.flatten ∧ Fs.flatten.Nodup ∧ Rng Fs.flatten lo w.heap.size

theorem Half.whole {α : Type} {w : World} {e : TypeId} {size g n : Nat} {l : List α} {R : List Value → α → List Nat → Prop} {lo : Nat} (h : Half w e size g n l R lo n) (hn : l.length = n) (hg : g < lo) :
    ∃ F, OwElems w e size (.slice (some ⟨g, 0, none⟩) n n) l R F ∧ F.Nodup ∧ (∀ q ∈ F, g ≤ q ∧ q < w.heap.size) := by
  obtain ⟨Cs, Fs, xs, h1, h2, h3, h4, h5, h6, h7⟩ := h.laid
  subst hn
  have hx : xs = Cs.flatten := by rw [← h5, List.take_of_length_le (by rw [h4.1]; exact Nat.le_refl _)]
  subst hx
  have hlt := (h4.lt g rfl).2
  refine ⟨FB (.slice (some ⟨g, 0, none⟩) l.length l.length) ++ Fs.flatten, ⟨Cs, Fs, h1, h2, fun i hi => h3 i hi hi, h4, rfl⟩, ?_, fun q hq => ?_⟩
  · rw [List.nodup_append]
    refine ⟨FB_nodup _, h6, fun a ha b hb e => ?_⟩
    have := h7 b hb
    simp [FB, Value.ownBlock] at ha
    omega
  · rcases List.mem_append.1 hq with h' | h'
    · simp [FB, Value.ownBlock] at h'; omega
    · have := h7 q h'; omega

theorem Half.start {α : Type} {w : World} {e : TypeId} {size g n : Nat} {l : List α} {R : List Value → α → List Nat → Prop} (lo : Nat) {xs : List Value} (h : w.ownsRow 0 e size (.slice (some ⟨g, 0, none⟩) n n) n xs) : Half w e size g n l R lo 0 :=
  ⟨[], [], xs, rfl, rfl, fun i hi h0 => by omega, h, by simp, by simp, Rng.nil _ _⟩

theorem flat_snoc {α : Type} (Cs : List (List α)) (C : List α) : (Cs ++ [C]).flatten = Cs.flatten ++ C := by simp
theorem getD_snoc {β : Type} (Cs : List (List β)) (C : List β) (i : Nat) : (Cs ++ [C]).getD i [] = if i < Cs.length then Cs.getD i [] else if i = Cs.length then C else [] := by
  by_cases h : i < Cs.length
  · rw [if_pos h, List.getD_eq_getElem?_getD, List.getElem?_append_left h, ← List.getD_eq_getElem?_getD]
  · rw [if_neg h]
    by_cases h2 : i = Cs.length
    · subst h2; simp
    · rw [if_neg h2, List.getD_eq_getElem?_getD, List.getElem?_eq_none (by simp; omega)]; rfl

/-- One element more. w1: behind the call that made it; w2: behind its store. -/
theorem Half.step {α : Type} {w w1 w2 : World} {e : TypeId} {size g n : Nat} {l : List α} {R R2 : List Value → α → List Nat → Prop} {lo k : Nat} (h : Half w e size g n l R lo k) (hk : k < l.length) (hlo : g < lo) (hlow : lo ≤ w.heap.size)
    (hB : Below w.heap.size w w1) (C : List Value) (G : List Nat) (hC : C.length = size) (hR : R2 C l[k] G) (hG : G.Nodup) (hrng : Rng G w.heap.size w1.heap.size)
    (hmono : ∀ C x G, R C x G → (∀ q ∈ G, q ≠ g) → R2 C x G) (hf : Frm w1 w2 [g]) (hs : ∀ xs : List Value, w1.ownsRow 0 e size (.slice (some ⟨g, 0, none⟩) n n) n xs → ∃ ys, w2.ownsRow 0 e size (.slice (some ⟨g, 0, none⟩) n n) n ys ∧ ys.take (k * size + size) = xs.take (k * size) ++ C) :
    Half w2 e size g n l R2 lo (k + 1) := by
  obtain ⟨Cs, Fs, xs, h1, h2, h3, h4, h5, h6, h7⟩ := h.laid
  have h4' : w1.ownsRow 0 e size (.slice (some ⟨g, 0, none⟩) n n) n xs := ownsRow_frm h4 (Frm.ofBelow hB []) (fun _ _ => by simp)
  obtain ⟨ys, hy1, hy2⟩ := hs xs h4'
  have hsz := hf.size
  have hsz1 := hB.size
  refine ⟨Cs ++ [C], Fs ++ [G], ys, by simp [h1], by simp [h2], fun i hi hik => ?_, hy1, ?_, ?_, ?_⟩
  · rw [getD_snoc, getD_snoc, h1, h2]
    by_cases hlt : i < k
    · rw [if_pos hlt, if_pos hlt]
      have := h3 i hi hlt
      refine ⟨this.1, hmono _ _ _ this.2 (fun q hq => ?_)⟩
      have := h7 q (mem_flat hq)
      omega
    · have e : i = k := by omega
      subst e
      rw [if_neg hlt, if_neg hlt, if_pos rfl, if_pos rfl]
      exact ⟨hC, hR⟩
  · rw [flat_snoc, ← h5, Nat.succ_mul]; exact hy2
  · rw [flat_snoc, List.nodup_append]
    exact ⟨h6, hG, fun a ha b hb e => by have := h7 a ha; have := hrng b hb; omega⟩
  · rw [flat_snoc]
    exact (h7.mono (Nat.le_refl _) (by omega)).app (hrng.mono (by omega) (by omega))

end Go.Proofs.YtnfafchajjclaaaGreatDoor

/- What the model says of attributes and nodes: their zero, their cells. -/
namespace Go.Proofs.YtnfafchajjclaaaGreatDoor
open Go.RowKit

theorem Tryz.info108 : (Tryz.prog.info? 108).map (fun i => (i.zero, i.size, i.bytes)) = some (some (.agg #[.slice none 0 0, .slice none 0 0]), 2, 48) := by kernel_rfl
theorem Tryz.info38 : (Tryz.prog.info? 38).map (fun i => (i.zero, i.size, i.bytes)) = some (some (.agg #[.int .i64 0, .slice none 0 0, .slice none 0 0, .slice none 0 0, .slice none 0 0]), 5, 104) := by kernel_rfl
end Go.Proofs.YtnfafchajjclaaaGreatDoor

/- slices.Insert of one attribute into a row of the call's own. -/
namespace Go.Proofs.YtnfafchajjclaaaGreatDoor
open Go.RowKit
set_option linter.unusedVariables false
set_option maxRecDepth 100000

def InsAnsA (w : World) (v : Value) (n : Nat) (ys : List Value) (e : Ending) (w' : World) : Prop :=
  ∃ g cap, e = .returned (.slice (some ⟨g, 0, none⟩) (n + 1) cap) ∧ w'.ownsRow 0 108 2 (.slice (some ⟨g, 0, none⟩) (n + 1) cap) (n + 1) ys ∧ Frm w w' (FB v) ∧ (v.ownBlock = some g ∨ w.heap.size ≤ g) ∧ g < w'.heap.size

theorem loc_cellsA {w : World} {g : Nat} {C : List Value} {T : TypeId} (h : Loc w g C.toArray T) (j : Nat) (u : Value) (hj : C[j]? = some u) : w.cell? ((⟨g, 0, none⟩ : Addr).add j) = some u := by
  rw [add_plain, Nat.zero_add, h.cell j]
  simpa using hj

set_option maxHeartbeats 6400000 in
theorem ins_endA (w : World) (v : Value) (n vb : Nat) (xs C : List Value) (h : w.ownsRow 0 108 2 v n xs) (hC : C.length = 2) (hl : Loc w vb C.toArray 108) (h1 : ∀ u ∈ C, u.oneCell' = true) (hn : n ≤ 100000) :
    Calls Tryz.prog 122 #[v, .int .i64 n, .slice (some ⟨vb, 0, none⟩) 1 1] w (InsAnsA w v n (xs ++ C)) := by
  obtain ⟨i0, hi, hz0, hz1, hz2⟩ := info_parts Tryz.info108
  have hcell := loc_cellsA hl
  have H := hide h
  have hsh : v = .slice none 0 0 ∧ n = 0 ∨ ∃ g cap, v = .slice (some ⟨g, 0, none⟩) n cap ∧ n ≤ cap := by
    rcases h.2 with ⟨rfl, rfl⟩ | ⟨g, cap, cur, rfl, _, _, hc, _⟩
    · exact .inl ⟨rfl, rfl⟩
    · exact .inr ⟨g, cap, rfl, hc⟩
  clear h
  rcases hsh with ⟨rfl, rfl⟩ | ⟨g, cap, rfl, hnc⟩
  · go_enter Tryz.func122, Tryz.ntmps122
    go_wp2_with (at_builtin; refine wpList_append_lies w rfl _ _ 35 rfl 0 108 i0 _ 2 48 Tryz.underlying35 hi hz0 hz1 hz2 rfl (by decide) _ 0 xs rfl (unhide H) ⟨vb, 0, none⟩ 1 1 C rfl (by omega) hcell h1 (by omega) (by unfold maxLen; omega) (by omega) (Nat.zero_le _) w.heap.size rfl ?_; intro g cap w' k1 k2 k3 k4)
    go_ret
    exact ⟨g, cap, rfl, k1, Frm.ofGrown k2, k3.imp id (fun e => by omega), k4⟩
  · go_enter Tryz.func122, Tryz.ntmps122
    go_wp2_with (at_builtin; refine wpList_append_lies w rfl _ _ 35 rfl 0 108 i0 _ 2 48 Tryz.underlying35 hi hz0 hz1 hz2 rfl (by decide) _ n xs rfl (unhide H) ⟨vb, 0, none⟩ 1 1 C rfl (by omega) hcell h1 (by omega) (by unfold maxLen; omega) (by omega) (Nat.zero_le _) w.heap.size rfl ?_; intro g' cap' w' k1 k2 k3 k4)
    all_goals (go_ret; exact ⟨g', cap', rfl, k1, Frm.ofGrown k2, k3.imp id (fun e => by omega), k4⟩)

theorem own_wholeA {w : World} {g n cap : Nat} {xs : List Value} (h : w.ownsRow 0 108 2 (.slice (some ⟨g, 0, none⟩) n cap) n xs) :
    ∃ R : List Value, Loc w g R.toArray 108 ∧ n ≤ cap ∧ cap ≤ maxLen ∧ R.length = cap * 2 ∧ R.take (n * 2) = xs := by
  rcases h.2 with ⟨h, _⟩ | ⟨g', cap', cur, h, _, hg, a, b, c, d⟩
  · cases h
  · cases h
    exact ⟨cur.toList, by simpa [Loc] using hg, a, b, by simpa using c, d⟩
theorem own_makeA {w : World} {g n cap : Nat} {R xs : List Value} (h : Loc w g R.toArray 108) (a : n ≤ cap) (b : cap ≤ maxLen) (c : R.length = cap * 2) (d : R.take (n * 2) = xs) : w.ownsRow 0 108 2 (.slice (some ⟨g, 0, none⟩) n cap) n xs := by
  refine ⟨?_, .inr ⟨g, cap, R.toArray, rfl, Nat.zero_le _, h, a, b, by simpa using c, by simpa using d⟩⟩
  have : n * 2 ≤ cap * 2 := Nat.mul_le_mul_right _ a
  rw [← d, List.length_take]; omega

set_option maxHeartbeats 8000000 in
theorem ins_growA (w : World) (g n cap i vb : Nat) (xs C : List Value) (h : w.ownsRow 0 108 2 (.slice (some ⟨g, 0, none⟩) n cap) n xs) (hC : C.length = 2) (hl : Loc w vb C.toArray 108) (h1 : ∀ u ∈ C, u.oneCell' = true) (hx1 : ∀ u ∈ xs, u.oneCell' = true) (hn : n ≤ 100000) (hi : i < n) (hroom : cap < n + 1) :
    Calls Tryz.prog 122 #[.slice (some ⟨g, 0, none⟩) n cap, .int .i64 i, .slice (some ⟨vb, 0, none⟩) 1 1] w (InsAnsA w (.slice (some ⟨g, 0, none⟩) n cap) n (xs.take (i * 2) ++ (C ++ xs.drop (i * 2)))) := by
  obtain ⟨i0, hi0, hz0, hzs, hzb⟩ := info_parts Tryz.info108
  have hsz : (Tryz.prog.info? 108).map (·.size) = some 2 := by rw [hi0]; simp [hzs]
  have hxl := h.1
  obtain ⟨R0, hg, hnc, hcm, hcs, htk⟩ := own_wholeA h
  have hcells : ∀ j u, xs[j]? = some u → w.cell? ⟨g, j, none⟩ = some u := fun j u hj => by
    rw [hg.cell j]
    rw [← htk, List.getElem?_take] at hj
    split at hj
    · simpa using hj
    · cases hj
  have hin : i * 2 ≤ n * 2 := Nat.mul_le_mul_right _ (by omega)
  have hold : (Builtin.firstCells i0.size i (.slice (some ⟨g, 0, none⟩) i cap)).run Tryz.prog w.drew = .ok (xs.take (i * 2)).toArray w.drew := by
    rw [hzs]
    exact run_firstCells_some w.drew 2 i ⟨g, 0, none⟩ i cap (xs.take (i * 2)) (by rw [List.length_take]; omega) (fun j v hj => by
      rw [add_plain, Nat.zero_add]
      rw [List.getElem?_take] at hj
      split at hj
      · exact hcells j v hj
      · cases hj)
  have hik : i + (n + 1 - i) = n + 1 := by omega
  have hkk : (n : Int) + 1 - (i : Int) = ((n + 1 - i : Nat) : Int) := by omega
  obtain ⟨z, hz⟩ : ∃ z : Value, z = .agg #[.slice none 0 0, .slice none 0 0] := ⟨_, rfl⟩
  have hzc : z.cells.size = 2 := by rw [hz]; rfl
  rw [← hz] at hz0
  obtain ⟨G, hG⟩ : ∃ G, G = grownCap w (n + 1) cap 108 := ⟨_, rfl⟩
  obtain ⟨R, hR⟩ : ∃ R : List Value, R = ((xs.take (i * 2)).toArray ++ Builtin.zeroCells z.cells (n + 1 - i) ++ Builtin.zeroCells z.cells (G - (n + 1))).toList := ⟨_, rfl⟩
  have hrz : ∀ ty, (Builtin.append_ #[35, 3] ty #[.slice (some ⟨g, 0, none⟩) i cap, .int .i64 ((n : Int) + 1 - (i : Int))]).run Tryz.prog w = .ok (.slice (some ⟨w.heap.size, 0, none⟩) (n + 1) G) (w.drew.alloc (.cells R.toArray 108)) := by
    intro ty
    have h := Lib.run_append_grow_zeros w 35 3 ty 108 i0 z .i64 .i64 Tryz.underlying35 Tryz.underlying3 hi0 hz0 (some ⟨g, 0, none⟩) i cap (xs.take (i * 2)) hold (n + 1 - i) (by omega) (by omega) (by omega) (by omega) (by rw [hzb]; omega) (by rw [hzb, hik]; exact growslice_fits hroom (by omega))
    rw [hik, ← hG] at h
    rw [hkk, hR, Array.toArray_toList]
    exact h
  have hGn : n + 1 ≤ G := by rw [hG]; exact grownCap_ge w _ _ _
  have hGm : G ≤ maxLen := by rw [hG]; exact grownCap_le_maxLen w (n + 1) cap 108 (by unfold maxLen; omega)
  have hRl : R.length = G * 2 := by
    rw [hR]
    simp [Builtin.zeroCells, hzc, List.length_take]
    omega
  have hRt : R.take (i * 2) = xs.take (i * 2) := by
    rw [hR]
    simp [List.take_append, List.length_take]
    have e : i * 2 - min (i * 2) xs.length = 0 := by omega
    rw [e]
    simp [List.take_take]
  have hdl : (xs.drop (i * 2)).length = (n - i) * 2 := by rw [List.length_drop]; omega
  have hGi : ¬ (G = i) := by omega
  have hGim : ¬ (G = i + 1) := by omega
  have hci : ¬ (cap = i) := by omega
  have hG63 : G ≤ 9223372036854775807 := by unfold maxLen at hGm; omega
  have hW1 : ((w.alloc (.cells R.toArray 108)).drew).heap[w.heap.size]? = some (.cells R.toArray 108 (0, 0)) := heap_alloc_new w _
  have hlv : Loc (w.alloc (.cells R.toArray 108)).drew vb C.toArray 108 := hl.alloc _
  have hgo : Loc (w.alloc (.cells R.toArray 108)).drew g R0.toArray 108 := hg.alloc _
  have hfa : Frm w (w.alloc (.cells R.toArray 108)).drew [] := ⟨rfl, rfl, rfl, by simp [World.drew], fun k hk _ => heap_alloc_old w _ hk⟩
  have hglt := hg.lt
  have hvlt := hl.lt
  clear hold hkk hik hR hG h hcells
  go_enter Tryz.func122, Tryz.ntmps122
  go_wp2_with (first
    | (at_builtin; refine Lib.wpList_append_run _ rfl _ _ _ _ rfl _ _ rfl rfl _ _ (hrz _) ?_)
    | (refine wpList_copyw rfl _ _ 35 35 rfl 108 2 Tryz.underlying35 hsz w.heap.size (i * 2) (n + 1 - i) (G - i) ⟨vb, 0, none⟩ 1 1 ?_ ?_ R 108 ?_ C 1 (by simp only [Nat.min_def]; split <;> omega) (by omega) ?_ (by omega) h1 ?_; rfl; rfl; exact hW1; exact loc_cellsA hlv; intro w2 hg2 hf2))
  have hg2' := unhide hg2
  have hgo2 := hgo.frm hf2 (by simp; omega)
  have hcells2 : ∀ j u, (xs.drop (i * 2))[j]? = some u → w2.cell? ((⟨g, i * 2, none⟩ : Addr).add j) = some u := fun j u hj => by
    rw [add_plain, hgo2.cell]
    rw [List.getElem?_drop, ← htk, List.getElem?_take] at hj
    split at hj
    · simpa using hj
    · cases hj
  have hsl : (splice R (i * 2) C).length = G * 2 := by rw [length_splice _ _ _ (by omega)]; exact hRl
  have hd1 : ∀ u ∈ xs.drop (i * 2), u.oneCell' = true := fun u hu => hx1 u (List.mem_of_mem_drop hu)
  have HM := hide (show n - i = Nat.min (n - i) (n - i) by simp only [Nat.min_def]; split <;> omega)
  have hb1 : (0 : Int) ≤ (i : Int) + 1 := by omega
  have hin' : i ≤ n := by omega
  have hb3 : (i : Int) ≤ (n : Int) := by omega
  have hgd : w2.drew.heap[w.heap.size]? = some (.cells (splice R (i * 2) C).toArray 108 (0, 0)) := hg2'
  have hcd : ∀ j u, (xs.drop (i * 2))[j]? = some u → w2.drew.cell? ((⟨g, i * 2, none⟩ : Addr).add j) = some u := hcells2
  have hw1 : IntKind.i64.wrap ((i : Int) + 1) = (i : Int) + 1 := by rw [IntKind.wrap_i64]; omega
  have htn : ((i : Int) + 1).toNat = i + 1 := by omega
  clear hrz hW1 hlv
  go_region_law (refine step_copyw rfl _ _ 35 35 rfl 108 2 Tryz.underlying35 hsz w.heap.size ((i + 1) * 2) (n - i) (G - (i + 1)) ⟨g, i * 2, none⟩ (n - i) (cap - i) (by simp [Act.eval, Act.put]) (by simp [Act.eval, Act.put]) (splice R (i * 2) C) 108 hgd (xs.drop (i * 2)) (n - i) (unhide HM) hdl hcd (by omega) hd1 ?_; intro w3 hg3 hf3)
  go_wp2
  go_ret
  have hfin := ins_new R C (xs.drop (i * 2)) (i * 2) 2 ((n - i) * 2) hC hdl (by omega)
  rw [hRt] at hfin
  have hg3' : Loc w3 w.heap.size (splice (splice R (i * 2) C) (i * 2 + 2) (xs.drop (i * 2))).toArray 108 := by
    have := unhide hg3
    rw [show (i + 1) * 2 = i * 2 + 2 by omega] at this
    exact this
  refine ⟨w.heap.size, G, rfl, own_makeA hg3' hGn hGm (by rw [length_splice _ _ _ (by omega)]; exact hsl) ?_, ?_, .inr (Nat.le_refl _), hg3'.lt⟩
  · rw [← hfin]; congr 1; omega
  · have f2 : Frm w w2 [] := hfa.new hf2 (fun q hq => by simp at hq; omega)
    have f3 : Frm w w3 [] := f2.new (⟨hf3.os, hf3.tape, hf3.output, hf3.size, hf3.block⟩ : Frm w2 w3 [w.heap.size]) (fun q hq => by simp at hq; omega)
    exact f3.mono (fun q hq => by simp at hq)

theorem loc_shapeA {w : World} {g : Nat} {C : List Value} {T : TypeId} (h : Loc w g C.toArray T) : w.shape? g = some (T, C.length) := by
  unfold Loc at h
  simp [World.shape?, h]

set_option maxHeartbeats 8000000 in
theorem ins_shiftA (w : World) (g n cap i vb : Nat) (xs C : List Value) (h : w.ownsRow 0 108 2 (.slice (some ⟨g, 0, none⟩) n cap) n xs) (hC : C.length = 2) (hl : Loc w vb C.toArray 108) (h1 : ∀ u ∈ C, u.oneCell' = true) (hx1 : ∀ u ∈ xs, u.oneCell' = true) (hn : n ≤ 100000) (hi : i < n) (hroom : n + 1 ≤ cap) (hvb : vb ≠ g) :
    Calls Tryz.prog 122 #[.slice (some ⟨g, 0, none⟩) n cap, .int .i64 i, .slice (some ⟨vb, 0, none⟩) 1 1] w (InsAnsA w (.slice (some ⟨g, 0, none⟩) n cap) n (xs.take (i * 2) ++ (C ++ xs.drop (i * 2)))) := by
  obtain ⟨i0, hi0, hz0, hzs, hzb⟩ := info_parts Tryz.info108
  have hsz : (Tryz.prog.info? 108).map (·.size) = some 2 := by rw [hi0]; simp [hzs]
  have hsz' : ∀ w, (sizeOf 108).run Tryz.prog w = .ok 2 w := fun w => by simp [sizeOf, typeInfo, hi0, hzs]
  have hxl := h.1
  obtain ⟨R0, hg, hnc, hcm, hcs, htk⟩ := own_wholeA h
  have hov : ∀ lb cb, (callFunc 128 #[.slice (some ⟨vb, 0, none⟩) 1 1, .slice (some ⟨g, (i + 1) * 2, none⟩) lb cb]).run Tryz.prog w = .ok (.value (.bool false)) w := fun lb cb => by
    rw [run_callFunc_extern Tryz.func128 (by kernel_rfl) (by kernel_rfl) (by kernel_rfl) (e := Extern.SlicesOverlaps.overlaps #[35, 35] #[4]) (by kernel_rfl),
      Lib.run_overlaps_apart w 35 4 108 Tryz.underlying35 2 hsz' ⟨vb, 0, none⟩ ⟨g, (i + 1) * 2, none⟩ 1 1 lb cb hvb _ _ _ _ (loc_shapeA hl) (loc_shapeA hg) (by rw [hcs]; omega) (hl.frozen 0) (hl.frozen _)]
    rfl
  have hin : i * 2 ≤ n * 2 := Nat.mul_le_mul_right _ (by omega)
  have hRt : R0.take (i * 2) = xs.take (i * 2) := by rw [← htk, List.take_take, Nat.min_eq_left (by omega)]
  have hdl : (xs.drop (i * 2)).length = (n - i) * 2 := by rw [List.length_drop]; omega
  have hd1 : ∀ u ∈ xs.drop (i * 2), u.oneCell' = true := fun u hu => hx1 u (List.mem_of_mem_drop hu)
  have hcells : ∀ j u, (xs.drop (i * 2))[j]? = some u → w.drew.cell? ((⟨g, i * 2, none⟩ : Addr).add j) = some u := fun j u hj => by
    have : w.cell? ((⟨g, i * 2, none⟩ : Addr).add j) = some u := by
      rw [add_plain, hg.cell]
      rw [List.getElem?_drop, ← htk, List.getElem?_take] at hj
      split at hj
      · simpa using hj
      · cases hj
    exact this
  have hgd : w.drew.heap[g]? = some (.cells R0.toArray 108 (0, 0)) := hg
  have hfd : Frm w w.drew [] := ⟨rfl, rfl, rfl, Nat.le_refl _, fun _ _ _ => rfl⟩
  have hld : Loc w.drew vb C.toArray 108 := hl
  have HM := hide (show n - i = Nat.min (n + 1 - i) (n - i) by simp only [Nat.min_def]; split <;> omega)
  have HM2 := hide (show 1 = Nat.min 1 (n + 1 - i) by simp only [Nat.min_def]; split <;> omega)
  have hw1 : IntKind.i64.wrap ((i : Int) + 1) = (i : Int) + 1 := by rw [IntKind.wrap_i64]; omega
  have htn : ((i : Int) + 1).toNat = i + 1 := by omega
  have hb1 : (0 : Int) ≤ (i : Int) + 1 := by omega
  have hin' : i ≤ n := by omega
  have hb3 : (i : Int) ≤ (n : Int) := by omega
  have hb2 : ¬ (cap = i + 1) := by omega
  have hb4 : ¬ (cap = i) := by omega
  have hb5 : (i : Int) ≤ (n : Int) + 1 := by omega
  have hc63 : cap ≤ 9223372036854775807 := by unfold maxLen at hcm; omega
  have hlen := length_splice R0 ((i + 1) * 2) (xs.drop (i * 2)) (by omega)
  clear h
  go_enter Tryz.func122, Tryz.ntmps122
  go_wp2_with (simp only [hov])
  go_region_law (refine step_copyw rfl _ _ 35 35 rfl 108 2 Tryz.underlying35 hsz g ((i + 1) * 2) (n - i) (cap - (i + 1)) ⟨g, i * 2, none⟩ (n + 1 - i) (cap - i) (by simp [Act.eval, Act.put]) (by simp [Act.eval, Act.put]) R0 108 hgd (xs.drop (i * 2)) (n - i) (unhide HM) hdl hcells (by omega) hd1 ?_; intro w3 hg3 hf3)
  have hg3' := unhide hg3
  have hl3 : Loc w3 vb C.toArray 108 := hld.frm hf3 (by simpa using hvb)
  go_wp2_with (refine wpList_copyw rfl _ _ 35 35 rfl 108 2 Tryz.underlying35 hsz g (i * 2) (n + 1 - i) (cap - i) ⟨vb, 0, none⟩ 1 1 ?_ ?_ (splice R0 ((i + 1) * 2) (xs.drop (i * 2))) 108 ?_ C 1 (unhide HM2) (by omega) ?_ (by omega) h1 ?_; rfl; rfl; exact hg3'; exact loc_cellsA hl3; intro w4 hg4 hf4)
  go_ret
  have hfin := ins_up R0 C (xs.drop (i * 2)) (i * 2) 2 ((n - i) * 2) hC hdl (by omega)
  rw [hRt] at hfin
  have hg4' : Loc w4 g (splice (splice R0 (i * 2 + 2) (xs.drop (i * 2))) (i * 2) C).toArray 108 := by
    have := unhide hg4
    rw [show (i + 1) * 2 = i * 2 + 2 by omega] at this
    exact this
  refine ⟨g, cap, rfl, own_makeA hg4' hroom hcm ?_ ?_, ?_, .inl rfl, hg4'.lt⟩
  · rw [show (i + 1) * 2 = i * 2 + 2 by omega] at hlen
    rw [length_splice _ _ _ (by omega), hlen]; exact hcs
  · rw [← hfin]; congr 1; omega
  · exact ((hfd.mono (fun q hq => by simp at hq)).trans hf3).trans hf4
end Go.Proofs.YtnfafchajjclaaaGreatDoor

/- Rows of operations of a call's own: one more put in between, one put in another's place. -/
namespace Go.Proofs.YtnfafchajjclaaaGreatDoor
open Go.RowKit
set_option linter.unusedVariables false
set_option maxRecDepth 100000

theorem flat_takeIA (size : Nat) : ∀ (Cs : List (List Value)) (i : Nat), (∀ k, k < Cs.length → (Cs.getD k []).length = size) → i ≤ Cs.length → (Cs.take i).flatten = Cs.flatten.take (i * size) ∧ (Cs.drop i).flatten = Cs.flatten.drop (i * size)
  | Cs, 0, _, _ => by simp
  | [], i + 1, _, h => by simp at h
  | C :: Cs, i + 1, hl, h => by
    have h0 : C.length = size := by simpa using hl 0 (by simp)
    obtain ⟨a, b⟩ := flat_takeIA size Cs i (fun k hk => by simpa using hl (k + 1) (by simpa using hk)) (by simpa using h)
    have e : (i + 1) * size = C.length + i * size := by rw [h0, Nat.succ_mul]; omega
    constructor
    · rw [List.take_succ_cons, List.flatten_cons, List.flatten_cons, e, List.take_length_add_append, a]
    · rw [List.drop_succ_cons, List.flatten_cons, e, List.drop_length_add_append, b]
theorem getD_insA {α : Type} (l : List (List α)) (x : List α) (i k : Nat) (hi : i ≤ l.length) : (l.take i ++ (x :: l.drop i)).getD k [] = if k < i then l.getD k [] else if k = i then x else l.getD (k - 1) [] := by
  have hl : (l.take i).length = i := by simp; omega
  rw [List.getD_eq_getElem?_getD, List.getElem?_append, hl]
  by_cases h1 : k < i
  · rw [if_pos h1, if_pos h1, List.getElem?_take, if_pos h1, List.getD_eq_getElem?_getD]
  · rw [if_neg h1, if_neg h1]
    by_cases h2 : k = i
    · subst h2; simp
    · rw [if_neg h2, show k - i = (k - i - 1) + 1 by omega, List.getElem?_cons_succ, List.getElem?_drop, List.getD_eq_getElem?_getD]
      congr 2
      omega
theorem get_insA {α : Type} (l : List α) (x : α) (i k : Nat) (hi : i ≤ l.length) (hk : k < (l.take i ++ (x :: l.drop i)).length) : (∃ h : k < l.length, k < i ∧ (l.take i ++ (x :: l.drop i))[k] = l[k]) ∨ (k = i ∧ (l.take i ++ (x :: l.drop i))[k] = x) ∨ (∃ h : k - 1 < l.length, i < k ∧ (l.take i ++ (x :: l.drop i))[k] = l[k - 1]) := by
  have hl : (l.take i).length = i := by simp; omega
  have hk' : k < l.length + 1 := by simp at hk; omega
  by_cases h1 : k < i
  · refine .inl ⟨by omega, h1, ?_⟩
    rw [List.getElem_append_left (by omega), List.getElem_take]
  · by_cases h2 : k = i
    · subst h2
      refine .inr (.inl ⟨rfl, ?_⟩)
      rw [List.getElem_append_right (by omega)]
      simp [hl]
    · refine .inr (.inr ⟨by omega, by omega, ?_⟩)
      have : (l.take i ++ (x :: l.drop i))[k]? = l[k - 1]? := by
        rw [List.getElem?_append_right (by omega), hl, show k - i = (k - i - 1) + 1 by omega, List.getElem?_cons_succ, List.getElem?_drop]
        congr 1
        omega
      rw [List.getElem?_eq_getElem hk, List.getElem?_eq_getElem (by omega)] at this
      exact Option.some.inj this
theorem flat_ins_memA {Fs : List (List Nat)} {G : List Nat} {i q : Nat} : q ∈ (Fs.take i ++ (G :: Fs.drop i)).flatten ↔ q ∈ Fs.flatten ∨ q ∈ G := by
  have e : Fs.flatten = (Fs.take i).flatten ++ (Fs.drop i).flatten := by rw [← List.flatten_append, List.take_append_drop]
  rw [List.flatten_append, List.flatten_cons, e]
  simp only [List.mem_append]
  constructor
  · rintro (h | h | h)
    · exact .inl (.inl h)
    · exact .inr h
    · exact .inl (.inr h)
  · rintro ((h | h) | h)
    · exact .inl h
    · exact .inr (.inr h)
    · exact .inr (.inl h)
theorem flat_ins_nodupA {Fs : List (List Nat)} {G : List Nat} {i : Nat} (h : Fs.flatten.Nodup) (hG : G.Nodup) (hd : ∀ q ∈ Fs.flatten, q ∉ G) : (Fs.take i ++ (G :: Fs.drop i)).flatten.Nodup := by
  have e : Fs.flatten = (Fs.take i).flatten ++ (Fs.drop i).flatten := by rw [← List.flatten_append, List.take_append_drop]
  rw [e] at h hd
  have h' := List.nodup_append.1 h
  rw [List.flatten_append, List.flatten_cons]
  refine List.nodup_append.2 ⟨h'.1, List.nodup_append.2 ⟨hG, h'.2.1, fun a ha b hb e => hd b (List.mem_append_right _ hb) (e ▸ ha)⟩, fun a ha b hb e => ?_⟩
  rcases List.mem_append.1 hb with hb | hb
  · exact hd a (List.mem_append_left _ ha) (e ▸ hb)
  · exact h'.2.2 a ha b hb e
theorem owc_oneA {w : World} {C : List Value} {o : List Int × List Int} {F : List Nat} (h : OwAttr w C o F) : ∀ u ∈ C, u.oneCell' = true := by
  obtain ⟨a, b, rfl, h1, h2, _⟩ := h
  obtain ⟨p4, k4, rfl, _, _⟩ := h1.byt.shape
  obtain ⟨p5, k5, rfl, _, _⟩ := h2.byt.shape
  intro u hu
  simp at hu
  rcases hu with rfl | rfl <;> rfl
theorem owc_lenA {w : World} {C : List Value} {o : List Int × List Int} {F : List Nat} (h : OwAttr w C o F) : C.length = 2 := by
  obtain ⟨a, b, rfl, _⟩ := h; rfl

/-- slices.Insert of an operation that owns its rows into a row of the call's own. -/
theorem insA_any (w : World) (v : Value) (l : List (List Int × List Int)) (F : List Nat) (i vb : Nat) (C : List Value) (o : List Int × List Int) (G : List Nat) (h : OwAttrs w v l F) (hN : F.Nodup) (hi : i ≤ l.length) (hn : l.length ≤ 100000)
    (hl : Loc w vb C.toArray 108) (ho : OwAttr w C o G) (hG : G.Nodup) (hFG : ∀ q ∈ F, q ∉ G) (hvF : vb ∉ F) :
    Calls Tryz.prog 122 #[v, .int .i64 i, .slice (some ⟨vb, 0, none⟩) 1 1] w fun e w' => ∃ u F', e = .returned u ∧ OwAttrs w' u (l.take i ++ (o :: l.drop i)) F' ∧ F'.Nodup ∧ (∀ q ∈ F', q ∈ F ∨ q ∈ G ∨ (w.heap.size ≤ q ∧ q < w'.heap.size)) ∧ Frm w w' (FB v) := by
  have hlt := h.lt
  have hR := h.rd
  obtain ⟨Cs, Fs, e1, e2, e3, e4, rfl⟩ := h
  have hC : ∀ k, k < Cs.length → (Cs.getD k []).length = 2 := fun k hk => (e3 k (by omega)).1
  have hx1 : ∀ u ∈ Cs.flatten, u.oneCell' = true := by
    intro u hu
    obtain ⟨D, hD, hu⟩ := List.mem_flatten.1 hu
    obtain ⟨k, hk, rfl⟩ := List.getElem_of_mem hD
    have e' : Cs.getD k [] = Cs[k] := by simp [List.getD_eq_getElem?_getD, hk]
    have := (e3 k (by omega)).2
    rw [e'] at this
    exact owc_oneA this u hu
  have hmain : Calls Tryz.prog 122 #[v, .int .i64 i, .slice (some ⟨vb, 0, none⟩) 1 1] w (InsAnsA w v l.length (Cs.flatten.take (i * 2) ++ (C ++ Cs.flatten.drop (i * 2)))) := by
    by_cases hin : i = l.length
    · have e : i * 2 = Cs.flatten.length := by rw [e4.1, hin]
      rw [e, List.take_length, List.drop_length, List.append_nil, hin]
      exact ins_endA w v l.length vb _ C e4 (owc_lenA ho) hl (owc_oneA ho) hn
    · rcases e4.2 with ⟨rfl, h0⟩ | ⟨g, cap, cur, rfl, _, hg, hnc, _⟩
      · omega
      · by_cases hroom : cap < l.length + 1
        · exact ins_growA w g l.length cap i vb _ C e4 (owc_lenA ho) hl (owc_oneA ho) hx1 hn (by omega) hroom
        · exact ins_shiftA w g l.length cap i vb _ C e4 (owc_lenA ho) hl (owc_oneA ho) hx1 hn (by omega) (by omega) (fun e => hvF (List.mem_append_left _ (by simp [FB, Value.ownBlock, e])))
  refine hmain.mono ?_
  rintro e w' ⟨g, cap, rfl, k1, k2, k3, k4⟩
  have hFd : ∀ q ∈ Fs.flatten, q ∉ FB v := fun q hq hv => (List.nodup_append.1 hN).2.2 q hv q hq rfl
  have hGd : ∀ q ∈ G, q ∉ FB v := fun q hq hv => hFG q (List.mem_append_left _ hv) hq
  obtain ⟨t1, t2⟩ := flat_takeIA 2 Cs i hC (by omega)
  refine ⟨_, FB (.slice (some ⟨g, 0, none⟩) (l.length + 1) cap) ++ (Fs.take i ++ (G :: Fs.drop i)).flatten, rfl, ⟨Cs.take i ++ (C :: Cs.drop i), Fs.take i ++ (G :: Fs.drop i), by simp; omega, by simp; omega, fun k hk => ?_, ?_, ?_⟩, ?_, ?_, k2⟩
  · rw [getD_insA Cs C i k (by omega), getD_insA Fs G i k (by omega)]
    rcases get_insA l o i k hi hk with ⟨h, hlt', e⟩ | ⟨rfl, e⟩ | ⟨h, hlt', e⟩
    · rw [e, if_pos hlt', if_pos hlt']
      exact ⟨(e3 k h).1, (e3 k h).2.frm k2 (fun q hq => hFd q (mem_flat hq))⟩
    · rw [e, if_neg (Nat.lt_irrefl _), if_pos rfl, if_neg (Nat.lt_irrefl _), if_pos rfl]
      exact ⟨owc_lenA ho, ho.frm k2 hGd⟩
    · rw [e, if_neg (by omega), if_neg (by omega), if_neg (by omega), if_neg (by omega)]
      exact ⟨(e3 _ h).1, (e3 _ h).2.frm k2 (fun q hq => hFd q (mem_flat hq))⟩
  · have e : (l.take i ++ (o :: l.drop i)).length = l.length + 1 := by simp; omega
    rw [e, List.flatten_append, List.flatten_cons, t1, t2]
    exact k1
  · have e : (l.take i ++ (o :: l.drop i)).length = l.length + 1 := by simp; omega
    rfl
  · refine List.nodup_append.2 ⟨FB_nodup _, flat_ins_nodupA (List.nodup_append.1 hN).2.1 hG (fun q hq => hFG q (List.mem_append_right _ hq)), fun a ha b hb e => ?_⟩
    have ea : a = g := by simpa [FB, Value.ownBlock] using ha
    subst e
    subst ea
    rcases flat_ins_memA.1 hb with hb | hb
    · rcases k3 with k3 | k3
      · exact hFd a hb (by simp [FB, k3])
      · have := hlt a (List.mem_append_right _ hb); omega
    · rcases k3 with k3 | k3
      · exact hGd a hb (by simp [FB, k3])
      · obtain ⟨kk, nn, _, a1, a2, rfl⟩ := ho
        have : a < w.heap.size := by
          rcases List.mem_append.1 hb with hb | hb
          · exact (a1.rng a hb).2
          · exact (a2.rng a hb).2
        omega
  · intro q hq
    rcases List.mem_append.1 hq with hq | hq
    · have eq : q = g := by simpa [FB, Value.ownBlock] using hq
      subst eq
      rcases k3 with k3 | k3
      · exact .inl (List.mem_append_left _ (by simp [FB, k3]))
      · exact .inr (.inr ⟨k3, k4⟩)
    · rcases flat_ins_memA.1 hq with hq | hq
      · exact .inl (List.mem_append_right _ hq)
      · exact .inr (.inl hq)
end Go.Proofs.YtnfafchajjclaaaGreatDoor

/- Strings are in the order of their bytes. No program. -/
namespace Go.Proofs.YtnfafchajjclaaaGreatDoor
open Go.RowKit
set_option linter.unusedVariables false

theorem u8_lt {x y : Int} (hx : 0 ≤ x ∧ x ≤ 255) (hy : 0 ≤ y ∧ y ≤ 255) : (UInt8.ofNat x.toNat < UInt8.ofNat y.toNat) ↔ x < y := by
  rw [UInt8.lt_iff_toNat_lt]
  simp only [UInt8.toNat_ofNat']
  omega
theorem strL_less : ∀ (a b : List Int), okB a → okB b → Op.bytesLess (a.map fun n => UInt8.ofNat n.toNat) (b.map fun n => UInt8.ofNat n.toNat) = klB a b
  | [], [], _, _ => rfl
  | [], _ :: _, _, _ => rfl
  | _ :: _, [], _, _ => rfl
  | x :: a, y :: b, ha, hb => by
    have hx := ha x (by simp)
    have hy := hb y (by simp)
    have ih := strL_less a b (fun z hz => ha z (by simp [hz])) (fun z hz => hb z (by simp [hz]))
    simp only [List.map_cons]
    unfold Op.bytesLess klB
    rw [ih]
    have h1 := u8_lt hx hy
    have h2 := u8_lt hy hx
    by_cases e : x = y
    · subst e; simp
    · have e2 : ¬ UInt8.ofNat x.toNat = UInt8.ofNat y.toNat := fun h => by
        have h3 : ¬ UInt8.ofNat x.toNat < UInt8.ofNat y.toNat := by rw [h]; exact UInt8.lt_irrefl _
        have h4 : ¬ UInt8.ofNat y.toNat < UInt8.ofNat x.toNat := by rw [h]; exact UInt8.lt_irrefl _
        rw [h1] at h3
        rw [h2] at h4
        omega
      by_cases hl : x < y
      · simp [h1.2 hl, e, hl]
      · have h5 : ¬ UInt8.ofNat x.toNat < UInt8.ofNat y.toNat := fun h => hl (h1.1 h)
        simp [h5, e, hl, e2]
theorem str_less {a b : List Int} (ha : okB a) (hb : okB b) : Op.bytesLess (str a).toList (str b).toList = klB a b := by
  rw [toList_data, toList_data, str_list, str_list]
  exact strL_less a b ha hb
end Go.Proofs.YtnfafchajjclaaaGreatDoor

/- Attributes in the order of their names; one set or taken away. Mathematics. No function of the program. -/
namespace Go.Proofs.YtnfafchajjclaaaGreatDoor
open Go.RowKit
set_option linter.unusedVariables false

theorem klB_trans : ∀ {a b c : List Int}, klB a b = true → klB b c = true → klB a c = true
  | [], _, [], h, k => by
    rename_i b
    cases b with
    | nil => cases h
    | cons y b => cases k
  | [], _, _ :: _, _, _ => rfl
  | x :: a, [], _, h, _ => by cases h
  | x :: a, y :: b, [], _, k => by cases k
  | x :: a, y :: b, z :: c, h, k => by
    unfold klB at h k ⊢
    by_cases e1 : x = y
    · subst e1
      rw [if_pos rfl] at h
      by_cases e2 : x = z
      · rw [if_pos e2] at k ⊢
        exact klB_trans h k
      · rw [if_neg e2] at k ⊢
        exact k
    · rw [if_neg e1] at h
      have h' := of_decide_eq_true h
      by_cases e2 : y = z
      · subst e2
        rw [if_neg e1]
        exact h
      · rw [if_neg e2] at k
        have k' := of_decide_eq_true k
        rw [if_neg (by omega)]
        exact decide_eq_true (by omega)
theorem kl_cmp {a b : List Int} (ha : okB a) (hb : okB b) : decide (cmpB a b < 0) = klB a b := by
  rw [← lessB_cmp]
  exact str_less ha hb
theorem compare_zero : ∀ (a b : List UInt8), Lib.compareBytes a b = 0 ↔ a = b
  | [], [] => by simp [Lib.compareBytes]
  | [], _ :: _ => by simp [Lib.compareBytes]
  | _ :: _, [] => by simp [Lib.compareBytes]
  | x :: a, y :: b => by
    have ih := compare_zero a b
    unfold Lib.compareBytes
    by_cases h1 : x < y
    · have hne : ¬ x = y := fun e => by subst e; exact absurd h1 (UInt8.lt_irrefl _)
      simp [h1, hne]
    · by_cases h2 : y < x
      · have hne : ¬ x = y := fun e => by subst e; exact h1 h2
        simp [h1, h2, hne]
      · have he : x = y := UInt8.le_antisymm (UInt8.not_lt.1 h2) (UInt8.not_lt.1 h1)
        subst he
        simp [h1, ih]
theorem bytesOf_inj : ∀ {a b : List Int}, okB a → okB b → Lib.bytesOf a = Lib.bytesOf b → a = b
  | [], [], _, _, _ => rfl
  | [], _ :: _, _, _, h => by cases h
  | _ :: _, [], _, _, h => by cases h
  | x :: a, y :: b, ha, hb, h => by
    unfold Lib.bytesOf at h
    simp only [List.map_cons, List.cons.injEq] at h
    have hx := ha x (List.mem_cons_self ..)
    have hy := hb y (List.mem_cons_self ..)
    have e : x = y := by
      have h1 := congrArg UInt8.toNat h.1
      simp at h1
      omega
    rw [e, bytesOf_inj (fun z hz => ha z (List.mem_cons_of_mem _ hz)) (fun z hz => hb z (List.mem_cons_of_mem _ hz)) h.2]
theorem cmp_zero {a b : List Int} (ha : okB a) (hb : okB b) : (cmpB a b == 0) = decide (a = b) := by
  have h := compare_zero (Lib.bytesOf a) (Lib.bytesOf b)
  by_cases e : a = b
  · rw [decide_eq_true e]
    have : cmpB a b = 0 := h.2 (by rw [e])
    simp [this]
  · rw [decide_eq_false e]
    have : cmpB a b ≠ 0 := fun h' => e (bytesOf_inj ha hb (h.1 h'))
    simpa using this
abbrev AtV := List Int × List Int
def aheadA (n : List Int) (x : AtV) : Bool := klB x.1 n
def posA (l : List AtV) (n : List Int) : Nat := (l.takeWhile (aheadA n)).length
def thereA (l : List AtV) (n : List Int) : Bool := if h : posA l n < l.length then decide (l[posA l n].1 = n) else false
def SrtA (l : List AtV) : Prop := l.Pairwise (fun a b => klB a.1 b.1 = true)
theorem SrtA.lt {l : List AtV} (h : SrtA l) {i j : Nat} (hij : i < j) (hj : j < l.length) : klB l[i].1 l[j].1 = true := List.pairwise_iff_getElem.1 h i j (by omega) hj hij
theorem aheadA_down {l : List AtV} (h : SrtA l) {n : List Int} {i j : Nat} (hij : i ≤ j) (hj : j < l.length) (ha : aheadA n l[j] = true) : aheadA n l[i] = true := by
  rcases Nat.lt_or_eq_of_le hij with e | e
  · exact klB_trans (h.lt e hj) ha
  · subst e; exact ha
theorem posA_of {l : List AtV} {n : List Int} {i : Nat} (hi : i ≤ l.length) (h1 : ∀ k (hk : k < l.length), k < i → aheadA n l[k] = true) (h2 : ∀ hk : i < l.length, aheadA n l[i] = false) : posA l n = i := by
  unfold posA
  induction l generalizing i with
  | nil => simp at hi; subst hi; rfl
  | cons p l ih =>
    cases i with
    | zero =>
      have := h2 (by simp)
      simp only [List.getElem_cons_zero] at this
      rw [List.takeWhile_cons, if_neg (by rw [this]; decide)]
      rfl
    | succ i =>
      have h0 := h1 0 (by simp) (by omega)
      simp only [List.getElem_cons_zero] at h0
      rw [List.takeWhile_cons, if_pos h0, List.length_cons]
      rw [ih (i := i) (by simpa using hi) (fun k hk hki => by have := h1 (k + 1) (by simpa using hk) (by omega); simpa using this) (fun hk => by have := h2 (by simpa using hk); simpa using this)]
theorem posA_le (l : List AtV) (n : List Int) : posA l n ≤ l.length := (List.takeWhile_prefix _).length_le
theorem setA_true (n t : List Int) : ∀ (l : List AtV), (∀ x ∈ l, x.1 ≠ n) → setA n t true l = l
  | [], _ => rfl
  | a :: r, h => by
    have ha := h a (List.mem_cons_self ..)
    unfold setA
    simp only [Bool.not_true, Bool.false_and, if_neg ha, Bool.true_or]
    rw [setA_true n t r (fun x hx => h x (List.mem_cons_of_mem _ hx))]
    simp
theorem posA_cons (a : AtV) (r : List AtV) (n : List Int) : posA (a :: r) n = if klB a.1 n = true then posA r n + 1 else 0 := by
  unfold posA
  rw [List.takeWhile_cons]
  by_cases h : klB a.1 n = true
  · rw [if_pos (show aheadA n a = true from h), if_pos h, List.length_cons]
  · rw [if_neg (show ¬ aheadA n a = true from h), if_neg h]; rfl
theorem thereA_cons (a : AtV) (r : List AtV) (n : List Int) : thereA (a :: r) n = if klB a.1 n = true then thereA r n else decide (a.1 = n) := by
  unfold thereA
  have hp := posA_cons a r n
  by_cases h : klB a.1 n = true
  · rw [if_pos h] at hp ⊢
    by_cases h2 : posA r n < r.length
    · rw [dif_pos (by rw [hp]; simpa using h2), dif_pos h2]
      simp only [hp, List.getElem_cons_succ]
    · rw [dif_neg (by rw [hp]; simpa using h2), dif_neg h2]
  · rw [if_neg h] at hp ⊢
    rw [dif_pos (by rw [hp]; simp)]
    simp only [hp, List.getElem_cons_zero]
/-- What the specification makes of a sorted row. -/
theorem setA_eq (n t : List Int) (gone : Bool) : ∀ (l : List AtV), SrtA l → setA n t gone l = l.take (posA l n) ++ ((if gone = true then [] else [(n, t)]) ++ (if thereA l n = true then l.drop (posA l n + 1) else l.drop (posA l n)))
  | [], _ => by
    unfold setA
    cases gone <;> simp [thereA, posA]
  | a :: r, h => by
    obtain ⟨ha, hr⟩ := List.pairwise_cons.1 h
    have ih := setA_eq n t gone r hr
    rw [posA_cons, thereA_cons]
    unfold setA
    by_cases hk : klB a.1 n = true
    · have hne : a.1 ≠ n := fun e => by rw [e, klB_irr] at hk; cases hk
      simp only [hk, Bool.not_true, Bool.and_false, Bool.or_false, if_neg hne, if_true, ih]
      simp
    · have hk' : klB a.1 n = false := by simpa using hk
      have hall : ∀ x ∈ r, x.1 ≠ n := fun x hx e => by have := ha x hx; rw [e] at this; exact hk this
      simp only [hk', Bool.not_false, Bool.and_true, Bool.or_true, setA_true n t r hall]
      by_cases e : a.1 = n
      · cases gone <;> simp [e]
      · cases gone <;> simp [e]
/-- What the program makes of it. -/
def chgI (l : List AtV) (o : OpV) : List AtV :=
  if thereA l o.name = true then (if o.gone = true then l.take (posA l o.name) ++ l.drop (posA l o.name + 1) else l.set (posA l o.name) (o.name, o.text))
  else if o.gone = true then l else if l.length = 4 then l else l.take (posA l o.name) ++ ((o.name, o.text) :: l.drop (posA l o.name))
theorem thereA_at {l : List AtV} {n : List Int} (h : thereA l n = true) : ∃ hp : posA l n < l.length, l[posA l n].1 = n := by
  unfold thereA at h
  by_cases hp : posA l n < l.length
  · rw [dif_pos hp] at h
    exact ⟨hp, of_decide_eq_true h⟩
  · rw [dif_neg hp] at h; cases h
theorem chg_eq {l : List AtV} (h : SrtA l) (hl : l.length ≤ 4) (o : OpV) : setAttrs l o = chgI l o := by
  have hp := posA_le l o.name
  unfold setAttrs chgI
  rw [setA_eq _ _ _ l h]
  by_cases ht : thereA l o.name = true
  · obtain ⟨hlt, he⟩ := thereA_at ht
    simp only [ht, if_true]
    by_cases hg : o.gone = true
    · simp only [hg, if_true, List.nil_append]
      rw [if_pos (by simp; omega)]
    · simp only [hg]
      rw [if_pos (by simp; omega)]
      simp only [Bool.false_eq_true, if_false]
      rw [List.set_eq_take_append_cons_drop, if_pos hlt]
      simp
  · simp only [ht]
    by_cases hg : o.gone = true
    · simp only [hg, if_true, List.nil_append, Bool.false_eq_true, if_false, List.take_append_drop]
      rw [if_pos hl]
    · simp only [hg, Bool.false_eq_true, if_false]
      by_cases h4 : l.length = 4
      · rw [if_pos h4, if_neg (by simp; omega)]
      · rw [if_neg h4, if_pos (by simp; omega)]
        simp
end Go.Proofs.YtnfafchajjclaaaGreatDoor

/- slices.Delete of one attribute out of a row of the call's own. -/
namespace Go.Proofs.YtnfafchajjclaaaGreatDoor
open Go.RowKit
set_option linter.unusedVariables false
set_option maxRecDepth 100000

theorem splice_len {α : Type} (L cs : List α) (o : Nat) (h : o + cs.length ≤ L.length) : (splice L o cs).length = L.length := by unfold splice; simp; omega
theorem splice_take {α : Type} (L cs : List α) (o : Nat) (h : o + cs.length ≤ L.length) : (splice L o cs).take o = L.take o := by
  unfold splice
  rw [List.take_append_of_le_length (by simp; omega), List.take_take, Nat.min_self]
theorem splice_takeC {α : Type} (L cs : List α) (o : Nat) (h : o + cs.length ≤ L.length) : (splice L o cs).take (o + cs.length) = L.take o ++ cs := by
  unfold splice
  rw [← List.append_assoc, List.take_append_of_le_length (by simp; omega), List.take_of_length_le (by simp; omega)]
/-- append where there is room, the row's block known whole. -/
theorem run_app_in {P : Program} (w : World) (t ty e : TypeId) (i : TypeInfo) (s g n cap : Nat) (ht : P.underlying t = some (.slice e)) (hi : P.info? e = some i) (hs : i.size = s) (cur : List Value) (T : TypeId) (hg : Loc w g cur.toArray T)
    (ad : Addr) (m c : Nat) (cs : List Value) (hcl : cs.length = m * s) (hsrc : ∀ j v, cs[j]? = some v → w.cell? (ad.add j) = some v) (hroom : n + m ≤ cap) (hfit : n * s + cs.length ≤ cur.length) (h1 : ∀ v ∈ cs, v.oneCell' = true) :
    (Builtin.append_ #[t, t] ty #[.slice (some ⟨g, 0, none⟩) n cap, .slice (some ad) m c]).run P w = .ok (.slice (some ⟨g, 0, none⟩) (n + m) cap) (w.setRow g (splice cur (n * s) cs).toArray) := by
  subst hs
  have hfc := run_firstCells_some (P := P) w i.size m ad m c cs hcl hsrc
  have hst := run_storeCells_at P g (n * i.size) T cs 0 cur.toArray w hg (by simpa using hfit) h1
  simp [Builtin.append_, run_underlying ht, sizeOf, typeInfo, hi, Builtin.lenOf, hroom, hfc, Addr.add_lit]
  simp at hst
  rw [hst]
  simp [splice]
theorem step_app_in {P : Program} {w : World} {ops : Array Oper} {o : Oper} {a : Act} {K : Act → World → Prop} {Q : Exit → Act → World → Prop} {E : Prop} (hgd : o.guard = none) (x1 x2 : Operand) (t : TypeId)
    (ho : o.op = .call { callee := .builtin .append, args := #[x1, x2], argTypes := #[t, t] }) (e : TypeId) (i : TypeInfo) (s g n cap : Nat) (ht : P.underlying t = some (.slice e)) (hi : P.info? e = some i) (hs : i.size = s) (cur : List Value) (T : TypeId) (hg : Loc w g cur.toArray T)
    (ad : Addr) (m c : Nat) (cs : List Value) (hcl : cs.length = m * s) (hsrc : ∀ j v, cs[j]? = some v → w.cell? (ad.add j) = some v) (hroom : n + m ≤ cap) (hfit : n * s + cs.length ≤ cur.length) (h1 : ∀ v ∈ cs, v.oneCell' = true)
    (he1 : a.eval x1 = .slice (some ⟨g, 0, none⟩) n cap) (he2 : a.eval x2 = .slice (some ad) m c)
    (h : ∀ w', Hid (Loc w' g (splice cur (n * s) cs).toArray T) → Frm w w' [g] → K (a.put o.dst (.slice (some ⟨g, 0, none⟩) (n + m) cap)) w') : if Region.wanted o (yielded ops a.tmps) = true then Oper.wp P o a w K Q else E := by
  have hw : Region.wanted o (yielded ops a.tmps) = true := by simp [Region.wanted, hgd]
  rw [if_pos hw]
  have hrun := run_app_in (P := P) w t o.type e i s g n cap ht hi hs cur T hg ad m c cs hcl hsrc hroom hfit h1
  unfold Oper.wp
  simp [execOp, ho, resolve, invoke, builtin, he1, he2, hrun, Result.andThen]
  exact h _ (show _ = _ by simpa [splice] using setRow_heap w g _ _ T _ hg) (setRow_frm _ _ _)
theorem run_clear1 (w : World) (ty : TypeId) (g off c : Nat) (cur : List Value) (T : TypeId) (hg : Loc w g cur.toArray T) (hfit : off + 2 ≤ cur.length) :
    ∃ w', (Builtin.clear_ #[35] ty #[.slice (some ⟨g, off, none⟩) 1 c]).run Tryz.prog w = .ok (.tuple #[]) w' ∧ Loc w' g (splice cur off [.slice none 0 0, .slice none 0 0]).toArray T ∧ Frm w w' [g] := by
  have hst := run_storeCells_at Tryz.prog g off T [.slice none 0 0, .slice none 0 0] 0 cur.toArray w hg (by simpa using hfit) (by intro v hv; simp at hv; rw [hv]; rfl)
  have hv : ∀ w, (zeroValue 108).run Tryz.prog w = .ok (.agg #[.slice none 0 0, .slice none 0 0]) w := fun _ => by kernel_rfl
  have hzc : (Builtin.zeroCells (Value.agg #[.slice none 0 0, .slice none 0 0]).cells 1) = #[.slice none 0 0, .slice none 0 0] := by kernel_rfl
  refine ⟨w.setRow g (splice cur off [.slice none 0 0, .slice none 0 0]).toArray, ?_, (show _ = _ by simpa [splice] using setRow_heap w g _ _ T _ hg), setRow_frm _ _ _⟩
  simp [Builtin.clear_, run_underlying Tryz.underlying35, hv, hzc]
  simp at hst
  rw [hst]
  simp [splice]
set_option maxHeartbeats 6400000 in
theorem del_row (w : World) (g n cap i : Nat) (R : List Value) (hg : Loc w g R.toArray 108) (hn : n ≤ 100000) (hnc : n ≤ cap) (hcm : cap ≤ maxLen) (hR : R.length = cap * 2) (h1 : ∀ u ∈ R.take (n * 2), u.oneCell' = true) (hi : i < n) :
    Calls Tryz.prog 115 #[.slice (some ⟨g, 0, none⟩) n cap, .int .i64 (i : Int), .int .i64 ((i : Int) + 1)] w fun e w' => e = .returned (.slice (some ⟨g, 0, none⟩) (n - 1) cap) ∧ (∃ R' : List Value, Loc w' g R'.toArray 108 ∧ R'.length = cap * 2 ∧ R'.take ((n - 1) * 2) = R.take (i * 2) ++ (R.take (n * 2)).drop ((i + 1) * 2)) ∧ Frm w w' [g] := by
  refine calls_via ?_
  intro Q HQ
  obtain ⟨i0, hi0, hz0, hz1, hz2⟩ := info_parts Tryz.info108
  have hi1 : (0 : Int) ≤ (i : Int) := by omega
  have hi2 : (i : Int) + 1 ≤ (n : Int) := by omega
  have hi3 : (n : Int) ≤ (cap : Int) := by omega
  have hne : ((i : Int) == (i : Int) + 1) = false := by simp; omega
  obtain ⟨cs, hcs⟩ : ∃ cs, cs = (R.take (n * 2)).drop ((i + 1) * 2) := ⟨_, rfl⟩
  have hcl : cs.length = (n - (i + 1)) * 2 := by rw [hcs, List.length_drop, List.length_take, Nat.min_eq_left (by rw [hR]; exact Nat.mul_le_mul_right _ hnc), Nat.sub_mul]
  have hc1 : ∀ v ∈ cs, v.oneCell' = true := fun v hv => h1 v (List.mem_of_mem_drop (by rw [← hcs]; exact hv))
  have hgd : Loc w.drew g R.toArray 108 := hg.all ((Below.refl _ _).drew)
  have hfit : i * 2 + cs.length ≤ R.length := by rw [hcl, hR]; omega
  have hic : i ≤ cap := by omega
  have hic1 : i + 1 ≤ n := by omega
  have hic2 : i + 1 ≤ cap := by omega
  have hi4 : (0 : Int) ≤ (i : Int) + 1 := by omega
  by_cases hce : cap = i + 1
  · obtain rfl : n = i + 1 := by omega
    subst hce
    have hii : i ≤ i + 1 := by omega
    have hk1 : (i : Int) ≤ (i : Int) + 1 := by omega
    clear hfit hcl hcs hc1 cs
    go_enter Tryz.func115, Tryz.ntmps115
    go_wp2_with fail
    go_region_law (refine step_app_in rfl _ _ 35 rfl 108 i0 2 g i (i + 1) Tryz.underlying35 hi0 hz1 R 108 hgd ⟨g, 0, none⟩ 0 0 [] rfl (fun j v h => by simp at h) (by omega) (by rw [hR]; simp; omega) (fun v h => by cases h) (by simp [Act.eval, Act.put]) (by simp [Act.eval, Act.put]) ?_; intro w5 H5 f5)
    have HF5 := hide f5
    clear f5
    have hkd : i + 1 - i = 1 := by omega
    have hkcap : ¬ i + 1 = i := by omega
    have HL5 : Loc w5 g (splice R (i * 2) []).toArray 108 := unhide H5
    have hsl : (splice R (i * 2) []).length = (i + 1) * 2 := by rw [splice_len _ _ _ (by simp [hR]; omega), hR]
    obtain ⟨w6, hrun6, H6, f6⟩ := run_clear1 w5 0 g (i * 2) 1 _ _ HL5 (by rw [hsl]; omega)
    have H6 := hide H6
    have HE := hide (unhide HQ (.returned (.slice (some ⟨g, 0, none⟩) i (i + 1))) w6 ⟨rfl, ⟨splice (splice R (i * 2) []) (i * 2) [.slice none 0 0, .slice none 0 0], unhide H6, by rw [splice_len _ _ _ (by rw [hsl]; simp; omega), hsl], by rw [show (i + 1 - 1) * 2 = i * 2 by omega, splice_take _ _ _ (by rw [hsl]; simp; omega), splice_take _ _ _ (by simp [hR]; omega), List.drop_of_length_le (by rw [List.length_take]; omega), List.append_nil]⟩, ((Frm.ofBelow ((Below.refl _ _).drew) _).trans (unhide HF5)).trans f6⟩)
    clear HQ H6 f6 HF5 H5 HL5
    go_wp2_with fail
    exact unhide HE
  · have hsrc : ∀ j v, cs[j]? = some v → w.drew.cell? ((⟨g, (i + 1) * 2, none⟩ : Addr).add j) = some v := fun j v hj => by
      have hlt : j < cs.length := (List.getElem?_eq_some_iff.1 hj).1
      rw [add_plain, hgd.cell]
      rw [hcs, List.getElem?_drop, List.getElem?_take, if_pos (by rw [hcl] at hlt; omega)] at hj
      simpa using hj
    go_enter Tryz.func115, Tryz.ntmps115
    go_wp2_with fail
    go_region_law (refine step_app_in rfl _ _ 35 rfl 108 i0 2 g i cap Tryz.underlying35 hi0 hz1 R 108 hgd ⟨g, (i + 1) * 2, none⟩ (n - (i + 1)) (cap - (i + 1)) cs hcl hsrc (by omega) hfit hc1 (by simp [Act.eval, Act.put]) (by simp [Act.eval, Act.put, *]) ?_; intro w5 H5 f5)
    have HF5 := hide f5
    clear f5 hsrc
    generalize hk : i + (n - (i + 1)) = k
    have hkn : k + 1 = n := by omega
    have HK := hide hk
    clear hk
    have hk1 : (k : Int) ≤ (n : Int) := by omega
    have hk0 : (0 : Int) ≤ (k : Int) := by omega
    have hkc : k ≤ n := by omega
    have hkd : n - k = 1 := by omega
    have hkcap : ¬ cap = k := by omega
    have HKN := hide hkn
    have HL5 : Loc w5 g (splice R (i * 2) cs).toArray 108 := unhide H5
    have hsl : (splice R (i * 2) cs).length = cap * 2 := by rw [splice_len _ _ _ hfit, hR]
    clear hkn
    obtain ⟨w6, hrun6, H6, f6⟩ := run_clear1 w5 0 g (k * 2) (cap - k) _ _ HL5 (by rw [hsl]; have := unhide HKN; omega)
    have H6 := hide H6
    have hsub : n - 1 = k := by have := unhide HKN; omega
    have HE := hide (unhide HQ (.returned (.slice (some ⟨g, 0, none⟩) k cap)) w6 ⟨by rw [hsub], ⟨splice (splice R (i * 2) cs) (k * 2) [.slice none 0 0, .slice none 0 0], unhide H6, by rw [splice_len _ _ _ (by rw [hsl]; simp; have := unhide HKN; omega), hsl], by rw [hsub, splice_take _ _ _ (by rw [hsl]; simp; have := unhide HKN; omega), show k * 2 = i * 2 + cs.length by rw [hcl]; have := unhide HKN; omega, splice_takeC _ _ _ hfit, ← hcs]⟩, ((Frm.ofBelow ((Below.refl _ _).drew) _).trans (unhide HF5)).trans f6⟩)
    clear HQ H6 f6 HF5 H5 HL5
    go_wp2_with fail
    exact unhide HE
end Go.Proofs.YtnfafchajjclaaaGreatDoor

/- One element of a row of the call's own: its cells, and what the row is once they have changed. No function of the program. -/
namespace Go.Proofs.YtnfafchajjclaaaGreatDoor
open Go.RowKit
set_option linter.unusedVariables false
set_option maxRecDepth 100000

theorem OwElems.one {α : Type} {R : World → List Value → α → List Nat → Prop} (hRf : ∀ {w w' : World} {S : List Nat} {C : List Value} {x : α} {G : List Nat}, R w C x G → Frm w w' S → (∀ g ∈ G, g ∉ S) → R w' C x G)
    {w : World} {T : TypeId} {size g cap : Nat} {l : List α} {F : List Nat} (h : OwElems w T size (.slice (some ⟨g, 0, none⟩) l.length cap) l (R w) F) (hN : F.Nodup) (k : Nat) (hk : k < l.length) :
    ∃ Cs C G, RowJ w T size g l.length cap Cs k C ∧ R w C l[k] G ∧ G.Nodup ∧ (∀ q ∈ G, q ∈ F) ∧ g ∈ F ∧ g ∉ G ∧
      ∀ (w' : World) (S : List Nat) (D : List Value) (p' : α) (G' : List Nat), RowJ w' T size g l.length cap Cs k D → Frm w w' S → (∀ q ∈ F, q ∉ G → q ≠ g → q ∉ S) → R w' D p' G' → G'.Nodup → (∀ q ∈ G', q ∈ G ∨ q ∉ F) →
        ∃ F', OwElems w' T size (.slice (some ⟨g, 0, none⟩) (l.set k p').length cap) (l.set k p') (R w') F' ∧ F'.Nodup ∧ ∀ q ∈ F', q ∈ F ∨ q ∈ G' := by
  obtain ⟨Cs, Fs, e1, e2, e3, e4, rfl⟩ := h
  have hC : ∀ i, i < Cs.length → (Cs.getD i []).length = size := fun i hi => (e3 i (by omega)).1
  have hgF : g ∉ Fs.flatten := fun hq => (List.nodup_append.1 hN).2.2 g (by simp [FB, Value.ownBlock]) g hq rfl
  have hNf := (List.nodup_append.1 hN).2.1
  refine ⟨Cs, Cs.getD k [], Fs.getD k [], RowJ.start e1 hC k hk e4, (e3 k hk).2, nodup_at hNf, fun q hq => List.mem_append_right _ (mem_flat hq), by simp [FB, Value.ownBlock], fun hq => hgF (mem_flat hq), ?_⟩
  intro w' S D p' G' hR f hS hp hGN hG'
  have hgG : g ∉ G' := fun hq => by
    rcases hG' g hq with h1 | h1
    · exact hgF (mem_flat h1)
    · exact h1 (by simp [FB, Value.ownBlock])
  refine ⟨FB (.slice (some ⟨g, 0, none⟩) l.length cap) ++ (Fs.set k G').flatten, ⟨Cs.set k D, Fs.set k G', by simp [e1], by simp [e2], fun i hi => ?_, ?_, ?_⟩, ?_, ?_⟩
  · have hi' : i < l.length := by simpa using hi
    by_cases e : i = k
    · subst e
      rw [getD_set_at _ _ _ (by omega), getD_set_at _ _ _ (by omega), List.getElem_set_self]
      exact ⟨hR.lenD, hp⟩
    · rw [getD_set_ne _ _ _ _ e, getD_set_ne _ _ _ _ e, List.getElem_set_ne (Ne.symm e)]
      exact ⟨(e3 i hi').1, hRf (e3 i hi').2 f (fun q hq => hS q (List.mem_append_right _ (mem_flat hq)) (nodup_flat hNf e q hq) (fun e9 => hgF (by rw [← e9]; exact mem_flat hq)))⟩
  · rw [List.length_set]
    exact hR.row
  · rw [List.length_set]
  · refine List.nodup_append.2 ⟨FB_nodup _, flat_upd_nodup hNf hGN (fun q hq => (hG' q hq).imp id (fun h1 h2 => h1 (List.mem_append_right _ h2))), fun a ha b hb e => ?_⟩
    have ea : a = g := by simpa [FB, Value.ownBlock] using ha
    subst e
    subst ea
    rcases flat_upd_mem hb with hb | hb
    · exact hgF hb
    · exact hgG hb
  · intro q hq
    rcases List.mem_append.1 hq with hq | hq
    · exact .inl (List.mem_append_left _ hq)
    · rcases flat_upd_mem hq with hq | hq
      · exact .inl (List.mem_append_right _ hq)
      · exact .inr hq
theorem flat_cut_mem {Fs : List (List Nat)} {i q : Nat} (h : q ∈ (Fs.eraseIdx i).flatten) : q ∈ Fs.flatten := by
  obtain ⟨G, hG, hq⟩ := List.mem_flatten.1 h
  exact List.mem_flatten.2 ⟨G, List.mem_of_mem_eraseIdx hG, hq⟩
theorem flat_cut_nodup : ∀ {Fs : List (List Nat)} {i : Nat}, Fs.flatten.Nodup → (Fs.eraseIdx i).flatten.Nodup
  | [], _, h => by simp
  | A :: r, 0, h => by
    rw [List.flatten_cons] at h
    exact (List.nodup_append.1 h).2.1
  | A :: r, i + 1, h => by
    rw [List.flatten_cons] at h
    obtain ⟨h1, h2, h3⟩ := List.nodup_append.1 h
    rw [List.eraseIdx_cons_succ, List.flatten_cons]
    exact List.nodup_append.2 ⟨h1, flat_cut_nodup h2, fun a ha b hb => h3 a ha b (flat_cut_mem hb)⟩
theorem getD_cut {α : Type} (l : List (List α)) (i k : Nat) : (l.eraseIdx i).getD k [] = if k < i then l.getD k [] else l.getD (k + 1) [] := by
  simp only [List.getD_eq_getElem?_getD, List.getElem?_eraseIdx]
  split <;> rfl
/-- slices.Delete of one attribute. -/
theorem delA_any (w : World) (v : Value) (l : List AtV) (F : List Nat) (i : Nat) (h : OwAttrs w v l F) (hN : F.Nodup) (hi : i < l.length) (hn : l.length ≤ 100000) :
    Calls Tryz.prog 115 #[v, .int .i64 (i : Int), .int .i64 ((i : Int) + 1)] w fun e w' => ∃ u F', e = .returned u ∧ OwAttrs w' u (l.eraseIdx i) F' ∧ F'.Nodup ∧ (∀ q ∈ F', q ∈ F) ∧ Frm w w' (FB v) := by
  obtain ⟨Cs, Fs, e1, e2, e3, e4, rfl⟩ := h
  obtain ⟨g, cap, rfl, _, _⟩ := e4.form (by omega)
  obtain ⟨R, hg, hnc, hcm, hR, htk⟩ := own_wholeA e4
  have hC : ∀ i, i < Cs.length → (Cs.getD i []).length = 2 := fun i hi => (e3 i (by omega)).1
  have hx1 : ∀ u ∈ Cs.flatten, u.oneCell' = true := by
    intro u hu
    obtain ⟨D, hD, hu⟩ := List.mem_flatten.1 hu
    obtain ⟨k, hk, rfl⟩ := List.getElem_of_mem hD
    have e' : Cs.getD k [] = Cs[k] := by simp [List.getD_eq_getElem?_getD, hk]
    have := (e3 k (by omega)).2
    rw [e'] at this
    exact owc_oneA this u hu
  have hgF : g ∉ Fs.flatten := fun hq => (List.nodup_append.1 hN).2.2 g (by simp [FB, Value.ownBlock]) g hq rfl
  have hNf := (List.nodup_append.1 hN).2.1
  refine (del_row w g l.length cap i R hg hn hnc hcm hR (by rw [htk]; exact hx1) hi).mono ?_
  rintro e w' ⟨rfl, ⟨R', hg', hR', htk'⟩, f⟩
  have hll : (l.eraseIdx i).length = l.length - 1 := by rw [List.length_eraseIdx, if_pos hi]
  obtain ⟨t1, _⟩ := flat_takeIA 2 Cs i hC (by omega)
  obtain ⟨_, t2⟩ := flat_takeIA 2 Cs (i + 1) hC (by omega)
  have hrow : w'.ownsRow 0 108 2 (.slice (some ⟨g, 0, none⟩) (l.length - 1) cap) (l.length - 1) (Cs.eraseIdx i).flatten := by
    refine own_makeA hg' (by omega) hcm hR' ?_
    rw [htk', htk, List.eraseIdx_eq_take_drop_succ, List.flatten_append, t1, t2, ← htk, List.take_take, Nat.min_eq_left (by omega)]
  refine ⟨_, FB (.slice (some ⟨g, 0, none⟩) (l.length - 1) cap) ++ (Fs.eraseIdx i).flatten, rfl, ⟨Cs.eraseIdx i, Fs.eraseIdx i, ?_, ?_, fun k hk => ?_, ?_, ?_⟩, ?_, ?_, f⟩
  · rw [hll, List.length_eraseIdx, if_pos (by omega), e1]
  · rw [hll, List.length_eraseIdx, if_pos (by omega), e2]
  · rw [getD_cut, getD_cut, List.getElem_eraseIdx]
    have hk' : k < l.length - 1 := by omega
    by_cases hki : k < i
    · simp only [hki, if_true, dite_true]
      exact ⟨(e3 k (by omega)).1, OwAttr.frm (e3 k (by omega)).2 f (fun q hq e => by simp at e; subst e; exact hgF (mem_flat hq))⟩
    · simp only [hki, if_false, dite_false]
      exact ⟨(e3 (k + 1) (by omega)).1, OwAttr.frm (e3 (k + 1) (by omega)).2 f (fun q hq e => by simp at e; subst e; exact hgF (mem_flat hq))⟩
  · rw [hll]; exact hrow
  · rfl
  · refine List.nodup_append.2 ⟨FB_nodup _, flat_cut_nodup hNf, fun a ha b hb e => ?_⟩
    have ea : a = g := by simpa [FB, Value.ownBlock] using ha
    subst e
    subst ea
    exact hgF (flat_cut_mem hb)
  · intro q hq
    rcases List.mem_append.1 hq with hq | hq
    · exact List.mem_append_left _ hq
    · exact List.mem_append_right _ (flat_cut_mem hq)
end Go.Proofs.YtnfafchajjclaaaGreatDoor

/- A place of the forest, changed. No function of the program. -/
namespace Go.Proofs.YtnfafchajjclaaaGreatDoor
open Go.RowKit Go.Maps
set_option linter.unusedVariables false
set_option maxRecDepth 100000

theorem FoS.upd {B : Nat} {w : World} {g mb gr c : Nat} {l : List PlV} {F : List Nat} (h : FoS B w g mb (some ⟨gr, 0, none⟩) c l F) {k : Nat} (hk : k < l.length) :
    ∃ Cs C G, RowJ w 107 9 gr l.length c Cs k C ∧ OwPlM w C l[k] G ∧ G.Nodup ∧ (∀ q ∈ G, q ∈ F) ∧ gr ∈ F ∧ gr ∉ G ∧
      ∀ (w' : World) (S : List Nat) (D : List Value) (p' : PlV) (G' : List Nat), RowJ w' 107 9 gr l.length c Cs k D → Frm w w' S → (∀ q ∈ S, q = gr ∨ q ∈ G) → OwPlM w' D p' G' → G'.Nodup → (∀ q ∈ G', q ∈ G ∨ (q ∉ F ∧ B ≤ q)) → p'.id = l[k].id → okI p'.par →
        ∃ F', FoS B w' g mb (some ⟨gr, 0, none⟩) c (l.set k p') F' ∧ ∀ q ∈ F', q ∈ F ∨ q ∈ G' := by
  obtain ⟨Cs, C, G, hR, hC, hGN, hGF, hgF, hgG, hcl⟩ := OwElems.one (R := OwPlM) (fun h f d => OwPlM.frm h f d) h.row h.nd k hk
  refine ⟨Cs, C, G, hR, hC, hGN, hGF, hgF, hgG, ?_⟩
  intro w' S D p' G' hR' f hS hp hN' hG' hid hpar
  have hlt := OwPlsM.lt h.row
  have hSF : ∀ q ∈ S, q ∈ F := fun q hq => by
    rcases hS q hq with e | e
    · rw [e]; exact hgF
    · exact hGF q e
  obtain ⟨F', g1, g2, g3⟩ := hcl w' S D p' G' hR' f (fun q _ hq1 hq2 hq3 => by rcases hS q hq3 with e | e; (exact hq2 e); (exact hq1 e)) hp hN' (fun q hq => (hG' q hq).imp id (fun h1 => h1.1))
  have g4 := g3
  have hget : l[k]? = some l[k] := by simp [hk]
  refine ⟨F', ⟨?_, ?_, g1, g2, fun q hq => ?_, h.geg, h.gem, fun q hq => ?_, by rw [List.length_set]; exact h.len⟩, g4⟩
  · rw [List.length_set]
    exact h.set.frm f (fun e => h.gF (hSF g e)) (fun q hq => .inr (OwPlsM.typ h.row q (hSF q hq)).cells)
  · exact (h.map.frm f (fun e => h.mF (hSF mb e))).ids (ids_set hget hid).symm
  · rcases g4 q hq with e | e
    · exact h.ge q e
    · rcases hG' q e with e | e
      · exact h.ge q (hGF q e)
      · exact e.2
  · rcases List.mem_or_eq_of_mem_set hq with e | e
    · exact h.ids q e
    · rw [e]
      exact ⟨by rw [hid]; exact (h.ids l[k] (List.getElem_mem hk)).1, hpar⟩
theorem nd_swap {X T T' Y : List Nat} (h : (X ++ T ++ Y).Nodup) (hT : T'.Nodup) (hd : ∀ q ∈ T', q ∉ X ++ T ++ Y) : (X ++ T' ++ Y).Nodup := by
  rw [List.append_assoc] at h ⊢
  obtain ⟨h1, h2, h3⟩ := List.nodup_append.1 h
  obtain ⟨h4, h5, h6⟩ := List.nodup_append.1 h2
  refine List.nodup_append.2 ⟨h1, List.nodup_append.2 ⟨hT, h5, fun a ha b hb e => hd a ha (by rw [e]; exact List.mem_append_right _ hb)⟩, fun a ha b hb e => ?_⟩
  rcases List.mem_append.1 hb with hb | hb
  · exact hd b hb (by rw [← e]; exact List.mem_append_left _ (List.mem_append_left _ ha))
  · exact h3 a ha b (List.mem_append_right _ hb) e
theorem doV_none {l : List PlV} {o : OpV} (h0 : o.kind ≠ 0) (hp : posP l o.node = none) : doV l o = l := by
  unfold doV
  rw [if_neg h0, hp]
theorem doV_some {l : List PlV} {o : OpV} {k : Nat} (h0 : o.kind ≠ 0) (hp : posP l o.node = some k) (hk : k < l.length) : doV l o = if o.kind = 1 then (if mayMove l o k then l.set k (moveP o l[k]) else l) else if o.kind = 2 then (if 2 ≤ k ∧ l[k].kind = 1 then l.set k (textP o l[k]) else l) else (if k ≠ 1 ∧ l[k].kind = 0 then l.set k (attrP o l[k]) else l) := by
  unfold doV
  rw [if_neg h0, hp]
  simp only [List.getElem?_eq_getElem hk]
end Go.Proofs.YtnfafchajjclaaaGreatDoor

/- 'append(rows, x)': one element behind a row of elements that owns its memory. -/
namespace Go.Proofs.YtnfafchajjclaaaGreatDoor
open Go.RowKit
set_option linter.unusedVariables false

/-- A row of elements with one more behind it. -/
theorem OwElems.push {α : Type} {R : World → List Value → α → List Nat → Prop} (hRf : ∀ {w w' : World} {S : List Nat} {C : List Value} {x : α} {G : List Nat}, R w C x G → Frm w w' S → (∀ g ∈ G, g ∉ S) → R w' C x G)
    {w w' : World} {e : TypeId} {size : Nat} {v : Value} {l : List α} {Cs : List (List Value)} {Fs : List (List Nat)} {C : List Value} {y : α} {G : List Nat} {g cap : Nat}
    (h1 : Cs.length = l.length) (h2 : Fs.length = l.length) (h3 : ∀ i (hi : i < l.length), (Cs.getD i []).length = size ∧ R w (Cs.getD i []) l[i] (Fs.getD i []))
    (hN : (FB v ++ Fs.flatten).Nodup) (hC : C.length = size) (hy : R w C y G) (hGN : G.Nodup) (hFG : ∀ g ∈ FB v ++ Fs.flatten, g ∉ G) (hlt : ∀ q, q ∈ FB v ++ Fs.flatten ∨ q ∈ G → q < w.heap.size)
    (k1 : w'.ownsRow 0 e size (.slice (some ⟨g, 0, none⟩) (l.length + 1) cap) (l.length + 1) (Cs.flatten ++ C)) (k2 : w.grownBy w' v.ownBlock) (k3 : v.ownBlock = some g ∨ g = w.heap.size) :
    OwElems w' e size (.slice (some ⟨g, 0, none⟩) (l.length + 1) cap) (l ++ [y]) (R w') (g :: (Fs.flatten ++ G)) ∧ (g :: (Fs.flatten ++ G)).Nodup ∧ (∀ q ∈ g :: (Fs.flatten ++ G), q ∈ FB v ++ Fs.flatten ∨ q ∈ G ∨ q = w.heap.size) := by
  have hFd : ∀ q ∈ Fs.flatten, q ∉ v.ownBlock.toList := fun q hq hv => (List.nodup_append.1 hN).2.2 q (by simpa [FB] using hv) q hq rfl
  have hGd : ∀ q ∈ G, q ∉ v.ownBlock.toList := fun q hq hv => hFG q (List.mem_append_left _ (by simpa [FB] using hv)) hq
  have hf := Frm.ofGrown k2
  refine ⟨⟨Cs ++ [C], Fs ++ [G], by simp [h1], by simp [h2], fun i hi => ?_, ?_, ?_⟩, ?_, ?_⟩
  · by_cases hil : i < l.length
    · have a := h3 i hil
      have e1 : (Cs ++ [C]).getD i [] = Cs.getD i [] := by rw [List.getD_eq_getElem?_getD, List.getD_eq_getElem?_getD, List.getElem?_append_left (by omega)]
      have e2 : (Fs ++ [G]).getD i [] = Fs.getD i [] := by rw [List.getD_eq_getElem?_getD, List.getD_eq_getElem?_getD, List.getElem?_append_left (by omega)]
      rw [e1, e2, List.getElem_append_left hil]
      exact ⟨a.1, hRf a.2 hf (fun q hq => hFd q (mem_flat hq))⟩
    · have e0 : i = l.length := by simp at hi; omega
      subst e0
      have e1 : (Cs ++ [C]).getD l.length [] = C := by rw [← h1]; simp
      have e2 : (Fs ++ [G]).getD l.length [] = G := by rw [← h2]; simp
      rw [e1, e2]
      simp only [List.getElem_concat_length]
      exact ⟨hC, hRf hy hf hGd⟩
  · simp only [List.length_append, List.length_cons, List.length_nil, List.flatten_append, List.flatten_cons, List.flatten_nil, List.append_nil]
    exact k1
  · simp [FB, Value.ownBlock]
  · rw [List.nodup_cons]
    refine ⟨fun hq => ?_, List.nodup_append.2 ⟨(List.nodup_append.1 hN).2.1, hGN, fun a ha b hb hab => hFG a (List.mem_append_right _ ha) (hab ▸ hb)⟩⟩
    rcases List.mem_append.1 hq with hq | hq
    · rcases k3 with k3 | k3
      · exact hFd g hq (by simp [k3])
      · have := hlt g (.inl (List.mem_append_right _ hq)); omega
    · rcases k3 with k3 | k3
      · exact hGd g hq (by simp [k3])
      · have := hlt g (.inr hq); omega
  · intro q hq
    rcases List.mem_cons.1 hq with rfl | hq
    · rcases k3 with k3 | k3
      · exact .inl (List.mem_append_left _ (by simp [FB, k3]))
      · exact .inr (.inr k3)
    · rcases List.mem_append.1 hq with hq | hq
      · exact .inl (List.mem_append_right _ hq)
      · exact .inr (.inl hq)

/-- 'append(rows, x)' at the list of a plain region's operations. -/
theorem wpList_push {α : Type} {R : World → List Value → α → List Nat → Prop} (hRf : ∀ {w w' : World} {S : List Nat} {C : List Value} {x : α} {G : List Nat}, R w C x G → Frm w w' S → (∀ g ∈ G, g ∉ S) → R w' C x G)
    {w : World} {ops : Array Oper} {rest : List Oper} {o : Oper} {a : Act} {Q : Exit → Act → World → Prop} (hgd : o.guard = none) (s x : Operand) (t : TypeId)
    (ho : o.op = .call { callee := .builtin .append, args := #[s, x], argTypes := #[t, t] })
    (e : TypeId) (i : TypeInfo) (z : Value) (size bytes : Nat) (ht : Tryz.prog.underlying t = some (.slice e)) (hi : Tryz.prog.info? e = some i) (hz : i.zero = some z)
    (hsize : i.size = size) (hby : i.bytes = bytes) (hzs : z.cells.size = size) (hsz : 0 < size)
    (v : Value) (l : List α) (F : List Nat) (hs : a.eval s = v) (h : OwElems w e size v l (R w) F) (hN : F.Nodup)
    (ad : Addr) (c : Nat) (C : List Value) (y : α) (G : List Nat) (hx : a.eval x = .slice (some ad) 1 c) (hC : C.length = size) (hcell : ∀ j u, C[j]? = some u → w.cell? (ad.add j) = some u) (h1 : ∀ u ∈ C, u.oneCell' = true)
    (hy : R w C y G) (hGN : G.Nodup) (hFG : ∀ g ∈ F, g ∉ G) (hlt : ∀ q, q ∈ F ∨ q ∈ G → q < w.heap.size) (h63 : l.length + 1 ≤ maxLen) (hbytes : (l.length + 1) * bytes ≤ 140737488355328)
    (hK : ∀ g cap w' F', OwElems w' e size (.slice (some ⟨g, 0, none⟩) (l.length + 1) cap) (l ++ [y]) (R w') F' → F'.Nodup → (∀ q ∈ F', q ∈ F ∨ q ∈ G ∨ q = w.heap.size) → Frm w w' (FB v) → g < w'.heap.size → wpList Tryz.prog ops Q rest (a.put o.dst (.slice (some ⟨g, 0, none⟩) (l.length + 1) cap)) w') : wpList Tryz.prog ops Q (o :: rest) a w := by
  obtain ⟨Cs, Fs, e1, e2, e3, e4, rfl⟩ := h
  refine wpList_append_lies w hgd s x t ho 0 e i z size bytes ht hi hz hsize hby hzs hsz v l.length Cs.flatten hs e4 ad 1 c C hx (by omega) hcell h1 (by omega) h63 hbytes (Nat.zero_le _) w.heap.size rfl ?_
  intro g cap w' k1 k2 k3 k4
  obtain ⟨m1, m2, m3⟩ := OwElems.push (R := R) hRf e1 e2 e3 hN hC hy hGN hFG hlt k1 k2 k3
  exact hK g cap w' _ m1 m2 m3 (Frm.ofGrown k2) k4

/-- 'append(rows, x)' as one step of a region that draws its order. -/
theorem step_push {α : Type} {R : World → List Value → α → List Nat → Prop} (hRf : ∀ {w w' : World} {S : List Nat} {C : List Value} {x : α} {G : List Nat}, R w C x G → Frm w w' S → (∀ g ∈ G, g ∉ S) → R w' C x G)
    {w : World} {ops : Array Oper} {o : Oper} {a : Act} {K : Act → World → Prop} {Q : Exit → Act → World → Prop} {E : Prop} (hgd : o.guard = none) (s x : Operand) (t : TypeId)
    (ho : o.op = .call { callee := .builtin .append, args := #[s, x], argTypes := #[t, t] })
    (e : TypeId) (i : TypeInfo) (z : Value) (size bytes : Nat) (ht : Tryz.prog.underlying t = some (.slice e)) (hi : Tryz.prog.info? e = some i) (hz : i.zero = some z)
    (hsize : i.size = size) (hby : i.bytes = bytes) (hzs : z.cells.size = size) (hsz : 0 < size)
    (v : Value) (l : List α) (F : List Nat) (hs : a.eval s = v) (h : OwElems w e size v l (R w) F) (hN : F.Nodup)
    (ad : Addr) (c : Nat) (C : List Value) (y : α) (G : List Nat) (hx : a.eval x = .slice (some ad) 1 c) (hC : C.length = size) (hcell : ∀ j u, C[j]? = some u → w.cell? (ad.add j) = some u) (h1 : ∀ u ∈ C, u.oneCell' = true)
    (hy : R w C y G) (hGN : G.Nodup) (hFG : ∀ g ∈ F, g ∉ G) (hlt : ∀ q, q ∈ F ∨ q ∈ G → q < w.heap.size) (h63 : l.length + 1 ≤ maxLen) (hbytes : (l.length + 1) * bytes ≤ 140737488355328)
    (hK : ∀ g cap w' F', OwElems w' e size (.slice (some ⟨g, 0, none⟩) (l.length + 1) cap) (l ++ [y]) (R w') F' → F'.Nodup → (∀ q ∈ F', q ∈ F ∨ q ∈ G ∨ q = w.heap.size) → Frm w w' (FB v) → g < w'.heap.size → K (a.put o.dst (.slice (some ⟨g, 0, none⟩) (l.length + 1) cap)) w') : if Region.wanted o (yielded ops a.tmps) = true then Oper.wp Tryz.prog o a w K Q else E := by
  obtain ⟨Cs, Fs, e1, e2, e3, e4, rfl⟩ := h
  refine step_append_lies w hgd s x t ho 0 e i z size bytes ht hi hz hsize hby hzs hsz v l.length Cs.flatten hs e4 ad 1 c C hx (by omega) hcell h1 (by omega) h63 hbytes (Nat.zero_le _) w.heap.size rfl ?_
  intro g cap w' k1 k2 k3 k4
  obtain ⟨m1, m2, m3⟩ := OwElems.push (R := R) hRf e1 e2 e3 hN hC hy hGN hFG hlt k1 k2 k3
  exact hK g cap w' _ m1 m2 m3 (Frm.ofGrown k2) k4
end Go.Proofs.YtnfafchajjclaaaGreatDoor
