/- Own texts joined: GrowT, MkD, StepC, L2dr, SpoilX, L3draw, AppM, Zn. -/
import Derived.Test.YtaoodcielfabdaaGreatJa
import Derived.Test.YtaoodcielfabdaaGreatJb
import Derived.Deep.Cut
import Derived.Deep.RegionLaw
import Derived.Shelf.Abstract
import Derived.Deep.RegionHeld3
import Derived.Deep.CutRange
import Derived.Deep.CutBlock

/- A tree that spec.l2draw draws, as it grows. -/
namespace Go.Proofs.YtaoodcielfabdaaGreat
open Go.RowKit
set_option linter.unusedVariables false
set_option maxRecDepth 100000

def SmT : (n : Nat) → Tr n → Prop
  | 0 => fun _ => True
  | n + 1 => fun t => t.name.length ≤ 8 ∧ t.text.length ≤ 8 ∧ t.attrs.length ≤ 3 ∧ SmA t.attrs ∧ t.kids.length ≤ 3 ∧ ∀ k ∈ t.kids, SmT n k
/-- A drawn tree: its five values, its blocks from B on. -/
def DrNode (d B : Nat) (w : World) (C : List Value) : Prop := ∃ (t : Tr d) (F : List Nat), OwNodeM d w C t F ∧ F.Nodup ∧ Rng F B w.heap.size ∧ SmT d t
def DrSaid (d : Nat) : Prop := ∀ (w0 w : World) (g : Nat) (code : Value) (l : List Int), Cur w0 w g code l → Calls Tryz.prog 75 #[.pointer (some ⟨g, 0, none⟩), .int .i64 d] w fun e w' => ∃ k p1 n1 c1 p2 n2 c2 p3 n3 c3 p4 n4 c4, e = .returned (.agg #[.int .i64 k, .slice p1 n1 c1, .slice p2 n2 c2, .slice p3 n3 c3, .slice p4 n4 c4]) ∧ DrNode (d + 1) w.heap.size w' [.int .i64 k, .slice p1 n1 c1, .slice p2 n2 c2, .slice p3 n3 c3, .slice p4 n4 c4] ∧ Cur w0 w' g code l ∧ w.grownBy w' (some g)
/-- What the loop keeps of the tree that grows in the box b5. -/
def Grow (d g B b4 b5 : Nat) (w0 w wr : World) (code : Value) (l : List Int) (pn : Option Addr) (cn : Nat) (nm : List Int) (pa : Option Addr) (ca : Nat) (at_ : List (List Int × List Int)) (j : Nat) (ka : Option Addr) (kc : Nat) (kids : List (Tr d)) : Prop :=
  ∃ Fa Fk, Loc wr b4 #[.int .i64 0, .slice none 0 0, .slice none 0 0, .slice none 0 0, .slice none 0 0] 26 ∧ Loc wr b5 #[.int .i64 0, .slice pn nm.length cn, .slice none 0 0, .slice pa at_.length ca, .slice ka kids.length kc] 26 ∧ RowM wr 0 (.slice pn nm.length cn) nm ∧ OwAttrsM wr (.slice pa at_.length ca) at_ Fa ∧ OwKidsM d wr (.slice ka kids.length kc) kids Fk ∧ (FB (.slice pn nm.length cn) ++ Fa ++ Fk).Nodup ∧ (∀ q ∈ FB (.slice pn nm.length cn) ++ Fa ++ Fk, B ≤ q ∧ q < wr.heap.size ∧ q ≠ b4 ∧ q ≠ b5) ∧ nm.length ≤ 8 ∧ at_.length ≤ 3 ∧ SmA at_ ∧ kids.length ≤ j ∧ (∀ k ∈ kids, SmT d k) ∧ Cur w0 wr g code l ∧ w.grownBy wr (some g)

theorem five' {w : World} {g : Nat} {a b c d e : Value} {T : TypeId} (h : Loc w g #[a, b, c, d, e] T) :
    w.cell? ⟨g, 0, none⟩ = some a ∧ w.cell? ⟨g, 1, none⟩ = some b ∧ w.cell? ⟨g, 2, none⟩ = some c ∧ w.cell? ⟨g, 3, none⟩ = some d ∧ w.cell? ⟨g, 4, none⟩ = some e :=
  ⟨h.cell 0, h.cell 1, h.cell 2, h.cell 3, h.cell 4⟩
theorem Grow.by {d g B b4 b5 : Nat} {w0 w wr w' : World} {code : Value} {l : List Int} {pn : Option Addr} {cn : Nat} {nm : List Int} {pa : Option Addr} {ca : Nat} {at_ : List (List Int × List Int)} {j : Nat} {ka : Option Addr} {kc : Nat} {kids : List (Tr d)}
    (h : Grow d g B b4 b5 w0 w wr code l pn cn nm pa ca at_ j ka kc kids) (hgB : g < B ∧ g ≠ b4 ∧ g ≠ b5) (hC : Cur w0 w' g code l) (hG : wr.grownBy w' (some g)) : Grow d g B b4 b5 w0 w w' code l pn cn nm pa ca at_ j ka kc kids := by
  obtain ⟨Fa, Fk, h1, h2, h3, h4, h5, h6, h7, h8, h9, h10, h11, h12, h13, h14⟩ := h
  have hf := Frm.ofGrown hG
  have hn : ∀ q ∈ FB (.slice pn nm.length cn) ++ Fa ++ Fk, q ∉ (some g).toList := fun q hq e => by have := (h7 q hq).1; simp at e; omega
  exact ⟨Fa, Fk, h1.frm hf (by simp; omega), h2.frm hf (by simp; omega), h3.frm hf (fun q hq => hn q (by simp [hq])), OwAttrsM.frm h4 hf (fun q hq => hn q (by simp [hq])), OwKidsM.frm h5 hf (fun q hq => hn q (by simp [hq])), h6, fun q hq => ⟨(h7 q hq).1, Nat.lt_of_lt_of_le (h7 q hq).2.1 hG.size, (h7 q hq).2.2⟩, h8, h9, h10, h11, h12, hC, grown_trans h14 hG⟩
theorem Frm.toGrown' {w w' : World} {b : Nat} (f : Frm w w' [b]) : w.grownBy w' (some b) := ⟨f.os, f.tape, f.output, f.size, fun k hk hn => f.block k hk (fun e => hn (by simp at e; rw [e]))⟩
theorem Cur.set' {w0 w w' : World} {g S : Nat} {code : Value} {l : List Int} (h : Cur w0 w g code l) (hs : w.grownBy w' (some S)) (hne : g ≠ S) (hn : w0.heap.size ≤ S) : Cur w0 w' g code l := h.keep hs (by simp; exact hne) (fun k hk => by cases hk; exact hn)
theorem box5 {w : World} {po : Nat} {z0 z1 z2 z3 z4 : Value} {T : TypeId} (h : Loc w po #[z0, z1, z2, z3, z4] T) (a b c d e : Value) :
    Loc (((((w.setCell ⟨po, 0, none⟩ a).setCell ⟨po, 1, none⟩ b).setCell ⟨po, 2, none⟩ c).setCell ⟨po, 3, none⟩ d).setCell ⟨po, 4, none⟩ e) po #[a, b, c, d, e] T ∧ Frm w (((((w.setCell ⟨po, 0, none⟩ a).setCell ⟨po, 1, none⟩ b).setCell ⟨po, 2, none⟩ c).setCell ⟨po, 3, none⟩ d).setCell ⟨po, 4, none⟩ e) [po] :=
  ⟨((((h.set 0 a).set 1 b).set 2 c).set 3 d).set 4 e, ((((set_frm _ _ _ _).trans (set_frm _ _ _ _)).trans (set_frm _ _ _ _)).trans (set_frm _ _ _ _)).trans (set_frm _ _ _ _)⟩
theorem Grow.fin {d g B b4 b5 : Nat} {w0 w wr : World} {code : Value} {l : List Int} {pn : Option Addr} {cn : Nat} {nm : List Int} {pa : Option Addr} {ca : Nat} {at_ : List (List Int × List Int)} {j : Nat} {ka : Option Addr} {kc : Nat} {kids : List (Tr d)}
    (h : Grow d g B b4 b5 w0 w wr code l pn cn nm pa ca at_ j ka kc kids) (hB : w.heap.size ≤ B) (hb4 : b4 = w.heap.size) (hg4 : g ≠ b4) (hn4 : w0.heap.size ≤ b4) (hj : j ≤ 3) : DrNode (d + 1) w.heap.size (((((wr.setCell ⟨b4, 0, none⟩ (.int .i64 0)).setCell ⟨b4, 1, none⟩ (.slice pn nm.length cn)).setCell ⟨b4, 2, none⟩ (.slice none 0 0)).setCell ⟨b4, 3, none⟩ (.slice pa at_.length ca)).setCell ⟨b4, 4, none⟩ (.slice ka kids.length kc)) [.int .i64 0, .slice pn nm.length cn, .slice none 0 0, .slice pa at_.length ca, .slice ka kids.length kc] ∧ Cur w0 (((((wr.setCell ⟨b4, 0, none⟩ (.int .i64 0)).setCell ⟨b4, 1, none⟩ (.slice pn nm.length cn)).setCell ⟨b4, 2, none⟩ (.slice none 0 0)).setCell ⟨b4, 3, none⟩ (.slice pa at_.length ca)).setCell ⟨b4, 4, none⟩ (.slice ka kids.length kc)) g code l ∧ w.grownBy (((((wr.setCell ⟨b4, 0, none⟩ (.int .i64 0)).setCell ⟨b4, 1, none⟩ (.slice pn nm.length cn)).setCell ⟨b4, 2, none⟩ (.slice none 0 0)).setCell ⟨b4, 3, none⟩ (.slice pa at_.length ca)).setCell ⟨b4, 4, none⟩ (.slice ka kids.length kc)) (some g) ∧ Loc (((((wr.setCell ⟨b4, 0, none⟩ (.int .i64 0)).setCell ⟨b4, 1, none⟩ (.slice pn nm.length cn)).setCell ⟨b4, 2, none⟩ (.slice none 0 0)).setCell ⟨b4, 3, none⟩ (.slice pa at_.length ca)).setCell ⟨b4, 4, none⟩ (.slice ka kids.length kc)) b4 #[.int .i64 0, .slice pn nm.length cn, .slice none 0 0, .slice pa at_.length ca, .slice ka kids.length kc] 26 := by
  obtain ⟨Fa, Fk, h1, h2, h3, h4, h5, h6, h7, h8, h9, h10, h11, h12, h13, h14⟩ := h
  obtain ⟨s1, s2⟩ := box5 h1 (.int .i64 0) (.slice pn nm.length cn) (.slice none 0 0) (.slice pa at_.length ca) (.slice ka kids.length kc)
  have hn : ∀ q ∈ FB (.slice pn nm.length cn) ++ Fa ++ Fk, q ∉ [b4] := fun q hq e => by have := (h7 q hq).2.2.1; simp at e; omega
  refine ⟨⟨(⟨0, nm, [], at_, kids⟩ : Nd (Tr d)), FB (.slice pn nm.length cn) ++ FB (.slice none 0 0) ++ Fa ++ Fk, ⟨_, _, _, _, Fa, Fk, rfl, (by show (-9223372036854775808 : Int) ≤ 0; decide), (by show (0 : Int) ≤ 9223372036854775807; decide), h3.frm s2 (fun q hq => hn q (by simp [hq])), rowm_nil _ _, OwAttrsM.frm h4 s2 (fun q hq => hn q (by simp [hq])), OwKidsM.frm h5 s2 (fun q hq => hn q (by simp [hq])), rfl⟩, ?_, ?_, ⟨h8, by simp, h9, h10, by show kids.length ≤ 3; omega, h12⟩⟩, h13.set' (Frm.toGrown' s2) hg4 hn4, grown_new h14 (Frm.toGrown' s2) (fun q hq => by cases hq; omega), s1⟩
  · simpa [FB, Value.ownBlock] using h6
  · intro q hq
    have := s2.size
    have := h7 q (by simpa [FB, Value.ownBlock] using hq)
    omega

theorem OwNodeM.text {d : Nat} {w : World} {v : Value} {l : List Int} (k : Int) (hk0 : -9223372036854775808 ≤ k) (hk1 : k ≤ 9223372036854775807) (h : RowM w 0 v l) : OwNodeM (d + 1) w [.int .i64 k, .slice none 0 0, v, .slice none 0 0, .slice none 0 0] (⟨k, [], l, [], []⟩ : Nd (Tr d)) (FB v) :=
  ⟨_, _, _, _, [], [], rfl, hk0, hk1, rowm_nil _ _, h, OwAttrsM.nil _, OwKidsM.nil _ _, by simp [FB, Value.ownBlock]⟩
theorem OwNodeM.lt {n : Nat} {w : World} {C : List Value} {t : Tr n} {F : List Nat} (h : OwNodeM n w C t F) : ∀ g ∈ F, g < w.heap.size := by
  induction n generalizing C F with
  | zero => exact h.elim
  | succ n ih =>
    obtain ⟨a, b, c, d, Fc, Fd, e, k1, k2, h1, h2, h3, h4, rfl⟩ := h
    intro g hg
    simp only [List.mem_append] at hg
    rcases hg with ((h | h) | h) | h
    · exact (h1.lt g (by simpa [FB] using h)).2
    · exact (h2.lt g (by simpa [FB] using h)).2
    · exact OwElems.ltM h3 (fun _ _ _ hr => hr.lt) g h
    · exact OwElems.ltM h4 (fun _ _ _ hr => ih hr) g h
/-- The type's row of the program's table. -/
theorem nd_info' : (Tryz.prog.info? 26).map (fun i => (i.zero, i.size, i.bytes)) = some (some (.agg #[.int .i64 0, .slice none 0 0, .slice none 0 0, .slice none 0 0, .slice none 0 0]), 5, 104) := by kernel_rfl
theorem txt_kid (d : Nat) (h0 : 0 < d) {w : World} {v : Value} {l : List Int} (h : RowM w 0 v l) (h8 : l.length ≤ 8) : ∃ t : Tr d, OwNodeM d w [.int .i64 1, .slice none 0 0, v, .slice none 0 0, .slice none 0 0] t (FB v) ∧ SmT d t := by
  cases d with
  | zero => omega
  | succ d => exact ⟨(⟨1, [], l, [], []⟩ : Nd (Tr d)), OwNodeM.text 1 (by decide) (by decide) h, by simp, h8, by simp, (fun x hx => by simp at hx), by simp, (fun k hk => by simp at hk)⟩
theorem dr_pred (d : Nat) (hd : d ≤ 4) (h0 : 0 < d) (IH : ∀ d', d = d' + 1 → DrSaid d') (w0 w : World) (g : Nat) (code : Value) (l : List Int) (h : Cur w0 w g code l) : Calls Tryz.prog 75 #[.pointer (some ⟨g, 0, none⟩), .int .i64 (IntKind.i64.wrap ((d : Int) - 1))] w fun e w' => ∃ k p1 n1 c1 p2 n2 c2 p3 n3 c3 p4 n4 c4, e = .returned (.agg #[.int .i64 k, .slice p1 n1 c1, .slice p2 n2 c2, .slice p3 n3 c3, .slice p4 n4 c4]) ∧ DrNode d w.heap.size w' [.int .i64 k, .slice p1 n1 c1, .slice p2 n2 c2, .slice p3 n3 c3, .slice p4 n4 c4] ∧ Cur w0 w' g code l ∧ w.grownBy w' (some g) := by
  cases d with
  | zero => omega
  | succ d =>
    have e : IntKind.i64.wrap (((d + 1 : Nat) : Int) - 1) = (d : Int) := by rw [IntKind.wrap_i64]; omega
    rw [e]
    exact IH d rfl w0 w g code l h
/-- One kid more. -/
theorem Grow.push {d g B b4 b5 : Nat} {w0 w wr : World} {code : Value} {l : List Int} {pn : Option Addr} {cn : Nat} {nm : List Int} {pa : Option Addr} {ca : Nat} {at_ : List (List Int × List Int)} {j : Nat} {ka : Option Addr} {kc : Nat} {kids : List (Tr d)}
    (h : Grow d g B b4 b5 w0 w wr code l pn cn nm pa ca at_ j ka kc kids) (hgB : g < B ∧ g ≠ b4 ∧ g ≠ b5) (hwB : w.heap.size ≤ B) (hb45 : b4 ≠ b5) (hn5 : w0.heap.size ≤ b5) (hw5 : w.heap.size ≤ b5) (hBr : B ≤ wr.heap.size) :
    ∃ Fk, OwKidsM d wr (.slice ka kids.length kc) kids Fk ∧ Fk.Nodup ∧ (∀ q ∈ Fk, B ≤ q ∧ q < wr.heap.size ∧ q ≠ b4 ∧ q ≠ b5) ∧ Loc wr b5 #[.int .i64 0, .slice pn nm.length cn, .slice none 0 0, .slice pa at_.length ca, .slice ka kids.length kc] 26 ∧ (∀ q ∈ FB (.slice ka kids.length kc), q ∈ Fk) ∧
      ∀ (x : Tr d) (w9 : World) (g9 cap9 n9 : Nat) (F9 : List Nat), SmT d x → n9 = kids.length + 1 → Frm wr w9 (g :: FB (.slice ka kids.length kc)) → Cur w0 w9 g code l → OwKidsM d w9 (.slice (some ⟨g9, 0, none⟩) n9 cap9) (kids ++ [x]) F9 → F9.Nodup → (∀ q ∈ F9, (q ∈ Fk ∨ wr.heap.size ≤ q) ∧ q < w9.heap.size) →
        Grow d g B b4 b5 w0 w (w9.setCell ⟨b5, 4, none⟩ (.slice (some ⟨g9, 0, none⟩) n9 cap9)) code l pn cn nm pa ca at_ (j + 1) (some ⟨g9, 0, none⟩) cap9 (kids ++ [x]) := by
  obtain ⟨Fa, Fk, h1, h2, h3, h4, h5, h6, h7, h8, h9, h10, h11, h12, h13, h14⟩ := h
  obtain ⟨nd1, nd2, nd3⟩ := List.nodup_append.1 h6
  have hkv : ∀ q ∈ FB (.slice ka kids.length kc), q ∈ Fk := fun q hq => by obtain ⟨_, _, _, _, _, _, rfl⟩ := h5; exact List.mem_append_left _ hq
  refine ⟨Fk, h5, nd2, fun q hq => h7 q (List.mem_append_right _ hq), h2, hkv, ?_⟩
  intro x w9 g9 cap9 n9 F9 hx hn9 f hC hK hN hF
  have f2 := set_frm w9 b5 4 (.slice (some ⟨g9, 0, none⟩) n9 cap9)
  have l4 := h1.lt
  have l5 := h2.lt
  have hnS : ∀ q ∈ FB (.slice pn nm.length cn) ++ Fa, q ∉ g :: FB (.slice ka kids.length kc) := fun q hq e => by
    rcases List.mem_cons.1 e with rfl | e
    · have := (h7 q (List.mem_append_left _ hq)).1; omega
    · exact nd3 q hq q (hkv q e) rfl
  have hb5 : ∀ q ∈ FB (.slice pn nm.length cn) ++ Fa, q ∉ [b5] := fun q hq e => by have := (h7 q (List.mem_append_left _ hq)).2.2.2; simp at e; exact this e
  have hbS : ∀ b, b ≠ g → (b = b4 ∨ b = b5) → b ∉ g :: FB (.slice ka kids.length kc) := fun b hb hb' e => by
    rcases List.mem_cons.1 e with e | e
    · exact hb e
    · have := (h7 b (List.mem_append_right _ (hkv b e))).2.2; omega
  have f9 : ∀ q ∈ F9, q ∉ [b5] := fun q hq e => by
    simp at e
    subst e
    rcases (hF q hq).1 with h | h
    · exact (h7 q (List.mem_append_right _ h)).2.2.2 rfl
    · omega
  refine ⟨Fa, F9, (h1.frm f (hbS b4 (by omega) (.inl rfl))).other b5 4 _ hb45, ?_, (h3.frm f (fun q hq => hnS q (by simp [hq]))).frm f2 (fun q hq => hb5 q (by simp [hq])), OwAttrsM.frm (OwAttrsM.frm h4 f (fun q hq => hnS q (by simp [hq]))) f2 (fun q hq => hb5 q (by simp [hq])), ?_, ?_, ?_, h8, h9, h10, by simp; omega, ?_, hC.set' (Frm.toGrown' f2) (by omega) hn5, ?_⟩
  · have := (h2.frm f (hbS b5 (by omega) (.inr rfl))).set 4 (.slice (some ⟨g9, 0, none⟩) n9 cap9)
    subst hn9
    simpa using this
  · have := OwKidsM.frm hK f2 f9
    subst hn9
    simpa using this
  · refine List.nodup_append.2 ⟨nd1, hN, fun a ha b hb e => ?_⟩
    subst e
    rcases (hF a hb).1 with h | h
    · exact nd3 a ha a h rfl
    · have := (h7 a (List.mem_append_left _ ha)).2.1; omega
  · intro q hq
    have s2 := f2.size
    have s1 := f.size
    rcases List.mem_append.1 hq with h | h
    · have := h7 q (List.mem_append_left _ h); exact ⟨this.1, by omega, this.2.2⟩
    · have h' := hF q h
      refine ⟨?_, by omega, ?_, fun e => f9 q h (by simp [e])⟩
      · rcases h'.1 with hh | hh
        · exact (h7 q (List.mem_append_right _ hh)).1
        · omega
      · intro e
        rcases h'.1 with hh | hh
        · exact (h7 q (List.mem_append_right _ hh)).2.2.1 e
        · omega
  · intro k hk
    rcases List.mem_append.1 hk with h | h
    · exact h12 k h
    · simp at h; subst h; exact hx
  · refine grown_new (row' := some b5) ?_ (Frm.toGrown' f2) (fun q hq => by cases hq; exact hw5)
    refine ⟨f.os.trans h14.os, f.tape.trans h14.tape, f.output.trans h14.output, Nat.le_trans h14.size f.size, fun k hk hne => (f.block k (Nat.lt_of_lt_of_le hk h14.size) (fun e => ?_)).trans (h14.block k hk hne)⟩
    rcases List.mem_cons.1 e with e | e
    · exact hne (by rw [e])
    · have := (h7 k (List.mem_append_right _ (hkv k e))).1; omega
end Go.Proofs.YtaoodcielfabdaaGreat

/- spec.l3markup of a tree that was drawn, behind a row of bytes that is older. -/
namespace Go.Proofs.YtaoodcielfabdaaGreat
open Go.RowKit
set_option linter.unusedVariables false
set_option maxRecDepth 100000


def blankAt (w : World) (S : List Nat) : World := { w with heap := w.heap.mapIdx (fun i o => if i ∈ S then .cells #[] 5 (0, 0) else o) }
theorem blank_size (w : World) (S : List Nat) : (blankAt w S).heap.size = w.heap.size := by simp [blankAt]
theorem blank_frm (w : World) (S : List Nat) : Frm w (blankAt w S) S := by
  refine ⟨rfl, rfl, rfl, Nat.le_of_eq (blank_size w S).symm, fun k hk hn => ?_⟩
  simp [blankAt, hn]
theorem blank_cell (w : World) (S : List Nat) (p : Addr) (hp : p.block ∈ S) : (blankAt w S).cell? p = none := by
  unfold World.cell?
  have : (blankAt w S).heap[p.block]? = (w.heap[p.block]?).map (fun _ => (.cells #[] 5 (0, 0) : Obj)) := by
    simp only [blankAt, Array.getElem?_mapIdx, hp, if_true]
  rw [this]
  cases w.heap[p.block]? with
  | none => rfl
  | some o => simp
theorem attrs_len : ∀ (l : List (List Int × List Int)), SmA l → (attrsM l).length ≤ 60 * l.length
  | [], _ => by simp [attrsM]
  | x :: l, h => by
    have h1 := attrs_len l (fun y hy => h y (List.mem_cons_of_mem _ hy))
    obtain ⟨h2, h3⟩ := h x (List.mem_cons_self ..)
    have h4 := say_len true x.2
    unfold attrsM at h1 ⊢
    simp only [List.map_cons, List.flatten_cons, List.length_append, List.length_cons, attrM, List.length_nil] at h1 ⊢
    omega
def capM : Nat → Nat
  | 0 => 0
  | n + 1 => 250 + 3 * capM n
theorem flat_len {α : Type} (f : α → List Int) (L : Nat) : ∀ (l : List α), (∀ x ∈ l, (f x).length ≤ L) → ((l.map f).flatten).length ≤ L * l.length
  | [], _ => by simp
  | x :: l, h => by
    have h1 := flat_len f L l (fun y hy => h y (List.mem_cons_of_mem _ hy))
    have h2 := h x (List.mem_cons_self ..)
    simp only [List.map_cons, List.flatten_cons, List.length_append, List.length_cons, Nat.mul_succ]
    omega
theorem mkup_len : ∀ (n : Nat) (t : Tr n), SmT n t → (mkup n t).length ≤ capM n
  | 0, t, _ => by simp [mkup]
  | n + 1, t, h => by
    obtain ⟨h1, h2, h3, h4, h5, h6⟩ := h
    rw [mkup_succ]
    have e1 := say_len false t.text
    have e2 := attrs_len t.attrs h4
    have e3 := flat_len (mkup n) (capM n) t.kids (fun k hk => mkup_len n k (h6 k hk))
    have e4 : capM n * t.kids.length ≤ capM n * 3 := Nat.mul_le_mul_left _ h5
    have e5 : capM (n + 1) = 250 + 3 * capM n := rfl
    have e6 : 60 * t.attrs.length ≤ 180 := by omega
    split
    · omega
    · by_cases hv : voidB t.name = true
      · simp only [hv, if_true, List.length_append, List.length_cons, List.length_nil]
        omega
      · rw [if_neg hv]
        simp only [List.length_append, List.length_cons, List.length_nil]
        omega
theorem Own.up {w : World} {base : Nat} {v : Value} {l : List Int} (h : Own w 0 v l) (hb : ∀ k, v.ownBlock = some k → base ≤ k) : Own w base v l := by
  refine ⟨h.1, h.2.1, ?_⟩
  rcases h.2.2 with h' | ⟨g, cap, cur, e1, h1, h2⟩
  · exact .inl h'
  · exact .inr ⟨g, cap, cur, e1, hb g (by rw [e1]; rfl), h2⟩
theorem mkdrawn_any (w : World) (base : Nat) (v : Value) (l : List Int) (n : Nat) (a b c d e : Value) (t : Tr n) (F : List Nat) (ht : OwNodeM n w [a, b, c, d, e] t F) (ho : Own w base v l) (hF : ∀ q ∈ FB v, q ∉ F) (hb : base ≤ w.heap.size) (hlen : l.length + (mkup n t).length ≤ 100000000) :
    Calls Tryz.prog 123 #[v, .agg #[a, b, c, d, e]] w fun e w' => ∃ v', e = .returned v' ∧ Own w' base v' (l ++ mkup n t) ∧ w.grownBy w' v.ownBlock := by
  have hfb : ∀ k, v.ownBlock = some k → k ∈ FB v := fun k hk => by simp [FB, hk]
  have hx : OwnX w ⟨FB v, w.heap.size⟩ v l := ⟨⟨ho.1, ownsRow_base ho.2 0 (Nat.zero_le _)⟩, fun k hk => .inl (hfb k hk)⟩
  have hrd := (ht.frm (blank_frm w (FB v)) (fun q hq e => hF q e hq)).rd
  have hlk : Lk ⟨FB v, w.heap.size⟩ (blankAt w (FB v)) w := ⟨Nat.le_of_eq (blank_size w _), fun k hk p hp => blank_cell w _ p (by rw [hp]; exact hk), Nat.le_of_eq (blank_size w _), fun k hk hn => ((blank_frm w (FB v)).block k (by rw [blank_size] at hk; exact hk) hn).symm⟩
  refine (mk_anyX n (blankAt w (FB v)) w ⟨FB v, w.heap.size⟩ v l a b c d e t hrd hlk (Nat.le_of_eq (blank_size w _)) (Nat.le_refl _) hx hlen).mono ?_
  rintro e w' ⟨v', rfl, ⟨ho', hw'⟩, hf⟩
  refine ⟨v', rfl, ho'.up (fun k hk => ?_), hf.os, hf.tape, hf.output, hf.size, fun k hk hn => ?_⟩
  · rcases hw' k hk with h | h
    · have : v.ownBlock = some k := by simpa [FB] using h
      exact ho.base_le k this
    · exact Nat.le_trans hb h
  · have := hf.block k _ (Array.getElem?_eq_getElem hk) (fun hm => by
      rcases hm.1 with h | h
      · have : v.ownBlock = some k := by simpa [FB] using h
        exact hn this.symm
      · have : w.heap.size ≤ k := h
        omega)
    rw [this, Array.getElem?_eq_getElem hk]
end Go.Proofs.YtaoodcielfabdaaGreat

/- A call of a Go function as one step of a region that draws its order, by the callee's contract. No program. -/
namespace Go.Proofs.YtaoodcielfabdaaGreat
open Go.RowKit
set_option linter.unusedVariables false

theorem step_call {P : Program} {ops : Array Oper} {o : Oper} {a : Act} {w : World} {K : Act → World → Prop} {Q : Exit → Act → World → Prop} {E : Prop} (hgd : o.guard = none) (f : FuncId) (xs : List Operand) (tys : Array TypeId)
    (ho : o.op = .call { callee := .value (.func f), args := xs.toArray, argTypes := tys }) (he : ∀ args w, (callFunc f args).run P w = .ok (.enter f args) w) (args : List Value) (hx : xs.map a.eval = args) {R : Ending → World → Prop} (hc : Calls P f args.toArray w R)
    (h : ∀ e w', R e w' → ∃ v, e = .returned v ∧ K (a.put o.dst v) w') : if Region.wanted o (yielded ops a.tmps) = true then Oper.wp P o a w K Q else E := by
  have hw : Region.wanted o (yielded ops a.tmps) = true := by simp [Region.wanted, hgd]
  rw [if_pos hw]
  subst hx
  unfold Oper.wp execOp
  simp [ho, resolve, invoke, go_sem, he]
  refine hc.mono ?_
  intro e w' hR
  obtain ⟨v, rfl, hk⟩ := h e w' hR
  exact hk
end Go.Proofs.YtaoodcielfabdaaGreat

/- spec.l2draw draws a tree. -/
namespace Go.Proofs.YtaoodcielfabdaaGreat
open Go.RowKit Go.Shelf
set_option linter.unusedVariables false
set_option maxRecDepth 100000

set_option maxHeartbeats 12800000 in
theorem l2draw_core (d : Nat) (hd : d ≤ 4) (IH : ∀ d', d = d' + 1 → DrSaid d') : DrSaid d := by
  intro w0 w g code l h
  have hgl := h.lt
  have hnew := h.new
  have hA := (Below.refl w.heap.size w).alloc (Nat.le_refl _) (.cells #[.int .i64 0, .slice none 0 0, .slice none 0 0, .slice none 0 0, .slice none 0 0] 26)
  have l4 := Loc.made w #[.int .i64 0, .slice none 0 0, .slice none 0 0, .slice none 0 0, .slice none 0 0] 26
  have hC1 := h.keepAll hA
  have hG1 : w.grownBy (w.alloc (.cells #[.int .i64 0, .slice none 0 0, .slice none 0 0, .slice none 0 0, .slice none 0 0] 26)) (some g) := Below.toGrown hA _
  have hsz : w.heap.size < (w.alloc (.cells #[.int .i64 0, .slice none 0 0, .slice none 0 0, .slice none 0 0, .slice none 0 0] 26)).heap.size := by simp
  have LL := hide (And.intro hA (And.intro l4 (And.intro hC1 (And.intro hG1 hsz))))
  clear hA l4 hC1 hG1 hsz h
  go_enter Tryz.func75, Tryz.ntmps75
  go_wp2_with fail
  obtain ⟨hA, l4, hC1, hG1, hsz⟩ := unhide LL
  clear LL
  generalize (w.alloc (.cells #[.int .i64 0, .slice none 0 0, .slice none 0 0, .slice none 0 0, .slice none 0 0] 26)) = w1 at *
  refine (l2name_any w0 w1 g code l hC1).mono ?_
  rintro e w2 ⟨pn, cn, nm, rfl, hnm, hn8, hC2, hG2⟩
  have l4b := l4.frm (Frm.ofGrown hG2) (by simp; omega)
  have hG2' := grown_trans hG1 hG2
  go_wp2_with fail
  refine (l2attrs_any w0 w2 g code l hC2).mono ?_
  rintro e w3 ⟨pa, ca, at_, rfl, hat, ha3, hC3, hG3⟩
  have hs2 := hG2.size
  have hgn : ∀ q, (Value.slice pn nm.length cn).ownBlock = some q → some g ≠ some q := fun q hq e => by have := (hnm.lt q hq).1; cases e; omega
  have hnm3 := hnm.keepBy hG3 hgn
  have l4c := l4b.frm (Frm.ofGrown hG3) (by simp; omega)
  have hG3' := grown_trans hG2' hG3
  have hB4 : Below w3.heap.size w3 (w3.alloc (.cells #[.int .i64 0, .slice pn nm.length cn, .slice none 0 0, .slice pa at_.length ca, .slice none 0 0] 26)) := (Below.refl _ _).alloc (Nat.le_refl _) _
  have s1 := Loc.made w3 #[.int .i64 0, .slice pn nm.length cn, .slice none 0 0, .slice pa at_.length ca, .slice none 0 0] 26
  have hs3 := hG3.size
  have fW : Frm w3 (w3.alloc (.cells #[.int .i64 0, .slice pn nm.length cn, .slice none 0 0, .slice pa at_.length ca, .slice none 0 0] 26)) [w3.heap.size] := Frm.ofBelow hB4 _
  have hz5 : w3.heap.size < ((w3.alloc (.cells #[.int .i64 0, .slice pn nm.length cn, .slice none 0 0, .slice pa at_.length ca, .slice none 0 0] 26))).heap.size := by simp
  have hlow : ∀ q, q < w3.heap.size → q ∉ [w3.heap.size] := fun q hq e => by simp at e; omega
  obtain ⟨Fa, r1, r2, r3, r4⟩ := hat
  have hGr : Grow d g w1.heap.size w.heap.size w3.heap.size w0 w (w3.alloc (.cells #[.int .i64 0, .slice pn nm.length cn, .slice none 0 0, .slice pa at_.length ca, .slice none 0 0] 26)) code l pn cn nm pa ca at_ 0 none 0 [] := by
    refine ⟨Fa, [], l4c.frm fW (hlow _ (by omega)), s1, (hnm3.mono (Nat.zero_le _)).frm fW (fun q hq => hlow q (hnm3.lt q (by simpa [FB] using hq)).2), OwAttrsM.frm r1 fW (fun q hq => hlow q (r3 q hq).2), OwKidsM.nil _ _, ?_, ?_, hn8, ha3, r4, Nat.le_refl _, (fun k hk => by simp at hk), ?_, ?_⟩
    · rw [List.append_nil]
      exact List.nodup_append.2 ⟨FB_nodup _, r2, fun a ha b hb e => by have := (hnm.lt a (by simpa [FB] using ha)).2; have := (r3 b hb).1; omega⟩
    · intro q hq
      rw [List.append_nil] at hq
      have := fW.size
      rcases List.mem_append.1 hq with h | h
      · have := hnm3.lt q (by simpa [FB] using h); omega
      · have := r3 q h; omega
    · exact hC3.keepAll hB4
    · exact grown_below hG3' hB4
  have HG := hide hGr
  have hby : Byt (w3.alloc (.cells #[.int .i64 0, .slice pn nm.length cn, .slice none 0 0, .slice pa at_.length ca, .slice none 0 0] 26)) (.slice pn nm.length cn) nm := (hnm3.frm fW (fun q hq => hlow q (hnm3.lt q (by simpa [FB] using hq)).2)).byt
  have HV := hide (l2void_ends _ _ _ hby)
  have LL := hide (And.intro s1 hs3)
  clear hnm hC3 hG3 hG3' l4c l4b l4 hnm3 hGr hby fW s1 hB4 hz5 r1 r2 r3 r4 hC1 hC2 hG1 hG2 hG2' hA
  go_upto_region 2 with fail
  generalize (w3.alloc (.cells #[.int .i64 0, .slice pn nm.length cn, .slice none 0 0, .slice pa at_.length ca, .slice none 0 0] 26)) = w4 at *
  obtain ⟨s1, hs3⟩ := unhide LL
  have hs1 := hsz
  clear LL
  generalize w3.heap.size = b5 at *
  have y1 := s1.cell 1
  simp at y1
  go_wp2_with fail
  refine (unhide HV).mono ?_
  rintro e w5 ⟨hv, rfl⟩
  clear HV y1 s1
  have hEnd : True := trivial
  rcases hv with rfl | rfl
  · -- a void part
    have HE := hide (Grow.fin (unhide HG) (by omega) rfl (by omega) (by omega) (by omega))
    obtain ⟨_, _, q4, q5, _⟩ := (unhide HG)
    obtain ⟨y0, y1, y2, y3, y4⟩ := five' q5
    obtain ⟨z0, z1, z2, z3, z4⟩ := five' q4
    have u0 := q4.frozen 0
    have u1 := q4.frozen 1
    have u2 := q4.frozen 2
    have u3 := q4.frozen 3
    have u4 := q4.frozen 4
    clear q4 q5
    go_wp2_with fail
    obtain ⟨e1, e2, e3, e4⟩ := unhide HE
    clear HE y0 y1 y2 y3 y4 z0 z1 z2 z3 z4 u0 u1 u2 u3 u4
    obtain ⟨k0, k1, k2, k3, k4⟩ := five' e4
    clear e4
    simp only [List.length_nil] at k0 k1 k2 k3 k4 e1 e2 e3
    generalize (((((w5.setCell ⟨w.heap.size, 0, none⟩ (.int .i64 0)).setCell ⟨w.heap.size, 1, none⟩ (.slice pn nm.length cn)).setCell ⟨w.heap.size, 2, none⟩ (.slice none 0 0)).setCell ⟨w.heap.size, 3, none⟩ (.slice pa at_.length ca)).setCell ⟨w.heap.size, 4, none⟩ (.slice none 0 0)) = wz at *
    exact bodyPost_ret (v := .agg #[.int .i64 0, .slice pn nm.length cn, .slice none 0 0, .slice pa at_.length ca, .slice none 0 0]) (by simp [results, Tryz.results75, go_sem, k0, k1, k2, k3, k4]) rfl ⟨0, pn, nm.length, cn, none, 0, 0, pa, at_.length, ca, none, 0, 0, rfl, e1, e2, e3⟩
  go_wp2_with fail
  refine (l1Below_any w0 _ g code l 4 (by obtain ⟨_, _, _, _, _, _, _, _, _, _, _, _, _, _, hC, _⟩ := unhide HG; exact hC) (by omega) (by omega)).mono ?_
  rintro e w6 ⟨n, hn0, hn1, rfl, hC6, hG6⟩
  have hGr := Grow.by (unhide HG) ⟨by omega, by omega, by omega⟩ hC6 hG6
  clear HG
  obtain ⟨n, rfl⟩ := Int.eq_ofNat_of_zero_le hn0
  go_wp2_with fail
  have hn4 : n < 4 := by omega
  clear hn0 hn1 hC6 hG6
  go_loopw [7] (fun i wr => ∃ (j : Nat) (ka : Option Addr) (kc : Nat) (kids : List (Tr d)), j ≤ n ∧ i = .int .i64 j ∧ Grow d g w1.heap.size w.heap.size b5 w0 w wr code l pn cn nm pa ca at_ j ka kc kids) (fun i _ => n - (intOf i).toNat)
  case atStart => exact ⟨0, none, 0, [], Nat.zero_le _, rfl, hGr⟩
  case round =>
    clear hGr
    obtain ⟨j, ka, kc, kids, hj, rfl, hGr⟩ := hrel
    by_cases hlt : j < n
    · have hlt' : (j : Int) < (n : Int) := by omega
      by_cases hd0 : 0 < d
      · have hd0' : (0 : Int) < (d : Int) := by omega
        have HG := hide hGr
        have HC : Cur w0 wr g code l := by obtain ⟨_, _, _, _, _, _, _, _, _, _, _, _, _, _, hC, _⟩ := hGr; exact hC
        clear hGr
        go_wp2_with fail
        refine (l1Once_any w0 wr g code l 2 HC (by omega) (by omega)).mono ?_
        rintro e w7 ⟨bb, rfl, hC7, hG7⟩
        have hGr := Grow.by (unhide HG) ⟨by omega, by omega, by omega⟩ hC7 hG7
        have HGG := hide hGr
        have h17 : w1.heap.size ≤ w7.heap.size := by obtain ⟨_, _, q4, q5, _⟩ := hGr; have := q5.lt; omega
        clear HG hG7
        cases bb with
        | true =>
          go_wp2_with fail
          obtain ⟨Fk, o1, o2, o3, o4, o5, hpush⟩ := Grow.push hGr ⟨by omega, by omega, by omega⟩ (by omega) (by omega) (by omega) (by omega) (by omega)
          have HP := hide hpush
          clear hpush hGr
          have hdr : Below w7.heap.size w7 w7.drew := (Below.refl _ _).drew
          have hlb5 := o4.lt
          have o4d := o4.all hdr
          have hgk : g ∉ FB (.slice ka kids.length kc) := fun h => by have := (o3 g (o5 g h)).1; omega
          have c4d : w7.drew.cell? ⟨b5, 4, none⟩ = some (.slice ka kids.length kc) := o4d.cell 4
          have HC8 := hide (l2word_any w0 w7.drew g code l (hC7.keepAll hdr))
          obtain ⟨i0, hi0, hz0, hz1, hz2⟩ := info_parts nd_info'
          have he2 : ∀ args w, (callFunc 127 args).run Tryz.prog w = .ok (.enter 127 args) w := enters_of Tryz.func127 (by kernel_rfl) rfl
          have hkl : kids.length ≤ 3 := by obtain ⟨_, _, _, _, _, _, _, _, _, _, _, _, hk, _⟩ := unhide HGG; omega
          go_region_law
            (first
              | (refine step_call (by rfl) 127 [.tmp 32] #[70] (by rfl) he2 [.pointer (some ⟨g, 0, none⟩)] (by rfl) (unhide HC8) ?_; clear HC8; rintro e w8 ⟨pw, cw, wd, rfl, hrow, hw8, hC8, hG8⟩; obtain ⟨tx, htx, hsx⟩ := txt_kid d hd0 (hrow.mono (Nat.zero_le _)) hw8; have o48 := o4d.frm (Frm.ofGrown hG8) (by simp; omega); have c48 : w8.cell? ⟨b5, 4, none⟩ = some (.slice ka kids.length kc) := o48.cell 4; have hb8 : Below w8.heap.size w8 (w8.alloc (.cells #[.int .i64 1, .slice none 0 0, .slice pw wd.length cw, .slice none 0 0, .slice none 0 0] 26)) := (Below.refl _ _).alloc (Nat.le_refl _) _; have c49 : (w8.alloc (.cells #[.int .i64 1, .slice none 0 0, .slice pw wd.length cw, .slice none 0 0, .slice none 0 0] 26)).cell? ⟨b5, 4, none⟩ = some (.slice ka kids.length kc) := (o48.all hb8).cell 4; refine ⟨_, rfl, ?_⟩)
              | (refine step_push (R := OwNodeM d) (fun h f d => OwNodeM.frm h f d) (by rfl) (.tmp 31) (.tmp 35) 24 (by rfl) 26 i0 (.agg #[.int .i64 0, .slice none 0 0, .slice none 0 0, .slice none 0 0, .slice none 0 0]) 5 104 Tryz.underlying24 hi0 hz0 hz1 hz2 rfl (by decide) _ kids Fk (by rfl) (OwKidsM.frm (OwKidsM.frm (OwKidsM.frm o1 (Frm.ofBelow hdr []) (fun _ _ => by simp)) (Frm.ofGrown hG8) (fun q hq => by have := (o3 q hq).1; simp; omega)) (Frm.ofBelow hb8 []) (fun _ _ => by simp)) o2 ⟨w8.heap.size, 0, none⟩ 1 [.int .i64 1, .slice none 0 0, .slice pw wd.length cw, .slice none 0 0, .slice none 0 0] tx (FB (.slice pw wd.length cw)) (by rfl) rfl (fun i u hu => World.news_of_block (heap_alloc_new w8 (.cells #[.int .i64 1, .slice none 0 0, .slice pw wd.length cw, .slice none 0 0, .slice none 0 0] 26)) i u (by simpa using hu)) (by intro y hy; simp at hy; rcases hy with rfl | rfl | rfl | rfl | rfl <;> rfl) (htx.keep hb8) (FB_nodup _) (fun q hq hq' => by have h1 := (o3 q hq).2.1; have h3 := hdr.size; have := hrow.lt q (by simpa [FB] using hq'); omega) (fun q hq' => by have h1 := hG8.size; have h2 := hb8.size; have h3 := hdr.size; rcases hq' with hq' | hq'; (have := (o3 q hq').2.1; omega); (have := hrow.lt q (by simpa [FB] using hq'); omega)) (by unfold maxLen; omega) (by omega) ?_; intro g9 cap9 w9 F9 hF9 hN9 hM9 hf9 hg9; obtain ⟨n9, hn9⟩ : ∃ n9, n9 = kids.length + 1 := ⟨_, rfl⟩; rw [← hn9] at hF9 ⊢; have o49 := (o48.all hb8).frm hf9 (fun h => (o3 b5 (o5 b5 h)).2.2.2 rfl); have c4a : w9.cell? ⟨b5, 4, none⟩ = some (.slice ka kids.length kc) := o49.cell 4; have z4a := o49.frozen 4))
          all_goals
            have hF9q : ∀ q ∈ F9, (q ∈ Fk ∨ w7.heap.size ≤ q) ∧ q < w9.heap.size := fun q hq => by
              refine ⟨?_, OwElems.ltM hF9 (fun C x G h => OwNodeM.lt h) q hq⟩
              have s8 : w7.heap.size ≤ w8.heap.size := hG8.size
              rcases hM9 q hq with h | hq' | h
              · exact .inl h
              · have h3 := hdr.size; have := hrow.lt q (by simpa [FB] using hq'); right; omega
              · right; simp only [World.size_alloc] at h; omega
            have hf97 : Frm w7 w9 (g :: FB (.slice ka kids.length kc)) := ((Frm.ofBelow hdr _).trans ((Frm.ofGrown hG8).mono (fun q hq => by simp at hq; simp [hq]))).trans ((Frm.ofBelow hb8 _).trans (hf9.mono (fun q hq => List.mem_cons_of_mem _ hq)))
            have hC9 : Cur w0 w9 g code l := (hC8.keepAll hb8).keepF hf9 hgk (fun q hq => by have := (o3 q (o5 q hq)).1; omega)
            have HGr := hide (unhide HP tx w9 g9 cap9 n9 F9 hsx hn9 hf97 hC9 hF9 hN9 hF9q)
            clear HP hC9 hf97 hF9q hM9 hF9 hN9 o1 o2 o3 o5
            go_wp2_with fail
            go_roundw
            case rel => exact ⟨j + 1, _, _, _, by omega, by go_num, by have h := unhide HGr; rw [hn9] at h; exact h⟩
            case measure => simp [intOf]; omega
        | false =>
          go_wp2_with fail
          obtain ⟨Fk, o1, o2, o3, o4, o5, hpush⟩ := Grow.push hGr ⟨by omega, by omega, by omega⟩ (by omega) (by omega) (by omega) (by omega) (by omega)
          have HP := hide hpush
          clear hpush hGr
          have hdr : Below w7.heap.size w7 w7.drew := (Below.refl _ _).drew
          have hlb5 := o4.lt
          have o4d := o4.all hdr
          have hgk : g ∉ FB (.slice ka kids.length kc) := fun h => by have := (o3 g (o5 g h)).1; omega
          have c4d : w7.drew.cell? ⟨b5, 4, none⟩ = some (.slice ka kids.length kc) := o4d.cell 4
          have HC8 := hide dr_pred d hd hd0 IH w0 w7.drew g code l (hC7.keepAll hdr)
          obtain ⟨i0, hi0, hz0, hz1, hz2⟩ := info_parts nd_info'
          have he2 : ∀ args w, (callFunc 75 args).run Tryz.prog w = .ok (.enter 75 args) w := enters_of Tryz.func75 (by kernel_rfl) rfl
          have hkl : kids.length ≤ 3 := by obtain ⟨_, _, _, _, _, _, _, _, _, _, _, _, hk, _⟩ := unhide HGG; omega
          go_region_law
            (first
              | (refine step_call (by rfl) 75 [.tmp 40, .tmp 42] #[70, 3] (by rfl) he2 [.pointer (some ⟨g, 0, none⟩), .int .i64 (IntKind.i64.wrap ((d : Int) - 1))] (by rfl) (unhide HC8) ?_; clear HC8; rintro e w8 ⟨k1, p1, n1, c1, p2, n2, c2, p3, n3, c3, p4, n4, c4, rfl, ⟨tk, Gk, hown, hndk, hrk, hsmk⟩, hC8, hG8⟩; have o48 := o4d.frm (Frm.ofGrown hG8) (by simp; omega); have c48 : w8.cell? ⟨b5, 4, none⟩ = some (.slice ka kids.length kc) := o48.cell 4; have hb8 : Below w8.heap.size w8 (w8.alloc (.cells #[.int .i64 k1, .slice p1 n1 c1, .slice p2 n2 c2, .slice p3 n3 c3, .slice p4 n4 c4] 26)) := (Below.refl _ _).alloc (Nat.le_refl _) _; have c49 : (w8.alloc (.cells #[.int .i64 k1, .slice p1 n1 c1, .slice p2 n2 c2, .slice p3 n3 c3, .slice p4 n4 c4] 26)).cell? ⟨b5, 4, none⟩ = some (.slice ka kids.length kc) := (o48.all hb8).cell 4; refine ⟨_, rfl, ?_⟩)
              | (refine step_push (R := OwNodeM d) (fun h f d => OwNodeM.frm h f d) (by rfl) (.tmp 39) (.tmp 44) 24 (by rfl) 26 i0 (.agg #[.int .i64 0, .slice none 0 0, .slice none 0 0, .slice none 0 0, .slice none 0 0]) 5 104 Tryz.underlying24 hi0 hz0 hz1 hz2 rfl (by decide) _ kids Fk (by rfl) (OwKidsM.frm (OwKidsM.frm (OwKidsM.frm o1 (Frm.ofBelow hdr []) (fun _ _ => by simp)) (Frm.ofGrown hG8) (fun q hq => by have := (o3 q hq).1; simp; omega)) (Frm.ofBelow hb8 []) (fun _ _ => by simp)) o2 ⟨w8.heap.size, 0, none⟩ 1 [.int .i64 k1, .slice p1 n1 c1, .slice p2 n2 c2, .slice p3 n3 c3, .slice p4 n4 c4] tk Gk (by rfl) rfl (fun i u hu => World.news_of_block (heap_alloc_new w8 (.cells #[.int .i64 k1, .slice p1 n1 c1, .slice p2 n2 c2, .slice p3 n3 c3, .slice p4 n4 c4] 26)) i u (by simpa using hu)) (by intro y hy; simp at hy; rcases hy with rfl | rfl | rfl | rfl | rfl <;> rfl) (hown.keep hb8) (hndk) (fun q hq hq' => by have h1 := (o3 q hq).2.1; have h3 := hdr.size; have := hrk q hq'; omega) (fun q hq' => by have h1 := hG8.size; have h2 := hb8.size; have h3 := hdr.size; rcases hq' with hq' | hq'; (have := (o3 q hq').2.1; omega); (have := hrk q hq'; omega)) (by unfold maxLen; omega) (by omega) ?_; intro g9 cap9 w9 F9 hF9 hN9 hM9 hf9 hg9; obtain ⟨n9, hn9⟩ : ∃ n9, n9 = kids.length + 1 := ⟨_, rfl⟩; rw [← hn9] at hF9 ⊢; have o49 := (o48.all hb8).frm hf9 (fun h => (o3 b5 (o5 b5 h)).2.2.2 rfl); have c4a : w9.cell? ⟨b5, 4, none⟩ = some (.slice ka kids.length kc) := o49.cell 4; have z4a := o49.frozen 4))
          all_goals
            have hF9q : ∀ q ∈ F9, (q ∈ Fk ∨ w7.heap.size ≤ q) ∧ q < w9.heap.size := fun q hq => by
              refine ⟨?_, OwElems.ltM hF9 (fun C x G h => OwNodeM.lt h) q hq⟩
              have s8 : w7.heap.size ≤ w8.heap.size := hG8.size
              rcases hM9 q hq with h | hq' | h
              · exact .inl h
              · have h3 := hdr.size; have := hrk q hq'; right; omega
              · right; simp only [World.size_alloc] at h; omega
            have hf97 : Frm w7 w9 (g :: FB (.slice ka kids.length kc)) := ((Frm.ofBelow hdr _).trans ((Frm.ofGrown hG8).mono (fun q hq => by simp at hq; simp [hq]))).trans ((Frm.ofBelow hb8 _).trans (hf9.mono (fun q hq => List.mem_cons_of_mem _ hq)))
            have hC9 : Cur w0 w9 g code l := (hC8.keepAll hb8).keepF hf9 hgk (fun q hq => by have := (o3 q (o5 q hq)).1; omega)
            have HGr := hide (unhide HP tk w9 g9 cap9 n9 F9 hsmk hn9 hf97 hC9 hF9 hN9 hF9q)
            clear HP hC9 hf97 hF9q hM9 hF9 hN9 o1 o2 o3 o5
            go_wp2_with fail
            go_roundw
            case rel => exact ⟨j + 1, _, _, _, by omega, by go_num, by have h := unhide HGr; rw [hn9] at h; exact h⟩
            case measure => simp [intOf]; omega
      · have hd0' : ¬ (0 : Int) < (d : Int) := by omega
        have HE := hide (Grow.fin hGr (by omega) rfl (by omega) (by omega) (by omega))
        obtain ⟨_, _, q4, q5, _⟩ := hGr
        obtain ⟨y0, y1, y2, y3, y4⟩ := five' q5
        obtain ⟨z0, z1, z2, z3, z4⟩ := five' q4
        have u0 := q4.frozen 0
        have u1 := q4.frozen 1
        have u2 := q4.frozen 2
        have u3 := q4.frozen 3
        have u4 := q4.frozen 4
        clear q4 q5
        go_wp2_with fail
        obtain ⟨e1, e2, e3, e4⟩ := unhide HE
        clear HE y0 y1 y2 y3 y4 z0 z1 z2 z3 z4 u0 u1 u2 u3 u4
        obtain ⟨k0, k1, k2, k3, k4⟩ := five' e4
        clear e4
        generalize (((((wr.setCell ⟨w.heap.size, 0, none⟩ (.int .i64 0)).setCell ⟨w.heap.size, 1, none⟩ (.slice pn nm.length cn)).setCell ⟨w.heap.size, 2, none⟩ (.slice none 0 0)).setCell ⟨w.heap.size, 3, none⟩ (.slice pa at_.length ca)).setCell ⟨w.heap.size, 4, none⟩ (.slice ka kids.length kc)) = wz at *
        exact bodyPost_ret (v := .agg #[.int .i64 0, .slice pn nm.length cn, .slice none 0 0, .slice pa at_.length ca, .slice ka kids.length kc]) (by simp [results, Tryz.results75, go_sem, k0, k1, k2, k3, k4]) rfl ⟨0, pn, nm.length, cn, none, 0, 0, pa, at_.length, ca, ka, kids.length, kc, rfl, e1, e2, e3⟩
    · have hlt' : ¬ (j : Int) < (n : Int) := by omega
      have HE := hide (Grow.fin hGr (by omega) rfl (by omega) (by omega) (by omega))
      obtain ⟨_, _, q4, q5, _⟩ := hGr
      obtain ⟨y0, y1, y2, y3, y4⟩ := five' q5
      obtain ⟨z0, z1, z2, z3, z4⟩ := five' q4
      have u0 := q4.frozen 0
      have u1 := q4.frozen 1
      have u2 := q4.frozen 2
      have u3 := q4.frozen 3
      have u4 := q4.frozen 4
      clear q4 q5
      go_wp2_with fail
      obtain ⟨e1, e2, e3, e4⟩ := unhide HE
      clear HE y0 y1 y2 y3 y4 z0 z1 z2 z3 z4 u0 u1 u2 u3 u4
      obtain ⟨k0, k1, k2, k3, k4⟩ := five' e4
      clear e4
      generalize (((((wr.setCell ⟨w.heap.size, 0, none⟩ (.int .i64 0)).setCell ⟨w.heap.size, 1, none⟩ (.slice pn nm.length cn)).setCell ⟨w.heap.size, 2, none⟩ (.slice none 0 0)).setCell ⟨w.heap.size, 3, none⟩ (.slice pa at_.length ca)).setCell ⟨w.heap.size, 4, none⟩ (.slice ka kids.length kc)) = wz at *
      exact bodyPost_ret (v := .agg #[.int .i64 0, .slice pn nm.length cn, .slice none 0 0, .slice pa at_.length ca, .slice ka kids.length kc]) (by simp [results, Tryz.results75, go_sem, k0, k1, k2, k3, k4]) rfl ⟨0, pn, nm.length, cn, none, 0, 0, pa, at_.length, ca, ka, kids.length, kc, rfl, e1, e2, e3⟩
/-- spec.l2draw, at whatever depth up to four. -/
theorem l2draw_all : ∀ d, d ≤ 4 → DrSaid d
  | 0, h => l2draw_core 0 h (fun d' e => by omega)
  | d + 1, h => l2draw_core (d + 1) h (fun d' e => by
      obtain rfl : d = d' := by omega
      exact l2draw_all d (by omega))
end Go.Proofs.YtaoodcielfabdaaGreat

/- What is drawn and spoilt: a row of bytes of the call's own. -/
namespace Go.Proofs.YtaoodcielfabdaaGreat
open Go.RowKit
set_option linter.unusedVariables false

/-- A slice cut from p on can be read: what is left of the bytes. -/
theorem Byt.cut {w : World} {b off cap p : Nat} {l : List Int} (hok : okB l) (hm : l.length ≤ maxLen) (hp : p ≤ l.length) (hlc : l.length ≤ cap) (hcm : cap ≤ maxLen) (hb : b < w.heap.size)
    (hc : ∀ i, i < l.length → w.cell? ⟨b, off + i, none⟩ = some (.int .u8 (l.getD i 0))) : Byt w (.slice (some ⟨b, off + p, none⟩) (l.length - p) (cap - p)) (l.drop p) := by
  have hl : (l.drop p).length = l.length - p := by simp
  refine ⟨hok.drop p, by omega, .inr ?_⟩
  by_cases h0 : l.drop p = []
  · refine .inl ⟨⟨b, off + p, none⟩, cap - p, ?_, by omega, h0⟩
    rw [h0] at hl
    rw [← hl]; rfl
  · refine .inr ⟨b, off + p, cap - p, by rw [hl], by omega, by omega, h0, hb, fun i hi => ?_⟩
    rw [Nat.add_assoc, hc (p + i) (by omega)]
    simp

/-- An owned row of at least one byte, its block and its cells. -/
theorem Own.form {w : World} {base : Nat} {v : Value} {l : List Int} (h : Own w base v l) (h0 : l ≠ []) : ∃ g cap, v = .slice (some ⟨g, 0, none⟩) l.length cap ∧ base ≤ g ∧ g < w.heap.size ∧ l.length ≤ cap ∧ cap ≤ maxLen ∧
    (∀ i, i < l.length → w.cell? ⟨g, i, none⟩ = some (.int .u8 (l.getD i 0))) ∧ (∀ i, w.frozen? ⟨g, i, none⟩ = false) := by
  obtain ⟨hok, hlen, ⟨rfl, hz⟩ | ⟨g, cap, cur, rfl, hb, hg, hnc, hcm, hcs, htake⟩⟩ := h
  · exact absurd (List.eq_nil_of_length_eq_zero hz) h0
  · have hr : w.ownsRow base 5 1 (.slice (some ⟨g, 0, none⟩) l.length cap) l.length (vals l) := ⟨hlen, .inr ⟨g, cap, cur, rfl, hb, hg, hnc, hcm, hcs, htake⟩⟩
    refine ⟨g, cap, rfl, hb, (hr.lt g rfl).2, hnc, hcm, fun i hi => ?_, fun i => hr.frozenAt i⟩
    rw [hr.cellAt i (by omega), vals_at hi]

/-- A store of one byte into an owned row. -/
theorem Own.store {w : World} {base g cap : Nat} {l : List Int} (h : Own w base (.slice (some ⟨g, 0, none⟩) l.length cap) l) (i : Nat) (x : Int) (h0 : 0 ≤ x) (h1 : x ≤ 255) :
    Own (w.setCell ⟨g, i, none⟩ (.int .u8 x)) base (.slice (some ⟨g, 0, none⟩) l.length cap) (l.set i x) := by
  refine ⟨fun y hy => ?_, ?_⟩
  · rcases List.mem_or_eq_of_mem_set hy with h' | rfl
    · exact h.1 y h'
    · exact ⟨h0, h1⟩
  · have hs := (h.2.stored i (.int .u8 x)).1
    rw [List.length_set]
    unfold vals at hs ⊢
    rw [List.map_set]
    exact hs

/-- The head of an owned row can be read. -/
theorem Own.take {w : World} {base g cap : Nat} {l : List Int} (h : Own w base (.slice (some ⟨g, 0, none⟩) l.length cap) l) (j : Nat) (hj : j ≤ l.length) (c : Nat) (hc : j ≤ c) (hcm : c ≤ maxLen) : Byt w (.slice (some ⟨g, 0, none⟩) j c) (l.take j) := by
  have hl : (l.take j).length = j := by simp; omega
  by_cases h0 : j = 0
  · subst h0
    exact ⟨by simpa using okB_nil, by simp [maxLen], .inr (.inl ⟨_, c, rfl, hcm, by simp⟩)⟩
  · obtain ⟨g', cap', e, _, hlt, _, _, hcell, _⟩ := h.form (by intro e; subst e; simp at hj; omega)
    simp only [Value.slice.injEq, Option.some.injEq, Addr.mk.injEq, true_and, and_true] at e
    obtain ⟨rfl, rfl⟩ := e
    refine ⟨h.1.take j, by omega, .inr (.inr ⟨g, 0, c, by rw [hl], by omega, hcm, fun e => by rw [e] at hl; simp at hl; omega, hlt, fun i hi => ?_⟩)⟩
    rw [Nat.zero_add, hcell i (by omega), List.getD_eq_getElem?_getD, List.getD_eq_getElem?_getD, List.getElem?_take, if_pos (by omega)]

theorem Own.takeO {w : World} {base g cap : Nat} {l : List Int} (h : Own w base (.slice (some ⟨g, 0, none⟩) l.length cap) l) (j : Nat) (hj : j ≤ l.length) : Own w base (.slice (some ⟨g, 0, none⟩) j cap) (l.take j) := by
  have hl : (l.take j).length = j := by simp; omega
  obtain ⟨hok, hlen, ⟨e, _⟩ | ⟨g', cap', cur, e, hb, hg, hnc, hcm, hcs, htake⟩⟩ := h
  · cases e
  · cases e
    refine ⟨hok.take j, by rw [vals_len]; omega, .inr ⟨g, cap, cur, by rw [hl], hb, hg, by omega, hcm, hcs, ?_⟩⟩
    rw [hl]
    have : vals (l.take j) = (vals l).take j := by unfold vals; rw [List.map_take]
    rw [this, ← htake, List.take_take]
    congr 1
    omega
theorem Own.down {w : World} {base base' : Nat} {v : Value} {l : List Int} (h : Own w base v l) (hb : base' ≤ base) : Own w base' v l := ⟨h.1, ownsRow_base h.2 _ hb⟩
/-- The value does not lie in block g. -/
def Far (v : Value) (g : Nat) : Prop := ∀ a n c, v = .slice (some a) n c → a.block ≠ g
theorem Own.far {w : World} {base g : Nat} {v : Value} {l : List Int} (h : Own w base v l) (hg : g < base) : Far v g := by
  intro a n c e
  have := h.base_le a.block (by rw [e]; rfl)
  omega
/-- What can be read can be read still, while another block is written. -/
theorem Byt.past {w w' : World} {g : Nat} {v : Value} {l : List Int} (h : Byt w v l) (hg : w.grownBy w' (some g)) (hf : Far v g) : Byt w' v l := by
  obtain ⟨hok, hm, h1 | h2 | ⟨b, off, cap, rfl, h1, h2, h3, h4, h5⟩⟩ := h
  · exact ⟨hok, hm, .inl h1⟩
  · exact ⟨hok, hm, .inr (.inl h2)⟩
  · have hb : b ≠ g := hf _ _ _ rfl
    exact ⟨hok, hm, .inr (.inr ⟨b, off, cap, rfl, h1, h2, h3, Nat.lt_of_lt_of_le h4 hg.size, fun i hi => hg.cell (a := ⟨b, off + i, none⟩) (h5 i hi) (by simp; omega)⟩)⟩

set_option maxHeartbeats 3200000 in
theorem l1spoil_any (w0 w : World) (g : Nat) (code : Value) (l : List Int) (v : Value) (m : List Int) (h : Cur w0 w g code l) (hv : Byt w v m) (hm : m.length ≤ 1000000) :
    Calls Tryz.prog 124 #[.pointer (some ⟨g, 0, none⟩), v] w fun e w' => ∃ v', e = .returned v' ∧ ∃ l', Own w' w.heap.size v' l' ∧ l'.length ≤ 1000001 ∧ Cur w0 w' g code l ∧ w.grownBy w' (some g) := by
  have hlt := h.lt
  have hs0 := h.below.size
  go_enter Tryz.func124, Tryz.ntmps124
  go_wp2_with (at_builtin; refine wpList_app rfl _ _ rfl w.heap.size _ [] rfl (own_none w) v m rfl (hv.alloc _) ?c1 ?c2 ?_)
  case c1 => first | omega | (simp; omega)
  case c2 => simp
  intro v1 w1 ho1 hg1
  have hG1 : w.grownBy w1 (some g) := grown_new (grown_below (World.grownBy.refl w (some g)) ((Below.refl _ _).alloc (Nat.le_refl _) _)) hg1 (fun q hq => by simp [Value.ownBlock] at hq; omega)
  have hC1 : Cur w0 w1 g code l := (h.keepAll ((Below.refl _ _).alloc (Nat.le_refl _) _)).keep hg1 (fun e => by simp [Value.ownBlock] at e; omega) (fun q hq => by simp [Value.ownBlock] at hq; omega)
  clear hg1
  have hs1 := hG1.size
  by_cases h0 : m = []
  · subst h0
    obtain ⟨a1, k1, rfl, _⟩ := ho1.byt.shape
    go_wp2_with fail
    refine (l1Byte_any w0 w1 g code l hC1).mono ?_
    rintro e w2 ⟨y, hy0, hy1, rfl, hC2, hG2⟩
    have ho2 := ho1.past hG2 hlt
    have hs2 := hG2.size
    go_wp2_with (at_builtin; refine wpList_app rfl _ _ rfl w.heap.size _ [] rfl (ho2.alloc _) _ [y] rfl (byt_one w2 y hy0 hy1) ?c1 ?c2 ?_)
    case c1 => simp
    case c2 => first | omega | (simp; omega)
    intro v3 w3 ho3 hg3
    have hC3 : Cur w0 w3 g code l := (hC2.keepAll ((Below.refl _ _).alloc (Nat.le_refl _) _)).keep hg3 (fun e => by have := ho2.base_le g e.symm; omega) (fun q hq => by have := ho2.base_le q hq; omega)
    have hG3 : w.grownBy w3 (some g) := grown_new (grown_below (grown_trans hG1 hG2) ((Below.refl _ _).alloc (Nat.le_refl _) _)) hg3 ho2.base_le
    have HO := hide (show Own w3 w.heap.size v3 ([] ++ [y]) from ho3)
    clear ho3 hg3 hG2 ho2 hC2
    go_wp2
    go_ret
    exact ⟨_, rfl, _, unhide HO, by simp, hC3, hG3⟩
  obtain ⟨q, cap, rfl, hq, hq2, hmc, hcm, hcell, hfr⟩ := ho1.form h0
  have hml : 0 < m.length := by cases m with
    | nil => exact absurd rfl h0
    | cons x m => simp
  have hne0 : ((m.length : Int) == 0) = false := by simp; omega
  clear hcell hfr
  go_wp2_with fail
  refine (l1Below_any w0 w1 g code l m.length hC1 (by omega) (by omega)).mono ?_
  rintro e w2 ⟨x, hx0, hx1, rfl, hC2, hG2⟩
  obtain ⟨j, rfl⟩ := Int.eq_ofNat_of_zero_le hx0
  have hj : j < m.length := by omega
  have ho2 := ho1.past hG2 hlt
  have hG2' := grown_trans hG1 hG2
  clear hG1 hG2 hC1 ho1
  go_wp2_with fail
  refine (l1Below_any w0 w2 g code l 5 hC2 (by omega) (by omega)).mono ?_
  rintro e w3 ⟨k, hk0, hk1, rfl, hC3, hG3⟩
  have ho3 := ho2.past hG3 hlt
  have hG3' := grown_trans hG2' hG3
  have hs3 := hG3'.size
  clear hG2' hG3 hC2 ho2
  have hcm' := hcm
  unfold maxLen at hcm'
  have hcz : ¬ cap = 0 := by omega
  by_cases k0 : k = 0
  · subst k0
    have hr := ho3.takeO j (by omega)
    have HR := hide hr
    clear hr
    go_wp2
    go_ret
    exact ⟨_, rfl, _, unhide HR, by simp; omega, hC3, hG3'⟩
  by_cases k1 : k = 1
  · subst k1
    clear k0
    go_wp2_with fail
    refine (l1Byte_any w0 w3 g code l hC3).mono ?_
    rintro e w4 ⟨y, hy0, hy1, rfl, hC4, hG4⟩
    have ho4 := ho3.past hG4 hlt
    have hs4 := hG4.size
    go_wp2_with (at_builtin; refine wpList_app rfl _ _ rfl w.heap.size _ m rfl (ho4.alloc _) _ [y] rfl (byt_one w4 y hy0 hy1) ?c1 ?c2 ?_)
    case c1 => simp; omega
    case c2 => first | omega | (simp; omega)
    intro v5 w5 ho5 hg5
    have hC5 : Cur w0 w5 g code l := (hC4.keepAll ((Below.refl _ _).alloc (Nat.le_refl _) _)).keep hg5 (fun e => by have := ho4.base_le g e.symm; omega) (fun q hq => by have := ho4.base_le q hq; omega)
    have hG5 : w.grownBy w5 (some g) := grown_new (grown_below (grown_trans hG3' hG4) ((Below.refl _ _).alloc (Nat.le_refl _) _)) hg5 ho4.base_le
    have HO := hide (show Own w5 w.heap.size v5 (m ++ [y]) from ho5)
    clear ho5 hg5 hG4 ho4 hC4 hG3'
    go_wp2
    go_ret
    exact ⟨_, rfl, _, unhide HO, by simp; omega, hC5, hG5⟩
  by_cases k2 : k = 2
  · subst k2
    clear k0 k1
    go_wp2_with fail
    refine (l1Byte_any w0 w3 g code l hC3).mono ?_
    rintro e w4 ⟨y, hy0, hy1, rfl, hC4, hG4⟩
    have ho4 := ho3.past hG4 hlt
    have hG4' := grown_trans hG3' hG4
    clear hG3' hG4
    obtain ⟨q', cap', e, _, _, _, _, hcell, hfr⟩ := ho4.form h0
    simp only [Value.slice.injEq, Option.some.injEq, Addr.mk.injEq, true_and, and_true] at e
    obtain ⟨rfl, rfl⟩ := e
    have c1 := hcell j hj
    have f1 := hfr j
    have hst := ho4.store j y hy0 hy1
    have hgs := set_grown w4 q j (.int .u8 y)
    have hC5 := hC4.keep hgs (by simp; omega) (fun r hr => by simp at hr; omega)
    have hG5 := grown_new hG4' hgs (fun r hr => by simp at hr; omega)
    have HO := hide hst
    have HC := hide hC5
    have HG := hide hG5
    clear hcell hfr hst hgs hC5 hG5 hG4' hC4
    have hj' : (j : Int) < (m.length : Int) := by omega
    go_wp2
    go_ret
    exact ⟨_, rfl, _, unhide HO, by simp; omega, unhide HC, unhide HG⟩
  by_cases k3 : k = 3
  · subst k3
    clear k0 k1 k2
    have hj0 : (0 : Int) ≤ (j : Int) := by omega
    have hj1 : (j : Int) ≤ (cap : Int) := by omega
    have hj2 : (j : Int) + 1 ≤ (m.length : Int) := by omega
    have hj3 : (j : Int) + 1 ≤ (cap : Int) := by omega
    have hr1 := ho3.take j (by omega) cap (by omega) hcm
    have hcut : Byt w3 (.slice (some ⟨q, 0 + (j + 1), none⟩) (m.length - (j + 1)) (cap - (j + 1))) (m.drop (j + 1)) := by
      obtain ⟨q', cap', e, _, hq3, _, _, hcell, _⟩ := ho3.form h0
      simp only [Value.slice.injEq, Option.some.injEq, Addr.mk.injEq, true_and, and_true] at e
      obtain ⟨rfl, rfl⟩ := e
      exact Byt.cut (off := 0) (p := j + 1) ho3.1 (by unfold maxLen; omega) (by omega) hmc hcm hq3 (fun i hi => by rw [Nat.zero_add]; exact hcell i hi)
    rw [Nat.zero_add] at hcut
    have hwr : IntKind.i64.wrap ((j : Int) + 1) = (j : Int) + 1 := by rw [IntKind.wrap_i64]; omega
    have htn : ((j : Int) + 1).toNat = j + 1 := by omega
    have hp1 : (0 : Int) ≤ (j : Int) + 1 := by omega
    have hp2 : (j : Int) ≤ (j : Int) + 1 := by omega
    have hlt3 := hC3.lt
    by_cases hcj : cap = j + 1
    · subst hcj
      have hcut0 : Byt w3 (.slice (some ⟨q, 0, none⟩) 0 0) [] := ⟨okB_nil, by simp [maxLen], .inr (.inl ⟨_, 0, rfl, by simp [maxLen], rfl⟩)⟩
      go_wp2
      go_region_law (first | (refine step_app rfl (.tmp 59) (.tmp 62) rfl w3.heap.size _ [] (by rfl) (own_none _) _ (m.take j) (by rfl) (hr1.alloc _) (by simp; omega) (by simp) ?_; intro v5 w5 ho5 hg5; have hB5 : Below w3.heap.size w3 w5 := bstepBy (((Below.refl _ _).alloc (Nat.le_refl _) _).drew) hg5 (fun r hr => by simp [Value.ownBlock] at hr; omega)) | (refine step_app rfl (.tmp 63) (.tmp 67) rfl w3.heap.size _ (m.take j) (by rfl) ho5 _ [] (by rfl) (hcut0.keep hB5) (by simp; omega) hB5.size ?_; intro v6 w6 ho6 hg6))
      have hC6 : Cur w0 w6 g code l := (hC3.keepAll hB5).keep hg6 (fun e => by have := ho5.base_le g e.symm; omega) (fun r hr => by have := ho5.base_le r hr; omega)
      have hG6 : w.grownBy w6 (some g) := grown_new (grown_below hG3' hB5) hg6 (fun r hr => by have := ho5.base_le r hr; omega)
      have HO := hide (ho6.down hs3)
      have hl6 : (m.take j ++ []).length ≤ 1000001 := by simp; omega
      clear ho6 hg6 hg5 ho5 hB5 hC3 hG3' hr1 hcut hcut0
      go_wp2
      go_ret
      exact ⟨_, rfl, _, unhide HO, hl6, hC6, hG6⟩
    · go_wp2
      go_region_law (first | (refine step_app rfl (.tmp 59) (.tmp 62) rfl w3.heap.size _ [] (by rfl) (own_none _) _ (m.take j) (by rfl) (hr1.alloc _) (by simp; omega) (by simp) ?_; intro v5 w5 ho5 hg5; have hB5 : Below w3.heap.size w3 w5 := bstepBy (((Below.refl _ _).alloc (Nat.le_refl _) _).drew) hg5 (fun r hr => by simp [Value.ownBlock] at hr; omega)) | (refine step_app rfl (.tmp 63) (.tmp 67) rfl w3.heap.size _ (m.take j) (by rfl) ho5 _ (m.drop (j + 1)) (by rfl) (hcut.keep hB5) (by simp; omega) hB5.size ?_; intro v6 w6 ho6 hg6))
      have hC6 : Cur w0 w6 g code l := (hC3.keepAll hB5).keep hg6 (fun e => by have := ho5.base_le g e.symm; omega) (fun r hr => by have := ho5.base_le r hr; omega)
      have hG6 : w.grownBy w6 (some g) := grown_new (grown_below hG3' hB5) hg6 (fun r hr => by have := ho5.base_le r hr; omega)
      have HO := hide (ho6.down hs3)
      have hl6 : (m.take j ++ m.drop (j + 1)).length ≤ 1000001 := by simp; omega
      clear ho6 hg6 hg5 ho5 hB5 hC3 hG3' hr1 hcut
      go_wp2
      go_ret
      exact ⟨_, rfl, _, unhide HO, hl6, hC6, hG6⟩
  · obtain rfl : k = 4 := by omega
    clear k0 k1 k2 k3
    obtain ⟨q', cap', e, _, hq3, _, _, hcell, hfr⟩ := ho3.form h0
    simp only [Value.slice.injEq, Option.some.injEq, Addr.mk.injEq, true_and, and_true] at e
    obtain ⟨rfl, rfl⟩ := e
    obtain ⟨z, hz⟩ : ∃ z, z = m.getD j 0 := ⟨_, rfl⟩
    have c1 : w3.cell? ⟨q, j, none⟩ = some (.int .u8 z) := by rw [hz]; exact hcell j hj
    have f1 := hfr j
    have hj' : (j : Int) < (m.length : Int) := by omega
    have hj0 : (0 : Int) ≤ (j : Int) := by omega
    have hqg : q ≠ g := by omega
    clear hcell hfr hz
    go_wp2
    go_region_with ((go_at_call 74; refine (l1Below_any w0 _ g code l 8 (hC3.keepAll ((Below.refl _ _).drew)) (by omega) (by omega)).mono ?_; rintro e w4 ⟨y, hy0, hy1, rfl, hC4, hG4⟩; have c4 : w4.cell? ⟨q, j, none⟩ = some (.int .u8 z) := hG4.cell (a := ⟨q, j, none⟩) c1 (by simp; omega); have f4 : w4.frozen? ⟨q, j, none⟩ = false := (World.frozen?_of_block (w := w3) (hG4.block q hq3 (by simp; omega))).trans f1))
    all_goals
      have hb := bounds_u8 (wf_bits (k := .u8) .xor z (IntKind.u8.wrap (2 ^ y.toNat)))
      generalize bits BinOp.xor IntKind.u8 z (IntKind.u8.wrap (2 ^ y.toNat)) = x at *
      have hG4' : w3.grownBy w4 (some g) := ⟨hG4.os, hG4.tape, hG4.output, hG4.size, hG4.block⟩
      have ho4 := ho3.past hG4' hlt
      have hst := ho4.store j x hb.1 hb.2
      have hgs := set_grown w4 q j (.int .u8 x)
      have hC5 := hC4.keep hgs (by simp; omega) (fun r hr => by simp at hr; omega)
      have hG5 : w.grownBy (w4.setCell ⟨q, j, none⟩ (.int .u8 x)) (some g) := grown_new (grown_trans hG3' hG4') hgs (fun r hr => by simp at hr; omega)
      have HO := hide hst
      have HC := hide hC5
      have HG := hide hG5
      clear hst hgs hC5 hG5 hG3' hC4 hG4 hG4' c1 c4 f1 f4 ho3 ho4 hC3
      go_wp2
      go_ret
      exact ⟨_, rfl, _, unhide HO, by simp; omega, unhide HC, unhide HG⟩
end Go.Proofs.YtaoodcielfabdaaGreat

/- spec.l3draw draws a row of bytes of the call's own. -/
namespace Go.Proofs.YtaoodcielfabdaaGreat
open Go.RowKit
set_option linter.unusedVariables false
set_option maxRecDepth 100000


theorem strL_cells (s : ByteArray) : Lib.strCells s = vals (strL s) := by
  unfold Lib.strCells vals strL
  rw [List.map_map]
  rfl
theorem tab17 (i : Nat) (h : i < 17) : ∃ s : ByteArray, (#[.string ⟨#[60]⟩, .string ⟨#[62]⟩, .string ⟨#[60, 47, 112, 62]⟩, .string ⟨#[60, 66, 62]⟩, .string ⟨#[60, 98, 114, 47, 62]⟩, .string ⟨#[38, 108, 116]⟩, .string ⟨#[60, 112, 32, 99, 108, 97, 115, 115, 61, 120, 32, 107, 61, 39, 121, 39, 32, 75, 61, 34, 122, 34]⟩, .string ⟨#[38, 103, 116, 59]⟩, .string ⟨#[10]⟩, .string ⟨#[60, 47]⟩, .string ⟨#[60, 49, 62]⟩, .string ⟨#[0, 255]⟩, .string ⟨#[60, 108, 105, 62, 60, 108, 105, 62]⟩, .string ⟨#[61]⟩, .string ⟨#[34]⟩, .string ⟨#[60, 47, 100, 105, 118, 32]⟩, .string ⟨#[60, 105, 32, 97, 32, 98, 61, 62]⟩] : Array Value)[i]? = some (.string s) ∧ s.size ≤ 30 := by
  match i, h with
  | 0, _ => exact ⟨_, rfl, by decide⟩
  | 1, _ => exact ⟨_, rfl, by decide⟩
  | 2, _ => exact ⟨_, rfl, by decide⟩
  | 3, _ => exact ⟨_, rfl, by decide⟩
  | 4, _ => exact ⟨_, rfl, by decide⟩
  | 5, _ => exact ⟨_, rfl, by decide⟩
  | 6, _ => exact ⟨_, rfl, by decide⟩
  | 7, _ => exact ⟨_, rfl, by decide⟩
  | 8, _ => exact ⟨_, rfl, by decide⟩
  | 9, _ => exact ⟨_, rfl, by decide⟩
  | 10, _ => exact ⟨_, rfl, by decide⟩
  | 11, _ => exact ⟨_, rfl, by decide⟩
  | 12, _ => exact ⟨_, rfl, by decide⟩
  | 13, _ => exact ⟨_, rfl, by decide⟩
  | 14, _ => exact ⟨_, rfl, by decide⟩
  | 15, _ => exact ⟨_, rfl, by decide⟩
  | 16, _ => exact ⟨_, rfl, by decide⟩
  | n + 17, h => omega
theorem own_nilD (w : World) (base : Nat) : Own w base (.slice none 0 0) [] := ⟨okB_nil, rfl, .inl ⟨rfl, rfl⟩⟩
theorem Own.cutO {w : World} {base q cap p : Nat} {m : List Int} (h : Own w base (.slice (some ⟨q, 0, none⟩) m.length cap) m) (hp : p ≤ m.length) (hm : m.length ≤ maxLen) (hc : cap ≤ maxLen) : Byt w (.slice (some ⟨q, p, none⟩) (m.length - p) (cap - p)) (m.drop p) := by
  by_cases h0 : m = []
  · subst h0
    simp at hp
    subst hp
    exact ⟨by simpa using okB_nil, by simp [maxLen], .inr (.inl ⟨_, cap - 0, rfl, by omega, by simp⟩)⟩
  · obtain ⟨q', cap', e, _, hq3, hmc, hcm, hcell, _⟩ := h.form h0
    simp only [Value.slice.injEq, Option.some.injEq, Addr.mk.injEq, true_and, and_true] at e
    obtain ⟨rfl, rfl⟩ := e
    have := Byt.cut (off := 0) (p := p) h.1 hm hp hmc hcm hq3 (fun i hi => by rw [Nat.zero_add]; exact hcell i hi)
    rw [Nat.zero_add] at this
    exact this
def lenV : Value → Nat
  | .slice _ n _ => n
  | _ => 0
/-- What the draw keeps of its row. -/
def L3k (w0 w : World) (g : Nat) (code : Value) (l : List Int) (n : Nat) (b : Value) (wr : World) : Prop := ∃ m, Own wr w.heap.size b m ∧ m.length ≤ n ∧ Cur w0 wr g code l ∧ w.grownBy wr (some g)
def L3r (w0 w : World) (g : Nat) (code : Value) (l : List Int) (v : Value) (w' : World) : Prop := ∃ m, Byt w' v m ∧ Cur w0 w' g code l ∧ w.grownBy w' (some g)
set_option maxHeartbeats 25600000 in
theorem l3draw_any (w0 w : World) (g : Nat) (code : Value) (l : List Int) (h : Cur w0 w g code l) :
    Calls Tryz.prog 73 #[.pointer (some ⟨g, 0, none⟩)] w fun e w' => ∃ v, e = .returned v ∧ L3r w0 w g code l v w' := by
  have hlt := h.lt
  have hs0 := h.below.size
  go_enter Tryz.func73, Tryz.ntmps73
  go_wp2_with fail
  refine (l1Below_any w0 w g code l 4 h (by decide) (by decide)).mono ?_
  rintro e w1 ⟨n, hn0, hn1, rfl, hC1, hG1⟩
  obtain ⟨n, rfl⟩ := Int.eq_ofNat_of_zero_le hn0
  have hnn : n ≤ 3 := by omega
  go_wp2_with fail
  go_loopw [3, 5] (fun b i wr => ∃ j : Nat, j ≤ n ∧ i = .int .i64 j ∧ L3k w0 w g code l (10000 * j) b wr) (fun _ i _ => n - (intOf i).toNat)
  case atStart => exact ⟨0, Nat.zero_le _, rfl, [], own_nilD _ _, Nat.zero_le _, hC1, hG1⟩
  case round =>
    clear hC1 hG1 h
    obtain ⟨j, hj, rfl, m, ho, hm, hC, hG⟩ := hrel
    by_cases hjn : j < n
    · have hjn' : (j : Int) < (n : Int) := by omega
      obtain ⟨a0, c0, hv, _, _⟩ := ho.byt.shape
      subst hv
      have HD := hide (l2draw_all 3 (by decide) w0 wr g code l hC)
      have HO := hide ho
      clear ho
      go_wp2_with fail
      refine (unhide HD).mono ?_
      rintro e w2 ⟨k, p1, n1, c1, p2, n2, c2, p3, n3, c3, p4, n4, c4, rfl, ⟨t, F, hN, hnd, hrg, hsm⟩, hC2, hG2⟩
      have ho := unhide HO
      have hF : ∀ q ∈ FB (.slice a0 m.length c0), q ∉ F := fun q hq e => by
        have h1 := (ho.lt q (by simpa [FB] using hq)).2
        have h2 := (hrg q e).1
        omega
      have ho2 := ho.past hG2 hlt
      have hML := mkup_len 4 t hsm
      have e4 : capM 4 = 10000 := rfl
      have hGw := grown_trans hG hG2
      have HM := hide (mkdrawn_any w2 w.heap.size _ m 4 _ _ _ _ _ t F hN ho2 hF hGw.size (by omega))
      have hbl := ho2.base_le
      clear HD HO hN hrg hnd hsm ho hF hC hG2
      go_wp2_with fail
      refine (unhide HM).mono ?_
      rintro e w3 ⟨v3, rfl, ho3, hg3⟩
      have HE := hide (show L3k w0 w g code l (10000 * (j + 1)) v3 w3 from ⟨_, ho3, by rw [List.length_append]; omega, hC2.keep hg3 (fun e => by have := hbl g e.symm; omega) (fun q hq => by have := hbl q hq; omega), grown_new hGw hg3 hbl⟩)
      clear HM ho3 hg3 ho2 hC2 hGw hML e4 hbl
      go_wp2_with fail
      go_roundw
      case rel => exact ⟨j + 1, by omega, by go_num, unhide HE⟩
      case measure => simp [intOf]; omega
    · have hjn' : ¬ (j : Int) < (n : Int) := by omega
      have HE := hide (show L3k w0 w g code l 30000 _ wr from ⟨m, ho, by omega, hC, hG⟩)
      have HO := hide (l1Once_any w0 wr g code l 2 hC (by decide) (by decide))
      clear ho hC hG hm
      go_wp2_with fail
      refine (unhide HO).mono ?_
      rintro e w2 ⟨bb, rfl, hC2, hG2⟩
      obtain ⟨m, ho, hm, _, hG⟩ := unhide HE
      have HE2 := hide (show L3k w0 w g code l 30000 _ w2 from ⟨m, ho.past hG2 hlt, hm, hC2, grown_trans hG hG2⟩)
      clear HO HE ho hm hC2 hG hG2
      go_upto_if 22 with fail
      go_cut [3] from 6 to 50 (fun b wx => L3k w0 w g code l 31000 b wx)
      case first =>
        cases bb with
        | false =>
          go_wp2_with fail
          go_meet
          obtain ⟨m, ho, hm, hC, hG⟩ := unhide HE2
          exact ⟨m, ho, by omega, hC, hG⟩
        | true =>
          obtain ⟨m, ho, hm, hC, hG⟩ := unhide HE2
          have HO := hide (l1Below_any w0 w2 g code l 5 hC (by decide) (by decide))
          clear ho hm hC hG
          go_wp2_with fail
          refine (unhide HO).mono ?_
          rintro e w3 ⟨k, hk0, hk1, rfl, hC3, hG3⟩
          obtain ⟨m, ho, hm, _, hG⟩ := unhide HE2
          have ho3 := ho.past hG3 hlt
          have hG3 := grown_trans hG hG3
          clear HO HE2 ho hG
          obtain ⟨k, rfl⟩ := Int.eq_ofNat_of_zero_le hk0
          go_wp2_with fail
          go_loopw [3, 7] (fun b i wr => ∃ j : Nat, j ≤ k ∧ i = .int .i64 j ∧ L3k w0 w g code l (30000 + 30 * j) b wr) (fun _ i _ => k - (intOf i).toNat)
          case atStart => exact ⟨0, Nat.zero_le _, rfl, m, ho3, by omega, hC3, hG3⟩
          case round =>
            clear ho3 hC3 hG3 hm
            obtain ⟨j, hj, rfl, m, ho, hm, hC, hG⟩ := hrel
            by_cases hjn : j < k
            · have hjn' : (j : Int) < (k : Int) := by omega
              obtain ⟨a0, c0, hv, _, _⟩ := ho.byt.shape
              subst hv
              have HO := hide (l1Below_any w0 wr g code l ((m.length : Int) + 1) hC (by omega) (by omega))
              have HW := hide (And.intro ho hG)
              clear ho hC hG
              go_wp2_with fail
              refine (unhide HO).mono ?_
              rintro e w4 ⟨p, hp0, hp1, rfl, hC4, hG4⟩
              obtain ⟨ho, hG⟩ := unhide HW
              have ho4 := ho.past hG4 hlt
              have hG4' := grown_trans hG hG4
              clear HO HW ho hG hG4
              obtain ⟨p, rfl⟩ := Int.eq_ofNat_of_zero_le hp0
              have hA := (Below.refl w4.heap.size w4).alloc (Nat.le_refl _) (.cells #[.string ⟨#[60]⟩, .string ⟨#[62]⟩, .string ⟨#[60, 47, 112, 62]⟩, .string ⟨#[60, 66, 62]⟩, .string ⟨#[60, 98, 114, 47, 62]⟩, .string ⟨#[38, 108, 116]⟩, .string ⟨#[60, 112, 32, 99, 108, 97, 115, 115, 61, 120, 32, 107, 61, 39, 121, 39, 32, 75, 61, 34, 122, 34]⟩, .string ⟨#[38, 103, 116, 59]⟩, .string ⟨#[10]⟩, .string ⟨#[60, 47]⟩, .string ⟨#[60, 49, 62]⟩, .string ⟨#[0, 255]⟩, .string ⟨#[60, 108, 105, 62, 60, 108, 105, 62]⟩, .string ⟨#[61]⟩, .string ⟨#[34]⟩, .string ⟨#[60, 47, 100, 105, 118, 32]⟩, .string ⟨#[60, 105, 32, 97, 32, 98, 61, 62]⟩] 9)
              have lt := Loc.made w4 #[.string ⟨#[60]⟩, .string ⟨#[62]⟩, .string ⟨#[60, 47, 112, 62]⟩, .string ⟨#[60, 66, 62]⟩, .string ⟨#[60, 98, 114, 47, 62]⟩, .string ⟨#[38, 108, 116]⟩, .string ⟨#[60, 112, 32, 99, 108, 97, 115, 115, 61, 120, 32, 107, 61, 39, 121, 39, 32, 75, 61, 34, 122, 34]⟩, .string ⟨#[38, 103, 116, 59]⟩, .string ⟨#[10]⟩, .string ⟨#[60, 47]⟩, .string ⟨#[60, 49, 62]⟩, .string ⟨#[0, 255]⟩, .string ⟨#[60, 108, 105, 62, 60, 108, 105, 62]⟩, .string ⟨#[61]⟩, .string ⟨#[34]⟩, .string ⟨#[60, 47, 100, 105, 118, 32]⟩, .string ⟨#[60, 105, 32, 97, 32, 98, 61, 62]⟩] 9
              have HC := hide (l1Below_any w0 _ g code l 17 (hC4.keepAll hA) (by omega) (by omega))
              have LL := hide (And.intro hA (And.intro lt (And.intro ho4 hG4')))
              have hg4 := hC4.lt
              clear hA lt hC4 ho4 hG4'
              go_wp2_with fail
              refine (unhide HC).mono ?_
              rintro e w5 ⟨x, hx0, hx1, rfl, hC5, hG5⟩
              obtain ⟨hA, lt, ho4, hG4⟩ := unhide LL
              clear LL HC
              have lt1 := lt.frm (Frm.ofGrown hG5) (by simp; omega)
              have ho5 := (ho4.keep hA).past hG5 hlt
              have hG5' := grown_trans (grown_below hG4 hA) hG5
              obtain ⟨x, rfl⟩ := Int.eq_ofNat_of_zero_le hx0
              obtain ⟨s, hs, hs30⟩ := tab17 x (by omega)
              have hcx : w5.cell? ⟨w4.heap.size, x, none⟩ = some (.string s) := (lt1.cell x).trans hs
              have hx17 : (x : Int) < 17 := hx1
              clear hA lt lt1 ho4 hG4 hG5 hs
              go_upto_region 14 with fail
              clear hcx
              generalize w4.heap.size = tb at *
              have hs5 := hG5'.size
              have hlt5 := hC5.lt
              have hpm : p ≤ m.length := by omega
              have hp0' : (0 : Int) ≤ (p : Int) := by omega
              have hpm' : (p : Int) ≤ (m.length : Int) := by omega
              rcases ho5.2.2 with ⟨e0, e1⟩ | ⟨q, cap, cur, e0, hq, _, hmc, hcm, _, _⟩
              · injection e0 with x1 _ x3
                subst x1 x3
                obtain rfl : m = [] := List.eq_nil_of_length_eq_zero e1
                simp only [List.length_nil] at hpm
                obtain rfl : p = 0 := by omega
                have hr1 : Byt w5 (.slice none 0 0) (([] : List Int).take 0) := ⟨by simpa using okB_nil, by simp [maxLen], .inl ⟨rfl, rfl⟩⟩
                have hcut : Byt w5 (.slice none 0 0) (([] : List Int).drop 0) := hr1
                go_wp2_with fail
                go_region_law (first | (refine step_app rfl (.tmp 40) (.tmp 43) rfl w5.heap.size _ [] (by rfl) (own_none _) _ (([] : List Int).take 0) (by rfl) (hr1.alloc _) (by first | (simp; done) | (simp; omega)) (by simp) ?_; intro v6 w6 ho6 hg6; have hB6 : Below w5.heap.size w5 w6 := bstepBy (((Below.refl _ _).alloc (Nat.le_refl _) _).drew) hg6 (fun r hr => by simp [Value.ownBlock] at hr; omega)) | (refine step_apps rfl (.tmp 44) (.tmp 45) rfl w5.heap.size _ ([] ++ ([] : List Int).take 0) (by rfl) ho6 s (strL s) (by rfl) (strL_cells s) (strL_ok s) (by first | (simp [strL_len]; done) | (simp [strL_len]; omega)) hB6.size ?_; intro v7 w7 ho7 hg7; have hB7 : Below w5.heap.size w5 w7 := bstepBy hB6 hg7 ho6.base_le) | (refine step_app rfl (.tmp 46) (.tmp 49) rfl w5.heap.size _ ([] ++ ([] : List Int).take 0 ++ strL s) (by rfl) ho7 _ (([] : List Int).drop 0) (by rfl) (hcut.keep hB7) (by first | (simp [strL_len]; done) | (simp [strL_len]; omega)) hB7.size ?_; intro v8 w8 ho8 hg8))
                have hB8 : Below w5.heap.size w5 w8 := bstepBy hB7 hg8 ho7.base_le
                have HE := hide (show L3k w0 w g code l (30000 + 30 * (j + 1)) v8 w8 from ⟨_, ho8.down hs5, by simp only [List.length_append, List.length_take, List.length_drop, strL_len, List.length_nil]; omega, hC5.keepAll hB8, grown_below hG5' hB8⟩)
                clear hB8 hB7 hB6 ho8 ho7 ho6 hg8 hg7 hg6 hr1 hcut ho5 hC5 hG5'
                go_wp2_with fail
                go_roundw
                case rel => exact ⟨j + 1, by omega, by go_num, unhide HE⟩
                case measure => simp [intOf]; omega
              · injection e0 with x1 _ x3
                have x4 := x3.symm
                subst x1 x4
                have hr1 := ho5.take p hpm cap (by omega) hcm
                have hcut := ho5.cutO hpm (by omega) hcm
                have hpc : (p : Int) ≤ (cap : Int) := by omega
                have hmc' : (m.length : Int) ≤ (cap : Int) := by omega
                by_cases hcj : cap = p
                · subst hcj
                  obtain hcc : m.length = cap := by omega
                  have hcut : Byt w5 (.slice (some ⟨q, 0, none⟩) 0 0) (m.drop cap) := by
                    have hd0 : m.drop cap = [] := List.drop_eq_nil_of_le (by omega)
                    rw [hd0]
                    exact ⟨okB_nil, by simp [maxLen], .inr (.inl ⟨_, 0, rfl, by simp [maxLen], rfl⟩)⟩
                  have HCC := hide hcc
                  clear hcc
                  go_wp2_with fail
                  go_region_law (first | (refine step_app rfl (.tmp 40) (.tmp 43) rfl w5.heap.size _ [] (by rfl) (own_none _) _ (m.take cap) (by rfl) (hr1.alloc _) (by first | (simp; done) | (simp; omega)) (by simp) ?_; intro v6 w6 ho6 hg6; have hB6 : Below w5.heap.size w5 w6 := bstepBy (((Below.refl _ _).alloc (Nat.le_refl _) _).drew) hg6 (fun r hr => by simp [Value.ownBlock] at hr; omega)) | (refine step_apps rfl (.tmp 44) (.tmp 45) rfl w5.heap.size _ ([] ++ m.take cap) (by rfl) ho6 s (strL s) (by rfl) (strL_cells s) (strL_ok s) (by first | (simp [strL_len]; done) | (simp [strL_len]; omega)) hB6.size ?_; intro v7 w7 ho7 hg7; have hB7 : Below w5.heap.size w5 w7 := bstepBy hB6 hg7 ho6.base_le) | (refine step_app rfl (.tmp 46) (.tmp 49) rfl w5.heap.size _ ([] ++ m.take cap ++ strL s) (by rfl) ho7 _ (m.drop cap) (by rfl) (hcut.keep hB7) (by first | (simp [strL_len]; done) | (simp [strL_len]; omega)) hB7.size ?_; intro v8 w8 ho8 hg8))
                  have hB8 : Below w5.heap.size w5 w8 := bstepBy hB7 hg8 ho7.base_le
                  have HE := hide (show L3k w0 w g code l (30000 + 30 * (j + 1)) v8 w8 from ⟨_, ho8.down hs5, by simp only [List.length_append, List.length_take, List.length_drop, strL_len, List.length_nil]; have := unhide HCC; omega, hC5.keepAll hB8, grown_below hG5' hB8⟩)
                  clear hB8 hB7 hB6 ho8 ho7 ho6 hg8 hg7 hg6 hr1 hcut ho5 hC5 hG5'
                  go_wp2_with fail
                  go_roundw
                  case rel => exact ⟨j + 1, by omega, by go_num, unhide HE⟩
                  case measure => simp [intOf]; omega
                · go_wp2_with fail
                  go_region_law (first | (refine step_app rfl (.tmp 40) (.tmp 43) rfl w5.heap.size _ [] (by rfl) (own_none _) _ (m.take p) (by rfl) (hr1.alloc _) (by first | (simp; done) | (simp; omega)) (by simp) ?_; intro v6 w6 ho6 hg6; have hB6 : Below w5.heap.size w5 w6 := bstepBy (((Below.refl _ _).alloc (Nat.le_refl _) _).drew) hg6 (fun r hr => by simp [Value.ownBlock] at hr; omega)) | (refine step_apps rfl (.tmp 44) (.tmp 45) rfl w5.heap.size _ ([] ++ m.take p) (by rfl) ho6 s (strL s) (by rfl) (strL_cells s) (strL_ok s) (by first | (simp [strL_len]; done) | (simp [strL_len]; omega)) hB6.size ?_; intro v7 w7 ho7 hg7; have hB7 : Below w5.heap.size w5 w7 := bstepBy hB6 hg7 ho6.base_le) | (refine step_app rfl (.tmp 46) (.tmp 49) rfl w5.heap.size _ ([] ++ m.take p ++ strL s) (by rfl) ho7 _ (m.drop p) (by rfl) (hcut.keep hB7) (by first | (simp [strL_len]; done) | (simp [strL_len]; omega)) hB7.size ?_; intro v8 w8 ho8 hg8))
                  have hB8 : Below w5.heap.size w5 w8 := bstepBy hB7 hg8 ho7.base_le
                  have HE := hide (show L3k w0 w g code l (30000 + 30 * (j + 1)) v8 w8 from ⟨_, ho8.down hs5, by simp only [List.length_append, List.length_take, List.length_drop, strL_len, List.length_nil]; omega, hC5.keepAll hB8, grown_below hG5' hB8⟩)
                  clear hB8 hB7 hB6 ho8 ho7 ho6 hg8 hg7 hg6 hr1 hcut ho5 hC5 hG5'
                  go_wp2_with fail
                  go_roundw
                  case rel => exact ⟨j + 1, by omega, by go_num, unhide HE⟩
                  case measure => simp [intOf]; omega
            · have hjn' : ¬ (j : Int) < (k : Int) := by omega
              have HE := hide (show L3k w0 w g code l 31000 _ wr from ⟨m, ho, by omega, hC, hG⟩)
              clear ho hC hG
              go_wp2_with fail
              go_meet
              exact unhide HE
      case rest =>
      obtain ⟨m, ho, hm, hC, hG⟩ := hcut
      obtain ⟨a0, c0, hv, _, _⟩ := ho.byt.shape
      subst hv
      have HO := hide (l1Once_any w0 wc g code l 8 hC (by decide) (by decide))
      have HW := hide (And.intro ho hG)
      clear ho hC hG HE2
      go_wp2_with fail
      refine (unhide HO).mono ?_
      rintro e w3 ⟨b8, rfl, hC3, hG3⟩
      obtain ⟨ho, hG⟩ := unhide HW
      have HE3 := hide (And.intro (ho.past hG3 hlt) (And.intro hC3 (grown_trans hG hG3)))
      clear HO HW ho hC3 hG hG3
      go_upto_if 52 with fail
      go_cut [3] from 53 to 55 (fun b wx => L3k w0 w g code l 1000001 b wx)
      case first =>
        obtain ⟨ho, hC, hG⟩ := unhide HE3
        cases b8 with
        | false =>
          have HE := hide (show L3k w0 w g code l 1000001 _ w3 from ⟨m, ho, by omega, hC, hG⟩)
          clear ho hC hG HE3
          go_wp2_with fail
          go_meet
          exact unhide HE
        | true =>
          have HS := hide (l1spoil_any w0 w3 g code l _ m hC ho.byt (by omega))
          have hsz := hG.size
          clear ho hC HE3
          go_wp2_with fail
          refine (unhide HS).mono ?_
          rintro e w4 ⟨v4, rfl, m4, ho4, hm4, hC4, hG4⟩
          have HE := hide (show L3k w0 w g code l 1000001 v4 w4 from ⟨m4, ho4.down hsz, hm4, hC4, grown_trans hG hG4⟩)
          clear ho4 hm4 hC4 hG4 hG HS
          go_wp2_with fail
          go_meet
          exact unhide HE
      case rest =>
      obtain ⟨m, ho, hm, hC, hG⟩ := hcut
      obtain ⟨a0, c0, hv, _, _⟩ := ho.byt.shape
      subst hv
      have HO := hide (l1Once_any w0 wc g code l 40 hC (by decide) (by decide))
      have HW := hide (And.intro ho hG)
      clear ho hC hG HE3
      go_wp2_with fail
      refine (unhide HO).mono ?_
      rintro e w4 ⟨b9, rfl, hC4, hG4⟩
      obtain ⟨ho, hG⟩ := unhide HW
      have ho4 := ho.past hG4 hlt
      have hG4' := grown_trans hG hG4
      have HE := hide (And.intro ho4 (And.intro hC4 hG4'))
      clear HO HW ho hC4 hG hG4 ho4 hG4'
      cases b9 with
      | false =>
        go_wp2_with fail
        go_ret
        exact ⟨_, rfl, m, (unhide HE).1.byt, (unhide HE).2.1, (unhide HE).2.2⟩
      | true =>
        go_wp2_with fail
        go_loopw [3] (fun b wr => L3k w0 w g code l 1000001 b wr) (fun b _ => 1501 - lenV b)
        case atStart => exact ⟨m, (unhide HE).1, hm, (unhide HE).2.1, (unhide HE).2.2⟩
        case round =>
          clear HE hm
          obtain ⟨m, ho, hm, hC, hG⟩ := hrel
          obtain ⟨a0, c0, hv, _, _⟩ := ho.byt.shape
          subst hv
          by_cases hlm : m.length ≤ 1500
          · have hlm' : (m.length : Int) ≤ 1500 := by omega
            have hbl := ho.base_le
            have HO := hide ho
            have hsz := hG.size
            clear ho
            go_wp2_with (at_builtin; refine wpList_apps rfl _ _ rfl w.heap.size _ m rfl (unhide HO) _ [60, 112, 62, 120] rfl rfl (fun x hx => by simp at hx; omega) (by simp; omega) hsz ?_)
            intro v5 w5 ho5 hg5
            obtain ⟨a5, c5, hv5, _, _⟩ := ho5.byt.shape
            subst hv5
            have HE := hide (show L3k w0 w g code l 1000001 _ w5 from ⟨_, ho5, by simp; omega, hC.keep hg5 (fun e => by have := hbl g e.symm; omega) (fun q hq => by have := hbl q hq; omega), grown_new hG hg5 hbl⟩)
            have hl5 : (m ++ [60, 112, 62, 120]).length = m.length + 4 := by simp
            generalize (m ++ [60, 112, 62, 120]).length = n5 at *
            clear ho5 hg5 hC hG HO
            go_wp2_with fail
            go_roundw
            case rel => exact unhide HE
            case measure => simp [lenV]; omega
          · have hlm' : ¬ (m.length : Int) ≤ 1500 := by omega
            have HE := hide (And.intro ho.byt (And.intro hC hG))
            clear ho hC hG
            go_wp2_with fail
            go_ret
            exact ⟨_, rfl, m, (unhide HE).1, (unhide HE).2.1, (unhide HE).2.2⟩
end Go.Proofs.YtaoodcielfabdaaGreat

/- 'append(row, x)' where the row's block may bear a conversion's mark. -/
namespace Go.Proofs.YtaoodcielfabdaaGreat
open Go.RowKit
set_option linter.unusedVariables false

theorem heap_set_mark (w : World) (g i : Nat) (cs : Array Value) (t : TypeId) (fr : Nat × Nat) (v : Value) (hg : w.heap[g]? = some (.cells cs t fr)) : (w.setCell ⟨g, i, none⟩ v).heap[g]? = some (.cells (cs.setIfInBounds i v) t fr) := by
  unfold World.setCell
  simp [Array.getElem?_modify, hg]
theorem frozen_mark (w : World) (g j : Nat) (cs : Array Value) (t : TypeId) (fr : Nat × Nat) (hg : w.heap[g]? = some (.cells cs t fr)) (hj : ¬ (fr.1 ≤ j ∧ j < fr.2)) : w.frozen? ⟨g, j, none⟩ = false := by
  unfold World.frozen?
  simp only [hg]
  simpa using hj
theorem set_grownM (w : World) (g j : Nat) (v : Value) : w.grownBy (w.setCell ⟨g, j, none⟩ v) (some g) := ⟨rfl, rfl, rfl, by simp, fun k _ hk => heap_setCell_other w ⟨g, j, none⟩ k v (fun e => hk (by simp [e]))⟩
theorem grown_any {w w' : World} (h : w.grownBy w' none) (row : Option Nat) : w.grownBy w' row := ⟨h.os, h.tape, h.output, h.size, fun k hk _ => h.block k hk (by simp)⟩

theorem run_appM {w : World} (ty : TypeId) (base : Nat) (v : Value) (l : List Int) (hrow : RowM w base v l) (b c : Nat) (x : Int) (hx0 : 0 ≤ x) (hx1 : x ≤ 255) (hc : w.cell? ⟨b, 0, none⟩ = some (.int .u8 x)) (hby : Byt w (.slice (some ⟨b, 0, none⟩) 1 c) [x]) (hlen : l.length ≤ 1000) (hbase : base ≤ w.heap.size) :
    ∃ v' w', (Builtin.append_ #[22, 22] ty #[v, .slice (some ⟨b, 0, none⟩) 1 c]).run Tryz.prog w = .ok v' w' ∧ RowM w' base v' (l ++ [x]) ∧ w.grownBy w' v.ownBlock ∧ (v'.ownBlock = v.ownBlock ∨ ∀ q, v'.ownBlock = some q → w.heap.size ≤ q) := by
  obtain ⟨i0, hi, hz0, hz1, hz2⟩ := info_parts Tryz.info5
  have hnews : ∀ j u, ([.int .u8 x] : List Value)[j]? = some u → w.cell? ((⟨b, 0, none⟩ : Addr).add j) = some u := by
    intro j u hj
    match j, hj with
    | 0, hj => rw [add_plain, hc]; simpa using hj
  rcases hrow.2 with ⟨rfl, rfl⟩ | ⟨g, cap, cur, fz, rfl, hb, hg, hf, h1, h2, h3, h4⟩
  · obtain ⟨v', w', hr, h1, h2, h3⟩ := run_appAt (w := w) ty base (.slice none 0 0) [] ⟨okB_nil, rfl, .inl ⟨rfl, rfl⟩⟩ (.slice (some ⟨b, 0, none⟩) 1 c) [x] hby (by simp) hbase
    exact ⟨v', w', hr, h1.rowm, h2, h3.imp id (fun e q hq => by rw [e] at hq; cases hq; exact Nat.le_refl _)⟩
  · have hgl : g < w.heap.size := (Array.getElem?_eq_some_iff.1 hg).1
    by_cases hroom : l.length + 1 ≤ cap
    · have hrun := run_append_room_cells (P := Tryz.prog) w 22 ty 5 i0 Tryz.underlying22 hi g 0 l.length cap ⟨b, 0, none⟩ 1 c [.int .u8 x] (by rw [hz1]; rfl) hnews (by intro u hu; simp at hu; subst hu; rfl) hroom
        (by intro j hj; simp at hj; subst hj; rw [hz1, cell_of_row w g _ cur _ fz hg]; simp; omega)
        (by intro j hj; simp at hj; subst hj; rw [hz1]; exact frozen_mark w g _ cur _ fz hg (hf _ (by simp; omega)))
      refine ⟨_, _, hrun, ?_, ?_, .inl rfl⟩
      · refine ⟨hrow.1.app (okB.one hx0 hx1), .inr ⟨g, cap, cur.setIfInBounds l.length (.int .u8 x), fz, by simp, hb, ?_, hf, by simp; omega, h2, by simpa using h3, ?_⟩⟩
        · rw [hz1]
          have := heap_set_mark w g l.length cur _ fz (.int .u8 x) hg
          simpa [World.setCells] using this
        · have hlc : l.length < cur.toList.length := by simp; omega
          rw [Array.toList_setIfInBounds, List.length_append, vals_app, ← h4]
          simp only [List.length_cons, List.length_nil, Nat.zero_add]
          have hlc2 : l.length < (cur.toList.set l.length (.int .u8 x)).length := by simpa using hlc
          rw [List.take_succ_eq_append_getElem hlc2, List.getElem_set_self, List.take_set_of_le (Nat.le_refl _)]
          rfl
      · rw [hz1]
        have := set_grownM w g l.length (.int .u8 x)
        simpa [World.setCells, Value.ownBlock] using this
    · obtain ⟨v', w', hrun, hown, hgr⟩ := run_append_arg_grows (P := Tryz.prog) w 22 ty 5 i0 (.int .u8 0) 1 1 Tryz.underlying22 hi hz0 hz1 hz2 rfl (by decide) ⟨g, 0, none⟩ l.length cap (vals l) (by rw [vals_len]; omega) (by
          intro j u hj
          have hlt : j < l.length := by
            by_cases hlt : j < l.length
            · exact hlt
            · rw [List.getElem?_eq_none (by rw [vals_len]; omega)] at hj; cases hj
          rw [add_plain, Nat.zero_add, cell_of_row w g j cur _ fz hg]
          have := take_at h4 hlt
          rw [hj] at this
          simpa using this) ⟨b, 0, none⟩ 1 c [.int .u8 x] rfl hnews (by omega) (by unfold maxLen; omega) (by omega)
      have hO : Own w' w.heap.size v' (l ++ [x]) := ⟨hrow.1.app (okB.one hx0 hx1), by rw [vals_app, List.length_append]; exact hown⟩
      refine ⟨v', w', hrun, (hO.rowm.mono hbase), grown_any hgr _, .inr (fun q hq => (hO.lt q hq).1)⟩
theorem wpList_appM {w : World} {ops : Array Oper} {rest : List Oper} {o : Oper} {a : Act} {Q : Exit → Act → World → Prop} (hgd : o.guard = none) (s x : Operand)
    (ho : o.op = .call { callee := .builtin .append, args := #[s, x], argTypes := #[22, 22] })
    (base : Nat) (v : Value) (l : List Int) (hs : a.eval s = v) (hrow : RowM w base v l) (b c : Nat) (n : Int) (hx : a.eval x = .slice (some ⟨b, 0, none⟩) 1 c) (hx0 : 0 ≤ n) (hx1 : n ≤ 255) (hc : w.cell? ⟨b, 0, none⟩ = some (.int .u8 n)) (hby : Byt w (.slice (some ⟨b, 0, none⟩) 1 c) [n])
    (hlen : l.length ≤ 1000) (hbase : base ≤ w.heap.size)
    (h : ∀ v' w', RowM w' base v' (l ++ [n]) → w.grownBy w' v.ownBlock → (v'.ownBlock = v.ownBlock ∨ ∀ q, v'.ownBlock = some q → w.heap.size ≤ q) → wpList Tryz.prog ops Q rest (a.put o.dst v') w') : wpList Tryz.prog ops Q (o :: rest) a w := by
  refine wpList_plain hgd fun K hK' => ?_
  obtain ⟨v', w', hr, h1, h2, h3⟩ := run_appM o.type base v l hrow b c n hx0 hx1 hc hby hlen hbase
  unfold Oper.wp execOp
  simp only [ho, resolve, invoke, builtin, Sem.run_bind, Sem.run_pure, Result.andThen_ok, List.map_toArray, List.map_cons, List.map_nil, hs, hx, hr]
  exact hK' _ _ (h v' w' h1 h2 h3)
end Go.Proofs.YtaoodcielfabdaaGreat

/- A zone of memory: every block from B on whose elements are bytes, attributes or nodes bears what its type says. No program. -/
namespace Go.Proofs.YtaoodcielfabdaaGreat
open Go.RowKit
set_option linter.unusedVariables false

def isZ (T : TypeId) : Prop := T = 5 ∨ T = 109 ∨ T = 26
/-- What the i-th cell of a block is: 0 a byte, 1 an int, 2 a row of bytes, 3 of attributes, 4 of nodes. -/
def kindAt (T : TypeId) (i : Nat) : Nat := if T = 26 then (if i % 5 = 0 then 1 else if i % 5 = 3 then 3 else if i % 5 = 4 then 4 else 2) else if T = 109 then 2 else 0
def elT (q : Nat) : TypeId := if q = 0 then 5 else if q = 1 then 109 else 26
def elS (q : Nat) : Nat := if q = 0 then 1 else if q = 1 then 2 else 5
theorem isZ_elT (q : Nat) : isZ (elT q) := by
  unfold isZ elT
  split
  · exact .inl rfl
  · split
    · exact .inr (.inl rfl)
    · exact .inr (.inr rfl)
theorem elS_pos (q : Nat) : 0 < elS q := by
  unfold elS
  split
  · decide
  · split <;> decide
theorem kind_per (q k j : Nat) : kindAt (elT q) (k * elS q + j) = kindAt (elT q) j := by
  unfold kindAt elT elS
  by_cases h0 : q = 0
  · simp [h0]
  · by_cases h1 : q = 1
    · simp [h1]
    · have : (k * 5 + j) % 5 = j % 5 := by omega
      simp [h0, h1, this]
theorem kind_mod (q j : Nat) : kindAt (elT q) (j % elS q) = kindAt (elT q) j := by
  have := kind_per q (j / elS q) (j % elS q)
  rw [← this, Nat.mul_comm, Nat.div_add_mod]
def ZB (w : World) (g : Nat) (T : TypeId) (m : Nat) : Prop := ∃ cur fz, w.heap[g]? = some (.cells cur T fz) ∧ cur.size = m
def ZSl (w : World) (B N : Nat) (T : TypeId) (sz : Nat) (v : Value) : Prop := ∃ a n c, v = .slice a n c ∧ n ≤ c ∧ n ≤ N ∧ c ≤ maxLen ∧ ((a = none ∧ c = 0) ∨ ∃ g, a = some ⟨g, 0, none⟩ ∧ B ≤ g ∧ ZB w g T (c * sz))
def ZV (w : World) (B N : Nat) : Nat → Value → Prop
  | 0 => fun v => ∃ x, v = .int .u8 x ∧ 0 ≤ x ∧ x ≤ 255
  | 1 => fun v => ∃ x, v = .int .i64 x
  | q + 2 => fun v => ZSl w B N (elT q) (elS q) v
def Zone (w : World) (B N : Nat) : Prop := ∀ k cur T fz, B ≤ k → w.heap[k]? = some (.cells cur T fz) → isZ T → (∀ j, j < cur.size → ¬ (fz.1 ≤ j ∧ j < fz.2)) ∧ ∀ i v, cur[i]? = some v → ZV w B N (kindAt T i) v
/-- What a step in the zone leaves as it was. -/
structure Zs (B : Nat) (S : List Nat) (w w' : World) : Prop where
  os : w'.os = w.os
  tape : w'.tape = w.tape
  output : w'.output = w.output
  size : w.heap.size ≤ w'.heap.size
  low : ∀ k, k < B → w'.heap[k]? = w.heap[k]?
  zb : ∀ k T m, isZ T → ZB w k T m → ZB w' k T m
  oth : ∀ k, k < w.heap.size → k ∉ S → (∀ T m, ZB w k T m → ¬ isZ T) → w'.heap[k]? = w.heap[k]?
theorem ZB.lt {w : World} {g : Nat} {T : TypeId} {m : Nat} (h : ZB w g T m) : g < w.heap.size := by
  obtain ⟨cur, fz, h, _⟩ := h
  exact (Array.getElem?_eq_some_iff.1 h).1
theorem ZB.of {w w' : World} {g : Nat} {T : TypeId} {m : Nat} (h : ZB w g T m) (e : w'.heap[g]? = w.heap[g]?) : ZB w' g T m := by
  obtain ⟨cur, fz, h, hs⟩ := h
  exact ⟨cur, fz, e.trans h, hs⟩
theorem Zs.refl (B : Nat) (S : List Nat) (w : World) : Zs B S w w := ⟨rfl, rfl, rfl, Nat.le_refl _, fun _ _ => rfl, fun _ _ _ _ h => h, fun _ _ _ _ => rfl⟩
theorem Zs.trans {B : Nat} {S : List Nat} {a b c : World} (h : Zs B S a b) (k : Zs B S b c) : Zs B S a c :=
  ⟨k.os.trans h.os, k.tape.trans h.tape, k.output.trans h.output, Nat.le_trans h.size k.size, fun i hi => (k.low i hi).trans (h.low i hi), fun i T m hT hz => k.zb i T m hT (h.zb i T m hT hz), fun i hi hn hz => by
    have e := h.oth i hi hn hz
    exact (k.oth i (Nat.lt_of_lt_of_le hi h.size) hn (fun T m hb => hz T m (hb.of e.symm))).trans e⟩
theorem Zs.more {B : Nat} {S S' : List Nat} {a b : World} (h : Zs B S a b) (hs : ∀ q ∈ S, q ∈ S') : Zs B S' a b := ⟨h.os, h.tape, h.output, h.size, h.low, h.zb, fun k hk hn hz => h.oth k hk (fun e => hn (hs k e)) hz⟩
theorem Zs.any {B : Nat} {S : List Nat} {a b : World} (h : Zs B [] a b) : Zs B S a b := h.more (fun _ hq => by cases hq)
theorem Zs.below {B : Nat} {S : List Nat} {a b : World} (h : Zs B S a b) : Below B a b := ⟨h.os, h.tape, h.output, h.size, fun i hi => h.low i hi⟩
theorem ZSl.step {B N N' : Nat} {S : List Nat} {w w' : World} {q : Nat} {sz : Nat} {v : Value} (h : ZSl w B N (elT q) sz v) (z : Zs B S w w') (hN : N ≤ N') : ZSl w' B N' (elT q) sz v := by
  obtain ⟨a, n, c, rfl, h1, h2, h3, h4⟩ := h
  exact ⟨a, n, c, rfl, h1, Nat.le_trans h2 hN, h3, h4.imp id (fun ⟨g, e, hb, hz⟩ => ⟨g, e, hb, z.zb _ _ _ (isZ_elT q) hz⟩)⟩
theorem ZV.step {B N N' : Nat} {S : List Nat} {w w' : World} {q : Nat} {v : Value} (h : ZV w B N q v) (z : Zs B S w w') (hN : N ≤ N') : ZV w' B N' q v := by
  match q, h with
  | 0, h => exact h
  | 1, h => exact h
  | q + 2, h => exact ZSl.step h z hN
theorem ZV.one {w : World} {B N q : Nat} {v : Value} (h : ZV w B N q v) : v.oneCell' = true := by
  match q, h with
  | 0, h => obtain ⟨x, rfl, _⟩ := h; rfl
  | 1, h => obtain ⟨x, rfl⟩ := h; rfl
  | q + 2, h => obtain ⟨a, n, c, rfl, _⟩ := h; rfl
theorem Zone.mono {w : World} {B N N' : Nat} (h : Zone w B N) (hN : N ≤ N') : Zone w B N' := fun k cur T fz hk hc hT => ⟨(h k cur T fz hk hc hT).1, fun i v hv => ((h k cur T fz hk hc hT).2 i v hv).step (Zs.refl B [] w) hN⟩
theorem Zone.cell {w : World} {B N : Nat} (h : Zone w B N) {g : Nat} {T : TypeId} {m : Nat} (hz : ZB w g T m) (hT : isZ T) (hB : B ≤ g) {i : Nat} (hi : i < m) :
    ∃ v, w.cell? ⟨g, i, none⟩ = some v ∧ ZV w B N (kindAt T i) v ∧ w.frozen? ⟨g, i, none⟩ = false := by
  obtain ⟨cur, fz, hc, rfl⟩ := hz
  obtain ⟨h1, h2⟩ := h g cur T fz hB hc hT
  exact ⟨cur[i], by rw [cell_of_row w g i cur T fz hc]; simp [hi], h2 i _ (by simp [hi]), frozen_mark w g i cur T fz hc (h1 i hi)⟩
/-- A block's cells were replaced. -/
theorem Zone.row {w w' : World} {B N g : Nat} {cur cur' : Array Value} {T : TypeId} {fz : Nat × Nat} (h : Zone w B N) (hT : isZ T) (hB : B ≤ g) (hg : w.heap[g]? = some (.cells cur T fz)) (hsz : cur'.size = cur.size)
    (hv : ∀ i v, cur'[i]? = some v → ZV w B N (kindAt T i) v) (h' : w'.heap[g]? = some (.cells cur' T fz)) (ho : w.grownBy w' (some g)) (hs : w'.heap.size = w.heap.size) : Zone w' B N ∧ Zs B [] w w' := by
  have hgl : g < w.heap.size := (Array.getElem?_eq_some_iff.1 hg).1
  have hz : Zs B [] w w' := by
    refine ⟨ho.os, ho.tape, ho.output, ho.size, fun k hk => ho.block k (by omega) (by simp; omega), fun k T' m hT' hb => ?_, fun k hk _ hn => ho.block k hk (fun e => ?_)⟩
    · by_cases hk : k = g
      · subst hk
        obtain ⟨c1, f1, e1, s1⟩ := hb
        rw [hg] at e1
        cases e1
        exact ⟨cur', fz, h', by omega⟩
      · exact hb.of (ho.block k hb.lt (by simpa using hk))
    · cases e
      exact hn T cur.size ⟨cur, fz, hg, rfl⟩ hT
  refine ⟨fun k c1 T1 f1 hk hc hT1 => ?_, hz⟩
  by_cases hkg : k = g
  · subst hkg
    rw [h'] at hc
    cases hc
    refine ⟨fun j hj => (h k cur _ _ hk hg hT).1 j (by omega), fun i v hi => (hv i v hi).step hz (Nat.le_refl _)⟩
  · have hlt : k < w.heap.size := by have := (Array.getElem?_eq_some_iff.1 hc).1; omega
    have hc' := hc
    rw [ho.block k hlt (by simpa using hkg)] at hc'
    obtain ⟨h1, h2⟩ := h k c1 T1 f1 hk hc' hT1
    exact ⟨h1, fun i v hi => (h2 i v hi).step hz (Nat.le_refl _)⟩
/-- One cell was stored. -/
theorem Zone.set {w : World} {B N g i m : Nat} {T : TypeId} {v : Value} (h : Zone w B N) (hT : isZ T) (hB : B ≤ g) (hz : ZB w g T m) (hv : ZV w B N (kindAt T i) v) :
    Zone (w.setCell ⟨g, i, none⟩ v) B N ∧ Zs B [] w (w.setCell ⟨g, i, none⟩ v) := by
  obtain ⟨cur, fz, hg, rfl⟩ := hz
  refine h.row hT hB hg (cur' := cur.setIfInBounds i v) (by simp) (fun j u hj => ?_) (heap_set_mark w g i cur T fz v hg) (set_grownM w g i v) (by simp)
  by_cases hji : j = i
  · subst hji
    rw [Array.getElem?_setIfInBounds] at hj
    simp at hj
    obtain ⟨_, rfl⟩ := hj
    exact hv
  · rw [Array.getElem?_setIfInBounds, if_neg (by omega)] at hj
    exact (h g cur T fz hB hg hT).2 j u hj
/-- A block was made. -/
theorem Zone.new {w w' : World} {B N : Nat} {cs : Array Value} {T : TypeId} {fz : Nat × Nat} (h : Zone w B N) (hB : B ≤ w.heap.size) (h' : w'.heap[w.heap.size]? = some (.cells cs T fz)) (ho : Below w.heap.size w w') (hs : w'.heap.size = w.heap.size + 1)
    (hv : isZ T → (∀ j, j < cs.size → ¬ (fz.1 ≤ j ∧ j < fz.2)) ∧ ∀ i v, cs[i]? = some v → ZV w B N (kindAt T i) v) : Zone w' B N ∧ Zs B [] w w' := by
  have hz : Zs B [] w w' := ⟨ho.os, ho.tape, ho.output, ho.size, fun k hk => ho.block k (by omega), fun k T' m hT' hb => hb.of (ho.block k hb.lt), fun k hk _ hn => ho.block k hk⟩
  refine ⟨fun k c1 T1 f1 hk hc hT1 => ?_, hz⟩
  by_cases hkg : k = w.heap.size
  · subst hkg
    rw [h'] at hc
    cases hc
    exact ⟨(hv hT1).1, fun i v hi => ((hv hT1).2 i v hi).step hz (Nat.le_refl _)⟩
  · have hlt : k < w.heap.size := by have := (Array.getElem?_eq_some_iff.1 hc).1; omega
    have hc' := hc
    rw [ho.block k hlt] at hc'
    obtain ⟨h1, h2⟩ := h k c1 T1 f1 hk hc' hT1
    exact ⟨h1, fun i v hi => (h2 i v hi).step hz (Nat.le_refl _)⟩
theorem Zone.alloc {w : World} {B N : Nat} {cs : Array Value} {T : TypeId} (h : Zone w B N) (hB : B ≤ w.heap.size) (hv : isZ T → ∀ i v, cs[i]? = some v → ZV w B N (kindAt T i) v) :
    Zone (w.alloc (.cells cs T)) B N ∧ Zs B [] w (w.alloc (.cells cs T)) :=
  h.new hB (heap_alloc_new w _) ((Below.refl _ _).alloc (Nat.le_refl _) _) (by simp) (fun hT => ⟨fun j _ hj => by simp at hj, hv hT⟩)
theorem Zone.drew {w : World} {B N : Nat} (h : Zone w B N) : Zone w.drew B N := h
theorem Zs.drew {B : Nat} {S : List Nat} {w w' : World} (h : Zs B S w w') : Zs B S w w'.drew := ⟨h.os, h.tape, h.output, h.size, h.low, h.zb, h.oth⟩
theorem ZB.made (w : World) (cs : Array Value) (T : TypeId) : ZB (w.alloc (.cells cs T)) w.heap.size T cs.size := ⟨cs, _, heap_alloc_new w _, rfl⟩
/-- A box of another type. -/
theorem Loc.zs {B : Nat} {S : List Nat} {w w' : World} {g : Nat} {cs : Array Value} {T : TypeId} (h : Loc w g cs T) (z : Zs B S w w') (hn : g ∉ S) (hT : ¬ isZ T) : Loc w' g cs T :=
  (z.oth g h.lt hn (fun T' m ⟨c1, f1, e1, _⟩ => by unfold Loc at h; rw [h] at e1; cases e1; exact hT)).trans h
/-- A row of bytes of the zone can be read. -/
theorem Zone.byt {w : World} {B N : Nat} (h : Zone w B N) {v : Value} (hv : ZSl w B N 5 1 v) (hN : N ≤ 1000000000) : ∃ l, Byt w v l ∧ l.length ≤ N := by
  obtain ⟨a, n, c, rfl, h1, h2, h3, ⟨rfl, rfl⟩ | ⟨g, rfl, hB, hz⟩⟩ := hv
  · obtain rfl : n = 0 := by omega
    exact ⟨[], ⟨okB_nil, by simp [maxLen], .inl ⟨rfl, rfl⟩⟩, by simp⟩
  · by_cases h0 : n = 0
    · subst h0
      exact ⟨[], ⟨okB_nil, by simp [maxLen], .inr (.inl ⟨_, c, rfl, h3, rfl⟩)⟩, by simp⟩
    have key : ∀ i, i < n → ∃ x : Int, w.cell? ⟨g, i, none⟩ = some (.int .u8 x) ∧ 0 ≤ x ∧ x ≤ 255 := fun i hi => by
      obtain ⟨u, hu, hk, _⟩ := h.cell hz (.inl rfl) hB (i := i) (by omega)
      have hk' : ZV w B N 0 u := by simpa [kindAt] using hk
      obtain ⟨x, rfl, hx⟩ := hk'
      exact ⟨x, hu, hx⟩
    let f : Nat → Int := fun i => if hi : i < n then Classical.choose (key i hi) else 0
    have hf : ∀ i, i < n → w.cell? ⟨g, i, none⟩ = some (.int .u8 (f i)) ∧ 0 ≤ f i ∧ f i ≤ 255 := fun i hi => by
      have := Classical.choose_spec (key i hi)
      simp only [f, hi, dif_pos]
      exact this
    refine ⟨(List.range n).map f, ⟨?_, by simp [maxLen]; omega, .inr (.inr ⟨g, 0, c, by simp, by simp; exact h1, h3, by intro e; simp at e; omega, hz.lt, fun i hi => ?_⟩)⟩, by simp; exact h2⟩
    · intro x hx
      obtain ⟨i, hi, rfl⟩ := List.mem_map.1 hx
      exact (hf i (by simpa using hi)).2
    · have hi' : i < n := by simpa using hi
      rw [Nat.zero_add, (hf i hi').1]
      simp [hi']
end Go.Proofs.YtaoodcielfabdaaGreat
