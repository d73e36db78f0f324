/- Own texts joined: FoA, CloneI, ToT3, Apart, CopyI, CopyL, SdM. -/
import Derived.Test.YtnfafchajjclaaaGreatDoorJa
import Derived.Test.YtnfafchajjclaaaGreatDoorJb
import Derived.Test.YtnfafchajjclaaaGreatDoorJc
import Derived.Test.YtnfafchajjclaaaGreatDoorJd
import Derived.Test.YtnfafchajjclaaaGreatDoorJe
import Derived.Test.YtnfafchajjclaaaGreatDoorJf
import Derived.Deep.RegionLaw
import Derived.Lib.BufferMore
import Derived.Deep.RegionHeld3

/- The forest's add. -/
namespace Go.Proofs.YtnfafchajjclaaaGreatDoor
open Go.RowKit Go.Maps
set_option linter.unusedVariables false
set_option maxRecDepth 100000

theorem FSet.store {B : Nat} {o p : Value} {w : World} {g : Nat} (h : FSet B o p w g) (o' : Value) : FSet B o' p (w.setCell ⟨g, 0, none⟩ o') g := by
  rcases h with h | ⟨m, hm, h, hv⟩
  · exact .inl (h.set 0 o')
  · refine .inr ⟨m, hm, h.set 0 o', (heap_setCell_other w ⟨g, 0, none⟩ m o' (fun e => ?_)).trans hv⟩
    have e : m = g := e
    unfold Loc at h
    obtain ⟨es, c, ev⟩ := void_map
    rw [← e, hv, ev] at h
    cases h
set_option maxHeartbeats 6400000 in
theorem add_any {B : Nat} {w : World} {g mb : Nat} {a : Option Addr} {c : Nat} {l : List PlV} {F : List Nat} (h : FoS B w g mb a c l F) (p : PlV) (k n t s : Option Addr) (ck cn ct cs : Nat) (G : List Nat)
    (hp : OwPlM w [.int .i64 p.idN, .int .i64 p.idR, .int .i64 p.parN, .int .i64 p.parR, .slice k p.key.length ck, .int .i64 p.kind, .slice n p.name.length cn, .slice t p.text.length ct, .slice s p.attrs.length cs] p G) (hGn : G.Nodup) (hGB : ∀ q ∈ G, B ≤ q) (hFG : ∀ q ∈ F, q ∉ G) (hid : okI p.id) (hpar : okI p.par) (hnew : posP l p.id = none) (hlen : l.length + 1 ≤ 100000) :
    Calls Tryz.prog 61 #[.pointer (some ⟨g, 0, none⟩), .agg #[.int .i64 p.idN, .int .i64 p.idR, .int .i64 p.parN, .int .i64 p.parR, .slice k p.key.length ck, .int .i64 p.kind, .slice n p.name.length cn, .slice t p.text.length ct, .slice s p.attrs.length cs]] w fun e w' => e = .returned (.tuple #[]) ∧ ∃ a' c' F', FoS B w' g mb a' c' (l ++ [p]) F' ∧ Frm w w' (g :: mb :: F) ∧ ∀ q ∈ F', q ∈ F ∨ q ∈ G ∨ w.heap.size ≤ q := by
  refine calls_via ?_
  intro Q HQ
  obtain ⟨i0, hi0, hz0, hz1, hz2⟩ := info_parts pl_info
  have hA : Below w.heap.size w (w.alloc (.cells #[.int .i64 p.idN, .int .i64 p.idR, .int .i64 p.parN, .int .i64 p.parR, .slice k p.key.length ck, .int .i64 p.kind, .slice n p.name.length cn, .slice t p.text.length ct, .slice s p.attrs.length cs] 107)) := (Below.refl _ _).alloc (Nat.le_refl _) _
  have hA1 : Below w.heap.size w (w.alloc (.cells #[.int .i64 p.idN, .int .i64 p.idR, .int .i64 p.parN, .int .i64 p.parR, .slice k p.key.length ck, .int .i64 p.kind, .slice n p.name.length cn, .slice t p.text.length ct, .slice s p.attrs.length cs] 107)).drew := hA.drew
  have lb := (Loc.made w #[.int .i64 p.idN, .int .i64 p.idR, .int .i64 p.parN, .int .i64 p.parR, .slice k p.key.length ck, .int .i64 p.kind, .slice n p.name.length cn, .slice t p.text.length ct, .slice s p.attrs.length cs] 107).all ((Below.refl _ _).drew)
  have h1 := h.keep hA1
  obtain ⟨w2, hrun, hm2, hg2⟩ := h1.map.put p hid hnew (by omega)
  obtain ⟨cs1, lg, hc0, hc1⟩ := h1.set.loc
  have g0 := (lg.cell 0).trans hc0
  have g1 := (lg.cell 1).trans hc1
  have b0 := lb.cell 0
  have b1 := lb.cell 1
  have f2 : Frm (w.alloc (.cells #[.int .i64 p.idN, .int .i64 p.idR, .int .i64 p.parN, .int .i64 p.parR, .slice k p.key.length ck, .int .i64 p.kind, .slice n p.name.length cn, .slice t p.text.length ct, .slice s p.attrs.length cs] 107)).drew w2 [mb] := Frm.ofGrown hg2
  have hgm := h1.gm
  have hmF := h1.mF
  have hgF := h1.gF
  have s2 : FSet (mb + 1) (.slice a l.length c) (.map (some mb)) w2 g := h1.set.frm f2 (by simpa using hgm) (fun q hq => .inl (by have e : q = mb := (by simpa using hq); omega))
  have r2 := h1.row.frm f2 (fun q hq e => hmF (by have e9 : q = mb := (by simpa using e); rw [← e9]; exact hq))
  have hnb : w.heap.size ∉ [mb] := fun e => by have e9 : w.heap.size = mb := (by simpa using e); have := h.map.lt; omega
  have lb2 := lb.frm f2 hnb
  have p2 : OwPlM w2 [.int .i64 p.idN, .int .i64 p.idR, .int .i64 p.parN, .int .i64 p.parR, .slice k p.key.length ck, .int .i64 p.kind, .slice n p.name.length cn, .slice t p.text.length ct, .slice s p.attrs.length cs] p G := (hp.frm (Frm.ofBelow hA1 []) (fun _ _ => by simp)).frm f2 (fun q hq e => by
    have e9 : q = mb := by simpa using e
    subst e9
    obtain ⟨es, k', e'⟩ := h.map.isMap
    exact (hp.typ q hq).notMap e')
  have hl63 := h.len
  have HX := hide (And.intro h (And.intro hA1 (And.intro f2 (And.intro s2 (And.intro r2 (And.intro lb2 (And.intro p2 hm2)))))))
  have HG := hide (And.intro hGn (And.intro hGB (And.intro hFG (And.intro hid hpar))))
  have HM := hide (And.intro hgm (And.intro hmF hgF))
  unfold idVal at hrun
  have hrun' : (Instr.mapUpdate 70 (.map (some mb)) (.agg #[.int .i64 p.idN, .int .i64 p.idR]) (.int .i64 (l.length : Int))).run Tryz.prog (w.alloc (.cells #[.int .i64 p.idN, .int .i64 p.idR, .int .i64 p.parN, .int .i64 p.parR, .slice k p.key.length ck, .int .i64 p.kind, .slice n p.name.length cn, .slice t p.text.length ct, .slice s p.attrs.length cs] 107)).drew = .ok () w2 := hrun
  clear h hp hGn hGB hFG hid hpar hnew hA hA1 h1 lg hc0 hc1 lb f2 hgm hmF hgF s2 r2 lb2 p2 hm2 hg2 hrun
  go_enter Tryz.func61, Tryz.ntmps61
  go_wp2_with fail
  go_region
  clear g0 g1 b0 b1 hrun'
  obtain ⟨h, hA1, f2, s2, r2, lb2, p2, hm2⟩ := unhide HX
  obtain ⟨hGn, hGB, hFG, hid, hpar⟩ := unhide HG
  obtain ⟨hgm, hmF, hgF⟩ := unhide HM
  have hd2 : Below w2.heap.size w2 w2.drew := (Below.refl _ _).drew
  have hb23 : Below w2.heap.size w2 (w2.alloc (.cells #[.int .i64 p.idN, .int .i64 p.idR, .int .i64 p.parN, .int .i64 p.parR, .slice k p.key.length ck, .int .i64 p.kind, .slice n p.name.length cn, .slice t p.text.length ct, .slice s p.attrs.length cs] 107)).drew := ((Below.refl _ _).alloc (Nat.le_refl _) _).drew
  have hb3 := hb23
  have s3 := s2.frm (Frm.ofBelow hb23 []) (by simp) (fun q hq => by cases hq)
  have s2d := s2.frm (Frm.ofBelow hd2 []) (by simp) (fun q hq => by cases hq)
  obtain ⟨cs2, lg2, hc2, _⟩ := s2d.loc
  obtain ⟨cs3, lg3, hc3, _⟩ := s3.loc
  have g0 : w2.drew.cell? ⟨g, 0, none⟩ = some (.slice a l.length c) := (lg2.cell 0).trans hc2
  have g0' : (w2.alloc (.cells #[.int .i64 p.idN, .int .i64 p.idR, .int .i64 p.parN, .int .i64 p.parR, .slice k p.key.length ck, .int .i64 p.kind, .slice n p.name.length cn, .slice t p.text.length ct, .slice s p.attrs.length cs] 107)).drew.cell? ⟨g, 0, none⟩ = some (.slice a l.length c) := (lg3.cell 0).trans hc3
  have lbd := lb2.all hd2
  have p0 : w2.drew.cell? ⟨w.heap.size, 0, none⟩ = _ := lbd.cell 0
  have p1 : w2.drew.cell? ⟨w.heap.size, 1, none⟩ = _ := lbd.cell 1
  have p2_ : w2.drew.cell? ⟨w.heap.size, 2, none⟩ = _ := lbd.cell 2
  have p3 : w2.drew.cell? ⟨w.heap.size, 3, none⟩ = _ := lbd.cell 3
  have p4 : w2.drew.cell? ⟨w.heap.size, 4, none⟩ = _ := lbd.cell 4
  have p5 : w2.drew.cell? ⟨w.heap.size, 5, none⟩ = _ := lbd.cell 5
  have p6 : w2.drew.cell? ⟨w.heap.size, 6, none⟩ = _ := lbd.cell 6
  have p7 : w2.drew.cell? ⟨w.heap.size, 7, none⟩ = _ := lbd.cell 7
  have p8 : w2.drew.cell? ⟨w.heap.size, 8, none⟩ = _ := lbd.cell 8
  have hsz2 : w2.drew.heap.size = w2.heap.size := rfl
  have hvF : ∀ q ∈ FB (.slice a l.length c), q ∈ F := fun q hq => by
    obtain ⟨_, _, _, _, _, _, e⟩ := r2
    rw [e]
    exact List.mem_append_left _ hq
  have HP := hide (show OwPlsM (w2.alloc (.cells #[.int .i64 p.idN, .int .i64 p.idR, .int .i64 p.parN, .int .i64 p.parR, .slice k p.key.length ck, .int .i64 p.kind, .slice n p.name.length cn, .slice t p.text.length ct, .slice s p.attrs.length cs] 107)).drew (.slice a l.length c) l F ∧ F.Nodup ∧ OwPlM (w2.alloc (.cells #[.int .i64 p.idN, .int .i64 p.idR, .int .i64 p.parN, .int .i64 p.parR, .slice k p.key.length ck, .int .i64 p.kind, .slice n p.name.length cn, .slice t p.text.length ct, .slice s p.attrs.length cs] 107)).drew [.int .i64 p.idN, .int .i64 p.idR, .int .i64 p.parN, .int .i64 p.parR, .slice k p.key.length ck, .int .i64 p.kind, .slice n p.name.length cn, .slice t p.text.length ct, .slice s p.attrs.length cs] p G ∧ G.Nodup ∧ (∀ g ∈ F, g ∉ G) ∧ (∀ q, q ∈ F ∨ q ∈ G → q < (w2.alloc (.cells #[.int .i64 p.idN, .int .i64 p.idR, .int .i64 p.parN, .int .i64 p.parR, .slice k p.key.length ck, .int .i64 p.kind, .slice n p.name.length cn, .slice t p.text.length ct, .slice s p.attrs.length cs] 107)).drew.heap.size) from by
    refine ⟨OwPlsM.frm r2 (Frm.ofBelow hb23 []) (fun _ _ => by simp), h.nd, p2.frm (Frm.ofBelow hb23 []) (fun _ _ => by simp), hGn, hFG, fun q hq => ?_⟩
    have := hb23.size
    rcases hq with hq | hq
    · have := OwPlsM.lt r2 q hq
      omega
    · have := p2.lt q hq
      omega)
  have hcl : ∀ (i : Nat) (u : Value), ([.int .i64 p.idN, .int .i64 p.idR, .int .i64 p.parN, .int .i64 p.parR, .slice k p.key.length ck, .int .i64 p.kind, .slice n p.name.length cn, .slice t p.text.length ct, .slice s p.attrs.length cs])[i]? = some u → (w2.alloc (.cells #[.int .i64 p.idN, .int .i64 p.idR, .int .i64 p.parN, .int .i64 p.parR, .slice k p.key.length ck, .int .i64 p.kind, .slice n p.name.length cn, .slice t p.text.length ct, .slice s p.attrs.length cs] 107)).drew.cell? ((⟨w2.heap.size, 0, none⟩ : Addr).add i) = some u := fun i u hu => World.news_of_block (w := (w2.alloc (.cells #[.int .i64 p.idN, .int .i64 p.idR, .int .i64 p.parN, .int .i64 p.parR, .slice k p.key.length ck, .int .i64 p.kind, .slice n p.name.length cn, .slice t p.text.length ct, .slice s p.attrs.length cs] 107)).drew) (heap_alloc_new w2 (.cells #[.int .i64 p.idN, .int .i64 p.idR, .int .i64 p.parN, .int .i64 p.parR, .slice k p.key.length ck, .int .i64 p.kind, .slice n p.name.length cn, .slice t p.text.length ct, .slice s p.attrs.length cs] 107)) i u (by simpa using hu)
  have HF2 := hide f2
  have HS3 := hide (And.intro s3 (And.intro (hm2.frm (Frm.ofBelow hb23 []) (by simp)) (And.intro hcl (f2.trans (Frm.ofBelow hb23 _)))))
  have hgv : g ∉ FB (.slice a l.length c) := fun e => hgF (hvF g e)
  have hmv : mb ∉ FB (.slice a l.length c) := fun e => hmF (hvF mb e)
  clear hcl s3 s2 s2d lg2 lg3 hc2 hc3 lbd lb2 r2 p2 hm2 f2 hb23 hd2 HX HG HM
  go_wp2_with fail
  go_region_law (refine step_push (R := OwPlM) (fun h f d => OwPlM.frm h f d) (by rfl) (.tmp 19) (.tmp 21) 30 (by rfl) 107 i0 (.agg #[.int .i64 0, .int .i64 0, .int .i64 0, .int .i64 0, .slice none 0 0, .int .i64 0, .slice none 0 0, .slice none 0 0, .slice none 0 0]) 9 136 Tryz.underlying30 hi0 hz0 hz1 hz2 rfl (by decide) _ l F (by rfl) (unhide HP).1 (unhide HP).2.1 ⟨w2.heap.size, 0, none⟩ 1 [.int .i64 p.idN, .int .i64 p.idR, .int .i64 p.parN, .int .i64 p.parR, .slice k p.key.length ck, .int .i64 p.kind, .slice n p.name.length cn, .slice t p.text.length ct, .slice s p.attrs.length cs] p G (by rfl) rfl (unhide HS3).2.2.1 (by intro y hy; simp at hy; rcases hy with rfl | rfl | rfl | rfl | rfl | rfl | rfl | rfl | rfl <;> rfl) (unhide HP).2.2.1 (unhide HP).2.2.2.1 (unhide HP).2.2.2.2.1 (unhide HP).2.2.2.2.2 (by unfold maxLen; omega) (by omega) ?_; intro g9 cap9 w9 F9 hF9 hN9 hM9 hf9 hg9; have s9 := (unhide HS3).1.frm hf9 hgv (fun q hq => .inr ((OwPlsM.typ (unhide HP).1 q (hvF q hq)).cells)); obtain ⟨cs9, lg9, hc9, _⟩ := s9.loc; have c09 := (lg9.cell 0).trans hc9; have z09 := lg9.frozen 0)
  all_goals
    have fs := set_frm w9 g 0 (.slice (some ⟨g9, 0, none⟩) (l.length + 1) cap9)
    have hgF9 : g ∉ F9 := fun e => (OwPlsM.typ hF9 g e).notL (by decide) lg9
    have h9 : FoS B (w9.setCell ⟨g, 0, none⟩ (.slice (some ⟨g9, 0, none⟩) (l.length + 1) cap9)) g mb (some ⟨g9, 0, none⟩) cap9 (l ++ [p]) F9 := by
      have hll : (l ++ [p]).length = l.length + 1 := by simp
      refine ⟨by rw [hll]; exact s9.store _, ((unhide HS3).2.1.frm hf9 hmv).frm fs (by simpa using fun e => hgm e.symm), by rw [hll]; exact OwPlsM.frm hF9 fs (fun q hq e => hgF9 (by have e9 : q = g := (by simpa using e); rw [← e9]; exact hq)), hN9, fun q hq => ?_, h.geg, h.gem, fun q hq => ?_, by rw [hll]; exact hlen⟩
      · rcases hM9 q hq with e | e | e
        · exact h.ge q e
        · exact hGB q e
        · have := h.geg
          have := h.set.lt
          have := hA1.size
          have := (unhide HS3).2.2.2.size
          have e1 : (w2.alloc (.cells #[.int .i64 p.idN, .int .i64 p.idR, .int .i64 p.parN, .int .i64 p.parR, .slice k p.key.length ck, .int .i64 p.kind, .slice n p.name.length cn, .slice t p.text.length ct, .slice s p.attrs.length cs] 107)).drew.heap.size = w2.heap.size + 1 := by simp [World.drew]
          have := hb3.size
          have e2 := (show Frm _ w2 [mb] from unhide HF2).size
          omega
      · rcases List.mem_append.1 hq with hq | hq
        · exact h.ids q hq
        · have e : q = p := by simpa using hq
          rw [e]
          exact ⟨hid, hpar⟩
    have hfr : Frm w (w9.setCell ⟨g, 0, none⟩ (.slice (some ⟨g9, 0, none⟩) (l.length + 1) cap9)) (g :: mb :: F) := by
      refine (Frm.ofBelow hA1 _).trans (((unhide HS3).2.2.2.mono ?_).trans ((hf9.mono ?_).trans (fs.mono ?_)))
      · intro q hq; have e : q = mb := (by simpa using hq); simp [e]
      · intro q hq; simp [hvF q hq]
      · intro q hq; have e : q = g := (by simpa using hq); simp [e]
    have hsub : ∀ q ∈ F9, q ∈ F ∨ q ∈ G ∨ w.heap.size ≤ q := fun q hq => by
      rcases hM9 q hq with e | e | e
      · exact .inl e
      · exact .inr (.inl e)
      · right; right
        have := hA1.size
        have := (unhide HS3).2.2.2.size
        have := hb3.size
        have e2 := (show Frm _ w2 [mb] from unhide HF2).size
        omega
    have HE := hide (unhide HQ (.returned (.tuple #[])) _ ⟨rfl, _, _, F9, h9, hfr, hsub⟩)
    clear h9 hfr hsub fs HQ hF9 hN9 hM9 hf9 s9 lg9 hc9 HP HS3
    go_wp2_with fail
    go_end0
    exact unhide HE
end Go.Proofs.YtnfafchajjclaaaGreatDoor

/- bytes.Clone at a readable row answers the same bytes in memory of its own. -/
namespace Go.Proofs.YtnfafchajjclaaaGreatDoor
open Go.RowKit
set_option linter.unusedVariables false
set_option maxRecDepth 100000

set_option maxHeartbeats 1600000 in
theorem clone_any (w : World) (v : Value) (l : List Int) (h : Byt w v l) (hl : l.length ≤ 67108864) :
    Calls Tryz.prog 100 #[v] w fun e w' => ∃ v', e = .returned v' ∧ Own w' w.heap.size v' l ∧ Below w.heap.size w w' := by
  by_cases hv : v = .slice none 0 0
  · subst hv
    have hl0 : l = [] := by
      obtain ⟨a, c, e, _⟩ := h.shape
      injection e with _ e2 _
      exact List.eq_nil_of_length_eq_zero e2.symm
    subst hl0
    have hq := Lib.run_eql_slice_nil_nil (P := Tryz.prog) w 0 0 Tryz.underlying22
    go_enter Tryz.func100, Tryz.ntmps100
    go_wp2_with fail
    go_ret
    exact ⟨_, rfl, ⟨okB_nil, World.ownsRow_nil _ _ _ _⟩, Below.refl _ _⟩
  · obtain ⟨x, c, rfl⟩ : ∃ x c, v = .slice (some x) l.length c := by
      obtain ⟨_, _, ⟨e, _⟩ | ⟨x, cap, rfl, hc, rfl⟩ | ⟨p, off, cap, rfl, _⟩⟩ := h
      · exact absurd e hv
      · exact ⟨x, cap, rfl⟩
      · exact ⟨_, cap, rfl⟩
    have hq := Lib.run_eql_slice_some_nil (P := Tryz.prog) w x l.length c Tryz.underlying22
    go_enter Tryz.func100, Tryz.ntmps100
    go_wp2_with (at_builtin; refine wpList_app rfl _ _ rfl w.heap.size _ [] rfl (own_none w) _ l rfl (h.alloc _) ?c1 ?c2 ?_)
    case c1 => first | omega | (simp; omega)
    case c2 => simp
    intro v1 w1 ho1 hg1
    have hB1 : Below w.heap.size w w1 := bstepBy ((Below.refl _ _).alloc (Nat.le_refl _) _) hg1 (fun g hg => by simp [Value.ownBlock] at hg; omega)
    clear hg1
    go_wp2
    go_ret
    exact ⟨_, rfl, ho1, hB1⟩
end Go.Proofs.YtnfafchajjclaaaGreatDoor

/- The laws' own copy of a slice of attributes, of nodes, of a whole tree: the walks. -/
namespace Go.Proofs.YtnfafchajjclaaaGreatDoor
open Go.RowKit
set_option linter.unusedVariables false

theorem szA_one {l : List (List Int × List Int)} {k : Nat} (h : k < l.length) : l[k].1.length + l[k].2.length ≤ szA l := by
  have h1 := sumTo_step (fun x : List Int × List Int => x.1.length + x.2.length) l k h
  have h2 := sumTo_le (fun x : List Int × List Int => x.1.length + x.2.length) l (k + 1)
  unfold szA
  omega
theorem szK_one {n : Nat} {l : List (Tr n)} {k : Nat} (h : k < l.length) : szT n l[k] ≤ szK n l := by
  have h1 := sumTo_step (szT n) l k h
  have h2 := sumTo_le (szT n) l (k + 1)
  unfold szK
  omega

set_option maxHeartbeats 3200000 in
theorem toAttrS_any (w : World) (v : Value) (l : List (List Int × List Int)) (h : RdAttrs w v l) (hs : szA l ≤ 2097152) :
    Calls Tryz.prog 27 #[v] w fun e w' => ∃ a c, e = .returned (.slice a l.length c) ∧ ∃ F, OwAttrs w' (.slice a l.length c) l F ∧ F.Nodup ∧ Rng F w.heap.size w'.heap.size ∧ Below w.heap.size w w' := by
  obtain ⟨i0, hi, hz0, hz1, hz2⟩ := info_parts Tryz.info108
  have hm := h.1
  have hlen : l.length ≤ 2097152 := by unfold szA at hs; omega
  by_cases h0 : l = []
  · obtain ⟨a, cap, rfl, _⟩ := Elems.shape h
    subst h0
    go_enter Tryz.func27, Tryz.ntmps27
    go_wp2_with (at_make; refine wpList_make_full _ rfl _ _ 35 rfl w.heap.size 108 i0 _ 2 Tryz.underlying35 hi hz0 hz1 .i64 .i64 _ _ 0 rfl rfl rfl rfl ?c1 ?c2 ?c3 ?_)
    case c1 => rw [hz2]; omega
    case c2 => exact Nat.zero_le _
    case c3 => exact Nat.le_refl _
    intro w1 hown hgrow
    have hB1 := Below.ofGrown hgrow
    have hH := (Half.start (α := List Int × List Int) (l := []) (R := OwAttr w1) (w.heap.size + 1) (ownsRow_base hown 0 (Nat.zero_le _))).whole rfl (by omega)
    have HH := hide hH
    clear hown hgrow hH
    go_wp2_with fail
    refine wp_loop_rounds 1 ?_
    rw [rounds_succ]
    go_wp2_with fail
    go_ret
    obtain ⟨F, hF, hnd, hr⟩ := unhide HH
    exact ⟨_, _, rfl, F, hF, hnd, hr, hB1⟩
  obtain ⟨_, ⟨_, e⟩ | ⟨_, _, _, _, e⟩ | ⟨b, off, cap, rfl, g1, g2, g3, g4, g5⟩⟩ := h
  · exact absurd e h0
  · exact absurd e h0
  go_enter Tryz.func27, Tryz.ntmps27
  go_wp2_with (at_make; refine wpList_make_full _ rfl _ _ 35 rfl w.heap.size 108 i0 _ 2 Tryz.underlying35 hi hz0 hz1 .i64 .i64 _ _ l.length rfl rfl rfl rfl ?c1 ?c2 ?c3 ?_)
  case c1 => rw [hz2]; omega
  case c2 => exact hm
  case c3 => exact Nat.le_refl _
  intro w1 hown hgrow
  have hB1 := Below.ofGrown hgrow
  have hH := Half.start (α := List Int × List Int) (l := l) (R := OwAttr w1) (w.heap.size + 1) (ownsRow_base hown 0 (Nat.zero_le _))
  have hlt1 := (hown.lt w.heap.size rfl).2
  clear hown hgrow
  go_wp2_with fail
  go_loopw [4] (fun i wr => ∃ k : Nat, k ≤ l.length ∧ i = .int .i64 k ∧ Half wr 108 2 w.heap.size l.length l (OwAttr wr) (w.heap.size + 1) k ∧ Below w.heap.size w wr ∧ w.heap.size + 1 ≤ wr.heap.size) (fun i _ => l.length - (intOf i).toNat)
  case atStart => exact ⟨0, Nat.zero_le _, rfl, hH, hB1, by omega⟩
  case round =>
    obtain ⟨k, hk, rfl, hr, hB, hsz⟩ := hrel
    clear hH hB1 hlt1
    by_cases hlt : k < l.length
    · obtain ⟨c0, c1, e0, e1, hc⟩ := two_of (g5 k hlt)
      obtain ⟨_, _, ee, hc0, hc1⟩ := hc
      simp only [List.cons.injEq, and_true] at ee
      obtain ⟨rfl, rfl⟩ := ee
      replace e0 := (hB.cell (p := ⟨b, off + k * 2, none⟩) g4).trans e0
      replace e1 := (hB.cell (p := ⟨b, off + k * 2 + 1, none⟩) g4).trans e1
      have hlt' : (k : Int) < (l.length : Int) := by omega
      clear g5
      go_wp2_with fail
      refine (toAttr_any wr _ _ l[k] (hc0.keep hB) (hc1.keep hB) (by have := szA_one hlt; omega)).mono ?_
      rintro e w2 ⟨a1, k1, a2, k2, rfl, G, hO, hnd, hrg, hB2⟩
      have hrow : ∃ xs : List Value, w2.ownsRow 0 108 2 (.slice (some ⟨w.heap.size, 0, none⟩) l.length l.length) l.length xs := by
        obtain ⟨_, _, xs, _, _, _, h4, _⟩ := hr.laid
        exact ⟨xs, ownsRow_frm h4 (Frm.ofBelow hB2 []) (fun _ _ => by simp)⟩
      obtain ⟨xs, hx⟩ := hrow
      have hxl := hx.1
      have q0 : w2.cell? ⟨w.heap.size, k * 2, none⟩ = some (xs[k * 2]'(by omega)) := by rw [hx.cellAt (k * 2) (by omega), List.getElem?_eq_getElem (by omega)]
      have q1 : w2.cell? ⟨w.heap.size, k * 2 + 1, none⟩ = some (xs[k * 2 + 1]'(by omega)) := by rw [hx.cellAt (k * 2 + 1) (by omega), List.getElem?_eq_getElem (by omega)]
      have f0 := hx.frozenAt (k * 2)
      have f1 := hx.frozenAt (k * 2 + 1)
      generalize xs[k * 2]'(by omega) = y0 at q0
      generalize xs[k * 2 + 1]'(by omega) = y1 at q1
      have hf : Frm w2 ((w2.setCell ⟨w.heap.size, k * 2, none⟩ (.slice a1 l[k].1.length k1)).setCell ⟨w.heap.size, k * 2 + 1, none⟩ (.slice a2 l[k].2.length k2)) [w.heap.size] := (set_frm w2 _ _ _).trans (set_frm _ _ _ _)
      have hstep : Half ((w2.setCell ⟨w.heap.size, k * 2, none⟩ (.slice a1 l[k].1.length k1)).setCell ⟨w.heap.size, k * 2 + 1, none⟩ (.slice a2 l[k].2.length k2)) 108 2 w.heap.size l.length l (OwAttr ((w2.setCell ⟨w.heap.size, k * 2, none⟩ (.slice a1 l[k].1.length k1)).setCell ⟨w.heap.size, k * 2 + 1, none⟩ (.slice a2 l[k].2.length k2))) (w.heap.size + 1) (k + 1) := by
        refine hr.step hlt (by omega) hsz hB2 [.slice a1 l[k].1.length k1, .slice a2 l[k].2.length k2] G rfl ?_ hnd hrg ?_ hf ?_
        · obtain ⟨_, _, e, o1, o2, rfl⟩ := hO
          exact ⟨_, _, e, o1.frm hf (fun g hg => by have := hrg g (by simp [hg]); simp; omega), o2.frm hf (fun g hg => by have := hrg g (by simp [hg]); simp; omega), rfl⟩
        · rintro C x G' ⟨u1, u2, e, o1, o2, rfl⟩ hne
          have hfb := (Frm.ofBelow hB2 [w.heap.size]).trans hf
          exact ⟨_, _, e, o1.frm hfb (fun g hg => by have := hne g (by simp [hg]); simp; omega), o2.frm hfb (fun g hg => by have := hne g (by simp [hg]); simp; omega), rfl⟩
        · intro zs hz
          have hzl := hz.1
          have t1 := (hz.stored (k * 2) (.slice a1 l[k].1.length k1)).1
          have t2 := (t1.stored (k * 2 + 1) (.slice a2 l[k].2.length k2)).1
          exact ⟨_, t2, take_two zs (k * 2) _ _ (by omega)⟩
      have HS := hide hstep
      have HB := hide (hB.trans ((hB2.mono hB.size).trans (hf.below (by have := hB2.size; have := hB.size; omega) (fun g hg => by simp at hg; omega))))
      have hs2 := hB2.size
      clear hstep hf hx hO hr hB2 hB e0 e1 hc0 hc1 hrg hnd
      go_wp2_with fail
      go_roundw
      case rel => exact ⟨k + 1, by omega, by go_num, unhide HS, unhide HB, by simp; omega⟩
      case measure => simp [intOf]; omega
    · have e : k = l.length := by omega
      subst e
      have HW := hide (hr.whole rfl (by omega))
      clear hr g5
      go_wp2_with fail
      go_ret
      obtain ⟨F, hF, hnd, hrg⟩ := unhide HW
      exact ⟨_, _, rfl, F, hF, hnd, hrg, hB⟩
end Go.Proofs.YtnfafchajjclaaaGreatDoor

/- Owned rows lie apart. -/
namespace Go.Proofs.YtnfafchajjclaaaGreatDoor
open Go.RowKit
set_option linter.unusedVariables false

end Go.Proofs.YtnfafchajjclaaaGreatDoor

/- impl.copyAttrs copies attributes into memory of its own. -/
namespace Go.Proofs.YtnfafchajjclaaaGreatDoor
open Go.RowKit
set_option linter.unusedVariables false
set_option maxRecDepth 100000

theorem two_new (w : World) (x y : Value) (T : TypeId) : ∀ (j : Nat) (u : Value), [x, y][j]? = some u → (w.alloc (.cells #[x, y] T)).cell? ((⟨w.heap.size, 0, none⟩ : Addr).add j) = some u := by
  intro j u hu
  exact World.news_of_block (heap_alloc_new w (.cells #[x, y] T)) j u (by simpa using hu)
theorem fb_apart {w w' : World} {b b' : Nat} {u v : Value} {l m : List Int} (h : Own w b u l) (k : Own w' b' v m) (hs : w.heap.size ≤ b') : (FB u ++ FB v).Nodup ∧ ∀ q ∈ FB u ++ FB v, q < w'.heap.size ∨ q < w.heap.size := by
  refine ⟨List.nodup_append.2 ⟨?_, ?_, ?_⟩, ?_⟩
  · unfold FB; cases u.ownBlock <;> simp
  · unfold FB; cases v.ownBlock <;> simp
  · intro a ha c hc e
    have h1 := (h.lt a (by simpa [FB] using ha)).2
    have h2 := (k.lt c (by simpa [FB] using hc)).1
    omega
  · intro q hq
    rcases List.mem_append.1 hq with hq | hq
    · exact .inr (h.lt q (by simpa [FB] using hq)).2
    · exact .inl (k.lt q (by simpa [FB] using hq)).2

/-- Two new copies, ready to go behind a row of attributes. -/
theorem push_two {w0n : Nat} {wr w2 w3 : World} {b2 : Nat} {v v2 v3 : Value} {l : List (List Int × List Int)} {x1 x2 : List Int} {F : List Nat} (hE : Below wr.heap.size wr w3) (h2 : Own w2 b2 v2 x1) (hB3 : Below w2.heap.size w2 w3) (h3 : Own w3 w2.heap.size v3 x2) (hs : wr.heap.size < w2.heap.size)
    (hF : OwElems wr 108 2 v l (OwAttr wr) F) (hR : Rng F w0n wr.heap.size) (hb2 : wr.heap.size < b2) {A : Array Value} {T : TypeId} :
    OwElems (w3.alloc (.cells A T)) 108 2 v l (OwAttr (w3.alloc (.cells A T))) F ∧ OwAttr (w3.alloc (.cells A T)) [v2, v3] (x1, x2) (FB v2 ++ FB v3) ∧ (FB v2 ++ FB v3).Nodup ∧ (∀ g ∈ F, g ∉ FB v2 ++ FB v3) ∧ (∀ q, q ∈ F ∨ q ∈ FB v2 ++ FB v3 → q < (w3.alloc (.cells A T)).heap.size) ∧ (wr.heap.size ∉ FB v) ∧ (∀ q ∈ FB v, q ∈ F) ∧ (∀ q ∈ FB v2 ++ FB v3, wr.heap.size < q) := by
  have hE4 : Below wr.heap.size wr (w3.alloc (.cells A T)) := bstep hE ((Below.refl _ _).alloc (Nat.le_refl _) _)
  have h24 : Own (w3.alloc (.cells A T)) b2 v2 x1 := (h2.keep hB3).alloc _
  have h34 : Own (w3.alloc (.cells A T)) w2.heap.size v3 x2 := h3.alloc _
  have hFl : ∀ g ∈ F, g < wr.heap.size := fun g hg => (hR g hg).2
  obtain ⟨nd, _⟩ := fb_apart h2 h3 (Nat.le_refl _)
  have hge : ∀ q ∈ FB v2 ++ FB v3, wr.heap.size < q ∧ q < (w3.alloc (.cells A T)).heap.size := by
    intro q hq
    rcases List.mem_append.1 hq with hq | hq
    · have := h24.lt q (by simpa [FB] using hq); omega
    · have := h34.lt q (by simpa [FB] using hq); have := (h2.lt); have h5 := hs; exact ⟨by have := h24.lt; omega, by omega⟩
  refine ⟨OwAttrs.frm hF (Frm.ofBelow hE4 []) (fun _ _ => by simp), ⟨v2, v3, rfl, h24.mono (Nat.zero_le _), h34.mono (Nat.zero_le _), rfl⟩, nd, fun g hg hg' => by have := hFl g hg; have := (hge g hg').1; omega, fun q hq => ?_, fun hq => ?_, fun q hq => ?_, fun q hq => (hge q hq).1⟩
  · rcases hq with hq | hq
    · have := hFl q hq; have := hE4.size; omega
    · exact (hge q hq).2
  · obtain ⟨_, _, _, _, _, h5, rfl⟩ := hF
    have := hFl _ (List.mem_append_left _ hq)
    omega
  · obtain ⟨_, _, _, _, _, h5, rfl⟩ := hF
    exact List.mem_append_left _ hq

set_option maxHeartbeats 6400000 in
theorem copyAttrs_any (w : World) (v : Value) (l : List (List Int × List Int)) (h : RdAttrs w v l) (hl : l.length ≤ 4194304) (hx : ∀ x ∈ l, x.1.length ≤ 4194304 ∧ x.2.length ≤ 4194304) :
    Calls Tryz.prog 110 #[v] w fun e w' => ∃ u, e = .returned u ∧ ∃ F, OwAttrs w' u l F ∧ F.Nodup ∧ Rng F w.heap.size w'.heap.size ∧ Below w.heap.size w w' := by
  obtain ⟨ad, cd, rfl, _, _⟩ := Elems.shape h
  obtain ⟨i0, hi, hz0, hz1, hz2⟩ := info_parts Tryz.info108
  have hm : (l.length : Int) ≤ 9223372036854775807 := by omega
  go_enter Tryz.func110, Tryz.ntmps110
  go_wp2_with fail
  go_loopw [3, 8] (fun b i wr => ∃ j : Nat, j ≤ l.length ∧ i = .int .i64 j ∧ ∃ F, OwAttrs wr b (l.take j) F ∧ F.Nodup ∧ Rng F w.heap.size wr.heap.size ∧ Below w.heap.size w wr) (fun _ i _ => l.length - (intOf i).toNat)
  case atStart => exact ⟨0, Nat.zero_le _, rfl, [], ⟨[], [], by simp, by simp, fun i hi => by simp at hi, World.ownsRow_nil _ _ _ _, rfl⟩, List.nodup_nil, fun g hg => by simp at hg, Below.refl _ _⟩
  case round =>
    obtain ⟨j, hj, rfl, F, hF, hN, hRg, hB⟩ := hrel
    by_cases hjl : j < l.length
    · have hst : l.take (j + 1) = l.take j ++ [l[j]] := List.take_succ_eq_append_getElem hjl
      obtain ⟨pb, poff, rfl, hpl, hun, _, C, hC, hcell, hra⟩ := h.at hjl
      clear hun
      have hxl := hx l[j] (List.getElem_mem hjl)
      obtain ⟨x, hxx⟩ : ∃ x, x = l[j] := ⟨_, rfl⟩
      rw [← hxx] at hra hst hxl
      obtain ⟨y0, y1, rfl, hy0, hy1⟩ := hra
      have q0 := hcell 0 (by omega)
      have q1 := hcell 1 (by omega)
      simp only [List.getElem?_cons_zero, List.getElem?_cons_succ, Nat.add_zero] at q0 q1
      obtain ⟨s0, g0, rfl, _, _⟩ := hy0.shape
      obtain ⟨s1, g1, rfl, _, _⟩ := hy1.shape
      have u0 : wr.cell? ⟨pb, poff + j * 2, none⟩ = some (.slice s0 x.1.length g0) := (hB.cell (p := ⟨pb, poff + j * 2, none⟩) hpl).trans q0
      have u1 : wr.cell? ⟨pb, poff + j * 2 + 1, none⟩ = some (.slice s1 x.2.length g1) := (hB.cell (p := ⟨pb, poff + j * 2 + 1, none⟩) hpl).trans q1
      have hjl' : (j : Int) < (l.length : Int) := by omega
      have hB1 : Below wr.heap.size wr (wr.alloc (.cells #[.slice s0 x.1.length g0, .slice s1 x.2.length g1] 108)) := (Below.refl _ _).alloc (Nat.le_refl _) _
      have a1 := Loc.made wr #[.slice s0 x.1.length g0, .slice s1 x.2.length g1] 108
      have HF := hide (show OwElems wr 108 2 _ (l.take j) (OwAttr wr) F from hF)
      have hlj : (l.take j).length = j := by rw [List.length_take]; omega
      have HST := hide hst
      clear hF hst hxx hcell
      go_wp2_with fail
      generalize (wr.alloc (.cells #[.slice s0 x.1.length g0, .slice s1 x.2.length g1] 108)) = w1 at *
      have hW1 := bstep hB hB1
      have H1 := hide (clone_any w1.drew (.slice s0 x.1.length g0) x.1 (hy0.keep (hW1.drew)) (by omega))
      have ad0 := a1.all ((Below.refl w1.heap.size w1).drew)
      have z0 : w1.drew.cell? ⟨wr.heap.size, 0, none⟩ = some (.slice s0 x.1.length g0) := ad0.cell 0
      have z1 : w1.drew.cell? ⟨wr.heap.size, 1, none⟩ = some (.slice s1 x.2.length g1) := ad0.cell 1
      have b0 : w1.cell? ⟨wr.heap.size, 0, none⟩ = some (.slice s0 x.1.length g0) := a1.cell 0
      have b1 : w1.cell? ⟨wr.heap.size, 1, none⟩ = some (.slice s1 x.2.length g1) := a1.cell 1
      have HR := hide hRg
      have HNd := hide hN
      clear hRg hN u0 u1
      go_region_held3 (fun w' => w'.cell? ⟨wr.heap.size, 0, none⟩ = some (.slice s0 x.1.length g0) ∧ w'.cell? ⟨wr.heap.size, 1, none⟩ = some (.slice s1 x.2.length g1))
        (first | exact ⟨by assumption, by assumption⟩ | simp [*])
        (first
          | (go_at_call 100; refine (unhide H1).mono ?_; clear H1; rintro e w2 ⟨v2, rfl, ho2, hB2⟩; have a2 := ad0.all hB2; have z0 : w2.cell? ⟨wr.heap.size, 0, none⟩ = some (.slice s0 x.1.length g0) := a2.cell 0; have z1 : w2.cell? ⟨wr.heap.size, 1, none⟩ = some (.slice s1 x.2.length g1) := a2.cell 1; have hW2 := bstep hW1.drew hB2; have hE2 : Below wr.heap.size wr w2 := bstep hB1.drew hB2; obtain ⟨p2, k2, hv2, _, _⟩ := ho2.byt.shape; subst hv2)
          | (go_at_call 100; refine (clone_any w2 (.slice s1 x.2.length g1) x.2 (hy1.keep hW2) (by omega)).mono ?_; rintro e w3 ⟨v3, rfl, ho3, hB3⟩; have a3 := a2.all hB3; have z0 : w3.cell? ⟨wr.heap.size, 0, none⟩ = some (.slice s0 x.1.length g0) := a3.cell 0; have z1 : w3.cell? ⟨wr.heap.size, 1, none⟩ = some (.slice s1 x.2.length g1) := a3.cell 1; have hW3 := bstep hW2 hB3; have hE3 : Below wr.heap.size wr w3 := bstep hE2 hB3; obtain ⟨p3, k3, hv3, _, _⟩ := ho3.byt.shape; subst hv3; have z0' : (w3.alloc (.cells #[.slice p2 x.1.length k2, .slice p3 x.2.length k3] 108)).cell? ⟨wr.heap.size, 0, none⟩ = some (.slice s0 x.1.length g0) := (a3.alloc _).cell 0; have z1' : (w3.alloc (.cells #[.slice p2 x.1.length k2, .slice p3 x.2.length k3] 108)).cell? ⟨wr.heap.size, 1, none⟩ = some (.slice s1 x.2.length g1) := (a3.alloc _).cell 1; have HY := hide (push_two (A := #[.slice p2 x.1.length k2, .slice p3 x.2.length k3]) (T := 108) hE3 ho2 hB3 ho3 (Nat.lt_of_lt_of_le a1.lt hB2.size) (unhide HF) (unhide HR) a1.lt))
          | (refine step_push (R := OwAttr) (fun h f d => OwAttr.frm h f d) rfl (.tmp 12) (.tmp 20) 35 rfl 108 i0 (.agg #[.slice none 0 0, .slice none 0 0]) 2 48 Tryz.underlying35 hi hz0 hz1 hz2 rfl (by decide) _ (l.take j) F (by rfl) (unhide HY).1 (unhide HNd) ⟨w3.heap.size, 0, none⟩ 1 [.slice p2 x.1.length k2, .slice p3 x.2.length k3] x (FB (.slice p2 x.1.length k2) ++ FB (.slice p3 x.2.length k3)) (by rfl) rfl (two_new w3 _ _ _) (by intro y hy; simp at hy; rcases hy with rfl | rfl <;> rfl) (unhide HY).2.1 (unhide HY).2.2.1 (unhide HY).2.2.2.1 (unhide HY).2.2.2.2.1 (by rw [hlj]; unfold maxLen; omega) (by rw [hlj]; omega) ?_; intro g9 cap9 w9 F9 hF9 hN9 hM9 hf9 hg9; have a9 := (a3.alloc (.cells #[.slice p2 x.1.length k2, .slice p3 x.2.length k3] 108)).frm hf9 ((unhide HY).2.2.2.2.2.1); have z0 : w9.cell? ⟨wr.heap.size, 0, none⟩ = some (.slice s0 x.1.length g0) := a9.cell 0; have z1 : w9.cell? ⟨wr.heap.size, 1, none⟩ = some (.slice s1 x.2.length g1) := a9.cell 1))
      have hW4 : Below w.heap.size w (w3.alloc (.cells #[.slice p2 x.1.length k2, .slice p3 x.2.length k3] 108)) := bstep hW3 ((Below.refl _ _).alloc (Nat.le_refl _) _)
      have hW9 : Below w.heap.size w w9 := hW4.trans (hf9.below hW4.size (fun q hq => (unhide HR q ((unhide HY).2.2.2.2.2.2.1 q hq)).1))
      have HO9 := hide (show OwAttrs w9 (.slice (some ⟨g9, 0, none⟩) (j + 1) cap9) (l.take (j + 1)) F9 by
        rw [unhide HST]
        rw [hlj] at hF9
        exact hF9)
      have HR9 := hide (show Rng F9 w.heap.size w9.heap.size from fun q hq => ⟨by
        rcases hM9 q hq with k | k | k
        · exact (unhide HR q k).1
        · have := (unhide HY).2.2.2.2.2.2.2 q k; have := hB.size; omega
        · rw [k]; exact hW4.size, OwAttrs.lt (unhide HO9) q hq⟩)
      clear hF9 hM9
      go_wp2_with fail
      go_roundw
      case rel => exact ⟨j + 1, by omega, by go_num, F9, unhide HO9, hN9, unhide HR9, hW9⟩
      case measure => simp [intOf]; omega
    · have e : j = l.length := by omega
      subst e
      rw [List.take_length] at hF
      go_wp2_with fail
      go_ret
      exact ⟨_, rfl, F, hF, hN, hRg, hB⟩
end Go.Proofs.YtnfafchajjclaaaGreatDoor

/- impl.copyLone: a node without its kids, in memory of its own. -/
namespace Go.Proofs.YtnfafchajjclaaaGreatDoor
open Go.RowKit
set_option linter.unusedVariables false
set_option maxRecDepth 100000

def Cl1 (w1 : World) (bn pr : Nat) (T0 nmv txv atv : Value) (kd : Int) (ln lt : List Int) (la : List (List Int × List Int)) (L : Array Bool) (a : Act) (w : World) : Prop :=
  ∃ b0 b1 b2 b3 b4 b5 b6 b7 b8 b9 b10 b11 b12 x3 x4 x5 x6 x7 x8 x9 x10 x11 x12 x13 x14, L = #[b0, b1, b2, b3, b4, b5, b6, b7, b8, b9, b10, b11, b12] ∧ a = { tmps := #[T0, .pointer (some ⟨bn, 0, none⟩), .pointer (some ⟨pr, 0, none⟩), x3, x4, x5, x6, x7, x8, x9, x10, x11, x12, x13, x14], defers := [] } ∧ Frm w1 w [pr] ∧ Loc w pr (if b12 = true then #[.int .i64 kd, x7, x10, x13, .slice none 0 0] else #[.int .i64 0, .slice none 0 0, .slice none 0 0, .slice none 0 0, .slice none 0 0]) 38 ∧ (b0 = true → x3 = .pointer (some ⟨bn, 0, none⟩)) ∧ (b1 = true → x4 = .int .i64 kd) ∧ (b2 = true → x5 = .pointer (some ⟨bn, 1, none⟩)) ∧ (b3 = true → x6 = nmv) ∧ (b4 = true → Own w w1.heap.size x7 ln) ∧ (b5 = true → x8 = .pointer (some ⟨bn, 2, none⟩)) ∧ (b6 = true → x9 = txv) ∧ (b7 = true → b4 = true ∧ Own w w1.heap.size x10 lt ∧ ∀ q ∈ FB x10, q ∉ FB x7) ∧ (b8 = true → x11 = .pointer (some ⟨bn, 3, none⟩)) ∧ (b9 = true → x12 = atv) ∧ (b10 = true → b7 = true ∧ ∃ Fa, OwAttrs w x13 la Fa ∧ Fa.Nodup ∧ Rng Fa w1.heap.size w.heap.size ∧ ∀ q ∈ Fa, q ∉ FB x7 ∧ q ∉ FB x10) ∧ (b11 = true → b10 = true ∧ x14 = .agg #[.int .i64 kd, x7, x10, x13, .slice none 0 0]) ∧ (b12 = true → b11 = true)
theorem Cl1_cases {i : Nat} (h : i < 13) : i = 0 ∨ i = 1 ∨ i = 2 ∨ i = 3 ∨ i = 4 ∨ i = 5 ∨ i = 6 ∨ i = 7 ∨ i = 8 ∨ i = 9 ∨ i = 10 ∨ i = 11 ∨ i = 12 := by omega

set_option maxHeartbeats 6400000 in
theorem copyLone_any (n : Nat) (w0 : World) (a b c d e : Value) (t : Tr (n + 1)) (hrd : RdNode (n + 1) w0 [a, b, c, d, e] t) (hsz : szT (n + 1) t ≤ 2097152) :
    Calls Tryz.prog 95 #[.agg #[a, b, c, d, e]] w0 fun e w' => ∃ p2 k2 p3 k3 p4 k4, e = .returned (.agg #[.int .i64 t.kind, .slice p2 t.name.length k2, .slice p3 t.text.length k3, .slice p4 t.attrs.length k4, .slice none 0 0]) ∧
      ∃ Fa, Own w' 0 (.slice p2 t.name.length k2) t.name ∧ Own w' 0 (.slice p3 t.text.length k3) t.text ∧ OwAttrs w' (.slice p4 t.attrs.length k4) t.attrs Fa ∧ (FB (.slice p2 t.name.length k2) ++ FB (.slice p3 t.text.length k3) ++ Fa).Nodup ∧ Rng (FB (.slice p2 t.name.length k2) ++ FB (.slice p3 t.text.length k3) ++ Fa) (w0.heap.size + 2) w'.heap.size ∧ Below w0.heap.size w0 w' := by
  have hszT : szT (n + 1) t = t.name.length + t.text.length + szA t.attrs + (t.kids.length + (t.kids.map (szT n)).sum) := rfl
  obtain ⟨_, _, _, _, e0, k1, k2, hb, hc, hd, he⟩ := hrd
  simp only [List.cons.injEq, and_true] at e0
  obtain ⟨rfl, rfl, rfl, rfl, rfl⟩ := e0
  obtain ⟨ab, cb, rfl, _, _⟩ := hb.shape
  obtain ⟨ac, cc, rfl, _, _⟩ := hc.shape
  obtain ⟨ad, cd, rfl, _, _⟩ := Elems.shape hd
  obtain ⟨ae, ce, rfl, _, _⟩ := Elems.shape he
  obtain ⟨l0, l1, hB1⟩ := two w0 #[.int .i64 t.kind, .slice ab t.name.length cb, .slice ac t.text.length cc, .slice ad t.attrs.length cd, .slice ae t.kids.length ce] #[.int .i64 0, .slice none 0 0, .slice none 0 0, .slice none 0 0, .slice none 0 0] 38 38
  have hal : t.attrs.length ≤ 4194304 := by unfold szA at hszT; omega
  have hnl : t.name.length ≤ 4194304 := by omega
  have htl : t.text.length ≤ 4194304 := by omega
  have hax : ∀ x ∈ t.attrs, x.1.length ≤ 4194304 ∧ x.2.length ≤ 4194304 := fun x hx => by have := attr_le hx; omega
  clear hszT
  go_enter Tryz.func95, Tryz.ntmps95
  go_wp2_with fail
  generalize hW1 : (w0.alloc (.cells #[.int .i64 t.kind, .slice ab t.name.length cb, .slice ac t.text.length cc, .slice ad t.attrs.length cd, .slice ae t.kids.length ce] 38)).alloc (.cells #[.int .i64 0, .slice none 0 0, .slice none 0 0, .slice none 0 0, .slice none 0 0] 38) = w1 at *
  have hs1 : w0.heap.size + 2 ≤ w1.heap.size := by rw [← hW1]; simp
  clear hW1
  have HAX := hide hax
  clear hax
  have hbp : w0.heap.size ∉ [w0.heap.size + 1] := by simp
  have hBw : ∀ {w : World}, Frm w1 w [w0.heap.size + 1] → Below w0.heap.size w0 w := fun f => hB1.trans (f.below hB1.size (fun q hq => by simp at hq; omega))
  refine region_inv (by kernel_rfl) (Cl1 w1 w0.heap.size (w0.heap.size + 1) (.agg #[.int .i64 t.kind, .slice ab t.name.length cb, .slice ac t.text.length cc, .slice ad t.attrs.length cd, .slice ae t.kids.length ce]) (.slice ab t.name.length cb) (.slice ac t.text.length cc) (.slice ad t.attrs.length cd) t.kind t.name t.text t.attrs) ?sz ?h0 ?step ?dn
  case sz =>
      rintro L a w ⟨b0, b1, b2, b3, b4, b5, b6, b7, b8, b9, b10, b11, b12, x3, x4, x5, x6, x7, x8, x9, x10, x11, x12, x13, x14, rfl, _⟩
      rfl
  case h0 =>
      refine ⟨false, false, false, false, false, false, false, false, false, false, false, false, false, undef, undef, undef, undef, undef, undef, undef, undef, undef, undef, undef, undef, rfl, rfl, Frm.ofBelow ((Below.refl _ _).drew) _, l1.all ((Below.refl _ _).drew), ?_⟩
      simp
  case step =>
      intro L a w i o hI hi ho
      obtain ⟨b0, b1, b2, b3, b4, b5, b6, b7, b8, b9, b10, b11, b12, x3, x4, x5, x6, x7, x8, x9, x10, x11, x12, x13, x14, rfl, rfl, h0, h1, f0, f1, f2, f3, f4, f5, f6, f7, f8, f9, f10, f11, f12⟩ := hI
      rcases Cl1_cases (ready_lt hi) with rfl | rfl | rfl | rfl | rfl | rfl | rfl | rfl | rfl | rfl | rfl | rfl | rfl
      · obtain rfl := Option.some.inj ho
        go_simp
        exact ⟨true, b1, b2, b3, b4, b5, b6, b7, b8, b9, b10, b11, b12, _, x4, x5, x6, x7, x8, x9, x10, x11, x12, x13, x14, rfl, rfl, h0, h1, (fun _ => rfl), f1, f2, f3, f4, f5, f6, f7, f8, f9, f10, f11, f12⟩
      · have g0 := ready_pred hi ho 0
        obtain rfl := Option.some.inj ho
        have e0 := f0 (g0 (by kernel_rfl))
        subst e0
        have c0 : w.cell? ⟨w0.heap.size, 0, none⟩ = some (.int .i64 t.kind) := (l0.frm h0 hbp).cell 0
        go_simp
        exact ⟨b0, true, b2, b3, b4, b5, b6, b7, b8, b9, b10, b11, b12, _, _, x5, x6, x7, x8, x9, x10, x11, x12, x13, x14, rfl, rfl, h0, h1, f0, (fun _ => rfl), f2, f3, f4, f5, f6, f7, f8, f9, f10, f11, f12⟩
      · obtain rfl := Option.some.inj ho
        go_simp
        exact ⟨b0, b1, true, b3, b4, b5, b6, b7, b8, b9, b10, b11, b12, x3, x4, _, x6, x7, x8, x9, x10, x11, x12, x13, x14, rfl, rfl, h0, h1, f0, f1, (fun _ => rfl), f3, f4, f5, f6, f7, f8, f9, f10, f11, f12⟩
      · have g2 := ready_pred hi ho 2
        obtain rfl := Option.some.inj ho
        have e2 := f2 (g2 (by kernel_rfl))
        subst e2
        have c0 : w.cell? ⟨w0.heap.size, 1, none⟩ = some (.slice ab t.name.length cb) := (l0.frm h0 hbp).cell 1
        go_simp
        exact ⟨b0, b1, b2, true, b4, b5, b6, b7, b8, b9, b10, b11, b12, x3, x4, _, _, x7, x8, x9, x10, x11, x12, x13, x14, rfl, rfl, h0, h1, f0, f1, f2, (fun _ => rfl), f4, f5, f6, f7, f8, f9, f10, f11, f12⟩
      · have g3 := ready_pred hi ho 3
        obtain rfl := Option.some.inj ho
        have e3 := f3 (g3 (by kernel_rfl))
        subst e3
        have hb4 : b4 = false := by simpa using ready_off rfl hi
        have hb12 : b12 = false := by
          cases b12 with
          | false => rfl
          | true => have := (f7 (f10 (f11 (f12 rfl)).1).1).1; rw [hb4] at this; cases this
        subst hb12
        go_simp
        refine (clone_any w _ t.name (hb.keep (hBw h0)) (by omega)).mono ?_
        rintro e w' ⟨v', rfl, ho', hb'⟩
        exact ⟨b0, b1, b2, b3, true, b5, b6, b7, b8, b9, b10, b11, false, x3, x4, x5, _, _, x8, x9, x10, x11, x12, x13, x14, rfl, rfl, h0.trans (Frm.ofBelow hb' _), h1.all hb', f0, f1, f2, f3, (fun _ => ho'.mono h0.size), f5, f6, (fun h => by rw [(f7 h).1] at hb4; cases hb4), f8, f9, (fun h => by have := (f7 (f10 h).1).1; rw [hb4] at this; cases this), (fun h => by have := (f7 (f10 (f11 h).1).1).1; rw [hb4] at this; cases this), f12⟩
      · obtain rfl := Option.some.inj ho
        go_simp
        exact ⟨b0, b1, b2, b3, b4, true, b6, b7, b8, b9, b10, b11, b12, x3, x4, x5, x6, x7, _, x9, x10, x11, x12, x13, x14, rfl, rfl, h0, h1, f0, f1, f2, f3, f4, (fun _ => rfl), f6, f7, f8, f9, f10, f11, f12⟩
      · have g5 := ready_pred hi ho 5
        obtain rfl := Option.some.inj ho
        have e5 := f5 (g5 (by kernel_rfl))
        subst e5
        have c0 : w.cell? ⟨w0.heap.size, 2, none⟩ = some (.slice ac t.text.length cc) := (l0.frm h0 hbp).cell 2
        go_simp
        exact ⟨b0, b1, b2, b3, b4, b5, true, b7, b8, b9, b10, b11, b12, x3, x4, x5, x6, x7, _, _, x10, x11, x12, x13, x14, rfl, rfl, h0, h1, f0, f1, f2, f3, f4, f5, (fun _ => rfl), f7, f8, f9, f10, f11, f12⟩
      · have g6 := ready_pred hi ho 6
        have g4 := ready_pred hi ho 4
        obtain rfl := Option.some.inj ho
        have e6 := f6 (g6 (by kernel_rfl))
        have e4 : b4 = true := g4 (by kernel_rfl)
        subst e6 e4
        have hb7 : b7 = false := by simpa using ready_off rfl hi
        have hb12 : b12 = false := by
          cases b12 with
          | false => rfl
          | true => have := (f10 (f11 (f12 rfl)).1).1; rw [hb7] at this; cases this
        subst hb12
        go_simp
        refine (clone_any w _ t.text (hc.keep (hBw h0)) (by omega)).mono ?_
        rintro e w' ⟨v', rfl, ho', hb'⟩
        exact ⟨b0, b1, b2, b3, true, b5, b6, true, b8, b9, b10, b11, false, x3, x4, x5, x6, x7, x8, _, _, x11, x12, x13, x14, rfl, rfl, h0.trans (Frm.ofBelow hb' _), h1.all hb', f0, f1, f2, f3, (fun h => (f4 h).keep hb'), f5, f6, (fun _ => ⟨rfl, ho'.mono h0.size, fun q hq hq' => by have := (ho'.lt q (by simpa [FB] using hq)).1; have := ((f4 rfl).lt q (by simpa [FB] using hq')).2; omega⟩), f8, f9, (fun h => by rw [(f10 h).1] at hb7; cases hb7), (fun h => by have := (f10 (f11 h).1).1; rw [hb7] at this; cases this), f12⟩
      · obtain rfl := Option.some.inj ho
        go_simp
        exact ⟨b0, b1, b2, b3, b4, b5, b6, b7, true, b9, b10, b11, b12, x3, x4, x5, x6, x7, x8, x9, x10, _, x12, x13, x14, rfl, rfl, h0, h1, f0, f1, f2, f3, f4, f5, f6, f7, (fun _ => rfl), f9, f10, f11, f12⟩
      · have g8 := ready_pred hi ho 8
        obtain rfl := Option.some.inj ho
        have e8 := f8 (g8 (by kernel_rfl))
        subst e8
        have c0 : w.cell? ⟨w0.heap.size, 3, none⟩ = some (.slice ad t.attrs.length cd) := (l0.frm h0 hbp).cell 3
        go_simp
        exact ⟨b0, b1, b2, b3, b4, b5, b6, b7, b8, true, b10, b11, b12, x3, x4, x5, x6, x7, x8, x9, x10, _, _, x13, x14, rfl, rfl, h0, h1, f0, f1, f2, f3, f4, f5, f6, f7, f8, (fun _ => rfl), f10, f11, f12⟩
      · have g9 := ready_pred hi ho 9
        have g7 := ready_pred hi ho 7
        obtain rfl := Option.some.inj ho
        have e9 := f9 (g9 (by kernel_rfl))
        have e7 : b7 = true := g7 (by kernel_rfl)
        have e4 := (f7 e7).1
        subst e9 e7 e4
        have hb10 : b10 = false := by simpa using ready_off rfl hi
        have hb12 : b12 = false := by
          cases b12 with
          | false => rfl
          | true => have := (f11 (f12 rfl)).1; rw [hb10] at this; cases this
        subst hb12
        go_simp
        refine (copyAttrs_any w _ t.attrs (RdAttrs.keep hd (hBw h0)) hal (unhide HAX)).mono ?_
        rintro e w' ⟨v', rfl, Fa, ho', nd', r', hb'⟩
        exact ⟨b0, b1, b2, b3, true, b5, b6, true, b8, b9, true, b11, false, x3, x4, x5, x6, x7, x8, x9, x10, x11, _, _, x14, rfl, rfl, h0.trans (Frm.ofBelow hb' _), h1.all hb', f0, f1, f2, f3, (fun h => (f4 h).keep hb'), f5, f6, (fun h => ⟨(f7 h).1, (f7 h).2.1.keep hb', (f7 h).2.2⟩), f8, f9, (fun _ => ⟨rfl, Fa, ho', nd', r'.mono h0.size (Nat.le_refl _), fun q hq => ⟨fun hq' => by have := (r' q hq).1; have := ((f4 rfl).lt q (by simpa [FB] using hq')).2; omega, fun hq' => by have := (r' q hq).1; have := ((f7 rfl).2.1.lt q (by simpa [FB] using hq')).2; omega⟩⟩), (fun h => by rw [(f11 h).1] at hb10; cases hb10), f12⟩
      · have g1 := ready_pred hi ho 1
        have g10 := ready_pred hi ho 10
        obtain rfl := Option.some.inj ho
        have e1 := f1 (g1 (by kernel_rfl))
        have e10 : b10 = true := g10 (by kernel_rfl)
        have e7 := (f10 e10).1
        have e4 := (f7 e7).1
        subst e1 e10 e7 e4
        obtain ⟨p2, k2', hv2, _, _⟩ := (f4 rfl).byt.shape
        obtain ⟨p3, k3', hv3, _, _⟩ := (f7 rfl).2.1.byt.shape
        obtain ⟨_, Fa, q1, q2, q3, q4⟩ := f10 rfl
        obtain ⟨p4, k4', hv4⟩ : ∃ p4 k4', x13 = .slice p4 t.attrs.length k4' := by
          obtain ⟨_, _, _, _, _, e4, _⟩ := q1
          exact own_nil_shape e4
        subst hv2 hv3 hv4
        go_simp
        exact ⟨b0, b1, b2, b3, true, b5, b6, true, b8, b9, true, true, b12, x3, _, x5, x6, _, x8, x9, _, x11, x12, _, _, rfl, rfl, h0, h1, f0, f1, f2, f3, f4, f5, f6, f7, f8, f9, f10, (fun _ => ⟨rfl, rfl⟩), (fun h => rfl)⟩
      · have g11 := ready_pred hi ho 11
        obtain rfl := Option.some.inj ho
        have e11 : b11 = true := g11 (by kernel_rfl)
        obtain ⟨e10, e14⟩ := f11 e11
        have e7 := (f10 e10).1
        have e4 := (f7 e7).1
        have hb12 : b12 = false := by simpa using ready_off rfl hi
        subst e4 e7 e10 e11 e14 hb12
        replace h1 : Loc w (w0.heap.size + 1) #[.int .i64 0, .slice none 0 0, .slice none 0 0, .slice none 0 0, .slice none 0 0] 38 := h1
        obtain ⟨p2, k2', hv2, _, _⟩ := (f4 rfl).byt.shape
        obtain ⟨p3, k3', hv3, _, _⟩ := (f7 rfl).2.1.byt.shape
        obtain ⟨_, Fa, r1, r2, r3, r4⟩ := f10 rfl
        obtain ⟨p4, k4', hv4⟩ : ∃ p4 k4', x13 = .slice p4 t.attrs.length k4' := by
          obtain ⟨_, _, _, _, _, e4, _⟩ := r1
          exact own_nil_shape e4
        subst hv2 hv3 hv4
        obtain ⟨y0, y1, y2, y3, y4⟩ := h1.five
        have u0 := h1.frozen 0
        have u1 := h1.frozen 1
        have u2 := h1.frozen 2
        have u3 := h1.frozen 3
        have u4 := h1.frozen 4
        obtain ⟨s1, s2⟩ := store5 h1 (.int .i64 t.kind) (.slice p2 t.name.length k2') (.slice p3 t.text.length k3') (.slice p4 t.attrs.length k4') (.slice none 0 0)
        have s3 := h0.trans s2
        have s4 := (f4 rfl).frm s2 (fun g hg hg' => by have := ((f4 rfl).lt g (by simpa [FB] using hg)).1; simp at hg'; omega)
        have s5 := (f7 rfl).2.1.frm s2 (fun g hg hg' => by have := ((f7 rfl).2.1.lt g (by simpa [FB] using hg)).1; simp at hg'; omega)
        have s6 := OwAttrs.frm r1 s2 (fun g hg hg' => by have := (r3 g hg).1; simp at hg'; omega)
        go_simp
        exact ⟨b0, b1, b2, b3, true, b5, b6, true, b8, b9, true, true, true, x3, x4, x5, x6, _, x8, x9, _, x11, x12, _, _, rfl, rfl, s3, s1, f0, f1, f2, f3, (fun _ => s4), f5, f6, (fun _ => ⟨rfl, s5, (f7 rfl).2.2⟩), f8, f9, (fun _ => ⟨rfl, Fa, s6, r2, r3.mono (Nat.le_refl _) s2.size, r4⟩), (fun _ => ⟨rfl, rfl⟩), (fun _ => rfl)⟩
  case dn =>
    intro L a w2 hI hre
    have hall := ready_all (L := L) (by obtain ⟨b0, b1, b2, b3, b4, b5, b6, b7, b8, b9, b10, b11, b12, x3, x4, x5, x6, x7, x8, x9, x10, x11, x12, x13, x14, rfl, _⟩ := hI; rfl) (by kernel_rfl) hre 13
    obtain ⟨b0, b1, b2, b3, b4, b5, b6, b7, b8, b9, b10, b11, b12, x3, x4, x5, x6, x7, x8, x9, x10, x11, x12, x13, x14, rfl, rfl, h0, h1, f0, f1, f2, f3, f4, f5, f6, f7, f8, f9, f10, f11, f12⟩ := hI
    have s12 : b12 = true := hall 12 (by omega) (by decide)
    have e11 := f12 s12
    obtain ⟨e10, e14⟩ := f11 e11
    have e7 := (f10 e10).1
    have e4 := (f7 e7).1
    subst s12 e11 e10 e7 e4
    replace h1 : Loc w2 (w0.heap.size + 1) #[.int .i64 t.kind, x7, x10, x13, .slice none 0 0] 38 := h1
    have r0 := f4 rfl
    obtain ⟨_, r1, r1d⟩ := f7 rfl
    obtain ⟨_, Fa, r2, r3, r4, r5⟩ := f10 rfl
    have hB2 := hBw h0
    clear hall f0 f1 f2 f3 f4 f5 f6 f7 f8 f9 f10 f11 f12 hre h0
    obtain ⟨p2, k2', hv2, _, _⟩ := r0.byt.shape
    obtain ⟨p3, k3', hv3, _, _⟩ := r1.byt.shape
    obtain ⟨p4, k4', hv4⟩ : ∃ p4 k4', x13 = .slice p4 t.attrs.length k4' := by
      obtain ⟨_, _, _, _, _, e4, _⟩ := r2
      exact own_nil_shape e4
    subst hv2 hv3 hv4
    obtain ⟨g0, g1, g2, g3, g4⟩ := h1.five
    have nd : (FB (.slice p2 t.name.length k2') ++ FB (.slice p3 t.text.length k3') ++ Fa).Nodup := by
      refine List.nodup_append.2 ⟨List.nodup_append.2 ⟨FB_nodup _, FB_nodup _, fun a ha b hb e => r1d b hb (e ▸ ha)⟩, r3, fun a ha b hb e => ?_⟩
      subst e
      rcases List.mem_append.1 ha with ha | ha
      · exact (r5 a hb).1 ha
      · exact (r5 a hb).2 ha
    have rg : Rng (FB (.slice p2 t.name.length k2') ++ FB (.slice p3 t.text.length k3') ++ Fa) (w0.heap.size + 2) w2.heap.size := ((r0.rng.mono hs1 (Nat.le_refl _)).app (r1.rng.mono hs1 (Nat.le_refl _))).app (r4.mono hs1 (Nat.le_refl _))
    have HF := hide (And.intro (r0.mono (base' := 0) (Nat.zero_le _)) (And.intro (r1.mono (base' := 0) (Nat.zero_le _)) (And.intro r2 (And.intro nd (And.intro rg hB2)))))
    clear r0 r1 r1d r2 r3 r4 r5 nd rg hB2
    go_wp2_with fail
    obtain ⟨q1, q2, q3, q4, q5, q6⟩ := unhide HF
    exact bodyPost_ret (v := .agg #[.int .i64 t.kind, .slice p2 t.name.length k2', .slice p3 t.text.length k3', .slice p4 t.attrs.length k4', .slice none 0 0]) (by simp [results, Tryz.results95, go_sem, g0, g1, g2, g3, g4]) rfl ⟨p2, k2', p3, k3', p4, k4', rfl, q1, q2, Fa, q3, by rw [← List.append_assoc]; exact q4, by rw [← List.append_assoc]; exact q5, q6⟩
end Go.Proofs.YtnfafchajjclaaaGreatDoor

/- The places of the first tree, one kid after another. Mathematics; and what the specification's seeding promises. No function of the program. -/
namespace Go.Proofs.YtnfafchajjclaaaGreatDoor
open Go.RowKit
set_option linter.unusedVariables false
set_option maxRecDepth 100000

def seedP {n : Nat} (m : Nat) (i : IdV) (x : Nd (Tr n)) (j : Nat) : PlV := ⟨0, m, i.1, i.2, [(j : Int) + 1], x.kind, x.name, x.text, x.attrs⟩
def seedF (n : Nat) (i : IdV) (a : List PlV) (x : Nd (Tr n) × Nat) : List PlV := seedK n (0, (a.length : Int)) x.1.kids (a ++ [seedP a.length i x.1 x.2])
def seedJ (n : Nat) (i : IdV) (ks : List (Nd (Tr n))) (acc : List PlV) (j : Nat) : List PlV := (ks.zipIdx.take j).foldl (seedF n i) acc
theorem seedK_succ (n : Nat) (i : IdV) (ks : List (Nd (Tr n))) (acc : List PlV) : seedK (n + 1) i ks acc = ks.zipIdx.foldl (seedF n i) acc := rfl
theorem seedJ_all (n : Nat) (i : IdV) (ks : List (Nd (Tr n))) (acc : List PlV) {j : Nat} (h : ks.length ≤ j) : seedJ n i ks acc j = seedK (n + 1) i ks acc := by
  rw [seedK_succ, seedJ, List.take_of_length_le (by simpa using h)]
theorem seedJ_succ (n : Nat) (i : IdV) (ks : List (Nd (Tr n))) (acc : List PlV) {j : Nat} (h : j < ks.length) : seedJ n i ks acc (j + 1) = seedF n i (seedJ n i ks acc j) (ks[j], j) := by
  have h' : j < ks.zipIdx.length := by simpa using h
  rw [seedJ, List.take_succ_eq_append_getElem h', List.foldl_append]
  simp [seedJ]
theorem fold_le {α : Type} (f : List PlV → α → List PlV) (hf : ∀ a x, a.length ≤ (f a x).length) : ∀ (l : List α) (a : List PlV), a.length ≤ (l.foldl f a).length
  | [], a => Nat.le_refl _
  | x :: r, a => Nat.le_trans (hf a x) (fold_le f hf r (f a x))
theorem seedK_le : ∀ (n : Nat) (i : IdV) (ks : List (Tr n)) (acc : List PlV), acc.length ≤ (seedK n i ks acc).length
  | 0, _, _, _ => Nat.le_refl _
  | n + 1, i, ks, acc => fold_le (seedF n i) (fun a x => Nat.le_trans (by simp) (seedK_le n (0, (a.length : Int)) x.1.kids (a ++ [seedP a.length i x.1 x.2]))) (List.zipIdx (α := Nd (Tr n)) ks) acc
theorem seedF_le (n : Nat) (i : IdV) (a : List PlV) (x : Nd (Tr n) × Nat) : a.length + 1 ≤ (seedF n i a x).length := Nat.le_trans (by simp) (seedK_le n (0, (a.length : Int)) x.1.kids (a ++ [seedP a.length i x.1 x.2]))
theorem seedJ_le (n : Nat) (i : IdV) (ks : List (Nd (Tr n))) (acc : List PlV) (j : Nat) : (seedJ n i ks acc j).length ≤ (seedK (n + 1) i ks acc).length := by
  rw [seedK_succ, seedJ]
  conv => rhs; rw [← List.take_append_drop j ks.zipIdx, List.foldl_append]
  exact fold_le _ (fun a x => Nat.le_of_succ_le (seedF_le n i a x)) _ _
/-- What is promised of a function that lets the state grow. -/
def SdR (w0 w : World) (sb : Nat) (F : List Nat) (m : List PlV) (w' : World) : Prop := ∃ a' c' F', StB w0 w' sb a' c' m F' ∧ Frm w w' (sb :: F) ∧ ∀ q ∈ F', q ∈ F ∨ w.heap.size ≤ q
theorem Frm.moreS {a b c : World} {S S' : List Nat} (h : Frm a b S) (k : Frm b c S') (hs : ∀ q ∈ S', q ∈ S ∨ a.heap.size ≤ q) : Frm a c S :=
  ⟨k.os.trans h.os, k.tape.trans h.tape, k.output.trans h.output, Nat.le_trans h.size k.size, fun i hi hn => (k.block i (Nat.lt_of_lt_of_le hi h.size) (fun e => (hs i e).elim hn (fun h' => by omega))).trans (h.block i hi hn)⟩
theorem SdR.trans {w0 w w1 w2 : World} {sb : Nat} {F F1 : List Nat} {m : List PlV} (f : Frm w w1 (sb :: F)) (hF : ∀ q ∈ F1, q ∈ F ∨ w.heap.size ≤ q) (h : SdR w0 w1 sb F1 m w2) : SdR w0 w sb F m w2 := by
  obtain ⟨a', c', F', h1, h2, h3⟩ := h
  refine ⟨a', c', F', h1, f.moreS h2 (fun q hq => ?_), fun q hq => ?_⟩
  · rcases List.mem_cons.1 hq with rfl | hq
    · exact .inl (List.mem_cons_self ..)
    · exact (hF q hq).imp (fun h => List.mem_cons_of_mem _ h) id
  · rcases h3 q hq with h | h
    · exact hF q h
    · exact .inr (Nat.le_trans f.size h)
end Go.Proofs.YtnfafchajjclaaaGreatDoor
