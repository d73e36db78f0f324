/- markNode, by its contract. -/
import Derived.Test.YteioihjgjbjmjaaMarkN
namespace Go.Proofs.Yteioihjgjbjmjaa
open Go.RowKit
set_option linter.unusedVariables false
set_option maxRecDepth 100000

/-- What is owned lies below the heap's end. -/
theorem OwElems.lt {α : Type} {w : World} {e : TypeId} {size : Nat} {v : Value} {l : List α} {R : List Value → α → List Nat → Prop} {F : List Nat} (h : OwElems w e size v l R F) (hR : ∀ C x G, R C x G → ∀ g ∈ G, g < w.heap.size) : ∀ g ∈ F, g < w.heap.size := by
  obtain ⟨Cs, Fs, h1, h2, h3, h4, rfl⟩ := h
  intro g hg
  rcases List.mem_append.1 hg with h | h
  · exact (h4.lt g (by simpa [FB] using h)).2
  · obtain ⟨G, hG, hgG⟩ := List.mem_flatten.1 h
    obtain ⟨i, hi, rfl⟩ := List.getElem_of_mem hG
    have := (h3 i (by omega)).2
    rw [show Fs.getD i [] = Fs[i] by simp [hi]] at this
    exact hR _ _ _ this g hgG
theorem OwAttr.lt {w : World} {C : List Value} {x : List Int × List Int} {G : List Nat} (h : OwAttr w C x G) : ∀ g ∈ G, g < w.heap.size := by
  obtain ⟨a, b, _, h1, h2, rfl⟩ := h
  intro g hg
  rcases List.mem_append.1 hg with h | h
  · exact (h1.lt g (by simpa [FB] using h)).2
  · exact (h2.lt g (by simpa [FB] using h)).2
theorem OwAttrs.lt {w : World} {v : Value} {l : List (List Int × List Int)} {F : List Nat} (h : OwAttrs w v l F) : ∀ g ∈ F, g < w.heap.size := OwElems.lt h (fun _ _ _ hr => hr.lt)
theorem OwNode.lt : ∀ {n : Nat} {w : World} {C : List Value} {t : Tr n} {F : List Nat}, OwNode n w C t F → ∀ g ∈ F, g < w.heap.size
  | 0, _, _, t, _, _ => t.elim
  | n + 1, w, C, t, F, ⟨a, b, c, d, Fc, Fd, _, _, _, ha, hb, hc, hd, hF⟩ => by
    subst hF
    intro g hg
    rcases List.mem_append.1 hg with h | h
    · rcases List.mem_append.1 h with h | h
      · rcases List.mem_append.1 h with h | h
        · exact (ha.lt g (by simpa [FB] using h)).2
        · exact (hb.lt g (by simpa [FB] using h)).2
      · exact hc.lt g h
    · exact OwElems.lt hd (fun _ _ _ hr => OwNode.lt hr) g h

set_option maxHeartbeats 3200000 in
/-- markNode. -/
theorem markN_any (n : Nat) (w : World) (a0 a b c d : Value) (t : Tr (n + 1)) (F : List Nat) (k : Int) (h : OwNode (n + 1) w [a0, a, b, c, d] t F) (hF : F.Nodup) (hs : cntT (n + 1) t ≤ 4194304) (h0 : 0 ≤ k) (h1 : k + (cntT (n + 1) t : Nat) ≤ 800000000) :
    Calls Try.prog 16 #[.agg #[a0, a, b, c, d], .int .i64 k] w fun e w' => e = .returned (.int .i64 (k + (cntT (n + 1) t : Nat))) ∧ OwNode (n + 1) w' [a0, a, b, c, d] (mkT' (n + 1) t k) F ∧ Frm w w' F := by
  obtain ⟨_, _, _, _, Fc, Fd, e0, hk1, hk2, ha, hb, hc, hd, rfl⟩ := h
  simp only [List.cons.injEq, and_true] at e0
  obtain ⟨rfl, rfl, rfl, rfl, rfl⟩ := e0
  have hcs := cntT_succ n t
  rw [hcs] at hs h1 ⊢
  obtain ⟨na, nb', nc', hFcn, hFdn⟩ := nodup4 hF
  obtain ⟨pa, ca, rfl, _, _⟩ := ha.byt.shape
  obtain ⟨pb, cb, rfl, _, _⟩ := hb.byt.shape
  obtain ⟨pc, cc, rfl, _, _⟩ := Elems.shape (OwAttrs.rd hc)
  obtain ⟨pd, cd, rfl, _, _⟩ := Elems.shape (OwKids.rd hd)
  have hB1 : Below w.heap.size w (w.alloc (.cells #[.int .i64 t.kind, .slice pa t.name.length ca, .slice pb t.text.length cb, .slice pc t.attrs.length cc, .slice pd t.kids.length cd] 32)) := (Below.refl _ _).alloc (Nat.le_refl _) _
  have l1 := Loc.made w #[.int .i64 t.kind, .slice pa t.name.length ca, .slice pb t.text.length cb, .slice pc t.attrs.length cc, .slice pd t.kids.length cd] 32
  have F1 := fun S => Frm.ofBelow hB1 S
  have ha1 := ha.keep hB1
  have hb1 := hb.keep hB1
  have hc1 := OwAttrs.frm hc (F1 []) (fun _ _ => by simp)
  have hd1 := OwKids.frm hd (F1 []) (fun _ _ => by simp)
  have hqa : ∀ p ∈ FB (.slice pa t.name.length ca), p < w.heap.size := fun p hp => (ha.lt p (by simpa [FB] using hp)).2
  have hqb : ∀ p ∈ FB (.slice pb t.text.length cb), p < w.heap.size := fun p hp => (hb.lt p (by simpa [FB] using hp)).2
  have hx1 : t.name.length ≤ 4194304 := by omega
  have hx2 : t.text.length ≤ 4194304 := by omega
  have hx3 : cntA t.attrs ≤ 4194304 := by omega
  have hx4 : cntL (cntT n) t.kids ≤ 4194304 := by omega
  have hqc := hc.lt
  clear ha hb hc hd hF hcs
  go_enter Try.func16, Try.ntmps16
  go_wp2_with fail
  generalize (w.alloc (.cells #[.int .i64 t.kind, .slice pa t.name.length ca, .slice pb t.text.length cb, .slice pc t.attrs.length cc, .slice pd t.kids.length cd] 32)) = w1 at *
  refine (markB_any w1 0 _ t.name k ha1 (Nat.le_trans hx1 (by decide)) h0 (by omega)).mono ?_
  rintro e w2 ⟨rfl, ha2, hg2⟩
  have F2 := own_grown_frm hg2
  have l2 := l1.frm F2 (fun hp => by have := hqa _ hp; omega)
  have hb2 := hb1.frm F2 (fun p hp hp' => (na p hp').1 hp)
  have hc2 := OwAttrs.frm hc1 F2 (fun p hp hp' => (na p hp').2.1 hp)
  have hd2 := OwKids.frm hd1 F2 (fun p hp hp' => (na p hp').2.2 hp)
  obtain ⟨x0, x1, x2, x3, x4⟩ := l2.five
  go_wp2_with fail
  refine (markB_any w2 0 _ t.text (k + (t.name.length : Nat)) hb2 (Nat.le_trans hx2 (by decide)) (by omega) (by omega)).mono ?_
  rintro e w3 ⟨rfl, hb3, hg3⟩
  have F3 := own_grown_frm hg3
  have l3 := l2.frm F3 (fun hp => by have := hqb _ hp; omega)
  have ha3 := ha2.frm F3 (fun p hp hp' => (na p hp).1 hp')
  have hc3 := OwAttrs.frm hc2 F3 (fun p hp hp' => (nb' p hp').1 hp)
  have hd3 := OwKids.frm hd2 F3 (fun p hp hp' => (nb' p hp').2 hp)
  clear x0 x1 x2 x3 x4
  obtain ⟨x0, x1, x2, x3, x4⟩ := l3.five
  go_wp2_with fail
  refine (markA_any w3 _ t.attrs Fc (k + (t.name.length : Nat) + (t.text.length : Nat)) hc3 hFcn hx3 (by omega) (by omega)).mono ?_
  rintro e w4 ⟨rfl, hc4, F4⟩
  have l4 := l3.frm F4 (fun hp => by have := hqc _ hp; omega)
  have ha4 := ha3.frm F4 (fun p hp hp' => (na p hp).2.1 hp')
  have hb4 := hb3.frm F4 (fun p hp hp' => (nb' p hp).1 hp')
  have hd4 := OwKids.frm hd3 F4 (fun p hp hp' => nc' p hp' hp)
  clear x0 x1 x2 x3 x4
  obtain ⟨x0, x1, x2, x3, x4⟩ := l4.five
  go_wp2_with fail
  refine (markK_any n w4 _ t.kids Fd (k + (t.name.length : Nat) + (t.text.length : Nat) + (cntA t.attrs : Nat)) hd4 hFdn hx4 (by omega) (by omega)).mono ?_
  rintro e w5 ⟨rfl, hd5, F5⟩
  have ha5 := ha4.frm F5 (fun p hp hp' => (na p hp).2.2 hp')
  have hb5 := hb4.frm F5 (fun p hp hp' => (nb' p hp).2 hp')
  have hc5 := OwAttrs.frm hc4 F5 (fun p hp hp' => nc' p hp hp')
  go_wp2_with fail
  go_ret
  refine ⟨?_, ⟨_, _, _, _, Fc, Fd, rfl, hk1, hk2, ha5, hb5, hc5, hd5, rfl⟩, ?_⟩
  · refine ret_i64 ?_; omega
  · exact ((((F1 _).trans (F2.mono (fun p hp => by simp [hp]))).trans (F3.mono (fun p hp => by simp [hp]))).trans (F4.mono (fun p hp => by simp [hp]))).trans (F5.mono (fun p hp => by simp [hp]))
end Go.Proofs.Yteioihjgjbjmjaa
