/- impl.Markup tells a tree's markup, or nothing. -/
import Derived.Test.YteioihjgjbjmjaaNodeW
import Derived.Test.YteioihjgjbjmjaaNodeI
import Derived.Test.YteioihjgjbjmjaaLMark
namespace Go.Proofs.Yteioihjgjbjmjaa
open Go.RowKit
set_option linter.unusedVariables false
set_option maxRecDepth 100000

set_option maxHeartbeats 3200000 in
theorem markupI_any : MarkISaid := by
  intro n w a b c d e t F ho hsz
  have h := ho.rd
  have hlen : (mkup (n + 1) t).length ≤ 100000000 := by have := mkup_len (n + 1) t; omega
  clear ho
  have hB1 : Below w.heap.size w (w.alloc (.cells #[a, b, c, d, e] 32)) := (Below.refl _ _).alloc (Nat.le_refl _) _
  have l1 := Loc.made w #[a, b, c, d, e] 32
  have c1 := nodeI_any n _ a b c d e t (h.keep hB1) hsz
  obtain ⟨z, ab, nb, cb, ac, nc, cc, ad, nd, cd, ae, ne, ce, rfl, rfl, rfl, rfl, rfl⟩ := rd_five h
  obtain ⟨x0, x1, x2, x3, x4⟩ := l1.five
  unfold markupOf
  by_cases hk : okN n t = true
  · rw [hk] at c1
    simp only [hk, if_true]
    clear hk
    go_enter Try.func19, Try.ntmps19
    go_wp2_with fail
    refine c1.mono ?_
    rintro e w1 ⟨rfl, hb⟩
    have hb' := hB1.trans (hb.mono hB1.size)
    have l2 := l1.all hb
    have hB2 : Below w1.heap.size w1 (w1.alloc (.cells (ws0 (.slice none 0 0)) 81)) := (Below.refl _ _).alloc (Nat.le_refl _) _
    have g2 := Loc.made w1 (ws0 (.slice none 0 0)) 81
    have hb2 := bstep hb' hB2
    have l3 := l2.all hB2
    obtain ⟨y0, y1, y2, y3, y4⟩ := l3.five
    have hwr : Wr w.heap.size (w1.alloc (.cells (ws0 (.slice none 0 0)) 81)) w1.heap.size [] := ⟨.slice none 0 0, ⟨okB_nil, World.ownsRow_nil _ _ _ _⟩, .inl g2⟩
    have HP := hide (putN_any (n + 1) w _ w.heap.size w1.heap.size [] _ _ _ _ _ t h hb2 (Nat.le_refl _) hb'.size hb2.size hwr (by simpa using hlen))
    clear x0 x1 x2 x3 x4 hwr g2 l1 l2 hlen
    unfold ws0 at *
    go_wp2_with fail
    refine (unhide HP).mono ?_
    clear HP
    rintro e w3 ⟨rfl, ⟨o, ho3, hs3⟩, F3⟩
    rw [List.nil_append] at ho3
    obtain ⟨cs, _, _, c0, _⟩ := hs3.loc
    have hb3 := hb2.trans (FrpW.toBelow F3 hb2.size (Nat.le_refl _) hb'.size)
    obtain ⟨a2, c2, hv2, _, _⟩ := ho3.byt.shape
    subst hv2
    go_wp2_with fail
    go_ret
    exact ⟨_, rfl, ho3, hb3⟩
  · have hk' : okN n t = false := by simpa using hk
    rw [hk'] at c1
    simp only [hk', Bool.false_eq_true, if_false]
    clear hk hk'
    go_enter Try.func19, Try.ntmps19
    go_wp2_with fail
    refine c1.mono ?_
    rintro e w1 ⟨rfl, hb⟩
    have hb' := hB1.trans (hb.mono hB1.size)
    go_wp2_with fail
    go_ret
    exact ⟨_, rfl, ⟨okB_nil, World.ownsRow_nil _ _ _ _⟩, hb'⟩
end Go.Proofs.Yteioihjgjbjmjaa
