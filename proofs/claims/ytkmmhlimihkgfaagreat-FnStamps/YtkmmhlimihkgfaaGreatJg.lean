/- Own texts joined: OwnO, Push, OwnOs, OpsS, SPut, DrP, L5ops, L5bent, DrawP, PutOI. -/
import Derived.Test.YtkmmhlimihkgfaaGreatJa
import Derived.Test.YtkmmhlimihkgfaaGreatJb
import Derived.Test.YtkmmhlimihkgfaaGreatJc
import Derived.Test.YtkmmhlimihkgfaaGreatJd
import Derived.Test.YtkmmhlimihkgfaaGreatJe
import Derived.Test.YtkmmhlimihkgfaaGreatJf
import Derived.Deep.CutBlock
import Derived.Deep.AppendLies

/- spec.l4own: an operation all of whose memory is its own. -/
namespace Go.Proofs.YtkmmhlimihkgfaaGreat
open Go.RowKit
set_option linter.unusedVariables false
set_option maxRecDepth 100000

theorem ownz_none (w : World) : OwnZ (w.alloc (.cells #[] 3)) w.heap.size (.slice (some ⟨w.heap.size, 0, none⟩) 0 0) [] :=
  ⟨okZ_nil, rfl, .inr ⟨w.heap.size, 0, #[], rfl, Nat.le_refl _, heap_alloc_new w _, Nat.le_refl _, Nat.zero_le _, rfl, rfl⟩⟩

set_option maxHeartbeats 12800000 in
theorem l4own_any (w : World) (v : Value) (o : OpV) (h : RdOp w v o) (hs : szO o ≤ 4000000) :
    Calls Tryz.prog 94 #[v] w fun e w' => ∃ a1 c1 a2 c2 a3 c3, e = .returned (opVal o (.slice a1 o.key.length c1) (.slice a2 o.name.length c2) (.slice a3 o.text.length c3)) ∧ OwOp w' w.heap.size o (.slice a1 o.key.length c1) (.slice a2 o.name.length c2) (.slice a3 o.text.length c3) ∧ Below w.heap.size w w' := by
  unfold szO at hs
  obtain ⟨k, n, t, rfl, hk0, hn0, ht0⟩ := h
  obtain ⟨ak, ck, rfl, _, _⟩ := hk0.shape
  obtain ⟨an, cn, rfl, _, _⟩ := hn0.shape
  obtain ⟨tt, ct, rfl, _, _⟩ := ht0.shape
  have HK := hide (fun W (hW : Below w.heap.size w W) => hk0.keep hW)
  have HN := hide (fun W (hW : Below w.heap.size w W) => hn0.keep hW)
  have HX := hide (fun W (hW : Below w.heap.size w W) => ht0.keep hW)
  clear hk0 hn0 ht0
  have l0 := Loc.made w #[.int .i64 o.kind, .int .i64 o.atN, .int .i64 o.atR, .int .i64 o.nodeN, .int .i64 o.nodeR, .int .i64 o.parN, .int .i64 o.parR, .slice ak o.key.length ck, .int .i64 o.elem, .slice an o.name.length cn, .slice tt o.text.length ct, .bool o.gone] 28
  have hA := (Below.refl w.heap.size w).alloc (Nat.le_refl _) (.cells #[.int .i64 o.kind, .int .i64 o.atN, .int .i64 o.atR, .int .i64 o.nodeN, .int .i64 o.nodeR, .int .i64 o.parN, .int .i64 o.parR, .slice ak o.key.length ck, .int .i64 o.elem, .slice an o.name.length cn, .slice tt o.text.length ct, .bool o.gone] 28)
  have hsz : (w.alloc (.cells #[.int .i64 o.kind, .int .i64 o.atN, .int .i64 o.atR, .int .i64 o.nodeN, .int .i64 o.nodeR, .int .i64 o.parN, .int .i64 o.parR, .slice ak o.key.length ck, .int .i64 o.elem, .slice an o.name.length cn, .slice tt o.text.length ct, .bool o.gone] 28)).heap.size = w.heap.size + 1 := by simp
  have lr := Loc.made (w.alloc (.cells #[.int .i64 o.kind, .int .i64 o.atN, .int .i64 o.atR, .int .i64 o.nodeN, .int .i64 o.nodeR, .int .i64 o.parN, .int .i64 o.parR, .slice ak o.key.length ck, .int .i64 o.elem, .slice an o.name.length cn, .slice tt o.text.length ct, .bool o.gone] 28)) #[.int .i64 0, .int .i64 0, .int .i64 0, .int .i64 0, .int .i64 0, .int .i64 0, .int .i64 0, .slice none 0 0, .int .i64 0, .slice none 0 0, .slice none 0 0, .bool false] 28
  rw [hsz] at lr
  have lo := l0.alloc (.cells #[.int .i64 0, .int .i64 0, .int .i64 0, .int .i64 0, .int .i64 0, .int .i64 0, .int .i64 0, .slice none 0 0, .int .i64 0, .slice none 0 0, .slice none 0 0, .bool false] 28)
  have hB := hA.alloc (by simp) (.cells #[.int .i64 0, .int .i64 0, .int .i64 0, .int .i64 0, .int .i64 0, .int .i64 0, .int .i64 0, .slice none 0 0, .int .i64 0, .slice none 0 0, .slice none 0 0, .bool false] 28)
  clear l0 hA hsz
  unfold opVal
  refine calls_via ?_
  intro Q HQ
  go_enter Tryz.func94, Tryz.ntmps94
  have LL := hide (And.intro lo (And.intro lr hB))
  clear lo lr hB
  go_upto_region 1 with fail
  obtain ⟨lo, lr, hB⟩ := unhide LL
  clear LL
  generalize ((w.alloc (.cells #[.int .i64 o.kind, .int .i64 o.atN, .int .i64 o.atR, .int .i64 o.nodeN, .int .i64 o.nodeR, .int .i64 o.parN, .int .i64 o.parR, .slice ak o.key.length ck, .int .i64 o.elem, .slice an o.name.length cn, .slice tt o.text.length ct, .bool o.gone] 28)).alloc (.cells #[.int .i64 0, .int .i64 0, .int .i64 0, .int .i64 0, .int .i64 0, .int .i64 0, .int .i64 0, .slice none 0 0, .int .i64 0, .slice none 0 0, .slice none 0 0, .bool false] 28)) = x0 at *
  have hAe := (Below.refl x0.heap.size x0).alloc (Nat.le_refl _) (.cells #[] 3)
  have cS : (x0.alloc (.cells #[] 3)).cell? ⟨w.heap.size, 7, none⟩ = some (.slice ak o.key.length ck) := (lo.all hAe).cell 7
  have cS0 : x0.cell? ⟨w.heap.size, 7, none⟩ = some (.slice ak o.key.length ck) := lo.cell 7
  have hE := ownz_none x0
  have hSrc := unhide HK _ (bstep hB hAe)
  have hlo := lo.lt
  have hlr := lr.lt
  have hwz : (x0.alloc (.cells #[] 3)).heap.size = x0.heap.size + 1 := by simp
  have HE := hide (And.intro hE (And.intro hSrc (And.intro hAe hwz)))
  have LL := hide (And.intro lo (And.intro lr (And.intro hB trivial)))
  clear hE hSrc hAe hwz lo lr hB
  go_wp2_with (at_builtin; refine wpList_appZ rfl _ _ rfl x0.heap.size _ [] rfl (unhide HE).1 _ o.key rfl (unhide HE).2.1 ?c1 ?c2 ?_)
  case c1 => simp; omega
  case c2 => rw [(unhide HE).2.2.2]; omega
  intro u1 v1 ho hg
  obtain ⟨_, _, hAe, hwz⟩ := unhide HE
  obtain ⟨lo, lr, hB, _⟩ := unhide LL
  clear LL HE cS cS0
  try rw [List.nil_append] at ho
  obtain ⟨a1, c1, rfl, _, _⟩ := ho.ints.shape
  replace lo := (lo.all hAe).frm (Frm.ofGrown hg) (by simp [Value.ownBlock]; omega)
  replace lr := (lr.all hAe).frm (Frm.ofGrown hg) (by simp [Value.ownBlock]; omega)
  replace hB := bstepBy (bstep hB hAe) hg (fun q hq => by simp [Value.ownBlock] at hq; omega)
  have hk := ho
  have rr1 := hk.lt
  have szq1 : x0.heap.size ≤ v1.heap.size := by have := hg.size; omega
  clear ho hg hAe hwz
  have hsS := setGO v1 w.heap.size 7 (.slice a1 o.key.length c1)
  obtain ⟨q0, q1, q2, q3, q4, q5, q6, q7, q8, q9, q10, q11⟩ := lo.twelve
  have fz := lo.frozen 7
  replace lo : Loc (v1.setCell ⟨w.heap.size, 7, none⟩ (.slice a1 o.key.length c1)) w.heap.size #[.int .i64 o.kind, .int .i64 o.atN, .int .i64 o.atR, .int .i64 o.nodeN, .int .i64 o.nodeR, .int .i64 o.parN, .int .i64 o.parR, .slice a1 o.key.length c1, .int .i64 o.elem, .slice an o.name.length cn, .slice tt o.text.length ct, .bool o.gone] 28 := lo.set 7 (.slice a1 o.key.length c1)
  replace lr := lr.frm (Frm.ofGrown hsS) (by simp)
  replace hB := bstepBy hB hsS (fun q hq => by cases hq; exact Nat.le_refl _)
  replace hk := hk.keepBy hsS (.inr (fun e => by have := (hk.lt _ e).1; omega))
  have sz1 := hsS.size
  clear hsS
  have LL := hide (show _ ∧ _ ∧ _ ∧ _ from ⟨lo, lr, hB, hk⟩)
  clear lo lr hB hk
  go_upto_region 2 with fail
  obtain ⟨lo, lr, hB, hk⟩ := unhide LL
  clear LL q0 q1 q2 q3 q4 q5 q6 q7 q8 q9 q10 q11 fz
  generalize (v1.setCell ⟨w.heap.size, 7, none⟩ (.slice a1 o.key.length c1)) = x1 at *
  have hAe := (Below.refl x1.heap.size x1).alloc (Nat.le_refl _) (.cells #[] 5)
  have cS : (x1.alloc (.cells #[] 5)).cell? ⟨w.heap.size, 9, none⟩ = some (.slice an o.name.length cn) := (lo.all hAe).cell 9
  have cS0 : x1.cell? ⟨w.heap.size, 9, none⟩ = some (.slice an o.name.length cn) := lo.cell 9
  have hE := own_none x1
  have hSrc := unhide HN _ (bstep hB hAe)
  have hlo := lo.lt
  have hlr := lr.lt
  have hwz : (x1.alloc (.cells #[] 5)).heap.size = x1.heap.size + 1 := by simp
  have HE := hide (And.intro hE (And.intro hSrc (And.intro hAe hwz)))
  have LL := hide (And.intro lo (And.intro lr (And.intro hB (And.intro hk trivial))))
  clear hE hSrc hAe hwz lo lr hB hk
  go_wp2_with (at_builtin; refine wpList_app rfl _ _ rfl x1.heap.size _ [] rfl (unhide HE).1 _ o.name rfl (unhide HE).2.1 ?c1 ?c2 ?_)
  case c1 => simp; omega
  case c2 => rw [(unhide HE).2.2.2]; omega
  intro u2 v2 ho hg
  obtain ⟨_, _, hAe, hwz⟩ := unhide HE
  obtain ⟨lo, lr, hB, hk, _⟩ := unhide LL
  clear LL HE cS cS0
  try rw [List.nil_append] at ho
  obtain ⟨a2, c2, rfl, _, _⟩ := ho.byt.shape
  replace lo := (lo.all hAe).frm (Frm.ofGrown hg) (by simp [Value.ownBlock]; omega)
  replace lr := (lr.all hAe).frm (Frm.ofGrown hg) (by simp [Value.ownBlock]; omega)
  replace hB := bstepBy (bstep hB hAe) hg (fun q hq => by simp [Value.ownBlock] at hq; omega)
  replace hk := (hk.keep hAe).keepBy hg (.inr (fun e => by have := (hk.lt x1.heap.size e).2; omega))
  have hn := ho
  have rr2 := hn.lt
  have szq2 : x1.heap.size ≤ v2.heap.size := by have := hg.size; omega
  clear ho hg hAe hwz
  have hsS := setGO v2 w.heap.size 9 (.slice a2 o.name.length c2)
  obtain ⟨q0, q1, q2, q3, q4, q5, q6, q7, q8, q9, q10, q11⟩ := lo.twelve
  have fz := lo.frozen 9
  replace lo : Loc (v2.setCell ⟨w.heap.size, 9, none⟩ (.slice a2 o.name.length c2)) w.heap.size #[.int .i64 o.kind, .int .i64 o.atN, .int .i64 o.atR, .int .i64 o.nodeN, .int .i64 o.nodeR, .int .i64 o.parN, .int .i64 o.parR, .slice a1 o.key.length c1, .int .i64 o.elem, .slice a2 o.name.length c2, .slice tt o.text.length ct, .bool o.gone] 28 := lo.set 9 (.slice a2 o.name.length c2)
  replace lr := lr.frm (Frm.ofGrown hsS) (by simp)
  replace hB := bstepBy hB hsS (fun q hq => by cases hq; exact Nat.le_refl _)
  replace hk := hk.keepBy hsS (.inr (fun e => by have := (hk.lt _ e).1; omega))
  replace hn := hn.keepBy hsS (.inr (fun e => by have := (hn.lt _ e).1; omega))
  have sz2 := hsS.size
  clear hsS
  have LL := hide (show _ ∧ _ ∧ _ ∧ _ from ⟨lo, lr, hB, (show _ ∧ _ from ⟨hk, hn⟩)⟩)
  clear lo lr hB hk hn
  go_upto_region 3 with fail
  obtain ⟨lo, lr, hB, hk, hn⟩ := unhide LL
  clear LL q0 q1 q2 q3 q4 q5 q6 q7 q8 q9 q10 q11 fz
  generalize (v2.setCell ⟨w.heap.size, 9, none⟩ (.slice a2 o.name.length c2)) = x2 at *
  have hAe := (Below.refl x2.heap.size x2).alloc (Nat.le_refl _) (.cells #[] 5)
  have cS : (x2.alloc (.cells #[] 5)).cell? ⟨w.heap.size, 10, none⟩ = some (.slice tt o.text.length ct) := (lo.all hAe).cell 10
  have cS0 : x2.cell? ⟨w.heap.size, 10, none⟩ = some (.slice tt o.text.length ct) := lo.cell 10
  have hE := own_none x2
  have hSrc := unhide HX _ (bstep hB hAe)
  have hlo := lo.lt
  have hlr := lr.lt
  have hwz : (x2.alloc (.cells #[] 5)).heap.size = x2.heap.size + 1 := by simp
  have HE := hide (And.intro hE (And.intro hSrc (And.intro hAe hwz)))
  have LL := hide (And.intro lo (And.intro lr (And.intro hB (And.intro hk (And.intro hn trivial)))))
  clear hE hSrc hAe hwz lo lr hB hk hn
  go_wp2_with (at_builtin; refine wpList_app rfl _ _ rfl x2.heap.size _ [] rfl (unhide HE).1 _ o.text rfl (unhide HE).2.1 ?c1 ?c2 ?_)
  case c1 => simp; omega
  case c2 => rw [(unhide HE).2.2.2]; omega
  intro u3 v3 ho hg
  obtain ⟨_, _, hAe, hwz⟩ := unhide HE
  obtain ⟨lo, lr, hB, hk, hn, _⟩ := unhide LL
  clear LL HE cS cS0
  try rw [List.nil_append] at ho
  obtain ⟨a3, c3, rfl, _, _⟩ := ho.byt.shape
  replace lo := (lo.all hAe).frm (Frm.ofGrown hg) (by simp [Value.ownBlock]; omega)
  replace lr := (lr.all hAe).frm (Frm.ofGrown hg) (by simp [Value.ownBlock]; omega)
  replace hB := bstepBy (bstep hB hAe) hg (fun q hq => by simp [Value.ownBlock] at hq; omega)
  replace hk := (hk.keep hAe).keepBy hg (.inr (fun e => by have := (hk.lt x2.heap.size e).2; omega))
  replace hn := (hn.keep hAe).keepBy hg (.inr (fun e => by have := (hn.lt x2.heap.size e).2; omega))
  have ht := ho
  have rr3 := ht.lt
  have szq3 : x2.heap.size ≤ v3.heap.size := by have := hg.size; omega
  clear ho hg hAe hwz
  have hsS := setGO v3 w.heap.size 10 (.slice a3 o.text.length c3)
  obtain ⟨q0, q1, q2, q3, q4, q5, q6, q7, q8, q9, q10, q11⟩ := lo.twelve
  have fz := lo.frozen 10
  replace lo : Loc (v3.setCell ⟨w.heap.size, 10, none⟩ (.slice a3 o.text.length c3)) w.heap.size #[.int .i64 o.kind, .int .i64 o.atN, .int .i64 o.atR, .int .i64 o.nodeN, .int .i64 o.nodeR, .int .i64 o.parN, .int .i64 o.parR, .slice a1 o.key.length c1, .int .i64 o.elem, .slice a2 o.name.length c2, .slice a3 o.text.length c3, .bool o.gone] 28 := lo.set 10 (.slice a3 o.text.length c3)
  replace lr := lr.frm (Frm.ofGrown hsS) (by simp)
  replace hB := bstepBy hB hsS (fun q hq => by cases hq; exact Nat.le_refl _)
  replace hk := hk.keepBy hsS (.inr (fun e => by have := (hk.lt _ e).1; omega))
  replace hn := hn.keepBy hsS (.inr (fun e => by have := (hn.lt _ e).1; omega))
  replace ht := ht.keepBy hsS (.inr (fun e => by have := (ht.lt _ e).1; omega))
  have sz3 := hsS.size
  clear hsS
  have LL := hide (show _ ∧ _ ∧ _ ∧ _ from ⟨lo, lr, hB, (show _ ∧ _ ∧ _ from ⟨hk, hn, ht⟩)⟩)
  clear lo lr hB hk hn ht
  go_upto_region 4 with fail
  obtain ⟨lo, lr, hB, hk, hn, ht⟩ := unhide LL
  clear LL q0 q1 q2 q3 q4 q5 q6 q7 q8 q9 q10 q11 fz
  generalize (v3.setCell ⟨w.heap.size, 10, none⟩ (.slice a3 o.text.length c3)) = x3 at *
  have hnd : (FB (.slice a1 o.key.length c1) ++ FB (.slice a2 o.name.length c2) ++ FB (.slice a3 o.text.length c3)).Nodup := by
    have d1 : Rng (FB (.slice a1 o.key.length c1)) _ _ := fun q hq => rr1 q (by simpa [FB] using hq)
    have d2 : Rng (FB (.slice a2 o.name.length c2)) _ _ := fun q hq => rr2 q (by simpa [FB] using hq)
    have d3 : Rng (FB (.slice a3 o.text.length c3)) _ _ := fun q hq => rr3 q (by simpa [FB] using hq)
    exact nodup_app (lo := 0) (nodup_app (FB_nodup _) (FB_nodup _) d1 (d2.mono (by omega) (Nat.le_refl _))) (FB_nodup _) ((d1.mono (Nat.zero_le _) (by omega)).app (d2.mono (Nat.zero_le _) (Nat.le_refl _))) (d3.mono (by omega) (Nat.le_refl _))
  replace hk := hk.mono (show w.heap.size + 2 ≤ _ by omega)
  replace hn := hn.mono (show w.heap.size + 2 ≤ _ by omega)
  replace ht := ht.mono (show w.heap.size + 2 ≤ _ by omega)
  have lrz : Loc ((((((((((((x3.setCell ⟨(w.heap.size + 1), 0, none⟩ (.int .i64 o.kind)).setCell ⟨(w.heap.size + 1), 1, none⟩ (.int .i64 o.atN)).setCell ⟨(w.heap.size + 1), 2, none⟩ (.int .i64 o.atR)).setCell ⟨(w.heap.size + 1), 3, none⟩ (.int .i64 o.nodeN)).setCell ⟨(w.heap.size + 1), 4, none⟩ (.int .i64 o.nodeR)).setCell ⟨(w.heap.size + 1), 5, none⟩ (.int .i64 o.parN)).setCell ⟨(w.heap.size + 1), 6, none⟩ (.int .i64 o.parR)).setCell ⟨(w.heap.size + 1), 7, none⟩ (.slice a1 o.key.length c1)).setCell ⟨(w.heap.size + 1), 8, none⟩ (.int .i64 o.elem)).setCell ⟨(w.heap.size + 1), 9, none⟩ (.slice a2 o.name.length c2)).setCell ⟨(w.heap.size + 1), 10, none⟩ (.slice a3 o.text.length c3)).setCell ⟨(w.heap.size + 1), 11, none⟩ (.bool o.gone)) (w.heap.size + 1) #[.int .i64 o.kind, .int .i64 o.atN, .int .i64 o.atR, .int .i64 o.nodeN, .int .i64 o.nodeR, .int .i64 o.parN, .int .i64 o.parR, .slice a1 o.key.length c1, .int .i64 o.elem, .slice a2 o.name.length c2, .slice a3 o.text.length c3, .bool o.gone] 28 := set_twelve lr (.int .i64 o.kind) (.int .i64 o.atN) (.int .i64 o.atR) (.int .i64 o.nodeN) (.int .i64 o.nodeR) (.int .i64 o.parN) (.int .i64 o.parR) (.slice a1 o.key.length c1) (.int .i64 o.elem) (.slice a2 o.name.length c2) (.slice a3 o.text.length c3) (.bool o.gone)
  have hsR : x3.grownBy ((((((((((((x3.setCell ⟨(w.heap.size + 1), 0, none⟩ (.int .i64 o.kind)).setCell ⟨(w.heap.size + 1), 1, none⟩ (.int .i64 o.atN)).setCell ⟨(w.heap.size + 1), 2, none⟩ (.int .i64 o.atR)).setCell ⟨(w.heap.size + 1), 3, none⟩ (.int .i64 o.nodeN)).setCell ⟨(w.heap.size + 1), 4, none⟩ (.int .i64 o.nodeR)).setCell ⟨(w.heap.size + 1), 5, none⟩ (.int .i64 o.parN)).setCell ⟨(w.heap.size + 1), 6, none⟩ (.int .i64 o.parR)).setCell ⟨(w.heap.size + 1), 7, none⟩ (.slice a1 o.key.length c1)).setCell ⟨(w.heap.size + 1), 8, none⟩ (.int .i64 o.elem)).setCell ⟨(w.heap.size + 1), 9, none⟩ (.slice a2 o.name.length c2)).setCell ⟨(w.heap.size + 1), 10, none⟩ (.slice a3 o.text.length c3)).setCell ⟨(w.heap.size + 1), 11, none⟩ (.bool o.gone)) (some (w.heap.size + 1)) := grow_twelve _ _ (.int .i64 o.kind) (.int .i64 o.atN) (.int .i64 o.atR) (.int .i64 o.nodeN) (.int .i64 o.nodeR) (.int .i64 o.parN) (.int .i64 o.parR) (.slice a1 o.key.length c1) (.int .i64 o.elem) (.slice a2 o.name.length c2) (.slice a3 o.text.length c3) (.bool o.gone)
  have hO9 : OwOp _ (w.heap.size + 2) o _ _ _ := ⟨hk.keepBy hsR (.inr (fun e => by have := (hk.lt _ e).1; omega)), hn.keepBy hsR (.inr (fun e => by have := (hn.lt _ e).1; omega)), ht.keepBy hsR (.inr (fun e => by have := (ht.lt _ e).1; omega)), hnd⟩
  have hB9 := bstepBy hB hsR (fun q hq => by cases hq; omega)
  obtain ⟨y0, y1, y2, y3, y4, y5, y6, y7, y8, y9, y10, y11⟩ := lo.twelve
  obtain ⟨z0, z1, z2, z3, z4, z5, z6, z7, z8, z9, z10, z11⟩ := lr.twelve
  have g0 := lr.frozen 0
  have g1 := lr.frozen 1
  have g2 := lr.frozen 2
  have g3 := lr.frozen 3
  have g4 := lr.frozen 4
  have g5 := lr.frozen 5
  have g6 := lr.frozen 6
  have g7 := lr.frozen 7
  have g8 := lr.frozen 8
  have g9 := lr.frozen 9
  have g10 := lr.frozen 10
  have g11 := lr.frozen 11
  have KK := hide (And.intro lrz (And.intro hO9 hB9))
  clear lrz hsR hO9 hB9 lr lo hk hn ht hnd hB
  go_upto_region 4 with fail
  go_cut [] from 18 to 18 (fun wx => ∃ (k n t : Value), Loc wx (w.heap.size + 1) #[.int .i64 o.kind, .int .i64 o.atN, .int .i64 o.atR, .int .i64 o.nodeN, .int .i64 o.nodeR, .int .i64 o.parN, .int .i64 o.parR, k, .int .i64 o.elem, n, t, .bool o.gone] 28 ∧ OwOp wx (w.heap.size + 2) o k n t ∧ Below w.heap.size w wx)
  case first =>
    go_wp2_with fail
    go_meet
    exact ⟨_, _, _, unhide KK⟩
  case rest =>
    obtain ⟨k9, n9, t9, hL, hO9, hB9⟩ := hcut
    obtain ⟨e0, e1, e2, e3, e4, e5, e6, e7, e8, e9, e10, e11⟩ := hL.twelve
    clear KK hL z0 z1 z2 z3 z4 z5 z6 z7 z8 z9 z10 z11 y0 y1 y2 y3 y4 y5 y6 y7 y8 y9 y10 y11 g0 g1 g2 g3 g4 g5 g6 g7 g8 g9 g10 g11
    obtain ⟨a7, c7, rfl, _, _⟩ := hO9.1.ints.shape
    obtain ⟨a8, c8, rfl, _, _⟩ := hO9.2.1.byt.shape
    obtain ⟨a9, c9, rfl, _, _⟩ := hO9.2.2.1.byt.shape
    have K9 := hide (And.intro (show OwOp _ (w.heap.size) o _ _ _ from ⟨hO9.1.mono (by omega), hO9.2.1.mono (by omega), hO9.2.2.1.mono (by omega), hO9.2.2.2⟩) hB9)
    clear hO9 hB9
    go_wp2_with fail
    exact bodyPost_ret (v := .agg #[.int .i64 o.kind, .int .i64 o.atN, .int .i64 o.atR, .int .i64 o.nodeN, .int .i64 o.nodeR, .int .i64 o.parN, .int .i64 o.parR, .slice a7 o.key.length c7, .int .i64 o.elem, .slice a8 o.name.length c8, .slice a9 o.text.length c9, .bool o.gone]) (by simp [results, Tryz.results94, go_sem, e0, e1, e2, e3, e4, e5, e6, e7, e8, e9, e10, e11]) rfl (unhide HQ _ _ ⟨_, _, _, _, _, _, rfl, unhide K9⟩)
end Go.Proofs.YtkmmhlimihkgfaaGreat

/- 'append(rows, x)': one element behind a row of elements that owns its memory. -/
namespace Go.Proofs.YtkmmhlimihkgfaaGreat
open Go.RowKit
set_option linter.unusedVariables false

/-- A row of elements with one more behind it. -/
theorem OwElems.push {α : Type} {R : World → List Value → α → List Nat → Prop} (hRf : ∀ {w w' : World} {S : List Nat} {C : List Value} {x : α} {G : List Nat}, R w C x G → Frm w w' S → (∀ g ∈ G, g ∉ S) → R w' C x G)
    {w w' : World} {e : TypeId} {size : Nat} {v : Value} {l : List α} {Cs : List (List Value)} {Fs : List (List Nat)} {C : List Value} {y : α} {G : List Nat} {g cap : Nat}
    (h1 : Cs.length = l.length) (h2 : Fs.length = l.length) (h3 : ∀ i (hi : i < l.length), (Cs.getD i []).length = size ∧ R w (Cs.getD i []) l[i] (Fs.getD i []))
    (hN : (FB v ++ Fs.flatten).Nodup) (hC : C.length = size) (hy : R w C y G) (hGN : G.Nodup) (hFG : ∀ g ∈ FB v ++ Fs.flatten, g ∉ G) (hlt : ∀ q, q ∈ FB v ++ Fs.flatten ∨ q ∈ G → q < w.heap.size)
    (k1 : w'.ownsRow 0 e size (.slice (some ⟨g, 0, none⟩) (l.length + 1) cap) (l.length + 1) (Cs.flatten ++ C)) (k2 : w.grownBy w' v.ownBlock) (k3 : v.ownBlock = some g ∨ g = w.heap.size) :
    OwElems w' e size (.slice (some ⟨g, 0, none⟩) (l.length + 1) cap) (l ++ [y]) (R w') (g :: (Fs.flatten ++ G)) ∧ (g :: (Fs.flatten ++ G)).Nodup ∧ (∀ q ∈ g :: (Fs.flatten ++ G), q ∈ FB v ++ Fs.flatten ∨ q ∈ G ∨ q = w.heap.size) := by
  have hFd : ∀ q ∈ Fs.flatten, q ∉ v.ownBlock.toList := fun q hq hv => (List.nodup_append.1 hN).2.2 q (by simpa [FB] using hv) q hq rfl
  have hGd : ∀ q ∈ G, q ∉ v.ownBlock.toList := fun q hq hv => hFG q (List.mem_append_left _ (by simpa [FB] using hv)) hq
  have hf := Frm.ofGrown k2
  refine ⟨⟨Cs ++ [C], Fs ++ [G], by simp [h1], by simp [h2], fun i hi => ?_, ?_, ?_⟩, ?_, ?_⟩
  · by_cases hil : i < l.length
    · have a := h3 i hil
      have e1 : (Cs ++ [C]).getD i [] = Cs.getD i [] := by rw [List.getD_eq_getElem?_getD, List.getD_eq_getElem?_getD, List.getElem?_append_left (by omega)]
      have e2 : (Fs ++ [G]).getD i [] = Fs.getD i [] := by rw [List.getD_eq_getElem?_getD, List.getD_eq_getElem?_getD, List.getElem?_append_left (by omega)]
      rw [e1, e2, List.getElem_append_left hil]
      exact ⟨a.1, hRf a.2 hf (fun q hq => hFd q (mem_flat hq))⟩
    · have e0 : i = l.length := by simp at hi; omega
      subst e0
      have e1 : (Cs ++ [C]).getD l.length [] = C := by rw [← h1]; simp
      have e2 : (Fs ++ [G]).getD l.length [] = G := by rw [← h2]; simp
      rw [e1, e2]
      simp only [List.getElem_concat_length]
      exact ⟨hC, hRf hy hf hGd⟩
  · simp only [List.length_append, List.length_cons, List.length_nil, List.flatten_append, List.flatten_cons, List.flatten_nil, List.append_nil]
    exact k1
  · simp [FB, Value.ownBlock]
  · rw [List.nodup_cons]
    refine ⟨fun hq => ?_, List.nodup_append.2 ⟨(List.nodup_append.1 hN).2.1, hGN, fun a ha b hb hab => hFG a (List.mem_append_right _ ha) (hab ▸ hb)⟩⟩
    rcases List.mem_append.1 hq with hq | hq
    · rcases k3 with k3 | k3
      · exact hFd g hq (by simp [k3])
      · have := hlt g (.inl (List.mem_append_right _ hq)); omega
    · rcases k3 with k3 | k3
      · exact hGd g hq (by simp [k3])
      · have := hlt g (.inr hq); omega
  · intro q hq
    rcases List.mem_cons.1 hq with rfl | hq
    · rcases k3 with k3 | k3
      · exact .inl (List.mem_append_left _ (by simp [FB, k3]))
      · exact .inr (.inr k3)
    · rcases List.mem_append.1 hq with hq | hq
      · exact .inl (List.mem_append_right _ hq)
      · exact .inr (.inl hq)

/-- 'append(rows, x)' at the list of a plain region's operations. -/
theorem wpList_push {α : Type} {R : World → List Value → α → List Nat → Prop} (hRf : ∀ {w w' : World} {S : List Nat} {C : List Value} {x : α} {G : List Nat}, R w C x G → Frm w w' S → (∀ g ∈ G, g ∉ S) → R w' C x G)
    {w : World} {ops : Array Oper} {rest : List Oper} {o : Oper} {a : Act} {Q : Exit → Act → World → Prop} (hgd : o.guard = none) (s x : Operand) (t : TypeId)
    (ho : o.op = .call { callee := .builtin .append, args := #[s, x], argTypes := #[t, t] })
    (e : TypeId) (i : TypeInfo) (z : Value) (size bytes : Nat) (ht : Tryz.prog.underlying t = some (.slice e)) (hi : Tryz.prog.info? e = some i) (hz : i.zero = some z)
    (hsize : i.size = size) (hby : i.bytes = bytes) (hzs : z.cells.size = size) (hsz : 0 < size)
    (v : Value) (l : List α) (F : List Nat) (hs : a.eval s = v) (h : OwElems w e size v l (R w) F) (hN : F.Nodup)
    (ad : Addr) (c : Nat) (C : List Value) (y : α) (G : List Nat) (hx : a.eval x = .slice (some ad) 1 c) (hC : C.length = size) (hcell : ∀ j u, C[j]? = some u → w.cell? (ad.add j) = some u) (h1 : ∀ u ∈ C, u.oneCell' = true)
    (hy : R w C y G) (hGN : G.Nodup) (hFG : ∀ g ∈ F, g ∉ G) (hlt : ∀ q, q ∈ F ∨ q ∈ G → q < w.heap.size) (h63 : l.length + 1 ≤ maxLen) (hbytes : (l.length + 1) * bytes ≤ 140737488355328)
    (hK : ∀ g cap w' F', OwElems w' e size (.slice (some ⟨g, 0, none⟩) (l.length + 1) cap) (l ++ [y]) (R w') F' → F'.Nodup → (∀ q ∈ F', q ∈ F ∨ q ∈ G ∨ q = w.heap.size) → Frm w w' (FB v) → g < w'.heap.size → wpList Tryz.prog ops Q rest (a.put o.dst (.slice (some ⟨g, 0, none⟩) (l.length + 1) cap)) w') : wpList Tryz.prog ops Q (o :: rest) a w := by
  obtain ⟨Cs, Fs, e1, e2, e3, e4, rfl⟩ := h
  refine wpList_append_lies w hgd s x t ho 0 e i z size bytes ht hi hz hsize hby hzs hsz v l.length Cs.flatten hs e4 ad 1 c C hx (by omega) hcell h1 (by omega) h63 hbytes (Nat.zero_le _) w.heap.size rfl ?_
  intro g cap w' k1 k2 k3 k4
  obtain ⟨m1, m2, m3⟩ := OwElems.push (R := R) hRf e1 e2 e3 hN hC hy hGN hFG hlt k1 k2 k3
  exact hK g cap w' _ m1 m2 m3 (Frm.ofGrown k2) k4

/-- 'append(rows, x)' as one step of a region that draws its order. -/
theorem step_push {α : Type} {R : World → List Value → α → List Nat → Prop} (hRf : ∀ {w w' : World} {S : List Nat} {C : List Value} {x : α} {G : List Nat}, R w C x G → Frm w w' S → (∀ g ∈ G, g ∉ S) → R w' C x G)
    {w : World} {ops : Array Oper} {o : Oper} {a : Act} {K : Act → World → Prop} {Q : Exit → Act → World → Prop} {E : Prop} (hgd : o.guard = none) (s x : Operand) (t : TypeId)
    (ho : o.op = .call { callee := .builtin .append, args := #[s, x], argTypes := #[t, t] })
    (e : TypeId) (i : TypeInfo) (z : Value) (size bytes : Nat) (ht : Tryz.prog.underlying t = some (.slice e)) (hi : Tryz.prog.info? e = some i) (hz : i.zero = some z)
    (hsize : i.size = size) (hby : i.bytes = bytes) (hzs : z.cells.size = size) (hsz : 0 < size)
    (v : Value) (l : List α) (F : List Nat) (hs : a.eval s = v) (h : OwElems w e size v l (R w) F) (hN : F.Nodup)
    (ad : Addr) (c : Nat) (C : List Value) (y : α) (G : List Nat) (hx : a.eval x = .slice (some ad) 1 c) (hC : C.length = size) (hcell : ∀ j u, C[j]? = some u → w.cell? (ad.add j) = some u) (h1 : ∀ u ∈ C, u.oneCell' = true)
    (hy : R w C y G) (hGN : G.Nodup) (hFG : ∀ g ∈ F, g ∉ G) (hlt : ∀ q, q ∈ F ∨ q ∈ G → q < w.heap.size) (h63 : l.length + 1 ≤ maxLen) (hbytes : (l.length + 1) * bytes ≤ 140737488355328)
    (hK : ∀ g cap w' F', OwElems w' e size (.slice (some ⟨g, 0, none⟩) (l.length + 1) cap) (l ++ [y]) (R w') F' → F'.Nodup → (∀ q ∈ F', q ∈ F ∨ q ∈ G ∨ q = w.heap.size) → Frm w w' (FB v) → g < w'.heap.size → K (a.put o.dst (.slice (some ⟨g, 0, none⟩) (l.length + 1) cap)) w') : if Region.wanted o (yielded ops a.tmps) = true then Oper.wp Tryz.prog o a w K Q else E := by
  obtain ⟨Cs, Fs, e1, e2, e3, e4, rfl⟩ := h
  refine step_append_lies w hgd s x t ho 0 e i z size bytes ht hi hz hsize hby hzs hsz v l.length Cs.flatten hs e4 ad 1 c C hx (by omega) hcell h1 (by omega) h63 hbytes (Nat.zero_le _) w.heap.size rfl ?_
  intro g cap w' k1 k2 k3 k4
  obtain ⟨m1, m2, m3⟩ := OwElems.push (R := R) hRf e1 e2 e3 hN hC hy hGN hFG hlt k1 k2 k3
  exact hK g cap w' _ m1 m2 m3 (Frm.ofGrown k2) k4
end Go.Proofs.YtkmmhlimihkgfaaGreat

/- spec.l5ownOps: a row of operations all of whose memory is its own. -/
namespace Go.Proofs.YtkmmhlimihkgfaaGreat
open Go.RowKit
set_option linter.unusedVariables false
set_option maxRecDepth 100000

theorem OwOps.lt {w : World} {v : Value} {l : List OpV} {F : List Nat} (h : OwOps w v l F) : ∀ q ∈ F, q < w.heap.size := by
  obtain ⟨Cs, Fs, h1, h2, h3, h4, rfl⟩ := h
  intro q hq
  rcases List.mem_append.1 hq with h | h
  · exact (h4.lt q (by simpa [FB] using h)).2
  · obtain ⟨f, hf, hqf⟩ := List.mem_flatten.1 h
    obtain ⟨i, hi, rfl⟩ := List.getElem_of_mem hf
    have hi' : i < l.length := by omega
    obtain ⟨k, n, t, e, g1, g2, g3, g4⟩ := (h3 i hi').2
    have e1 : Fs.getD i [] = Fs[i] := by simp [List.getD_eq_getElem?_getD, hi]
    rw [e1] at g4
    rw [g4] at hqf
    rcases List.mem_append.1 hqf with h | h
    · rcases List.mem_append.1 h with h | h
      · exact (g1.lt q (by simpa [FB] using h)).2
      · exact (g2.lt q (by simpa [FB] using h)).2
    · exact (g3.lt q (by simpa [FB] using h)).2

set_option maxHeartbeats 12800000 in
theorem ownOps_any (w : World) (v : Value) (l : List OpV) (h : RdOps w v l) (hl : l.length ≤ 4194304) (hx : ∀ x ∈ l, szO x ≤ 4000000) :
    Calls Tryz.prog 47 #[v] w fun e w' => ∃ u, e = .returned u ∧ ∃ F, OwOps w' u l F ∧ F.Nodup ∧ Rng F w.heap.size w'.heap.size ∧ Below w.heap.size w w' := by
  obtain ⟨i0, hi, hz0, hz1, hz2⟩ := info_parts Tryz.info28
  have hm : (l.length : Int) ≤ 9223372036854775807 := by omega
  have HAT := hide (fun W (hW : Below w.heap.size w W) j (hj : j < l.length) => (show ∃ b off cap, v = .slice (some ⟨b, off, none⟩) l.length cap ∧ b < w.heap.size ∧ ∃ C : List Value, C.length = 12 ∧ (∀ i, i < 12 → w.cell? ⟨b, off + j * 12 + i, none⟩ = C[i]?) ∧ RdOpC w C l[j] by
    obtain ⟨_, ⟨_, e⟩ | ⟨_, _, _, _, e⟩ | ⟨b, off, cap, rfl, g1, g2, g3, g4, g5⟩⟩ := h
    · subst e; simp at hj
    · subst e; simp at hj
    · exact ⟨b, off, cap, rfl, g4, g5 j hj⟩))
  obtain ⟨av, cv, rfl, _, _⟩ := Elems.shape h
  clear h
  go_enter Tryz.func47, Tryz.ntmps47
  go_wp2_with fail
  go_loopw [3, 4] (fun b i wr => ∃ j : Nat, j ≤ l.length ∧ i = .int .i64 j ∧ ∃ F, OwOps wr b (l.take j) F ∧ F.Nodup ∧ Rng F w.heap.size wr.heap.size ∧ Below w.heap.size w wr) (fun _ i _ => l.length - (intOf i).toNat)
  case atStart => exact ⟨0, Nat.zero_le _, rfl, [], ⟨[], [], by simp, by simp, fun i hi => by simp at hi, World.ownsRow_nil _ _ _ _, rfl⟩, List.nodup_nil, fun g hg => by simp at hg, Below.refl _ _⟩
  case round =>
    obtain ⟨j, hj, rfl, F, hF, hN, hRg, hB⟩ := hrel
    by_cases hjl : j < l.length
    · have hst : l.take (j + 1) = l.take j ++ [l[j]] := List.take_succ_eq_append_getElem hjl
      have hlj : (l.take j).length = j := by rw [List.length_take]; omega
      obtain ⟨pb, poff, pcap, epv, hpl, hel⟩ := unhide HAT wr hB j hjl
      cases epv
      obtain ⟨a1, c1, a2, c2, a3, c3, e0, e1, e2, e3, e4, e5, e6, e7, e8, e9, e10, e11, hro⟩ := opc_at hB hpl hel
      have HL := hide (l4own_any wr _ l[j] hro (hx _ (List.getElem_mem hjl)))
      unfold opVal at HL
      have HST := hide hst
      generalize l[j] = o at *
      clear hst hel hro
      have hjl' : (j : Int) < (l.length : Int) := by omega
      have hj0 : (0 : Int) ≤ (j : Int) := by omega
      have HF := hide hF
      have HN := hide hN
      have HR := hide hRg
      clear hF hN hRg
      go_wp2_with fail
      clear e0 e1 e2 e3 e4 e5 e6 e7 e8 e9 e10 e11
      refine (unhide HL).mono ?_
      rintro e w2 ⟨b1, d1, b2, d2, b3, d3, rfl, hO, hB2⟩
      have hAe := (Below.refl w2.heap.size w2).alloc (Nat.le_refl _) (.cells #[.int .i64 o.kind, .int .i64 o.atN, .int .i64 o.atR, .int .i64 o.nodeN, .int .i64 o.nodeR, .int .i64 o.parN, .int .i64 o.parR, .slice b1 o.key.length d1, .int .i64 o.elem, .slice b2 o.name.length d2, .slice b3 o.text.length d3, .bool o.gone] 28)
      have lE := Loc.made w2 #[.int .i64 o.kind, .int .i64 o.atN, .int .i64 o.atR, .int .i64 o.nodeN, .int .i64 o.nodeR, .int .i64 o.parN, .int .i64 o.parR, .slice b1 o.key.length d1, .int .i64 o.elem, .slice b2 o.name.length d2, .slice b3 o.text.length d3, .bool o.gone] 28
      have hFr := OwOps.lt (unhide HF)
      have hrO : Rng (FB (.slice b1 o.key.length d1) ++ FB (.slice b2 o.name.length d2) ++ FB (.slice b3 o.text.length d3)) wr.heap.size w2.heap.size := by
        have h1 : Rng (FB (.slice b1 o.key.length d1)) wr.heap.size w2.heap.size := fun g hg => hO.1.lt g (by simpa [FB] using hg)
        exact (h1.app hO.2.1.rng).app hO.2.2.1.rng
      have HP := hide (show OwElems (w2.alloc (.cells #[.int .i64 o.kind, .int .i64 o.atN, .int .i64 o.atR, .int .i64 o.nodeN, .int .i64 o.nodeR, .int .i64 o.parN, .int .i64 o.parR, .slice b1 o.key.length d1, .int .i64 o.elem, .slice b2 o.name.length d2, .slice b3 o.text.length d3, .bool o.gone] 28)) 28 12 _ (l.take j) (OwOpC (w2.alloc (.cells #[.int .i64 o.kind, .int .i64 o.atN, .int .i64 o.atR, .int .i64 o.nodeN, .int .i64 o.nodeR, .int .i64 o.parN, .int .i64 o.parR, .slice b1 o.key.length d1, .int .i64 o.elem, .slice b2 o.name.length d2, .slice b3 o.text.length d3, .bool o.gone] 28))) F ∧ F.Nodup ∧ (∀ i u, ([.int .i64 o.kind, .int .i64 o.atN, .int .i64 o.atR, .int .i64 o.nodeN, .int .i64 o.nodeR, .int .i64 o.parN, .int .i64 o.parR, .slice b1 o.key.length d1, .int .i64 o.elem, .slice b2 o.name.length d2, .slice b3 o.text.length d3, .bool o.gone] : List Value)[i]? = some u → (w2.alloc (.cells #[.int .i64 o.kind, .int .i64 o.atN, .int .i64 o.atR, .int .i64 o.nodeN, .int .i64 o.nodeR, .int .i64 o.parN, .int .i64 o.parR, .slice b1 o.key.length d1, .int .i64 o.elem, .slice b2 o.name.length d2, .slice b3 o.text.length d3, .bool o.gone] 28)).cell? ((⟨w2.heap.size, 0, none⟩ : Addr).add i) = some u) ∧ OwOpC (w2.alloc (.cells #[.int .i64 o.kind, .int .i64 o.atN, .int .i64 o.atR, .int .i64 o.nodeN, .int .i64 o.nodeR, .int .i64 o.parN, .int .i64 o.parR, .slice b1 o.key.length d1, .int .i64 o.elem, .slice b2 o.name.length d2, .slice b3 o.text.length d3, .bool o.gone] 28)) [.int .i64 o.kind, .int .i64 o.atN, .int .i64 o.atR, .int .i64 o.nodeN, .int .i64 o.nodeR, .int .i64 o.parN, .int .i64 o.parR, .slice b1 o.key.length d1, .int .i64 o.elem, .slice b2 o.name.length d2, .slice b3 o.text.length d3, .bool o.gone] o (FB (.slice b1 o.key.length d1) ++ FB (.slice b2 o.name.length d2) ++ FB (.slice b3 o.text.length d3)) ∧ (FB (.slice b1 o.key.length d1) ++ FB (.slice b2 o.name.length d2) ++ FB (.slice b3 o.text.length d3)).Nodup ∧ (∀ g ∈ F, g ∉ (FB (.slice b1 o.key.length d1) ++ FB (.slice b2 o.name.length d2) ++ FB (.slice b3 o.text.length d3))) ∧ (∀ q, q ∈ F ∨ q ∈ (FB (.slice b1 o.key.length d1) ++ FB (.slice b2 o.name.length d2) ++ FB (.slice b3 o.text.length d3)) → q < (w2.alloc (.cells #[.int .i64 o.kind, .int .i64 o.atN, .int .i64 o.atR, .int .i64 o.nodeN, .int .i64 o.nodeR, .int .i64 o.parN, .int .i64 o.parR, .slice b1 o.key.length d1, .int .i64 o.elem, .slice b2 o.name.length d2, .slice b3 o.text.length d3, .bool o.gone] 28)).heap.size) from
        ⟨OwOps.frm (unhide HF) (Frm.ofBelow (bstep hB2 hAe) []) (fun _ _ => by simp), unhide HN, fun i u hiu => by rw [add_plain, Nat.zero_add, lE.cell i]; simpa using hiu, ⟨_, _, _, rfl, (hO.1.mono (Nat.zero_le _)).keep hAe, (hO.2.1.mono (Nat.zero_le _)).keep hAe, (hO.2.2.1.mono (Nat.zero_le _)).keep hAe, rfl⟩, hO.2.2.2, fun g hg hm => by have := hFr g hg; have := (hrO g hm).1; omega, fun q hq => by
          have hs := hAe.size
          have hs2 := hB2.size
          rcases hq with hq | hq
          · have := hFr q hq; omega
          · have := (hrO q hq).2; omega⟩)
      have HB2 := hide (And.intro (bstep (bstep hB hB2) hAe) (And.intro hrO (And.intro hAe.size hB2.size)))
      have hwE : (w2.alloc (.cells #[.int .i64 o.kind, .int .i64 o.atN, .int .i64 o.atR, .int .i64 o.nodeN, .int .i64 o.nodeR, .int .i64 o.parN, .int .i64 o.parR, .slice b1 o.key.length d1, .int .i64 o.elem, .slice b2 o.name.length d2, .slice b3 o.text.length d3, .bool o.gone] 28)).heap.size = w2.heap.size + 1 := by simp
      have HWE := hide hwE
      clear hAe lE hrO hO hFr HL hB2 hwE
      go_wp2_with (at_builtin; refine wpList_push (R := OwOpC) (fun h f d => OwOpC.frm h f d) rfl _ _ 23 rfl 28 i0 (.agg #[.int .i64 0, .int .i64 0, .int .i64 0, .int .i64 0, .int .i64 0, .int .i64 0, .int .i64 0, .slice none 0 0, .int .i64 0, .slice none 0 0, .slice none 0 0, .bool false]) 12 144 Tryz.underlying23 hi hz0 hz1 hz2 rfl (by decide) _ (l.take j) F rfl (unhide HP).1 (unhide HP).2.1 ⟨w2.heap.size, 0, none⟩ 1 [.int .i64 o.kind, .int .i64 o.atN, .int .i64 o.atR, .int .i64 o.nodeN, .int .i64 o.nodeR, .int .i64 o.parN, .int .i64 o.parR, .slice b1 o.key.length d1, .int .i64 o.elem, .slice b2 o.name.length d2, .slice b3 o.text.length d3, .bool o.gone] o (FB (.slice b1 o.key.length d1) ++ FB (.slice b2 o.name.length d2) ++ FB (.slice b3 o.text.length d3)) rfl rfl (unhide HP).2.2.1 ?c0 (unhide HP).2.2.2.1 (unhide HP).2.2.2.2.1 (unhide HP).2.2.2.2.2.1 (unhide HP).2.2.2.2.2.2 ?c1 ?c2 ?_)
      case c0 => intro y hy; simp at hy; rcases hy with rfl | rfl | rfl | rfl | rfl | rfl | rfl | rfl | rfl | rfl | rfl | rfl <;> rfl
      case c1 => rw [hlj]; unfold maxLen; omega
      case c2 => rw [hlj]; omega
      intro g9 cap9 w9 F9 hF9 hN9 hM9 hf9 hg9
      obtain ⟨hW4, hrO, hs4, hs2⟩ := unhide HB2
      have hwE := unhide HWE
      have hBs := hB.size
      have hW9 : Below w.heap.size w w9 := hW4.trans (hf9.below hW4.size (fun q hq => (unhide HR q (by obtain ⟨Cs, Fs, _, _, _, _, rfl⟩ := unhide HF; exact List.mem_append_left _ hq)).1))
      have HO9 := hide (show OwOps w9 (.slice (some ⟨g9, 0, none⟩) (j + 1) cap9) (l.take (j + 1)) F9 by
        rw [unhide HST]
        try rw [hlj] at hF9
        exact hF9)
      have HR9 := hide (show Rng F9 w.heap.size w9.heap.size from fun q hq => ⟨by
        rcases hM9 q hq with k | k | k
        · exact (unhide HR q k).1
        · have := (hrO q (by simpa using k)).1; omega
        · omega, OwOps.lt (unhide HO9) q hq⟩)
      have HN9 := hide hN9
      try rw [hlj]
      clear hF9 hM9 hN9 hf9 hW4 hrO hwE
      have HW9 := hide hW9
      clear hW9
      go_wp2_with fail
      go_roundw
      case rel => exact ⟨j + 1, by omega, by go_num, F9, unhide HO9, unhide HN9, unhide HR9, unhide HW9⟩
      case measure => simp [intOf]; omega
    · have e : j = l.length := by omega
      subst e
      rw [List.take_length] at hF
      have HH := hide (And.intro hF (And.intro hN (And.intro hRg hB)))
      clear hF hN hRg
      go_wp2_with fail
      go_ret
      exact ⟨_, rfl, F, unhide HH⟩
end Go.Proofs.YtkmmhlimihkgfaaGreat

/- spec.OpsOk answers what the plain test of a row says. -/
namespace Go.Proofs.YtkmmhlimihkgfaaGreat
open Go.RowKit
set_option linter.unusedVariables false
set_option maxRecDepth 100000

set_option maxHeartbeats 6400000 in
theorem opsS_any (w : World) (v : Value) (l : List OpV) (h : RdOps w v l) :
    Calls Tryz.prog 7 #[v] w fun e w' => e = .returned (.bool (opsB l)) ∧ Below w.heap.size w w' := by
  have hm := h.1
  unfold maxLen at hm
  by_cases hlong : 150 < l.length
  · obtain ⟨a, cap, rfl, _, _⟩ := Elems.shape h
    have hd : (150 : Int) < (l.length : Int) := by omega
    rw [opsB_long hlong]
    go_enter Tryz.func7, Tryz.ntmps7
    go_wp2_with fail
    go_ret
    exact ⟨rfl, Below.refl _ _⟩
  have hd : ¬ (150 : Int) < (l.length : Int) := by omega
  obtain ⟨rfl, a, cap, rfl⟩ | ⟨b, off, cap, rfl, hnil, g4, g5⟩ := h.cases
  · go_enter Tryz.func7, Tryz.ntmps7
    go_wp2_with fail
    refine wp_loop_rounds 1 ?_
    rw [rounds_succ]
    go_wp2_with fail
    go_ret
    exact ⟨rfl, Below.refl _ _⟩
  have HG := hide (fun hh => opsB_good (l := l) (by omega) hh)
  have HN := hide (fun k hk hh => opsB_bad (l := l) (k := k) hk hh)
  generalize opsB l = res at *
  go_enter Tryz.func7, Tryz.ntmps7
  go_wp2_with fail
  go_loopw [3] (fun i wr => ∃ k : Nat, k ≤ l.length ∧ i = .int .i64 k ∧ (∀ j, j < k → okAt l j = true) ∧ Below w.heap.size w wr) (fun i _ => l.length - (intOf i).toNat)
  case atStart => exact ⟨0, Nat.zero_le _, rfl, fun j hj => by omega, Below.refl _ _⟩
  case round =>
    obtain ⟨k, hk, rfl, hok, hB⟩ := hrel
    by_cases hlt : k < l.length
    · have HX := hide (fun W u (hu : RdOp W u l[k]) => opS_any W u l[k] hu)
      have HL := hide (fun W n r n' r' => lessS_any W n r n' r')
      have H0 := hide (fun (h : opB l[k] = false) => okAt_no hlt h)
      have HZ := hide (fun (h : opB l[k] = true) (e : k = 0) => (show okAt l k = true by subst e; exact okAt_0 hlt h))
      have HS := hide (fun j (e : k = j + 1) (h : opB l[k] = true) => (show okAt l k = lessB (l[j]'(by omega)).atN (l[j]'(by omega)).atR l[k].atN l[k].atR by subst e; exact okAt_s hlt h))
      have HP := hide (fun j (e : k = j + 1) => opc_at hB g4 (g5 j (by omega)))
      have HJ := hide (fun j (hj : j < k + 1) (h : okAt l k = true) => (show okAt l j = true by rcases Nat.lt_succ_iff_lt_or_eq.1 hj with h1 | rfl; exact hok j h1; exact h))
      have HNK := hide (fun (h : okAt l k = false) => unhide HN k hlt h)
      obtain ⟨a1, c1, a2, c2, a3, c3, e0, e1, e2, e3, e4, e5, e6, e7, e8, e9, e10, e11, hr⟩ := opc_at hB g4 (g5 k hlt)
      have hlt' : (k : Int) < (l.length : Int) := by omega
      have hk0 : (0 : Int) ≤ (k : Int) := by omega
      have HR := hide hr
      unfold opVal at HR
      generalize hoo : l[k] = o at *
      generalize o.key.length = nK at *
      generalize o.name.length = nN at *
      generalize o.text.length = nT at *
      clear g5 hr hnil hoo HG HN hok
      generalize okAt l k = okk at *
      have g4' : b < wr.heap.size := Nat.lt_of_lt_of_le g4 hB.size
      have hNE : Nonempty (Gr wr) := ⟨⟨wr, Below.refl _ _⟩⟩
      replace e0 := Gr.cell g4' e0
      replace e1 := Gr.cell g4' e1
      replace e2 := Gr.cell g4' e2
      replace e3 := Gr.cell g4' e3
      replace e4 := Gr.cell g4' e4
      replace e5 := Gr.cell g4' e5
      replace e6 := Gr.cell g4' e6
      replace e7 := Gr.cell g4' e7
      replace e8 := Gr.cell g4' e8
      replace e9 := Gr.cell g4' e9
      replace e10 := Gr.cell g4' e10
      replace e11 := Gr.cell g4' e11
      by_cases hq : opB o = true
      · rw [hq] at HX
        rcases Nat.eq_zero_or_pos k with hz | hpos
        · have HY := hide (unhide HZ hq hz)
          have dz3 : ¬ 0 < k := by omega
          have dz4 : decide (0 < k) = false := by simp; omega
          clear H0 HZ HS HP hq HL hz
          go_wp2_with fail
          refine wp_region_gr (by kernel_rfl) (by kernel_rfl) ?_
          repeat (go_big_quiet_step ((rename_i p; exact calls_gr (unhide HX _ _ ((unhide HR).keep p.h)))))
          refine wpQuiet_nil ?_
          rintro _ ⟨p, rfl⟩
          have hB3 := bstep hB p.h
          clear e0 e1 e2 e3 e4 e5 e6 e7 e8 e9 e10 e11 HR
          go_wp2_with fail
          go_roundw
          case rel => exact ⟨k + 1, by omega, by go_num, fun j hj => unhide HJ j hj (unhide HY), hB3⟩
          case measure => simp [intOf]; omega
        · obtain ⟨j, ej⟩ : ∃ j, k = j + 1 := ⟨k - 1, by omega⟩
          have dz3 : 0 < k := hpos
          have dz4 : decide (0 < k) = true := by simp; omega
          have hj1 : (k : Int) - 1 = (j : Int) := by omega
          have hj0 : (0 : Int) ≤ (j : Int) := by omega
          have hjl : (j : Int) < (l.length : Int) := by omega
          obtain ⟨pn, pr, i1, i2, HE⟩ : ∃ pn pr, wr.cell? ⟨b, off + j * 12 + 1, none⟩ = some (.int .i64 pn) ∧ wr.cell? ⟨b, off + j * 12 + 2, none⟩ = some (.int .i64 pr) ∧ okk = lessB pn pr o.atN o.atR := by
            obtain ⟨_, _, _, _, _, _, _, i1, i2, _⟩ := unhide HP j ej
            exact ⟨_, _, i1, i2, unhide HS j ej hq⟩
          replace i1 := Gr.cell g4' i1
          replace i2 := Gr.cell g4' i2
          clear H0 HZ HS HP hq hpos
          have HLL := hide (fun W => unhide HL W pn pr o.atN o.atR)
          generalize lessB pn pr o.atN o.atR = lb at *
          subst HE
          clear HL ej
          go_wp2_with fail
          refine wp_region_gr (by kernel_rfl) (by kernel_rfl) ?_
          repeat (go_big_quiet_step ((rename_i p; first | exact calls_gr (unhide HX _ _ ((unhide HR).keep p.h)) | exact calls_gr (unhide HLL _))))
          refine wpQuiet_nil ?_
          rintro _ ⟨p, rfl⟩
          have hB3 := bstep hB p.h
          clear e0 e1 e2 e3 e4 e5 e6 e7 e8 e9 e10 e11 HR i1 i2
          cases okk with
          | true =>
            go_wp2_with fail
            go_roundw
            case rel => exact ⟨k + 1, by omega, by go_num, fun j hj => unhide HJ j hj rfl, hB3⟩
            case measure => simp [intOf]; omega
          | false =>
            have HF := hide (unhide HNK rfl)
            clear HNK
            go_wp2_with fail
            go_ret
            exact ⟨by rw [unhide HF]; rfl, hB3⟩
      · have hq' : opB o = false := by simpa using hq
        rw [hq'] at HX
        have HY := hide (unhide HNK (unhide H0 hq'))
        clear H0 HZ HS HP hq hq' HL HNK
        go_wp2_with fail
        refine wp_region_gr (by kernel_rfl) (by kernel_rfl) ?_
        repeat (go_big_quiet_step ((rename_i p; exact calls_gr (unhide HX _ _ ((unhide HR).keep p.h)))))
        refine wpQuiet_nil ?_
        rintro _ ⟨p, rfl⟩
        have hB3 := bstep hB p.h
        clear e0 e1 e2 e3 e4 e5 e6 e7 e8 e9 e10 e11 HR
        go_wp2_with fail
        go_ret
        exact ⟨by rw [unhide HY]; rfl, hB3⟩
    · have HY := hide (unhide HG (fun j hj => hok j (by omega)))
      clear g5
      go_wp2_with fail
      go_ret
      exact ⟨by rw [unhide HY]; rfl, hB⟩
end Go.Proofs.YtkmmhlimihkgfaaGreat

/- spec.Put. -/
namespace Go.Proofs.YtkmmhlimihkgfaaGreat
open Go.RowKit
set_option linter.unusedVariables false
set_option maxRecDepth 100000

def putV (l : List OpV) (o : OpV) : List OpV := if opsB l && opB o then putL l o else []
def putAns (l : List OpV) (o : OpV) : Bool := opsB l && opB o && putOk l o
theorem opsB_len {l : List OpV} (h : opsB l = true) : l.length ≤ 150 := by
  unfold opsB at h
  rw [Bool.and_eq_true, decide_eq_true_eq] at h
  exact h.1
theorem putL_mem {l : List OpV} {o x : OpV} (h : x ∈ putL l o) : x = o ∨ x ∈ l := by
  unfold putL at h
  split at h
  · split at h
    · exact (List.mem_or_eq_of_mem_set h).symm
    · exact .inr h
  · split at h
    · exact .inr h
    · rcases List.mem_append.mp h with h | h
      · rcases List.mem_append.mp h with h | h
        · exact .inr (List.mem_of_mem_take h)
        · exact .inl (by simpa using h)
      · exact .inr (List.mem_of_mem_drop h)
theorem putL_len (l : List OpV) (o : OpV) : (putL l o).length ≤ l.length + 1 := by
  unfold putL
  split
  · split
    · rw [List.length_set]; omega
    · omega
  · split
    · omega
    · simp only [List.length_append, List.length_take, List.length_drop, List.length_cons, List.length_nil]; omega
theorem owOps_none (w : World) : OwOps w (.slice none 0 0) [] [] := by
  refine ⟨[], [], rfl, rfl, fun i hi => by simp at hi, ?_, rfl⟩
  exact ⟨rfl, .inl ⟨rfl, rfl⟩⟩

set_option maxHeartbeats 20000000 in
theorem sput_any (w : World) (v vo : Value) (l : List OpV) (o : OpV) (h : RdOps w v l) (ho : RdOp w vo o) (hs : szO o ≤ 2097152) (hls : ∀ x ∈ l, szO x ≤ 2097152) :
    Calls Tryz.prog 14 #[v, vo] w fun e w' => ∃ u, e = .returned (.tuple #[u, .bool (putAns l o)]) ∧ ∃ F, OwOps w' u (putV l o) F ∧ F.Nodup ∧ Rng F w.heap.size w'.heap.size ∧ Below w.heap.size w w' := by
  have HO := hide (fun (W : World) (hW : Below w.heap.size w W) => opS_any W vo o (ho.keep hW))
  have HS := hide (fun (W : World) (hW : Below w.heap.size w W) => opsS_any W v l (h.keep hW))
  have HP := hide (fun (hl : l.length ≤ 150) (W : World) (hW : Below w.heap.size w W) => l5put_any W v vo l o (h.keep hW) (ho.keep hW) hl (by unfold szO at hs; omega) (fun x hx => by have := hls x hx; unfold szO at this; omega))
  have HZ := hide (show ∀ x ∈ putL l o, szO x ≤ 4000000 from fun x hx => by
    rcases putL_mem hx with rfl | hx
    · omega
    · have := hls x hx; omega)
  obtain ⟨k, n, t, rfl, hk, hn, ht⟩ := ho
  obtain ⟨a1, c1, rfl, _, _⟩ := hk.shape
  obtain ⟨a2, c2, rfl, _, _⟩ := hn.shape
  obtain ⟨a3, c3, rfl, _, _⟩ := ht.shape
  obtain ⟨av, cv, rfl, _, _⟩ := Elems.shape h
  clear hk hn ht h hs hls
  have hA0 := (Below.refl w.heap.size w).alloc (Nat.le_refl _) (.cells #[.int .i64 o.kind, .int .i64 o.atN, .int .i64 o.atR, .int .i64 o.nodeN, .int .i64 o.nodeR, .int .i64 o.parN, .int .i64 o.parR, .slice a1 o.key.length c1, .int .i64 o.elem, .slice a2 o.name.length c2, .slice a3 o.text.length c3, .bool o.gone] 28)
  have l0 := Loc.made w #[.int .i64 o.kind, .int .i64 o.atN, .int .i64 o.atR, .int .i64 o.nodeN, .int .i64 o.nodeR, .int .i64 o.parN, .int .i64 o.parR, .slice a1 o.key.length c1, .int .i64 o.elem, .slice a2 o.name.length c2, .slice a3 o.text.length c3, .bool o.gone] 28
  unfold opVal at HO HP
  unfold putV putAns
  refine calls_via ?_
  intro Q HQ
  unfold opVal
  cases hb : opsB l with
  | false =>
    rw [hb] at HS HQ
    go_enter Tryz.func14, Tryz.ntmps14
    go_wp2_with fail
    refine (unhide HS _ hA0).mono ?_
    rintro e w1 ⟨rfl, hB⟩
    have hB1 := bstep hA0 hB
    have KK := hide (unhide HQ (.returned (.tuple #[.slice none 0 0, .bool false])) w1 ⟨.slice none 0 0, rfl, [], owOps_none _, List.nodup_nil, Rng.nil _ _, hB1⟩)
    clear hA0 hB HO HP HS HQ HZ l0 hb hB1
    go_wp2_with fail
    exact unhide KK
  | true =>
    rw [hb] at HS
    have hl := opsB_len hb
    cases hc : opB o with
    | false =>
      rw [hb, hc] at HQ
      rw [hc] at HO
      go_enter Tryz.func14, Tryz.ntmps14
      go_wp2_with fail
      refine (unhide HS _ hA0).mono ?_
      rintro e w1 ⟨rfl, hB⟩
      have hB1 := bstep hA0 hB
      have l1 := l0.all hB
      clear hA0 hB HS l0 hb
      obtain ⟨x0, x1, x2, x3, x4, x5, x6, x7, x8, x9, x10, x11⟩ := l1.twelve
      go_wp2_with fail
      clear x0 x1 x2 x3 x4 x5 x6 x7 x8 x9 x10 x11
      refine (unhide HO _ hB1).mono ?_
      rintro e w2 ⟨rfl, hB⟩
      have hB2 := bstep hB1 hB
      have KK := hide (unhide HQ (.returned (.tuple #[.slice none 0 0, .bool false])) w2 ⟨.slice none 0 0, rfl, [], owOps_none _, List.nodup_nil, Rng.nil _ _, hB2⟩)
      clear hB1 hB HO HP HQ HZ l1 hB2 hc
      go_wp2_with fail
      exact unhide KK
    | true =>
      rw [hb, hc] at HQ
      rw [hc] at HO
      have HQ2 := hide (fun u w9 (z : ∃ F, OwOps w9 u (putL l o) F ∧ F.Nodup ∧ Rng F w.heap.size w9.heap.size ∧ Below w.heap.size w w9) => unhide HQ (.returned (.tuple #[u, .bool (putOk l o)])) w9 ⟨u, rfl, z⟩)
      clear HQ
      have hln := putL_len l o
      generalize putOk l o = kk at *
      generalize putL l o = pl at *
      go_enter Tryz.func14, Tryz.ntmps14
      go_wp2_with fail
      refine (unhide HS _ hA0).mono ?_
      rintro e w1 ⟨rfl, hB⟩
      have hB1 := bstep hA0 hB
      have l1 := l0.all hB
      clear hA0 hB HS l0 hb
      obtain ⟨x0, x1, x2, x3, x4, x5, x6, x7, x8, x9, x10, x11⟩ := l1.twelve
      go_wp2_with fail
      clear x0 x1 x2 x3 x4 x5 x6 x7 x8 x9 x10 x11
      refine (unhide HO _ hB1).mono ?_
      rintro e w2 ⟨rfl, hB⟩
      have hB2 := bstep hB1 hB
      have l2 := l1.all hB
      clear hB1 hB HO l1 hc
      obtain ⟨x0, x1, x2, x3, x4, x5, x6, x7, x8, x9, x10, x11⟩ := l2.twelve
      go_wp2_with fail
      clear x0 x1 x2 x3 x4 x5 x6 x7 x8 x9 x10 x11 l2
      refine (unhide HP hl _ hB2).mono ?_
      rintro e w3 ⟨u, rfl, hru, hB⟩
      have hB3 := bstep hB2 hB
      have HR := hide (ownOps_any w3 u pl hru (by omega) (unhide HZ))
      clear hB2 hB HP hru HZ
      go_wp2_with fail
      refine (unhide HR).mono ?_
      rintro e w4 ⟨u4, rfl, F, hF1, hF2, hF3, hB⟩
      have hB4 := bstep hB3 hB
      have KK := hide (unhide HQ2 u4 w4 ⟨F, hF1, hF2, hF3.mono hB3.size (Nat.le_refl _), hB4⟩)
      clear HQ2 HR hF1 hF2 hF3 hB hB3 hB4
      go_wp2_with fail
      exact unhide KK
end Go.Proofs.YtkmmhlimihkgfaaGreat

/- Rows of operations that are drawn: their blocks lie behind the cursor's. -/
namespace Go.Proofs.YtkmmhlimihkgfaaGreat
open Go.RowKit
set_option linter.unusedVariables false
set_option maxRecDepth 100000

/-- The cells of an operation whose rows lie in blocks of their own behind g. -/
def RdG (g : Nat) (w : World) (C : List Value) (o : OpV) : Prop := ∃ k n t, C = [.int .i64 o.kind, .int .i64 o.atN, .int .i64 o.atR, .int .i64 o.nodeN, .int .i64 o.nodeR, .int .i64 o.parN, .int .i64 o.parR, k, .int .i64 o.elem, n, t, .bool o.gone] ∧ OwnZ w (g + 1) k o.key ∧ RowM w (g + 1) n o.name ∧ RowM w (g + 1) t o.text
theorem RdG.rd {g : Nat} {w : World} {C : List Value} {o : OpV} (h : RdG g w C o) : RdOpC w C o := by
  obtain ⟨k, n, t, e, h1, h2, h3⟩ := h
  exact ⟨k, n, t, e, h1.ints, h2.byt, h3.byt⟩
theorem RdG.by {g : Nat} {w w' : World} {C : List Value} {o : OpV} (h : RdG g w C o) (hg : w.grownBy w' (some g)) : RdG g w' C o := by
  obtain ⟨k, n, t, e, h1, h2, h3⟩ := h
  exact ⟨k, n, t, e, h1.keepBy hg (.inr (fun e => by have := (h1.lt _ e).1; omega)), h2.keepBy hg (fun q e e2 => by have := (h2.lt _ e).1; cases e2; omega), h3.keepBy hg (fun q e e2 => by have := (h3.lt _ e).1; cases e2; omega)⟩
theorem RdG.keep {g : Nat} {w w' : World} {C : List Value} {o : OpV} (h : RdG g w C o) (hB : Below w.heap.size w w') : RdG g w' C o := by
  obtain ⟨k, n, t, e, h1, h2, h3⟩ := h
  exact ⟨k, n, t, e, h1.keep hB, h2.keep hB, h3.keep hB⟩
theorem OwM.rdg {w : World} {base g : Nat} {o : OpV} {k n t : Value} (h : OwM w base o k n t) (hb : g < base) : RdG g w [.int .i64 o.kind, .int .i64 o.atN, .int .i64 o.atR, .int .i64 o.nodeN, .int .i64 o.nodeR, .int .i64 o.parN, .int .i64 o.parR, k, .int .i64 o.elem, n, t, .bool o.gone] o :=
  ⟨k, n, t, rfl, h.1.mono hb, h.2.1.mono hb, h.2.2.1.mono hb⟩
/-- A row of operations may grow in its own block: the operations' rows are none of it, by their type. -/
theorem RdG.own {g base m : Nat} {w w' : World} {C : List Value} {o : OpV} {v : Value} {xs : List Value} (h : RdG g w C o) (hv : w.ownsRow base 28 12 v m xs) (hg : w.grownBy w' v.ownBlock) : RdG g w' C o := by
  obtain ⟨k, n, t, e, h1, h2, h3⟩ := h
  have hb : ∀ q, v.ownBlock = some q → ∃ cur, w.heap[q]? = some (.cells cur 28 (0, 0)) := fun q hq => by
    rcases hv.2 with ⟨rfl, _⟩ | ⟨q', cap, cur, rfl, _, hc, _⟩
    · simp [Value.ownBlock] at hq
    · simp [Value.ownBlock] at hq
      subst hq
      exact ⟨cur, hc⟩
  have k1 : ∀ q, k.ownBlock = some q → v.ownBlock ≠ some q := fun q hq hq' => by
    obtain ⟨cur, hc⟩ := hb q hq'
    rcases h1.2.2 with ⟨rfl, _⟩ | ⟨q', cap, cur', rfl, _, hc', _⟩
    · simp [Value.ownBlock] at hq
    · simp [Value.ownBlock] at hq
      subst hq
      rw [hc] at hc'
      have := Option.some.inj hc'
      injection this with _ e2
      exact absurd e2 (by decide)
  have kb : ∀ (u : Value) (l : List Int), RowM w (g + 1) u l → ∀ q, u.ownBlock = some q → v.ownBlock ≠ some q := fun u l hu q hq hq' => by
    obtain ⟨cur, hc⟩ := hb q hq'
    rcases hu.2 with ⟨rfl, _⟩ | ⟨q', cap, cur', fz, rfl, _, hc', _⟩
    · simp [Value.ownBlock] at hq
    · simp [Value.ownBlock] at hq
      subst hq
      rw [hc] at hc'
      have := Option.some.inj hc'
      injection this with _ e2
      exact absurd e2 (by decide)
  refine ⟨k, n, t, e, ?_, h2.keepBy hg (fun q hq => kb n _ h2 q hq), h3.keepBy hg (fun q hq => kb t _ h3 q hq)⟩
  exact h1.keepBy hg (by
    cases hk : k.ownBlock with
    | none => exact .inl rfl
    | some q => exact .inr (fun e2 => k1 q hk e2.symm))
/-- A drawn row of operations, its block behind the cursor's, from B on. -/
def DrOps (g B : Nat) (w : World) (v : Value) (l : List OpV) : Prop := g < B ∧ ShOpsP (RdG g w) w B v l
theorem DrOps.rd {g B : Nat} {w : World} {v : Value} {l : List OpV} (h : DrOps g B w v l) : RdOps w v l := ShOpsP.rdOps (fun _ _ hr => hr.rd) h.2
theorem DrOps.by {g B : Nat} {w w' : World} {v : Value} {l : List OpV} (h : DrOps g B w v l) (hg : w.grownBy w' (some g)) : DrOps g B w' v l :=
  ⟨h.1, ShOpsP.to (fun _ _ hr => hr.by hg) h.2 (Frm.ofGrown hg) (fun q hq => by have := h.1; simp at hq; omega)⟩
theorem DrOps.keep {g B : Nat} {w w' : World} {v : Value} {l : List OpV} (h : DrOps g B w v l) (hB : Below w.heap.size w w') : DrOps g B w' v l :=
  ⟨h.1, ShOpsP.to (fun _ _ hr => hr.keep hB) h.2 (Frm.ofBelow hB []) (fun q hq => by simp at hq)⟩
theorem DrOps.shape {g B : Nat} {w : World} {v : Value} {l : List OpV} (h : DrOps g B w v l) : ∃ a c, v = .slice a l.length c := by
  obtain ⟨a, c, e, _⟩ := Elems.shape h.rd
  exact ⟨a, c, e⟩
theorem DrOps.blk {g B : Nat} {w : World} {v : Value} {l : List OpV} (h : DrOps g B w v l) : ∀ q, v.ownBlock = some q → B ≤ q ∧ q < w.heap.size := by
  obtain ⟨_, Cs, _, _, h3⟩ := h
  exact fun q hq => h3.lt q hq
/-- What l5put hands on is drawn again. -/
theorem PutRP.dr {g B : Nat} {w w' : World} {v u : Value} {l pl : List OpV} (hp : PutRP (RdG g w) w.heap.size w' v u l pl) (h : DrOps g B w v l) (hB : Below w.heap.size w w') (hg : B ≤ w.heap.size) : DrOps g B w' u pl := by
  rcases hp with ⟨rfl, e⟩ | hs
  · rw [e]; exact h.keep hB
  · exact ⟨h.1, ShOpsP.low (ShOpsP.to (S := []) (fun _ _ hr => hr.keep hB) hs (Frm.refl _ _) (fun q hq => by simp at hq)) hg⟩
theorem Frm.toGrown {w w' : World} {b : Nat} (f : Frm w w' [b]) : w.grownBy w' (some b) := ⟨f.os, f.tape, f.output, f.size, fun k hk hn => f.block k hk (fun e => hn (by simp at e; rw [e]))⟩
/-- Its first operation. -/
theorem DrOps.head {g B : Nat} {w : World} {v : Value} {l : List OpV} (h : DrOps g B w v l) (hl : 0 < l.length) : ∃ b cap a1 c1 a2 c2 a3 c3, ∃ o : OpV, l[0]? = some o ∧ v = .slice (some ⟨b, 0, none⟩) l.length cap ∧ B ≤ b ∧ b < w.heap.size ∧ (w.cell? ⟨b, 0, none⟩ = some (.int .i64 o.kind) ∧ w.cell? ⟨b, 1, none⟩ = some (.int .i64 o.atN) ∧ w.cell? ⟨b, 2, none⟩ = some (.int .i64 o.atR) ∧ w.cell? ⟨b, 3, none⟩ = some (.int .i64 o.nodeN) ∧ w.cell? ⟨b, 4, none⟩ = some (.int .i64 o.nodeR) ∧ w.cell? ⟨b, 5, none⟩ = some (.int .i64 o.parN) ∧ w.cell? ⟨b, 6, none⟩ = some (.int .i64 o.parR) ∧ w.cell? ⟨b, 7, none⟩ = some (.slice a1 o.key.length c1) ∧ w.cell? ⟨b, 8, none⟩ = some (.int .i64 o.elem) ∧ w.cell? ⟨b, 9, none⟩ = some (.slice a2 o.name.length c2) ∧ w.cell? ⟨b, 10, none⟩ = some (.slice a3 o.text.length c3) ∧ w.cell? ⟨b, 11, none⟩ = some (.bool o.gone)) ∧ RdG g w [.int .i64 o.kind, .int .i64 o.atN, .int .i64 o.atR, .int .i64 o.nodeN, .int .i64 o.nodeR, .int .i64 o.parN, .int .i64 o.parR, .slice a1 o.key.length c1, .int .i64 o.elem, .slice a2 o.name.length c2, .slice a3 o.text.length c3, .bool o.gone] o := by
  obtain ⟨hg, Cs, z1, z2, z3⟩ := h
  rcases z3.2 with ⟨_, e⟩ | ⟨b, cap, cur, rfl, hb, hc, _⟩
  · omega
  have hlt := (z3.lt b rfl).2
  obtain ⟨zl, zr⟩ := z2 0 hl
  obtain ⟨k, n, t, e, h1, h2, h3⟩ := zr
  obtain ⟨a1, c1, rfl, _, _⟩ := h1.ints.shape
  obtain ⟨a2, c2, rfl, _, _⟩ := h2.byt.shape
  obtain ⟨a3, c3, rfl, _, _⟩ := h3.byt.shape
  have hcs : ∃ D Ds, Cs = D :: Ds := by
    cases Cs with
    | nil => simp at z1; omega
    | cons D Ds => exact ⟨D, Ds, rfl⟩
  obtain ⟨D, Ds, rfl⟩ := hcs
  have eD : (D :: Ds).getD 0 [] = D := rfl
  rw [eD] at e zl
  have hcell : ∀ j, j < 12 → w.cell? ⟨b, j, none⟩ = D[j]? := fun j hj => by
    have hD : D.length = 12 := zl
    have h0 := z3.1
    rw [z3.cellAt j (by omega), List.flatten_cons, List.getElem?_append_left (by omega)]
  rw [e] at hcell
  exact ⟨b, cap, a1, c1, a2, c2, a3, c3, l[0], by simp [hl], rfl, hb, hlt, ⟨hcell 0 (by omega), hcell 1 (by omega), hcell 2 (by omega), hcell 3 (by omega), hcell 4 (by omega), hcell 5 (by omega), hcell 6 (by omega), hcell 7 (by omega), hcell 8 (by omega), hcell 9 (by omega), hcell 10 (by omega), hcell 11 (by omega)⟩, ⟨_, _, _, rfl, h1, h2, h3⟩⟩
/-- A row grown in its own block is drawn still. -/
theorem DrOps.grown {g B : Nat} {w w' : World} {v v' : Value} {l l' : List OpV} (h : DrOps g B w v l) (hs : ShOpsP (RdG g w) w' B v' l') (hg : w.grownBy w' v.ownBlock) : DrOps g B w' v' l' := by
  obtain ⟨hgB, Cs, z1, z2, z3⟩ := h
  exact ⟨hgB, ShOpsP.to (S := []) (fun _ _ hr => hr.own z3 hg) hs (Frm.refl _ _) (fun q hq => by simp at hq)⟩
end Go.Proofs.YtkmmhlimihkgfaaGreat

/- spec.l5ops draws a row of operations. -/
namespace Go.Proofs.YtkmmhlimihkgfaaGreat
open Go.RowKit
set_option linter.unusedVariables false
set_option maxRecDepth 100000

set_option maxHeartbeats 12800000 in
theorem l5ops_any (w0 w : World) (g : Nat) (code : Value) (l : List Int) (h : Cur w0 w g code l) :
    Calls Tryz.prog 74 #[.pointer (some ⟨g, 0, none⟩)] w fun e w' => ∃ a c m, e = .returned (.slice a m.length c) ∧ DrOps g w.heap.size w' (.slice a m.length c) m ∧ (∀ x ∈ m, SmO x 40) ∧ m.length ≤ 14 ∧ Cur w0 w' g code l ∧ w.grownBy w' (some g) := by
  have hgl := h.lt
  go_enter Tryz.func74, Tryz.ntmps74
  go_wp2_with fail
  refine (l1Below_any w0 w g code l 14 h (by omega) (by omega)).mono ?_
  rintro e w1 ⟨n, hn0, hn1, rfl, hC1, hG1⟩
  go_wp2_with fail
  obtain ⟨n, rfl⟩ := Int.eq_ofNat_of_zero_le hn0
  have hn2 : n < 14 := by omega
  clear hn0 hn1
  go_loopw [3, 5] (fun o i wr => ∃ (j : Nat) (a : Option Addr) (c : Nat) (m : List OpV), j ≤ n ∧ i = .int .i64 j ∧ o = .slice a m.length c ∧ DrOps g w.heap.size wr (.slice a m.length c) m ∧ (∀ x ∈ m, SmO x 40) ∧ m.length ≤ j ∧ Cur w0 wr g code l ∧ w.grownBy wr (some g)) (fun _ i _ => n - (intOf i).toNat)
  case atStart => exact ⟨0, none, 0, [], Nat.zero_le _, rfl, rfl, ⟨hgl, sh_noneP _ _ _⟩, fun x hx => by simp at hx, Nat.le_refl _, hC1, hG1⟩
  case round =>
    obtain ⟨j, a, c, m, hj, rfl, rfl, ho, hSm, hml, hC, hG⟩ := hrel
    clear hC1 hG1 h
    by_cases hlt : j < n
    · have hlt' : (j : Int) < (n : Int) := by omega
      go_wp2_with fail
      refine (l4op_any w0 wr g code l hC).mono ?_
      rintro e w2 ⟨o, k, nn, t, rfl, hOw, hSo, hC2, hG2⟩
      obtain ⟨ak, ck, rfl, _, _⟩ := hOw.1.ints.shape
      obtain ⟨an, cn, rfl, _, _⟩ := hOw.2.1.byt.shape
      obtain ⟨tt, ct, rfl, _, _⟩ := hOw.2.2.1.byt.shape
      have ho2 := ho.by hG2
      have hG2' := grown_trans hG hG2
      have hgr := hC.lt
      have hB3 : Below w2.heap.size w2 (w2.alloc (.cells #[.int .i64 o.kind, .int .i64 o.atN, .int .i64 o.atR, .int .i64 o.nodeN, .int .i64 o.nodeR, .int .i64 o.parN, .int .i64 o.parR, .slice ak o.key.length ck, .int .i64 o.elem, .slice an o.name.length cn, .slice tt o.text.length ct, .bool o.gone] 28)) := (Below.refl _ _).alloc (Nat.le_refl _) _
      have l3 := Loc.made w2 #[.int .i64 o.kind, .int .i64 o.atN, .int .i64 o.atR, .int .i64 o.nodeN, .int .i64 o.nodeR, .int .i64 o.parN, .int .i64 o.parR, .slice ak o.key.length ck, .int .i64 o.elem, .slice an o.name.length cn, .slice tt o.text.length ct, .bool o.gone] 28
      have HX := hide (And.intro (ho2.keep hB3) (And.intro (hOw.keep hB3) (And.intro (hC2.keepAll hB3) (And.intro (grown_below hG2' hB3) l3))))
      clear hC hG hG2 ho ho2 hOw hC2 hG2' hB3 l3
      unfold opVal
      go_wp2_with fail
      obtain ⟨ho3, hOw, hC3, hG3, l3⟩ := unhide HX
      clear HX
      generalize (w2.alloc (.cells #[.int .i64 o.kind, .int .i64 o.atN, .int .i64 o.atR, .int .i64 o.nodeN, .int .i64 o.nodeR, .int .i64 o.parN, .int .i64 o.parR, .slice ak o.key.length ck, .int .i64 o.elem, .slice an o.name.length cn, .slice tt o.text.length ct, .bool o.gone] 28)) = w3 at *
      have HOK := hide (opS_any w3 _ o hOw.rd)
      unfold opVal at HOK
      refine (unhide HOK).mono ?_
      rintro e w4 ⟨rfl, hB⟩
      have ho4 := ho3.keep hB
      have hO4 := hOw.keep hB
      have hC4 := hC3.keepAll hB
      have hG4 := grown_below hG3 hB
      have l4 := l3.all hB
      clear HOK ho3 hOw hC3 hG3 l3 hB
      cases hb : opB o with
      | false =>
        go_wp2_with fail
        go_roundw
        case rel => exact ⟨j + 1, a, c, m, by omega, by go_num, rfl, ho4, hSm, by omega, hC4, hG4⟩
        case measure => simp [intOf]; omega
      | true =>
        have hg4 := hC4.lt
        have HP := hide (l5put_shP (RdG g w4) w4 w4 (fun _ _ hr => hr.rd) (Below.refl _ _) (.slice a m.length c) _ m o (ShOpsP.elems ho4.2) hO4.rd (fun k n t e => by
          unfold opVal at e
          simp at e
          obtain ⟨rfl, rfl, rfl⟩ := e
          exact hO4.rdg hgr) (by omega) (by have := hSo.1; omega) (fun x hx => by have := (hSm x hx).1; omega))
        unfold opVal at HP
        obtain ⟨x0, x1, x2, x3, x4, x5, x6, x7, x8, x9, x10, x11⟩ := l4.twelve
        go_wp2_with fail
        clear x0 x1 x2 x3 x4 x5 x6 x7 x8 x9 x10 x11
        refine (unhide HP).mono ?_
        rintro e w5 ⟨u, rfl, hPR, hB⟩
        have ho5 := PutRP.dr hPR ho4 hB hG4.size
        have hC5 := hC4.keepAll hB
        have hG5 := grown_below hG4 hB
        obtain ⟨a5, c5, rfl⟩ := ho5.shape
        have hSm5 : ∀ x ∈ putL m o, SmO x 40 := fun x hx => by
          rcases putL_mem hx with rfl | hx
          · exact hSo.up (by omega)
          · exact hSm x hx
        have hlen := putL_len m o
        generalize putL m o = m5 at *
        generalize putOk m o = kk at *
        clear HP hPR ho4 hB hO4 hC4 hG4 l4
        go_wp2_with fail
        go_roundw
        case rel => exact ⟨j + 1, a5, c5, m5, by omega, by go_num, rfl, ho5, hSm5, by omega, hC5, hG5⟩
        case measure => simp [intOf]; omega
    · have hlt' : ¬ (j : Int) < (n : Int) := by omega
      go_wp2_with fail
      go_ret
      exact ⟨a, c, m, rfl, ho, hSm, by omega, hC, hG⟩
end Go.Proofs.YtkmmhlimihkgfaaGreat

/- spec.l5bentOps draws a row of operations that may be bent. -/
namespace Go.Proofs.YtkmmhlimihkgfaaGreat
open Go.RowKit
set_option linter.unusedVariables false
set_option maxRecDepth 100000

theorem head_mem {l : List OpV} {o : OpV} (h : l[0]? = some o) : o ∈ l := List.mem_of_getElem? h
theorem RdG.at {g : Nat} {w : World} {o : OpV} {k n t : Value} (z : Int) (h : RdG g w [.int .i64 o.kind, .int .i64 o.atN, .int .i64 o.atR, .int .i64 o.nodeN, .int .i64 o.nodeR, .int .i64 o.parN, .int .i64 o.parR, k, .int .i64 o.elem, n, t, .bool o.gone] o) : RdG g w [.int .i64 o.kind, .int .i64 z, .int .i64 o.atR, .int .i64 o.nodeN, .int .i64 o.nodeR, .int .i64 o.parN, .int .i64 o.parR, k, .int .i64 o.elem, n, t, .bool o.gone] { o with atN := z } := by
  obtain ⟨k', n', t', e, h1, h2, h3⟩ := h
  simp at e
  obtain ⟨rfl, rfl, rfl⟩ := e
  exact ⟨_, _, _, rfl, h1, h2, h3⟩

set_option maxHeartbeats 12800000 in
theorem l5bent_any (w0 w : World) (g : Nat) (code : Value) (l : List Int) (h : Cur w0 w g code l) :
    Calls Tryz.prog 30 #[.pointer (some ⟨g, 0, none⟩)] w fun e w' => ∃ a c m, e = .returned (.slice a m.length c) ∧ DrOps g w.heap.size w' (.slice a m.length c) m ∧ (∀ x ∈ m, SmO x 40) ∧ m.length ≤ 151 ∧ Cur w0 w' g code l ∧ w.grownBy w' (some g) := by
  have hgl := h.lt
  have hw0 := h.new
  go_enter Tryz.func30, Tryz.ntmps30
  go_wp2_with fail
  refine (l5ops_any w0 w g code l h).mono ?_
  rintro e w1 ⟨a, c, m, rfl, ho, hSm, hml, hC, hG⟩
  go_wp2_with fail
  refine (l1Once_any w0 w1 g code l 8 hC (by omega) (by omega)).mono ?_
  rintro e w2 ⟨b1, rfl, hC2, hG2⟩
  have ho2 := ho.by hG2
  have hG2' := grown_trans hG hG2
  clear ho hC hG hG2 h
  cases b1 with
  | false =>
    go_wp2_with fail
    go_ret
    exact ⟨a, c, m, rfl, ho2, hSm, by omega, hC2, hG2'⟩
  | true =>
  by_cases hpos : 0 < m.length
  case neg =>
    have hp : ¬ (0 : Int) < (m.length : Int) := by omega
    have hp' : decide (0 < m.length) = false := decide_eq_false hpos
    have HML := hide (show m.length ≤ 151 by omega)
    clear hpos hml
    go_wp2_with fail
    go_ret
    exact ⟨a, c, m, rfl, ho2, hSm, unhide HML, hC2, hG2'⟩
  have hp : (0 : Int) < (m.length : Int) := by omega
  have hp' : decide (0 < m.length) = true := decide_eq_true hpos
  go_wp2_with fail
  refine (l1Below_any w0 w2 g code l 3 hC2 (by omega) (by omega)).mono ?_
  rintro e w3 ⟨n, hn0, hn1, rfl, hC3, hG3⟩
  have ho3 := ho2.by hG3
  have hG3' := grown_trans hG2' hG3
  clear ho2 hC2 hG3 hG2'
  obtain ⟨b, cap, a1, c1, a2, c2, a3, c3, o, hoo, ev, hbB, hbl, ⟨x0, x1, x2, x3, x4, x5, x6, x7, x8, x9, x10, x11⟩, hR⟩ := ho3.head hpos
  cases ev
  have hSo := hSm o (head_mem hoo)
  have h3 : n = 0 ∨ n = 1 ∨ n = 2 := by omega
  rcases h3 with rfl | rfl | rfl
  · -- the first one once more
    have hB4 : Below w3.heap.size w3 (w3.alloc (.cells #[.int .i64 o.kind, .int .i64 o.atN, .int .i64 o.atR, .int .i64 o.nodeN, .int .i64 o.nodeR, .int .i64 o.parN, .int .i64 o.parR, .slice a1 o.key.length c1, .int .i64 o.elem, .slice a2 o.name.length c2, .slice a3 o.text.length c3, .bool o.gone] 28)) := (Below.refl _ _).alloc (Nat.le_refl _) _
    have l4 := Loc.made w3 #[.int .i64 o.kind, .int .i64 o.atN, .int .i64 o.atR, .int .i64 o.nodeN, .int .i64 o.nodeR, .int .i64 o.parN, .int .i64 o.parR, .slice a1 o.key.length c1, .int .i64 o.elem, .slice a2 o.name.length c2, .slice a3 o.text.length c3, .bool o.gone] 28
    have HS := hide (And.intro (ho3.keep hB4) (And.intro (hC3.keepAll hB4) (And.intro (grown_below hG3' hB4) (And.intro l4 (hR.keep hB4)))))
    have HSG := hide (SegP.one (P := RdG g (w3.alloc (.cells #[.int .i64 o.kind, .int .i64 o.atN, .int .i64 o.atR, .int .i64 o.nodeN, .int .i64 o.nodeR, .int .i64 o.parN, .int .i64 o.parR, .slice a1 o.key.length c1, .int .i64 o.elem, .slice a2 o.name.length c2, .slice a3 o.text.length c3, .bool o.gone] 28))) (C := [.int .i64 o.kind, .int .i64 o.atN, .int .i64 o.atR, .int .i64 o.nodeN, .int .i64 o.nodeR, .int .i64 o.parN, .int .i64 o.parR, .slice a1 o.key.length c1, .int .i64 o.elem, .slice a2 o.name.length c2, .slice a3 o.text.length c3, .bool o.gone]) (o := o) rfl l4 (hR.keep hB4))
    clear hB4 l4 ho3 hC3 hG3' hR
    go_wp2_with (at_builtin; refine wpList_appShP (P := RdG g (w3.alloc (.cells #[.int .i64 o.kind, .int .i64 o.atN, .int .i64 o.atR, .int .i64 o.nodeN, .int .i64 o.nodeR, .int .i64 o.parN, .int .i64 o.parR, .slice a1 o.key.length c1, .int .i64 o.elem, .slice a2 o.name.length c2, .slice a3 o.text.length c3, .bool o.gone] 28))) (w0 := (w3.alloc (.cells #[.int .i64 o.kind, .int .i64 o.atN, .int .i64 o.atR, .int .i64 o.nodeN, .int .i64 o.nodeR, .int .i64 o.parN, .int .i64 o.parR, .slice a1 o.key.length c1, .int .i64 o.elem, .slice a2 o.name.length c2, .slice a3 o.text.length c3, .bool o.gone] 28))) (fun _ _ hr => hr.rd) rfl _ _ rfl w.heap.size _ m rfl (unhide HS).1.2 _ [o] rfl (unhide HSG) ?c1 ?c2 ?_)
    case c1 => simp; omega
    case c2 => have := (unhide HS).2.2.1.size; exact this
    intro v' w5 hs5 hg5
    obtain ⟨ho4, hC4, hG4, _, _⟩ := unhide HS
    have ho5 := DrOps.grown ho4 hs5 hg5
    have hbn : ∀ q, (Value.slice (some ⟨b, 0, none⟩) m.length c).ownBlock = some q → w.heap.size ≤ q := fun q hq => (ho4.blk q hq).1
    have hC5 := hC4.keep hg5 (fun e => by have := hbn g e.symm; omega) (fun q hq => by have := hbn q hq; omega)
    have hG5 := grown_new hG4 hg5 hbn
    obtain ⟨a5, c5, rfl⟩ := ho5.shape
    have hSm5 : ∀ x ∈ m ++ [o], SmO x 40 := fun x hx => by
      rcases List.mem_append.1 hx with hx | hx
      · exact hSm x hx
      · simp at hx; rw [hx]; exact hSo
    have hl5 : (m ++ [o]).length ≤ 151 := by simp; omega
    generalize m ++ [o] = m5 at *
    clear HS HSG hs5 hg5 ho4 hC4 hG4 x0 x1 x2 x3 x4 x5 x6 x7 x8 x9 x10 x11
    go_wp2_with fail
    go_ret
    exact ⟨a5, c5, m5, rfl, ho5, hSm5, hl5, hC5, hG5⟩
  · -- the first one bent
    clear x0 x1 x2 x3 x4 x5 x6 x7 x8 x9 x10 x11
    go_wp2_with fail
    refine (l4bent_any w0 w3 g code l hC3).mono ?_
    rintro e w5 ⟨o, k, nn, t, rfl, hOw, hSb, hC5, hG5⟩
    obtain ⟨ak, ck, rfl, _, _⟩ := hOw.1.ints.shape
    obtain ⟨an, cn, rfl, _, _⟩ := hOw.2.1.byt.shape
    obtain ⟨tt, ct, rfl, _, _⟩ := hOw.2.2.1.byt.shape
    have ho5 := ho3.by hG5
    have hG5' := grown_trans hG3' hG5
    have hg3 := hC3.lt
    have hs5 := ho5.2.set 0 hpos (.int .i64 o.kind) (.int .i64 o.atN) (.int .i64 o.atR) (.int .i64 o.nodeN) (.int .i64 o.nodeR) (.int .i64 o.parN) (.int .i64 o.parR) (.slice ak o.key.length ck) (.int .i64 o.elem) (.slice an o.name.length cn) (.slice tt o.text.length ct) (.bool o.gone) o (hOw.rdg hg3)
    simp only [Nat.zero_mul, Nat.zero_add, List.length_set] at hs5
    have hb5 : (Value.slice (some ⟨b, 0, none⟩) m.length c).ownBlock = some b := rfl
    have ho6 := DrOps.grown ho5 hs5.1 (by rw [hb5]; exact hs5.2.toGrown)
    have hC6 := hC5.keep hs5.2.toGrown (fun e => by cases e; omega) (fun q hq => by cases hq; omega)
    have hG6 := grown_new hG5' hs5.2.toGrown (fun q hq => by cases hq; exact hbB)
    have hSm6 : ∀ x ∈ m.set 0 o, SmO x 40 := fun x hx => by
      rcases List.mem_or_eq_of_mem_set hx with hx | hx
      · exact hSm x hx
      · rw [hx]; exact hSb
    have HF := hide (And.intro ho6 (And.intro hC6 hG6))
    obtain ⟨⟨y0, q0⟩, f0⟩ := ho5.2.cells 0 hpos 0 (by omega)
    obtain ⟨⟨y1, q1⟩, f1⟩ := ho5.2.cells 0 hpos 1 (by omega)
    obtain ⟨⟨y2, q2⟩, f2⟩ := ho5.2.cells 0 hpos 2 (by omega)
    obtain ⟨⟨y3, q3⟩, f3⟩ := ho5.2.cells 0 hpos 3 (by omega)
    obtain ⟨⟨y4, q4⟩, f4⟩ := ho5.2.cells 0 hpos 4 (by omega)
    obtain ⟨⟨y5, q5⟩, f5⟩ := ho5.2.cells 0 hpos 5 (by omega)
    obtain ⟨⟨y6, q6⟩, f6⟩ := ho5.2.cells 0 hpos 6 (by omega)
    obtain ⟨⟨y7, q7⟩, f7⟩ := ho5.2.cells 0 hpos 7 (by omega)
    obtain ⟨⟨y8, q8⟩, f8⟩ := ho5.2.cells 0 hpos 8 (by omega)
    obtain ⟨⟨y9, q9⟩, f9⟩ := ho5.2.cells 0 hpos 9 (by omega)
    obtain ⟨⟨y10, q10⟩, f10⟩ := ho5.2.cells 0 hpos 10 (by omega)
    obtain ⟨⟨y11, q11⟩, f11⟩ := ho5.2.cells 0 hpos 11 (by omega)
    simp only [Nat.zero_mul, Nat.zero_add] at q0 f0 q1 f1 q2 f2 q3 f3 q4 f4 q5 f5 q6 f6 q7 f7 q8 f8 q9 f9 q10 f10 q11 f11
    clear ho3 hC3 hG3' ho5 hC5 hG5 hG5' hs5 ho6 hC6 hG6 hOw hR
    unfold opVal
    go_wp2_with fail
    go_ret
    obtain ⟨ho6, hC6, hG6⟩ := unhide HF
    exact ⟨some ⟨b, 0, none⟩, c, m.set 0 o, by rw [List.length_set]; rfl, by rw [List.length_set]; exact ho6, hSm6, by rw [List.length_set]; omega, hC6, hG6⟩
  · -- as many as there may not be
    have hml2 : m.length ≤ 151 := by omega
    clear x0 x1 x2 x3 x4 x5 x6 x7 x8 x9 x10 x11 hR hml hSo hoo hp hp'
    go_wp2_with fail
    go_loopw [3, 4] (fun v i wr => ∃ (j : Nat) (a : Option Addr) (c : Nat) (m : List OpV), i = .int .i64 j ∧ j ≤ m.length ∧ v = .slice a m.length c ∧ DrOps g w.heap.size wr (.slice a m.length c) m ∧ (∀ x ∈ m, SmO x 40) ∧ m.length ≤ 151 ∧ 0 < m.length ∧ Cur w0 wr g code l ∧ w.grownBy wr (some g)) (fun v _ _ => 151 - slen v)
    case atStart => exact ⟨0, _, _, m, rfl, Nat.zero_le _, rfl, ho3, hSm, hml2, hpos, hC3, hG3'⟩
    case round =>
      clear ho3 hC3 hG3' hSm hml2 hpos hbB hbl
      obtain ⟨j, a, c, m, rfl, hj, rfl, ho3, hSm, hml, hpos, hC3, hG3⟩ := hrel
      by_cases hfull : m.length ≤ 150
      case neg =>
        have hf : ¬ (m.length : Int) ≤ 150 := by omega
        go_wp2_with fail
        go_ret
        exact ⟨a, c, m, rfl, ho3, hSm, hml, hC3, hG3⟩
      have hf : (m.length : Int) ≤ 150 := by omega
      have hp : (0 : Int) < (m.length : Int) := by omega
      obtain ⟨b, cap, a1, c1, a2, c2, a3, c3, o, hoo, ev, hbB, hbl, ⟨x0, x1, x2, x3, x4, x5, x6, x7, x8, x9, x10, x11⟩, hR⟩ := ho3.head hpos
      cases ev
      have hSo := hSm o (head_mem hoo)
      have hjb : (j : Int) ≤ 151 := by omega
      have hB4 : Below wr.heap.size wr (wr.alloc (.cells #[.int .i64 o.kind, .int .i64 (100 + (j : Int)), .int .i64 o.atR, .int .i64 o.nodeN, .int .i64 o.nodeR, .int .i64 o.parN, .int .i64 o.parR, .slice a1 o.key.length c1, .int .i64 o.elem, .slice a2 o.name.length c2, .slice a3 o.text.length c3, .bool o.gone] 28)) := (Below.refl _ _).alloc (Nat.le_refl _) _
      have hB5 : Below wr.heap.size wr ((wr.alloc (.cells #[.int .i64 o.kind, .int .i64 (100 + (j : Int)), .int .i64 o.atR, .int .i64 o.nodeN, .int .i64 o.nodeR, .int .i64 o.parN, .int .i64 o.parR, .slice a1 o.key.length c1, .int .i64 o.elem, .slice a2 o.name.length c2, .slice a3 o.text.length c3, .bool o.gone] 28)).alloc (.cells #[.int .i64 o.kind, .int .i64 (100 + (j : Int)), .int .i64 o.atR, .int .i64 o.nodeN, .int .i64 o.nodeR, .int .i64 o.parN, .int .i64 o.parR, .slice a1 o.key.length c1, .int .i64 o.elem, .slice a2 o.name.length c2, .slice a3 o.text.length c3, .bool o.gone] 28)) := hB4.alloc hB4.size _
      have l4 := Loc.made (wr.alloc (.cells #[.int .i64 o.kind, .int .i64 (100 + (j : Int)), .int .i64 o.atR, .int .i64 o.nodeN, .int .i64 o.nodeR, .int .i64 o.parN, .int .i64 o.parR, .slice a1 o.key.length c1, .int .i64 o.elem, .slice a2 o.name.length c2, .slice a3 o.text.length c3, .bool o.gone] 28)) #[.int .i64 o.kind, .int .i64 (100 + (j : Int)), .int .i64 o.atR, .int .i64 o.nodeN, .int .i64 o.nodeR, .int .i64 o.parN, .int .i64 o.parR, .slice a1 o.key.length c1, .int .i64 o.elem, .slice a2 o.name.length c2, .slice a3 o.text.length c3, .bool o.gone] 28
      have HS := hide (And.intro (ho3.keep hB5) (And.intro (hC3.keepAll hB5) (And.intro (grown_below hG3 hB5) (hR.keep hB5))))
      have HSG := hide (SegP.one (P := RdG g ((wr.alloc (.cells #[.int .i64 o.kind, .int .i64 (100 + (j : Int)), .int .i64 o.atR, .int .i64 o.nodeN, .int .i64 o.nodeR, .int .i64 o.parN, .int .i64 o.parR, .slice a1 o.key.length c1, .int .i64 o.elem, .slice a2 o.name.length c2, .slice a3 o.text.length c3, .bool o.gone] 28)).alloc (.cells #[.int .i64 o.kind, .int .i64 (100 + (j : Int)), .int .i64 o.atR, .int .i64 o.nodeN, .int .i64 o.nodeR, .int .i64 o.parN, .int .i64 o.parR, .slice a1 o.key.length c1, .int .i64 o.elem, .slice a2 o.name.length c2, .slice a3 o.text.length c3, .bool o.gone] 28))) (C := [.int .i64 o.kind, .int .i64 (100 + (j : Int)), .int .i64 o.atR, .int .i64 o.nodeN, .int .i64 o.nodeR, .int .i64 o.parN, .int .i64 o.parR, .slice a1 o.key.length c1, .int .i64 o.elem, .slice a2 o.name.length c2, .slice a3 o.text.length c3, .bool o.gone]) (o := { o with atN := 100 + (j : Int) }) rfl l4 ((hR.keep hB5).at _))
      clear hB4 hB5 l4 ho3 hC3 hG3 hR
      rw [World.size_alloc] at HSG
      go_wp2_with (at_builtin; refine wpList_appShP (P := RdG g ((wr.alloc (.cells #[.int .i64 o.kind, .int .i64 (100 + (j : Int)), .int .i64 o.atR, .int .i64 o.nodeN, .int .i64 o.nodeR, .int .i64 o.parN, .int .i64 o.parR, .slice a1 o.key.length c1, .int .i64 o.elem, .slice a2 o.name.length c2, .slice a3 o.text.length c3, .bool o.gone] 28)).alloc (.cells #[.int .i64 o.kind, .int .i64 (100 + (j : Int)), .int .i64 o.atR, .int .i64 o.nodeN, .int .i64 o.nodeR, .int .i64 o.parN, .int .i64 o.parR, .slice a1 o.key.length c1, .int .i64 o.elem, .slice a2 o.name.length c2, .slice a3 o.text.length c3, .bool o.gone] 28))) (w0 := ((wr.alloc (.cells #[.int .i64 o.kind, .int .i64 (100 + (j : Int)), .int .i64 o.atR, .int .i64 o.nodeN, .int .i64 o.nodeR, .int .i64 o.parN, .int .i64 o.parR, .slice a1 o.key.length c1, .int .i64 o.elem, .slice a2 o.name.length c2, .slice a3 o.text.length c3, .bool o.gone] 28)).alloc (.cells #[.int .i64 o.kind, .int .i64 (100 + (j : Int)), .int .i64 o.atR, .int .i64 o.nodeN, .int .i64 o.nodeR, .int .i64 o.parN, .int .i64 o.parR, .slice a1 o.key.length c1, .int .i64 o.elem, .slice a2 o.name.length c2, .slice a3 o.text.length c3, .bool o.gone] 28))) (fun _ _ hr => hr.rd) rfl _ _ rfl w.heap.size _ m rfl (unhide HS).1.2 _ [{ o with atN := 100 + (j : Int) }] rfl (unhide HSG) ?c3 ?c4 ?_)
      case c3 => simp; omega
      case c4 => have := (unhide HS).2.2.1.size; exact this
      intro v' w5 hs5 hg5
      obtain ⟨ho4, hC4, hG4, _⟩ := unhide HS
      have ho5 := DrOps.grown ho4 hs5 hg5
      have hbn : ∀ q, (Value.slice (some ⟨b, 0, none⟩) m.length c).ownBlock = some q → w.heap.size ≤ q := fun q hq => (ho4.blk q hq).1
      have hC5 := hC4.keep hg5 (fun e => by have := hbn g e.symm; omega) (fun q hq => by have := hbn q hq; omega)
      have hG5 := grown_new hG4 hg5 hbn
      obtain ⟨a5, c5, rfl⟩ := ho5.shape
      have hSm5 : ∀ x ∈ m ++ [{ o with atN := 100 + (j : Int) }], SmO x 40 := fun x hx => by
        rcases List.mem_append.1 hx with hx | hx
        · exact hSm x hx
        · simp at hx; rw [hx]; exact hSo
      have hl5 : (m ++ [{ o with atN := 100 + (j : Int) }]).length = m.length + 1 := by simp
      generalize m ++ [{ o with atN := 100 + (j : Int) }] = m5 at *
      clear HS HSG hs5 hg5 ho4 hC4 hG4 x0 x1 x2 x3 x4 x5 x6 x7 x8 x9 x10 x11
      go_wp2_with fail
      go_roundw
      case rel => exact ⟨j + 1, a5, c5, m5, by go_num, by omega, rfl, ho5, hSm5, by omega, by omega, hC5, hG5⟩
      case measure => simp [slen]; omega
end Go.Proofs.YtkmmhlimihkgfaaGreat

/- spec.DrawPut. -/
namespace Go.Proofs.YtkmmhlimihkgfaaGreat
open Go.RowKit
set_option linter.unusedVariables false
set_option maxRecDepth 100000

theorem RdG.lo {g q : Nat} {w w' : World} {C : List Value} {o : OpV} (h : RdG g w C o) (hg : w.grownBy w' (some q)) (hq : q ≤ g) : RdG g w' C o := by
  obtain ⟨k, n, t, e, h1, h2, h3⟩ := h
  exact ⟨k, n, t, e, h1.keepBy hg (.inr (fun e => by have := (h1.lt _ e).1; omega)), h2.keepBy hg (fun q e e2 => by have := (h2.lt _ e).1; cases e2; omega), h3.keepBy hg (fun q e e2 => by have := (h3.lt _ e).1; cases e2; omega)⟩
theorem DrOps.lo {g B q : Nat} {w w' : World} {v : Value} {l : List OpV} (h : DrOps g B w v l) (hg : w.grownBy w' (some q)) (hq : q ≤ g) : DrOps g B w' v l :=
  ⟨h.1, ShOpsP.to (fun _ _ hr => hr.lo hg hq) h.2 (Frm.ofGrown hg) (fun r hr => by have := h.1; simp at hr; omega)⟩

set_option maxHeartbeats 12800000 in
theorem drawPut_any (w : World) (code : Value) (l : List Int) (h : Byt w code l) :
    Calls Tryz.prog 6 #[code] w fun e w' => ∃ a c m o k n t, e = .returned (.tuple #[.slice a m.length c, opVal o k n t]) ∧ RdOps w' (.slice a m.length c) m ∧ RdOp w' (opVal o k n t) o ∧ (∀ x ∈ m, SmO x 40) ∧ m.length ≤ 151 ∧ SmO o 40 ∧ Below w.heap.size w w' := by
  have lr := Loc.made w #[.int .i64 0, .int .i64 0, .int .i64 0, .int .i64 0, .int .i64 0, .int .i64 0, .int .i64 0, .slice none 0 0, .int .i64 0, .slice none 0 0, .slice none 0 0, .bool false] 28
  have hA := (Below.refl w.heap.size w).alloc (Nat.le_refl _) (.cells #[.int .i64 0, .int .i64 0, .int .i64 0, .int .i64 0, .int .i64 0, .int .i64 0, .int .i64 0, .slice none 0 0, .int .i64 0, .slice none 0 0, .slice none 0 0, .bool false] 28)
  have HN := hide (l1New_any _ code l (h.keep hA))
  obtain ⟨a, c, rfl, _, _⟩ := h.shape
  have hsz : (w.alloc (.cells #[.int .i64 0, .int .i64 0, .int .i64 0, .int .i64 0, .int .i64 0, .int .i64 0, .int .i64 0, .slice none 0 0, .int .i64 0, .slice none 0 0, .slice none 0 0, .bool false] 28)).heap.size = w.heap.size + 1 := by simp
  rw [hsz] at HN
  have LL := hide (And.intro lr (And.intro hA hsz))
  clear h lr hA hsz
  refine calls_via ?_
  intro Q HQ
  go_enter Tryz.func6, Tryz.ntmps6
  go_wp2_with fail
  obtain ⟨lr, hA, hsz⟩ := unhide LL
  clear LL
  generalize (w.alloc (.cells #[.int .i64 0, .int .i64 0, .int .i64 0, .int .i64 0, .int .i64 0, .int .i64 0, .int .i64 0, .slice none 0 0, .int .i64 0, .slice none 0 0, .slice none 0 0, .bool false] 28)) = wa at *
  refine (unhide HN).mono ?_
  rintro e w1 ⟨rfl, hC, hB1⟩
  have lr1 := lr.keep hB1 (by omega)
  have HL := hide (l5bent_any wa w1 _ _ l hC)
  have hcl := hC.lt
  clear hC HN lr
  go_wp2_with fail
  refine (unhide HL).mono ?_
  rintro e w2 ⟨am, cm, m, rfl, ho, hSm, hml, hC2, hG2⟩
  have lr2 := lr1.frm (Frm.ofGrown hG2) (by simp)
  clear HL lr1
  go_wp2_with fail
  refine (l4bent_any wa w2 _ _ l hC2).mono ?_
  rintro e w3 ⟨o, k, n, t, rfl, hOw, hSo, hC3, hG3⟩
  obtain ⟨ak, ck, rfl, _, _⟩ := hOw.1.ints.shape
  obtain ⟨an, cn, rfl⟩ := hOw.2.1.shape
  obtain ⟨tt, ct, rfl⟩ := hOw.2.2.1.shape
  have ho3 := ho.by hG3
  have hw2 : w.heap.size < w2.heap.size := lr2.lt
  have lr3 := lr2.frm (Frm.ofGrown hG3) (by simp)
  have hB3 := bstep hA hC3.below
  have lrz := set_twelve lr3 (.int .i64 o.kind) (.int .i64 o.atN) (.int .i64 o.atR) (.int .i64 o.nodeN) (.int .i64 o.nodeR) (.int .i64 o.parN) (.int .i64 o.parR) (.slice ak o.key.length ck) (.int .i64 o.elem) (.slice an o.name.length cn) (.slice tt o.text.length ct) (.bool o.gone)
  have hsR := grow_twelve w3 w.heap.size (.int .i64 o.kind) (.int .i64 o.atN) (.int .i64 o.atR) (.int .i64 o.nodeN) (.int .i64 o.nodeR) (.int .i64 o.parN) (.int .i64 o.parR) (.slice ak o.key.length ck) (.int .i64 o.elem) (.slice an o.name.length cn) (.slice tt o.text.length ct) (.bool o.gone)
  have ho9 := (ho3.lo hsR (by omega)).rd
  have hO9 := (hOw.by hsR (by omega)).rd
  have hB9 := bstepBy hB3 hsR (fun q hq => by cases hq; exact Nat.le_refl _)
  have KK := hide (And.intro ho9 (And.intro hO9 hB9))
  obtain ⟨e0, e1, e2, e3, e4, e5, e6, e7, e8, e9, e10, e11⟩ := lrz.twelve
  obtain ⟨z0, z1, z2, z3, z4, z5, z6, z7, z8, z9, z10, z11⟩ := lr3.twelve
  have g0 := lr3.frozen 0
  have g1 := lr3.frozen 1
  have g2 := lr3.frozen 2
  have g3 := lr3.frozen 3
  have g4 := lr3.frozen 4
  have g5 := lr3.frozen 5
  have g6 := lr3.frozen 6
  have g7 := lr3.frozen 7
  have g8 := lr3.frozen 8
  have g9 := lr3.frozen 9
  have g10 := lr3.frozen 10
  have g11 := lr3.frozen 11
  clear lrz hsR ho9 hO9 hB9 hOw hC2 hC3 hG2 hG3 hB3 lr2 lr3 hA hB1 ho ho3
  have KE := hide (And.intro e0 (And.intro e1 (And.intro e2 (And.intro e3 (And.intro e4 (And.intro e5 (And.intro e6 (And.intro e7 (And.intro e8 (And.intro e9 (And.intro e10 e11)))))))))))
  clear e0 e1 e2 e3 e4 e5 e6 e7 e8 e9 e10 e11
  unfold opVal
  go_wp2_with fail
  obtain ⟨e0, e1, e2, e3, e4, e5, e6, e7, e8, e9, e10, e11⟩ := unhide KE
  obtain ⟨k1, k2, k3⟩ := unhide KK
  exact bodyPost_ret (v := .tuple #[.slice am m.length cm, .agg #[.int .i64 o.kind, .int .i64 o.atN, .int .i64 o.atR, .int .i64 o.nodeN, .int .i64 o.nodeR, .int .i64 o.parN, .int .i64 o.parR, .slice ak o.key.length ck, .int .i64 o.elem, .slice an o.name.length cn, .slice tt o.text.length ct, .bool o.gone]]) (by simp [results, Tryz.results6, go_sem, e0, e1, e2, e3, e4, e5, e6, e7, e8, e9, e10, e11]) rfl (unhide HQ _ _ ⟨am, cm, m, o, _, _, _, rfl, k1, k2, hSm, hml, hSo, k3⟩)
end Go.Proofs.YtkmmhlimihkgfaaGreat

/- impl.putNums, impl.putIds, impl.putKey and impl.putValue, by their contracts. -/
namespace Go.Proofs.YtkmmhlimihkgfaaGreat
open Go.RowKit
set_option linter.unusedVariables false
set_option maxRecDepth 100000

theorem own_nil' (w : World) (base : Nat) : Own w base (.slice none 0 0) [] := ⟨okB_nil, rfl, .inl ⟨rfl, rfl⟩⟩
theorem putI_own (w : World) (v : Value) (l : List Int) (n : Int) (h : Byt w v l) (hl : l.length ≤ 60000000) :
    Calls Tryz.prog 152 #[v, .int .i64 n] w fun e w' => ∃ a c, e = .returned (.slice a (putAll l n).length c) ∧ Own w' w.heap.size (.slice a (putAll l n).length c) (putAll l n) ∧ Below w.heap.size w w' := by
  refine (putI_any w v l n h (by omega)).mono ?_
  rintro e w' ⟨v', rfl, ho, hB⟩
  obtain ⟨a, c, rfl, _, _⟩ := ho.byt.shape
  exact ⟨a, c, rfl, ho, hB⟩

set_option maxHeartbeats 3200000 in
theorem putNums_any (w : World) (base : Nat) (v u : Value) (l k : List Int) (h : Own w base v l) (hb : base ≤ w.heap.size) (hu : Ints w u k) (hl : l.length ≤ 20000000) (hk : k.length ≤ 2097152) :
    Calls Tryz.prog 141 #[v, u] w fun e w' => ∃ a c, e = .returned (.slice a (putNs l k).length c) ∧ Own w' base (.slice a (putNs l k).length c) (putNs l k) ∧ Below w.heap.size w w' := by
  have HU := hide hu
  obtain ⟨a1, c1, rfl, _, _⟩ := h.byt.shape
  obtain ⟨a', c', rfl, _, _⟩ := hu.shape
  clear hu
  go_enter Tryz.func141, Tryz.ntmps141
  go_wp2_with fail
  go_loopw [0, 9] (fun b i wr => ∃ (j : Nat) (a2 : Option Addr) (c2 : Nat), j ≤ k.length ∧ i = .int .i64 j ∧ b = .slice a2 (putNs l (k.take j)).length c2 ∧ Own wr base (.slice a2 (putNs l (k.take j)).length c2) (putNs l (k.take j)) ∧ Below w.heap.size w wr) (fun _ i _ => k.length - (intOf i).toNat)
  case atStart => exact ⟨0, a1, c1, Nat.zero_le _, rfl, rfl, h, Below.refl _ _⟩
  case round =>
    obtain ⟨j, a2, c2, hj, rfl, rfl, ho, hB⟩ := hrel
    clear h
    by_cases hlt : j < k.length
    · have HS := hide (putNs_step l k j hlt)
      have hq := putNs_len l (k.take j)
      rw [List.length_take, Nat.min_eq_left hj] at hq
      generalize hpt : putNs l (k.take j) = lj at *
      clear hpt
      have hlt' : (j : Int) < (k.length : Int) := by omega
      obtain ⟨x, hx⟩ : ∃ x, x = k.getD j 0 := ⟨_, rfl⟩
      rw [← hx] at HS
      obtain ⟨hok, hm, ⟨_, e⟩ | ⟨_, _, _, _, e⟩ | ⟨b, off, cap, e, h1, h2, h3, h4, h5⟩⟩ := (unhide HU).keep hB
      · rw [e] at hlt; simp at hlt
      · rw [e] at hlt; simp at hlt
      have e1 : a' = some ⟨b, off, none⟩ := by injection e
      have hcx := h5 j hlt
      rw [← hx] at hcx
      clear hx h5 e HU
      subst e1
      go_wp2_with fail
      refine (putI_own wr _ lj x ho.byt (by omega)).mono ?_
      rintro e w2 ⟨a3, c3, rfl, ho3, hB3⟩
      rw [← unhide HS] at ho3 ⊢
      go_wp2_with fail
      go_roundw
      case rel => exact ⟨j + 1, a3, c3, by omega, by go_num, rfl, ho3.mono (by have := hB.size; omega), bstep hB hB3⟩
      case measure => simp [intOf]; omega
    · obtain rfl : j = k.length := by omega
      have HE := hide (show putNs l (k.take k.length) = putNs l k by rw [List.take_of_length_le (Nat.le_refl _)])
      rw [unhide HE] at ho ⊢
      clear HE
      go_wp2_with fail
      go_ret
      exact ⟨a2, c2, rfl, ho, hB⟩

/-- Ids, one behind the other. -/
def putIdL (l : List Int) : List (Int × Int) → List Int
  | [] => l
  | x :: t => putIdL (putId l x.1 x.2) t
theorem putIdL_step (l : List Int) (t : List (Int × Int)) (j : Nat) (h : j < t.length) : putIdL l (t.take (j + 1)) = putId (putIdL l (t.take j)) (t[j]).1 (t[j]).2 := by
  induction t generalizing l j with
  | nil => simp at h
  | cons x t ih =>
    cases j with
    | zero => simp [putIdL]
    | succ j =>
      rw [List.take_succ_cons, List.take_succ_cons, putIdL, putIdL, ih _ j (by simpa using h)]
      simp
theorem putIdL_len (l : List Int) (t : List (Int × Int)) : (putIdL l t).length ≤ l.length + 10 * t.length := by
  induction t generalizing l with
  | nil => simp [putIdL]
  | cons x t ih =>
    rw [putIdL, List.length_cons]
    have := ih (putId l x.1 x.2)
    have := putId_len l x.1 x.2
    omega
theorem putId_two (l : List Int) (n r : Int) : putNs l [n, r] = putId l n r := rfl
theorem ints_two (w : World) (n r : Int) (h : okZ [n, r]) : Ints (w.alloc (.cells #[.int .i64 n, .int .i64 r] 3)) (.slice (some ⟨w.heap.size, 0, none⟩) 2 2) [n, r] := by
  refine ⟨h, by simp [maxLen], .inr (.inr ⟨w.heap.size, 0, 2, rfl, by simp, by simp [maxLen], by simp, by simp, fun i hi => ?_⟩)⟩
  have : i = 0 ∨ i = 1 := by simp at hi; omega
  rcases this with rfl | rfl <;> simp

set_option maxHeartbeats 3200000 in
theorem putIds_any (w : World) (base : Nat) (v : Value) (l : List Int) (t : List (Int × Int)) (b off cap : Nat) (h : Own w base v l) (hb : base ≤ w.heap.size) (hl : l.length ≤ 10000000) (hk : t.length ≤ 1000)
    (hw : b < w.heap.size) (hz : ∀ x ∈ t, okZ [x.1, x.2]) (h0 : ∀ j (hj : j < t.length), w.cell? ⟨b, off + j * 2, none⟩ = some (.int .i64 (t[j]).1)) (h1 : ∀ j (hj : j < t.length), w.cell? ⟨b, off + j * 2 + 1, none⟩ = some (.int .i64 (t[j]).2)) :
    Calls Tryz.prog 140 #[v, .slice (some ⟨b, off, none⟩) t.length cap] w fun e w' => ∃ a c, e = .returned (.slice a (putIdL l t).length c) ∧ Own w' base (.slice a (putIdL l t).length c) (putIdL l t) ∧ Below w.heap.size w w' := by
  obtain ⟨a1, c1, rfl, _, _⟩ := h.byt.shape
  go_enter Tryz.func140, Tryz.ntmps140
  go_wp2_with fail
  go_loopw [0, 9] (fun b i wr => ∃ (j : Nat) (a2 : Option Addr) (c2 : Nat), j ≤ t.length ∧ i = .int .i64 j ∧ b = .slice a2 (putIdL l (t.take j)).length c2 ∧ Own wr base (.slice a2 (putIdL l (t.take j)).length c2) (putIdL l (t.take j)) ∧ Below w.heap.size w wr) (fun _ i _ => t.length - (intOf i).toNat)
  case atStart => exact ⟨0, a1, c1, Nat.zero_le _, rfl, rfl, h, Below.refl _ _⟩
  case round =>
    obtain ⟨j, a2, c2, hj, rfl, rfl, ho, hB⟩ := hrel
    clear h
    by_cases hlt : j < t.length
    · have HS := hide (putIdL_step l t j hlt)
      have hq := putIdL_len l (t.take j)
      rw [List.length_take, Nat.min_eq_left hj] at hq
      generalize hpt : putIdL l (t.take j) = lj at *
      clear hpt
      have hlt' : (j : Int) < (t.length : Int) := by omega
      have hzj := hz _ (List.getElem_mem hlt)
      have x0 : wr.cell? ⟨b, off + j * 2, none⟩ = some (.int .i64 (t[j]).1) := (hB.cell (p := ⟨b, off + j * 2, none⟩) hw).trans (h0 j hlt)
      have x1 : wr.cell? ⟨b, off + j * 2 + 1, none⟩ = some (.int .i64 (t[j]).2) := (hB.cell (p := ⟨b, off + j * 2 + 1, none⟩) hw).trans (h1 j hlt)
      generalize (t[j]).1 = n at *
      generalize (t[j]).2 = r at *
      clear h0 h1 hz
      go_wp2_with fail
      have hi : Ints ((wr.alloc (.cells #[.int .i64 n, .int .i64 r] 25)).alloc (.cells #[.int .i64 n, .int .i64 r] 3)) (.slice (some ⟨wr.heap.size + 1, 0, none⟩) 2 2) [n, r] := by
        have h := ints_two (wr.alloc (.cells #[.int .i64 n, .int .i64 r] 25)) n r hzj
        rw [show (wr.alloc (.cells #[.int .i64 n, .int .i64 r] 25)).heap.size = wr.heap.size + 1 by simp] at h
        exact h
      have hB2 := ((Below.refl wr.heap.size wr).alloc (Nat.le_refl _) (.cells #[.int .i64 n, .int .i64 r] 25)).alloc (by simp) (.cells #[.int .i64 n, .int .i64 r] 3)
      refine (putNums_any _ base _ _ lj [n, r] (ho.keep hB2) (by have := hB.size; have := hB2.size; omega) hi (by omega) (by simp)).mono ?_
      rintro e w2 ⟨a3, c3, rfl, ho3, hB3⟩
      have hB4 := bstep hB2 hB3
      clear hB2 hB3 hi
      rw [putId_two, ← unhide HS] at ho3 ⊢
      go_wp2_with fail
      go_roundw
      case rel => exact ⟨j + 1, a3, c3, by omega, by go_num, rfl, ho3, bstep hB hB4⟩
      case measure => simp [intOf]; omega
    · obtain rfl : j = t.length := by omega
      have HE := hide (show putIdL l (t.take t.length) = putIdL l t by rw [List.take_of_length_le (Nat.le_refl _)])
      rw [unhide HE] at ho ⊢
      clear HE
      go_wp2_with fail
      go_ret
      exact ⟨a2, c2, rfl, ho, hB⟩

theorem ints_one (w : World) (n : Int) (h : okZ [n]) : Ints (w.alloc (.cells #[.int .i64 n] 3)) (.slice (some ⟨w.heap.size, 0, none⟩) 1 1) [n] := by
  refine ⟨h, by simp [maxLen], .inr (.inr ⟨w.heap.size, 0, 1, rfl, by simp, by simp [maxLen], by simp, by simp, fun i hi => ?_⟩)⟩
  have : i = 0 := by simpa using hi
  subst this
  simp
theorem okZ_in {n : Int} (h : inR n) : okZ [n] := okZ.one (by have := h.1; omega) (by have := h.2; omega)
theorem okZ_in2 {n r : Int} (h : inR n) (k : inR r) : okZ [n, r] := (okZ_in h).app (okZ_in k)

/-- One number more. -/
theorem putNum1 (w : World) (base : Nat) (v : Value) (l : List Int) (n : Int) (h : Own w base v l) (hb : base ≤ w.heap.size) (hn : inR n) (hl : l.length ≤ 20000000) :
    Calls Tryz.prog 141 #[v, .slice (some ⟨w.heap.size, 0, none⟩) 1 1] (w.alloc (.cells #[.int .i64 n] 3)) fun e w' => ∃ a c, e = .returned (.slice a (putAll l n).length c) ∧ Own w' base (.slice a (putAll l n).length c) (putAll l n) ∧ Below w.heap.size w w' := by
  have hB2 := (Below.refl w.heap.size w).alloc (Nat.le_refl _) (.cells #[.int .i64 n] 3)
  refine (putNums_any _ base _ _ l [n] (h.keep hB2) (by have := hB2.size; omega) (ints_one w n (okZ_in hn)) hl (by simp)).mono ?_
  rintro e w' ⟨a, c, rfl, ho, hB⟩
  exact ⟨a, c, rfl, ho, bstep hB2 hB⟩

set_option maxHeartbeats 3200000 in
theorem putKey_any (w : World) (base : Nat) (v u : Value) (l k : List Int) (h : Own w base v l) (hb : base ≤ w.heap.size) (hu : Ints w u k) (hl : l.length ≤ 10000000) (hk : k.length ≤ 2097152) :
    Calls Tryz.prog 142 #[v, u] w fun e w' => ∃ a c, e = .returned (.slice a (putKey l k).length c) ∧ Own w' base (.slice a (putKey l k).length c) (putKey l k) ∧ Below w.heap.size w w' := by
  have hp := putAll_len l (k.length : Int)
  have H1 := hide (putNum1 w base v l (k.length : Int) h hb ⟨by omega, by omega⟩ (by omega))
  have HU := hide hu
  obtain ⟨a1, c1, rfl, _, _⟩ := h.byt.shape
  obtain ⟨a', c', rfl, _, _⟩ := hu.shape
  clear h hu
  unfold putKey
  generalize putAll l (k.length : Int) = lp at *
  go_enter Tryz.func142, Tryz.ntmps142
  go_wp2_with fail
  refine (unhide H1).mono ?_
  clear H1
  rintro e w1 ⟨a2, c2, rfl, ho, hB⟩
  go_wp2_with fail
  refine (putNums_any w1 base _ _ lp k ho (by have := hB.size; omega) ((unhide HU).keep hB) (by omega) hk).mono ?_
  rintro e w2 ⟨a3, c3, rfl, ho3, hB3⟩
  have hB4 := bstep hB hB3
  clear ho hB hB3
  go_wp2_with fail
  go_ret
  exact ⟨a3, c3, rfl, ho3, hB4⟩

theorem putTI_own (w : World) (v u : Value) (l t : List Int) (h : Byt w v l) (hu : Byt w u t) (hl : l.length ≤ 60000000) :
    Calls Tryz.prog 143 #[v, u] w fun e w' => ∃ a c, e = .returned (.slice a (putT l t).length c) ∧ Own w' w.heap.size (.slice a (putT l t).length c) (putT l t) ∧ Below w.heap.size w w' := by
  refine (putTI_any w v u l t h hu hl).mono ?_
  rintro e w' ⟨v', rfl, ho, hB⟩
  obtain ⟨a, c, rfl, _, _⟩ := ho.byt.shape
  exact ⟨a, c, rfl, ho, hB⟩
theorem putTS_own (w : World) (v u : Value) (l t : List Int) (h : Byt w v l) (hu : Byt w u t) (hl : l.length ≤ 60000000) :
    Calls Tryz.prog 131 #[v, u] w fun e w' => ∃ a c, e = .returned (.slice a (putT l t).length c) ∧ Own w' w.heap.size (.slice a (putT l t).length c) (putT l t) ∧ Below w.heap.size w w' := by
  refine (putTS_any w v u l t h hu hl).mono ?_
  rintro e w' ⟨v', rfl, ho, hB⟩
  obtain ⟨a, c, rfl, _, _⟩ := ho.byt.shape
  exact ⟨a, c, rfl, ho, hB⟩

def putVal (l t : List Int) (gone : Bool) : List Int := if gone then putAll l 1 else putT (putAll l 0) t
set_option maxHeartbeats 3200000 in
theorem putVal_any (w : World) (base : Nat) (v u : Value) (l t : List Int) (gone : Bool) (h : Own w base v l) (hb : base ≤ w.heap.size) (hu : Byt w u t) (hl : l.length ≤ 10000000) :
    Calls Tryz.prog 144 #[v, u, .bool gone] w fun e w' => ∃ a c, e = .returned (.slice a (putVal l t gone).length c) ∧ Own w' base (.slice a (putVal l t gone).length c) (putVal l t gone) ∧ Below w.heap.size w w' := by
  have H1 := hide (fun n hn => putNum1 w base v l n h hb hn (by omega))
  have HU := hide hu
  obtain ⟨a1, c1, rfl, _, _⟩ := h.byt.shape
  obtain ⟨a', c', rfl, _, _⟩ := hu.shape
  clear h hu
  cases gone
  · have hp := putAll_len l 0
    unfold putVal
    rw [if_neg (by decide)]
    have H2 := hide (unhide H1 0 ⟨by decide, by decide⟩)
    clear H1
    generalize putAll l 0 = lp at *
    go_enter Tryz.func144, Tryz.ntmps144
    go_wp2_with fail
    refine (unhide H2).mono ?_
    clear H2
    rintro e w1 ⟨a2, c2, rfl, ho, hB⟩
    go_wp2_with fail
    refine (putTI_own w1 _ _ lp t ho.byt ((unhide HU).keep hB) (by omega)).mono ?_
    rintro e w2 ⟨a3, c3, rfl, ho3, hB3⟩
    have hB4 := bstep hB hB3
    have ho4 := ho3.mono (base' := base) (by have := hB.size; omega)
    clear ho hB hB3 ho3
    go_wp2_with fail
    go_ret
    exact ⟨a3, c3, rfl, ho4, hB4⟩
  · unfold putVal
    rw [if_pos rfl]
    have H2 := hide (unhide H1 1 ⟨by decide, by decide⟩)
    clear H1
    generalize putAll l 1 = lp at *
    go_enter Tryz.func144, Tryz.ntmps144
    go_wp2_with fail
    refine (unhide H2).mono ?_
    clear H2
    rintro e w1 ⟨a2, c2, rfl, ho, hB⟩
    go_wp2_with fail
    go_ret
    exact ⟨a2, c2, rfl, ho, hB⟩
end Go.Proofs.YtkmmhlimihkgfaaGreat
