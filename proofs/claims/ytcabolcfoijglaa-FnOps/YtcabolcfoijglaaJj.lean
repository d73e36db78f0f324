/- Own texts joined: LOr, Same, SameZ, LFo, OpenO. -/
import Derived.Test.YtcabolcfoijglaaJa
import Derived.Test.YtcabolcfoijglaaJb
import Derived.Test.YtcabolcfoijglaaJc
import Derived.Test.YtcabolcfoijglaaJd
import Derived.Test.YtcabolcfoijglaaJe
import Derived.Test.YtcabolcfoijglaaJf
import Derived.Test.YtcabolcfoijglaaJg
import Derived.Test.YtcabolcfoijglaaJh
import Derived.Test.YtcabolcfoijglaaJi
import Derived.Test.YtcabolcfoijglaaChecked
import Derived.Deep.QuietTactic
import Derived.BigQuiet
import Derived.Deep.CutBlock
import Derived.Test.YtcabolcfoijglaaProg
import Derived.ChangeArms
import Derived.ChangeSlices
import Derived.WideShapes

/- The law on OpRead, walked by its callees' contracts. -/
namespace Go.Proofs.Ytcabolcfoijglaa
open Go.RowKit
set_option linter.unusedVariables false
set_option maxRecDepth 100000

theorem OwOp.rngO {w : World} {base : Nat} {o : OpV} {k n t : Value} (h : OwOp w base o k n t) : Rng (FB k ++ FB n ++ FB t) base w.heap.size := by
  have h1 : Rng (FB k) base w.heap.size := fun g hg => h.1.lt g (by simpa [FB] using hg)
  exact (h1.app h.2.1.rng).app h.2.2.1.rng
theorem OwOp.frm {w w' : World} {base : Nat} {o : OpV} {k n t : Value} {S : List Nat} (h : OwOp w base o k n t) (f : Frm w w' S) (hd : ∀ g ∈ FB k ++ FB n ++ FB t, g ∉ S) : OwOp w' base o k n t :=
  ⟨⟨h.1.1, ownsRow_frm h.1.2 f (fun g hg => hd g (by simp [hg]))⟩, h.2.1.frm f (fun g hg => hd g (by simp [hg])), h.2.2.1.frm f (fun g hg => hd g (by simp [hg])), h.2.2.2⟩
theorem OwOp.mono {w : World} {base base' : Nat} {o : OpV} {k n t : Value} (h : OwOp w base o k n t) (hb : base' ≤ base) : OwOp w base' o k n t := ⟨h.1.mono hb, h.2.1.mono hb, h.2.2.1.mono hb, h.2.2.2⟩
theorem readV_len (l : List Int) : (readV l).key.length ≤ 12 ∧ (readV l).name.length ≤ 30 ∧ (readV l).text.length ≤ 30 := by
  by_cases h : readOk l = true
  · obtain ⟨h1, _⟩ := read_just h
    obtain ⟨_, ht, hh⟩ := opB_facts h1
    rcases hh with hh | hh | hh | hh
    · exact ⟨hh.2.2.2.1.1, hh.2.2.2.2.2.1, ht⟩
    · exact ⟨hh.2.2.2.1.1, by rw [hh.2.2.2.2.2.1]; simp, ht⟩
    · exact ⟨by rw [hh.2.2.2.1]; simp, by rw [hh.2.2.2.2.2.1]; simp, ht⟩
    · exact ⟨by simp [hh], by simp [hh], ht⟩
  · unfold readV
    rw [if_neg h]
    simp [zeroV]
/-- toByteS, its row by its parts. -/
theorem toB_own (w : World) (v : Value) (l : List Int) (h : Byt w v l) (hs : l.length ≤ 2097152) :
    Calls Try.prog 15 #[v] w fun e w' => ∃ a c, e = .returned (.slice a l.length c) ∧ Own w' w.heap.size (.slice a l.length c) l ∧ Below w.heap.size w w' := by
  refine (toB_any w v l h hs).mono ?_
  rintro e w' ⟨v', rfl, ho, _, hB⟩
  obtain ⟨a, c, rfl, _, _⟩ := ho.byt.shape
  exact ⟨a, c, rfl, ho, hB⟩
/-- OpRead of one side, its rows by their parts. -/
def RdSaid (f : FuncId) (l : List Int) (o : OpV) (ok : Bool) (nK nN nT : Nat) : Prop := ∀ (w : World) (v : Value), Byt w v l → Calls Try.prog f #[v] w fun e w' => ∃ a1 c1 a2 c2 a3 c3, e = .returned (.tuple #[opVal o (.slice a1 nK c1) (.slice a2 nN c2) (.slice a3 nT c3), .bool ok]) ∧ OwOp w' w.heap.size o (.slice a1 nK c1) (.slice a2 nN c2) (.slice a3 nT c3) ∧ Below w.heap.size w w'
theorem said_of {f : FuncId} {l : List Int} (H : ∀ (w : World) (v : Value), Byt w v l → Calls Try.prog f #[v] w fun e w' => ∃ k n t, e = .returned (.tuple #[opVal (readV l) k n t, .bool (readOk l)]) ∧ OwOp w' w.heap.size (readV l) k n t ∧ Below w.heap.size w w') : RdSaid f l (readV l) (readOk l) (readV l).key.length (readV l).name.length (readV l).text.length := by
  intro w v hv
  refine (H w v hv).mono ?_
  rintro e w' ⟨k, n, t, rfl, h, hB⟩
  obtain ⟨a1, c1, rfl, _, _⟩ := h.1.ints.shape
  obtain ⟨a2, c2, rfl, _, _⟩ := h.2.1.byt.shape
  obtain ⟨a3, c3, rfl, _, _⟩ := h.2.2.1.byt.shape
  exact ⟨a1, c1, a2, c2, a3, c3, rfl, h, hB⟩

set_option maxHeartbeats 12800000 in
theorem law_opread (w : World) (v : Value) (l : List Int) (h : Byt w v l) :
    Calls Try.prog 4 #[v] w fun e w' => e = .returned (.bool true) ∧ Below w.heap.size w w' := by
  have hln := h.2.1
  unfold maxLen at hln
  obtain ⟨av, cv, rfl, hl1, hl2⟩ := h.shape
  unfold maxLen at hl2
  by_cases hbig : 1048576 < (l.length : Int)
  · go_enter Try.func4, Try.ntmps4
    go_wp2
    go_ret
    exact ⟨rfl, Below.refl _ _⟩
  have hsz : l.length ≤ 1048576 := by omega
  have hb' : ¬ 1048576 < (l.length : Int) := hbig
  clear hbig
  have HT := hide (fun W (hW : Below w.heap.size w W) => toB_own W _ l (h.keep hW) (by omega))
  have HS := hide (said_of (fun w v hv => readSS_any w v l hv))
  have HI := hide (said_of (fun w v hv => readI_any w v l hv))
  have hlen := readV_len l
  have HM := hide (fun w base a1 a2 a3 c1 c2 c3 z h hs h0 h1 => markOp_any w base (readV l) a1 a2 a3 c1 c2 c3 z h hs h0 h1)
  have HH := hide (fun w a1 a2 a3 c1 c2 c3 z hk hn ht hs h0 h1 => heldOp_any w (readV l) a1 a2 a3 c1 c2 c3 z hk hn ht hs h0 h1)
  clear h
  generalize readV l = o at *
  generalize readOk l = ok at *
  obtain ⟨nK, hnK⟩ : ∃ x, x = o.key.length := ⟨_, rfl⟩
  obtain ⟨nN, hnN⟩ : ∃ x, x = o.name.length := ⟨_, rfl⟩
  obtain ⟨nT, hnT⟩ : ∃ x, x = o.text.length := ⟨_, rfl⟩
  rw [← hnK, ← hnN, ← hnT] at HS HI HM HH hlen
  clear hnK hnN hnT
  obtain ⟨hl3, hl4, hl5⟩ := hlen
  have hne : (ok != ok) = false := by simp
  have heq : (ok == ok) = true := by simp
  go_enter Try.func4, Try.ntmps4
  go_wp2_with fail
  refine (unhide HT w (Below.refl _ _)).mono ?_
  rintro e w1 ⟨a0, c0, rfl, ho0, hA1⟩
  go_wp2_with fail
  refine (unhide HS w1 _ ho0.byt).mono ?_
  rintro e w2 ⟨a3, c3, b3, d3, e3, f3, rfl, hw3, hB⟩
  have hA2 := bstep hA1 hB
  have z1 := hA1.size
  have z2 := hB.size
  have HR3 := hide (fun g hg => hw3.rngO g hg)
  clear hB ho0 HS
  unfold opVal
  have hB : Below w2.heap.size w2 (w2.alloc (.cells #[.int .i64 o.kind, .int .i64 o.atN, .int .i64 o.atR, .int .i64 o.nodeN, .int .i64 o.nodeR, .int .i64 o.parN, .int .i64 o.parR, .slice a3 nK c3, .int .i64 o.elem, .slice b3 nN d3, .slice e3 nT f3, .bool o.gone] 27)) := (Below.refl _ _).alloc (Nat.le_refl _) _
  have l3 := Loc.made w2 #[.int .i64 o.kind, .int .i64 o.atN, .int .i64 o.atR, .int .i64 o.nodeN, .int .i64 o.nodeR, .int .i64 o.parN, .int .i64 o.parR, .slice a3 nK c3, .int .i64 o.elem, .slice b3 nN d3, .slice e3 nT f3, .bool o.gone] 27
  have LL := hide (And.intro (bstep hA2 hB) (And.intro l3 (And.intro (hw3.keep hB) hB.size)))
  clear hA2 hB l3 hw3
  go_wp2_with fail
  obtain ⟨hA3, l3, hw3, z3⟩ := unhide LL
  clear LL
  generalize (w2.alloc (.cells #[.int .i64 o.kind, .int .i64 o.atN, .int .i64 o.atR, .int .i64 o.nodeN, .int .i64 o.nodeR, .int .i64 o.parN, .int .i64 o.parR, .slice a3 nK c3, .int .i64 o.elem, .slice b3 nN d3, .slice e3 nT f3, .bool o.gone] 27)) = w3 at *
  generalize hS3 : w2.heap.size = S3 at *
  have q3 := l3.lt
  refine (unhide HT w3 hA3).mono ?_
  rintro e w4 ⟨ax, cx, rfl, hx, hB⟩
  have hA4 := bstep hA3 hB
  replace l3 := l3.all hB
  replace hw3 := hw3.keep hB
  have z4 := hB.size
  have rx : ∀ g, (Value.slice ax l.length cx).ownBlock = some g → w3.heap.size ≤ g ∧ g < w4.heap.size := fun g hg => hx.lt g hg
  clear hB hA3
  go_wp2_with fail
  refine (unhide HI w4 _ hx.byt).mono ?_
  rintro e w5 ⟨a6, c6, b6, d6, e6, f6, rfl, hw6, hB⟩
  have hA5 := bstep hA4 hB
  replace l3 := l3.all hB
  replace hw3 := hw3.keep hB
  replace hx := hx.keep hB
  have z5 := hB.size
  have r6 : ∀ g ∈ FB (.slice a6 nK c6) ++ FB (.slice b6 nN d6) ++ FB (.slice e6 nT f6), w4.heap.size ≤ g ∧ g < w5.heap.size := fun g hg => hw6.rngO g hg
  clear hB hA4
  unfold opVal
  have hB : Below w5.heap.size w5 (w5.alloc (.cells #[.int .i64 o.kind, .int .i64 o.atN, .int .i64 o.atR, .int .i64 o.nodeN, .int .i64 o.nodeR, .int .i64 o.parN, .int .i64 o.parR, .slice a6 nK c6, .int .i64 o.elem, .slice b6 nN d6, .slice e6 nT f6, .bool o.gone] 27)) := (Below.refl _ _).alloc (Nat.le_refl _) _
  have l6 := Loc.made w5 #[.int .i64 o.kind, .int .i64 o.atN, .int .i64 o.atR, .int .i64 o.nodeN, .int .i64 o.nodeR, .int .i64 o.parN, .int .i64 o.parR, .slice a6 nK c6, .int .i64 o.elem, .slice b6 nN d6, .slice e6 nT f6, .bool o.gone] 27
  have LL := hide (And.intro (bstep hA5 hB) (And.intro (l3.all hB) (And.intro (hw3.keep hB) (And.intro (hx.keep hB) (And.intro l6 (And.intro (hw6.keep hB) hB.size))))))
  have l3q := l3.all hB
  obtain ⟨x0, x1, x2, x3, x4, x5, x6, x7, x8, x9, x10, x11⟩ := l3q.twelve
  obtain ⟨y0, y1, y2, y3, y4, y5, y6, y7, y8, y9, y10, y11⟩ := l6.twelve
  clear hA5 hB l3 hw3 hx l6 hw6 l3q
  go_wp2_with fail
  clear x0 x1 x2 x3 x4 x5 x6 x7 x8 x9 x10 x11 y0 y1 y2 y3 y4 y5 y6 y7 y8 y9 y10 y11
  obtain ⟨hA6, l3, hw3, hx, l6, hw6, z6⟩ := unhide LL
  clear LL
  generalize (w5.alloc (.cells #[.int .i64 o.kind, .int .i64 o.atN, .int .i64 o.atR, .int .i64 o.nodeN, .int .i64 o.nodeR, .int .i64 o.parN, .int .i64 o.parR, .slice a6 nK c6, .int .i64 o.elem, .slice b6 nN d6, .slice e6 nT f6, .bool o.gone] 27)) = w6 at *
  generalize hS6 : w5.heap.size = S6 at *
  have HE := hide (fun W (hW : Below w6.heap.size w6 W) => eqOp_same W _ _ o (hw6.keep hW).rd (hw3.keep hW).rd)
  unfold opVal at HE
  refine (unhide HE w6 (Below.refl _ _)).mono ?_
  rintro e w7 ⟨rfl, hB⟩
  have hA7 := bstep hA6 hB
  replace l3 := l3.all hB
  replace hw3 := hw3.keep hB
  replace hx := hx.keep hB
  replace l6 := l6.all hB
  replace hw6 := hw6.keep hB
  have z7 := hB.size
  clear hB hA6 HE
  have LL := hide (And.intro l3 (And.intro hw3 (And.intro l6 hw6)))
  clear l3 hw3 l6 hw6
  go_wp2_with fail
  refine (unhide HT w7 hA7).mono ?_
  rintro e w8 ⟨ay, cy, rfl, hy, hB⟩
  have hA8 := bstep hA7 hB
  replace hx := hx.keep hB
  have hB78 := hB
  go_wp2_with fail
  refine (eqB_any w8 _ _ l l hx.byt hy.byt).mono ?_
  rintro e w9 ⟨rfl, hB⟩
  have hd : decide (l = l) = true := by simp
  rw [hd]
  have hA9 := bstep hA8 hB
  replace hx := hx.keep hB
  have hB79 := bstep hB78 hB
  clear hd hy hB hB78 hA8 hA7
  go_wp2_with fail
  refine (markB_any w9 _ _ l 1 hx (by omega) (by omega) (by omega)).mono ?_
  rintro e w10 ⟨rfl, hx10, hG⟩
  obtain ⟨l3, hw3, l6, hw6⟩ := unhide LL
  clear LL
  have y79 := hB79.size
  have hF := Frm.ofGrown hG
  have rX : ∀ g ∈ (Value.slice ax l.length cx).ownBlock.toList, w3.heap.size ≤ g ∧ g < w4.heap.size := fun g hg => rx g (by simpa using hg)
  have hA10 : Below w.heap.size w w10 := bstepBy hA9 hG (fun g hg => by have := rx g hg; omega)
  replace l3 := (l3.all hB79).frm hF (fun hm => by have := rX _ hm; omega)
  replace hw3 := (hw3.keep hB79).frm hF (fun g hg hm => by have h1 := rX g hm; have h2 := unhide HR3 g hg; omega)
  replace l6 := (l6.all hB79).frm hF (fun hm => by have := rX _ hm; omega)
  replace hw6 := (hw6.keep hB79).frm hF (fun g hg hm => by have h1 := rX g hm; have h2 := r6 g hg; omega)
  clear hF hG hx hx10 hB79 hA9
  have hk0 : decide (1 + (l.length : Int) < 0) = false := by simp; omega
  have HE := hide (fun W (hW : Below w10.heap.size w10 W) => eqOp_same W _ _ o (hw6.keep hW).rd (hw3.keep hW).rd)
  unfold opVal at HE
  obtain ⟨x0, x1, x2, x3, x4, x5, x6, x7, x8, x9, x10, x11⟩ := l3.twelve
  obtain ⟨y0, y1, y2, y3, y4, y5, y6, y7, y8, y9, y10, y11⟩ := l6.twelve
  have LL := hide (And.intro l3 (And.intro hw3 (And.intro l6 hw6)))
  clear l3 hw3 l6 hw6
  go_wp2_with fail
  clear x0 x1 x2 x3 x4 x5 x6 x7 x8 x9 x10 x11 y0 y1 y2 y3 y4 y5 y6 y7 y8 y9 y10 y11
  refine (unhide HE w10 (Below.refl _ _)).mono ?_
  rintro e w11 ⟨rfl, hB⟩
  have hA11 := bstep hA10 hB
  obtain ⟨l3, hw3, l6, hw6⟩ := unhide LL
  clear LL
  replace l3 := l3.all hB
  replace hw3 := hw3.keep hB
  replace l6 := l6.all hB
  replace hw6 := hw6.keep hB
  clear hB hA10 HE
  obtain ⟨y0, y1, y2, y3, y4, y5, y6, y7, y8, y9, y10, y11⟩ := l6.twelve
  have LL := hide (And.intro l3 (And.intro hw3 (And.intro l6 hw6)))
  clear l3 hw3 l6 hw6
  go_wp2_with fail
  clear y0 y1 y2 y3 y4 y5 y6 y7 y8 y9 y10 y11
  obtain ⟨l3, hw3, l6, hw6⟩ := unhide LL
  clear LL
  refine (unhide HM w11 _ _ _ _ _ _ _ 1 hw6 (by omega) (by omega) (by omega)).mono ?_
  rintro e w12 ⟨rfl, hmk, hF⟩
  have hA12 : Below w.heap.size w w12 := ⟨hF.os.trans hA11.os, hF.tape.trans hA11.tape, hF.output.trans hA11.output, Nat.le_trans hA11.size hF.size, fun i hi => (hF.block i (by have := hA11.size; omega) (fun hm => by have := (r6 i hm).1; omega)).trans (hA11.block i hi)⟩
  replace l3 := l3.frm hF (fun hm => by have := r6 _ hm; omega)
  replace l6 := l6.frm hF (fun hm => by have := r6 _ hm; omega)
  replace hw3 := hw3.frm hF (fun g hg hm => by have h1 := r6 g hm; have h2 := unhide HR3 g hg; omega)
  clear hF hw6 hA11 HM
  have hM : (0 : Int) ≤ 1 + (nK : Int) + (nN : Int) + (nT : Int) := by omega
  generalize hmm : 1 + (nK : Int) + (nN : Int) + (nT : Int) = M at *
  have HMM := hide hmm
  clear hmm
  have HHE := hide (fun W (hW : Below w12.heap.size w12 W) => unhide HH W _ _ _ _ _ _ 1 (hmk.1.ints.keep hW) (hmk.2.1.byt.keep hW) (hmk.2.2.byt.keep hW) (by omega) (by omega) (by omega))
  rw [unhide HMM] at HHE
  unfold opVal at HHE
  clear hmk HH
  obtain ⟨y0, y1, y2, y3, y4, y5, y6, y7, y8, y9, y10, y11⟩ := l6.twelve
  have LL := hide (And.intro l3 (And.intro hw3 l6))
  clear l3 hw3 l6
  go_wp2_with fail
  clear y0 y1 y2 y3 y4 y5 y6 y7 y8 y9 y10 y11
  refine (unhide HHE w12 (Below.refl _ _)).mono ?_
  rintro e w13 ⟨rfl, hB⟩
  have hA13 := bstep hA12 hB
  have hN : decide (M < 0) = false := by simp; omega
  have hMM : (M == M) = true := by simp
  have hMN : (M != M) = false := by simp
  have hB12 := hB
  clear hB hA12
  go_wp2_with fail
  refine (unhide HT w13 hA13).mono ?_
  rintro e w14 ⟨az, cz, rfl, hz, hB⟩
  have hA14 := bstep hA13 hB
  replace hB12 := bstep hB12 hB
  clear hB hA13
  go_wp2_with fail
  refine (unhide HI w14 _ hz.byt).mono ?_
  rintro e w15 ⟨a9, c9, b9, d9, e9, f9, rfl, hw9, hB⟩
  have hA15 := bstep hA14 hB
  replace hB12 := bstep hB12 hB
  clear hB hA14 hz HI HT
  unfold opVal
  have hB : Below w15.heap.size w15 (w15.alloc (.cells #[.int .i64 o.kind, .int .i64 o.atN, .int .i64 o.atR, .int .i64 o.nodeN, .int .i64 o.nodeR, .int .i64 o.parN, .int .i64 o.parR, .slice a9 nK c9, .int .i64 o.elem, .slice b9 nN d9, .slice e9 nT f9, .bool o.gone] 27)) := (Below.refl _ _).alloc (Nat.le_refl _) _
  have l9 := Loc.made w15 #[.int .i64 o.kind, .int .i64 o.atN, .int .i64 o.atR, .int .i64 o.nodeN, .int .i64 o.nodeR, .int .i64 o.parN, .int .i64 o.parR, .slice a9 nK c9, .int .i64 o.elem, .slice b9 nN d9, .slice e9 nT f9, .bool o.gone] 27
  obtain ⟨l3, hw3, l6⟩ := unhide LL
  clear LL
  have LL := hide (And.intro (bstep hA15 hB) (And.intro (bstep hB12 hB) (And.intro hw3 (And.intro l6 (And.intro l9 (hw9.keep hB))))))
  have l3q := l3.all (bstep hB12 hB)
  obtain ⟨x0, x1, x2, x3, x4, x5, x6, x7, x8, x9, x10, x11⟩ := l3q.twelve
  obtain ⟨y0, y1, y2, y3, y4, y5, y6, y7, y8, y9, y10, y11⟩ := l9.twelve
  clear hA15 hB hB12 l3 hw3 l6 l9 hw9 l3q
  go_wp2_with fail
  clear x0 x1 x2 x3 x4 x5 x6 x7 x8 x9 x10 x11 y0 y1 y2 y3 y4 y5 y6 y7 y8 y9 y10 y11
  obtain ⟨hA16, hB12, hw3, l6, l9, hw9⟩ := unhide LL
  clear LL
  generalize (w15.alloc (.cells #[.int .i64 o.kind, .int .i64 o.atN, .int .i64 o.atR, .int .i64 o.nodeN, .int .i64 o.nodeR, .int .i64 o.parN, .int .i64 o.parR, .slice a9 nK c9, .int .i64 o.elem, .slice b9 nN d9, .slice e9 nT f9, .bool o.gone] 27)) = w16 at *
  have HE := hide (eqOp_same w16 _ _ o hw9.rd (hw3.keep hB12).rd)
  unfold opVal at HE
  clear hw3 l9 hw9
  refine (unhide HE).mono ?_
  rintro e w17 ⟨rfl, hB⟩
  have hA17 := bstep hA16 hB
  replace hB12 := bstep hB12 hB
  replace l6 := l6.all hB12
  clear hB HE hA16
  obtain ⟨y0, y1, y2, y3, y4, y5, y6, y7, y8, y9, y10, y11⟩ := l6.twelve
  clear l6
  go_wp2_with fail
  clear y0 y1 y2 y3 y4 y5 y6 y7 y8 y9 y10 y11
  refine (unhide HHE w17 hB12).mono ?_
  rintro e w18 ⟨rfl, hB⟩
  have hA18 := bstep hA17 hB
  clear hB hB12 hA17 HHE
  go_wp2_with fail
  go_ret
  exact ⟨rfl, hA18⟩

end Go.Proofs.Ytcabolcfoijglaa

/- laws.sameBytes: two rows of bytes as strings, by its contract. -/
namespace Go.Proofs.Ytcabolcfoijglaa
open Go.RowKit
set_option linter.unusedVariables false

set_option maxHeartbeats 1600000 in
theorem same_any (w : World) (u v : Value) (a b : List Int) (hu : Byt w u a) (hv : Byt w v b) :
    Calls Try.prog 11 #[u, v] w fun e w' => e = .returned (.bool (decide (a = b))) ∧ w' = w := by
  have c1 := conv_any w u a hu
  have c2 := conv_any w v b hv
  have HE := hide (str_beq hu.1 hv.1)
  obtain ⟨a1, k1, rfl, _⟩ := hu.shape
  obtain ⟨a2, k2, rfl, _⟩ := hv.shape
  generalize str a = s at *
  generalize str b = t at *
  go_enter Try.func11, Try.ntmps11
  go_wp2
  go_ret
  exact ⟨by rw [← unhide HE]; rfl, rfl⟩
end Go.Proofs.Ytcabolcfoijglaa

/- laws.sameInts, by its contract. -/
namespace Go.Proofs.Ytcabolcfoijglaa
open Go.RowKit
set_option linter.unusedVariables false

set_option maxHeartbeats 1600000 in
set_option maxRecDepth 1000000 in
theorem sameZ_any (w : World) (u v : Value) (a b : List Int) (hu : Ints w u a) (hv : Ints w v b) :
    Calls Try.prog 12 #[u, v] w fun e w' => e = .returned (.bool (decide (a = b))) ∧ Below w.heap.size w w' := by
  have hma := hu.2.1
  have hmb := hv.2.1
  unfold maxLen at hma hmb
  by_cases hl : a.length = b.length
  · by_cases h0 : a.length = 0
    · have ha : a = [] := List.eq_nil_of_length_eq_zero h0
      have hb : b = [] := List.eq_nil_of_length_eq_zero (by omega)
      subst ha hb
      obtain ⟨a1, c1, rfl, _⟩ := hu.shape
      obtain ⟨a2, c2, rfl, _⟩ := hv.shape
      go_enter Try.func12, Try.ntmps12
      go_wp2
      refine wp_loop_rounds 1 ?_
      rw [rounds_succ]
      go_wp2
      go_ret
      exact ⟨rfl, Below.refl _ _⟩
    · obtain ⟨hoka, _, ⟨rfl, rfl⟩ | ⟨x, cap, rfl, hc, rfl⟩ | ⟨p, off, cap, rfl, h1, h2, h3, h4, h5⟩⟩ := hu
      · simp at h0
      · simp at h0
      obtain ⟨hokb, _, ⟨rfl, rfl⟩ | ⟨x, cap, rfl, hc, rfl⟩ | ⟨q, off', cap', rfl, g1, g2, g3, g4, g5⟩⟩ := hv
      · simp at hl; simp [hl] at h0
      · simp at hl; simp [hl] at h0
      generalize hA : a.length = n at *
      have HL := hide hl
      clear hl
      rw [← unhide HL]
      go_enter Try.func12, Try.ntmps12
      go_wp2
      go_loopw [5] (fun i wr => ∃ k : Nat, k ≤ n ∧ i = .int .i64 k ∧ Hid (a.take k = b.take k) ∧ Below w.heap.size w wr) (fun i _ => n - (intOf i).toNat)
      case atStart => exact ⟨0, Nat.zero_le _, rfl, hide rfl, Below.refl _ _⟩
      case round =>
        obtain ⟨k, hk, rfl, ht, hB⟩ := hrel
        by_cases hlt : k < n
        · obtain ⟨x, hx⟩ : ∃ x, x = a.getD k 0 := ⟨_, rfl⟩
          obtain ⟨y, hy⟩ : ∃ y, y = b.getD k 0 := ⟨_, rfl⟩
          have c1 : wr.cell? ⟨p, off + k, none⟩ = some (.int .i64 x) := by rw [hx]; exact (hB.cell (p := ⟨p, off + k, none⟩) h4).trans (h5 k hlt)
          have c2 : wr.cell? ⟨q, off' + k, none⟩ = some (.int .i64 y) := by rw [hy]; exact (hB.cell (p := ⟨q, off' + k, none⟩) g4).trans (g5 k (by have := unhide HL; omega))
          have hka : k < a.length := by omega
          have hkb : k < b.length := by have := unhide HL; omega
          rw [getD_at hka] at hx
          rw [getD_at hkb] at hy
          have HX := hide hx
          have HY := hide hy
          have hlt' : (k : Int) < (n : Int) := by omega
          clear hx hy h5 g5
          by_cases hxy : x = y
          · have hne : (x != y) = false := by simp [hxy]
            clear hxy
            go_wp2
            go_quiet (fail)
            go_wp2
            go_roundw
            case rel => exact ⟨k + 1, by omega, by go_num, hide (take_eq_step (unhide ht) hka hkb (by rw [← unhide HX, ← unhide HY]; simpa using hne)), below_drewN hB _⟩
            case measure => simp [intOf]; omega
          · have hne : (x != y) = true := by simp [hxy]
            have hd : decide (a = b) = false := decide_ne hka hkb (by rw [← unhide HX, ← unhide HY]; exact hxy)
            have HD := hide hd
            clear hxy hd
            go_wp2
            go_quiet (fail)
            go_wp2
            go_ret
            exact ⟨by rw [unhide HD]; rfl, below_drewN hB _⟩
        · have e : k = n := by omega
          have hd : decide (a = b) = true := by
            have h := unhide ht
            rw [List.take_of_length_le (by omega), List.take_of_length_le (by have := unhide HL; omega)] at h
            simpa using h
          have HD := hide hd
          clear hd ht
          subst e
          go_wp2
          go_ret
          exact ⟨by rw [unhide HD]; rfl, hB⟩
  · have hd : decide (a = b) = false := by
      simp only [decide_eq_false_iff_not]
      intro h; subst h; exact hl rfl
    have hne : ((a.length : Int) != (b.length : Int)) = true := by simp; omega
    have HD := hide hd
    clear hd
    obtain ⟨a1, c1, rfl, _⟩ := hu.shape
    obtain ⟨a2, c2, rfl, _⟩ := hv.shape
    go_enter Try.func12, Try.ntmps12
    go_wp2
    go_ret
    exact ⟨by rw [unhide HD]; rfl, Below.refl _ _⟩
end Go.Proofs.Ytcabolcfoijglaa

/- The law FnOps: drawn operations come back from their bytes; what is read as one is just its bytes. -/
namespace Go.Proofs.Ytcabolcfoijglaa
open Go.RowKit
set_option linter.unusedVariables false
set_option maxRecDepth 100000

set_option maxHeartbeats 12800000 in
theorem law_fnops (w : World) (code : Value) (l : List Int) (h : Byt w code l) :
    Calls Try.prog 3 #[code] w fun e w' => e = .returned (.bool true) ∧ Below w.heap.size w w' := by
  have HD := hide (fun W (hW : Below w.heap.size w W) => drawOpRead_any W code l (h.keep hW))
  have H1 := hide (drawOpBytes_any w code l h)
  obtain ⟨ac, cc, rfl, _, _⟩ := h.shape
  clear h
  go_enter Try.func3, Try.ntmps3
  go_wp2_with fail
  refine (unhide H1).mono ?_
  rintro e w1 ⟨o, v, rfl, hrd, hSm, hA1⟩
  clear H1
  have HS := hide (fun W u (hu : RdOp W u o) => opS_any W u o hu)
  have HI := hide (fun W u (hu : RdOp W u o) => opI_any W u o hu)
  have HB := hide (fun W u (hu : RdOp W u o) => bytesI_any W u o hu (by have := hSm.1; omega))
  have hrd' := hrd
  obtain ⟨k, n, t, rfl, hk, hn, ht⟩ := hrd
  obtain ⟨a3, c3, rfl, _, _⟩ := hk.shape
  obtain ⟨b3, d3, rfl, _, _⟩ := hn.shape
  obtain ⟨e3, f3, rfl, _, _⟩ := ht.shape
  have HK := hide hk
  clear hk hn ht
  have hAb := (Below.refl w1.heap.size w1).alloc (Nat.le_refl _) (.cells #[.int .i64 o.kind, .int .i64 o.atN, .int .i64 o.atR, .int .i64 o.nodeN, .int .i64 o.nodeR, .int .i64 o.parN, .int .i64 o.parR, .slice a3 o.key.length c3, .int .i64 o.elem, .slice b3 o.name.length d3, .slice e3 o.text.length f3, .bool o.gone] 27)
  have l3 := Loc.made w1 #[.int .i64 o.kind, .int .i64 o.atN, .int .i64 o.atR, .int .i64 o.nodeN, .int .i64 o.nodeR, .int .i64 o.parN, .int .i64 o.parR, .slice a3 o.key.length c3, .int .i64 o.elem, .slice b3 o.name.length d3, .slice e3 o.text.length f3, .bool o.gone] 27
  obtain ⟨x0, x1, x2, x3, x4, x5, x6, x7, x8, x9, x10, x11⟩ := l3.twelve
  have LL := hide (And.intro (bstep hA1 hAb) (And.intro l3 (And.intro (hrd'.keep hAb) hAb)))
  clear hA1 hAb l3 hrd' hSm
  unfold opVal at LL ⊢
  go_wp2_with fail
  clear x0 x1 x2 x3 x4 x5 x6 x7 x8 x9 x10 x11
  obtain ⟨hA, l3, hrd, hAb⟩ := unhide LL
  have HK2 := hide ((unhide HK).keep hAb)
  clear LL hAb HK
  generalize (w1.alloc (.cells #[.int .i64 o.kind, .int .i64 o.atN, .int .i64 o.atR, .int .i64 o.nodeN, .int .i64 o.nodeR, .int .i64 o.parN, .int .i64 o.parR, .slice a3 o.key.length c3, .int .i64 o.elem, .slice b3 o.name.length d3, .slice e3 o.text.length f3, .bool o.gone] 27)) = wa at *
  generalize w1.heap.size = S at *
  refine (unhide HB wa _ hrd).mono ?_
  rintro e w2 ⟨ab, cb, rfl, hob, hB⟩
  replace hA := bstep hA hB
  replace l3 := l3.all hB
  replace hrd := hrd.keep hB
  have HK3 := hide ((unhide HK2).keep hB)
  clear hB HK2
  obtain ⟨x0, x1, x2, x3, x4, x5, x6, x7, x8, x9, x10, x11⟩ := l3.twelve
  have LL := hide (And.intro hA (And.intro l3 (And.intro hrd hob)))
  clear hA l3 hrd hob
  have hQ : opB o = true ∨ opB o = false := by cases opB o <;> simp
  have HBK := hide (fun (h : opB o = true) => And.intro (read_back h) (show obV o = opBytes o by unfold obV; rw [if_pos h]))
  have HRI := hide (fun W u (hu : Byt W u (obV o)) => readI_any W u (obV o) hu)
  generalize obV o = ob at *
  generalize hbq : opB o = bq at *
  have HBQ := hide hbq
  clear hbq
  have hne : (bq != bq) = false := by simp
  have heq : (bq == bq) = true := by simp
  go_wp2_with fail
  clear x0 x1 x2 x3 x4 x5 x6 x7 x8 x9 x10 x11
  obtain ⟨hA, l3, hrd, hob⟩ := unhide LL
  clear LL
  refine (unhide HS w2 _ hrd).mono ?_
  rintro e w3 ⟨rfl, hB⟩
  replace hA := bstep hA hB
  replace l3 := l3.all hB
  replace hrd := hrd.keep hB
  replace hob := hob.keep hB
  have HK4 := hide ((unhide HK3).keep hB)
  clear hB HK3 HS
  obtain ⟨x0, x1, x2, x3, x4, x5, x6, x7, x8, x9, x10, x11⟩ := l3.twelve
  have LL := hide (And.intro hA (And.intro l3 (And.intro hrd hob)))
  clear hA l3 hrd hob
  go_wp2_with fail
  clear x0 x1 x2 x3 x4 x5 x6 x7 x8 x9 x10 x11
  obtain ⟨hA, l3, hrd, hob⟩ := unhide LL
  clear LL
  refine (unhide HI w3 _ hrd).mono ?_
  rintro e w4 ⟨rfl, hB⟩
  replace hA := bstep hA hB
  replace l3 := l3.all hB
  replace hob := hob.keep hB
  have HK5 := hide ((unhide HK4).keep hB)
  clear hB HK4 HI hrd
  have LL := hide (And.intro hA (And.intro l3 hob))
  clear hA l3 hob
  go_upto_if 32 with fail
  go_cut [6, 7, 8, 9] from 33 to 69 (fun s6 s7 s8 s9 wx => Below w.heap.size w wx)
  case first =>
    rcases hQ with rfl | rfl
    · obtain ⟨hA, l3, hob⟩ := unhide LL
      obtain ⟨⟨hr1, hr2⟩, hr3⟩ := unhide HBK rfl
      clear LL HBK
      subst hr3
      rw [hr1, hr2] at HRI
      generalize opBytes o = rb at *
      clear hr1 hr2
      have LL := hide (And.intro hA (And.intro l3 hob))
      clear hA l3 hob
      go_wp2_with fail
      obtain ⟨hA, l3, hob⟩ := unhide LL
      clear LL
      refine (unhide HRI w4 _ hob.byt).mono ?_
      rintro e w5 ⟨k, n, t, rfl, hOw, hB⟩
      replace hA := bstep hA hB
      replace l3 := l3.all hB
      replace hob := hob.keep hB
      have HK6 := hide ((unhide HK5).keep hB)
      clear hB HRI
      obtain ⟨a6, c6, rfl, _, _⟩ := hOw.1.ints.shape
      obtain ⟨b6, d6, rfl, _, _⟩ := hOw.2.1.byt.shape
      obtain ⟨e6, f6, rfl, _, _⟩ := hOw.2.2.1.byt.shape
      have hAb := (Below.refl w5.heap.size w5).alloc (Nat.le_refl _) (.cells #[.int .i64 o.kind, .int .i64 o.atN, .int .i64 o.atR, .int .i64 o.nodeN, .int .i64 o.nodeR, .int .i64 o.parN, .int .i64 o.parR, .slice a6 o.key.length c6, .int .i64 o.elem, .slice b6 o.name.length d6, .slice e6 o.text.length f6, .bool o.gone] 27)
      have l6 := Loc.made w5 #[.int .i64 o.kind, .int .i64 o.atN, .int .i64 o.atR, .int .i64 o.nodeN, .int .i64 o.nodeR, .int .i64 o.parN, .int .i64 o.parR, .slice a6 o.key.length c6, .int .i64 o.elem, .slice b6 o.name.length d6, .slice e6 o.text.length f6, .bool o.gone] 27
      obtain ⟨x0, x1, x2, x3, x4, x5, x6, x7, x8, x9, x10, x11⟩ := l6.twelve
      have HK7 := hide ((unhide HK6).keep hAb)
      have LL := hide (And.intro (bstep hA hAb) (And.intro (l3.all hAb) (And.intro (hob.keep hAb) (And.intro l6 (hOw.keep hAb)))))
      clear hA l3 hob hOw hAb l6 HK6
      unfold opVal
      go_wp2_with fail
      clear x0 x1 x2 x3 x4 x5 x6 x7 x8 x9 x10 x11
      obtain ⟨hA, l3, hob, l6, hOw⟩ := unhide LL
      clear LL
      generalize (w5.alloc (.cells #[.int .i64 o.kind, .int .i64 o.atN, .int .i64 o.atR, .int .i64 o.nodeN, .int .i64 o.nodeR, .int .i64 o.parN, .int .i64 o.parR, .slice a6 o.key.length c6, .int .i64 o.elem, .slice b6 o.name.length d6, .slice e6 o.text.length f6, .bool o.gone] 27)) = wb at *
      generalize w5.heap.size = S6 at *
      refine (unhide HB wb _ hOw.rd).mono ?_
      rintro e w6 ⟨ag, cg, rfl, hg, hB⟩
      replace hA := bstep hA hB
      replace l3 := l3.all hB
      replace hob := hob.keep hB
      replace l6 := l6.all hB
      replace hOw := hOw.keep hB
      have HK8 := hide ((unhide HK7).keep hB)
      clear hB HB HK7
      have LL := hide (And.intro hA (And.intro l3 (And.intro l6 (And.intro hOw (And.intro hob hg)))))
      clear hA l3 hob l6 hOw hg
      go_wp2_with fail
      obtain ⟨hA, l3, l6, hOw, hob, hg⟩ := unhide LL
      clear LL
      refine (same_any w6 _ _ rb rb hob.byt hg.byt).mono ?_
      rintro e w6' ⟨rfl, ew⟩
      obtain rfl := ew.symm
      clear ew
      have hd : decide (rb = rb) = true := by simp
      rw [hd]
      obtain ⟨x0, x1, x2, x3, x4, x5, x6, x7, x8, x9, x10, x11⟩ := l3.twelve
      obtain ⟨y0, y1, y2, y3, y4, y5, y6, y7, y8, y9, y10, y11⟩ := l6.twelve
      have LL := hide (And.intro hA hOw)
      clear hA l3 l6 hOw hob hg hd
      go_wp2_with fail
      clear x0 x1 x2 x3 x4 x5 x6 x7 x8 x9 x10 x11 y0 y1 y2 y3 y4 y5 y6 y7 y8 y9 y10 y11
      obtain ⟨hA, hOw⟩ := unhide LL
      clear LL
      refine (sameZ_any w6 _ _ o.key o.key hOw.1.ints (unhide HK8)).mono ?_
      rintro e w7 ⟨rfl, hB⟩
      have hd : decide (o.key = o.key) = true := by simp
      rw [hd]
      replace hA := bstep hA hB
      clear hB hOw hd HK8
      have KK := hide hA
      clear hA
      go_wp2_with fail
      go_meet
      exact unhide KK
    · obtain ⟨hA, l3, hob⟩ := unhide LL
      have KK := hide hA
      clear hA l3 hob LL HBK HRI
      go_wp2_with fail
      go_meet
      exact unhide KK
  case rest =>
    have hA := hcut
    clear hcut LL HBK HRI HB HK5 HBQ
    have LL := hide hA
    clear hA
    go_wp2_with fail
    refine (unhide HD wc (unhide LL)).mono ?_
    rintro e w8 ⟨v, m, rfl, hv, hB⟩
    have hA := bstep (unhide LL) hB
    clear LL hB HD
    obtain ⟨av, cv, rfl, _, _⟩ := hv.shape
    have LL := hide (And.intro hA hv)
    clear hA hv
    go_wp2_with fail
    obtain ⟨hA, hv⟩ := unhide LL
    clear LL
    refine (readI_any w8 _ m hv).mono ?_
    rintro e w9 ⟨k, n, t, rfl, hOw, hB⟩
    replace hA := bstep hA hB
    replace hv := hv.keep hB
    clear hB
    have HBB := hide (fun W u (hu : RdOp W u (readV m)) => bytesI_any W u (readV m) hu (by have := (readV_len m).1; omega))
    have HJ := hide (fun (h : readOk m = true) => (show opB (readV m) = true ∧ obV (readV m) = m by obtain ⟨h1, h2⟩ := read_just h; exact ⟨h1, by unfold obV; rw [if_pos h1]; exact h2⟩))
    generalize readV m = p at *
    have hQ : readOk m = true ∨ readOk m = false := by cases readOk m <;> simp
    generalize readOk m = ok at *
    obtain ⟨a9, c9, rfl, _, _⟩ := hOw.1.ints.shape
    obtain ⟨b9, d9, rfl, _, _⟩ := hOw.2.1.byt.shape
    obtain ⟨e9, f9, rfl, _, _⟩ := hOw.2.2.1.byt.shape
    have hAb := (Below.refl w9.heap.size w9).alloc (Nat.le_refl _) (.cells #[.int .i64 p.kind, .int .i64 p.atN, .int .i64 p.atR, .int .i64 p.nodeN, .int .i64 p.nodeR, .int .i64 p.parN, .int .i64 p.parR, .slice a9 p.key.length c9, .int .i64 p.elem, .slice b9 p.name.length d9, .slice e9 p.text.length f9, .bool p.gone] 27)
    have l9 := Loc.made w9 #[.int .i64 p.kind, .int .i64 p.atN, .int .i64 p.atR, .int .i64 p.nodeN, .int .i64 p.nodeR, .int .i64 p.parN, .int .i64 p.parR, .slice a9 p.key.length c9, .int .i64 p.elem, .slice b9 p.name.length d9, .slice e9 p.text.length f9, .bool p.gone] 27
    obtain ⟨x0, x1, x2, x3, x4, x5, x6, x7, x8, x9, x10, x11⟩ := l9.twelve
    have LL := hide (And.intro (bstep hA hAb) (And.intro (hv.keep hAb) (hOw.keep hAb)))
    clear hA hv hOw hAb l9
    unfold opVal
    go_wp2_with fail
    clear x0 x1 x2 x3 x4 x5 x6 x7 x8 x9 x10 x11
    obtain ⟨hA, hv, hOw⟩ := unhide LL
    clear LL
    generalize (w9.alloc (.cells #[.int .i64 p.kind, .int .i64 p.atN, .int .i64 p.atR, .int .i64 p.nodeN, .int .i64 p.nodeR, .int .i64 p.parN, .int .i64 p.parR, .slice a9 p.key.length c9, .int .i64 p.elem, .slice b9 p.name.length d9, .slice e9 p.text.length f9, .bool p.gone] 27)) = wd at *
    refine (unhide HBB wd _ hOw.rd).mono ?_
    rintro e w10 ⟨ag, cg, rfl, hg, hB⟩
    replace hA := bstep hA hB
    replace hv := hv.keep hB
    clear hB hOw HBB
    rcases hQ with rfl | rfl
    · obtain ⟨j1, j2⟩ := unhide HJ rfl
      rw [j2] at hg ⊢
      rw [j1]
      clear j1 j2 HJ
      have LL := hide (And.intro hA (And.intro hv hg))
      clear hA hv hg
      go_wp2_with fail
      obtain ⟨hA, hv, hg⟩ := unhide LL
      clear LL
      refine (same_any w10 _ _ m m hg.byt hv).mono ?_
      rintro e w11 ⟨rfl, rfl⟩
      have hd : decide (m = m) = true := by simp
      rw [hd]
      have LL := hide hA
      clear hA hv hg hd
      go_wp2_with fail
      go_ret
      exact ⟨rfl, unhide LL⟩
    · generalize obV p = ob at *
      generalize opB p = oq at *
      have LL := hide hA
      clear hA hv hg HJ
      go_wp2_with fail
      go_ret
      exact ⟨rfl, unhide LL⟩
end Go.Proofs.Ytcabolcfoijglaa

/- An argument of a law that can be read as data is a row of numbers, a stamp, an operation: what the data's readings open to. No condition. -/
namespace Go.Proofs.Ytcabolcfoijglaa
open Go.RowKit Go.ChangeShapes
set_option linter.unusedVariables false
set_option maxRecDepth 100000

variable {H : Type} {enc : TypeId × Value → H} {W : World} {held : Bool}

theorem open_bytesO {fuel : Nat} {cs : List Value} {x : DataW H × List MemPlace} (h : DataW.trod enc Try.prog W 0 (fun _ => true) held fuel 22 cs = some x) :
    ∃ v l, cs = [v] ∧ Byt W v l := by
  rcases open_ints Try.underlying22 Try.underlying5 (by kernel_rfl) h with ⟨hcs, _⟩ | ⟨a, len, cap, zs, hcs, _, hl, hm, hz, _, hcell, hwz⟩
  · exact ⟨_, _, hcs, byt_of_row (zs := []) (.inl ⟨rfl, rfl, rfl, rfl⟩)⟩
  · exact ⟨_, _, hcs, byt_of_row (.inr ⟨_, rfl, hl, hm, by simpa using hz, hcell, hwz⟩)⟩
theorem open_intsO {fuel : Nat} {cs : List Value} {x : DataW H × List MemPlace} (h : DataW.trod enc Try.prog W 0 (fun _ => true) held fuel 25 cs = some x) :
    ∃ v l, cs = [v] ∧ Ints W v l := by
  rcases open_ints Try.underlying25 Try.underlying3 (by kernel_rfl) h with ⟨hcs, _⟩ | ⟨a, len, cap, zs, hcs, _, hl, hm, hz, _, hcell, hwz⟩
  · exact ⟨_, _, hcs, ints_of_row (zs := []) (.inl ⟨rfl, rfl, rfl, rfl⟩)⟩
  · exact ⟨_, _, hcs, ints_of_row (.inr ⟨_, rfl, hl, hm, by simpa using hz, hcell, hwz⟩)⟩

theorem some_atO {α : Type} {l : List α} {n i : Nat} (h : l.length = n) (hi : i < n) : ∃ y, l[i]? = some y := ⟨l[i]'(by omega), List.getElem?_eq_getElem (by omega)⟩

/-- An argument that is a row of bytes. -/
theorem arg_bytesO {r : Reach} {base : Nat} {v : Value} {d : DataW H} {p : List MemPlace} (hv : Value.okWide Try.prog W r base 22 v) (h : DataW.Trod enc Try.prog W 0 (fun _ => true) held 22 v d p) : ∃ l, Byt W v l := by
  obtain ⟨a, len, cap, rfl⟩ := WideShapes.okWide_slice Try.underlying22 hv
  obtain ⟨fuel, hf⟩ := h
  obtain ⟨u, l, hu, hb⟩ := open_bytesO hf
  simp [Value.cells] at hu
  subst hu
  exact ⟨l, hb⟩
/-- An argument that is a row of numbers. -/
theorem arg_ints {r : Reach} {base : Nat} {v : Value} {d : DataW H} {p : List MemPlace} (hv : Value.okWide Try.prog W r base 25 v) (h : DataW.Trod enc Try.prog W 0 (fun _ => true) held 25 v d p) : ∃ l, Ints W v l := by
  obtain ⟨a, len, cap, rfl⟩ := WideShapes.okWide_slice Try.underlying25 hv
  obtain ⟨fuel, hf⟩ := h
  obtain ⟨u, l, hu, hb⟩ := open_intsO hf
  simp [Value.cells] at hu
  subst hu
  exact ⟨l, hb⟩

theorem open_id {fuel : Nat} {cs : List Value} {x : DataW H × List MemPlace} (h : DataW.trod enc Try.prog W 0 (fun _ => true) held fuel 80 cs = some x) : ∃ n r : Int, cs = [.int .i64 n, .int .i64 r] := by
  obtain ⟨xs, n, _, _, hlen, hxs, hf⟩ := DataW.trod_struct Try.underlying80 h
  have hlen2 : cs.length = 2 := hlen.trans (by kernel_rfl)
  match cs, hlen2 with
  | [c0, c1], _ =>
    obtain ⟨y0, e0⟩ := some_atO (i := 0) hxs (by simp)
    obtain ⟨y1, e1⟩ := some_atO (i := 1) hxs (by simp)
    have h0 : DataW.trod enc Try.prog W 0 (fun _ => true) held n 3 (([c0, c1].drop 0).take (Try.prog.cellsOf 3)) = some y0 := (hf 0 _ rfl).trans e0
    have h1 : DataW.trod enc Try.prog W 0 (fun _ => true) held n 3 (([c0, c1].drop 1).take (Try.prog.cellsOf 3)) = some y1 := (hf 1 _ rfl).trans e1
    have k1 : Try.prog.cellsOf 3 = 1 := by kernel_rfl
    simp only [k1, List.drop, List.take] at h0 h1
    obtain ⟨z0, g0, _, _⟩ := DataW.trod_int Try.underlying3 h0
    obtain ⟨z1, g1, _, _⟩ := DataW.trod_int Try.underlying3 h1
    simp at g0 g1
    subst g0; subst g1
    exact ⟨z0, z1, rfl⟩
/-- An argument that is a stamp. -/
theorem arg_id {r : Reach} {base : Nat} {v : Value} {x : DataW H} {p : List MemPlace} (hv : Value.okWide Try.prog W r base 80 v) (h : DataW.Trod enc Try.prog W 0 (fun _ => true) held 80 v x p) :
    ∃ n m : Int, v = .agg #[.int .i64 n, .int .i64 m] := by
  obtain ⟨cs, rfl, hsz⟩ := WideShapes.okWide_struct Try.underlying80 hv
  obtain ⟨fuel, hf⟩ := h
  obtain ⟨n, m, e⟩ := open_id hf
  refine ⟨n, m, ?_⟩
  obtain ⟨l⟩ := cs
  have e' : l = [.int .i64 n, .int .i64 m] := e
  rw [e']
end Go.Proofs.Ytcabolcfoijglaa
