/- The law on OpBytes, walked by its callees' contracts. -/
import Derived.Test.YtjannojebngoeabBytI
import Derived.Test.YtjannojebngoeabMarkO
import Derived.Test.YtjannojebngoeabApart
import Derived.Test.YtjannojebngoeabEq
namespace Go.Proofs.Ytjannojebngoeab
open Go.RowKit
set_option linter.unusedVariables false
set_option maxRecDepth 100000


set_option maxHeartbeats 3200000 in
/-- spec.OpBytes, whatever it is asked. -/
theorem bytesSO_any (w : World) (v : Value) (o : OpV) (h : RdOp w v o) (hs : o.key.length ≤ 2097152) :
    Calls Try.prog 6 #[v] w fun e w' => ∃ a c, e = .returned (.tuple #[.slice a (obV o).length c, .bool (opB o)]) ∧ Own w' w.heap.size (.slice a (obV o).length c) (obV o) ∧ Below w.heap.size w w' := by
  have HR := hide (fun (W : World) (hW : Below w.heap.size w W) => h.keep hW)
  obtain ⟨k, n, t, rfl, hk, hn, ht⟩ := h
  obtain ⟨a1, c1, rfl, _, _⟩ := hk.shape
  obtain ⟨a2, c2, rfl, _, _⟩ := hn.shape
  obtain ⟨a3, c3, rfl, _, _⟩ := ht.shape
  clear hk hn ht
  have hA0 := (Below.refl w.heap.size w).alloc (Nat.le_refl _) (.cells #[.int .i64 o.kind, .int .i64 o.atN, .int .i64 o.atR, .int .i64 o.nodeN, .int .i64 o.nodeR, .int .i64 o.parN, .int .i64 o.parR, .slice a1 o.key.length c1, .int .i64 o.elem, .slice a2 o.name.length c2, .slice a3 o.text.length c3, .bool o.gone] 33)
  have l0 := Loc.made w #[.int .i64 o.kind, .int .i64 o.atN, .int .i64 o.atR, .int .i64 o.nodeN, .int .i64 o.nodeR, .int .i64 o.parN, .int .i64 o.parR, .slice a1 o.key.length c1, .int .i64 o.elem, .slice a2 o.name.length c2, .slice a3 o.text.length c3, .bool o.gone] 33
  have HO := hide (fun (W : World) (hW : Below w.heap.size w W) => opS_any W _ o (unhide HR W hW))
  have HB := hide (fun (W : World) (hW : Below w.heap.size w W) => bytesS_any W _ o (unhide HR W hW) hs)
  clear HR
  unfold opVal at HO HB
  unfold obV
  cases hb : opB o with
  | false =>
    rw [hb] at HO
    unfold opVal
    go_enter Try.func6, Try.ntmps6
    go_wp2_with fail
    refine (unhide HO _ hA0).mono ?_
    rintro e w1 ⟨rfl, hB⟩
    have hB1 := bstep hA0 hB
    clear hA0 hB HO HB l0 hb
    go_wp2_with fail
    go_ret2
    exact ⟨none, 0, rfl, own_nil2 _ _, hB1⟩
  | true =>
    rw [hb] at HO
    rw [if_pos rfl]
    generalize opBytes o = r at *
    unfold opVal
    go_enter Try.func6, Try.ntmps6
    go_wp2_with fail
    refine (unhide HO _ hA0).mono ?_
    rintro e w1 ⟨rfl, hB⟩
    have hB1 := bstep hA0 hB
    have l1 := l0.all hB
    clear hA0 hB HO l0 hb
    obtain ⟨x0, x1, x2, x3, x4, x5, x6, x7, x8, x9, x10, x11⟩ := l1.twelve
    go_wp2_with fail
    clear x0 x1 x2 x3 x4 x5 x6 x7 x8 x9 x10 x11
    refine (unhide HB _ hB1).mono ?_
    rintro e w2 ⟨a, c, rfl, ho, hB⟩
    have hB2 := bstep hB1 hB
    have ho2 := ho.mono (base' := w.heap.size) hB1.size
    clear hB HB l1 hB1 ho
    go_wp2_with fail
    go_ret2
    exact ⟨a, c, rfl, ho2, hB2⟩

theorem obV_len (o : OpV) : (obV o).length ≤ 1000 := by
  unfold obV
  cases hb : opB o with
  | false => simp
  | true =>
    rw [if_pos rfl]
    obtain ⟨_, ht, hc⟩ := opB_facts hb
    have hK : o.key.length ≤ 12 := by
      rcases hc with h | h | h | h
      · exact h.2.2.2.1.1
      · exact h.2.2.2.1.1
      · rw [h.2.2.2.1]; simp
      · rw [h.2.2.2.1]; simp
    have e0 := putAll_len [] o.kind
    have e1 := putId_len (putAll [] o.kind) o.atN o.atR
    unfold opBytes opHd
    have Ln : ([] : List Int).length = 0 := rfl
    generalize putId (putAll [] o.kind) o.atN o.atR = r at *
    have m1 := putId_len r o.nodeN o.nodeR
    have m2 := putId_len r o.parN o.parR
    have m3 := putId_len (putId r o.nodeN o.nodeR) o.parN o.parR
    have m4 := putKey_len (putId r o.parN o.parR) o.key
    have m5 := putKey_len (putId (putId r o.nodeN o.nodeR) o.parN o.parR) o.key
    have m6 := putAll_len (putKey (putId r o.parN o.parR) o.key) o.elem
    have m7 := putT_len (putAll (putKey (putId r o.parN o.parR) o.key) o.elem) o.name
    have m8 := putT_len (putT (putAll (putKey (putId r o.parN o.parR) o.key) o.elem) o.name) o.text
    have m9 := putT_len (putId r o.nodeN o.nodeR) o.text
    have m10 := putT_len (putId r o.nodeN o.nodeR) o.name
    have m11 := putAll_len (putT (putId r o.nodeN o.nodeR) o.name) 1
    have m12 := putAll_len (putT (putId r o.nodeN o.nodeR) o.name) 0
    have m13 := putT_len (putAll (putT (putId r o.nodeN o.nodeR) o.name) 0) o.text
    split
    · omega
    · split
      · omega
      · split
        · omega
        · split <;> omega

theorem OwOp.rngK {w : World} {base : Nat} {o : OpV} {k n t : Value} (h : OwOp w base o k n t) : Rng (FB k ++ FB n ++ FB t) base w.heap.size := (h.1.rng.app h.2.1.rng).app h.2.2.1.rng

set_option maxHeartbeats 6400000 in
theorem law_opbytes (w : World) (v : Value) (o : OpV) (h : RdOp w v o) :
    Calls Try.prog 3 #[v] w fun e w' => e = .returned (.bool true) ∧ Below w.heap.size w w' := by
  have h' := h
  obtain ⟨k, n, t, rfl, hk, hn, ht⟩ := h
  obtain ⟨a1, c1, rfl, _, _⟩ := hk.shape
  obtain ⟨a2, c2, rfl, _, _⟩ := hn.shape
  obtain ⟨a3, c3, rfl, _, _⟩ := ht.shape
  clear hk hn ht
  have HH := hide h'
  clear h'
  obtain ⟨nK, hnK⟩ : ∃ x, x = o.key.length := ⟨_, rfl⟩
  obtain ⟨nN, hnN⟩ : ∃ x, x = o.name.length := ⟨_, rfl⟩
  obtain ⟨nT, hnT⟩ : ∃ x, x = o.text.length := ⟨_, rfl⟩
  have HT := hide (fun w v h hs => toOp_own w v o h hs)
  have HZ := hide (fun w v left h h0 h1 => szOp_any w v o left h h0 h1)
  have HS := hide (fun w v (h : RdOp w v o) (hs : o.key.length ≤ 2097152) => bytesSO_any w v o h hs)
  have HL := hide (fun w v (h : RdOp w v o) (hs : o.key.length ≤ 2097152) => bytesI_any w v o h hs)
  have HM := hide (fun w base a1 a2 a3 c1 c2 c3 z h hs h0 h1 => markOp_any w base o a1 a2 a3 c1 c2 c3 z h hs h0 h1)
  obtain ⟨p, hp⟩ : ∃ p, p = obV o := ⟨_, rfl⟩
  obtain ⟨ok, hok⟩ : ∃ ok, ok = opB o := ⟨_, rfl⟩
  have hP : p.length ≤ 1000 := by rw [hp]; exact obV_len o
  rw [← hp, ← hok] at HS HL
  clear hp hok
  have hne : (ok != ok) = false := by simp
  have heq : (ok == ok) = true := by simp
  rw [← hnK, ← hnN, ← hnT] at HH HT HZ HM ⊢
  rw [← hnK] at HS HL
  clear hnK hnN hnT
  have hA : Below w.heap.size w (w.alloc (.cells #[.int .i64 o.kind, .int .i64 o.atN, .int .i64 o.atR, .int .i64 o.nodeN, .int .i64 o.nodeR, .int .i64 o.parN, .int .i64 o.parR, .slice a1 nK c1, .int .i64 o.elem, .slice a2 nN c2, .slice a3 nT c3, .bool o.gone] 27)) := (Below.refl _ _).alloc (Nat.le_refl _) _
  have l0 := Loc.made w #[.int .i64 o.kind, .int .i64 o.atN, .int .i64 o.atR, .int .i64 o.nodeN, .int .i64 o.nodeR, .int .i64 o.parN, .int .i64 o.parR, .slice a1 nK c1, .int .i64 o.elem, .slice a2 nN c2, .slice a3 nT c3, .bool o.gone] 27
  unfold opVal
  by_cases hbig : ((nK + nN + nT : Nat) : Int) ≤ 1048576
  · have hr : left4 (nK + nN + nT) 1048576 = 1048576 - ((nK + nN + nT : Nat) : Int) := left4_in hbig
    have hsz : nK + nN + nT ≤ 2097152 := by omega
    have hsk : nK ≤ 2097152 := by omega
    have hr1 : ¬ 1048576 - ((nK + nN + nT : Nat) : Int) < 0 := by omega
    go_enter Try.func3, Try.ntmps3
    go_wp2_with fail
    refine (unhide HZ _ _ 1048576 ((unhide HH).keep hA) (by omega) (by omega)).mono ?_
    rintro e w1 ⟨rfl, hB1⟩
    rw [hr]
    generalize 1048576 - ((nK + nN + nT : Nat) : Int) = r at *
    have hA1 := bstep hA hB1
    have l1 := l0.all hB1
    obtain ⟨x0, x1, x2, x3, x4, x5, x6, x7, x8, x9, x10, x11⟩ := l1.twelve
    go_wp2_with fail
    refine (unhide HT w1 _ ((unhide HH).keep hA1) hsz).mono ?_
    rintro e w2 ⟨b1, d1, b2, d2, b3, d3, rfl, ho2, hB2⟩
    have hA2 := bstep hA1 hB2
    have l2 := l1.all hB2
    clear x0 x1 x2 x3 x4 x5 x6 x7 x8 x9 x10 x11
    obtain ⟨x0, x1, x2, x3, x4, x5, x6, x7, x8, x9, x10, x11⟩ := l2.twelve
    go_wp2_with fail
    refine (unhide HS w2 _ ho2.rd hsk).mono ?_
    rintro e w3 ⟨u0, v0, rfl, hu3, hB3⟩
    have hA3 := bstep hA2 hB3
    have l3 := l2.all hB3
    clear x0 x1 x2 x3 x4 x5 x6 x7 x8 x9 x10 x11
    obtain ⟨x0, x1, x2, x3, x4, x5, x6, x7, x8, x9, x10, x11⟩ := l3.twelve
    go_wp2_with fail
    refine (unhide HT w3 _ ((unhide HH).keep hA3) hsz).mono ?_
    rintro e w4 ⟨a4, c4, a5, c5, a6, c6, rfl, ho4, hB4⟩
    have hA4 := bstep hA3 hB4
    have l4 := l3.all hB4
    clear x0 x1 x2 x3 x4 x5 x6 x7 x8 x9 x10 x11
    unfold opVal
    go_wp2_with fail
    have hB5 : Below w4.heap.size w4 (w4.alloc (.cells #[.int .i64 o.kind, .int .i64 o.atN, .int .i64 o.atR, .int .i64 o.nodeN, .int .i64 o.nodeR, .int .i64 o.parN, .int .i64 o.parR, .slice a4 nK c4, .int .i64 o.elem, .slice a5 nN c5, .slice a6 nT c6, .bool o.gone] 33)) := (Below.refl _ _).alloc (Nat.le_refl _) _
    have m5 := Loc.made w4 #[.int .i64 o.kind, .int .i64 o.atN, .int .i64 o.atR, .int .i64 o.nodeN, .int .i64 o.nodeR, .int .i64 o.parN, .int .i64 o.parR, .slice a4 nK c4, .int .i64 o.elem, .slice a5 nN c5, .slice a6 nT c6, .bool o.gone] 33
    generalize (w4.alloc (.cells #[.int .i64 o.kind, .int .i64 o.atN, .int .i64 o.atR, .int .i64 o.nodeN, .int .i64 o.nodeR, .int .i64 o.parN, .int .i64 o.parR, .slice a4 nK c4, .int .i64 o.elem, .slice a5 nN c5, .slice a6 nT c6, .bool o.gone] 33)) = w5 at *
    have hA5 := bstep hA4 hB5
    have hB5k := hB5
    have hu5 := (hu3.keep hB4).keep hB5
    have l5 := l4.all hB5
    have ho5 := ho4.keep hB5
    clear hB5
    generalize w4.heap.size = S at *
    refine (unhide HL w5 _ ho5.rd hsk).mono ?_
    rintro e w6 ⟨u6, v6, rfl, hg6, hB6⟩
    have hA6 := bstep hA5 hB6
    have l6 := l5.all hB6
    have m6 := m5.all hB6
    have ho6 := ho5.keep hB6
    obtain ⟨x0, x1, x2, x3, x4, x5, x6, x7, x8, x9, x10, x11⟩ := l6.twelve
    obtain ⟨y0, y1, y2, y3, y4, y5, y6, y7, y8, y9, y10, y11⟩ := m6.twelve
    go_wp2_with fail
    have hu6 := hu5.keep hB6
    refine (eqB_any w6 _ _ p p hg6.byt hu6.byt).mono ?_
    rintro e w6e ⟨rfl, hB6e⟩
    have hd : decide (p = p) = true := by simp
    rw [hd]
    clear hd
    have hA6e := bstep hA6 hB6e
    have l6e := l6.all hB6e
    have m6e := m6.all hB6e
    have ho6e := ho6.keep hB6e
    have hu6e := hu6.keep hB6e
    have hg6e := hg6.keep hB6e
    clear x0 x1 x2 x3 x4 x5 x6 x7 x8 x9 x10 x11 y0 y1 y2 y3 y4 y5 y6 y7 y8 y9 y10 y11
    obtain ⟨x0, x1, x2, x3, x4, x5, x6, x7, x8, x9, x10, x11⟩ := l6e.twelve
    obtain ⟨y0, y1, y2, y3, y4, y5, y6, y7, y8, y9, y10, y11⟩ := m6e.twelve
    go_wp2_with fail
    go_region_held3 (fun w' => w'.cell? ⟨w.heap.size, 0, none⟩ = some (.int .i64 o.kind) ∧ w'.cell? ⟨w.heap.size, 1, none⟩ = some (.int .i64 o.atN) ∧ w'.cell? ⟨w.heap.size, 2, none⟩ = some (.int .i64 o.atR) ∧ w'.cell? ⟨w.heap.size, 3, none⟩ = some (.int .i64 o.nodeN) ∧ w'.cell? ⟨w.heap.size, 4, none⟩ = some (.int .i64 o.nodeR) ∧ w'.cell? ⟨w.heap.size, 5, none⟩ = some (.int .i64 o.parN) ∧ w'.cell? ⟨w.heap.size, 6, none⟩ = some (.int .i64 o.parR) ∧ w'.cell? ⟨w.heap.size, 7, none⟩ = some (.slice a1 nK c1) ∧ w'.cell? ⟨w.heap.size, 8, none⟩ = some (.int .i64 o.elem) ∧ w'.cell? ⟨w.heap.size, 9, none⟩ = some (.slice a2 nN c2) ∧ w'.cell? ⟨w.heap.size, 10, none⟩ = some (.slice a3 nT c3) ∧ w'.cell? ⟨w.heap.size, 11, none⟩ = some (.bool o.gone) ∧ w'.cell? ⟨S, 0, none⟩ = some (.int .i64 o.kind) ∧ w'.cell? ⟨S, 1, none⟩ = some (.int .i64 o.atN) ∧ w'.cell? ⟨S, 2, none⟩ = some (.int .i64 o.atR) ∧ w'.cell? ⟨S, 3, none⟩ = some (.int .i64 o.nodeN) ∧ w'.cell? ⟨S, 4, none⟩ = some (.int .i64 o.nodeR) ∧ w'.cell? ⟨S, 5, none⟩ = some (.int .i64 o.parN) ∧ w'.cell? ⟨S, 6, none⟩ = some (.int .i64 o.parR) ∧ w'.cell? ⟨S, 7, none⟩ = some (.slice a4 nK c4) ∧ w'.cell? ⟨S, 8, none⟩ = some (.int .i64 o.elem) ∧ w'.cell? ⟨S, 9, none⟩ = some (.slice a5 nN c5) ∧ w'.cell? ⟨S, 10, none⟩ = some (.slice a6 nT c6) ∧ w'.cell? ⟨S, 11, none⟩ = some (.bool o.gone))
      (first | exact ⟨by assumption, by assumption, by assumption, by assumption, by assumption, by assumption, by assumption, by assumption, by assumption, by assumption, by assumption, by assumption, by assumption, by assumption, by assumption, by assumption, by assumption, by assumption, by assumption, by assumption, by assumption, by assumption, by assumption, by assumption⟩ | simp [*])
      (first | (go_at_call 7; refine (unhide HT _ _ ((unhide HH).keep (hA6e.drew)) hsz).mono ?_; rintro e w7 ⟨a7, c7, a8, c8, a9, c9, rfl, ho7, hB7⟩; obtain ⟨x0, x1, x2, x3, x4, x5, x6, x7, x8, x9, x10, x11⟩ := ((l6e.all ((Below.refl _ _).drew)).all hB7).twelve; obtain ⟨y0, y1, y2, y3, y4, y5, y6, y7, y8, y9, y10, y11⟩ := ((m6e.all ((Below.refl _ _).drew)).all hB7).twelve) | (go_at_call 10; refine (eqOp_same _ _ _ o ((ho6e.keep ((Below.refl _ _).drew)).keep hB7).rd ho7.rd).mono ?_; rintro e w8 ⟨rfl, hB8⟩; obtain ⟨x0, x1, x2, x3, x4, x5, x6, x7, x8, x9, x10, x11⟩ := (((l6e.all ((Below.refl _ _).drew)).all hB7).all hB8).twelve; obtain ⟨y0, y1, y2, y3, y4, y5, y6, y7, y8, y9, y10, y11⟩ := (((m6e.all ((Below.refl _ _).drew)).all hB7).all hB8).twelve))
    all_goals
      have hD8 := bstep (bstep (Below.drew (Below.refl w6e.heap.size w6e)) hB7) hB8
      have hA8 := bstep hA6e hD8
      have l8 := l6e.all hD8
      have m8 := m6e.all hD8
      have ho8 := ho6e.keep hD8
      have hu8 := hu6e.keep hD8
      have hg8 := hg6e.keep hD8
      clear hB7 hB8 hD8 ho7
      clear x0 x1 x2 x3 x4 x5 x6 x7 x8 x9 x10 x11 y0 y1 y2 y3 y4 y5 y6 y7 y8 y9 y10 y11
      obtain ⟨y0, y1, y2, y3, y4, y5, y6, y7, y8, y9, y10, y11⟩ := m8.twelve
      go_wp2_with fail
      clear y0 y1 y2 y3 y4 y5 y6 y7 y8 y9 y10 y11
      refine (unhide HM w8 _ _ _ _ _ _ _ 1 ho8 hsz (by omega) (by omega)).mono ?_
      rintro e w9 ⟨rfl, hmk9, hF9⟩
      have sz3 := hB3.size
      have hrS := ho4.rngK
      have hrS8 : ∀ g ∈ (FB (.slice a4 nK c4) ++ FB (.slice a5 nN c5) ++ FB (.slice a6 nT c6)), w3.heap.size ≤ g ∧ g < w4.heap.size := fun g hg => hrS g hg
      have hA9 : Below w.heap.size w w9 := ⟨hF9.os.trans hA8.os, hF9.tape.trans hA8.tape, hF9.output.trans hA8.output, Nat.le_trans hA8.size hF9.size, fun i hi => (hF9.block i (by have := hA8.size; omega) (fun hm => by have := (hrS8 i hm).1; have := hA3.size; omega)).trans (hA8.block i hi)⟩
      have l9 := l8.frm hF9 (fun hm => by have := (hrS8 _ hm).1; have := l3.lt; omega)
      have hu9 := hu8.frm hF9 (fun g hg hm => by have := (hrS8 g hm).1; have := hu3.rng g hg; omega)
      have hg9 := hg8.frm hF9 (fun g hg hm => by have := (hrS8 g hm).2; have := hg6.rng g hg; have := hB5k.size; omega)
      clear hrS hrS8 hmk9 hF9 hu8 hg8 ho8 l8 m8
      have hk0 : decide (1 + (nK : Int) + (nN : Int) + (nT : Int) < 0) = false := by simp; omega
      go_wp2_with fail
      refine (eqB_any w9 _ _ p p hg9.byt hu9.byt).mono ?_
      rintro e w10 ⟨rfl, hB10⟩
      have hd : decide (p = p) = true := by simp
      rw [hd]
      clear hd
      have hA10 := bstep hA9 hB10
      have l10 := l9.all hB10
      have hg10 := hg9.keep hB10
      have hu10 := hu9.keep hB10
      go_wp2_with fail
      refine (markB_any w10 _ _ p 1 hg10 (by omega) (by omega) (by omega)).mono ?_
      rintro e w11 ⟨rfl, hg11, hG11⟩
      have hwg : ∀ g, (Value.slice u6 p.length v6).ownBlock = some g → w5.heap.size ≤ g := fun g hg => (hg6.lt g hg).1
      have hA11 : Below w.heap.size w w11 := bstepBy hA10 hG11 (fun g hg => by have := hwg g hg; have := hA5.size; omega)
      have l11 := l10.frm (Frm.ofGrown hG11) (fun hm => by have := hwg _ (by simpa using hm); have := l5.lt; omega)
      have hu11 := hu10.keepBy hG11 (own_apart hu3 hg6 (by have := hB4.size; have := hB5k.size; omega))
      go_wp2_with fail
      refine (heldB_any w11 _ p.length 1 hg11.byt (by omega) (by omega) (by omega)).mono ?_
      rintro e w11' ⟨rfl, ew⟩
      obtain rfl := ew.symm
      clear ew
      have hq0 : decide ((1 + (p.length : Int)) < 0) = false := by simp; omega
      obtain ⟨x0, x1, x2, x3, x4, x5, x6, x7, x8, x9, x10, x11⟩ := l11.twelve
      go_wp2_with fail
      clear x0 x1 x2 x3 x4 x5 x6 x7 x8 x9 x10 x11
      refine (unhide HT w11 _ ((unhide HH).keep hA11) hsz).mono ?_
      rintro e w12 ⟨b1, d1, b2, d2, b3, d3, rfl, ho12, hB12⟩
      have hA12 := bstep hA11 hB12
      go_wp2_with fail
      refine (unhide HL w12 _ ho12.rd hsk).mono ?_
      rintro e w13 ⟨u13, v13, rfl, hh13, hB13⟩
      have hA13 := bstep hA12 hB13
      have hu13 := (hu11.keep hB12).keep hB13
      have hg13 := (hg11.keep hB12).keep hB13
      go_wp2_with fail
      refine (eqB_any w13 _ _ p p hh13.byt hu13.byt).mono ?_
      rintro e w14 ⟨rfl, hB14⟩
      have hd : decide (p = p) = true := by simp
      rw [hd]
      clear hd
      have hA14 := bstep hA13 hB14
      go_wp2_with fail
      refine (heldB_any w14 _ p.length 1 (hg13.keep hB14).byt (by omega) (by omega) (by omega)).mono ?_
      rintro e w15 ⟨rfl, rfl⟩
      go_wp2_with fail
      go_ret
      exact ⟨rfl, hA14⟩
  · have hr : left4 (nK + nN + nT) 1048576 = -1 := left4_out hbig
    go_enter Try.func3, Try.ntmps3
    go_wp2_with fail
    refine (unhide HZ _ _ 1048576 ((unhide HH).keep hA) (by omega) (by omega)).mono ?_
    rintro e w1 ⟨rfl, hB1⟩
    rw [hr]
    go_wp2
    go_ret
    exact ⟨rfl, bstep hA hB1⟩

end Go.Proofs.Ytjannojebngoeab
