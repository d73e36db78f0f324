/- impl.putNums, impl.putIds, impl.putKey and impl.putValue, by their contracts. -/
import Derived.Test.YtjannojebngoeabPutOS
import Derived.Test.YtjannojebngoeabPutI
namespace Go.Proofs.Ytjannojebngoeab
open Go.RowKit
set_option linter.unusedVariables false
set_option maxRecDepth 100000

theorem own_nil' (w : World) (base : Nat) : Own w base (.slice none 0 0) [] := ⟨okB_nil, rfl, .inl ⟨rfl, rfl⟩⟩
theorem putI_own (w : World) (v : Value) (l : List Int) (n : Int) (h : Byt w v l) (hl : l.length ≤ 60000000) :
    Calls Try.prog 57 #[v, .int .i64 n] w fun e w' => ∃ a c, e = .returned (.slice a (putAll l n).length c) ∧ Own w' w.heap.size (.slice a (putAll l n).length c) (putAll l n) ∧ Below w.heap.size w w' := by
  refine (putI_any w v l n h (by omega)).mono ?_
  rintro e w' ⟨v', rfl, ho, hB⟩
  obtain ⟨a, c, rfl, _, _⟩ := ho.byt.shape
  exact ⟨a, c, rfl, ho, hB⟩

set_option maxHeartbeats 3200000 in
theorem putNums_any (w : World) (base : Nat) (v u : Value) (l k : List Int) (h : Own w base v l) (hb : base ≤ w.heap.size) (hu : Ints w u k) (hl : l.length ≤ 20000000) (hk : k.length ≤ 2097152) :
    Calls Try.prog 26 #[v, u] w fun e w' => ∃ a c, e = .returned (.slice a (putNs l k).length c) ∧ Own w' base (.slice a (putNs l k).length c) (putNs l k) ∧ Below w.heap.size w w' := by
  have HU := hide hu
  obtain ⟨a1, c1, rfl, _, _⟩ := h.byt.shape
  obtain ⟨a', c', rfl, _, _⟩ := hu.shape
  clear hu
  go_enter Try.func26, Try.ntmps26
  go_wp2_with fail
  go_loopw [0, 9] (fun b i wr => ∃ (j : Nat) (a2 : Option Addr) (c2 : Nat), j ≤ k.length ∧ i = .int .i64 j ∧ b = .slice a2 (putNs l (k.take j)).length c2 ∧ Own wr base (.slice a2 (putNs l (k.take j)).length c2) (putNs l (k.take j)) ∧ Below w.heap.size w wr) (fun _ i _ => k.length - (intOf i).toNat)
  case atStart => exact ⟨0, a1, c1, Nat.zero_le _, rfl, rfl, h, Below.refl _ _⟩
  case round =>
    obtain ⟨j, a2, c2, hj, rfl, rfl, ho, hB⟩ := hrel
    clear h
    by_cases hlt : j < k.length
    · have HS := hide (putNs_step l k j hlt)
      have hq := putNs_len l (k.take j)
      rw [List.length_take, Nat.min_eq_left hj] at hq
      generalize hpt : putNs l (k.take j) = lj at *
      clear hpt
      have hlt' : (j : Int) < (k.length : Int) := by omega
      obtain ⟨x, hx⟩ : ∃ x, x = k.getD j 0 := ⟨_, rfl⟩
      rw [← hx] at HS
      obtain ⟨hok, hm, ⟨_, e⟩ | ⟨_, _, _, _, e⟩ | ⟨b, off, cap, e, h1, h2, h3, h4, h5⟩⟩ := (unhide HU).keep hB
      · rw [e] at hlt; simp at hlt
      · rw [e] at hlt; simp at hlt
      have e1 : a' = some ⟨b, off, none⟩ := by injection e
      have hcx := h5 j hlt
      rw [← hx] at hcx
      clear hx h5 e HU
      subst e1
      go_wp2_with fail
      refine (putI_own wr _ lj x ho.byt (by omega)).mono ?_
      rintro e w2 ⟨a3, c3, rfl, ho3, hB3⟩
      rw [← unhide HS] at ho3 ⊢
      go_wp2_with fail
      go_roundw
      case rel => exact ⟨j + 1, a3, c3, by omega, by go_num, rfl, ho3.mono (by have := hB.size; omega), bstep hB hB3⟩
      case measure => simp [intOf]; omega
    · obtain rfl : j = k.length := by omega
      have HE := hide (show putNs l (k.take k.length) = putNs l k by rw [List.take_of_length_le (Nat.le_refl _)])
      rw [unhide HE] at ho ⊢
      clear HE
      go_wp2_with fail
      go_ret
      exact ⟨a2, c2, rfl, ho, hB⟩

/-- Ids, one behind the other. -/
def putIdL (l : List Int) : List (Int × Int) → List Int
  | [] => l
  | x :: t => putIdL (putId l x.1 x.2) t
theorem putIdL_step (l : List Int) (t : List (Int × Int)) (j : Nat) (h : j < t.length) : putIdL l (t.take (j + 1)) = putId (putIdL l (t.take j)) (t[j]).1 (t[j]).2 := by
  induction t generalizing l j with
  | nil => simp at h
  | cons x t ih =>
    cases j with
    | zero => simp [putIdL]
    | succ j =>
      rw [List.take_succ_cons, List.take_succ_cons, putIdL, putIdL, ih _ j (by simpa using h)]
      simp
theorem putIdL_len (l : List Int) (t : List (Int × Int)) : (putIdL l t).length ≤ l.length + 10 * t.length := by
  induction t generalizing l with
  | nil => simp [putIdL]
  | cons x t ih =>
    rw [putIdL, List.length_cons]
    have := ih (putId l x.1 x.2)
    have := putId_len l x.1 x.2
    omega
theorem putId_two (l : List Int) (n r : Int) : putNs l [n, r] = putId l n r := rfl
theorem ints_two (w : World) (n r : Int) (h : okZ [n, r]) : Ints (w.alloc (.cells #[.int .i64 n, .int .i64 r] 3)) (.slice (some ⟨w.heap.size, 0, none⟩) 2 2) [n, r] := by
  refine ⟨h, by simp [maxLen], .inr (.inr ⟨w.heap.size, 0, 2, rfl, by simp, by simp [maxLen], by simp, by simp, fun i hi => ?_⟩)⟩
  have : i = 0 ∨ i = 1 := by simp at hi; omega
  rcases this with rfl | rfl <;> simp

set_option maxHeartbeats 3200000 in
theorem putIds_any (w : World) (base : Nat) (v : Value) (l : List Int) (t : List (Int × Int)) (b off cap : Nat) (h : Own w base v l) (hb : base ≤ w.heap.size) (hl : l.length ≤ 10000000) (hk : t.length ≤ 1000)
    (hw : b < w.heap.size) (hz : ∀ x ∈ t, okZ [x.1, x.2]) (h0 : ∀ j (hj : j < t.length), w.cell? ⟨b, off + j * 2, none⟩ = some (.int .i64 (t[j]).1)) (h1 : ∀ j (hj : j < t.length), w.cell? ⟨b, off + j * 2 + 1, none⟩ = some (.int .i64 (t[j]).2)) :
    Calls Try.prog 25 #[v, .slice (some ⟨b, off, none⟩) t.length cap] w fun e w' => ∃ a c, e = .returned (.slice a (putIdL l t).length c) ∧ Own w' base (.slice a (putIdL l t).length c) (putIdL l t) ∧ Below w.heap.size w w' := by
  obtain ⟨a1, c1, rfl, _, _⟩ := h.byt.shape
  go_enter Try.func25, Try.ntmps25
  go_wp2_with fail
  go_loopw [0, 9] (fun b i wr => ∃ (j : Nat) (a2 : Option Addr) (c2 : Nat), j ≤ t.length ∧ i = .int .i64 j ∧ b = .slice a2 (putIdL l (t.take j)).length c2 ∧ Own wr base (.slice a2 (putIdL l (t.take j)).length c2) (putIdL l (t.take j)) ∧ Below w.heap.size w wr) (fun _ i _ => t.length - (intOf i).toNat)
  case atStart => exact ⟨0, a1, c1, Nat.zero_le _, rfl, rfl, h, Below.refl _ _⟩
  case round =>
    obtain ⟨j, a2, c2, hj, rfl, rfl, ho, hB⟩ := hrel
    clear h
    by_cases hlt : j < t.length
    · have HS := hide (putIdL_step l t j hlt)
      have hq := putIdL_len l (t.take j)
      rw [List.length_take, Nat.min_eq_left hj] at hq
      generalize hpt : putIdL l (t.take j) = lj at *
      clear hpt
      have hlt' : (j : Int) < (t.length : Int) := by omega
      have hzj := hz _ (List.getElem_mem hlt)
      have x0 : wr.cell? ⟨b, off + j * 2, none⟩ = some (.int .i64 (t[j]).1) := (hB.cell (p := ⟨b, off + j * 2, none⟩) hw).trans (h0 j hlt)
      have x1 : wr.cell? ⟨b, off + j * 2 + 1, none⟩ = some (.int .i64 (t[j]).2) := (hB.cell (p := ⟨b, off + j * 2 + 1, none⟩) hw).trans (h1 j hlt)
      generalize (t[j]).1 = n at *
      generalize (t[j]).2 = r at *
      clear h0 h1 hz
      go_wp2_with fail
      have hi : Ints ((wr.alloc (.cells #[.int .i64 n, .int .i64 r] 31)).alloc (.cells #[.int .i64 n, .int .i64 r] 3)) (.slice (some ⟨wr.heap.size + 1, 0, none⟩) 2 2) [n, r] := by
        have h := ints_two (wr.alloc (.cells #[.int .i64 n, .int .i64 r] 31)) n r hzj
        rw [show (wr.alloc (.cells #[.int .i64 n, .int .i64 r] 31)).heap.size = wr.heap.size + 1 by simp] at h
        exact h
      have hB2 := ((Below.refl wr.heap.size wr).alloc (Nat.le_refl _) (.cells #[.int .i64 n, .int .i64 r] 31)).alloc (by simp) (.cells #[.int .i64 n, .int .i64 r] 3)
      refine (putNums_any _ base _ _ lj [n, r] (ho.keep hB2) (by have := hB.size; have := hB2.size; omega) hi (by omega) (by simp)).mono ?_
      rintro e w2 ⟨a3, c3, rfl, ho3, hB3⟩
      have hB4 := bstep hB2 hB3
      clear hB2 hB3 hi
      rw [putId_two, ← unhide HS] at ho3 ⊢
      go_wp2_with fail
      go_roundw
      case rel => exact ⟨j + 1, a3, c3, by omega, by go_num, rfl, ho3, bstep hB hB4⟩
      case measure => simp [intOf]; omega
    · obtain rfl : j = t.length := by omega
      have HE := hide (show putIdL l (t.take t.length) = putIdL l t by rw [List.take_of_length_le (Nat.le_refl _)])
      rw [unhide HE] at ho ⊢
      clear HE
      go_wp2_with fail
      go_ret
      exact ⟨a2, c2, rfl, ho, hB⟩

theorem ints_one (w : World) (n : Int) (h : okZ [n]) : Ints (w.alloc (.cells #[.int .i64 n] 3)) (.slice (some ⟨w.heap.size, 0, none⟩) 1 1) [n] := by
  refine ⟨h, by simp [maxLen], .inr (.inr ⟨w.heap.size, 0, 1, rfl, by simp, by simp [maxLen], by simp, by simp, fun i hi => ?_⟩)⟩
  have : i = 0 := by simpa using hi
  subst this
  simp
theorem okZ_in {n : Int} (h : inR n) : okZ [n] := okZ.one (by have := h.1; omega) (by have := h.2; omega)
theorem okZ_in2 {n r : Int} (h : inR n) (k : inR r) : okZ [n, r] := (okZ_in h).app (okZ_in k)

/-- One number more. -/
theorem putNum1 (w : World) (base : Nat) (v : Value) (l : List Int) (n : Int) (h : Own w base v l) (hb : base ≤ w.heap.size) (hn : inR n) (hl : l.length ≤ 20000000) :
    Calls Try.prog 26 #[v, .slice (some ⟨w.heap.size, 0, none⟩) 1 1] (w.alloc (.cells #[.int .i64 n] 3)) fun e w' => ∃ a c, e = .returned (.slice a (putAll l n).length c) ∧ Own w' base (.slice a (putAll l n).length c) (putAll l n) ∧ Below w.heap.size w w' := by
  have hB2 := (Below.refl w.heap.size w).alloc (Nat.le_refl _) (.cells #[.int .i64 n] 3)
  refine (putNums_any _ base _ _ l [n] (h.keep hB2) (by have := hB2.size; omega) (ints_one w n (okZ_in hn)) hl (by simp)).mono ?_
  rintro e w' ⟨a, c, rfl, ho, hB⟩
  exact ⟨a, c, rfl, ho, bstep hB2 hB⟩

set_option maxHeartbeats 3200000 in
theorem putKey_any (w : World) (base : Nat) (v u : Value) (l k : List Int) (h : Own w base v l) (hb : base ≤ w.heap.size) (hu : Ints w u k) (hl : l.length ≤ 10000000) (hk : k.length ≤ 2097152) :
    Calls Try.prog 27 #[v, u] w fun e w' => ∃ a c, e = .returned (.slice a (putKey l k).length c) ∧ Own w' base (.slice a (putKey l k).length c) (putKey l k) ∧ Below w.heap.size w w' := by
  have hp := putAll_len l (k.length : Int)
  have H1 := hide (putNum1 w base v l (k.length : Int) h hb ⟨by omega, by omega⟩ (by omega))
  have HU := hide hu
  obtain ⟨a1, c1, rfl, _, _⟩ := h.byt.shape
  obtain ⟨a', c', rfl, _, _⟩ := hu.shape
  clear h hu
  unfold putKey
  generalize putAll l (k.length : Int) = lp at *
  go_enter Try.func27, Try.ntmps27
  go_wp2_with fail
  refine (unhide H1).mono ?_
  clear H1
  rintro e w1 ⟨a2, c2, rfl, ho, hB⟩
  go_wp2_with fail
  refine (putNums_any w1 base _ _ lp k ho (by have := hB.size; omega) ((unhide HU).keep hB) (by omega) hk).mono ?_
  rintro e w2 ⟨a3, c3, rfl, ho3, hB3⟩
  have hB4 := bstep hB hB3
  clear ho hB hB3
  go_wp2_with fail
  go_ret
  exact ⟨a3, c3, rfl, ho3, hB4⟩

theorem putTI_own (w : World) (v u : Value) (l t : List Int) (h : Byt w v l) (hu : Byt w u t) (hl : l.length ≤ 60000000) :
    Calls Try.prog 28 #[v, u] w fun e w' => ∃ a c, e = .returned (.slice a (putT l t).length c) ∧ Own w' w.heap.size (.slice a (putT l t).length c) (putT l t) ∧ Below w.heap.size w w' := by
  refine (putTI_any w v u l t h hu hl).mono ?_
  rintro e w' ⟨v', rfl, ho, hB⟩
  obtain ⟨a, c, rfl, _, _⟩ := ho.byt.shape
  exact ⟨a, c, rfl, ho, hB⟩
theorem putTS_own (w : World) (v u : Value) (l t : List Int) (h : Byt w v l) (hu : Byt w u t) (hl : l.length ≤ 60000000) :
    Calls Try.prog 48 #[v, u] w fun e w' => ∃ a c, e = .returned (.slice a (putT l t).length c) ∧ Own w' w.heap.size (.slice a (putT l t).length c) (putT l t) ∧ Below w.heap.size w w' := by
  refine (putTS_any w v u l t h hu hl).mono ?_
  rintro e w' ⟨v', rfl, ho, hB⟩
  obtain ⟨a, c, rfl, _, _⟩ := ho.byt.shape
  exact ⟨a, c, rfl, ho, hB⟩

def putVal (l t : List Int) (gone : Bool) : List Int := if gone then putAll l 1 else putT (putAll l 0) t
set_option maxHeartbeats 3200000 in
theorem putVal_any (w : World) (base : Nat) (v u : Value) (l t : List Int) (gone : Bool) (h : Own w base v l) (hb : base ≤ w.heap.size) (hu : Byt w u t) (hl : l.length ≤ 10000000) :
    Calls Try.prog 29 #[v, u, .bool gone] w fun e w' => ∃ a c, e = .returned (.slice a (putVal l t gone).length c) ∧ Own w' base (.slice a (putVal l t gone).length c) (putVal l t gone) ∧ Below w.heap.size w w' := by
  have H1 := hide (fun n hn => putNum1 w base v l n h hb hn (by omega))
  have HU := hide hu
  obtain ⟨a1, c1, rfl, _, _⟩ := h.byt.shape
  obtain ⟨a', c', rfl, _, _⟩ := hu.shape
  clear h hu
  cases gone
  · have hp := putAll_len l 0
    unfold putVal
    rw [if_neg (by decide)]
    have H2 := hide (unhide H1 0 ⟨by decide, by decide⟩)
    clear H1
    generalize putAll l 0 = lp at *
    go_enter Try.func29, Try.ntmps29
    go_wp2_with fail
    refine (unhide H2).mono ?_
    clear H2
    rintro e w1 ⟨a2, c2, rfl, ho, hB⟩
    go_wp2_with fail
    refine (putTI_own w1 _ _ lp t ho.byt ((unhide HU).keep hB) (by omega)).mono ?_
    rintro e w2 ⟨a3, c3, rfl, ho3, hB3⟩
    have hB4 := bstep hB hB3
    have ho4 := ho3.mono (base' := base) (by have := hB.size; omega)
    clear ho hB hB3 ho3
    go_wp2_with fail
    go_ret
    exact ⟨a3, c3, rfl, ho4, hB4⟩
  · unfold putVal
    rw [if_pos rfl]
    have H2 := hide (unhide H1 1 ⟨by decide, by decide⟩)
    clear H1
    generalize putAll l 1 = lp at *
    go_enter Try.func29, Try.ntmps29
    go_wp2_with fail
    refine (unhide H2).mono ?_
    clear H2
    rintro e w1 ⟨a2, c2, rfl, ho, hB⟩
    go_wp2_with fail
    go_ret
    exact ⟨a2, c2, rfl, ho, hB⟩
end Go.Proofs.Ytjannojebngoeab
