/- spec.GetText and impl.GetText answer what the plain function getT says. -/
import Derived.Test.YtfblgdhbkakhcaaTextM
import Derived.Test.YtfblgdhbkakhcaaCat
import Derived.Test.YtfblgdhbkakhcaaGetS
import Derived.Test.YtfblgdhbkakhcaaGetI
namespace Go.Proofs.Ytfblgdhbkakhcaa
open Go.RowKit
set_option linter.unusedVariables false

set_option maxHeartbeats 1600000 in
theorem getTS_out (w : World) (v : Value) (l : List Int) (p : Int) (h : Byt w v l) (hp : p ≤ 9223372036854775807) (ho : (getN l p).2 < 0 ∨ 30 < (getN l p).1 ∨ (l.length : Int) - (getN l p).2 < (getN l p).1) (hr : -1 ≤ (getN l p).2 ∧ (getN l p).2 ≤ 9223372036854775807) :
    Calls Try.prog 23 #[v, .int .i64 p] w fun e w' => e = .returned (.tuple #[.slice none 0 0, .int .i64 (-1)]) ∧ w' = w := by
  obtain ⟨a, cap, rfl, hlc, hcm⟩ := h.shape
  have hm := h.2.1
  unfold maxLen at hm
  go_enter Try.func23, Try.ntmps23
  go_wp2_with fail
  refine (getS_any w _ l p h hp).mono ?_
  rintro e w1 ⟨rfl, rfl⟩
  generalize (getN l p).1 = n at *
  generalize (getN l p).2 = k at *
  obtain ⟨hk0, hk1⟩ := hr
  by_cases h1 : k < 0
  · clear ho
    go_wp2
    go_ret2
    exact ⟨rfl, rfl⟩
  · have h1' : decide (k < 0) = false := by simpa using h1
    by_cases h2 : 30 < n
    · clear ho
      go_wp2
      go_ret2
      exact ⟨rfl, rfl⟩
    · have h2' : decide (30 < n) = false := by simpa using h2
      have h3 : (l.length : Int) - k < n := by omega
      clear ho
      go_wp2
      go_ret2
      exact ⟨rfl, rfl⟩

set_option maxHeartbeats 1600000 in
theorem getTS_in (w : World) (b off cap : Nat) (l : List Int) (p : Int) (n k : Nat) (hok : okB l) (hm : l.length ≤ maxLen) (hlc : l.length ≤ cap) (hcm : cap ≤ maxLen) (h : Byt w (.slice (some ⟨b, off, none⟩) l.length cap) l) (hb : b < w.heap.size)
    (hc : ∀ i, i < l.length → w.cell? ⟨b, off + i, none⟩ = some (.int .u8 (l.getD i 0)))
    (hp : p ≤ 9223372036854775807) (e : getN l p = ((n : Int), (k : Int))) (h1 : n ≤ 30) (h2 : k + n ≤ l.length) :
    Calls Try.prog 23 #[.slice (some ⟨b, off, none⟩) l.length cap, .int .i64 p] w fun e w' => ∃ v', e = .returned (.tuple #[v', .int .i64 ((k : Int) + (n : Int))]) ∧ Own w' w.heap.size v' ((l.drop k).take n) ∧ Below w.heap.size w w' := by
  have hm' := hm
  have hcm' := hcm
  unfold maxLen at hm' hcm'
  have HE := hide e
  clear e
  by_cases hck : cap = k
  · obtain rfl : n = 0 := by omega
    have hlk : l.length = k := by omega
    have HCK := hide hck
    have HLK := hide hlk
    clear hck hlk
    go_enter Try.func23, Try.ntmps23
    go_wp2_with fail
    refine (getS_any w _ l p h hp).mono ?_
    rintro e w1 ⟨rfl, rfl⟩
    rw [unhide HE]
    have a1 : ¬ (k : Int) < 0 := by omega
    have a2 : ¬ (30 : Int) < ((0 : Nat) : Int) := by omega
    have a3 : ¬ (l.length : Int) - (k : Int) < ((0 : Nat) : Int) := by omega
    have hck := unhide HCK
    clear hc
    go_wp2
    go_ret2
    exact ⟨.slice (some ⟨w1.heap.size, 0, none⟩) 0 0, by simp, by simpa using own_none w1, (Below.refl _ _).alloc (Nat.le_refl _) _⟩
  · have hcut := (Byt.cut2 hok hm h2 hlc hcm hb hc)
    have hml : ((l.drop k).take n).length = n := by simp; omega
    go_enter Try.func23, Try.ntmps23
    go_wp2_with fail
    refine (getS_any w _ l p h hp).mono ?_
    rintro e w1 ⟨rfl, rfl⟩
    rw [unhide HE]
    have a1 : ¬ (k : Int) < 0 := by omega
    have a2 : ¬ (30 : Int) < (n : Int) := by omega
    have a3 : ¬ (l.length : Int) - (k : Int) < (n : Int) := by omega
    generalize hmm : (l.drop k).take n = m at *
    have HM := hide hmm
    have HML := hide hml
    clear hc hmm hml
    go_wp2_with (at_builtin; refine wpList_app rfl _ _ rfl w1.heap.size _ [] rfl (own_none w1) (.slice (some ⟨b, off + k, none⟩) n (cap - k)) m ?hx (hcut.alloc _) ?c1 ?c2 ?_)
    case hx => show Value.slice (some ⟨b, off + k, none⟩) (k + n - k) (cap - k) = _; rw [Nat.add_sub_cancel_left]
    case c1 => have := unhide HML; first | omega | (simp; omega)
    case c2 => simp
    intro v1 w2 ho1 hg1
    have hB1 : Below w1.heap.size w1 w2 := bstepBy ((Below.refl _ _).alloc (Nat.le_refl _) _) hg1 (fun g hg => by simp [Value.ownBlock] at hg; omega)
    clear hg1
    go_wp2
    go_ret2
    exact ⟨_, rfl, by rw [unhide HM]; exact ho1, hB1⟩

/-- spec.GetText, whatever it is asked. -/
theorem getTS_any (w : World) (v : Value) (l : List Int) (p : Int) (h : Byt w v l) (hp : p ≤ 9223372036854775807) :
    Calls Try.prog 23 #[v, .int .i64 p] w fun e w' => ∃ v', e = .returned (.tuple #[v', .int .i64 (getT l p).2]) ∧ Own w' w.heap.size v' (getT l p).1 ∧ Below w.heap.size w w' := by
  have hm := h.2.1
  have hm' := hm
  unfold maxLen at hm'
  have hcs := getN_cases h.1 p
  by_cases ho : (getN l p).2 < 0 ∨ 30 < (getN l p).1 ∨ (l.length : Int) - (getN l p).2 < (getN l p).1
  · rw [getT_out ho]
    refine (getTS_out w v l p h hp ho ?_).mono ?_
    · rcases hcs with e | ⟨n, k, e, _, _, h3⟩ <;> rw [e] <;> simp only <;> omega
    · rintro e w' ⟨rfl, rfl⟩
      exact ⟨_, rfl, ⟨okB_nil, World.ownsRow_nil _ _ _ _⟩, Below.refl _ _⟩
  · rcases hcs with e | ⟨n, k, e, h1, h2, h3⟩
    · rw [e] at ho; simp at ho
    · rw [e] at ho
      simp only at ho
      rw [getT_in e (by omega) (by omega)]
      have h' := h
      obtain ⟨hok, _, ⟨rfl, rfl⟩ | ⟨x, cap, rfl, hc, rfl⟩ | ⟨b, off, cap, rfl, g1, g2, g3, g4, g5⟩⟩ := h'
      · simp at h3; omega
      · simp at h3; omega
      · exact getTS_in w b off cap l p n k hok hm g1 g2 h g4 g5 hp e (by omega) (by omega)

set_option maxHeartbeats 1600000 in
theorem getTI_out (w : World) (v : Value) (l : List Int) (p : Int) (h : Byt w v l) (ho : (getN l p).2 < 0 ∨ 30 < (getN l p).1 ∨ (l.length : Int) - (getN l p).2 < (getN l p).1) (hr : -1 ≤ (getN l p).2 ∧ (getN l p).2 ≤ 9223372036854775807) :
    Calls Try.prog 13 #[v, .int .i64 p] w fun e w' => e = .returned (.tuple #[.slice none 0 0, .int .i64 (-1)]) ∧ w' = w := by
  obtain ⟨a, cap, rfl, hlc, hcm⟩ := h.shape
  have hm := h.2.1
  unfold maxLen at hm
  go_enter Try.func13, Try.ntmps13
  go_wp2_with fail
  refine (getI_any w _ l p h).mono ?_
  rintro e w1 ⟨rfl, rfl⟩
  generalize (getN l p).1 = n at *
  generalize (getN l p).2 = k at *
  obtain ⟨hk0, hk1⟩ := hr
  by_cases h1 : k < 0
  · clear ho
    go_wp2
    go_ret2
    exact ⟨rfl, rfl⟩
  · have h1' : decide (k < 0) = false := by simpa using h1
    by_cases h2 : 30 < n
    · clear ho
      go_wp2
      go_ret2
      exact ⟨rfl, rfl⟩
    · have h2' : decide (30 < n) = false := by simpa using h2
      have h3 : (l.length : Int) - k < n := by omega
      clear ho
      go_wp2
      go_ret2
      exact ⟨rfl, rfl⟩

set_option maxHeartbeats 1600000 in
theorem getTI_in (w : World) (b off cap : Nat) (l : List Int) (p : Int) (n k : Nat) (hok : okB l) (hm : l.length ≤ maxLen) (hlc : l.length ≤ cap) (hcm : cap ≤ maxLen) (h : Byt w (.slice (some ⟨b, off, none⟩) l.length cap) l) (hb : b < w.heap.size)
    (hc : ∀ i, i < l.length → w.cell? ⟨b, off + i, none⟩ = some (.int .u8 (l.getD i 0)))
    (e : getN l p = ((n : Int), (k : Int))) (h1 : n ≤ 30) (h2 : k + n ≤ l.length) :
    Calls Try.prog 13 #[.slice (some ⟨b, off, none⟩) l.length cap, .int .i64 p] w fun e w' => ∃ v', e = .returned (.tuple #[v', .int .i64 ((k : Int) + (n : Int))]) ∧ Own w' w.heap.size v' ((l.drop k).take n) ∧ Below w.heap.size w w' := by
  have hm' := hm
  have hcm' := hcm
  unfold maxLen at hm' hcm'
  have HE := hide e
  clear e
  have hml : ((l.drop k).take n).length = n := by simp; omega
  obtain ⟨cv, hcv⟩ : ∃ cv, cv = (if cap = k then Value.slice (some ⟨b, off, none⟩) n 0 else .slice (some ⟨b, off + k, none⟩) n (cap - k)) := ⟨_, rfl⟩
  have hcut : Byt w cv ((l.drop k).take n) := by
    rw [hcv]
    split
    · obtain rfl : n = 0 := by omega
      exact ⟨by simpa using okB_nil, by simp [maxLen], .inr (.inl ⟨_, 0, rfl, by simp [maxLen], by simp⟩)⟩
    · exact Byt.cut2 hok hm h2 hlc hcm hb hc
  have hcat := concat_any (w.alloc (.cells #[cv] 22)) w.heap.size 0 1 1 [cv] [(l.drop k).take n] rfl (by omega) (by simp) (fun i hi => by obtain rfl : i = 0 := (by omega); simp) (fun i hi => by obtain rfl : i = 0 := (by omega); exact hcut.alloc _) (by simp only [sumLen, List.map_cons, List.map_nil, List.sum_cons, List.sum_nil]; omega)
  by_cases hck : cap = k
  · rw [if_pos hck] at hcv
    have HCK := hide hck
    clear hck
    subst hcv
    go_enter Try.func13, Try.ntmps13
    go_wp2_with fail
    refine (getI_any w _ l p h).mono ?_
    rintro e w1 ⟨rfl, rfl⟩
    rw [unhide HE]
    have a1 : ¬ (k : Int) < 0 := by omega
    have a2 : ¬ (30 : Int) < (n : Int) := by omega
    have a3 : ¬ (l.length : Int) - (k : Int) < (n : Int) := by omega
    have hck := unhide HCK
    clear hc
    have hml' := hide hml
    clear hml
    go_wp2_with fail
    refine hcat.mono ?_
    rintro e w2 ⟨v1, rfl, ho1, hB1⟩
    have hb1 : Below w1.heap.size w1 w2 := bstep ((Below.refl _ _).alloc (Nat.le_refl _) _) hB1
    have ho2 : Own w2 w1.heap.size v1 ((l.drop k).take n) := by simpa using ho1.mono (by simp)
    have HO := hide ho2
    clear hB1 hcat ho1 ho2 hcut
    go_wp2
    go_ret2
    exact ⟨_, rfl, unhide HO, hb1⟩
  · rw [if_neg hck] at hcv
    subst hcv
    go_enter Try.func13, Try.ntmps13
    go_wp2_with fail
    refine (getI_any w _ l p h).mono ?_
    rintro e w1 ⟨rfl, rfl⟩
    rw [unhide HE]
    have a1 : ¬ (k : Int) < 0 := by omega
    have a2 : ¬ (30 : Int) < (n : Int) := by omega
    have a3 : ¬ (l.length : Int) - (k : Int) < (n : Int) := by omega
    clear hc
    have hml' := hide hml
    clear hml
    go_wp2_with fail
    refine hcat.mono ?_
    rintro e w2 ⟨v1, rfl, ho1, hB1⟩
    have hb1 : Below w1.heap.size w1 w2 := bstep ((Below.refl _ _).alloc (Nat.le_refl _) _) hB1
    have ho2 : Own w2 w1.heap.size v1 ((l.drop k).take n) := by simpa using ho1.mono (by simp)
    have HO := hide ho2
    clear hB1 hcat ho1 ho2 hcut
    go_wp2
    go_ret2
    exact ⟨_, rfl, unhide HO, hb1⟩

/-- impl.GetText, whatever it is asked. -/
theorem getTI_any (w : World) (v : Value) (l : List Int) (p : Int) (h : Byt w v l) :
    Calls Try.prog 13 #[v, .int .i64 p] w fun e w' => ∃ v', e = .returned (.tuple #[v', .int .i64 (getT l p).2]) ∧ Own w' w.heap.size v' (getT l p).1 ∧ Below w.heap.size w w' := by
  have hm := h.2.1
  have hm' := hm
  unfold maxLen at hm'
  have hcs := getN_cases h.1 p
  by_cases ho : (getN l p).2 < 0 ∨ 30 < (getN l p).1 ∨ (l.length : Int) - (getN l p).2 < (getN l p).1
  · rw [getT_out ho]
    refine (getTI_out w v l p h ho ?_).mono ?_
    · rcases hcs with e | ⟨n, k, e, _, _, h3⟩ <;> rw [e] <;> simp only <;> omega
    · rintro e w' ⟨rfl, rfl⟩
      exact ⟨_, rfl, ⟨okB_nil, World.ownsRow_nil _ _ _ _⟩, Below.refl _ _⟩
  · rcases hcs with e | ⟨n, k, e, h1, h2, h3⟩
    · rw [e] at ho; simp at ho
    · rw [e] at ho
      simp only at ho
      rw [getT_in e (by omega) (by omega)]
      have h' := h
      obtain ⟨hok, _, ⟨rfl, rfl⟩ | ⟨x, cap, rfl, hc, rfl⟩ | ⟨b, off, cap, rfl, g1, g2, g3, g4, g5⟩⟩ := h'
      · simp at h3; omega
      · simp at h3; omega
      · exact getTI_in w b off cap l p n k hok hm g1 g2 h g4 g5 e (by omega) (by omega)

end Go.Proofs.Ytfblgdhbkakhcaa
