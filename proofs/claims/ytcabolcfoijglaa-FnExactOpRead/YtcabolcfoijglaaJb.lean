/- Own texts joined: GetI, TextG, LocB, ReadS, ReadI, RidI, ToZ, AppZ, RkeyI, SzO, EqO, Eq, EqZ, EqP, ToO. -/
import Derived.Test.YtcabolcfoijglaaJa
import Derived.Test.YtcabolcfoijglaaChecked
import Derived.Deep.RegionHeld3
import Derived.Deep.QuietTactic
import Derived.BigQuiet

/- impl.endCode, impl.readNum and impl.GetNum, by their contracts: impl.GetNum answers what the plain function getN says. -/
namespace Go.Proofs.Ytcabolcfoijglaa
open Go.RowKit
set_option linter.unusedVariables false

theorem endCode_well (n size x : Int) (w : World) (h : ¬ ((1 < size ∧ x = 0) ∨ 2147483647 < n)) :
    Calls Try.prog 106 #[.int .i64 n, .int .i64 size, .int .u8 x] w fun e w' => e = .returned (.int .i64 0) ∧ w' = w := by
  have hn : n ≤ 2147483647 := by omega
  by_cases h1 : 1 < size
  · have hx : (x == 0) = false := by simp; omega
    go_enter Try.func106, Try.ntmps106
    go_wp2
    go_ret
    exact ⟨rfl, rfl⟩
  · have hx : decide (1 < size) = false := by simpa using h1
    go_enter Try.func106, Try.ntmps106
    go_wp2
    go_ret
    exact ⟨rfl, rfl⟩
theorem endCode_bad (n size x : Int) (w : World) (h : (1 < size ∧ x = 0) ∨ 2147483647 < n) :
    Calls Try.prog 106 #[.int .i64 n, .int .i64 size, .int .u8 x] w fun e w' => (∃ c, e = .returned (.int .i64 c) ∧ (c != 0) = true) ∧ w' = w := by
  by_cases h1 : 1 < size
  · by_cases h2 : x = 0
    · subst h2
      go_enter Try.func106, Try.ntmps106
      go_wp2
      go_ret
      exact ⟨⟨_, rfl, by decide⟩, rfl⟩
    · have hx : (x == 0) = false := by simpa using h2
      have hn : 2147483647 < n := by omega
      go_enter Try.func106, Try.ntmps106
      go_wp2
      go_ret
      exact ⟨⟨_, rfl, by decide⟩, rfl⟩
  · have hx : decide (1 < size) = false := by simpa using h1
    have hn : 2147483647 < n := by omega
    go_enter Try.func106, Try.ntmps106
    go_wp2
    go_ret
    exact ⟨⟨_, rfl, by decide⟩, rfl⟩

def readPost (l : List Int) (e : Ending) : Prop := match num l with
  | some (n, k) => e = .returned (.tuple #[.int .i64 n, .int .i64 (k : Int), .int .i64 0])
  | none => ∃ a b c, e = .returned (.tuple #[.int .i64 a, .int .i64 b, .int .i64 c]) ∧ (c != 0) = true
theorem readPost_none {l : List Int} (h : num l = none) (a b c : Int) (hc : (c != 0) = true) : readPost l (.returned (.tuple #[.int .i64 a, .int .i64 b, .int .i64 c])) := by
  unfold readPost; rw [h]; exact ⟨a, b, c, rfl, hc⟩
theorem readPost_some {l : List Int} {n : Int} {k : Nat} (h : num l = some (n, k)) : readPost l (.returned (.tuple #[.int .i64 n, .int .i64 (k : Int), .int .i64 0])) := by
  unfold readPost; rw [h]

set_option maxHeartbeats 1600000 in
set_option maxRecDepth 1000000 in
theorem readNum_row (w : World) (b off cap : Nat) (l : List Int) (hok : okB l) (hm : l.length ≤ maxLen)
    (hc : ∀ i, i < l.length → w.cell? ⟨b, off + i, none⟩ = some (.int .u8 (l.getD i 0))) :
    Calls Try.prog 102 #[.slice (some ⟨b, off, none⟩) l.length cap] w fun e w' => readPost l e ∧ w' = w := by
  unfold maxLen at hm
  generalize hn : l.length = n at *
  have HN := hide hn
  clear hn
  have hm' : (n : Int) ≤ 9223372036854775807 := by omega
  go_enter Try.func102, Try.ntmps102
  go_wp2
  go_loop [2, 9] (fun a i => ∃ (k : Nat) (acc : Int), k ≤ 5 ∧ k ≤ n ∧ a = .int .i64 acc ∧ i = .int .i64 k ∧ 0 ≤ acc ∧ acc < sc k ∧ Hid (numGo (5 - k) (l.drop k) k acc = num l)) (fun _ i => n - (intOf i).toNat)
  case atStart => exact ⟨0, 0, by omega, by omega, rfl, rfl, by omega, by decide, hide rfl⟩
  case round =>
    obtain ⟨k, acc, hk, hkn, rfl, rfl, ha0, ha1, HI⟩ := hrel
    by_cases hl : k < n
    · obtain ⟨x, hx⟩ : ∃ x, x = l.getD k 0 := ⟨_, rfl⟩
      have hcx : w.cell? ⟨b, off + k, none⟩ = some (.int .u8 x) := by rw [hx]; exact hc _ hl
      have hxb : 0 ≤ x ∧ x ≤ 255 := by rw [hx, List.getD_eq_getElem?_getD]; exact hok.at _
      obtain ⟨hx0, hx1⟩ := hxb
      have hd : l.drop k = x :: l.drop (k + 1) := by
        have hl' : k < l.length := by have := unhide HN; omega
        rw [hx, getD_at hl', List.drop_eq_getElem_cons hl']
      have hli : (k : Int) < (n : Int) := by omega
      by_cases h5 : k = 5
      · subst h5
        have HR := hide (unhide HI).symm
        clear HI hc hx hd
        go_wp2
        go_ret3
        exact ⟨readPost_none (unhide HR) _ _ _ rfl, rfl⟩
      have hk5 : ((k : Int) == 5) = false := by simp; omega
      have hI := unhide HI
      rw [hd, show 5 - k = (5 - (k + 1)) + 1 by omega] at hI
      clear HI hc hx hd
      by_cases hx2 : x < 128
      · by_cases hbad : (x = 0 ∧ 0 < k) ∨ 2147483647 < acc + x % 128 * sc k
        · have HR := hide (hI.symm.trans (numGo_bad hx2 hbad))
          clear hI
          have : k = 0 ∨ k = 1 ∨ k = 2 ∨ k = 3 ∨ k = 4 := by omega
          rcases this with rfl | rfl | rfl | rfl | rfl
          all_goals
            simp only [sc] at ha1 hbad
            try simp only [Nat.add_zero] at hcx
            have hb2 := hide hbad
            clear hbad
            go_wp2_with (go_at_call 106; refine (endCode_bad _ _ _ _ (by have := unhide hb2; omega)).mono ?_; rintro e w' ⟨⟨c, rfl, hc0⟩, rfl⟩)
            go_ret3
            exact ⟨readPost_none (unhide HR) _ _ _ hc0, rfl⟩
        · have HR := hide (hI.symm.trans (numGo_end hx2 hbad))
          clear hI
          have : k = 0 ∨ k = 1 ∨ k = 2 ∨ k = 3 ∨ k = 4 := by omega
          rcases this with rfl | rfl | rfl | rfl | rfl
          all_goals
            simp only [sc] at ha1 hbad
            try simp only [Nat.add_zero] at hcx
            have hb2 := hide hbad
            clear hbad
            go_wp2_with (go_at_call 106; refine (endCode_well _ _ _ _ (by have := unhide hb2; omega)).mono ?_; rintro e w' ⟨rfl, rfl⟩)
            go_ret3
            refine ⟨?_, rfl⟩
            have R := readPost_some (unhide HR)
            simp only [sc] at R
            simpa using R
      · have h128 : 128 ≤ x := by omega
        have HI := hide (hI.symm.trans (numGo_on hx2)).symm
        clear hI
        have : k = 0 ∨ k = 1 ∨ k = 2 ∨ k = 3 ∨ k = 4 := by omega
        rcases this with rfl | rfl | rfl | rfl | rfl
        all_goals
          simp only [sc] at ha1
          try simp only [Nat.add_zero] at hcx
          go_wp2
          go_round
          case measure => simp [intOf]; omega
        case rel => exact ⟨1, _, by omega, by omega, rfl, rfl, by omega, by simp only [sc]; omega, by simpa [sc] using HI⟩
        case rel => exact ⟨2, _, by omega, by omega, rfl, rfl, by omega, by simp only [sc]; omega, by simpa [sc] using HI⟩
        case rel => exact ⟨3, _, by omega, by omega, rfl, rfl, by omega, by simp only [sc]; omega, by simpa [sc] using HI⟩
        case rel => exact ⟨4, _, by omega, by omega, rfl, rfl, by omega, by simp only [sc]; omega, by simpa [sc] using HI⟩
        case rel => exact ⟨5, _, by omega, by omega, rfl, rfl, by omega, by simp only [sc]; omega, by simpa [sc] using HI⟩
    · have hr := unhide HI
      rw [List.drop_of_length_le (by have := unhide HN; omega), numGo_nil] at hr
      have HR := hide hr.symm
      clear hr HI hc
      go_wp2
      go_ret3
      exact ⟨readPost_none (unhide HR) _ _ _ rfl, rfl⟩
theorem readNum_nil (w : World) (a : Option Addr) (cap : Nat) :
    Calls Try.prog 102 #[.slice a 0 cap] w fun e w' => readPost [] e ∧ w' = w := by
  go_enter Try.func102, Try.ntmps102
  go_wp2
  refine wp_loop_rounds 1 ?_
  rw [rounds_succ]
  go_wp2
  go_ret3
  exact ⟨readPost_none rfl _ _ _ rfl, rfl⟩

theorem readNum_any (w : World) (v : Value) (l : List Int) (h : Byt w v l) :
    Calls Try.prog 102 #[v] w fun e w' => readPost l e ∧ w' = w := by
  obtain ⟨hok, hm, ⟨rfl, rfl⟩ | ⟨x, cap, rfl, hc, rfl⟩ | ⟨b, off, cap, rfl, _, _, _, _, h5⟩⟩ := h
  · exact readNum_nil w _ _
  · exact readNum_nil w _ _
  · exact readNum_row w b off cap l hok hm h5

/-- A slice cut from p on can be read: what is left of the bytes. -/
theorem Byt.cut {w : World} {b off cap p : Nat} {l : List Int} (hok : okB l) (hm : l.length ≤ maxLen) (hp : p ≤ l.length) (hlc : l.length ≤ cap) (hcm : cap ≤ maxLen) (hb : b < w.heap.size)
    (hc : ∀ i, i < l.length → w.cell? ⟨b, off + i, none⟩ = some (.int .u8 (l.getD i 0))) : Byt w (.slice (some ⟨b, off + p, none⟩) (l.length - p) (cap - p)) (l.drop p) := by
  have hl : (l.drop p).length = l.length - p := by simp
  refine ⟨hok.drop p, by omega, .inr ?_⟩
  by_cases h0 : l.drop p = []
  · refine .inl ⟨⟨b, off + p, none⟩, cap - p, ?_, by omega, h0⟩
    rw [h0] at hl
    rw [← hl]; rfl
  · refine .inr ⟨b, off + p, cap - p, by rw [hl], by omega, by omega, h0, hb, fun i hi => ?_⟩
    rw [Nat.add_assoc, hc (p + i) (by omega)]
    simp

set_option maxHeartbeats 1600000 in
theorem getI_neg (w : World) (a : Option Addr) (n cap : Nat) (p : Int) (hp : p < 0) :
    Calls Try.prog 97 #[.slice a n cap, .int .i64 p] w fun e w' => e = .returned (.tuple #[.int .i64 0, .int .i64 (-1)]) ∧ w' = w := by
  go_enter Try.func97, Try.ntmps97
  go_wp2
  go_ret2
  exact ⟨rfl, rfl⟩

theorem getI_out (w : World) (a : Option Addr) (n cap : Nat) (p : Nat) (hp : n < p) :
    Calls Try.prog 97 #[.slice a n cap, .int .i64 p] w fun e w' => e = .returned (.tuple #[.int .i64 0, .int .i64 (-1)]) ∧ w' = w := by
  have h0 : (0 : Int) ≤ (p : Int) := by omega
  have h1 : (n : Int) < (p : Int) := by omega
  go_enter Try.func97, Try.ntmps97
  go_wp2
  go_ret2
  exact ⟨rfl, rfl⟩

set_option maxHeartbeats 1600000 in
theorem getI_in (w : World) (a : Option Addr) (l : List Int) (cap : Nat) (p : Nat) (hm : l.length ≤ maxLen) (hp : p ≤ l.length) (hlc : l.length ≤ cap) (hcm : cap ≤ maxLen)
    (hcp : ¬ cap = p) (hcut : Byt w (.slice (a.map (fun x => x.add p)) (l.length - p) (cap - p)) (l.drop p)) :
    Calls Try.prog 97 #[.slice a l.length cap, .int .i64 p] w fun e w' => e = .returned (.tuple #[.int .i64 (getN l p).1, .int .i64 (getN l p).2]) ∧ w' = w := by
  have h0 : (0 : Int) ≤ (p : Int) := by omega
  have h1 : (p : Int) ≤ (l.length : Int) := by omega
  have hok := hcut.1
  unfold maxLen at hm hcm
  go_enter Try.func97, Try.ntmps97
  go_wp2_with fail
  refine (readNum_any _ _ (l.drop p) hcut).mono ?_
  rintro e w' ⟨hr, rfl⟩
  cases hq : num (l.drop p) with
  | none =>
    have HR := hide (getN_none hq)
    unfold readPost at hr
    rw [hq] at hr
    obtain ⟨x, y, c, rfl, hc0⟩ := hr
    clear hq hcut
    go_wp2
    go_ret2
    exact ⟨by rw [unhide HR]; rfl, rfl⟩
  | some y =>
    obtain ⟨n, k⟩ := y
    have hb := num_some hok hq
    have hkl : k ≤ l.length - p := by have := hb.2.2.2.2; simpa using this
    have HR := hide (getN_some hq)
    unfold readPost at hr
    rw [hq] at hr
    simp only at hr
    subst hr
    clear hq hcut hb
    go_wp2
    go_ret2
    exact ⟨by rw [unhide HR]; rfl, rfl⟩

set_option maxHeartbeats 1600000 in
theorem getI_end (w : World) (a : Option Addr) (p : Nat) (hm : p ≤ maxLen) :
    Calls Try.prog 97 #[.slice a p p, .int .i64 p] w fun e w' => e = .returned (.tuple #[.int .i64 0, .int .i64 (-1)]) ∧ w' = w := by
  have h0 : (0 : Int) ≤ (p : Int) := by omega
  unfold maxLen at hm
  go_enter Try.func97, Try.ntmps97
  go_wp2_with fail
  refine (readNum_nil _ _ _).mono ?_
  rintro e w' ⟨hr, rfl⟩
  unfold readPost at hr
  rw [show num [] = none from rfl] at hr
  obtain ⟨x, y, c, rfl, hc0⟩ := hr
  go_wp2
  go_ret2
  exact ⟨rfl, rfl⟩

/-- impl.GetNum, whatever it is asked. -/
theorem getI_any (w : World) (v : Value) (l : List Int) (p : Int) (h : Byt w v l) :
    Calls Try.prog 97 #[v, .int .i64 p] w fun e w' => e = .returned (.tuple #[.int .i64 (getN l p).1, .int .i64 (getN l p).2]) ∧ w' = w := by
  by_cases h0 : p < 0
  · obtain ⟨a, cap, rfl, _⟩ := h.shape
    rw [getN_neg h0]
    exact getI_neg w a _ cap p h0
  · obtain ⟨p, rfl⟩ := Int.eq_ofNat_of_zero_le (show 0 ≤ p by omega)
    by_cases h1 : l.length < p
    · obtain ⟨a, cap, rfl, _⟩ := h.shape
      rw [getN_none (by rw [List.drop_of_length_le (by omega)]; rfl)]
      exact getI_out w a _ cap p h1
    · have hm := h.2.1
      obtain ⟨a, cap, hv, hlc, hcm⟩ := h.shape
      by_cases hcp : cap = p
      · have hl : l.length = p := by omega
        rw [getN_none (by rw [List.drop_of_length_le (by omega)]; rfl), hv, hcp, hl]
        exact getI_end w a p (by omega)
      · rw [hv]
        refine getI_in w a l cap p hm (by omega) hlc hcm hcp ?_
        obtain ⟨hok, _, ⟨rfl, rfl⟩ | ⟨x, cap', rfl, hc, rfl⟩ | ⟨b, off, cap', rfl, g1, g2, _, hb, h5⟩⟩ := h
        · simp at hv hcp h1; omega
        · simp at hv
          obtain ⟨rfl, rfl⟩ := hv
          refine ⟨by simpa using okB_nil, by simp [maxLen], .inr (.inl ⟨x.add p, cap' - p, ?_, by omega, by simp⟩)⟩
          simp
        · simp at hv
          obtain ⟨rfl, rfl⟩ := hv
          have hcut := Byt.cut (p := p) hok hm (by omega) hlc hcm hb h5
          rw [Option.map_some, add_plain]
          exact hcut

end Go.Proofs.Ytcabolcfoijglaa

/- spec.GetText and impl.GetText answer what the plain function getT says. -/
namespace Go.Proofs.Ytcabolcfoijglaa
open Go.RowKit
set_option linter.unusedVariables false

set_option maxHeartbeats 1600000 in
theorem getTS_out (w : World) (v : Value) (l : List Int) (p : Int) (h : Byt w v l) (hp : p ≤ 9223372036854775807) (ho : (getN l p).2 < 0 ∨ 30 < (getN l p).1 ∨ (l.length : Int) - (getN l p).2 < (getN l p).1) (hr : -1 ≤ (getN l p).2 ∧ (getN l p).2 ≤ 9223372036854775807) :
    Calls Try.prog 88 #[v, .int .i64 p] w fun e w' => e = .returned (.tuple #[.slice none 0 0, .int .i64 (-1)]) ∧ w' = w := by
  obtain ⟨a, cap, rfl, hlc, hcm⟩ := h.shape
  have hm := h.2.1
  unfold maxLen at hm
  go_enter Try.func88, Try.ntmps88
  go_wp2_with fail
  refine (getS_any w _ l p h hp).mono ?_
  rintro e w1 ⟨rfl, rfl⟩
  generalize (getN l p).1 = n at *
  generalize (getN l p).2 = k at *
  obtain ⟨hk0, hk1⟩ := hr
  by_cases h1 : k < 0
  · clear ho
    go_wp2
    go_ret2
    exact ⟨rfl, rfl⟩
  · have h1' : decide (k < 0) = false := by simpa using h1
    by_cases h2 : 30 < n
    · clear ho
      go_wp2
      go_ret2
      exact ⟨rfl, rfl⟩
    · have h2' : decide (30 < n) = false := by simpa using h2
      have h3 : (l.length : Int) - k < n := by omega
      clear ho
      go_wp2
      go_ret2
      exact ⟨rfl, rfl⟩

set_option maxHeartbeats 1600000 in
theorem getTS_in (w : World) (b off cap : Nat) (l : List Int) (p : Int) (n k : Nat) (hok : okB l) (hm : l.length ≤ maxLen) (hlc : l.length ≤ cap) (hcm : cap ≤ maxLen) (h : Byt w (.slice (some ⟨b, off, none⟩) l.length cap) l) (hb : b < w.heap.size)
    (hc : ∀ i, i < l.length → w.cell? ⟨b, off + i, none⟩ = some (.int .u8 (l.getD i 0)))
    (hp : p ≤ 9223372036854775807) (e : getN l p = ((n : Int), (k : Int))) (h1 : n ≤ 30) (h2 : k + n ≤ l.length) :
    Calls Try.prog 88 #[.slice (some ⟨b, off, none⟩) l.length cap, .int .i64 p] w fun e w' => ∃ v', e = .returned (.tuple #[v', .int .i64 ((k : Int) + (n : Int))]) ∧ Own w' w.heap.size v' ((l.drop k).take n) ∧ Below w.heap.size w w' := by
  have hm' := hm
  have hcm' := hcm
  unfold maxLen at hm' hcm'
  have HE := hide e
  clear e
  by_cases hck : cap = k
  · obtain rfl : n = 0 := by omega
    have hlk : l.length = k := by omega
    have HCK := hide hck
    have HLK := hide hlk
    clear hck hlk
    go_enter Try.func88, Try.ntmps88
    go_wp2_with fail
    refine (getS_any w _ l p h hp).mono ?_
    rintro e w1 ⟨rfl, rfl⟩
    rw [unhide HE]
    have a1 : ¬ (k : Int) < 0 := by omega
    have a2 : ¬ (30 : Int) < ((0 : Nat) : Int) := by omega
    have a3 : ¬ (l.length : Int) - (k : Int) < ((0 : Nat) : Int) := by omega
    have hck := unhide HCK
    clear hc
    go_wp2
    go_ret2
    exact ⟨.slice (some ⟨w1.heap.size, 0, none⟩) 0 0, by simp, by simpa using own_none w1, (Below.refl _ _).alloc (Nat.le_refl _) _⟩
  · have hcut := (Byt.cut2 hok hm h2 hlc hcm hb hc)
    have hml : ((l.drop k).take n).length = n := by simp; omega
    go_enter Try.func88, Try.ntmps88
    go_wp2_with fail
    refine (getS_any w _ l p h hp).mono ?_
    rintro e w1 ⟨rfl, rfl⟩
    rw [unhide HE]
    have a1 : ¬ (k : Int) < 0 := by omega
    have a2 : ¬ (30 : Int) < (n : Int) := by omega
    have a3 : ¬ (l.length : Int) - (k : Int) < (n : Int) := by omega
    generalize hmm : (l.drop k).take n = m at *
    have HM := hide hmm
    have HML := hide hml
    clear hc hmm hml
    go_wp2_with (at_builtin; refine wpList_app rfl _ _ rfl w1.heap.size _ [] rfl (own_none w1) (.slice (some ⟨b, off + k, none⟩) n (cap - k)) m ?hx (hcut.alloc _) ?c1 ?c2 ?_)
    case hx => show Value.slice (some ⟨b, off + k, none⟩) (k + n - k) (cap - k) = _; rw [Nat.add_sub_cancel_left]
    case c1 => have := unhide HML; first | omega | (simp; omega)
    case c2 => simp
    intro v1 w2 ho1 hg1
    have hB1 : Below w1.heap.size w1 w2 := bstepBy ((Below.refl _ _).alloc (Nat.le_refl _) _) hg1 (fun g hg => by simp [Value.ownBlock] at hg; omega)
    clear hg1
    go_wp2
    go_ret2
    exact ⟨_, rfl, by rw [unhide HM]; exact ho1, hB1⟩

/-- spec.GetText, whatever it is asked. -/
theorem getTS_any (w : World) (v : Value) (l : List Int) (p : Int) (h : Byt w v l) (hp : p ≤ 9223372036854775807) :
    Calls Try.prog 88 #[v, .int .i64 p] w fun e w' => ∃ v', e = .returned (.tuple #[v', .int .i64 (getT l p).2]) ∧ Own w' w.heap.size v' (getT l p).1 ∧ Below w.heap.size w w' := by
  have hm := h.2.1
  have hm' := hm
  unfold maxLen at hm'
  have hcs := getN_cases h.1 p
  by_cases ho : (getN l p).2 < 0 ∨ 30 < (getN l p).1 ∨ (l.length : Int) - (getN l p).2 < (getN l p).1
  · rw [getT_out ho]
    refine (getTS_out w v l p h hp ho ?_).mono ?_
    · rcases hcs with e | ⟨n, k, e, _, _, h3⟩ <;> rw [e] <;> simp only <;> omega
    · rintro e w' ⟨rfl, rfl⟩
      exact ⟨_, rfl, ⟨okB_nil, World.ownsRow_nil _ _ _ _⟩, Below.refl _ _⟩
  · rcases hcs with e | ⟨n, k, e, h1, h2, h3⟩
    · rw [e] at ho; simp at ho
    · rw [e] at ho
      simp only at ho
      rw [getT_in e (by omega) (by omega)]
      have h' := h
      obtain ⟨hok, _, ⟨rfl, rfl⟩ | ⟨x, cap, rfl, hc, rfl⟩ | ⟨b, off, cap, rfl, g1, g2, g3, g4, g5⟩⟩ := h'
      · simp at h3; omega
      · simp at h3; omega
      · exact getTS_in w b off cap l p n k hok hm g1 g2 h g4 g5 hp e (by omega) (by omega)

set_option maxHeartbeats 1600000 in
theorem getTI_out (w : World) (v : Value) (l : List Int) (p : Int) (h : Byt w v l) (ho : (getN l p).2 < 0 ∨ 30 < (getN l p).1 ∨ (l.length : Int) - (getN l p).2 < (getN l p).1) (hr : -1 ≤ (getN l p).2 ∧ (getN l p).2 ≤ 9223372036854775807) :
    Calls Try.prog 98 #[v, .int .i64 p] w fun e w' => e = .returned (.tuple #[.slice none 0 0, .int .i64 (-1)]) ∧ w' = w := by
  obtain ⟨a, cap, rfl, hlc, hcm⟩ := h.shape
  have hm := h.2.1
  unfold maxLen at hm
  go_enter Try.func98, Try.ntmps98
  go_wp2_with fail
  refine (getI_any w _ l p h).mono ?_
  rintro e w1 ⟨rfl, rfl⟩
  generalize (getN l p).1 = n at *
  generalize (getN l p).2 = k at *
  obtain ⟨hk0, hk1⟩ := hr
  by_cases h1 : k < 0
  · clear ho
    go_wp2
    go_ret2
    exact ⟨rfl, rfl⟩
  · have h1' : decide (k < 0) = false := by simpa using h1
    by_cases h2 : 30 < n
    · clear ho
      go_wp2
      go_ret2
      exact ⟨rfl, rfl⟩
    · have h2' : decide (30 < n) = false := by simpa using h2
      have h3 : (l.length : Int) - k < n := by omega
      clear ho
      go_wp2
      go_ret2
      exact ⟨rfl, rfl⟩

set_option maxHeartbeats 1600000 in
theorem getTI_in (w : World) (b off cap : Nat) (l : List Int) (p : Int) (n k : Nat) (hok : okB l) (hm : l.length ≤ maxLen) (hlc : l.length ≤ cap) (hcm : cap ≤ maxLen) (h : Byt w (.slice (some ⟨b, off, none⟩) l.length cap) l) (hb : b < w.heap.size)
    (hc : ∀ i, i < l.length → w.cell? ⟨b, off + i, none⟩ = some (.int .u8 (l.getD i 0)))
    (e : getN l p = ((n : Int), (k : Int))) (h1 : n ≤ 30) (h2 : k + n ≤ l.length) :
    Calls Try.prog 98 #[.slice (some ⟨b, off, none⟩) l.length cap, .int .i64 p] w fun e w' => ∃ v', e = .returned (.tuple #[v', .int .i64 ((k : Int) + (n : Int))]) ∧ Own w' w.heap.size v' ((l.drop k).take n) ∧ Below w.heap.size w w' := by
  have hm' := hm
  have hcm' := hcm
  unfold maxLen at hm' hcm'
  have HE := hide e
  clear e
  have hml : ((l.drop k).take n).length = n := by simp; omega
  obtain ⟨cv, hcv⟩ : ∃ cv, cv = (if cap = k then Value.slice (some ⟨b, off, none⟩) n 0 else .slice (some ⟨b, off + k, none⟩) n (cap - k)) := ⟨_, rfl⟩
  have hcut : Byt w cv ((l.drop k).take n) := by
    rw [hcv]
    split
    · obtain rfl : n = 0 := by omega
      exact ⟨by simpa using okB_nil, by simp [maxLen], .inr (.inl ⟨_, 0, rfl, by simp [maxLen], by simp⟩)⟩
    · exact Byt.cut2 hok hm h2 hlc hcm hb hc
  have hcat := concat_any (w.alloc (.cells #[cv] 22)) w.heap.size 0 1 1 [cv] [(l.drop k).take n] rfl (by omega) (by simp) (fun i hi => by obtain rfl : i = 0 := (by omega); simp) (fun i hi => by obtain rfl : i = 0 := (by omega); exact hcut.alloc _) (by simp only [sumLen, List.map_cons, List.map_nil, List.sum_cons, List.sum_nil]; omega)
  by_cases hck : cap = k
  · rw [if_pos hck] at hcv
    have HCK := hide hck
    clear hck
    subst hcv
    go_enter Try.func98, Try.ntmps98
    go_wp2_with fail
    refine (getI_any w _ l p h).mono ?_
    rintro e w1 ⟨rfl, rfl⟩
    rw [unhide HE]
    have a1 : ¬ (k : Int) < 0 := by omega
    have a2 : ¬ (30 : Int) < (n : Int) := by omega
    have a3 : ¬ (l.length : Int) - (k : Int) < (n : Int) := by omega
    have hck := unhide HCK
    clear hc
    have hml' := hide hml
    clear hml
    go_wp2_with fail
    refine hcat.mono ?_
    rintro e w2 ⟨v1, rfl, ho1, hB1⟩
    have hb1 : Below w1.heap.size w1 w2 := bstep ((Below.refl _ _).alloc (Nat.le_refl _) _) hB1
    have ho2 : Own w2 w1.heap.size v1 ((l.drop k).take n) := by simpa using ho1.mono (by simp)
    have HO := hide ho2
    clear hB1 hcat ho1 ho2 hcut
    go_wp2
    go_ret2
    exact ⟨_, rfl, unhide HO, hb1⟩
  · rw [if_neg hck] at hcv
    subst hcv
    go_enter Try.func98, Try.ntmps98
    go_wp2_with fail
    refine (getI_any w _ l p h).mono ?_
    rintro e w1 ⟨rfl, rfl⟩
    rw [unhide HE]
    have a1 : ¬ (k : Int) < 0 := by omega
    have a2 : ¬ (30 : Int) < (n : Int) := by omega
    have a3 : ¬ (l.length : Int) - (k : Int) < (n : Int) := by omega
    clear hc
    have hml' := hide hml
    clear hml
    go_wp2_with fail
    refine hcat.mono ?_
    rintro e w2 ⟨v1, rfl, ho1, hB1⟩
    have hb1 : Below w1.heap.size w1 w2 := bstep ((Below.refl _ _).alloc (Nat.le_refl _) _) hB1
    have ho2 : Own w2 w1.heap.size v1 ((l.drop k).take n) := by simpa using ho1.mono (by simp)
    have HO := hide ho2
    clear hB1 hcat ho1 ho2 hcut
    go_wp2
    go_ret2
    exact ⟨_, rfl, unhide HO, hb1⟩

/-- impl.GetText, whatever it is asked. -/
theorem getTI_any (w : World) (v : Value) (l : List Int) (p : Int) (h : Byt w v l) :
    Calls Try.prog 98 #[v, .int .i64 p] w fun e w' => ∃ v', e = .returned (.tuple #[v', .int .i64 (getT l p).2]) ∧ Own w' w.heap.size v' (getT l p).1 ∧ Below w.heap.size w w' := by
  have hm := h.2.1
  have hm' := hm
  unfold maxLen at hm'
  have hcs := getN_cases h.1 p
  by_cases ho : (getN l p).2 < 0 ∨ 30 < (getN l p).1 ∨ (l.length : Int) - (getN l p).2 < (getN l p).1
  · rw [getT_out ho]
    refine (getTI_out w v l p h ho ?_).mono ?_
    · rcases hcs with e | ⟨n, k, e, _, _, h3⟩ <;> rw [e] <;> simp only <;> omega
    · rintro e w' ⟨rfl, rfl⟩
      exact ⟨_, rfl, ⟨okB_nil, World.ownsRow_nil _ _ _ _⟩, Below.refl _ _⟩
  · rcases hcs with e | ⟨n, k, e, h1, h2, h3⟩
    · rw [e] at ho; simp at ho
    · rw [e] at ho
      simp only at ho
      rw [getT_in e (by omega) (by omega)]
      have h' := h
      obtain ⟨hok, _, ⟨rfl, rfl⟩ | ⟨x, cap, rfl, hc, rfl⟩ | ⟨b, off, cap, rfl, g1, g2, g3, g4, g5⟩⟩ := h'
      · simp at h3; omega
      · simp at h3; omega
      · exact getTI_in w b off cap l p n k hok hm g1 g2 h g4 g5 e (by omega) (by omega)

end Go.Proofs.Ytcabolcfoijglaa

/- Blocks of a call's own: what is known of them whole, and what becomes of them while others are written. -/
namespace Go.Proofs.Ytcabolcfoijglaa
open Go.RowKit
set_option linter.unusedVariables false

/-- The block of an owned slice. -/
def FB (v : Value) : List Nat := v.ownBlock.toList

/-- Of the blocks that were there none but those in S has turned. -/
structure Frm (w w' : World) (S : List Nat) : Prop where
  os : w'.os = w.os
  tape : w'.tape = w.tape
  output : w'.output = w.output
  size : w.heap.size ≤ w'.heap.size
  block : ∀ k, k < w.heap.size → k ∉ S → w'.heap[k]? = w.heap[k]?

theorem Frm.refl (w : World) (S : List Nat) : Frm w w S := ⟨rfl, rfl, rfl, Nat.le_refl _, fun _ _ _ => rfl⟩
theorem Frm.trans {a b c : World} {S : List Nat} (h : Frm a b S) (k : Frm b c S) : Frm a c S :=
  ⟨k.os.trans h.os, k.tape.trans h.tape, k.output.trans h.output, Nat.le_trans h.size k.size, fun i hi hn => (k.block i (Nat.lt_of_lt_of_le hi h.size) hn).trans (h.block i hi hn)⟩
theorem Frm.mono {a b : World} {S S' : List Nat} (h : Frm a b S) (hs : ∀ g ∈ S, g ∈ S') : Frm a b S' := ⟨h.os, h.tape, h.output, h.size, fun i hi hn => h.block i hi (fun e => hn (hs i e))⟩
theorem Frm.ofBelow {a b : World} (h : Below a.heap.size a b) (S : List Nat) : Frm a b S := ⟨h.os, h.tape, h.output, h.size, fun i hi _ => h.block i hi⟩
theorem Frm.ofGrown {a b : World} {row : Option Nat} (h : a.grownBy b row) : Frm a b row.toList := ⟨h.os, h.tape, h.output, h.size, fun i hi hn => h.block i hi (fun e => hn (by rw [← e]; simp))⟩
theorem Frm.below {a b : World} {S : List Nat} {B : Nat} (h : Frm a b S) (hB : B ≤ a.heap.size) (hs : ∀ g ∈ S, B ≤ g) : Below B a b := ⟨h.os, h.tape, h.output, h.size, fun i hi => h.block i (by omega) (fun e => by have := hs i e; omega)⟩
/-- A step that writes blocks which were not there at the start. -/
theorem Frm.new {a b c : World} {S S' : List Nat} (h : Frm a b S) (k : Frm b c S') (hs : ∀ g ∈ S', a.heap.size ≤ g) : Frm a c S :=
  ⟨k.os.trans h.os, k.tape.trans h.tape, k.output.trans h.output, Nat.le_trans h.size k.size, fun i hi hn => (k.block i (Nat.lt_of_lt_of_le hi h.size) (fun e => by have := hs i e; omega)).trans (h.block i hi hn)⟩

theorem ownsRow_frm {w w' : World} {base : Nat} {e : TypeId} {size : Nat} {v : Value} {n : Nat} {xs : List Value} {S : List Nat} (h : w.ownsRow base e size v n xs) (f : Frm w w' S) (hd : ∀ g ∈ FB v, g ∉ S) : w'.ownsRow base e size v n xs := by
  refine ⟨h.1, ?_⟩
  rcases h.2 with h' | ⟨g, cap, cur, rfl, hb, hg, hr⟩
  · exact .inl h'
  · have hlt : g < w.heap.size := by
      by_cases hlt : g < w.heap.size
      · exact hlt
      · rw [Array.getElem?_eq_none (by omega)] at hg; cases hg
    exact .inr ⟨g, cap, cur, rfl, hb, (f.block g hlt (hd g (by simp [FB, Value.ownBlock]))).trans hg, hr⟩
theorem Own.frm {w w' : World} {base : Nat} {v : Value} {l : List Int} {S : List Nat} (h : Own w base v l) (f : Frm w w' S) (hd : ∀ g ∈ FB v, g ∉ S) : Own w' base v l := ⟨h.1, ownsRow_frm h.2 f hd⟩
theorem ownsRow_base {w : World} {base : Nat} {e : TypeId} {size : Nat} {v : Value} {n : Nat} {xs : List Value} (h : w.ownsRow base e size v n xs) (b : Nat) (hb : b ≤ base) : w.ownsRow b e size v n xs := by
  refine ⟨h.1, ?_⟩
  rcases h.2 with h' | ⟨g, cap, cur, e1, h1, h2⟩
  · exact .inl h'
  · exact .inr ⟨g, cap, cur, e1, by omega, h2⟩

/-- Blocks from lo on, below hi. -/
def Rng (F : List Nat) (lo hi : Nat) : Prop := ∀ g ∈ F, lo ≤ g ∧ g < hi
theorem Rng.mono {F : List Nat} {lo hi lo' hi' : Nat} (h : Rng F lo hi) (h1 : lo' ≤ lo) (h2 : hi ≤ hi') : Rng F lo' hi' := fun g hg => by have := h g hg; omega
theorem Rng.app {F G : List Nat} {lo hi : Nat} (h : Rng F lo hi) (k : Rng G lo hi) : Rng (F ++ G) lo hi := fun g hg => by
  rcases List.mem_append.1 hg with h' | h'
  · exact h g h'
  · exact k g h'
theorem Rng.nil (lo hi : Nat) : Rng [] lo hi := fun g hg => by cases hg
theorem nodup_app {F G : List Nat} {lo mid hi : Nat} (hF : F.Nodup) (hG : G.Nodup) (h : Rng F lo mid) (k : Rng G mid hi) : (F ++ G).Nodup := by
  rw [List.nodup_append]
  exact ⟨hF, hG, fun a ha b hb e => by have := h a ha; have := k b hb; omega⟩
theorem FB_nodup (v : Value) : (FB v).Nodup := by unfold FB; cases v.ownBlock <;> simp
theorem Own.rng {w : World} {base : Nat} {v : Value} {l : List Int} (h : Own w base v l) : Rng (FB v) base w.heap.size := fun g hg => h.lt g (by simpa [FB] using hg)

/-- A block of the call's own that is known whole. -/
def Loc (w : World) (g : Nat) (cs : Array Value) (T : TypeId) : Prop := w.heap[g]? = some (.cells cs T (0, 0))
theorem Loc.lt {w : World} {g : Nat} {cs : Array Value} {T : TypeId} (h : Loc w g cs T) : g < w.heap.size := by
  by_cases hlt : g < w.heap.size
  · exact hlt
  · unfold Loc at h; rw [Array.getElem?_eq_none (by omega)] at h; cases h
theorem Loc.cell {w : World} {g : Nat} {cs : Array Value} {T : TypeId} (h : Loc w g cs T) (j : Nat) : w.cell? ⟨g, j, none⟩ = cs[j]? := cell_of_row w g j cs T (0, 0) h
theorem Loc.frozen {w : World} {g : Nat} {cs : Array Value} {T : TypeId} (h : Loc w g cs T) (j : Nat) : w.frozen? ⟨g, j, none⟩ = false := frozen_of_row w g j cs T h
theorem Loc.keep {w w' : World} {g : Nat} {cs : Array Value} {T : TypeId} {B : Nat} (h : Loc w g cs T) (hb : Below B w w') (hB : g < B) : Loc w' g cs T := (hb.block g hB).trans h
theorem Loc.all {w w' : World} {g : Nat} {cs : Array Value} {T : TypeId} (h : Loc w g cs T) (hb : Below w.heap.size w w') : Loc w' g cs T := h.keep hb h.lt
theorem Loc.frm {w w' : World} {g : Nat} {cs : Array Value} {T : TypeId} {S : List Nat} (h : Loc w g cs T) (f : Frm w w' S) (hn : g ∉ S) : Loc w' g cs T := (f.block g h.lt hn).trans h
theorem Loc.set {w : World} {g : Nat} {cs : Array Value} {T : TypeId} (h : Loc w g cs T) (j : Nat) (v : Value) : Loc (w.setCell ⟨g, j, none⟩ v) g (cs.setIfInBounds j v) T := heap_setCell_same w g j cs T v h
theorem Loc.other {w : World} {g : Nat} {cs : Array Value} {T : TypeId} (h : Loc w g cs T) (q j : Nat) (v : Value) (hn : g ≠ q) : Loc (w.setCell ⟨q, j, none⟩ v) g cs T := (heap_setCell_other w ⟨q, j, none⟩ g v hn).trans h
theorem Loc.alloc {w : World} {g : Nat} {cs : Array Value} {T : TypeId} (h : Loc w g cs T) (o : Obj) : Loc (w.alloc o) g cs T := (heap_alloc_old w o h.lt).trans h
theorem Loc.made (w : World) (cs : Array Value) (T : TypeId) : Loc (w.alloc (.cells cs T)) w.heap.size cs T := heap_alloc_new w _
theorem set_frm (w : World) (g j : Nat) (v : Value) : Frm w (w.setCell ⟨g, j, none⟩ v) [g] :=
  ⟨rfl, rfl, rfl, by simp, fun k _ hk => heap_setCell_other w ⟨g, j, none⟩ k v (fun e => hk (by simp [e]))⟩

end Go.Proofs.Ytcabolcfoijglaa

/- spec's cursor over the bytes of an operation: a number, a text, an id. -/
namespace Go.Proofs.Ytcabolcfoijglaa
open Go.RowKit
set_option linter.unusedVariables false
set_option maxRecDepth 100000

theorem setG (w : World) (g j : Nat) (v : Value) : w.grownBy (w.setCell ⟨g, j, none⟩ v) (some g) :=
  ⟨rfl, rfl, rfl, by simp, fun k _ hk => heap_setCell_other w ⟨g, j, none⟩ k v (fun e => hk (by simp [e]))⟩
/-- A reader in the block g, whose bytes are l, at the place p. -/
structure Rd (T : TypeId) (w0 w : World) (g : Nat) (code : Value) (l : List Int) (p : Int) : Prop where
  bytes : Byt w0 code l
  below : Below w0.heap.size w0 w
  new : w0.heap.size ≤ g
  box : Loc w g #[code, .int .i64 p] T
  lo : -1 ≤ p
  hi : p ≤ l.length
theorem Rd.keep {T : TypeId} {w0 w w' : World} {g : Nat} {code : Value} {l : List Int} {p : Int} (h : Rd T w0 w g code l p) (hB : Below w.heap.size w w') : Rd T w0 w' g code l p :=
  ⟨h.bytes, bstep h.below hB, h.new, h.box.all hB, h.lo, h.hi⟩
/-- The place turned. -/
theorem Rd.turn {T : TypeId} {w0 w : World} {g : Nat} {code : Value} {l : List Int} {p : Int} (h : Rd T w0 w g code l p) (q : Int) (h0 : -1 ≤ q) (h1 : q ≤ l.length) : Rd T w0 (w.setCell ⟨g, 1, none⟩ (.int .i64 q)) g code l q :=
  ⟨h.bytes, bstepBy h.below (setG w g 1 _) (fun k hk => by cases hk; exact h.new), h.new, h.box.set 1 _, h0, h1⟩
theorem getN_rng {l : List Int} (hok : okB l) (p : Int) : -1 ≤ (getN l p).2 ∧ (getN l p).2 ≤ l.length ∧ 0 ≤ (getN l p).1 ∧ (getN l p).1 ≤ 2147483647 := by
  rcases getN_cases hok p with e | ⟨n, k, e, h1, h2, h3⟩
  · rw [e]; simp
  · rw [e]; simp only; omega
theorem getT_rng {l : List Int} (hok : okB l) (p : Int) : -1 ≤ (getT l p).2 ∧ (getT l p).2 ≤ l.length ∧ (getT l p).1.length ≤ 30 := by
  unfold getT
  have h := getN_rng hok p
  split
  · simp
  · rename_i hc
    simp only [List.length_take, List.length_drop]
    omega

set_option maxHeartbeats 3200000 in
theorem l4get_any (w0 w : World) (g : Nat) (code : Value) (l : List Int) (p : Int) (h : Rd 72 w0 w g code l p) :
    Calls Try.prog 52 #[.pointer (some ⟨g, 0, none⟩)] w fun e w' => e = .returned (.int .i64 (getN l p).1) ∧ Rd 72 w0 w' g code l (getN l p).2 ∧ w.grownBy w' (some g) := by
  have hok := h.bytes.1
  have hr := getN_rng hok p
  have hl := h.bytes.2.1
  unfold maxLen at hl
  have x0 := h.box.cell 0
  have x1 := h.box.cell 1
  have f1 := h.box.frozen 1
  have HB := hide h.bytes
  have HR := hide h
  have hlo := h.lo
  obtain ⟨a, c, rfl, _, _⟩ := h.bytes.shape
  clear h
  by_cases hp : p < 0
  · have e : p = -1 := by omega
    subst e
    have HE := hide (show getN l (-1) = (0, -1) from getN_neg (by decide))
    rw [unhide HE]
    clear HE hr
    go_enter Try.func52, Try.ntmps52
    go_wp2_with fail
    go_ret
    exact ⟨rfl, unhide HR, World.grownBy.refl _ _⟩
  · have HG := hide (fun (W : World) (hW : Byt W (.slice a l.length c) l) => getS_any W _ l p hW (by have := (unhide HR).hi; omega))
    generalize getN l p = q at *
    obtain ⟨n, q⟩ := q
    simp only at *
    have HQ := hide (((unhide HR).keep ((Below.refl _ _).drew)).turn q hr.1 hr.2.1)
    have HW := hide (grown_trans (Below.toGrown ((Below.refl w.heap.size w).drew) (some g)) (setG w.drew g 1 (.int .i64 q)))
    clear hr hok
    go_enter Try.func52, Try.ntmps52
    go_wp2_with fail
    go_region_held3 (fun w' => w'.cell? ⟨g, 0, none⟩ = some (.slice a l.length c) ∧ w'.cell? ⟨g, 1, none⟩ = some (.int .i64 p) ∧ w'.frozen? ⟨g, 1, none⟩ = false)
      (first | exact ⟨by assumption, by assumption, by assumption⟩ | go_keep)
      (first
        | (go_at_call 87; refine (unhide HG _ ((unhide HB).keep (by exact ((unhide HR).below).drew))).mono ?_; clear HG; rintro e w1 ⟨rfl, ew⟩; obtain rfl := ew))
    all_goals
      go_wp2_with fail
      go_ret
      exact ⟨rfl, unhide HQ, unhide HW⟩

set_option maxHeartbeats 3200000 in
theorem l4text_any (w0 w : World) (g : Nat) (code : Value) (l : List Int) (p : Int) (h : Rd 72 w0 w g code l p) :
    Calls Try.prog 55 #[.pointer (some ⟨g, 0, none⟩)] w fun e w' => ∃ a c, e = .returned (.slice a (getT l p).1.length c) ∧ Own w' w.heap.size (.slice a (getT l p).1.length c) (getT l p).1 ∧ Rd 72 w0 w' g code l (getT l p).2 ∧ w.grownBy w' (some g) := by
  have hok := h.bytes.1
  have hr := getT_rng hok p
  have hl := h.bytes.2.1
  unfold maxLen at hl
  have x0 := h.box.cell 0
  have x1 := h.box.cell 1
  have f1 := h.box.frozen 1
  have HB := hide h.bytes
  have HR := hide h
  have hlo := h.lo
  obtain ⟨a, c, rfl, _, _⟩ := h.bytes.shape
  clear h
  by_cases hp : p < 0
  · have e : p = -1 := by omega
    subst e
    have HE := hide (show getT l (-1) = ([], -1) from getT_out (by rw [getN_neg (by decide)]; simp))
    rw [unhide HE]
    clear HE hr
    go_enter Try.func55, Try.ntmps55
    go_wp2_with fail
    go_ret
    exact ⟨none, 0, rfl, ⟨okB_nil, rfl, .inl ⟨rfl, rfl⟩⟩, unhide HR, World.grownBy.refl _ _⟩
  · have HG := hide (fun (W : World) (hW : Byt W (.slice a l.length c) l) => getTS_any W _ l p hW (by have := (unhide HR).hi; omega))
    generalize getT l p = q at *
    obtain ⟨t, q⟩ := q
    simp only at *
    have HH := hide hr
    clear hr hok
    go_enter Try.func55, Try.ntmps55
    go_wp2_with fail
    go_region_held3 (fun w' => w'.cell? ⟨g, 0, none⟩ = some (.slice a l.length c) ∧ w'.cell? ⟨g, 1, none⟩ = some (.int .i64 p) ∧ w'.frozen? ⟨g, 1, none⟩ = false)
      (first | exact ⟨by assumption, by assumption, by assumption⟩ | go_keep)
      (first
        | (go_at_call 88; refine (unhide HG _ ((unhide HB).keep (by exact ((unhide HR).below).drew))).mono ?_; clear HG; rintro e w1 ⟨v1, rfl, ho1, hB1⟩; have hD1 := bstep ((Below.refl w.heap.size w).drew) hB1; have x0 := ((unhide HR).box.all hD1).cell 0; have x1 := ((unhide HR).box.all hD1).cell 1; have f1 := ((unhide HR).box.all hD1).frozen 1))
    all_goals
      obtain ⟨a1, c1, rfl, _, _⟩ := ho1.byt.shape
      have hR1 := (unhide HR).keep hD1
      have HQ := hide (hR1.turn q (unhide HH).1 (unhide HH).2.1)
      have HW := hide (grown_trans (Below.toGrown hD1 (some g)) (setG w1 g 1 (.int .i64 q)))
      have HO := hide ((ho1.mono (base' := w.heap.size) (Nat.le_refl _)).keepBy (setG w1 g 1 (.int .i64 q)) (.inr (fun e => by have := (ho1.lt g e).1; have := (unhide HR).box.lt; simp at *; omega)))
      clear hR1 hB1 hD1 ho1
      go_wp2_with fail
      go_ret
      exact ⟨a1, c1, rfl, unhide HO, unhide HQ, unhide HW⟩
end Go.Proofs.Ytcabolcfoijglaa

/- impl's reader over the bytes of an operation: a number, a text. -/
namespace Go.Proofs.Ytcabolcfoijglaa
open Go.RowKit
set_option linter.unusedVariables false
set_option maxRecDepth 100000

set_option maxHeartbeats 3200000 in
theorem rnum_any (w0 w : World) (g : Nat) (code : Value) (l : List Int) (p : Int) (h : Rd 65 w0 w g code l p) :
    Calls Try.prog 74 #[.pointer (some ⟨g, 0, none⟩)] w fun e w' => e = .returned (.int .i64 (getN l p).1) ∧ Rd 65 w0 w' g code l (getN l p).2 ∧ w.grownBy w' (some g) := by
  have hok := h.bytes.1
  have hr := getN_rng hok p
  have hl := h.bytes.2.1
  unfold maxLen at hl
  have x0 := h.box.cell 0
  have x1 := h.box.cell 1
  have f1 := h.box.frozen 1
  have HB := hide h.bytes
  have HR := hide h
  have hlo := h.lo
  obtain ⟨a, c, rfl, _, _⟩ := h.bytes.shape
  clear h
  have HG := hide (fun (W : World) (hW : Byt W (.slice a l.length c) l) => getI_any W _ l p hW)
  generalize getN l p = q at *
  obtain ⟨n, q⟩ := q
  simp only at *
  have HQ := hide (((unhide HR).keep ((Below.refl _ _).drew)).turn q hr.1 hr.2.1)
  have HW := hide (grown_trans (Below.toGrown ((Below.refl w.heap.size w).drew) (some g)) (setG w.drew g 1 (.int .i64 q)))
  clear hr hok
  go_enter Try.func74, Try.ntmps74
  go_wp2_with fail
  go_region_held3 (fun w' => w'.cell? ⟨g, 0, none⟩ = some (.slice a l.length c) ∧ w'.cell? ⟨g, 1, none⟩ = some (.int .i64 p) ∧ w'.frozen? ⟨g, 1, none⟩ = false)
    (first | exact ⟨by assumption, by assumption, by assumption⟩ | go_keep)
    (first
      | (go_at_call 97; refine (unhide HG _ ((unhide HB).keep (by exact ((unhide HR).below).drew))).mono ?_; clear HG; rintro e w1 ⟨rfl, ew⟩; obtain rfl := ew))
  all_goals
    go_wp2_with fail
    go_ret
    exact ⟨rfl, unhide HQ, unhide HW⟩

set_option maxHeartbeats 3200000 in
theorem rtext_any (w0 w : World) (g : Nat) (code : Value) (l : List Int) (p : Int) (h : Rd 65 w0 w g code l p) :
    Calls Try.prog 77 #[.pointer (some ⟨g, 0, none⟩)] w fun e w' => ∃ a c, e = .returned (.slice a (getT l p).1.length c) ∧ Own w' w.heap.size (.slice a (getT l p).1.length c) (getT l p).1 ∧ Rd 65 w0 w' g code l (getT l p).2 ∧ w.grownBy w' (some g) := by
  have hok := h.bytes.1
  have hr := getT_rng hok p
  have hl := h.bytes.2.1
  unfold maxLen at hl
  have x0 := h.box.cell 0
  have x1 := h.box.cell 1
  have f1 := h.box.frozen 1
  have HB := hide h.bytes
  have HR := hide h
  have hlo := h.lo
  obtain ⟨a, c, rfl, _, _⟩ := h.bytes.shape
  clear h
  have HG := hide (fun (W : World) (hW : Byt W (.slice a l.length c) l) => getTI_any W _ l p hW)
  generalize getT l p = q at *
  obtain ⟨t, q⟩ := q
  simp only at *
  have HH := hide hr
  clear hr hok
  go_enter Try.func77, Try.ntmps77
  go_wp2_with fail
  go_region_held3 (fun w' => w'.cell? ⟨g, 0, none⟩ = some (.slice a l.length c) ∧ w'.cell? ⟨g, 1, none⟩ = some (.int .i64 p) ∧ w'.frozen? ⟨g, 1, none⟩ = false)
    (first | exact ⟨by assumption, by assumption, by assumption⟩ | go_keep)
    (first
      | (go_at_call 98; refine (unhide HG _ ((unhide HB).keep (by exact ((unhide HR).below).drew))).mono ?_; clear HG; rintro e w1 ⟨v1, rfl, ho1, hB1⟩; have hD1 := bstep ((Below.refl w.heap.size w).drew) hB1; have x0 := ((unhide HR).box.all hD1).cell 0; have x1 := ((unhide HR).box.all hD1).cell 1; have f1 := ((unhide HR).box.all hD1).frozen 1))
  all_goals
    obtain ⟨a1, c1, rfl, _, _⟩ := ho1.byt.shape
    have hR1 := (unhide HR).keep hD1
    have HQ := hide (hR1.turn q (unhide HH).1 (unhide HH).2.1)
    have HW := hide (grown_trans (Below.toGrown hD1 (some g)) (setG w1 g 1 (.int .i64 q)))
    have HO := hide ((ho1.mono (base' := w.heap.size) (Nat.le_refl _)).keepBy (setG w1 g 1 (.int .i64 q)) (.inr (fun e => by have := (ho1.lt g e).1; have := (unhide HR).box.lt; simp at *; omega)))
    clear hR1 hB1 hD1 ho1
    go_wp2_with fail
    go_ret
    exact ⟨a1, c1, rfl, unhide HO, unhide HQ, unhide HW⟩
end Go.Proofs.Ytcabolcfoijglaa

/- impl's reader: an id. -/
namespace Go.Proofs.Ytcabolcfoijglaa
open Go.RowKit
set_option linter.unusedVariables false
set_option maxRecDepth 100000

theorem Rd.keepG {T : TypeId} {w0 w w' : World} {g : Nat} {code : Value} {l : List Int} {p : Int} {row : Option Nat} (h : Rd T w0 w g code l p) (hG : w.grownBy w' row) (hne : row ≠ some g) (hr : ∀ k, row = some k → w0.heap.size ≤ k) : Rd T w0 w' g code l p :=
  ⟨h.bytes, bstepBy h.below hG hr, h.new, (hG.block g h.box.lt (fun e => hne e.symm)).trans h.box, h.lo, h.hi⟩
theorem grow_below {a b c : World} {row : Option Nat} (h : Below a.heap.size a b) (k : b.grownBy c row) : a.grownBy c row := grown_trans (Below.toGrown h row) k
theorem grow_new {a b c : World} {row row' : Option Nat} (h : a.grownBy b row) (k : b.grownBy c row') (hr : ∀ q, row' = some q → a.heap.size ≤ q) : a.grownBy c row :=
  ⟨k.os.trans h.os, k.tape.trans h.tape, k.output.trans h.output, Nat.le_trans h.size k.size, fun i hi hne => (k.block i (Nat.lt_of_lt_of_le hi h.size) (fun e => by have := hr i e.symm; omega)).trans (h.block i hi hne)⟩

set_option maxHeartbeats 3200000 in
theorem rid_any (w0 w : World) (g : Nat) (code : Value) (l : List Int) (p : Int) (h : Rd 65 w0 w g code l p) :
    Calls Try.prog 75 #[.pointer (some ⟨g, 0, none⟩)] w fun e w' => e = .returned (.agg #[.int .i64 (rdId l p).1.1, .int .i64 (rdId l p).1.2]) ∧ Rd 65 w0 w' g code l (rdId l p).2 ∧ w.grownBy w' (some g) := by
  have hgl := h.box.lt
  have hnew := h.below.size
  have hA0 := (Below.refl w.heap.size w).alloc (Nat.le_refl _) (.cells #[.int .i64 0, .int .i64 0] 24)
  have l0 := Loc.made w #[.int .i64 0, .int .i64 0] 24
  have hR0 := h.keep hA0
  have H1 := hide (fun W (hW : Rd 65 w0 W g code l p) => rnum_any w0 W g code l p hW)
  have H2 := hide (fun W (hW : Rd 65 w0 W g code l (getN l p).2) => rnum_any w0 W g code l (getN l p).2 hW)
  unfold rdId
  clear h
  generalize getN l (getN l p).2 = q2 at *
  generalize getN l p = q1 at *
  obtain ⟨n, p1⟩ := q1
  obtain ⟨r, p2⟩ := q2
  simp only at *
  go_enter Try.func75, Try.ntmps75
  go_wp2_with fail
  generalize (w.alloc (.cells #[.int .i64 0, .int .i64 0] 24)) = wa at *
  refine (unhide H1 wa hR0).mono ?_
  rintro e w1 ⟨rfl, hR1, hG1⟩
  have l1 := l0.frm (Frm.ofGrown hG1) (by simp; omega)
  have hG1' := grow_below hA0 hG1
  go_wp2_with fail
  refine (unhide H2 w1 hR1).mono ?_
  rintro e w2 ⟨rfl, hR2, hG2⟩
  have l2 := l1.frm (Frm.ofGrown hG2) (by simp; omega)
  have hG2' := grown_trans hG1' hG2
  have x0 := l2.cell 0
  have x1 := l2.cell 1
  have f0 := l2.frozen 0
  have f1 := l2.frozen 1
  have hs : w2.grownBy ((w2.setCell ⟨w.heap.size, 0, none⟩ (.int .i64 n)).setCell ⟨w.heap.size, 1, none⟩ (.int .i64 r)) (some w.heap.size) := grown_trans (setG w2 w.heap.size 0 (.int .i64 n)) (setG _ w.heap.size 1 (.int .i64 r))
  have m : Loc ((w2.setCell ⟨w.heap.size, 0, none⟩ (.int .i64 n)).setCell ⟨w.heap.size, 1, none⟩ (.int .i64 r)) w.heap.size #[.int .i64 n, .int .i64 r] 24 := (l2.set 0 (.int .i64 n)).set 1 (.int .i64 r)
  have e0 := m.cell 0
  have e1 := m.cell 1
  have hGf := grow_new hG2' hs (fun q hq => by simp at hq; omega)
  have hRf := hR2.keepG hs (by simp; omega) (fun k hk => by simp at hk; omega)
  clear hG1 hG2 hR1 hR2 hR0 H1 H2 l0 l1 l2 hA0 m hs hG1' hG2'
  go_wp2_with fail
  exact bodyPost_ret (v := .agg #[.int .i64 n, .int .i64 r]) (by simp [results, Try.results75, go_sem, e0, e1]) rfl ⟨rfl, hRf, hGf⟩
end Go.Proofs.Ytcabolcfoijglaa

/- The law's own helpers over ints: a copy of a row, by its contract. -/
namespace Go.Proofs.Ytcabolcfoijglaa
open Go.RowKit
set_option linter.unusedVariables false

theorem Try.info3 : (Try.prog.info? 3).map (fun i => (i.zero, i.size, i.bytes)) = some (some (.int .i64 0), 1, 8) := by kernel_rfl

/-- Behind k rounds of the copying loop: the first k bytes of l, then zeros. -/
def halfz (l : List Int) (k : Nat) : List Int := l.take k ++ List.replicate (l.length - k) 0
theorem halfz_len (l : List Int) (k : Nat) (h : k ≤ l.length) : (halfz l k).length = l.length := by simp [halfz]; omega
theorem halfz_zero (l : List Int) : valz (halfz l 0) = (madeCells #[Value.int .i64 0] l.length).toList := by
  rw [toList_madeCells_one]
  simp [halfz, valz]
theorem halfz_all (l : List Int) : halfz l l.length = l := by simp [halfz]
theorem halfz_at (l : List Int) (k i : Nat) (hk : k ≤ l.length) : (halfz l k)[i]? = if i < k then l[i]? else if i < l.length then some 0 else none := by
  have hm : min k l.length = k := by omega
  unfold halfz
  rw [List.getElem?_append, List.length_take, hm]
  by_cases h : i < k
  · simp [h]
  · rw [if_neg h, if_neg h, List.getElem?_replicate]
    by_cases h2 : i < l.length
    · rw [if_pos h2, if_pos (by omega)]
    · rw [if_neg h2, if_neg (by omega)]
theorem halfz_step (l : List Int) (k : Nat) (h : k < l.length) : (valz (halfz l k)).set k (.int .i64 (l.getD k 0)) = valz (halfz l (k + 1)) := by
  apply List.ext_getElem?
  intro i
  unfold valz
  rw [List.getElem?_set, List.getElem?_map, List.getElem?_map, halfz_at l k i (by omega), halfz_at l (k + 1) i (by omega), List.length_map, halfz_len l k (by omega)]
  by_cases hk : k = i
  · subst hk; rw [if_pos rfl, if_pos h, if_pos (by omega)]; simp [h]
  · rw [if_neg hk]
    by_cases h2 : i < k
    · rw [if_pos h2, if_pos (by omega)]
    · rw [if_neg h2, if_neg (show ¬ i < k + 1 by omega)]

set_option maxHeartbeats 1600000 in
set_option maxRecDepth 1000000 in
theorem toZ_any (w : World) (v : Value) (l : List Int) (h : Ints w v l) (hs : l.length ≤ 2097152) :
    Calls Try.prog 92 #[v] w fun e w' => ∃ v', e = .returned v' ∧ OwnZ w' w.heap.size v' l ∧ v' ≠ .slice none 0 0 ∧ Below w.heap.size w w' := by
  obtain ⟨i0, hi, hz0, hz1, hz2⟩ := info_parts Try.info3
  obtain ⟨hok, hm, ⟨rfl, rfl⟩ | ⟨x, cap, rfl, hc, rfl⟩ | ⟨b, off, cap, rfl, h1, h2, h3, h4, h5⟩⟩ := h
  · go_enter Try.func92, Try.ntmps92
    go_wp2_with (at_make; refine wpList_make_full _ rfl _ _ 25 rfl w.heap.size 3 i0 (.int .i64 0) 1 Try.underlying25 hi hz0 hz1 .i64 .i64 _ _ 0 rfl rfl rfl rfl ?c1 ?c2 ?c3 ?_)
    case c1 => omega
    case c2 => exact hm
    case c3 => exact Nat.le_refl _
    intro w1 hown hgrow
    have hB1 := Below.ofGrown hgrow
    have hown1 : w1.ownsRow w.heap.size 3 1 (.slice (some ⟨w.heap.size, 0, none⟩) 0 0) 0 (valz []) := by have e := halfz_zero []; rw [show halfz [] 0 = [] from rfl] at e; rw [e]; exact hown
    clear hown hgrow
    go_wp2
    refine wp_loop_rounds 1 ?_
    rw [rounds_succ]
    go_wp2
    go_ret
    exact ⟨_, rfl, ⟨okZ_nil, hown1⟩, by simp, hB1⟩
  · go_enter Try.func92, Try.ntmps92
    go_wp2_with (at_make; refine wpList_make_full _ rfl _ _ 25 rfl w.heap.size 3 i0 (.int .i64 0) 1 Try.underlying25 hi hz0 hz1 .i64 .i64 _ _ 0 rfl rfl rfl rfl ?c1 ?c2 ?c3 ?_)
    case c1 => omega
    case c2 => exact hm
    case c3 => exact Nat.le_refl _
    intro w1 hown hgrow
    have hB1 := Below.ofGrown hgrow
    have hown1 : w1.ownsRow w.heap.size 3 1 (.slice (some ⟨w.heap.size, 0, none⟩) 0 0) 0 (valz []) := by have e := halfz_zero []; rw [show halfz [] 0 = [] from rfl] at e; rw [e]; exact hown
    clear hown hgrow
    go_wp2
    refine wp_loop_rounds 1 ?_
    rw [rounds_succ]
    go_wp2
    go_ret
    exact ⟨_, rfl, ⟨okZ_nil, hown1⟩, by simp, hB1⟩
  · go_enter Try.func92, Try.ntmps92
    go_wp2_with (at_make; refine wpList_make_full _ rfl _ _ 25 rfl w.heap.size 3 i0 (.int .i64 0) 1 Try.underlying25 hi hz0 hz1 .i64 .i64 _ _ l.length rfl rfl rfl rfl ?c1 ?c2 ?c3 ?_)
    case c1 => rw [hz2]; omega
    case c2 => exact hm
    case c3 => exact Nat.le_refl _
    intro w1 hown hgrow
    have hB1 := Below.ofGrown hgrow
    have hown1 : w1.ownsRow w.heap.size 3 1 (.slice (some ⟨w.heap.size, 0, none⟩) l.length l.length) l.length (valz (halfz l 0)) := by rw [halfz_zero]; exact hown
    clear hown hgrow
    go_wp2
    go_loopw [4] (fun i wr => ∃ k : Nat, k ≤ l.length ∧ i = .int .i64 k ∧ wr.ownsRow w.heap.size 3 1 (.slice (some ⟨w.heap.size, 0, none⟩) l.length l.length) l.length (valz (halfz l k)) ∧ Below w.heap.size w wr) (fun i _ => l.length - (intOf i).toNat)
    case atStart => exact ⟨0, Nat.zero_le _, rfl, hown1, hB1⟩
    case round =>
      obtain ⟨k, hk, rfl, hw, hB⟩ := hrel
      clear hown1 hB1
      have hcx : k < l.length → wr.cell? ⟨b, off + k, none⟩ = some (.int .i64 (l.getD k 0)) := fun hlt => (hB.cell (p := ⟨b, off + k, none⟩) h4).trans (h5 k hlt)
      have hcy : k < l.length → wr.cell? ⟨w.heap.size, k, none⟩ = some (.int .i64 ((halfz l k).getD k 0)) := fun hlt => by
        rw [hw.cellAt k (by omega), valz_at (by rw [halfz_len l k hk]; exact hlt)]
      have hfr := hw.frozenAt k
      have hst := hw.stored k (.int .i64 (l.getD k 0))
      have R : k < l.length → (wr.setCell ⟨w.heap.size, k, none⟩ (.int .i64 (l.getD k 0))).ownsRow w.heap.size 3 1 (.slice (some ⟨w.heap.size, 0, none⟩) l.length l.length) l.length (valz (halfz l (k + 1))) ∧ Below w.heap.size w (wr.setCell ⟨w.heap.size, k, none⟩ (.int .i64 (l.getD k 0))) := fun hlt => by
        rw [← halfz_step l k hlt]
        exact ⟨hst.1, hB.setCell (p := ⟨w.heap.size, k, none⟩) (Nat.le_refl _) _⟩
      have HR := hide R
      clear R hst
      go_wp2
      · have hlt : k < l.length := by assumption
        have R := unhide HR hlt
        rw [getD_at hlt] at R
        go_roundw
        case rel => exact ⟨k + 1, by omega, by go_num, R.1, R.2⟩
        case measure => simp [intOf]; omega
      · have e : k = l.length := by omega
        subst e
        go_ret
        rw [halfz_all] at hw
        exact ⟨_, rfl, ⟨hok, hw⟩, by simp, hB⟩
end Go.Proofs.Ytcabolcfoijglaa

/- An append of a readable row of ints to an owned one, as one law for the walk. -/
namespace Go.Proofs.Ytcabolcfoijglaa
open Go.RowKit
set_option linter.unusedVariables false

/-- 'append(out, src...)': out owned, src readable: what comes is owned, and no block but out's own has been written. -/
theorem wpList_appZ {w : World} {ops : Array Oper} {rest : List Oper} {o : Oper} {a : Act} {Q : Exit → Act → World → Prop} (hgd : o.guard = none) (s x : Operand)
    (ho : o.op = .call { callee := .builtin .append, args := #[s, x], argTypes := #[25, 25] })
    (base : Nat) (v : Value) (l : List Int) (hs : a.eval s = v) (hown : OwnZ w base v l) (u : Value) (m : List Int) (hx : a.eval x = u) (hu : Ints w u m)
    (hlen : l.length + m.length ≤ 134217728) (hbase : base ≤ w.heap.size)
    (h : ∀ v' w', OwnZ w' base v' (l ++ m) → w.grownBy w' v.ownBlock → wpList Try.prog ops Q rest (a.put o.dst v') w') : wpList Try.prog ops Q (o :: rest) a w := by
  obtain ⟨i0, hi, hz0, hz1, hz2⟩ := info_parts Try.info3
  have hfull : ∀ (ad : Addr) (c : Nat), a.eval x = .slice (some ad) m.length c → (∀ j, j < m.length → w.cell? (ad.add j) = some (.int .i64 (m.getD j 0))) → wpList Try.prog ops Q (o :: rest) a w := by
    intro ad c hx' hc
    refine wpList_append_own _ hgd s x 25 ho base 3 i0 (.int .i64 0) 1 8 Try.underlying25 hi hz0 hz1 hz2 rfl (by decide) v l.length (valz l) hs hown.2 ad m.length c (valz m) hx' (by rw [valz_len]; omega) ?_ (valz_one m) (by unfold maxLen; omega) (by omega) hbase ?_
    · intro j y hj
      have hlt : j < m.length := by
        by_cases hlt : j < m.length
        · exact hlt
        · rw [List.getElem?_eq_none (by rw [valz_len]; omega)] at hj; cases hj
      rw [valz_at hlt] at hj
      rw [hc j hlt]; exact hj
    · intro v' w' h1 h2 _
      refine h v' w' ⟨hown.1.app hu.1, ?_⟩ h2
      rw [valz_app, List.length_append]; exact h1
  obtain ⟨hok, hm, ⟨rfl, rfl⟩ | ⟨y, cap, rfl, hc, rfl⟩ | ⟨b, off, cap, rfl, h1, h2, h3, h4, h5⟩⟩ := hu
  · refine wpList_append_own_none hgd s x 25 ho base 3 i0 1 Try.underlying25 hi v l.length (valz l) hs hown.2 hx ?_
    exact h v w (by rw [List.append_nil]; exact hown) (World.grownBy.refl _ _)
  · exact hfull y cap hx (fun j hj => by simp at hj)
  · exact hfull ⟨b, off, none⟩ cap hx (fun j hj => by rw [add_plain]; exact h5 j hj)

/-- A new block of one int. -/
theorem int_one (w : World) (x : Int) (h0 : -9223372036854775808 ≤ x) (h1 : x ≤ 9223372036854775807) : Ints (w.alloc (.cells #[.int .i64 x] 3)) (.slice (some ⟨w.heap.size, 0, none⟩) 1 1) [x] := by
  refine ⟨okZ.one h0 h1, by simp [maxLen], .inr (.inr ⟨w.heap.size, 0, 1, rfl, by simp, by simp [maxLen], by simp, by simp, fun i hi => ?_⟩)⟩
  have e : i = 0 := by simpa using hi
  subst e
  simp
/-- No row at all. -/
theorem ownz_nil (w : World) (base : Nat) : OwnZ w base (.slice none 0 0) [] := ⟨okZ_nil, rfl, .inl ⟨rfl, rfl⟩⟩
theorem OwnZ.alloc {w : World} {base : Nat} {v : Value} {l : List Int} (h : OwnZ w base v l) (o : Obj) : OwnZ (w.alloc o) base v l := ⟨h.1, h.2.alloc o⟩
theorem Ints.alloc {w : World} {v : Value} {l : List Int} (h : Ints w v l) (o : Obj) : Ints (w.alloc o) v l := h.keep ((Below.refl _ _).alloc (Nat.le_refl _) o)
/-- A block of the call's own that was there when the row was made is no older than 'base'. -/
theorem OwnZ.base_le {w : World} {base : Nat} {v : Value} {l : List Int} (h : OwnZ w base v l) : ∀ g, v.ownBlock = some g → base ≤ g := fun g hg => (h.lt g hg).1

end Go.Proofs.Ytcabolcfoijglaa

/- impl's reader: a key. -/
namespace Go.Proofs.Ytcabolcfoijglaa
open Go.RowKit
set_option linter.unusedVariables false
set_option maxRecDepth 100000

set_option maxHeartbeats 6400000 in
theorem rkey_any (w0 w : World) (g : Nat) (code : Value) (l : List Int) (p : Int) (h : Rd 65 w0 w g code l p) :
    Calls Try.prog 76 #[.pointer (some ⟨g, 0, none⟩)] w fun e w' => ∃ a c k, e = .returned (.slice a k.length c) ∧ OwnZ w' w.heap.size (.slice a k.length c) k ∧ Hid ((rdKeyI l p).1 = k) ∧ k.length ≤ 13 ∧ Rd 65 w0 w' g code l (rdKeyI l p).2 ∧ w.grownBy w' (some g) := by
  have hgl := h.box.lt
  have hnew := h.below.size
  have hrg := getN_rng h.bytes.1 p
  have HOK := hide h.bytes.1
  have H1 := hide (rnum_any w0 w g code l p h)
  clear h
  unfold rdKeyI
  generalize getN l p = q1 at *
  obtain ⟨n, p1⟩ := q1
  simp only at *
  obtain ⟨n, rfl⟩ := Int.eq_ofNat_of_zero_le hrg.2.2.1
  clear hrg
  obtain ⟨M, hM⟩ : ∃ M, M = (min (n : Int) 12).toNat := ⟨_, rfl⟩
  rw [← hM]
  go_enter Try.func76, Try.ntmps76
  go_wp2_with fail
  refine (unhide H1).mono ?_
  rintro e w1 ⟨rfl, hR1, hG1⟩
  clear H1
  have hcase : (12 < n ∧ M = 12) ∨ (¬ 12 < n ∧ M = n) := by omega
  clear hM
  rcases hcase with ⟨hn, rfl⟩ | ⟨hn, rfl⟩
  · have hn' : (12 : Int) < (n : Int) := by omega
    go_wp2_with fail
    go_loopw [3, 7] (fun o i wr => ∃ (j f : Nat) (a : Option Addr) (c : Nat) (k : List Int) (pj : Int), j + f = 12 ∧ i = .int .i64 j ∧ o = .slice a k.length c ∧ OwnZ wr w.heap.size (.slice a k.length c) k ∧ k.length = j ∧ Hid (rdMany l 12 p1 = (k ++ (rdMany l f pj).1, (rdMany l f pj).2)) ∧ Rd 65 w0 wr g code l pj ∧ w.grownBy wr (some g)) (fun _ i _ => 12 - (intOf i).toNat)
    case atStart => exact ⟨0, 12, none, 0, [], p1, by omega, rfl, rfl, ownz_nil _ _, rfl, hide (by simp), hR1, hG1⟩
    case round =>
      obtain ⟨j, f, a, c, k, pj, hj, rfl, rfl, ho, hk, HI, hR, hG⟩ := hrel
      clear hR1 hG1
      subst hk
      cases f with
      | zero =>
        have HE := hide (unhide HI)
        clear HI
        have hlt' : ¬ (k.length : Int) < 12 := by omega
        go_wp2_with fail
        go_ret
        exact ⟨a, c, k, rfl, ho, hide (by rw [unhide HE]; simp [rdMany]), by omega, by rw [unhide HE]; exact hR, hG⟩
      | succ f =>
        have hlt' : (k.length : Int) < 12 := by omega
        have HS := hide (show rdMany l 12 p1 = (k ++ ((getN l pj).1 :: (rdMany l f (getN l pj).2).1), (rdMany l f (getN l pj).2).2) from unhide HI)
        clear HI
        go_wp2_with fail
        refine (rnum_any w0 wr g code l pj hR).mono ?_
        rintro e w2 ⟨rfl, hR2, hG2⟩
        have hx := getN_rng (unhide HOK) pj
        have ho2 := ho.keepBy hG2 (.inr (fun e => by have := (ho.lt g e).1; omega))
        have hG2' := grown_trans hG hG2
        generalize getN l pj = qj at *
        obtain ⟨x, p2⟩ := qj
        simp only at *
        clear hR hG hG2 ho
        have hY := hide (int_one w2 x (by omega) (by omega))
        go_wp2_with (at_builtin; refine wpList_appZ rfl _ _ rfl w.heap.size _ k rfl (ho2.alloc _) _ [x] rfl (unhide hY) ?c1 ?c2 ?_)
        case c1 => first | omega | (simp; omega)
        case c2 => have := hG2'.size; first | omega | (simp; omega)
        intro v5 w5 ho5 hg5
        have hgn : ∀ q, (Value.slice a k.length c).ownBlock = some q → w.heap.size ≤ q := fun q hq => (ho2.lt q hq).1
        have hA5 := grown_trans (Below.toGrown ((Below.refl w2.heap.size w2).alloc (Nat.le_refl _) (.cells #[.int .i64 x] 3)) _) hg5
        have hG5 := grow_new hG2' hA5 hgn
        have hR5 := hR2.keepG hA5 (fun e => by have := hgn g e; omega) (fun q hq => by have := hgn q hq; omega)
        obtain ⟨a5, c5, rfl, _, _⟩ := ho5.ints.shape
        clear hY hg5 hA5 hgn ho2 hR2 hG2' hx
        go_wp2_with fail
        go_roundw
        case rel => exact ⟨k.length + 1, f, a5, c5, k ++ [x], p2, by omega, by go_num, rfl, ho5, by simp, by rw [List.append_assoc]; exact HS, hR5, hG5⟩
        case measure => simp [intOf]; omega
  · have hn' : ¬ (12 : Int) < (M : Int) := by omega
    go_wp2_with fail
    go_loopw [3, 7] (fun o i wr => ∃ (j f : Nat) (a : Option Addr) (c : Nat) (k : List Int) (pj : Int), j + f = M ∧ i = .int .i64 j ∧ o = .slice a k.length c ∧ OwnZ wr w.heap.size (.slice a k.length c) k ∧ k.length = j ∧ Hid (rdMany l M p1 = (k ++ (rdMany l f pj).1, (rdMany l f pj).2)) ∧ Rd 65 w0 wr g code l pj ∧ w.grownBy wr (some g)) (fun _ i _ => M - (intOf i).toNat)
    case atStart => exact ⟨0, M, none, 0, [], p1, by omega, rfl, rfl, ownz_nil _ _, rfl, hide (by simp), hR1, hG1⟩
    case round =>
      obtain ⟨j, f, a, c, k, pj, hj, rfl, rfl, ho, hk, HI, hR, hG⟩ := hrel
      clear hR1 hG1
      subst hk
      cases f with
      | zero =>
        have HE := hide (unhide HI)
        clear HI
        have hlt' : ¬ (k.length : Int) < (M : Int) := by omega
        go_wp2_with fail
        go_ret
        exact ⟨a, c, k, rfl, ho, hide (by rw [unhide HE]; simp [rdMany]), by omega, by rw [unhide HE]; exact hR, hG⟩
      | succ f =>
        have hlt' : (k.length : Int) < (M : Int) := by omega
        have HS := hide (show rdMany l M p1 = (k ++ ((getN l pj).1 :: (rdMany l f (getN l pj).2).1), (rdMany l f (getN l pj).2).2) from unhide HI)
        clear HI
        go_wp2_with fail
        refine (rnum_any w0 wr g code l pj hR).mono ?_
        rintro e w2 ⟨rfl, hR2, hG2⟩
        have hx := getN_rng (unhide HOK) pj
        have ho2 := ho.keepBy hG2 (.inr (fun e => by have := (ho.lt g e).1; omega))
        have hG2' := grown_trans hG hG2
        generalize getN l pj = qj at *
        obtain ⟨x, p2⟩ := qj
        simp only at *
        clear hR hG hG2 ho
        have hY := hide (int_one w2 x (by omega) (by omega))
        go_wp2_with (at_builtin; refine wpList_appZ rfl _ _ rfl w.heap.size _ k rfl (ho2.alloc _) _ [x] rfl (unhide hY) ?c1 ?c2 ?_)
        case c1 => first | omega | (simp; omega)
        case c2 => have := hG2'.size; first | omega | (simp; omega)
        intro v5 w5 ho5 hg5
        have hgn : ∀ q, (Value.slice a k.length c).ownBlock = some q → w.heap.size ≤ q := fun q hq => (ho2.lt q hq).1
        have hA5 := grown_trans (Below.toGrown ((Below.refl w2.heap.size w2).alloc (Nat.le_refl _) (.cells #[.int .i64 x] 3)) _) hg5
        have hG5 := grow_new hG2' hA5 hgn
        have hR5 := hR2.keepG hA5 (fun e => by have := hgn g e; omega) (fun q hq => by have := hgn q hq; omega)
        obtain ⟨a5, c5, rfl, _, _⟩ := ho5.ints.shape
        clear hY hg5 hA5 hgn ho2 hR2 hG2' hx
        go_wp2_with fail
        go_roundw
        case rel => exact ⟨k.length + 1, f, a5, c5, k ++ [x], p2, by omega, by go_num, rfl, ho5, by simp, by rw [List.append_assoc]; exact HS, hR5, hG5⟩
        case measure => simp [intOf]; omega
end Go.Proofs.Ytcabolcfoijglaa

/- The laws' own count of how great an operation is, by contracts; toId, eqId. -/
namespace Go.Proofs.Ytcabolcfoijglaa
open Go.RowKit
set_option linter.unusedVariables false

/-- What is left when n are taken: -1 where there aren't so many. -/
def left4 (n : Nat) (left : Int) : Int := if (n : Int) ≤ left then left - n else -1
theorem left4_in {n : Nat} {left : Int} (h : (n : Int) ≤ left) : left4 n left = left - n := if_pos h
theorem left4_out {n : Nat} {left : Int} (h : ¬ (n : Int) ≤ left) : left4 n left = -1 := if_neg h

theorem szB4_any (w : World) (a : Option Addr) (n cap : Nat) (left : Int) (hn : n ≤ maxLen) (h0 : 0 ≤ left) (h1 : left ≤ 1000000000) :
    Calls Try.prog 90 #[.slice a n cap, .int .i64 left] w fun e w' => e = .returned (.int .i64 (left4 n left)) ∧ w' = w := by
  unfold maxLen at hn
  by_cases h : (n : Int) ≤ left
  · have HR := hide (left4_in h)
    have hd : ¬ left - (n : Int) < 0 := by omega
    go_enter Try.func90, Try.ntmps90
    go_wp2
    go_ret
    exact ⟨by rw [unhide HR]; rfl, rfl⟩
  · have HR := hide (left4_out h)
    have hd : left - (n : Int) < 0 := by omega
    go_enter Try.func90, Try.ntmps90
    go_wp2
    go_ret
    exact ⟨by rw [unhide HR]; rfl, rfl⟩

theorem szZ4_any (w : World) (a : Option Addr) (n cap : Nat) (left : Int) (hn : n ≤ maxLen) (h0 : 0 ≤ left) (h1 : left ≤ 1000000000) :
    Calls Try.prog 89 #[.slice a n cap, .int .i64 left] w fun e w' => e = .returned (.int .i64 (left4 n left)) ∧ w' = w := by
  unfold maxLen at hn
  by_cases h : (n : Int) ≤ left
  · have HR := hide (left4_in h)
    have hd : ¬ left - (n : Int) < 0 := by omega
    go_enter Try.func89, Try.ntmps89
    go_wp2
    go_ret
    exact ⟨by rw [unhide HR]; rfl, rfl⟩
  · have HR := hide (left4_out h)
    have hd : left - (n : Int) < 0 := by omega
    go_enter Try.func89, Try.ntmps89
    go_wp2
    go_ret
    exact ⟨by rw [unhide HR]; rfl, rfl⟩

set_option maxRecDepth 8000 in
set_option maxHeartbeats 1600000 in
theorem szOp_any (w : World) (v : Value) (o : OpV) (left : Int) (h : RdOp w v o) (h0 : 0 ≤ left) (h1 : left ≤ 1000000000) :
    Calls Try.prog 61 #[v, .int .i64 left] w fun e w' => e = .returned (.int .i64 (left4 (o.key.length + o.name.length + o.text.length) left)) ∧ Below w.heap.size w w' := by
  obtain ⟨k, n, t, rfl, hk, hn, ht⟩ := h
  have m1 := hk.2.1
  have m2 := hn.2.1
  have m3 := ht.2.1
  obtain ⟨ak, ck, rfl, _, _⟩ := hk.shape
  obtain ⟨an, cn, rfl, _, _⟩ := hn.shape
  obtain ⟨at', ct, rfl, _, _⟩ := ht.shape
  clear hk hn ht
  generalize o.key.length = nK at *
  generalize o.name.length = nN at *
  generalize o.text.length = nT at *
  have HA := hide ((Below.refl w.heap.size w).alloc (Nat.le_refl _) (.cells #[.int .i64 o.kind, .int .i64 o.atN, .int .i64 o.atR, .int .i64 o.nodeN, .int .i64 o.nodeR, .int .i64 o.parN, .int .i64 o.parR, .slice ak nK ck, .int .i64 o.elem, .slice an nN cn, .slice at' nT ct, .bool o.gone] 82))
  unfold opVal
  go_enter Try.func61, Try.ntmps61
  go_wp2_with fail
  refine (szZ4_any _ _ _ _ left m1 h0 h1).mono ?_
  rintro e w1 ⟨rfl, rfl⟩
  by_cases h2 : (nK : Int) ≤ left
  · rw [left4_in h2]
    have hd : ¬ left - (nK : Int) < 0 := by omega
    go_wp2_with fail
    refine (szB4_any _ _ _ _ (left - (nK : Int)) m2 (by omega) (by omega)).mono ?_
    rintro e w2 ⟨rfl, rfl⟩
    by_cases h3 : (nN : Int) ≤ left - (nK : Int)
    · rw [left4_in h3]
      have hd2 : ¬ left - (nK : Int) - (nN : Int) < 0 := by omega
      go_wp2_with fail
      refine (szB4_any _ _ _ _ (left - (nK : Int) - (nN : Int)) m3 (by omega) (by omega)).mono ?_
      rintro e w2 ⟨rfl, rfl⟩
      by_cases h4 : (nT : Int) ≤ left - (nK : Int) - (nN : Int)
      · rw [left4_in h4]
        have HR := hide (show left4 (nK + nN + nT) left = left - (nK : Int) - (nN : Int) - (nT : Int) by rw [left4_in (by omega)]; omega)
        have hd3 : ¬ left - (nK : Int) - (nN : Int) - (nT : Int) < 0 := by omega
        go_wp2_with fail
        go_ret
        exact ⟨by rw [unhide HR]; rfl, unhide HA⟩
      · rw [left4_out h4]
        have HR := hide (show left4 (nK + nN + nT) left = -1 by rw [left4_out (by omega)])
        go_wp2_with fail
        go_ret
        exact ⟨by rw [unhide HR]; rfl, unhide HA⟩
    · rw [left4_out h3]
      have HR := hide (show left4 (nK + nN + nT) left = -1 by rw [left4_out (by omega)])
      go_wp2_with fail
      go_ret
      exact ⟨by rw [unhide HR]; rfl, unhide HA⟩
  · rw [left4_out h2]
    have HR := hide (show left4 (nK + nN + nT) left = -1 by rw [left4_out (by omega)])
    go_wp2_with fail
    go_ret
    exact ⟨by rw [unhide HR]; rfl, unhide HA⟩

end Go.Proofs.Ytcabolcfoijglaa

/- laws.toId and laws.eqId, by contracts. -/
namespace Go.Proofs.Ytcabolcfoijglaa
open Go.RowKit
set_option linter.unusedVariables false

def idEqB (n r n' r' : Int) : Bool := n == n' && r == r'
theorem idEqB_iff (n r n' r' : Int) : idEqB n r n' r' = true ↔ n = n' ∧ r = r' := by simp [idEqB]

set_option maxHeartbeats 1600000 in
theorem eqId_any (w : World) (n r n' r' : Int) :
    Calls Try.prog 56 #[.agg #[.int .i64 n, .int .i64 r], .agg #[.int .i64 n', .int .i64 r']] w fun e w' => e = .returned (.bool (idEqB n r n' r')) ∧ Below w.heap.size w w' := by
  have HB := hide (((Below.refl w.heap.size w).alloc (Nat.le_refl _) (.cells #[.int .i64 n, .int .i64 r] 24)).alloc (by simp) (.cells #[.int .i64 n', .int .i64 r'] 24))
  by_cases h1 : n = n'
  · subst h1
    by_cases h2 : r = r'
    · subst h2
      go_enter Try.func56, Try.ntmps56
      go_wp2
      go_ret
      exact ⟨by simp [idEqB], unhide HB⟩
    · have HE := hide (show idEqB n r n r' = false by simp [idEqB, h2])
      have q : (r == r') = false := by simpa using h2
      go_enter Try.func56, Try.ntmps56
      go_wp2
      go_ret
      exact ⟨by rw [unhide HE]; rfl, unhide HB⟩
  · have HE := hide (show idEqB n r n' r' = false by simp [idEqB, h1])
    have q : (n == n') = false := by simpa using h1
    go_enter Try.func56, Try.ntmps56
    go_wp2
    go_ret
    exact ⟨by rw [unhide HE]; rfl, unhide HB⟩

set_option maxHeartbeats 1600000 in
theorem toId_any (w : World) (n r : Int) :
    Calls Try.prog 91 #[.agg #[.int .i64 n, .int .i64 r]] w fun e w' => e = .returned (.agg #[.int .i64 n, .int .i64 r]) ∧ Below w.heap.size w w' := by
  have HB := hide ((((Below.refl w.heap.size w).alloc (Nat.le_refl _) (.cells #[.int .i64 n, .int .i64 r] 80)).alloc (by simp) (.cells #[.int .i64 n, .int .i64 r] 24)).alloc (by simp; omega) (.cells #[.int .i64 n, .int .i64 r] 24))
  go_enter Try.func91, Try.ntmps91
  go_wp2
  refine bodyPost_ret (v := .agg #[.int .i64 n, .int .i64 r]) (by simp [results, Try.results91, go_sem]) rfl ⟨rfl, ?_⟩
  exact unhide HB

end Go.Proofs.Ytcabolcfoijglaa

/- The law's own helper that holds two rows of bytes against each other, by its contract. -/
namespace Go.Proofs.Ytcabolcfoijglaa
open Go.RowKit
set_option linter.unusedVariables false

theorem take_eq_step {a b : List Int} {k : Nat} (h : a.take k = b.take k) (ha : k < a.length) (hb : k < b.length) (e : a[k] = b[k]) : a.take (k + 1) = b.take (k + 1) := by
  rw [List.take_succ_eq_append_getElem ha, List.take_succ_eq_append_getElem hb, h, e]
theorem decide_ne {a b : List Int} {k : Nat} (ha : k < a.length) (hb : k < b.length) (e : a[k] ≠ b[k]) : decide (a = b) = false := by
  simp only [decide_eq_false_iff_not]
  intro h; subst h; exact e rfl

set_option maxHeartbeats 1600000 in
set_option maxRecDepth 1000000 in
theorem eqB_any (w : World) (u v : Value) (a b : List Int) (hu : Byt w u a) (hv : Byt w v b) :
    Calls Try.prog 17 #[u, v] w fun e w' => e = .returned (.bool (decide (a = b))) ∧ Below w.heap.size w w' := by
  have hma := hu.2.1
  have hmb := hv.2.1
  unfold maxLen at hma hmb
  by_cases hl : a.length = b.length
  · by_cases h0 : a.length = 0
    · have ha : a = [] := List.eq_nil_of_length_eq_zero h0
      have hb : b = [] := List.eq_nil_of_length_eq_zero (by omega)
      subst ha hb
      obtain ⟨a1, c1, rfl, _⟩ := hu.shape
      obtain ⟨a2, c2, rfl, _⟩ := hv.shape
      go_enter Try.func17, Try.ntmps17
      go_wp2
      refine wp_loop_rounds 1 ?_
      rw [rounds_succ]
      go_wp2
      go_ret
      exact ⟨rfl, Below.refl _ _⟩
    · obtain ⟨hoka, _, ⟨rfl, rfl⟩ | ⟨x, cap, rfl, hc, rfl⟩ | ⟨p, off, cap, rfl, h1, h2, h3, h4, h5⟩⟩ := hu
      · simp at h0
      · simp at h0
      obtain ⟨hokb, _, ⟨rfl, rfl⟩ | ⟨x, cap, rfl, hc, rfl⟩ | ⟨q, off', cap', rfl, g1, g2, g3, g4, g5⟩⟩ := hv
      · simp at hl; simp [hl] at h0
      · simp at hl; simp [hl] at h0
      generalize hA : a.length = n at *
      have HL := hide hl
      clear hl
      rw [← unhide HL]
      go_enter Try.func17, Try.ntmps17
      go_wp2
      go_loopw [5] (fun i wr => ∃ k : Nat, k ≤ n ∧ i = .int .i64 k ∧ Hid (a.take k = b.take k) ∧ Below w.heap.size w wr) (fun i _ => n - (intOf i).toNat)
      case atStart => exact ⟨0, Nat.zero_le _, rfl, hide rfl, Below.refl _ _⟩
      case round =>
        obtain ⟨k, hk, rfl, ht, hB⟩ := hrel
        by_cases hlt : k < n
        · obtain ⟨x, hx⟩ : ∃ x, x = a.getD k 0 := ⟨_, rfl⟩
          obtain ⟨y, hy⟩ : ∃ y, y = b.getD k 0 := ⟨_, rfl⟩
          have c1 : wr.cell? ⟨p, off + k, none⟩ = some (.int .u8 x) := by rw [hx]; exact (hB.cell (p := ⟨p, off + k, none⟩) h4).trans (h5 k hlt)
          have c2 : wr.cell? ⟨q, off' + k, none⟩ = some (.int .u8 y) := by rw [hy]; exact (hB.cell (p := ⟨q, off' + k, none⟩) g4).trans (g5 k (by have := unhide HL; omega))
          have hka : k < a.length := by omega
          have hkb : k < b.length := by have := unhide HL; omega
          rw [getD_at hka] at hx
          rw [getD_at hkb] at hy
          have HX := hide hx
          have HY := hide hy
          have hlt' : (k : Int) < (n : Int) := by omega
          clear hx hy h5 g5
          by_cases hxy : x = y
          · have hne : (x != y) = false := by simp [hxy]
            clear hxy
            go_wp2
            go_quiet (fail)
            go_wp2
            go_roundw
            case rel => exact ⟨k + 1, by omega, by go_num, hide (take_eq_step (unhide ht) hka hkb (by rw [← unhide HX, ← unhide HY]; simpa using hne)), below_drewN hB _⟩
            case measure => simp [intOf]; omega
          · have hne : (x != y) = true := by simp [hxy]
            have hd : decide (a = b) = false := decide_ne hka hkb (by rw [← unhide HX, ← unhide HY]; exact hxy)
            have HD := hide hd
            clear hxy hd
            go_wp2
            go_quiet (fail)
            go_wp2
            go_ret
            exact ⟨by rw [unhide HD]; rfl, below_drewN hB _⟩
        · have e : k = n := by omega
          have hd : decide (a = b) = true := by
            have h := unhide ht
            rw [List.take_of_length_le (by omega), List.take_of_length_le (by have := unhide HL; omega)] at h
            simpa using h
          have HD := hide hd
          clear hd ht
          subst e
          go_wp2
          go_ret
          exact ⟨by rw [unhide HD]; rfl, hB⟩
  · have hd : decide (a = b) = false := by
      simp only [decide_eq_false_iff_not]
      intro h; subst h; exact hl rfl
    have hne : ((a.length : Int) != (b.length : Int)) = true := by simp; omega
    have HD := hide hd
    clear hd
    obtain ⟨a1, c1, rfl, _⟩ := hu.shape
    obtain ⟨a2, c2, rfl, _⟩ := hv.shape
    go_enter Try.func17, Try.ntmps17
    go_wp2
    go_ret
    exact ⟨by rw [unhide HD]; rfl, Below.refl _ _⟩
end Go.Proofs.Ytcabolcfoijglaa

/- The law's own helper that holds two rows of bytes against each other, by its contract. -/
namespace Go.Proofs.Ytcabolcfoijglaa
open Go.RowKit
set_option linter.unusedVariables false

set_option maxHeartbeats 1600000 in
set_option maxRecDepth 1000000 in
theorem eqZ_any (w : World) (u v : Value) (a b : List Int) (hu : Ints w u a) (hv : Ints w v b) :
    Calls Try.prog 57 #[u, v] w fun e w' => e = .returned (.bool (decide (a = b))) ∧ Below w.heap.size w w' := by
  have hma := hu.2.1
  have hmb := hv.2.1
  unfold maxLen at hma hmb
  by_cases hl : a.length = b.length
  · by_cases h0 : a.length = 0
    · have ha : a = [] := List.eq_nil_of_length_eq_zero h0
      have hb : b = [] := List.eq_nil_of_length_eq_zero (by omega)
      subst ha hb
      obtain ⟨a1, c1, rfl, _⟩ := hu.shape
      obtain ⟨a2, c2, rfl, _⟩ := hv.shape
      go_enter Try.func57, Try.ntmps57
      go_wp2
      refine wp_loop_rounds 1 ?_
      rw [rounds_succ]
      go_wp2
      go_ret
      exact ⟨rfl, Below.refl _ _⟩
    · obtain ⟨hoka, _, ⟨rfl, rfl⟩ | ⟨x, cap, rfl, hc, rfl⟩ | ⟨p, off, cap, rfl, h1, h2, h3, h4, h5⟩⟩ := hu
      · simp at h0
      · simp at h0
      obtain ⟨hokb, _, ⟨rfl, rfl⟩ | ⟨x, cap, rfl, hc, rfl⟩ | ⟨q, off', cap', rfl, g1, g2, g3, g4, g5⟩⟩ := hv
      · simp at hl; simp [hl] at h0
      · simp at hl; simp [hl] at h0
      generalize hA : a.length = n at *
      have HL := hide hl
      clear hl
      rw [← unhide HL]
      go_enter Try.func57, Try.ntmps57
      go_wp2
      go_loopw [5] (fun i wr => ∃ k : Nat, k ≤ n ∧ i = .int .i64 k ∧ Hid (a.take k = b.take k) ∧ Below w.heap.size w wr) (fun i _ => n - (intOf i).toNat)
      case atStart => exact ⟨0, Nat.zero_le _, rfl, hide rfl, Below.refl _ _⟩
      case round =>
        obtain ⟨k, hk, rfl, ht, hB⟩ := hrel
        by_cases hlt : k < n
        · obtain ⟨x, hx⟩ : ∃ x, x = a.getD k 0 := ⟨_, rfl⟩
          obtain ⟨y, hy⟩ : ∃ y, y = b.getD k 0 := ⟨_, rfl⟩
          have c1 : wr.cell? ⟨p, off + k, none⟩ = some (.int .i64 x) := by rw [hx]; exact (hB.cell (p := ⟨p, off + k, none⟩) h4).trans (h5 k hlt)
          have c2 : wr.cell? ⟨q, off' + k, none⟩ = some (.int .i64 y) := by rw [hy]; exact (hB.cell (p := ⟨q, off' + k, none⟩) g4).trans (g5 k (by have := unhide HL; omega))
          have hka : k < a.length := by omega
          have hkb : k < b.length := by have := unhide HL; omega
          rw [getD_at hka] at hx
          rw [getD_at hkb] at hy
          have HX := hide hx
          have HY := hide hy
          have hlt' : (k : Int) < (n : Int) := by omega
          clear hx hy h5 g5
          by_cases hxy : x = y
          · have hne : (x != y) = false := by simp [hxy]
            clear hxy
            go_wp2
            go_quiet (fail)
            go_wp2
            go_roundw
            case rel => exact ⟨k + 1, by omega, by go_num, hide (take_eq_step (unhide ht) hka hkb (by rw [← unhide HX, ← unhide HY]; simpa using hne)), below_drewN hB _⟩
            case measure => simp [intOf]; omega
          · have hne : (x != y) = true := by simp [hxy]
            have hd : decide (a = b) = false := decide_ne hka hkb (by rw [← unhide HX, ← unhide HY]; exact hxy)
            have HD := hide hd
            clear hxy hd
            go_wp2
            go_quiet (fail)
            go_wp2
            go_ret
            exact ⟨by rw [unhide HD]; rfl, below_drewN hB _⟩
        · have e : k = n := by omega
          have hd : decide (a = b) = true := by
            have h := unhide ht
            rw [List.take_of_length_le (by omega), List.take_of_length_le (by have := unhide HL; omega)] at h
            simpa using h
          have HD := hide hd
          clear hd ht
          subst e
          go_wp2
          go_ret
          exact ⟨by rw [unhide HD]; rfl, hB⟩
  · have hd : decide (a = b) = false := by
      simp only [decide_eq_false_iff_not]
      intro h; subst h; exact hl rfl
    have hne : ((a.length : Int) != (b.length : Int)) = true := by simp; omega
    have HD := hide hd
    clear hd
    obtain ⟨a1, c1, rfl, _⟩ := hu.shape
    obtain ⟨a2, c2, rfl, _⟩ := hv.shape
    go_enter Try.func57, Try.ntmps57
    go_wp2
    go_ret
    exact ⟨by rw [unhide HD]; rfl, Below.refl _ _⟩
end Go.Proofs.Ytcabolcfoijglaa

/- laws.eqOp of two operations that read the same. -/
namespace Go.Proofs.Ytcabolcfoijglaa
open Go.RowKit
set_option linter.unusedVariables false
set_option maxRecDepth 100000

theorem eqB4_true (w : World) (u v : Value) (a : List Int) (hu : Byt w u a) (hv : Byt w v a) : Calls Try.prog 17 #[u, v] w fun e w' => e = .returned (.bool true) ∧ Below w.heap.size w w' := by
  refine (eqB_any w u v a a hu hv).mono ?_
  rintro e w' ⟨rfl, h⟩
  exact ⟨by simp, h⟩
theorem eqZ4_true (w : World) (u v : Value) (a : List Int) (hu : Ints w u a) (hv : Ints w v a) : Calls Try.prog 57 #[u, v] w fun e w' => e = .returned (.bool true) ∧ Below w.heap.size w w' := by
  refine (eqZ_any w u v a a hu hv).mono ?_
  rintro e w' ⟨rfl, h⟩
  exact ⟨by simp, h⟩
theorem eqId_true (w : World) (n r : Int) : Calls Try.prog 56 #[.agg #[.int .i64 n, .int .i64 r], .agg #[.int .i64 n, .int .i64 r]] w fun e w' => e = .returned (.bool true) ∧ Below w.heap.size w w' := by
  refine (eqId_any w n r n r).mono ?_
  rintro e w' ⟨rfl, h⟩
  exact ⟨by simp [idEqB], h⟩

set_option maxHeartbeats 3200000 in
theorem eqOp_same (w : World) (u v : Value) (o : OpV) (hu : RdOp w u o) (hv : RdOp w v o) :
    Calls Try.prog 16 #[u, v] w fun e w' => e = .returned (.bool true) ∧ Below w.heap.size w w' := by
  obtain ⟨k1, n1, t1, rfl, hk1, hn1, ht1⟩ := hu
  obtain ⟨k2, n2, t2, rfl, hk2, hn2, ht2⟩ := hv
  obtain ⟨ak1, ck1, rfl, _, _⟩ := hk1.shape
  obtain ⟨an1, cn1, rfl, _, _⟩ := hn1.shape
  obtain ⟨at1, ct1, rfl, _, _⟩ := ht1.shape
  obtain ⟨ak2, ck2, rfl, _, _⟩ := hk2.shape
  obtain ⟨an2, cn2, rfl, _, _⟩ := hn2.shape
  obtain ⟨at2, ct2, rfl, _, _⟩ := ht2.shape
  have H := hide (And.intro hk1 (And.intro hn1 (And.intro ht1 (And.intro hk2 (And.intro hn2 ht2)))))
  clear hk1 hn1 ht1 hk2 hn2 ht2
  unfold opVal
  have hA : Below w.heap.size w ((w.alloc (.cells #[.int .i64 o.kind, .int .i64 o.atN, .int .i64 o.atR, .int .i64 o.nodeN, .int .i64 o.nodeR, .int .i64 o.parN, .int .i64 o.parR, .slice ak1 o.key.length ck1, .int .i64 o.elem, .slice an1 o.name.length cn1, .slice at1 o.text.length ct1, .bool o.gone] 27)).alloc (.cells #[.int .i64 o.kind, .int .i64 o.atN, .int .i64 o.atR, .int .i64 o.nodeN, .int .i64 o.nodeR, .int .i64 o.parN, .int .i64 o.parR, .slice ak2 o.key.length ck2, .int .i64 o.elem, .slice an2 o.name.length cn2, .slice at2 o.text.length ct2, .bool o.gone] 27)) := ((Below.refl _ _).alloc (Nat.le_refl _) _).alloc (by simp) _
  go_enter Try.func16, Try.ntmps16
  go_wp2_with fail
  generalize hW : ((w.alloc (.cells #[.int .i64 o.kind, .int .i64 o.atN, .int .i64 o.atR, .int .i64 o.nodeN, .int .i64 o.nodeR, .int .i64 o.parN, .int .i64 o.parR, .slice ak1 o.key.length ck1, .int .i64 o.elem, .slice an1 o.name.length cn1, .slice at1 o.text.length ct1, .bool o.gone] 27)).alloc (.cells #[.int .i64 o.kind, .int .i64 o.atN, .int .i64 o.atR, .int .i64 o.nodeN, .int .i64 o.nodeR, .int .i64 o.parN, .int .i64 o.parR, .slice ak2 o.key.length ck2, .int .i64 o.elem, .slice an2 o.name.length cn2, .slice at2 o.text.length ct2, .bool o.gone] 27)) = W at *
  have HW := hide hW
  clear hW
  refine (eqId_true _ o.atN o.atR).mono ?_
  rintro e w1 ⟨rfl, hB1⟩
  have c11_3 := cell_later hB1 (show W.cell? ⟨w.heap.size, 3, none⟩ = some (.int .i64 o.nodeN) by rw [← unhide HW]; simp)
  have c11_4 := cell_later hB1 (show W.cell? ⟨w.heap.size, 4, none⟩ = some (.int .i64 o.nodeR) by rw [← unhide HW]; simp)
  have c11_5 := cell_later hB1 (show W.cell? ⟨w.heap.size, 5, none⟩ = some (.int .i64 o.parN) by rw [← unhide HW]; simp)
  have c11_6 := cell_later hB1 (show W.cell? ⟨w.heap.size, 6, none⟩ = some (.int .i64 o.parR) by rw [← unhide HW]; simp)
  have c11_7 := cell_later hB1 (show W.cell? ⟨w.heap.size, 7, none⟩ = some (.slice ak1 o.key.length ck1) by rw [← unhide HW]; simp)
  have c11_8 := cell_later hB1 (show W.cell? ⟨w.heap.size, 8, none⟩ = some (.int .i64 o.elem) by rw [← unhide HW]; simp)
  have c11_9 := cell_later hB1 (show W.cell? ⟨w.heap.size, 9, none⟩ = some (.slice an1 o.name.length cn1) by rw [← unhide HW]; simp)
  have c11_10 := cell_later hB1 (show W.cell? ⟨w.heap.size, 10, none⟩ = some (.slice at1 o.text.length ct1) by rw [← unhide HW]; simp)
  have c11_11 := cell_later hB1 (show W.cell? ⟨w.heap.size, 11, none⟩ = some (.bool o.gone) by rw [← unhide HW]; simp)
  have c12_3 := cell_later hB1 (show W.cell? ⟨w.heap.size + 1, 3, none⟩ = some (.int .i64 o.nodeN) by rw [← unhide HW]; simp)
  have c12_4 := cell_later hB1 (show W.cell? ⟨w.heap.size + 1, 4, none⟩ = some (.int .i64 o.nodeR) by rw [← unhide HW]; simp)
  have c12_5 := cell_later hB1 (show W.cell? ⟨w.heap.size + 1, 5, none⟩ = some (.int .i64 o.parN) by rw [← unhide HW]; simp)
  have c12_6 := cell_later hB1 (show W.cell? ⟨w.heap.size + 1, 6, none⟩ = some (.int .i64 o.parR) by rw [← unhide HW]; simp)
  have c12_7 := cell_later hB1 (show W.cell? ⟨w.heap.size + 1, 7, none⟩ = some (.slice ak2 o.key.length ck2) by rw [← unhide HW]; simp)
  have c12_8 := cell_later hB1 (show W.cell? ⟨w.heap.size + 1, 8, none⟩ = some (.int .i64 o.elem) by rw [← unhide HW]; simp)
  have c12_9 := cell_later hB1 (show W.cell? ⟨w.heap.size + 1, 9, none⟩ = some (.slice an2 o.name.length cn2) by rw [← unhide HW]; simp)
  have c12_10 := cell_later hB1 (show W.cell? ⟨w.heap.size + 1, 10, none⟩ = some (.slice at2 o.text.length ct2) by rw [← unhide HW]; simp)
  have c12_11 := cell_later hB1 (show W.cell? ⟨w.heap.size + 1, 11, none⟩ = some (.bool o.gone) by rw [← unhide HW]; simp)
  replace hA := bstep hA hB1
  clear hB1 HW
  go_wp2_with fail
  refine (eqId_true _ o.nodeN o.nodeR).mono ?_
  rintro e w2 ⟨rfl, hB2⟩
  have c21_5 := cell_later hB2 c11_5
  have c21_6 := cell_later hB2 c11_6
  have c21_7 := cell_later hB2 c11_7
  have c21_8 := cell_later hB2 c11_8
  have c21_9 := cell_later hB2 c11_9
  have c21_10 := cell_later hB2 c11_10
  have c21_11 := cell_later hB2 c11_11
  have c22_5 := cell_later hB2 c12_5
  have c22_6 := cell_later hB2 c12_6
  have c22_7 := cell_later hB2 c12_7
  have c22_8 := cell_later hB2 c12_8
  have c22_9 := cell_later hB2 c12_9
  have c22_10 := cell_later hB2 c12_10
  have c22_11 := cell_later hB2 c12_11
  replace hA := bstep hA hB2
  clear c11_3 c11_4 c11_5 c11_6 c11_7 c11_8 c11_9 c11_10 c11_11 c12_3 c12_4 c12_5 c12_6 c12_7 c12_8 c12_9 c12_10 c12_11
  clear hB2
  go_wp2_with fail
  refine (eqId_true _ o.parN o.parR).mono ?_
  rintro e w3 ⟨rfl, hB3⟩
  have c31_7 := cell_later hB3 c21_7
  have c31_8 := cell_later hB3 c21_8
  have c31_9 := cell_later hB3 c21_9
  have c31_10 := cell_later hB3 c21_10
  have c31_11 := cell_later hB3 c21_11
  have c32_7 := cell_later hB3 c22_7
  have c32_8 := cell_later hB3 c22_8
  have c32_9 := cell_later hB3 c22_9
  have c32_10 := cell_later hB3 c22_10
  have c32_11 := cell_later hB3 c22_11
  replace hA := bstep hA hB3
  clear c21_5 c21_6 c21_7 c21_8 c21_9 c21_10 c21_11 c22_5 c22_6 c22_7 c22_8 c22_9 c22_10 c22_11
  clear hB3
  go_wp2_with fail
  refine (eqZ4_true _ _ _ o.key ((unhide H).1.keep hA) ((unhide H).2.2.2.1.keep hA)).mono ?_
  rintro e w4 ⟨rfl, hB4⟩
  have c41_8 := cell_later hB4 c31_8
  have c41_9 := cell_later hB4 c31_9
  have c41_10 := cell_later hB4 c31_10
  have c41_11 := cell_later hB4 c31_11
  have c42_8 := cell_later hB4 c32_8
  have c42_9 := cell_later hB4 c32_9
  have c42_10 := cell_later hB4 c32_10
  have c42_11 := cell_later hB4 c32_11
  replace hA := bstep hA hB4
  clear c31_7 c31_8 c31_9 c31_10 c31_11 c32_7 c32_8 c32_9 c32_10 c32_11
  clear hB4
  go_wp2_with fail
  refine (eqB4_true _ _ _ o.name ((unhide H).2.1.keep hA) ((unhide H).2.2.2.2.1.keep hA)).mono ?_
  rintro e w5 ⟨rfl, hB5⟩
  have c51_10 := cell_later hB5 c41_10
  have c51_11 := cell_later hB5 c41_11
  have c52_10 := cell_later hB5 c42_10
  have c52_11 := cell_later hB5 c42_11
  replace hA := bstep hA hB5
  clear c41_8 c41_9 c41_10 c41_11 c42_8 c42_9 c42_10 c42_11
  clear hB5
  go_wp2_with fail
  refine (eqB4_true _ _ _ o.text ((unhide H).2.2.1.keep hA) ((unhide H).2.2.2.2.2.keep hA)).mono ?_
  rintro e w6 ⟨rfl, hB6⟩
  have c61_11 := cell_later hB6 c51_11
  have c62_11 := cell_later hB6 c52_11
  replace hA := bstep hA hB6
  clear c51_10 c51_11 c52_10 c52_11
  clear hB6
  go_wp2_with fail
  go_ret
  exact ⟨rfl, hA⟩

end Go.Proofs.Ytcabolcfoijglaa

/- laws.toOp: the copy reads the same, in blocks of its own. -/
namespace Go.Proofs.Ytcabolcfoijglaa
open Go.RowKit
set_option linter.unusedVariables false
set_option maxRecDepth 100000

theorem OwnZ.frm {w w' : World} {base : Nat} {v : Value} {l : List Int} {S : List Nat} (h : OwnZ w base v l) (f : Frm w w' S) (hd : ∀ g ∈ FB v, g ∉ S) : OwnZ w' base v l := ⟨h.1, ownsRow_frm h.2 f hd⟩
theorem OwnZ.rng {w : World} {base : Nat} {v : Value} {l : List Int} (h : OwnZ w base v l) : Rng (FB v) base w.heap.size := fun g hg => h.lt g (by simpa [FB] using hg)
theorem Loc.be {w : World} {g : Nat} {cs ds : Array Value} {T : TypeId} (h : Loc w g cs T) (e : cs = ds) : Loc w g ds T := e ▸ h

set_option maxHeartbeats 6400000 in
theorem toOp_any (w : World) (v : Value) (o : OpV) (h : RdOp w v o) (hs : o.key.length + o.name.length + o.text.length ≤ 2097152) :
    Calls Try.prog 63 #[v] w fun e w' => ∃ k n t, e = .returned (opVal o k n t) ∧ OwnZ w' w.heap.size k o.key ∧ Own w' w.heap.size n o.name ∧ Own w' w.heap.size t o.text ∧ (FB k ++ FB n ++ FB t).Nodup ∧ Below w.heap.size w w' := by
  obtain ⟨k, n, t, rfl, hk, hn, ht⟩ := h
  obtain ⟨pk, ck, rfl, _, _⟩ := hk.shape
  obtain ⟨pn, cn, rfl, _, _⟩ := hn.shape
  obtain ⟨pt, ct, rfl, _, _⟩ := ht.shape
  have H := hide (And.intro hk (And.intro hn ht))
  clear hk hn ht
  have HS := hide hs
  clear hs
  unfold opVal
  have l0 := (((Loc.made w #[.int .i64 o.kind, .int .i64 o.atN, .int .i64 o.atR, .int .i64 o.nodeN, .int .i64 o.nodeR, .int .i64 o.parN, .int .i64 o.parR, .slice pk o.key.length ck, .int .i64 o.elem, .slice pn o.name.length cn, .slice pt o.text.length ct, .bool o.gone] 82).alloc (.cells #[.int .i64 0, .int .i64 0, .int .i64 0, .int .i64 0, .int .i64 0, .int .i64 0, .int .i64 0, .slice none 0 0, .int .i64 0, .slice none 0 0, .slice none 0 0, .bool false] 27)).alloc (.cells #[.int .i64 o.kind, .int .i64 0, .int .i64 0, .int .i64 0, .int .i64 0, .int .i64 0, .int .i64 0, .slice none 0 0, .int .i64 0, .slice none 0 0, .slice none 0 0, .bool false] 27))
  have l1 := (Loc.made (w.alloc (.cells #[.int .i64 o.kind, .int .i64 o.atN, .int .i64 o.atR, .int .i64 o.nodeN, .int .i64 o.nodeR, .int .i64 o.parN, .int .i64 o.parR, .slice pk o.key.length ck, .int .i64 o.elem, .slice pn o.name.length cn, .slice pt o.text.length ct, .bool o.gone] 82)) #[.int .i64 0, .int .i64 0, .int .i64 0, .int .i64 0, .int .i64 0, .int .i64 0, .int .i64 0, .slice none 0 0, .int .i64 0, .slice none 0 0, .slice none 0 0, .bool false] 27).alloc (.cells #[.int .i64 o.kind, .int .i64 0, .int .i64 0, .int .i64 0, .int .i64 0, .int .i64 0, .int .i64 0, .slice none 0 0, .int .i64 0, .slice none 0 0, .slice none 0 0, .bool false] 27)
  have l2 := Loc.made ((w.alloc (.cells #[.int .i64 o.kind, .int .i64 o.atN, .int .i64 o.atR, .int .i64 o.nodeN, .int .i64 o.nodeR, .int .i64 o.parN, .int .i64 o.parR, .slice pk o.key.length ck, .int .i64 o.elem, .slice pn o.name.length cn, .slice pt o.text.length ct, .bool o.gone] 82)).alloc (.cells #[.int .i64 0, .int .i64 0, .int .i64 0, .int .i64 0, .int .i64 0, .int .i64 0, .int .i64 0, .slice none 0 0, .int .i64 0, .slice none 0 0, .slice none 0 0, .bool false] 27)) #[.int .i64 o.kind, .int .i64 0, .int .i64 0, .int .i64 0, .int .i64 0, .int .i64 0, .int .i64 0, .slice none 0 0, .int .i64 0, .slice none 0 0, .slice none 0 0, .bool false] 27
  have hA : Below w.heap.size w (((w.alloc (.cells #[.int .i64 o.kind, .int .i64 o.atN, .int .i64 o.atR, .int .i64 o.nodeN, .int .i64 o.nodeR, .int .i64 o.parN, .int .i64 o.parR, .slice pk o.key.length ck, .int .i64 o.elem, .slice pn o.name.length cn, .slice pt o.text.length ct, .bool o.gone] 82)).alloc (.cells #[.int .i64 0, .int .i64 0, .int .i64 0, .int .i64 0, .int .i64 0, .int .i64 0, .int .i64 0, .slice none 0 0, .int .i64 0, .slice none 0 0, .slice none 0 0, .bool false] 27)).alloc (.cells #[.int .i64 o.kind, .int .i64 0, .int .i64 0, .int .i64 0, .int .i64 0, .int .i64 0, .int .i64 0, .slice none 0 0, .int .i64 0, .slice none 0 0, .slice none 0 0, .bool false] 27)) := (((Below.refl _ _).alloc (Nat.le_refl _) _).alloc (by simp) _).alloc (by simp; omega) _
  simp only [World.size_alloc] at l1 l2
  have L := hide (And.intro l0 (And.intro l1 (And.intro l2 hA)))
  clear l0 l1 l2 hA
  go_enter Try.func63, Try.ntmps63
  go_wp2_with fail
  obtain ⟨l0, l1, l2, hA⟩ := unhide L
  clear L
  generalize (((w.alloc (.cells #[.int .i64 o.kind, .int .i64 o.atN, .int .i64 o.atR, .int .i64 o.nodeN, .int .i64 o.nodeR, .int .i64 o.parN, .int .i64 o.parR, .slice pk o.key.length ck, .int .i64 o.elem, .slice pn o.name.length cn, .slice pt o.text.length ct, .bool o.gone] 82)).alloc (.cells #[.int .i64 0, .int .i64 0, .int .i64 0, .int .i64 0, .int .i64 0, .int .i64 0, .int .i64 0, .slice none 0 0, .int .i64 0, .slice none 0 0, .slice none 0 0, .bool false] 27)).alloc (.cells #[.int .i64 o.kind, .int .i64 0, .int .i64 0, .int .i64 0, .int .i64 0, .int .i64 0, .int .i64 0, .slice none 0 0, .int .i64 0, .slice none 0 0, .slice none 0 0, .bool false] 27)) = W at *
  refine (toId_any _ o.atN o.atR).mono ?_
  rintro e w1 ⟨rfl, hB⟩
  replace l0 := l0.all hB
  replace l1 := l1.all hB
  replace l2 := l2.all hB
  replace hA := bstep hA hB
  clear hB
  have e0_3 := l0.cell 3
  have e0_4 := l0.cell 4
  have e2_1 := l2.cell 1
  have f2_1 := l2.frozen 1
  have e2_2 := l2.cell 2
  have f2_2 := l2.frozen 2
  simp at e0_3 e0_4 e2_1 e2_2
  have m0 : Loc ((w1.setCell ⟨w.heap.size + 1 + 1, 1, none⟩ (.int .i64 o.atN)).setCell ⟨w.heap.size + 1 + 1, 2, none⟩ (.int .i64 o.atR)) w.heap.size #[.int .i64 o.kind, .int .i64 o.atN, .int .i64 o.atR, .int .i64 o.nodeN, .int .i64 o.nodeR, .int .i64 o.parN, .int .i64 o.parR, .slice pk o.key.length ck, .int .i64 o.elem, .slice pn o.name.length cn, .slice pt o.text.length ct, .bool o.gone] 82 := ((l0.other _ _ _ (by omega)).other _ _ _ (by omega))
  have m1 : Loc ((w1.setCell ⟨w.heap.size + 1 + 1, 1, none⟩ (.int .i64 o.atN)).setCell ⟨w.heap.size + 1 + 1, 2, none⟩ (.int .i64 o.atR)) (w.heap.size + 1) #[.int .i64 0, .int .i64 0, .int .i64 0, .int .i64 0, .int .i64 0, .int .i64 0, .int .i64 0, .slice none 0 0, .int .i64 0, .slice none 0 0, .slice none 0 0, .bool false] 27 := ((l1.other _ _ _ (by omega)).other _ _ _ (by omega))
  have m2 : Loc ((w1.setCell ⟨w.heap.size + 1 + 1, 1, none⟩ (.int .i64 o.atN)).setCell ⟨w.heap.size + 1 + 1, 2, none⟩ (.int .i64 o.atR)) (w.heap.size + 1 + 1) #[.int .i64 o.kind, .int .i64 o.atN, .int .i64 o.atR, .int .i64 0, .int .i64 0, .int .i64 0, .int .i64 0, .slice none 0 0, .int .i64 0, .slice none 0 0, .slice none 0 0, .bool false] 27 := ((l2.set 1 (.int .i64 o.atN)).set 2 (.int .i64 o.atR)).be (by simp)
  have hf : Frm w1 ((w1.setCell ⟨w.heap.size + 1 + 1, 1, none⟩ (.int .i64 o.atN)).setCell ⟨w.heap.size + 1 + 1, 2, none⟩ (.int .i64 o.atR)) [w.heap.size + 1 + 1] := ((set_frm _ _ _ _).trans (set_frm _ _ _ _))
  have hA2 : Below w.heap.size w ((w1.setCell ⟨w.heap.size + 1 + 1, 1, none⟩ (.int .i64 o.atN)).setCell ⟨w.heap.size + 1 + 1, 2, none⟩ (.int .i64 o.atR)) := hA.trans (hf.below hA.size (fun g hg => by simp at hg; omega))
  have L := hide (And.intro m0 (And.intro m1 (And.intro m2 hA2)))
  clear m0 m1 m2 hf hA2 l0 l1 l2 hA
  go_wp2_with fail
  obtain ⟨l0, l1, l2, hA⟩ := unhide L
  clear L
  clear e0_3 e0_4 e2_1 f2_1 e2_2 f2_2
  refine (toId_any _ o.nodeN o.nodeR).mono ?_
  rintro e w2 ⟨rfl, hB⟩
  replace l0 := l0.all hB
  replace l1 := l1.all hB
  replace l2 := l2.all hB
  replace hA := bstep hA hB
  clear hB
  have e0_5 := l0.cell 5
  have e0_6 := l0.cell 6
  have e2_3 := l2.cell 3
  have f2_3 := l2.frozen 3
  have e2_4 := l2.cell 4
  have f2_4 := l2.frozen 4
  simp at e0_5 e0_6 e2_3 e2_4
  have m0 : Loc ((w2.setCell ⟨w.heap.size + 1 + 1, 3, none⟩ (.int .i64 o.nodeN)).setCell ⟨w.heap.size + 1 + 1, 4, none⟩ (.int .i64 o.nodeR)) w.heap.size #[.int .i64 o.kind, .int .i64 o.atN, .int .i64 o.atR, .int .i64 o.nodeN, .int .i64 o.nodeR, .int .i64 o.parN, .int .i64 o.parR, .slice pk o.key.length ck, .int .i64 o.elem, .slice pn o.name.length cn, .slice pt o.text.length ct, .bool o.gone] 82 := ((l0.other _ _ _ (by omega)).other _ _ _ (by omega))
  have m1 : Loc ((w2.setCell ⟨w.heap.size + 1 + 1, 3, none⟩ (.int .i64 o.nodeN)).setCell ⟨w.heap.size + 1 + 1, 4, none⟩ (.int .i64 o.nodeR)) (w.heap.size + 1) #[.int .i64 0, .int .i64 0, .int .i64 0, .int .i64 0, .int .i64 0, .int .i64 0, .int .i64 0, .slice none 0 0, .int .i64 0, .slice none 0 0, .slice none 0 0, .bool false] 27 := ((l1.other _ _ _ (by omega)).other _ _ _ (by omega))
  have m2 : Loc ((w2.setCell ⟨w.heap.size + 1 + 1, 3, none⟩ (.int .i64 o.nodeN)).setCell ⟨w.heap.size + 1 + 1, 4, none⟩ (.int .i64 o.nodeR)) (w.heap.size + 1 + 1) #[.int .i64 o.kind, .int .i64 o.atN, .int .i64 o.atR, .int .i64 o.nodeN, .int .i64 o.nodeR, .int .i64 0, .int .i64 0, .slice none 0 0, .int .i64 0, .slice none 0 0, .slice none 0 0, .bool false] 27 := ((l2.set 3 (.int .i64 o.nodeN)).set 4 (.int .i64 o.nodeR)).be (by simp)
  have hf : Frm w2 ((w2.setCell ⟨w.heap.size + 1 + 1, 3, none⟩ (.int .i64 o.nodeN)).setCell ⟨w.heap.size + 1 + 1, 4, none⟩ (.int .i64 o.nodeR)) [w.heap.size + 1 + 1] := ((set_frm _ _ _ _).trans (set_frm _ _ _ _))
  have hA2 : Below w.heap.size w ((w2.setCell ⟨w.heap.size + 1 + 1, 3, none⟩ (.int .i64 o.nodeN)).setCell ⟨w.heap.size + 1 + 1, 4, none⟩ (.int .i64 o.nodeR)) := hA.trans (hf.below hA.size (fun g hg => by simp at hg; omega))
  have L := hide (And.intro m0 (And.intro m1 (And.intro m2 hA2)))
  clear m0 m1 m2 hf hA2 l0 l1 l2 hA
  go_wp2_with fail
  obtain ⟨l0, l1, l2, hA⟩ := unhide L
  clear L
  clear e0_5 e0_6 e2_3 f2_3 e2_4 f2_4
  refine (toId_any _ o.parN o.parR).mono ?_
  rintro e w3 ⟨rfl, hB⟩
  replace l0 := l0.all hB
  replace l1 := l1.all hB
  replace l2 := l2.all hB
  replace hA := bstep hA hB
  clear hB
  have e0_7 := l0.cell 7
  have e2_5 := l2.cell 5
  have f2_5 := l2.frozen 5
  have e2_6 := l2.cell 6
  have f2_6 := l2.frozen 6
  simp at e0_7 e2_5 e2_6
  have m0 : Loc ((w3.setCell ⟨w.heap.size + 1 + 1, 5, none⟩ (.int .i64 o.parN)).setCell ⟨w.heap.size + 1 + 1, 6, none⟩ (.int .i64 o.parR)) w.heap.size #[.int .i64 o.kind, .int .i64 o.atN, .int .i64 o.atR, .int .i64 o.nodeN, .int .i64 o.nodeR, .int .i64 o.parN, .int .i64 o.parR, .slice pk o.key.length ck, .int .i64 o.elem, .slice pn o.name.length cn, .slice pt o.text.length ct, .bool o.gone] 82 := ((l0.other _ _ _ (by omega)).other _ _ _ (by omega))
  have m1 : Loc ((w3.setCell ⟨w.heap.size + 1 + 1, 5, none⟩ (.int .i64 o.parN)).setCell ⟨w.heap.size + 1 + 1, 6, none⟩ (.int .i64 o.parR)) (w.heap.size + 1) #[.int .i64 0, .int .i64 0, .int .i64 0, .int .i64 0, .int .i64 0, .int .i64 0, .int .i64 0, .slice none 0 0, .int .i64 0, .slice none 0 0, .slice none 0 0, .bool false] 27 := ((l1.other _ _ _ (by omega)).other _ _ _ (by omega))
  have m2 : Loc ((w3.setCell ⟨w.heap.size + 1 + 1, 5, none⟩ (.int .i64 o.parN)).setCell ⟨w.heap.size + 1 + 1, 6, none⟩ (.int .i64 o.parR)) (w.heap.size + 1 + 1) #[.int .i64 o.kind, .int .i64 o.atN, .int .i64 o.atR, .int .i64 o.nodeN, .int .i64 o.nodeR, .int .i64 o.parN, .int .i64 o.parR, .slice none 0 0, .int .i64 0, .slice none 0 0, .slice none 0 0, .bool false] 27 := ((l2.set 5 (.int .i64 o.parN)).set 6 (.int .i64 o.parR)).be (by simp)
  have hf : Frm w3 ((w3.setCell ⟨w.heap.size + 1 + 1, 5, none⟩ (.int .i64 o.parN)).setCell ⟨w.heap.size + 1 + 1, 6, none⟩ (.int .i64 o.parR)) [w.heap.size + 1 + 1] := ((set_frm _ _ _ _).trans (set_frm _ _ _ _))
  have hA2 : Below w.heap.size w ((w3.setCell ⟨w.heap.size + 1 + 1, 5, none⟩ (.int .i64 o.parN)).setCell ⟨w.heap.size + 1 + 1, 6, none⟩ (.int .i64 o.parR)) := hA.trans (hf.below hA.size (fun g hg => by simp at hg; omega))
  have L := hide (And.intro m0 (And.intro m1 (And.intro m2 hA2)))
  clear m0 m1 m2 hf hA2 l0 l1 l2 hA
  go_wp2_with fail
  obtain ⟨l0, l1, l2, hA⟩ := unhide L
  clear L
  clear e0_7 e2_5 f2_5 e2_6 f2_6
  have zk := l2.lt
  refine (toZ_any _ _ o.key ((unhide H).1.keep hA) (by have := unhide HS; omega)).mono ?_
  rintro e w4 ⟨vk, rfl, ok, _, hB⟩
  obtain ⟨ak, dk, hvk, _, _⟩ := ok.ints.shape
  subst hvk
  have rk := ok.rng
  have sk := hB.size
  replace l0 := l0.all hB
  replace l1 := l1.all hB
  replace l2 := l2.all hB
  replace hA := bstep hA hB
  clear hB
  have e0_8 := l0.cell 8
  have e0_9 := l0.cell 9
  have e2_7 := l2.cell 7
  have f2_7 := l2.frozen 7
  have e2_8 := l2.cell 8
  have f2_8 := l2.frozen 8
  simp at e0_8 e0_9 e2_7 e2_8
  have m0 : Loc ((w4.setCell ⟨w.heap.size + 1 + 1, 7, none⟩ (.slice ak o.key.length dk)).setCell ⟨w.heap.size + 1 + 1, 8, none⟩ (.int .i64 o.elem)) w.heap.size #[.int .i64 o.kind, .int .i64 o.atN, .int .i64 o.atR, .int .i64 o.nodeN, .int .i64 o.nodeR, .int .i64 o.parN, .int .i64 o.parR, .slice pk o.key.length ck, .int .i64 o.elem, .slice pn o.name.length cn, .slice pt o.text.length ct, .bool o.gone] 82 := ((l0.other _ _ _ (by omega)).other _ _ _ (by omega))
  have m1 : Loc ((w4.setCell ⟨w.heap.size + 1 + 1, 7, none⟩ (.slice ak o.key.length dk)).setCell ⟨w.heap.size + 1 + 1, 8, none⟩ (.int .i64 o.elem)) (w.heap.size + 1) #[.int .i64 0, .int .i64 0, .int .i64 0, .int .i64 0, .int .i64 0, .int .i64 0, .int .i64 0, .slice none 0 0, .int .i64 0, .slice none 0 0, .slice none 0 0, .bool false] 27 := ((l1.other _ _ _ (by omega)).other _ _ _ (by omega))
  have m2 : Loc ((w4.setCell ⟨w.heap.size + 1 + 1, 7, none⟩ (.slice ak o.key.length dk)).setCell ⟨w.heap.size + 1 + 1, 8, none⟩ (.int .i64 o.elem)) (w.heap.size + 1 + 1) #[.int .i64 o.kind, .int .i64 o.atN, .int .i64 o.atR, .int .i64 o.nodeN, .int .i64 o.nodeR, .int .i64 o.parN, .int .i64 o.parR, .slice ak o.key.length dk, .int .i64 o.elem, .slice none 0 0, .slice none 0 0, .bool false] 27 := ((l2.set 7 (.slice ak o.key.length dk)).set 8 (.int .i64 o.elem)).be (by simp)
  have hf : Frm w4 ((w4.setCell ⟨w.heap.size + 1 + 1, 7, none⟩ (.slice ak o.key.length dk)).setCell ⟨w.heap.size + 1 + 1, 8, none⟩ (.int .i64 o.elem)) [w.heap.size + 1 + 1] := ((set_frm _ _ _ _).trans (set_frm _ _ _ _))
  have hA2 : Below w.heap.size w ((w4.setCell ⟨w.heap.size + 1 + 1, 7, none⟩ (.slice ak o.key.length dk)).setCell ⟨w.heap.size + 1 + 1, 8, none⟩ (.int .i64 o.elem)) := hA.trans (hf.below hA.size (fun g hg => by simp at hg; omega))
  have qk := ok.frm hf (fun g hg => by have := rk g hg; simp; omega)
  have L := hide (And.intro qk (And.intro m0 (And.intro m1 (And.intro m2 hA2))))
  clear m0 m1 m2 hf hA2 l0 l1 l2 hA qk ok
  go_wp2_with fail
  obtain ⟨ok, l0, l1, l2, hA⟩ := unhide L
  clear L
  clear e0_8 e0_9 e2_7 f2_7 e2_8 f2_8
  have zn := l2.lt
  refine (toB_any _ _ o.name ((unhide H).2.1.keep hA) (by have := unhide HS; omega)).mono ?_
  rintro e w5 ⟨vn, rfl, on, _, hB⟩
  obtain ⟨an, dn, hvn, _, _⟩ := on.byt.shape
  subst hvn
  have rn := on.rng
  replace ok := ok.keep hB
  have sn := hB.size
  replace l0 := l0.all hB
  replace l1 := l1.all hB
  replace l2 := l2.all hB
  replace hA := bstep hA hB
  clear hB
  have e0_10 := l0.cell 10
  have e2_9 := l2.cell 9
  have f2_9 := l2.frozen 9
  simp at e0_10 e2_9
  have m0 : Loc (w5.setCell ⟨w.heap.size + 1 + 1, 9, none⟩ (.slice an o.name.length dn)) w.heap.size #[.int .i64 o.kind, .int .i64 o.atN, .int .i64 o.atR, .int .i64 o.nodeN, .int .i64 o.nodeR, .int .i64 o.parN, .int .i64 o.parR, .slice pk o.key.length ck, .int .i64 o.elem, .slice pn o.name.length cn, .slice pt o.text.length ct, .bool o.gone] 82 := (l0.other _ _ _ (by omega))
  have m1 : Loc (w5.setCell ⟨w.heap.size + 1 + 1, 9, none⟩ (.slice an o.name.length dn)) (w.heap.size + 1) #[.int .i64 0, .int .i64 0, .int .i64 0, .int .i64 0, .int .i64 0, .int .i64 0, .int .i64 0, .slice none 0 0, .int .i64 0, .slice none 0 0, .slice none 0 0, .bool false] 27 := (l1.other _ _ _ (by omega))
  have m2 : Loc (w5.setCell ⟨w.heap.size + 1 + 1, 9, none⟩ (.slice an o.name.length dn)) (w.heap.size + 1 + 1) #[.int .i64 o.kind, .int .i64 o.atN, .int .i64 o.atR, .int .i64 o.nodeN, .int .i64 o.nodeR, .int .i64 o.parN, .int .i64 o.parR, .slice ak o.key.length dk, .int .i64 o.elem, .slice an o.name.length dn, .slice none 0 0, .bool false] 27 := (l2.set 9 (.slice an o.name.length dn)).be (by simp)
  have hf : Frm w5 (w5.setCell ⟨w.heap.size + 1 + 1, 9, none⟩ (.slice an o.name.length dn)) [w.heap.size + 1 + 1] := (set_frm _ _ _ _)
  have hA2 : Below w.heap.size w (w5.setCell ⟨w.heap.size + 1 + 1, 9, none⟩ (.slice an o.name.length dn)) := hA.trans (hf.below hA.size (fun g hg => by simp at hg; omega))
  have qk := ok.frm hf (fun g hg => by have := rk g hg; simp; omega)
  have qn := on.frm hf (fun g hg => by have := rn g hg; simp; omega)
  have L := hide (And.intro qn (And.intro qk (And.intro m0 (And.intro m1 (And.intro m2 hA2)))))
  clear m0 m1 m2 hf hA2 l0 l1 l2 hA qk ok qn on
  go_wp2_with fail
  obtain ⟨on, ok, l0, l1, l2, hA⟩ := unhide L
  clear L
  clear e0_10 e2_9 f2_9
  have zt := l2.lt
  refine (toB_any _ _ o.text ((unhide H).2.2.keep hA) (by have := unhide HS; omega)).mono ?_
  rintro e w6 ⟨vt, rfl, ot, _, hB⟩
  obtain ⟨at1, dt, hvt, _, _⟩ := ot.byt.shape
  subst hvt
  have rt := ot.rng
  replace ok := ok.keep hB
  replace on := on.keep hB
  have st := hB.size
  replace l0 := l0.all hB
  replace l1 := l1.all hB
  replace l2 := l2.all hB
  replace hA := bstep hA hB
  clear hB
  have e0_11 := l0.cell 11
  have e2_10 := l2.cell 10
  have f2_10 := l2.frozen 10
  have e2_11 := l2.cell 11
  have f2_11 := l2.frozen 11
  simp at e0_11 e2_10 e2_11
  have e2_0 := l2.cell 0
  have e2_1 := l2.cell 1
  have e2_2 := l2.cell 2
  have e2_3 := l2.cell 3
  have e2_4 := l2.cell 4
  have e2_5 := l2.cell 5
  have e2_6 := l2.cell 6
  have e2_7 := l2.cell 7
  have e2_8 := l2.cell 8
  have e2_9 := l2.cell 9
  have e1_0 := l1.cell 0
  have f1_0 := l1.frozen 0
  have e1_1 := l1.cell 1
  have f1_1 := l1.frozen 1
  have e1_2 := l1.cell 2
  have f1_2 := l1.frozen 2
  have e1_3 := l1.cell 3
  have f1_3 := l1.frozen 3
  have e1_4 := l1.cell 4
  have f1_4 := l1.frozen 4
  have e1_5 := l1.cell 5
  have f1_5 := l1.frozen 5
  have e1_6 := l1.cell 6
  have f1_6 := l1.frozen 6
  have e1_7 := l1.cell 7
  have f1_7 := l1.frozen 7
  have e1_8 := l1.cell 8
  have f1_8 := l1.frozen 8
  have e1_9 := l1.cell 9
  have f1_9 := l1.frozen 9
  have e1_10 := l1.cell 10
  have f1_10 := l1.frozen 10
  have e1_11 := l1.cell 11
  have f1_11 := l1.frozen 11
  simp at e2_0 e2_1 e2_2 e2_3 e2_4 e2_5 e2_6 e2_7 e2_8 e2_9 e1_0 e1_1 e1_2 e1_3 e1_4 e1_5 e1_6 e1_7 e1_8 e1_9 e1_10 e1_11
  have hf : Frm w6 ((((((((((((((w6.setCell ⟨w.heap.size + 1 + 1, 10, none⟩ (.slice at1 o.text.length dt)).setCell ⟨w.heap.size + 1 + 1, 11, none⟩ (.bool o.gone)).setCell ⟨w.heap.size + 1, 0, none⟩ (.int .i64 o.kind)).setCell ⟨w.heap.size + 1, 1, none⟩ (.int .i64 o.atN)).setCell ⟨w.heap.size + 1, 2, none⟩ (.int .i64 o.atR)).setCell ⟨w.heap.size + 1, 3, none⟩ (.int .i64 o.nodeN)).setCell ⟨w.heap.size + 1, 4, none⟩ (.int .i64 o.nodeR)).setCell ⟨w.heap.size + 1, 5, none⟩ (.int .i64 o.parN)).setCell ⟨w.heap.size + 1, 6, none⟩ (.int .i64 o.parR)).setCell ⟨w.heap.size + 1, 7, none⟩ (.slice ak o.key.length dk)).setCell ⟨w.heap.size + 1, 8, none⟩ (.int .i64 o.elem)).setCell ⟨w.heap.size + 1, 9, none⟩ (.slice an o.name.length dn)).setCell ⟨w.heap.size + 1, 10, none⟩ (.slice at1 o.text.length dt)).setCell ⟨w.heap.size + 1, 11, none⟩ (.bool o.gone)) [w.heap.size + 1 + 1, w.heap.size + 1] := (((((((((((((((set_frm _ _ _ _).mono (by simp)).trans ((set_frm _ _ _ _).mono (by simp))).trans ((set_frm _ _ _ _).mono (by simp))).trans ((set_frm _ _ _ _).mono (by simp))).trans ((set_frm _ _ _ _).mono (by simp))).trans ((set_frm _ _ _ _).mono (by simp))).trans ((set_frm _ _ _ _).mono (by simp))).trans ((set_frm _ _ _ _).mono (by simp))).trans ((set_frm _ _ _ _).mono (by simp))).trans ((set_frm _ _ _ _).mono (by simp))).trans ((set_frm _ _ _ _).mono (by simp))).trans ((set_frm _ _ _ _).mono (by simp))).trans ((set_frm _ _ _ _).mono (by simp))).trans ((set_frm _ _ _ _).mono (by simp)))
  have hA2 : Below w.heap.size w ((((((((((((((w6.setCell ⟨w.heap.size + 1 + 1, 10, none⟩ (.slice at1 o.text.length dt)).setCell ⟨w.heap.size + 1 + 1, 11, none⟩ (.bool o.gone)).setCell ⟨w.heap.size + 1, 0, none⟩ (.int .i64 o.kind)).setCell ⟨w.heap.size + 1, 1, none⟩ (.int .i64 o.atN)).setCell ⟨w.heap.size + 1, 2, none⟩ (.int .i64 o.atR)).setCell ⟨w.heap.size + 1, 3, none⟩ (.int .i64 o.nodeN)).setCell ⟨w.heap.size + 1, 4, none⟩ (.int .i64 o.nodeR)).setCell ⟨w.heap.size + 1, 5, none⟩ (.int .i64 o.parN)).setCell ⟨w.heap.size + 1, 6, none⟩ (.int .i64 o.parR)).setCell ⟨w.heap.size + 1, 7, none⟩ (.slice ak o.key.length dk)).setCell ⟨w.heap.size + 1, 8, none⟩ (.int .i64 o.elem)).setCell ⟨w.heap.size + 1, 9, none⟩ (.slice an o.name.length dn)).setCell ⟨w.heap.size + 1, 10, none⟩ (.slice at1 o.text.length dt)).setCell ⟨w.heap.size + 1, 11, none⟩ (.bool o.gone)) := hA.trans (hf.below hA.size (fun g hg => by simp at hg; omega))
  have qk := (ok.frm hf (fun g hg => by have := rk g hg; simp; omega)).mono (show w.heap.size ≤ _ by omega)
  have qn := (on.frm hf (fun g hg => by have := rn g hg; simp; omega)).mono (show w.heap.size ≤ _ by omega)
  have qt := (ot.frm hf (fun g hg => by have := rt g hg; simp; omega)).mono (show w.heap.size ≤ _ by omega)
  have hnd : (FB (.slice ak o.key.length dk) ++ FB (.slice an o.name.length dn) ++ FB (.slice at1 o.text.length dt)).Nodup := by
    simp at sn st zn zt
    refine nodup_app (lo := 0) (nodup_app (FB_nodup _) (FB_nodup _) rk (rn.mono (by simp) (Nat.le_refl _))) (FB_nodup _) ((rk.mono (Nat.zero_le _) (by omega)).app (rn.mono (Nat.zero_le _) (Nat.le_refl _))) (rt.mono (by simp) (Nat.le_refl _))
  have L := hide (And.intro qk (And.intro qn (And.intro qt (And.intro hnd hA2))))
  clear qk qn qt hnd hA2 hf l0 l1 l2 hA ok on ot rk rn rt H
  go_wp2_with fail
  obtain ⟨qk, qn, qt, hnd, hA2⟩ := unhide L
  exact bodyPost_ret (v := opVal o (.slice ak o.key.length dk) (.slice an o.name.length dn) (.slice at1 o.text.length dt)) (by simp [results, Try.results63, go_sem, opVal, e1_0, e1_1, e1_2, e1_3, e1_4, e1_5, e1_6, e1_7, e1_8, e1_9, e1_10, e1_11]) rfl ⟨_, _, _, rfl, qk, qn, qt, hnd, hA2⟩

end Go.Proofs.Ytcabolcfoijglaa
