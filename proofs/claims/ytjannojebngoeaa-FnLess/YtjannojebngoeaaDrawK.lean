/- spec.l4drawKey: a row of numbers that is drawn. -/
import Derived.Test.YtjannojebngoeaaDrawI
import Derived.Test.YtjannojebngoeaaAppZ
namespace Go.Proofs.Ytjannojebngoeaa
open Go.RowKit
set_option linter.unusedVariables false
set_option maxRecDepth 100000

theorem OwnZ.past {w w' : World} {base g : Nat} {v : Value} {l : List Int} (h : OwnZ w base v l) (hg : w.grownBy w' (some g)) (hb : g < base) : OwnZ w' base v l :=
  h.keepBy hg (.inr (fun e => by have := h.base_le g e; omega))
theorem intsC_made (w : World) (m : List Int) (n : Nat) (hn : m.length = n) : IntsC (w.alloc (.cells (m.map (Value.int .i64)).toArray 3)) (.slice (some ⟨w.heap.size, 0, none⟩) n n) m := by
  subst hn
  refine ⟨w.heap.size, 0, m.length, rfl, by simp, fun i hi => ?_⟩
  rw [World.cell?_alloc_at _ _ _ _ rfl]
  simp [hi]

/-- A slice's length. -/
def slen : Value → Nat
  | .slice _ n _ => n
  | _ => 0

set_option maxHeartbeats 6400000 in
theorem drawKey_any (w0 w : World) (g : Nat) (code : Value) (l : List Int) (h : Cur w0 w g code l) :
    Calls Try.prog 60 #[.pointer (some ⟨g, 0, none⟩)] w fun e w' => ∃ a c k, e = .returned (.slice a k.length c) ∧ OwnZ w' w.heap.size (.slice a k.length c) k ∧ k.length ≤ 13 ∧ Cur w0 w' g code l ∧ w.grownBy w' (some g) := by
  have hgl := h.lt
  go_enter Try.func60, Try.ntmps60
  go_wp2_with fail
  refine (l1Below_any w0 w g code l 3 h (by omega) (by omega)).mono ?_
  rintro e w1 ⟨n, hn0, hn1, rfl, hC1, hG1⟩
  go_wp2_with fail
  obtain ⟨n, rfl⟩ := Int.eq_ofNat_of_zero_le hn0
  have hn2 : n < 3 := by omega
  clear hn0 hn1
  go_loopw [3, 5] (fun o i wr => ∃ (j : Nat) (a : Option Addr) (c : Nat) (k : List Int), j ≤ 1 + n ∧ i = .int .i64 j ∧ o = .slice a k.length c ∧ OwnZ wr w.heap.size (.slice a k.length c) k ∧ k.length = j ∧ Cur w0 wr g code l ∧ w.grownBy wr (some g)) (fun _ i _ => 1 + n - (intOf i).toNat)
  case atStart => exact ⟨0, none, 0, [], Nat.zero_le _, rfl, rfl, ownz_nil _ _, rfl, hC1, hG1⟩
  case round =>
    obtain ⟨j, a, c, k, hj, rfl, rfl, ho, hk, hC, hG⟩ := hrel
    clear hC1 hG1
    subst hk
    by_cases hlt : k.length < 1 + n
    · have hlt' : (k.length : Int) < 1 + (n : Int) := by omega
      go_wp2_with fail
      refine (l1Below_any w0 wr g code l 9 hC (by omega) (by omega)).mono ?_
      rintro e w2 ⟨x, hx0, hx1, rfl, hC2, hG2⟩
      have ho2 := ho.past hG2 hgl
      have hG2' := grown_trans hG hG2
      clear hC hG hG2 ho
      go_wp2_with fail
      have hA3 := (Below.refl w2.heap.size w2).alloc (Nat.le_refl _) (.cells #[.int .i64 0, .int .i64 1, .int .i64 2, .int .i64 500, .int .i64 999, .int .i64 998, .int .i64 x] 3)
      have hi3 : IntsC (w2.alloc (.cells #[.int .i64 0, .int .i64 1, .int .i64 2, .int .i64 500, .int .i64 999, .int .i64 998, .int .i64 x] 3)) (.slice (some ⟨w2.heap.size, 0, none⟩) 7 7) [0, 1, 2, 500, 999, 998, x] := intsC_made w2 [0, 1, 2, 500, 999, 998, x] 7 rfl
      refine (l1PickInt_any w0 _ g code l _ [0, 1, 2, 500, 999, 998, x] (hC2.keepAll hA3) (by simp) (by simp) hi3 (fun a n c e => by injection e with e; injection e with e; subst e; have := hC2.lt; simp; omega)).mono ?_
      rintro e w4 ⟨y, hy, rfl, hC4, hG4⟩
      have hy0 : 0 ≤ y ∧ y ≤ 999 := by simp at hy; omega
      have ho4 := (ho2.keep hA3).past hG4 hgl
      have hG4' := grown_trans (grown_below hG2' hA3) hG4
      clear hC2 hG2' hA3 hi3 hG4 ho2 hy
      have hY := hide (int_one w4 y (by omega) (by omega))
      go_wp2_with (at_builtin; refine wpList_appZ rfl _ _ rfl w.heap.size _ k rfl (ho4.alloc _) _ [y] rfl (unhide hY) ?c1 ?c2 ?_)
      case c1 => first | omega | (simp; omega)
      case c2 => have := hG4'.size; first | omega | (simp; omega)
      intro v5 w5 ho5 hg5
      have hgn : ∀ q, (Value.slice a k.length c).ownBlock = some q → w.heap.size ≤ q := fun q hq => (ho4.lt q hq).1
      have hA5 := grown_trans (Below.toGrown ((Below.refl w4.heap.size w4).alloc (Nat.le_refl _) (.cells #[.int .i64 y] 3)) _) hg5
      have hG5 := grown_new hG4' hA5 hgn
      have hC5 := hC4.keep hA5 (fun e => by have := hgn g e.symm; omega) (fun q hq => by have := hgn q hq; have := h.below.size; omega)
      obtain ⟨a5, c5, rfl, _, _⟩ := ho5.ints.shape
      clear hY hg5 hA5 hgn ho4 hC4 hG4'
      go_wp2_with fail
      go_roundw
      case rel => exact ⟨k.length + 1, a5, c5, k ++ [y], by omega, by go_num, rfl, ho5, by simp, hC5, hG5⟩
      case measure => simp [intOf]; omega
    · obtain ⟨z, hz⟩ : ∃ z, z = k.getD n 0 := ⟨_, rfl⟩
      have hlk : k.length = n + 1 := by omega
      obtain ⟨q, rfl⟩ : ∃ q, a = some ⟨q, 0, none⟩ := by
        obtain ⟨_, hr⟩ := ho
        rcases hr.2 with ⟨e, h0⟩ | ⟨q, cap, cur, e, _⟩
        · omega
        · exact ⟨q, by injection e⟩
      have hq := ho.lt q rfl
      have hcz : wr.cell? ⟨q, n, none⟩ = some (.int .i64 z) := by rw [hz, ho.2.cellAt n (by omega), valz_at (by omega)]
      have hfz := ho.2.frozenAt n
      have hst := ho.2.stored n (.int .i64 1)
      have hset : (valz k).set n (.int .i64 1) = valz (k.set n 1) := by unfold valz; rw [List.map_set]
      rw [hset] at hst
      have e1 : (k.length : Int) - 1 = (n : Int) := by omega
      have hltn : n < k.length := by omega
      have HS := hide (show OwnZ (wr.setCell ⟨q, n, none⟩ (.int .i64 1)) w.heap.size (.slice (some ⟨q, 0, none⟩) (k.set n 1).length c) (k.set n 1) ∧ wr.grownBy (wr.setCell ⟨q, n, none⟩ (.int .i64 1)) (some q) from ⟨⟨fun y hy => by
          rcases List.mem_or_eq_of_mem_set hy with h' | h'
          · exact ho.1 y h'
          · omega, by rw [List.length_set]; exact hst.1⟩, hst.2⟩)
      clear hst hset hz
      rw [List.length_set] at HS
      have HO := hide ho
      clear ho
      clear hlk
      obtain ⟨N, hN⟩ : ∃ N, N = k.length := ⟨_, rfl⟩
      have HN := hide (show k.length = N ∧ N ≤ 3 from ⟨hN.symm, by omega⟩)
      rw [← hN] at hj hlt e1 hltn HS HO ⊢
      clear hN
      have hlt' : ¬ (N : Int) < 1 + (n : Int) := by omega
      by_cases hz0 : z = 0
      · have dz : (z == 0) = true := by simp [hz0]
        clear hz0
        go_wp2_with fail
        obtain ⟨hoB, hgB⟩ := unhide HS
        have hCB := hC.keep hgB (by simp; omega) (fun r hr => by simp at hr; have := h.below.size; omega)
        have hGB := grown_new hG hgB (fun r hr => by simp at hr; omega)
        have HNB := hide (show (k.set n 1).length = N ∧ N ≤ 3 by rw [List.length_set]; exact unhide HN)
        clear hC hG hgB HS HO HN hcz hfz
        generalize (wr.setCell ⟨q, n, none⟩ (.int .i64 1)) = wB at *
        generalize k.set n 1 = kB at *
        refine (l1Once_any w0 wB g code l 15 hCB (by omega) (by omega)).mono ?_
        rintro e w6 ⟨b6, rfl, hC6, hG6⟩
        have ho6 := hoB.past hG6 hgl
        have hG6' := grown_trans hGB hG6
        clear hoB hCB hGB hG6
        cases b6
        · have HNk := hide (show kB.length = N ∧ N ≤ 4 from ⟨(unhide HNB).1, by have := (unhide HNB).2; omega⟩)
          clear HNB
          generalize kB = kD at *
          go_wp2_with fail
          refine (l1Once_any w0 w6 g code l 30 hC6 (by omega) (by omega)).mono ?_
          rintro e w9 ⟨b9, rfl, hC9, hG9⟩
          have ho9 := ho6.past hG9 hgl
          have hG9' := grown_trans hG6' hG9
          cases b9
          · go_wp2_with fail
            go_ret
            exact ⟨_, _, kD, by rw [(unhide HNk).1]; rfl, by rw [(unhide HNk).1]; exact ho9, by have := unhide HNk; omega, hC9, hG9'⟩
          · go_wp2_with fail
            go_loopw [3] (fun o wr => ∃ (a : Option Addr) (c m : Nat) (k : List Int), o = .slice a m c ∧ OwnZ wr w.heap.size (.slice a m c) k ∧ Hid (k.length = m) ∧ m ≤ 13 ∧ Cur w0 wr g code l ∧ w.grownBy wr (some g)) (fun o _ => 13 - slen o)
            case atStart => exact ⟨_, _, _, kD, rfl, ho9, hide (unhide HNk).1, by have := unhide HNk; omega, hC9, hG9'⟩
            case round =>
              clear ho9 hC9 hG9 hG9'
              obtain ⟨a, c, m, k, rfl, ho, HNk, hm, hC, hG⟩ := hrel
              go_wp2_with fail
              refine (l1Below_any w0 _ g code l 2 hC (by omega) (by omega)).mono ?_
              rintro e wx ⟨x, hx0, hx1, rfl, hCx, hGx⟩
              have hox := ho.past hGx hgl
              have hGx' := grown_trans hG hGx
              clear ho hC hG hGx
              by_cases hlt : (m : Int) < 12 + x
              · have hY := hide (int_one wx 1 (by omega) (by omega))
                go_wp2_with (at_builtin; refine wpList_appZ rfl _ _ rfl w.heap.size _ k rfl (hox.alloc _) _ [1] rfl (unhide hY) ?c1 ?c2 ?_)
                case c1 => have := unhide HNk; first | omega | (simp; omega)
                case c2 => have := hGx'.size; first | omega | (simp; omega)
                intro v7 w7 ho7 hg7
                have hgn := fun q hq => (hox.lt q hq).1
                have hA7 := grown_trans (Below.toGrown ((Below.refl wx.heap.size wx).alloc (Nat.le_refl _) (.cells #[.int .i64 1] 3)) _) hg7
                have hG7 := grown_new hGx' hA7 hgn
                have hC7 := hCx.keep hA7 (fun e => by have := hgn g e.symm; omega) (fun q hq => by have := hgn q hq; have := h.below.size; omega)
                obtain ⟨a7, c7, rfl, _, _⟩ := ho7.ints.shape
                clear hY hg7 hA7 hgn
                go_wp2_with fail
                go_roundw
                case rel => exact ⟨a7, c7, _, k ++ [1], rfl, ho7, hide rfl, by have := unhide HNk; simp; omega, hC7, hG7⟩
                case measure => have := unhide HNk; simp [slen]; omega
              · go_wp2_with fail
                go_ret
                exact ⟨a, c, k, by rw [unhide HNk]; rfl, by rw [unhide HNk]; exact hox, by have := unhide HNk; omega, hCx, hGx'⟩
        · go_wp2_with fail
          have hA7 := (Below.refl w6.heap.size w6).alloc (Nat.le_refl _) (.cells #[.int .i64 0, .int .i64 (-1), .int .i64 1000] 3)
          have hi7 : IntsC (w6.alloc (.cells #[.int .i64 0, .int .i64 (-1), .int .i64 1000] 3)) (.slice (some ⟨w6.heap.size, 0, none⟩) 3 3) [0, -1, 1000] := intsC_made w6 [0, -1, 1000] 3 rfl
          refine (l1PickInt_any w0 _ g code l _ [0, -1, 1000] (hC6.keepAll hA7) (by simp) (by simp) hi7 (fun a n c e => by injection e with e; injection e with e; subst e; have := hC6.lt; simp; omega)).mono ?_
          rintro e w7 ⟨y, hy, rfl, hC7, hG7⟩
          have hy0 : -1 ≤ y ∧ y ≤ 1000 := by simp at hy; omega
          have ho7 := (ho6.keep hA7).past hG7 hgl
          have hG7' := grown_trans (grown_below hG6' hA7) hG7
          clear hA7 hi7 hG7 hy ho6 hC6 hG6'
          have hY := hide (int_one w7 y (by omega) (by omega))
          go_wp2_with (at_builtin; refine wpList_appZ rfl _ _ rfl w.heap.size _ kB rfl (ho7.alloc _) _ [y] rfl (unhide hY) ?c1 ?c2 ?_)
          case c1 => have := unhide HNB; first | omega | (simp; omega)
          case c2 => have := hG7'.size; first | omega | (simp; omega)
          intro v8 w8 ho8 hg8
          have hgn := fun q hq => (ho7.lt q hq).1
          have hA8 := grown_trans (Below.toGrown ((Below.refl w7.heap.size w7).alloc (Nat.le_refl _) (.cells #[.int .i64 y] 3)) _) hg8
          have hG8 := grown_new hG7' hA8 hgn
          have hC8 := hC7.keep hA8 (fun e => by have := hgn g e.symm; omega) (fun q hq => by have := hgn q hq; have := h.below.size; omega)
          obtain ⟨a8, c8, rfl, _, _⟩ := ho8.ints.shape
          obtain ⟨M, hM⟩ : ∃ M, M = (kB ++ [y]).length := ⟨_, rfl⟩
          have HNk := hide (show (kB ++ [y]).length = M ∧ M ≤ 4 from ⟨hM.symm, by rw [hM]; have := unhide HNB; simp; omega⟩)
          rw [← hM] at ho8 ⊢
          clear hM HNB
          generalize kB ++ [y] = kD at *
          clear hY hg8 hA8 hgn ho7 hC7 hG7'
          go_wp2_with fail
          refine (l1Once_any w0 w8 g code l 30 hC8 (by omega) (by omega)).mono ?_
          rintro e w9 ⟨b9, rfl, hC9, hG9⟩
          have ho9 := ho8.past hG9 hgl
          have hG9' := grown_trans hG8 hG9
          cases b9
          · go_wp2_with fail
            go_ret
            exact ⟨_, _, kD, by rw [(unhide HNk).1]; rfl, by rw [(unhide HNk).1]; exact ho9, by have := unhide HNk; omega, hC9, hG9'⟩
          · go_wp2_with fail
            go_loopw [3] (fun o wr => ∃ (a : Option Addr) (c m : Nat) (k : List Int), o = .slice a m c ∧ OwnZ wr w.heap.size (.slice a m c) k ∧ Hid (k.length = m) ∧ m ≤ 13 ∧ Cur w0 wr g code l ∧ w.grownBy wr (some g)) (fun o _ => 13 - slen o)
            case atStart => exact ⟨_, _, _, kD, rfl, ho9, hide (unhide HNk).1, by have := unhide HNk; omega, hC9, hG9'⟩
            case round =>
              clear ho9 hC9 hG9 hG9'
              obtain ⟨a, c, m, k, rfl, ho, HNk, hm, hC, hG⟩ := hrel
              go_wp2_with fail
              refine (l1Below_any w0 _ g code l 2 hC (by omega) (by omega)).mono ?_
              rintro e wx ⟨x, hx0, hx1, rfl, hCx, hGx⟩
              have hox := ho.past hGx hgl
              have hGx' := grown_trans hG hGx
              clear ho hC hG hGx
              by_cases hlt : (m : Int) < 12 + x
              · have hY := hide (int_one wx 1 (by omega) (by omega))
                go_wp2_with (at_builtin; refine wpList_appZ rfl _ _ rfl w.heap.size _ k rfl (hox.alloc _) _ [1] rfl (unhide hY) ?c1 ?c2 ?_)
                case c1 => have := unhide HNk; first | omega | (simp; omega)
                case c2 => have := hGx'.size; first | omega | (simp; omega)
                intro v7 w7 ho7 hg7
                have hgn := fun q hq => (hox.lt q hq).1
                have hA7 := grown_trans (Below.toGrown ((Below.refl wx.heap.size wx).alloc (Nat.le_refl _) (.cells #[.int .i64 1] 3)) _) hg7
                have hG7 := grown_new hGx' hA7 hgn
                have hC7 := hCx.keep hA7 (fun e => by have := hgn g e.symm; omega) (fun q hq => by have := hgn q hq; have := h.below.size; omega)
                obtain ⟨a7, c7, rfl, _, _⟩ := ho7.ints.shape
                clear hY hg7 hA7 hgn
                go_wp2_with fail
                go_roundw
                case rel => exact ⟨a7, c7, _, k ++ [1], rfl, ho7, hide rfl, by have := unhide HNk; simp; omega, hC7, hG7⟩
                case measure => have := unhide HNk; simp [slen]; omega
              · go_wp2_with fail
                go_ret
                exact ⟨a, c, k, by rw [unhide HNk]; rfl, by rw [unhide HNk]; exact hox, by have := unhide HNk; omega, hCx, hGx'⟩
      · have dz : (z == 0) = false := by simpa using hz0
        clear hz0
        go_wp2_with fail
        have hoB := unhide HO
        have hCB := hC
        have hGB := hG
        have HNB := HN
        clear hC hG HS HO HN hcz hfz
        obtain ⟨wB, ewB⟩ : ∃ x, x = wr := ⟨_, rfl⟩
        subst ewB
        generalize k = kB at *
        refine (l1Once_any w0 wB g code l 15 hCB (by omega) (by omega)).mono ?_
        rintro e w6 ⟨b6, rfl, hC6, hG6⟩
        have ho6 := hoB.past hG6 hgl
        have hG6' := grown_trans hGB hG6
        clear hoB hCB hGB hG6
        cases b6
        · have HNk := hide (show kB.length = N ∧ N ≤ 4 from ⟨(unhide HNB).1, by have := (unhide HNB).2; omega⟩)
          clear HNB
          generalize kB = kD at *
          go_wp2_with fail
          refine (l1Once_any w0 w6 g code l 30 hC6 (by omega) (by omega)).mono ?_
          rintro e w9 ⟨b9, rfl, hC9, hG9⟩
          have ho9 := ho6.past hG9 hgl
          have hG9' := grown_trans hG6' hG9
          cases b9
          · go_wp2_with fail
            go_ret
            exact ⟨_, _, kD, by rw [(unhide HNk).1]; rfl, by rw [(unhide HNk).1]; exact ho9, by have := unhide HNk; omega, hC9, hG9'⟩
          · go_wp2_with fail
            go_loopw [3] (fun o wr => ∃ (a : Option Addr) (c m : Nat) (k : List Int), o = .slice a m c ∧ OwnZ wr w.heap.size (.slice a m c) k ∧ Hid (k.length = m) ∧ m ≤ 13 ∧ Cur w0 wr g code l ∧ w.grownBy wr (some g)) (fun o _ => 13 - slen o)
            case atStart => exact ⟨_, _, _, kD, rfl, ho9, hide (unhide HNk).1, by have := unhide HNk; omega, hC9, hG9'⟩
            case round =>
              clear ho9 hC9 hG9 hG9'
              obtain ⟨a, c, m, k, rfl, ho, HNk, hm, hC, hG⟩ := hrel
              go_wp2_with fail
              refine (l1Below_any w0 _ g code l 2 hC (by omega) (by omega)).mono ?_
              rintro e wx ⟨x, hx0, hx1, rfl, hCx, hGx⟩
              have hox := ho.past hGx hgl
              have hGx' := grown_trans hG hGx
              clear ho hC hG hGx
              by_cases hlt : (m : Int) < 12 + x
              · have hY := hide (int_one wx 1 (by omega) (by omega))
                go_wp2_with (at_builtin; refine wpList_appZ rfl _ _ rfl w.heap.size _ k rfl (hox.alloc _) _ [1] rfl (unhide hY) ?c1 ?c2 ?_)
                case c1 => have := unhide HNk; first | omega | (simp; omega)
                case c2 => have := hGx'.size; first | omega | (simp; omega)
                intro v7 w7 ho7 hg7
                have hgn := fun q hq => (hox.lt q hq).1
                have hA7 := grown_trans (Below.toGrown ((Below.refl wx.heap.size wx).alloc (Nat.le_refl _) (.cells #[.int .i64 1] 3)) _) hg7
                have hG7 := grown_new hGx' hA7 hgn
                have hC7 := hCx.keep hA7 (fun e => by have := hgn g e.symm; omega) (fun q hq => by have := hgn q hq; have := h.below.size; omega)
                obtain ⟨a7, c7, rfl, _, _⟩ := ho7.ints.shape
                clear hY hg7 hA7 hgn
                go_wp2_with fail
                go_roundw
                case rel => exact ⟨a7, c7, _, k ++ [1], rfl, ho7, hide rfl, by have := unhide HNk; simp; omega, hC7, hG7⟩
                case measure => have := unhide HNk; simp [slen]; omega
              · go_wp2_with fail
                go_ret
                exact ⟨a, c, k, by rw [unhide HNk]; rfl, by rw [unhide HNk]; exact hox, by have := unhide HNk; omega, hCx, hGx'⟩
        · go_wp2_with fail
          have hA7 := (Below.refl w6.heap.size w6).alloc (Nat.le_refl _) (.cells #[.int .i64 0, .int .i64 (-1), .int .i64 1000] 3)
          have hi7 : IntsC (w6.alloc (.cells #[.int .i64 0, .int .i64 (-1), .int .i64 1000] 3)) (.slice (some ⟨w6.heap.size, 0, none⟩) 3 3) [0, -1, 1000] := intsC_made w6 [0, -1, 1000] 3 rfl
          refine (l1PickInt_any w0 _ g code l _ [0, -1, 1000] (hC6.keepAll hA7) (by simp) (by simp) hi7 (fun a n c e => by injection e with e; injection e with e; subst e; have := hC6.lt; simp; omega)).mono ?_
          rintro e w7 ⟨y, hy, rfl, hC7, hG7⟩
          have hy0 : -1 ≤ y ∧ y ≤ 1000 := by simp at hy; omega
          have ho7 := (ho6.keep hA7).past hG7 hgl
          have hG7' := grown_trans (grown_below hG6' hA7) hG7
          clear hA7 hi7 hG7 hy ho6 hC6 hG6'
          have hY := hide (int_one w7 y (by omega) (by omega))
          go_wp2_with (at_builtin; refine wpList_appZ rfl _ _ rfl w.heap.size _ kB rfl (ho7.alloc _) _ [y] rfl (unhide hY) ?c1 ?c2 ?_)
          case c1 => have := unhide HNB; first | omega | (simp; omega)
          case c2 => have := hG7'.size; first | omega | (simp; omega)
          intro v8 w8 ho8 hg8
          have hgn := fun q hq => (ho7.lt q hq).1
          have hA8 := grown_trans (Below.toGrown ((Below.refl w7.heap.size w7).alloc (Nat.le_refl _) (.cells #[.int .i64 y] 3)) _) hg8
          have hG8 := grown_new hG7' hA8 hgn
          have hC8 := hC7.keep hA8 (fun e => by have := hgn g e.symm; omega) (fun q hq => by have := hgn q hq; have := h.below.size; omega)
          obtain ⟨a8, c8, rfl, _, _⟩ := ho8.ints.shape
          obtain ⟨M, hM⟩ : ∃ M, M = (kB ++ [y]).length := ⟨_, rfl⟩
          have HNk := hide (show (kB ++ [y]).length = M ∧ M ≤ 4 from ⟨hM.symm, by rw [hM]; have := unhide HNB; simp; omega⟩)
          rw [← hM] at ho8 ⊢
          clear hM HNB
          generalize kB ++ [y] = kD at *
          clear hY hg8 hA8 hgn ho7 hC7 hG7'
          go_wp2_with fail
          refine (l1Once_any w0 w8 g code l 30 hC8 (by omega) (by omega)).mono ?_
          rintro e w9 ⟨b9, rfl, hC9, hG9⟩
          have ho9 := ho8.past hG9 hgl
          have hG9' := grown_trans hG8 hG9
          cases b9
          · go_wp2_with fail
            go_ret
            exact ⟨_, _, kD, by rw [(unhide HNk).1]; rfl, by rw [(unhide HNk).1]; exact ho9, by have := unhide HNk; omega, hC9, hG9'⟩
          · go_wp2_with fail
            go_loopw [3] (fun o wr => ∃ (a : Option Addr) (c m : Nat) (k : List Int), o = .slice a m c ∧ OwnZ wr w.heap.size (.slice a m c) k ∧ Hid (k.length = m) ∧ m ≤ 13 ∧ Cur w0 wr g code l ∧ w.grownBy wr (some g)) (fun o _ => 13 - slen o)
            case atStart => exact ⟨_, _, _, kD, rfl, ho9, hide (unhide HNk).1, by have := unhide HNk; omega, hC9, hG9'⟩
            case round =>
              clear ho9 hC9 hG9 hG9'
              obtain ⟨a, c, m, k, rfl, ho, HNk, hm, hC, hG⟩ := hrel
              go_wp2_with fail
              refine (l1Below_any w0 _ g code l 2 hC (by omega) (by omega)).mono ?_
              rintro e wx ⟨x, hx0, hx1, rfl, hCx, hGx⟩
              have hox := ho.past hGx hgl
              have hGx' := grown_trans hG hGx
              clear ho hC hG hGx
              by_cases hlt : (m : Int) < 12 + x
              · have hY := hide (int_one wx 1 (by omega) (by omega))
                go_wp2_with (at_builtin; refine wpList_appZ rfl _ _ rfl w.heap.size _ k rfl (hox.alloc _) _ [1] rfl (unhide hY) ?c1 ?c2 ?_)
                case c1 => have := unhide HNk; first | omega | (simp; omega)
                case c2 => have := hGx'.size; first | omega | (simp; omega)
                intro v7 w7 ho7 hg7
                have hgn := fun q hq => (hox.lt q hq).1
                have hA7 := grown_trans (Below.toGrown ((Below.refl wx.heap.size wx).alloc (Nat.le_refl _) (.cells #[.int .i64 1] 3)) _) hg7
                have hG7 := grown_new hGx' hA7 hgn
                have hC7 := hCx.keep hA7 (fun e => by have := hgn g e.symm; omega) (fun q hq => by have := hgn q hq; have := h.below.size; omega)
                obtain ⟨a7, c7, rfl, _, _⟩ := ho7.ints.shape
                clear hY hg7 hA7 hgn
                go_wp2_with fail
                go_roundw
                case rel => exact ⟨a7, c7, _, k ++ [1], rfl, ho7, hide rfl, by have := unhide HNk; simp; omega, hC7, hG7⟩
                case measure => have := unhide HNk; simp [slen]; omega
              · go_wp2_with fail
                go_ret
                exact ⟨a, c, k, by rw [unhide HNk]; rfl, by rw [unhide HNk]; exact hox, by have := unhide HNk; omega, hCx, hGx'⟩
end Go.Proofs.Ytjannojebngoeaa
