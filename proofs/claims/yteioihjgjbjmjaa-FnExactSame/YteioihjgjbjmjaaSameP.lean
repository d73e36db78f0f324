/- impl.samePart answers whether two parts are one, their kids aside. -/
import Derived.Test.YteioihjgjbjmjaaSameA
namespace Go.Proofs.Yteioihjgjbjmjaa
open Go.RowKit
set_option linter.unusedVariables false
set_option maxRecDepth 100000

theorem Loc.six {w : World} {g : Nat} {a b c d e f : Value} {T : TypeId} (h : Loc w g #[a, b, c, d, e, f] T) :
    w.cell? ⟨g, 0, none⟩ = some a ∧ w.cell? ⟨g, 1, none⟩ = some b ∧ w.cell? ⟨g, 2, none⟩ = some c ∧ w.cell? ⟨g, 3, none⟩ = some d ∧ w.cell? ⟨g, 4, none⟩ = some e ∧ w.cell? ⟨g, 5, none⟩ = some f :=
  ⟨h.cell 0, h.cell 1, h.cell 2, h.cell 3, h.cell 4, h.cell 5⟩

set_option maxHeartbeats 3200000 in
theorem samePart_any (w : World) (dp dp' z z' : Int) (b c d b' c' d' : Value) (ae ae' : Option Addr) (ne ce ne' ce' : Nat) (nm nm' tx tx' : List Int) (ats ats' : List (List Int × List Int))
    (hb : Byt w b nm) (hc : Byt w c tx) (hd : RdAttrs w d ats) (hb' : Byt w b' nm') (hc' : Byt w c' tx') (hd' : RdAttrs w d' ats') :
    Calls Try.prog 37 #[.agg #[.int .i64 dp, .int .i64 z, b, c, d, .slice ae ne ce], .agg #[.int .i64 dp', .int .i64 z', b', c', d', .slice ae' ne' ce']] w fun e w' =>
      e = .returned (.bool (decide ((dp, z, nm, tx, ats) = (dp', z', nm', tx', ats')))) ∧ Below w.heap.size w w' := by
  have HD : Hid ((dp ≠ dp' → decide ((dp, z, nm, tx, ats) = (dp', z', nm', tx', ats')) = false) ∧ (z ≠ z' → decide ((dp, z, nm, tx, ats) = (dp', z', nm', tx', ats')) = false) ∧ (nm ≠ nm' → decide ((dp, z, nm, tx, ats) = (dp', z', nm', tx', ats')) = false) ∧ (tx ≠ tx' → decide ((dp, z, nm, tx, ats) = (dp', z', nm', tx', ats')) = false) ∧ (dp = dp' → z = z' → nm = nm' → tx = tx' → decide ((dp, z, nm, tx, ats) = (dp', z', nm', tx', ats')) = decide (ats = ats'))) := by
    refine hide ⟨fun h => ?_, fun h => ?_, fun h => ?_, fun h => ?_, fun h1 h2 h3 h4 => ?_⟩
    · simp [h]
    · simp [h]
    · simp [h]
    · simp [h]
    · simp [h1, h2, h3, h4]
  obtain ⟨ab, cb, rfl, _⟩ := hb.shape
  obtain ⟨ac, cc, rfl, _⟩ := hc.shape
  obtain ⟨ad, cd, rfl, _⟩ := Elems.shape hd
  obtain ⟨ab', cb', rfl, _⟩ := hb'.shape
  obtain ⟨ac', cc', rfl, _⟩ := hc'.shape
  obtain ⟨ad', cd', rfl, _⟩ := Elems.shape hd'
  generalize nm.length = nb at *
  generalize tx.length = nc at *
  generalize ats.length = nd at *
  generalize nm'.length = nb' at *
  generalize tx'.length = nc' at *
  generalize ats'.length = nd' at *
  obtain ⟨l1, l2, hB⟩ := two w #[.int .i64 dp, .int .i64 z, .slice ab nb cb, .slice ac nc cc, .slice ad nd cd, .slice ae ne ce] #[.int .i64 dp', .int .i64 z', .slice ab' nb' cb', .slice ac' nc' cc', .slice ad' nd' cd', .slice ae' ne' ce'] 74 74
  by_cases h0 : dp = dp'
  · have d0 : (dp == dp') = true := by simpa using h0
    have H0 := hide h0
    clear h0
    by_cases h1 : z = z'
    · have d1 : (z == z') = true := by simpa using h1
      have H1 := hide h1
      clear h1
      go_enter Try.func37, Try.ntmps37
      go_wp2_with fail
      generalize (w.alloc (.cells #[.int .i64 dp, .int .i64 z, .slice ab nb cb, .slice ac nc cc, .slice ad nd cd, .slice ae ne ce] 74)).alloc (.cells #[.int .i64 dp', .int .i64 z', .slice ab' nb' cb', .slice ac' nc' cc', .slice ad' nd' cd', .slice ae' ne' ce'] 74) = w1 at *
      refine (equalI_any w1 _ _ nm nm' (hb.keep hB) (hb'.keep hB)).mono ?_
      rintro e w1 ⟨rfl, rfl⟩
      obtain ⟨x0, x1, x2, x3, x4, x5⟩ := l1.six
      obtain ⟨y0, y1, y2, y3, y4, y5⟩ := l2.six
      by_cases h2 : nm = nm'
      · rw [show decide (nm = nm') = true by simpa using h2]
        have H2 := hide h2
        clear h2
        go_wp2_with fail
        refine (equalI_any w1 _ _ tx tx' (hc.keep hB) (hc'.keep hB)).mono ?_
        rintro e w1 ⟨rfl, rfl⟩
        by_cases h3 : tx = tx'
        · rw [show decide (tx = tx') = true by simpa using h3]
          have HE := hide ((unhide HD).2.2.2.2 (unhide H0) (unhide H1) (unhide H2) h3)
          clear h3
          go_wp2_with fail
          refine (equalAttrs_any w1 _ _ ats ats' (hd.keep hB) (hd'.keep hB)).mono ?_
          rintro e w2 ⟨rfl, hB2⟩
          go_wp2_with fail
          go_ret
          exact ⟨by rw [unhide HE]; rfl, bstep hB hB2⟩
        · rw [show decide (tx = tx') = false by simpa using h3]
          have HE := hide ((unhide HD).2.2.2.1 h3)
          clear h3
          go_wp2_with fail
          go_ret
          exact ⟨by rw [unhide HE]; rfl, hB⟩
      · rw [show decide (nm = nm') = false by simpa using h2]
        have HE := hide ((unhide HD).2.2.1 h2)
        clear h2
        go_wp2_with fail
        go_ret
        exact ⟨by rw [unhide HE]; rfl, hB⟩
    · have d1 : (z == z') = false := by simpa using h1
      have HE := hide ((unhide HD).2.1 h1)
      clear h1
      go_enter Try.func37, Try.ntmps37
      go_wp2_with fail
      go_ret
      exact ⟨by rw [unhide HE]; rfl, hB⟩
  · have d0 : (dp == dp') = false := by simpa using h0
    have HE := hide ((unhide HD).1 h0)
    clear h0
    go_enter Try.func37, Try.ntmps37
    go_wp2_with fail
    go_ret
    exact ⟨by rw [unhide HE]; rfl, hB⟩
end Go.Proofs.Yteioihjgjbjmjaa
