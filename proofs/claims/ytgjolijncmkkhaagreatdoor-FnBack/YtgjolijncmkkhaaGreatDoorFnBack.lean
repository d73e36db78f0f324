/- For every row of bytes the law on markup and back returns true: where the drawn tree may be, it is tidied, NodeOk takes what comes out, and the markup of that, where Build takes it, is read as a body with just that tree; tidied again it is the same; where the drawn tree may not be, Tidy tells the zero node and NodeOk says no. Condition: the package variables rootId and trashId hold what the program's text lays into them (the card ties that). -/
import Derived.Test.YtgjolijncmkkhaaGreatDoorRows
import Derived.Test.YtgjolijncmkkhaaGreatDoorQa
import Derived.Test.YtgjolijncmkkhaaGreatDoorQb
import Derived.Test.YtgjolijncmkkhaaGreatDoorQc
import Derived.Test.YtgjolijncmkkhaaGreatDoorQd
import Derived.Test.YtgjolijncmkkhaaGreatDoorQe
import Derived.Test.YtgjolijncmkkhaaGreatDoorQf
import Derived.Test.YtgjolijncmkkhaaGreatDoorQg
import Derived.Test.YtgjolijncmkkhaaGreatDoorQh
import Derived.Test.YtgjolijncmkkhaaGreatDoorQi
import Derived.Test.YtgjolijncmkkhaaGreatDoorQj
import Derived.Test.YtgjolijncmkkhaaGreatDoorQk
import Derived.Test.YtgjolijncmkkhaaGreatDoorQl
import Derived.Test.YtgjolijncmkkhaaGreatDoorQm
import Derived.Test.YtgjolijncmkkhaaGreatDoorQn
import Derived.Test.YtgjolijncmkkhaaGreatDoorQo
import Derived.Test.YtgjolijncmkkhaaGreatDoorQp
import Derived.Test.YtgjolijncmkkhaaGreatDoorQq
import Derived.Test.YtgjolijncmkkhaaGreatDoorQr
import Derived.Test.YtgjolijncmkkhaaGreatDoorQs
import Derived.Test.YtgjolijncmkkhaaGreatDoorQt
import Derived.Test.YtgjolijncmkkhaaGreatDoorQu
import Derived.Test.YtgjolijncmkkhaaGreatDoorQv
import Derived.Test.YtgjolijncmkkhaaGreatDoorQw
import Derived.Test.YtgjolijncmkkhaaGreatDoorQx
import Derived.Test.YtgjolijncmkkhaaGreatDoorQy
import Derived.Test.YtgjolijncmkkhaaGreatDoorQz
import Derived.WalkKit
import Derived.ProofKit
import Derived.OpenShut
import Derived.ShutString
import Derived.ChangeOld
import Derived.Below
import Derived.Carry
import Derived.OpenVars
import Derived.LaidMore
import Derived.Stop.Joined
import Derived.SevenTiedAt
import Derived.ChangeSame
import Derived.Test.YtgjolijncmkkhaaGreatDoorTie
import Derived.Test.YtgjolijncmkkhaaGreatDoorCards
namespace Go.Proofs.YtgjolijncmkkhaaGreatDoor.fnBack
open Go.ChangeShapes Go.WideShapes Go.ChangeAt Go.RowKit
set_option linter.unusedVariables false

theorem own : ownKnob Tryz.prog.godebug = none := by kernel_rfl
theorem laidOut : laidOutB Tryz.prog = true := by kernel_rfl

theorem gRoot : Tryz.prog.globalNamed "loop.example/g00353/impl.rootId" = some 0 := by kernel_rfl
theorem gTrash : Tryz.prog.globalNamed "loop.example/g00353/impl.trashId" = some 1 := by kernel_rfl
theorem tRoot : (Tryz.prog.globals[0]?).map (·.type) = some 50 := by kernel_rfl
theorem tTrash : (Tryz.prog.globals[1]?).map (·.type) = some 50 := by kernel_rfl

/-- The door's own heap meets the condition. -/
theorem door_met (os : Os) (args : Array Value) : laidMetH Tryz.prog [("errors.errorType", Rows.laid_errors_errorType), ("loop.example/g00353/impl.rootId", Rows.laid_loop_example_g00353_impl_rootId), ("loop.example/g00353/impl.trashId", Rows.laid_loop_example_g00353_impl_trashId)] ((World.doorLaid Tryz.prog 400 os).forCall (fun _ _ => 0) ⟨#[], args, []⟩).memory :=
  laidMetH_of_parts3 (fuel := 8) (laidMet_of_run' 8 (by kernel_rfl) (by kernel_rfl)) (by kernel_rfl) (by kernel_rfl)

theorem list_two {α : Type} : ∀ {l : List α}, l.length = 2 → ∃ a b, l = [a, b]
  | [a, b], _ => ⟨a, b, rfl⟩
/-- A variable of two numbers, by its datum. -/
theorem two_cells {W : World} {n : String} {g fuel : Nat} {cs : Array Value} {p : List MemPlace} {x y : Int} (hg : Tryz.prog.globalNamed n = some g) (hv : W.var? Tryz.prog n = some cs) (hd : DataW.trod (fun _ => ()) Tryz.prog W 0 (fun _ => true) false fuel 50 cs.toList = some (.agg [.lit (.int .i64 x), .lit (.int .i64 y)], p)) :
    W.cell? ⟨g, 0, none⟩ = some (.int .i64 x) ∧ W.cell? ⟨g, 1, none⟩ = some (.int .i64 y) := by
  obtain ⟨y0, y1, m, hx, hl, h0, h1⟩ := trod_struct2 Tryz.underlying50 hd
  have c2 : Tryz.prog.cellsOf 50 = 2 := by kernel_rfl
  have c1 : Tryz.prog.cellsOf 3 = 1 := by kernel_rfl
  obtain ⟨l⟩ := cs
  simp only at hl h0 h1
  rw [c2] at hl
  obtain ⟨a, b, rfl⟩ := list_two hl
  obtain ⟨k0, e0, e1, _⟩ := DataW.trod_int Tryz.underlying3 h0
  obtain ⟨k1, e2, e3, _⟩ := DataW.trod_int Tryz.underlying3 h1
  rw [c1] at e0 e2
  simp at e0 e2
  rw [e1, e3] at hx
  simp at hx
  obtain ⟨⟨rfl, rfl⟩, _⟩ := hx
  have u0 := World.var?_cell hg hv 0
  have u1 := World.var?_cell hg hv 1
  subst e0 e2
  exact ⟨by simpa using u0, by simpa using u1⟩
theorem of_laid {W : World} (h : laidMetH Tryz.prog [("errors.errorType", Rows.laid_errors_errorType), ("loop.example/g00353/impl.rootId", Rows.laid_loop_example_g00353_impl_rootId), ("loop.example/g00353/impl.trashId", Rows.laid_loop_example_g00353_impl_trashId)] W) : Glo W := by
  have h1 : laidMet Tryz.prog [("loop.example/g00353/impl.rootId", Rows.laid_loop_example_g00353_impl_rootId), ("loop.example/g00353/impl.trashId", Rows.laid_loop_example_g00353_impl_trashId)] W ∧ handlesMet Tryz.prog [("errors.errorType", Rows.laid_errors_errorType)] W := h
  replace h := h1.1
  obtain ⟨ps, ⟨g0, t0, cs0, f0, p0, q0, hg0, ht0, hv0, hd0, ⟨g1, t1, cs1, f1, p1, q1, hg1, ht1, hv1, hd1, _, _⟩, _⟩, _, _⟩ := h
  obtain rfl := Option.some.inj (gRoot.symm.trans hg0)
  obtain rfl := Option.some.inj (gTrash.symm.trans hg1)
  obtain rfl := Option.some.inj (tRoot.symm.trans ht0)
  obtain rfl := Option.some.inj (tTrash.symm.trans ht1)
  obtain ⟨a, b⟩ := two_cells hg0 hv0 hd0
  obtain ⟨c, d⟩ := two_cells hg1 hv1 hd1
  exact ⟨a, b, c, d⟩

set_option maxRecDepth 100000 in
theorem lifted (os : Os) (started : os.Started) (H : Type) (enc : TypeId × Value → H) :
    ReturnsInHanded {} Tryz.checked os 4 .any (fun w args => (Rows.fnBackSpec.pre enc Tryz.prog Tryz.f4 [] false w args ∧ laidMetH Tryz.prog [("errors.errorType", Rows.laid_errors_errorType), ("loop.example/g00353/impl.rootId", Rows.laid_loop_example_g00353_impl_rootId), ("loop.example/g00353/impl.trashId", Rows.laid_loop_example_g00353_impl_trashId)] w) ∧ sizedMet enc Tryz.prog Tryz.f4 (OpenSpec.ofChange Rows.fnBackSpec) false w args) (Rows.fnBackSpec.post enc Tryz.prog Tryz.f4 false true false false) := by
  refine returnsInHanded_of_change_and (C := Tryz.checked) (X := fun w _ => laidMetH Tryz.prog [("errors.errorType", Rows.laid_errors_errorType), ("loop.example/g00353/impl.rootId", Rows.laid_loop_example_g00353_impl_rootId), ("loop.example/g00353/impl.trashId", Rows.laid_loop_example_g00353_impl_trashId)] w) (fun _ _ _ hh h => h.of_heap hh) own started (by kernel_rfl) Tryz.func4
    (ChangeSpec.witness_shaped (enc := enc) (C := Tryz.checked) (os := os) (X := fun w _ => laidMetH Tryz.prog [("errors.errorType", Rows.laid_errors_errorType), ("loop.example/g00353/impl.rootId", Rows.laid_loop_example_g00353_impl_rootId), ("loop.example/g00353/impl.trashId", Rows.laid_loop_example_g00353_impl_trashId)] w) false (World.doorLaid Tryz.prog 400 os) #[.slice none 0 0] 8 rfl (World.shaped_of_RefB (by kernel_rfl) (by kernel_rfl)) (by kernel_rfl) (by kernel_rfl) (by kernel_rfl) (door_met os _)) ?_
  intro W base args ds gs before hval0 hW _ _ hL _
  have hG := of_laid hL
  have hval : ∀ (j : Nat) t v, Tryz.f4.params[j]? = some t → args[j]? = some v → Value.okWide Tryz.prog W .any base t v := hval0
  have hW' := hW
  obtain ⟨p, q, hA0, hV, rfl, hfz, hnd⟩ := hW
  have hA : DataW.TrodAll enc Tryz.prog W 0 (fun _ => true) true Tryz.f4.params.toList args.toList ds p := hA0
  rw [Tryz.params4] at hA hval
  obtain ⟨v0, vs0, d0, ds0, p0, q0, hargs, rfl, rfl, h0, r0⟩ := trodAll_cons hA
  obtain ⟨rfl, rfl, rfl⟩ := trodAll_nil r0
  obtain rfl : args = #[v0] := by cases args; simp_all
  obtain ⟨g0_, t0_, cs0_, f0_, dg0, pg0, g1_, t1_, cs1_, f1_, dg1, pg1, rfl, _⟩ := trodVars_two (show DataW.TrodVars enc Tryz.prog W (fun _ => true) ["loop.example/g00353/impl.rootId", "loop.example/g00353/impl.trashId"] gs q from hV)
  have hv2 := fun (W2 : World) (bel : Below W.heap.size W W2) => Below.trodVars (enc := enc) (P := Tryz.prog) (ns := ["loop.example/g00353/impl.rootId", "loop.example/g00353/impl.trashId"]) (gs := [dg0, dg1]) (ps := q) laidOut bel (by kernel_rfl) hV
  have k0 := h0
  have lt0 : ∀ x ∈ p0, x.block < W.heap.size := by obtain ⟨m, hm⟩ := k0; exact DataW.trod_lt m _ _ _ hm
  obtain ⟨z0, o0⟩ := zua (hval 0 22 v0 rfl rfl) h0
  clear hA0 hval0
  refine (zyK (fun w0 w g code l h => ztH w0 w g code l h) zvc W _ z0 o0 hG).mono fun e W' ⟨he, bel⟩ => ?_
  subst he
  exact ⟨_, rfl, _, _, _, [], _, _, hW', trodAll_mk1 (shut_bool Tryz.underlying4 _), (trodAll_cons_mk (Below.trod laidOut (by kernel_rfl) (of_decide_eq_true (by kernel_rfl)) k0 bel lt0) trodAll_mk0), hv2 _ bel, bel.frame _, fun h => by cases h⟩

theorem ja : (laidOutB Tryz.pinned.checked.prog) = true := by kernel_rfl
theorem jb : (mapsRowed Tryz.pinned.checked.prog) = true := by kernel_rfl
theorem jc : (Tryz.pinned.checked.prog.stops == []) = true := by kernel_rfl
theorem jd : (Tryz.pinned.checked.prog.stopKnobs == []) = true := by kernel_rfl
theorem je : (Rows.fnBackRow.inPlace == Tryz.pinned.checked.prog.inPlace 4) = true := by kernel_rfl
theorem jf : (Rows.fnBackRow.unfollowed == Tryz.pinned.checked.prog.unfollowed 4) = true := by kernel_rfl
theorem jg : (Rows.fnBackRow.recurses == Tryz.pinned.checked.prog.recurses 4) = true := by kernel_rfl
theorem jh : (Rows.fnBackRow.named == Tryz.pinned.checked.prog.varsNamed 4) = true := by kernel_rfl
theorem jall : joinedFacts Tryz.pinned.checked.prog 4 Tryz.f4 Rows.fnBackSpec Rows.fnBackRow = true := by
  unfold joinedFacts
  rw [ja, jb, jc, jd, je, jf, jg, jh]
  kernel_rfl
theorem over : Rows.fnBackRow.holds Tryz.pinned (OpenSpec.ofChange Rows.fnBackSpec) :=
  OpenClaim.holds_of_wide 4 Tryz.f4 rfl rfl rfl rfl rfl rfl rfl ⟨rfl, rfl, rfl, rfl, rfl⟩ rfl rfl rfl rfl rfl (by kernel_rfl) Tryz.func4 jall
    (of_decide_eq_true (by kernel_rfl)) (by unfold Func.isWrapper; first | (rw [if_pos (by decide +kernel)]; kernel_rfl) | (rw [if_neg (by decide +kernel)]; exact ⟨rfl, rfl⟩))
    (fun os started H enc _ => lifted os started H enc)

theorem proved : Rows.FnBackCardSaid :=
  Claim7.holds_tied_plain_at .later [] [.handle, .data, .data] true (true, "99189c07784c09d1fbd26af7b650d0cd4fbaeb6c92495d5d742618a2b219e121") true
    over (fun _ h => by cases h) (by kernel_rfl) (fun _ h => by cases h) fnBack_row_tie rfl ⟨rfl, rfl⟩ (by kernel_rfl) rfl
    (fun f fn hf hfn => by
      obtain rfl : f = 4 := Option.some.inj ((show Tryz.prog.funcNamed "loop.example/g00353/laws.FnBack" = some 4 by kernel_rfl).symm.trans hf) |>.symm
      obtain rfl : fn = Tryz.f4 := (Option.some.inj (Tryz.func4.symm.trans hfn)).symm
      exact ⟨by kernel_rfl, fun j t ht => by
        rw [Tryz.params4] at ht
        have hm : t ∈ [22] := by simpa using Array.mem_of_getElem? ht
        have hall : ([22].all fun u => !Tryz.prog.wantsStandIn u) = true := by kernel_rfl
        exact (show Tryz.prog.wantsStandIn t = false by simpa using List.all_eq_true.1 hall t hm)⟩)
    (by kernel_rfl)
end Go.Proofs.YtgjolijncmkkhaaGreatDoor.fnBack

namespace Go.Proofs.YtgjolijncmkkhaaGreatDoor
theorem fnBack_holds : Rows.FnBackCardSaid := fnBack.proved
#print axioms fnBack_holds
end Go.Proofs.YtgjolijncmkkhaaGreatDoor
