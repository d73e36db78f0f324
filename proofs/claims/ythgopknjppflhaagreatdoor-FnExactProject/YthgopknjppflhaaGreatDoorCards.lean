/-
  DERIVED. GIVEN WITH THE SEED: THE CARDS: each row of YthgopknjppflhaaGreatDoorRows.lean that lists a variable, with what it lists TIED to the program's text (the seventh form; the later family's looks); each row that meets fmt, with fmt's text TOLD by the authors' own Lean function (tested against real Go, not proved from fmt's source: count such statements apart). THE CARD IS WHAT COUNTS. Prove the row's statement (the work); the ties are given (YthgopknjppflhaaGreatDoorTie.lean); close each card by the builder's one call (the guide's Derived/Test/ToyasCard.lean, 'card_holds'). Laid BY PROGRAM, IN A SANDBOX (cutbox-door.mjs). By AI agents, Wed Nov 11 2026. No macro, syntax, notation, axiom, sorry.
-/
import Derived.Test.YthgopknjppflhaaGreatDoorRows
import GoSem.ClaimSeven
namespace Go.Proofs.YthgopknjppflhaaGreatDoor
namespace Rows

/-- THE TIED CARD OF 'laws.FnExactProject'. -/
def fnExactProjectCard : Claim7 := { stood := { row := fnExactProjectRow, standIns := [], harness := (true, "f13f46eee85d0be85ea66a18d3511c9ccb68852c1d5d7f2d1a4cbc6dfb8b3e00"), looks := false }, kinds := [], alts := [], laidByText := true, laidKinds := [.data, .data], laidTests := true, laidLooks := .later }
def FnExactProjectCardSaid : Prop := Claim7.holds Tryz.pinned (.plain (OpenSpec.ofChange fnExactProjectSpec)) fnExactProjectCard

/-- THE SECOND FORM's CARD OF 'laws.FnExactProject'. -/
def fnExactProjectUptoCard : Claim7 := { stood := { row := fnExactProjectUptoRow, standIns := [], harness := (true, "f13f46eee85d0be85ea66a18d3511c9ccb68852c1d5d7f2d1a4cbc6dfb8b3e00"), looks := false }, kinds := [], alts := [], laidByText := true, laidKinds := [.data, .data], laidTests := true, laidLooks := .later }
def FnExactProjectUptoCardSaid : Prop := Claim7.holds Tryz.pinned (.plain (OpenSpec.upto fnExactProjectSpec)) fnExactProjectUptoCard
end Rows
end Go.Proofs.YthgopknjppflhaaGreatDoor
