/-
  DERIVED. GIVEN WITH THE SEED: THE CARDS: each row of YtlpnibbdmkeklaaGreatDoorRows.lean that lists a variable, with what it lists TIED to the program's text (the seventh form; the later family's looks); each row that meets fmt, with fmt's text TOLD by the authors' own Lean function (tested against real Go, not proved from fmt's source: count such statements apart). THE CARD IS WHAT COUNTS. Prove the row's statement (the work); the ties are given (YtlpnibbdmkeklaaGreatDoorTie.lean); close each card by the builder's one call (the guide's Derived/Test/ToyasCard.lean, 'card_holds'). Laid BY PROGRAM, IN A SANDBOX (cutbox-door.mjs). By AI agents, Wed Nov 11 2026. No macro, syntax, notation, axiom, sorry.
-/
import Derived.Test.YtlpnibbdmkeklaaGreatDoorRows
import GoSem.ClaimSeven
namespace Go.Proofs.YtlpnibbdmkeklaaGreatDoor
namespace Rows

/-- THE TIED CARD OF 'laws.FnExactDoc'. -/
def fnExactDocCard : Claim7 := { stood := { row := fnExactDocRow, standIns := [], harness := (true, "ea1f4140780a0b4767d2400c3093a88a31a6e21614038f2a20820383e5bf6983"), looks := false }, kinds := [], alts := [], laidByText := true, laidKinds := [.data, .data], laidTests := true, laidLooks := .later }
def FnExactDocCardSaid : Prop := Claim7.holds Tryz.pinned (.plain (OpenSpec.ofChange fnExactDocSpec)) fnExactDocCard

/-- THE SECOND FORM's CARD OF 'laws.FnExactDoc'. -/
def fnExactDocUptoCard : Claim7 := { stood := { row := fnExactDocUptoRow, standIns := [], harness := (true, "ea1f4140780a0b4767d2400c3093a88a31a6e21614038f2a20820383e5bf6983"), looks := false }, kinds := [], alts := [], laidByText := true, laidKinds := [.data, .data], laidTests := true, laidLooks := .later }
def FnExactDocUptoCardSaid : Prop := Claim7.holds Tryz.pinned (.plain (OpenSpec.upto fnExactDocSpec)) fnExactDocUptoCard
end Rows
end Go.Proofs.YtlpnibbdmkeklaaGreatDoor
