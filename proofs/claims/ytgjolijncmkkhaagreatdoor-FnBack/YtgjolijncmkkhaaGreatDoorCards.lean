/-
  DERIVED. GIVEN WITH THE SEED: THE CARDS: each row of YtgjolijncmkkhaaGreatDoorRows.lean that lists a variable, with what it lists TIED to the program's text (the seventh form; the later family's looks); each row that meets fmt, with fmt's text TOLD by the authors' own Lean function (tested against real Go, not proved from fmt's source: count such statements apart). THE CARD IS WHAT COUNTS. Prove the row's statement (the work); the ties are given (YtgjolijncmkkhaaGreatDoorTie.lean); close each card by the builder's one call (the guide's Derived/Test/ToyasCard.lean, 'card_holds'). Laid BY PROGRAM, IN A SANDBOX (cutbox-door.mjs). By AI agents, Wed Nov 11 2026. No macro, syntax, notation, axiom, sorry.
-/
import Derived.Test.YtgjolijncmkkhaaGreatDoorRows
import GoSem.ClaimSeven
namespace Go.Proofs.YtgjolijncmkkhaaGreatDoor
namespace Rows

/-- THE TIED CARD OF 'laws.FnBuilds'. -/
def fnBuildsCard : Claim7 := { stood := { row := fnBuildsRow, standIns := [], harness := (true, "99189c07784c09d1fbd26af7b650d0cd4fbaeb6c92495d5d742618a2b219e121"), looks := true }, kinds := [], alts := [], laidByText := true, laidKinds := [.handle, .data, .data], laidTests := true, laidLooks := .later }
def FnBuildsCardSaid : Prop := Claim7.holds Tryz.pinned (.plain (OpenSpec.ofChange fnBuildsSpec)) fnBuildsCard

/-- THE TIED CARD OF 'laws.FnBack'. -/
def fnBackCard : Claim7 := { stood := { row := fnBackRow, standIns := [], harness := (true, "99189c07784c09d1fbd26af7b650d0cd4fbaeb6c92495d5d742618a2b219e121"), looks := true }, kinds := [], alts := [], laidByText := true, laidKinds := [.handle, .data, .data], laidTests := true, laidLooks := .later }
def FnBackCardSaid : Prop := Claim7.holds Tryz.pinned (.plain (OpenSpec.ofChange fnBackSpec)) fnBackCard

/-- THE TIED CARD OF 'laws.FnCase'. -/
def fnCaseCard : Claim7 := { stood := { row := fnCaseRow, standIns := [], harness := (true, "99189c07784c09d1fbd26af7b650d0cd4fbaeb6c92495d5d742618a2b219e121"), looks := true }, kinds := [], alts := [], laidByText := true, laidKinds := [.handle, .data, .data], laidTests := true, laidLooks := .later }
def FnCaseCardSaid : Prop := Claim7.holds Tryz.pinned (.plain (OpenSpec.ofChange fnCaseSpec)) fnCaseCard

/-- THE TIED CARD OF 'laws.FnStarts'. -/
def fnStartsCard : Claim7 := { stood := { row := fnStartsRow, standIns := [], harness := (true, "99189c07784c09d1fbd26af7b650d0cd4fbaeb6c92495d5d742618a2b219e121"), looks := true }, kinds := [], alts := [], laidByText := true, laidKinds := [.handle, .data, .data], laidTests := true, laidLooks := .later }
def FnStartsCardSaid : Prop := Claim7.holds Tryz.pinned (.plain (OpenSpec.ofChange fnStartsSpec)) fnStartsCard

/-- THE SECOND FORM's CARD OF 'laws.FnBuilds'. -/
def fnBuildsUptoCard : Claim7 := { stood := { row := fnBuildsUptoRow, standIns := [], harness := (true, "99189c07784c09d1fbd26af7b650d0cd4fbaeb6c92495d5d742618a2b219e121"), looks := true }, kinds := [], alts := [], laidByText := true, laidKinds := [.handle, .data, .data], laidTests := true, laidLooks := .later }
def FnBuildsUptoCardSaid : Prop := Claim7.holds Tryz.pinned (.plain (OpenSpec.upto fnBuildsSpec)) fnBuildsUptoCard

/-- THE SECOND FORM's CARD OF 'laws.FnBack'. -/
def fnBackUptoCard : Claim7 := { stood := { row := fnBackUptoRow, standIns := [], harness := (true, "99189c07784c09d1fbd26af7b650d0cd4fbaeb6c92495d5d742618a2b219e121"), looks := true }, kinds := [], alts := [], laidByText := true, laidKinds := [.handle, .data, .data], laidTests := true, laidLooks := .later }
def FnBackUptoCardSaid : Prop := Claim7.holds Tryz.pinned (.plain (OpenSpec.upto fnBackSpec)) fnBackUptoCard

/-- THE SECOND FORM's CARD OF 'laws.FnCase'. -/
def fnCaseUptoCard : Claim7 := { stood := { row := fnCaseUptoRow, standIns := [], harness := (true, "99189c07784c09d1fbd26af7b650d0cd4fbaeb6c92495d5d742618a2b219e121"), looks := true }, kinds := [], alts := [], laidByText := true, laidKinds := [.handle, .data, .data], laidTests := true, laidLooks := .later }
def FnCaseUptoCardSaid : Prop := Claim7.holds Tryz.pinned (.plain (OpenSpec.upto fnCaseSpec)) fnCaseUptoCard

/-- THE SECOND FORM's CARD OF 'laws.FnStarts'. -/
def fnStartsUptoCard : Claim7 := { stood := { row := fnStartsUptoRow, standIns := [], harness := (true, "99189c07784c09d1fbd26af7b650d0cd4fbaeb6c92495d5d742618a2b219e121"), looks := true }, kinds := [], alts := [], laidByText := true, laidKinds := [.handle, .data, .data], laidTests := true, laidLooks := .later }
def FnStartsUptoCardSaid : Prop := Claim7.holds Tryz.pinned (.plain (OpenSpec.upto fnStartsSpec)) fnStartsUptoCard
end Rows
end Go.Proofs.YtgjolijncmkkhaaGreatDoor
