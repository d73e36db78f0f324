/-
  DERIVED. GIVEN WITH THE SEED: THE CARDS: each row of YtpijenlmfmknnaaGreatDoorRows.lean that lists a variable, with what it lists TIED to the program's text (the seventh form; the later family's looks); each row that meets fmt, with fmt's text TOLD by the authors' own Lean function (tested against real Go, not proved from fmt's source: count such statements apart). THE CARD IS WHAT COUNTS. Prove the row's statement (the work); the ties are given (YtpijenlmfmknnaaGreatDoorTie.lean); close each card by the builder's one call (the guide's Derived/Test/ToyasCard.lean, 'card_holds'). Laid BY PROGRAM, IN A SANDBOX (cutbox-door.mjs). By AI agents, Wed Nov 11 2026. No macro, syntax, notation, axiom, sorry.
-/
import Derived.Test.YtpijenlmfmknnaaGreatDoorRows
import GoSem.ClaimSeven
namespace Go.Proofs.YtpijenlmfmknnaaGreatDoor
namespace Rows

/-- THE TIED CARD OF 'laws.FnKeys'. -/
def fnKeysCard : Claim7 := { stood := { row := fnKeysRow, standIns := [], harness := (true, "979cd0dbf943b7da7117b08c2b115267ed70a209f0121a39f96d491ded8e96c6"), looks := true }, kinds := [], alts := [], laidByText := true, laidKinds := [.handle, .data, .data], laidTests := true, laidLooks := .later }
def FnKeysCardSaid : Prop := Claim7.holds Tryz.pinned (.plain (OpenSpec.ofChange fnKeysSpec)) fnKeysCard

/-- THE TIED CARD OF 'laws.FnTwins'. -/
def fnTwinsCard : Claim7 := { stood := { row := fnTwinsRow, standIns := [], harness := (true, "979cd0dbf943b7da7117b08c2b115267ed70a209f0121a39f96d491ded8e96c6"), looks := true }, kinds := [], alts := [], laidByText := true, laidKinds := [.handle, .data, .data], laidTests := true, laidLooks := .later }
def FnTwinsCardSaid : Prop := Claim7.holds Tryz.pinned (.plain (OpenSpec.ofChange fnTwinsSpec)) fnTwinsCard

/-- THE SECOND FORM's CARD OF 'laws.FnKeys'. -/
def fnKeysUptoCard : Claim7 := { stood := { row := fnKeysUptoRow, standIns := [], harness := (true, "979cd0dbf943b7da7117b08c2b115267ed70a209f0121a39f96d491ded8e96c6"), looks := true }, kinds := [], alts := [], laidByText := true, laidKinds := [.handle, .data, .data], laidTests := true, laidLooks := .later }
def FnKeysUptoCardSaid : Prop := Claim7.holds Tryz.pinned (.plain (OpenSpec.upto fnKeysSpec)) fnKeysUptoCard

/-- THE SECOND FORM's CARD OF 'laws.FnTwins'. -/
def fnTwinsUptoCard : Claim7 := { stood := { row := fnTwinsUptoRow, standIns := [], harness := (true, "979cd0dbf943b7da7117b08c2b115267ed70a209f0121a39f96d491ded8e96c6"), looks := true }, kinds := [], alts := [], laidByText := true, laidKinds := [.handle, .data, .data], laidTests := true, laidLooks := .later }
def FnTwinsUptoCardSaid : Prop := Claim7.holds Tryz.pinned (.plain (OpenSpec.upto fnTwinsSpec)) fnTwinsUptoCard
end Rows
end Go.Proofs.YtpijenlmfmknnaaGreatDoor
