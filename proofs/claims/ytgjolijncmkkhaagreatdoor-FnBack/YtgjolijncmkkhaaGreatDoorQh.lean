/- Own texts joined: FoWg. -/
import Derived.Test.YtgjolijncmkkhaaGreatDoorQa
namespace Go.Proofs.YtgjolijncmkkhaaGreatDoor
open Go.RowKit
set_option linter.unusedVariables false
def Glo (w:Xk):Prop:=w.cell? ⟨0,0,none⟩=some (.int .i64 0)∧w.cell? ⟨0,1,none⟩=some (.int .i64 0)∧w.cell? ⟨1,0,none⟩=some (.int .i64 0)∧w.cell? ⟨1,1,none⟩=some (.int .i64 1)
end Go.Proofs.YtgjolijncmkkhaaGreatDoor
