/- Own texts joined: PlM. -/
import Derived.Test.YtgjolijncmkkhaaGreatDoorJa
namespace Go.Proofs.YtgjolijncmkkhaaGreatDoor
structure PlV where
 idN:Int
 idR:Int
 parN:Int
 parR:Int
 key:Xg
 kind:Int
 name:Xg
 text:Xg
 attrs:List (Xg×Xg)
end Go.Proofs.YtgjolijncmkkhaaGreatDoor
