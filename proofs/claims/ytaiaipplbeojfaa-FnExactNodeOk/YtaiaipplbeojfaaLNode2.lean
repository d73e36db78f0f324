/- impl.NodeOk does what the law on NodeOk asks of it. -/
import Derived.Test.YtaiaipplbeojfaaLNode
import Derived.Test.YtaiaipplbeojfaaNodeI
namespace Go.Proofs.Ytaiaipplbeojfaa
theorem nodeI_said : NodeISaid := fun n w a b c d e t _ h hs => nodeI_any n w a b c d e t h.rd hs
end Go.Proofs.Ytaiaipplbeojfaa
