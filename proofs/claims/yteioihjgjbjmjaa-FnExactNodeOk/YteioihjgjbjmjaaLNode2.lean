/- impl.NodeOk does what the law on NodeOk asks of it. -/
import Derived.Test.YteioihjgjbjmjaaLNode
import Derived.Test.YteioihjgjbjmjaaNodeI
namespace Go.Proofs.Yteioihjgjbjmjaa
theorem nodeI_said : NodeISaid := fun n w a b c d e t _ h hs => nodeI_any n w a b c d e t h.rd hs
end Go.Proofs.Yteioihjgjbjmjaa
