/-
  NARROWER THAN 'FOR EVERY INPUT', by the rows' own cells (each row's printed sentence says how): FnBuilds: laid · FnBack: laid · FnCase: laid · FnStarts: laid.
  DERIVED. THE GIVEN ROWS OF THIS SEAT. 4 by the template 'for every input the law returns true; each argument reads behind the call as it read before'; 0 by the template 'total and deterministic' (their statements: YtgjolijncmkkhaaGreatDoorTotals.lean).
  GIVEN WITH THE SEED: the statements are not yours to turn. If you find one false, say at which input.
  Laid BY PROGRAM, IN A SANDBOX (cutbox-rows.mjs): the forced cells as the released guide's own fill.sh prints them over the translation 81294ce1e9402589… (all of the seat's roots in one cut). By AI agents, Wed Nov 11 2026. No macro, syntax, notation, axiom, sorry.
-/
import Derived.Test.YtgjolijncmkkhaaGreatDoorChecked
import GoSem.Claim
import GoSem.ClaimJoined
import GoSem.ClaimMapViews
import Derived.JoinedTies
import Derived.KernelRfl
namespace Go.Proofs.YtgjolijncmkkhaaGreatDoor
/- THE CELL 'sum', in the pinned program and in every row, IS THE sha256 OF THE DUMP (.gsa) THAT YtgjolijncmkkhaaGreatDoorProg.lean LOADS. Nothing in Lean hashes anything: it is a label: what it is worth is what the hold of that sum in a sandbox is worth. -/
noncomputable def Tryz.pinned : Pinned := { name := "ytgjolijncmkkhaagreatdoor", sum := "81294ce1e9402589fbea32d2d15b24c6e793ad0bca31318eb63956f1be738f9b", checked := Tryz.checked }
namespace Rows
def none {H : Type} : Left H := { results := [], args := [] }

/- WHAT THE LISTED PACKAGE-LEVEL VARIABLES READ AS WHEN THE CALL BEGINS. Each datum BY PROGRAM (the guide's laid-datum.mjs) off the statement by which the dump's own 'gosem.cut.vars' lays the variable. In a bare row this is a premise. The card (YtgjolijncmkkhaaGreatDoorCards.lean) ties it to the program's text. -/
def laid_errors_errorType {H : Type} : DataW H := .iface "internal/reflectlite.rtype" (.agg [.ptr (.lit (.string [101, 114, 114, 111, 114]))])
def laid_loop_example_g00353_impl_rootId {H : Type} : DataW H := .agg [.lit (.int .i64 0), .lit (.int .i64 0)]
def laid_loop_example_g00353_impl_trashId {H : Type} : DataW H := .agg [.lit (.int .i64 0), .lit (.int .i64 1)]

/-- 'laws.FnBuilds': WHATEVER THE INPUT: true; the input reads as it did. -/
def fnBuildsSpec : ChangeSpec := { name := "fnBuilds", vars := ["loop.example/g00353/impl.rootId", "loop.example/g00353/impl.trashId"], fn := fun _ => fun
  | [d, g1, g2] => { results := [.lit (.bool true)], args := [d], vars := [g1, g2] }
  | _ => none }
def fnBuildsRow : OpenClaim := { program := "ytgjolijncmkkhaagreatdoor", sum := "81294ce1e9402589fbea32d2d15b24c6e793ad0bca31318eb63956f1be738f9b", func := "loop.example/g00353/laws.FnBuilds", spec := "fnBuilds", inPlace := ["sync/atomic.LoadUint32", "(*internal/sync.Mutex).Lock", "internal/race.Disable", "sync/atomic.CompareAndSwapInt32", "internal/race.Enable", "internal/race.Acquire", "(*internal/sync.Mutex).lockSlow", "internal/sync.runtime_canSpin", "internal/sync.runtime_doSpin", "internal/sync.throw", "internal/sync.runtime_nanotime", "internal/sync.runtime_SemacquireMutex", "sync/atomic.AddInt32", "(*internal/sync.Mutex).Unlock", "internal/race.ReleaseMerge", "(*internal/sync.Mutex).unlockSlow", "internal/sync.fatal", "internal/sync.runtime_Semrelease", "sync/atomic.StoreUint32", "internal/bytealg.Compare", "slices.overlaps[loop.example/g00353/impl.Attr]", "sync/atomic.StoreInt64", "sync/atomic.AddInt64", "slices.overlaps[loop.example/g00353/impl.Id]", "internal/reflectlite.ValueOf", "(internal/reflectlite.Value).Type", "(internal/reflectlite.Value).IsNil", "internal/reflectlite.TypeOf", "(internal/reflectlite.Value).Elem", "(internal/reflectlite.Value).Set", "slices.overlaps[loop.example/g00353/impl.Op]"], unfollowed := true, recurses := true, named := ["loop.example/g00353/impl.rootId", "loop.example/g00353/impl.trashId", "errors.errorType"], plainKeys := false, apart := false, laid := [("errors.errorType", laid_errors_errorType), ("loop.example/g00353/impl.rootId", laid_loop_example_g00353_impl_rootId), ("loop.example/g00353/impl.trashId", laid_loop_example_g00353_impl_trashId)] }
def FnBuildsSaid : Prop := fnBuildsRow.holds Tryz.pinned (OpenSpec.ofChange fnBuildsSpec)

/-- ITS FALSE NEIGHBOUR: 'it returns false'. Refute it at one input. -/
def fnBuildsWrong : ChangeSpec := { name := "fnBuilds", vars := ["loop.example/g00353/impl.rootId", "loop.example/g00353/impl.trashId"], fn := fun _ => fun
  | [d, g1, g2] => { results := [.lit (.bool false)], args := [d], vars := [g1, g2] }
  | _ => none }
def FnBuildsWrongFalsely : Prop := fnBuildsRow.holds Tryz.pinned (OpenSpec.ofChange fnBuildsWrong)

/-- 'laws.FnBack': WHATEVER THE INPUT: true; the input reads as it did. -/
def fnBackSpec : ChangeSpec := { name := "fnBack", vars := ["loop.example/g00353/impl.rootId", "loop.example/g00353/impl.trashId"], fn := fun _ => fun
  | [d, g1, g2] => { results := [.lit (.bool true)], args := [d], vars := [g1, g2] }
  | _ => none }
def fnBackRow : OpenClaim := { program := "ytgjolijncmkkhaagreatdoor", sum := "81294ce1e9402589fbea32d2d15b24c6e793ad0bca31318eb63956f1be738f9b", func := "loop.example/g00353/laws.FnBack", spec := "fnBack", inPlace := ["sync/atomic.LoadUint32", "(*internal/sync.Mutex).Lock", "internal/race.Disable", "sync/atomic.CompareAndSwapInt32", "internal/race.Enable", "internal/race.Acquire", "(*internal/sync.Mutex).lockSlow", "internal/sync.runtime_canSpin", "internal/sync.runtime_doSpin", "internal/sync.throw", "internal/sync.runtime_nanotime", "internal/sync.runtime_SemacquireMutex", "sync/atomic.AddInt32", "(*internal/sync.Mutex).Unlock", "internal/race.ReleaseMerge", "(*internal/sync.Mutex).unlockSlow", "internal/sync.fatal", "internal/sync.runtime_Semrelease", "sync/atomic.StoreUint32", "internal/bytealg.Compare", "slices.overlaps[loop.example/g00353/impl.Attr]", "sync/atomic.StoreInt64", "sync/atomic.AddInt64", "slices.overlaps[loop.example/g00353/impl.Id]", "internal/reflectlite.ValueOf", "(internal/reflectlite.Value).Type", "(internal/reflectlite.Value).IsNil", "internal/reflectlite.TypeOf", "(internal/reflectlite.Value).Elem", "(internal/reflectlite.Value).Set", "slices.overlaps[loop.example/g00353/impl.Op]"], unfollowed := true, recurses := true, named := ["loop.example/g00353/impl.rootId", "loop.example/g00353/impl.trashId", "errors.errorType"], plainKeys := false, apart := false, laid := [("errors.errorType", laid_errors_errorType), ("loop.example/g00353/impl.rootId", laid_loop_example_g00353_impl_rootId), ("loop.example/g00353/impl.trashId", laid_loop_example_g00353_impl_trashId)] }
def FnBackSaid : Prop := fnBackRow.holds Tryz.pinned (OpenSpec.ofChange fnBackSpec)

/-- ITS FALSE NEIGHBOUR: 'it returns false'. Refute it at one input. -/
def fnBackWrong : ChangeSpec := { name := "fnBack", vars := ["loop.example/g00353/impl.rootId", "loop.example/g00353/impl.trashId"], fn := fun _ => fun
  | [d, g1, g2] => { results := [.lit (.bool false)], args := [d], vars := [g1, g2] }
  | _ => none }
def FnBackWrongFalsely : Prop := fnBackRow.holds Tryz.pinned (OpenSpec.ofChange fnBackWrong)

/-- 'laws.FnCase': WHATEVER THE INPUT: true; the input reads as it did. -/
def fnCaseSpec : ChangeSpec := { name := "fnCase", vars := ["loop.example/g00353/impl.rootId", "loop.example/g00353/impl.trashId"], fn := fun _ => fun
  | [d, g1, g2] => { results := [.lit (.bool true)], args := [d], vars := [g1, g2] }
  | _ => none }
def fnCaseRow : OpenClaim := { program := "ytgjolijncmkkhaagreatdoor", sum := "81294ce1e9402589fbea32d2d15b24c6e793ad0bca31318eb63956f1be738f9b", func := "loop.example/g00353/laws.FnCase", spec := "fnCase", inPlace := ["sync/atomic.LoadUint32", "(*internal/sync.Mutex).Lock", "internal/race.Disable", "sync/atomic.CompareAndSwapInt32", "internal/race.Enable", "internal/race.Acquire", "(*internal/sync.Mutex).lockSlow", "internal/sync.runtime_canSpin", "internal/sync.runtime_doSpin", "internal/sync.throw", "internal/sync.runtime_nanotime", "internal/sync.runtime_SemacquireMutex", "sync/atomic.AddInt32", "(*internal/sync.Mutex).Unlock", "internal/race.ReleaseMerge", "(*internal/sync.Mutex).unlockSlow", "internal/sync.fatal", "internal/sync.runtime_Semrelease", "sync/atomic.StoreUint32", "internal/bytealg.Compare", "slices.overlaps[loop.example/g00353/impl.Attr]", "sync/atomic.StoreInt64", "sync/atomic.AddInt64", "slices.overlaps[loop.example/g00353/impl.Id]", "internal/reflectlite.ValueOf", "(internal/reflectlite.Value).Type", "(internal/reflectlite.Value).IsNil", "internal/reflectlite.TypeOf", "(internal/reflectlite.Value).Elem", "(internal/reflectlite.Value).Set", "slices.overlaps[loop.example/g00353/impl.Op]"], unfollowed := true, recurses := true, named := ["loop.example/g00353/impl.rootId", "loop.example/g00353/impl.trashId", "errors.errorType"], plainKeys := false, apart := false, laid := [("errors.errorType", laid_errors_errorType), ("loop.example/g00353/impl.rootId", laid_loop_example_g00353_impl_rootId), ("loop.example/g00353/impl.trashId", laid_loop_example_g00353_impl_trashId)] }
def FnCaseSaid : Prop := fnCaseRow.holds Tryz.pinned (OpenSpec.ofChange fnCaseSpec)

/-- ITS FALSE NEIGHBOUR: 'it returns false'. Refute it at one input. -/
def fnCaseWrong : ChangeSpec := { name := "fnCase", vars := ["loop.example/g00353/impl.rootId", "loop.example/g00353/impl.trashId"], fn := fun _ => fun
  | [d, g1, g2] => { results := [.lit (.bool false)], args := [d], vars := [g1, g2] }
  | _ => none }
def FnCaseWrongFalsely : Prop := fnCaseRow.holds Tryz.pinned (OpenSpec.ofChange fnCaseWrong)

/-- 'laws.FnStarts': WHATEVER THE INPUT: true; the input reads as it did. -/
def fnStartsSpec : ChangeSpec := { name := "fnStarts", vars := ["loop.example/g00353/impl.rootId", "loop.example/g00353/impl.trashId"], fn := fun _ => fun
  | [d, g1, g2] => { results := [.lit (.bool true)], args := [d], vars := [g1, g2] }
  | _ => none }
def fnStartsRow : OpenClaim := { program := "ytgjolijncmkkhaagreatdoor", sum := "81294ce1e9402589fbea32d2d15b24c6e793ad0bca31318eb63956f1be738f9b", func := "loop.example/g00353/laws.FnStarts", spec := "fnStarts", inPlace := ["internal/bytealg.Compare", "sync/atomic.LoadUint32", "(*internal/sync.Mutex).Lock", "internal/race.Disable", "sync/atomic.CompareAndSwapInt32", "internal/race.Enable", "internal/race.Acquire", "(*internal/sync.Mutex).lockSlow", "internal/sync.runtime_canSpin", "internal/sync.runtime_doSpin", "internal/sync.throw", "internal/sync.runtime_nanotime", "internal/sync.runtime_SemacquireMutex", "sync/atomic.AddInt32", "(*internal/sync.Mutex).Unlock", "internal/race.ReleaseMerge", "(*internal/sync.Mutex).unlockSlow", "internal/sync.fatal", "internal/sync.runtime_Semrelease", "sync/atomic.StoreUint32", "slices.overlaps[loop.example/g00353/impl.Attr]", "sync/atomic.StoreInt64", "sync/atomic.AddInt64", "slices.overlaps[loop.example/g00353/impl.Id]", "internal/reflectlite.ValueOf", "(internal/reflectlite.Value).Type", "(internal/reflectlite.Value).IsNil", "internal/reflectlite.TypeOf", "(internal/reflectlite.Value).Elem", "(internal/reflectlite.Value).Set", "slices.overlaps[loop.example/g00353/impl.Op]"], unfollowed := true, recurses := true, named := ["loop.example/g00353/impl.rootId", "loop.example/g00353/impl.trashId", "errors.errorType"], plainKeys := false, apart := false, laid := [("errors.errorType", laid_errors_errorType), ("loop.example/g00353/impl.rootId", laid_loop_example_g00353_impl_rootId), ("loop.example/g00353/impl.trashId", laid_loop_example_g00353_impl_trashId)] }
def FnStartsSaid : Prop := fnStartsRow.holds Tryz.pinned (OpenSpec.ofChange fnStartsSpec)

/-- ITS FALSE NEIGHBOUR: 'it returns false'. Refute it at one input. -/
def fnStartsWrong : ChangeSpec := { name := "fnStarts", vars := ["loop.example/g00353/impl.rootId", "loop.example/g00353/impl.trashId"], fn := fun _ => fun
  | [d, g1, g2] => { results := [.lit (.bool false)], args := [d], vars := [g1, g2] }
  | _ => none }
def FnStartsWrongFalsely : Prop := fnStartsRow.holds Tryz.pinned (OpenSpec.ofChange fnStartsWrong)

/- THE SECOND FORM. 'bulk': how many values and letters a reading holds, each counted each time it is reached (what is shared counts as often as it is met; a slice's spare places count too). A statement '..UptoSaid' is the law's where the arguments, and the package variables that the reading takes, are together of bulk at most 1048576: NARROWER than '..Said'. Prove '..Said' where nothing that the law and all that it calls make is longer than what came in: it says more and counts as full. Else prove '..UptoSaid'. A law counts once. -/
mutual
def uptoBulk {H : Type} : DataW H → Nat
  | .lit (.string bytes) => bytes.length + 1
  | .lit _ => 1
  | .nil => 1
  | .ptr d => uptoBulk d + 1
  | .slice elems spare => uptoBulkAll elems + uptoBulkAll spare + 1
  | .agg parts => uptoBulkAll parts + 1
  | .iface _ d => uptoBulk d + 1
  | .map entries => uptoBulkEntries entries + 1
  | .held _ => 1
def uptoBulkAll {H : Type} : List (DataW H) → Nat
  | [] => 0
  | d :: r => uptoBulk d + uptoBulkAll r
def uptoBulkEntries {H : Type} : List (Lit × DataW H) → Nat
  | [] => 0
  | x :: r => uptoBulkEntry x + uptoBulkEntries r
def uptoBulkEntry {H : Type} : Lit × DataW H → Nat
  | (.string bytes, d) => bytes.length + uptoBulk d + 1
  | (_, d) => uptoBulk d + 1
 end
def uptoSmall : (H : Type) → List (DataW H) → Bool := fun _ ds => decide (uptoBulkAll ds ≤ 1048576)
def OpenSpec.upto (s : _root_.Go.ChangeSpec) : _root_.Go.OpenSpec := { _root_.Go.OpenSpec.ofChange s with cond := some uptoSmall }

/-- 'laws.FnBuilds', WHERE WHAT IT READS IS OF BULK AT MOST 1048576: true; the input reads as it did. -/
def fnBuildsUptoRow : OpenClaim := { program := "ytgjolijncmkkhaagreatdoor", sum := "81294ce1e9402589fbea32d2d15b24c6e793ad0bca31318eb63956f1be738f9b", func := "loop.example/g00353/laws.FnBuilds", spec := "fnBuilds", inPlace := ["sync/atomic.LoadUint32", "(*internal/sync.Mutex).Lock", "internal/race.Disable", "sync/atomic.CompareAndSwapInt32", "internal/race.Enable", "internal/race.Acquire", "(*internal/sync.Mutex).lockSlow", "internal/sync.runtime_canSpin", "internal/sync.runtime_doSpin", "internal/sync.throw", "internal/sync.runtime_nanotime", "internal/sync.runtime_SemacquireMutex", "sync/atomic.AddInt32", "(*internal/sync.Mutex).Unlock", "internal/race.ReleaseMerge", "(*internal/sync.Mutex).unlockSlow", "internal/sync.fatal", "internal/sync.runtime_Semrelease", "sync/atomic.StoreUint32", "internal/bytealg.Compare", "slices.overlaps[loop.example/g00353/impl.Attr]", "sync/atomic.StoreInt64", "sync/atomic.AddInt64", "slices.overlaps[loop.example/g00353/impl.Id]", "internal/reflectlite.ValueOf", "(internal/reflectlite.Value).Type", "(internal/reflectlite.Value).IsNil", "internal/reflectlite.TypeOf", "(internal/reflectlite.Value).Elem", "(internal/reflectlite.Value).Set", "slices.overlaps[loop.example/g00353/impl.Op]"], unfollowed := true, recurses := true, named := ["loop.example/g00353/impl.rootId", "loop.example/g00353/impl.trashId", "errors.errorType"], plainKeys := false, apart := false, laid := [("errors.errorType", laid_errors_errorType), ("loop.example/g00353/impl.rootId", laid_loop_example_g00353_impl_rootId), ("loop.example/g00353/impl.trashId", laid_loop_example_g00353_impl_trashId)], narrowed := true }
def FnBuildsUptoSaid : Prop := fnBuildsUptoRow.holds Tryz.pinned (OpenSpec.upto fnBuildsSpec)

/-- 'laws.FnBack', WHERE WHAT IT READS IS OF BULK AT MOST 1048576: true; the input reads as it did. -/
def fnBackUptoRow : OpenClaim := { program := "ytgjolijncmkkhaagreatdoor", sum := "81294ce1e9402589fbea32d2d15b24c6e793ad0bca31318eb63956f1be738f9b", func := "loop.example/g00353/laws.FnBack", spec := "fnBack", inPlace := ["sync/atomic.LoadUint32", "(*internal/sync.Mutex).Lock", "internal/race.Disable", "sync/atomic.CompareAndSwapInt32", "internal/race.Enable", "internal/race.Acquire", "(*internal/sync.Mutex).lockSlow", "internal/sync.runtime_canSpin", "internal/sync.runtime_doSpin", "internal/sync.throw", "internal/sync.runtime_nanotime", "internal/sync.runtime_SemacquireMutex", "sync/atomic.AddInt32", "(*internal/sync.Mutex).Unlock", "internal/race.ReleaseMerge", "(*internal/sync.Mutex).unlockSlow", "internal/sync.fatal", "internal/sync.runtime_Semrelease", "sync/atomic.StoreUint32", "internal/bytealg.Compare", "slices.overlaps[loop.example/g00353/impl.Attr]", "sync/atomic.StoreInt64", "sync/atomic.AddInt64", "slices.overlaps[loop.example/g00353/impl.Id]", "internal/reflectlite.ValueOf", "(internal/reflectlite.Value).Type", "(internal/reflectlite.Value).IsNil", "internal/reflectlite.TypeOf", "(internal/reflectlite.Value).Elem", "(internal/reflectlite.Value).Set", "slices.overlaps[loop.example/g00353/impl.Op]"], unfollowed := true, recurses := true, named := ["loop.example/g00353/impl.rootId", "loop.example/g00353/impl.trashId", "errors.errorType"], plainKeys := false, apart := false, laid := [("errors.errorType", laid_errors_errorType), ("loop.example/g00353/impl.rootId", laid_loop_example_g00353_impl_rootId), ("loop.example/g00353/impl.trashId", laid_loop_example_g00353_impl_trashId)], narrowed := true }
def FnBackUptoSaid : Prop := fnBackUptoRow.holds Tryz.pinned (OpenSpec.upto fnBackSpec)

/-- 'laws.FnCase', WHERE WHAT IT READS IS OF BULK AT MOST 1048576: true; the input reads as it did. -/
def fnCaseUptoRow : OpenClaim := { program := "ytgjolijncmkkhaagreatdoor", sum := "81294ce1e9402589fbea32d2d15b24c6e793ad0bca31318eb63956f1be738f9b", func := "loop.example/g00353/laws.FnCase", spec := "fnCase", inPlace := ["sync/atomic.LoadUint32", "(*internal/sync.Mutex).Lock", "internal/race.Disable", "sync/atomic.CompareAndSwapInt32", "internal/race.Enable", "internal/race.Acquire", "(*internal/sync.Mutex).lockSlow", "internal/sync.runtime_canSpin", "internal/sync.runtime_doSpin", "internal/sync.throw", "internal/sync.runtime_nanotime", "internal/sync.runtime_SemacquireMutex", "sync/atomic.AddInt32", "(*internal/sync.Mutex).Unlock", "internal/race.ReleaseMerge", "(*internal/sync.Mutex).unlockSlow", "internal/sync.fatal", "internal/sync.runtime_Semrelease", "sync/atomic.StoreUint32", "internal/bytealg.Compare", "slices.overlaps[loop.example/g00353/impl.Attr]", "sync/atomic.StoreInt64", "sync/atomic.AddInt64", "slices.overlaps[loop.example/g00353/impl.Id]", "internal/reflectlite.ValueOf", "(internal/reflectlite.Value).Type", "(internal/reflectlite.Value).IsNil", "internal/reflectlite.TypeOf", "(internal/reflectlite.Value).Elem", "(internal/reflectlite.Value).Set", "slices.overlaps[loop.example/g00353/impl.Op]"], unfollowed := true, recurses := true, named := ["loop.example/g00353/impl.rootId", "loop.example/g00353/impl.trashId", "errors.errorType"], plainKeys := false, apart := false, laid := [("errors.errorType", laid_errors_errorType), ("loop.example/g00353/impl.rootId", laid_loop_example_g00353_impl_rootId), ("loop.example/g00353/impl.trashId", laid_loop_example_g00353_impl_trashId)], narrowed := true }
def FnCaseUptoSaid : Prop := fnCaseUptoRow.holds Tryz.pinned (OpenSpec.upto fnCaseSpec)

/-- 'laws.FnStarts', WHERE WHAT IT READS IS OF BULK AT MOST 1048576: true; the input reads as it did. -/
def fnStartsUptoRow : OpenClaim := { program := "ytgjolijncmkkhaagreatdoor", sum := "81294ce1e9402589fbea32d2d15b24c6e793ad0bca31318eb63956f1be738f9b", func := "loop.example/g00353/laws.FnStarts", spec := "fnStarts", inPlace := ["internal/bytealg.Compare", "sync/atomic.LoadUint32", "(*internal/sync.Mutex).Lock", "internal/race.Disable", "sync/atomic.CompareAndSwapInt32", "internal/race.Enable", "internal/race.Acquire", "(*internal/sync.Mutex).lockSlow", "internal/sync.runtime_canSpin", "internal/sync.runtime_doSpin", "internal/sync.throw", "internal/sync.runtime_nanotime", "internal/sync.runtime_SemacquireMutex", "sync/atomic.AddInt32", "(*internal/sync.Mutex).Unlock", "internal/race.ReleaseMerge", "(*internal/sync.Mutex).unlockSlow", "internal/sync.fatal", "internal/sync.runtime_Semrelease", "sync/atomic.StoreUint32", "slices.overlaps[loop.example/g00353/impl.Attr]", "sync/atomic.StoreInt64", "sync/atomic.AddInt64", "slices.overlaps[loop.example/g00353/impl.Id]", "internal/reflectlite.ValueOf", "(internal/reflectlite.Value).Type", "(internal/reflectlite.Value).IsNil", "internal/reflectlite.TypeOf", "(internal/reflectlite.Value).Elem", "(internal/reflectlite.Value).Set", "slices.overlaps[loop.example/g00353/impl.Op]"], unfollowed := true, recurses := true, named := ["loop.example/g00353/impl.rootId", "loop.example/g00353/impl.trashId", "errors.errorType"], plainKeys := false, apart := false, laid := [("errors.errorType", laid_errors_errorType), ("loop.example/g00353/impl.rootId", laid_loop_example_g00353_impl_rootId), ("loop.example/g00353/impl.trashId", laid_loop_example_g00353_impl_trashId)], narrowed := true }
def FnStartsUptoSaid : Prop := fnStartsUptoRow.holds Tryz.pinned (OpenSpec.upto fnStartsSpec)

end Rows
end Go.Proofs.YtgjolijncmkkhaaGreatDoor
