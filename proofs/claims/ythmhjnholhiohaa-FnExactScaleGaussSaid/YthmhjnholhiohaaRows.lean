/-
  No cell of these rows narrows 'for every input' (looked for: loops, veiled, ifaces, maps, wideKeys, modest, calm, conditions, laid).
  DERIVED. THE GIVEN ROWS OF THIS SEAT. 14 by the template 'for every input the law returns true; each argument reads behind the call as it read before'; 0 by the template 'total and deterministic' (their statements: YthmhjnholhiohaaTotals.lean).
  GIVEN WITH THE SEED: the statements are not yours to turn. If you find one false, say at which input.
  Laid BY PROGRAM, IN A SANDBOX (cutbox-rows.mjs): the forced cells as the released guide's own fill.sh prints them over the translation f2059b0a7d1ca7d9… (all of the seat's roots in one cut). By AI agents, Wed Nov 11 2026. No macro, syntax, notation, axiom, sorry.
-/
import Derived.Test.YthmhjnholhiohaaChecked
import GoSem.Claim
import GoSem.ClaimJoined
import GoSem.ClaimMapViews
import Derived.JoinedTies
import Derived.KernelRfl
namespace Go.Proofs.Ythmhjnholhiohaa
/- THE CELL 'sum', in the pinned program and in every row, IS THE sha256 OF THE DUMP (.gsa) THAT YthmhjnholhiohaaProg.lean LOADS. Nothing in Lean hashes anything: it is a label: what it is worth is what the hold of that sum in a sandbox is worth. -/
noncomputable def Try.pinned : Pinned := { name := "ythmhjnholhiohaa", sum := "f2059b0a7d1ca7d93674fff8e271f4160d317914bfad8fe048cb37728c857752", checked := Try.checked }
namespace Rows
def none {H : Type} : Left H := { results := [], args := [] }

/-- 'laws.FnExactIsGauss': WHATEVER THE INPUT: true; the input reads as it did. -/
def fnExactIsGaussSpec : ChangeSpec := { name := "fnExactIsGauss", fn := fun _ => fun
  | [d] => { results := [.lit (.bool true)], args := [d] }
  | _ => none }
def fnExactIsGaussRow : OpenClaim := { program := "ythmhjnholhiohaa", sum := "f2059b0a7d1ca7d93674fff8e271f4160d317914bfad8fe048cb37728c857752", func := "loop.example/g01313/laws.FnExactIsGauss", spec := "fnExactIsGauss", apart := false }
def FnExactIsGaussSaid : Prop := fnExactIsGaussRow.holds Try.pinned (OpenSpec.ofChange fnExactIsGaussSpec)

/-- ITS FALSE NEIGHBOUR: 'it returns false'. Refute it at one input. -/
def fnExactIsGaussWrong : ChangeSpec := { name := "fnExactIsGauss", fn := fun _ => fun
  | [d] => { results := [.lit (.bool false)], args := [d] }
  | _ => none }
def FnExactIsGaussWrongFalsely : Prop := fnExactIsGaussRow.holds Try.pinned (OpenSpec.ofChange fnExactIsGaussWrong)

/-- 'laws.FnExactConstantGauss': WHATEVER THE INPUT: true; the input reads as it did. -/
def fnExactConstantGaussSpec : ChangeSpec := { name := "fnExactConstantGauss", fn := fun _ => fun
  | [d1, d2] => { results := [.lit (.bool true)], args := [d1, d2] }
  | _ => none }
def fnExactConstantGaussRow : OpenClaim := { program := "ythmhjnholhiohaa", sum := "f2059b0a7d1ca7d93674fff8e271f4160d317914bfad8fe048cb37728c857752", func := "loop.example/g01313/laws.FnExactConstantGauss", spec := "fnExactConstantGauss", apart := false }
def FnExactConstantGaussSaid : Prop := fnExactConstantGaussRow.holds Try.pinned (OpenSpec.ofChange fnExactConstantGaussSpec)

/-- ITS FALSE NEIGHBOUR: 'it returns false'. Refute it at one input. -/
def fnExactConstantGaussWrong : ChangeSpec := { name := "fnExactConstantGauss", fn := fun _ => fun
  | [d1, d2] => { results := [.lit (.bool false)], args := [d1, d2] }
  | _ => none }
def FnExactConstantGaussWrongFalsely : Prop := fnExactConstantGaussRow.holds Try.pinned (OpenSpec.ofChange fnExactConstantGaussWrong)

/-- 'laws.FnExactConstantOf': WHATEVER THE INPUT: true; the input reads as it did. -/
def fnExactConstantOfSpec : ChangeSpec := { name := "fnExactConstantOf", fn := fun _ => fun
  | [d] => { results := [.lit (.bool true)], args := [d] }
  | _ => none }
def fnExactConstantOfRow : OpenClaim := { program := "ythmhjnholhiohaa", sum := "f2059b0a7d1ca7d93674fff8e271f4160d317914bfad8fe048cb37728c857752", func := "loop.example/g01313/laws.FnExactConstantOf", spec := "fnExactConstantOf", apart := false }
def FnExactConstantOfSaid : Prop := fnExactConstantOfRow.holds Try.pinned (OpenSpec.ofChange fnExactConstantOfSpec)

/-- ITS FALSE NEIGHBOUR: 'it returns false'. Refute it at one input. -/
def fnExactConstantOfWrong : ChangeSpec := { name := "fnExactConstantOf", fn := fun _ => fun
  | [d] => { results := [.lit (.bool false)], args := [d] }
  | _ => none }
def FnExactConstantOfWrongFalsely : Prop := fnExactConstantOfRow.holds Try.pinned (OpenSpec.ofChange fnExactConstantOfWrong)

/-- 'laws.FnExactAddGauss': WHATEVER THE INPUT: true; the input reads as it did. -/
def fnExactAddGaussSpec : ChangeSpec := { name := "fnExactAddGauss", fn := fun _ => fun
  | [d1, d2, d3] => { results := [.lit (.bool true)], args := [d1, d2, d3] }
  | _ => none }
def fnExactAddGaussRow : OpenClaim := { program := "ythmhjnholhiohaa", sum := "f2059b0a7d1ca7d93674fff8e271f4160d317914bfad8fe048cb37728c857752", func := "loop.example/g01313/laws.FnExactAddGauss", spec := "fnExactAddGauss", unfollowed := true, recurses := true, leaving := true, apart := false }
def FnExactAddGaussSaid : Prop := fnExactAddGaussRow.holds Try.pinned (OpenSpec.ofChange fnExactAddGaussSpec)

/-- ITS FALSE NEIGHBOUR: 'it returns false'. Refute it at one input. -/
def fnExactAddGaussWrong : ChangeSpec := { name := "fnExactAddGauss", fn := fun _ => fun
  | [d1, d2, d3] => { results := [.lit (.bool false)], args := [d1, d2, d3] }
  | _ => none }
def FnExactAddGaussWrongFalsely : Prop := fnExactAddGaussRow.holds Try.pinned (OpenSpec.ofChange fnExactAddGaussWrong)

/-- 'laws.FnExactConjugateGauss': WHATEVER THE INPUT: true; the input reads as it did. -/
def fnExactConjugateGaussSpec : ChangeSpec := { name := "fnExactConjugateGauss", fn := fun _ => fun
  | [d] => { results := [.lit (.bool true)], args := [d] }
  | _ => none }
def fnExactConjugateGaussRow : OpenClaim := { program := "ythmhjnholhiohaa", sum := "f2059b0a7d1ca7d93674fff8e271f4160d317914bfad8fe048cb37728c857752", func := "loop.example/g01313/laws.FnExactConjugateGauss", spec := "fnExactConjugateGauss", unfollowed := true, recurses := true, leaving := true, apart := false }
def FnExactConjugateGaussSaid : Prop := fnExactConjugateGaussRow.holds Try.pinned (OpenSpec.ofChange fnExactConjugateGaussSpec)

/-- ITS FALSE NEIGHBOUR: 'it returns false'. Refute it at one input. -/
def fnExactConjugateGaussWrong : ChangeSpec := { name := "fnExactConjugateGauss", fn := fun _ => fun
  | [d] => { results := [.lit (.bool false)], args := [d] }
  | _ => none }
def FnExactConjugateGaussWrongFalsely : Prop := fnExactConjugateGaussRow.holds Try.pinned (OpenSpec.ofChange fnExactConjugateGaussWrong)

/-- 'laws.FnExactScaleGauss': WHATEVER THE INPUT: true; the input reads as it did. -/
def fnExactScaleGaussSpec : ChangeSpec := { name := "fnExactScaleGauss", fn := fun _ => fun
  | [d1, d2] => { results := [.lit (.bool true)], args := [d1, d2] }
  | _ => none }
def fnExactScaleGaussRow : OpenClaim := { program := "ythmhjnholhiohaa", sum := "f2059b0a7d1ca7d93674fff8e271f4160d317914bfad8fe048cb37728c857752", func := "loop.example/g01313/laws.FnExactScaleGauss", spec := "fnExactScaleGauss", unfollowed := true, recurses := true, leaving := true, apart := false }
def FnExactScaleGaussSaid : Prop := fnExactScaleGaussRow.holds Try.pinned (OpenSpec.ofChange fnExactScaleGaussSpec)

/-- ITS FALSE NEIGHBOUR: 'it returns false'. Refute it at one input. -/
def fnExactScaleGaussWrong : ChangeSpec := { name := "fnExactScaleGauss", fn := fun _ => fun
  | [d1, d2] => { results := [.lit (.bool false)], args := [d1, d2] }
  | _ => none }
def FnExactScaleGaussWrongFalsely : Prop := fnExactScaleGaussRow.holds Try.pinned (OpenSpec.ofChange fnExactScaleGaussWrong)

/-- 'laws.FnExactMoveRoot': WHATEVER THE INPUT: true; the input reads as it did. -/
def fnExactMoveRootSpec : ChangeSpec := { name := "fnExactMoveRoot", fn := fun _ => fun
  | [d1, d2] => { results := [.lit (.bool true)], args := [d1, d2] }
  | _ => none }
def fnExactMoveRootRow : OpenClaim := { program := "ythmhjnholhiohaa", sum := "f2059b0a7d1ca7d93674fff8e271f4160d317914bfad8fe048cb37728c857752", func := "loop.example/g01313/laws.FnExactMoveRoot", spec := "fnExactMoveRoot", apart := false }
def FnExactMoveRootSaid : Prop := fnExactMoveRootRow.holds Try.pinned (OpenSpec.ofChange fnExactMoveRootSpec)

/-- ITS FALSE NEIGHBOUR: 'it returns false'. Refute it at one input. -/
def fnExactMoveRootWrong : ChangeSpec := { name := "fnExactMoveRoot", fn := fun _ => fun
  | [d1, d2] => { results := [.lit (.bool false)], args := [d1, d2] }
  | _ => none }
def FnExactMoveRootWrongFalsely : Prop := fnExactMoveRootRow.holds Try.pinned (OpenSpec.ofChange fnExactMoveRootWrong)

/-- 'laws.FnExactGaussSum': WHATEVER THE INPUT: true; the input reads as it did. -/
def fnExactGaussSumSpec : ChangeSpec := { name := "fnExactGaussSum", fn := fun _ => fun
  | [d] => { results := [.lit (.bool true)], args := [d] }
  | _ => none }
def fnExactGaussSumRow : OpenClaim := { program := "ythmhjnholhiohaa", sum := "f2059b0a7d1ca7d93674fff8e271f4160d317914bfad8fe048cb37728c857752", func := "loop.example/g01313/laws.FnExactGaussSum", spec := "fnExactGaussSum", inPlace := ["(*sync.WaitGroup).Add", "internal/race.ReleaseMerge", "internal/race.Disable", "internal/race.Enable", "internal/synctest.IsInBubble", "internal/synctest.Associate[sync.WaitGroup]", "sync.fatal", "sync/atomic.OrUint64", "sync/atomic.AddUint64", "internal/race.Read", "sync/atomic.LoadUint64", "sync/atomic.StoreUint64", "internal/synctest.Disassociate[sync.WaitGroup]", "sync.runtime_Semrelease", "(*sync.WaitGroup).Done", "(*sync.WaitGroup).Wait", "internal/race.Acquire", "internal/synctest.IsAssociated[sync.WaitGroup]", "sync/atomic.CompareAndSwapUint64", "internal/race.Write", "sync.runtime_SemacquireWaitGroup"], unfollowed := true, recurses := true, leaving := true, apart := false }
def FnExactGaussSumSaid : Prop := fnExactGaussSumRow.holds Try.pinned (OpenSpec.ofChange fnExactGaussSumSpec)

/-- ITS FALSE NEIGHBOUR: 'it returns false'. Refute it at one input. -/
def fnExactGaussSumWrong : ChangeSpec := { name := "fnExactGaussSum", fn := fun _ => fun
  | [d] => { results := [.lit (.bool false)], args := [d] }
  | _ => none }
def FnExactGaussSumWrongFalsely : Prop := fnExactGaussSumRow.holds Try.pinned (OpenSpec.ofChange fnExactGaussSumWrong)

/-- 'laws.FnExactTwistedSum': WHATEVER THE INPUT: true; the input reads as it did. -/
def fnExactTwistedSumSpec : ChangeSpec := { name := "fnExactTwistedSum", fn := fun _ => fun
  | [d1, d2] => { results := [.lit (.bool true)], args := [d1, d2] }
  | _ => none }
def fnExactTwistedSumRow : OpenClaim := { program := "ythmhjnholhiohaa", sum := "f2059b0a7d1ca7d93674fff8e271f4160d317914bfad8fe048cb37728c857752", func := "loop.example/g01313/laws.FnExactTwistedSum", spec := "fnExactTwistedSum", inPlace := ["(*sync.WaitGroup).Add", "internal/race.ReleaseMerge", "internal/race.Disable", "internal/race.Enable", "internal/synctest.IsInBubble", "internal/synctest.Associate[sync.WaitGroup]", "sync.fatal", "sync/atomic.OrUint64", "sync/atomic.AddUint64", "internal/race.Read", "sync/atomic.LoadUint64", "sync/atomic.StoreUint64", "internal/synctest.Disassociate[sync.WaitGroup]", "sync.runtime_Semrelease", "(*sync.WaitGroup).Done", "(*sync.WaitGroup).Wait", "internal/race.Acquire", "internal/synctest.IsAssociated[sync.WaitGroup]", "sync/atomic.CompareAndSwapUint64", "internal/race.Write", "sync.runtime_SemacquireWaitGroup"], unfollowed := true, recurses := true, leaving := true, apart := false }
def FnExactTwistedSumSaid : Prop := fnExactTwistedSumRow.holds Try.pinned (OpenSpec.ofChange fnExactTwistedSumSpec)

/-- ITS FALSE NEIGHBOUR: 'it returns false'. Refute it at one input. -/
def fnExactTwistedSumWrong : ChangeSpec := { name := "fnExactTwistedSum", fn := fun _ => fun
  | [d1, d2] => { results := [.lit (.bool false)], args := [d1, d2] }
  | _ => none }
def FnExactTwistedSumWrongFalsely : Prop := fnExactTwistedSumRow.holds Try.pinned (OpenSpec.ofChange fnExactTwistedSumWrong)

/-- 'laws.FnExactMultiplyGauss': WHATEVER THE INPUT: true; the input reads as it did. -/
def fnExactMultiplyGaussSpec : ChangeSpec := { name := "fnExactMultiplyGauss", fn := fun _ => fun
  | [d1, d2] => { results := [.lit (.bool true)], args := [d1, d2] }
  | _ => none }
def fnExactMultiplyGaussRow : OpenClaim := { program := "ythmhjnholhiohaa", sum := "f2059b0a7d1ca7d93674fff8e271f4160d317914bfad8fe048cb37728c857752", func := "loop.example/g01313/laws.FnExactMultiplyGauss", spec := "fnExactMultiplyGauss", inPlace := ["(*sync.WaitGroup).Add", "internal/race.ReleaseMerge", "internal/race.Disable", "internal/race.Enable", "internal/synctest.IsInBubble", "internal/synctest.Associate[sync.WaitGroup]", "sync.fatal", "sync/atomic.OrUint64", "sync/atomic.AddUint64", "internal/race.Read", "sync/atomic.LoadUint64", "sync/atomic.StoreUint64", "internal/synctest.Disassociate[sync.WaitGroup]", "sync.runtime_Semrelease", "(*sync.WaitGroup).Done", "(*sync.WaitGroup).Wait", "internal/race.Acquire", "internal/synctest.IsAssociated[sync.WaitGroup]", "sync/atomic.CompareAndSwapUint64", "internal/race.Write", "sync.runtime_SemacquireWaitGroup"], unfollowed := true, recurses := true, leaving := true, apart := false }
def FnExactMultiplyGaussSaid : Prop := fnExactMultiplyGaussRow.holds Try.pinned (OpenSpec.ofChange fnExactMultiplyGaussSpec)

/-- ITS FALSE NEIGHBOUR: 'it returns false'. Refute it at one input. -/
def fnExactMultiplyGaussWrong : ChangeSpec := { name := "fnExactMultiplyGauss", fn := fun _ => fun
  | [d1, d2] => { results := [.lit (.bool false)], args := [d1, d2] }
  | _ => none }
def FnExactMultiplyGaussWrongFalsely : Prop := fnExactMultiplyGaussRow.holds Try.pinned (OpenSpec.ofChange fnExactMultiplyGaussWrong)

/-- 'laws.FnExactJacobiOf': WHATEVER THE INPUT: true; the input reads as it did. -/
def fnExactJacobiOfSpec : ChangeSpec := { name := "fnExactJacobiOf", fn := fun _ => fun
  | [d] => { results := [.lit (.bool true)], args := [d] }
  | _ => none }
def fnExactJacobiOfRow : OpenClaim := { program := "ythmhjnholhiohaa", sum := "f2059b0a7d1ca7d93674fff8e271f4160d317914bfad8fe048cb37728c857752", func := "loop.example/g01313/laws.FnExactJacobiOf", spec := "fnExactJacobiOf", inPlace := ["(*sync.WaitGroup).Add", "internal/race.ReleaseMerge", "internal/race.Disable", "internal/race.Enable", "internal/synctest.IsInBubble", "internal/synctest.Associate[sync.WaitGroup]", "sync.fatal", "sync/atomic.OrUint64", "sync/atomic.AddUint64", "internal/race.Read", "sync/atomic.LoadUint64", "sync/atomic.StoreUint64", "internal/synctest.Disassociate[sync.WaitGroup]", "sync.runtime_Semrelease", "(*sync.WaitGroup).Done", "(*sync.WaitGroup).Wait", "internal/race.Acquire", "internal/synctest.IsAssociated[sync.WaitGroup]", "sync/atomic.CompareAndSwapUint64", "internal/race.Write", "sync.runtime_SemacquireWaitGroup"], unfollowed := true, recurses := true, leaving := true, apart := false }
def FnExactJacobiOfSaid : Prop := fnExactJacobiOfRow.holds Try.pinned (OpenSpec.ofChange fnExactJacobiOfSpec)

/-- ITS FALSE NEIGHBOUR: 'it returns false'. Refute it at one input. -/
def fnExactJacobiOfWrong : ChangeSpec := { name := "fnExactJacobiOf", fn := fun _ => fun
  | [d] => { results := [.lit (.bool false)], args := [d] }
  | _ => none }
def FnExactJacobiOfWrongFalsely : Prop := fnExactJacobiOfRow.holds Try.pinned (OpenSpec.ofChange fnExactJacobiOfWrong)

/-- 'laws.FnExactZeroSumOf': WHATEVER THE INPUT: true; the input reads as it did. -/
def fnExactZeroSumOfSpec : ChangeSpec := { name := "fnExactZeroSumOf", fn := fun _ => fun
  | [d] => { results := [.lit (.bool true)], args := [d] }
  | _ => none }
def fnExactZeroSumOfRow : OpenClaim := { program := "ythmhjnholhiohaa", sum := "f2059b0a7d1ca7d93674fff8e271f4160d317914bfad8fe048cb37728c857752", func := "loop.example/g01313/laws.FnExactZeroSumOf", spec := "fnExactZeroSumOf", inPlace := ["(*sync.WaitGroup).Add", "internal/race.ReleaseMerge", "internal/race.Disable", "internal/race.Enable", "internal/synctest.IsInBubble", "internal/synctest.Associate[sync.WaitGroup]", "sync.fatal", "sync/atomic.OrUint64", "sync/atomic.AddUint64", "internal/race.Read", "sync/atomic.LoadUint64", "sync/atomic.StoreUint64", "internal/synctest.Disassociate[sync.WaitGroup]", "sync.runtime_Semrelease", "(*sync.WaitGroup).Done", "(*sync.WaitGroup).Wait", "internal/race.Acquire", "internal/synctest.IsAssociated[sync.WaitGroup]", "sync/atomic.CompareAndSwapUint64", "internal/race.Write", "sync.runtime_SemacquireWaitGroup"], unfollowed := true, recurses := true, leaving := true, apart := false }
def FnExactZeroSumOfSaid : Prop := fnExactZeroSumOfRow.holds Try.pinned (OpenSpec.ofChange fnExactZeroSumOfSpec)

/-- ITS FALSE NEIGHBOUR: 'it returns false'. Refute it at one input. -/
def fnExactZeroSumOfWrong : ChangeSpec := { name := "fnExactZeroSumOf", fn := fun _ => fun
  | [d] => { results := [.lit (.bool false)], args := [d] }
  | _ => none }
def FnExactZeroSumOfWrongFalsely : Prop := fnExactZeroSumOfRow.holds Try.pinned (OpenSpec.ofChange fnExactZeroSumOfWrong)

/-- 'laws.FnExactJacobiRow': WHATEVER THE INPUT: true; the input reads as it did. -/
def fnExactJacobiRowSpec : ChangeSpec := { name := "fnExactJacobiRow", fn := fun _ => fun
  | [d] => { results := [.lit (.bool true)], args := [d] }
  | _ => none }
def fnExactJacobiRowRow : OpenClaim := { program := "ythmhjnholhiohaa", sum := "f2059b0a7d1ca7d93674fff8e271f4160d317914bfad8fe048cb37728c857752", func := "loop.example/g01313/laws.FnExactJacobiRow", spec := "fnExactJacobiRow", inPlace := ["(*sync.WaitGroup).Add", "internal/race.ReleaseMerge", "internal/race.Disable", "internal/race.Enable", "internal/synctest.IsInBubble", "internal/synctest.Associate[sync.WaitGroup]", "sync.fatal", "sync/atomic.OrUint64", "sync/atomic.AddUint64", "internal/race.Read", "sync/atomic.LoadUint64", "sync/atomic.StoreUint64", "internal/synctest.Disassociate[sync.WaitGroup]", "sync.runtime_Semrelease", "(*sync.WaitGroup).Done", "(*sync.WaitGroup).Wait", "internal/race.Acquire", "internal/synctest.IsAssociated[sync.WaitGroup]", "sync/atomic.CompareAndSwapUint64", "internal/race.Write", "sync.runtime_SemacquireWaitGroup"], unfollowed := true, recurses := true, leaving := true, apart := false }
def FnExactJacobiRowSaid : Prop := fnExactJacobiRowRow.holds Try.pinned (OpenSpec.ofChange fnExactJacobiRowSpec)

/-- ITS FALSE NEIGHBOUR: 'it returns false'. Refute it at one input. -/
def fnExactJacobiRowWrong : ChangeSpec := { name := "fnExactJacobiRow", fn := fun _ => fun
  | [d] => { results := [.lit (.bool false)], args := [d] }
  | _ => none }
def FnExactJacobiRowWrongFalsely : Prop := fnExactJacobiRowRow.holds Try.pinned (OpenSpec.ofChange fnExactJacobiRowWrong)

/-- 'laws.FnExactCountByJacobi': WHATEVER THE INPUT: true; the input reads as it did. -/
def fnExactCountByJacobiSpec : ChangeSpec := { name := "fnExactCountByJacobi", fn := fun _ => fun
  | [d1, d2, d3] => { results := [.lit (.bool true)], args := [d1, d2, d3] }
  | _ => none }
def fnExactCountByJacobiRow : OpenClaim := { program := "ythmhjnholhiohaa", sum := "f2059b0a7d1ca7d93674fff8e271f4160d317914bfad8fe048cb37728c857752", func := "loop.example/g01313/laws.FnExactCountByJacobi", spec := "fnExactCountByJacobi", inPlace := ["(*sync.WaitGroup).Add", "internal/race.ReleaseMerge", "internal/race.Disable", "internal/race.Enable", "internal/synctest.IsInBubble", "internal/synctest.Associate[sync.WaitGroup]", "sync.fatal", "sync/atomic.OrUint64", "sync/atomic.AddUint64", "internal/race.Read", "sync/atomic.LoadUint64", "sync/atomic.StoreUint64", "internal/synctest.Disassociate[sync.WaitGroup]", "sync.runtime_Semrelease", "(*sync.WaitGroup).Done", "(*sync.WaitGroup).Wait", "internal/race.Acquire", "internal/synctest.IsAssociated[sync.WaitGroup]", "sync/atomic.CompareAndSwapUint64", "internal/race.Write", "sync.runtime_SemacquireWaitGroup"], unfollowed := true, recurses := true, leaving := true, apart := false }
def FnExactCountByJacobiSaid : Prop := fnExactCountByJacobiRow.holds Try.pinned (OpenSpec.ofChange fnExactCountByJacobiSpec)

/-- ITS FALSE NEIGHBOUR: 'it returns false'. Refute it at one input. -/
def fnExactCountByJacobiWrong : ChangeSpec := { name := "fnExactCountByJacobi", fn := fun _ => fun
  | [d1, d2, d3] => { results := [.lit (.bool false)], args := [d1, d2, d3] }
  | _ => none }
def FnExactCountByJacobiWrongFalsely : Prop := fnExactCountByJacobiRow.holds Try.pinned (OpenSpec.ofChange fnExactCountByJacobiWrong)

/- THE SECOND FORM. 'bulk': how many values and letters a reading holds, each counted each time it is reached (what is shared counts as often as it is met; a slice's spare places count too). A statement '..UptoSaid' is the law's where the arguments, and the package variables that the reading takes, are together of bulk at most 1048576: NARROWER than '..Said'. Prove '..Said' where nothing that the law and all that it calls make is longer than what came in: it says more and counts as full. Else prove '..UptoSaid'. A law counts once. -/
mutual
def uptoBulk {H : Type} : DataW H → Nat
  | .lit (.string bytes) => bytes.length + 1
  | .lit _ => 1
  | .nil => 1
  | .ptr d => uptoBulk d + 1
  | .slice elems spare => uptoBulkAll elems + uptoBulkAll spare + 1
  | .agg parts => uptoBulkAll parts + 1
  | .iface _ d => uptoBulk d + 1
  | .map entries => uptoBulkEntries entries + 1
  | .held _ => 1
def uptoBulkAll {H : Type} : List (DataW H) → Nat
  | [] => 0
  | d :: r => uptoBulk d + uptoBulkAll r
def uptoBulkEntries {H : Type} : List (Lit × DataW H) → Nat
  | [] => 0
  | x :: r => uptoBulkEntry x + uptoBulkEntries r
def uptoBulkEntry {H : Type} : Lit × DataW H → Nat
  | (.string bytes, d) => bytes.length + uptoBulk d + 1
  | (_, d) => uptoBulk d + 1
 end
def uptoSmall : (H : Type) → List (DataW H) → Bool := fun _ ds => decide (uptoBulkAll ds ≤ 1048576)
def OpenSpec.upto (s : _root_.Go.ChangeSpec) : _root_.Go.OpenSpec := { _root_.Go.OpenSpec.ofChange s with cond := some uptoSmall }

/-- 'laws.FnExactIsGauss', WHERE WHAT IT READS IS OF BULK AT MOST 1048576: true; the input reads as it did. -/
def fnExactIsGaussUptoRow : OpenClaim := { program := "ythmhjnholhiohaa", sum := "f2059b0a7d1ca7d93674fff8e271f4160d317914bfad8fe048cb37728c857752", func := "loop.example/g01313/laws.FnExactIsGauss", spec := "fnExactIsGauss", apart := false, narrowed := true }
def FnExactIsGaussUptoSaid : Prop := fnExactIsGaussUptoRow.holds Try.pinned (OpenSpec.upto fnExactIsGaussSpec)

/-- 'laws.FnExactConstantGauss', WHERE WHAT IT READS IS OF BULK AT MOST 1048576: true; the input reads as it did. -/
def fnExactConstantGaussUptoRow : OpenClaim := { program := "ythmhjnholhiohaa", sum := "f2059b0a7d1ca7d93674fff8e271f4160d317914bfad8fe048cb37728c857752", func := "loop.example/g01313/laws.FnExactConstantGauss", spec := "fnExactConstantGauss", apart := false, narrowed := true }
def FnExactConstantGaussUptoSaid : Prop := fnExactConstantGaussUptoRow.holds Try.pinned (OpenSpec.upto fnExactConstantGaussSpec)

/-- 'laws.FnExactConstantOf', WHERE WHAT IT READS IS OF BULK AT MOST 1048576: true; the input reads as it did. -/
def fnExactConstantOfUptoRow : OpenClaim := { program := "ythmhjnholhiohaa", sum := "f2059b0a7d1ca7d93674fff8e271f4160d317914bfad8fe048cb37728c857752", func := "loop.example/g01313/laws.FnExactConstantOf", spec := "fnExactConstantOf", apart := false, narrowed := true }
def FnExactConstantOfUptoSaid : Prop := fnExactConstantOfUptoRow.holds Try.pinned (OpenSpec.upto fnExactConstantOfSpec)

/-- 'laws.FnExactAddGauss', WHERE WHAT IT READS IS OF BULK AT MOST 1048576: true; the input reads as it did. -/
def fnExactAddGaussUptoRow : OpenClaim := { program := "ythmhjnholhiohaa", sum := "f2059b0a7d1ca7d93674fff8e271f4160d317914bfad8fe048cb37728c857752", func := "loop.example/g01313/laws.FnExactAddGauss", spec := "fnExactAddGauss", unfollowed := true, recurses := true, leaving := true, apart := false, narrowed := true }
def FnExactAddGaussUptoSaid : Prop := fnExactAddGaussUptoRow.holds Try.pinned (OpenSpec.upto fnExactAddGaussSpec)

/-- 'laws.FnExactConjugateGauss', WHERE WHAT IT READS IS OF BULK AT MOST 1048576: true; the input reads as it did. -/
def fnExactConjugateGaussUptoRow : OpenClaim := { program := "ythmhjnholhiohaa", sum := "f2059b0a7d1ca7d93674fff8e271f4160d317914bfad8fe048cb37728c857752", func := "loop.example/g01313/laws.FnExactConjugateGauss", spec := "fnExactConjugateGauss", unfollowed := true, recurses := true, leaving := true, apart := false, narrowed := true }
def FnExactConjugateGaussUptoSaid : Prop := fnExactConjugateGaussUptoRow.holds Try.pinned (OpenSpec.upto fnExactConjugateGaussSpec)

/-- 'laws.FnExactScaleGauss', WHERE WHAT IT READS IS OF BULK AT MOST 1048576: true; the input reads as it did. -/
def fnExactScaleGaussUptoRow : OpenClaim := { program := "ythmhjnholhiohaa", sum := "f2059b0a7d1ca7d93674fff8e271f4160d317914bfad8fe048cb37728c857752", func := "loop.example/g01313/laws.FnExactScaleGauss", spec := "fnExactScaleGauss", unfollowed := true, recurses := true, leaving := true, apart := false, narrowed := true }
def FnExactScaleGaussUptoSaid : Prop := fnExactScaleGaussUptoRow.holds Try.pinned (OpenSpec.upto fnExactScaleGaussSpec)

/-- 'laws.FnExactMoveRoot', WHERE WHAT IT READS IS OF BULK AT MOST 1048576: true; the input reads as it did. -/
def fnExactMoveRootUptoRow : OpenClaim := { program := "ythmhjnholhiohaa", sum := "f2059b0a7d1ca7d93674fff8e271f4160d317914bfad8fe048cb37728c857752", func := "loop.example/g01313/laws.FnExactMoveRoot", spec := "fnExactMoveRoot", apart := false, narrowed := true }
def FnExactMoveRootUptoSaid : Prop := fnExactMoveRootUptoRow.holds Try.pinned (OpenSpec.upto fnExactMoveRootSpec)

/-- 'laws.FnExactGaussSum', WHERE WHAT IT READS IS OF BULK AT MOST 1048576: true; the input reads as it did. -/
def fnExactGaussSumUptoRow : OpenClaim := { program := "ythmhjnholhiohaa", sum := "f2059b0a7d1ca7d93674fff8e271f4160d317914bfad8fe048cb37728c857752", func := "loop.example/g01313/laws.FnExactGaussSum", spec := "fnExactGaussSum", inPlace := ["(*sync.WaitGroup).Add", "internal/race.ReleaseMerge", "internal/race.Disable", "internal/race.Enable", "internal/synctest.IsInBubble", "internal/synctest.Associate[sync.WaitGroup]", "sync.fatal", "sync/atomic.OrUint64", "sync/atomic.AddUint64", "internal/race.Read", "sync/atomic.LoadUint64", "sync/atomic.StoreUint64", "internal/synctest.Disassociate[sync.WaitGroup]", "sync.runtime_Semrelease", "(*sync.WaitGroup).Done", "(*sync.WaitGroup).Wait", "internal/race.Acquire", "internal/synctest.IsAssociated[sync.WaitGroup]", "sync/atomic.CompareAndSwapUint64", "internal/race.Write", "sync.runtime_SemacquireWaitGroup"], unfollowed := true, recurses := true, leaving := true, apart := false, narrowed := true }
def FnExactGaussSumUptoSaid : Prop := fnExactGaussSumUptoRow.holds Try.pinned (OpenSpec.upto fnExactGaussSumSpec)

/-- 'laws.FnExactTwistedSum', WHERE WHAT IT READS IS OF BULK AT MOST 1048576: true; the input reads as it did. -/
def fnExactTwistedSumUptoRow : OpenClaim := { program := "ythmhjnholhiohaa", sum := "f2059b0a7d1ca7d93674fff8e271f4160d317914bfad8fe048cb37728c857752", func := "loop.example/g01313/laws.FnExactTwistedSum", spec := "fnExactTwistedSum", inPlace := ["(*sync.WaitGroup).Add", "internal/race.ReleaseMerge", "internal/race.Disable", "internal/race.Enable", "internal/synctest.IsInBubble", "internal/synctest.Associate[sync.WaitGroup]", "sync.fatal", "sync/atomic.OrUint64", "sync/atomic.AddUint64", "internal/race.Read", "sync/atomic.LoadUint64", "sync/atomic.StoreUint64", "internal/synctest.Disassociate[sync.WaitGroup]", "sync.runtime_Semrelease", "(*sync.WaitGroup).Done", "(*sync.WaitGroup).Wait", "internal/race.Acquire", "internal/synctest.IsAssociated[sync.WaitGroup]", "sync/atomic.CompareAndSwapUint64", "internal/race.Write", "sync.runtime_SemacquireWaitGroup"], unfollowed := true, recurses := true, leaving := true, apart := false, narrowed := true }
def FnExactTwistedSumUptoSaid : Prop := fnExactTwistedSumUptoRow.holds Try.pinned (OpenSpec.upto fnExactTwistedSumSpec)

/-- 'laws.FnExactMultiplyGauss', WHERE WHAT IT READS IS OF BULK AT MOST 1048576: true; the input reads as it did. -/
def fnExactMultiplyGaussUptoRow : OpenClaim := { program := "ythmhjnholhiohaa", sum := "f2059b0a7d1ca7d93674fff8e271f4160d317914bfad8fe048cb37728c857752", func := "loop.example/g01313/laws.FnExactMultiplyGauss", spec := "fnExactMultiplyGauss", inPlace := ["(*sync.WaitGroup).Add", "internal/race.ReleaseMerge", "internal/race.Disable", "internal/race.Enable", "internal/synctest.IsInBubble", "internal/synctest.Associate[sync.WaitGroup]", "sync.fatal", "sync/atomic.OrUint64", "sync/atomic.AddUint64", "internal/race.Read", "sync/atomic.LoadUint64", "sync/atomic.StoreUint64", "internal/synctest.Disassociate[sync.WaitGroup]", "sync.runtime_Semrelease", "(*sync.WaitGroup).Done", "(*sync.WaitGroup).Wait", "internal/race.Acquire", "internal/synctest.IsAssociated[sync.WaitGroup]", "sync/atomic.CompareAndSwapUint64", "internal/race.Write", "sync.runtime_SemacquireWaitGroup"], unfollowed := true, recurses := true, leaving := true, apart := false, narrowed := true }
def FnExactMultiplyGaussUptoSaid : Prop := fnExactMultiplyGaussUptoRow.holds Try.pinned (OpenSpec.upto fnExactMultiplyGaussSpec)

/-- 'laws.FnExactJacobiOf', WHERE WHAT IT READS IS OF BULK AT MOST 1048576: true; the input reads as it did. -/
def fnExactJacobiOfUptoRow : OpenClaim := { program := "ythmhjnholhiohaa", sum := "f2059b0a7d1ca7d93674fff8e271f4160d317914bfad8fe048cb37728c857752", func := "loop.example/g01313/laws.FnExactJacobiOf", spec := "fnExactJacobiOf", inPlace := ["(*sync.WaitGroup).Add", "internal/race.ReleaseMerge", "internal/race.Disable", "internal/race.Enable", "internal/synctest.IsInBubble", "internal/synctest.Associate[sync.WaitGroup]", "sync.fatal", "sync/atomic.OrUint64", "sync/atomic.AddUint64", "internal/race.Read", "sync/atomic.LoadUint64", "sync/atomic.StoreUint64", "internal/synctest.Disassociate[sync.WaitGroup]", "sync.runtime_Semrelease", "(*sync.WaitGroup).Done", "(*sync.WaitGroup).Wait", "internal/race.Acquire", "internal/synctest.IsAssociated[sync.WaitGroup]", "sync/atomic.CompareAndSwapUint64", "internal/race.Write", "sync.runtime_SemacquireWaitGroup"], unfollowed := true, recurses := true, leaving := true, apart := false, narrowed := true }
def FnExactJacobiOfUptoSaid : Prop := fnExactJacobiOfUptoRow.holds Try.pinned (OpenSpec.upto fnExactJacobiOfSpec)

/-- 'laws.FnExactZeroSumOf', WHERE WHAT IT READS IS OF BULK AT MOST 1048576: true; the input reads as it did. -/
def fnExactZeroSumOfUptoRow : OpenClaim := { program := "ythmhjnholhiohaa", sum := "f2059b0a7d1ca7d93674fff8e271f4160d317914bfad8fe048cb37728c857752", func := "loop.example/g01313/laws.FnExactZeroSumOf", spec := "fnExactZeroSumOf", inPlace := ["(*sync.WaitGroup).Add", "internal/race.ReleaseMerge", "internal/race.Disable", "internal/race.Enable", "internal/synctest.IsInBubble", "internal/synctest.Associate[sync.WaitGroup]", "sync.fatal", "sync/atomic.OrUint64", "sync/atomic.AddUint64", "internal/race.Read", "sync/atomic.LoadUint64", "sync/atomic.StoreUint64", "internal/synctest.Disassociate[sync.WaitGroup]", "sync.runtime_Semrelease", "(*sync.WaitGroup).Done", "(*sync.WaitGroup).Wait", "internal/race.Acquire", "internal/synctest.IsAssociated[sync.WaitGroup]", "sync/atomic.CompareAndSwapUint64", "internal/race.Write", "sync.runtime_SemacquireWaitGroup"], unfollowed := true, recurses := true, leaving := true, apart := false, narrowed := true }
def FnExactZeroSumOfUptoSaid : Prop := fnExactZeroSumOfUptoRow.holds Try.pinned (OpenSpec.upto fnExactZeroSumOfSpec)

/-- 'laws.FnExactJacobiRow', WHERE WHAT IT READS IS OF BULK AT MOST 1048576: true; the input reads as it did. -/
def fnExactJacobiRowUptoRow : OpenClaim := { program := "ythmhjnholhiohaa", sum := "f2059b0a7d1ca7d93674fff8e271f4160d317914bfad8fe048cb37728c857752", func := "loop.example/g01313/laws.FnExactJacobiRow", spec := "fnExactJacobiRow", inPlace := ["(*sync.WaitGroup).Add", "internal/race.ReleaseMerge", "internal/race.Disable", "internal/race.Enable", "internal/synctest.IsInBubble", "internal/synctest.Associate[sync.WaitGroup]", "sync.fatal", "sync/atomic.OrUint64", "sync/atomic.AddUint64", "internal/race.Read", "sync/atomic.LoadUint64", "sync/atomic.StoreUint64", "internal/synctest.Disassociate[sync.WaitGroup]", "sync.runtime_Semrelease", "(*sync.WaitGroup).Done", "(*sync.WaitGroup).Wait", "internal/race.Acquire", "internal/synctest.IsAssociated[sync.WaitGroup]", "sync/atomic.CompareAndSwapUint64", "internal/race.Write", "sync.runtime_SemacquireWaitGroup"], unfollowed := true, recurses := true, leaving := true, apart := false, narrowed := true }
def FnExactJacobiRowUptoSaid : Prop := fnExactJacobiRowUptoRow.holds Try.pinned (OpenSpec.upto fnExactJacobiRowSpec)

/-- 'laws.FnExactCountByJacobi', WHERE WHAT IT READS IS OF BULK AT MOST 1048576: true; the input reads as it did. -/
def fnExactCountByJacobiUptoRow : OpenClaim := { program := "ythmhjnholhiohaa", sum := "f2059b0a7d1ca7d93674fff8e271f4160d317914bfad8fe048cb37728c857752", func := "loop.example/g01313/laws.FnExactCountByJacobi", spec := "fnExactCountByJacobi", inPlace := ["(*sync.WaitGroup).Add", "internal/race.ReleaseMerge", "internal/race.Disable", "internal/race.Enable", "internal/synctest.IsInBubble", "internal/synctest.Associate[sync.WaitGroup]", "sync.fatal", "sync/atomic.OrUint64", "sync/atomic.AddUint64", "internal/race.Read", "sync/atomic.LoadUint64", "sync/atomic.StoreUint64", "internal/synctest.Disassociate[sync.WaitGroup]", "sync.runtime_Semrelease", "(*sync.WaitGroup).Done", "(*sync.WaitGroup).Wait", "internal/race.Acquire", "internal/synctest.IsAssociated[sync.WaitGroup]", "sync/atomic.CompareAndSwapUint64", "internal/race.Write", "sync.runtime_SemacquireWaitGroup"], unfollowed := true, recurses := true, leaving := true, apart := false, narrowed := true }
def FnExactCountByJacobiUptoSaid : Prop := fnExactCountByJacobiUptoRow.holds Try.pinned (OpenSpec.upto fnExactCountByJacobiSpec)

end Rows
end Go.Proofs.Ythmhjnholhiohaa
