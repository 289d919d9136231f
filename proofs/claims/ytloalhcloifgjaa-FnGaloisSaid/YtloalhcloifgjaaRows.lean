/-
  No cell of these rows narrows 'for every input' (looked for: loops, veiled, ifaces, maps, wideKeys, modest, calm, conditions, laid).
  DERIVED. THE GIVEN ROWS OF THIS SEAT. 13 by the template 'for every input the law returns true; each argument reads behind the call as it read before'; 0 by the template 'total and deterministic' (their statements: YtloalhcloifgjaaTotals.lean).
  GIVEN WITH THE SEED: the statements are not yours to turn. If you find one false, say at which input.
  Laid BY PROGRAM, IN A SANDBOX (cutbox-rows.mjs): the forced cells as the released guide's own fill.sh prints them over the translation 1545a19059226bb6… (all of the seat's roots in one cut). By AI agents, Wed Nov 11 2026. No macro, syntax, notation, axiom, sorry.
-/
import Derived.Test.YtloalhcloifgjaaChecked
import GoSem.Claim
import GoSem.ClaimJoined
import GoSem.ClaimMapViews
import Derived.JoinedTies
import Derived.KernelRfl
namespace Go.Proofs.Ytloalhcloifgjaa
/- THE CELL 'sum', in the pinned program and in every row, IS THE sha256 OF THE DUMP (.gsa) THAT YtloalhcloifgjaaProg.lean LOADS. Nothing in Lean hashes anything: it is a label: what it is worth is what the hold of that sum in a sandbox is worth. -/
noncomputable def Try.pinned : Pinned := { name := "ytloalhcloifgjaa", sum := "1545a19059226bb63acadc8fdd17327b1e942a3c75a194bd27716bb989b68856", checked := Try.checked }
namespace Rows
def none {H : Type} : Left H := { results := [], args := [] }

/-- 'laws.FnExactJacobiSum': WHATEVER THE INPUT: true; the input reads as it did. -/
def fnExactJacobiSumSpec : ChangeSpec := { name := "fnExactJacobiSum", fn := fun _ => fun
  | [d1, d2] => { results := [.lit (.bool true)], args := [d1, d2] }
  | _ => none }
def fnExactJacobiSumRow : OpenClaim := { program := "ytloalhcloifgjaa", sum := "1545a19059226bb63acadc8fdd17327b1e942a3c75a194bd27716bb989b68856", func := "loop.example/g01313/laws.FnExactJacobiSum", spec := "fnExactJacobiSum", unfollowed := true, recurses := true, plainKeys := false, leaving := true, apart := false }
def FnExactJacobiSumSaid : Prop := fnExactJacobiSumRow.holds Try.pinned (OpenSpec.ofChange fnExactJacobiSumSpec)

/-- ITS FALSE NEIGHBOUR: 'it returns false'. Refute it at one input. -/
def fnExactJacobiSumWrong : ChangeSpec := { name := "fnExactJacobiSum", fn := fun _ => fun
  | [d1, d2] => { results := [.lit (.bool false)], args := [d1, d2] }
  | _ => none }
def FnExactJacobiSumWrongFalsely : Prop := fnExactJacobiSumRow.holds Try.pinned (OpenSpec.ofChange fnExactJacobiSumWrong)

/-- 'laws.FnExactJacobiOf': WHATEVER THE INPUT: true; the input reads as it did. -/
def fnExactJacobiOfSpec : ChangeSpec := { name := "fnExactJacobiOf", fn := fun _ => fun
  | [d] => { results := [.lit (.bool true)], args := [d] }
  | _ => none }
def fnExactJacobiOfRow : OpenClaim := { program := "ytloalhcloifgjaa", sum := "1545a19059226bb63acadc8fdd17327b1e942a3c75a194bd27716bb989b68856", func := "loop.example/g01313/laws.FnExactJacobiOf", spec := "fnExactJacobiOf", inPlace := ["(*sync.WaitGroup).Add", "internal/race.ReleaseMerge", "internal/race.Disable", "internal/race.Enable", "internal/synctest.IsInBubble", "internal/synctest.Associate[sync.WaitGroup]", "sync.fatal", "sync/atomic.OrUint64", "sync/atomic.AddUint64", "internal/race.Read", "sync/atomic.LoadUint64", "sync/atomic.StoreUint64", "internal/synctest.Disassociate[sync.WaitGroup]", "sync.runtime_Semrelease", "(*sync.WaitGroup).Done", "(*sync.WaitGroup).Wait", "internal/race.Acquire", "internal/synctest.IsAssociated[sync.WaitGroup]", "sync/atomic.CompareAndSwapUint64", "internal/race.Write", "sync.runtime_SemacquireWaitGroup"], unfollowed := true, recurses := true, plainKeys := false, leaving := true, apart := false }
def FnExactJacobiOfSaid : Prop := fnExactJacobiOfRow.holds Try.pinned (OpenSpec.ofChange fnExactJacobiOfSpec)

/-- ITS FALSE NEIGHBOUR: 'it returns false'. Refute it at one input. -/
def fnExactJacobiOfWrong : ChangeSpec := { name := "fnExactJacobiOf", fn := fun _ => fun
  | [d] => { results := [.lit (.bool false)], args := [d] }
  | _ => none }
def FnExactJacobiOfWrongFalsely : Prop := fnExactJacobiOfRow.holds Try.pinned (OpenSpec.ofChange fnExactJacobiOfWrong)

/-- 'laws.FnExactZeroSumOf': WHATEVER THE INPUT: true; the input reads as it did. -/
def fnExactZeroSumOfSpec : ChangeSpec := { name := "fnExactZeroSumOf", fn := fun _ => fun
  | [d] => { results := [.lit (.bool true)], args := [d] }
  | _ => none }
def fnExactZeroSumOfRow : OpenClaim := { program := "ytloalhcloifgjaa", sum := "1545a19059226bb63acadc8fdd17327b1e942a3c75a194bd27716bb989b68856", func := "loop.example/g01313/laws.FnExactZeroSumOf", spec := "fnExactZeroSumOf", inPlace := ["(*sync.WaitGroup).Add", "internal/race.ReleaseMerge", "internal/race.Disable", "internal/race.Enable", "internal/synctest.IsInBubble", "internal/synctest.Associate[sync.WaitGroup]", "sync.fatal", "sync/atomic.OrUint64", "sync/atomic.AddUint64", "internal/race.Read", "sync/atomic.LoadUint64", "sync/atomic.StoreUint64", "internal/synctest.Disassociate[sync.WaitGroup]", "sync.runtime_Semrelease", "(*sync.WaitGroup).Done", "(*sync.WaitGroup).Wait", "internal/race.Acquire", "internal/synctest.IsAssociated[sync.WaitGroup]", "sync/atomic.CompareAndSwapUint64", "internal/race.Write", "sync.runtime_SemacquireWaitGroup"], unfollowed := true, recurses := true, plainKeys := false, leaving := true, apart := false }
def FnExactZeroSumOfSaid : Prop := fnExactZeroSumOfRow.holds Try.pinned (OpenSpec.ofChange fnExactZeroSumOfSpec)

/-- ITS FALSE NEIGHBOUR: 'it returns false'. Refute it at one input. -/
def fnExactZeroSumOfWrong : ChangeSpec := { name := "fnExactZeroSumOf", fn := fun _ => fun
  | [d] => { results := [.lit (.bool false)], args := [d] }
  | _ => none }
def FnExactZeroSumOfWrongFalsely : Prop := fnExactZeroSumOfRow.holds Try.pinned (OpenSpec.ofChange fnExactZeroSumOfWrong)

/-- 'laws.FnExactSquareOfJacobi': WHATEVER THE INPUT: true; the input reads as it did. -/
def fnExactSquareOfJacobiSpec : ChangeSpec := { name := "fnExactSquareOfJacobi", fn := fun _ => fun
  | [d1, d2] => { results := [.lit (.bool true)], args := [d1, d2] }
  | _ => none }
def fnExactSquareOfJacobiRow : OpenClaim := { program := "ytloalhcloifgjaa", sum := "1545a19059226bb63acadc8fdd17327b1e942a3c75a194bd27716bb989b68856", func := "loop.example/g01313/laws.FnExactSquareOfJacobi", spec := "fnExactSquareOfJacobi", unfollowed := true, recurses := true, plainKeys := false, leaving := true, apart := false }
def FnExactSquareOfJacobiSaid : Prop := fnExactSquareOfJacobiRow.holds Try.pinned (OpenSpec.ofChange fnExactSquareOfJacobiSpec)

/-- ITS FALSE NEIGHBOUR: 'it returns false'. Refute it at one input. -/
def fnExactSquareOfJacobiWrong : ChangeSpec := { name := "fnExactSquareOfJacobi", fn := fun _ => fun
  | [d1, d2] => { results := [.lit (.bool false)], args := [d1, d2] }
  | _ => none }
def FnExactSquareOfJacobiWrongFalsely : Prop := fnExactSquareOfJacobiRow.holds Try.pinned (OpenSpec.ofChange fnExactSquareOfJacobiWrong)

/-- 'laws.FnExactJacobiRow': WHATEVER THE INPUT: true; the input reads as it did. -/
def fnExactJacobiRowSpec : ChangeSpec := { name := "fnExactJacobiRow", fn := fun _ => fun
  | [d] => { results := [.lit (.bool true)], args := [d] }
  | _ => none }
def fnExactJacobiRowRow : OpenClaim := { program := "ytloalhcloifgjaa", sum := "1545a19059226bb63acadc8fdd17327b1e942a3c75a194bd27716bb989b68856", func := "loop.example/g01313/laws.FnExactJacobiRow", spec := "fnExactJacobiRow", inPlace := ["(*sync.WaitGroup).Add", "internal/race.ReleaseMerge", "internal/race.Disable", "internal/race.Enable", "internal/synctest.IsInBubble", "internal/synctest.Associate[sync.WaitGroup]", "sync.fatal", "sync/atomic.OrUint64", "sync/atomic.AddUint64", "internal/race.Read", "sync/atomic.LoadUint64", "sync/atomic.StoreUint64", "internal/synctest.Disassociate[sync.WaitGroup]", "sync.runtime_Semrelease", "(*sync.WaitGroup).Done", "(*sync.WaitGroup).Wait", "internal/race.Acquire", "internal/synctest.IsAssociated[sync.WaitGroup]", "sync/atomic.CompareAndSwapUint64", "internal/race.Write", "sync.runtime_SemacquireWaitGroup"], unfollowed := true, recurses := true, plainKeys := false, leaving := true, apart := false }
def FnExactJacobiRowSaid : Prop := fnExactJacobiRowRow.holds Try.pinned (OpenSpec.ofChange fnExactJacobiRowSpec)

/-- ITS FALSE NEIGHBOUR: 'it returns false'. Refute it at one input. -/
def fnExactJacobiRowWrong : ChangeSpec := { name := "fnExactJacobiRow", fn := fun _ => fun
  | [d] => { results := [.lit (.bool false)], args := [d] }
  | _ => none }
def FnExactJacobiRowWrongFalsely : Prop := fnExactJacobiRowRow.holds Try.pinned (OpenSpec.ofChange fnExactJacobiRowWrong)

/-- 'laws.FnExactCountByJacobi': WHATEVER THE INPUT: true; the input reads as it did. -/
def fnExactCountByJacobiSpec : ChangeSpec := { name := "fnExactCountByJacobi", fn := fun _ => fun
  | [d1, d2, d3] => { results := [.lit (.bool true)], args := [d1, d2, d3] }
  | _ => none }
def fnExactCountByJacobiRow : OpenClaim := { program := "ytloalhcloifgjaa", sum := "1545a19059226bb63acadc8fdd17327b1e942a3c75a194bd27716bb989b68856", func := "loop.example/g01313/laws.FnExactCountByJacobi", spec := "fnExactCountByJacobi", inPlace := ["(*sync.WaitGroup).Add", "internal/race.ReleaseMerge", "internal/race.Disable", "internal/race.Enable", "internal/synctest.IsInBubble", "internal/synctest.Associate[sync.WaitGroup]", "sync.fatal", "sync/atomic.OrUint64", "sync/atomic.AddUint64", "internal/race.Read", "sync/atomic.LoadUint64", "sync/atomic.StoreUint64", "internal/synctest.Disassociate[sync.WaitGroup]", "sync.runtime_Semrelease", "(*sync.WaitGroup).Done", "(*sync.WaitGroup).Wait", "internal/race.Acquire", "internal/synctest.IsAssociated[sync.WaitGroup]", "sync/atomic.CompareAndSwapUint64", "internal/race.Write", "sync.runtime_SemacquireWaitGroup"], unfollowed := true, recurses := true, plainKeys := false, leaving := true, apart := false }
def FnExactCountByJacobiSaid : Prop := fnExactCountByJacobiRow.holds Try.pinned (OpenSpec.ofChange fnExactCountByJacobiSpec)

/-- ITS FALSE NEIGHBOUR: 'it returns false'. Refute it at one input. -/
def fnExactCountByJacobiWrong : ChangeSpec := { name := "fnExactCountByJacobi", fn := fun _ => fun
  | [d1, d2, d3] => { results := [.lit (.bool false)], args := [d1, d2, d3] }
  | _ => none }
def FnExactCountByJacobiWrongFalsely : Prop := fnExactCountByJacobiRow.holds Try.pinned (OpenSpec.ofChange fnExactCountByJacobiWrong)

/-- 'laws.FnExactSquarePair': WHATEVER THE INPUT: true; the input reads as it did. -/
def fnExactSquarePairSpec : ChangeSpec := { name := "fnExactSquarePair", fn := fun _ => fun
  | [d] => { results := [.lit (.bool true)], args := [d] }
  | _ => none }
def fnExactSquarePairRow : OpenClaim := { program := "ytloalhcloifgjaa", sum := "1545a19059226bb63acadc8fdd17327b1e942a3c75a194bd27716bb989b68856", func := "loop.example/g01313/laws.FnExactSquarePair", spec := "fnExactSquarePair", unfollowed := true, recurses := true, plainKeys := false, leaving := true, apart := false }
def FnExactSquarePairSaid : Prop := fnExactSquarePairRow.holds Try.pinned (OpenSpec.ofChange fnExactSquarePairSpec)

/-- ITS FALSE NEIGHBOUR: 'it returns false'. Refute it at one input. -/
def fnExactSquarePairWrong : ChangeSpec := { name := "fnExactSquarePair", fn := fun _ => fun
  | [d] => { results := [.lit (.bool false)], args := [d] }
  | _ => none }
def FnExactSquarePairWrongFalsely : Prop := fnExactSquarePairRow.holds Try.pinned (OpenSpec.ofChange fnExactSquarePairWrong)

/-- 'laws.FnExactCubicPair': WHATEVER THE INPUT: true; the input reads as it did. -/
def fnExactCubicPairSpec : ChangeSpec := { name := "fnExactCubicPair", fn := fun _ => fun
  | [d] => { results := [.lit (.bool true)], args := [d] }
  | _ => none }
def fnExactCubicPairRow : OpenClaim := { program := "ytloalhcloifgjaa", sum := "1545a19059226bb63acadc8fdd17327b1e942a3c75a194bd27716bb989b68856", func := "loop.example/g01313/laws.FnExactCubicPair", spec := "fnExactCubicPair", unfollowed := true, recurses := true, plainKeys := false, leaving := true, apart := false }
def FnExactCubicPairSaid : Prop := fnExactCubicPairRow.holds Try.pinned (OpenSpec.ofChange fnExactCubicPairSpec)

/-- ITS FALSE NEIGHBOUR: 'it returns false'. Refute it at one input. -/
def fnExactCubicPairWrong : ChangeSpec := { name := "fnExactCubicPair", fn := fun _ => fun
  | [d] => { results := [.lit (.bool false)], args := [d] }
  | _ => none }
def FnExactCubicPairWrongFalsely : Prop := fnExactCubicPairRow.holds Try.pinned (OpenSpec.ofChange fnExactCubicPairWrong)

/-- 'laws.FnExactIsPlainPair': WHATEVER THE INPUT: true; the input reads as it did. -/
def fnExactIsPlainPairSpec : ChangeSpec := { name := "fnExactIsPlainPair", fn := fun _ => fun
  | [d1, d2] => { results := [.lit (.bool true)], args := [d1, d2] }
  | _ => none }
def fnExactIsPlainPairRow : OpenClaim := { program := "ytloalhcloifgjaa", sum := "1545a19059226bb63acadc8fdd17327b1e942a3c75a194bd27716bb989b68856", func := "loop.example/g01313/laws.FnExactIsPlainPair", spec := "fnExactIsPlainPair", plainKeys := false, apart := false }
def FnExactIsPlainPairSaid : Prop := fnExactIsPlainPairRow.holds Try.pinned (OpenSpec.ofChange fnExactIsPlainPairSpec)

/-- ITS FALSE NEIGHBOUR: 'it returns false'. Refute it at one input. -/
def fnExactIsPlainPairWrong : ChangeSpec := { name := "fnExactIsPlainPair", fn := fun _ => fun
  | [d1, d2] => { results := [.lit (.bool false)], args := [d1, d2] }
  | _ => none }
def FnExactIsPlainPairWrongFalsely : Prop := fnExactIsPlainPairRow.holds Try.pinned (OpenSpec.ofChange fnExactIsPlainPairWrong)

/-- 'laws.FnCharacters': WHATEVER THE INPUT: true; the input reads as it did. -/
def fnCharactersSpec : ChangeSpec := { name := "fnCharacters", fn := fun _ => fun
  | [d] => { results := [.lit (.bool true)], args := [d] }
  | _ => none }
def fnCharactersRow : OpenClaim := { program := "ytloalhcloifgjaa", sum := "1545a19059226bb63acadc8fdd17327b1e942a3c75a194bd27716bb989b68856", func := "loop.example/g01313/laws.FnCharacters", spec := "fnCharacters", unfollowed := true, recurses := true, plainKeys := false, leaving := true, apart := false }
def FnCharactersSaid : Prop := fnCharactersRow.holds Try.pinned (OpenSpec.ofChange fnCharactersSpec)

/-- ITS FALSE NEIGHBOUR: 'it returns false'. Refute it at one input. -/
def fnCharactersWrong : ChangeSpec := { name := "fnCharacters", fn := fun _ => fun
  | [d] => { results := [.lit (.bool false)], args := [d] }
  | _ => none }
def FnCharactersWrongFalsely : Prop := fnCharactersRow.holds Try.pinned (OpenSpec.ofChange fnCharactersWrong)

/-- 'laws.FnMinimal': WHATEVER THE INPUT: true; the input reads as it did. -/
def fnMinimalSpec : ChangeSpec := { name := "fnMinimal", fn := fun _ => fun
  | [d] => { results := [.lit (.bool true)], args := [d] }
  | _ => none }
def fnMinimalRow : OpenClaim := { program := "ytloalhcloifgjaa", sum := "1545a19059226bb63acadc8fdd17327b1e942a3c75a194bd27716bb989b68856", func := "loop.example/g01313/laws.FnMinimal", spec := "fnMinimal", recurses := true, plainKeys := false, apart := false }
def FnMinimalSaid : Prop := fnMinimalRow.holds Try.pinned (OpenSpec.ofChange fnMinimalSpec)

/-- ITS FALSE NEIGHBOUR: 'it returns false'. Refute it at one input. -/
def fnMinimalWrong : ChangeSpec := { name := "fnMinimal", fn := fun _ => fun
  | [d] => { results := [.lit (.bool false)], args := [d] }
  | _ => none }
def FnMinimalWrongFalsely : Prop := fnMinimalRow.holds Try.pinned (OpenSpec.ofChange fnMinimalWrong)

/-- 'laws.FnDivision': WHATEVER THE INPUT: true; the input reads as it did. -/
def fnDivisionSpec : ChangeSpec := { name := "fnDivision", fn := fun _ => fun
  | [d] => { results := [.lit (.bool true)], args := [d] }
  | _ => none }
def fnDivisionRow : OpenClaim := { program := "ytloalhcloifgjaa", sum := "1545a19059226bb63acadc8fdd17327b1e942a3c75a194bd27716bb989b68856", func := "loop.example/g01313/laws.FnDivision", spec := "fnDivision", recurses := true, plainKeys := false, apart := false }
def FnDivisionSaid : Prop := fnDivisionRow.holds Try.pinned (OpenSpec.ofChange fnDivisionSpec)

/-- ITS FALSE NEIGHBOUR: 'it returns false'. Refute it at one input. -/
def fnDivisionWrong : ChangeSpec := { name := "fnDivision", fn := fun _ => fun
  | [d] => { results := [.lit (.bool false)], args := [d] }
  | _ => none }
def FnDivisionWrongFalsely : Prop := fnDivisionRow.holds Try.pinned (OpenSpec.ofChange fnDivisionWrong)

/-- 'laws.FnGalois': WHATEVER THE INPUT: true; the input reads as it did. -/
def fnGaloisSpec : ChangeSpec := { name := "fnGalois", fn := fun _ => fun
  | [d] => { results := [.lit (.bool true)], args := [d] }
  | _ => none }
def fnGaloisRow : OpenClaim := { program := "ytloalhcloifgjaa", sum := "1545a19059226bb63acadc8fdd17327b1e942a3c75a194bd27716bb989b68856", func := "loop.example/g01313/laws.FnGalois", spec := "fnGalois", recurses := true, plainKeys := false, apart := false }
def FnGaloisSaid : Prop := fnGaloisRow.holds Try.pinned (OpenSpec.ofChange fnGaloisSpec)

/-- ITS FALSE NEIGHBOUR: 'it returns false'. Refute it at one input. -/
def fnGaloisWrong : ChangeSpec := { name := "fnGalois", fn := fun _ => fun
  | [d] => { results := [.lit (.bool false)], args := [d] }
  | _ => none }
def FnGaloisWrongFalsely : Prop := fnGaloisRow.holds Try.pinned (OpenSpec.ofChange fnGaloisWrong)

/- THE SECOND FORM. 'bulk': how many values and letters a reading holds, each counted each time it is reached (what is shared counts as often as it is met; a slice's spare places count too). A statement '..UptoSaid' is the law's where the arguments, and the package variables that the reading takes, are together of bulk at most 1048576: NARROWER than '..Said'. Prove '..Said' where nothing that the law and all that it calls make is longer than what came in: it says more and counts as full. Else prove '..UptoSaid'. A law counts once. -/
mutual
def uptoBulk {H : Type} : DataW H → Nat
  | .lit (.string bytes) => bytes.length + 1
  | .lit _ => 1
  | .nil => 1
  | .ptr d => uptoBulk d + 1
  | .slice elems spare => uptoBulkAll elems + uptoBulkAll spare + 1
  | .agg parts => uptoBulkAll parts + 1
  | .iface _ d => uptoBulk d + 1
  | .map entries => uptoBulkEntries entries + 1
  | .held _ => 1
def uptoBulkAll {H : Type} : List (DataW H) → Nat
  | [] => 0
  | d :: r => uptoBulk d + uptoBulkAll r
def uptoBulkEntries {H : Type} : List (Lit × DataW H) → Nat
  | [] => 0
  | x :: r => uptoBulkEntry x + uptoBulkEntries r
def uptoBulkEntry {H : Type} : Lit × DataW H → Nat
  | (.string bytes, d) => bytes.length + uptoBulk d + 1
  | (_, d) => uptoBulk d + 1
 end
def uptoSmall : (H : Type) → List (DataW H) → Bool := fun _ ds => decide (uptoBulkAll ds ≤ 1048576)
def OpenSpec.upto (s : _root_.Go.ChangeSpec) : _root_.Go.OpenSpec := { _root_.Go.OpenSpec.ofChange s with cond := some uptoSmall }

/-- 'laws.FnExactJacobiSum', WHERE WHAT IT READS IS OF BULK AT MOST 1048576: true; the input reads as it did. -/
def fnExactJacobiSumUptoRow : OpenClaim := { program := "ytloalhcloifgjaa", sum := "1545a19059226bb63acadc8fdd17327b1e942a3c75a194bd27716bb989b68856", func := "loop.example/g01313/laws.FnExactJacobiSum", spec := "fnExactJacobiSum", unfollowed := true, recurses := true, plainKeys := false, leaving := true, apart := false, narrowed := true }
def FnExactJacobiSumUptoSaid : Prop := fnExactJacobiSumUptoRow.holds Try.pinned (OpenSpec.upto fnExactJacobiSumSpec)

/-- 'laws.FnExactJacobiOf', WHERE WHAT IT READS IS OF BULK AT MOST 1048576: true; the input reads as it did. -/
def fnExactJacobiOfUptoRow : OpenClaim := { program := "ytloalhcloifgjaa", sum := "1545a19059226bb63acadc8fdd17327b1e942a3c75a194bd27716bb989b68856", func := "loop.example/g01313/laws.FnExactJacobiOf", spec := "fnExactJacobiOf", inPlace := ["(*sync.WaitGroup).Add", "internal/race.ReleaseMerge", "internal/race.Disable", "internal/race.Enable", "internal/synctest.IsInBubble", "internal/synctest.Associate[sync.WaitGroup]", "sync.fatal", "sync/atomic.OrUint64", "sync/atomic.AddUint64", "internal/race.Read", "sync/atomic.LoadUint64", "sync/atomic.StoreUint64", "internal/synctest.Disassociate[sync.WaitGroup]", "sync.runtime_Semrelease", "(*sync.WaitGroup).Done", "(*sync.WaitGroup).Wait", "internal/race.Acquire", "internal/synctest.IsAssociated[sync.WaitGroup]", "sync/atomic.CompareAndSwapUint64", "internal/race.Write", "sync.runtime_SemacquireWaitGroup"], unfollowed := true, recurses := true, plainKeys := false, leaving := true, apart := false, narrowed := true }
def FnExactJacobiOfUptoSaid : Prop := fnExactJacobiOfUptoRow.holds Try.pinned (OpenSpec.upto fnExactJacobiOfSpec)

/-- 'laws.FnExactZeroSumOf', WHERE WHAT IT READS IS OF BULK AT MOST 1048576: true; the input reads as it did. -/
def fnExactZeroSumOfUptoRow : OpenClaim := { program := "ytloalhcloifgjaa", sum := "1545a19059226bb63acadc8fdd17327b1e942a3c75a194bd27716bb989b68856", func := "loop.example/g01313/laws.FnExactZeroSumOf", spec := "fnExactZeroSumOf", inPlace := ["(*sync.WaitGroup).Add", "internal/race.ReleaseMerge", "internal/race.Disable", "internal/race.Enable", "internal/synctest.IsInBubble", "internal/synctest.Associate[sync.WaitGroup]", "sync.fatal", "sync/atomic.OrUint64", "sync/atomic.AddUint64", "internal/race.Read", "sync/atomic.LoadUint64", "sync/atomic.StoreUint64", "internal/synctest.Disassociate[sync.WaitGroup]", "sync.runtime_Semrelease", "(*sync.WaitGroup).Done", "(*sync.WaitGroup).Wait", "internal/race.Acquire", "internal/synctest.IsAssociated[sync.WaitGroup]", "sync/atomic.CompareAndSwapUint64", "internal/race.Write", "sync.runtime_SemacquireWaitGroup"], unfollowed := true, recurses := true, plainKeys := false, leaving := true, apart := false, narrowed := true }
def FnExactZeroSumOfUptoSaid : Prop := fnExactZeroSumOfUptoRow.holds Try.pinned (OpenSpec.upto fnExactZeroSumOfSpec)

/-- 'laws.FnExactSquareOfJacobi', WHERE WHAT IT READS IS OF BULK AT MOST 1048576: true; the input reads as it did. -/
def fnExactSquareOfJacobiUptoRow : OpenClaim := { program := "ytloalhcloifgjaa", sum := "1545a19059226bb63acadc8fdd17327b1e942a3c75a194bd27716bb989b68856", func := "loop.example/g01313/laws.FnExactSquareOfJacobi", spec := "fnExactSquareOfJacobi", unfollowed := true, recurses := true, plainKeys := false, leaving := true, apart := false, narrowed := true }
def FnExactSquareOfJacobiUptoSaid : Prop := fnExactSquareOfJacobiUptoRow.holds Try.pinned (OpenSpec.upto fnExactSquareOfJacobiSpec)

/-- 'laws.FnExactJacobiRow', WHERE WHAT IT READS IS OF BULK AT MOST 1048576: true; the input reads as it did. -/
def fnExactJacobiRowUptoRow : OpenClaim := { program := "ytloalhcloifgjaa", sum := "1545a19059226bb63acadc8fdd17327b1e942a3c75a194bd27716bb989b68856", func := "loop.example/g01313/laws.FnExactJacobiRow", spec := "fnExactJacobiRow", inPlace := ["(*sync.WaitGroup).Add", "internal/race.ReleaseMerge", "internal/race.Disable", "internal/race.Enable", "internal/synctest.IsInBubble", "internal/synctest.Associate[sync.WaitGroup]", "sync.fatal", "sync/atomic.OrUint64", "sync/atomic.AddUint64", "internal/race.Read", "sync/atomic.LoadUint64", "sync/atomic.StoreUint64", "internal/synctest.Disassociate[sync.WaitGroup]", "sync.runtime_Semrelease", "(*sync.WaitGroup).Done", "(*sync.WaitGroup).Wait", "internal/race.Acquire", "internal/synctest.IsAssociated[sync.WaitGroup]", "sync/atomic.CompareAndSwapUint64", "internal/race.Write", "sync.runtime_SemacquireWaitGroup"], unfollowed := true, recurses := true, plainKeys := false, leaving := true, apart := false, narrowed := true }
def FnExactJacobiRowUptoSaid : Prop := fnExactJacobiRowUptoRow.holds Try.pinned (OpenSpec.upto fnExactJacobiRowSpec)

/-- 'laws.FnExactCountByJacobi', WHERE WHAT IT READS IS OF BULK AT MOST 1048576: true; the input reads as it did. -/
def fnExactCountByJacobiUptoRow : OpenClaim := { program := "ytloalhcloifgjaa", sum := "1545a19059226bb63acadc8fdd17327b1e942a3c75a194bd27716bb989b68856", func := "loop.example/g01313/laws.FnExactCountByJacobi", spec := "fnExactCountByJacobi", inPlace := ["(*sync.WaitGroup).Add", "internal/race.ReleaseMerge", "internal/race.Disable", "internal/race.Enable", "internal/synctest.IsInBubble", "internal/synctest.Associate[sync.WaitGroup]", "sync.fatal", "sync/atomic.OrUint64", "sync/atomic.AddUint64", "internal/race.Read", "sync/atomic.LoadUint64", "sync/atomic.StoreUint64", "internal/synctest.Disassociate[sync.WaitGroup]", "sync.runtime_Semrelease", "(*sync.WaitGroup).Done", "(*sync.WaitGroup).Wait", "internal/race.Acquire", "internal/synctest.IsAssociated[sync.WaitGroup]", "sync/atomic.CompareAndSwapUint64", "internal/race.Write", "sync.runtime_SemacquireWaitGroup"], unfollowed := true, recurses := true, plainKeys := false, leaving := true, apart := false, narrowed := true }
def FnExactCountByJacobiUptoSaid : Prop := fnExactCountByJacobiUptoRow.holds Try.pinned (OpenSpec.upto fnExactCountByJacobiSpec)

/-- 'laws.FnExactSquarePair', WHERE WHAT IT READS IS OF BULK AT MOST 1048576: true; the input reads as it did. -/
def fnExactSquarePairUptoRow : OpenClaim := { program := "ytloalhcloifgjaa", sum := "1545a19059226bb63acadc8fdd17327b1e942a3c75a194bd27716bb989b68856", func := "loop.example/g01313/laws.FnExactSquarePair", spec := "fnExactSquarePair", unfollowed := true, recurses := true, plainKeys := false, leaving := true, apart := false, narrowed := true }
def FnExactSquarePairUptoSaid : Prop := fnExactSquarePairUptoRow.holds Try.pinned (OpenSpec.upto fnExactSquarePairSpec)

/-- 'laws.FnExactCubicPair', WHERE WHAT IT READS IS OF BULK AT MOST 1048576: true; the input reads as it did. -/
def fnExactCubicPairUptoRow : OpenClaim := { program := "ytloalhcloifgjaa", sum := "1545a19059226bb63acadc8fdd17327b1e942a3c75a194bd27716bb989b68856", func := "loop.example/g01313/laws.FnExactCubicPair", spec := "fnExactCubicPair", unfollowed := true, recurses := true, plainKeys := false, leaving := true, apart := false, narrowed := true }
def FnExactCubicPairUptoSaid : Prop := fnExactCubicPairUptoRow.holds Try.pinned (OpenSpec.upto fnExactCubicPairSpec)

/-- 'laws.FnExactIsPlainPair', WHERE WHAT IT READS IS OF BULK AT MOST 1048576: true; the input reads as it did. -/
def fnExactIsPlainPairUptoRow : OpenClaim := { program := "ytloalhcloifgjaa", sum := "1545a19059226bb63acadc8fdd17327b1e942a3c75a194bd27716bb989b68856", func := "loop.example/g01313/laws.FnExactIsPlainPair", spec := "fnExactIsPlainPair", plainKeys := false, apart := false, narrowed := true }
def FnExactIsPlainPairUptoSaid : Prop := fnExactIsPlainPairUptoRow.holds Try.pinned (OpenSpec.upto fnExactIsPlainPairSpec)

/-- 'laws.FnCharacters', WHERE WHAT IT READS IS OF BULK AT MOST 1048576: true; the input reads as it did. -/
def fnCharactersUptoRow : OpenClaim := { program := "ytloalhcloifgjaa", sum := "1545a19059226bb63acadc8fdd17327b1e942a3c75a194bd27716bb989b68856", func := "loop.example/g01313/laws.FnCharacters", spec := "fnCharacters", unfollowed := true, recurses := true, plainKeys := false, leaving := true, apart := false, narrowed := true }
def FnCharactersUptoSaid : Prop := fnCharactersUptoRow.holds Try.pinned (OpenSpec.upto fnCharactersSpec)

/-- 'laws.FnMinimal', WHERE WHAT IT READS IS OF BULK AT MOST 1048576: true; the input reads as it did. -/
def fnMinimalUptoRow : OpenClaim := { program := "ytloalhcloifgjaa", sum := "1545a19059226bb63acadc8fdd17327b1e942a3c75a194bd27716bb989b68856", func := "loop.example/g01313/laws.FnMinimal", spec := "fnMinimal", recurses := true, plainKeys := false, apart := false, narrowed := true }
def FnMinimalUptoSaid : Prop := fnMinimalUptoRow.holds Try.pinned (OpenSpec.upto fnMinimalSpec)

/-- 'laws.FnDivision', WHERE WHAT IT READS IS OF BULK AT MOST 1048576: true; the input reads as it did. -/
def fnDivisionUptoRow : OpenClaim := { program := "ytloalhcloifgjaa", sum := "1545a19059226bb63acadc8fdd17327b1e942a3c75a194bd27716bb989b68856", func := "loop.example/g01313/laws.FnDivision", spec := "fnDivision", recurses := true, plainKeys := false, apart := false, narrowed := true }
def FnDivisionUptoSaid : Prop := fnDivisionUptoRow.holds Try.pinned (OpenSpec.upto fnDivisionSpec)

/-- 'laws.FnGalois', WHERE WHAT IT READS IS OF BULK AT MOST 1048576: true; the input reads as it did. -/
def fnGaloisUptoRow : OpenClaim := { program := "ytloalhcloifgjaa", sum := "1545a19059226bb63acadc8fdd17327b1e942a3c75a194bd27716bb989b68856", func := "loop.example/g01313/laws.FnGalois", spec := "fnGalois", recurses := true, plainKeys := false, apart := false, narrowed := true }
def FnGaloisUptoSaid : Prop := fnGaloisUptoRow.holds Try.pinned (OpenSpec.upto fnGaloisSpec)

end Rows
end Go.Proofs.Ytloalhcloifgjaa
