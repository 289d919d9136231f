/-
  NARROWER THAN 'FOR EVERY INPUT', by the rows' own cells (each row's printed sentence says how): FnResidues: ifaces, laid · FnExactResidueAt: ifaces, laid · FnExactLiftedRoot: ifaces, laid · FnExactValuationAt: ifaces, laid · FnExactSymbolAt: ifaces, laid · FnExactMovePlace: ifaces, laid.
  DERIVED. THE GIVEN ROWS OF THIS SEAT. 6 by the template 'for every input the law returns true; each argument reads behind the call as it read before'; 0 by the template 'total and deterministic' (their statements: YthookppmclimkaaDoorTotals.lean).
  GIVEN WITH THE SEED: the statements are not yours to turn. If you find one false, say at which input.
  Laid BY PROGRAM, IN A SANDBOX (cutbox-rows.mjs): the forced cells as the released guide's own fill.sh prints them over the translation 66678b75dc3766a3… (all of the seat's roots in one cut). By AI agents, Wed Nov 11 2026. No macro, syntax, notation, axiom, sorry.
-/
import Derived.Test.YthookppmclimkaaDoorChecked
import GoSem.Claim
import GoSem.ClaimJoined
import GoSem.ClaimMapViews
import Derived.JoinedTies
import Derived.KernelRfl
namespace Go.Proofs.YthookppmclimkaaDoor
/- THE CELL 'sum', in the pinned program and in every row, IS THE sha256 OF THE DUMP (.gsa) THAT YthookppmclimkaaDoorProg.lean LOADS. Nothing in Lean hashes anything: it is a label: what it is worth is what the hold of that sum in a sandbox is worth. -/
noncomputable def Tryd.pinned : Pinned := { name := "ythookppmclimkaadoor", sum := "66678b75dc3766a36fa7b4595c2e9c8295b7c9408f66b644b51ae1483c42523d", checked := Tryd.checked }
namespace Rows
def none {H : Type} : Left H := { results := [], args := [] }

/- WHAT THE LISTED PACKAGE-LEVEL VARIABLES READ AS WHEN THE CALL BEGINS. Each datum BY PROGRAM (the guide's laid-datum.mjs) off the statement by which the dump's own 'gosem.cut.vars' lays the variable. In a bare row this is a premise. The card (YthookppmclimkaaDoorCards.lean) ties it to the program's text. -/
def laid_loop_example_g01313_impl_errNoPlace {H : Type} : DataW H := .iface "*errors.errorString" (.ptr (.agg [.lit (.string [110, 111, 32, 112, 108, 97, 99, 101])]))

/-- 'laws.FnResidues': WHATEVER THE INPUT: true; the input reads as it did. -/
def fnResiduesSpec : ChangeSpec := { name := "fnResidues", vars := ["loop.example/g01313/impl.errNoPlace"], fn := fun _ => fun
  | [d, g1] => { results := [.lit (.bool true)], args := [d], vars := [g1] }
  | _ => none }
def fnResiduesRow : OpenClaim := { program := "ythookppmclimkaadoor", sum := "66678b75dc3766a36fa7b4595c2e9c8295b7c9408f66b644b51ae1483c42523d", func := "loop.example/g01313/laws.FnResidues", spec := "fnResidues", unfollowed := true, recurses := true, named := ["loop.example/g01313/impl.errNoPlace"], ifaces := true, leaving := true, apart := false, laid := [("loop.example/g01313/impl.errNoPlace", laid_loop_example_g01313_impl_errNoPlace)] }
def FnResiduesSaid : Prop := fnResiduesRow.holds Tryd.pinned (OpenSpec.ofChange fnResiduesSpec)

/-- ITS FALSE NEIGHBOUR: 'it returns false'. Refute it at one input. -/
def fnResiduesWrong : ChangeSpec := { name := "fnResidues", vars := ["loop.example/g01313/impl.errNoPlace"], fn := fun _ => fun
  | [d, g1] => { results := [.lit (.bool false)], args := [d], vars := [g1] }
  | _ => none }
def FnResiduesWrongFalsely : Prop := fnResiduesRow.holds Tryd.pinned (OpenSpec.ofChange fnResiduesWrong)

/-- 'laws.FnExactResidueAt': WHATEVER THE INPUT: true; the input reads as it did. -/
def fnExactResidueAtSpec : ChangeSpec := { name := "fnExactResidueAt", vars := ["loop.example/g01313/impl.errNoPlace"], fn := fun _ => fun
  | [d1, d2, d3, g1] => { results := [.lit (.bool true)], args := [d1, d2, d3], vars := [g1] }
  | _ => none }
def fnExactResidueAtRow : OpenClaim := { program := "ythookppmclimkaadoor", sum := "66678b75dc3766a36fa7b4595c2e9c8295b7c9408f66b644b51ae1483c42523d", func := "loop.example/g01313/laws.FnExactResidueAt", spec := "fnExactResidueAt", unfollowed := true, recurses := true, named := ["loop.example/g01313/impl.errNoPlace"], ifaces := true, leaving := true, apart := false, laid := [("loop.example/g01313/impl.errNoPlace", laid_loop_example_g01313_impl_errNoPlace)] }
def FnExactResidueAtSaid : Prop := fnExactResidueAtRow.holds Tryd.pinned (OpenSpec.ofChange fnExactResidueAtSpec)

/-- ITS FALSE NEIGHBOUR: 'it returns false'. Refute it at one input. -/
def fnExactResidueAtWrong : ChangeSpec := { name := "fnExactResidueAt", vars := ["loop.example/g01313/impl.errNoPlace"], fn := fun _ => fun
  | [d1, d2, d3, g1] => { results := [.lit (.bool false)], args := [d1, d2, d3], vars := [g1] }
  | _ => none }
def FnExactResidueAtWrongFalsely : Prop := fnExactResidueAtRow.holds Tryd.pinned (OpenSpec.ofChange fnExactResidueAtWrong)

/-- 'laws.FnExactLiftedRoot': WHATEVER THE INPUT: true; the input reads as it did. -/
def fnExactLiftedRootSpec : ChangeSpec := { name := "fnExactLiftedRoot", vars := ["loop.example/g01313/impl.errNoPlace"], fn := fun _ => fun
  | [d1, d2, d3, d4, g1] => { results := [.lit (.bool true)], args := [d1, d2, d3, d4], vars := [g1] }
  | _ => none }
def fnExactLiftedRootRow : OpenClaim := { program := "ythookppmclimkaadoor", sum := "66678b75dc3766a36fa7b4595c2e9c8295b7c9408f66b644b51ae1483c42523d", func := "loop.example/g01313/laws.FnExactLiftedRoot", spec := "fnExactLiftedRoot", unfollowed := true, recurses := true, named := ["loop.example/g01313/impl.errNoPlace"], ifaces := true, leaving := true, apart := false, laid := [("loop.example/g01313/impl.errNoPlace", laid_loop_example_g01313_impl_errNoPlace)] }
def FnExactLiftedRootSaid : Prop := fnExactLiftedRootRow.holds Tryd.pinned (OpenSpec.ofChange fnExactLiftedRootSpec)

/-- ITS FALSE NEIGHBOUR: 'it returns false'. Refute it at one input. -/
def fnExactLiftedRootWrong : ChangeSpec := { name := "fnExactLiftedRoot", vars := ["loop.example/g01313/impl.errNoPlace"], fn := fun _ => fun
  | [d1, d2, d3, d4, g1] => { results := [.lit (.bool false)], args := [d1, d2, d3, d4], vars := [g1] }
  | _ => none }
def FnExactLiftedRootWrongFalsely : Prop := fnExactLiftedRootRow.holds Tryd.pinned (OpenSpec.ofChange fnExactLiftedRootWrong)

/-- 'laws.FnExactValuationAt': WHATEVER THE INPUT: true; the input reads as it did. -/
def fnExactValuationAtSpec : ChangeSpec := { name := "fnExactValuationAt", vars := ["loop.example/g01313/impl.errNoPlace"], fn := fun _ => fun
  | [d1, d2, d3, g1] => { results := [.lit (.bool true)], args := [d1, d2, d3], vars := [g1] }
  | _ => none }
def fnExactValuationAtRow : OpenClaim := { program := "ythookppmclimkaadoor", sum := "66678b75dc3766a36fa7b4595c2e9c8295b7c9408f66b644b51ae1483c42523d", func := "loop.example/g01313/laws.FnExactValuationAt", spec := "fnExactValuationAt", unfollowed := true, recurses := true, named := ["loop.example/g01313/impl.errNoPlace"], ifaces := true, leaving := true, apart := false, laid := [("loop.example/g01313/impl.errNoPlace", laid_loop_example_g01313_impl_errNoPlace)] }
def FnExactValuationAtSaid : Prop := fnExactValuationAtRow.holds Tryd.pinned (OpenSpec.ofChange fnExactValuationAtSpec)

/-- ITS FALSE NEIGHBOUR: 'it returns false'. Refute it at one input. -/
def fnExactValuationAtWrong : ChangeSpec := { name := "fnExactValuationAt", vars := ["loop.example/g01313/impl.errNoPlace"], fn := fun _ => fun
  | [d1, d2, d3, g1] => { results := [.lit (.bool false)], args := [d1, d2, d3], vars := [g1] }
  | _ => none }
def FnExactValuationAtWrongFalsely : Prop := fnExactValuationAtRow.holds Tryd.pinned (OpenSpec.ofChange fnExactValuationAtWrong)

/-- 'laws.FnExactSymbolAt': WHATEVER THE INPUT: true; the input reads as it did. -/
def fnExactSymbolAtSpec : ChangeSpec := { name := "fnExactSymbolAt", vars := ["loop.example/g01313/impl.errNoPlace"], fn := fun _ => fun
  | [d1, d2, d3, g1] => { results := [.lit (.bool true)], args := [d1, d2, d3], vars := [g1] }
  | _ => none }
def fnExactSymbolAtRow : OpenClaim := { program := "ythookppmclimkaadoor", sum := "66678b75dc3766a36fa7b4595c2e9c8295b7c9408f66b644b51ae1483c42523d", func := "loop.example/g01313/laws.FnExactSymbolAt", spec := "fnExactSymbolAt", unfollowed := true, recurses := true, named := ["loop.example/g01313/impl.errNoPlace"], ifaces := true, leaving := true, apart := false, laid := [("loop.example/g01313/impl.errNoPlace", laid_loop_example_g01313_impl_errNoPlace)] }
def FnExactSymbolAtSaid : Prop := fnExactSymbolAtRow.holds Tryd.pinned (OpenSpec.ofChange fnExactSymbolAtSpec)

/-- ITS FALSE NEIGHBOUR: 'it returns false'. Refute it at one input. -/
def fnExactSymbolAtWrong : ChangeSpec := { name := "fnExactSymbolAt", vars := ["loop.example/g01313/impl.errNoPlace"], fn := fun _ => fun
  | [d1, d2, d3, g1] => { results := [.lit (.bool false)], args := [d1, d2, d3], vars := [g1] }
  | _ => none }
def FnExactSymbolAtWrongFalsely : Prop := fnExactSymbolAtRow.holds Tryd.pinned (OpenSpec.ofChange fnExactSymbolAtWrong)

/-- 'laws.FnExactMovePlace': WHATEVER THE INPUT: true; the input reads as it did. -/
def fnExactMovePlaceSpec : ChangeSpec := { name := "fnExactMovePlace", vars := ["loop.example/g01313/impl.errNoPlace"], fn := fun _ => fun
  | [d1, d2, d3, d4, g1] => { results := [.lit (.bool true)], args := [d1, d2, d3, d4], vars := [g1] }
  | _ => none }
def fnExactMovePlaceRow : OpenClaim := { program := "ythookppmclimkaadoor", sum := "66678b75dc3766a36fa7b4595c2e9c8295b7c9408f66b644b51ae1483c42523d", func := "loop.example/g01313/laws.FnExactMovePlace", spec := "fnExactMovePlace", unfollowed := true, recurses := true, named := ["loop.example/g01313/impl.errNoPlace"], ifaces := true, leaving := true, apart := false, laid := [("loop.example/g01313/impl.errNoPlace", laid_loop_example_g01313_impl_errNoPlace)] }
def FnExactMovePlaceSaid : Prop := fnExactMovePlaceRow.holds Tryd.pinned (OpenSpec.ofChange fnExactMovePlaceSpec)

/-- ITS FALSE NEIGHBOUR: 'it returns false'. Refute it at one input. -/
def fnExactMovePlaceWrong : ChangeSpec := { name := "fnExactMovePlace", vars := ["loop.example/g01313/impl.errNoPlace"], fn := fun _ => fun
  | [d1, d2, d3, d4, g1] => { results := [.lit (.bool false)], args := [d1, d2, d3, d4], vars := [g1] }
  | _ => none }
def FnExactMovePlaceWrongFalsely : Prop := fnExactMovePlaceRow.holds Tryd.pinned (OpenSpec.ofChange fnExactMovePlaceWrong)

/- THE SECOND FORM. 'bulk': how many values and letters a reading holds, each counted each time it is reached (what is shared counts as often as it is met; a slice's spare places count too). A statement '..UptoSaid' is the law's where the arguments, and the package variables that the reading takes, are together of bulk at most 1048576: NARROWER than '..Said'. Prove '..Said' where nothing that the law and all that it calls make is longer than what came in: it says more and counts as full. Else prove '..UptoSaid'. A law counts once. -/
mutual
def uptoBulk {H : Type} : DataW H → Nat
  | .lit (.string bytes) => bytes.length + 1
  | .lit _ => 1
  | .nil => 1
  | .ptr d => uptoBulk d + 1
  | .slice elems spare => uptoBulkAll elems + uptoBulkAll spare + 1
  | .agg parts => uptoBulkAll parts + 1
  | .iface _ d => uptoBulk d + 1
  | .map entries => uptoBulkEntries entries + 1
  | .held _ => 1
def uptoBulkAll {H : Type} : List (DataW H) → Nat
  | [] => 0
  | d :: r => uptoBulk d + uptoBulkAll r
def uptoBulkEntries {H : Type} : List (Lit × DataW H) → Nat
  | [] => 0
  | x :: r => uptoBulkEntry x + uptoBulkEntries r
def uptoBulkEntry {H : Type} : Lit × DataW H → Nat
  | (.string bytes, d) => bytes.length + uptoBulk d + 1
  | (_, d) => uptoBulk d + 1
 end
def uptoSmall : (H : Type) → List (DataW H) → Bool := fun _ ds => decide (uptoBulkAll ds ≤ 1048576)
def OpenSpec.upto (s : _root_.Go.ChangeSpec) : _root_.Go.OpenSpec := { _root_.Go.OpenSpec.ofChange s with cond := some uptoSmall }

/-- 'laws.FnResidues', WHERE WHAT IT READS IS OF BULK AT MOST 1048576: true; the input reads as it did. -/
def fnResiduesUptoRow : OpenClaim := { program := "ythookppmclimkaadoor", sum := "66678b75dc3766a36fa7b4595c2e9c8295b7c9408f66b644b51ae1483c42523d", func := "loop.example/g01313/laws.FnResidues", spec := "fnResidues", unfollowed := true, recurses := true, named := ["loop.example/g01313/impl.errNoPlace"], ifaces := true, leaving := true, apart := false, laid := [("loop.example/g01313/impl.errNoPlace", laid_loop_example_g01313_impl_errNoPlace)], narrowed := true }
def FnResiduesUptoSaid : Prop := fnResiduesUptoRow.holds Tryd.pinned (OpenSpec.upto fnResiduesSpec)

/-- 'laws.FnExactResidueAt', WHERE WHAT IT READS IS OF BULK AT MOST 1048576: true; the input reads as it did. -/
def fnExactResidueAtUptoRow : OpenClaim := { program := "ythookppmclimkaadoor", sum := "66678b75dc3766a36fa7b4595c2e9c8295b7c9408f66b644b51ae1483c42523d", func := "loop.example/g01313/laws.FnExactResidueAt", spec := "fnExactResidueAt", unfollowed := true, recurses := true, named := ["loop.example/g01313/impl.errNoPlace"], ifaces := true, leaving := true, apart := false, laid := [("loop.example/g01313/impl.errNoPlace", laid_loop_example_g01313_impl_errNoPlace)], narrowed := true }
def FnExactResidueAtUptoSaid : Prop := fnExactResidueAtUptoRow.holds Tryd.pinned (OpenSpec.upto fnExactResidueAtSpec)

/-- 'laws.FnExactLiftedRoot', WHERE WHAT IT READS IS OF BULK AT MOST 1048576: true; the input reads as it did. -/
def fnExactLiftedRootUptoRow : OpenClaim := { program := "ythookppmclimkaadoor", sum := "66678b75dc3766a36fa7b4595c2e9c8295b7c9408f66b644b51ae1483c42523d", func := "loop.example/g01313/laws.FnExactLiftedRoot", spec := "fnExactLiftedRoot", unfollowed := true, recurses := true, named := ["loop.example/g01313/impl.errNoPlace"], ifaces := true, leaving := true, apart := false, laid := [("loop.example/g01313/impl.errNoPlace", laid_loop_example_g01313_impl_errNoPlace)], narrowed := true }
def FnExactLiftedRootUptoSaid : Prop := fnExactLiftedRootUptoRow.holds Tryd.pinned (OpenSpec.upto fnExactLiftedRootSpec)

/-- 'laws.FnExactValuationAt', WHERE WHAT IT READS IS OF BULK AT MOST 1048576: true; the input reads as it did. -/
def fnExactValuationAtUptoRow : OpenClaim := { program := "ythookppmclimkaadoor", sum := "66678b75dc3766a36fa7b4595c2e9c8295b7c9408f66b644b51ae1483c42523d", func := "loop.example/g01313/laws.FnExactValuationAt", spec := "fnExactValuationAt", unfollowed := true, recurses := true, named := ["loop.example/g01313/impl.errNoPlace"], ifaces := true, leaving := true, apart := false, laid := [("loop.example/g01313/impl.errNoPlace", laid_loop_example_g01313_impl_errNoPlace)], narrowed := true }
def FnExactValuationAtUptoSaid : Prop := fnExactValuationAtUptoRow.holds Tryd.pinned (OpenSpec.upto fnExactValuationAtSpec)

/-- 'laws.FnExactSymbolAt', WHERE WHAT IT READS IS OF BULK AT MOST 1048576: true; the input reads as it did. -/
def fnExactSymbolAtUptoRow : OpenClaim := { program := "ythookppmclimkaadoor", sum := "66678b75dc3766a36fa7b4595c2e9c8295b7c9408f66b644b51ae1483c42523d", func := "loop.example/g01313/laws.FnExactSymbolAt", spec := "fnExactSymbolAt", unfollowed := true, recurses := true, named := ["loop.example/g01313/impl.errNoPlace"], ifaces := true, leaving := true, apart := false, laid := [("loop.example/g01313/impl.errNoPlace", laid_loop_example_g01313_impl_errNoPlace)], narrowed := true }
def FnExactSymbolAtUptoSaid : Prop := fnExactSymbolAtUptoRow.holds Tryd.pinned (OpenSpec.upto fnExactSymbolAtSpec)

/-- 'laws.FnExactMovePlace', WHERE WHAT IT READS IS OF BULK AT MOST 1048576: true; the input reads as it did. -/
def fnExactMovePlaceUptoRow : OpenClaim := { program := "ythookppmclimkaadoor", sum := "66678b75dc3766a36fa7b4595c2e9c8295b7c9408f66b644b51ae1483c42523d", func := "loop.example/g01313/laws.FnExactMovePlace", spec := "fnExactMovePlace", unfollowed := true, recurses := true, named := ["loop.example/g01313/impl.errNoPlace"], ifaces := true, leaving := true, apart := false, laid := [("loop.example/g01313/impl.errNoPlace", laid_loop_example_g01313_impl_errNoPlace)], narrowed := true }
def FnExactMovePlaceUptoSaid : Prop := fnExactMovePlaceUptoRow.holds Tryd.pinned (OpenSpec.upto fnExactMovePlaceSpec)

end Rows
end Go.Proofs.YthookppmclimkaaDoor
