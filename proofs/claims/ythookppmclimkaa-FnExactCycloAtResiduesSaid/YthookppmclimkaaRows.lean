/-
  No cell of these rows narrows 'for every input' (looked for: loops, veiled, ifaces, maps, wideKeys, modest, calm, conditions, laid).
  DERIVED. THE GIVEN ROWS OF THIS SEAT. 5 by the template 'for every input the law returns true; each argument reads behind the call as it read before'; 0 by the template 'total and deterministic' (their statements: YthookppmclimkaaTotals.lean).
  GIVEN WITH THE SEED: the statements are not yours to turn. If you find one false, say at which input.
  Laid BY PROGRAM, IN A SANDBOX (cutbox-rows.mjs): the forced cells as the released guide's own fill.sh prints them over the translation 80df2438a673c534… (all of the seat's roots in one cut). By AI agents, Wed Nov 11 2026. No macro, syntax, notation, axiom, sorry.
-/
import Derived.Test.YthookppmclimkaaChecked
import GoSem.Claim
import GoSem.ClaimJoined
import GoSem.ClaimMapViews
import Derived.JoinedTies
import Derived.KernelRfl
namespace Go.Proofs.Ythookppmclimkaa
/- THE CELL 'sum', in the pinned program and in every row, IS THE sha256 OF THE DUMP (.gsa) THAT YthookppmclimkaaProg.lean LOADS. Nothing in Lean hashes anything: it is a label: what it is worth is what the hold of that sum in a sandbox is worth. -/
noncomputable def Try.pinned : Pinned := { name := "ythookppmclimkaa", sum := "80df2438a673c5340e6bb9290d04f75a16ccaec9f8aa4d8b82ef193c21202d2d", checked := Try.checked }
namespace Rows
def none {H : Type} : Left H := { results := [], args := [] }

/-- 'laws.FnExactSplittingOf': WHATEVER THE INPUT: true; the input reads as it did. -/
def fnExactSplittingOfSpec : ChangeSpec := { name := "fnExactSplittingOf", fn := fun _ => fun
  | [d1, d2] => { results := [.lit (.bool true)], args := [d1, d2] }
  | _ => none }
def fnExactSplittingOfRow : OpenClaim := { program := "ythookppmclimkaa", sum := "80df2438a673c5340e6bb9290d04f75a16ccaec9f8aa4d8b82ef193c21202d2d", func := "loop.example/g01313/laws.FnExactSplittingOf", spec := "fnExactSplittingOf", apart := false }
def FnExactSplittingOfSaid : Prop := fnExactSplittingOfRow.holds Try.pinned (OpenSpec.ofChange fnExactSplittingOfSpec)

/-- ITS FALSE NEIGHBOUR: 'it returns false'. Refute it at one input. -/
def fnExactSplittingOfWrong : ChangeSpec := { name := "fnExactSplittingOf", fn := fun _ => fun
  | [d1, d2] => { results := [.lit (.bool false)], args := [d1, d2] }
  | _ => none }
def FnExactSplittingOfWrongFalsely : Prop := fnExactSplittingOfRow.holds Try.pinned (OpenSpec.ofChange fnExactSplittingOfWrong)

/-- 'laws.FnExactSplitsFully': WHATEVER THE INPUT: true; the input reads as it did. -/
def fnExactSplitsFullySpec : ChangeSpec := { name := "fnExactSplitsFully", fn := fun _ => fun
  | [d1, d2] => { results := [.lit (.bool true)], args := [d1, d2] }
  | _ => none }
def fnExactSplitsFullyRow : OpenClaim := { program := "ythookppmclimkaa", sum := "80df2438a673c5340e6bb9290d04f75a16ccaec9f8aa4d8b82ef193c21202d2d", func := "loop.example/g01313/laws.FnExactSplitsFully", spec := "fnExactSplitsFully", apart := false }
def FnExactSplitsFullySaid : Prop := fnExactSplitsFullyRow.holds Try.pinned (OpenSpec.ofChange fnExactSplitsFullySpec)

/-- ITS FALSE NEIGHBOUR: 'it returns false'. Refute it at one input. -/
def fnExactSplitsFullyWrong : ChangeSpec := { name := "fnExactSplitsFully", fn := fun _ => fun
  | [d1, d2] => { results := [.lit (.bool false)], args := [d1, d2] }
  | _ => none }
def FnExactSplitsFullyWrongFalsely : Prop := fnExactSplitsFullyRow.holds Try.pinned (OpenSpec.ofChange fnExactSplitsFullyWrong)

/-- 'laws.FnExactRootsFor': WHATEVER THE INPUT: true; the input reads as it did. -/
def fnExactRootsForSpec : ChangeSpec := { name := "fnExactRootsFor", fn := fun _ => fun
  | [d1, d2] => { results := [.lit (.bool true)], args := [d1, d2] }
  | _ => none }
def fnExactRootsForRow : OpenClaim := { program := "ythookppmclimkaa", sum := "80df2438a673c5340e6bb9290d04f75a16ccaec9f8aa4d8b82ef193c21202d2d", func := "loop.example/g01313/laws.FnExactRootsFor", spec := "fnExactRootsFor", unfollowed := true, recurses := true, apart := false }
def FnExactRootsForSaid : Prop := fnExactRootsForRow.holds Try.pinned (OpenSpec.ofChange fnExactRootsForSpec)

/-- ITS FALSE NEIGHBOUR: 'it returns false'. Refute it at one input. -/
def fnExactRootsForWrong : ChangeSpec := { name := "fnExactRootsFor", fn := fun _ => fun
  | [d1, d2] => { results := [.lit (.bool false)], args := [d1, d2] }
  | _ => none }
def FnExactRootsForWrongFalsely : Prop := fnExactRootsForRow.holds Try.pinned (OpenSpec.ofChange fnExactRootsForWrong)

/-- 'laws.FnExactCycloAtResidues': WHATEVER THE INPUT: true; the input reads as it did. -/
def fnExactCycloAtResiduesSpec : ChangeSpec := { name := "fnExactCycloAtResidues", fn := fun _ => fun
  | [d1, d2, d3] => { results := [.lit (.bool true)], args := [d1, d2, d3] }
  | _ => none }
def fnExactCycloAtResiduesRow : OpenClaim := { program := "ythookppmclimkaa", sum := "80df2438a673c5340e6bb9290d04f75a16ccaec9f8aa4d8b82ef193c21202d2d", func := "loop.example/g01313/laws.FnExactCycloAtResidues", spec := "fnExactCycloAtResidues", unfollowed := true, recurses := true, apart := false }
def FnExactCycloAtResiduesSaid : Prop := fnExactCycloAtResiduesRow.holds Try.pinned (OpenSpec.ofChange fnExactCycloAtResiduesSpec)

/-- ITS FALSE NEIGHBOUR: 'it returns false'. Refute it at one input. -/
def fnExactCycloAtResiduesWrong : ChangeSpec := { name := "fnExactCycloAtResidues", fn := fun _ => fun
  | [d1, d2, d3] => { results := [.lit (.bool false)], args := [d1, d2, d3] }
  | _ => none }
def FnExactCycloAtResiduesWrongFalsely : Prop := fnExactCycloAtResiduesRow.holds Try.pinned (OpenSpec.ofChange fnExactCycloAtResiduesWrong)

/-- 'laws.FnExactPlacesWith': WHATEVER THE INPUT: true; the input reads as it did. -/
def fnExactPlacesWithSpec : ChangeSpec := { name := "fnExactPlacesWith", fn := fun _ => fun
  | [d1, d2] => { results := [.lit (.bool true)], args := [d1, d2] }
  | _ => none }
def fnExactPlacesWithRow : OpenClaim := { program := "ythookppmclimkaa", sum := "80df2438a673c5340e6bb9290d04f75a16ccaec9f8aa4d8b82ef193c21202d2d", func := "loop.example/g01313/laws.FnExactPlacesWith", spec := "fnExactPlacesWith", unfollowed := true, recurses := true, apart := false }
def FnExactPlacesWithSaid : Prop := fnExactPlacesWithRow.holds Try.pinned (OpenSpec.ofChange fnExactPlacesWithSpec)

/-- ITS FALSE NEIGHBOUR: 'it returns false'. Refute it at one input. -/
def fnExactPlacesWithWrong : ChangeSpec := { name := "fnExactPlacesWith", fn := fun _ => fun
  | [d1, d2] => { results := [.lit (.bool false)], args := [d1, d2] }
  | _ => none }
def FnExactPlacesWithWrongFalsely : Prop := fnExactPlacesWithRow.holds Try.pinned (OpenSpec.ofChange fnExactPlacesWithWrong)

/- THE SECOND FORM. 'bulk': how many values and letters a reading holds, each counted each time it is reached (what is shared counts as often as it is met; a slice's spare places count too). A statement '..UptoSaid' is the law's where the arguments, and the package variables that the reading takes, are together of bulk at most 1048576: NARROWER than '..Said'. Prove '..Said' where nothing that the law and all that it calls make is longer than what came in: it says more and counts as full. Else prove '..UptoSaid'. A law counts once. -/
mutual
def uptoBulk {H : Type} : DataW H → Nat
  | .lit (.string bytes) => bytes.length + 1
  | .lit _ => 1
  | .nil => 1
  | .ptr d => uptoBulk d + 1
  | .slice elems spare => uptoBulkAll elems + uptoBulkAll spare + 1
  | .agg parts => uptoBulkAll parts + 1
  | .iface _ d => uptoBulk d + 1
  | .map entries => uptoBulkEntries entries + 1
  | .held _ => 1
def uptoBulkAll {H : Type} : List (DataW H) → Nat
  | [] => 0
  | d :: r => uptoBulk d + uptoBulkAll r
def uptoBulkEntries {H : Type} : List (Lit × DataW H) → Nat
  | [] => 0
  | x :: r => uptoBulkEntry x + uptoBulkEntries r
def uptoBulkEntry {H : Type} : Lit × DataW H → Nat
  | (.string bytes, d) => bytes.length + uptoBulk d + 1
  | (_, d) => uptoBulk d + 1
 end
def uptoSmall : (H : Type) → List (DataW H) → Bool := fun _ ds => decide (uptoBulkAll ds ≤ 1048576)
def OpenSpec.upto (s : _root_.Go.ChangeSpec) : _root_.Go.OpenSpec := { _root_.Go.OpenSpec.ofChange s with cond := some uptoSmall }

/-- 'laws.FnExactSplittingOf', WHERE WHAT IT READS IS OF BULK AT MOST 1048576: true; the input reads as it did. -/
def fnExactSplittingOfUptoRow : OpenClaim := { program := "ythookppmclimkaa", sum := "80df2438a673c5340e6bb9290d04f75a16ccaec9f8aa4d8b82ef193c21202d2d", func := "loop.example/g01313/laws.FnExactSplittingOf", spec := "fnExactSplittingOf", apart := false, narrowed := true }
def FnExactSplittingOfUptoSaid : Prop := fnExactSplittingOfUptoRow.holds Try.pinned (OpenSpec.upto fnExactSplittingOfSpec)

/-- 'laws.FnExactSplitsFully', WHERE WHAT IT READS IS OF BULK AT MOST 1048576: true; the input reads as it did. -/
def fnExactSplitsFullyUptoRow : OpenClaim := { program := "ythookppmclimkaa", sum := "80df2438a673c5340e6bb9290d04f75a16ccaec9f8aa4d8b82ef193c21202d2d", func := "loop.example/g01313/laws.FnExactSplitsFully", spec := "fnExactSplitsFully", apart := false, narrowed := true }
def FnExactSplitsFullyUptoSaid : Prop := fnExactSplitsFullyUptoRow.holds Try.pinned (OpenSpec.upto fnExactSplitsFullySpec)

/-- 'laws.FnExactRootsFor', WHERE WHAT IT READS IS OF BULK AT MOST 1048576: true; the input reads as it did. -/
def fnExactRootsForUptoRow : OpenClaim := { program := "ythookppmclimkaa", sum := "80df2438a673c5340e6bb9290d04f75a16ccaec9f8aa4d8b82ef193c21202d2d", func := "loop.example/g01313/laws.FnExactRootsFor", spec := "fnExactRootsFor", unfollowed := true, recurses := true, apart := false, narrowed := true }
def FnExactRootsForUptoSaid : Prop := fnExactRootsForUptoRow.holds Try.pinned (OpenSpec.upto fnExactRootsForSpec)

/-- 'laws.FnExactCycloAtResidues', WHERE WHAT IT READS IS OF BULK AT MOST 1048576: true; the input reads as it did. -/
def fnExactCycloAtResiduesUptoRow : OpenClaim := { program := "ythookppmclimkaa", sum := "80df2438a673c5340e6bb9290d04f75a16ccaec9f8aa4d8b82ef193c21202d2d", func := "loop.example/g01313/laws.FnExactCycloAtResidues", spec := "fnExactCycloAtResidues", unfollowed := true, recurses := true, apart := false, narrowed := true }
def FnExactCycloAtResiduesUptoSaid : Prop := fnExactCycloAtResiduesUptoRow.holds Try.pinned (OpenSpec.upto fnExactCycloAtResiduesSpec)

/-- 'laws.FnExactPlacesWith', WHERE WHAT IT READS IS OF BULK AT MOST 1048576: true; the input reads as it did. -/
def fnExactPlacesWithUptoRow : OpenClaim := { program := "ythookppmclimkaa", sum := "80df2438a673c5340e6bb9290d04f75a16ccaec9f8aa4d8b82ef193c21202d2d", func := "loop.example/g01313/laws.FnExactPlacesWith", spec := "fnExactPlacesWith", unfollowed := true, recurses := true, apart := false, narrowed := true }
def FnExactPlacesWithUptoSaid : Prop := fnExactPlacesWithUptoRow.holds Try.pinned (OpenSpec.upto fnExactPlacesWithSpec)

end Rows
end Go.Proofs.Ythookppmclimkaa
