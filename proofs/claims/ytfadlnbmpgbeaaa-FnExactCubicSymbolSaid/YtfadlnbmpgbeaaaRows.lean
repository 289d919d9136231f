/-
  No cell of these rows narrows 'for every input' (looked for: loops, veiled, ifaces, maps, wideKeys, modest, calm, conditions, laid).
  DERIVED. THE GIVEN ROWS OF THIS SEAT. 12 by the template 'for every input the law returns true; each argument reads behind the call as it read before'; 0 by the template 'total and deterministic' (their statements: YtfadlnbmpgbeaaaTotals.lean).
  GIVEN WITH THE SEED: the statements are not yours to turn. If you find one false, say at which input.
  Laid BY PROGRAM, IN A SANDBOX (cutbox-rows.mjs): the forced cells as the released guide's own fill.sh prints them over the translation f173a8f3a4df47b6… (all of the seat's roots in one cut). By AI agents, Wed Nov 11 2026. No macro, syntax, notation, axiom, sorry.
-/
import Derived.Test.YtfadlnbmpgbeaaaChecked
import GoSem.Claim
import GoSem.ClaimJoined
import GoSem.ClaimMapViews
import Derived.JoinedTies
import Derived.KernelRfl
namespace Go.Proofs.Ytfadlnbmpgbeaaa
/- THE CELL 'sum', in the pinned program and in every row, IS THE sha256 OF THE DUMP (.gsa) THAT YtfadlnbmpgbeaaaProg.lean LOADS. Nothing in Lean hashes anything: it is a label: what it is worth is what the hold of that sum in a sandbox is worth. -/
noncomputable def Try.pinned : Pinned := { name := "ytfadlnbmpgbeaaa", sum := "f173a8f3a4df47b602a867b14c0a71418a3e99a772179ed7af33bbcdd149bb1a", checked := Try.checked }
namespace Rows
def none {H : Type} : Left H := { results := [], args := [] }

/-- 'laws.FnExactIsCubicNumber': WHATEVER THE INPUT: true; the input reads as it did. -/
def fnExactIsCubicNumberSpec : ChangeSpec := { name := "fnExactIsCubicNumber", fn := fun _ => fun
  | [d] => { results := [.lit (.bool true)], args := [d] }
  | _ => none }
def fnExactIsCubicNumberRow : OpenClaim := { program := "ytfadlnbmpgbeaaa", sum := "f173a8f3a4df47b602a867b14c0a71418a3e99a772179ed7af33bbcdd149bb1a", func := "loop.example/g01313/laws.FnExactIsCubicNumber", spec := "fnExactIsCubicNumber", apart := false }
def FnExactIsCubicNumberSaid : Prop := fnExactIsCubicNumberRow.holds Try.pinned (OpenSpec.ofChange fnExactIsCubicNumberSpec)

/-- ITS FALSE NEIGHBOUR: 'it returns false'. Refute it at one input. -/
def fnExactIsCubicNumberWrong : ChangeSpec := { name := "fnExactIsCubicNumber", fn := fun _ => fun
  | [d] => { results := [.lit (.bool false)], args := [d] }
  | _ => none }
def FnExactIsCubicNumberWrongFalsely : Prop := fnExactIsCubicNumberRow.holds Try.pinned (OpenSpec.ofChange fnExactIsCubicNumberWrong)

/-- 'laws.FnExactNormOfCubic': WHATEVER THE INPUT: true; the input reads as it did. -/
def fnExactNormOfCubicSpec : ChangeSpec := { name := "fnExactNormOfCubic", fn := fun _ => fun
  | [d] => { results := [.lit (.bool true)], args := [d] }
  | _ => none }
def fnExactNormOfCubicRow : OpenClaim := { program := "ytfadlnbmpgbeaaa", sum := "f173a8f3a4df47b602a867b14c0a71418a3e99a772179ed7af33bbcdd149bb1a", func := "loop.example/g01313/laws.FnExactNormOfCubic", spec := "fnExactNormOfCubic", apart := false }
def FnExactNormOfCubicSaid : Prop := fnExactNormOfCubicRow.holds Try.pinned (OpenSpec.ofChange fnExactNormOfCubicSpec)

/-- ITS FALSE NEIGHBOUR: 'it returns false'. Refute it at one input. -/
def fnExactNormOfCubicWrong : ChangeSpec := { name := "fnExactNormOfCubic", fn := fun _ => fun
  | [d] => { results := [.lit (.bool false)], args := [d] }
  | _ => none }
def FnExactNormOfCubicWrongFalsely : Prop := fnExactNormOfCubicRow.holds Try.pinned (OpenSpec.ofChange fnExactNormOfCubicWrong)

/-- 'laws.FnExactChosenAssociate': WHATEVER THE INPUT: true; the input reads as it did. -/
def fnExactChosenAssociateSpec : ChangeSpec := { name := "fnExactChosenAssociate", fn := fun _ => fun
  | [d] => { results := [.lit (.bool true)], args := [d] }
  | _ => none }
def fnExactChosenAssociateRow : OpenClaim := { program := "ytfadlnbmpgbeaaa", sum := "f173a8f3a4df47b602a867b14c0a71418a3e99a772179ed7af33bbcdd149bb1a", func := "loop.example/g01313/laws.FnExactChosenAssociate", spec := "fnExactChosenAssociate", unfollowed := true, recurses := true, apart := false }
def FnExactChosenAssociateSaid : Prop := fnExactChosenAssociateRow.holds Try.pinned (OpenSpec.ofChange fnExactChosenAssociateSpec)

/-- ITS FALSE NEIGHBOUR: 'it returns false'. Refute it at one input. -/
def fnExactChosenAssociateWrong : ChangeSpec := { name := "fnExactChosenAssociate", fn := fun _ => fun
  | [d] => { results := [.lit (.bool false)], args := [d] }
  | _ => none }
def FnExactChosenAssociateWrongFalsely : Prop := fnExactChosenAssociateRow.holds Try.pinned (OpenSpec.ofChange fnExactChosenAssociateWrong)

/-- 'laws.FnExactPrimaryAssociate': WHATEVER THE INPUT: true; the input reads as it did. -/
def fnExactPrimaryAssociateSpec : ChangeSpec := { name := "fnExactPrimaryAssociate", fn := fun _ => fun
  | [d] => { results := [.lit (.bool true)], args := [d] }
  | _ => none }
def fnExactPrimaryAssociateRow : OpenClaim := { program := "ytfadlnbmpgbeaaa", sum := "f173a8f3a4df47b602a867b14c0a71418a3e99a772179ed7af33bbcdd149bb1a", func := "loop.example/g01313/laws.FnExactPrimaryAssociate", spec := "fnExactPrimaryAssociate", unfollowed := true, recurses := true, apart := false }
def FnExactPrimaryAssociateSaid : Prop := fnExactPrimaryAssociateRow.holds Try.pinned (OpenSpec.ofChange fnExactPrimaryAssociateSpec)

/-- ITS FALSE NEIGHBOUR: 'it returns false'. Refute it at one input. -/
def fnExactPrimaryAssociateWrong : ChangeSpec := { name := "fnExactPrimaryAssociate", fn := fun _ => fun
  | [d] => { results := [.lit (.bool false)], args := [d] }
  | _ => none }
def FnExactPrimaryAssociateWrongFalsely : Prop := fnExactPrimaryAssociateRow.holds Try.pinned (OpenSpec.ofChange fnExactPrimaryAssociateWrong)

/-- 'laws.FnExactDivideCubic': WHATEVER THE INPUT: true; the input reads as it did. -/
def fnExactDivideCubicSpec : ChangeSpec := { name := "fnExactDivideCubic", fn := fun _ => fun
  | [d1, d2] => { results := [.lit (.bool true)], args := [d1, d2] }
  | _ => none }
def fnExactDivideCubicRow : OpenClaim := { program := "ytfadlnbmpgbeaaa", sum := "f173a8f3a4df47b602a867b14c0a71418a3e99a772179ed7af33bbcdd149bb1a", func := "loop.example/g01313/laws.FnExactDivideCubic", spec := "fnExactDivideCubic", unfollowed := true, recurses := true, apart := false }
def FnExactDivideCubicSaid : Prop := fnExactDivideCubicRow.holds Try.pinned (OpenSpec.ofChange fnExactDivideCubicSpec)

/-- ITS FALSE NEIGHBOUR: 'it returns false'. Refute it at one input. -/
def fnExactDivideCubicWrong : ChangeSpec := { name := "fnExactDivideCubic", fn := fun _ => fun
  | [d1, d2] => { results := [.lit (.bool false)], args := [d1, d2] }
  | _ => none }
def FnExactDivideCubicWrongFalsely : Prop := fnExactDivideCubicRow.holds Try.pinned (OpenSpec.ofChange fnExactDivideCubicWrong)

/-- 'laws.FnExactGcdOfCubics': WHATEVER THE INPUT: true; the input reads as it did. -/
def fnExactGcdOfCubicsSpec : ChangeSpec := { name := "fnExactGcdOfCubics", fn := fun _ => fun
  | [d1, d2] => { results := [.lit (.bool true)], args := [d1, d2] }
  | _ => none }
def fnExactGcdOfCubicsRow : OpenClaim := { program := "ytfadlnbmpgbeaaa", sum := "f173a8f3a4df47b602a867b14c0a71418a3e99a772179ed7af33bbcdd149bb1a", func := "loop.example/g01313/laws.FnExactGcdOfCubics", spec := "fnExactGcdOfCubics", unfollowed := true, recurses := true, apart := false }
def FnExactGcdOfCubicsSaid : Prop := fnExactGcdOfCubicsRow.holds Try.pinned (OpenSpec.ofChange fnExactGcdOfCubicsSpec)

/-- ITS FALSE NEIGHBOUR: 'it returns false'. Refute it at one input. -/
def fnExactGcdOfCubicsWrong : ChangeSpec := { name := "fnExactGcdOfCubics", fn := fun _ => fun
  | [d1, d2] => { results := [.lit (.bool false)], args := [d1, d2] }
  | _ => none }
def FnExactGcdOfCubicsWrongFalsely : Prop := fnExactGcdOfCubicsRow.holds Try.pinned (OpenSpec.ofChange fnExactGcdOfCubicsWrong)

/-- 'laws.FnExactIsCubicPrime': WHATEVER THE INPUT: true; the input reads as it did. -/
def fnExactIsCubicPrimeSpec : ChangeSpec := { name := "fnExactIsCubicPrime", fn := fun _ => fun
  | [d] => { results := [.lit (.bool true)], args := [d] }
  | _ => none }
def fnExactIsCubicPrimeRow : OpenClaim := { program := "ytfadlnbmpgbeaaa", sum := "f173a8f3a4df47b602a867b14c0a71418a3e99a772179ed7af33bbcdd149bb1a", func := "loop.example/g01313/laws.FnExactIsCubicPrime", spec := "fnExactIsCubicPrime", unfollowed := true, recurses := true, apart := false }
def FnExactIsCubicPrimeSaid : Prop := fnExactIsCubicPrimeRow.holds Try.pinned (OpenSpec.ofChange fnExactIsCubicPrimeSpec)

/-- ITS FALSE NEIGHBOUR: 'it returns false'. Refute it at one input. -/
def fnExactIsCubicPrimeWrong : ChangeSpec := { name := "fnExactIsCubicPrime", fn := fun _ => fun
  | [d] => { results := [.lit (.bool false)], args := [d] }
  | _ => none }
def FnExactIsCubicPrimeWrongFalsely : Prop := fnExactIsCubicPrimeRow.holds Try.pinned (OpenSpec.ofChange fnExactIsCubicPrimeWrong)

/-- 'laws.FnExactFactorCubic': WHATEVER THE INPUT: true; the input reads as it did. -/
def fnExactFactorCubicSpec : ChangeSpec := { name := "fnExactFactorCubic", fn := fun _ => fun
  | [d] => { results := [.lit (.bool true)], args := [d] }
  | _ => none }
def fnExactFactorCubicRow : OpenClaim := { program := "ytfadlnbmpgbeaaa", sum := "f173a8f3a4df47b602a867b14c0a71418a3e99a772179ed7af33bbcdd149bb1a", func := "loop.example/g01313/laws.FnExactFactorCubic", spec := "fnExactFactorCubic", unfollowed := true, recurses := true, apart := false }
def FnExactFactorCubicSaid : Prop := fnExactFactorCubicRow.holds Try.pinned (OpenSpec.ofChange fnExactFactorCubicSpec)

/-- ITS FALSE NEIGHBOUR: 'it returns false'. Refute it at one input. -/
def fnExactFactorCubicWrong : ChangeSpec := { name := "fnExactFactorCubic", fn := fun _ => fun
  | [d] => { results := [.lit (.bool false)], args := [d] }
  | _ => none }
def FnExactFactorCubicWrongFalsely : Prop := fnExactFactorCubicRow.holds Try.pinned (OpenSpec.ofChange fnExactFactorCubicWrong)

/-- 'laws.FnExactCubicSymbol': WHATEVER THE INPUT: true; the input reads as it did. -/
def fnExactCubicSymbolSpec : ChangeSpec := { name := "fnExactCubicSymbol", fn := fun _ => fun
  | [d1, d2] => { results := [.lit (.bool true)], args := [d1, d2] }
  | _ => none }
def fnExactCubicSymbolRow : OpenClaim := { program := "ytfadlnbmpgbeaaa", sum := "f173a8f3a4df47b602a867b14c0a71418a3e99a772179ed7af33bbcdd149bb1a", func := "loop.example/g01313/laws.FnExactCubicSymbol", spec := "fnExactCubicSymbol", unfollowed := true, recurses := true, apart := false }
def FnExactCubicSymbolSaid : Prop := fnExactCubicSymbolRow.holds Try.pinned (OpenSpec.ofChange fnExactCubicSymbolSpec)

/-- ITS FALSE NEIGHBOUR: 'it returns false'. Refute it at one input. -/
def fnExactCubicSymbolWrong : ChangeSpec := { name := "fnExactCubicSymbol", fn := fun _ => fun
  | [d1, d2] => { results := [.lit (.bool false)], args := [d1, d2] }
  | _ => none }
def FnExactCubicSymbolWrongFalsely : Prop := fnExactCubicSymbolRow.holds Try.pinned (OpenSpec.ofChange fnExactCubicSymbolWrong)

/-- 'laws.FnExactCountResidues': WHATEVER THE INPUT: true; the input reads as it did. -/
def fnExactCountResiduesSpec : ChangeSpec := { name := "fnExactCountResidues", fn := fun _ => fun
  | [d] => { results := [.lit (.bool true)], args := [d] }
  | _ => none }
def fnExactCountResiduesRow : OpenClaim := { program := "ytfadlnbmpgbeaaa", sum := "f173a8f3a4df47b602a867b14c0a71418a3e99a772179ed7af33bbcdd149bb1a", func := "loop.example/g01313/laws.FnExactCountResidues", spec := "fnExactCountResidues", unfollowed := true, recurses := true, apart := false }
def FnExactCountResiduesSaid : Prop := fnExactCountResiduesRow.holds Try.pinned (OpenSpec.ofChange fnExactCountResiduesSpec)

/-- ITS FALSE NEIGHBOUR: 'it returns false'. Refute it at one input. -/
def fnExactCountResiduesWrong : ChangeSpec := { name := "fnExactCountResidues", fn := fun _ => fun
  | [d] => { results := [.lit (.bool false)], args := [d] }
  | _ => none }
def FnExactCountResiduesWrongFalsely : Prop := fnExactCountResiduesRow.holds Try.pinned (OpenSpec.ofChange fnExactCountResiduesWrong)

/-- 'laws.FnExactAreAssociate': WHATEVER THE INPUT: true; the input reads as it did. -/
def fnExactAreAssociateSpec : ChangeSpec := { name := "fnExactAreAssociate", fn := fun _ => fun
  | [d1, d2] => { results := [.lit (.bool true)], args := [d1, d2] }
  | _ => none }
def fnExactAreAssociateRow : OpenClaim := { program := "ytfadlnbmpgbeaaa", sum := "f173a8f3a4df47b602a867b14c0a71418a3e99a772179ed7af33bbcdd149bb1a", func := "loop.example/g01313/laws.FnExactAreAssociate", spec := "fnExactAreAssociate", apart := false }
def FnExactAreAssociateSaid : Prop := fnExactAreAssociateRow.holds Try.pinned (OpenSpec.ofChange fnExactAreAssociateSpec)

/-- ITS FALSE NEIGHBOUR: 'it returns false'. Refute it at one input. -/
def fnExactAreAssociateWrong : ChangeSpec := { name := "fnExactAreAssociate", fn := fun _ => fun
  | [d1, d2] => { results := [.lit (.bool false)], args := [d1, d2] }
  | _ => none }
def FnExactAreAssociateWrongFalsely : Prop := fnExactAreAssociateRow.holds Try.pinned (OpenSpec.ofChange fnExactAreAssociateWrong)

/-- 'laws.FnExactPrimesOfNorm': WHATEVER THE INPUT: true; the input reads as it did. -/
def fnExactPrimesOfNormSpec : ChangeSpec := { name := "fnExactPrimesOfNorm", fn := fun _ => fun
  | [d] => { results := [.lit (.bool true)], args := [d] }
  | _ => none }
def fnExactPrimesOfNormRow : OpenClaim := { program := "ytfadlnbmpgbeaaa", sum := "f173a8f3a4df47b602a867b14c0a71418a3e99a772179ed7af33bbcdd149bb1a", func := "loop.example/g01313/laws.FnExactPrimesOfNorm", spec := "fnExactPrimesOfNorm", unfollowed := true, recurses := true, apart := false }
def FnExactPrimesOfNormSaid : Prop := fnExactPrimesOfNormRow.holds Try.pinned (OpenSpec.ofChange fnExactPrimesOfNormSpec)

/-- ITS FALSE NEIGHBOUR: 'it returns false'. Refute it at one input. -/
def fnExactPrimesOfNormWrong : ChangeSpec := { name := "fnExactPrimesOfNorm", fn := fun _ => fun
  | [d] => { results := [.lit (.bool false)], args := [d] }
  | _ => none }
def FnExactPrimesOfNormWrongFalsely : Prop := fnExactPrimesOfNormRow.holds Try.pinned (OpenSpec.ofChange fnExactPrimesOfNormWrong)

/- THE SECOND FORM. 'bulk': how many values and letters a reading holds, each counted each time it is reached (what is shared counts as often as it is met; a slice's spare places count too). A statement '..UptoSaid' is the law's where the arguments, and the package variables that the reading takes, are together of bulk at most 1048576: NARROWER than '..Said'. Prove '..Said' where nothing that the law and all that it calls make is longer than what came in: it says more and counts as full. Else prove '..UptoSaid'. A law counts once. -/
mutual
def uptoBulk {H : Type} : DataW H → Nat
  | .lit (.string bytes) => bytes.length + 1
  | .lit _ => 1
  | .nil => 1
  | .ptr d => uptoBulk d + 1
  | .slice elems spare => uptoBulkAll elems + uptoBulkAll spare + 1
  | .agg parts => uptoBulkAll parts + 1
  | .iface _ d => uptoBulk d + 1
  | .map entries => uptoBulkEntries entries + 1
  | .held _ => 1
def uptoBulkAll {H : Type} : List (DataW H) → Nat
  | [] => 0
  | d :: r => uptoBulk d + uptoBulkAll r
def uptoBulkEntries {H : Type} : List (Lit × DataW H) → Nat
  | [] => 0
  | x :: r => uptoBulkEntry x + uptoBulkEntries r
def uptoBulkEntry {H : Type} : Lit × DataW H → Nat
  | (.string bytes, d) => bytes.length + uptoBulk d + 1
  | (_, d) => uptoBulk d + 1
 end
def uptoSmall : (H : Type) → List (DataW H) → Bool := fun _ ds => decide (uptoBulkAll ds ≤ 1048576)
def OpenSpec.upto (s : _root_.Go.ChangeSpec) : _root_.Go.OpenSpec := { _root_.Go.OpenSpec.ofChange s with cond := some uptoSmall }

/-- 'laws.FnExactIsCubicNumber', WHERE WHAT IT READS IS OF BULK AT MOST 1048576: true; the input reads as it did. -/
def fnExactIsCubicNumberUptoRow : OpenClaim := { program := "ytfadlnbmpgbeaaa", sum := "f173a8f3a4df47b602a867b14c0a71418a3e99a772179ed7af33bbcdd149bb1a", func := "loop.example/g01313/laws.FnExactIsCubicNumber", spec := "fnExactIsCubicNumber", apart := false, narrowed := true }
def FnExactIsCubicNumberUptoSaid : Prop := fnExactIsCubicNumberUptoRow.holds Try.pinned (OpenSpec.upto fnExactIsCubicNumberSpec)

/-- 'laws.FnExactNormOfCubic', WHERE WHAT IT READS IS OF BULK AT MOST 1048576: true; the input reads as it did. -/
def fnExactNormOfCubicUptoRow : OpenClaim := { program := "ytfadlnbmpgbeaaa", sum := "f173a8f3a4df47b602a867b14c0a71418a3e99a772179ed7af33bbcdd149bb1a", func := "loop.example/g01313/laws.FnExactNormOfCubic", spec := "fnExactNormOfCubic", apart := false, narrowed := true }
def FnExactNormOfCubicUptoSaid : Prop := fnExactNormOfCubicUptoRow.holds Try.pinned (OpenSpec.upto fnExactNormOfCubicSpec)

/-- 'laws.FnExactChosenAssociate', WHERE WHAT IT READS IS OF BULK AT MOST 1048576: true; the input reads as it did. -/
def fnExactChosenAssociateUptoRow : OpenClaim := { program := "ytfadlnbmpgbeaaa", sum := "f173a8f3a4df47b602a867b14c0a71418a3e99a772179ed7af33bbcdd149bb1a", func := "loop.example/g01313/laws.FnExactChosenAssociate", spec := "fnExactChosenAssociate", unfollowed := true, recurses := true, apart := false, narrowed := true }
def FnExactChosenAssociateUptoSaid : Prop := fnExactChosenAssociateUptoRow.holds Try.pinned (OpenSpec.upto fnExactChosenAssociateSpec)

/-- 'laws.FnExactPrimaryAssociate', WHERE WHAT IT READS IS OF BULK AT MOST 1048576: true; the input reads as it did. -/
def fnExactPrimaryAssociateUptoRow : OpenClaim := { program := "ytfadlnbmpgbeaaa", sum := "f173a8f3a4df47b602a867b14c0a71418a3e99a772179ed7af33bbcdd149bb1a", func := "loop.example/g01313/laws.FnExactPrimaryAssociate", spec := "fnExactPrimaryAssociate", unfollowed := true, recurses := true, apart := false, narrowed := true }
def FnExactPrimaryAssociateUptoSaid : Prop := fnExactPrimaryAssociateUptoRow.holds Try.pinned (OpenSpec.upto fnExactPrimaryAssociateSpec)

/-- 'laws.FnExactDivideCubic', WHERE WHAT IT READS IS OF BULK AT MOST 1048576: true; the input reads as it did. -/
def fnExactDivideCubicUptoRow : OpenClaim := { program := "ytfadlnbmpgbeaaa", sum := "f173a8f3a4df47b602a867b14c0a71418a3e99a772179ed7af33bbcdd149bb1a", func := "loop.example/g01313/laws.FnExactDivideCubic", spec := "fnExactDivideCubic", unfollowed := true, recurses := true, apart := false, narrowed := true }
def FnExactDivideCubicUptoSaid : Prop := fnExactDivideCubicUptoRow.holds Try.pinned (OpenSpec.upto fnExactDivideCubicSpec)

/-- 'laws.FnExactGcdOfCubics', WHERE WHAT IT READS IS OF BULK AT MOST 1048576: true; the input reads as it did. -/
def fnExactGcdOfCubicsUptoRow : OpenClaim := { program := "ytfadlnbmpgbeaaa", sum := "f173a8f3a4df47b602a867b14c0a71418a3e99a772179ed7af33bbcdd149bb1a", func := "loop.example/g01313/laws.FnExactGcdOfCubics", spec := "fnExactGcdOfCubics", unfollowed := true, recurses := true, apart := false, narrowed := true }
def FnExactGcdOfCubicsUptoSaid : Prop := fnExactGcdOfCubicsUptoRow.holds Try.pinned (OpenSpec.upto fnExactGcdOfCubicsSpec)

/-- 'laws.FnExactIsCubicPrime', WHERE WHAT IT READS IS OF BULK AT MOST 1048576: true; the input reads as it did. -/
def fnExactIsCubicPrimeUptoRow : OpenClaim := { program := "ytfadlnbmpgbeaaa", sum := "f173a8f3a4df47b602a867b14c0a71418a3e99a772179ed7af33bbcdd149bb1a", func := "loop.example/g01313/laws.FnExactIsCubicPrime", spec := "fnExactIsCubicPrime", unfollowed := true, recurses := true, apart := false, narrowed := true }
def FnExactIsCubicPrimeUptoSaid : Prop := fnExactIsCubicPrimeUptoRow.holds Try.pinned (OpenSpec.upto fnExactIsCubicPrimeSpec)

/-- 'laws.FnExactFactorCubic', WHERE WHAT IT READS IS OF BULK AT MOST 1048576: true; the input reads as it did. -/
def fnExactFactorCubicUptoRow : OpenClaim := { program := "ytfadlnbmpgbeaaa", sum := "f173a8f3a4df47b602a867b14c0a71418a3e99a772179ed7af33bbcdd149bb1a", func := "loop.example/g01313/laws.FnExactFactorCubic", spec := "fnExactFactorCubic", unfollowed := true, recurses := true, apart := false, narrowed := true }
def FnExactFactorCubicUptoSaid : Prop := fnExactFactorCubicUptoRow.holds Try.pinned (OpenSpec.upto fnExactFactorCubicSpec)

/-- 'laws.FnExactCubicSymbol', WHERE WHAT IT READS IS OF BULK AT MOST 1048576: true; the input reads as it did. -/
def fnExactCubicSymbolUptoRow : OpenClaim := { program := "ytfadlnbmpgbeaaa", sum := "f173a8f3a4df47b602a867b14c0a71418a3e99a772179ed7af33bbcdd149bb1a", func := "loop.example/g01313/laws.FnExactCubicSymbol", spec := "fnExactCubicSymbol", unfollowed := true, recurses := true, apart := false, narrowed := true }
def FnExactCubicSymbolUptoSaid : Prop := fnExactCubicSymbolUptoRow.holds Try.pinned (OpenSpec.upto fnExactCubicSymbolSpec)

/-- 'laws.FnExactCountResidues', WHERE WHAT IT READS IS OF BULK AT MOST 1048576: true; the input reads as it did. -/
def fnExactCountResiduesUptoRow : OpenClaim := { program := "ytfadlnbmpgbeaaa", sum := "f173a8f3a4df47b602a867b14c0a71418a3e99a772179ed7af33bbcdd149bb1a", func := "loop.example/g01313/laws.FnExactCountResidues", spec := "fnExactCountResidues", unfollowed := true, recurses := true, apart := false, narrowed := true }
def FnExactCountResiduesUptoSaid : Prop := fnExactCountResiduesUptoRow.holds Try.pinned (OpenSpec.upto fnExactCountResiduesSpec)

/-- 'laws.FnExactAreAssociate', WHERE WHAT IT READS IS OF BULK AT MOST 1048576: true; the input reads as it did. -/
def fnExactAreAssociateUptoRow : OpenClaim := { program := "ytfadlnbmpgbeaaa", sum := "f173a8f3a4df47b602a867b14c0a71418a3e99a772179ed7af33bbcdd149bb1a", func := "loop.example/g01313/laws.FnExactAreAssociate", spec := "fnExactAreAssociate", apart := false, narrowed := true }
def FnExactAreAssociateUptoSaid : Prop := fnExactAreAssociateUptoRow.holds Try.pinned (OpenSpec.upto fnExactAreAssociateSpec)

/-- 'laws.FnExactPrimesOfNorm', WHERE WHAT IT READS IS OF BULK AT MOST 1048576: true; the input reads as it did. -/
def fnExactPrimesOfNormUptoRow : OpenClaim := { program := "ytfadlnbmpgbeaaa", sum := "f173a8f3a4df47b602a867b14c0a71418a3e99a772179ed7af33bbcdd149bb1a", func := "loop.example/g01313/laws.FnExactPrimesOfNorm", spec := "fnExactPrimesOfNorm", unfollowed := true, recurses := true, apart := false, narrowed := true }
def FnExactPrimesOfNormUptoSaid : Prop := fnExactPrimesOfNormUptoRow.holds Try.pinned (OpenSpec.upto fnExactPrimesOfNormSpec)

end Rows
end Go.Proofs.Ytfadlnbmpgbeaaa
