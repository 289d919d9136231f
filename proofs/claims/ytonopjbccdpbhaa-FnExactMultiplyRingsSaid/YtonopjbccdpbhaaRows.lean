/-
  No cell of these rows narrows 'for every input' (looked for: loops, veiled, ifaces, maps, wideKeys, modest, calm, conditions, laid).
  DERIVED. THE GIVEN ROWS OF THIS SEAT. 20 by the template 'for every input the law returns true; each argument reads behind the call as it read before'; 0 by the template 'total and deterministic' (their statements: YtonopjbccdpbhaaTotals.lean).
  GIVEN WITH THE SEED: the statements are not yours to turn. If you find one false, say at which input.
  Laid BY PROGRAM, IN A SANDBOX (cutbox-rows.mjs): the forced cells as the released guide's own fill.sh prints them over the translation c40eeef5687cef9d… (all of the seat's roots in one cut). By AI agents, Wed Nov 11 2026. No macro, syntax, notation, axiom, sorry.
-/
import Derived.Test.YtonopjbccdpbhaaChecked
import GoSem.Claim
import GoSem.ClaimJoined
import GoSem.ClaimMapViews
import Derived.JoinedTies
import Derived.KernelRfl
namespace Go.Proofs.Ytonopjbccdpbhaa
/- THE CELL 'sum', in the pinned program and in every row, IS THE sha256 OF THE DUMP (.gsa) THAT YtonopjbccdpbhaaProg.lean LOADS. Nothing in Lean hashes anything: it is a label: what it is worth is what the hold of that sum in a sandbox is worth. -/
noncomputable def Try.pinned : Pinned := { name := "ytonopjbccdpbhaa", sum := "c40eeef5687cef9d8b30b09ee201a6638d2ee0544d5e45e45ca9e895687d343d", checked := Try.checked }
namespace Rows
def none {H : Type} : Left H := { results := [], args := [] }

/-- 'laws.FnRings': WHATEVER THE INPUT: true; the input reads as it did. -/
def fnRingsSpec : ChangeSpec := { name := "fnRings", fn := fun _ => fun
  | [d] => { results := [.lit (.bool true)], args := [d] }
  | _ => none }
def fnRingsRow : OpenClaim := { program := "ytonopjbccdpbhaa", sum := "c40eeef5687cef9d8b30b09ee201a6638d2ee0544d5e45e45ca9e895687d343d", func := "loop.example/g01313/laws.FnRings", spec := "fnRings", apart := false }
def FnRingsSaid : Prop := fnRingsRow.holds Try.pinned (OpenSpec.ofChange fnRingsSpec)

/-- ITS FALSE NEIGHBOUR: 'it returns false'. Refute it at one input. -/
def fnRingsWrong : ChangeSpec := { name := "fnRings", fn := fun _ => fun
  | [d] => { results := [.lit (.bool false)], args := [d] }
  | _ => none }
def FnRingsWrongFalsely : Prop := fnRingsRow.holds Try.pinned (OpenSpec.ofChange fnRingsWrong)

/-- 'laws.FnStickelberger': WHATEVER THE INPUT: true; the input reads as it did. -/
def fnStickelbergerSpec : ChangeSpec := { name := "fnStickelberger", fn := fun _ => fun
  | [d] => { results := [.lit (.bool true)], args := [d] }
  | _ => none }
def fnStickelbergerRow : OpenClaim := { program := "ytonopjbccdpbhaa", sum := "c40eeef5687cef9d8b30b09ee201a6638d2ee0544d5e45e45ca9e895687d343d", func := "loop.example/g01313/laws.FnStickelberger", spec := "fnStickelberger", unfollowed := true, recurses := true, apart := false }
def FnStickelbergerSaid : Prop := fnStickelbergerRow.holds Try.pinned (OpenSpec.ofChange fnStickelbergerSpec)

/-- ITS FALSE NEIGHBOUR: 'it returns false'. Refute it at one input. -/
def fnStickelbergerWrong : ChangeSpec := { name := "fnStickelberger", fn := fun _ => fun
  | [d] => { results := [.lit (.bool false)], args := [d] }
  | _ => none }
def FnStickelbergerWrongFalsely : Prop := fnStickelbergerRow.holds Try.pinned (OpenSpec.ofChange fnStickelbergerWrong)

/-- 'laws.FnBernoulli': WHATEVER THE INPUT: true; the input reads as it did. -/
def fnBernoulliSpec : ChangeSpec := { name := "fnBernoulli", fn := fun _ => fun
  | [d] => { results := [.lit (.bool true)], args := [d] }
  | _ => none }
def fnBernoulliRow : OpenClaim := { program := "ytonopjbccdpbhaa", sum := "c40eeef5687cef9d8b30b09ee201a6638d2ee0544d5e45e45ca9e895687d343d", func := "loop.example/g01313/laws.FnBernoulli", spec := "fnBernoulli", unfollowed := true, recurses := true, apart := false }
def FnBernoulliSaid : Prop := fnBernoulliRow.holds Try.pinned (OpenSpec.ofChange fnBernoulliSpec)

/-- ITS FALSE NEIGHBOUR: 'it returns false'. Refute it at one input. -/
def fnBernoulliWrong : ChangeSpec := { name := "fnBernoulli", fn := fun _ => fun
  | [d] => { results := [.lit (.bool false)], args := [d] }
  | _ => none }
def FnBernoulliWrongFalsely : Prop := fnBernoulliRow.holds Try.pinned (OpenSpec.ofChange fnBernoulliWrong)

/-- 'laws.FnExactDivideCubic': WHATEVER THE INPUT: true; the input reads as it did. -/
def fnExactDivideCubicSpec : ChangeSpec := { name := "fnExactDivideCubic", fn := fun _ => fun
  | [d1, d2] => { results := [.lit (.bool true)], args := [d1, d2] }
  | _ => none }
def fnExactDivideCubicRow : OpenClaim := { program := "ytonopjbccdpbhaa", sum := "c40eeef5687cef9d8b30b09ee201a6638d2ee0544d5e45e45ca9e895687d343d", func := "loop.example/g01313/laws.FnExactDivideCubic", spec := "fnExactDivideCubic", unfollowed := true, recurses := true, apart := false }
def FnExactDivideCubicSaid : Prop := fnExactDivideCubicRow.holds Try.pinned (OpenSpec.ofChange fnExactDivideCubicSpec)

/-- ITS FALSE NEIGHBOUR: 'it returns false'. Refute it at one input. -/
def fnExactDivideCubicWrong : ChangeSpec := { name := "fnExactDivideCubic", fn := fun _ => fun
  | [d1, d2] => { results := [.lit (.bool false)], args := [d1, d2] }
  | _ => none }
def FnExactDivideCubicWrongFalsely : Prop := fnExactDivideCubicRow.holds Try.pinned (OpenSpec.ofChange fnExactDivideCubicWrong)

/-- 'laws.FnExactFactorCubic': WHATEVER THE INPUT: true; the input reads as it did. -/
def fnExactFactorCubicSpec : ChangeSpec := { name := "fnExactFactorCubic", fn := fun _ => fun
  | [d] => { results := [.lit (.bool true)], args := [d] }
  | _ => none }
def fnExactFactorCubicRow : OpenClaim := { program := "ytonopjbccdpbhaa", sum := "c40eeef5687cef9d8b30b09ee201a6638d2ee0544d5e45e45ca9e895687d343d", func := "loop.example/g01313/laws.FnExactFactorCubic", spec := "fnExactFactorCubic", unfollowed := true, recurses := true, apart := false }
def FnExactFactorCubicSaid : Prop := fnExactFactorCubicRow.holds Try.pinned (OpenSpec.ofChange fnExactFactorCubicSpec)

/-- ITS FALSE NEIGHBOUR: 'it returns false'. Refute it at one input. -/
def fnExactFactorCubicWrong : ChangeSpec := { name := "fnExactFactorCubic", fn := fun _ => fun
  | [d] => { results := [.lit (.bool false)], args := [d] }
  | _ => none }
def FnExactFactorCubicWrongFalsely : Prop := fnExactFactorCubicRow.holds Try.pinned (OpenSpec.ofChange fnExactFactorCubicWrong)

/-- 'laws.FnExactCountResidues': WHATEVER THE INPUT: true; the input reads as it did. -/
def fnExactCountResiduesSpec : ChangeSpec := { name := "fnExactCountResidues", fn := fun _ => fun
  | [d] => { results := [.lit (.bool true)], args := [d] }
  | _ => none }
def fnExactCountResiduesRow : OpenClaim := { program := "ytonopjbccdpbhaa", sum := "c40eeef5687cef9d8b30b09ee201a6638d2ee0544d5e45e45ca9e895687d343d", func := "loop.example/g01313/laws.FnExactCountResidues", spec := "fnExactCountResidues", unfollowed := true, recurses := true, apart := false }
def FnExactCountResiduesSaid : Prop := fnExactCountResiduesRow.holds Try.pinned (OpenSpec.ofChange fnExactCountResiduesSpec)

/-- ITS FALSE NEIGHBOUR: 'it returns false'. Refute it at one input. -/
def fnExactCountResiduesWrong : ChangeSpec := { name := "fnExactCountResidues", fn := fun _ => fun
  | [d] => { results := [.lit (.bool false)], args := [d] }
  | _ => none }
def FnExactCountResiduesWrongFalsely : Prop := fnExactCountResiduesRow.holds Try.pinned (OpenSpec.ofChange fnExactCountResiduesWrong)

/-- 'laws.FnExactPrimesOfNorm': WHATEVER THE INPUT: true; the input reads as it did. -/
def fnExactPrimesOfNormSpec : ChangeSpec := { name := "fnExactPrimesOfNorm", fn := fun _ => fun
  | [d] => { results := [.lit (.bool true)], args := [d] }
  | _ => none }
def fnExactPrimesOfNormRow : OpenClaim := { program := "ytonopjbccdpbhaa", sum := "c40eeef5687cef9d8b30b09ee201a6638d2ee0544d5e45e45ca9e895687d343d", func := "loop.example/g01313/laws.FnExactPrimesOfNorm", spec := "fnExactPrimesOfNorm", unfollowed := true, recurses := true, apart := false }
def FnExactPrimesOfNormSaid : Prop := fnExactPrimesOfNormRow.holds Try.pinned (OpenSpec.ofChange fnExactPrimesOfNormSpec)

/-- ITS FALSE NEIGHBOUR: 'it returns false'. Refute it at one input. -/
def fnExactPrimesOfNormWrong : ChangeSpec := { name := "fnExactPrimesOfNorm", fn := fun _ => fun
  | [d] => { results := [.lit (.bool false)], args := [d] }
  | _ => none }
def FnExactPrimesOfNormWrongFalsely : Prop := fnExactPrimesOfNormRow.holds Try.pinned (OpenSpec.ofChange fnExactPrimesOfNormWrong)

/-- 'laws.FnExactResiduesOf': WHATEVER THE INPUT: true; the input reads as it did. -/
def fnExactResiduesOfSpec : ChangeSpec := { name := "fnExactResiduesOf", fn := fun _ => fun
  | [d] => { results := [.lit (.bool true)], args := [d] }
  | _ => none }
def fnExactResiduesOfRow : OpenClaim := { program := "ytonopjbccdpbhaa", sum := "c40eeef5687cef9d8b30b09ee201a6638d2ee0544d5e45e45ca9e895687d343d", func := "loop.example/g01313/laws.FnExactResiduesOf", spec := "fnExactResiduesOf", apart := false }
def FnExactResiduesOfSaid : Prop := fnExactResiduesOfRow.holds Try.pinned (OpenSpec.ofChange fnExactResiduesOfSpec)

/-- ITS FALSE NEIGHBOUR: 'it returns false'. Refute it at one input. -/
def fnExactResiduesOfWrong : ChangeSpec := { name := "fnExactResiduesOf", fn := fun _ => fun
  | [d] => { results := [.lit (.bool false)], args := [d] }
  | _ => none }
def FnExactResiduesOfWrongFalsely : Prop := fnExactResiduesOfRow.holds Try.pinned (OpenSpec.ofChange fnExactResiduesOfWrong)

/-- 'laws.FnExactIsRing': WHATEVER THE INPUT: true; the input reads as it did. -/
def fnExactIsRingSpec : ChangeSpec := { name := "fnExactIsRing", fn := fun _ => fun
  | [d] => { results := [.lit (.bool true)], args := [d] }
  | _ => none }
def fnExactIsRingRow : OpenClaim := { program := "ytonopjbccdpbhaa", sum := "c40eeef5687cef9d8b30b09ee201a6638d2ee0544d5e45e45ca9e895687d343d", func := "loop.example/g01313/laws.FnExactIsRing", spec := "fnExactIsRing", apart := false }
def FnExactIsRingSaid : Prop := fnExactIsRingRow.holds Try.pinned (OpenSpec.ofChange fnExactIsRingSpec)

/-- ITS FALSE NEIGHBOUR: 'it returns false'. Refute it at one input. -/
def fnExactIsRingWrong : ChangeSpec := { name := "fnExactIsRing", fn := fun _ => fun
  | [d] => { results := [.lit (.bool false)], args := [d] }
  | _ => none }
def FnExactIsRingWrongFalsely : Prop := fnExactIsRingRow.holds Try.pinned (OpenSpec.ofChange fnExactIsRingWrong)

/-- 'laws.FnExactAddRings': WHATEVER THE INPUT: true; the input reads as it did. -/
def fnExactAddRingsSpec : ChangeSpec := { name := "fnExactAddRings", fn := fun _ => fun
  | [d1, d2, d3] => { results := [.lit (.bool true)], args := [d1, d2, d3] }
  | _ => none }
def fnExactAddRingsRow : OpenClaim := { program := "ytonopjbccdpbhaa", sum := "c40eeef5687cef9d8b30b09ee201a6638d2ee0544d5e45e45ca9e895687d343d", func := "loop.example/g01313/laws.FnExactAddRings", spec := "fnExactAddRings", apart := false }
def FnExactAddRingsSaid : Prop := fnExactAddRingsRow.holds Try.pinned (OpenSpec.ofChange fnExactAddRingsSpec)

/-- ITS FALSE NEIGHBOUR: 'it returns false'. Refute it at one input. -/
def fnExactAddRingsWrong : ChangeSpec := { name := "fnExactAddRings", fn := fun _ => fun
  | [d1, d2, d3] => { results := [.lit (.bool false)], args := [d1, d2, d3] }
  | _ => none }
def FnExactAddRingsWrongFalsely : Prop := fnExactAddRingsRow.holds Try.pinned (OpenSpec.ofChange fnExactAddRingsWrong)

/-- 'laws.FnExactMultiplyRings': WHATEVER THE INPUT: true; the input reads as it did. -/
def fnExactMultiplyRingsSpec : ChangeSpec := { name := "fnExactMultiplyRings", fn := fun _ => fun
  | [d1, d2] => { results := [.lit (.bool true)], args := [d1, d2] }
  | _ => none }
def fnExactMultiplyRingsRow : OpenClaim := { program := "ytonopjbccdpbhaa", sum := "c40eeef5687cef9d8b30b09ee201a6638d2ee0544d5e45e45ca9e895687d343d", func := "loop.example/g01313/laws.FnExactMultiplyRings", spec := "fnExactMultiplyRings", apart := false }
def FnExactMultiplyRingsSaid : Prop := fnExactMultiplyRingsRow.holds Try.pinned (OpenSpec.ofChange fnExactMultiplyRingsSpec)

/-- ITS FALSE NEIGHBOUR: 'it returns false'. Refute it at one input. -/
def fnExactMultiplyRingsWrong : ChangeSpec := { name := "fnExactMultiplyRings", fn := fun _ => fun
  | [d1, d2] => { results := [.lit (.bool false)], args := [d1, d2] }
  | _ => none }
def FnExactMultiplyRingsWrongFalsely : Prop := fnExactMultiplyRingsRow.holds Try.pinned (OpenSpec.ofChange fnExactMultiplyRingsWrong)

/-- 'laws.FnExactTurnRing': WHATEVER THE INPUT: true; the input reads as it did. -/
def fnExactTurnRingSpec : ChangeSpec := { name := "fnExactTurnRing", fn := fun _ => fun
  | [d] => { results := [.lit (.bool true)], args := [d] }
  | _ => none }
def fnExactTurnRingRow : OpenClaim := { program := "ytonopjbccdpbhaa", sum := "c40eeef5687cef9d8b30b09ee201a6638d2ee0544d5e45e45ca9e895687d343d", func := "loop.example/g01313/laws.FnExactTurnRing", spec := "fnExactTurnRing", apart := false }
def FnExactTurnRingSaid : Prop := fnExactTurnRingRow.holds Try.pinned (OpenSpec.ofChange fnExactTurnRingSpec)

/-- ITS FALSE NEIGHBOUR: 'it returns false'. Refute it at one input. -/
def fnExactTurnRingWrong : ChangeSpec := { name := "fnExactTurnRing", fn := fun _ => fun
  | [d] => { results := [.lit (.bool false)], args := [d] }
  | _ => none }
def FnExactTurnRingWrongFalsely : Prop := fnExactTurnRingRow.holds Try.pinned (OpenSpec.ofChange fnExactTurnRingWrong)

/-- 'laws.FnExactTotalOfRing': WHATEVER THE INPUT: true; the input reads as it did. -/
def fnExactTotalOfRingSpec : ChangeSpec := { name := "fnExactTotalOfRing", fn := fun _ => fun
  | [d] => { results := [.lit (.bool true)], args := [d] }
  | _ => none }
def fnExactTotalOfRingRow : OpenClaim := { program := "ytonopjbccdpbhaa", sum := "c40eeef5687cef9d8b30b09ee201a6638d2ee0544d5e45e45ca9e895687d343d", func := "loop.example/g01313/laws.FnExactTotalOfRing", spec := "fnExactTotalOfRing", apart := false }
def FnExactTotalOfRingSaid : Prop := fnExactTotalOfRingRow.holds Try.pinned (OpenSpec.ofChange fnExactTotalOfRingSpec)

/-- ITS FALSE NEIGHBOUR: 'it returns false'. Refute it at one input. -/
def fnExactTotalOfRingWrong : ChangeSpec := { name := "fnExactTotalOfRing", fn := fun _ => fun
  | [d] => { results := [.lit (.bool false)], args := [d] }
  | _ => none }
def FnExactTotalOfRingWrongFalsely : Prop := fnExactTotalOfRingRow.holds Try.pinned (OpenSpec.ofChange fnExactTotalOfRingWrong)

/-- 'laws.FnExactStickelbergerOf': WHATEVER THE INPUT: true; the input reads as it did. -/
def fnExactStickelbergerOfSpec : ChangeSpec := { name := "fnExactStickelbergerOf", fn := fun _ => fun
  | [d] => { results := [.lit (.bool true)], args := [d] }
  | _ => none }
def fnExactStickelbergerOfRow : OpenClaim := { program := "ytonopjbccdpbhaa", sum := "c40eeef5687cef9d8b30b09ee201a6638d2ee0544d5e45e45ca9e895687d343d", func := "loop.example/g01313/laws.FnExactStickelbergerOf", spec := "fnExactStickelbergerOf", apart := false }
def FnExactStickelbergerOfSaid : Prop := fnExactStickelbergerOfRow.holds Try.pinned (OpenSpec.ofChange fnExactStickelbergerOfSpec)

/-- ITS FALSE NEIGHBOUR: 'it returns false'. Refute it at one input. -/
def fnExactStickelbergerOfWrong : ChangeSpec := { name := "fnExactStickelbergerOf", fn := fun _ => fun
  | [d] => { results := [.lit (.bool false)], args := [d] }
  | _ => none }
def FnExactStickelbergerOfWrongFalsely : Prop := fnExactStickelbergerOfRow.holds Try.pinned (OpenSpec.ofChange fnExactStickelbergerOfWrong)

/-- 'laws.FnExactReducedStickelberger': WHATEVER THE INPUT: true; the input reads as it did. -/
def fnExactReducedStickelbergerSpec : ChangeSpec := { name := "fnExactReducedStickelberger", fn := fun _ => fun
  | [d1, d2] => { results := [.lit (.bool true)], args := [d1, d2] }
  | _ => none }
def fnExactReducedStickelbergerRow : OpenClaim := { program := "ytonopjbccdpbhaa", sum := "c40eeef5687cef9d8b30b09ee201a6638d2ee0544d5e45e45ca9e895687d343d", func := "loop.example/g01313/laws.FnExactReducedStickelberger", spec := "fnExactReducedStickelberger", unfollowed := true, recurses := true, apart := false }
def FnExactReducedStickelbergerSaid : Prop := fnExactReducedStickelbergerRow.holds Try.pinned (OpenSpec.ofChange fnExactReducedStickelbergerSpec)

/-- ITS FALSE NEIGHBOUR: 'it returns false'. Refute it at one input. -/
def fnExactReducedStickelbergerWrong : ChangeSpec := { name := "fnExactReducedStickelberger", fn := fun _ => fun
  | [d1, d2] => { results := [.lit (.bool false)], args := [d1, d2] }
  | _ => none }
def FnExactReducedStickelbergerWrongFalsely : Prop := fnExactReducedStickelbergerRow.holds Try.pinned (OpenSpec.ofChange fnExactReducedStickelbergerWrong)

/-- 'laws.FnExactActOnCyclo': WHATEVER THE INPUT: true; the input reads as it did. -/
def fnExactActOnCycloSpec : ChangeSpec := { name := "fnExactActOnCyclo", fn := fun _ => fun
  | [d1, d2] => { results := [.lit (.bool true)], args := [d1, d2] }
  | _ => none }
def fnExactActOnCycloRow : OpenClaim := { program := "ytonopjbccdpbhaa", sum := "c40eeef5687cef9d8b30b09ee201a6638d2ee0544d5e45e45ca9e895687d343d", func := "loop.example/g01313/laws.FnExactActOnCyclo", spec := "fnExactActOnCyclo", recurses := true, apart := false }
def FnExactActOnCycloSaid : Prop := fnExactActOnCycloRow.holds Try.pinned (OpenSpec.ofChange fnExactActOnCycloSpec)

/-- ITS FALSE NEIGHBOUR: 'it returns false'. Refute it at one input. -/
def fnExactActOnCycloWrong : ChangeSpec := { name := "fnExactActOnCyclo", fn := fun _ => fun
  | [d1, d2] => { results := [.lit (.bool false)], args := [d1, d2] }
  | _ => none }
def FnExactActOnCycloWrongFalsely : Prop := fnExactActOnCycloRow.holds Try.pinned (OpenSpec.ofChange fnExactActOnCycloWrong)

/-- 'laws.FnExactBernoulliOf': WHATEVER THE INPUT: true; the input reads as it did. -/
def fnExactBernoulliOfSpec : ChangeSpec := { name := "fnExactBernoulliOf", fn := fun _ => fun
  | [d] => { results := [.lit (.bool true)], args := [d] }
  | _ => none }
def fnExactBernoulliOfRow : OpenClaim := { program := "ytonopjbccdpbhaa", sum := "c40eeef5687cef9d8b30b09ee201a6638d2ee0544d5e45e45ca9e895687d343d", func := "loop.example/g01313/laws.FnExactBernoulliOf", spec := "fnExactBernoulliOf", unfollowed := true, recurses := true, apart := false }
def FnExactBernoulliOfSaid : Prop := fnExactBernoulliOfRow.holds Try.pinned (OpenSpec.ofChange fnExactBernoulliOfSpec)

/-- ITS FALSE NEIGHBOUR: 'it returns false'. Refute it at one input. -/
def fnExactBernoulliOfWrong : ChangeSpec := { name := "fnExactBernoulliOf", fn := fun _ => fun
  | [d] => { results := [.lit (.bool false)], args := [d] }
  | _ => none }
def FnExactBernoulliOfWrongFalsely : Prop := fnExactBernoulliOfRow.holds Try.pinned (OpenSpec.ofChange fnExactBernoulliOfWrong)

/-- 'laws.FnExactBernoulliModulo': WHATEVER THE INPUT: true; the input reads as it did. -/
def fnExactBernoulliModuloSpec : ChangeSpec := { name := "fnExactBernoulliModulo", fn := fun _ => fun
  | [d1, d2] => { results := [.lit (.bool true)], args := [d1, d2] }
  | _ => none }
def fnExactBernoulliModuloRow : OpenClaim := { program := "ytonopjbccdpbhaa", sum := "c40eeef5687cef9d8b30b09ee201a6638d2ee0544d5e45e45ca9e895687d343d", func := "loop.example/g01313/laws.FnExactBernoulliModulo", spec := "fnExactBernoulliModulo", unfollowed := true, recurses := true, apart := false }
def FnExactBernoulliModuloSaid : Prop := fnExactBernoulliModuloRow.holds Try.pinned (OpenSpec.ofChange fnExactBernoulliModuloSpec)

/-- ITS FALSE NEIGHBOUR: 'it returns false'. Refute it at one input. -/
def fnExactBernoulliModuloWrong : ChangeSpec := { name := "fnExactBernoulliModulo", fn := fun _ => fun
  | [d1, d2] => { results := [.lit (.bool false)], args := [d1, d2] }
  | _ => none }
def FnExactBernoulliModuloWrongFalsely : Prop := fnExactBernoulliModuloRow.holds Try.pinned (OpenSpec.ofChange fnExactBernoulliModuloWrong)

/-- 'laws.FnExactIrregularOf': WHATEVER THE INPUT: true; the input reads as it did. -/
def fnExactIrregularOfSpec : ChangeSpec := { name := "fnExactIrregularOf", fn := fun _ => fun
  | [d] => { results := [.lit (.bool true)], args := [d] }
  | _ => none }
def fnExactIrregularOfRow : OpenClaim := { program := "ytonopjbccdpbhaa", sum := "c40eeef5687cef9d8b30b09ee201a6638d2ee0544d5e45e45ca9e895687d343d", func := "loop.example/g01313/laws.FnExactIrregularOf", spec := "fnExactIrregularOf", unfollowed := true, recurses := true, apart := false }
def FnExactIrregularOfSaid : Prop := fnExactIrregularOfRow.holds Try.pinned (OpenSpec.ofChange fnExactIrregularOfSpec)

/-- ITS FALSE NEIGHBOUR: 'it returns false'. Refute it at one input. -/
def fnExactIrregularOfWrong : ChangeSpec := { name := "fnExactIrregularOf", fn := fun _ => fun
  | [d] => { results := [.lit (.bool false)], args := [d] }
  | _ => none }
def FnExactIrregularOfWrongFalsely : Prop := fnExactIrregularOfRow.holds Try.pinned (OpenSpec.ofChange fnExactIrregularOfWrong)

/-- 'laws.FnExactCyclotomicUnit': WHATEVER THE INPUT: true; the input reads as it did. -/
def fnExactCyclotomicUnitSpec : ChangeSpec := { name := "fnExactCyclotomicUnit", fn := fun _ => fun
  | [d1, d2] => { results := [.lit (.bool true)], args := [d1, d2] }
  | _ => none }
def fnExactCyclotomicUnitRow : OpenClaim := { program := "ytonopjbccdpbhaa", sum := "c40eeef5687cef9d8b30b09ee201a6638d2ee0544d5e45e45ca9e895687d343d", func := "loop.example/g01313/laws.FnExactCyclotomicUnit", spec := "fnExactCyclotomicUnit", recurses := true, apart := false }
def FnExactCyclotomicUnitSaid : Prop := fnExactCyclotomicUnitRow.holds Try.pinned (OpenSpec.ofChange fnExactCyclotomicUnitSpec)

/-- ITS FALSE NEIGHBOUR: 'it returns false'. Refute it at one input. -/
def fnExactCyclotomicUnitWrong : ChangeSpec := { name := "fnExactCyclotomicUnit", fn := fun _ => fun
  | [d1, d2] => { results := [.lit (.bool false)], args := [d1, d2] }
  | _ => none }
def FnExactCyclotomicUnitWrongFalsely : Prop := fnExactCyclotomicUnitRow.holds Try.pinned (OpenSpec.ofChange fnExactCyclotomicUnitWrong)

/- THE SECOND FORM. 'bulk': how many values and letters a reading holds, each counted each time it is reached (what is shared counts as often as it is met; a slice's spare places count too). A statement '..UptoSaid' is the law's where the arguments, and the package variables that the reading takes, are together of bulk at most 1048576: NARROWER than '..Said'. Prove '..Said' where nothing that the law and all that it calls make is longer than what came in: it says more and counts as full. Else prove '..UptoSaid'. A law counts once. -/
mutual
def uptoBulk {H : Type} : DataW H → Nat
  | .lit (.string bytes) => bytes.length + 1
  | .lit _ => 1
  | .nil => 1
  | .ptr d => uptoBulk d + 1
  | .slice elems spare => uptoBulkAll elems + uptoBulkAll spare + 1
  | .agg parts => uptoBulkAll parts + 1
  | .iface _ d => uptoBulk d + 1
  | .map entries => uptoBulkEntries entries + 1
  | .held _ => 1
def uptoBulkAll {H : Type} : List (DataW H) → Nat
  | [] => 0
  | d :: r => uptoBulk d + uptoBulkAll r
def uptoBulkEntries {H : Type} : List (Lit × DataW H) → Nat
  | [] => 0
  | x :: r => uptoBulkEntry x + uptoBulkEntries r
def uptoBulkEntry {H : Type} : Lit × DataW H → Nat
  | (.string bytes, d) => bytes.length + uptoBulk d + 1
  | (_, d) => uptoBulk d + 1
 end
def uptoSmall : (H : Type) → List (DataW H) → Bool := fun _ ds => decide (uptoBulkAll ds ≤ 1048576)
def OpenSpec.upto (s : _root_.Go.ChangeSpec) : _root_.Go.OpenSpec := { _root_.Go.OpenSpec.ofChange s with cond := some uptoSmall }

/-- 'laws.FnRings', WHERE WHAT IT READS IS OF BULK AT MOST 1048576: true; the input reads as it did. -/
def fnRingsUptoRow : OpenClaim := { program := "ytonopjbccdpbhaa", sum := "c40eeef5687cef9d8b30b09ee201a6638d2ee0544d5e45e45ca9e895687d343d", func := "loop.example/g01313/laws.FnRings", spec := "fnRings", apart := false, narrowed := true }
def FnRingsUptoSaid : Prop := fnRingsUptoRow.holds Try.pinned (OpenSpec.upto fnRingsSpec)

/-- 'laws.FnStickelberger', WHERE WHAT IT READS IS OF BULK AT MOST 1048576: true; the input reads as it did. -/
def fnStickelbergerUptoRow : OpenClaim := { program := "ytonopjbccdpbhaa", sum := "c40eeef5687cef9d8b30b09ee201a6638d2ee0544d5e45e45ca9e895687d343d", func := "loop.example/g01313/laws.FnStickelberger", spec := "fnStickelberger", unfollowed := true, recurses := true, apart := false, narrowed := true }
def FnStickelbergerUptoSaid : Prop := fnStickelbergerUptoRow.holds Try.pinned (OpenSpec.upto fnStickelbergerSpec)

/-- 'laws.FnBernoulli', WHERE WHAT IT READS IS OF BULK AT MOST 1048576: true; the input reads as it did. -/
def fnBernoulliUptoRow : OpenClaim := { program := "ytonopjbccdpbhaa", sum := "c40eeef5687cef9d8b30b09ee201a6638d2ee0544d5e45e45ca9e895687d343d", func := "loop.example/g01313/laws.FnBernoulli", spec := "fnBernoulli", unfollowed := true, recurses := true, apart := false, narrowed := true }
def FnBernoulliUptoSaid : Prop := fnBernoulliUptoRow.holds Try.pinned (OpenSpec.upto fnBernoulliSpec)

/-- 'laws.FnExactDivideCubic', WHERE WHAT IT READS IS OF BULK AT MOST 1048576: true; the input reads as it did. -/
def fnExactDivideCubicUptoRow : OpenClaim := { program := "ytonopjbccdpbhaa", sum := "c40eeef5687cef9d8b30b09ee201a6638d2ee0544d5e45e45ca9e895687d343d", func := "loop.example/g01313/laws.FnExactDivideCubic", spec := "fnExactDivideCubic", unfollowed := true, recurses := true, apart := false, narrowed := true }
def FnExactDivideCubicUptoSaid : Prop := fnExactDivideCubicUptoRow.holds Try.pinned (OpenSpec.upto fnExactDivideCubicSpec)

/-- 'laws.FnExactFactorCubic', WHERE WHAT IT READS IS OF BULK AT MOST 1048576: true; the input reads as it did. -/
def fnExactFactorCubicUptoRow : OpenClaim := { program := "ytonopjbccdpbhaa", sum := "c40eeef5687cef9d8b30b09ee201a6638d2ee0544d5e45e45ca9e895687d343d", func := "loop.example/g01313/laws.FnExactFactorCubic", spec := "fnExactFactorCubic", unfollowed := true, recurses := true, apart := false, narrowed := true }
def FnExactFactorCubicUptoSaid : Prop := fnExactFactorCubicUptoRow.holds Try.pinned (OpenSpec.upto fnExactFactorCubicSpec)

/-- 'laws.FnExactCountResidues', WHERE WHAT IT READS IS OF BULK AT MOST 1048576: true; the input reads as it did. -/
def fnExactCountResiduesUptoRow : OpenClaim := { program := "ytonopjbccdpbhaa", sum := "c40eeef5687cef9d8b30b09ee201a6638d2ee0544d5e45e45ca9e895687d343d", func := "loop.example/g01313/laws.FnExactCountResidues", spec := "fnExactCountResidues", unfollowed := true, recurses := true, apart := false, narrowed := true }
def FnExactCountResiduesUptoSaid : Prop := fnExactCountResiduesUptoRow.holds Try.pinned (OpenSpec.upto fnExactCountResiduesSpec)

/-- 'laws.FnExactPrimesOfNorm', WHERE WHAT IT READS IS OF BULK AT MOST 1048576: true; the input reads as it did. -/
def fnExactPrimesOfNormUptoRow : OpenClaim := { program := "ytonopjbccdpbhaa", sum := "c40eeef5687cef9d8b30b09ee201a6638d2ee0544d5e45e45ca9e895687d343d", func := "loop.example/g01313/laws.FnExactPrimesOfNorm", spec := "fnExactPrimesOfNorm", unfollowed := true, recurses := true, apart := false, narrowed := true }
def FnExactPrimesOfNormUptoSaid : Prop := fnExactPrimesOfNormUptoRow.holds Try.pinned (OpenSpec.upto fnExactPrimesOfNormSpec)

/-- 'laws.FnExactResiduesOf', WHERE WHAT IT READS IS OF BULK AT MOST 1048576: true; the input reads as it did. -/
def fnExactResiduesOfUptoRow : OpenClaim := { program := "ytonopjbccdpbhaa", sum := "c40eeef5687cef9d8b30b09ee201a6638d2ee0544d5e45e45ca9e895687d343d", func := "loop.example/g01313/laws.FnExactResiduesOf", spec := "fnExactResiduesOf", apart := false, narrowed := true }
def FnExactResiduesOfUptoSaid : Prop := fnExactResiduesOfUptoRow.holds Try.pinned (OpenSpec.upto fnExactResiduesOfSpec)

/-- 'laws.FnExactIsRing', WHERE WHAT IT READS IS OF BULK AT MOST 1048576: true; the input reads as it did. -/
def fnExactIsRingUptoRow : OpenClaim := { program := "ytonopjbccdpbhaa", sum := "c40eeef5687cef9d8b30b09ee201a6638d2ee0544d5e45e45ca9e895687d343d", func := "loop.example/g01313/laws.FnExactIsRing", spec := "fnExactIsRing", apart := false, narrowed := true }
def FnExactIsRingUptoSaid : Prop := fnExactIsRingUptoRow.holds Try.pinned (OpenSpec.upto fnExactIsRingSpec)

/-- 'laws.FnExactAddRings', WHERE WHAT IT READS IS OF BULK AT MOST 1048576: true; the input reads as it did. -/
def fnExactAddRingsUptoRow : OpenClaim := { program := "ytonopjbccdpbhaa", sum := "c40eeef5687cef9d8b30b09ee201a6638d2ee0544d5e45e45ca9e895687d343d", func := "loop.example/g01313/laws.FnExactAddRings", spec := "fnExactAddRings", apart := false, narrowed := true }
def FnExactAddRingsUptoSaid : Prop := fnExactAddRingsUptoRow.holds Try.pinned (OpenSpec.upto fnExactAddRingsSpec)

/-- 'laws.FnExactMultiplyRings', WHERE WHAT IT READS IS OF BULK AT MOST 1048576: true; the input reads as it did. -/
def fnExactMultiplyRingsUptoRow : OpenClaim := { program := "ytonopjbccdpbhaa", sum := "c40eeef5687cef9d8b30b09ee201a6638d2ee0544d5e45e45ca9e895687d343d", func := "loop.example/g01313/laws.FnExactMultiplyRings", spec := "fnExactMultiplyRings", apart := false, narrowed := true }
def FnExactMultiplyRingsUptoSaid : Prop := fnExactMultiplyRingsUptoRow.holds Try.pinned (OpenSpec.upto fnExactMultiplyRingsSpec)

/-- 'laws.FnExactTurnRing', WHERE WHAT IT READS IS OF BULK AT MOST 1048576: true; the input reads as it did. -/
def fnExactTurnRingUptoRow : OpenClaim := { program := "ytonopjbccdpbhaa", sum := "c40eeef5687cef9d8b30b09ee201a6638d2ee0544d5e45e45ca9e895687d343d", func := "loop.example/g01313/laws.FnExactTurnRing", spec := "fnExactTurnRing", apart := false, narrowed := true }
def FnExactTurnRingUptoSaid : Prop := fnExactTurnRingUptoRow.holds Try.pinned (OpenSpec.upto fnExactTurnRingSpec)

/-- 'laws.FnExactTotalOfRing', WHERE WHAT IT READS IS OF BULK AT MOST 1048576: true; the input reads as it did. -/
def fnExactTotalOfRingUptoRow : OpenClaim := { program := "ytonopjbccdpbhaa", sum := "c40eeef5687cef9d8b30b09ee201a6638d2ee0544d5e45e45ca9e895687d343d", func := "loop.example/g01313/laws.FnExactTotalOfRing", spec := "fnExactTotalOfRing", apart := false, narrowed := true }
def FnExactTotalOfRingUptoSaid : Prop := fnExactTotalOfRingUptoRow.holds Try.pinned (OpenSpec.upto fnExactTotalOfRingSpec)

/-- 'laws.FnExactStickelbergerOf', WHERE WHAT IT READS IS OF BULK AT MOST 1048576: true; the input reads as it did. -/
def fnExactStickelbergerOfUptoRow : OpenClaim := { program := "ytonopjbccdpbhaa", sum := "c40eeef5687cef9d8b30b09ee201a6638d2ee0544d5e45e45ca9e895687d343d", func := "loop.example/g01313/laws.FnExactStickelbergerOf", spec := "fnExactStickelbergerOf", apart := false, narrowed := true }
def FnExactStickelbergerOfUptoSaid : Prop := fnExactStickelbergerOfUptoRow.holds Try.pinned (OpenSpec.upto fnExactStickelbergerOfSpec)

/-- 'laws.FnExactReducedStickelberger', WHERE WHAT IT READS IS OF BULK AT MOST 1048576: true; the input reads as it did. -/
def fnExactReducedStickelbergerUptoRow : OpenClaim := { program := "ytonopjbccdpbhaa", sum := "c40eeef5687cef9d8b30b09ee201a6638d2ee0544d5e45e45ca9e895687d343d", func := "loop.example/g01313/laws.FnExactReducedStickelberger", spec := "fnExactReducedStickelberger", unfollowed := true, recurses := true, apart := false, narrowed := true }
def FnExactReducedStickelbergerUptoSaid : Prop := fnExactReducedStickelbergerUptoRow.holds Try.pinned (OpenSpec.upto fnExactReducedStickelbergerSpec)

/-- 'laws.FnExactActOnCyclo', WHERE WHAT IT READS IS OF BULK AT MOST 1048576: true; the input reads as it did. -/
def fnExactActOnCycloUptoRow : OpenClaim := { program := "ytonopjbccdpbhaa", sum := "c40eeef5687cef9d8b30b09ee201a6638d2ee0544d5e45e45ca9e895687d343d", func := "loop.example/g01313/laws.FnExactActOnCyclo", spec := "fnExactActOnCyclo", recurses := true, apart := false, narrowed := true }
def FnExactActOnCycloUptoSaid : Prop := fnExactActOnCycloUptoRow.holds Try.pinned (OpenSpec.upto fnExactActOnCycloSpec)

/-- 'laws.FnExactBernoulliOf', WHERE WHAT IT READS IS OF BULK AT MOST 1048576: true; the input reads as it did. -/
def fnExactBernoulliOfUptoRow : OpenClaim := { program := "ytonopjbccdpbhaa", sum := "c40eeef5687cef9d8b30b09ee201a6638d2ee0544d5e45e45ca9e895687d343d", func := "loop.example/g01313/laws.FnExactBernoulliOf", spec := "fnExactBernoulliOf", unfollowed := true, recurses := true, apart := false, narrowed := true }
def FnExactBernoulliOfUptoSaid : Prop := fnExactBernoulliOfUptoRow.holds Try.pinned (OpenSpec.upto fnExactBernoulliOfSpec)

/-- 'laws.FnExactBernoulliModulo', WHERE WHAT IT READS IS OF BULK AT MOST 1048576: true; the input reads as it did. -/
def fnExactBernoulliModuloUptoRow : OpenClaim := { program := "ytonopjbccdpbhaa", sum := "c40eeef5687cef9d8b30b09ee201a6638d2ee0544d5e45e45ca9e895687d343d", func := "loop.example/g01313/laws.FnExactBernoulliModulo", spec := "fnExactBernoulliModulo", unfollowed := true, recurses := true, apart := false, narrowed := true }
def FnExactBernoulliModuloUptoSaid : Prop := fnExactBernoulliModuloUptoRow.holds Try.pinned (OpenSpec.upto fnExactBernoulliModuloSpec)

/-- 'laws.FnExactIrregularOf', WHERE WHAT IT READS IS OF BULK AT MOST 1048576: true; the input reads as it did. -/
def fnExactIrregularOfUptoRow : OpenClaim := { program := "ytonopjbccdpbhaa", sum := "c40eeef5687cef9d8b30b09ee201a6638d2ee0544d5e45e45ca9e895687d343d", func := "loop.example/g01313/laws.FnExactIrregularOf", spec := "fnExactIrregularOf", unfollowed := true, recurses := true, apart := false, narrowed := true }
def FnExactIrregularOfUptoSaid : Prop := fnExactIrregularOfUptoRow.holds Try.pinned (OpenSpec.upto fnExactIrregularOfSpec)

/-- 'laws.FnExactCyclotomicUnit', WHERE WHAT IT READS IS OF BULK AT MOST 1048576: true; the input reads as it did. -/
def fnExactCyclotomicUnitUptoRow : OpenClaim := { program := "ytonopjbccdpbhaa", sum := "c40eeef5687cef9d8b30b09ee201a6638d2ee0544d5e45e45ca9e895687d343d", func := "loop.example/g01313/laws.FnExactCyclotomicUnit", spec := "fnExactCyclotomicUnit", recurses := true, apart := false, narrowed := true }
def FnExactCyclotomicUnitUptoSaid : Prop := fnExactCyclotomicUnitUptoRow.holds Try.pinned (OpenSpec.upto fnExactCyclotomicUnitSpec)

end Rows
end Go.Proofs.Ytonopjbccdpbhaa
