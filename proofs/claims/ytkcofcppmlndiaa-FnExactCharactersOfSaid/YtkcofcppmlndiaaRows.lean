/-
  No cell of these rows narrows 'for every input' (looked for: loops, veiled, ifaces, maps, wideKeys, modest, calm, conditions, laid).
  DERIVED. THE GIVEN ROWS OF THIS SEAT. 19 by the template 'for every input the law returns true; each argument reads behind the call as it read before'; 0 by the template 'total and deterministic' (their statements: YtkcofcppmlndiaaTotals.lean).
  GIVEN WITH THE SEED: the statements are not yours to turn. If you find one false, say at which input.
  Laid BY PROGRAM, IN A SANDBOX (cutbox-rows.mjs): the forced cells as the released guide's own fill.sh prints them over the translation 3d0807ac6fda32e7… (all of the seat's roots in one cut). By AI agents, Wed Nov 11 2026. No macro, syntax, notation, axiom, sorry.
-/
import Derived.Test.YtkcofcppmlndiaaChecked
import GoSem.Claim
import GoSem.ClaimJoined
import GoSem.ClaimMapViews
import Derived.JoinedTies
import Derived.KernelRfl
namespace Go.Proofs.Ytkcofcppmlndiaa
/- THE CELL 'sum', in the pinned program and in every row, IS THE sha256 OF THE DUMP (.gsa) THAT YtkcofcppmlndiaaProg.lean LOADS. Nothing in Lean hashes anything: it is a label: what it is worth is what the hold of that sum in a sandbox is worth. -/
noncomputable def Try.pinned : Pinned := { name := "ytkcofcppmlndiaa", sum := "3d0807ac6fda32e7326106224c102f59ac44f6c36337242bec3a55724f00ebbd", checked := Try.checked }
namespace Rows
def none {H : Type} : Left H := { results := [], args := [] }

/-- 'laws.FnCharacters': WHATEVER THE INPUT: true; the input reads as it did. -/
def fnCharactersSpec : ChangeSpec := { name := "fnCharacters", fn := fun _ => fun
  | [d] => { results := [.lit (.bool true)], args := [d] }
  | _ => none }
def fnCharactersRow : OpenClaim := { program := "ytkcofcppmlndiaa", sum := "3d0807ac6fda32e7326106224c102f59ac44f6c36337242bec3a55724f00ebbd", func := "loop.example/g01313/laws.FnCharacters", spec := "fnCharacters", unfollowed := true, recurses := true, plainKeys := false, apart := false }
def FnCharactersSaid : Prop := fnCharactersRow.holds Try.pinned (OpenSpec.ofChange fnCharactersSpec)

/-- ITS FALSE NEIGHBOUR: 'it returns false'. Refute it at one input. -/
def fnCharactersWrong : ChangeSpec := { name := "fnCharacters", fn := fun _ => fun
  | [d] => { results := [.lit (.bool false)], args := [d] }
  | _ => none }
def FnCharactersWrongFalsely : Prop := fnCharactersRow.holds Try.pinned (OpenSpec.ofChange fnCharactersWrong)

/-- 'laws.FnCharacterSums': WHATEVER THE INPUT: true; the input reads as it did. -/
def fnCharacterSumsSpec : ChangeSpec := { name := "fnCharacterSums", fn := fun _ => fun
  | [d] => { results := [.lit (.bool true)], args := [d] }
  | _ => none }
def fnCharacterSumsRow : OpenClaim := { program := "ytkcofcppmlndiaa", sum := "3d0807ac6fda32e7326106224c102f59ac44f6c36337242bec3a55724f00ebbd", func := "loop.example/g01313/laws.FnCharacterSums", spec := "fnCharacterSums", unfollowed := true, recurses := true, plainKeys := false, apart := false }
def FnCharacterSumsSaid : Prop := fnCharacterSumsRow.holds Try.pinned (OpenSpec.ofChange fnCharacterSumsSpec)

/-- ITS FALSE NEIGHBOUR: 'it returns false'. Refute it at one input. -/
def fnCharacterSumsWrong : ChangeSpec := { name := "fnCharacterSums", fn := fun _ => fun
  | [d] => { results := [.lit (.bool false)], args := [d] }
  | _ => none }
def FnCharacterSumsWrongFalsely : Prop := fnCharacterSumsRow.holds Try.pinned (OpenSpec.ofChange fnCharacterSumsWrong)

/-- 'laws.FnExactPrimitiveRoot': WHATEVER THE INPUT: true; the input reads as it did. -/
def fnExactPrimitiveRootSpec : ChangeSpec := { name := "fnExactPrimitiveRoot", fn := fun _ => fun
  | [d] => { results := [.lit (.bool true)], args := [d] }
  | _ => none }
def fnExactPrimitiveRootRow : OpenClaim := { program := "ytkcofcppmlndiaa", sum := "3d0807ac6fda32e7326106224c102f59ac44f6c36337242bec3a55724f00ebbd", func := "loop.example/g01313/laws.FnExactPrimitiveRoot", spec := "fnExactPrimitiveRoot", unfollowed := true, recurses := true, plainKeys := false, apart := false }
def FnExactPrimitiveRootSaid : Prop := fnExactPrimitiveRootRow.holds Try.pinned (OpenSpec.ofChange fnExactPrimitiveRootSpec)

/-- ITS FALSE NEIGHBOUR: 'it returns false'. Refute it at one input. -/
def fnExactPrimitiveRootWrong : ChangeSpec := { name := "fnExactPrimitiveRoot", fn := fun _ => fun
  | [d] => { results := [.lit (.bool false)], args := [d] }
  | _ => none }
def FnExactPrimitiveRootWrongFalsely : Prop := fnExactPrimitiveRootRow.holds Try.pinned (OpenSpec.ofChange fnExactPrimitiveRootWrong)

/-- 'laws.FnExactIndexOf': WHATEVER THE INPUT: true; the input reads as it did. -/
def fnExactIndexOfSpec : ChangeSpec := { name := "fnExactIndexOf", fn := fun _ => fun
  | [d1, d2] => { results := [.lit (.bool true)], args := [d1, d2] }
  | _ => none }
def fnExactIndexOfRow : OpenClaim := { program := "ytkcofcppmlndiaa", sum := "3d0807ac6fda32e7326106224c102f59ac44f6c36337242bec3a55724f00ebbd", func := "loop.example/g01313/laws.FnExactIndexOf", spec := "fnExactIndexOf", unfollowed := true, recurses := true, plainKeys := false, apart := false }
def FnExactIndexOfSaid : Prop := fnExactIndexOfRow.holds Try.pinned (OpenSpec.ofChange fnExactIndexOfSpec)

/-- ITS FALSE NEIGHBOUR: 'it returns false'. Refute it at one input. -/
def fnExactIndexOfWrong : ChangeSpec := { name := "fnExactIndexOf", fn := fun _ => fun
  | [d1, d2] => { results := [.lit (.bool false)], args := [d1, d2] }
  | _ => none }
def FnExactIndexOfWrongFalsely : Prop := fnExactIndexOfRow.holds Try.pinned (OpenSpec.ofChange fnExactIndexOfWrong)

/-- 'laws.FnExactIsCharacter': WHATEVER THE INPUT: true; the input reads as it did. -/
def fnExactIsCharacterSpec : ChangeSpec := { name := "fnExactIsCharacter", fn := fun _ => fun
  | [d] => { results := [.lit (.bool true)], args := [d] }
  | _ => none }
def fnExactIsCharacterRow : OpenClaim := { program := "ytkcofcppmlndiaa", sum := "3d0807ac6fda32e7326106224c102f59ac44f6c36337242bec3a55724f00ebbd", func := "loop.example/g01313/laws.FnExactIsCharacter", spec := "fnExactIsCharacter", plainKeys := false, apart := false }
def FnExactIsCharacterSaid : Prop := fnExactIsCharacterRow.holds Try.pinned (OpenSpec.ofChange fnExactIsCharacterSpec)

/-- ITS FALSE NEIGHBOUR: 'it returns false'. Refute it at one input. -/
def fnExactIsCharacterWrong : ChangeSpec := { name := "fnExactIsCharacter", fn := fun _ => fun
  | [d] => { results := [.lit (.bool false)], args := [d] }
  | _ => none }
def FnExactIsCharacterWrongFalsely : Prop := fnExactIsCharacterRow.holds Try.pinned (OpenSpec.ofChange fnExactIsCharacterWrong)

/-- 'laws.FnExactCharactersOf': WHATEVER THE INPUT: true; the input reads as it did. -/
def fnExactCharactersOfSpec : ChangeSpec := { name := "fnExactCharactersOf", fn := fun _ => fun
  | [d1, d2] => { results := [.lit (.bool true)], args := [d1, d2] }
  | _ => none }
def fnExactCharactersOfRow : OpenClaim := { program := "ytkcofcppmlndiaa", sum := "3d0807ac6fda32e7326106224c102f59ac44f6c36337242bec3a55724f00ebbd", func := "loop.example/g01313/laws.FnExactCharactersOf", spec := "fnExactCharactersOf", plainKeys := false, apart := false }
def FnExactCharactersOfSaid : Prop := fnExactCharactersOfRow.holds Try.pinned (OpenSpec.ofChange fnExactCharactersOfSpec)

/-- ITS FALSE NEIGHBOUR: 'it returns false'. Refute it at one input. -/
def fnExactCharactersOfWrong : ChangeSpec := { name := "fnExactCharactersOf", fn := fun _ => fun
  | [d1, d2] => { results := [.lit (.bool false)], args := [d1, d2] }
  | _ => none }
def FnExactCharactersOfWrongFalsely : Prop := fnExactCharactersOfRow.holds Try.pinned (OpenSpec.ofChange fnExactCharactersOfWrong)

/-- 'laws.FnExactCharacterAt': WHATEVER THE INPUT: true; the input reads as it did. -/
def fnExactCharacterAtSpec : ChangeSpec := { name := "fnExactCharacterAt", fn := fun _ => fun
  | [d1, d2] => { results := [.lit (.bool true)], args := [d1, d2] }
  | _ => none }
def fnExactCharacterAtRow : OpenClaim := { program := "ytkcofcppmlndiaa", sum := "3d0807ac6fda32e7326106224c102f59ac44f6c36337242bec3a55724f00ebbd", func := "loop.example/g01313/laws.FnExactCharacterAt", spec := "fnExactCharacterAt", unfollowed := true, recurses := true, plainKeys := false, apart := false }
def FnExactCharacterAtSaid : Prop := fnExactCharacterAtRow.holds Try.pinned (OpenSpec.ofChange fnExactCharacterAtSpec)

/-- ITS FALSE NEIGHBOUR: 'it returns false'. Refute it at one input. -/
def fnExactCharacterAtWrong : ChangeSpec := { name := "fnExactCharacterAt", fn := fun _ => fun
  | [d1, d2] => { results := [.lit (.bool false)], args := [d1, d2] }
  | _ => none }
def FnExactCharacterAtWrongFalsely : Prop := fnExactCharacterAtRow.holds Try.pinned (OpenSpec.ofChange fnExactCharacterAtWrong)

/-- 'laws.FnExactMultiplyCharacters': WHATEVER THE INPUT: true; the input reads as it did. -/
def fnExactMultiplyCharactersSpec : ChangeSpec := { name := "fnExactMultiplyCharacters", fn := fun _ => fun
  | [d1, d2] => { results := [.lit (.bool true)], args := [d1, d2] }
  | _ => none }
def fnExactMultiplyCharactersRow : OpenClaim := { program := "ytkcofcppmlndiaa", sum := "3d0807ac6fda32e7326106224c102f59ac44f6c36337242bec3a55724f00ebbd", func := "loop.example/g01313/laws.FnExactMultiplyCharacters", spec := "fnExactMultiplyCharacters", plainKeys := false, apart := false }
def FnExactMultiplyCharactersSaid : Prop := fnExactMultiplyCharactersRow.holds Try.pinned (OpenSpec.ofChange fnExactMultiplyCharactersSpec)

/-- ITS FALSE NEIGHBOUR: 'it returns false'. Refute it at one input. -/
def fnExactMultiplyCharactersWrong : ChangeSpec := { name := "fnExactMultiplyCharacters", fn := fun _ => fun
  | [d1, d2] => { results := [.lit (.bool false)], args := [d1, d2] }
  | _ => none }
def FnExactMultiplyCharactersWrongFalsely : Prop := fnExactMultiplyCharactersRow.holds Try.pinned (OpenSpec.ofChange fnExactMultiplyCharactersWrong)

/-- 'laws.FnExactInverseCharacter': WHATEVER THE INPUT: true; the input reads as it did. -/
def fnExactInverseCharacterSpec : ChangeSpec := { name := "fnExactInverseCharacter", fn := fun _ => fun
  | [d] => { results := [.lit (.bool true)], args := [d] }
  | _ => none }
def fnExactInverseCharacterRow : OpenClaim := { program := "ytkcofcppmlndiaa", sum := "3d0807ac6fda32e7326106224c102f59ac44f6c36337242bec3a55724f00ebbd", func := "loop.example/g01313/laws.FnExactInverseCharacter", spec := "fnExactInverseCharacter", plainKeys := false, apart := false }
def FnExactInverseCharacterSaid : Prop := fnExactInverseCharacterRow.holds Try.pinned (OpenSpec.ofChange fnExactInverseCharacterSpec)

/-- ITS FALSE NEIGHBOUR: 'it returns false'. Refute it at one input. -/
def fnExactInverseCharacterWrong : ChangeSpec := { name := "fnExactInverseCharacter", fn := fun _ => fun
  | [d] => { results := [.lit (.bool false)], args := [d] }
  | _ => none }
def FnExactInverseCharacterWrongFalsely : Prop := fnExactInverseCharacterRow.holds Try.pinned (OpenSpec.ofChange fnExactInverseCharacterWrong)

/-- 'laws.FnExactExactOrder': WHATEVER THE INPUT: true; the input reads as it did. -/
def fnExactExactOrderSpec : ChangeSpec := { name := "fnExactExactOrder", fn := fun _ => fun
  | [d] => { results := [.lit (.bool true)], args := [d] }
  | _ => none }
def fnExactExactOrderRow : OpenClaim := { program := "ytkcofcppmlndiaa", sum := "3d0807ac6fda32e7326106224c102f59ac44f6c36337242bec3a55724f00ebbd", func := "loop.example/g01313/laws.FnExactExactOrder", spec := "fnExactExactOrder", plainKeys := false, apart := false }
def FnExactExactOrderSaid : Prop := fnExactExactOrderRow.holds Try.pinned (OpenSpec.ofChange fnExactExactOrderSpec)

/-- ITS FALSE NEIGHBOUR: 'it returns false'. Refute it at one input. -/
def fnExactExactOrderWrong : ChangeSpec := { name := "fnExactExactOrder", fn := fun _ => fun
  | [d] => { results := [.lit (.bool false)], args := [d] }
  | _ => none }
def FnExactExactOrderWrongFalsely : Prop := fnExactExactOrderRow.holds Try.pinned (OpenSpec.ofChange fnExactExactOrderWrong)

/-- 'laws.FnExactSumOfCharacter': WHATEVER THE INPUT: true; the input reads as it did. -/
def fnExactSumOfCharacterSpec : ChangeSpec := { name := "fnExactSumOfCharacter", fn := fun _ => fun
  | [d] => { results := [.lit (.bool true)], args := [d] }
  | _ => none }
def fnExactSumOfCharacterRow : OpenClaim := { program := "ytkcofcppmlndiaa", sum := "3d0807ac6fda32e7326106224c102f59ac44f6c36337242bec3a55724f00ebbd", func := "loop.example/g01313/laws.FnExactSumOfCharacter", spec := "fnExactSumOfCharacter", unfollowed := true, recurses := true, plainKeys := false, apart := false }
def FnExactSumOfCharacterSaid : Prop := fnExactSumOfCharacterRow.holds Try.pinned (OpenSpec.ofChange fnExactSumOfCharacterSpec)

/-- ITS FALSE NEIGHBOUR: 'it returns false'. Refute it at one input. -/
def fnExactSumOfCharacterWrong : ChangeSpec := { name := "fnExactSumOfCharacter", fn := fun _ => fun
  | [d] => { results := [.lit (.bool false)], args := [d] }
  | _ => none }
def FnExactSumOfCharacterWrongFalsely : Prop := fnExactSumOfCharacterRow.holds Try.pinned (OpenSpec.ofChange fnExactSumOfCharacterWrong)

/-- 'laws.FnExactOrthogonalSum': WHATEVER THE INPUT: true; the input reads as it did. -/
def fnExactOrthogonalSumSpec : ChangeSpec := { name := "fnExactOrthogonalSum", fn := fun _ => fun
  | [d1, d2] => { results := [.lit (.bool true)], args := [d1, d2] }
  | _ => none }
def fnExactOrthogonalSumRow : OpenClaim := { program := "ytkcofcppmlndiaa", sum := "3d0807ac6fda32e7326106224c102f59ac44f6c36337242bec3a55724f00ebbd", func := "loop.example/g01313/laws.FnExactOrthogonalSum", spec := "fnExactOrthogonalSum", unfollowed := true, recurses := true, plainKeys := false, apart := false }
def FnExactOrthogonalSumSaid : Prop := fnExactOrthogonalSumRow.holds Try.pinned (OpenSpec.ofChange fnExactOrthogonalSumSpec)

/-- ITS FALSE NEIGHBOUR: 'it returns false'. Refute it at one input. -/
def fnExactOrthogonalSumWrong : ChangeSpec := { name := "fnExactOrthogonalSum", fn := fun _ => fun
  | [d1, d2] => { results := [.lit (.bool false)], args := [d1, d2] }
  | _ => none }
def FnExactOrthogonalSumWrongFalsely : Prop := fnExactOrthogonalSumRow.holds Try.pinned (OpenSpec.ofChange fnExactOrthogonalSumWrong)

/-- 'laws.FnExactExponentsOf': WHATEVER THE INPUT: true; the input reads as it did. -/
def fnExactExponentsOfSpec : ChangeSpec := { name := "fnExactExponentsOf", fn := fun _ => fun
  | [d] => { results := [.lit (.bool true)], args := [d] }
  | _ => none }
def fnExactExponentsOfRow : OpenClaim := { program := "ytkcofcppmlndiaa", sum := "3d0807ac6fda32e7326106224c102f59ac44f6c36337242bec3a55724f00ebbd", func := "loop.example/g01313/laws.FnExactExponentsOf", spec := "fnExactExponentsOf", unfollowed := true, recurses := true, plainKeys := false, apart := false }
def FnExactExponentsOfSaid : Prop := fnExactExponentsOfRow.holds Try.pinned (OpenSpec.ofChange fnExactExponentsOfSpec)

/-- ITS FALSE NEIGHBOUR: 'it returns false'. Refute it at one input. -/
def fnExactExponentsOfWrong : ChangeSpec := { name := "fnExactExponentsOf", fn := fun _ => fun
  | [d] => { results := [.lit (.bool false)], args := [d] }
  | _ => none }
def FnExactExponentsOfWrongFalsely : Prop := fnExactExponentsOfRow.holds Try.pinned (OpenSpec.ofChange fnExactExponentsOfWrong)

/-- 'laws.FnExactKernelOf': WHATEVER THE INPUT: true; the input reads as it did. -/
def fnExactKernelOfSpec : ChangeSpec := { name := "fnExactKernelOf", fn := fun _ => fun
  | [d] => { results := [.lit (.bool true)], args := [d] }
  | _ => none }
def fnExactKernelOfRow : OpenClaim := { program := "ytkcofcppmlndiaa", sum := "3d0807ac6fda32e7326106224c102f59ac44f6c36337242bec3a55724f00ebbd", func := "loop.example/g01313/laws.FnExactKernelOf", spec := "fnExactKernelOf", unfollowed := true, recurses := true, plainKeys := false, apart := false }
def FnExactKernelOfSaid : Prop := fnExactKernelOfRow.holds Try.pinned (OpenSpec.ofChange fnExactKernelOfSpec)

/-- ITS FALSE NEIGHBOUR: 'it returns false'. Refute it at one input. -/
def fnExactKernelOfWrong : ChangeSpec := { name := "fnExactKernelOf", fn := fun _ => fun
  | [d] => { results := [.lit (.bool false)], args := [d] }
  | _ => none }
def FnExactKernelOfWrongFalsely : Prop := fnExactKernelOfRow.holds Try.pinned (OpenSpec.ofChange fnExactKernelOfWrong)

/-- 'laws.FnExactSumWith': WHATEVER THE INPUT: true; the input reads as it did. -/
def fnExactSumWithSpec : ChangeSpec := { name := "fnExactSumWith", fn := fun _ => fun
  | [d1, d2] => { results := [.lit (.bool true)], args := [d1, d2] }
  | _ => none }
def fnExactSumWithRow : OpenClaim := { program := "ytkcofcppmlndiaa", sum := "3d0807ac6fda32e7326106224c102f59ac44f6c36337242bec3a55724f00ebbd", func := "loop.example/g01313/laws.FnExactSumWith", spec := "fnExactSumWith", unfollowed := true, recurses := true, plainKeys := false, apart := false }
def FnExactSumWithSaid : Prop := fnExactSumWithRow.holds Try.pinned (OpenSpec.ofChange fnExactSumWithSpec)

/-- ITS FALSE NEIGHBOUR: 'it returns false'. Refute it at one input. -/
def fnExactSumWithWrong : ChangeSpec := { name := "fnExactSumWith", fn := fun _ => fun
  | [d1, d2] => { results := [.lit (.bool false)], args := [d1, d2] }
  | _ => none }
def FnExactSumWithWrongFalsely : Prop := fnExactSumWithRow.holds Try.pinned (OpenSpec.ofChange fnExactSumWithWrong)

/-- 'laws.FnExactLegendreSymbol': WHATEVER THE INPUT: true; the input reads as it did. -/
def fnExactLegendreSymbolSpec : ChangeSpec := { name := "fnExactLegendreSymbol", fn := fun _ => fun
  | [d1, d2] => { results := [.lit (.bool true)], args := [d1, d2] }
  | _ => none }
def fnExactLegendreSymbolRow : OpenClaim := { program := "ytkcofcppmlndiaa", sum := "3d0807ac6fda32e7326106224c102f59ac44f6c36337242bec3a55724f00ebbd", func := "loop.example/g01313/laws.FnExactLegendreSymbol", spec := "fnExactLegendreSymbol", unfollowed := true, recurses := true, plainKeys := false, apart := false }
def FnExactLegendreSymbolSaid : Prop := fnExactLegendreSymbolRow.holds Try.pinned (OpenSpec.ofChange fnExactLegendreSymbolSpec)

/-- ITS FALSE NEIGHBOUR: 'it returns false'. Refute it at one input. -/
def fnExactLegendreSymbolWrong : ChangeSpec := { name := "fnExactLegendreSymbol", fn := fun _ => fun
  | [d1, d2] => { results := [.lit (.bool false)], args := [d1, d2] }
  | _ => none }
def FnExactLegendreSymbolWrongFalsely : Prop := fnExactLegendreSymbolRow.holds Try.pinned (OpenSpec.ofChange fnExactLegendreSymbolWrong)

/-- 'laws.FnExactIsEvenCharacter': WHATEVER THE INPUT: true; the input reads as it did. -/
def fnExactIsEvenCharacterSpec : ChangeSpec := { name := "fnExactIsEvenCharacter", fn := fun _ => fun
  | [d] => { results := [.lit (.bool true)], args := [d] }
  | _ => none }
def fnExactIsEvenCharacterRow : OpenClaim := { program := "ytkcofcppmlndiaa", sum := "3d0807ac6fda32e7326106224c102f59ac44f6c36337242bec3a55724f00ebbd", func := "loop.example/g01313/laws.FnExactIsEvenCharacter", spec := "fnExactIsEvenCharacter", unfollowed := true, recurses := true, plainKeys := false, apart := false }
def FnExactIsEvenCharacterSaid : Prop := fnExactIsEvenCharacterRow.holds Try.pinned (OpenSpec.ofChange fnExactIsEvenCharacterSpec)

/-- ITS FALSE NEIGHBOUR: 'it returns false'. Refute it at one input. -/
def fnExactIsEvenCharacterWrong : ChangeSpec := { name := "fnExactIsEvenCharacter", fn := fun _ => fun
  | [d] => { results := [.lit (.bool false)], args := [d] }
  | _ => none }
def FnExactIsEvenCharacterWrongFalsely : Prop := fnExactIsEvenCharacterRow.holds Try.pinned (OpenSpec.ofChange fnExactIsEvenCharacterWrong)

/-- 'laws.FnExactCharacteristicOf': WHATEVER THE INPUT: true; the input reads as it did. -/
def fnExactCharacteristicOfSpec : ChangeSpec := { name := "fnExactCharacteristicOf", fn := fun _ => fun
  | [d] => { results := [.lit (.bool true)], args := [d] }
  | _ => none }
def fnExactCharacteristicOfRow : OpenClaim := { program := "ytkcofcppmlndiaa", sum := "3d0807ac6fda32e7326106224c102f59ac44f6c36337242bec3a55724f00ebbd", func := "loop.example/g01313/laws.FnExactCharacteristicOf", spec := "fnExactCharacteristicOf", recurses := true, plainKeys := false, apart := false }
def FnExactCharacteristicOfSaid : Prop := fnExactCharacteristicOfRow.holds Try.pinned (OpenSpec.ofChange fnExactCharacteristicOfSpec)

/-- ITS FALSE NEIGHBOUR: 'it returns false'. Refute it at one input. -/
def fnExactCharacteristicOfWrong : ChangeSpec := { name := "fnExactCharacteristicOf", fn := fun _ => fun
  | [d] => { results := [.lit (.bool false)], args := [d] }
  | _ => none }
def FnExactCharacteristicOfWrongFalsely : Prop := fnExactCharacteristicOfRow.holds Try.pinned (OpenSpec.ofChange fnExactCharacteristicOfWrong)

/-- 'laws.FnExactMinimalOf': WHATEVER THE INPUT: true; the input reads as it did. -/
def fnExactMinimalOfSpec : ChangeSpec := { name := "fnExactMinimalOf", fn := fun _ => fun
  | [d] => { results := [.lit (.bool true)], args := [d] }
  | _ => none }
def fnExactMinimalOfRow : OpenClaim := { program := "ytkcofcppmlndiaa", sum := "3d0807ac6fda32e7326106224c102f59ac44f6c36337242bec3a55724f00ebbd", func := "loop.example/g01313/laws.FnExactMinimalOf", spec := "fnExactMinimalOf", recurses := true, plainKeys := false, apart := false }
def FnExactMinimalOfSaid : Prop := fnExactMinimalOfRow.holds Try.pinned (OpenSpec.ofChange fnExactMinimalOfSpec)

/-- ITS FALSE NEIGHBOUR: 'it returns false'. Refute it at one input. -/
def fnExactMinimalOfWrong : ChangeSpec := { name := "fnExactMinimalOf", fn := fun _ => fun
  | [d] => { results := [.lit (.bool false)], args := [d] }
  | _ => none }
def FnExactMinimalOfWrongFalsely : Prop := fnExactMinimalOfRow.holds Try.pinned (OpenSpec.ofChange fnExactMinimalOfWrong)

/- THE SECOND FORM. 'bulk': how many values and letters a reading holds, each counted each time it is reached (what is shared counts as often as it is met; a slice's spare places count too). A statement '..UptoSaid' is the law's where the arguments, and the package variables that the reading takes, are together of bulk at most 1048576: NARROWER than '..Said'. Prove '..Said' where nothing that the law and all that it calls make is longer than what came in: it says more and counts as full. Else prove '..UptoSaid'. A law counts once. -/
mutual
def uptoBulk {H : Type} : DataW H → Nat
  | .lit (.string bytes) => bytes.length + 1
  | .lit _ => 1
  | .nil => 1
  | .ptr d => uptoBulk d + 1
  | .slice elems spare => uptoBulkAll elems + uptoBulkAll spare + 1
  | .agg parts => uptoBulkAll parts + 1
  | .iface _ d => uptoBulk d + 1
  | .map entries => uptoBulkEntries entries + 1
  | .held _ => 1
def uptoBulkAll {H : Type} : List (DataW H) → Nat
  | [] => 0
  | d :: r => uptoBulk d + uptoBulkAll r
def uptoBulkEntries {H : Type} : List (Lit × DataW H) → Nat
  | [] => 0
  | x :: r => uptoBulkEntry x + uptoBulkEntries r
def uptoBulkEntry {H : Type} : Lit × DataW H → Nat
  | (.string bytes, d) => bytes.length + uptoBulk d + 1
  | (_, d) => uptoBulk d + 1
 end
def uptoSmall : (H : Type) → List (DataW H) → Bool := fun _ ds => decide (uptoBulkAll ds ≤ 1048576)
def OpenSpec.upto (s : _root_.Go.ChangeSpec) : _root_.Go.OpenSpec := { _root_.Go.OpenSpec.ofChange s with cond := some uptoSmall }

/-- 'laws.FnCharacters', WHERE WHAT IT READS IS OF BULK AT MOST 1048576: true; the input reads as it did. -/
def fnCharactersUptoRow : OpenClaim := { program := "ytkcofcppmlndiaa", sum := "3d0807ac6fda32e7326106224c102f59ac44f6c36337242bec3a55724f00ebbd", func := "loop.example/g01313/laws.FnCharacters", spec := "fnCharacters", unfollowed := true, recurses := true, plainKeys := false, apart := false, narrowed := true }
def FnCharactersUptoSaid : Prop := fnCharactersUptoRow.holds Try.pinned (OpenSpec.upto fnCharactersSpec)

/-- 'laws.FnCharacterSums', WHERE WHAT IT READS IS OF BULK AT MOST 1048576: true; the input reads as it did. -/
def fnCharacterSumsUptoRow : OpenClaim := { program := "ytkcofcppmlndiaa", sum := "3d0807ac6fda32e7326106224c102f59ac44f6c36337242bec3a55724f00ebbd", func := "loop.example/g01313/laws.FnCharacterSums", spec := "fnCharacterSums", unfollowed := true, recurses := true, plainKeys := false, apart := false, narrowed := true }
def FnCharacterSumsUptoSaid : Prop := fnCharacterSumsUptoRow.holds Try.pinned (OpenSpec.upto fnCharacterSumsSpec)

/-- 'laws.FnExactPrimitiveRoot', WHERE WHAT IT READS IS OF BULK AT MOST 1048576: true; the input reads as it did. -/
def fnExactPrimitiveRootUptoRow : OpenClaim := { program := "ytkcofcppmlndiaa", sum := "3d0807ac6fda32e7326106224c102f59ac44f6c36337242bec3a55724f00ebbd", func := "loop.example/g01313/laws.FnExactPrimitiveRoot", spec := "fnExactPrimitiveRoot", unfollowed := true, recurses := true, plainKeys := false, apart := false, narrowed := true }
def FnExactPrimitiveRootUptoSaid : Prop := fnExactPrimitiveRootUptoRow.holds Try.pinned (OpenSpec.upto fnExactPrimitiveRootSpec)

/-- 'laws.FnExactIndexOf', WHERE WHAT IT READS IS OF BULK AT MOST 1048576: true; the input reads as it did. -/
def fnExactIndexOfUptoRow : OpenClaim := { program := "ytkcofcppmlndiaa", sum := "3d0807ac6fda32e7326106224c102f59ac44f6c36337242bec3a55724f00ebbd", func := "loop.example/g01313/laws.FnExactIndexOf", spec := "fnExactIndexOf", unfollowed := true, recurses := true, plainKeys := false, apart := false, narrowed := true }
def FnExactIndexOfUptoSaid : Prop := fnExactIndexOfUptoRow.holds Try.pinned (OpenSpec.upto fnExactIndexOfSpec)

/-- 'laws.FnExactIsCharacter', WHERE WHAT IT READS IS OF BULK AT MOST 1048576: true; the input reads as it did. -/
def fnExactIsCharacterUptoRow : OpenClaim := { program := "ytkcofcppmlndiaa", sum := "3d0807ac6fda32e7326106224c102f59ac44f6c36337242bec3a55724f00ebbd", func := "loop.example/g01313/laws.FnExactIsCharacter", spec := "fnExactIsCharacter", plainKeys := false, apart := false, narrowed := true }
def FnExactIsCharacterUptoSaid : Prop := fnExactIsCharacterUptoRow.holds Try.pinned (OpenSpec.upto fnExactIsCharacterSpec)

/-- 'laws.FnExactCharactersOf', WHERE WHAT IT READS IS OF BULK AT MOST 1048576: true; the input reads as it did. -/
def fnExactCharactersOfUptoRow : OpenClaim := { program := "ytkcofcppmlndiaa", sum := "3d0807ac6fda32e7326106224c102f59ac44f6c36337242bec3a55724f00ebbd", func := "loop.example/g01313/laws.FnExactCharactersOf", spec := "fnExactCharactersOf", plainKeys := false, apart := false, narrowed := true }
def FnExactCharactersOfUptoSaid : Prop := fnExactCharactersOfUptoRow.holds Try.pinned (OpenSpec.upto fnExactCharactersOfSpec)

/-- 'laws.FnExactCharacterAt', WHERE WHAT IT READS IS OF BULK AT MOST 1048576: true; the input reads as it did. -/
def fnExactCharacterAtUptoRow : OpenClaim := { program := "ytkcofcppmlndiaa", sum := "3d0807ac6fda32e7326106224c102f59ac44f6c36337242bec3a55724f00ebbd", func := "loop.example/g01313/laws.FnExactCharacterAt", spec := "fnExactCharacterAt", unfollowed := true, recurses := true, plainKeys := false, apart := false, narrowed := true }
def FnExactCharacterAtUptoSaid : Prop := fnExactCharacterAtUptoRow.holds Try.pinned (OpenSpec.upto fnExactCharacterAtSpec)

/-- 'laws.FnExactMultiplyCharacters', WHERE WHAT IT READS IS OF BULK AT MOST 1048576: true; the input reads as it did. -/
def fnExactMultiplyCharactersUptoRow : OpenClaim := { program := "ytkcofcppmlndiaa", sum := "3d0807ac6fda32e7326106224c102f59ac44f6c36337242bec3a55724f00ebbd", func := "loop.example/g01313/laws.FnExactMultiplyCharacters", spec := "fnExactMultiplyCharacters", plainKeys := false, apart := false, narrowed := true }
def FnExactMultiplyCharactersUptoSaid : Prop := fnExactMultiplyCharactersUptoRow.holds Try.pinned (OpenSpec.upto fnExactMultiplyCharactersSpec)

/-- 'laws.FnExactInverseCharacter', WHERE WHAT IT READS IS OF BULK AT MOST 1048576: true; the input reads as it did. -/
def fnExactInverseCharacterUptoRow : OpenClaim := { program := "ytkcofcppmlndiaa", sum := "3d0807ac6fda32e7326106224c102f59ac44f6c36337242bec3a55724f00ebbd", func := "loop.example/g01313/laws.FnExactInverseCharacter", spec := "fnExactInverseCharacter", plainKeys := false, apart := false, narrowed := true }
def FnExactInverseCharacterUptoSaid : Prop := fnExactInverseCharacterUptoRow.holds Try.pinned (OpenSpec.upto fnExactInverseCharacterSpec)

/-- 'laws.FnExactExactOrder', WHERE WHAT IT READS IS OF BULK AT MOST 1048576: true; the input reads as it did. -/
def fnExactExactOrderUptoRow : OpenClaim := { program := "ytkcofcppmlndiaa", sum := "3d0807ac6fda32e7326106224c102f59ac44f6c36337242bec3a55724f00ebbd", func := "loop.example/g01313/laws.FnExactExactOrder", spec := "fnExactExactOrder", plainKeys := false, apart := false, narrowed := true }
def FnExactExactOrderUptoSaid : Prop := fnExactExactOrderUptoRow.holds Try.pinned (OpenSpec.upto fnExactExactOrderSpec)

/-- 'laws.FnExactSumOfCharacter', WHERE WHAT IT READS IS OF BULK AT MOST 1048576: true; the input reads as it did. -/
def fnExactSumOfCharacterUptoRow : OpenClaim := { program := "ytkcofcppmlndiaa", sum := "3d0807ac6fda32e7326106224c102f59ac44f6c36337242bec3a55724f00ebbd", func := "loop.example/g01313/laws.FnExactSumOfCharacter", spec := "fnExactSumOfCharacter", unfollowed := true, recurses := true, plainKeys := false, apart := false, narrowed := true }
def FnExactSumOfCharacterUptoSaid : Prop := fnExactSumOfCharacterUptoRow.holds Try.pinned (OpenSpec.upto fnExactSumOfCharacterSpec)

/-- 'laws.FnExactOrthogonalSum', WHERE WHAT IT READS IS OF BULK AT MOST 1048576: true; the input reads as it did. -/
def fnExactOrthogonalSumUptoRow : OpenClaim := { program := "ytkcofcppmlndiaa", sum := "3d0807ac6fda32e7326106224c102f59ac44f6c36337242bec3a55724f00ebbd", func := "loop.example/g01313/laws.FnExactOrthogonalSum", spec := "fnExactOrthogonalSum", unfollowed := true, recurses := true, plainKeys := false, apart := false, narrowed := true }
def FnExactOrthogonalSumUptoSaid : Prop := fnExactOrthogonalSumUptoRow.holds Try.pinned (OpenSpec.upto fnExactOrthogonalSumSpec)

/-- 'laws.FnExactExponentsOf', WHERE WHAT IT READS IS OF BULK AT MOST 1048576: true; the input reads as it did. -/
def fnExactExponentsOfUptoRow : OpenClaim := { program := "ytkcofcppmlndiaa", sum := "3d0807ac6fda32e7326106224c102f59ac44f6c36337242bec3a55724f00ebbd", func := "loop.example/g01313/laws.FnExactExponentsOf", spec := "fnExactExponentsOf", unfollowed := true, recurses := true, plainKeys := false, apart := false, narrowed := true }
def FnExactExponentsOfUptoSaid : Prop := fnExactExponentsOfUptoRow.holds Try.pinned (OpenSpec.upto fnExactExponentsOfSpec)

/-- 'laws.FnExactKernelOf', WHERE WHAT IT READS IS OF BULK AT MOST 1048576: true; the input reads as it did. -/
def fnExactKernelOfUptoRow : OpenClaim := { program := "ytkcofcppmlndiaa", sum := "3d0807ac6fda32e7326106224c102f59ac44f6c36337242bec3a55724f00ebbd", func := "loop.example/g01313/laws.FnExactKernelOf", spec := "fnExactKernelOf", unfollowed := true, recurses := true, plainKeys := false, apart := false, narrowed := true }
def FnExactKernelOfUptoSaid : Prop := fnExactKernelOfUptoRow.holds Try.pinned (OpenSpec.upto fnExactKernelOfSpec)

/-- 'laws.FnExactSumWith', WHERE WHAT IT READS IS OF BULK AT MOST 1048576: true; the input reads as it did. -/
def fnExactSumWithUptoRow : OpenClaim := { program := "ytkcofcppmlndiaa", sum := "3d0807ac6fda32e7326106224c102f59ac44f6c36337242bec3a55724f00ebbd", func := "loop.example/g01313/laws.FnExactSumWith", spec := "fnExactSumWith", unfollowed := true, recurses := true, plainKeys := false, apart := false, narrowed := true }
def FnExactSumWithUptoSaid : Prop := fnExactSumWithUptoRow.holds Try.pinned (OpenSpec.upto fnExactSumWithSpec)

/-- 'laws.FnExactLegendreSymbol', WHERE WHAT IT READS IS OF BULK AT MOST 1048576: true; the input reads as it did. -/
def fnExactLegendreSymbolUptoRow : OpenClaim := { program := "ytkcofcppmlndiaa", sum := "3d0807ac6fda32e7326106224c102f59ac44f6c36337242bec3a55724f00ebbd", func := "loop.example/g01313/laws.FnExactLegendreSymbol", spec := "fnExactLegendreSymbol", unfollowed := true, recurses := true, plainKeys := false, apart := false, narrowed := true }
def FnExactLegendreSymbolUptoSaid : Prop := fnExactLegendreSymbolUptoRow.holds Try.pinned (OpenSpec.upto fnExactLegendreSymbolSpec)

/-- 'laws.FnExactIsEvenCharacter', WHERE WHAT IT READS IS OF BULK AT MOST 1048576: true; the input reads as it did. -/
def fnExactIsEvenCharacterUptoRow : OpenClaim := { program := "ytkcofcppmlndiaa", sum := "3d0807ac6fda32e7326106224c102f59ac44f6c36337242bec3a55724f00ebbd", func := "loop.example/g01313/laws.FnExactIsEvenCharacter", spec := "fnExactIsEvenCharacter", unfollowed := true, recurses := true, plainKeys := false, apart := false, narrowed := true }
def FnExactIsEvenCharacterUptoSaid : Prop := fnExactIsEvenCharacterUptoRow.holds Try.pinned (OpenSpec.upto fnExactIsEvenCharacterSpec)

/-- 'laws.FnExactCharacteristicOf', WHERE WHAT IT READS IS OF BULK AT MOST 1048576: true; the input reads as it did. -/
def fnExactCharacteristicOfUptoRow : OpenClaim := { program := "ytkcofcppmlndiaa", sum := "3d0807ac6fda32e7326106224c102f59ac44f6c36337242bec3a55724f00ebbd", func := "loop.example/g01313/laws.FnExactCharacteristicOf", spec := "fnExactCharacteristicOf", recurses := true, plainKeys := false, apart := false, narrowed := true }
def FnExactCharacteristicOfUptoSaid : Prop := fnExactCharacteristicOfUptoRow.holds Try.pinned (OpenSpec.upto fnExactCharacteristicOfSpec)

/-- 'laws.FnExactMinimalOf', WHERE WHAT IT READS IS OF BULK AT MOST 1048576: true; the input reads as it did. -/
def fnExactMinimalOfUptoRow : OpenClaim := { program := "ytkcofcppmlndiaa", sum := "3d0807ac6fda32e7326106224c102f59ac44f6c36337242bec3a55724f00ebbd", func := "loop.example/g01313/laws.FnExactMinimalOf", spec := "fnExactMinimalOf", recurses := true, plainKeys := false, apart := false, narrowed := true }
def FnExactMinimalOfUptoSaid : Prop := fnExactMinimalOfUptoRow.holds Try.pinned (OpenSpec.upto fnExactMinimalOfSpec)

end Rows
end Go.Proofs.Ytkcofcppmlndiaa
