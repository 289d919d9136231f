/-
  No cell of these rows narrows 'for every input' (looked for: loops, veiled, ifaces, maps, wideKeys, modest, calm, conditions, laid).
  DERIVED. THE GIVEN ROWS OF THIS SEAT. 18 by the template 'for every input the law returns true; each argument reads behind the call as it read before'; 0 by the template 'total and deterministic' (their statements: YtmmcbkikcceenaaTotals.lean).
  GIVEN WITH THE SEED: the statements are not yours to turn. If you find one false, say at which input.
  Laid BY PROGRAM, IN A SANDBOX (cutbox-rows.mjs): the forced cells as the released guide's own fill.sh prints them over the translation 84c38dda3653decf… (all of the seat's roots in one cut). By AI agents, Wed Nov 11 2026. No macro, syntax, notation, axiom, sorry.
-/
import Derived.Test.YtmmcbkikcceenaaChecked
import GoSem.Claim
import GoSem.ClaimJoined
import GoSem.ClaimMapViews
import Derived.JoinedTies
import Derived.KernelRfl
namespace Go.Proofs.Ytmmcbkikcceenaa
/- THE CELL 'sum', in the pinned program and in every row, IS THE sha256 OF THE DUMP (.gsa) THAT YtmmcbkikcceenaaProg.lean LOADS. Nothing in Lean hashes anything: it is a label: what it is worth is what the hold of that sum in a sandbox is worth. -/
noncomputable def Try.pinned : Pinned := { name := "ytmmcbkikcceenaa", sum := "84c38dda3653decf1d077ab09f325e92f8808a763cc71d037dc55d1360b4708a", checked := Try.checked }
namespace Rows
def none {H : Type} : Left H := { results := [], args := [] }

/-- 'laws.FnGalois': WHATEVER THE INPUT: true; the input reads as it did. -/
def fnGaloisSpec : ChangeSpec := { name := "fnGalois", fn := fun _ => fun
  | [d] => { results := [.lit (.bool true)], args := [d] }
  | _ => none }
def fnGaloisRow : OpenClaim := { program := "ytmmcbkikcceenaa", sum := "84c38dda3653decf1d077ab09f325e92f8808a763cc71d037dc55d1360b4708a", func := "loop.example/g01313/laws.FnGalois", spec := "fnGalois", recurses := true, plainKeys := false, apart := false }
def FnGaloisSaid : Prop := fnGaloisRow.holds Try.pinned (OpenSpec.ofChange fnGaloisSpec)

/-- ITS FALSE NEIGHBOUR: 'it returns false'. Refute it at one input. -/
def fnGaloisWrong : ChangeSpec := { name := "fnGalois", fn := fun _ => fun
  | [d] => { results := [.lit (.bool false)], args := [d] }
  | _ => none }
def FnGaloisWrongFalsely : Prop := fnGaloisRow.holds Try.pinned (OpenSpec.ofChange fnGaloisWrong)

/-- 'laws.FnNorms': WHATEVER THE INPUT: true; the input reads as it did. -/
def fnNormsSpec : ChangeSpec := { name := "fnNorms", fn := fun _ => fun
  | [d] => { results := [.lit (.bool true)], args := [d] }
  | _ => none }
def fnNormsRow : OpenClaim := { program := "ytmmcbkikcceenaa", sum := "84c38dda3653decf1d077ab09f325e92f8808a763cc71d037dc55d1360b4708a", func := "loop.example/g01313/laws.FnNorms", spec := "fnNorms", recurses := true, plainKeys := false, apart := false }
def FnNormsSaid : Prop := fnNormsRow.holds Try.pinned (OpenSpec.ofChange fnNormsSpec)

/-- ITS FALSE NEIGHBOUR: 'it returns false'. Refute it at one input. -/
def fnNormsWrong : ChangeSpec := { name := "fnNorms", fn := fun _ => fun
  | [d] => { results := [.lit (.bool false)], args := [d] }
  | _ => none }
def FnNormsWrongFalsely : Prop := fnNormsRow.holds Try.pinned (OpenSpec.ofChange fnNormsWrong)

/-- 'laws.FnMinimal': WHATEVER THE INPUT: true; the input reads as it did. -/
def fnMinimalSpec : ChangeSpec := { name := "fnMinimal", fn := fun _ => fun
  | [d] => { results := [.lit (.bool true)], args := [d] }
  | _ => none }
def fnMinimalRow : OpenClaim := { program := "ytmmcbkikcceenaa", sum := "84c38dda3653decf1d077ab09f325e92f8808a763cc71d037dc55d1360b4708a", func := "loop.example/g01313/laws.FnMinimal", spec := "fnMinimal", recurses := true, plainKeys := false, apart := false }
def FnMinimalSaid : Prop := fnMinimalRow.holds Try.pinned (OpenSpec.ofChange fnMinimalSpec)

/-- ITS FALSE NEIGHBOUR: 'it returns false'. Refute it at one input. -/
def fnMinimalWrong : ChangeSpec := { name := "fnMinimal", fn := fun _ => fun
  | [d] => { results := [.lit (.bool false)], args := [d] }
  | _ => none }
def FnMinimalWrongFalsely : Prop := fnMinimalRow.holds Try.pinned (OpenSpec.ofChange fnMinimalWrong)

/-- 'laws.FnDivision': WHATEVER THE INPUT: true; the input reads as it did. -/
def fnDivisionSpec : ChangeSpec := { name := "fnDivision", fn := fun _ => fun
  | [d] => { results := [.lit (.bool true)], args := [d] }
  | _ => none }
def fnDivisionRow : OpenClaim := { program := "ytmmcbkikcceenaa", sum := "84c38dda3653decf1d077ab09f325e92f8808a763cc71d037dc55d1360b4708a", func := "loop.example/g01313/laws.FnDivision", spec := "fnDivision", recurses := true, plainKeys := false, apart := false }
def FnDivisionSaid : Prop := fnDivisionRow.holds Try.pinned (OpenSpec.ofChange fnDivisionSpec)

/-- ITS FALSE NEIGHBOUR: 'it returns false'. Refute it at one input. -/
def fnDivisionWrong : ChangeSpec := { name := "fnDivision", fn := fun _ => fun
  | [d] => { results := [.lit (.bool false)], args := [d] }
  | _ => none }
def FnDivisionWrongFalsely : Prop := fnDivisionRow.holds Try.pinned (OpenSpec.ofChange fnDivisionWrong)

/-- 'laws.FnExactMultiplyCyclos': WHATEVER THE INPUT: true; the input reads as it did. -/
def fnExactMultiplyCyclosSpec : ChangeSpec := { name := "fnExactMultiplyCyclos", fn := fun _ => fun
  | [d1, d2] => { results := [.lit (.bool true)], args := [d1, d2] }
  | _ => none }
def fnExactMultiplyCyclosRow : OpenClaim := { program := "ytmmcbkikcceenaa", sum := "84c38dda3653decf1d077ab09f325e92f8808a763cc71d037dc55d1360b4708a", func := "loop.example/g01313/laws.FnExactMultiplyCyclos", spec := "fnExactMultiplyCyclos", recurses := true, plainKeys := false, apart := false }
def FnExactMultiplyCyclosSaid : Prop := fnExactMultiplyCyclosRow.holds Try.pinned (OpenSpec.ofChange fnExactMultiplyCyclosSpec)

/-- ITS FALSE NEIGHBOUR: 'it returns false'. Refute it at one input. -/
def fnExactMultiplyCyclosWrong : ChangeSpec := { name := "fnExactMultiplyCyclos", fn := fun _ => fun
  | [d1, d2] => { results := [.lit (.bool false)], args := [d1, d2] }
  | _ => none }
def FnExactMultiplyCyclosWrongFalsely : Prop := fnExactMultiplyCyclosRow.holds Try.pinned (OpenSpec.ofChange fnExactMultiplyCyclosWrong)

/-- 'laws.FnExactPowerCyclo': WHATEVER THE INPUT: true; the input reads as it did. -/
def fnExactPowerCycloSpec : ChangeSpec := { name := "fnExactPowerCyclo", fn := fun _ => fun
  | [d1, d2] => { results := [.lit (.bool true)], args := [d1, d2] }
  | _ => none }
def fnExactPowerCycloRow : OpenClaim := { program := "ytmmcbkikcceenaa", sum := "84c38dda3653decf1d077ab09f325e92f8808a763cc71d037dc55d1360b4708a", func := "loop.example/g01313/laws.FnExactPowerCyclo", spec := "fnExactPowerCyclo", recurses := true, plainKeys := false, apart := false }
def FnExactPowerCycloSaid : Prop := fnExactPowerCycloRow.holds Try.pinned (OpenSpec.ofChange fnExactPowerCycloSpec)

/-- ITS FALSE NEIGHBOUR: 'it returns false'. Refute it at one input. -/
def fnExactPowerCycloWrong : ChangeSpec := { name := "fnExactPowerCyclo", fn := fun _ => fun
  | [d1, d2] => { results := [.lit (.bool false)], args := [d1, d2] }
  | _ => none }
def FnExactPowerCycloWrongFalsely : Prop := fnExactPowerCycloRow.holds Try.pinned (OpenSpec.ofChange fnExactPowerCycloWrong)

/-- 'laws.FnExactTraceOf': WHATEVER THE INPUT: true; the input reads as it did. -/
def fnExactTraceOfSpec : ChangeSpec := { name := "fnExactTraceOf", fn := fun _ => fun
  | [d] => { results := [.lit (.bool true)], args := [d] }
  | _ => none }
def fnExactTraceOfRow : OpenClaim := { program := "ytmmcbkikcceenaa", sum := "84c38dda3653decf1d077ab09f325e92f8808a763cc71d037dc55d1360b4708a", func := "loop.example/g01313/laws.FnExactTraceOf", spec := "fnExactTraceOf", recurses := true, plainKeys := false, apart := false }
def FnExactTraceOfSaid : Prop := fnExactTraceOfRow.holds Try.pinned (OpenSpec.ofChange fnExactTraceOfSpec)

/-- ITS FALSE NEIGHBOUR: 'it returns false'. Refute it at one input. -/
def fnExactTraceOfWrong : ChangeSpec := { name := "fnExactTraceOf", fn := fun _ => fun
  | [d] => { results := [.lit (.bool false)], args := [d] }
  | _ => none }
def FnExactTraceOfWrongFalsely : Prop := fnExactTraceOfRow.holds Try.pinned (OpenSpec.ofChange fnExactTraceOfWrong)

/-- 'laws.FnExactNormOf': WHATEVER THE INPUT: true; the input reads as it did. -/
def fnExactNormOfSpec : ChangeSpec := { name := "fnExactNormOf", fn := fun _ => fun
  | [d] => { results := [.lit (.bool true)], args := [d] }
  | _ => none }
def fnExactNormOfRow : OpenClaim := { program := "ytmmcbkikcceenaa", sum := "84c38dda3653decf1d077ab09f325e92f8808a763cc71d037dc55d1360b4708a", func := "loop.example/g01313/laws.FnExactNormOf", spec := "fnExactNormOf", recurses := true, plainKeys := false, apart := false }
def FnExactNormOfSaid : Prop := fnExactNormOfRow.holds Try.pinned (OpenSpec.ofChange fnExactNormOfSpec)

/-- ITS FALSE NEIGHBOUR: 'it returns false'. Refute it at one input. -/
def fnExactNormOfWrong : ChangeSpec := { name := "fnExactNormOf", fn := fun _ => fun
  | [d] => { results := [.lit (.bool false)], args := [d] }
  | _ => none }
def FnExactNormOfWrongFalsely : Prop := fnExactNormOfRow.holds Try.pinned (OpenSpec.ofChange fnExactNormOfWrong)

/-- 'laws.FnExactCharacteristicOf': WHATEVER THE INPUT: true; the input reads as it did. -/
def fnExactCharacteristicOfSpec : ChangeSpec := { name := "fnExactCharacteristicOf", fn := fun _ => fun
  | [d] => { results := [.lit (.bool true)], args := [d] }
  | _ => none }
def fnExactCharacteristicOfRow : OpenClaim := { program := "ytmmcbkikcceenaa", sum := "84c38dda3653decf1d077ab09f325e92f8808a763cc71d037dc55d1360b4708a", func := "loop.example/g01313/laws.FnExactCharacteristicOf", spec := "fnExactCharacteristicOf", recurses := true, plainKeys := false, apart := false }
def FnExactCharacteristicOfSaid : Prop := fnExactCharacteristicOfRow.holds Try.pinned (OpenSpec.ofChange fnExactCharacteristicOfSpec)

/-- ITS FALSE NEIGHBOUR: 'it returns false'. Refute it at one input. -/
def fnExactCharacteristicOfWrong : ChangeSpec := { name := "fnExactCharacteristicOf", fn := fun _ => fun
  | [d] => { results := [.lit (.bool false)], args := [d] }
  | _ => none }
def FnExactCharacteristicOfWrongFalsely : Prop := fnExactCharacteristicOfRow.holds Try.pinned (OpenSpec.ofChange fnExactCharacteristicOfWrong)

/-- 'laws.FnExactMinimalOf': WHATEVER THE INPUT: true; the input reads as it did. -/
def fnExactMinimalOfSpec : ChangeSpec := { name := "fnExactMinimalOf", fn := fun _ => fun
  | [d] => { results := [.lit (.bool true)], args := [d] }
  | _ => none }
def fnExactMinimalOfRow : OpenClaim := { program := "ytmmcbkikcceenaa", sum := "84c38dda3653decf1d077ab09f325e92f8808a763cc71d037dc55d1360b4708a", func := "loop.example/g01313/laws.FnExactMinimalOf", spec := "fnExactMinimalOf", recurses := true, plainKeys := false, apart := false }
def FnExactMinimalOfSaid : Prop := fnExactMinimalOfRow.holds Try.pinned (OpenSpec.ofChange fnExactMinimalOfSpec)

/-- ITS FALSE NEIGHBOUR: 'it returns false'. Refute it at one input. -/
def fnExactMinimalOfWrong : ChangeSpec := { name := "fnExactMinimalOf", fn := fun _ => fun
  | [d] => { results := [.lit (.bool false)], args := [d] }
  | _ => none }
def FnExactMinimalOfWrongFalsely : Prop := fnExactMinimalOfRow.holds Try.pinned (OpenSpec.ofChange fnExactMinimalOfWrong)

/-- 'laws.FnExactDegreeOf': WHATEVER THE INPUT: true; the input reads as it did. -/
def fnExactDegreeOfSpec : ChangeSpec := { name := "fnExactDegreeOf", fn := fun _ => fun
  | [d] => { results := [.lit (.bool true)], args := [d] }
  | _ => none }
def fnExactDegreeOfRow : OpenClaim := { program := "ytmmcbkikcceenaa", sum := "84c38dda3653decf1d077ab09f325e92f8808a763cc71d037dc55d1360b4708a", func := "loop.example/g01313/laws.FnExactDegreeOf", spec := "fnExactDegreeOf", recurses := true, plainKeys := false, apart := false }
def FnExactDegreeOfSaid : Prop := fnExactDegreeOfRow.holds Try.pinned (OpenSpec.ofChange fnExactDegreeOfSpec)

/-- ITS FALSE NEIGHBOUR: 'it returns false'. Refute it at one input. -/
def fnExactDegreeOfWrong : ChangeSpec := { name := "fnExactDegreeOf", fn := fun _ => fun
  | [d] => { results := [.lit (.bool false)], args := [d] }
  | _ => none }
def FnExactDegreeOfWrongFalsely : Prop := fnExactDegreeOfRow.holds Try.pinned (OpenSpec.ofChange fnExactDegreeOfWrong)

/-- 'laws.FnExactDivideCyclos': WHATEVER THE INPUT: true; the input reads as it did. -/
def fnExactDivideCyclosSpec : ChangeSpec := { name := "fnExactDivideCyclos", fn := fun _ => fun
  | [d1, d2] => { results := [.lit (.bool true)], args := [d1, d2] }
  | _ => none }
def fnExactDivideCyclosRow : OpenClaim := { program := "ytmmcbkikcceenaa", sum := "84c38dda3653decf1d077ab09f325e92f8808a763cc71d037dc55d1360b4708a", func := "loop.example/g01313/laws.FnExactDivideCyclos", spec := "fnExactDivideCyclos", recurses := true, plainKeys := false, apart := false }
def FnExactDivideCyclosSaid : Prop := fnExactDivideCyclosRow.holds Try.pinned (OpenSpec.ofChange fnExactDivideCyclosSpec)

/-- ITS FALSE NEIGHBOUR: 'it returns false'. Refute it at one input. -/
def fnExactDivideCyclosWrong : ChangeSpec := { name := "fnExactDivideCyclos", fn := fun _ => fun
  | [d1, d2] => { results := [.lit (.bool false)], args := [d1, d2] }
  | _ => none }
def FnExactDivideCyclosWrongFalsely : Prop := fnExactDivideCyclosRow.holds Try.pinned (OpenSpec.ofChange fnExactDivideCyclosWrong)

/-- 'laws.FnExactIsUnit': WHATEVER THE INPUT: true; the input reads as it did. -/
def fnExactIsUnitSpec : ChangeSpec := { name := "fnExactIsUnit", fn := fun _ => fun
  | [d] => { results := [.lit (.bool true)], args := [d] }
  | _ => none }
def fnExactIsUnitRow : OpenClaim := { program := "ytmmcbkikcceenaa", sum := "84c38dda3653decf1d077ab09f325e92f8808a763cc71d037dc55d1360b4708a", func := "loop.example/g01313/laws.FnExactIsUnit", spec := "fnExactIsUnit", recurses := true, plainKeys := false, apart := false }
def FnExactIsUnitSaid : Prop := fnExactIsUnitRow.holds Try.pinned (OpenSpec.ofChange fnExactIsUnitSpec)

/-- ITS FALSE NEIGHBOUR: 'it returns false'. Refute it at one input. -/
def fnExactIsUnitWrong : ChangeSpec := { name := "fnExactIsUnit", fn := fun _ => fun
  | [d] => { results := [.lit (.bool false)], args := [d] }
  | _ => none }
def FnExactIsUnitWrongFalsely : Prop := fnExactIsUnitRow.holds Try.pinned (OpenSpec.ofChange fnExactIsUnitWrong)

/-- 'laws.FnExactInverseOf': WHATEVER THE INPUT: true; the input reads as it did. -/
def fnExactInverseOfSpec : ChangeSpec := { name := "fnExactInverseOf", fn := fun _ => fun
  | [d] => { results := [.lit (.bool true)], args := [d] }
  | _ => none }
def fnExactInverseOfRow : OpenClaim := { program := "ytmmcbkikcceenaa", sum := "84c38dda3653decf1d077ab09f325e92f8808a763cc71d037dc55d1360b4708a", func := "loop.example/g01313/laws.FnExactInverseOf", spec := "fnExactInverseOf", recurses := true, plainKeys := false, apart := false }
def FnExactInverseOfSaid : Prop := fnExactInverseOfRow.holds Try.pinned (OpenSpec.ofChange fnExactInverseOfSpec)

/-- ITS FALSE NEIGHBOUR: 'it returns false'. Refute it at one input. -/
def fnExactInverseOfWrong : ChangeSpec := { name := "fnExactInverseOf", fn := fun _ => fun
  | [d] => { results := [.lit (.bool false)], args := [d] }
  | _ => none }
def FnExactInverseOfWrongFalsely : Prop := fnExactInverseOfRow.holds Try.pinned (OpenSpec.ofChange fnExactInverseOfWrong)

/-- 'laws.FnExactAreAssociated': WHATEVER THE INPUT: true; the input reads as it did. -/
def fnExactAreAssociatedSpec : ChangeSpec := { name := "fnExactAreAssociated", fn := fun _ => fun
  | [d1, d2] => { results := [.lit (.bool true)], args := [d1, d2] }
  | _ => none }
def fnExactAreAssociatedRow : OpenClaim := { program := "ytmmcbkikcceenaa", sum := "84c38dda3653decf1d077ab09f325e92f8808a763cc71d037dc55d1360b4708a", func := "loop.example/g01313/laws.FnExactAreAssociated", spec := "fnExactAreAssociated", recurses := true, plainKeys := false, apart := false }
def FnExactAreAssociatedSaid : Prop := fnExactAreAssociatedRow.holds Try.pinned (OpenSpec.ofChange fnExactAreAssociatedSpec)

/-- ITS FALSE NEIGHBOUR: 'it returns false'. Refute it at one input. -/
def fnExactAreAssociatedWrong : ChangeSpec := { name := "fnExactAreAssociated", fn := fun _ => fun
  | [d1, d2] => { results := [.lit (.bool false)], args := [d1, d2] }
  | _ => none }
def FnExactAreAssociatedWrongFalsely : Prop := fnExactAreAssociatedRow.holds Try.pinned (OpenSpec.ofChange fnExactAreAssociatedWrong)

/-- 'laws.FnExactContentOf': WHATEVER THE INPUT: true; the input reads as it did. -/
def fnExactContentOfSpec : ChangeSpec := { name := "fnExactContentOf", fn := fun _ => fun
  | [d] => { results := [.lit (.bool true)], args := [d] }
  | _ => none }
def fnExactContentOfRow : OpenClaim := { program := "ytmmcbkikcceenaa", sum := "84c38dda3653decf1d077ab09f325e92f8808a763cc71d037dc55d1360b4708a", func := "loop.example/g01313/laws.FnExactContentOf", spec := "fnExactContentOf", plainKeys := false, apart := false }
def FnExactContentOfSaid : Prop := fnExactContentOfRow.holds Try.pinned (OpenSpec.ofChange fnExactContentOfSpec)

/-- ITS FALSE NEIGHBOUR: 'it returns false'. Refute it at one input. -/
def fnExactContentOfWrong : ChangeSpec := { name := "fnExactContentOf", fn := fun _ => fun
  | [d] => { results := [.lit (.bool false)], args := [d] }
  | _ => none }
def FnExactContentOfWrongFalsely : Prop := fnExactContentOfRow.holds Try.pinned (OpenSpec.ofChange fnExactContentOfWrong)

/-- 'laws.FnExactFindImage': WHATEVER THE INPUT: true; the input reads as it did. -/
def fnExactFindImageSpec : ChangeSpec := { name := "fnExactFindImage", fn := fun _ => fun
  | [d1, d2] => { results := [.lit (.bool true)], args := [d1, d2] }
  | _ => none }
def fnExactFindImageRow : OpenClaim := { program := "ytmmcbkikcceenaa", sum := "84c38dda3653decf1d077ab09f325e92f8808a763cc71d037dc55d1360b4708a", func := "loop.example/g01313/laws.FnExactFindImage", spec := "fnExactFindImage", recurses := true, plainKeys := false, apart := false }
def FnExactFindImageSaid : Prop := fnExactFindImageRow.holds Try.pinned (OpenSpec.ofChange fnExactFindImageSpec)

/-- ITS FALSE NEIGHBOUR: 'it returns false'. Refute it at one input. -/
def fnExactFindImageWrong : ChangeSpec := { name := "fnExactFindImage", fn := fun _ => fun
  | [d1, d2] => { results := [.lit (.bool false)], args := [d1, d2] }
  | _ => none }
def FnExactFindImageWrongFalsely : Prop := fnExactFindImageRow.holds Try.pinned (OpenSpec.ofChange fnExactFindImageWrong)

/-- 'laws.FnExactSizeOf': WHATEVER THE INPUT: true; the input reads as it did. -/
def fnExactSizeOfSpec : ChangeSpec := { name := "fnExactSizeOf", fn := fun _ => fun
  | [d] => { results := [.lit (.bool true)], args := [d] }
  | _ => none }
def fnExactSizeOfRow : OpenClaim := { program := "ytmmcbkikcceenaa", sum := "84c38dda3653decf1d077ab09f325e92f8808a763cc71d037dc55d1360b4708a", func := "loop.example/g01313/laws.FnExactSizeOf", spec := "fnExactSizeOf", recurses := true, plainKeys := false, apart := false }
def FnExactSizeOfSaid : Prop := fnExactSizeOfRow.holds Try.pinned (OpenSpec.ofChange fnExactSizeOfSpec)

/-- ITS FALSE NEIGHBOUR: 'it returns false'. Refute it at one input. -/
def fnExactSizeOfWrong : ChangeSpec := { name := "fnExactSizeOf", fn := fun _ => fun
  | [d] => { results := [.lit (.bool false)], args := [d] }
  | _ => none }
def FnExactSizeOfWrongFalsely : Prop := fnExactSizeOfRow.holds Try.pinned (OpenSpec.ofChange fnExactSizeOfWrong)

/- THE SECOND FORM. 'bulk': how many values and letters a reading holds, each counted each time it is reached (what is shared counts as often as it is met; a slice's spare places count too). A statement '..UptoSaid' is the law's where the arguments, and the package variables that the reading takes, are together of bulk at most 1048576: NARROWER than '..Said'. Prove '..Said' where nothing that the law and all that it calls make is longer than what came in: it says more and counts as full. Else prove '..UptoSaid'. A law counts once. -/
mutual
def uptoBulk {H : Type} : DataW H → Nat
  | .lit (.string bytes) => bytes.length + 1
  | .lit _ => 1
  | .nil => 1
  | .ptr d => uptoBulk d + 1
  | .slice elems spare => uptoBulkAll elems + uptoBulkAll spare + 1
  | .agg parts => uptoBulkAll parts + 1
  | .iface _ d => uptoBulk d + 1
  | .map entries => uptoBulkEntries entries + 1
  | .held _ => 1
def uptoBulkAll {H : Type} : List (DataW H) → Nat
  | [] => 0
  | d :: r => uptoBulk d + uptoBulkAll r
def uptoBulkEntries {H : Type} : List (Lit × DataW H) → Nat
  | [] => 0
  | x :: r => uptoBulkEntry x + uptoBulkEntries r
def uptoBulkEntry {H : Type} : Lit × DataW H → Nat
  | (.string bytes, d) => bytes.length + uptoBulk d + 1
  | (_, d) => uptoBulk d + 1
 end
def uptoSmall : (H : Type) → List (DataW H) → Bool := fun _ ds => decide (uptoBulkAll ds ≤ 1048576)
def OpenSpec.upto (s : _root_.Go.ChangeSpec) : _root_.Go.OpenSpec := { _root_.Go.OpenSpec.ofChange s with cond := some uptoSmall }

/-- 'laws.FnGalois', WHERE WHAT IT READS IS OF BULK AT MOST 1048576: true; the input reads as it did. -/
def fnGaloisUptoRow : OpenClaim := { program := "ytmmcbkikcceenaa", sum := "84c38dda3653decf1d077ab09f325e92f8808a763cc71d037dc55d1360b4708a", func := "loop.example/g01313/laws.FnGalois", spec := "fnGalois", recurses := true, plainKeys := false, apart := false, narrowed := true }
def FnGaloisUptoSaid : Prop := fnGaloisUptoRow.holds Try.pinned (OpenSpec.upto fnGaloisSpec)

/-- 'laws.FnNorms', WHERE WHAT IT READS IS OF BULK AT MOST 1048576: true; the input reads as it did. -/
def fnNormsUptoRow : OpenClaim := { program := "ytmmcbkikcceenaa", sum := "84c38dda3653decf1d077ab09f325e92f8808a763cc71d037dc55d1360b4708a", func := "loop.example/g01313/laws.FnNorms", spec := "fnNorms", recurses := true, plainKeys := false, apart := false, narrowed := true }
def FnNormsUptoSaid : Prop := fnNormsUptoRow.holds Try.pinned (OpenSpec.upto fnNormsSpec)

/-- 'laws.FnMinimal', WHERE WHAT IT READS IS OF BULK AT MOST 1048576: true; the input reads as it did. -/
def fnMinimalUptoRow : OpenClaim := { program := "ytmmcbkikcceenaa", sum := "84c38dda3653decf1d077ab09f325e92f8808a763cc71d037dc55d1360b4708a", func := "loop.example/g01313/laws.FnMinimal", spec := "fnMinimal", recurses := true, plainKeys := false, apart := false, narrowed := true }
def FnMinimalUptoSaid : Prop := fnMinimalUptoRow.holds Try.pinned (OpenSpec.upto fnMinimalSpec)

/-- 'laws.FnDivision', WHERE WHAT IT READS IS OF BULK AT MOST 1048576: true; the input reads as it did. -/
def fnDivisionUptoRow : OpenClaim := { program := "ytmmcbkikcceenaa", sum := "84c38dda3653decf1d077ab09f325e92f8808a763cc71d037dc55d1360b4708a", func := "loop.example/g01313/laws.FnDivision", spec := "fnDivision", recurses := true, plainKeys := false, apart := false, narrowed := true }
def FnDivisionUptoSaid : Prop := fnDivisionUptoRow.holds Try.pinned (OpenSpec.upto fnDivisionSpec)

/-- 'laws.FnExactMultiplyCyclos', WHERE WHAT IT READS IS OF BULK AT MOST 1048576: true; the input reads as it did. -/
def fnExactMultiplyCyclosUptoRow : OpenClaim := { program := "ytmmcbkikcceenaa", sum := "84c38dda3653decf1d077ab09f325e92f8808a763cc71d037dc55d1360b4708a", func := "loop.example/g01313/laws.FnExactMultiplyCyclos", spec := "fnExactMultiplyCyclos", recurses := true, plainKeys := false, apart := false, narrowed := true }
def FnExactMultiplyCyclosUptoSaid : Prop := fnExactMultiplyCyclosUptoRow.holds Try.pinned (OpenSpec.upto fnExactMultiplyCyclosSpec)

/-- 'laws.FnExactPowerCyclo', WHERE WHAT IT READS IS OF BULK AT MOST 1048576: true; the input reads as it did. -/
def fnExactPowerCycloUptoRow : OpenClaim := { program := "ytmmcbkikcceenaa", sum := "84c38dda3653decf1d077ab09f325e92f8808a763cc71d037dc55d1360b4708a", func := "loop.example/g01313/laws.FnExactPowerCyclo", spec := "fnExactPowerCyclo", recurses := true, plainKeys := false, apart := false, narrowed := true }
def FnExactPowerCycloUptoSaid : Prop := fnExactPowerCycloUptoRow.holds Try.pinned (OpenSpec.upto fnExactPowerCycloSpec)

/-- 'laws.FnExactTraceOf', WHERE WHAT IT READS IS OF BULK AT MOST 1048576: true; the input reads as it did. -/
def fnExactTraceOfUptoRow : OpenClaim := { program := "ytmmcbkikcceenaa", sum := "84c38dda3653decf1d077ab09f325e92f8808a763cc71d037dc55d1360b4708a", func := "loop.example/g01313/laws.FnExactTraceOf", spec := "fnExactTraceOf", recurses := true, plainKeys := false, apart := false, narrowed := true }
def FnExactTraceOfUptoSaid : Prop := fnExactTraceOfUptoRow.holds Try.pinned (OpenSpec.upto fnExactTraceOfSpec)

/-- 'laws.FnExactNormOf', WHERE WHAT IT READS IS OF BULK AT MOST 1048576: true; the input reads as it did. -/
def fnExactNormOfUptoRow : OpenClaim := { program := "ytmmcbkikcceenaa", sum := "84c38dda3653decf1d077ab09f325e92f8808a763cc71d037dc55d1360b4708a", func := "loop.example/g01313/laws.FnExactNormOf", spec := "fnExactNormOf", recurses := true, plainKeys := false, apart := false, narrowed := true }
def FnExactNormOfUptoSaid : Prop := fnExactNormOfUptoRow.holds Try.pinned (OpenSpec.upto fnExactNormOfSpec)

/-- 'laws.FnExactCharacteristicOf', WHERE WHAT IT READS IS OF BULK AT MOST 1048576: true; the input reads as it did. -/
def fnExactCharacteristicOfUptoRow : OpenClaim := { program := "ytmmcbkikcceenaa", sum := "84c38dda3653decf1d077ab09f325e92f8808a763cc71d037dc55d1360b4708a", func := "loop.example/g01313/laws.FnExactCharacteristicOf", spec := "fnExactCharacteristicOf", recurses := true, plainKeys := false, apart := false, narrowed := true }
def FnExactCharacteristicOfUptoSaid : Prop := fnExactCharacteristicOfUptoRow.holds Try.pinned (OpenSpec.upto fnExactCharacteristicOfSpec)

/-- 'laws.FnExactMinimalOf', WHERE WHAT IT READS IS OF BULK AT MOST 1048576: true; the input reads as it did. -/
def fnExactMinimalOfUptoRow : OpenClaim := { program := "ytmmcbkikcceenaa", sum := "84c38dda3653decf1d077ab09f325e92f8808a763cc71d037dc55d1360b4708a", func := "loop.example/g01313/laws.FnExactMinimalOf", spec := "fnExactMinimalOf", recurses := true, plainKeys := false, apart := false, narrowed := true }
def FnExactMinimalOfUptoSaid : Prop := fnExactMinimalOfUptoRow.holds Try.pinned (OpenSpec.upto fnExactMinimalOfSpec)

/-- 'laws.FnExactDegreeOf', WHERE WHAT IT READS IS OF BULK AT MOST 1048576: true; the input reads as it did. -/
def fnExactDegreeOfUptoRow : OpenClaim := { program := "ytmmcbkikcceenaa", sum := "84c38dda3653decf1d077ab09f325e92f8808a763cc71d037dc55d1360b4708a", func := "loop.example/g01313/laws.FnExactDegreeOf", spec := "fnExactDegreeOf", recurses := true, plainKeys := false, apart := false, narrowed := true }
def FnExactDegreeOfUptoSaid : Prop := fnExactDegreeOfUptoRow.holds Try.pinned (OpenSpec.upto fnExactDegreeOfSpec)

/-- 'laws.FnExactDivideCyclos', WHERE WHAT IT READS IS OF BULK AT MOST 1048576: true; the input reads as it did. -/
def fnExactDivideCyclosUptoRow : OpenClaim := { program := "ytmmcbkikcceenaa", sum := "84c38dda3653decf1d077ab09f325e92f8808a763cc71d037dc55d1360b4708a", func := "loop.example/g01313/laws.FnExactDivideCyclos", spec := "fnExactDivideCyclos", recurses := true, plainKeys := false, apart := false, narrowed := true }
def FnExactDivideCyclosUptoSaid : Prop := fnExactDivideCyclosUptoRow.holds Try.pinned (OpenSpec.upto fnExactDivideCyclosSpec)

/-- 'laws.FnExactIsUnit', WHERE WHAT IT READS IS OF BULK AT MOST 1048576: true; the input reads as it did. -/
def fnExactIsUnitUptoRow : OpenClaim := { program := "ytmmcbkikcceenaa", sum := "84c38dda3653decf1d077ab09f325e92f8808a763cc71d037dc55d1360b4708a", func := "loop.example/g01313/laws.FnExactIsUnit", spec := "fnExactIsUnit", recurses := true, plainKeys := false, apart := false, narrowed := true }
def FnExactIsUnitUptoSaid : Prop := fnExactIsUnitUptoRow.holds Try.pinned (OpenSpec.upto fnExactIsUnitSpec)

/-- 'laws.FnExactInverseOf', WHERE WHAT IT READS IS OF BULK AT MOST 1048576: true; the input reads as it did. -/
def fnExactInverseOfUptoRow : OpenClaim := { program := "ytmmcbkikcceenaa", sum := "84c38dda3653decf1d077ab09f325e92f8808a763cc71d037dc55d1360b4708a", func := "loop.example/g01313/laws.FnExactInverseOf", spec := "fnExactInverseOf", recurses := true, plainKeys := false, apart := false, narrowed := true }
def FnExactInverseOfUptoSaid : Prop := fnExactInverseOfUptoRow.holds Try.pinned (OpenSpec.upto fnExactInverseOfSpec)

/-- 'laws.FnExactAreAssociated', WHERE WHAT IT READS IS OF BULK AT MOST 1048576: true; the input reads as it did. -/
def fnExactAreAssociatedUptoRow : OpenClaim := { program := "ytmmcbkikcceenaa", sum := "84c38dda3653decf1d077ab09f325e92f8808a763cc71d037dc55d1360b4708a", func := "loop.example/g01313/laws.FnExactAreAssociated", spec := "fnExactAreAssociated", recurses := true, plainKeys := false, apart := false, narrowed := true }
def FnExactAreAssociatedUptoSaid : Prop := fnExactAreAssociatedUptoRow.holds Try.pinned (OpenSpec.upto fnExactAreAssociatedSpec)

/-- 'laws.FnExactContentOf', WHERE WHAT IT READS IS OF BULK AT MOST 1048576: true; the input reads as it did. -/
def fnExactContentOfUptoRow : OpenClaim := { program := "ytmmcbkikcceenaa", sum := "84c38dda3653decf1d077ab09f325e92f8808a763cc71d037dc55d1360b4708a", func := "loop.example/g01313/laws.FnExactContentOf", spec := "fnExactContentOf", plainKeys := false, apart := false, narrowed := true }
def FnExactContentOfUptoSaid : Prop := fnExactContentOfUptoRow.holds Try.pinned (OpenSpec.upto fnExactContentOfSpec)

/-- 'laws.FnExactFindImage', WHERE WHAT IT READS IS OF BULK AT MOST 1048576: true; the input reads as it did. -/
def fnExactFindImageUptoRow : OpenClaim := { program := "ytmmcbkikcceenaa", sum := "84c38dda3653decf1d077ab09f325e92f8808a763cc71d037dc55d1360b4708a", func := "loop.example/g01313/laws.FnExactFindImage", spec := "fnExactFindImage", recurses := true, plainKeys := false, apart := false, narrowed := true }
def FnExactFindImageUptoSaid : Prop := fnExactFindImageUptoRow.holds Try.pinned (OpenSpec.upto fnExactFindImageSpec)

/-- 'laws.FnExactSizeOf', WHERE WHAT IT READS IS OF BULK AT MOST 1048576: true; the input reads as it did. -/
def fnExactSizeOfUptoRow : OpenClaim := { program := "ytmmcbkikcceenaa", sum := "84c38dda3653decf1d077ab09f325e92f8808a763cc71d037dc55d1360b4708a", func := "loop.example/g01313/laws.FnExactSizeOf", spec := "fnExactSizeOf", recurses := true, plainKeys := false, apart := false, narrowed := true }
def FnExactSizeOfUptoSaid : Prop := fnExactSizeOfUptoRow.holds Try.pinned (OpenSpec.upto fnExactSizeOfSpec)

end Rows
end Go.Proofs.Ytmmcbkikcceenaa
