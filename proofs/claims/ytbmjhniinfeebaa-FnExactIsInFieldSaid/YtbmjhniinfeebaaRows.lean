/-
  No cell of these rows narrows 'for every input' (looked for: loops, veiled, ifaces, maps, wideKeys, modest, calm, conditions, laid).
  DERIVED. THE GIVEN ROWS OF THIS SEAT. 14 by the template 'for every input the law returns true; each argument reads behind the call as it read before'; 0 by the template 'total and deterministic' (their statements: YtbmjhniinfeebaaTotals.lean).
  GIVEN WITH THE SEED: the statements are not yours to turn. If you find one false, say at which input.
  Laid BY PROGRAM, IN A SANDBOX (cutbox-rows.mjs): the forced cells as the released guide's own fill.sh prints them over the translation 0b429b720aa437db… (all of the seat's roots in one cut). By AI agents, Wed Nov 11 2026. No macro, syntax, notation, axiom, sorry.
-/
import Derived.Test.YtbmjhniinfeebaaChecked
import GoSem.Claim
import GoSem.ClaimJoined
import GoSem.ClaimMapViews
import Derived.JoinedTies
import Derived.KernelRfl
namespace Go.Proofs.Ytbmjhniinfeebaa
/- THE CELL 'sum', in the pinned program and in every row, IS THE sha256 OF THE DUMP (.gsa) THAT YtbmjhniinfeebaaProg.lean LOADS. Nothing in Lean hashes anything: it is a label: what it is worth is what the hold of that sum in a sandbox is worth. -/
noncomputable def Try.pinned : Pinned := { name := "ytbmjhniinfeebaa", sum := "0b429b720aa437db23e035160ea3256dbd011d98bc19f8c8c2f64173e1b1bad3", checked := Try.checked }
namespace Rows
def none {H : Type} : Left H := { results := [], args := [] }

/-- 'laws.FnGalois': WHATEVER THE INPUT: true; the input reads as it did. -/
def fnGaloisSpec : ChangeSpec := { name := "fnGalois", fn := fun _ => fun
  | [d] => { results := [.lit (.bool true)], args := [d] }
  | _ => none }
def fnGaloisRow : OpenClaim := { program := "ytbmjhniinfeebaa", sum := "0b429b720aa437db23e035160ea3256dbd011d98bc19f8c8c2f64173e1b1bad3", func := "loop.example/g01313/laws.FnGalois", spec := "fnGalois", recurses := true, plainKeys := false, apart := false }
def FnGaloisSaid : Prop := fnGaloisRow.holds Try.pinned (OpenSpec.ofChange fnGaloisSpec)

/-- ITS FALSE NEIGHBOUR: 'it returns false'. Refute it at one input. -/
def fnGaloisWrong : ChangeSpec := { name := "fnGalois", fn := fun _ => fun
  | [d] => { results := [.lit (.bool false)], args := [d] }
  | _ => none }
def FnGaloisWrongFalsely : Prop := fnGaloisRow.holds Try.pinned (OpenSpec.ofChange fnGaloisWrong)

/-- 'laws.FnExactTotientOf': WHATEVER THE INPUT: true; the input reads as it did. -/
def fnExactTotientOfSpec : ChangeSpec := { name := "fnExactTotientOf", fn := fun _ => fun
  | [d] => { results := [.lit (.bool true)], args := [d] }
  | _ => none }
def fnExactTotientOfRow : OpenClaim := { program := "ytbmjhniinfeebaa", sum := "0b429b720aa437db23e035160ea3256dbd011d98bc19f8c8c2f64173e1b1bad3", func := "loop.example/g01313/laws.FnExactTotientOf", spec := "fnExactTotientOf", plainKeys := false, apart := false }
def FnExactTotientOfSaid : Prop := fnExactTotientOfRow.holds Try.pinned (OpenSpec.ofChange fnExactTotientOfSpec)

/-- ITS FALSE NEIGHBOUR: 'it returns false'. Refute it at one input. -/
def fnExactTotientOfWrong : ChangeSpec := { name := "fnExactTotientOf", fn := fun _ => fun
  | [d] => { results := [.lit (.bool false)], args := [d] }
  | _ => none }
def FnExactTotientOfWrongFalsely : Prop := fnExactTotientOfRow.holds Try.pinned (OpenSpec.ofChange fnExactTotientOfWrong)

/-- 'laws.FnExactCyclotomicPolynomial': WHATEVER THE INPUT: true; the input reads as it did. -/
def fnExactCyclotomicPolynomialSpec : ChangeSpec := { name := "fnExactCyclotomicPolynomial", fn := fun _ => fun
  | [d] => { results := [.lit (.bool true)], args := [d] }
  | _ => none }
def fnExactCyclotomicPolynomialRow : OpenClaim := { program := "ytbmjhniinfeebaa", sum := "0b429b720aa437db23e035160ea3256dbd011d98bc19f8c8c2f64173e1b1bad3", func := "loop.example/g01313/laws.FnExactCyclotomicPolynomial", spec := "fnExactCyclotomicPolynomial", recurses := true, plainKeys := false, apart := false }
def FnExactCyclotomicPolynomialSaid : Prop := fnExactCyclotomicPolynomialRow.holds Try.pinned (OpenSpec.ofChange fnExactCyclotomicPolynomialSpec)

/-- ITS FALSE NEIGHBOUR: 'it returns false'. Refute it at one input. -/
def fnExactCyclotomicPolynomialWrong : ChangeSpec := { name := "fnExactCyclotomicPolynomial", fn := fun _ => fun
  | [d] => { results := [.lit (.bool false)], args := [d] }
  | _ => none }
def FnExactCyclotomicPolynomialWrongFalsely : Prop := fnExactCyclotomicPolynomialRow.holds Try.pinned (OpenSpec.ofChange fnExactCyclotomicPolynomialWrong)

/-- 'laws.FnExactIsCyclo': WHATEVER THE INPUT: true; the input reads as it did. -/
def fnExactIsCycloSpec : ChangeSpec := { name := "fnExactIsCyclo", fn := fun _ => fun
  | [d] => { results := [.lit (.bool true)], args := [d] }
  | _ => none }
def fnExactIsCycloRow : OpenClaim := { program := "ytbmjhniinfeebaa", sum := "0b429b720aa437db23e035160ea3256dbd011d98bc19f8c8c2f64173e1b1bad3", func := "loop.example/g01313/laws.FnExactIsCyclo", spec := "fnExactIsCyclo", plainKeys := false, apart := false }
def FnExactIsCycloSaid : Prop := fnExactIsCycloRow.holds Try.pinned (OpenSpec.ofChange fnExactIsCycloSpec)

/-- ITS FALSE NEIGHBOUR: 'it returns false'. Refute it at one input. -/
def fnExactIsCycloWrong : ChangeSpec := { name := "fnExactIsCyclo", fn := fun _ => fun
  | [d] => { results := [.lit (.bool false)], args := [d] }
  | _ => none }
def FnExactIsCycloWrongFalsely : Prop := fnExactIsCycloRow.holds Try.pinned (OpenSpec.ofChange fnExactIsCycloWrong)

/-- 'laws.FnExactCycloOf': WHATEVER THE INPUT: true; the input reads as it did. -/
def fnExactCycloOfSpec : ChangeSpec := { name := "fnExactCycloOf", fn := fun _ => fun
  | [d1, d2] => { results := [.lit (.bool true)], args := [d1, d2] }
  | _ => none }
def fnExactCycloOfRow : OpenClaim := { program := "ytbmjhniinfeebaa", sum := "0b429b720aa437db23e035160ea3256dbd011d98bc19f8c8c2f64173e1b1bad3", func := "loop.example/g01313/laws.FnExactCycloOf", spec := "fnExactCycloOf", recurses := true, plainKeys := false, apart := false }
def FnExactCycloOfSaid : Prop := fnExactCycloOfRow.holds Try.pinned (OpenSpec.ofChange fnExactCycloOfSpec)

/-- ITS FALSE NEIGHBOUR: 'it returns false'. Refute it at one input. -/
def fnExactCycloOfWrong : ChangeSpec := { name := "fnExactCycloOf", fn := fun _ => fun
  | [d1, d2] => { results := [.lit (.bool false)], args := [d1, d2] }
  | _ => none }
def FnExactCycloOfWrongFalsely : Prop := fnExactCycloOfRow.holds Try.pinned (OpenSpec.ofChange fnExactCycloOfWrong)

/-- 'laws.FnExactPowerOfZ': WHATEVER THE INPUT: true; the input reads as it did. -/
def fnExactPowerOfZSpec : ChangeSpec := { name := "fnExactPowerOfZ", fn := fun _ => fun
  | [d1, d2] => { results := [.lit (.bool true)], args := [d1, d2] }
  | _ => none }
def fnExactPowerOfZRow : OpenClaim := { program := "ytbmjhniinfeebaa", sum := "0b429b720aa437db23e035160ea3256dbd011d98bc19f8c8c2f64173e1b1bad3", func := "loop.example/g01313/laws.FnExactPowerOfZ", spec := "fnExactPowerOfZ", recurses := true, plainKeys := false, apart := false }
def FnExactPowerOfZSaid : Prop := fnExactPowerOfZRow.holds Try.pinned (OpenSpec.ofChange fnExactPowerOfZSpec)

/-- ITS FALSE NEIGHBOUR: 'it returns false'. Refute it at one input. -/
def fnExactPowerOfZWrong : ChangeSpec := { name := "fnExactPowerOfZ", fn := fun _ => fun
  | [d1, d2] => { results := [.lit (.bool false)], args := [d1, d2] }
  | _ => none }
def FnExactPowerOfZWrongFalsely : Prop := fnExactPowerOfZRow.holds Try.pinned (OpenSpec.ofChange fnExactPowerOfZWrong)

/-- 'laws.FnExactAddCyclos': WHATEVER THE INPUT: true; the input reads as it did. -/
def fnExactAddCyclosSpec : ChangeSpec := { name := "fnExactAddCyclos", fn := fun _ => fun
  | [d1, d2, d3] => { results := [.lit (.bool true)], args := [d1, d2, d3] }
  | _ => none }
def fnExactAddCyclosRow : OpenClaim := { program := "ytbmjhniinfeebaa", sum := "0b429b720aa437db23e035160ea3256dbd011d98bc19f8c8c2f64173e1b1bad3", func := "loop.example/g01313/laws.FnExactAddCyclos", spec := "fnExactAddCyclos", plainKeys := false, apart := false }
def FnExactAddCyclosSaid : Prop := fnExactAddCyclosRow.holds Try.pinned (OpenSpec.ofChange fnExactAddCyclosSpec)

/-- ITS FALSE NEIGHBOUR: 'it returns false'. Refute it at one input. -/
def fnExactAddCyclosWrong : ChangeSpec := { name := "fnExactAddCyclos", fn := fun _ => fun
  | [d1, d2, d3] => { results := [.lit (.bool false)], args := [d1, d2, d3] }
  | _ => none }
def FnExactAddCyclosWrongFalsely : Prop := fnExactAddCyclosRow.holds Try.pinned (OpenSpec.ofChange fnExactAddCyclosWrong)

/-- 'laws.FnExactMultiplyCyclos': WHATEVER THE INPUT: true; the input reads as it did. -/
def fnExactMultiplyCyclosSpec : ChangeSpec := { name := "fnExactMultiplyCyclos", fn := fun _ => fun
  | [d1, d2] => { results := [.lit (.bool true)], args := [d1, d2] }
  | _ => none }
def fnExactMultiplyCyclosRow : OpenClaim := { program := "ytbmjhniinfeebaa", sum := "0b429b720aa437db23e035160ea3256dbd011d98bc19f8c8c2f64173e1b1bad3", func := "loop.example/g01313/laws.FnExactMultiplyCyclos", spec := "fnExactMultiplyCyclos", recurses := true, plainKeys := false, apart := false }
def FnExactMultiplyCyclosSaid : Prop := fnExactMultiplyCyclosRow.holds Try.pinned (OpenSpec.ofChange fnExactMultiplyCyclosSpec)

/-- ITS FALSE NEIGHBOUR: 'it returns false'. Refute it at one input. -/
def fnExactMultiplyCyclosWrong : ChangeSpec := { name := "fnExactMultiplyCyclos", fn := fun _ => fun
  | [d1, d2] => { results := [.lit (.bool false)], args := [d1, d2] }
  | _ => none }
def FnExactMultiplyCyclosWrongFalsely : Prop := fnExactMultiplyCyclosRow.holds Try.pinned (OpenSpec.ofChange fnExactMultiplyCyclosWrong)

/-- 'laws.FnExactPowerCyclo': WHATEVER THE INPUT: true; the input reads as it did. -/
def fnExactPowerCycloSpec : ChangeSpec := { name := "fnExactPowerCyclo", fn := fun _ => fun
  | [d1, d2] => { results := [.lit (.bool true)], args := [d1, d2] }
  | _ => none }
def fnExactPowerCycloRow : OpenClaim := { program := "ytbmjhniinfeebaa", sum := "0b429b720aa437db23e035160ea3256dbd011d98bc19f8c8c2f64173e1b1bad3", func := "loop.example/g01313/laws.FnExactPowerCyclo", spec := "fnExactPowerCyclo", recurses := true, plainKeys := false, apart := false }
def FnExactPowerCycloSaid : Prop := fnExactPowerCycloRow.holds Try.pinned (OpenSpec.ofChange fnExactPowerCycloSpec)

/-- ITS FALSE NEIGHBOUR: 'it returns false'. Refute it at one input. -/
def fnExactPowerCycloWrong : ChangeSpec := { name := "fnExactPowerCyclo", fn := fun _ => fun
  | [d1, d2] => { results := [.lit (.bool false)], args := [d1, d2] }
  | _ => none }
def FnExactPowerCycloWrongFalsely : Prop := fnExactPowerCycloRow.holds Try.pinned (OpenSpec.ofChange fnExactPowerCycloWrong)

/-- 'laws.FnExactGaloisImage': WHATEVER THE INPUT: true; the input reads as it did. -/
def fnExactGaloisImageSpec : ChangeSpec := { name := "fnExactGaloisImage", fn := fun _ => fun
  | [d1, d2] => { results := [.lit (.bool true)], args := [d1, d2] }
  | _ => none }
def fnExactGaloisImageRow : OpenClaim := { program := "ytbmjhniinfeebaa", sum := "0b429b720aa437db23e035160ea3256dbd011d98bc19f8c8c2f64173e1b1bad3", func := "loop.example/g01313/laws.FnExactGaloisImage", spec := "fnExactGaloisImage", recurses := true, plainKeys := false, apart := false }
def FnExactGaloisImageSaid : Prop := fnExactGaloisImageRow.holds Try.pinned (OpenSpec.ofChange fnExactGaloisImageSpec)

/-- ITS FALSE NEIGHBOUR: 'it returns false'. Refute it at one input. -/
def fnExactGaloisImageWrong : ChangeSpec := { name := "fnExactGaloisImage", fn := fun _ => fun
  | [d1, d2] => { results := [.lit (.bool false)], args := [d1, d2] }
  | _ => none }
def FnExactGaloisImageWrongFalsely : Prop := fnExactGaloisImageRow.holds Try.pinned (OpenSpec.ofChange fnExactGaloisImageWrong)

/-- 'laws.FnExactConjugateOf': WHATEVER THE INPUT: true; the input reads as it did. -/
def fnExactConjugateOfSpec : ChangeSpec := { name := "fnExactConjugateOf", fn := fun _ => fun
  | [d] => { results := [.lit (.bool true)], args := [d] }
  | _ => none }
def fnExactConjugateOfRow : OpenClaim := { program := "ytbmjhniinfeebaa", sum := "0b429b720aa437db23e035160ea3256dbd011d98bc19f8c8c2f64173e1b1bad3", func := "loop.example/g01313/laws.FnExactConjugateOf", spec := "fnExactConjugateOf", recurses := true, plainKeys := false, apart := false }
def FnExactConjugateOfSaid : Prop := fnExactConjugateOfRow.holds Try.pinned (OpenSpec.ofChange fnExactConjugateOfSpec)

/-- ITS FALSE NEIGHBOUR: 'it returns false'. Refute it at one input. -/
def fnExactConjugateOfWrong : ChangeSpec := { name := "fnExactConjugateOf", fn := fun _ => fun
  | [d] => { results := [.lit (.bool false)], args := [d] }
  | _ => none }
def FnExactConjugateOfWrongFalsely : Prop := fnExactConjugateOfRow.holds Try.pinned (OpenSpec.ofChange fnExactConjugateOfWrong)

/-- 'laws.FnExactIsReal': WHATEVER THE INPUT: true; the input reads as it did. -/
def fnExactIsRealSpec : ChangeSpec := { name := "fnExactIsReal", fn := fun _ => fun
  | [d] => { results := [.lit (.bool true)], args := [d] }
  | _ => none }
def fnExactIsRealRow : OpenClaim := { program := "ytbmjhniinfeebaa", sum := "0b429b720aa437db23e035160ea3256dbd011d98bc19f8c8c2f64173e1b1bad3", func := "loop.example/g01313/laws.FnExactIsReal", spec := "fnExactIsReal", recurses := true, plainKeys := false, apart := false }
def FnExactIsRealSaid : Prop := fnExactIsRealRow.holds Try.pinned (OpenSpec.ofChange fnExactIsRealSpec)

/-- ITS FALSE NEIGHBOUR: 'it returns false'. Refute it at one input. -/
def fnExactIsRealWrong : ChangeSpec := { name := "fnExactIsReal", fn := fun _ => fun
  | [d] => { results := [.lit (.bool false)], args := [d] }
  | _ => none }
def FnExactIsRealWrongFalsely : Prop := fnExactIsRealRow.holds Try.pinned (OpenSpec.ofChange fnExactIsRealWrong)

/-- 'laws.FnExactLiftCyclo': WHATEVER THE INPUT: true; the input reads as it did. -/
def fnExactLiftCycloSpec : ChangeSpec := { name := "fnExactLiftCyclo", fn := fun _ => fun
  | [d1, d2] => { results := [.lit (.bool true)], args := [d1, d2] }
  | _ => none }
def fnExactLiftCycloRow : OpenClaim := { program := "ytbmjhniinfeebaa", sum := "0b429b720aa437db23e035160ea3256dbd011d98bc19f8c8c2f64173e1b1bad3", func := "loop.example/g01313/laws.FnExactLiftCyclo", spec := "fnExactLiftCyclo", recurses := true, plainKeys := false, apart := false }
def FnExactLiftCycloSaid : Prop := fnExactLiftCycloRow.holds Try.pinned (OpenSpec.ofChange fnExactLiftCycloSpec)

/-- ITS FALSE NEIGHBOUR: 'it returns false'. Refute it at one input. -/
def fnExactLiftCycloWrong : ChangeSpec := { name := "fnExactLiftCyclo", fn := fun _ => fun
  | [d1, d2] => { results := [.lit (.bool false)], args := [d1, d2] }
  | _ => none }
def FnExactLiftCycloWrongFalsely : Prop := fnExactLiftCycloRow.holds Try.pinned (OpenSpec.ofChange fnExactLiftCycloWrong)

/-- 'laws.FnExactIsInField': WHATEVER THE INPUT: true; the input reads as it did. -/
def fnExactIsInFieldSpec : ChangeSpec := { name := "fnExactIsInField", fn := fun _ => fun
  | [d1, d2] => { results := [.lit (.bool true)], args := [d1, d2] }
  | _ => none }
def fnExactIsInFieldRow : OpenClaim := { program := "ytbmjhniinfeebaa", sum := "0b429b720aa437db23e035160ea3256dbd011d98bc19f8c8c2f64173e1b1bad3", func := "loop.example/g01313/laws.FnExactIsInField", spec := "fnExactIsInField", recurses := true, plainKeys := false, apart := false }
def FnExactIsInFieldSaid : Prop := fnExactIsInFieldRow.holds Try.pinned (OpenSpec.ofChange fnExactIsInFieldSpec)

/-- ITS FALSE NEIGHBOUR: 'it returns false'. Refute it at one input. -/
def fnExactIsInFieldWrong : ChangeSpec := { name := "fnExactIsInField", fn := fun _ => fun
  | [d1, d2] => { results := [.lit (.bool false)], args := [d1, d2] }
  | _ => none }
def FnExactIsInFieldWrongFalsely : Prop := fnExactIsInFieldRow.holds Try.pinned (OpenSpec.ofChange fnExactIsInFieldWrong)

/- THE SECOND FORM. 'bulk': how many values and letters a reading holds, each counted each time it is reached (what is shared counts as often as it is met; a slice's spare places count too). A statement '..UptoSaid' is the law's where the arguments, and the package variables that the reading takes, are together of bulk at most 1048576: NARROWER than '..Said'. Prove '..Said' where nothing that the law and all that it calls make is longer than what came in: it says more and counts as full. Else prove '..UptoSaid'. A law counts once. -/
mutual
def uptoBulk {H : Type} : DataW H → Nat
  | .lit (.string bytes) => bytes.length + 1
  | .lit _ => 1
  | .nil => 1
  | .ptr d => uptoBulk d + 1
  | .slice elems spare => uptoBulkAll elems + uptoBulkAll spare + 1
  | .agg parts => uptoBulkAll parts + 1
  | .iface _ d => uptoBulk d + 1
  | .map entries => uptoBulkEntries entries + 1
  | .held _ => 1
def uptoBulkAll {H : Type} : List (DataW H) → Nat
  | [] => 0
  | d :: r => uptoBulk d + uptoBulkAll r
def uptoBulkEntries {H : Type} : List (Lit × DataW H) → Nat
  | [] => 0
  | x :: r => uptoBulkEntry x + uptoBulkEntries r
def uptoBulkEntry {H : Type} : Lit × DataW H → Nat
  | (.string bytes, d) => bytes.length + uptoBulk d + 1
  | (_, d) => uptoBulk d + 1
 end
def uptoSmall : (H : Type) → List (DataW H) → Bool := fun _ ds => decide (uptoBulkAll ds ≤ 1048576)
def OpenSpec.upto (s : _root_.Go.ChangeSpec) : _root_.Go.OpenSpec := { _root_.Go.OpenSpec.ofChange s with cond := some uptoSmall }

/-- 'laws.FnGalois', WHERE WHAT IT READS IS OF BULK AT MOST 1048576: true; the input reads as it did. -/
def fnGaloisUptoRow : OpenClaim := { program := "ytbmjhniinfeebaa", sum := "0b429b720aa437db23e035160ea3256dbd011d98bc19f8c8c2f64173e1b1bad3", func := "loop.example/g01313/laws.FnGalois", spec := "fnGalois", recurses := true, plainKeys := false, apart := false, narrowed := true }
def FnGaloisUptoSaid : Prop := fnGaloisUptoRow.holds Try.pinned (OpenSpec.upto fnGaloisSpec)

/-- 'laws.FnExactTotientOf', WHERE WHAT IT READS IS OF BULK AT MOST 1048576: true; the input reads as it did. -/
def fnExactTotientOfUptoRow : OpenClaim := { program := "ytbmjhniinfeebaa", sum := "0b429b720aa437db23e035160ea3256dbd011d98bc19f8c8c2f64173e1b1bad3", func := "loop.example/g01313/laws.FnExactTotientOf", spec := "fnExactTotientOf", plainKeys := false, apart := false, narrowed := true }
def FnExactTotientOfUptoSaid : Prop := fnExactTotientOfUptoRow.holds Try.pinned (OpenSpec.upto fnExactTotientOfSpec)

/-- 'laws.FnExactCyclotomicPolynomial', WHERE WHAT IT READS IS OF BULK AT MOST 1048576: true; the input reads as it did. -/
def fnExactCyclotomicPolynomialUptoRow : OpenClaim := { program := "ytbmjhniinfeebaa", sum := "0b429b720aa437db23e035160ea3256dbd011d98bc19f8c8c2f64173e1b1bad3", func := "loop.example/g01313/laws.FnExactCyclotomicPolynomial", spec := "fnExactCyclotomicPolynomial", recurses := true, plainKeys := false, apart := false, narrowed := true }
def FnExactCyclotomicPolynomialUptoSaid : Prop := fnExactCyclotomicPolynomialUptoRow.holds Try.pinned (OpenSpec.upto fnExactCyclotomicPolynomialSpec)

/-- 'laws.FnExactIsCyclo', WHERE WHAT IT READS IS OF BULK AT MOST 1048576: true; the input reads as it did. -/
def fnExactIsCycloUptoRow : OpenClaim := { program := "ytbmjhniinfeebaa", sum := "0b429b720aa437db23e035160ea3256dbd011d98bc19f8c8c2f64173e1b1bad3", func := "loop.example/g01313/laws.FnExactIsCyclo", spec := "fnExactIsCyclo", plainKeys := false, apart := false, narrowed := true }
def FnExactIsCycloUptoSaid : Prop := fnExactIsCycloUptoRow.holds Try.pinned (OpenSpec.upto fnExactIsCycloSpec)

/-- 'laws.FnExactCycloOf', WHERE WHAT IT READS IS OF BULK AT MOST 1048576: true; the input reads as it did. -/
def fnExactCycloOfUptoRow : OpenClaim := { program := "ytbmjhniinfeebaa", sum := "0b429b720aa437db23e035160ea3256dbd011d98bc19f8c8c2f64173e1b1bad3", func := "loop.example/g01313/laws.FnExactCycloOf", spec := "fnExactCycloOf", recurses := true, plainKeys := false, apart := false, narrowed := true }
def FnExactCycloOfUptoSaid : Prop := fnExactCycloOfUptoRow.holds Try.pinned (OpenSpec.upto fnExactCycloOfSpec)

/-- 'laws.FnExactPowerOfZ', WHERE WHAT IT READS IS OF BULK AT MOST 1048576: true; the input reads as it did. -/
def fnExactPowerOfZUptoRow : OpenClaim := { program := "ytbmjhniinfeebaa", sum := "0b429b720aa437db23e035160ea3256dbd011d98bc19f8c8c2f64173e1b1bad3", func := "loop.example/g01313/laws.FnExactPowerOfZ", spec := "fnExactPowerOfZ", recurses := true, plainKeys := false, apart := false, narrowed := true }
def FnExactPowerOfZUptoSaid : Prop := fnExactPowerOfZUptoRow.holds Try.pinned (OpenSpec.upto fnExactPowerOfZSpec)

/-- 'laws.FnExactAddCyclos', WHERE WHAT IT READS IS OF BULK AT MOST 1048576: true; the input reads as it did. -/
def fnExactAddCyclosUptoRow : OpenClaim := { program := "ytbmjhniinfeebaa", sum := "0b429b720aa437db23e035160ea3256dbd011d98bc19f8c8c2f64173e1b1bad3", func := "loop.example/g01313/laws.FnExactAddCyclos", spec := "fnExactAddCyclos", plainKeys := false, apart := false, narrowed := true }
def FnExactAddCyclosUptoSaid : Prop := fnExactAddCyclosUptoRow.holds Try.pinned (OpenSpec.upto fnExactAddCyclosSpec)

/-- 'laws.FnExactMultiplyCyclos', WHERE WHAT IT READS IS OF BULK AT MOST 1048576: true; the input reads as it did. -/
def fnExactMultiplyCyclosUptoRow : OpenClaim := { program := "ytbmjhniinfeebaa", sum := "0b429b720aa437db23e035160ea3256dbd011d98bc19f8c8c2f64173e1b1bad3", func := "loop.example/g01313/laws.FnExactMultiplyCyclos", spec := "fnExactMultiplyCyclos", recurses := true, plainKeys := false, apart := false, narrowed := true }
def FnExactMultiplyCyclosUptoSaid : Prop := fnExactMultiplyCyclosUptoRow.holds Try.pinned (OpenSpec.upto fnExactMultiplyCyclosSpec)

/-- 'laws.FnExactPowerCyclo', WHERE WHAT IT READS IS OF BULK AT MOST 1048576: true; the input reads as it did. -/
def fnExactPowerCycloUptoRow : OpenClaim := { program := "ytbmjhniinfeebaa", sum := "0b429b720aa437db23e035160ea3256dbd011d98bc19f8c8c2f64173e1b1bad3", func := "loop.example/g01313/laws.FnExactPowerCyclo", spec := "fnExactPowerCyclo", recurses := true, plainKeys := false, apart := false, narrowed := true }
def FnExactPowerCycloUptoSaid : Prop := fnExactPowerCycloUptoRow.holds Try.pinned (OpenSpec.upto fnExactPowerCycloSpec)

/-- 'laws.FnExactGaloisImage', WHERE WHAT IT READS IS OF BULK AT MOST 1048576: true; the input reads as it did. -/
def fnExactGaloisImageUptoRow : OpenClaim := { program := "ytbmjhniinfeebaa", sum := "0b429b720aa437db23e035160ea3256dbd011d98bc19f8c8c2f64173e1b1bad3", func := "loop.example/g01313/laws.FnExactGaloisImage", spec := "fnExactGaloisImage", recurses := true, plainKeys := false, apart := false, narrowed := true }
def FnExactGaloisImageUptoSaid : Prop := fnExactGaloisImageUptoRow.holds Try.pinned (OpenSpec.upto fnExactGaloisImageSpec)

/-- 'laws.FnExactConjugateOf', WHERE WHAT IT READS IS OF BULK AT MOST 1048576: true; the input reads as it did. -/
def fnExactConjugateOfUptoRow : OpenClaim := { program := "ytbmjhniinfeebaa", sum := "0b429b720aa437db23e035160ea3256dbd011d98bc19f8c8c2f64173e1b1bad3", func := "loop.example/g01313/laws.FnExactConjugateOf", spec := "fnExactConjugateOf", recurses := true, plainKeys := false, apart := false, narrowed := true }
def FnExactConjugateOfUptoSaid : Prop := fnExactConjugateOfUptoRow.holds Try.pinned (OpenSpec.upto fnExactConjugateOfSpec)

/-- 'laws.FnExactIsReal', WHERE WHAT IT READS IS OF BULK AT MOST 1048576: true; the input reads as it did. -/
def fnExactIsRealUptoRow : OpenClaim := { program := "ytbmjhniinfeebaa", sum := "0b429b720aa437db23e035160ea3256dbd011d98bc19f8c8c2f64173e1b1bad3", func := "loop.example/g01313/laws.FnExactIsReal", spec := "fnExactIsReal", recurses := true, plainKeys := false, apart := false, narrowed := true }
def FnExactIsRealUptoSaid : Prop := fnExactIsRealUptoRow.holds Try.pinned (OpenSpec.upto fnExactIsRealSpec)

/-- 'laws.FnExactLiftCyclo', WHERE WHAT IT READS IS OF BULK AT MOST 1048576: true; the input reads as it did. -/
def fnExactLiftCycloUptoRow : OpenClaim := { program := "ytbmjhniinfeebaa", sum := "0b429b720aa437db23e035160ea3256dbd011d98bc19f8c8c2f64173e1b1bad3", func := "loop.example/g01313/laws.FnExactLiftCyclo", spec := "fnExactLiftCyclo", recurses := true, plainKeys := false, apart := false, narrowed := true }
def FnExactLiftCycloUptoSaid : Prop := fnExactLiftCycloUptoRow.holds Try.pinned (OpenSpec.upto fnExactLiftCycloSpec)

/-- 'laws.FnExactIsInField', WHERE WHAT IT READS IS OF BULK AT MOST 1048576: true; the input reads as it did. -/
def fnExactIsInFieldUptoRow : OpenClaim := { program := "ytbmjhniinfeebaa", sum := "0b429b720aa437db23e035160ea3256dbd011d98bc19f8c8c2f64173e1b1bad3", func := "loop.example/g01313/laws.FnExactIsInField", spec := "fnExactIsInField", recurses := true, plainKeys := false, apart := false, narrowed := true }
def FnExactIsInFieldUptoSaid : Prop := fnExactIsInFieldUptoRow.holds Try.pinned (OpenSpec.upto fnExactIsInFieldSpec)

end Rows
end Go.Proofs.Ytbmjhniinfeebaa
