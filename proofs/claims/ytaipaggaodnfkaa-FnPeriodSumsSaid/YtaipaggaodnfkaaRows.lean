/-
  No cell of these rows narrows 'for every input' (looked for: loops, veiled, ifaces, maps, wideKeys, modest, calm, conditions, laid).
  DERIVED. THE GIVEN ROWS OF THIS SEAT. 13 by the template 'for every input the law returns true; each argument reads behind the call as it read before'; 0 by the template 'total and deterministic' (their statements: YtaipaggaodnfkaaTotals.lean).
  GIVEN WITH THE SEED: the statements are not yours to turn. If you find one false, say at which input.
  Laid BY PROGRAM, IN A SANDBOX (cutbox-rows.mjs): the forced cells as the released guide's own fill.sh prints them over the translation a81258f9058f9f44… (all of the seat's roots in one cut). By AI agents, Wed Nov 11 2026. No macro, syntax, notation, axiom, sorry.
-/
import Derived.Test.YtaipaggaodnfkaaChecked
import GoSem.Claim
import GoSem.ClaimJoined
import GoSem.ClaimMapViews
import Derived.JoinedTies
import Derived.KernelRfl
namespace Go.Proofs.Ytaipaggaodnfkaa
/- THE CELL 'sum', in the pinned program and in every row, IS THE sha256 OF THE DUMP (.gsa) THAT YtaipaggaodnfkaaProg.lean LOADS. Nothing in Lean hashes anything: it is a label: what it is worth is what the hold of that sum in a sandbox is worth. -/
noncomputable def Try.pinned : Pinned := { name := "ytaipaggaodnfkaa", sum := "a81258f9058f9f444998dae54acd38c16cd692196e2dea9aa01a937287a81c05", checked := Try.checked }
namespace Rows
def none {H : Type} : Left H := { results := [], args := [] }

/-- 'laws.FnPeriods': WHATEVER THE INPUT: true; the input reads as it did. -/
def fnPeriodsSpec : ChangeSpec := { name := "fnPeriods", fn := fun _ => fun
  | [d] => { results := [.lit (.bool true)], args := [d] }
  | _ => none }
def fnPeriodsRow : OpenClaim := { program := "ytaipaggaodnfkaa", sum := "a81258f9058f9f444998dae54acd38c16cd692196e2dea9aa01a937287a81c05", func := "loop.example/g01313/laws.FnPeriods", spec := "fnPeriods", unfollowed := true, recurses := true, apart := false }
def FnPeriodsSaid : Prop := fnPeriodsRow.holds Try.pinned (OpenSpec.ofChange fnPeriodsSpec)

/-- ITS FALSE NEIGHBOUR: 'it returns false'. Refute it at one input. -/
def fnPeriodsWrong : ChangeSpec := { name := "fnPeriods", fn := fun _ => fun
  | [d] => { results := [.lit (.bool false)], args := [d] }
  | _ => none }
def FnPeriodsWrongFalsely : Prop := fnPeriodsRow.holds Try.pinned (OpenSpec.ofChange fnPeriodsWrong)

/-- 'laws.FnPeriodSums': WHATEVER THE INPUT: true; the input reads as it did. -/
def fnPeriodSumsSpec : ChangeSpec := { name := "fnPeriodSums", fn := fun _ => fun
  | [d] => { results := [.lit (.bool true)], args := [d] }
  | _ => none }
def fnPeriodSumsRow : OpenClaim := { program := "ytaipaggaodnfkaa", sum := "a81258f9058f9f444998dae54acd38c16cd692196e2dea9aa01a937287a81c05", func := "loop.example/g01313/laws.FnPeriodSums", spec := "fnPeriodSums", unfollowed := true, recurses := true, apart := false }
def FnPeriodSumsSaid : Prop := fnPeriodSumsRow.holds Try.pinned (OpenSpec.ofChange fnPeriodSumsSpec)

/-- ITS FALSE NEIGHBOUR: 'it returns false'. Refute it at one input. -/
def fnPeriodSumsWrong : ChangeSpec := { name := "fnPeriodSums", fn := fun _ => fun
  | [d] => { results := [.lit (.bool false)], args := [d] }
  | _ => none }
def FnPeriodSumsWrongFalsely : Prop := fnPeriodSumsRow.holds Try.pinned (OpenSpec.ofChange fnPeriodSumsWrong)

/-- 'laws.FnExactClassOf': WHATEVER THE INPUT: true; the input reads as it did. -/
def fnExactClassOfSpec : ChangeSpec := { name := "fnExactClassOf", fn := fun _ => fun
  | [d1, d2, d3] => { results := [.lit (.bool true)], args := [d1, d2, d3] }
  | _ => none }
def fnExactClassOfRow : OpenClaim := { program := "ytaipaggaodnfkaa", sum := "a81258f9058f9f444998dae54acd38c16cd692196e2dea9aa01a937287a81c05", func := "loop.example/g01313/laws.FnExactClassOf", spec := "fnExactClassOf", unfollowed := true, recurses := true, apart := false }
def FnExactClassOfSaid : Prop := fnExactClassOfRow.holds Try.pinned (OpenSpec.ofChange fnExactClassOfSpec)

/-- ITS FALSE NEIGHBOUR: 'it returns false'. Refute it at one input. -/
def fnExactClassOfWrong : ChangeSpec := { name := "fnExactClassOf", fn := fun _ => fun
  | [d1, d2, d3] => { results := [.lit (.bool false)], args := [d1, d2, d3] }
  | _ => none }
def FnExactClassOfWrongFalsely : Prop := fnExactClassOfRow.holds Try.pinned (OpenSpec.ofChange fnExactClassOfWrong)

/-- 'laws.FnExactClassMembers': WHATEVER THE INPUT: true; the input reads as it did. -/
def fnExactClassMembersSpec : ChangeSpec := { name := "fnExactClassMembers", fn := fun _ => fun
  | [d1, d2, d3] => { results := [.lit (.bool true)], args := [d1, d2, d3] }
  | _ => none }
def fnExactClassMembersRow : OpenClaim := { program := "ytaipaggaodnfkaa", sum := "a81258f9058f9f444998dae54acd38c16cd692196e2dea9aa01a937287a81c05", func := "loop.example/g01313/laws.FnExactClassMembers", spec := "fnExactClassMembers", unfollowed := true, recurses := true, apart := false }
def FnExactClassMembersSaid : Prop := fnExactClassMembersRow.holds Try.pinned (OpenSpec.ofChange fnExactClassMembersSpec)

/-- ITS FALSE NEIGHBOUR: 'it returns false'. Refute it at one input. -/
def fnExactClassMembersWrong : ChangeSpec := { name := "fnExactClassMembers", fn := fun _ => fun
  | [d1, d2, d3] => { results := [.lit (.bool false)], args := [d1, d2, d3] }
  | _ => none }
def FnExactClassMembersWrongFalsely : Prop := fnExactClassMembersRow.holds Try.pinned (OpenSpec.ofChange fnExactClassMembersWrong)

/-- 'laws.FnExactCyclotomicNumber': WHATEVER THE INPUT: true; the input reads as it did. -/
def fnExactCyclotomicNumberSpec : ChangeSpec := { name := "fnExactCyclotomicNumber", fn := fun _ => fun
  | [d1, d2, d3, d4] => { results := [.lit (.bool true)], args := [d1, d2, d3, d4] }
  | _ => none }
def fnExactCyclotomicNumberRow : OpenClaim := { program := "ytaipaggaodnfkaa", sum := "a81258f9058f9f444998dae54acd38c16cd692196e2dea9aa01a937287a81c05", func := "loop.example/g01313/laws.FnExactCyclotomicNumber", spec := "fnExactCyclotomicNumber", unfollowed := true, recurses := true, apart := false }
def FnExactCyclotomicNumberSaid : Prop := fnExactCyclotomicNumberRow.holds Try.pinned (OpenSpec.ofChange fnExactCyclotomicNumberSpec)

/-- ITS FALSE NEIGHBOUR: 'it returns false'. Refute it at one input. -/
def fnExactCyclotomicNumberWrong : ChangeSpec := { name := "fnExactCyclotomicNumber", fn := fun _ => fun
  | [d1, d2, d3, d4] => { results := [.lit (.bool false)], args := [d1, d2, d3, d4] }
  | _ => none }
def FnExactCyclotomicNumberWrongFalsely : Prop := fnExactCyclotomicNumberRow.holds Try.pinned (OpenSpec.ofChange fnExactCyclotomicNumberWrong)

/-- 'laws.FnExactCyclotomicTable': WHATEVER THE INPUT: true; the input reads as it did. -/
def fnExactCyclotomicTableSpec : ChangeSpec := { name := "fnExactCyclotomicTable", fn := fun _ => fun
  | [d1, d2] => { results := [.lit (.bool true)], args := [d1, d2] }
  | _ => none }
def fnExactCyclotomicTableRow : OpenClaim := { program := "ytaipaggaodnfkaa", sum := "a81258f9058f9f444998dae54acd38c16cd692196e2dea9aa01a937287a81c05", func := "loop.example/g01313/laws.FnExactCyclotomicTable", spec := "fnExactCyclotomicTable", unfollowed := true, recurses := true, apart := false }
def FnExactCyclotomicTableSaid : Prop := fnExactCyclotomicTableRow.holds Try.pinned (OpenSpec.ofChange fnExactCyclotomicTableSpec)

/-- ITS FALSE NEIGHBOUR: 'it returns false'. Refute it at one input. -/
def fnExactCyclotomicTableWrong : ChangeSpec := { name := "fnExactCyclotomicTable", fn := fun _ => fun
  | [d1, d2] => { results := [.lit (.bool false)], args := [d1, d2] }
  | _ => none }
def FnExactCyclotomicTableWrongFalsely : Prop := fnExactCyclotomicTableRow.holds Try.pinned (OpenSpec.ofChange fnExactCyclotomicTableWrong)

/-- 'laws.FnExactMultiplyPeriods': WHATEVER THE INPUT: true; the input reads as it did. -/
def fnExactMultiplyPeriodsSpec : ChangeSpec := { name := "fnExactMultiplyPeriods", fn := fun _ => fun
  | [d1, d2, d3, d4] => { results := [.lit (.bool true)], args := [d1, d2, d3, d4] }
  | _ => none }
def fnExactMultiplyPeriodsRow : OpenClaim := { program := "ytaipaggaodnfkaa", sum := "a81258f9058f9f444998dae54acd38c16cd692196e2dea9aa01a937287a81c05", func := "loop.example/g01313/laws.FnExactMultiplyPeriods", spec := "fnExactMultiplyPeriods", unfollowed := true, recurses := true, apart := false }
def FnExactMultiplyPeriodsSaid : Prop := fnExactMultiplyPeriodsRow.holds Try.pinned (OpenSpec.ofChange fnExactMultiplyPeriodsSpec)

/-- ITS FALSE NEIGHBOUR: 'it returns false'. Refute it at one input. -/
def fnExactMultiplyPeriodsWrong : ChangeSpec := { name := "fnExactMultiplyPeriods", fn := fun _ => fun
  | [d1, d2, d3, d4] => { results := [.lit (.bool false)], args := [d1, d2, d3, d4] }
  | _ => none }
def FnExactMultiplyPeriodsWrongFalsely : Prop := fnExactMultiplyPeriodsRow.holds Try.pinned (OpenSpec.ofChange fnExactMultiplyPeriodsWrong)

/-- 'laws.FnExactShiftPeriods': WHATEVER THE INPUT: true; the input reads as it did. -/
def fnExactShiftPeriodsSpec : ChangeSpec := { name := "fnExactShiftPeriods", fn := fun _ => fun
  | [d1, d2, d3, d4] => { results := [.lit (.bool true)], args := [d1, d2, d3, d4] }
  | _ => none }
def fnExactShiftPeriodsRow : OpenClaim := { program := "ytaipaggaodnfkaa", sum := "a81258f9058f9f444998dae54acd38c16cd692196e2dea9aa01a937287a81c05", func := "loop.example/g01313/laws.FnExactShiftPeriods", spec := "fnExactShiftPeriods", apart := false }
def FnExactShiftPeriodsSaid : Prop := fnExactShiftPeriodsRow.holds Try.pinned (OpenSpec.ofChange fnExactShiftPeriodsSpec)

/-- ITS FALSE NEIGHBOUR: 'it returns false'. Refute it at one input. -/
def fnExactShiftPeriodsWrong : ChangeSpec := { name := "fnExactShiftPeriods", fn := fun _ => fun
  | [d1, d2, d3, d4] => { results := [.lit (.bool false)], args := [d1, d2, d3, d4] }
  | _ => none }
def FnExactShiftPeriodsWrongFalsely : Prop := fnExactShiftPeriodsRow.holds Try.pinned (OpenSpec.ofChange fnExactShiftPeriodsWrong)

/-- 'laws.FnExactTraceOfPeriods': WHATEVER THE INPUT: true; the input reads as it did. -/
def fnExactTraceOfPeriodsSpec : ChangeSpec := { name := "fnExactTraceOfPeriods", fn := fun _ => fun
  | [d1, d2, d3] => { results := [.lit (.bool true)], args := [d1, d2, d3] }
  | _ => none }
def fnExactTraceOfPeriodsRow : OpenClaim := { program := "ytaipaggaodnfkaa", sum := "a81258f9058f9f444998dae54acd38c16cd692196e2dea9aa01a937287a81c05", func := "loop.example/g01313/laws.FnExactTraceOfPeriods", spec := "fnExactTraceOfPeriods", apart := false }
def FnExactTraceOfPeriodsSaid : Prop := fnExactTraceOfPeriodsRow.holds Try.pinned (OpenSpec.ofChange fnExactTraceOfPeriodsSpec)

/-- ITS FALSE NEIGHBOUR: 'it returns false'. Refute it at one input. -/
def fnExactTraceOfPeriodsWrong : ChangeSpec := { name := "fnExactTraceOfPeriods", fn := fun _ => fun
  | [d1, d2, d3] => { results := [.lit (.bool false)], args := [d1, d2, d3] }
  | _ => none }
def FnExactTraceOfPeriodsWrongFalsely : Prop := fnExactTraceOfPeriodsRow.holds Try.pinned (OpenSpec.ofChange fnExactTraceOfPeriodsWrong)

/-- 'laws.FnExactRefinePeriods': WHATEVER THE INPUT: true; the input reads as it did. -/
def fnExactRefinePeriodsSpec : ChangeSpec := { name := "fnExactRefinePeriods", fn := fun _ => fun
  | [d1, d2, d3, d4] => { results := [.lit (.bool true)], args := [d1, d2, d3, d4] }
  | _ => none }
def fnExactRefinePeriodsRow : OpenClaim := { program := "ytaipaggaodnfkaa", sum := "a81258f9058f9f444998dae54acd38c16cd692196e2dea9aa01a937287a81c05", func := "loop.example/g01313/laws.FnExactRefinePeriods", spec := "fnExactRefinePeriods", apart := false }
def FnExactRefinePeriodsSaid : Prop := fnExactRefinePeriodsRow.holds Try.pinned (OpenSpec.ofChange fnExactRefinePeriodsSpec)

/-- ITS FALSE NEIGHBOUR: 'it returns false'. Refute it at one input. -/
def fnExactRefinePeriodsWrong : ChangeSpec := { name := "fnExactRefinePeriods", fn := fun _ => fun
  | [d1, d2, d3, d4] => { results := [.lit (.bool false)], args := [d1, d2, d3, d4] }
  | _ => none }
def FnExactRefinePeriodsWrongFalsely : Prop := fnExactRefinePeriodsRow.holds Try.pinned (OpenSpec.ofChange fnExactRefinePeriodsWrong)

/-- 'laws.FnExactPeriodPolynomial': WHATEVER THE INPUT: true; the input reads as it did. -/
def fnExactPeriodPolynomialSpec : ChangeSpec := { name := "fnExactPeriodPolynomial", fn := fun _ => fun
  | [d1, d2] => { results := [.lit (.bool true)], args := [d1, d2] }
  | _ => none }
def fnExactPeriodPolynomialRow : OpenClaim := { program := "ytaipaggaodnfkaa", sum := "a81258f9058f9f444998dae54acd38c16cd692196e2dea9aa01a937287a81c05", func := "loop.example/g01313/laws.FnExactPeriodPolynomial", spec := "fnExactPeriodPolynomial", unfollowed := true, recurses := true, apart := false }
def FnExactPeriodPolynomialSaid : Prop := fnExactPeriodPolynomialRow.holds Try.pinned (OpenSpec.ofChange fnExactPeriodPolynomialSpec)

/-- ITS FALSE NEIGHBOUR: 'it returns false'. Refute it at one input. -/
def fnExactPeriodPolynomialWrong : ChangeSpec := { name := "fnExactPeriodPolynomial", fn := fun _ => fun
  | [d1, d2] => { results := [.lit (.bool false)], args := [d1, d2] }
  | _ => none }
def FnExactPeriodPolynomialWrongFalsely : Prop := fnExactPeriodPolynomialRow.holds Try.pinned (OpenSpec.ofChange fnExactPeriodPolynomialWrong)

/-- 'laws.FnExactDifferenceNumbers': WHATEVER THE INPUT: true; the input reads as it did. -/
def fnExactDifferenceNumbersSpec : ChangeSpec := { name := "fnExactDifferenceNumbers", fn := fun _ => fun
  | [d1, d2] => { results := [.lit (.bool true)], args := [d1, d2] }
  | _ => none }
def fnExactDifferenceNumbersRow : OpenClaim := { program := "ytaipaggaodnfkaa", sum := "a81258f9058f9f444998dae54acd38c16cd692196e2dea9aa01a937287a81c05", func := "loop.example/g01313/laws.FnExactDifferenceNumbers", spec := "fnExactDifferenceNumbers", unfollowed := true, recurses := true, apart := false }
def FnExactDifferenceNumbersSaid : Prop := fnExactDifferenceNumbersRow.holds Try.pinned (OpenSpec.ofChange fnExactDifferenceNumbersSpec)

/-- ITS FALSE NEIGHBOUR: 'it returns false'. Refute it at one input. -/
def fnExactDifferenceNumbersWrong : ChangeSpec := { name := "fnExactDifferenceNumbers", fn := fun _ => fun
  | [d1, d2] => { results := [.lit (.bool false)], args := [d1, d2] }
  | _ => none }
def FnExactDifferenceNumbersWrongFalsely : Prop := fnExactDifferenceNumbersRow.holds Try.pinned (OpenSpec.ofChange fnExactDifferenceNumbersWrong)

/-- 'laws.FnExactIsDifferenceClass': WHATEVER THE INPUT: true; the input reads as it did. -/
def fnExactIsDifferenceClassSpec : ChangeSpec := { name := "fnExactIsDifferenceClass", fn := fun _ => fun
  | [d1, d2] => { results := [.lit (.bool true)], args := [d1, d2] }
  | _ => none }
def fnExactIsDifferenceClassRow : OpenClaim := { program := "ytaipaggaodnfkaa", sum := "a81258f9058f9f444998dae54acd38c16cd692196e2dea9aa01a937287a81c05", func := "loop.example/g01313/laws.FnExactIsDifferenceClass", spec := "fnExactIsDifferenceClass", unfollowed := true, recurses := true, apart := false }
def FnExactIsDifferenceClassSaid : Prop := fnExactIsDifferenceClassRow.holds Try.pinned (OpenSpec.ofChange fnExactIsDifferenceClassSpec)

/-- ITS FALSE NEIGHBOUR: 'it returns false'. Refute it at one input. -/
def fnExactIsDifferenceClassWrong : ChangeSpec := { name := "fnExactIsDifferenceClass", fn := fun _ => fun
  | [d1, d2] => { results := [.lit (.bool false)], args := [d1, d2] }
  | _ => none }
def FnExactIsDifferenceClassWrongFalsely : Prop := fnExactIsDifferenceClassRow.holds Try.pinned (OpenSpec.ofChange fnExactIsDifferenceClassWrong)

/- THE SECOND FORM. 'bulk': how many values and letters a reading holds, each counted each time it is reached (what is shared counts as often as it is met; a slice's spare places count too). A statement '..UptoSaid' is the law's where the arguments, and the package variables that the reading takes, are together of bulk at most 1048576: NARROWER than '..Said'. Prove '..Said' where nothing that the law and all that it calls make is longer than what came in: it says more and counts as full. Else prove '..UptoSaid'. A law counts once. -/
mutual
def uptoBulk {H : Type} : DataW H → Nat
  | .lit (.string bytes) => bytes.length + 1
  | .lit _ => 1
  | .nil => 1
  | .ptr d => uptoBulk d + 1
  | .slice elems spare => uptoBulkAll elems + uptoBulkAll spare + 1
  | .agg parts => uptoBulkAll parts + 1
  | .iface _ d => uptoBulk d + 1
  | .map entries => uptoBulkEntries entries + 1
  | .held _ => 1
def uptoBulkAll {H : Type} : List (DataW H) → Nat
  | [] => 0
  | d :: r => uptoBulk d + uptoBulkAll r
def uptoBulkEntries {H : Type} : List (Lit × DataW H) → Nat
  | [] => 0
  | x :: r => uptoBulkEntry x + uptoBulkEntries r
def uptoBulkEntry {H : Type} : Lit × DataW H → Nat
  | (.string bytes, d) => bytes.length + uptoBulk d + 1
  | (_, d) => uptoBulk d + 1
 end
def uptoSmall : (H : Type) → List (DataW H) → Bool := fun _ ds => decide (uptoBulkAll ds ≤ 1048576)
def OpenSpec.upto (s : _root_.Go.ChangeSpec) : _root_.Go.OpenSpec := { _root_.Go.OpenSpec.ofChange s with cond := some uptoSmall }

/-- 'laws.FnPeriods', WHERE WHAT IT READS IS OF BULK AT MOST 1048576: true; the input reads as it did. -/
def fnPeriodsUptoRow : OpenClaim := { program := "ytaipaggaodnfkaa", sum := "a81258f9058f9f444998dae54acd38c16cd692196e2dea9aa01a937287a81c05", func := "loop.example/g01313/laws.FnPeriods", spec := "fnPeriods", unfollowed := true, recurses := true, apart := false, narrowed := true }
def FnPeriodsUptoSaid : Prop := fnPeriodsUptoRow.holds Try.pinned (OpenSpec.upto fnPeriodsSpec)

/-- 'laws.FnPeriodSums', WHERE WHAT IT READS IS OF BULK AT MOST 1048576: true; the input reads as it did. -/
def fnPeriodSumsUptoRow : OpenClaim := { program := "ytaipaggaodnfkaa", sum := "a81258f9058f9f444998dae54acd38c16cd692196e2dea9aa01a937287a81c05", func := "loop.example/g01313/laws.FnPeriodSums", spec := "fnPeriodSums", unfollowed := true, recurses := true, apart := false, narrowed := true }
def FnPeriodSumsUptoSaid : Prop := fnPeriodSumsUptoRow.holds Try.pinned (OpenSpec.upto fnPeriodSumsSpec)

/-- 'laws.FnExactClassOf', WHERE WHAT IT READS IS OF BULK AT MOST 1048576: true; the input reads as it did. -/
def fnExactClassOfUptoRow : OpenClaim := { program := "ytaipaggaodnfkaa", sum := "a81258f9058f9f444998dae54acd38c16cd692196e2dea9aa01a937287a81c05", func := "loop.example/g01313/laws.FnExactClassOf", spec := "fnExactClassOf", unfollowed := true, recurses := true, apart := false, narrowed := true }
def FnExactClassOfUptoSaid : Prop := fnExactClassOfUptoRow.holds Try.pinned (OpenSpec.upto fnExactClassOfSpec)

/-- 'laws.FnExactClassMembers', WHERE WHAT IT READS IS OF BULK AT MOST 1048576: true; the input reads as it did. -/
def fnExactClassMembersUptoRow : OpenClaim := { program := "ytaipaggaodnfkaa", sum := "a81258f9058f9f444998dae54acd38c16cd692196e2dea9aa01a937287a81c05", func := "loop.example/g01313/laws.FnExactClassMembers", spec := "fnExactClassMembers", unfollowed := true, recurses := true, apart := false, narrowed := true }
def FnExactClassMembersUptoSaid : Prop := fnExactClassMembersUptoRow.holds Try.pinned (OpenSpec.upto fnExactClassMembersSpec)

/-- 'laws.FnExactCyclotomicNumber', WHERE WHAT IT READS IS OF BULK AT MOST 1048576: true; the input reads as it did. -/
def fnExactCyclotomicNumberUptoRow : OpenClaim := { program := "ytaipaggaodnfkaa", sum := "a81258f9058f9f444998dae54acd38c16cd692196e2dea9aa01a937287a81c05", func := "loop.example/g01313/laws.FnExactCyclotomicNumber", spec := "fnExactCyclotomicNumber", unfollowed := true, recurses := true, apart := false, narrowed := true }
def FnExactCyclotomicNumberUptoSaid : Prop := fnExactCyclotomicNumberUptoRow.holds Try.pinned (OpenSpec.upto fnExactCyclotomicNumberSpec)

/-- 'laws.FnExactCyclotomicTable', WHERE WHAT IT READS IS OF BULK AT MOST 1048576: true; the input reads as it did. -/
def fnExactCyclotomicTableUptoRow : OpenClaim := { program := "ytaipaggaodnfkaa", sum := "a81258f9058f9f444998dae54acd38c16cd692196e2dea9aa01a937287a81c05", func := "loop.example/g01313/laws.FnExactCyclotomicTable", spec := "fnExactCyclotomicTable", unfollowed := true, recurses := true, apart := false, narrowed := true }
def FnExactCyclotomicTableUptoSaid : Prop := fnExactCyclotomicTableUptoRow.holds Try.pinned (OpenSpec.upto fnExactCyclotomicTableSpec)

/-- 'laws.FnExactMultiplyPeriods', WHERE WHAT IT READS IS OF BULK AT MOST 1048576: true; the input reads as it did. -/
def fnExactMultiplyPeriodsUptoRow : OpenClaim := { program := "ytaipaggaodnfkaa", sum := "a81258f9058f9f444998dae54acd38c16cd692196e2dea9aa01a937287a81c05", func := "loop.example/g01313/laws.FnExactMultiplyPeriods", spec := "fnExactMultiplyPeriods", unfollowed := true, recurses := true, apart := false, narrowed := true }
def FnExactMultiplyPeriodsUptoSaid : Prop := fnExactMultiplyPeriodsUptoRow.holds Try.pinned (OpenSpec.upto fnExactMultiplyPeriodsSpec)

/-- 'laws.FnExactShiftPeriods', WHERE WHAT IT READS IS OF BULK AT MOST 1048576: true; the input reads as it did. -/
def fnExactShiftPeriodsUptoRow : OpenClaim := { program := "ytaipaggaodnfkaa", sum := "a81258f9058f9f444998dae54acd38c16cd692196e2dea9aa01a937287a81c05", func := "loop.example/g01313/laws.FnExactShiftPeriods", spec := "fnExactShiftPeriods", apart := false, narrowed := true }
def FnExactShiftPeriodsUptoSaid : Prop := fnExactShiftPeriodsUptoRow.holds Try.pinned (OpenSpec.upto fnExactShiftPeriodsSpec)

/-- 'laws.FnExactTraceOfPeriods', WHERE WHAT IT READS IS OF BULK AT MOST 1048576: true; the input reads as it did. -/
def fnExactTraceOfPeriodsUptoRow : OpenClaim := { program := "ytaipaggaodnfkaa", sum := "a81258f9058f9f444998dae54acd38c16cd692196e2dea9aa01a937287a81c05", func := "loop.example/g01313/laws.FnExactTraceOfPeriods", spec := "fnExactTraceOfPeriods", apart := false, narrowed := true }
def FnExactTraceOfPeriodsUptoSaid : Prop := fnExactTraceOfPeriodsUptoRow.holds Try.pinned (OpenSpec.upto fnExactTraceOfPeriodsSpec)

/-- 'laws.FnExactRefinePeriods', WHERE WHAT IT READS IS OF BULK AT MOST 1048576: true; the input reads as it did. -/
def fnExactRefinePeriodsUptoRow : OpenClaim := { program := "ytaipaggaodnfkaa", sum := "a81258f9058f9f444998dae54acd38c16cd692196e2dea9aa01a937287a81c05", func := "loop.example/g01313/laws.FnExactRefinePeriods", spec := "fnExactRefinePeriods", apart := false, narrowed := true }
def FnExactRefinePeriodsUptoSaid : Prop := fnExactRefinePeriodsUptoRow.holds Try.pinned (OpenSpec.upto fnExactRefinePeriodsSpec)

/-- 'laws.FnExactPeriodPolynomial', WHERE WHAT IT READS IS OF BULK AT MOST 1048576: true; the input reads as it did. -/
def fnExactPeriodPolynomialUptoRow : OpenClaim := { program := "ytaipaggaodnfkaa", sum := "a81258f9058f9f444998dae54acd38c16cd692196e2dea9aa01a937287a81c05", func := "loop.example/g01313/laws.FnExactPeriodPolynomial", spec := "fnExactPeriodPolynomial", unfollowed := true, recurses := true, apart := false, narrowed := true }
def FnExactPeriodPolynomialUptoSaid : Prop := fnExactPeriodPolynomialUptoRow.holds Try.pinned (OpenSpec.upto fnExactPeriodPolynomialSpec)

/-- 'laws.FnExactDifferenceNumbers', WHERE WHAT IT READS IS OF BULK AT MOST 1048576: true; the input reads as it did. -/
def fnExactDifferenceNumbersUptoRow : OpenClaim := { program := "ytaipaggaodnfkaa", sum := "a81258f9058f9f444998dae54acd38c16cd692196e2dea9aa01a937287a81c05", func := "loop.example/g01313/laws.FnExactDifferenceNumbers", spec := "fnExactDifferenceNumbers", unfollowed := true, recurses := true, apart := false, narrowed := true }
def FnExactDifferenceNumbersUptoSaid : Prop := fnExactDifferenceNumbersUptoRow.holds Try.pinned (OpenSpec.upto fnExactDifferenceNumbersSpec)

/-- 'laws.FnExactIsDifferenceClass', WHERE WHAT IT READS IS OF BULK AT MOST 1048576: true; the input reads as it did. -/
def fnExactIsDifferenceClassUptoRow : OpenClaim := { program := "ytaipaggaodnfkaa", sum := "a81258f9058f9f444998dae54acd38c16cd692196e2dea9aa01a937287a81c05", func := "loop.example/g01313/laws.FnExactIsDifferenceClass", spec := "fnExactIsDifferenceClass", unfollowed := true, recurses := true, apart := false, narrowed := true }
def FnExactIsDifferenceClassUptoSaid : Prop := fnExactIsDifferenceClassUptoRow.holds Try.pinned (OpenSpec.upto fnExactIsDifferenceClassSpec)

end Rows
end Go.Proofs.Ytaipaggaodnfkaa
