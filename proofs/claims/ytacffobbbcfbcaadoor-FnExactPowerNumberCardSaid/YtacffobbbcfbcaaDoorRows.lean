/-
  NARROWER THAN 'FOR EVERY INPUT', by the rows' own cells (each row's printed sentence says how): FnSolutions: ifaces, laid · FnCurves: ifaces, laid · FnExactPowersOf: ifaces, laid · FnExactValueCounts: ifaces, laid · FnExactCountSolutions: ifaces, laid · FnExactCountFull: ifaces, laid · FnExactQuadricNumber: ifaces, laid · FnExactCurvePoints: ifaces, laid · FnExactCurveDefect: ifaces, laid · FnExactGenusOfCurve: ifaces, laid · FnExactPointsAbove: ifaces, laid · FnExactPowerNumber: ifaces, laid · FnExactLeastNoPower: ifaces, laid.
  DERIVED. THE GIVEN ROWS OF THIS SEAT. 13 by the template 'for every input the law returns true; each argument reads behind the call as it read before'; 0 by the template 'total and deterministic' (their statements: YtacffobbbcfbcaaDoorTotals.lean).
  GIVEN WITH THE SEED: the statements are not yours to turn. If you find one false, say at which input.
  Laid BY PROGRAM, IN A SANDBOX (cutbox-rows.mjs): the forced cells as the released guide's own fill.sh prints them over the translation 49c8042bc6aaf3e6… (all of the seat's roots in one cut). By AI agents, Wed Nov 11 2026. No macro, syntax, notation, axiom, sorry.
-/
import Derived.Test.YtacffobbbcfbcaaDoorChecked
import GoSem.Claim
import GoSem.ClaimJoined
import GoSem.ClaimMapViews
import Derived.JoinedTies
import Derived.KernelRfl
namespace Go.Proofs.YtacffobbbcfbcaaDoor
/- THE CELL 'sum', in the pinned program and in every row, IS THE sha256 OF THE DUMP (.gsa) THAT YtacffobbbcfbcaaDoorProg.lean LOADS. Nothing in Lean hashes anything: it is a label: what it is worth is what the hold of that sum in a sandbox is worth. -/
noncomputable def Tryd.pinned : Pinned := { name := "ytacffobbbcfbcaadoor", sum := "49c8042bc6aaf3e66ffced53381cdd125410f2cfaa285cd2694f9b4ab5a17ec2", checked := Tryd.checked }
namespace Rows
def none {H : Type} : Left H := { results := [], args := [] }

/- WHAT THE LISTED PACKAGE-LEVEL VARIABLES READ AS WHEN THE CALL BEGINS. Each datum BY PROGRAM (the guide's laid-datum.mjs) off the statement by which the dump's own 'gosem.cut.vars' lays the variable. In a bare row this is a premise. The card (YtacffobbbcfbcaaDoorCards.lean) ties it to the program's text. -/
def laid_loop_example_g01313_impl_errNoEquation {H : Type} : DataW H := .iface "*errors.errorString" (.ptr (.agg [.lit (.string [110, 111, 32, 101, 113, 117, 97, 116, 105, 111, 110])]))

/-- 'laws.FnSolutions': WHATEVER THE INPUT: true; the input reads as it did. -/
def fnSolutionsSpec : ChangeSpec := { name := "fnSolutions", vars := ["loop.example/g01313/impl.errNoEquation"], fn := fun _ => fun
  | [d, g1] => { results := [.lit (.bool true)], args := [d], vars := [g1] }
  | _ => none }
def fnSolutionsRow : OpenClaim := { program := "ytacffobbbcfbcaadoor", sum := "49c8042bc6aaf3e66ffced53381cdd125410f2cfaa285cd2694f9b4ab5a17ec2", func := "loop.example/g01313/laws.FnSolutions", spec := "fnSolutions", unfollowed := true, recurses := true, named := ["loop.example/g01313/impl.errNoEquation"], ifaces := true, apart := false, laid := [("loop.example/g01313/impl.errNoEquation", laid_loop_example_g01313_impl_errNoEquation)] }
def FnSolutionsSaid : Prop := fnSolutionsRow.holds Tryd.pinned (OpenSpec.ofChange fnSolutionsSpec)

/-- ITS FALSE NEIGHBOUR: 'it returns false'. Refute it at one input. -/
def fnSolutionsWrong : ChangeSpec := { name := "fnSolutions", vars := ["loop.example/g01313/impl.errNoEquation"], fn := fun _ => fun
  | [d, g1] => { results := [.lit (.bool false)], args := [d], vars := [g1] }
  | _ => none }
def FnSolutionsWrongFalsely : Prop := fnSolutionsRow.holds Tryd.pinned (OpenSpec.ofChange fnSolutionsWrong)

/-- 'laws.FnCurves': WHATEVER THE INPUT: true; the input reads as it did. -/
def fnCurvesSpec : ChangeSpec := { name := "fnCurves", vars := ["loop.example/g01313/impl.errNoEquation"], fn := fun _ => fun
  | [d, g1] => { results := [.lit (.bool true)], args := [d], vars := [g1] }
  | _ => none }
def fnCurvesRow : OpenClaim := { program := "ytacffobbbcfbcaadoor", sum := "49c8042bc6aaf3e66ffced53381cdd125410f2cfaa285cd2694f9b4ab5a17ec2", func := "loop.example/g01313/laws.FnCurves", spec := "fnCurves", unfollowed := true, recurses := true, named := ["loop.example/g01313/impl.errNoEquation"], ifaces := true, apart := false, laid := [("loop.example/g01313/impl.errNoEquation", laid_loop_example_g01313_impl_errNoEquation)] }
def FnCurvesSaid : Prop := fnCurvesRow.holds Tryd.pinned (OpenSpec.ofChange fnCurvesSpec)

/-- ITS FALSE NEIGHBOUR: 'it returns false'. Refute it at one input. -/
def fnCurvesWrong : ChangeSpec := { name := "fnCurves", vars := ["loop.example/g01313/impl.errNoEquation"], fn := fun _ => fun
  | [d, g1] => { results := [.lit (.bool false)], args := [d], vars := [g1] }
  | _ => none }
def FnCurvesWrongFalsely : Prop := fnCurvesRow.holds Tryd.pinned (OpenSpec.ofChange fnCurvesWrong)

/-- 'laws.FnExactPowersOf': WHATEVER THE INPUT: true; the input reads as it did. -/
def fnExactPowersOfSpec : ChangeSpec := { name := "fnExactPowersOf", vars := ["loop.example/g01313/impl.errNoEquation"], fn := fun _ => fun
  | [d1, d2, g1] => { results := [.lit (.bool true)], args := [d1, d2], vars := [g1] }
  | _ => none }
def fnExactPowersOfRow : OpenClaim := { program := "ytacffobbbcfbcaadoor", sum := "49c8042bc6aaf3e66ffced53381cdd125410f2cfaa285cd2694f9b4ab5a17ec2", func := "loop.example/g01313/laws.FnExactPowersOf", spec := "fnExactPowersOf", unfollowed := true, recurses := true, named := ["loop.example/g01313/impl.errNoEquation"], ifaces := true, apart := false, laid := [("loop.example/g01313/impl.errNoEquation", laid_loop_example_g01313_impl_errNoEquation)] }
def FnExactPowersOfSaid : Prop := fnExactPowersOfRow.holds Tryd.pinned (OpenSpec.ofChange fnExactPowersOfSpec)

/-- ITS FALSE NEIGHBOUR: 'it returns false'. Refute it at one input. -/
def fnExactPowersOfWrong : ChangeSpec := { name := "fnExactPowersOf", vars := ["loop.example/g01313/impl.errNoEquation"], fn := fun _ => fun
  | [d1, d2, g1] => { results := [.lit (.bool false)], args := [d1, d2], vars := [g1] }
  | _ => none }
def FnExactPowersOfWrongFalsely : Prop := fnExactPowersOfRow.holds Tryd.pinned (OpenSpec.ofChange fnExactPowersOfWrong)

/-- 'laws.FnExactValueCounts': WHATEVER THE INPUT: true; the input reads as it did. -/
def fnExactValueCountsSpec : ChangeSpec := { name := "fnExactValueCounts", vars := ["loop.example/g01313/impl.errNoEquation"], fn := fun _ => fun
  | [d1, d2, d3, g1] => { results := [.lit (.bool true)], args := [d1, d2, d3], vars := [g1] }
  | _ => none }
def fnExactValueCountsRow : OpenClaim := { program := "ytacffobbbcfbcaadoor", sum := "49c8042bc6aaf3e66ffced53381cdd125410f2cfaa285cd2694f9b4ab5a17ec2", func := "loop.example/g01313/laws.FnExactValueCounts", spec := "fnExactValueCounts", unfollowed := true, recurses := true, named := ["loop.example/g01313/impl.errNoEquation"], ifaces := true, apart := false, laid := [("loop.example/g01313/impl.errNoEquation", laid_loop_example_g01313_impl_errNoEquation)] }
def FnExactValueCountsSaid : Prop := fnExactValueCountsRow.holds Tryd.pinned (OpenSpec.ofChange fnExactValueCountsSpec)

/-- ITS FALSE NEIGHBOUR: 'it returns false'. Refute it at one input. -/
def fnExactValueCountsWrong : ChangeSpec := { name := "fnExactValueCounts", vars := ["loop.example/g01313/impl.errNoEquation"], fn := fun _ => fun
  | [d1, d2, d3, g1] => { results := [.lit (.bool false)], args := [d1, d2, d3], vars := [g1] }
  | _ => none }
def FnExactValueCountsWrongFalsely : Prop := fnExactValueCountsRow.holds Tryd.pinned (OpenSpec.ofChange fnExactValueCountsWrong)

/-- 'laws.FnExactCountSolutions': WHATEVER THE INPUT: true; the input reads as it did. -/
def fnExactCountSolutionsSpec : ChangeSpec := { name := "fnExactCountSolutions", vars := ["loop.example/g01313/impl.errNoEquation"], fn := fun _ => fun
  | [d1, d2, d3, d4, g1] => { results := [.lit (.bool true)], args := [d1, d2, d3, d4], vars := [g1] }
  | _ => none }
def fnExactCountSolutionsRow : OpenClaim := { program := "ytacffobbbcfbcaadoor", sum := "49c8042bc6aaf3e66ffced53381cdd125410f2cfaa285cd2694f9b4ab5a17ec2", func := "loop.example/g01313/laws.FnExactCountSolutions", spec := "fnExactCountSolutions", unfollowed := true, recurses := true, named := ["loop.example/g01313/impl.errNoEquation"], ifaces := true, apart := false, laid := [("loop.example/g01313/impl.errNoEquation", laid_loop_example_g01313_impl_errNoEquation)] }
def FnExactCountSolutionsSaid : Prop := fnExactCountSolutionsRow.holds Tryd.pinned (OpenSpec.ofChange fnExactCountSolutionsSpec)

/-- ITS FALSE NEIGHBOUR: 'it returns false'. Refute it at one input. -/
def fnExactCountSolutionsWrong : ChangeSpec := { name := "fnExactCountSolutions", vars := ["loop.example/g01313/impl.errNoEquation"], fn := fun _ => fun
  | [d1, d2, d3, d4, g1] => { results := [.lit (.bool false)], args := [d1, d2, d3, d4], vars := [g1] }
  | _ => none }
def FnExactCountSolutionsWrongFalsely : Prop := fnExactCountSolutionsRow.holds Tryd.pinned (OpenSpec.ofChange fnExactCountSolutionsWrong)

/-- 'laws.FnExactCountFull': WHATEVER THE INPUT: true; the input reads as it did. -/
def fnExactCountFullSpec : ChangeSpec := { name := "fnExactCountFull", vars := ["loop.example/g01313/impl.errNoEquation"], fn := fun _ => fun
  | [d1, d2, d3, d4, g1] => { results := [.lit (.bool true)], args := [d1, d2, d3, d4], vars := [g1] }
  | _ => none }
def fnExactCountFullRow : OpenClaim := { program := "ytacffobbbcfbcaadoor", sum := "49c8042bc6aaf3e66ffced53381cdd125410f2cfaa285cd2694f9b4ab5a17ec2", func := "loop.example/g01313/laws.FnExactCountFull", spec := "fnExactCountFull", unfollowed := true, recurses := true, named := ["loop.example/g01313/impl.errNoEquation"], ifaces := true, apart := false, laid := [("loop.example/g01313/impl.errNoEquation", laid_loop_example_g01313_impl_errNoEquation)] }
def FnExactCountFullSaid : Prop := fnExactCountFullRow.holds Tryd.pinned (OpenSpec.ofChange fnExactCountFullSpec)

/-- ITS FALSE NEIGHBOUR: 'it returns false'. Refute it at one input. -/
def fnExactCountFullWrong : ChangeSpec := { name := "fnExactCountFull", vars := ["loop.example/g01313/impl.errNoEquation"], fn := fun _ => fun
  | [d1, d2, d3, d4, g1] => { results := [.lit (.bool false)], args := [d1, d2, d3, d4], vars := [g1] }
  | _ => none }
def FnExactCountFullWrongFalsely : Prop := fnExactCountFullRow.holds Tryd.pinned (OpenSpec.ofChange fnExactCountFullWrong)

/-- 'laws.FnExactQuadricNumber': WHATEVER THE INPUT: true; the input reads as it did. -/
def fnExactQuadricNumberSpec : ChangeSpec := { name := "fnExactQuadricNumber", vars := ["loop.example/g01313/impl.errNoEquation"], fn := fun _ => fun
  | [d1, d2, d3, g1] => { results := [.lit (.bool true)], args := [d1, d2, d3], vars := [g1] }
  | _ => none }
def fnExactQuadricNumberRow : OpenClaim := { program := "ytacffobbbcfbcaadoor", sum := "49c8042bc6aaf3e66ffced53381cdd125410f2cfaa285cd2694f9b4ab5a17ec2", func := "loop.example/g01313/laws.FnExactQuadricNumber", spec := "fnExactQuadricNumber", unfollowed := true, recurses := true, named := ["loop.example/g01313/impl.errNoEquation"], ifaces := true, apart := false, laid := [("loop.example/g01313/impl.errNoEquation", laid_loop_example_g01313_impl_errNoEquation)] }
def FnExactQuadricNumberSaid : Prop := fnExactQuadricNumberRow.holds Tryd.pinned (OpenSpec.ofChange fnExactQuadricNumberSpec)

/-- ITS FALSE NEIGHBOUR: 'it returns false'. Refute it at one input. -/
def fnExactQuadricNumberWrong : ChangeSpec := { name := "fnExactQuadricNumber", vars := ["loop.example/g01313/impl.errNoEquation"], fn := fun _ => fun
  | [d1, d2, d3, g1] => { results := [.lit (.bool false)], args := [d1, d2, d3], vars := [g1] }
  | _ => none }
def FnExactQuadricNumberWrongFalsely : Prop := fnExactQuadricNumberRow.holds Tryd.pinned (OpenSpec.ofChange fnExactQuadricNumberWrong)

/-- 'laws.FnExactCurvePoints': WHATEVER THE INPUT: true; the input reads as it did. -/
def fnExactCurvePointsSpec : ChangeSpec := { name := "fnExactCurvePoints", vars := ["loop.example/g01313/impl.errNoEquation"], fn := fun _ => fun
  | [d1, d2, g1] => { results := [.lit (.bool true)], args := [d1, d2], vars := [g1] }
  | _ => none }
def fnExactCurvePointsRow : OpenClaim := { program := "ytacffobbbcfbcaadoor", sum := "49c8042bc6aaf3e66ffced53381cdd125410f2cfaa285cd2694f9b4ab5a17ec2", func := "loop.example/g01313/laws.FnExactCurvePoints", spec := "fnExactCurvePoints", unfollowed := true, recurses := true, named := ["loop.example/g01313/impl.errNoEquation"], ifaces := true, apart := false, laid := [("loop.example/g01313/impl.errNoEquation", laid_loop_example_g01313_impl_errNoEquation)] }
def FnExactCurvePointsSaid : Prop := fnExactCurvePointsRow.holds Tryd.pinned (OpenSpec.ofChange fnExactCurvePointsSpec)

/-- ITS FALSE NEIGHBOUR: 'it returns false'. Refute it at one input. -/
def fnExactCurvePointsWrong : ChangeSpec := { name := "fnExactCurvePoints", vars := ["loop.example/g01313/impl.errNoEquation"], fn := fun _ => fun
  | [d1, d2, g1] => { results := [.lit (.bool false)], args := [d1, d2], vars := [g1] }
  | _ => none }
def FnExactCurvePointsWrongFalsely : Prop := fnExactCurvePointsRow.holds Tryd.pinned (OpenSpec.ofChange fnExactCurvePointsWrong)

/-- 'laws.FnExactCurveDefect': WHATEVER THE INPUT: true; the input reads as it did. -/
def fnExactCurveDefectSpec : ChangeSpec := { name := "fnExactCurveDefect", vars := ["loop.example/g01313/impl.errNoEquation"], fn := fun _ => fun
  | [d1, d2, g1] => { results := [.lit (.bool true)], args := [d1, d2], vars := [g1] }
  | _ => none }
def fnExactCurveDefectRow : OpenClaim := { program := "ytacffobbbcfbcaadoor", sum := "49c8042bc6aaf3e66ffced53381cdd125410f2cfaa285cd2694f9b4ab5a17ec2", func := "loop.example/g01313/laws.FnExactCurveDefect", spec := "fnExactCurveDefect", unfollowed := true, recurses := true, named := ["loop.example/g01313/impl.errNoEquation"], ifaces := true, apart := false, laid := [("loop.example/g01313/impl.errNoEquation", laid_loop_example_g01313_impl_errNoEquation)] }
def FnExactCurveDefectSaid : Prop := fnExactCurveDefectRow.holds Tryd.pinned (OpenSpec.ofChange fnExactCurveDefectSpec)

/-- ITS FALSE NEIGHBOUR: 'it returns false'. Refute it at one input. -/
def fnExactCurveDefectWrong : ChangeSpec := { name := "fnExactCurveDefect", vars := ["loop.example/g01313/impl.errNoEquation"], fn := fun _ => fun
  | [d1, d2, g1] => { results := [.lit (.bool false)], args := [d1, d2], vars := [g1] }
  | _ => none }
def FnExactCurveDefectWrongFalsely : Prop := fnExactCurveDefectRow.holds Tryd.pinned (OpenSpec.ofChange fnExactCurveDefectWrong)

/-- 'laws.FnExactGenusOfCurve': WHATEVER THE INPUT: true; the input reads as it did. -/
def fnExactGenusOfCurveSpec : ChangeSpec := { name := "fnExactGenusOfCurve", vars := ["loop.example/g01313/impl.errNoEquation"], fn := fun _ => fun
  | [d, g1] => { results := [.lit (.bool true)], args := [d], vars := [g1] }
  | _ => none }
def fnExactGenusOfCurveRow : OpenClaim := { program := "ytacffobbbcfbcaadoor", sum := "49c8042bc6aaf3e66ffced53381cdd125410f2cfaa285cd2694f9b4ab5a17ec2", func := "loop.example/g01313/laws.FnExactGenusOfCurve", spec := "fnExactGenusOfCurve", unfollowed := true, recurses := true, named := ["loop.example/g01313/impl.errNoEquation"], ifaces := true, apart := false, laid := [("loop.example/g01313/impl.errNoEquation", laid_loop_example_g01313_impl_errNoEquation)] }
def FnExactGenusOfCurveSaid : Prop := fnExactGenusOfCurveRow.holds Tryd.pinned (OpenSpec.ofChange fnExactGenusOfCurveSpec)

/-- ITS FALSE NEIGHBOUR: 'it returns false'. Refute it at one input. -/
def fnExactGenusOfCurveWrong : ChangeSpec := { name := "fnExactGenusOfCurve", vars := ["loop.example/g01313/impl.errNoEquation"], fn := fun _ => fun
  | [d, g1] => { results := [.lit (.bool false)], args := [d], vars := [g1] }
  | _ => none }
def FnExactGenusOfCurveWrongFalsely : Prop := fnExactGenusOfCurveRow.holds Tryd.pinned (OpenSpec.ofChange fnExactGenusOfCurveWrong)

/-- 'laws.FnExactPointsAbove': WHATEVER THE INPUT: true; the input reads as it did. -/
def fnExactPointsAboveSpec : ChangeSpec := { name := "fnExactPointsAbove", vars := ["loop.example/g01313/impl.errNoEquation"], fn := fun _ => fun
  | [d1, d2, d3, g1] => { results := [.lit (.bool true)], args := [d1, d2, d3], vars := [g1] }
  | _ => none }
def fnExactPointsAboveRow : OpenClaim := { program := "ytacffobbbcfbcaadoor", sum := "49c8042bc6aaf3e66ffced53381cdd125410f2cfaa285cd2694f9b4ab5a17ec2", func := "loop.example/g01313/laws.FnExactPointsAbove", spec := "fnExactPointsAbove", unfollowed := true, recurses := true, named := ["loop.example/g01313/impl.errNoEquation"], ifaces := true, apart := false, laid := [("loop.example/g01313/impl.errNoEquation", laid_loop_example_g01313_impl_errNoEquation)] }
def FnExactPointsAboveSaid : Prop := fnExactPointsAboveRow.holds Tryd.pinned (OpenSpec.ofChange fnExactPointsAboveSpec)

/-- ITS FALSE NEIGHBOUR: 'it returns false'. Refute it at one input. -/
def fnExactPointsAboveWrong : ChangeSpec := { name := "fnExactPointsAbove", vars := ["loop.example/g01313/impl.errNoEquation"], fn := fun _ => fun
  | [d1, d2, d3, g1] => { results := [.lit (.bool false)], args := [d1, d2, d3], vars := [g1] }
  | _ => none }
def FnExactPointsAboveWrongFalsely : Prop := fnExactPointsAboveRow.holds Tryd.pinned (OpenSpec.ofChange fnExactPointsAboveWrong)

/-- 'laws.FnExactPowerNumber': WHATEVER THE INPUT: true; the input reads as it did. -/
def fnExactPowerNumberSpec : ChangeSpec := { name := "fnExactPowerNumber", vars := ["loop.example/g01313/impl.errNoEquation"], fn := fun _ => fun
  | [d1, d2, g1] => { results := [.lit (.bool true)], args := [d1, d2], vars := [g1] }
  | _ => none }
def fnExactPowerNumberRow : OpenClaim := { program := "ytacffobbbcfbcaadoor", sum := "49c8042bc6aaf3e66ffced53381cdd125410f2cfaa285cd2694f9b4ab5a17ec2", func := "loop.example/g01313/laws.FnExactPowerNumber", spec := "fnExactPowerNumber", unfollowed := true, recurses := true, named := ["loop.example/g01313/impl.errNoEquation"], ifaces := true, apart := false, laid := [("loop.example/g01313/impl.errNoEquation", laid_loop_example_g01313_impl_errNoEquation)] }
def FnExactPowerNumberSaid : Prop := fnExactPowerNumberRow.holds Tryd.pinned (OpenSpec.ofChange fnExactPowerNumberSpec)

/-- ITS FALSE NEIGHBOUR: 'it returns false'. Refute it at one input. -/
def fnExactPowerNumberWrong : ChangeSpec := { name := "fnExactPowerNumber", vars := ["loop.example/g01313/impl.errNoEquation"], fn := fun _ => fun
  | [d1, d2, g1] => { results := [.lit (.bool false)], args := [d1, d2], vars := [g1] }
  | _ => none }
def FnExactPowerNumberWrongFalsely : Prop := fnExactPowerNumberRow.holds Tryd.pinned (OpenSpec.ofChange fnExactPowerNumberWrong)

/-- 'laws.FnExactLeastNoPower': WHATEVER THE INPUT: true; the input reads as it did. -/
def fnExactLeastNoPowerSpec : ChangeSpec := { name := "fnExactLeastNoPower", vars := ["loop.example/g01313/impl.errNoEquation"], fn := fun _ => fun
  | [d1, d2, g1] => { results := [.lit (.bool true)], args := [d1, d2], vars := [g1] }
  | _ => none }
def fnExactLeastNoPowerRow : OpenClaim := { program := "ytacffobbbcfbcaadoor", sum := "49c8042bc6aaf3e66ffced53381cdd125410f2cfaa285cd2694f9b4ab5a17ec2", func := "loop.example/g01313/laws.FnExactLeastNoPower", spec := "fnExactLeastNoPower", unfollowed := true, recurses := true, named := ["loop.example/g01313/impl.errNoEquation"], ifaces := true, apart := false, laid := [("loop.example/g01313/impl.errNoEquation", laid_loop_example_g01313_impl_errNoEquation)] }
def FnExactLeastNoPowerSaid : Prop := fnExactLeastNoPowerRow.holds Tryd.pinned (OpenSpec.ofChange fnExactLeastNoPowerSpec)

/-- ITS FALSE NEIGHBOUR: 'it returns false'. Refute it at one input. -/
def fnExactLeastNoPowerWrong : ChangeSpec := { name := "fnExactLeastNoPower", vars := ["loop.example/g01313/impl.errNoEquation"], fn := fun _ => fun
  | [d1, d2, g1] => { results := [.lit (.bool false)], args := [d1, d2], vars := [g1] }
  | _ => none }
def FnExactLeastNoPowerWrongFalsely : Prop := fnExactLeastNoPowerRow.holds Tryd.pinned (OpenSpec.ofChange fnExactLeastNoPowerWrong)

/- THE SECOND FORM. 'bulk': how many values and letters a reading holds, each counted each time it is reached (what is shared counts as often as it is met; a slice's spare places count too). A statement '..UptoSaid' is the law's where the arguments, and the package variables that the reading takes, are together of bulk at most 1048576: NARROWER than '..Said'. Prove '..Said' where nothing that the law and all that it calls make is longer than what came in: it says more and counts as full. Else prove '..UptoSaid'. A law counts once. -/
mutual
def uptoBulk {H : Type} : DataW H → Nat
  | .lit (.string bytes) => bytes.length + 1
  | .lit _ => 1
  | .nil => 1
  | .ptr d => uptoBulk d + 1
  | .slice elems spare => uptoBulkAll elems + uptoBulkAll spare + 1
  | .agg parts => uptoBulkAll parts + 1
  | .iface _ d => uptoBulk d + 1
  | .map entries => uptoBulkEntries entries + 1
  | .held _ => 1
def uptoBulkAll {H : Type} : List (DataW H) → Nat
  | [] => 0
  | d :: r => uptoBulk d + uptoBulkAll r
def uptoBulkEntries {H : Type} : List (Lit × DataW H) → Nat
  | [] => 0
  | x :: r => uptoBulkEntry x + uptoBulkEntries r
def uptoBulkEntry {H : Type} : Lit × DataW H → Nat
  | (.string bytes, d) => bytes.length + uptoBulk d + 1
  | (_, d) => uptoBulk d + 1
 end
def uptoSmall : (H : Type) → List (DataW H) → Bool := fun _ ds => decide (uptoBulkAll ds ≤ 1048576)
def OpenSpec.upto (s : _root_.Go.ChangeSpec) : _root_.Go.OpenSpec := { _root_.Go.OpenSpec.ofChange s with cond := some uptoSmall }

/-- 'laws.FnSolutions', WHERE WHAT IT READS IS OF BULK AT MOST 1048576: true; the input reads as it did. -/
def fnSolutionsUptoRow : OpenClaim := { program := "ytacffobbbcfbcaadoor", sum := "49c8042bc6aaf3e66ffced53381cdd125410f2cfaa285cd2694f9b4ab5a17ec2", func := "loop.example/g01313/laws.FnSolutions", spec := "fnSolutions", unfollowed := true, recurses := true, named := ["loop.example/g01313/impl.errNoEquation"], ifaces := true, apart := false, laid := [("loop.example/g01313/impl.errNoEquation", laid_loop_example_g01313_impl_errNoEquation)], narrowed := true }
def FnSolutionsUptoSaid : Prop := fnSolutionsUptoRow.holds Tryd.pinned (OpenSpec.upto fnSolutionsSpec)

/-- 'laws.FnCurves', WHERE WHAT IT READS IS OF BULK AT MOST 1048576: true; the input reads as it did. -/
def fnCurvesUptoRow : OpenClaim := { program := "ytacffobbbcfbcaadoor", sum := "49c8042bc6aaf3e66ffced53381cdd125410f2cfaa285cd2694f9b4ab5a17ec2", func := "loop.example/g01313/laws.FnCurves", spec := "fnCurves", unfollowed := true, recurses := true, named := ["loop.example/g01313/impl.errNoEquation"], ifaces := true, apart := false, laid := [("loop.example/g01313/impl.errNoEquation", laid_loop_example_g01313_impl_errNoEquation)], narrowed := true }
def FnCurvesUptoSaid : Prop := fnCurvesUptoRow.holds Tryd.pinned (OpenSpec.upto fnCurvesSpec)

/-- 'laws.FnExactPowersOf', WHERE WHAT IT READS IS OF BULK AT MOST 1048576: true; the input reads as it did. -/
def fnExactPowersOfUptoRow : OpenClaim := { program := "ytacffobbbcfbcaadoor", sum := "49c8042bc6aaf3e66ffced53381cdd125410f2cfaa285cd2694f9b4ab5a17ec2", func := "loop.example/g01313/laws.FnExactPowersOf", spec := "fnExactPowersOf", unfollowed := true, recurses := true, named := ["loop.example/g01313/impl.errNoEquation"], ifaces := true, apart := false, laid := [("loop.example/g01313/impl.errNoEquation", laid_loop_example_g01313_impl_errNoEquation)], narrowed := true }
def FnExactPowersOfUptoSaid : Prop := fnExactPowersOfUptoRow.holds Tryd.pinned (OpenSpec.upto fnExactPowersOfSpec)

/-- 'laws.FnExactValueCounts', WHERE WHAT IT READS IS OF BULK AT MOST 1048576: true; the input reads as it did. -/
def fnExactValueCountsUptoRow : OpenClaim := { program := "ytacffobbbcfbcaadoor", sum := "49c8042bc6aaf3e66ffced53381cdd125410f2cfaa285cd2694f9b4ab5a17ec2", func := "loop.example/g01313/laws.FnExactValueCounts", spec := "fnExactValueCounts", unfollowed := true, recurses := true, named := ["loop.example/g01313/impl.errNoEquation"], ifaces := true, apart := false, laid := [("loop.example/g01313/impl.errNoEquation", laid_loop_example_g01313_impl_errNoEquation)], narrowed := true }
def FnExactValueCountsUptoSaid : Prop := fnExactValueCountsUptoRow.holds Tryd.pinned (OpenSpec.upto fnExactValueCountsSpec)

/-- 'laws.FnExactCountSolutions', WHERE WHAT IT READS IS OF BULK AT MOST 1048576: true; the input reads as it did. -/
def fnExactCountSolutionsUptoRow : OpenClaim := { program := "ytacffobbbcfbcaadoor", sum := "49c8042bc6aaf3e66ffced53381cdd125410f2cfaa285cd2694f9b4ab5a17ec2", func := "loop.example/g01313/laws.FnExactCountSolutions", spec := "fnExactCountSolutions", unfollowed := true, recurses := true, named := ["loop.example/g01313/impl.errNoEquation"], ifaces := true, apart := false, laid := [("loop.example/g01313/impl.errNoEquation", laid_loop_example_g01313_impl_errNoEquation)], narrowed := true }
def FnExactCountSolutionsUptoSaid : Prop := fnExactCountSolutionsUptoRow.holds Tryd.pinned (OpenSpec.upto fnExactCountSolutionsSpec)

/-- 'laws.FnExactCountFull', WHERE WHAT IT READS IS OF BULK AT MOST 1048576: true; the input reads as it did. -/
def fnExactCountFullUptoRow : OpenClaim := { program := "ytacffobbbcfbcaadoor", sum := "49c8042bc6aaf3e66ffced53381cdd125410f2cfaa285cd2694f9b4ab5a17ec2", func := "loop.example/g01313/laws.FnExactCountFull", spec := "fnExactCountFull", unfollowed := true, recurses := true, named := ["loop.example/g01313/impl.errNoEquation"], ifaces := true, apart := false, laid := [("loop.example/g01313/impl.errNoEquation", laid_loop_example_g01313_impl_errNoEquation)], narrowed := true }
def FnExactCountFullUptoSaid : Prop := fnExactCountFullUptoRow.holds Tryd.pinned (OpenSpec.upto fnExactCountFullSpec)

/-- 'laws.FnExactQuadricNumber', WHERE WHAT IT READS IS OF BULK AT MOST 1048576: true; the input reads as it did. -/
def fnExactQuadricNumberUptoRow : OpenClaim := { program := "ytacffobbbcfbcaadoor", sum := "49c8042bc6aaf3e66ffced53381cdd125410f2cfaa285cd2694f9b4ab5a17ec2", func := "loop.example/g01313/laws.FnExactQuadricNumber", spec := "fnExactQuadricNumber", unfollowed := true, recurses := true, named := ["loop.example/g01313/impl.errNoEquation"], ifaces := true, apart := false, laid := [("loop.example/g01313/impl.errNoEquation", laid_loop_example_g01313_impl_errNoEquation)], narrowed := true }
def FnExactQuadricNumberUptoSaid : Prop := fnExactQuadricNumberUptoRow.holds Tryd.pinned (OpenSpec.upto fnExactQuadricNumberSpec)

/-- 'laws.FnExactCurvePoints', WHERE WHAT IT READS IS OF BULK AT MOST 1048576: true; the input reads as it did. -/
def fnExactCurvePointsUptoRow : OpenClaim := { program := "ytacffobbbcfbcaadoor", sum := "49c8042bc6aaf3e66ffced53381cdd125410f2cfaa285cd2694f9b4ab5a17ec2", func := "loop.example/g01313/laws.FnExactCurvePoints", spec := "fnExactCurvePoints", unfollowed := true, recurses := true, named := ["loop.example/g01313/impl.errNoEquation"], ifaces := true, apart := false, laid := [("loop.example/g01313/impl.errNoEquation", laid_loop_example_g01313_impl_errNoEquation)], narrowed := true }
def FnExactCurvePointsUptoSaid : Prop := fnExactCurvePointsUptoRow.holds Tryd.pinned (OpenSpec.upto fnExactCurvePointsSpec)

/-- 'laws.FnExactCurveDefect', WHERE WHAT IT READS IS OF BULK AT MOST 1048576: true; the input reads as it did. -/
def fnExactCurveDefectUptoRow : OpenClaim := { program := "ytacffobbbcfbcaadoor", sum := "49c8042bc6aaf3e66ffced53381cdd125410f2cfaa285cd2694f9b4ab5a17ec2", func := "loop.example/g01313/laws.FnExactCurveDefect", spec := "fnExactCurveDefect", unfollowed := true, recurses := true, named := ["loop.example/g01313/impl.errNoEquation"], ifaces := true, apart := false, laid := [("loop.example/g01313/impl.errNoEquation", laid_loop_example_g01313_impl_errNoEquation)], narrowed := true }
def FnExactCurveDefectUptoSaid : Prop := fnExactCurveDefectUptoRow.holds Tryd.pinned (OpenSpec.upto fnExactCurveDefectSpec)

/-- 'laws.FnExactGenusOfCurve', WHERE WHAT IT READS IS OF BULK AT MOST 1048576: true; the input reads as it did. -/
def fnExactGenusOfCurveUptoRow : OpenClaim := { program := "ytacffobbbcfbcaadoor", sum := "49c8042bc6aaf3e66ffced53381cdd125410f2cfaa285cd2694f9b4ab5a17ec2", func := "loop.example/g01313/laws.FnExactGenusOfCurve", spec := "fnExactGenusOfCurve", unfollowed := true, recurses := true, named := ["loop.example/g01313/impl.errNoEquation"], ifaces := true, apart := false, laid := [("loop.example/g01313/impl.errNoEquation", laid_loop_example_g01313_impl_errNoEquation)], narrowed := true }
def FnExactGenusOfCurveUptoSaid : Prop := fnExactGenusOfCurveUptoRow.holds Tryd.pinned (OpenSpec.upto fnExactGenusOfCurveSpec)

/-- 'laws.FnExactPointsAbove', WHERE WHAT IT READS IS OF BULK AT MOST 1048576: true; the input reads as it did. -/
def fnExactPointsAboveUptoRow : OpenClaim := { program := "ytacffobbbcfbcaadoor", sum := "49c8042bc6aaf3e66ffced53381cdd125410f2cfaa285cd2694f9b4ab5a17ec2", func := "loop.example/g01313/laws.FnExactPointsAbove", spec := "fnExactPointsAbove", unfollowed := true, recurses := true, named := ["loop.example/g01313/impl.errNoEquation"], ifaces := true, apart := false, laid := [("loop.example/g01313/impl.errNoEquation", laid_loop_example_g01313_impl_errNoEquation)], narrowed := true }
def FnExactPointsAboveUptoSaid : Prop := fnExactPointsAboveUptoRow.holds Tryd.pinned (OpenSpec.upto fnExactPointsAboveSpec)

/-- 'laws.FnExactPowerNumber', WHERE WHAT IT READS IS OF BULK AT MOST 1048576: true; the input reads as it did. -/
def fnExactPowerNumberUptoRow : OpenClaim := { program := "ytacffobbbcfbcaadoor", sum := "49c8042bc6aaf3e66ffced53381cdd125410f2cfaa285cd2694f9b4ab5a17ec2", func := "loop.example/g01313/laws.FnExactPowerNumber", spec := "fnExactPowerNumber", unfollowed := true, recurses := true, named := ["loop.example/g01313/impl.errNoEquation"], ifaces := true, apart := false, laid := [("loop.example/g01313/impl.errNoEquation", laid_loop_example_g01313_impl_errNoEquation)], narrowed := true }
def FnExactPowerNumberUptoSaid : Prop := fnExactPowerNumberUptoRow.holds Tryd.pinned (OpenSpec.upto fnExactPowerNumberSpec)

/-- 'laws.FnExactLeastNoPower', WHERE WHAT IT READS IS OF BULK AT MOST 1048576: true; the input reads as it did. -/
def fnExactLeastNoPowerUptoRow : OpenClaim := { program := "ytacffobbbcfbcaadoor", sum := "49c8042bc6aaf3e66ffced53381cdd125410f2cfaa285cd2694f9b4ab5a17ec2", func := "loop.example/g01313/laws.FnExactLeastNoPower", spec := "fnExactLeastNoPower", unfollowed := true, recurses := true, named := ["loop.example/g01313/impl.errNoEquation"], ifaces := true, apart := false, laid := [("loop.example/g01313/impl.errNoEquation", laid_loop_example_g01313_impl_errNoEquation)], narrowed := true }
def FnExactLeastNoPowerUptoSaid : Prop := fnExactLeastNoPowerUptoRow.holds Tryd.pinned (OpenSpec.upto fnExactLeastNoPowerSpec)

end Rows
end Go.Proofs.YtacffobbbcfbcaaDoor
