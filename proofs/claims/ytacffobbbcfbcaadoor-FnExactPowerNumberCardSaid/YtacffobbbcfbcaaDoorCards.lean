/-
  DERIVED. GIVEN WITH THE SEED: THE CARDS: each row of YtacffobbbcfbcaaDoorRows.lean that lists a variable, with what it lists TIED to the program's text (the seventh form; the later family's looks); each row that meets fmt, with fmt's text TOLD by the authors' own Lean function (tested against real Go, not proved from fmt's source: count such statements apart). THE CARD IS WHAT COUNTS. Prove the row's statement (the work); the ties are given (YtacffobbbcfbcaaDoorTie.lean); close each card by the builder's one call (the guide's Derived/Test/ToyasCard.lean, 'card_holds'). Laid BY PROGRAM, IN A SANDBOX (cutbox-door.mjs). By AI agents, Wed Nov 11 2026. No macro, syntax, notation, axiom, sorry.
-/
import Derived.Test.YtacffobbbcfbcaaDoorRows
import GoSem.ClaimSeven
namespace Go.Proofs.YtacffobbbcfbcaaDoor
namespace Rows

/-- THE TIED CARD OF 'laws.FnSolutions'. -/
def fnSolutionsCard : Claim7 := { stood := { row := fnSolutionsRow, standIns := [], harness := (true, "fa76a6e2ef66c83e0bdf1c3bfa5cd93c6510d72aa3bda016c1012d12131d2f52"), looks := true }, kinds := [], alts := [], laidByText := true, laidKinds := [.sentinel], laidTests := true, laidLooks := .later }
def FnSolutionsCardSaid : Prop := Claim7.holds Tryd.pinned (.plain (OpenSpec.ofChange fnSolutionsSpec)) fnSolutionsCard

/-- THE TIED CARD OF 'laws.FnCurves'. -/
def fnCurvesCard : Claim7 := { stood := { row := fnCurvesRow, standIns := [], harness := (true, "fa76a6e2ef66c83e0bdf1c3bfa5cd93c6510d72aa3bda016c1012d12131d2f52"), looks := true }, kinds := [], alts := [], laidByText := true, laidKinds := [.sentinel], laidTests := true, laidLooks := .later }
def FnCurvesCardSaid : Prop := Claim7.holds Tryd.pinned (.plain (OpenSpec.ofChange fnCurvesSpec)) fnCurvesCard

/-- THE TIED CARD OF 'laws.FnExactPowersOf'. -/
def fnExactPowersOfCard : Claim7 := { stood := { row := fnExactPowersOfRow, standIns := [], harness := (true, "fa76a6e2ef66c83e0bdf1c3bfa5cd93c6510d72aa3bda016c1012d12131d2f52"), looks := true }, kinds := [], alts := [], laidByText := true, laidKinds := [.sentinel], laidTests := true, laidLooks := .later }
def FnExactPowersOfCardSaid : Prop := Claim7.holds Tryd.pinned (.plain (OpenSpec.ofChange fnExactPowersOfSpec)) fnExactPowersOfCard

/-- THE TIED CARD OF 'laws.FnExactValueCounts'. -/
def fnExactValueCountsCard : Claim7 := { stood := { row := fnExactValueCountsRow, standIns := [], harness := (true, "fa76a6e2ef66c83e0bdf1c3bfa5cd93c6510d72aa3bda016c1012d12131d2f52"), looks := true }, kinds := [], alts := [], laidByText := true, laidKinds := [.sentinel], laidTests := true, laidLooks := .later }
def FnExactValueCountsCardSaid : Prop := Claim7.holds Tryd.pinned (.plain (OpenSpec.ofChange fnExactValueCountsSpec)) fnExactValueCountsCard

/-- THE TIED CARD OF 'laws.FnExactCountSolutions'. -/
def fnExactCountSolutionsCard : Claim7 := { stood := { row := fnExactCountSolutionsRow, standIns := [], harness := (true, "fa76a6e2ef66c83e0bdf1c3bfa5cd93c6510d72aa3bda016c1012d12131d2f52"), looks := true }, kinds := [], alts := [], laidByText := true, laidKinds := [.sentinel], laidTests := true, laidLooks := .later }
def FnExactCountSolutionsCardSaid : Prop := Claim7.holds Tryd.pinned (.plain (OpenSpec.ofChange fnExactCountSolutionsSpec)) fnExactCountSolutionsCard

/-- THE TIED CARD OF 'laws.FnExactCountFull'. -/
def fnExactCountFullCard : Claim7 := { stood := { row := fnExactCountFullRow, standIns := [], harness := (true, "fa76a6e2ef66c83e0bdf1c3bfa5cd93c6510d72aa3bda016c1012d12131d2f52"), looks := true }, kinds := [], alts := [], laidByText := true, laidKinds := [.sentinel], laidTests := true, laidLooks := .later }
def FnExactCountFullCardSaid : Prop := Claim7.holds Tryd.pinned (.plain (OpenSpec.ofChange fnExactCountFullSpec)) fnExactCountFullCard

/-- THE TIED CARD OF 'laws.FnExactQuadricNumber'. -/
def fnExactQuadricNumberCard : Claim7 := { stood := { row := fnExactQuadricNumberRow, standIns := [], harness := (true, "fa76a6e2ef66c83e0bdf1c3bfa5cd93c6510d72aa3bda016c1012d12131d2f52"), looks := true }, kinds := [], alts := [], laidByText := true, laidKinds := [.sentinel], laidTests := true, laidLooks := .later }
def FnExactQuadricNumberCardSaid : Prop := Claim7.holds Tryd.pinned (.plain (OpenSpec.ofChange fnExactQuadricNumberSpec)) fnExactQuadricNumberCard

/-- THE TIED CARD OF 'laws.FnExactCurvePoints'. -/
def fnExactCurvePointsCard : Claim7 := { stood := { row := fnExactCurvePointsRow, standIns := [], harness := (true, "fa76a6e2ef66c83e0bdf1c3bfa5cd93c6510d72aa3bda016c1012d12131d2f52"), looks := true }, kinds := [], alts := [], laidByText := true, laidKinds := [.sentinel], laidTests := true, laidLooks := .later }
def FnExactCurvePointsCardSaid : Prop := Claim7.holds Tryd.pinned (.plain (OpenSpec.ofChange fnExactCurvePointsSpec)) fnExactCurvePointsCard

/-- THE TIED CARD OF 'laws.FnExactCurveDefect'. -/
def fnExactCurveDefectCard : Claim7 := { stood := { row := fnExactCurveDefectRow, standIns := [], harness := (true, "fa76a6e2ef66c83e0bdf1c3bfa5cd93c6510d72aa3bda016c1012d12131d2f52"), looks := true }, kinds := [], alts := [], laidByText := true, laidKinds := [.sentinel], laidTests := true, laidLooks := .later }
def FnExactCurveDefectCardSaid : Prop := Claim7.holds Tryd.pinned (.plain (OpenSpec.ofChange fnExactCurveDefectSpec)) fnExactCurveDefectCard

/-- THE TIED CARD OF 'laws.FnExactGenusOfCurve'. -/
def fnExactGenusOfCurveCard : Claim7 := { stood := { row := fnExactGenusOfCurveRow, standIns := [], harness := (true, "fa76a6e2ef66c83e0bdf1c3bfa5cd93c6510d72aa3bda016c1012d12131d2f52"), looks := true }, kinds := [], alts := [], laidByText := true, laidKinds := [.sentinel], laidTests := true, laidLooks := .later }
def FnExactGenusOfCurveCardSaid : Prop := Claim7.holds Tryd.pinned (.plain (OpenSpec.ofChange fnExactGenusOfCurveSpec)) fnExactGenusOfCurveCard

/-- THE TIED CARD OF 'laws.FnExactPointsAbove'. -/
def fnExactPointsAboveCard : Claim7 := { stood := { row := fnExactPointsAboveRow, standIns := [], harness := (true, "fa76a6e2ef66c83e0bdf1c3bfa5cd93c6510d72aa3bda016c1012d12131d2f52"), looks := true }, kinds := [], alts := [], laidByText := true, laidKinds := [.sentinel], laidTests := true, laidLooks := .later }
def FnExactPointsAboveCardSaid : Prop := Claim7.holds Tryd.pinned (.plain (OpenSpec.ofChange fnExactPointsAboveSpec)) fnExactPointsAboveCard

/-- THE TIED CARD OF 'laws.FnExactPowerNumber'. -/
def fnExactPowerNumberCard : Claim7 := { stood := { row := fnExactPowerNumberRow, standIns := [], harness := (true, "fa76a6e2ef66c83e0bdf1c3bfa5cd93c6510d72aa3bda016c1012d12131d2f52"), looks := true }, kinds := [], alts := [], laidByText := true, laidKinds := [.sentinel], laidTests := true, laidLooks := .later }
def FnExactPowerNumberCardSaid : Prop := Claim7.holds Tryd.pinned (.plain (OpenSpec.ofChange fnExactPowerNumberSpec)) fnExactPowerNumberCard

/-- THE TIED CARD OF 'laws.FnExactLeastNoPower'. -/
def fnExactLeastNoPowerCard : Claim7 := { stood := { row := fnExactLeastNoPowerRow, standIns := [], harness := (true, "fa76a6e2ef66c83e0bdf1c3bfa5cd93c6510d72aa3bda016c1012d12131d2f52"), looks := true }, kinds := [], alts := [], laidByText := true, laidKinds := [.sentinel], laidTests := true, laidLooks := .later }
def FnExactLeastNoPowerCardSaid : Prop := Claim7.holds Tryd.pinned (.plain (OpenSpec.ofChange fnExactLeastNoPowerSpec)) fnExactLeastNoPowerCard

/-- THE SECOND FORM's CARD OF 'laws.FnSolutions'. -/
def fnSolutionsUptoCard : Claim7 := { stood := { row := fnSolutionsUptoRow, standIns := [], harness := (true, "fa76a6e2ef66c83e0bdf1c3bfa5cd93c6510d72aa3bda016c1012d12131d2f52"), looks := true }, kinds := [], alts := [], laidByText := true, laidKinds := [.sentinel], laidTests := true, laidLooks := .later }
def FnSolutionsUptoCardSaid : Prop := Claim7.holds Tryd.pinned (.plain (OpenSpec.upto fnSolutionsSpec)) fnSolutionsUptoCard

/-- THE SECOND FORM's CARD OF 'laws.FnCurves'. -/
def fnCurvesUptoCard : Claim7 := { stood := { row := fnCurvesUptoRow, standIns := [], harness := (true, "fa76a6e2ef66c83e0bdf1c3bfa5cd93c6510d72aa3bda016c1012d12131d2f52"), looks := true }, kinds := [], alts := [], laidByText := true, laidKinds := [.sentinel], laidTests := true, laidLooks := .later }
def FnCurvesUptoCardSaid : Prop := Claim7.holds Tryd.pinned (.plain (OpenSpec.upto fnCurvesSpec)) fnCurvesUptoCard

/-- THE SECOND FORM's CARD OF 'laws.FnExactPowersOf'. -/
def fnExactPowersOfUptoCard : Claim7 := { stood := { row := fnExactPowersOfUptoRow, standIns := [], harness := (true, "fa76a6e2ef66c83e0bdf1c3bfa5cd93c6510d72aa3bda016c1012d12131d2f52"), looks := true }, kinds := [], alts := [], laidByText := true, laidKinds := [.sentinel], laidTests := true, laidLooks := .later }
def FnExactPowersOfUptoCardSaid : Prop := Claim7.holds Tryd.pinned (.plain (OpenSpec.upto fnExactPowersOfSpec)) fnExactPowersOfUptoCard

/-- THE SECOND FORM's CARD OF 'laws.FnExactValueCounts'. -/
def fnExactValueCountsUptoCard : Claim7 := { stood := { row := fnExactValueCountsUptoRow, standIns := [], harness := (true, "fa76a6e2ef66c83e0bdf1c3bfa5cd93c6510d72aa3bda016c1012d12131d2f52"), looks := true }, kinds := [], alts := [], laidByText := true, laidKinds := [.sentinel], laidTests := true, laidLooks := .later }
def FnExactValueCountsUptoCardSaid : Prop := Claim7.holds Tryd.pinned (.plain (OpenSpec.upto fnExactValueCountsSpec)) fnExactValueCountsUptoCard

/-- THE SECOND FORM's CARD OF 'laws.FnExactCountSolutions'. -/
def fnExactCountSolutionsUptoCard : Claim7 := { stood := { row := fnExactCountSolutionsUptoRow, standIns := [], harness := (true, "fa76a6e2ef66c83e0bdf1c3bfa5cd93c6510d72aa3bda016c1012d12131d2f52"), looks := true }, kinds := [], alts := [], laidByText := true, laidKinds := [.sentinel], laidTests := true, laidLooks := .later }
def FnExactCountSolutionsUptoCardSaid : Prop := Claim7.holds Tryd.pinned (.plain (OpenSpec.upto fnExactCountSolutionsSpec)) fnExactCountSolutionsUptoCard

/-- THE SECOND FORM's CARD OF 'laws.FnExactCountFull'. -/
def fnExactCountFullUptoCard : Claim7 := { stood := { row := fnExactCountFullUptoRow, standIns := [], harness := (true, "fa76a6e2ef66c83e0bdf1c3bfa5cd93c6510d72aa3bda016c1012d12131d2f52"), looks := true }, kinds := [], alts := [], laidByText := true, laidKinds := [.sentinel], laidTests := true, laidLooks := .later }
def FnExactCountFullUptoCardSaid : Prop := Claim7.holds Tryd.pinned (.plain (OpenSpec.upto fnExactCountFullSpec)) fnExactCountFullUptoCard

/-- THE SECOND FORM's CARD OF 'laws.FnExactQuadricNumber'. -/
def fnExactQuadricNumberUptoCard : Claim7 := { stood := { row := fnExactQuadricNumberUptoRow, standIns := [], harness := (true, "fa76a6e2ef66c83e0bdf1c3bfa5cd93c6510d72aa3bda016c1012d12131d2f52"), looks := true }, kinds := [], alts := [], laidByText := true, laidKinds := [.sentinel], laidTests := true, laidLooks := .later }
def FnExactQuadricNumberUptoCardSaid : Prop := Claim7.holds Tryd.pinned (.plain (OpenSpec.upto fnExactQuadricNumberSpec)) fnExactQuadricNumberUptoCard

/-- THE SECOND FORM's CARD OF 'laws.FnExactCurvePoints'. -/
def fnExactCurvePointsUptoCard : Claim7 := { stood := { row := fnExactCurvePointsUptoRow, standIns := [], harness := (true, "fa76a6e2ef66c83e0bdf1c3bfa5cd93c6510d72aa3bda016c1012d12131d2f52"), looks := true }, kinds := [], alts := [], laidByText := true, laidKinds := [.sentinel], laidTests := true, laidLooks := .later }
def FnExactCurvePointsUptoCardSaid : Prop := Claim7.holds Tryd.pinned (.plain (OpenSpec.upto fnExactCurvePointsSpec)) fnExactCurvePointsUptoCard

/-- THE SECOND FORM's CARD OF 'laws.FnExactCurveDefect'. -/
def fnExactCurveDefectUptoCard : Claim7 := { stood := { row := fnExactCurveDefectUptoRow, standIns := [], harness := (true, "fa76a6e2ef66c83e0bdf1c3bfa5cd93c6510d72aa3bda016c1012d12131d2f52"), looks := true }, kinds := [], alts := [], laidByText := true, laidKinds := [.sentinel], laidTests := true, laidLooks := .later }
def FnExactCurveDefectUptoCardSaid : Prop := Claim7.holds Tryd.pinned (.plain (OpenSpec.upto fnExactCurveDefectSpec)) fnExactCurveDefectUptoCard

/-- THE SECOND FORM's CARD OF 'laws.FnExactGenusOfCurve'. -/
def fnExactGenusOfCurveUptoCard : Claim7 := { stood := { row := fnExactGenusOfCurveUptoRow, standIns := [], harness := (true, "fa76a6e2ef66c83e0bdf1c3bfa5cd93c6510d72aa3bda016c1012d12131d2f52"), looks := true }, kinds := [], alts := [], laidByText := true, laidKinds := [.sentinel], laidTests := true, laidLooks := .later }
def FnExactGenusOfCurveUptoCardSaid : Prop := Claim7.holds Tryd.pinned (.plain (OpenSpec.upto fnExactGenusOfCurveSpec)) fnExactGenusOfCurveUptoCard

/-- THE SECOND FORM's CARD OF 'laws.FnExactPointsAbove'. -/
def fnExactPointsAboveUptoCard : Claim7 := { stood := { row := fnExactPointsAboveUptoRow, standIns := [], harness := (true, "fa76a6e2ef66c83e0bdf1c3bfa5cd93c6510d72aa3bda016c1012d12131d2f52"), looks := true }, kinds := [], alts := [], laidByText := true, laidKinds := [.sentinel], laidTests := true, laidLooks := .later }
def FnExactPointsAboveUptoCardSaid : Prop := Claim7.holds Tryd.pinned (.plain (OpenSpec.upto fnExactPointsAboveSpec)) fnExactPointsAboveUptoCard

/-- THE SECOND FORM's CARD OF 'laws.FnExactPowerNumber'. -/
def fnExactPowerNumberUptoCard : Claim7 := { stood := { row := fnExactPowerNumberUptoRow, standIns := [], harness := (true, "fa76a6e2ef66c83e0bdf1c3bfa5cd93c6510d72aa3bda016c1012d12131d2f52"), looks := true }, kinds := [], alts := [], laidByText := true, laidKinds := [.sentinel], laidTests := true, laidLooks := .later }
def FnExactPowerNumberUptoCardSaid : Prop := Claim7.holds Tryd.pinned (.plain (OpenSpec.upto fnExactPowerNumberSpec)) fnExactPowerNumberUptoCard

/-- THE SECOND FORM's CARD OF 'laws.FnExactLeastNoPower'. -/
def fnExactLeastNoPowerUptoCard : Claim7 := { stood := { row := fnExactLeastNoPowerUptoRow, standIns := [], harness := (true, "fa76a6e2ef66c83e0bdf1c3bfa5cd93c6510d72aa3bda016c1012d12131d2f52"), looks := true }, kinds := [], alts := [], laidByText := true, laidKinds := [.sentinel], laidTests := true, laidLooks := .later }
def FnExactLeastNoPowerUptoCardSaid : Prop := Claim7.holds Tryd.pinned (.plain (OpenSpec.upto fnExactLeastNoPowerSpec)) fnExactLeastNoPowerUptoCard
end Rows
end Go.Proofs.YtacffobbbcfbcaaDoor
