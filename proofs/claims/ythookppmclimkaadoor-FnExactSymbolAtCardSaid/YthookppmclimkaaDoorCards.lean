/-
  DERIVED. GIVEN WITH THE SEED: THE CARDS: each row of YthookppmclimkaaDoorRows.lean that lists a variable, with what it lists TIED to the program's text (the seventh form; the later family's looks); each row that meets fmt, with fmt's text TOLD by the authors' own Lean function (tested against real Go, not proved from fmt's source: count such statements apart). THE CARD IS WHAT COUNTS. Prove the row's statement (the work); the ties are given (YthookppmclimkaaDoorTie.lean); close each card by the builder's one call (the guide's Derived/Test/ToyasCard.lean, 'card_holds'). Laid BY PROGRAM, IN A SANDBOX (cutbox-door.mjs). By AI agents, Wed Nov 11 2026. No macro, syntax, notation, axiom, sorry.
-/
import Derived.Test.YthookppmclimkaaDoorRows
import GoSem.ClaimSeven
namespace Go.Proofs.YthookppmclimkaaDoor
namespace Rows

/-- THE TIED CARD OF 'laws.FnResidues'. -/
def fnResiduesCard : Claim7 := { stood := { row := fnResiduesRow, standIns := [], harness := (true, "6a1e35fb0fae2c30b780416b48602f728f1d674f63c19afe85c5be566e2f766c"), looks := true }, kinds := [], alts := [], goes := true, laidByText := true, laidKinds := [.sentinel], laidTests := true, laidLooks := .later }
def FnResiduesCardSaid : Prop := Claim7.holds Tryd.pinned (.plain (OpenSpec.ofChange fnResiduesSpec)) fnResiduesCard

/-- THE TIED CARD OF 'laws.FnExactResidueAt'. -/
def fnExactResidueAtCard : Claim7 := { stood := { row := fnExactResidueAtRow, standIns := [], harness := (true, "6a1e35fb0fae2c30b780416b48602f728f1d674f63c19afe85c5be566e2f766c"), looks := true }, kinds := [], alts := [], goes := true, laidByText := true, laidKinds := [.sentinel], laidTests := true, laidLooks := .later }
def FnExactResidueAtCardSaid : Prop := Claim7.holds Tryd.pinned (.plain (OpenSpec.ofChange fnExactResidueAtSpec)) fnExactResidueAtCard

/-- THE TIED CARD OF 'laws.FnExactLiftedRoot'. -/
def fnExactLiftedRootCard : Claim7 := { stood := { row := fnExactLiftedRootRow, standIns := [], harness := (true, "6a1e35fb0fae2c30b780416b48602f728f1d674f63c19afe85c5be566e2f766c"), looks := true }, kinds := [], alts := [], goes := true, laidByText := true, laidKinds := [.sentinel], laidTests := true, laidLooks := .later }
def FnExactLiftedRootCardSaid : Prop := Claim7.holds Tryd.pinned (.plain (OpenSpec.ofChange fnExactLiftedRootSpec)) fnExactLiftedRootCard

/-- THE TIED CARD OF 'laws.FnExactValuationAt'. -/
def fnExactValuationAtCard : Claim7 := { stood := { row := fnExactValuationAtRow, standIns := [], harness := (true, "6a1e35fb0fae2c30b780416b48602f728f1d674f63c19afe85c5be566e2f766c"), looks := true }, kinds := [], alts := [], goes := true, laidByText := true, laidKinds := [.sentinel], laidTests := true, laidLooks := .later }
def FnExactValuationAtCardSaid : Prop := Claim7.holds Tryd.pinned (.plain (OpenSpec.ofChange fnExactValuationAtSpec)) fnExactValuationAtCard

/-- THE TIED CARD OF 'laws.FnExactSymbolAt'. -/
def fnExactSymbolAtCard : Claim7 := { stood := { row := fnExactSymbolAtRow, standIns := [], harness := (true, "6a1e35fb0fae2c30b780416b48602f728f1d674f63c19afe85c5be566e2f766c"), looks := true }, kinds := [], alts := [], goes := true, laidByText := true, laidKinds := [.sentinel], laidTests := true, laidLooks := .later }
def FnExactSymbolAtCardSaid : Prop := Claim7.holds Tryd.pinned (.plain (OpenSpec.ofChange fnExactSymbolAtSpec)) fnExactSymbolAtCard

/-- THE TIED CARD OF 'laws.FnExactMovePlace'. -/
def fnExactMovePlaceCard : Claim7 := { stood := { row := fnExactMovePlaceRow, standIns := [], harness := (true, "6a1e35fb0fae2c30b780416b48602f728f1d674f63c19afe85c5be566e2f766c"), looks := true }, kinds := [], alts := [], goes := true, laidByText := true, laidKinds := [.sentinel], laidTests := true, laidLooks := .later }
def FnExactMovePlaceCardSaid : Prop := Claim7.holds Tryd.pinned (.plain (OpenSpec.ofChange fnExactMovePlaceSpec)) fnExactMovePlaceCard

/-- THE SECOND FORM's CARD OF 'laws.FnResidues'. -/
def fnResiduesUptoCard : Claim7 := { stood := { row := fnResiduesUptoRow, standIns := [], harness := (true, "6a1e35fb0fae2c30b780416b48602f728f1d674f63c19afe85c5be566e2f766c"), looks := true }, kinds := [], alts := [], goes := true, laidByText := true, laidKinds := [.sentinel], laidTests := true, laidLooks := .later }
def FnResiduesUptoCardSaid : Prop := Claim7.holds Tryd.pinned (.plain (OpenSpec.upto fnResiduesSpec)) fnResiduesUptoCard

/-- THE SECOND FORM's CARD OF 'laws.FnExactResidueAt'. -/
def fnExactResidueAtUptoCard : Claim7 := { stood := { row := fnExactResidueAtUptoRow, standIns := [], harness := (true, "6a1e35fb0fae2c30b780416b48602f728f1d674f63c19afe85c5be566e2f766c"), looks := true }, kinds := [], alts := [], goes := true, laidByText := true, laidKinds := [.sentinel], laidTests := true, laidLooks := .later }
def FnExactResidueAtUptoCardSaid : Prop := Claim7.holds Tryd.pinned (.plain (OpenSpec.upto fnExactResidueAtSpec)) fnExactResidueAtUptoCard

/-- THE SECOND FORM's CARD OF 'laws.FnExactLiftedRoot'. -/
def fnExactLiftedRootUptoCard : Claim7 := { stood := { row := fnExactLiftedRootUptoRow, standIns := [], harness := (true, "6a1e35fb0fae2c30b780416b48602f728f1d674f63c19afe85c5be566e2f766c"), looks := true }, kinds := [], alts := [], goes := true, laidByText := true, laidKinds := [.sentinel], laidTests := true, laidLooks := .later }
def FnExactLiftedRootUptoCardSaid : Prop := Claim7.holds Tryd.pinned (.plain (OpenSpec.upto fnExactLiftedRootSpec)) fnExactLiftedRootUptoCard

/-- THE SECOND FORM's CARD OF 'laws.FnExactValuationAt'. -/
def fnExactValuationAtUptoCard : Claim7 := { stood := { row := fnExactValuationAtUptoRow, standIns := [], harness := (true, "6a1e35fb0fae2c30b780416b48602f728f1d674f63c19afe85c5be566e2f766c"), looks := true }, kinds := [], alts := [], goes := true, laidByText := true, laidKinds := [.sentinel], laidTests := true, laidLooks := .later }
def FnExactValuationAtUptoCardSaid : Prop := Claim7.holds Tryd.pinned (.plain (OpenSpec.upto fnExactValuationAtSpec)) fnExactValuationAtUptoCard

/-- THE SECOND FORM's CARD OF 'laws.FnExactSymbolAt'. -/
def fnExactSymbolAtUptoCard : Claim7 := { stood := { row := fnExactSymbolAtUptoRow, standIns := [], harness := (true, "6a1e35fb0fae2c30b780416b48602f728f1d674f63c19afe85c5be566e2f766c"), looks := true }, kinds := [], alts := [], goes := true, laidByText := true, laidKinds := [.sentinel], laidTests := true, laidLooks := .later }
def FnExactSymbolAtUptoCardSaid : Prop := Claim7.holds Tryd.pinned (.plain (OpenSpec.upto fnExactSymbolAtSpec)) fnExactSymbolAtUptoCard

/-- THE SECOND FORM's CARD OF 'laws.FnExactMovePlace'. -/
def fnExactMovePlaceUptoCard : Claim7 := { stood := { row := fnExactMovePlaceUptoRow, standIns := [], harness := (true, "6a1e35fb0fae2c30b780416b48602f728f1d674f63c19afe85c5be566e2f766c"), looks := true }, kinds := [], alts := [], goes := true, laidByText := true, laidKinds := [.sentinel], laidTests := true, laidLooks := .later }
def FnExactMovePlaceUptoCardSaid : Prop := Claim7.holds Tryd.pinned (.plain (OpenSpec.upto fnExactMovePlaceSpec)) fnExactMovePlaceUptoCard
end Rows
end Go.Proofs.YthookppmclimkaaDoor
