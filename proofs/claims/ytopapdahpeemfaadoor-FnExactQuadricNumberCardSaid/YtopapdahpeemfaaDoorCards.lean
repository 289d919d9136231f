/-
  DERIVED. GIVEN WITH THE SEED: THE CARDS: each row of YtopapdahpeemfaaDoorRows.lean that lists a variable, with what it lists TIED to the program's text (the seventh form; the later family's looks); each row that meets fmt, with fmt's text TOLD by the authors' own Lean function (tested against real Go, not proved from fmt's source: count such statements apart). THE CARD IS WHAT COUNTS. Prove the row's statement (the work); the ties are given (YtopapdahpeemfaaDoorTie.lean); close each card by the builder's one call (the guide's Derived/Test/ToyasCard.lean, 'card_holds'). Laid BY PROGRAM, IN A SANDBOX (cutbox-door.mjs). By AI agents, Wed Nov 11 2026. No macro, syntax, notation, axiom, sorry.
-/
import Derived.Test.YtopapdahpeemfaaDoorRows
import GoSem.ClaimSeven
namespace Go.Proofs.YtopapdahpeemfaaDoor
namespace Rows

/-- THE TIED CARD OF 'laws.FnExactQuadricNumber'. -/
def fnExactQuadricNumberCard : Claim7 := { stood := { row := fnExactQuadricNumberRow, standIns := [], harness := (true, "6167473b9026ff38ca4de86728960e0e7a8f1e4073dc00a53aa865380abc771b"), looks := true }, kinds := [], alts := [], laidByText := true, laidKinds := [.sentinel], laidTests := true, laidLooks := .later }
def FnExactQuadricNumberCardSaid : Prop := Claim7.holds Tryd.pinned (.plain (OpenSpec.ofChange fnExactQuadricNumberSpec)) fnExactQuadricNumberCard

/-- THE SECOND FORM's CARD OF 'laws.FnExactQuadricNumber'. -/
def fnExactQuadricNumberUptoCard : Claim7 := { stood := { row := fnExactQuadricNumberUptoRow, standIns := [], harness := (true, "6167473b9026ff38ca4de86728960e0e7a8f1e4073dc00a53aa865380abc771b"), looks := true }, kinds := [], alts := [], laidByText := true, laidKinds := [.sentinel], laidTests := true, laidLooks := .later }
def FnExactQuadricNumberUptoCardSaid : Prop := Claim7.holds Tryd.pinned (.plain (OpenSpec.upto fnExactQuadricNumberSpec)) fnExactQuadricNumberUptoCard
end Rows
end Go.Proofs.YtopapdahpeemfaaDoor
