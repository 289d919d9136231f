/- ConjugateOf of the program and of the model. -/
import Derived.Test.YtnhpodlcgkgpbaaImg
import Derived.Deep.RegionHeld3
import Derived.IntWalk
namespace Go.Proofs.Ytnhpodlcgkgpbaa
open Go.RowKit Go.ChangeShapes Go.Sort
set_option linter.unusedVariables false

section
variable {o : Bool} {lo hi L : Nat} {v : Value} {f : Nat → Int}
end
end Go.Proofs.Ytnhpodlcgkgpbaa
