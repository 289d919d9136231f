/- MultiplyCyclos of the program. -/
import Derived.Test.YtnhpodlcgkgpbaaProdW
namespace Go.Proofs.Ytnhpodlcgkgpbaa
open Go.RowKit Go.ChangeShapes Go.Sort
set_option linter.unusedVariables false
set_option linter.unusedSimpArgs false

section
variable {o o' : Bool} {lo hi lo' hi' n m : Nat} {v v' : Value} {f g : Nat → Int}
end
end Go.Proofs.Ytnhpodlcgkgpbaa
