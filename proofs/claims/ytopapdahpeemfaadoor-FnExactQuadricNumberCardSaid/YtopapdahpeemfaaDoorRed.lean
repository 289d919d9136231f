/- Reduction by the cyclotomic polynomial: reducedParts, arrayOf, cycloWithin. -/
import Derived.Test.YtopapdahpeemfaaDoorCycSpec
import Derived.Test.YtopapdahpeemfaaDoorState
import Derived.Test.YtopapdahpeemfaaDoorSet
import Derived.Laws.Cover3
namespace Go.Proofs.YtopapdahpeemfaaDoor
open Go.RowKit Go.ChangeShapes Go.Sort

/-- What is left of a list of 24 numbers by the cyclotomic polynomial of n. -/
def redP (n : Nat) (P : Nat → Int) : Nat → Int := divL (cyc n) (phiN n) (24 - phiN n) P
/-- An array of twelve. -/
def arrV (f : Nat → Int) : Value := .agg #[.int .i64 (f 0), .int .i64 (f 1), .int .i64 (f 2), .int .i64 (f 3), .int .i64 (f 4), .int .i64 (f 5), .int .i64 (f 6), .int .i64 (f 7), .int .i64 (f 8), .int .i64 (f 9), .int .i64 (f 10), .int .i64 (f 11)]
def cut (n : Nat) (f : Nat → Int) : Nat → Int := fun j => if j < n then f j else 0

theorem phi_le12 : ∀ n, n ≤ 16 → 1 ≤ n → phiN n ≤ 12 := by decide +kernel
theorem Tryd.zero2 (w : World) : (zeroValue 2).run Tryd.prog w = .ok (.int .i64 0) w := by kernel_rfl

section
variable {o : Bool} {lo hi : Nat} {v : Value} {P : Nat → Int}
end
end Go.Proofs.YtopapdahpeemfaaDoor
