/- l03Is; IsCharacter of the model; pairs, products and inverses of characters. -/
import Derived.Test.YtopapdahpeemfaaDoorChr
namespace Go.Proofs.YtopapdahpeemfaaDoor
open Go.RowKit Go.ChangeShapes Go.Sort
set_option linter.unusedVariables false
set_option linter.unusedSimpArgs false

theorem ChP.mk {p n k : Nat} (hp : primeN p = true) (h1 : 1 ≤ n) (h2 : n ≤ 16) (hd : (p - 1) % n = 0) (hk : k < n) : ChP p n k := by
  have hb := primeN_bd hp
  refine ⟨⟨by omega, by rwa [Int.toNat_natCast]⟩, ⟨by omega, by omega, ?_⟩, by omega, by omega⟩
  rw [show ((p : Int) - 1) = ((p - 1 : Nat) : Int) by omega, ← Int.natCast_emod, hd]; rfl

/-- The character that is none. -/
def noC (c : Int) : Value := .tuple #[.agg #[.int .i64 0, .int .i64 0, .int .i64 0], .int .i64 c]

end Go.Proofs.YtopapdahpeemfaaDoor
