/- l01Quotient, l01Cyclotomic: the model's division and its polynomials. -/
import Derived.Test.YtopapdahpeemfaaDoorCycImpl
import Derived.Test.YtopapdahpeemfaaDoorOwn
import Derived.BigRegion
namespace Go.Proofs.YtopapdahpeemfaaDoor
open Go.RowKit Go.ChangeShapes Go.Sort

theorem stepD_ge {g : Nat → Int} {d k j : Nat} {M : Nat → Int} (h : k + d ≤ j) : stepD g d k M j = M j := by
  unfold stepD; split
  · rfl
  · exact if_neg (by omega)
theorem divL_ge {g : Nat → Int} {d : Nat} : ∀ (r : Nat) {j : Nat} {M : Nat → Int}, r + d ≤ j + 1 → divL g d r M j = M j
  | 0, _, _, _ => rfl
  | r + 1, j, M, h => by rw [divL_succ, divL_ge r (by omega), stepD_ge (by omega)]
/-- A step without the look at the lead: the same numbers, as long as all fit. -/
theorem stepD_plain {g : Nat → Int} {d k j : Nat} {M : Nat → Int} (h : inR (M j)) (h1 : k ≤ j) (h2 : j < k + d) : stepD g d k M j = wrap64 (M j - wrap64 (M (k + d) * g (j - k))) := by
  unfold stepD; split
  · rename_i h0; rw [h0, Int.zero_mul, show wrap64 0 = 0 from wrap_inR (by unfold inR; omega), Int.sub_zero, wrap_inR h]
  · exact if_pos ⟨h1, h2⟩
theorem stepD_low {g : Nat → Int} {d k j : Nat} {M : Nat → Int} (h : j < k) : stepD g d k M j = M j := by
  unfold stepD; split
  · rfl
  · exact if_neg (by omega)

section
variable {o o' : Bool} {lo hi lo' hi' : Nat} {v v' : Value} {f g : Nat → Int}
end

end Go.Proofs.YtopapdahpeemfaaDoor
