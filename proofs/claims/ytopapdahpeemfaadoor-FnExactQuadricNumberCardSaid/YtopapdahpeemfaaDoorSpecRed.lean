/- l01Zero, l01Reduce: the model's reduction. -/
import Derived.Test.YtopapdahpeemfaaDoorRed
import Derived.BigRegion
namespace Go.Proofs.YtopapdahpeemfaaDoor
open Go.RowKit Go.ChangeShapes Go.Sort

def pad (L : Nat) (f : Nat → Int) : Nat → Int := fun j => if j < L then f j else 0

theorem divL_zero_top {g : Nat → Int} {d r : Nat} {M : Nat → Int} : ∀ r', r ≤ r' → (∀ k, r ≤ k → k < r' → M (k + d) = 0) → divL g d r' M = divL g d r M
  | 0, h, _ => by
    have e : r = 0 := by omega
    subst e; rfl
  | r' + 1, h, hz => by
    rcases Nat.lt_or_ge r' r with h1 | h1
    · have e : r = r' + 1 := by omega
      subst e; rfl
    · rw [divL_succ, stepD_zero (hz r' h1 (by omega))]
      exact divL_zero_top r' h1 (fun k a b => hz k a (by omega))
theorem stepD_congr {g : Nat → Int} {d k B : Nat} {M M' : Nat → Int} (hB : k + d < B) (h : ∀ j, j < B → M j = M' j) : ∀ j, j < B → stepD g d k M j = stepD g d k M' j := by
  intro j hj
  unfold stepD
  rw [h (k + d) hB]
  split
  · exact h j hj
  · dsimp only
    rw [h j hj]
theorem divL_congr {g : Nat → Int} {d : Nat} : ∀ (r B : Nat) {M M' : Nat → Int}, r + d ≤ B → (∀ j, j < B → M j = M' j) → ∀ j, j < B → divL g d r M j = divL g d r M' j
  | 0, _, _, _, _, h, j, hj => h j hj
  | r + 1, B, M, M', hB, h, j, hj => by
    rw [divL_succ, divL_succ]
    exact divL_congr r B (by omega) (stepD_congr (by omega) h) j hj
theorem divL_inR {g : Nat → Int} {d n : Nat} : ∀ (r : Nat) {M : Nat → Int}, (∀ j, j < n → inR (M j)) → ∀ j, j < n → inR (divL g d r M j)
  | 0, _, h => h
  | r + 1, M, h => by rw [divL_succ]; exact divL_inR r (stepD_inR h)

/-- The model's rest of a list is the program's of the list with zeros behind it. -/
theorem red_eq (n L : Nat) (f : Nat → Int) (hL : L ≤ 24) : ∀ j, j < phiN n → (if j < L then divL (cyc n) (phiN n) (L - phiN n) f j else 0) = redP n (pad L f) j := by
  intro j hj
  have e : redP n (pad L f) = divL (cyc n) (phiN n) (L - phiN n) (pad L f) := by
    unfold redP
    exact divL_zero_top _ (by omega) (fun k h1 h2 => if_neg (by omega))
  rw [e]
  by_cases h : j < L
  · rw [if_pos h]
    rcases Nat.lt_or_ge (phiN n) L with h1 | h1
    · exact divL_congr _ L (by omega) (fun i hi => (if_pos hi).symm) j h
    · rw [show L - phiN n = 0 by omega]
      exact (if_pos h).symm
  · rw [if_neg h, show L - phiN n = 0 by omega]
    exact (if_neg h).symm

section
variable {o : Bool} {lo hi L : Nat} {v : Value} {f : Nat → Int}
end
end Go.Proofs.YtopapdahpeemfaaDoor
