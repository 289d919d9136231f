/- Two numbers: pairCode of the program, l01Like of the model. -/
import Derived.Test.YtnhpodlcgkgpbaaReal
namespace Go.Proofs.Ytnhpodlcgkgpbaa
open Go.RowKit Go.ChangeShapes Go.Sort
set_option linter.unusedVariables false
set_option linter.unusedSimpArgs false

open Classical in
/-- The code of two numbers that have to have the same order. -/
noncomputable def pairC (x y : Int) (n m : Nat) (f g : Nat → Int) : Int := if ¬ CyP x n f ∨ ¬ CyP y m g then 1 else if x = y then 0 else 2
theorem pairC_ok {x y : Int} {n m : Nat} {f g : Nat → Int} (h : CyP x n f) (h' : CyP y m g) (e : x = y) : pairC x y n m f g = 0 := by
  unfold pairC
  rw [if_neg (by rintro (q | q) <;> contradiction), if_pos e]
theorem pairC_diff {x y : Int} {n m : Nat} {f g : Nat → Int} (h : CyP x n f) (h' : CyP y m g) (e : x ≠ y) : pairC x y n m f g = 2 := by
  unfold pairC
  rw [if_neg (by rintro (q | q) <;> contradiction), if_neg e]
theorem pairC_bad {x y : Int} {n m : Nat} {f g : Nat → Int} (h : ¬ CyP x n f ∨ ¬ CyP y m g) : pairC x y n m f g = 1 := by
  unfold pairC
  rw [if_pos h]
theorem pairC_zero {x y : Int} {n m : Nat} {f g : Nat → Int} (h : pairC x y n m f g = 0) : CyP x n f ∧ CyP y m g ∧ x = y := by
  by_cases h1 : CyP x n f
  · by_cases h2 : CyP y m g
    · by_cases e : x = y
      · exact ⟨h1, h2, e⟩
      · rw [pairC_diff h1 h2 e] at h; omega
    · rw [pairC_bad (.inr h2)] at h; omega
  · rw [pairC_bad (.inl h1)] at h; omega

section
variable {o o' : Bool} {lo hi lo' hi' n m : Nat} {v v' : Value} {f g : Nat → Int}
end
end Go.Proofs.Ytnhpodlcgkgpbaa
