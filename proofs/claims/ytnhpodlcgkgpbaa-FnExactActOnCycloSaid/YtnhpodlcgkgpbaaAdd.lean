/- AddCyclos of the program. -/
import Derived.Test.YtnhpodlcgkgpbaaPair
namespace Go.Proofs.Ytnhpodlcgkgpbaa
open Go.RowKit Go.ChangeShapes Go.Sort
set_option linter.unusedVariables false
set_option linter.unusedSimpArgs false

/-- The Parts of the sum. -/
def addF (k : Int) (f g : Nat → Int) : Nat → Int := fun j => f j + k * g j
/-- The array of the sum, as far as m places have been added. -/
def addP (k : Int) (L : Nat) (f g : Nat → Int) (m : Nat) : Nat → Int := fun j => if j < m then cut L f j + k * g j else cut L f j
theorem addP_succ (k : Int) (L : Nat) (f g : Nat → Int) (m : Nat) : addP k L f g (m + 1) = fun j => if j = m then addP k L f g m m + k * g m else addP k L f g m j := by
  funext j
  unfold addP
  by_cases e : j = m
  · subst e; simp
  · rw [if_neg e]
    by_cases e2 : j < m
    · rw [if_pos e2, if_pos (by omega)]
    · rw [if_neg e2, if_neg (by omega)]
theorem addP_end (k : Int) (L : Nat) (f g : Nat → Int) (j : Nat) (hj : j < L) : addP k L f g L j = addF k f g j := by
  unfold addP addF cut
  rw [if_pos hj, if_pos hj]
theorem addP_far (k : Int) (L : Nat) (f g : Nat → Int) (m j : Nat) (hm : m ≤ L) (hj : L ≤ j) : addP k L f g m j = 0 := by
  unfold addP cut
  rw [if_neg (by omega), if_neg (by omega)]
theorem mul_part {k p : Int} (hk1 : -1000 ≤ k) (hk2 : k ≤ 1000) (hp1 : -1000000000 ≤ p) (hp2 : p ≤ 1000000000) : -1000000000000 ≤ k * p ∧ k * p ≤ 1000000000000 := by
  have h1 : (k * p).natAbs ≤ 1000 * 1000000000 := by
    rw [Int.natAbs_mul]
    exact Nat.mul_le_mul (by omega) (by omega)
  omega
theorem addP_bd {k : Int} {L : Nat} {f g : Nat → Int} {m : Nat} (hk1 : -1000 ≤ k) (hk2 : k ≤ 1000) (hf : Within f L 1000000000) (hg : Within g L 1000000000) (hm : m ≤ L) (j : Nat) : -1001000000000 ≤ addP k L f g m j ∧ addP k L f g m j ≤ 1001000000000 := by
  unfold addP cut
  by_cases e : j < L
  · have hf' := hf j e
    rw [if_pos e]
    by_cases e2 : j < m
    · rw [if_pos e2]
      have hg' := hg j e
      have := mul_part hk1 hk2 hg'.1 hg'.2
      omega
    · rw [if_neg e2]; omega
  · rw [if_neg e, if_neg (by omega)]; omega
theorem addP_within {k : Int} {L : Nat} {f g : Nat → Int} (hL : L ≤ 12) : Within (addP k L f g L) 12 1000000000 ↔ Within (addF k f g) L 1000000000 := by
  constructor
  · intro h j hj
    rw [← addP_end k L f g j hj]
    exact h j (by omega)
  · intro h j hj
    by_cases e : j < L
    · rw [addP_end k L f g j e]; exact h j e
    · rw [addP_far k L f g L j (Nat.le_refl _) (by omega)]; omega

section
variable {o o' : Bool} {lo hi lo' hi' n m : Nat} {v v' : Value} {f g : Nat → Int}
end
end Go.Proofs.Ytnhpodlcgkgpbaa
