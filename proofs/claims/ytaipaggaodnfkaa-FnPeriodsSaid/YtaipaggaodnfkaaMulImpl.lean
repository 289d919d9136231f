/- The halves of the program's products: joinHalves, halvesOf, productParts. -/
import Derived.Test.YtaipaggaodnfkaaConv
import Derived.Test.YtaipaggaodnfkaaImg
namespace Go.Proofs.Ytaipaggaodnfkaa
open Go.RowKit Go.ChangeShapes Go.Sort
set_option linter.unusedVariables false
set_option linter.unusedSimpArgs false

section
variable {o o' : Bool} {lo hi lo' hi' L : Nat} {v v' : Value} {f g : Nat → Int}
/-- The first q numbers, and zeros behind them. -/
def part1 (f : Nat → Int) (q : Nat) : Nat → Int := fun j => if j < q then f j else 0
theorem part1_succ (f : Nat → Int) (q : Nat) : part1 f (q + 1) = fun j => if j = q then f q else part1 f q j := by
  funext j; unfold part1
  by_cases e : j = q
  · subst e; simp
  · rw [if_neg e]
    by_cases e2 : j < q
    · rw [if_pos e2, if_pos (by omega)]
    · rw [if_neg e2, if_neg (by omega)]
theorem convZ_zeros {f g : Nat → Int} {L M : Nat} (hLM : L ≤ M) (hz : ∀ j, L ≤ j → j < M → g j = 0) : ∀ i, convZ f g M i = convZ f g L i
  | 0 => rfl
  | i + 1 => by
    show addRow (f i) g i M (convZ f g M i) = addRow (f i) g i L (convZ f g L i)
    rw [convZ_zeros hLM hz i]
    funext j
    unfold addRow
    by_cases h : i ≤ j ∧ j < i + L
    · rw [if_pos h, if_pos (by omega)]
    · rw [if_neg h]
      by_cases h2 : i ≤ j ∧ j < i + M
      · rw [if_pos h2, hz (j - i) (by omega) (by omega), Int.mul_zero, Int.add_zero]
      · rw [if_neg h2]

end
end Go.Proofs.Ytaipaggaodnfkaa
