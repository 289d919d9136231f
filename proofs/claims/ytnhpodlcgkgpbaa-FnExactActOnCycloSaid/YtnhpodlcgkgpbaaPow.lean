/- PowerCyclo of the program. -/
import Derived.Test.YtnhpodlcgkgpbaaMul
namespace Go.Proofs.Ytnhpodlcgkgpbaa
open Go.RowKit Go.ChangeShapes Go.Sort
set_option linter.unusedVariables false
set_option linter.unusedSimpArgs false

/-- The powers of a number, whatever their size. -/
def pw (n L : Nat) (f : Nat → Int) : Nat → Nat → Int
  | 0 => redP n (unit (powIx n 0))
  | i + 1 => prodZ n L (pw n L f i) f
def pwOk (n L : Nat) (f : Nat → Int) (k : Nat) : Prop := ∀ i, i < k → Within (pw n L f (i + 1)) (phiN n) 1000000000
theorem pwOk_first {n L : Nat} {f : Nat → Int} : ∀ {k : Nat}, ¬ pwOk n L f k → ∃ i, i < k ∧ pwOk n L f i ∧ ¬ Within (prodZ n L (pw n L f i) f) (phiN n) 1000000000
  | 0, h => absurd (fun i hi => absurd hi (Nat.not_lt_zero _)) h
  | k + 1, h => by
    by_cases hk : pwOk n L f k
    · refine ⟨k, Nat.lt_succ_self _, hk, fun hw => h (fun i hi => ?_)⟩
      rcases Nat.lt_succ_iff_lt_or_eq.1 hi with h1 | rfl
      · exact hk i h1
      · exact hw
    · obtain ⟨i, h1, h2, h3⟩ := pwOk_first hk
      exact ⟨i, Nat.lt_succ_of_lt h1, h2, h3⟩
theorem pw_cy {n L : Nat} {f : Nat → Int} (h : CyP (n : Int) L f) : ∀ {i : Nat}, pwOk n L f i → CyP (n : Int) L (pw n L f i)
  | 0, _ => by
    have h1 := h.1
    have h2 := h.2.1
    have e : L = phiN n := h.2.2.1
    have hi := (powIx_eq n (by omega) 0).2.1
    exact ⟨h1, h2, h.2.2.1, by rw [e]; exact redP_unit (by omega) (by omega) (by omega)⟩
  | i + 1, hk => by
    have e : L = phiN n := h.2.2.1
    exact ⟨h.1, h.2.1, h.2.2.1, by rw [e]; have := hk i (Nat.lt_succ_self _); rw [← e]; rw [← e] at this; exact this⟩

section
variable {o : Bool} {lo hi L : Nat} {v : Value} {f : Nat → Int}
end
end Go.Proofs.Ytnhpodlcgkgpbaa
