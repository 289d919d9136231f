/- Characters: what is one; products and inverses; the copies of the laws. -/
import Derived.Test.YtopapdahpeemfaaDoorPrm
import Derived.Test.YtopapdahpeemfaaDoorIs
import Derived.Test.YtopapdahpeemfaaDoorState
namespace Go.Proofs.YtopapdahpeemfaaDoor
open Go.RowKit Go.ChangeShapes Go.Sort
set_option linter.unusedVariables false
set_option linter.unusedSimpArgs false

/-- There are characters with this prime and this order. -/
def OrP (p n : Int) : Prop := 1 ≤ n ∧ n ≤ 16 ∧ (p - 1) % n = 0
/-- A character. -/
def ChP (p n k : Int) : Prop := PrP p ∧ OrP p n ∧ 0 ≤ k ∧ k < n
theorem ChP.nat {p n k : Int} (h : ChP p n k) : ∃ P N K : Nat, p = P ∧ n = N ∧ k = K ∧ primeN P = true ∧ 1 ≤ N ∧ N ≤ 16 ∧ (P - 1) % N = 0 ∧ K < N := by
  obtain ⟨⟨hp0, hp⟩, ⟨h1, h2, h3⟩, h4, h5⟩ := h
  obtain ⟨P, rfl⟩ := Int.eq_ofNat_of_zero_le hp0
  obtain ⟨N, rfl⟩ := Int.eq_ofNat_of_zero_le (show 0 ≤ n by omega)
  obtain ⟨K, rfl⟩ := Int.eq_ofNat_of_zero_le h4
  rw [Int.toNat_natCast] at hp
  have hb := primeN_bd hp
  refine ⟨P, N, K, rfl, rfl, rfl, hp, by omega, by omega, ?_, by omega⟩
  have e : ((P : Int) - 1) = ((P - 1 : Nat) : Int) := by omega
  rw [e, ← Int.natCast_emod] at h3
  omega

end Go.Proofs.YtopapdahpeemfaaDoor
