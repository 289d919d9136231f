/- InverseCharacter, MultiplyCharacters; the error code of two characters. -/
import Derived.Test.YtopapdahpeemfaaDoorChr2
namespace Go.Proofs.YtopapdahpeemfaaDoor
open Go.RowKit Go.ChangeShapes Go.Sort
set_option linter.unusedVariables false
set_option linter.unusedSimpArgs false

theorem Box.cell3 {w : World} {b : Nat} {v0 v1 v2 : Value} (h : Box w b [v0, v1, v2]) : w.cell? ⟨b, 0, none⟩ = some v0 ∧ w.cell? ⟨b, 1, none⟩ = some v1 ∧ w.cell? ⟨b, 2, none⟩ = some v2 :=
  ⟨h.2.1 0 v0 rfl, h.2.1 1 v1 rfl, h.2.1 2 v2 rfl⟩

/-- The error code of two characters. -/
def pcC (p n k q m l c : Int) : Prop := (c = 1 ∧ ¬ (ChP p n k ∧ ChP q m l)) ∨ (c = 2 ∧ ChP p n k ∧ ChP q m l ∧ ¬ (p = q ∧ n = m)) ∨ (c = 0 ∧ ChP p n k ∧ ChP q m l ∧ p = q ∧ n = m)
theorem pcC_ex (p n k q m l : Int) : ∃ c, pcC p n k q m l c := by
  by_cases h1 : ChP p n k ∧ ChP q m l
  · by_cases h2 : p = q ∧ n = m
    · exact ⟨0, .inr (.inr ⟨rfl, h1.1, h1.2, h2⟩)⟩
    · exact ⟨2, .inr (.inl ⟨rfl, h1.1, h1.2, h2⟩)⟩
  · exact ⟨1, .inl ⟨rfl, h1⟩⟩
end Go.Proofs.YtopapdahpeemfaaDoor
