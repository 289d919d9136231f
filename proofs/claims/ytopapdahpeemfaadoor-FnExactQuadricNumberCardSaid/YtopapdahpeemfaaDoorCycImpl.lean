/- polynomialOf: the cyclotomic polynomial. -/
import Derived.Test.YtopapdahpeemfaaDoorCyc
namespace Go.Proofs.YtopapdahpeemfaaDoor
open Go.RowKit Go.ChangeShapes Go.Sort

theorem madeCells_size (z : Value) (n : Nat) : (madeCells #[z] n).size = n := by simp [madeCells]

/-- A block that a make with two stores has laid. -/
theorem Sl.base (w : World) (n : Nat) (hm : n + 1 ≤ maxLen) :
    Sl true (w.alloc (.cells (((madeCells #[.int .i64 0] (n + 1)).setIfInBounds 0 (.int .i64 (-1))).setIfInBounds n (.int .i64 1)) 2)) w.heap.size (w.heap.size + 1) (.slice (some ⟨w.heap.size, 0, none⟩) (n + 1) (n + 1)) (n + 1) (cycBase n) := by
  refine Sl.made w _ _ (n + 1) (n + 1) _ (Nat.le_refl _) hm (fun j hj => cycBase_inR n j) (fun j hj => ?_)
  rw [Array.getElem?_setIfInBounds, Array.getElem?_setIfInBounds]
  unfold cycBase
  simp only [Array.size_setIfInBounds, madeCells_size]
  by_cases e : n = j
  · subst e; simp
  · rw [if_neg e, if_neg (Ne.symm e)]
    by_cases e0 : 0 = j
    · subst e0; simp
    · rw [if_neg e0, if_neg (Ne.symm e0)]
      exact madeCells_at _ _ _ hj

end Go.Proofs.YtopapdahpeemfaaDoor
