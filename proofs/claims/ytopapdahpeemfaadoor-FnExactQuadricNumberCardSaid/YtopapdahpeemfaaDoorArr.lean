/- Arrays of twelve: arrayOf, cycloWithin. -/
import Derived.Test.YtopapdahpeemfaaDoorRed
namespace Go.Proofs.YtopapdahpeemfaaDoor
open Go.RowKit Go.ChangeShapes Go.Sort

def arrC (f : Nat → Int) : Array Value := #[.int .i64 (f 0), .int .i64 (f 1), .int .i64 (f 2), .int .i64 (f 3), .int .i64 (f 4), .int .i64 (f 5), .int .i64 (f 6), .int .i64 (f 7), .int .i64 (f 8), .int .i64 (f 9), .int .i64 (f 10), .int .i64 (f 11)]
theorem arrC_get (f : Nat → Int) (j : Nat) (h : j < 12) : (arrC f)[j]? = some (.int .i64 (f j)) := by
  match j, h with
  | 0, _ => rfl
  | 1, _ => rfl
  | 2, _ => rfl
  | 3, _ => rfl
  | 4, _ => rfl
  | 5, _ => rfl
  | 6, _ => rfl
  | 7, _ => rfl
  | 8, _ => rfl
  | 9, _ => rfl
  | 10, _ => rfl
  | 11, _ => rfl
/-- An array just laid, as a slice. -/
theorem Sl.arr (w : World) (f : Nat → Int) (t : TypeId) (hf : ∀ j, j < 12 → inR (f j)) : Sl true (w.alloc (.cells (arrC f) t)) w.heap.size (w.heap.size + 1) (.slice (some ⟨w.heap.size, 0, none⟩) 12 12) 12 f :=
  Sl.made w _ _ 12 12 f (Nat.le_refl _) (by unfold maxLen; omega) hf (fun j hj => arrC_get f j hj)

theorem Tryd.size1_2 : (Tryd.prog.info? 2).map (·.size) = some 1 := by kernel_rfl

section
variable {o : Bool} {lo hi n : Nat} {v : Value} {f : Nat → Int}
end
end Go.Proofs.YtopapdahpeemfaaDoor
