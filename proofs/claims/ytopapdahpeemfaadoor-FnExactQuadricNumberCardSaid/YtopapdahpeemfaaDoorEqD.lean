/- What lies behind the door to equations, and the functions, of the program: genus, counts, curves, powers. -/
import Derived.Test.YtopapdahpeemfaaDoorEqC
import Derived.Test.YtopapdahpeemfaaDoorEqB
namespace Go.Proofs.YtopapdahpeemfaaDoor
open Go.RowKit Go.ChangeShapes Go.Sort
set_option linter.unusedVariables false
set_option linter.unusedSimpArgs false
set_option maxRecDepth 100000

theorem Box.new (w : World) (v : Value) (t : TypeId) (b : Nat) (hb : w.heap.size = b) : Box (w.alloc (.cells #[v] t)) b [v] := by
  subst hb
  exact Box.made _ _ _ _ (fun j v h => by simpa using h)
theorem two_made (w : World) (x y : Int) (hx : inR x) (hy : inR y) (t : TypeId) (ht : t = 2) :
    Sl true ((w.alloc (.cells #[.int .i64 x] t)).alloc (.cells #[.int .i64 y] t)).drew w.heap.size (w.heap.size + 1) (.slice (some ⟨w.heap.size, 0, none⟩) 1 1) 1 (fun _ => x) ∧
    Sl true ((w.alloc (.cells #[.int .i64 x] t)).alloc (.cells #[.int .i64 y] t)).drew (w.heap.size + 1) (w.heap.size + 1 + 1) (.slice (some ⟨w.heap.size + 1, 0, none⟩) 1 1) 1 (fun _ => y) ∧
    Below w.heap.size w ((w.alloc (.cells #[.int .i64 x] t)).alloc (.cells #[.int .i64 y] t)).drew := by
  have sB := one_made (w.alloc (.cells #[.int .i64 x] t)) y hy t ht
  simp only [World.size_alloc] at sB
  exact ⟨((one_made w x hx t ht).alloc _).drew, sB.drew, (((Below.refl w.heap.size w).alloc (Nat.le_refl _) _).alloc (by simp) _).drew⟩
theorem Box.c0 {w : World} {b : Nat} {v : Value} (h : Box w b [v]) : w.cell? ⟨b, 0, none⟩ = some v := h.2.1 0 _ rfl
/-! GenusOfCurve -/
def genI (m : Int) : Int := (m - 1) * (m - 2) / 2
/-! CountSolutions, CountFull -/
section
variable {o o' : Bool} {lo hi lo' hi' : Nat} {v v' : Value} {n m : Nat} {fa fe : Nat → Int}
end

/-! ValueCounts -/
end Go.Proofs.YtopapdahpeemfaaDoor
