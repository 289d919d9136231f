/- Contracts of the small functions over slices: limits, numbers, copies. -/
import Derived.Test.YtopapdahpeemfaaDoorMem
import Derived.Lib.QuietBelow
import Derived.WalkSpells
namespace Go.Proofs.YtopapdahpeemfaaDoor
open Go.RowKit Go.ChangeShapes Go.Sort

/-- All n numbers have absolute values of at most L. -/
def Within (f : Nat → Int) (n : Nat) (L : Int) : Prop := ∀ j, j < n → -L ≤ f j ∧ f j ≤ L

theorem isWithin_yes (x L : Int) (w : World) (hL : 0 ≤ L) (hL' : L ≤ 9223372036854775807) (h : -L ≤ x) (h' : x ≤ L) :
    Calls Tryd.prog 31 #[.int .i64 x, .int .i64 L] w fun e w' => e = .returned (.bool true) ∧ w = w' := by
  go_enter Tryd.func31, Tryd.ntmps31
  go_wp2
  go_ret
  exact ⟨rfl, rfl⟩
theorem isWithin_no (x L : Int) (w : World) (hL : 0 ≤ L) (hL' : L ≤ 9223372036854775807) (h : x < -L ∨ L < x) :
    Calls Tryd.prog 31 #[.int .i64 x, .int .i64 L] w fun e w' => e = .returned (.bool false) ∧ w = w' := by
  by_cases h1 : x < -L
  · clear h
    go_enter Tryd.func31, Tryd.ntmps31
    go_wp2
    go_ret
    exact ⟨rfl, rfl⟩
  · have h2 : L < x := by omega
    have h3 : -L ≤ x := by omega
    clear h h1
    go_enter Tryd.func31, Tryd.ntmps31
    go_wp2
    go_ret
    exact ⟨by simp; omega, rfl⟩

end Go.Proofs.YtopapdahpeemfaaDoor
