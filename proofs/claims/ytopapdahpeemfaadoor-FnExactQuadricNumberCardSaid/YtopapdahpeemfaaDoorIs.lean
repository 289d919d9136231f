/- IsCyclo and its model: what is a number. -/
import Derived.Test.YtopapdahpeemfaaDoorLeaf
namespace Go.Proofs.YtopapdahpeemfaaDoor
open Go.RowKit Go.ChangeShapes Go.Sort

/-- A number: its order, and the n Parts f 0, f 1, .. -/
def CyP (ord : Int) (n : Nat) (f : Nat → Int) : Prop := 1 ≤ ord ∧ ord ≤ 16 ∧ n = phiI ord ∧ Within f n 1000000000

section
variable {o : Bool} {lo hi : Nat} {v : Value} {n : Nat} {f : Nat → Int}
/-- A contract that leaves the world alone, met in a world of the class. -/
theorem regrown_same {P : Program} {fn : FuncId} {args : Array Value} {w : World} {d : Nat} {os : Array Obj} {u : Value}
    (h : Calls P fn args (grow (redrawn w d) os) fun e w' => e = .returned u ∧ grow (redrawn w d) os = w') : Calls P fn args (grow (redrawn w d) os) fun e w'' => e = .returned u ∧ ∃ p : Regrown, w'' = grow (redrawn w p.d) p.os :=
  h.mono fun _ _ ⟨he, hw⟩ => ⟨he, ⟨d, os⟩, hw.symm⟩
theorem regrown_drewN {P : Program} {fn : FuncId} {args : Array Value} {w : World} {d : Nat} {os : Array Obj} {u : Value}
    (h : Calls P fn args (grow (redrawn w d) os) fun e w' => e = .returned u ∧ ∃ m, w' = (grow (redrawn w d) os).drewN m) : Calls P fn args (grow (redrawn w d) os) fun e w'' => e = .returned u ∧ ∃ p : Regrown, w'' = grow (redrawn w p.d) p.os :=
  h.mono fun _ _ ⟨he, m, hw⟩ => ⟨he, ⟨d + m, os⟩, hw⟩

theorem Sl.regrown {w : World} (h : Sl o w lo hi v n f) (d : Nat) (os : Array Obj) : Sl o (grow (redrawn w d) os) lo hi v n f := h.keep (below_regrown w d os) h.size

theorem below_boxed (w : World) (ob : Obj) (d : Nat) (os : Array Obj) : Below w.heap.size w (grow (redrawn (w.alloc ob) d) os) :=
  ((Below.refl w.heap.size w).alloc (Nat.le_refl _) ob).trans ((below_regrown (w.alloc ob) d os).mono (by simp))

end
end Go.Proofs.YtopapdahpeemfaaDoor
