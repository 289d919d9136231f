/- primitiveRoot, residuesByIndex of the program; PrimitiveRoot and IndexOf of the program and of the model. -/
import Derived.RangeFuncNested
import Derived.RangeFuncBound
import Derived.RangeFuncCalls
import Derived.RangeFuncLeaves
import Derived.Shelf.Abstract
import Derived.Shelf.RegionOpen
import Derived.WalkKit
import Derived.OwnWalkIn
import Derived.TacticsInMore
import Derived.LoopNIn
import Derived.LoopIn
import Derived.Test.YtonopjbccdpbhaaSeqF
import Derived.Test.YtonopjbccdpbhaaState
namespace Go.Proofs.Ytonopjbccdpbhaa
open Go.RowKit Go.ChangeShapes Go.Shelf
set_option linter.unusedVariables false
set_option linter.unusedSimpArgs false
attribute [local go_sem] Oper.semAt_some

theorem Box.keepB {w w' : World} {b B : Nat} {vs : List Value} (h : Box w b vs) (hb : Below B w w') (hB : b < B) : Box w' b vs :=
  ⟨Nat.lt_of_lt_of_le h.1 hb.size, fun j v hv => (hb.cell (p := ⟨b, j, none⟩) hB).trans (h.2.1 j v hv), fun k => (hb.frozen (p := ⟨b, k, none⟩) hB).trans (h.2.2 k)⟩
theorem Box.set1 {w : World} {b : Nat} {v : Value} (h : Box w b [v]) (u : Value) : Box (w.setCell ⟨b, 0, none⟩ u) b [u] :=
  ⟨by simpa using h.1, fun j x hx => by
    rcases j with _ | j
    · simp only [List.getElem?_cons_zero, Option.some.injEq] at hx
      subst hx
      exact World.cell?_setCell_same _ _ _ (h.2.1 0 v rfl)
    · simp at hx, fun k => by simpa using h.2.2 k⟩
theorem Box.other {w : World} {b : Nat} {vs : List Value} (h : Box w b vs) (q : Addr) (u : Value) (hq : b ≠ q.block) : Box (w.setCell q u) b vs :=
  h.keepF ((Frame.refl q.block (q.block + 1) w).setCell (Nat.le_refl _) (Nat.lt_succ_self _) u) (by omega)
theorem grown_below {B : Nat} {A A' : World} {row : Option Nat} (hg : A.grownBy A' row) (hr : ∀ r, row = some r → B ≤ r ∧ ∃ o : Obj, A.heap[r]? = some o ∧ o.isCells = false) (hB : B ≤ A.heap.size) : Below B A A' :=
  ⟨hg.os, hg.tape, hg.output, hg.size, fun k hk => hg.block k (by omega) (fun e => by have := (hr k e.symm).1; omega)⟩

end Go.Proofs.Ytonopjbccdpbhaa
