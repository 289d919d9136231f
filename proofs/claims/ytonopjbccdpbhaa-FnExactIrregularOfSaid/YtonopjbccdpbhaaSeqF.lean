/- The powers of a residue as an iterator: powersModulo, countPowers, primitiveRoot, residuesByIndex of the program. -/
import Derived.RangeFuncNested
import Derived.RangeFuncBound
import Derived.RangeFuncCalls
import Derived.RangeFuncLeaves
import Derived.Shelf.Abstract
import Derived.Shelf.RegionOpen
import Derived.WalkKit
import Derived.OwnWalkIn
import Derived.TacticsInMore
import Derived.LoopNIn
import Derived.LoopIn
import Derived.Test.YtonopjbccdpbhaaPrm
import Derived.Test.YtonopjbccdpbhaaState
namespace Go.Proofs.Ytonopjbccdpbhaa
open Go.RowKit Go.ChangeShapes Go.Shelf
set_option linter.unusedVariables false
set_option linter.unusedSimpArgs false
attribute [local go_sem] Oper.semAt_some

/-- The pair that comes at the place i. -/
abbrev encP (p g m : Nat) (i : Fin m) : Array Value := #[.int .i64 (i.1 : Int), .int .i64 (pwr p g i.1 : Nat)]

/-- Two blocks lie as they lay. -/
def Keeps2 (a b : Nat) (W W' : World) : Prop := W'.heap[a]? = W.heap[a]? ∧ W'.heap[b]? = W.heap[b]?
theorem Keeps2.refl (a b : Nat) (W : World) : Keeps2 a b W W := ⟨rfl, rfl⟩
theorem Keeps2.trans {a b : Nat} {X Y Z : World} (h : Keeps2 a b X Y) (k : Keeps2 a b Y Z) : Keeps2 a b X Z := ⟨k.1.trans h.1, k.2.trans h.2⟩
theorem Keeps2.below {a b B : Nat} {W W' : World} (h : Below B W W') (ha : a < B) (hb : b < B) : Keeps2 a b W W' := ⟨h.block a ha, h.block b hb⟩
theorem Keeps2.setCell {a b : Nat} {W : World} {q : Addr} (u : Value) (ha : a ≠ q.block) (hb : b ≠ q.block) : Keeps2 a b W (W.setCell q u) := ⟨Below.heap_setCell _ _ _ _ (by omega), Below.heap_setCell _ _ _ _ (by omega)⟩
theorem Keeps2.put {a b : Nat} {W : World} {l : Nat} (o' : Obj) (ha : a ≠ l) (hb : b ≠ l) : Keeps2 a b W (W.putObj l o') := ⟨World.putObj_heap_other (by omega), World.putObj_heap_other (by omega)⟩
theorem Keeps2.at {a b n₀ : Nat} (ha : a < n₀) (hb : b < n₀) (W : World) (l : Nat) (o o' : Obj) (hl : n₀ ≤ l) (h : W.heap[l]? = some o) (_ : o.isCells = false) (_ : o.isWalk = false) : Keeps2 a b W (W.putObj l o') := Keeps2.put o' (by omega) (by omega)

/-- A new variable of one cell. -/
theorem var_new (W : World) (v : Value) (t : TypeId) : (W.alloc (.cells #[v] t)).cell? ⟨W.heap.size, 0, none⟩ = some v ∧ (W.alloc (.cells #[v] t)).frozen? ⟨W.heap.size, 0, none⟩ = false := by
  have h := Box.made W #[v] t [v] (fun j u h => by simpa using h)
  exact ⟨h.2.1 0 v rfl, h.2.2 0⟩
theorem var_cell {W : World} {b k : Nat} {v : Value} (o : Obj) (h : W.cell? ⟨b, k, none⟩ = some v) : (W.alloc o).cell? ⟨b, k, none⟩ = some v := ((Below.refl W.heap.size W).alloc (Nat.le_refl _) o).cell (p := ⟨b, k, none⟩) (World.block_lt_of_cell? _ _ h) |>.trans h
theorem var_free {W : World} {b k : Nat} {v : Value} (o : Obj) (h : W.cell? ⟨b, k, none⟩ = some v) (hf : W.frozen? ⟨b, k, none⟩ = false) : (W.alloc o).frozen? ⟨b, k, none⟩ = false := ((Below.refl W.heap.size W).alloc (Nat.le_refl _) o).frozen (p := ⟨b, k, none⟩) (World.block_lt_of_cell? _ _ h) |>.trans hf

end Go.Proofs.Ytonopjbccdpbhaa
