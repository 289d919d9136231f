/- primitiveRoot, residuesByIndex of the program; PrimitiveRoot and IndexOf of the program and of the model. -/
import Derived.RangeFuncNested
import Derived.RangeFuncBound
import Derived.RangeFuncCalls
import Derived.RangeFuncLeaves
import Derived.Shelf.Abstract
import Derived.Shelf.RegionOpen
import Derived.WalkKit
import Derived.OwnWalkIn
import Derived.TacticsInMore
import Derived.LoopNIn
import Derived.LoopIn
import Derived.Test.YtopapdahpeemfaaDoorSeqF
import Derived.Test.YtopapdahpeemfaaDoorState
namespace Go.Proofs.YtopapdahpeemfaaDoor
open Go.RowKit Go.ChangeShapes Go.Shelf
set_option linter.unusedVariables false
set_option linter.unusedSimpArgs false
attribute [local go_sem] Oper.semAt_some

theorem Box.keepB {w w' : World} {b B : Nat} {vs : List Value} (h : Box w b vs) (hb : Below B w w') (hB : b < B) : Box w' b vs :=
  ⟨Nat.lt_of_lt_of_le h.1 hb.size, fun j v hv => (hb.cell (p := ⟨b, j, none⟩) hB).trans (h.2.1 j v hv), fun k => (hb.frozen (p := ⟨b, k, none⟩) hB).trans (h.2.2 k)⟩
theorem Box.set1 {w : World} {b : Nat} {v : Value} (h : Box w b [v]) (u : Value) : Box (w.setCell ⟨b, 0, none⟩ u) b [u] :=
  ⟨by simpa using h.1, fun j x hx => by
    rcases j with _ | j
    · simp only [List.getElem?_cons_zero, Option.some.injEq] at hx
      subst hx
      exact World.cell?_setCell_same _ _ _ (h.2.1 0 v rfl)
    · simp at hx, fun k => by simpa using h.2.2 k⟩
theorem Box.other {w : World} {b : Nat} {vs : List Value} (h : Box w b vs) (q : Addr) (u : Value) (hq : b ≠ q.block) : Box (w.setCell q u) b vs :=
  h.keepF ((Frame.refl q.block (q.block + 1) w).setCell (Nat.le_refl _) (Nat.lt_succ_self _) u) (by omega)
theorem grown_below {B : Nat} {A A' : World} {row : Option Nat} (hg : A.grownBy A' row) (hr : ∀ r, row = some r → B ≤ r ∧ ∃ o : Obj, A.heap[r]? = some o ∧ o.isCells = false) (hB : B ≤ A.heap.size) : Below B A A' :=
  ⟨hg.os, hg.tape, hg.output, hg.size, fun k hk => hg.block k (by omega) (fun e => by have := (hr k e.symm).1; omega)⟩

theorem primitiveRoot_any (p : Nat) (hp : primeN p = true) (w : World) :
    Calls Tryd.prog 36 #[.int .i64 (p : Int)] w fun e w' => e = .returned (.int .i64 (rootN p : Nat)) ∧ Below w.heap.size w w' := by
  have hb := primeN_bd hp
  have HR := Lib.hid (root_ok hp)
  have HP := Lib.hid hp; clear hp
  go_enter Tryd.func36, Tryd.ntmps36
  go_wp2
  go_loopw [3] (fun s3 wr => ∃ g : Nat, 1 ≤ g ∧ g ≤ rootN p ∧ s3 = .int .i64 (g : Int) ∧ Below w.heap.size w wr) (fun s3 _ => rootN p + 1 - (intOf s3).toNat)
  case atStart => exact ⟨1, by omega, HR.out.1, rfl, Below.refl _ _⟩
  case round =>
    obtain ⟨g, hg1, hg2, rfl, hB⟩ := hrel
    have hrp := HR.out.2.1
    by_cases hlt : g < rootN p
    · have hl := HR.out.2.2.2 g hg1 hlt
      go_wp2_with (go_at_call 38; refine (countPowers_any p g HP.out hg1 (by omega) _).mono ?_; rintro e w' ⟨rfl, b1⟩; have hB1 := hB.trans (b1.mono hB.size))
      go_roundw
      case rel => exact ⟨g + 1, by omega, by omega, by go_num, hB1⟩
      case measure => simp [intOf]; omega
    · obtain rfl : g = rootN p := by omega
      have HE := Lib.hid HR.out.2.2.1
      have hge : (p : Int) - 1 ≤ ((perN p (rootN p) : Nat) : Int) := by rw [HE.out]; omega
      go_wp2_with (go_at_call 38; refine (countPowers_any p (rootN p) HP.out hg1 (by omega) _).mono ?_; rintro e w' ⟨rfl, b1⟩; have hB1 := hB.trans (b1.mono hB.size))
      go_ret
      exact ⟨rfl, hB1⟩

theorem residuesByIndex_any (p : Nat) (hp : primeN p = true) (w : World) :
    Calls Tryd.prog 33 #[.int .i64 (p : Int)] w fun e w' => ∃ w1 : World, e = .returned (.func (.func 37) #[] #[.pointer (some ⟨w1.heap.size, 0, none⟩), .pointer (some ⟨w1.heap.size + 1, 0, none⟩)]) ∧ Below w.heap.size w w1 ∧ w' = (w1.alloc (.cells #[.int .i64 (rootN p : Nat)] 2)).alloc (.cells #[.int .i64 (p : Int)] 2) := by
  have HP := Lib.hid hp; clear hp
  go_enter Tryd.func33, Tryd.ntmps33
  go_wp2_with (first
    | (go_at_call 36; refine (primitiveRoot_any p HP.out _).mono ?_; rintro e w1 ⟨rfl, b1⟩)
    | (go_at_call 35; refine (powersModulo_any _ _ _).mono ?_; rintro e w2 ⟨rfl, rfl⟩))
  go_ret
  exact ⟨w1, rfl, b1, rfl⟩

end Go.Proofs.YtopapdahpeemfaaDoor
