/- primitiveRoot, residuesByIndex of the program; PrimitiveRoot and IndexOf of the program and of the model. -/
import Derived.RangeFuncNested
import Derived.RangeFuncBound
import Derived.RangeFuncCalls
import Derived.RangeFuncLeaves
import Derived.Shelf.Abstract
import Derived.Shelf.RegionOpen
import Derived.WalkKit
import Derived.OwnWalkIn
import Derived.TacticsInMore
import Derived.LoopNIn
import Derived.LoopIn
import Derived.Test.YtloalhcloifgjaaSeqF
import Derived.Test.YtloalhcloifgjaaState
namespace Go.Proofs.Ytloalhcloifgjaa
open Go.RowKit Go.ChangeShapes Go.Shelf
set_option linter.unusedVariables false
set_option linter.unusedSimpArgs false
attribute [local go_sem] Oper.semAt_some

theorem Box.keepB {w w' : World} {b B : Nat} {vs : List Value} (h : Box w b vs) (hb : Below B w w') (hB : b < B) : Box w' b vs :=
  ⟨Nat.lt_of_lt_of_le h.1 hb.size, fun j v hv => (hb.cell (p := ⟨b, j, none⟩) hB).trans (h.2.1 j v hv), fun k => (hb.frozen (p := ⟨b, k, none⟩) hB).trans (h.2.2 k)⟩
theorem Box.set1 {w : World} {b : Nat} {v : Value} (h : Box w b [v]) (u : Value) : Box (w.setCell ⟨b, 0, none⟩ u) b [u] :=
  ⟨by simpa using h.1, fun j x hx => by
    rcases j with _ | j
    · simp only [List.getElem?_cons_zero, Option.some.injEq] at hx
      subst hx
      exact World.cell?_setCell_same _ _ _ (h.2.1 0 v rfl)
    · simp at hx, fun k => by simpa using h.2.2 k⟩
theorem Box.other {w : World} {b : Nat} {vs : List Value} (h : Box w b vs) (q : Addr) (u : Value) (hq : b ≠ q.block) : Box (w.setCell q u) b vs :=
  h.keepF ((Frame.refl q.block (q.block + 1) w).setCell (Nat.le_refl _) (Nat.lt_succ_self _) u) (by omega)
theorem grown_below {B : Nat} {A A' : World} {row : Option Nat} (hg : A.grownBy A' row) (hr : ∀ r, row = some r → B ≤ r ∧ ∃ o : Obj, A.heap[r]? = some o ∧ o.isCells = false) (hB : B ≤ A.heap.size) : Below B A A' :=
  ⟨hg.os, hg.tape, hg.output, hg.size, fun k hk => hg.block k (by omega) (fun e => by have := (hr k e.symm).1; omega)⟩

theorem primitiveRoot_any (p : Nat) (hp : primeN p = true) (w : World) :
    Calls Try.prog 167 #[.int .i64 (p : Int)] w fun e w' => e = .returned (.int .i64 (rootN p : Nat)) ∧ Below w.heap.size w w' := by
  have hb := primeN_bd hp
  have HR := Lib.hid (root_ok hp)
  have HP := Lib.hid hp; clear hp
  go_enter Try.func167, Try.ntmps167
  go_wp2
  go_loopw [3] (fun s3 wr => ∃ g : Nat, 1 ≤ g ∧ g ≤ rootN p ∧ s3 = .int .i64 (g : Int) ∧ Below w.heap.size w wr) (fun s3 _ => rootN p + 1 - (intOf s3).toNat)
  case atStart => exact ⟨1, by omega, HR.out.1, rfl, Below.refl _ _⟩
  case round =>
    obtain ⟨g, hg1, hg2, rfl, hB⟩ := hrel
    have hrp := HR.out.2.1
    by_cases hlt : g < rootN p
    · have hl := HR.out.2.2.2 g hg1 hlt
      go_wp2_with (go_at_call 230; refine (countPowers_any p g HP.out hg1 (by omega) _).mono ?_; rintro e w' ⟨rfl, b1⟩; have hB1 := hB.trans (b1.mono hB.size))
      go_roundw
      case rel => exact ⟨g + 1, by omega, by omega, by go_num, hB1⟩
      case measure => simp [intOf]; omega
    · obtain rfl : g = rootN p := by omega
      have HE := Lib.hid HR.out.2.2.1
      have hge : (p : Int) - 1 ≤ ((perN p (rootN p) : Nat) : Int) := by rw [HE.out]; omega
      go_wp2_with (go_at_call 230; refine (countPowers_any p (rootN p) HP.out hg1 (by omega) _).mono ?_; rintro e w' ⟨rfl, b1⟩; have hB1 := hB.trans (b1.mono hB.size))
      go_ret
      exact ⟨rfl, hB1⟩

theorem residuesByIndex_any (p : Nat) (hp : primeN p = true) (w : World) :
    Calls Try.prog 165 #[.int .i64 (p : Int)] w fun e w' => ∃ w1 : World, e = .returned (.func (.func 257) #[] #[.pointer (some ⟨w1.heap.size, 0, none⟩), .pointer (some ⟨w1.heap.size + 1, 0, none⟩)]) ∧ Below w.heap.size w w1 ∧ w' = (w1.alloc (.cells #[.int .i64 (rootN p : Nat)] 2)).alloc (.cells #[.int .i64 (p : Int)] 2) := by
  have HP := Lib.hid hp; clear hp
  go_enter Try.func165, Try.ntmps165
  go_wp2_with (first
    | (go_at_call 167; refine (primitiveRoot_any p HP.out _).mono ?_; rintro e w1 ⟨rfl, b1⟩)
    | (go_at_call 229; refine (powersModulo_any _ _ _).mono ?_; rintro e w2 ⟨rfl, rfl⟩))
  go_ret
  exact ⟨w1, rfl, b1, rfl⟩

theorem PrimitiveRoot_impl_bad (p : Int) (h : ¬ PrP p) (w : World) :
    Calls Try.prog 66 #[.int .i64 p] w fun e w' => e = .returned (.tuple #[.int .i64 0, .int .i64 2]) ∧ Below w.heap.size w w' := by
  have H := Lib.hid h; clear h
  go_enter Try.func66, Try.ntmps66
  go_wp2_with (go_at_call 164; refine (isOddPrime_no p H.out _).mono ?_; rintro e w1 ⟨rfl, m1, rfl⟩)
  go_ret2
  exact ⟨rfl, below_drewN (Below.refl _ _) _⟩
theorem PrimitiveRoot_impl_ok (p : Nat) (h : primeN p = true) (w : World) :
    Calls Try.prog 66 #[.int .i64 (p : Int)] w fun e w' => e = .returned (.tuple #[.int .i64 (rootN p : Nat), .int .i64 0]) ∧ Below w.heap.size w w' := by
  have H := Lib.hid h; clear h
  go_enter Try.func66, Try.ntmps66
  go_wp2_with (first
    | (go_at_call 164; refine (isOddPrime_yes p H.out _).mono ?_; rintro e w1 ⟨rfl, m1, rfl⟩)
    | (go_at_call 167; refine (primitiveRoot_any p H.out _).mono ?_; rintro e w2 ⟨rfl, b2⟩))
  go_ret2
  exact ⟨rfl, (below_drewN (Below.refl _ _) _).trans b2⟩
theorem PrimitiveRoot_spec_bad (p : Int) (h : ¬ PrP p) (w : World) :
    Calls Try.prog 70 #[.int .i64 p] w fun e w' => e = .returned (.tuple #[.int .i64 0, .int .i64 2]) ∧ Below w.heap.size w w' := by
  have H := Lib.hid h; clear h
  go_enter Try.func70, Try.ntmps70
  go_wp2_with (go_at_call 136; refine (l03Prime_no p H.out _).mono ?_; rintro e w1 ⟨rfl, m1, rfl⟩)
  go_ret2
  exact ⟨rfl, below_drewN (Below.refl _ _) _⟩
theorem PrimitiveRoot_spec_ok (p : Nat) (h : primeN p = true) (w : World) :
    Calls Try.prog 70 #[.int .i64 (p : Int)] w fun e w' => e = .returned (.tuple #[.int .i64 (rootN p : Nat), .int .i64 0]) ∧ Below w.heap.size w w' := by
  have H := Lib.hid h; clear h
  go_enter Try.func70, Try.ntmps70
  go_wp2_with (first
    | (go_at_call 136; refine (l03Prime_yes p H.out _).mono ?_; rintro e w1 ⟨rfl, m1, rfl⟩)
    | (go_at_call 172; refine (l03Root_any p H.out _).mono ?_; rintro e w2 ⟨rfl, m2, rfl⟩))
  go_ret2
  exact ⟨rfl, below_drewN (Below.refl _ _) _⟩
end Go.Proofs.Ytloalhcloifgjaa
