/- Powers alone, and counts of values of forms, of the program. -/
import Derived.Test.YtopapdahpeemfaaDoorEqA
namespace Go.Proofs.YtopapdahpeemfaaDoor
open Go.RowKit Go.ChangeShapes Go.Sort
set_option linter.unusedVariables false
set_option linter.unusedSimpArgs false
set_option maxRecDepth 100000

theorem Box.two {w : World} {b : Nat} {v0 v1 : Value} (h : Box w b [v0, v1]) (u0 u1 : Value) : Box ((w.setCell ⟨b, 0, none⟩ u0).setCell ⟨b, 1, none⟩ u1) b [u0, u1] := by
  refine ⟨by simpa [World.setCell] using h.1, fun j v hv => ?_, fun k => by rw [World.frozen?_setCell, World.frozen?_setCell]; exact h.2.2 k⟩
  match j, hv with
  | 0, hv =>
    cases hv
    rw [setCell_ne _ _ _ _ _ (by omega)]
    exact World.cell?_setCell_same _ _ _ (h.2.1 0 _ rfl)
  | 1, hv =>
    cases hv
    refine World.cell?_setCell_same _ _ _ (?_ : _ = some v1)
    rw [setCell_ne _ _ _ _ _ (by omega)]
    exact h.2.1 1 _ rfl
  | j + 2, hv => simp at hv
/-- k is an exponent, p a prime. -/
def PkP (p k : Int) : Prop := PrP p ∧ 1 ≤ k ∧ k ≤ 60
theorem PkP.nat {p k : Int} (h : PkP p k) : ∃ P K : Nat, p = P ∧ k = K ∧ primeN P = true ∧ 1 ≤ K ∧ K ≤ 60 := by
  obtain ⟨hp, h1, h2⟩ := h
  obtain ⟨P, rfl⟩ := Int.eq_ofNat_of_zero_le hp.1
  obtain ⟨K, rfl⟩ := Int.eq_ofNat_of_zero_le (show 0 ≤ k by omega)
  exact ⟨P, K, rfl, rfl, by have := hp.2; rwa [Int.toNat_natCast] at this, by omega, by omega⟩
theorem one_made (w : World) (x : Int) (hx : inR x) (t : TypeId) (ht : t = 2) : Sl true (w.alloc (.cells #[.int .i64 x] t)) w.heap.size (w.heap.size + 1) (.slice (some ⟨w.heap.size, 0, none⟩) 1 1) 1 (fun _ => x) := by
  subst ht
  exact Sl.made w #[.int .i64 x] 2 1 1 (fun _ => x) (Nat.le_refl _) (by unfold maxLen; omega) (fun j hj => hx) (fun j hj => by have hj' : j < 1 := hj; obtain rfl : j = 0 := (by omega); rfl)
section
variable {n : Nat} {fa fe : Nat → Int}
end
theorem e0_bd (j : Nat) : 0 ≤ e0Z j ∧ e0Z j ≤ 13845841 := by unfold e0Z; split <;> omega
/-! Polynomials -/
/-- The value at x, as a number. -/
def plV (f : Nat → Int) (n p x : Nat) : Nat := (valN f n (x : Int) (p : Int)).toNat
theorem plV_lt {f : Nat → Int} {n p : Nat} (h : 1 ≤ p) (x : Nat) : plV f n p x < p := by
  have := valN_bd f n (x : Int) (q := (p : Int)) (by omega)
  unfold plV; omega
theorem plV_int {f : Nat → Int} {n p : Nat} (h : 1 ≤ p) (x : Nat) : valN f n (x : Int) (p : Int) = (plV f n p x : Nat) := by
  have := valN_bd f n (x : Int) (q := (p : Int)) (by omega)
  unfold plV; omega
section
variable {o o' : Bool} {lo hi lo' hi' : Nat} {v v' : Value} {n : Nat} {c fp : Nat → Int}
end
end Go.Proofs.YtopapdahpeemfaaDoor
