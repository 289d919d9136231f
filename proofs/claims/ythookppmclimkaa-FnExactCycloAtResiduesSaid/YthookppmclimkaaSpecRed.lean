/- l01Zero, l01Reduce: the model's reduction. -/
import Derived.Test.YthookppmclimkaaRed
import Derived.BigRegion
namespace Go.Proofs.Ythookppmclimkaa
open Go.RowKit Go.ChangeShapes Go.Sort

def pad (L : Nat) (f : Nat → Int) : Nat → Int := fun j => if j < L then f j else 0

theorem divL_zero_top {g : Nat → Int} {d r : Nat} {M : Nat → Int} : ∀ r', r ≤ r' → (∀ k, r ≤ k → k < r' → M (k + d) = 0) → divL g d r' M = divL g d r M
  | 0, h, _ => by
    have e : r = 0 := by omega
    subst e; rfl
  | r' + 1, h, hz => by
    rcases Nat.lt_or_ge r' r with h1 | h1
    · have e : r = r' + 1 := by omega
      subst e; rfl
    · rw [divL_succ, stepD_zero (hz r' h1 (by omega))]
      exact divL_zero_top r' h1 (fun k a b => hz k a (by omega))
theorem stepD_congr {g : Nat → Int} {d k B : Nat} {M M' : Nat → Int} (hB : k + d < B) (h : ∀ j, j < B → M j = M' j) : ∀ j, j < B → stepD g d k M j = stepD g d k M' j := by
  intro j hj
  unfold stepD
  rw [h (k + d) hB]
  split
  · exact h j hj
  · dsimp only
    rw [h j hj]
theorem divL_congr {g : Nat → Int} {d : Nat} : ∀ (r B : Nat) {M M' : Nat → Int}, r + d ≤ B → (∀ j, j < B → M j = M' j) → ∀ j, j < B → divL g d r M j = divL g d r M' j
  | 0, _, _, _, _, h, j, hj => h j hj
  | r + 1, B, M, M', hB, h, j, hj => by
    rw [divL_succ, divL_succ]
    exact divL_congr r B (by omega) (stepD_congr (by omega) h) j hj
theorem divL_inR {g : Nat → Int} {d n : Nat} : ∀ (r : Nat) {M : Nat → Int}, (∀ j, j < n → inR (M j)) → ∀ j, j < n → inR (divL g d r M j)
  | 0, _, h => h
  | r + 1, M, h => by rw [divL_succ]; exact divL_inR r (stepD_inR h)

/-- The model's rest of a list is the program's of the list with zeros behind it. -/
theorem red_eq (n L : Nat) (f : Nat → Int) (hL : L ≤ 24) : ∀ j, j < phiN n → (if j < L then divL (cyc n) (phiN n) (L - phiN n) f j else 0) = redP n (pad L f) j := by
  intro j hj
  have e : redP n (pad L f) = divL (cyc n) (phiN n) (L - phiN n) (pad L f) := by
    unfold redP
    exact divL_zero_top _ (by omega) (fun k h1 h2 => if_neg (by omega))
  rw [e]
  by_cases h : j < L
  · rw [if_pos h]
    rcases Nat.lt_or_ge (phiN n) L with h1 | h1
    · exact divL_congr _ L (by omega) (fun i hi => (if_pos hi).symm) j h
    · rw [show L - phiN n = 0 by omega]
      exact (if_pos h).symm
  · rw [if_neg h, show L - phiN n = 0 by omega]
    exact (if_neg h).symm

section
variable {o : Bool} {lo hi L : Nat} {v : Value} {f : Nat → Int}
theorem l01Phi_nat (n : Nat) (w : World) (hn : n ≤ 1000) :
    Calls Try.prog 47 #[.int .i64 (n : Int)] w fun e w' => e = .returned (.int .i64 (phiN n : Nat)) ∧ w = w' := l01Phi_any (n : Int) w (by omega)

theorem l01Zero_any (n : Nat) (hn : n ≤ 1000) (w : World) :
    Calls Try.prog 37 #[.int .i64 (n : Int)] w fun e w' => ∃ a cap, e = .returned (.agg #[.int .i64 (n : Int), .slice a (phiN n) cap]) ∧ Sl true w' w.heap.size w'.heap.size (.slice a (phiN n) cap) (phiN n) (fun _ => 0) ∧ Below w.heap.size w w' := by
  have hp : phiN n ≤ 1000 := by have := phiI_le (n : Int); unfold phiN; omega
  have HT := Lib.hid (fun w => l01Phi_nat n w hn)
  generalize phiN n = N at *
  have hmk := run_make_row' (P := Try.prog) 22 2 (.int .i64 0) 8 Try.underlying22 Try.info2 rfl .i64 .i64 N (by omega) (by omega)
  have s1 := Sl.made (w.alloc (.cells #[.int .i64 (n : Int), .slice (some ⟨w.heap.size + 1, 0, none⟩) N N] 31)) (madeCells #[.int .i64 0] N) 2 N N (fun _ => 0) (Nat.le_refl _) (by unfold maxLen; omega) (fun _ _ => by simp [inR]) (fun j hj => madeCells_at _ _ _ hj)
  simp only [World.size_alloc] at s1
  have S1 := Lib.hid s1; clear s1
  go_enter Try.func37, Try.ntmps37
  go_wp2_with (go_at_call 47; refine (HT.out _).mono ?_; rintro e w' ⟨rfl, rfl⟩)
  go_returns
  exact ⟨_, _, rfl, S1.out.wide (by omega) (by simp) (Nat.le_refl _), by go_grown⟩

end
end Go.Proofs.Ythookppmclimkaa
