/- ResiduesOf of the program and of the model. -/
import Derived.Test.YtonopjbccdpbhaaRgA
namespace Go.Proofs.Ytonopjbccdpbhaa
open Go.RowKit Go.ChangeShapes Go.Sort
set_option linter.unusedVariables false
set_option linter.unusedSimpArgs false
set_option maxRecDepth 100000

theorem ResiduesOf_impl_ok (n : Nat) (h2 : 2 ≤ n) (h40 : n ≤ 40) (w : World) :
    Calls Try.prog 40 #[.int .i64 (n : Int)] w fun e w' => ∃ a k, e = .returned (.tuple #[.slice a (phiN n) k, .int .i64 0]) ∧ Sl true w' w.heap.size w'.heap.size (.slice a (phiN n) k) (phiN n) (fun k => (res n k : Int)) ∧ Below w.heap.size w w' := by
  go_enter Try.func40, Try.ntmps40
  go_wp2_with (first
    | (go_at_call 117; refine (isModulus_yes _ _ (by omega) (by omega)).mono ?_; rintro e w' ⟨rfl, rfl⟩)
    | (go_at_call 118; refine (residuesOf40 n (by omega) h40 _).mono ?_; rintro e w2 ⟨g, cap, rfl, s2, b2⟩))
  go_returns
  exact ⟨_, _, rfl, s2, b2⟩
theorem ResiduesOf_impl_no (n : Int) (h : n < 2 ∨ 40 < n) (w : World) :
    Calls Try.prog 40 #[.int .i64 n] w fun e w' => ∃ a k, e = .returned (.tuple #[.slice a 0 k, .int .i64 2]) ∧ Sl true w' w.heap.size w'.heap.size (.slice a 0 k) 0 (fun _ => 0) ∧ Below w.heap.size w w' := by
  have HX := Lib.hid h; clear h
  go_enter Try.func40, Try.ntmps40
  go_wp2_with (first
    | (go_at_call 117; refine (isModulus_no _ _ HX.out).mono ?_; rintro e w' ⟨rfl, rfl⟩))
  go_returns
  exact ⟨_, _, rfl, Sl.nil _ _ _ (Nat.le_refl _) _, Below.refl _ _⟩
theorem ResiduesOf_spec_ok (n : Nat) (h2 : 2 ≤ n) (h40 : n ≤ 40) (w : World) :
    Calls Try.prog 41 #[.int .i64 (n : Int)] w fun e w' => ∃ a k, e = .returned (.tuple #[.slice a (phiN n) k, .int .i64 0]) ∧ Sl true w' w.heap.size w'.heap.size (.slice a (phiN n) k) (phiN n) (fun k => (res n k : Int)) ∧ Below w.heap.size w w' := by
  go_enter Try.func41, Try.ntmps41
  go_wp2_with (first
    | (go_at_call 100; refine (l01In_yes _ _ _ _ (by omega) (by omega)).mono ?_; rintro e w' ⟨rfl, rfl⟩)
    | (go_at_call 112; refine (l10Residues_any n (by omega) h40 _).mono ?_; rintro e w2 ⟨g, cap, rfl, s2, b2⟩))
  go_returns
  exact ⟨_, _, rfl, s2, b2⟩
theorem ResiduesOf_spec_no (n : Int) (h : n < 2 ∨ 40 < n) (w : World) :
    Calls Try.prog 41 #[.int .i64 n] w fun e w' => ∃ a k, e = .returned (.tuple #[.slice a 0 k, .int .i64 2]) ∧ Sl true w' w.heap.size w'.heap.size (.slice a 0 k) 0 (fun _ => 0) ∧ Below w.heap.size w w' := by
  have HX := Lib.hid h; clear h
  go_enter Try.func41, Try.ntmps41
  go_wp2_with (first
    | (go_at_call 100; refine (l01In_no _ _ _ _ HX.out).mono ?_; rintro e w' ⟨rfl, rfl⟩))
  go_returns
  exact ⟨_, _, rfl, Sl.nil _ _ _ (Nat.le_refl _) _, Below.refl _ _⟩
end Go.Proofs.Ytonopjbccdpbhaa
