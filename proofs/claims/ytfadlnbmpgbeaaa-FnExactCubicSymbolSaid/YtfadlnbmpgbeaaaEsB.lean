/- Rests by whole numbers, rounded quotients, chosen and primary numbers, quotients and rests of the program. -/
import Derived.Test.YtfadlnbmpgbeaaaEsA
import Derived.Deep.RegionHeld3
import Derived.Deep.RegionLaw
namespace Go.Proofs.Ytfadlnbmpgbeaaa
open Go.RowKit Go.ChangeShapes Go.Sort
set_option linter.unusedVariables false
set_option linter.unusedSimpArgs false
set_option maxRecDepth 100000

theorem restBy_es (x q : Int) (h1 : 1 ≤ q) (h2 : q ≤ 1000000000000) (hx : -10000000000000000000 ≤ x) (hx' : x ≤ 10000000000000000000) (w : World) :
    Calls Try.prog 92 #[.int .i64 x, .int .i64 q] w fun r w' => r = .returned (.int .i64 (x % q)) ∧ w = w' := by
  have e1 := Int.tmod_lt_of_pos x (b := q) (by omega)
  have e2 := Int.lt_tmod_of_pos x (b := q) (by omega)
  have e3 : (x.tmod q + q) % q = x % q := by
    rw [Int.add_emod_right, Int.tmod_def, Int.sub_emod, Int.mul_emod_right, Int.sub_zero, Int.emod_emod]
  have e4 := Int.emod_nonneg x (b := q) (by omega)
  have e5 := Int.emod_lt_of_pos x (b := q) (by omega)
  have hq : ¬ q = 0 := by omega
  have E3 := Lib.hid e3
  clear e3
  go_enter Try.func92, Try.ntmps92
  go_wp2
  go_ret
  exact ⟨by rw [E3.out]; rfl, rfl⟩
theorem floor_quo (x m : Int) (hm : 1 ≤ m) : (x - x % m).tdiv m = x / m := by
  have h := Int.mul_ediv_add_emod x m
  rw [show x - x % m = m * (x / m) by omega, Int.mul_tdiv_cancel_left _ (by omega)]
theorem rounded_impl (u n : Int) (w : World) (h1 : 1 ≤ n) (h2 : n ≤ 10000000000) (hu : -1000000000000000 ≤ u) (hu' : u ≤ 1000000000000000) :
    Calls Try.prog 96 #[.int .i64 u, .int .i64 n] w fun r w' => r = .returned (.int .i64 ((2 * u + n) / (2 * n))) ∧ w = w' := by
  have e0 : ¬ 2 * n = 0 := by omega
  have e1 := Int.emod_nonneg (2 * u + n) (b := 2 * n) (by omega)
  have e2 := Int.emod_lt_of_pos (2 * u + n) (b := 2 * n) (by omega)
  have E := Lib.hid (floor_quo (2 * u + n) (2 * n) (by omega))
  go_enter Try.func96, Try.ntmps96
  go_wp2_with fail
  refine (restBy_es _ _ (by omega) (by omega) (by omega) (by omega) _).mono ?_
  rintro e w1 ⟨rfl, rfl⟩
  go_wp2
  go_ret
  exact ⟨by rw [← E.out]; rfl, rfl⟩
theorem isChosen_impl (a b : Int) (w : World) :
    Calls Try.prog 64 #[.agg #[.int .i64 a, .int .i64 b]] w fun e w' => e = .returned (.bool (decide (isCh a b))) ∧ Below w.heap.size w w' := by
  by_cases h1 : 1 ≤ a
  · by_cases h2 : 0 ≤ b
    · have h3 : decide (isCh a b) = decide (b < a) := by unfold isCh; simp [h1, h2]
      rw [h3]; clear h3
      go_enter Try.func64, Try.ntmps64
      go_wp2
      go_ret
      exact ⟨rfl, by go_grown⟩
    · have h3 : decide (isCh a b) = false := by unfold isCh; simp [h2]
      rw [h3]; clear h3
      go_enter Try.func64, Try.ntmps64
      go_wp2
      go_ret
      exact ⟨by simp [h1, h2], by go_grown⟩
  · have h3 : decide (isCh a b) = false := by unfold isCh; simp [h1]
    rw [h3]; clear h3
    go_enter Try.func64, Try.ntmps64
    go_wp2
    go_ret
    exact ⟨by simp [h1], by go_grown⟩
theorem isPrimary_impl (a b : Int) (w : World) (ha : -1000000000 ≤ a) (ha' : a ≤ 1000000000) (hb : -1000000000 ≤ b) (hb' : b ≤ 1000000000) :
    Calls Try.prog 66 #[.agg #[.int .i64 a, .int .i64 b]] w fun e w' => e = .returned (.bool (decide (a % 3 = 2 ∧ b % 3 = 0))) ∧ Below w.heap.size w w' := by
  have e1 := Int.emod_nonneg a (b := 3) (by omega)
  have e2 := Int.emod_lt_of_pos a (b := 3) (by omega)
  have e3 : b.tmod 3 = 0 ↔ b % 3 = 0 := by
    constructor
    · intro h; exact Int.emod_eq_zero_of_dvd (Int.dvd_of_tmod_eq_zero h)
    · intro h; exact Int.tmod_eq_zero_of_dvd (Int.dvd_of_emod_eq_zero h)
  have E3 := Lib.hid e3; clear e3
  by_cases h1 : a % 3 = 2
  · by_cases h2 : b % 3 = 0
    · have h3 := E3.out.2 h2
      go_enter Try.func66, Try.ntmps66
      go_wp2_with fail
      refine (restBy_es _ _ (by omega) (by omega) (by omega) (by omega) _).mono ?_
      rintro e w1 ⟨rfl, rfl⟩
      go_wp2
      go_ret
      exact ⟨by simp [h1, h2], by go_grown⟩
    · have h3 : ¬ b.tmod 3 = 0 := fun h => h2 (E3.out.1 h)
      go_enter Try.func66, Try.ntmps66
      go_wp2_with fail
      refine (restBy_es _ _ (by omega) (by omega) (by omega) (by omega) _).mono ?_
      rintro e w1 ⟨rfl, rfl⟩
      go_wp2
      go_ret
      exact ⟨by simp [h1, h2]; exact h3, by go_grown⟩
  · go_enter Try.func66, Try.ntmps66
    go_wp2_with fail
    refine (restBy_es _ _ (by omega) (by omega) (by omega) (by omega) _).mono ?_
    rintro e w1 ⟨rfl, rfl⟩
    go_wp2
    go_ret
    exact ⟨by simp [h1], by go_grown⟩
end Go.Proofs.Ytfadlnbmpgbeaaa
