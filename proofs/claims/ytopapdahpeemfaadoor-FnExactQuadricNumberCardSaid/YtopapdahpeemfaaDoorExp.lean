/- The model's exponents; IsEvenCharacter and LegendreSymbol of the program and of the model. -/
import Derived.Test.YtopapdahpeemfaaDoorVal1
import Derived.Test.YtopapdahpeemfaaDoorSumZ
namespace Go.Proofs.YtopapdahpeemfaaDoor
open Go.RowKit Go.ChangeShapes Go.Sort
set_option linter.unusedVariables false
set_option linter.unusedSimpArgs false

/-- The exponent at x as the model tells it: -1 at multiples of the prime. -/
def exM (p n k : Nat) (x : Int) : Int := if restN p x = 0 then -1 else (expN p n k (restN p x) : Nat)
theorem exV_exp {p n k x : Nat} (h : x ≠ 0) : exV p n k x = ((expN p n k x : Nat) : Int) := by unfold exV expN; rw [if_neg h]
/-- The value at -1 is 1. -/
def evenB (p n k : Nat) : Bool := exV p n k (restN p (-1)) == 0
theorem rest_m1 {p : Nat} (h : 3 ≤ p) : restN p (-1) = p - 1 := by
  unfold restN
  rw [show Int.tmod (-1) (p : Int) = -1 from by rw [show (-1 : Int) = -(1 : Int) from rfl, Int.neg_tmod, Int.tmod_eq_emod_of_nonneg (by omega), Int.emod_eq_of_lt (by omega) (by omega)]]
  rw [Int.emod_eq_of_lt (by omega) (by omega)]
  omega
theorem even_m {p n k : Nat} (h : 3 ≤ p) : (exM p n k (-1) == 0) = evenB p n k := by
  unfold exM evenB exV
  rw [rest_m1 h, if_neg (by omega), if_neg (by omega)]
  rfl

/-- The Legendre symbol. -/
def legN (p : Nat) (x : Int) : Int := if restN p x = 0 then 0 else if sqN p (restN p x) = true then 1 else -1
theorem legN_idx {p : Nat} {x : Int} (hp : primeN p = true) (h : ¬ restN p x = 0) : legN p x = 1 - 2 * exV p 2 1 (restN p x) := by
  have hb := primeN_bd hp
  unfold legN exV
  rw [if_neg h, if_neg h, sq_ok hp (by omega) (restN_eq p (by omega) x).2.1, Nat.one_mul]
  rcases Nat.mod_two_eq_zero_or_one (idxN p (restN p x)) with e | e <;> rw [e] <;> simp
theorem LegendreSymbol_impl_bad (p x : Int) (h : ¬ (PrP p ∧ -1000000 ≤ x ∧ x ≤ 1000000)) (w : World) :
    Calls Tryd.prog 27 #[.int .i64 p, .int .i64 x] w fun e w' => e = .returned (.tuple #[.int .i64 0, .int .i64 2]) ∧ Below w.heap.size w w' := by
  by_cases hp : PrP p
  · have H := Lib.hid (show x < -1000000 ∨ 1000000 < x by
      rcases Int.lt_or_le x (-1000000) with g1 | g1
      · exact .inl g1
      · rcases Int.lt_or_le 1000000 x with g2 | g2
        · exact .inr g2
        · exact absurd ⟨hp, g1, g2⟩ h)
    obtain ⟨P, rfl⟩ := Int.eq_ofNat_of_zero_le hp.1
    have HP := Lib.hid (show primeN P = true by have := hp.2; rwa [Int.toNat_natCast] at this)
    clear h hp
    go_enter Tryd.func27, Tryd.ntmps27
    go_wp2_with (first
      | (go_at_call 21; refine (isOddPrime_yes P HP.out _).mono ?_; rintro e w1 ⟨rfl, m1, rfl⟩)
      | (go_at_call 31; refine (isWithin_no _ _ _ (by omega) (by omega) H.out).mono ?_; rintro e w' ⟨rfl, rfl⟩))
    go_ret2
    exact ⟨rfl, below_drewN (Below.refl _ _) _⟩
  · have H := Lib.hid hp
    clear h hp
    go_enter Tryd.func27, Tryd.ntmps27
    go_wp2_with (go_at_call 21; refine (isOddPrime_no p H.out _).mono ?_; rintro e w1 ⟨rfl, m1, rfl⟩)
    go_ret2
    exact ⟨rfl, below_drewN (Below.refl _ _) _⟩
theorem LegendreSymbol_impl_ok (p : Nat) (x : Int) (hp : primeN p = true) (hx1 : -1000000 ≤ x) (hx2 : x ≤ 1000000) (w : World) :
    Calls Tryd.prog 27 #[.int .i64 (p : Int), .int .i64 x] w fun e w' => e = .returned (.tuple #[.int .i64 (legN p x), .int .i64 0]) ∧ Below w.heap.size w w' := by
  have hb := primeN_bd hp
  have HP := Lib.hid hp
  have hbd := exV_bd (p := p) (n := 2) (k := 1) (y := restN p x) (by omega)
  have HL := Lib.hid (fun h => legN_idx (x := x) hp h)
  have HL0 := Lib.hid (show legN p x = if restN p x = 0 then 0 else if sqN p (restN p x) = true then 1 else -1 from rfl)
  clear hp
  generalize hlg : legN p x = lg at HL HL0
  go_enter Tryd.func27, Tryd.ntmps27
  go_wp2_with (first
    | (go_at_call 21; refine (isOddPrime_yes p HP.out _).mono ?_; rintro e w1 ⟨rfl, m1, rfl⟩)
    | (go_at_call 31; refine (isWithin_yes _ _ _ (by omega) (by omega) (by omega) (by omega)).mono ?_; rintro e w' ⟨rfl, rfl⟩)
    | (go_at_call 32; refine (valuesOf_any p 2 1 HP.out (by omega) (by omega) (by omega) _).mono ?_; rintro e w2 ⟨rfl, b2, hz2, bx, by_, sl⟩))
  refine (value_any p 2 1 x _ _ _ (by omega) hb.2 (by omega) (by omega) bx by_ sl).mono ?_
  rintro e w3 ⟨rfl, b3⟩
  have BB : Below w.heap.size w w3 := (below_drewN (Below.refl _ _) m1).trans (b2.trans (b3.mono b2.size))
  clear bx by_ sl b3 b2
  by_cases hr : restN p x = 0
  · have hne : (((restN p x : Nat) : Int) != 0) = false := by rw [hr]; rfl
    have HV := Lib.hid (show lg = 0 by rw [HL0.out, if_pos hr])
    clear hr
    go_wp2
    go_ret2
    exact ⟨by rw [HV.out]; simp, BB⟩
  · have hne : (((restN p x : Nat) : Int) != 0) = true := by rw [bne_iff_ne]; omega
    have HV := Lib.hid (HL.out hr)
    clear hr
    generalize exV p 2 1 (restN p x) = ev at *
    go_wp2
    go_ret2
    exact ⟨by rw [HV.out]; simp, BB⟩
end Go.Proofs.YtopapdahpeemfaaDoor
