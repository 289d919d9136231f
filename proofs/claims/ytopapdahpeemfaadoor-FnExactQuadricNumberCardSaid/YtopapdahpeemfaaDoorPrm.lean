/- Prime tests of the program and of the model; periods, primitive roots and indices of the model. -/
import Derived.Test.YtopapdahpeemfaaDoorIdx
namespace Go.Proofs.YtopapdahpeemfaaDoor
open Go.RowKit Go.ChangeShapes
set_option linter.unusedVariables false
set_option linter.unusedSimpArgs false

/-- p is a prime in the range. -/
def PrP (p : Int) : Prop := 0 ≤ p ∧ primeN p.toNat = true
theorem prime_div {p : Nat} (h : primeN p = true) (k : Nat) (h2 : 2 ≤ k) (hk : k * k ≤ p) : ¬ p % k = 0 := by
  have hb := primeN_bd h
  have hk7 : k ≤ 7 := by
    rcases Nat.lt_or_ge k 8 with h8 | h8
    · omega
    · have := Nat.mul_le_mul h8 h8; omega
  unfold primeN at h
  simp only [Bool.and_eq_true, decide_eq_true_eq] at h
  have := all_range h.2 (k - 2) (by omega)
  rw [show k - 2 + 2 = k by omega] at this
  simp only [Bool.or_eq_true, decide_eq_true_eq] at this
  rcases this with h | h
  · omega
  · exact h
theorem prime_of_div {p k : Nat} (h3 : 3 ≤ p) (h61 : p ≤ 61) (hk : p < k * k) (h : ∀ j, 2 ≤ j → j < k → ¬ p % j = 0) : primeN p = true := by
  unfold primeN
  simp only [Bool.and_eq_true, decide_eq_true_eq]
  refine ⟨⟨h3, h61⟩, List.all_eq_true.2 (fun d hd => ?_)⟩
  simp only [Bool.or_eq_true, decide_eq_true_eq]
  rcases Nat.lt_or_ge p ((d + 2) * (d + 2)) with h1 | h1
  · exact .inl h1
  · refine .inr (h (d + 2) (by omega) ?_)
    rcases Nat.lt_or_ge (d + 2) k with h5 | h5
    · exact h5
    · have := Nat.mul_le_mul h5 h5; omega
theorem sq_le {p k : Nat} (h61 : p ≤ 61) (hk : k * k ≤ p) : k ≤ 7 := by
  rcases Nat.lt_or_ge k 8 with h8 | h8
  · omega
  · have := Nat.mul_le_mul h8 h8; omega

theorem isOddPrime_yes (p : Nat) (hp : primeN p = true) (w : World) :
    Calls Tryd.prog 21 #[.int .i64 (p : Int)] w fun e w' => e = .returned (.bool true) ∧ ∃ m, w' = w.drewN m := by
  have hb := primeN_bd hp
  have HP := Lib.hid hp; clear hp
  go_enter Tryd.func21, Tryd.ntmps21
  go_wp2
  go_loopw [3] (fun s3 wr => ∃ k : Nat, 2 ≤ k ∧ k ≤ 8 ∧ s3 = .int .i64 (k : Int) ∧ ∃ m, wr = w.drewN m) (fun s3 _ => 9 - (intOf s3).toNat)
  case atStart => exact ⟨2, by omega, by omega, rfl, 0, rfl⟩
  case round =>
    obtain ⟨k, hk2, hk8, rfl, m, rfl⟩ := hrel
    have hkk0 : 0 ≤ (k : Int) * (k : Int) := Int.mul_nonneg (by omega) (by omega)
    have hkk1 : (k : Int) * (k : Int) ≤ 64 := Int.mul_le_mul (c := 8) (d := 8) (by omega) (by omega) (by omega) (by omega)
    by_cases hle : k * k ≤ p
    · have hk7 := sq_le (by omega) hle
      have hm := prime_div HP.out k hk2 hle
      have hle2 : (k : Int) * (k : Int) ≤ (p : Int) := by have := Int.ofNat_le.2 hle; rwa [Int.natCast_mul] at this
      have hk0 : ¬ k = 0 := by omega
      have hm2 : (((p : Int) % (k : Int)) == 0) = false := beq_eq_false_iff_ne.2 (fun e => hm (by rw [← Int.natCast_emod] at e; omega))
      clear hm hle
      go_wp2
      go_roundw
      case rel => exact ⟨k + 1, by omega, by omega, by go_num, _, rfl⟩
      case measure => simp [intOf]; omega
    · have hle2 : (p : Int) < (k : Int) * (k : Int) := by have := Int.ofNat_lt.2 (Nat.not_le.1 hle); rwa [Int.natCast_mul] at this
      clear hle
      go_wp2
      go_ret
      exact ⟨rfl, m, rfl⟩
theorem isOddPrime_no (p : Int) (hp : ¬ PrP p) (w : World) :
    Calls Tryd.prog 21 #[.int .i64 p] w fun e w' => e = .returned (.bool false) ∧ ∃ m, w' = w.drewN m := by
  by_cases hr : 3 ≤ p ∧ p ≤ 61
  · obtain ⟨h3, h61⟩ := hr
    obtain ⟨P, rfl⟩ := Int.eq_ofNat_of_zero_le (show 0 ≤ p by omega)
    have HP := Lib.hid (show ¬ primeN P = true from fun h => hp ⟨by omega, by rwa [Int.toNat_natCast]⟩)
    clear hp
    go_enter Tryd.func21, Tryd.ntmps21
    go_wp2
    go_loopw [3] (fun s3 wr => ∃ k : Nat, 2 ≤ k ∧ k ≤ 8 ∧ s3 = .int .i64 (k : Int) ∧ (∀ j, 2 ≤ j → j < k → ¬ P % j = 0) ∧ ∃ m, wr = w.drewN m) (fun s3 _ => 9 - (intOf s3).toNat)
    case atStart => exact ⟨2, by omega, by omega, rfl, fun j h1 h2 => by omega, 0, rfl⟩
    case round =>
      obtain ⟨k, hk2, hk8, rfl, hno, m, rfl⟩ := hrel
      have HN := Lib.hid hno; clear hno
      have hkk0 : 0 ≤ (k : Int) * (k : Int) := Int.mul_nonneg (by omega) (by omega)
      have hkk1 : (k : Int) * (k : Int) ≤ 64 := Int.mul_le_mul (c := 8) (d := 8) (by omega) (by omega) (by omega) (by omega)
      have hle : k * k ≤ P := by
        rcases Nat.lt_or_ge P (k * k) with h | h
        · exact absurd (prime_of_div (by omega) (by omega) h HN.out) HP.out
        · exact h
      have hk7 := sq_le (by omega) hle
      have hle2 : (k : Int) * (k : Int) ≤ (P : Int) := by have := Int.ofNat_le.2 hle; rwa [Int.natCast_mul] at this
      have hk0 : ¬ k = 0 := by omega
      clear hle
      by_cases hm : P % k = 0
      · have hm2 : (((P : Int) % (k : Int)) == 0) = true := by rw [← Int.natCast_emod, hm]; rfl
        clear hm
        go_wp2
        go_ret
        exact ⟨rfl, m, rfl⟩
      · have hm2 : (((P : Int) % (k : Int)) == 0) = false := beq_eq_false_iff_ne.2 (fun e => hm (by rw [← Int.natCast_emod] at e; omega))
        have HM := Lib.hid hm
        clear hm
        go_wp2
        go_roundw
        case rel => exact ⟨k + 1, by omega, by omega, by go_num, fun j h1 h2 => by
          rcases Nat.lt_or_ge j k with h | h
          · exact HN.out j h1 h
          · obtain rfl : j = k := by omega
            exact HM.out, _, rfl⟩
        case measure => simp [intOf]; omega
  · clear hp
    by_cases h3 : p < 3
    · clear hr
      go_enter Tryd.func21, Tryd.ntmps21
      go_wp2
      go_ret
      exact ⟨rfl, 0, rfl⟩
    · have h3' : 3 ≤ p := by omega
      have h61 : 61 < p := by omega
      clear hr h3
      go_enter Tryd.func21, Tryd.ntmps21
      go_wp2
      go_ret
      exact ⟨rfl, 0, rfl⟩

theorem pwr_succ (p g k : Nat) : pwr p g (k + 1) = pwr p g k * g % p := rfl
theorem pwr_one {p g : Nat} (h : g < p) : pwr p g 1 = g := by show 1 * g % p = g; rw [Nat.one_mul, Nat.mod_eq_of_lt h]
theorem pwr_step {p g k : Nat} (hp : 3 ≤ p) : ((pwr p g k : Nat) : Int) * (g : Int) % (p : Int) = ((pwr p g (k + 1) : Nat) : Int) := by
  rw [pwr_succ, ← Int.natCast_mul, ← Int.natCast_emod]
/-- The rest of x by p, as a number. -/
def restN (p : Nat) (x : Int) : Nat := ((x.tmod p + p) % p).toNat
theorem restN_eq (p : Nat) (h : 1 ≤ p) (x : Int) : (x.tmod p + p) % p = (restN p x : Int) ∧ restN p x < p ∧ -(p : Int) < x.tmod p ∧ x.tmod p < p := by
  have h2 := Int.emod_nonneg (x.tmod p + p) (b := (p : Int)) (by omega)
  have h3 := Int.emod_lt_of_pos (x.tmod p + p) (b := (p : Int)) (by omega)
  have h4 := Int.tmod_lt_of_pos x (b := (p : Int)) (by omega)
  have h5 := Int.lt_tmod_of_pos x (b := (p : Int)) (by omega)
  unfold restN
  omega
theorem restN_nat {p x : Nat} (h : x < p) : restN p (x : Int) = x := by
  unfold restN
  rw [Int.tmod_eq_emod_of_nonneg (by omega)]
  have e : (((x : Int) % (p : Int)) + (p : Int)) % (p : Int) = (x : Int) := by
    rw [Int.emod_eq_of_lt (a := (x : Int)) (by omega) (by omega)]
    rw [Int.add_emod_right, Int.emod_eq_of_lt (by omega) (by omega)]
  rw [e]; simp
theorem restN_zero {p : Nat} (h : 1 ≤ p) (x : Int) : restN p x = 0 ↔ x.tmod p = 0 := by
  obtain ⟨h1, h2, h3, h4⟩ := restN_eq p h x
  constructor
  · intro e
    rw [e] at h1
    obtain ⟨q, hq⟩ := Int.dvd_of_emod_eq_zero h1
    have : q = 1 := by
      have ha : 0 < (p : Int) * q := by omega
      have hb : (p : Int) * q < (p : Int) * 2 := by omega
      have h5 : q < 2 := Int.lt_of_mul_lt_mul_left hb (by omega)
      have h6 : 0 < q := by
        rcases Int.lt_or_le 0 q with h | h
        · exact h
        · have := Int.mul_nonpos_of_nonneg_of_nonpos (show 0 ≤ (p : Int) by omega) h; omega
      omega
    subst this
    omega
  · intro e
    rw [e, Int.zero_add, Int.emod_self] at h1
    omega
end Go.Proofs.YtopapdahpeemfaaDoor
