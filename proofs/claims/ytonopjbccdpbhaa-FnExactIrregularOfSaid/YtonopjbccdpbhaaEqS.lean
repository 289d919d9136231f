/- Chapter 8 of the model: codes, values, counts of solutions. -/
import Derived.Test.YtonopjbccdpbhaaEqF
import Derived.Test.YtonopjbccdpbhaaPlcA
import Derived.Deep.RegionLaw
import Derived.BigRegion
namespace Go.Proofs.Ytonopjbccdpbhaa
open Go.RowKit Go.ChangeShapes Go.Sort
set_option linter.unusedVariables false
set_option linter.unusedSimpArgs false
set_option maxRecDepth 100000

theorem l06Prime_yes (p : Nat) (hp : primeN p = true) (w : World) :
    Calls Try.prog 140 #[.int .i64 (p : Int)] w fun e w' => e = .returned (.bool true) ∧ ∃ m, w' = w.drewN m := by
  have hb := primeN_bd hp
  have HP := Lib.hid hp; clear hp
  go_enter Try.func140, Try.ntmps140
  go_wp2_with (go_at_call 100; refine (l01In_yes _ _ _ _ (by omega) (by omega)).mono ?_; rintro e w' ⟨rfl, rfl⟩)
  go_loopw [3] (fun s3 wr => ∃ k : Nat, 2 ≤ k ∧ k ≤ 8 ∧ s3 = .int .i64 (k : Int) ∧ ∃ m, wr = w.drewN m) (fun s3 _ => 9 - (intOf s3).toNat)
  case atStart => exact ⟨2, by omega, by omega, rfl, 0, rfl⟩
  case round =>
    obtain ⟨k, hk2, hk8, rfl, m, rfl⟩ := hrel
    have hkk0 : 0 ≤ (k : Int) * (k : Int) := Int.mul_nonneg (by omega) (by omega)
    have hkk1 : (k : Int) * (k : Int) ≤ 64 := Int.mul_le_mul (c := 8) (d := 8) (by omega) (by omega) (by omega) (by omega)
    by_cases hle : k * k ≤ p
    · have hk7 := sq_le (by omega) hle
      have hm := prime_div HP.out k hk2 hle
      have hle2 : (k : Int) * (k : Int) ≤ (p : Int) := by have := Int.ofNat_le.2 hle; rwa [Int.natCast_mul] at this
      have hk0 : ¬ k = 0 := by omega
      have hm2 : (((p : Int) % (k : Int)) == 0) = false := beq_eq_false_iff_ne.2 (fun e => hm (by rw [← Int.natCast_emod] at e; omega))
      clear hm hle
      go_wp2
      go_roundw
      case rel => exact ⟨k + 1, by omega, by omega, by go_num, _, rfl⟩
      case measure => simp [intOf]; omega
    · have hle2 : (p : Int) < (k : Int) * (k : Int) := by have := Int.ofNat_lt.2 (Nat.not_le.1 hle); rwa [Int.natCast_mul] at this
      clear hle
      go_wp2
      go_ret
      exact ⟨rfl, m, rfl⟩
theorem l06Prime_no (p : Int) (hp : ¬ PrP p) (w : World) :
    Calls Try.prog 140 #[.int .i64 p] w fun e w' => e = .returned (.bool false) ∧ ∃ m, w' = w.drewN m := by
  by_cases hr : 3 ≤ p ∧ p ≤ 61
  · obtain ⟨h3, h61⟩ := hr
    obtain ⟨P, rfl⟩ := Int.eq_ofNat_of_zero_le (show 0 ≤ p by omega)
    have HP := Lib.hid (show ¬ primeN P = true from fun h => hp ⟨by omega, by rwa [Int.toNat_natCast]⟩)
    clear hp
    go_enter Try.func140, Try.ntmps140
    go_wp2_with (go_at_call 100; refine (l01In_yes _ _ _ _ (by omega) (by omega)).mono ?_; rintro e w' ⟨rfl, rfl⟩)
    go_loopw [3] (fun s3 wr => ∃ k : Nat, 2 ≤ k ∧ k ≤ 8 ∧ s3 = .int .i64 (k : Int) ∧ (∀ j, 2 ≤ j → j < k → ¬ P % j = 0) ∧ ∃ m, wr = w.drewN m) (fun s3 _ => 9 - (intOf s3).toNat)
    case atStart => exact ⟨2, by omega, by omega, rfl, fun j h1 h2 => by omega, 0, rfl⟩
    case round =>
      obtain ⟨k, hk2, hk8, rfl, hno, m, rfl⟩ := hrel
      have HN := Lib.hid hno; clear hno
      have hkk0 : 0 ≤ (k : Int) * (k : Int) := Int.mul_nonneg (by omega) (by omega)
      have hkk1 : (k : Int) * (k : Int) ≤ 64 := Int.mul_le_mul (c := 8) (d := 8) (by omega) (by omega) (by omega) (by omega)
      have hle : k * k ≤ P := by
        rcases Nat.lt_or_ge P (k * k) with h | h
        · exact absurd (prime_of_div (by omega) (by omega) h HN.out) HP.out
        · exact h
      have hk7 := sq_le (by omega) hle
      have hle2 : (k : Int) * (k : Int) ≤ (P : Int) := by have := Int.ofNat_le.2 hle; rwa [Int.natCast_mul] at this
      have hk0 : ¬ k = 0 := by omega
      clear hle
      by_cases hm : P % k = 0
      · have hm2 : (((P : Int) % (k : Int)) == 0) = true := by rw [← Int.natCast_emod, hm]; rfl
        clear hm
        go_wp2
        go_ret
        exact ⟨rfl, m, rfl⟩
      · have hm2 : (((P : Int) % (k : Int)) == 0) = false := beq_eq_false_iff_ne.2 (fun e => hm (by rw [← Int.natCast_emod] at e; omega))
        have HM := Lib.hid hm
        clear hm
        go_wp2
        go_roundw
        case rel => exact ⟨k + 1, by omega, by omega, by go_num, fun j h1 h2 => by
          rcases Nat.lt_or_ge j k with h | h
          · exact HN.out j h1 h
          · obtain rfl : j = k := by omega
            exact HM.out, _, rfl⟩
        case measure => simp [intOf]; omega
  · have H := Lib.hid (show p < 3 ∨ 61 < p by omega)
    clear hp hr
    go_enter Try.func140, Try.ntmps140
    go_wp2_with (go_at_call 100; refine (l01In_no _ _ _ _ H.out).mono ?_; rintro e w' ⟨rfl, rfl⟩)
    go_ret
    exact ⟨rfl, 0, rfl⟩


theorem l08Power_any (l x k : Nat) (hl : 2 ≤ l) (hl2 : l ≤ 61) (hx : x < l) (hk : k ≤ 100) (w : World) :
    Calls Try.prog 184 #[.int .i64 (l : Int), .int .i64 (x : Int), .int .i64 (k : Int)] w fun r w' => r = .returned (.int .i64 (pwr l x k : Nat)) ∧ ∃ m, w' = w.drewN m := by
  go_enter Try.func184, Try.ntmps184
  go_wp2
  go_loopw [2, 7] (fun s2 s7 wr => ∃ i : Nat, i ≤ k ∧ s7 = .int .i64 (pwr l x i : Nat) ∧ s2 = .int .i64 ((k - i : Nat) : Int) ∧ ∃ m, wr = w.drewN m) (fun s2 _ _ => (intOf s2).toNat)
  case atStart => exact ⟨0, by omega, rfl, rfl, 0, rfl⟩
  case round =>
    obtain ⟨i, hi, rfl, rfl, m, rfl⟩ := hrel
    by_cases hlt : i < k
    · have hb := pwr_lt (p := l) (g := x) (by omega) i
      have hp0 : 0 ≤ ((pwr l x i : Nat) : Int) * (x : Int) := Int.mul_nonneg (by omega) (by omega)
      have hp1 : ((pwr l x i : Nat) : Int) * (x : Int) ≤ 61 * 61 := Int.mul_le_mul (by omega) (by omega) (by omega) (by omega)
      have hl0 : ¬ l = 0 := by omega
      have HS := Lib.hid (show ((pwr l x i : Nat) : Int) * (x : Int) % (l : Int) = ((pwr l x (i + 1) : Nat) : Int) by rw [pwr_succ, ← Int.natCast_mul, ← Int.natCast_emod])
      have hki : ((k - i : Nat) : Int) = ((k - (i + 1) : Nat) : Int) + 1 := by omega
      rw [hki]
      clear hki
      go_wp2
      go_roundw
      case rel => exact ⟨i + 1, by omega, by rw [← HS.out], by first | rfl | go_num, _, rfl⟩
      case measure => simp [intOf] <;> omega
    · obtain rfl : i = k := by omega
      rw [Nat.sub_self]
      go_wp2
      go_ret
      exact ⟨rfl, m, rfl⟩

theorem one_madeS (w : World) (x : Int) (hx : inR x) (t : TypeId) (ht : t = 2) : Sl true (w.alloc (.cells #[.int .i64 x] t)) w.heap.size (w.heap.size + 1) (.slice (some ⟨w.heap.size, 0, none⟩) 1 1) 1 (fun _ => x) := by
  subst ht
  exact Sl.made w #[.int .i64 x] 2 1 1 (fun _ => x) (Nat.le_refl _) (by unfold maxLen; omega) (fun j hj => hx) (fun j hj => by have hj' : j < 1 := hj; obtain rfl : j = 0 := (by omega); rfl)
/-- Exponents are as told. -/
def ExP (f : Nat → Int) (n : Nat) : Prop := ∀ i, i < n → 1 ≤ f i ∧ f i ≤ 60
section
variable {o : Bool} {lo hi : Nat} {v : Value} {n : Nat} {f : Nat → Int}
end
end Go.Proofs.Ytonopjbccdpbhaa
