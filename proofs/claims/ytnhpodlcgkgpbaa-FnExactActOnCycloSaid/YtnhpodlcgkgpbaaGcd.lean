/- Contracts of the two gcd functions and of the two totients. -/
import Derived.Test.YtnhpodlcgkgpbaaRows
import Derived.WalkKit
import Derived.ProofKit
import Derived.Handy
import Derived.BigQuiet
import Derived.Deep.QuietTactic
import Derived.Lib.Hide
import Derived.WalkSmall
namespace Go.Proofs.Ytnhpodlcgkgpbaa
open Go.RowKit Go.ChangeShapes

/-- The greatest common divisor as a number of Go. -/
def gcdI (a b : Int) : Int := ((Nat.gcd a.toNat b.toNat : Nat) : Int)

theorem gcdI_step (a b : Int) (ha : 0 ≤ a) (hb : 0 < b) : gcdI b (a % b) = gcdI a b := by
  unfold gcdI
  obtain ⟨m, rfl⟩ := Int.eq_ofNat_of_zero_le ha
  obtain ⟨n, rfl⟩ := Int.eq_ofNat_of_zero_le (Int.le_of_lt hb)
  have h : ((m : Int) % (n : Int)) = ((m % n : Nat) : Int) := by omega
  rw [h]
  simp only [Int.toNat_natCast]
  rw [Nat.gcd_comm m n, Nat.gcd_rec n m, Nat.gcd_comm]

theorem gcdI_zero (a : Int) (ha : 0 ≤ a) : gcdI a 0 = a := by
  unfold gcdI; simp; omega

theorem ret_int {k : IntKind} {a b : Int} (h : a = b) : Ending.returned (.int k a) = .returned (.int k b) := by rw [h]

set_option maxHeartbeats 400000 in
theorem commonDivisor_any (a b : Int) (w : World) (ha : 0 ≤ a) (ha' : a ≤ 9223372036854775807) (hb : 0 ≤ b) (hb' : b ≤ 9223372036854775807) :
    Calls Try.prog 173 #[.int .i64 a, .int .i64 b] w fun e w' => e = .returned (.int .i64 (gcdI a b)) ∧ ∃ n, w' = w.drewN n := by
  go_enter Try.func173, Try.ntmps173
  go_wp2
  go_loopw [0, 1] (fun v0 v1 wr => ∃ x y : Int, 0 ≤ x ∧ x ≤ 9223372036854775807 ∧ 0 ≤ y ∧ y ≤ 9223372036854775807 ∧ v0 = .int .i64 x ∧ v1 = .int .i64 y ∧ gcdI x y = gcdI a b ∧ ∃ n, wr = w.drewN n) (fun _ v1 _ => (intOf v1).toNat)
  case atStart => exact ⟨a, b, ha, ha', hb, hb', rfl, rfl, rfl, 0, rfl⟩
  case round =>
    obtain ⟨x, y, h1, h2, h3, h4, rfl, rfl, h5, n, rfl⟩ := hrel
    have H5 := Lib.hid h5; clear h5
    by_cases hy : y = 0
    · subst hy
      go_wp2
      go_ret
      exact ⟨ret_int (by rw [← H5.out, gcdI_zero _ h1]), n, rfl⟩
    · have hy1 : 1 ≤ y := by omega
      have hm0 := Int.emod_nonneg x (b := y) (by omega)
      have hm1 := Int.emod_lt_of_pos x (b := y) (by omega)
      have hne : ((y : Int) != 0) = true := by rw [bne_iff_ne]; exact hy
      go_wp2
      go_quiet (fail)
      go_wp2
      go_roundw
      case rel => exact ⟨y, x % y, by omega, by omega, by omega, by omega, rfl, rfl, by rw [gcdI_step x y h1 (by omega)]; exact H5.out, _, World.drewN_drewN _ _ _⟩
      case measure => simp [intOf]; omega

set_option maxHeartbeats 400000 in
theorem l01Gcd_any (a b : Int) (w : World) (ha : 0 ≤ a) (ha' : a ≤ 9223372036854775807) (hb : 0 ≤ b) (hb' : b ≤ 9223372036854775807) :
    Calls Try.prog 124 #[.int .i64 a, .int .i64 b] w fun e w' => e = .returned (.int .i64 (gcdI a b)) ∧ w = w' := by
  go_enter Try.func124, Try.ntmps124
  go_wp2
  go_loop [0, 1, 5] (fun v0 v1 _ => ∃ x y : Int, 0 ≤ x ∧ x ≤ 9223372036854775807 ∧ 0 ≤ y ∧ y ≤ 9223372036854775807 ∧ v0 = .int .i64 x ∧ v1 = .int .i64 y ∧ gcdI x y = gcdI a b) (fun _ v1 _ => (intOf v1).toNat)
  case atStart => exact ⟨a, b, ha, ha', hb, hb', rfl, rfl, rfl⟩
  case round =>
    obtain ⟨x, y, h1, h2, h3, h4, rfl, rfl, h5⟩ := hrel
    have H5 := Lib.hid h5; clear h5
    by_cases hy : y = 0
    · subst hy
      go_wp2
      go_ret
      exact ⟨ret_int (by rw [← H5.out, gcdI_zero _ h1]), rfl⟩
    · have hy1 : 1 ≤ y := by omega
      have hm0 := Int.emod_nonneg x (b := y) (by omega)
      have hm1 := Int.emod_lt_of_pos x (b := y) (by omega)
      have hne : ((y : Int) != 0) = true := by rw [bne_iff_ne]; exact hy
      go_wp2
      go_round
      case rel => exact ⟨y, x % y, by omega, by omega, by omega, by omega, rfl, rfl, by rw [gcdI_step x y h1 (by omega)]; exact H5.out⟩
      case measure => simp [intOf]; omega


/-- How many of 1, .., k have no common divisor with n. -/
def phiTo (n : Int) : Nat → Nat
  | 0 => 0
  | k + 1 => phiTo n k + if gcdI ((k : Int) + 1) n = 1 then 1 else 0
/-- The totient. -/
def phiI (n : Int) : Nat := phiTo n n.toNat
theorem phiTo_le (n : Int) (k : Nat) : phiTo n k ≤ k := by
  induction k with
  | zero => exact Nat.le_refl _
  | succ k ih => unfold phiTo; split <;> omega
theorem phiI_le (n : Int) : phiI n ≤ n.toNat := phiTo_le _ _
theorem phiTo_yes (n : Int) (k : Nat) (h : gcdI ((k : Int) + 1) n = 1) : phiTo n (k + 1) = phiTo n k + 1 := by
  show phiTo n k + _ = _; rw [if_pos h]
theorem phiTo_no (n : Int) (k : Nat) (h : ¬ gcdI ((k : Int) + 1) n = 1) : phiTo n (k + 1) = phiTo n k := by
  show phiTo n k + _ = _; rw [if_neg h]; rfl

set_option maxHeartbeats 400000 in
theorem totient_any (n : Int) (w : World) (hn : n ≤ 4611686018427387904) :
    Calls Try.prog 119 #[.int .i64 n] w fun e w' => e = .returned (.int .i64 (phiI n : Nat)) ∧ ∃ m, w' = w.drewN m := by
  go_enter Try.func119, Try.ntmps119
  go_wp2
  go_loopw [3, 4] (fun v0 v1 wr => ∃ k : Nat, (k : Int) ≤ (n.toNat : Int) ∧ v1 = .int .i64 ((k : Int) + 1) ∧ v0 = .int .i64 (phiTo n k : Nat) ∧ ∃ m, wr = w.drewN m) (fun _ v1 _ => (n.toNat + 1 - (intOf v1)).toNat)
  case atStart => exact ⟨0, by omega, rfl, rfl, 0, rfl⟩
  case round =>
    obtain ⟨k, hk, rfl, rfl, m, rfl⟩ := hrel
    have hl := phiTo_le n k
    by_cases hle : (k : Int) + 1 ≤ n
    · by_cases hg : gcdI ((k : Int) + 1) n = 1
      · have H := Lib.hid (phiTo_yes n k hg)
        have hb : (gcdI ((k : Int) + 1) n == 1) = true := beq_iff_eq.2 hg
        clear hg
        go_wp2_with (go_at_call 173; refine (commonDivisor_any _ _ _ (by omega) (by omega) (by omega) (by omega)).mono ?_; rintro e w' ⟨rfl, m', rfl⟩)
        go_roundw
        case rel => exact ⟨k + 1, by omega, by go_num, by rw [H.out]; go_num, _, rfl⟩
        case measure => simp [intOf]; omega
      · have H := Lib.hid (phiTo_no n k hg)
        have hb : (gcdI ((k : Int) + 1) n == 1) = false := beq_eq_false_iff_ne.2 hg
        clear hg
        go_wp2_with (go_at_call 173; refine (commonDivisor_any _ _ _ (by omega) (by omega) (by omega) (by omega)).mono ?_; rintro e w' ⟨rfl, m', rfl⟩)
        go_roundw
        case rel => exact ⟨k + 1, by omega, by go_num, by rw [H.out], _, rfl⟩
        case measure => simp [intOf]; omega
    · have H := Lib.hid (show k = n.toNat by omega)
      go_wp2
      go_ret
      exact ⟨ret_int (by unfold phiI; rw [← H.out]), m, rfl⟩

set_option maxHeartbeats 400000 in
theorem l01Phi_any (n : Int) (w : World) (hn : n ≤ 4611686018427387904) :
    Calls Try.prog 163 #[.int .i64 n] w fun e w' => e = .returned (.int .i64 (phiI n : Nat)) ∧ w = w' := by
  go_enter Try.func163, Try.ntmps163
  go_wp2
  go_loop [3, 4] (fun v0 v1 => ∃ k : Nat, (k : Int) ≤ (n.toNat : Int) ∧ v1 = .int .i64 ((k : Int) + 1) ∧ v0 = .int .i64 (phiTo n k : Nat)) (fun _ v1 => (n.toNat + 1 - (intOf v1)).toNat)
  case atStart => exact ⟨0, by omega, rfl, rfl⟩
  case round =>
    obtain ⟨k, hk, rfl, rfl⟩ := hrel
    have hl := phiTo_le n k
    by_cases hle : (k : Int) + 1 ≤ n
    · by_cases hg : gcdI ((k : Int) + 1) n = 1
      · have H := Lib.hid (phiTo_yes n k hg)
        have hb : (gcdI ((k : Int) + 1) n == 1) = true := beq_iff_eq.2 hg
        clear hg
        go_wp2_with (go_at_call 124; refine (l01Gcd_any _ _ _ (by omega) (by omega) (by omega) (by omega)).mono ?_; rintro e w' ⟨rfl, rfl⟩)
        go_round
        case rel => exact ⟨k + 1, by omega, by go_num, by rw [H.out]; go_num⟩
        case measure => simp [intOf]; omega
      · have H := Lib.hid (phiTo_no n k hg)
        have hb : (gcdI ((k : Int) + 1) n == 1) = false := beq_eq_false_iff_ne.2 hg
        clear hg
        go_wp2_with (go_at_call 124; refine (l01Gcd_any _ _ _ (by omega) (by omega) (by omega) (by omega)).mono ?_; rintro e w' ⟨rfl, rfl⟩)
        go_round
        case rel => exact ⟨k + 1, by omega, by go_num, by rw [H.out]⟩
        case measure => simp [intOf]; omega
    · have H := Lib.hid (show k = n.toNat by omega)
      go_wp2
      go_ret
      exact ⟨ret_int (by unfold phiI; rw [← H.out]), rfl⟩


theorem l01In_yes (n a b : Int) (w : World) (h : a ≤ n) (h' : n ≤ b) :
    Calls Try.prog 101 #[.int .i64 n, .int .i64 a, .int .i64 b] w fun e w' => e = .returned (.bool true) ∧ w = w' := by
  go_enter Try.func101, Try.ntmps101
  go_wp2
  go_ret
  exact ⟨by simp, rfl⟩
theorem l01In_no (n a b : Int) (w : World) (h : n < a ∨ b < n) :
    Calls Try.prog 101 #[.int .i64 n, .int .i64 a, .int .i64 b] w fun e w' => e = .returned (.bool false) ∧ w = w' := by
  by_cases ha : n < a
  · clear h
    go_enter Try.func101, Try.ntmps101
    go_wp2
    go_ret
    exact ⟨rfl, rfl⟩
  · have ha' : a ≤ n := by omega
    have hb : b < n := by omega
    have hb' : decide (n ≤ b) = false := by simpa using hb
    clear h ha
    go_enter Try.func101, Try.ntmps101
    go_wp2
    go_ret
    exact ⟨by simp, rfl⟩

end Go.Proofs.Ytnhpodlcgkgpbaa
