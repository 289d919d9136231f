/- Contracts of the two gcd functions and of the two totients. -/
import Derived.Test.YtopapdahpeemfaaDoorRows
import Derived.WalkKit
import Derived.ProofKit
import Derived.Handy
import Derived.BigQuiet
import Derived.Deep.QuietTactic
import Derived.Lib.Hide
import Derived.WalkSmall
namespace Go.Proofs.YtopapdahpeemfaaDoor
open Go.RowKit Go.ChangeShapes

/-- The greatest common divisor as a number of Go. -/
def gcdI (a b : Int) : Int := ((Nat.gcd a.toNat b.toNat : Nat) : Int)

theorem gcdI_step (a b : Int) (ha : 0 ≤ a) (hb : 0 < b) : gcdI b (a % b) = gcdI a b := by
  unfold gcdI
  obtain ⟨m, rfl⟩ := Int.eq_ofNat_of_zero_le ha
  obtain ⟨n, rfl⟩ := Int.eq_ofNat_of_zero_le (Int.le_of_lt hb)
  have h : ((m : Int) % (n : Int)) = ((m % n : Nat) : Int) := by omega
  rw [h]
  simp only [Int.toNat_natCast]
  rw [Nat.gcd_comm m n, Nat.gcd_rec n m, Nat.gcd_comm]

theorem gcdI_zero (a : Int) (ha : 0 ≤ a) : gcdI a 0 = a := by
  unfold gcdI; simp; omega

theorem ret_int {k : IntKind} {a b : Int} (h : a = b) : Ending.returned (.int k a) = .returned (.int k b) := by rw [h]

/-- How many of 1, .., k have no common divisor with n. -/
def phiTo (n : Int) : Nat → Nat
  | 0 => 0
  | k + 1 => phiTo n k + if gcdI ((k : Int) + 1) n = 1 then 1 else 0
/-- The totient. -/
def phiI (n : Int) : Nat := phiTo n n.toNat
theorem phiTo_le (n : Int) (k : Nat) : phiTo n k ≤ k := by
  induction k with
  | zero => exact Nat.le_refl _
  | succ k ih => unfold phiTo; split <;> omega
theorem phiI_le (n : Int) : phiI n ≤ n.toNat := phiTo_le _ _
theorem phiTo_yes (n : Int) (k : Nat) (h : gcdI ((k : Int) + 1) n = 1) : phiTo n (k + 1) = phiTo n k + 1 := by
  show phiTo n k + _ = _; rw [if_pos h]
theorem phiTo_no (n : Int) (k : Nat) (h : ¬ gcdI ((k : Int) + 1) n = 1) : phiTo n (k + 1) = phiTo n k := by
  show phiTo n k + _ = _; rw [if_neg h]; rfl

theorem l01In_yes (n a b : Int) (w : World) (h : a ≤ n) (h' : n ≤ b) :
    Calls Tryd.prog 17 #[.int .i64 n, .int .i64 a, .int .i64 b] w fun e w' => e = .returned (.bool true) ∧ w = w' := by
  go_enter Tryd.func17, Tryd.ntmps17
  go_wp2
  go_ret
  exact ⟨by simp, rfl⟩
theorem l01In_no (n a b : Int) (w : World) (h : n < a ∨ b < n) :
    Calls Tryd.prog 17 #[.int .i64 n, .int .i64 a, .int .i64 b] w fun e w' => e = .returned (.bool false) ∧ w = w' := by
  by_cases ha : n < a
  · clear h
    go_enter Tryd.func17, Tryd.ntmps17
    go_wp2
    go_ret
    exact ⟨rfl, rfl⟩
  · have ha' : a ≤ n := by omega
    have hb : b < n := by omega
    have hb' : decide (n ≤ b) = false := by simpa using hb
    clear h ha
    go_enter Tryd.func17, Tryd.ntmps17
    go_wp2
    go_ret
    exact ⟨by simp, rfl⟩

end Go.Proofs.YtopapdahpeemfaaDoor
