/- Cyclotomic units: facts. -/
import Derived.Test.YtnhpodlcgkgpbaaGalZ
import Derived.Test.YtnhpodlcgkgpbaaPowZ
import Derived.Test.YtnhpodlcgkgpbaaSumZ
namespace Go.Proofs.Ytnhpodlcgkgpbaa
open Go.RowKit Go.ChangeShapes Go.Sort
set_option linter.unusedVariables false

/-- 1 + z + .. + z^(a - 1). -/
def cuF (n a : Nat) : Nat → Int := fun j => sumN a (fun i => tb n i j)
theorem sumN_lt (F : Nat → Int) {a : Nat} : ∀ {m : Nat}, a ≤ m → sumN m (fun k => if k < a then F k else 0) = sumN a F
  | 0, h => by
    obtain rfl : a = 0 := by omega
    rfl
  | m + 1, h => by
    by_cases e : a = m + 1
    · subst e; exact sumN_congr (fun i hi => if_pos hi)
    · have ih := sumN_lt F (a := a) (m := m) (by omega)
      simp only [sumN]
      rw [ih, if_neg (by omega), Int.add_zero]
theorem cu_bd {n a : Nat} (hn : n < 17) (h1 : 1 ≤ n) (ha : a ≤ n) {j : Nat} (hj : j < phiN n) : -16 ≤ cuF n a j ∧ cuF n a j ≤ 16 := by
  have h := sumN_bd (F := fun i => tb n i j) (B := 1) (by omega) a (fun i hi => tab_one n hn h1 i (by omega) j hj)
  unfold cuF
  omega
theorem cu_red {n a : Nat} (hn : n < 17) (h1 : 1 ≤ n) (ha : a ≤ n) {j : Nat} (hj : j < phiN n) : redP n (pad a (fun _ => 1)) j = cuF n a j := by
  have hp := phi_le12 n (by omega) h1
  have e : redZ n (pad a (fun _ => 1)) j = cuF n a j := by
    rw [redZ_sum hn h1 _ (by omega)]
    rw [show sumN 24 (fun k => pad a (fun _ => 1) k * redZ n (unit k) j) = sumN 24 (fun k => if k < a then tb n k j else 0) from
      sumN_congr (fun k hk => by
        unfold pad
        by_cases e : k < a
        · rw [if_pos e, if_pos e, Int.one_mul, tb_eq hn h1 hk hj]
        · rw [if_neg e, if_neg e, Int.zero_mul])]
    exact sumN_lt _ (by omega)
  have hb := cu_bd hn h1 ha hj
  rw [redP_exact hn h1 (P' := pad a (fun _ => 1)) (fun k _ => (wrap_inR (show inR (pad a (fun _ => (1 : Int)) k) from by unfold pad; split <;> simp [inR])).symm) (by omega) (by rw [e]; unfold inR; omega), e]
theorem powIx_natC {n k : Nat} (h : k < n) : powIx n (k : Int) = k := by
  unfold powIx
  rw [Int.tmod_eq_emod_of_nonneg (by omega), Int.emod_eq_of_lt (a := (k : Int)) (by omega) (by omega), Int.add_emod_right, Int.emod_eq_of_lt (by omega) (by omega)]
  simp

set_option maxRecDepth 100000 in
set_option maxHeartbeats 1000000 in
theorem cu_unit {n i : Nat} (hn : n < 17) (h1 : 1 ≤ n) (hi : i < n) {j : Nat} (hj : j < phiN n) : redP n (unit (powIx n (i : Int))) j = tb n i j := by
  rw [powIx_natC hi]; exact unit_tb hn h1 hi hj
theorem cu_within {n a : Nat} (hn : n < 17) (h1 : 1 ≤ n) (ha : a ≤ n) : Within (cuF n a) (phiN n) 1000000000 := fun j hj => by
  have := cu_bd hn h1 ha hj
  omega
theorem cu_uwithin {n i : Nat} (hn : n < 17) (h1 : 1 ≤ n) (hi : i < n) : Within (redP n (unit (powIx n (i : Int)))) (phiN n) 1000000000 := fun j hj => by
  rw [cu_unit hn h1 hi hj]
  have := tab_one n hn h1 i hi j hj
  omega
theorem cu_step {n i : Nat} (hn : n < 17) (h1 : 1 ≤ n) (hi : i < n) {j : Nat} (hj : j < phiN n) : cuF n i j + 1 * redP n (unit (powIx n (i : Int))) j = cuF n (i + 1) j := by
  rw [cu_unit hn h1 hi hj, Int.one_mul]; rfl
theorem cu_zero (n j : Nat) : cuF n 0 j = 0 := rfl
theorem cu_rwithin {n a : Nat} (hn : n < 17) (h1 : 1 ≤ n) (ha : a ≤ n) : Within (redP n (pad a (fun _ => 1))) (phiN n) 1000000000 := fun j hj => by
  rw [cu_red hn h1 ha hj]
  exact cu_within hn h1 ha j hj
end Go.Proofs.Ytnhpodlcgkgpbaa
