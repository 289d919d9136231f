/- Sums of values of characters as whole numbers. Plain facts, no walk. -/
import Derived.Test.YtopapdahpeemfaaDoorIdx
import Derived.Test.YtopapdahpeemfaaDoorGalZ
namespace Go.Proofs.YtopapdahpeemfaaDoor
set_option linter.unusedVariables false

/-- The exponent of the value at x. -/
def expN (p n k x : Nat) : Nat := k * idxN p x % n
theorem expN_lt {p n k x : Nat} (h : 1 ≤ n) : expN p n k x < n := Nat.mod_lt _ h
/-- How often each power of z comes in the sum of the values at the residues below m, each times its weight. -/
def powZ (p n k : Nat) (W : Nat → Int) : Nat → Nat → Int
  | 0 => fun _ => 0
  | x + 1 => fun i => if x ≠ 0 ∧ i = expN p n k x then powZ p n k W x i + W x else powZ p n k W x i
/-- The Parts of this sum. -/
def sumZ (p n k : Nat) (W : Nat → Int) : Nat → Nat → Int
  | 0 => fun _ => 0
  | x + 1 => fun j => if x = 0 then sumZ p n k W x j else sumZ p n k W x j + W x * tb n (expN p n k x) j

theorem powZ_zero {p n k : Nat} {W : Nat → Int} {i : Nat} : powZ p n k W (0 + 1) i = 0 := by simp [powZ]
theorem sumZ_one {p n k : Nat} {W : Nat → Int} {j : Nat} : sumZ p n k W 1 j = 0 := by simp [sumZ]
theorem sumZ_succ {p n k x : Nat} {W : Nat → Int} {j : Nat} (h : 1 ≤ x) : sumZ p n k W (x + 1) j = sumZ p n k W x j + W x * tb n (expN p n k x) j := by
  simp only [sumZ]
  rw [if_neg (by omega)]
theorem powZ_bd {p n k : Nat} {W : Nat → Int} {B : Int} (hB : 0 ≤ B) : ∀ (x : Nat), (∀ y, y < x → -B ≤ W y ∧ W y ≤ B) → ∀ i, -((x : Int) * B) ≤ powZ p n k W x i ∧ powZ p n k W x i ≤ (x : Int) * B
  | 0, _, i => by simp [powZ]
  | x + 1, h, i => by
    have ih := powZ_bd (p := p) (n := n) (k := k) hB x (fun y hy => h y (by omega)) i
    have h1 := h x (by omega)
    have e : ((x + 1 : Nat) : Int) * B = (x : Int) * B + B := by rw [Int.natCast_add, Int.add_mul]; simp
    have hx : 0 ≤ (x : Int) * B := Int.mul_nonneg (by omega) hB
    rw [e]
    simp only [powZ]
    split <;> omega
theorem sumZ_bd {p n k : Nat} {W : Nat → Int} {B : Int} (hn : n < 17) (hn1 : 1 ≤ n) (hB : 0 ≤ B) {j : Nat} (hj : j < phiN n) : ∀ (x : Nat), (∀ y, y < x → -B ≤ W y ∧ W y ≤ B) → -((x : Int) * B) ≤ sumZ p n k W x j ∧ sumZ p n k W x j ≤ (x : Int) * B
  | 0, _ => by simp [sumZ]
  | x + 1, h => by
    have ih := sumZ_bd (p := p) (k := k) hn hn1 hB hj x (fun y hy => h y (by omega))
    have h1 := h x (by omega)
    have h2 := tab_one n hn hn1 (expN p n k x) (expN_lt hn1) j hj
    have h3 := one_bd hB h1.1 h1.2 h2.1 h2.2
    have e : ((x + 1 : Nat) : Int) * B = (x : Int) * B + B := by rw [Int.natCast_add, Int.add_mul]; simp
    have hx : 0 ≤ (x : Int) * B := Int.mul_nonneg (by omega) hB
    rw [e]
    simp only [sumZ]
    split <;> omega
theorem pow_sum {p n k : Nat} {W : Nat → Int} (hn : n < 17) (hn1 : 1 ≤ n) {j : Nat} (hj : j < phiN n) : ∀ x, redZ n (powZ p n k W x) j = sumZ p n k W x j
  | 0 => redZ_zero n j
  | x + 1 => by
    have hp := phi_le12 n (by omega) hn1
    have ih := pow_sum (p := p) (k := k) (W := W) hn hn1 hj x
    by_cases h0 : x = 0
    · subst h0
      have e : powZ p n k W (0 + 1) = fun _ => 0 := funext fun i => powZ_zero
      rw [e, redZ_zero]
      exact sumZ_one.symm
    · have e : powZ p n k W (x + 1) = fun i => 1 * powZ p n k W x i + W x * unit (expN p n k x) i := funext fun i => by
        simp only [powZ, unit]
        by_cases hi : i = expN p n k x
        · rw [if_pos ⟨h0, hi⟩, if_pos hi]; omega
        · rw [if_neg (fun h => hi h.2), if_neg hi]; omega
      rw [e, redZ_lin, ih, sumZ_succ (by omega), tb_eq hn hn1 (by have := expN_lt (p := p) (k := k) (x := x) hn1; omega) hj]
      omega
/-- A power of z, told by its Parts. -/
theorem unit_tb {n k : Nat} (hn : n < 17) (h1 : 1 ≤ n) (hk : k < n) {j : Nat} (hj : j < phiN n) : redP n (unit k) j = tb n k j := by
  have hp := phi_le12 n (by omega) h1
  have h2 := tab_one n hn h1 k hk j hj
  rw [redP_exact hn h1 (P' := unit k) (fun i _ => (wrap_inR (by unfold unit inR; split <;> omega)).symm) (by omega) (by rw [tb_eq hn h1 (by omega) hj]; unfold inR; omega), tb_eq hn h1 (by omega) hj]
/-- What the program makes of the sum. -/
theorem pow_red {p n k x : Nat} {W : Nat → Int} {P : Nat → Int} {B : Int} (hn : n < 17) (hn1 : 1 ≤ n) (hB : 0 ≤ B) (hB' : B ≤ 1000000) (hx : x ≤ 61) (hW : ∀ y, y < x → -B ≤ W y ∧ W y ≤ B) (hP : ∀ i, i < 24 → P i = powZ p n k W x i) {j : Nat} (hj : j < phiN n) : redP n P j = sumZ p n k W x j := by
  have hp := phi_le12 n (by omega) hn1
  have hb := sumZ_bd (p := p) (k := k) hn hn1 hB hj x hW
  have hm : (x : Int) * B ≤ 61 * 1000000 := Int.mul_le_mul (by omega) hB' hB (by omega)
  rw [redP_exact hn hn1 (P' := powZ p n k W x) (fun i hi => ?_) (by omega) (by rw [pow_sum hn hn1 hj]; unfold inR; omega), pow_sum hn hn1 hj]
  have h3 := powZ_bd (p := p) (n := n) (k := k) hB x hW i
  rw [hP i hi, wrap_inR (by unfold inR; omega)]
theorem sum_within {p n k x : Nat} {W : Nat → Int} {B : Int} (hn : n < 17) (hn1 : 1 ≤ n) (hB : 0 ≤ B) (hB' : B ≤ 1000000) (hx : x ≤ 61) (hW : ∀ y, y < x → -B ≤ W y ∧ W y ≤ B) {j : Nat} (hj : j < phiN n) : -61000000 ≤ sumZ p n k W x j ∧ sumZ p n k W x j ≤ 61000000 := by
  have hb := sumZ_bd (p := p) (k := k) hn hn1 hB hj x hW
  have hm : (x : Int) * B ≤ 61 * 1000000 := Int.mul_le_mul (by omega) hB' hB (by omega)
  omega
theorem sumZ_congr {p n k : Nat} {W W' : Nat → Int} {j : Nat} : ∀ x, (∀ y, 1 ≤ y → y < x → W y = W' y) → sumZ p n k W x j = sumZ p n k W' x j
  | 0, _ => rfl
  | x + 1, h => by
    simp only [sumZ]
    rw [sumZ_congr x (fun y h1 hy => h y h1 (by omega))]
    by_cases h0 : x = 0
    · rw [if_pos h0, if_pos h0]
    · rw [if_neg h0, if_neg h0, h x (by omega) (by omega)]

/-! The value of c at x times the conjugate of that of d. -/
/-- The conjugate of a power of z. -/
theorem bar_tb {n b : Nat} {f : Nat → Int} (hn : n < 17) (h1 : 1 ≤ n) (hb : b < n) (hf : ∀ j, j < phiN n → f j = tb n b j) {j : Nat} (hj : j < phiN n) : imgP n (n - 1) (phiN n) f j = tb n (b * (n - 1) % n) j := by
  have hp := phi_le12 n (by omega) h1
  rw [imgP_gal hn h1 (fun i hi => by have := tab_one n hn h1 b hb i hi; rw [hf i hi]; omega) hp hj]
  unfold galZ
  rw [← tab_gal n hn h1 (n - 1) (by omega) (by
    rcases Nat.lt_or_ge n 2 with h | h
    · have : n = 1 := by omega
      subst this; rfl
    · have : Nat.gcd (n - 1) n = Nat.gcd (n - 1) 1 := by
        conv => lhs; rw [show n = 1 + (n - 1) by omega]
        simp
      rw [this, Nat.gcd_one_right]) b hb j hj]
  exact sumN_congr (fun i hi => by rw [hf i hi])
theorem orth_exp {n k k' i : Nat} (h1 : 1 ≤ n) (hk' : k' < n) : (k * i % n + k' * i % n * (n - 1) % n) % n = (k + (n - k') % n) % n * i % n := by
  have e1 : (k * i % n + k' * i % n * (n - 1) % n) % n = (k * i + k' * i * (n - 1)) % n := by
    rw [← Nat.add_mod, Nat.add_mod, Nat.mul_mod (k' * i % n), Nat.mod_mod, ← Nat.mul_mod, ← Nat.add_mod]
  have e2 : (k + (n - k') % n) % n * i % n = (k + (n - k')) * i % n := by
    rw [Nat.mul_mod, Nat.mod_mod, Nat.add_mod, Nat.mod_mod, ← Nat.add_mod, ← Nat.mul_mod]
  rw [e1, e2, Nat.add_mul]
  have e3 : k' * i * (n - 1) + k' * i = k' * i * n := by
    conv => rhs; rw [show n = (n - 1) + 1 by omega]
    rw [Nat.mul_add, Nat.mul_one]
  have e4 : (n - k') * i + k' * i = n * i := by rw [← Nat.add_mul]; congr 1; omega
  have e5 : k' * i * (n - 1) + n * i = (n - k') * i + n * (k' * i) := by
    have : k' * i * n = n * (k' * i) := Nat.mul_comm _ _
    omega
  have e6 : (k * i + k' * i * (n - 1)) % n = (k * i + k' * i * (n - 1) + n * i) % n := by simp
  rw [e6, show k * i + k' * i * (n - 1) + n * i = k * i + (n - k') * i + n * (k' * i) by omega]
  simp
theorem orth_tb {n a b : Nat} {f g : Nat → Int} (hn : n < 17) (h1 : 1 ≤ n) (ha : a < n) (hb : b < n) (hf : ∀ j, j < phiN n → f j = tb n a j) (hg : ∀ j, j < phiN n → g j = tb n b j) {j : Nat} (hj : j < phiN n) : prodZ n (phiN n) f g j = tb n ((a + b) % n) j := by
  rw [prodZ_tab hn h1 (Nat.le_refl _) f g hj, ← tab_prod hn h1 ha hb hj]
  exact sumN_congr (fun p hp => sumN_congr (fun q hq => by rw [hf p hp, hg q hq]))
end Go.Proofs.YtopapdahpeemfaaDoor
