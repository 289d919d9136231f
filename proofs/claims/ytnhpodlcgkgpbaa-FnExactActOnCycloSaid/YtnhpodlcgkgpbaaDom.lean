/- Numbers of an order n in 1..16 other than 0 have products other than 0: descent at a prime number with one prime above it. Plain facts, no walk. -/
import Derived.Test.YtnhpodlcgkgpbaaAlg2
namespace Go.Proofs.Ytnhpodlcgkgpbaa
set_option linter.unusedVariables false
set_option linter.unusedSimpArgs false

/-- The prime number of the descent, and how often its prime is in it. -/
def dP : Nat → Nat
  | 1 => 2
  | 2 => 2
  | 3 => 3
  | 4 => 2
  | 5 => 5
  | 6 => 3
  | 7 => 7
  | 8 => 2
  | 9 => 3
  | 10 => 5
  | 11 => 11
  | 12 => 2
  | 13 => 13
  | 14 => 7
  | 15 => 5
  | 16 => 2
  | _ => 2
def dE : Nat → Nat
  | 1 => 1
  | 2 => 1
  | 3 => 2
  | 4 => 2
  | 5 => 4
  | 6 => 2
  | 7 => 6
  | 8 => 4
  | 9 => 6
  | 10 => 4
  | 11 => 10
  | 12 => 2
  | 13 => 12
  | 14 => 6
  | 15 => 4
  | 16 => 8
  | _ => 1
/-- The powers of z in the field of the prime: a + b w, w w + w + 1 = 0. -/
def dAL : Nat → List Int
  | 1 => [1]
  | 2 => [1]
  | 3 => [1, 1]
  | 4 => [1, 1]
  | 5 => [1, 1, 1, 1]
  | 6 => [1, -1]
  | 7 => [1, 1, 1, 1, 1, 1]
  | 8 => [1, 1, 1, 1]
  | 9 => [1, 1, 1, 1, 1, 1]
  | 10 => [1, -1, 1, -1]
  | 11 => [1, 1, 1, 1, 1, 1, 1, 1, 1, 1]
  | 12 => [1, 0, -1, 1]
  | 13 => [1, 1, 1, 1, 1, 1, 1, 1, 1, 1, 1, 1]
  | 14 => [1, -1, 1, -1, 1, -1]
  | 15 => [1, 0, -1, 1, 0, -1, 1, 0]
  | 16 => [1, 1, 1, 1, 1, 1, 1, 1]
  | _ => []
def dBL : Nat → List Int
  | 1 => [0]
  | 2 => [0]
  | 3 => [0, 0]
  | 4 => [0, 0]
  | 5 => [0, 0, 0, 0]
  | 6 => [0, 0]
  | 7 => [0, 0, 0, 0, 0, 0]
  | 8 => [0, 0, 0, 0]
  | 9 => [0, 0, 0, 0, 0, 0]
  | 10 => [0, 0, 0, 0]
  | 11 => [0, 0, 0, 0, 0, 0, 0, 0, 0, 0]
  | 12 => [0, 1, -1, 0]
  | 13 => [0, 0, 0, 0, 0, 0, 0, 0, 0, 0, 0, 0]
  | 14 => [0, 0, 0, 0, 0, 0]
  | 15 => [0, 1, -1, 0, 1, -1, 0, 1]
  | 16 => [0, 0, 0, 0, 0, 0, 0, 0]
  | _ => []
/-- The prime, and what it wants to the prime number. -/
def dPiL : Nat → List Int
  | 1 => [2]
  | 2 => [2]
  | 3 => [1, -1]
  | 4 => [1, -1]
  | 5 => [1, -1, 0, 0]
  | 6 => [1, 1]
  | 7 => [1, -1, 0, 0, 0, 0]
  | 8 => [1, -1, 0, 0]
  | 9 => [1, -1, 0, 0, 0, 0]
  | 10 => [1, 1, 0, 0]
  | 11 => [1, -1, 0, 0, 0, 0, 0, 0, 0, 0]
  | 12 => [1, 0, 0, -1]
  | 13 => [1, -1, 0, 0, 0, 0, 0, 0, 0, 0, 0, 0]
  | 14 => [1, 1, 0, 0, 0, 0]
  | 15 => [1, 0, 0, -1, 0, 0, 0, 0]
  | 16 => [1, -1, 0, 0, 0, 0, 0, 0]
  | _ => []
def dCoL : Nat → List Int
  | 1 => [1]
  | 2 => [1]
  | 3 => [2, 1]
  | 4 => [1, 1]
  | 5 => [4, 3, 2, 1]
  | 6 => [2, -1]
  | 7 => [6, 5, 4, 3, 2, 1]
  | 8 => [1, 1, 1, 1]
  | 9 => [2, 2, 2, 1, 1, 1]
  | 10 => [4, -3, 2, -1]
  | 11 => [10, 9, 8, 7, 6, 5, 4, 3, 2, 1]
  | 12 => [1, 0, 0, 1]
  | 13 => [12, 11, 10, 9, 8, 7, 6, 5, 4, 3, 2, 1]
  | 14 => [6, -5, 4, -3, 2, -1]
  | 15 => [3, 0, 1, 2, 0, 0, 1, 1]
  | 16 => [1, 1, 1, 1, 1, 1, 1, 1]
  | _ => []
def dUL : Nat → List Int
  | 1 => [1]
  | 2 => [1]
  | 3 => [2, 1]
  | 4 => [1, 1]
  | 5 => [4, 3, 2, 1]
  | 6 => [2, 2]
  | 7 => [6, 5, 4, 3, 2, 1]
  | 8 => [1, 1, 1, 1]
  | 9 => [2, 2, 2, 1, 1, 1]
  | 10 => [4, 2, 2, 4]
  | 11 => [10, 9, 8, 7, 6, 5, 4, 3, 2, 1]
  | 12 => [1, 0, 0, 1]
  | 13 => [12, 11, 10, 9, 8, 7, 6, 5, 4, 3, 2, 1]
  | 14 => [6, 2, 4, 4, 2, 6]
  | 15 => [3, 0, 1, 2, 0, 0, 1, 1]
  | 16 => [1, 1, 1, 1, 1, 1, 1, 1]
  | _ => []
def dVL : Nat → List Int
  | 1 => [0]
  | 2 => [0]
  | 3 => [0, 0]
  | 4 => [0, 0]
  | 5 => [0, 0, 0, 0]
  | 6 => [0, 0]
  | 7 => [0, 0, 0, 0, 0, 0]
  | 8 => [0, 0, 0, 0]
  | 9 => [0, 0, 0, 0, 0, 0]
  | 10 => [0, 0, 0, 0]
  | 11 => [0, 0, 0, 0, 0, 0, 0, 0, 0, 0]
  | 12 => [1, 1, 1, 0]
  | 13 => [0, 0, 0, 0, 0, 0, 0, 0, 0, 0, 0, 0]
  | 14 => [0, 0, 0, 0, 0, 0]
  | 15 => [4, 4, 0, 0, 3, 4, 0, 2]
  | 16 => [0, 0, 0, 0, 0, 0, 0, 0]
  | _ => []
/-- The powers of the prime. -/
def dPwL : Nat → List (List Int)
  | 1 => [[1], [2]]
  | 2 => [[1], [2]]
  | 3 => [[1, 0], [1, -1], [0, -3]]
  | 4 => [[1, 0], [1, -1], [0, -2]]
  | 5 => [[1, 0, 0, 0], [1, -1, 0, 0], [1, -2, 1, 0], [1, -3, 3, -1], [0, -5, 5, -5]]
  | 6 => [[1, 0], [1, 1], [0, 3]]
  | 7 => [[1, 0, 0, 0, 0, 0], [1, -1, 0, 0, 0, 0], [1, -2, 1, 0, 0, 0], [1, -3, 3, -1, 0, 0], [1, -4, 6, -4, 1, 0], [1, -5, 10, -10, 5, -1], [0, -7, 14, -21, 14, -7]]
  | 8 => [[1, 0, 0, 0], [1, -1, 0, 0], [1, -2, 1, 0], [1, -3, 3, -1], [0, -4, 6, -4]]
  | 9 => [[1, 0, 0, 0, 0, 0], [1, -1, 0, 0, 0, 0], [1, -2, 1, 0, 0, 0], [1, -3, 3, -1, 0, 0], [1, -4, 6, -4, 1, 0], [1, -5, 10, -10, 5, -1], [0, -6, 15, -21, 15, -6]]
  | 10 => [[1, 0, 0, 0], [1, 1, 0, 0], [1, 2, 1, 0], [1, 3, 3, 1], [0, 5, 5, 5]]
  | 11 => [[1, 0, 0, 0, 0, 0, 0, 0, 0, 0], [1, -1, 0, 0, 0, 0, 0, 0, 0, 0], [1, -2, 1, 0, 0, 0, 0, 0, 0, 0], [1, -3, 3, -1, 0, 0, 0, 0, 0, 0], [1, -4, 6, -4, 1, 0, 0, 0, 0, 0], [1, -5, 10, -10, 5, -1, 0, 0, 0, 0], [1, -6, 15, -20, 15, -6, 1, 0, 0, 0], [1, -7, 21, -35, 35, -21, 7, -1, 0, 0], [1, -8, 28, -56, 70, -56, 28, -8, 1, 0], [1, -9, 36, -84, 126, -126, 84, -36, 9, -1], [0, -11, 44, -121, 209, -253, 209, -121, 44, -11]]
  | 12 => [[1, 0, 0, 0], [1, 0, 0, -1], [0, 0, 0, -2]]
  | 13 => [[1, 0, 0, 0, 0, 0, 0, 0, 0, 0, 0, 0], [1, -1, 0, 0, 0, 0, 0, 0, 0, 0, 0, 0], [1, -2, 1, 0, 0, 0, 0, 0, 0, 0, 0, 0], [1, -3, 3, -1, 0, 0, 0, 0, 0, 0, 0, 0], [1, -4, 6, -4, 1, 0, 0, 0, 0, 0, 0, 0], [1, -5, 10, -10, 5, -1, 0, 0, 0, 0, 0, 0], [1, -6, 15, -20, 15, -6, 1, 0, 0, 0, 0, 0], [1, -7, 21, -35, 35, -21, 7, -1, 0, 0, 0, 0], [1, -8, 28, -56, 70, -56, 28, -8, 1, 0, 0, 0], [1, -9, 36, -84, 126, -126, 84, -36, 9, -1, 0, 0], [1, -10, 45, -120, 210, -252, 210, -120, 45, -10, 1, 0], [1, -11, 55, -165, 330, -462, 462, -330, 165, -55, 11, -1], [0, -13, 65, -221, 494, -793, 923, -793, 494, -221, 65, -13]]
  | 14 => [[1, 0, 0, 0, 0, 0], [1, 1, 0, 0, 0, 0], [1, 2, 1, 0, 0, 0], [1, 3, 3, 1, 0, 0], [1, 4, 6, 4, 1, 0], [1, 5, 10, 10, 5, 1], [0, 7, 14, 21, 14, 7]]
  | 15 => [[1, 0, 0, 0, 0, 0, 0, 0], [1, 0, 0, -1, 0, 0, 0, 0], [1, 0, 0, -2, 0, 0, 1, 0], [2, 0, -1, -2, 0, 0, 4, -1], [5, 0, -5, 0, 0, 0, 10, -5]]
  | 16 => [[1, 0, 0, 0, 0, 0, 0, 0], [1, -1, 0, 0, 0, 0, 0, 0], [1, -2, 1, 0, 0, 0, 0, 0], [1, -3, 3, -1, 0, 0, 0, 0], [1, -4, 6, -4, 1, 0, 0, 0], [1, -5, 10, -10, 5, -1, 0, 0], [1, -6, 15, -20, 15, -6, 1, 0], [1, -7, 21, -35, 35, -21, 7, -1], [0, -8, 28, -56, 70, -56, 28, -8]]
  | _ => []
def lf (l : List Int) : Nat → Int := fun j => l.getD j 0
def dQ (n : Nat) : Nat := if n = 12 ∨ n = 15 then dP n else 1
/-- The product, told by the table. -/
def pT (n : Nat) (f g : Nat → Int) (j : Nat) : Int := sumN (phiN n) (fun p => sumN (phiN n) (fun q => f p * g q * tb n ((p + q) % n) j))
def one0 : Nat → Int := fun j => if j = 0 then 1 else 0
def dPw (n k : Nat) : Nat → Int := lf ((dPwL n).getD k [])

theorem ck_p : ∀ n, n < 17 → 1 ≤ n → 2 ≤ dP n ∧ dP n < 14 := by decide +kernel
theorem ck_co : ∀ n, n < 17 → 1 ≤ n → ∀ j, j < phiN n → pT n (lf (dPiL n)) (lf (dCoL n)) j = (dP n : Int) * one0 j := by decide +kernel
theorem ck_uv : ∀ n, n < 17 → 1 ≤ n → ∀ i, i < phiN n → ∀ j, j < phiN n → (sumN (phiN n) (fun q => lf (dCoL n) q * tb n ((i + q) % n) j) - (lf (dAL n) i * lf (dUL n) j + lf (dBL n) i * lf (dVL n) j)) % (dP n : Int) = 0 := by decide +kernel
theorem ck_pw0 : ∀ n, n < 17 → 1 ≤ n → ∀ j, j < phiN n → dPw n 0 j = one0 j := by decide +kernel
theorem ck_pw : ∀ n, n < 17 → 1 ≤ n → ∀ k, k < dE n → ∀ j, j < phiN n → pT n (dPw n k) (lf (dPiL n)) j = dPw n (k + 1) j := by decide +kernel
theorem ck_pwe : ∀ n, n < 17 → 1 ≤ n → ∀ j, j < phiN n → dPw n (dE n) j % (dP n : Int) = 0 := by decide +kernel
theorem ck_mulA : ∀ n, n < 17 → 1 ≤ n → ∀ i, i < phiN n → ∀ k, k < phiN n → (sumN (phiN n) (fun l => tb n ((i + k) % n) l * lf (dAL n) l) - (lf (dAL n) i * lf (dAL n) k - lf (dBL n) i * lf (dBL n) k)) % (dP n : Int) = 0 := by decide +kernel
theorem ck_mulB : ∀ n, n < 17 → 1 ≤ n → ∀ i, i < phiN n → ∀ k, k < phiN n → (sumN (phiN n) (fun l => tb n ((i + k) % n) l * lf (dBL n) l) - (lf (dAL n) i * lf (dBL n) k + lf (dBL n) i * lf (dAL n) k - lf (dBL n) i * lf (dBL n) k)) % (dP n : Int) = 0 := by decide +kernel
theorem ck_B0 : ∀ n, n < 17 → 1 ≤ n → dQ n = dP n ∨ (dQ n = 1 ∧ ∀ i, i < phiN n → lf (dBL n) i = 0) := by decide +kernel
def fldChk (n a b : Nat) : Bool := (List.range (dP n)).all fun c => (List.range (dQ n)).all fun d => !(decide (((a : Int) * c - (b : Int) * d) % (dP n : Int) = 0) && decide (((a : Int) * d + (b : Int) * c - (b : Int) * d) % (dP n : Int) = 0)) || (decide (a = 0 ∧ b = 0) || decide (c = 0 ∧ d = 0))
theorem ck_fld0 : ∀ n, n < 17 → 1 ≤ n → ∀ a, a < dP n → ∀ b, b < dQ n → fldChk n a b = true := by decide +kernel
theorem ck_fld (n : Nat) (hn : n < 17) (h1 : 1 ≤ n) (a : Nat) (ha : a < dP n) (b : Nat) (hb : b < dQ n) (c : Nat) (hc : c < dP n) (d : Nat) (hd : d < dQ n) (hX : ((a : Int) * c - (b : Int) * d) % (dP n : Int) = 0) (hY : ((a : Int) * d + (b : Int) * c - (b : Int) * d) % (dP n : Int) = 0) : (a = 0 ∧ b = 0) ∨ (c = 0 ∧ d = 0) := by
  have h := ck_fld0 n hn h1 a ha b hb
  unfold fldChk at h
  rw [List.all_eq_true] at h
  have h2 := h c (List.mem_range.2 hc)
  rw [List.all_eq_true] at h2
  have h3 := h2 d (List.mem_range.2 hd)
  rw [decide_eq_true hX, decide_eq_true hY] at h3
  simpa using h3

theorem dvd_sumN {d : Int} {F : Nat → Int} : ∀ m, (∀ i, i < m → d ∣ F i) → d ∣ sumN m F
  | 0, _ => ⟨0, by simp [sumN]⟩
  | m + 1, h => Int.dvd_add (dvd_sumN m (fun i hi => h i (by omega))) (h m (by omega))
theorem sumN_sub (F G : Nat → Int) : ∀ m, sumN m (fun i => F i - G i) = sumN m F - sumN m G
  | 0 => rfl
  | m + 1 => by show sumN m (fun i => F i - G i) + (F m - G m) = (sumN m F + F m) - (sumN m G + G m); rw [sumN_sub F G m]; omega
theorem sumN_prod (F G : Nat → Int) (m : Nat) : sumN m F * sumN m G = sumN m (fun p => sumN m (fun q => F p * G q)) := by
  rw [← sumN_mulr]
  exact sumN_congr (fun p _ => by rw [← sumN_mul])

section
variable {n : Nat}
theorem pz_congr {f f' g g' : Nat → Int} (hf : ∀ j, j < phiN n → f j = f' j) (hg : ∀ j, j < phiN n → g j = g' j) : prodZ n (phiN n) f g = prodZ n (phiN n) f' g' := by
  unfold prodZ; rw [convZ_congr hf hg _ (Nat.le_refl _)]
theorem pz_T (hn : n < 17) (h1 : 1 ≤ n) (f g h : Nat → Int) {j : Nat} (hj : j < phiN n) :
    prodZ n (phiN n) (prodZ n (phiN n) f g) h j = sumN (phiN n) (fun r => sumN (phiN n) (fun p => sumN (phiN n) (fun q => f p * g q * h r * tb n ((p + q + r) % n) j))) := by
  rw [prodZ_tab hn h1 (Nat.le_refl _) _ _ hj, sumN_swap]
  refine sumN_congr (fun r hr => ?_)
  have e : ∀ k, k < phiN n → prodZ n (phiN n) f g k * h r * tb n ((k + r) % n) j = sumN (phiN n) (fun p => sumN (phiN n) (fun q => f p * g q * h r * (tb n ((p + q) % n) k * tb n ((k + r) % n) j))) := fun k hk => by
    rw [prodZ_tab hn h1 (Nat.le_refl _) f g hk, Int.mul_assoc, ← sumN_mulr]
    refine sumN_congr (fun p _ => ?_)
    rw [← sumN_mulr]
    refine sumN_congr (fun q _ => ?_)
    rw [Int.mul_assoc (f p * g q), Int.mul_assoc (f p * g q)]
    congr 1
    rw [Int.mul_left_comm]
  rw [sumN_congr e, sumN_swap]
  refine sumN_congr (fun p hp => ?_)
  rw [sumN_swap]
  refine sumN_congr (fun q hq => ?_)
  rw [sumN_mul, tab_shift hn h1 (Nat.mod_lt _ h1) r j hj, Nat.mod_add_mod]
theorem pz_assoc (hn : n < 17) (h1 : 1 ≤ n) (f g h : Nat → Int) {j : Nat} (hj : j < phiN n) :
    prodZ n (phiN n) (prodZ n (phiN n) f g) h j = prodZ n (phiN n) f (prodZ n (phiN n) g h) j := by
  rw [prodZ_comm n (phiN n) f (prodZ n (phiN n) g h), pz_T hn h1 f g h hj, pz_T hn h1 g h f hj, sumN_swap]
  refine sumN_congr (fun p _ => ?_)
  rw [sumN_swap]
  refine sumN_congr (fun q _ => sumN_congr (fun r _ => ?_))
  rw [show p + q + r = q + r + p by omega]
  congr 1
  rw [Int.mul_assoc, Int.mul_comm]
theorem pz_smul (f g : Nat → Int) (a : Int) (j : Nat) : prodZ n (phiN n) f (fun i => a * g i) j = a * prodZ n (phiN n) f g j := by
  have h := prodZ_lin n (phiN n) f g g a 0 j
  simpa using h
theorem pz_smull (f g : Nat → Int) (a : Int) (j : Nat) : prodZ n (phiN n) (fun i => a * f i) g j = a * prodZ n (phiN n) f g j := by
  rw [prodZ_comm, pz_smul, prodZ_comm]
theorem pz_zero (f : Nat → Int) (j : Nat) : prodZ n (phiN n) f (fun _ => 0) j = 0 := by
  have h := pz_smul (n := n) f (fun _ => 0) 0 j
  simpa using h
theorem phi_pos : ∀ n, n < 17 → 1 ≤ n → 0 < phiN n := by decide +kernel
theorem pz_one (hn : n < 17) (h1 : 1 ≤ n) (f : Nat → Int) {j : Nat} (hj : j < phiN n) : prodZ n (phiN n) f one0 j = f j := by
  rw [prodZ_tab hn h1 (Nat.le_refl _) _ _ hj]
  have hle := phi_le_n (n := n)
  have e : ∀ p, p < phiN n → sumN (phiN n) (fun q => f p * one0 q * tb n ((p + q) % n) j) = if p = j then f p else 0 := fun p hp => by
    have e2 : ∀ q, q < phiN n → f p * one0 q * tb n ((p + q) % n) j = if q = 0 then f p * tb n ((p + q) % n) j else 0 := fun q _ => by
      unfold one0
      by_cases h0 : q = 0
      · rw [if_pos h0, if_pos h0, Int.mul_one]
      · rw [if_neg h0, if_neg h0, Int.mul_zero, Int.zero_mul]
    rw [sumN_congr e2, sumN_ite (fun q => f p * tb n ((p + q) % n) j), if_pos (phi_pos n hn h1), Nat.add_zero, Nat.mod_eq_of_lt (by omega), tab_unit n hn h1 p hp j hj]
    by_cases h0 : p = j
    · rw [if_pos h0, if_pos h0, Int.mul_one]
    · rw [if_neg h0, if_neg h0, Int.mul_zero]
  rw [sumN_congr e, sumN_ite (fun p => f p), if_pos hj]

/-- The values in the field of the prime. -/
def rA (n : Nat) (f : Nat → Int) : Int := sumN (phiN n) (fun i => f i * lf (dAL n) i)
def rB (n : Nat) (f : Nat → Int) : Int := sumN (phiN n) (fun i => f i * lf (dBL n) i)
/-- The number is in the prime. -/
def inPr (n : Nat) (f : Nat → Int) : Prop := (dP n : Int) ∣ rA n f ∧ (dP n : Int) ∣ rB n f
theorem rho_gen (hn : n < 17) (h1 : 1 ≤ n) (f g : Nat → Int) (C : Nat → Int) (D : Nat → Nat → Int)
    (hC : ∀ i, i < phiN n → ∀ k, k < phiN n → (sumN (phiN n) (fun l => tb n ((i + k) % n) l * C l) - D i k) % (dP n : Int) = 0) :
    (dP n : Int) ∣ sumN (phiN n) (fun k => prodZ n (phiN n) f g k * C k) - sumN (phiN n) (fun p => sumN (phiN n) (fun q => f p * g q * D p q)) := by
  have e : sumN (phiN n) (fun k => prodZ n (phiN n) f g k * C k) = sumN (phiN n) (fun p => sumN (phiN n) (fun q => f p * g q * sumN (phiN n) (fun l => tb n ((p + q) % n) l * C l))) := by
    have e1 : ∀ k, k < phiN n → prodZ n (phiN n) f g k * C k = sumN (phiN n) (fun p => sumN (phiN n) (fun q => f p * g q * (tb n ((p + q) % n) k * C k))) := fun k hk => by
      rw [prodZ_tab hn h1 (Nat.le_refl _) f g hk, ← sumN_mulr]
      refine sumN_congr (fun p _ => ?_)
      rw [← sumN_mulr]
      exact sumN_congr (fun q _ => by rw [Int.mul_assoc])
    rw [sumN_congr e1, sumN_swap]
    refine sumN_congr (fun p _ => ?_)
    rw [sumN_swap]
    exact sumN_congr (fun q _ => by rw [sumN_mul])
  rw [e, ← sumN_sub]
  refine dvd_sumN _ (fun p hp => ?_)
  rw [← sumN_sub]
  refine dvd_sumN _ (fun q hq => ?_)
  rw [← Int.mul_sub]
  exact Int.dvd_trans (Int.dvd_of_emod_eq_zero (hC p hp q hq)) (Int.dvd_mul_left _ _)
theorem rA_mul (hn : n < 17) (h1 : 1 ≤ n) (f g : Nat → Int) : (dP n : Int) ∣ rA n (prodZ n (phiN n) f g) - (rA n f * rA n g - rB n f * rB n g) := by
  have h := rho_gen hn h1 f g (lf (dAL n)) _ (ck_mulA n hn h1)
  have e : rA n f * rA n g - rB n f * rB n g = sumN (phiN n) (fun p => sumN (phiN n) (fun q => f p * g q * (lf (dAL n) p * lf (dAL n) q - lf (dBL n) p * lf (dBL n) q))) := by
    unfold rA rB
    rw [sumN_prod, sumN_prod, ← sumN_sub]
    refine sumN_congr (fun p _ => ?_)
    rw [← sumN_sub]
    refine sumN_congr (fun q _ => ?_)
    rw [Int.mul_sub]
    congr 1 <;> simp only [Int.mul_assoc, Int.mul_left_comm, Int.mul_comm]
  rw [e]; exact h
theorem rB_mul (hn : n < 17) (h1 : 1 ≤ n) (f g : Nat → Int) : (dP n : Int) ∣ rB n (prodZ n (phiN n) f g) - (rA n f * rB n g + rB n f * rA n g - rB n f * rB n g) := by
  have h := rho_gen hn h1 f g (lf (dBL n)) _ (ck_mulB n hn h1)
  have e : rA n f * rB n g + rB n f * rA n g - rB n f * rB n g = sumN (phiN n) (fun p => sumN (phiN n) (fun q => f p * g q * (lf (dAL n) p * lf (dBL n) q + lf (dBL n) p * lf (dAL n) q - lf (dBL n) p * lf (dBL n) q))) := by
    unfold rA rB
    rw [sumN_prod, sumN_prod, sumN_prod, ← sumN_add, ← sumN_sub]
    refine sumN_congr (fun p _ => ?_)
    rw [← sumN_add, ← sumN_sub]
    refine sumN_congr (fun q _ => ?_)
    rw [Int.mul_sub, Int.mul_add]
    congr 1
    · congr 1 <;> simp only [Int.mul_assoc, Int.mul_left_comm, Int.mul_comm]
    · simp only [Int.mul_assoc, Int.mul_left_comm, Int.mul_comm]
  rw [e]; exact h
theorem mod_of {p : Nat} (hp : 0 < p) (x : Int) : ∃ a : Nat, a < p ∧ (p : Int) ∣ x - (a : Int) := by
  refine ⟨(x % (p : Int)).toNat, ?_, ?_⟩
  · have := Int.emod_lt_of_pos x (show (0 : Int) < p by omega)
    have := Int.emod_nonneg x (show (p : Int) ≠ 0 by omega)
    omega
  · have h := Int.emod_nonneg x (show (p : Int) ≠ 0 by omega)
    rw [Int.toNat_of_nonneg h]
    exact Int.dvd_self_sub_of_emod_eq rfl
theorem dvd_iff {p : Nat} {x : Int} {a : Nat} (h : (p : Int) ∣ x - (a : Int)) (ha : a = 0) : (p : Int) ∣ x := by subst ha; simpa using h
theorem dvd_swap {p x y : Int} (h : p ∣ x - y) (hy : p ∣ x) : p ∣ y := by
  have := Int.dvd_sub hy h
  rwa [show x - (x - y) = y by omega] at this
theorem dvd_mm {p x y a b : Int} (h : p ∣ x - a) (h' : p ∣ y - b) : p ∣ x * y - a * b := by
  have e : x * y - a * b = (x - a) * y + a * (y - b) := by rw [Int.sub_mul, Int.mul_sub]; omega
  rw [e]
  exact Int.dvd_add (Int.dvd_trans h (Int.dvd_mul_right _ _)) (Int.dvd_trans h' (Int.dvd_mul_left _ _))
/-- The prime is prime. -/
theorem pr_prime (hn : n < 17) (h1 : 1 ≤ n) (f g : Nat → Int) (h : inPr n (prodZ n (phiN n) f g)) : inPr n f ∨ inPr n g := by
  have hp := ck_p n hn h1
  have key : ∀ f, ∃ a b : Nat, a < dP n ∧ b < dQ n ∧ (dP n : Int) ∣ rA n f - (a : Int) ∧ (dP n : Int) ∣ rB n f - (b : Int) := fun f => by
    obtain ⟨a, ha, ha'⟩ := mod_of (p := dP n) (by omega) (rA n f)
    rcases ck_B0 n hn h1 with hq | ⟨hq, hz⟩
    · obtain ⟨b, hb, hb'⟩ := mod_of (p := dP n) (by omega) (rB n f)
      exact ⟨a, b, ha, by omega, ha', hb'⟩
    · refine ⟨a, 0, ha, by omega, ha', ?_⟩
      have e : rB n f = 0 := by
        unfold rB
        rw [sumN_congr (fun i hi => by rw [hz i hi, Int.mul_zero]), sumN_zero]
      rw [e]
      exact ⟨0, by simp⟩
  obtain ⟨a, b, ha, hb, hA, hB⟩ := key f
  obtain ⟨c, d, hc, hd, hC, hD⟩ := key g
  have m1 := dvd_swap (rA_mul hn h1 f g) h.1
  have m2 := dvd_swap (rB_mul hn h1 f g) h.2
  have k1 : (dP n : Int) ∣ (a : Int) * c - (b : Int) * d := by
    have := Int.dvd_sub (dvd_mm hA hC) (dvd_mm hB hD)
    refine dvd_swap (x := rA n f * rA n g - rB n f * rB n g) ?_ m1
    rwa [show rA n f * rA n g - rB n f * rB n g - ((a : Int) * c - (b : Int) * d) = rA n f * rA n g - (a : Int) * c - (rB n f * rB n g - (b : Int) * d) by omega]
  have k2 : (dP n : Int) ∣ (a : Int) * d + (b : Int) * c - (b : Int) * d := by
    have := Int.dvd_sub (Int.dvd_add (dvd_mm hA hD) (dvd_mm hB hC)) (dvd_mm hB hD)
    refine dvd_swap (x := rA n f * rB n g + rB n f * rA n g - rB n f * rB n g) ?_ m2
    rwa [show rA n f * rB n g + rB n f * rA n g - rB n f * rB n g - ((a : Int) * d + (b : Int) * c - (b : Int) * d) = rA n f * rB n g - (a : Int) * d + (rB n f * rA n g - (b : Int) * c) - (rB n f * rB n g - (b : Int) * d) by omega]
  rcases ck_fld n hn h1 a ha b hb c hc d hd (Int.emod_eq_zero_of_dvd k1) (Int.emod_eq_zero_of_dvd k2) with ⟨e1, e2⟩ | ⟨e1, e2⟩
  · exact .inl ⟨dvd_iff hA e1, dvd_iff hB e2⟩
  · exact .inr ⟨dvd_iff hC e1, dvd_iff hD e2⟩
/-- What is in the prime is a multiple of it. -/
def dvP (n : Nat) (f : Nat → Int) : Nat → Int := fun j => prodZ n (phiN n) f (lf (dCoL n)) j / (dP n : Int)
theorem dvP_eq (hn : n < 17) (h1 : 1 ≤ n) {f : Nat → Int} (h : inPr n f) {j : Nat} (hj : j < phiN n) : (dP n : Int) * dvP n f j = prodZ n (phiN n) f (lf (dCoL n)) j := by
  unfold dvP
  refine Int.mul_ediv_cancel' ?_
  have e : prodZ n (phiN n) f (lf (dCoL n)) j = sumN (phiN n) (fun i => f i * sumN (phiN n) (fun q => lf (dCoL n) q * tb n ((i + q) % n) j)) := by
    rw [prodZ_tab hn h1 (Nat.le_refl _) _ _ hj]
    refine sumN_congr (fun i _ => ?_)
    rw [← sumN_mul]
    exact sumN_congr (fun q _ => by rw [Int.mul_assoc])
  have e2 : sumN (phiN n) (fun i => f i * (lf (dAL n) i * lf (dUL n) j + lf (dBL n) i * lf (dVL n) j)) = rA n f * lf (dUL n) j + rB n f * lf (dVL n) j := by
    unfold rA rB
    rw [← sumN_mulr, ← sumN_mulr, ← sumN_add]
    exact sumN_congr (fun i _ => by rw [Int.mul_add, Int.mul_assoc, Int.mul_assoc])
  have d1 : (dP n : Int) ∣ prodZ n (phiN n) f (lf (dCoL n)) j - (rA n f * lf (dUL n) j + rB n f * lf (dVL n) j) := by
    rw [e, ← e2, ← sumN_sub]
    refine dvd_sumN _ (fun i hi => ?_)
    rw [← Int.mul_sub]
    exact Int.dvd_trans (Int.dvd_of_emod_eq_zero (ck_uv n hn h1 i hi j hj)) (Int.dvd_mul_left _ _)
  have d2 : (dP n : Int) ∣ rA n f * lf (dUL n) j + rB n f * lf (dVL n) j := Int.dvd_add (Int.dvd_trans h.1 (Int.dvd_mul_right _ _)) (Int.dvd_trans h.2 (Int.dvd_mul_right _ _))
  have := Int.dvd_add d1 d2
  rwa [Int.sub_add_cancel] at this
theorem pi_dvP (hn : n < 17) (h1 : 1 ≤ n) {f : Nat → Int} (h : inPr n f) {j : Nat} (hj : j < phiN n) : prodZ n (phiN n) (lf (dPiL n)) (dvP n f) j = f j := by
  have hp := ck_p n hn h1
  have e : (dP n : Int) * prodZ n (phiN n) (lf (dPiL n)) (dvP n f) j = (dP n : Int) * f j := by
    rw [← pz_smul, pz_congr (f' := lf (dPiL n)) (g' := prodZ n (phiN n) f (lf (dCoL n))) (fun _ _ => rfl) (fun i hi => dvP_eq hn h1 h hi)]
    rw [prodZ_comm n (phiN n) f, ← pz_assoc hn h1 _ _ _ hj]
    rw [pz_congr (f' := fun i => (dP n : Int) * one0 i) (g' := f) (fun i hi => by rw [prodZ_tab hn h1 (Nat.le_refl _) _ _ hi]; exact ck_co n hn h1 i hi) (fun _ _ => rfl)]
    rw [pz_smull, prodZ_comm, pz_one hn h1 f hj]
  exact Int.eq_of_mul_eq_mul_left (by omega) e
/-- A number that is no multiple of the prime number leads out of the prime. -/
theorem pr_out (hn : n < 17) (h1 : 1 ≤ n) (f : Nat → Int) (hf : ¬ ∀ j, j < phiN n → (dP n : Int) ∣ f j) :
    ∃ (i : Nat) (c z : Nat → Int), (∀ j, j < phiN n → prodZ n (phiN n) f c j = (dP n : Int) ^ i * z j) ∧ ¬ inPr n z := by
  have step : ∀ k, k ≤ dE n → (∃ (i : Nat) (c z : Nat → Int), (∀ j, j < phiN n → prodZ n (phiN n) f c j = (dP n : Int) ^ i * z j) ∧ ¬ inPr n z) ∨
      (∃ c z : Nat → Int, (∀ j, j < phiN n → prodZ n (phiN n) f c j = (dP n : Int) ^ k * z j) ∧ ∀ j, j < phiN n → prodZ n (phiN n) (dPw n k) z j = f j) := by
    intro k
    induction k with
    | zero =>
      intro _
      refine .inr ⟨one0, f, fun j hj => ?_, fun j hj => ?_⟩
      · rw [pz_one hn h1 f hj]; simp
      · rw [pz_congr (f' := one0) (g' := f) (ck_pw0 n hn h1) (fun _ _ => rfl), prodZ_comm, pz_one hn h1 f hj]
    | succ k ih =>
      intro hk
      rcases ih (by omega) with h | ⟨c, z, hc, hz⟩
      · exact .inl h
      · rcases Classical.em (inPr n z) with hi | hi
        · refine .inr ⟨prodZ n (phiN n) c (lf (dCoL n)), dvP n z, fun j hj => ?_, fun j hj => ?_⟩
          · rw [← pz_assoc hn h1 _ _ _ hj, pz_congr (f' := fun i => (dP n : Int) ^ k * z i) (g' := lf (dCoL n)) hc (fun _ _ => rfl), pz_smull, ← dvP_eq hn h1 hi hj, Int.pow_succ, Int.mul_assoc]
          · rw [pz_congr (f' := prodZ n (phiN n) (dPw n k) (lf (dPiL n))) (g' := dvP n z) (fun i hi' => by rw [prodZ_tab hn h1 (Nat.le_refl _) _ _ hi']; exact (ck_pw n hn h1 k (by omega) i hi').symm) (fun _ _ => rfl)]
            rw [pz_assoc hn h1 _ _ _ hj, pz_congr (f' := dPw n k) (g' := z) (fun _ _ => rfl) (fun i hi' => pi_dvP hn h1 hi hi')]
            exact hz j hj
        · exact .inl ⟨k, c, z, hc, hi⟩
  rcases step (dE n) (Nat.le_refl _) with h | ⟨c, z, _, hz⟩
  · exact h
  · refine absurd (fun j hj => ?_) hf
    rw [← hz j hj, prodZ_tab hn h1 (Nat.le_refl _) _ _ hj]
    refine dvd_sumN _ (fun p hp => dvd_sumN _ (fun q hq => ?_))
    rw [Int.mul_assoc]
    exact Int.dvd_trans (Int.dvd_of_emod_eq_zero (ck_pwe n hn h1 p hp)) (Int.dvd_mul_right _ _)
theorem pr_zero (n : Nat) (f : Nat → Int) (h : ∀ j, j < phiN n → f j = 0) : inPr n f := by
  have e : ∀ C : Nat → Int, sumN (phiN n) (fun i => f i * C i) = 0 := fun C => by rw [sumN_congr (fun i hi => by rw [h i hi, Int.zero_mul]), sumN_zero]
  unfold inPr rA rB
  rw [e, e]
  exact ⟨⟨0, by simp⟩, ⟨0, by simp⟩⟩
theorem dom_prim (hn : n < 17) (h1 : 1 ≤ n) (f g : Nat → Int) (hf : ¬ ∀ j, j < phiN n → (dP n : Int) ∣ f j) (hg : ¬ ∀ j, j < phiN n → (dP n : Int) ∣ g j)
    (h : ∀ j, j < phiN n → prodZ n (phiN n) f g j = 0) : False := by
  obtain ⟨i, c, z, hc, hz⟩ := pr_out hn h1 f hf
  obtain ⟨k, d, y, hd, hy⟩ := pr_out hn h1 g hg
  have hp := ck_p n hn h1
  have e : ∀ j, j < phiN n → prodZ n (phiN n) (prodZ n (phiN n) f c) (prodZ n (phiN n) g d) j = 0 := fun j hj => by
    rw [pz_assoc hn h1 _ _ _ hj]
    rw [pz_congr (n := n) (f' := f) (g' := prodZ n (phiN n) g (prodZ n (phiN n) d c)) (fun _ _ => rfl) (fun i hi => by rw [prodZ_comm n (phiN n) c, pz_assoc hn h1 _ _ _ hi])]
    rw [← pz_assoc hn h1 _ _ _ hj, pz_congr (n := n) (f' := fun _ => 0) (g' := prodZ n (phiN n) d c) h (fun _ _ => rfl), prodZ_comm, pz_zero]
  have e2 : ∀ j, j < phiN n → prodZ n (phiN n) z y j = 0 := fun j hj => by
    have e3 := e j hj
    rw [pz_congr hc hd, pz_smull, pz_smul] at e3
    have q1 : (dP n : Int) ^ i ≠ 0 := Int.pow_ne_zero (by omega)
    have q2 : (dP n : Int) ^ k ≠ 0 := Int.pow_ne_zero (by omega)
    rcases Int.mul_eq_zero.1 e3 with h | h
    · exact absurd h q1
    · rcases Int.mul_eq_zero.1 h with h | h
      · exact absurd h q2
      · exact h
  rcases pr_prime hn h1 z y (pr_zero n _ e2) with h | h
  · exact hz h
  · exact hy h
/-- Products of numbers other than 0 are other than 0. -/
theorem dom (hn : n < 17) (h1 : 1 ≤ n) : ∀ (N : Nat) (f g : Nat → Int) (a b : Nat), a < phiN n → b < phiN n → f a ≠ 0 → g b ≠ 0 → (f a).natAbs + (g b).natAbs ≤ N → (∀ j, j < phiN n → prodZ n (phiN n) f g j = 0) → False := by
  intro N
  have hp := ck_p n hn h1
  have half : ∀ x : Int, (dP n : Int) ∣ x → x ≠ 0 → x / (dP n : Int) ≠ 0 ∧ (x / (dP n : Int)).natAbs < x.natAbs := fun x hx h0 => by
    obtain ⟨y, rfl⟩ := hx
    rw [Int.mul_ediv_cancel_left _ (by omega)]
    have hy : y ≠ 0 := fun h => h0 (by rw [h, Int.mul_zero])
    refine ⟨hy, ?_⟩
    rw [Int.natAbs_mul, Int.natAbs_natCast]
    have : 0 < y.natAbs := by omega
    have := Nat.mul_le_mul_right y.natAbs hp.1
    omega
  induction N with
  | zero => intro f g a b ha hb hfa hgb hN; omega
  | succ N ih =>
    intro f g a b ha hb hfa hgb hN h
    rcases Classical.em (∀ j, j < phiN n → (dP n : Int) ∣ f j) with hf | hf
    · have hh := half (f a) (hf a ha) hfa
      refine ih (fun j => f j / (dP n : Int)) g a b ha hb hh.1 hgb (by have := hh.2; omega) (fun j hj => ?_)
      have e := h j hj
      rw [pz_congr (f' := fun i => (dP n : Int) * (f i / (dP n : Int))) (g' := g) (fun i hi => (Int.mul_ediv_cancel' (hf i hi)).symm) (fun _ _ => rfl), pz_smull] at e
      rcases Int.mul_eq_zero.1 e with h | h
      · omega
      · exact h
    · rcases Classical.em (∀ j, j < phiN n → (dP n : Int) ∣ g j) with hg | hg
      · have hh := half (g b) (hg b hb) hgb
        refine ih f (fun j => g j / (dP n : Int)) a b ha hb hfa hh.1 (by have := hh.2; omega) (fun j hj => ?_)
        have e := h j hj
        rw [pz_congr (f' := f) (g' := fun i => (dP n : Int) * (g i / (dP n : Int))) (fun _ _ => rfl) (fun i hi => (Int.mul_ediv_cancel' (hg i hi)).symm), pz_smul] at e
        rcases Int.mul_eq_zero.1 e with h | h
        · omega
        · exact h
      · exact dom_prim hn h1 f g hf hg h
theorem prodZ_ne (hn : n < 17) (h1 : 1 ≤ n) {f g : Nat → Int} (hf : ∃ a, a < phiN n ∧ f a ≠ 0) (hg : ∃ b, b < phiN n ∧ g b ≠ 0) : ∃ j, j < phiN n ∧ prodZ n (phiN n) f g j ≠ 0 := by
  obtain ⟨a, ha, hfa⟩ := hf
  obtain ⟨b, hb, hgb⟩ := hg
  refine Classical.byContradiction fun hc => dom hn h1 _ f g a b ha hb hfa hgb (Nat.le_refl _) (fun j hj => Classical.byContradiction fun h => hc ⟨j, hj, h⟩)
end
end Go.Proofs.Ytnhpodlcgkgpbaa
