/- The powers of z, reduced, as a table; products and images of powers. -/
import Derived.Test.YtnhpodlcgkgpbaaAlg
namespace Go.Proofs.Ytnhpodlcgkgpbaa
open Go.RowKit Go.ChangeShapes Go.Sort
set_option linter.unusedVariables false
set_option linter.unusedSimpArgs false

def powTab : List (List (List Int)) := [
  [],
  [[1], [1], [1], [1], [1], [1], [1], [1], [1], [1], [1], [1], [1], [1], [1], [1], [1], [1], [1], [1], [1], [1], [1], [1]],
  [[1], [-1], [1], [-1], [1], [-1], [1], [-1], [1], [-1], [1], [-1], [1], [-1], [1], [-1], [1], [-1], [1], [-1], [1], [-1], [1], [-1]],
  [[1, 0], [0, 1], [-1, -1], [1, 0], [0, 1], [-1, -1], [1, 0], [0, 1], [-1, -1], [1, 0], [0, 1], [-1, -1], [1, 0], [0, 1], [-1, -1], [1, 0], [0, 1], [-1, -1], [1, 0], [0, 1], [-1, -1], [1, 0], [0, 1], [-1, -1]],
  [[1, 0], [0, 1], [-1, 0], [0, -1], [1, 0], [0, 1], [-1, 0], [0, -1], [1, 0], [0, 1], [-1, 0], [0, -1], [1, 0], [0, 1], [-1, 0], [0, -1], [1, 0], [0, 1], [-1, 0], [0, -1], [1, 0], [0, 1], [-1, 0], [0, -1]],
  [[1, 0, 0, 0], [0, 1, 0, 0], [0, 0, 1, 0], [0, 0, 0, 1], [-1, -1, -1, -1], [1, 0, 0, 0], [0, 1, 0, 0], [0, 0, 1, 0], [0, 0, 0, 1], [-1, -1, -1, -1], [1, 0, 0, 0], [0, 1, 0, 0], [0, 0, 1, 0], [0, 0, 0, 1], [-1, -1, -1, -1], [1, 0, 0, 0], [0, 1, 0, 0], [0, 0, 1, 0], [0, 0, 0, 1], [-1, -1, -1, -1], [1, 0, 0, 0], [0, 1, 0, 0], [0, 0, 1, 0], [0, 0, 0, 1]],
  [[1, 0], [0, 1], [-1, 1], [-1, 0], [0, -1], [1, -1], [1, 0], [0, 1], [-1, 1], [-1, 0], [0, -1], [1, -1], [1, 0], [0, 1], [-1, 1], [-1, 0], [0, -1], [1, -1], [1, 0], [0, 1], [-1, 1], [-1, 0], [0, -1], [1, -1]],
  [[1, 0, 0, 0, 0, 0], [0, 1, 0, 0, 0, 0], [0, 0, 1, 0, 0, 0], [0, 0, 0, 1, 0, 0], [0, 0, 0, 0, 1, 0], [0, 0, 0, 0, 0, 1], [-1, -1, -1, -1, -1, -1], [1, 0, 0, 0, 0, 0], [0, 1, 0, 0, 0, 0], [0, 0, 1, 0, 0, 0], [0, 0, 0, 1, 0, 0], [0, 0, 0, 0, 1, 0], [0, 0, 0, 0, 0, 1], [-1, -1, -1, -1, -1, -1], [1, 0, 0, 0, 0, 0], [0, 1, 0, 0, 0, 0], [0, 0, 1, 0, 0, 0], [0, 0, 0, 1, 0, 0], [0, 0, 0, 0, 1, 0], [0, 0, 0, 0, 0, 1], [-1, -1, -1, -1, -1, -1], [1, 0, 0, 0, 0, 0], [0, 1, 0, 0, 0, 0], [0, 0, 1, 0, 0, 0]],
  [[1, 0, 0, 0], [0, 1, 0, 0], [0, 0, 1, 0], [0, 0, 0, 1], [-1, 0, 0, 0], [0, -1, 0, 0], [0, 0, -1, 0], [0, 0, 0, -1], [1, 0, 0, 0], [0, 1, 0, 0], [0, 0, 1, 0], [0, 0, 0, 1], [-1, 0, 0, 0], [0, -1, 0, 0], [0, 0, -1, 0], [0, 0, 0, -1], [1, 0, 0, 0], [0, 1, 0, 0], [0, 0, 1, 0], [0, 0, 0, 1], [-1, 0, 0, 0], [0, -1, 0, 0], [0, 0, -1, 0], [0, 0, 0, -1]],
  [[1, 0, 0, 0, 0, 0], [0, 1, 0, 0, 0, 0], [0, 0, 1, 0, 0, 0], [0, 0, 0, 1, 0, 0], [0, 0, 0, 0, 1, 0], [0, 0, 0, 0, 0, 1], [-1, 0, 0, -1, 0, 0], [0, -1, 0, 0, -1, 0], [0, 0, -1, 0, 0, -1], [1, 0, 0, 0, 0, 0], [0, 1, 0, 0, 0, 0], [0, 0, 1, 0, 0, 0], [0, 0, 0, 1, 0, 0], [0, 0, 0, 0, 1, 0], [0, 0, 0, 0, 0, 1], [-1, 0, 0, -1, 0, 0], [0, -1, 0, 0, -1, 0], [0, 0, -1, 0, 0, -1], [1, 0, 0, 0, 0, 0], [0, 1, 0, 0, 0, 0], [0, 0, 1, 0, 0, 0], [0, 0, 0, 1, 0, 0], [0, 0, 0, 0, 1, 0], [0, 0, 0, 0, 0, 1]],
  [[1, 0, 0, 0], [0, 1, 0, 0], [0, 0, 1, 0], [0, 0, 0, 1], [-1, 1, -1, 1], [-1, 0, 0, 0], [0, -1, 0, 0], [0, 0, -1, 0], [0, 0, 0, -1], [1, -1, 1, -1], [1, 0, 0, 0], [0, 1, 0, 0], [0, 0, 1, 0], [0, 0, 0, 1], [-1, 1, -1, 1], [-1, 0, 0, 0], [0, -1, 0, 0], [0, 0, -1, 0], [0, 0, 0, -1], [1, -1, 1, -1], [1, 0, 0, 0], [0, 1, 0, 0], [0, 0, 1, 0], [0, 0, 0, 1]],
  [[1, 0, 0, 0, 0, 0, 0, 0, 0, 0], [0, 1, 0, 0, 0, 0, 0, 0, 0, 0], [0, 0, 1, 0, 0, 0, 0, 0, 0, 0], [0, 0, 0, 1, 0, 0, 0, 0, 0, 0], [0, 0, 0, 0, 1, 0, 0, 0, 0, 0], [0, 0, 0, 0, 0, 1, 0, 0, 0, 0], [0, 0, 0, 0, 0, 0, 1, 0, 0, 0], [0, 0, 0, 0, 0, 0, 0, 1, 0, 0], [0, 0, 0, 0, 0, 0, 0, 0, 1, 0], [0, 0, 0, 0, 0, 0, 0, 0, 0, 1], [-1, -1, -1, -1, -1, -1, -1, -1, -1, -1], [1, 0, 0, 0, 0, 0, 0, 0, 0, 0], [0, 1, 0, 0, 0, 0, 0, 0, 0, 0], [0, 0, 1, 0, 0, 0, 0, 0, 0, 0], [0, 0, 0, 1, 0, 0, 0, 0, 0, 0], [0, 0, 0, 0, 1, 0, 0, 0, 0, 0], [0, 0, 0, 0, 0, 1, 0, 0, 0, 0], [0, 0, 0, 0, 0, 0, 1, 0, 0, 0], [0, 0, 0, 0, 0, 0, 0, 1, 0, 0], [0, 0, 0, 0, 0, 0, 0, 0, 1, 0], [0, 0, 0, 0, 0, 0, 0, 0, 0, 1], [-1, -1, -1, -1, -1, -1, -1, -1, -1, -1], [1, 0, 0, 0, 0, 0, 0, 0, 0, 0], [0, 1, 0, 0, 0, 0, 0, 0, 0, 0]],
  [[1, 0, 0, 0], [0, 1, 0, 0], [0, 0, 1, 0], [0, 0, 0, 1], [-1, 0, 1, 0], [0, -1, 0, 1], [-1, 0, 0, 0], [0, -1, 0, 0], [0, 0, -1, 0], [0, 0, 0, -1], [1, 0, -1, 0], [0, 1, 0, -1], [1, 0, 0, 0], [0, 1, 0, 0], [0, 0, 1, 0], [0, 0, 0, 1], [-1, 0, 1, 0], [0, -1, 0, 1], [-1, 0, 0, 0], [0, -1, 0, 0], [0, 0, -1, 0], [0, 0, 0, -1], [1, 0, -1, 0], [0, 1, 0, -1]],
  [[1, 0, 0, 0, 0, 0, 0, 0, 0, 0, 0, 0], [0, 1, 0, 0, 0, 0, 0, 0, 0, 0, 0, 0], [0, 0, 1, 0, 0, 0, 0, 0, 0, 0, 0, 0], [0, 0, 0, 1, 0, 0, 0, 0, 0, 0, 0, 0], [0, 0, 0, 0, 1, 0, 0, 0, 0, 0, 0, 0], [0, 0, 0, 0, 0, 1, 0, 0, 0, 0, 0, 0], [0, 0, 0, 0, 0, 0, 1, 0, 0, 0, 0, 0], [0, 0, 0, 0, 0, 0, 0, 1, 0, 0, 0, 0], [0, 0, 0, 0, 0, 0, 0, 0, 1, 0, 0, 0], [0, 0, 0, 0, 0, 0, 0, 0, 0, 1, 0, 0], [0, 0, 0, 0, 0, 0, 0, 0, 0, 0, 1, 0], [0, 0, 0, 0, 0, 0, 0, 0, 0, 0, 0, 1], [-1, -1, -1, -1, -1, -1, -1, -1, -1, -1, -1, -1], [1, 0, 0, 0, 0, 0, 0, 0, 0, 0, 0, 0], [0, 1, 0, 0, 0, 0, 0, 0, 0, 0, 0, 0], [0, 0, 1, 0, 0, 0, 0, 0, 0, 0, 0, 0], [0, 0, 0, 1, 0, 0, 0, 0, 0, 0, 0, 0], [0, 0, 0, 0, 1, 0, 0, 0, 0, 0, 0, 0], [0, 0, 0, 0, 0, 1, 0, 0, 0, 0, 0, 0], [0, 0, 0, 0, 0, 0, 1, 0, 0, 0, 0, 0], [0, 0, 0, 0, 0, 0, 0, 1, 0, 0, 0, 0], [0, 0, 0, 0, 0, 0, 0, 0, 1, 0, 0, 0], [0, 0, 0, 0, 0, 0, 0, 0, 0, 1, 0, 0], [0, 0, 0, 0, 0, 0, 0, 0, 0, 0, 1, 0]],
  [[1, 0, 0, 0, 0, 0], [0, 1, 0, 0, 0, 0], [0, 0, 1, 0, 0, 0], [0, 0, 0, 1, 0, 0], [0, 0, 0, 0, 1, 0], [0, 0, 0, 0, 0, 1], [-1, 1, -1, 1, -1, 1], [-1, 0, 0, 0, 0, 0], [0, -1, 0, 0, 0, 0], [0, 0, -1, 0, 0, 0], [0, 0, 0, -1, 0, 0], [0, 0, 0, 0, -1, 0], [0, 0, 0, 0, 0, -1], [1, -1, 1, -1, 1, -1], [1, 0, 0, 0, 0, 0], [0, 1, 0, 0, 0, 0], [0, 0, 1, 0, 0, 0], [0, 0, 0, 1, 0, 0], [0, 0, 0, 0, 1, 0], [0, 0, 0, 0, 0, 1], [-1, 1, -1, 1, -1, 1], [-1, 0, 0, 0, 0, 0], [0, -1, 0, 0, 0, 0], [0, 0, -1, 0, 0, 0]],
  [[1, 0, 0, 0, 0, 0, 0, 0], [0, 1, 0, 0, 0, 0, 0, 0], [0, 0, 1, 0, 0, 0, 0, 0], [0, 0, 0, 1, 0, 0, 0, 0], [0, 0, 0, 0, 1, 0, 0, 0], [0, 0, 0, 0, 0, 1, 0, 0], [0, 0, 0, 0, 0, 0, 1, 0], [0, 0, 0, 0, 0, 0, 0, 1], [-1, 1, 0, -1, 1, -1, 0, 1], [-1, 0, 1, -1, 0, 0, -1, 1], [-1, 0, 0, 0, 0, -1, 0, 0], [0, -1, 0, 0, 0, 0, -1, 0], [0, 0, -1, 0, 0, 0, 0, -1], [1, -1, 0, 0, -1, 1, 0, -1], [1, 0, -1, 1, -1, 0, 1, -1], [1, 0, 0, 0, 0, 0, 0, 0], [0, 1, 0, 0, 0, 0, 0, 0], [0, 0, 1, 0, 0, 0, 0, 0], [0, 0, 0, 1, 0, 0, 0, 0], [0, 0, 0, 0, 1, 0, 0, 0], [0, 0, 0, 0, 0, 1, 0, 0], [0, 0, 0, 0, 0, 0, 1, 0], [0, 0, 0, 0, 0, 0, 0, 1], [-1, 1, 0, -1, 1, -1, 0, 1]],
  [[1, 0, 0, 0, 0, 0, 0, 0], [0, 1, 0, 0, 0, 0, 0, 0], [0, 0, 1, 0, 0, 0, 0, 0], [0, 0, 0, 1, 0, 0, 0, 0], [0, 0, 0, 0, 1, 0, 0, 0], [0, 0, 0, 0, 0, 1, 0, 0], [0, 0, 0, 0, 0, 0, 1, 0], [0, 0, 0, 0, 0, 0, 0, 1], [-1, 0, 0, 0, 0, 0, 0, 0], [0, -1, 0, 0, 0, 0, 0, 0], [0, 0, -1, 0, 0, 0, 0, 0], [0, 0, 0, -1, 0, 0, 0, 0], [0, 0, 0, 0, -1, 0, 0, 0], [0, 0, 0, 0, 0, -1, 0, 0], [0, 0, 0, 0, 0, 0, -1, 0], [0, 0, 0, 0, 0, 0, 0, -1], [1, 0, 0, 0, 0, 0, 0, 0], [0, 1, 0, 0, 0, 0, 0, 0], [0, 0, 1, 0, 0, 0, 0, 0], [0, 0, 0, 1, 0, 0, 0, 0], [0, 0, 0, 0, 1, 0, 0, 0], [0, 0, 0, 0, 0, 1, 0, 0], [0, 0, 0, 0, 0, 0, 1, 0], [0, 0, 0, 0, 0, 0, 0, 1]]]
/-- The number at z^j in z^k of the order n. -/
def tb (n k j : Nat) : Int := ((powTab.getD n []).getD k []).getD j 0
set_option maxRecDepth 100000 in
theorem tab_red : ∀ n, n < 17 → 1 ≤ n → ∀ k, k < 24 → (redT n k).take (phiN n) = (powTab.getD n []).getD k [] := by decide +kernel
theorem tb_eq {n : Nat} (hn : n < 17) (h1 : 1 ≤ n) {k : Nat} (hk : k < 24) {j : Nat} (hj : j < phiN n) : redZ n (unit k) j = tb n k j := by
  have hp := phi_le12 n (by omega) h1
  rw [← redT_eq hn h1 k (show j < 24 by omega)]
  unfold tb
  rw [← tab_red n hn h1 k hk]
  simp [List.getD, hj]
set_option maxRecDepth 100000 in
theorem tab_mod : ∀ n, n < 17 → 1 ≤ n → ∀ k, k < 24 → (powTab.getD n []).getD k [] = (powTab.getD n []).getD (k % n) [] := by decide +kernel
theorem tb_mod {n : Nat} (hn : n < 17) (h1 : 1 ≤ n) {k : Nat} (hk : k < 24) (j : Nat) : tb n k j = tb n (k % n) j := by
  unfold tb; rw [tab_mod n hn h1 k hk]
set_option maxRecDepth 100000 in
theorem tab_unit : ∀ n, n < 17 → 1 ≤ n → ∀ i, i < phiN n → ∀ j, j < phiN n → tb n i j = if i = j then 1 else 0 := by decide +kernel
set_option maxRecDepth 100000 in
theorem tab_mulz : ∀ n, n < 17 → 1 ≤ n → ∀ k, k < n → ∀ j, j < phiN n → sumN (phiN n) (fun i => tb n k i * tb n (i + 1) j) = tb n ((k + 1) % n) j := by decide +kernel
def galChk (n a : Nat) : Bool := decide (∀ k, k < n → ∀ j, j < phiN n → sumN (phiN n) (fun i => tb n k i * tb n (i * a % n) j) = tb n (k * a % n) j)
set_option maxRecDepth 100000 in
theorem tab_gal0 : ∀ n, n < 17 → 1 ≤ n → ∀ a, a < n + 1 → Nat.gcd a n = 1 → galChk n a = true := by decide +kernel
theorem tab_gal (n : Nat) (hn : n < 17) (h1 : 1 ≤ n) (a : Nat) (ha : a < n + 1) (hg : Nat.gcd a n = 1) : ∀ k, k < n → ∀ j, j < phiN n → sumN (phiN n) (fun i => tb n k i * tb n (i * a % n) j) = tb n (k * a % n) j :=
  of_decide_eq_true (tab_gal0 n hn h1 a ha hg)

theorem phi_le_n {n : Nat} : phiN n ≤ n := by have := phiI_le (n : Int); unfold phiN; omega
/-- z^k times z^s. -/
theorem tab_shift {n : Nat} (hn : n < 17) (h1 : 1 ≤ n) {k : Nat} (hk : k < n) : ∀ s j, j < phiN n → sumN (phiN n) (fun i => tb n k i * tb n ((i + s) % n) j) = tb n ((k + s) % n) j
  | 0, j, hj => by
    have e : sumN (phiN n) (fun i => tb n k i * tb n ((i + 0) % n) j) = sumN (phiN n) (fun i => if i = j then tb n k i else 0) :=
      sumN_congr (fun i hi => by
        have hin : i < n := Nat.lt_of_lt_of_le hi phi_le_n
        rw [Nat.add_zero, Nat.mod_eq_of_lt hin, tab_unit n hn h1 i hi j hj]
        by_cases e : i = j <;> simp [e])
    rw [e, sumN_ite (fun i => tb n k i), if_pos hj, Nat.add_zero, Nat.mod_eq_of_lt hk]
  | s + 1, j, hj => by
    have hn0 : 0 < n := h1
    have e : sumN (phiN n) (fun i => tb n k i * tb n ((i + (s + 1)) % n) j) = sumN (phiN n) (fun l => sumN (phiN n) (fun i => tb n k i * tb n ((i + s) % n) l) * tb n (l + 1) j) := by
      have e2 : sumN (phiN n) (fun i => tb n k i * tb n ((i + (s + 1)) % n) j) = sumN (phiN n) (fun i => sumN (phiN n) (fun l => tb n k i * tb n ((i + s) % n) l * tb n (l + 1) j)) :=
        sumN_congr (fun i _ => by
          have h := tab_mulz n hn h1 ((i + s) % n) (Nat.mod_lt _ hn0) j hj
          rw [show ((i + s) % n + 1) % n = (i + (s + 1)) % n by rw [Nat.mod_add_mod, Nat.add_assoc]] at h
          rw [← h, ← sumN_mul]
          exact sumN_congr (fun l _ => by rw [Int.mul_assoc]))
      rw [e2, sumN_swap]
      exact sumN_congr (fun l _ => by rw [← sumN_mulr])
    rw [e]
    have e3 : sumN (phiN n) (fun l => sumN (phiN n) (fun i => tb n k i * tb n ((i + s) % n) l) * tb n (l + 1) j) = sumN (phiN n) (fun l => tb n ((k + s) % n) l * tb n (l + 1) j) :=
      sumN_congr (fun l hl => by rw [tab_shift hn h1 hk s l hl])
    rw [e3, tab_mulz n hn h1 ((k + s) % n) (Nat.mod_lt _ hn0) j hj, Nat.mod_add_mod, Nat.add_assoc]
/-- z^k times z^m, both told by Parts. -/
theorem tab_prod {n : Nat} (hn : n < 17) (h1 : 1 ≤ n) {k m : Nat} (hk : k < n) (hm : m < n) {j : Nat} (hj : j < phiN n) :
    sumN (phiN n) (fun i => sumN (phiN n) (fun l => tb n k i * tb n m l * tb n ((i + l) % n) j)) = tb n ((k + m) % n) j := by
  rw [← tab_shift hn h1 hk m j hj]
  refine sumN_congr (fun i hi => ?_)
  have h := tab_shift hn h1 hm i j hj
  rw [Nat.add_comm m i] at h
  rw [← h, ← sumN_mul]
  exact sumN_congr (fun l _ => by rw [Int.mul_assoc, Nat.add_comm i l])

/-- The image by a, whatever the size of the Parts. -/
def galZ (n a L : Nat) (f : Nat → Int) : Nat → Int := fun j => sumN L (fun p => f p * tb n (p * a % n) j)
theorem prodZ_tab {n L : Nat} (hn : n < 17) (h1 : 1 ≤ n) (hL : L ≤ phiN n) (f g : Nat → Int) {j : Nat} (hj : j < phiN n) :
    prodZ n L f g j = sumN L (fun p => sumN L (fun q => f p * g q * tb n ((p + q) % n) j)) := by
  have hp := phi_le12 n (by omega) h1
  rw [prodZ_sum hn h1 (by omega) f g (show j < 24 by omega)]
  exact sumN_congr (fun p hp' => sumN_congr (fun q hq => by rw [tb_eq hn h1 (show p + q < 24 by omega) hj, tb_mod hn h1 (show p + q < 24 by omega)]))
/-- The image of a product is the product of the images. -/
theorem gal_prod {n a : Nat} (hn : n < 17) (h1 : 1 ≤ n) (ha : a ≤ n) (hg : Nat.gcd a n = 1) (f g : Nat → Int) {j : Nat} (hj : j < phiN n) :
    galZ n a (phiN n) (prodZ n (phiN n) f g) j = prodZ n (phiN n) (galZ n a (phiN n) f) (galZ n a (phiN n) g) j := by
  have hn0 : 0 < n := h1
  have key : ∀ p q, sumN (phiN n) (fun k => tb n ((p + q) % n) k * tb n (k * a % n) j) = sumN (phiN n) (fun k => sumN (phiN n) (fun l => tb n (p * a % n) k * tb n (q * a % n) l * tb n ((k + l) % n) j)) := fun p q => by
    rw [tab_gal n hn h1 a (by omega) hg _ (Nat.mod_lt _ hn0) j hj, tab_prod hn h1 (Nat.mod_lt _ hn0) (Nat.mod_lt _ hn0) hj]
    congr 1
    rw [← Nat.add_mod, ← Nat.add_mul]
    conv => lhs; rw [Nat.mul_mod, Nat.mod_mod, ← Nat.mul_mod]
  have lhs : galZ n a (phiN n) (prodZ n (phiN n) f g) j = sumN (phiN n) (fun p => sumN (phiN n) (fun q => f p * g q * sumN (phiN n) (fun k => tb n ((p + q) % n) k * tb n (k * a % n) j))) := by
    unfold galZ
    have e1 : sumN (phiN n) (fun k => prodZ n (phiN n) f g k * tb n (k * a % n) j) = sumN (phiN n) (fun k => sumN (phiN n) (fun p => sumN (phiN n) (fun q => f p * g q * (tb n ((p + q) % n) k * tb n (k * a % n) j)))) :=
      sumN_congr (fun k hk => by
        rw [prodZ_tab hn h1 (Nat.le_refl _) f g hk, ← sumN_mulr]
        refine sumN_congr (fun p _ => ?_)
        rw [← sumN_mulr]
        exact sumN_congr (fun q _ => by rw [Int.mul_assoc]))
    rw [e1, sumN_swap]
    refine sumN_congr (fun p _ => ?_)
    rw [sumN_swap]
    exact sumN_congr (fun q _ => by rw [sumN_mul])
  have rhs : prodZ n (phiN n) (galZ n a (phiN n) f) (galZ n a (phiN n) g) j = sumN (phiN n) (fun p => sumN (phiN n) (fun q => f p * g q * sumN (phiN n) (fun k => sumN (phiN n) (fun l => tb n (p * a % n) k * tb n (q * a % n) l * tb n ((k + l) % n) j)))) := by
    rw [prodZ_tab hn h1 (Nat.le_refl _) _ _ hj]
    unfold galZ
    have e1 : sumN (phiN n) (fun k => sumN (phiN n) (fun l => sumN (phiN n) (fun p => f p * tb n (p * a % n) k) * sumN (phiN n) (fun q => g q * tb n (q * a % n) l) * tb n ((k + l) % n) j))
        = sumN (phiN n) (fun k => sumN (phiN n) (fun l => sumN (phiN n) (fun p => sumN (phiN n) (fun q => f p * g q * (tb n (p * a % n) k * tb n (q * a % n) l * tb n ((k + l) % n) j))))) :=
      sumN_congr (fun k _ => sumN_congr (fun l _ => by
        rw [← sumN_mulr, ← sumN_mulr]
        refine sumN_congr (fun p _ => ?_)
        rw [← sumN_mul, ← sumN_mulr]
        exact sumN_congr (fun q _ => by
          rw [Int.mul_assoc (f p) (g q), Int.mul_assoc (f p), Int.mul_assoc (f p)]
          congr 1
          rw [Int.mul_left_comm (tb n (p * a % n) k) (g q), Int.mul_assoc (g q)])))
    rw [e1]
    have e2 : ∀ k, sumN (phiN n) (fun l => sumN (phiN n) (fun p => sumN (phiN n) (fun q => f p * g q * (tb n (p * a % n) k * tb n (q * a % n) l * tb n ((k + l) % n) j))))
        = sumN (phiN n) (fun p => sumN (phiN n) (fun q => sumN (phiN n) (fun l => f p * g q * (tb n (p * a % n) k * tb n (q * a % n) l * tb n ((k + l) % n) j)))) := fun k => by
      rw [sumN_swap]
      exact sumN_congr (fun p _ => by rw [sumN_swap])
    have e3 : sumN (phiN n) (fun k => sumN (phiN n) (fun l => sumN (phiN n) (fun p => sumN (phiN n) (fun q => f p * g q * (tb n (p * a % n) k * tb n (q * a % n) l * tb n ((k + l) % n) j)))))
        = sumN (phiN n) (fun k => sumN (phiN n) (fun p => sumN (phiN n) (fun q => sumN (phiN n) (fun l => f p * g q * (tb n (p * a % n) k * tb n (q * a % n) l * tb n ((k + l) % n) j))))) := sumN_congr (fun k _ => e2 k)
    rw [e3, sumN_swap]
    refine sumN_congr (fun p _ => ?_)
    rw [sumN_swap]
    refine sumN_congr (fun q _ => ?_)
    rw [← sumN_mul]
    exact sumN_congr (fun k _ => by rw [← sumN_mul])
  rw [lhs, rhs]
  exact sumN_congr (fun p _ => sumN_congr (fun q _ => by rw [key]))
end Go.Proofs.Ytnhpodlcgkgpbaa
