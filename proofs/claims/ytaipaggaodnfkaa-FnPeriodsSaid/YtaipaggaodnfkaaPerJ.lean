/- Differences in classes: plain facts, by reckoning. -/
import Derived.Test.YtaipaggaodnfkaaPerF
namespace Go.Proofs.Ytaipaggaodnfkaa
set_option linter.unusedVariables false

/-- How many y ahead of Y of the class 0, other than x, have x - y in the class i. -/
def dY (p e x i : Nat) : Nat → Nat
  | 0 => 0
  | Y + 1 => dY p e x i Y + if 1 ≤ Y ∧ clsN p e Y = 0 ∧ x ≠ Y ∧ clsN p e ((x + p - Y) % p) = i then 1 else 0
/-- How many pairs of numbers of the class 0 with x ahead of X have a difference in the class i. -/
def dX (p e i : Nat) : Nat → Nat
  | 0 => 0
  | X + 1 => dX p e i X + if 1 ≤ X ∧ clsN p e X = 0 then dY p e X i p else 0
theorem dY_le (p e x i : Nat) : ∀ Y, dY p e x i Y ≤ Y
  | 0 => Nat.le_refl _
  | Y + 1 => by have := dY_le p e x i Y; simp only [dY]; split <;> omega
theorem dX_le (p e i : Nat) : ∀ X, dX p e i X ≤ X * p
  | 0 => Nat.zero_le _
  | X + 1 => by
    have := dX_le p e i X
    have h2 := dY_le p e X i p
    simp only [dX]
    rw [Nat.add_mul, Nat.one_mul]
    split <;> omega
/-- The difference numbers. -/
def difN (p e i : Nat) : Int := tabN p e ((e - i) % e) ((e - i) % e)
def difChk (p e : Nat) : Bool := (List.range e).all (fun i => decide (((dX p e i p / ((p - 1) / e) : Nat) : Int) = difN p e i))
theorem dif_all : ((List.range 62).all fun p => !primeN p || (List.range 13).all fun e => decide (e = 0) || decide ((p - 1) % e ≠ 0) || difChk p e) = true := by decide +kernel
theorem pe_of {q : Nat → Nat → Bool} (h : ((List.range 62).all fun p => !primeN p || (List.range 13).all fun e => decide (e = 0) || decide ((p - 1) % e ≠ 0) || q p e) = true) {p e : Nat} (hp : primeN p = true) (h1 : 1 ≤ e) (h2 : e ≤ 12) (hd : (p - 1) % e = 0) : q p e = true := by
  have h3 := all_range (prime_of h hp) e (by omega)
  have e1 : decide (e = 0) = false := decide_eq_false (by omega)
  have e2 : decide ((p - 1) % e ≠ 0) = false := decide_eq_false (by simp [hd])
  simpa only [e1, e2, Bool.false_or] using h3
theorem dif_ok {p e i : Nat} (hp : primeN p = true) (h1 : 1 ≤ e) (h2 : e ≤ 12) (hd : (p - 1) % e = 0) (hi : i < e) : ((dX p e i p / ((p - 1) / e) : Nat) : Int) = difN p e i := by
  have h := all_range (pe_of dif_all hp h1 h2 hd) i hi
  simpa only [decide_eq_true_eq] using h
end Go.Proofs.Ytaipaggaodnfkaa
