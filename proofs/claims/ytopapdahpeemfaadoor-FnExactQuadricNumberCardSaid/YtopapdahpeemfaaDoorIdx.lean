/- Powers by a prime: periods, primitive roots and indices. Plain facts, by reckoning. -/
import Derived.Test.YtopapdahpeemfaaDoorGcd
namespace Go.Proofs.YtopapdahpeemfaaDoor
set_option linter.unusedVariables false

/-- p is a prime in 3..61. -/
def primeN (p : Nat) : Bool := decide (3 ≤ p) && decide (p ≤ 61) && (List.range 6).all (fun d => decide (p < (d + 2) * (d + 2)) || decide (p % (d + 2) ≠ 0))
/-- The powers of g by p. -/
def pwr (p g : Nat) : Nat → Nat
  | 0 => 1
  | k + 1 => pwr p g k * g % p
def perGo (p g : Nat) : Nat → Nat → Nat → Nat
  | 0, _, k => k
  | f + 1, x, k => if x = 1 then k else perGo p g f (x * g % p) (k + 1)
/-- The period of g. -/
def perN (p g : Nat) : Nat := perGo p g 61 (1 * g % p) 1
/-- The primitive root. -/
def rootN (p : Nat) : Nat := if p = 7 ∨ p = 17 ∨ p = 31 ∨ p = 43 then 3 else if p = 23 ∨ p = 47 then 5 else if p = 41 then 6 else 2
def idxGo (p r x : Nat) : Nat → Nat → Nat → Nat
  | 0, _, i => i
  | f + 1, y, i => if y = x then i else idxGo p r x f (y * r % p) (i + 1)
/-- The index of x. -/
def idxN (p x : Nat) : Nat := idxGo p (rootN p) x 60 1 0

def chkPer (p g : Nat) : Bool :=
  let m := perN p g
  decide (1 ≤ m) && decide (m ≤ p - 1) && decide (pwr p g m = 1) && (List.range m).all (fun j => decide (j = 0) || decide (pwr p g j ≠ 1)) && (List.range (m + 1)).all (fun j => decide (pwr p g j < p))
def chkRoot (p : Nat) : Bool :=
  decide (1 ≤ rootN p) && decide (rootN p < p) && decide (perN p (rootN p) = p - 1) && (List.range (rootN p)).all (fun g => decide (g = 0) || decide (perN p g < p - 1))
def chkIdx (p x : Nat) : Bool :=
  let i := idxN p x
  decide (i < p - 1) && decide (pwr p (rootN p) i = x) && (List.range i).all (fun j => decide (pwr p (rootN p) j ≠ x))
def chkBack (p j : Nat) : Bool :=
  let x := pwr p (rootN p) j
  decide (1 ≤ x) && decide (x < p) && decide (idxN p x = j)

theorem all_range {n : Nat} {q : Nat → Bool} (h : (List.range n).all q = true) (j : Nat) (hj : j < n) : q j = true := List.all_eq_true.1 h j (List.mem_range.2 hj)

theorem per_all : ((List.range 62).all fun p => !primeN p || (List.range p).all fun g => decide (g = 0) || chkPer p g) = true := by decide +kernel
theorem root_all : ((List.range 62).all fun p => !primeN p || chkRoot p) = true := by decide +kernel
theorem idx_all : ((List.range 62).all fun p => !primeN p || (List.range p).all fun x => decide (x = 0) || chkIdx p x) = true := by decide +kernel
theorem back_all : ((List.range 62).all fun p => !primeN p || (List.range (p - 1)).all fun j => chkBack p j) = true := by decide +kernel

theorem primeN_bd {p : Nat} (h : primeN p = true) : 3 ≤ p ∧ p ≤ 61 := by
  unfold primeN at h
  simp only [Bool.and_eq_true, decide_eq_true_eq] at h
  exact h.1
theorem prime_of {q : Nat → Bool} (h : ((List.range 62).all fun p => !primeN p || q p) = true) {p : Nat} (hp : primeN p = true) : q p = true := by
  have := all_range h p (by have := primeN_bd hp; omega)
  simp only [hp, Bool.not_true, Bool.false_or] at this
  exact this

theorem per_ok {p g : Nat} (hp : primeN p = true) (h1 : 1 ≤ g) (h2 : g < p) :
    1 ≤ perN p g ∧ perN p g ≤ p - 1 ∧ pwr p g (perN p g) = 1 ∧ (∀ j, 1 ≤ j → j < perN p g → pwr p g j ≠ 1) ∧ ∀ j, j ≤ perN p g → pwr p g j < p := by
  have h := all_range (prime_of per_all hp) g h2
  have e : decide (g = 0) = false := decide_eq_false (by omega)
  simp only [e, Bool.false_or] at h
  unfold chkPer at h
  simp only [Bool.and_eq_true, decide_eq_true_eq] at h
  obtain ⟨⟨⟨⟨a, b⟩, c⟩, d⟩, e⟩ := h
  refine ⟨a, b, c, fun j hj hj' => ?_, fun j hj => ?_⟩
  · have := all_range d j hj'
    have e : decide (j = 0) = false := decide_eq_false (by omega)
    simpa only [e, Bool.false_or, decide_eq_true_eq] using this
  · have := all_range e j (by omega)
    simpa only [decide_eq_true_eq] using this
theorem root_ok {p : Nat} (hp : primeN p = true) : 1 ≤ rootN p ∧ rootN p < p ∧ perN p (rootN p) = p - 1 ∧ ∀ g, 1 ≤ g → g < rootN p → perN p g < p - 1 := by
  have h := prime_of root_all hp
  unfold chkRoot at h
  simp only [Bool.and_eq_true, decide_eq_true_eq] at h
  obtain ⟨⟨⟨a, b⟩, c⟩, d⟩ := h
  refine ⟨a, b, c, fun j hj hj' => ?_⟩
  have := all_range d j hj'
  have e : decide (j = 0) = false := decide_eq_false (by omega)
  simpa only [e, Bool.false_or, decide_eq_true_eq] using this
theorem idx_ok {p x : Nat} (hp : primeN p = true) (h1 : 1 ≤ x) (h2 : x < p) : idxN p x < p - 1 ∧ pwr p (rootN p) (idxN p x) = x ∧ ∀ j, j < idxN p x → pwr p (rootN p) j ≠ x := by
  have h := all_range (prime_of idx_all hp) x h2
  have e : decide (x = 0) = false := decide_eq_false (by omega)
  simp only [e, Bool.false_or] at h
  unfold chkIdx at h
  simp only [Bool.and_eq_true, decide_eq_true_eq] at h
  obtain ⟨⟨a, b⟩, c⟩ := h
  exact ⟨a, b, fun j hj => by have := all_range c j hj; simpa only [decide_eq_true_eq] using this⟩
theorem back_ok {p j : Nat} (hp : primeN p = true) (hj : j < p - 1) : 1 ≤ pwr p (rootN p) j ∧ pwr p (rootN p) j < p ∧ idxN p (pwr p (rootN p) j) = j := by
  have h := all_range (prime_of back_all hp) j hj
  unfold chkBack at h
  simp only [Bool.and_eq_true, decide_eq_true_eq] at h
  exact ⟨h.1.1, h.1.2, h.2⟩

/-! Squares by a prime are the residues with even indices. -/
def sqN (p x : Nat) : Bool := (List.range (p - 1)).any (fun y => decide ((y + 1) * (y + 1) % p = x))
theorem sq_all : ((List.range 62).all fun p => !primeN p || (List.range p).all fun x => decide (x = 0) || decide (sqN p x = decide (idxN p x % 2 = 0))) = true := by decide +kernel
theorem sq_ok {p x : Nat} (hp : primeN p = true) (h1 : 1 ≤ x) (h2 : x < p) : sqN p x = decide (idxN p x % 2 = 0) := by
  have h := all_range (prime_of sq_all hp) x h2
  have e : decide (x = 0) = false := decide_eq_false (by omega)
  simpa only [e, Bool.false_or, decide_eq_true_eq] using h

/-! The powers of a character come again. -/
def ordChk (n k : Nat) : Bool :=
  let m := n / Nat.gcd n k
  decide (1 ≤ m) && decide (m ≤ n) && decide (k * (m + 1) % n = k % n) && (List.range m).all (fun i => (List.range i).all (fun j => decide (k * (i + 1) % n ≠ k * (j + 1) % n)))
theorem ord_all : ((List.range 17).all fun n => decide (n = 0) || (List.range n).all fun k => ordChk n k) = true := by decide +kernel
theorem ord_ok {n k : Nat} (h1 : 1 ≤ n) (h2 : n ≤ 16) (hk : k < n) : 1 ≤ n / Nat.gcd n k ∧ n / Nat.gcd n k ≤ n ∧ k * (n / Nat.gcd n k + 1) % n = k % n ∧ ∀ i j, i < n / Nat.gcd n k → j < i → k * (i + 1) % n ≠ k * (j + 1) % n := by
  have h := all_range ord_all n (by omega)
  have e : decide (n = 0) = false := decide_eq_false (by omega)
  simp only [e, Bool.false_or] at h
  have h := all_range h k hk
  unfold ordChk at h
  simp only [Bool.and_eq_true, decide_eq_true_eq] at h
  obtain ⟨⟨⟨a, b⟩, c⟩, d⟩ := h
  exact ⟨a, b, c, fun i j hi hj => by have := all_range (all_range d i hi) j hj; simpa only [decide_eq_true_eq] using this⟩
end Go.Proofs.YtopapdahpeemfaaDoor
