/- Numbers a + b z as a ring, by reckoning: greatest common divisors are sums of multiples, primes divide factors. Plain facts, no walk. -/
import Derived.Test.YtfadlnbmpgbeaaaEsF
namespace Go.Proofs.Ytfadlnbmpgbeaaa
set_option linter.unusedSimpArgs false
set_option linter.unusedVariables false

/-- The number a + b z. -/
structure Es where
  a : Int
  b : Int

namespace Es
theorem eq {x y : Es} (h : x.a = y.a) (k : x.b = y.b) : x = y := by cases x; cases y; simp only at h k; subst h; subst k; rfl
def add (x y : Es) : Es := ⟨x.a + y.a, x.b + y.b⟩
def sub (x y : Es) : Es := ⟨x.a - y.a, x.b - y.b⟩
def neg (x : Es) : Es := ⟨-x.a, -x.b⟩
def mul (x y : Es) : Es := ⟨tA x.a x.b y.a y.b, tB x.a x.b y.a y.b⟩
def int (n : Int) : Es := ⟨n, 0⟩
def conj (x : Es) : Es := ⟨x.a - x.b, -x.b⟩
def nm (x : Es) : Int := nrm x.a x.b
theorem add_comm (x y : Es) : add x y = add y x := eq (Int.add_comm _ _) (Int.add_comm _ _)
theorem add_assoc (x y z : Es) : add (add x y) z = add x (add y z) := eq (Int.add_assoc _ _ _) (Int.add_assoc _ _ _)
theorem mul_comm (x y : Es) : mul x y = mul y x := by
  apply eq
  · show tA _ _ _ _ = tA _ _ _ _; unfold tA; rw [Int.mul_comm x.a, Int.mul_comm x.b]
  · show tB _ _ _ _ = tB _ _ _ _; unfold tB; rw [Int.mul_comm x.a, Int.mul_comm x.b y.a, Int.mul_comm x.b y.b]; omega
theorem mul_assoc (x y z : Es) : mul (mul x y) z = mul x (mul y z) := by
  apply eq
  · show tA (tA _ _ _ _) (tB _ _ _ _) _ _ = tA _ _ (tA _ _ _ _) (tB _ _ _ _); unfold tA tB
    simp only [Int.mul_add, Int.add_mul, Int.sub_mul, Int.mul_sub, Int.mul_assoc]; omega
  · show tB (tA _ _ _ _) (tB _ _ _ _) _ _ = tB _ _ (tA _ _ _ _) (tB _ _ _ _); unfold tA tB
    simp only [Int.mul_add, Int.add_mul, Int.sub_mul, Int.mul_sub, Int.mul_assoc]; omega
theorem mul_add (x y z : Es) : mul x (add y z) = add (mul x y) (mul x z) := by
  apply eq
  · show tA _ _ (_ + _) (_ + _) = tA _ _ _ _ + tA _ _ _ _; unfold tA; simp only [Int.mul_add]; omega
  · show tB _ _ (_ + _) (_ + _) = tB _ _ _ _ + tB _ _ _ _; unfold tB; simp only [Int.mul_add]; omega
theorem add_mul (x y z : Es) : mul (add x y) z = add (mul x z) (mul y z) := by rw [mul_comm, mul_add, mul_comm z x, mul_comm z y]
theorem mul_left_comm (x y z : Es) : mul x (mul y z) = mul y (mul x z) := by rw [← mul_assoc, mul_comm x y, mul_assoc]
theorem mul_one (x : Es) : mul x (int 1) = x := by
  apply eq
  · show tA _ _ 1 0 = _; unfold tA; omega
  · show tB _ _ 1 0 = _; unfold tB; omega
theorem one_mul (x : Es) : mul (int 1) x = x := by rw [mul_comm, mul_one]
theorem mul_zero (x : Es) : mul x (int 0) = int 0 := by
  apply eq
  · show tA _ _ 0 0 = 0; unfold tA; omega
  · show tB _ _ 0 0 = 0; unfold tB; omega
theorem int_mul (m n : Int) : mul (int m) (int n) = int (m * n) := by
  apply eq
  · show tA _ _ _ _ = m * n; unfold tA int; simp
  · show tB _ _ _ _ = 0; unfold tB int; simp
theorem int_mula (m : Int) (x : Es) : mul (int m) x = ⟨m * x.a, m * x.b⟩ := by
  apply eq
  · show tA _ _ _ _ = m * x.a; unfold tA int; simp
  · show tB _ _ _ _ = m * x.b; unfold tB int; simp
theorem int_add (m n : Int) : add (int m) (int n) = int (m + n) := rfl
theorem add_zero (x : Es) : add x (int 0) = x := eq (Int.add_zero _) (Int.add_zero _)
theorem sub_add (x y : Es) : add (sub x y) y = x := eq (Int.sub_add_cancel _ _) (Int.sub_add_cancel _ _)
theorem sub_self (x : Es) : sub x x = int 0 := eq (Int.sub_self _) (Int.sub_self _)
theorem mul_sub (x y z : Es) : mul x (sub y z) = sub (mul x y) (mul x z) := by
  apply eq
  · show tA _ _ (_ - _) (_ - _) = tA _ _ _ _ - tA _ _ _ _; unfold tA; simp only [Int.mul_sub]; omega
  · show tB _ _ (_ - _) (_ - _) = tB _ _ _ _ - tB _ _ _ _; unfold tB; simp only [Int.mul_sub]; omega
theorem nm_mul (x y : Es) : nm (mul x y) = nm x * nm y := nrm_mul _ _ _ _
theorem mul_conj (x : Es) : mul x (conj x) = int (nm x) := by
  apply eq
  · show tA _ _ (_ - _) (-_) = nrm _ _; unfold tA nrm; simp only [Int.mul_sub, Int.mul_neg]; omega
  · show tB _ _ (_ - _) (-_) = 0; unfold tB; simp only [Int.mul_sub, Int.mul_neg]; rw [Int.mul_comm x.a x.b]; omega
theorem nm_conj (x : Es) : nm (conj x) = nm x := nrm_conj _ _
theorem conj_mul (x y : Es) : conj (mul x y) = mul (conj x) (conj y) := by
  apply eq
  · show tA _ _ _ _ - tB _ _ _ _ = tA (_ - _) (-_) (_ - _) (-_); unfold tA tB; simp only [Int.mul_sub, Int.sub_mul, Int.mul_neg, Int.neg_mul]; omega
  · show - tB _ _ _ _ = tB (_ - _) (-_) (_ - _) (-_); unfold tB; simp only [Int.mul_sub, Int.sub_mul, Int.mul_neg, Int.neg_mul]; omega
theorem conj_conj (x : Es) : conj (conj x) = x := by
  apply eq
  · show x.a - x.b - -x.b = x.a; omega
  · show - -x.b = x.b; omega
theorem nm_nn (x : Es) : 0 ≤ nm x := nrm_nn _ _
theorem nm_zero {x : Es} (h : nm x = 0) : x = int 0 := by
  have := nrm_zero (show nrm x.a x.b ≤ 0 from by unfold nm at h; omega)
  exact eq this.1 this.2
theorem nm_pos {x : Es} (h : x ≠ int 0) : 1 ≤ nm x := by
  rcases Int.lt_or_le (nm x) 1 with h1 | h1
  · exact absurd (nm_zero (by have := nm_nn x; omega)) h
  · exact h1
theorem nm_int (n : Int) : nm (int n) = n * n := by show nrm n 0 = _; unfold nrm; simp
theorem mul_eq_zero {x y : Es} (h : mul x y = int 0) : x = int 0 ∨ y = int 0 := by
  have := nm_mul x y
  rw [h, nm_int] at this
  rcases Int.mul_eq_zero.1 this.symm with h1 | h1
  · exact .inl (nm_zero h1)
  · exact .inr (nm_zero h1)
theorem mul_cancel {x y z : Es} (hx : x ≠ int 0) (h : mul x y = mul x z) : y = z := by
  have e : mul x (sub y z) = int 0 := by rw [mul_sub, h, sub_self]
  rcases mul_eq_zero e with h1 | h1
  · exact absurd h1 hx
  · have := sub_add y z
    rw [h1, add_comm, add_zero] at this
    exact this.symm

/-- x divides y. -/
def dv (x y : Es) : Prop := ∃ q, y = mul x q
theorem dv_refl (x : Es) : dv x x := ⟨int 1, (mul_one x).symm⟩
theorem dv_trans {x y z : Es} (h : dv x y) (k : dv y z) : dv x z := by
  obtain ⟨p, rfl⟩ := h
  obtain ⟨q, rfl⟩ := k
  exact ⟨mul p q, mul_assoc _ _ _⟩
theorem dv_mul {x y : Es} (h : dv x y) (z : Es) : dv x (mul y z) := dv_trans h ⟨z, rfl⟩
theorem dv_mulr {x y : Es} (h : dv x y) (z : Es) : dv x (mul z y) := by rw [mul_comm]; exact dv_mul h z
theorem dv_add {x y z : Es} (h : dv x y) (k : dv x z) : dv x (add y z) := by
  obtain ⟨p, rfl⟩ := h
  obtain ⟨q, rfl⟩ := k
  exact ⟨add p q, (mul_add _ _ _).symm⟩
theorem dv_sub {x y z : Es} (h : dv x y) (k : dv x z) : dv x (sub y z) := by
  obtain ⟨p, rfl⟩ := h
  obtain ⟨q, rfl⟩ := k
  exact ⟨sub p q, (mul_sub _ _ _).symm⟩
theorem dv_zero (x : Es) : dv x (int 0) := ⟨int 0, (mul_zero x).symm⟩
theorem dv_conj {x y : Es} (h : dv x y) : dv (conj x) (conj y) := by
  obtain ⟨q, rfl⟩ := h
  exact ⟨conj q, conj_mul _ _⟩
theorem dv_nm {x y : Es} (h : dv x y) : nm x ∣ nm y := by
  obtain ⟨q, rfl⟩ := h
  exact ⟨nm q, nm_mul _ _⟩
theorem dv_int {m : Int} {x : Es} : dv (int m) x ↔ m ∣ x.a ∧ m ∣ x.b := by
  constructor
  · rintro ⟨q, rfl⟩
    rw [int_mula]
    exact ⟨⟨q.a, rfl⟩, ⟨q.b, rfl⟩⟩
  · rintro ⟨⟨p, hp⟩, ⟨q, hq⟩⟩
    exact ⟨⟨p, q⟩, by rw [int_mula]; exact eq hp hq⟩
/-- Of the norm 1: a unit. -/
theorem dv_unit {u : Es} (h : nm u = 1) (x : Es) : dv u x := by
  refine ⟨mul (conj u) x, ?_⟩
  rw [← mul_assoc, mul_conj, h, one_mul]
/-- Divided, and of the same norm: associate. -/
theorem dv_back {x y : Es} (h : dv x y) (hn : nm y = nm x) (hx : x ≠ int 0) : ∃ u, nm u = 1 ∧ y = mul x u := by
  obtain ⟨q, rfl⟩ := h
  refine ⟨q, ?_, rfl⟩
  rw [nm_mul] at hn
  have h1 := nm_pos hx
  have e : nm x * nm q = nm x * 1 := by omega
  exact Int.eq_of_mul_eq_mul_left (by omega) e

/-- The greatest common divisor by divisions with rests: divides both, and is a sum of multiples. -/
theorem gcF_dv (k : Nat) {a b c d : Int} (hk : (nrm c d).toNat ≤ k) :
    dv ⟨(gcF k a b c d).1, (gcF k a b c d).2⟩ ⟨a, b⟩ ∧ dv ⟨(gcF k a b c d).1, (gcF k a b c d).2⟩ ⟨c, d⟩ ∧ ∃ s t, (⟨(gcF k a b c d).1, (gcF k a b c d).2⟩ : Es) = add (mul s ⟨a, b⟩) (mul t ⟨c, d⟩) := by
  induction k generalizing a b c d with
  | zero =>
    have h1 := nrm_nn c d
    obtain ⟨rfl, rfl⟩ := nrm_zero (a := c) (b := d) (by omega)
    exact ⟨dv_refl _, dv_zero _, int 1, int 0, by rw [one_mul, mul_comm (int 0)]; exact ((congrArg (add _) (mul_zero ⟨0, 0⟩)).trans (add_zero _)).symm⟩
  | succ k ih =>
    by_cases h0 : c = 0 ∧ d = 0
    · obtain ⟨rfl, rfl⟩ := h0
      rw [gcF_zero]
      exact ⟨dv_refl _, dv_zero _, int 1, int 0, by rw [one_mul, mul_comm (int 0)]; exact ((congrArg (add _) (mul_zero ⟨0, 0⟩)).trans (add_zero _)).symm⟩
    · obtain ⟨F', e, e2, h3, h4⟩ := gcF_step (a := a) (b := b) h0 hk
      obtain rfl : F' = k := by omega
      rw [e2]
      obtain ⟨g1, g2, s, t, g3⟩ := ih h3
      have er : (⟨a, b⟩ : Es) = add (mul ⟨c, d⟩ ⟨qA a b c d, qB a b c d⟩) ⟨rA a b c d, rB a b c d⟩ := by
        rw [mul_comm]
        apply eq
        · show a = tA (qA a b c d) (qB a b c d) c d + (a - tA (qA a b c d) (qB a b c d) c d); omega
        · show b = tB (qA a b c d) (qB a b c d) c d + (b - tB (qA a b c d) (qB a b c d) c d); omega
      have er2 : (⟨rA a b c d, rB a b c d⟩ : Es) = sub ⟨a, b⟩ (mul ⟨c, d⟩ ⟨qA a b c d, qB a b c d⟩) := by
        rw [mul_comm]; rfl
      refine ⟨?_, g1, t, sub s (mul t ⟨qA a b c d, qB a b c d⟩), ?_⟩
      · rw [er]; exact dv_add (dv_mul g1 _) g2
      · rw [g3, er2, mul_sub, mul_comm (sub s _), mul_sub, mul_comm _ s, ← mul_assoc t, mul_comm t ⟨c, d⟩, mul_assoc]
        apply eq
        · simp only [add, sub]; omega
        · simp only [add, sub]; omega
/-- Any two numbers have a common divisor that is a sum of multiples. -/
theorem bezout (x y : Es) : ∃ g s t, dv g x ∧ dv g y ∧ g = add (mul s x) (mul t y) := by
  obtain ⟨g1, g2, s, t, g3⟩ := gcF_dv (nrm y.a y.b).toNat (a := x.a) (b := x.b) (c := y.a) (d := y.b) (Nat.le_refl _)
  exact ⟨_, s, t, g1, g2, g3⟩

/-- Prime: of a norm greater than 1, and whatever divides it has the norm 1 or its own. -/
def prm (x : Es) : Prop := 1 < nm x ∧ ∀ y, dv y x → nm y = 1 ∨ nm y = nm x
theorem prm_ne {x : Es} (h : prm x) : x ≠ int 0 := by
  intro e
  have := h.1
  rw [e, nm_int] at this
  omega
theorem prm_dv {x y z : Es} (h : prm x) (hd : dv x (mul y z)) : dv x y ∨ dv x z := by
  obtain ⟨g, s, t, g1, g2, g3⟩ := bezout x y
  rcases h.2 g g1 with e | e
  · right
    have h1 : dv x (mul g z) := by
      rw [g3, add_mul, mul_assoc, mul_assoc]
      exact dv_add (dv_mulr (dv_mul (dv_refl x) z) s) (dv_mulr hd t)
    obtain ⟨q, hq⟩ := h1
    refine ⟨mul (conj g) q, ?_⟩
    rw [mul_left_comm, ← hq, ← mul_assoc, mul_comm (conj g), mul_conj, e, one_mul]
  · left
    have hg : g ≠ int 0 := by
      intro hg
      rw [hg, nm_int] at e
      have := h.1
      omega
    obtain ⟨u, hu, hx⟩ := dv_back g1 e.symm hg
    have : dv x g := ⟨conj u, by rw [hx, mul_assoc, mul_conj, hu, mul_one]⟩
    exact dv_trans this g2
theorem prm_pow {x y : Es} (h : prm x) {P : Nat → Es} (h0 : P 0 = int 1) (hs : ∀ k, P (k + 1) = mul (P k) y) (k : Nat) (hd : dv x (P k)) : dv x y := by
  induction k with
  | zero =>
    rw [h0] at hd
    have := dv_nm hd
    rw [nm_int] at this
    have h1 := h.1
    have := Int.le_of_dvd (by omega) this
    omega
  | succ k ih =>
    rw [hs] at hd
    rcases prm_dv h hd with h1 | h1
    · exact ih h1
    · exact h1
end Es
end Go.Proofs.Ytfadlnbmpgbeaaa
