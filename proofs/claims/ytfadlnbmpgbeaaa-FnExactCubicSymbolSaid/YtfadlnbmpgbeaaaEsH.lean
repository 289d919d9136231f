/- Binomials, the little theorem of Fermat for numbers a + b z, and primes as norms, by reckoning. Plain facts, no walk. -/
import Derived.Test.YtfadlnbmpgbeaaaEsG
namespace Go.Proofs.Ytfadlnbmpgbeaaa
set_option linter.unusedSimpArgs false
set_option linter.unusedVariables false

/-- A prime number. -/
def isP (p : Nat) : Prop := 2 ≤ p ∧ ∀ d, d ∣ p → d = 1 ∨ d = p
theorem isP_dvd {p : Nat} (hp : isP p) {m n : Int} (h : (p : Int) ∣ m * n) : (p : Int) ∣ m ∨ (p : Int) ∣ n := by
  have h' : p ∣ m.natAbs * n.natAbs := by
    have := Int.natAbs_dvd_natAbs.2 h
    rwa [Int.natAbs_mul, Int.natAbs_natCast] at this
  rcases hp.2 _ (Nat.gcd_dvd_left p m.natAbs) with h1 | h1
  · right
    have := Nat.Coprime.dvd_of_dvd_mul_left (k := p) (m := m.natAbs) (n := n.natAbs) h1 h'
    exact Int.natAbs_dvd_natAbs.1 (by rwa [Int.natAbs_natCast])
  · left
    have := Nat.gcd_dvd_right p m.natAbs
    rw [h1] at this
    exact Int.natAbs_dvd_natAbs.1 (by rwa [Int.natAbs_natCast])
theorem isP_not_one {p : Nat} (hp : isP p) : ¬ (p : Int) ∣ 1 := by
  intro h
  have := Int.le_of_dvd (by omega) h
  have := hp.1
  omega
theorem isP_pow {p : Nat} (hp : isP p) {m : Int} : ∀ k : Nat, (p : Int) ∣ m ^ k → (p : Int) ∣ m
  | 0, h => absurd (show (p : Int) ∣ 1 from by simpa using h) (isP_not_one hp)
  | k + 1, h => by
    rw [Int.pow_succ] at h
    rcases isP_dvd hp h with h | h
    · exact isP_pow hp k h
    · exact h
/-- What divides the square of a prime number. -/
theorem dvd_sq {p d : Nat} (hp : isP p) (h : d ∣ p * p) : d = 1 ∨ d = p ∨ d = p * p := by
  rcases hp.2 _ (Nat.gcd_dvd_left p d) with h1 | h1
  · left
    have hc : Nat.Coprime d p := (Nat.gcd_comm d p).trans h1
    have := hc.dvd_of_dvd_mul_left h
    have h2 := Nat.dvd_gcd this (Nat.dvd_refl d)
    rw [h1] at h2
    exact Nat.dvd_one.1 h2
  · have h2 := Nat.gcd_dvd_right p d
    rw [h1] at h2
    obtain ⟨e, rfl⟩ := h2
    have h3 := Nat.dvd_of_mul_dvd_mul_left (show 0 < p by have := hp.1; omega) h
    rcases hp.2 _ h3 with h4 | h4
    · right; left; rw [h4, Nat.mul_one]
    · right; right; rw [h4]

/-! ### Binomials -/
def chs : Nat → Nat → Nat
  | _, 0 => 1
  | 0, _ + 1 => 0
  | n + 1, k + 1 => chs n k + chs n (k + 1)
theorem chs_zero (n : Nat) : chs n 0 = 1 := by cases n <;> rfl
theorem chs_big : ∀ n k, n < k → chs n k = 0
  | 0, k + 1, _ => rfl
  | n + 1, k + 1, h => by rw [chs, chs_big n k (by omega), chs_big n (k + 1) (by omega)]
theorem chs_self : ∀ n, chs n n = 1
  | 0 => rfl
  | n + 1 => by rw [chs, chs_self n, chs_big n (n + 1) (by omega)]
theorem chs_pred : ∀ n, chs (n + 1) n = n + 1
  | 0 => rfl
  | n + 1 => by rw [chs, chs_pred n, chs_self (n + 1)]
theorem chs_mul : ∀ n k, (k + 1) * chs (n + 1) (k + 1) = (n + 1) * chs n k
  | 0, 0 => rfl
  | 0, k + 1 => by rw [chs_big 1 (k + 1 + 1) (by omega), chs_big 0 (k + 1) (by omega)]; simp
  | n + 1, 0 => by
    have h := chs_mul n 0
    have e : chs (n + 1 + 1) (0 + 1) = chs (n + 1) 0 + chs (n + 1) (0 + 1) := rfl
    rw [chs_zero] at h e ⊢
    omega
  | n + 1, k + 1 => by
    have h1 := chs_mul n k
    have h2 := chs_mul n (k + 1)
    have e : chs (n + 2) (k + 2) = chs (n + 1) (k + 1) + chs (n + 1) (k + 2) := rfl
    have e2 : chs (n + 1) (k + 1) = chs n k + chs n (k + 1) := rfl
    show (k + 1 + 1) * chs (n + 2) (k + 2) = (n + 1 + 1) * chs (n + 1) (k + 1)
    rw [e, Nat.mul_add, h2, Nat.add_mul (k + 1) 1, h1, Nat.one_mul, Nat.add_mul (n + 1) 1, Nat.one_mul]
    conv => rhs; rw [e2, Nat.mul_add]
    rw [← e2]
    omega
theorem chs_dvd {p k : Nat} (hp : isP p) (h1 : 1 ≤ k) (h2 : k < p) : p ∣ chs p k := by
  obtain ⟨n, rfl⟩ : ∃ n, p = n + 1 := ⟨p - 1, by omega⟩
  obtain ⟨j, rfl⟩ : ∃ j, k = j + 1 := ⟨k - 1, by omega⟩
  have h := chs_mul n j
  have h3 : n + 1 ∣ (j + 1) * chs (n + 1) (j + 1) := ⟨_, h⟩
  rcases hp.2 _ (Nat.gcd_dvd_left (n + 1) (j + 1)) with h4 | h4
  · exact Nat.Coprime.dvd_of_dvd_mul_left (k := n + 1) h4 h3
  · have := Nat.gcd_dvd_right (n + 1) (j + 1)
    rw [h4] at this
    have := Nat.le_of_dvd (by omega) this
    omega

namespace Es
def pw (x : Es) : Nat → Es
  | 0 => int 1
  | k + 1 => mul (pw x k) x
theorem pw_add (x : Es) (m : Nat) : ∀ n, pw x (m + n) = mul (pw x m) (pw x n)
  | 0 => (mul_one _).symm
  | n + 1 => by
    show mul (pw x (m + n)) x = mul _ (mul _ _)
    rw [pw_add x m n, mul_assoc]
theorem pw_mul (x : Es) (m : Nat) : ∀ n, pw x (m * n) = pw (pw x m) n
  | 0 => rfl
  | n + 1 => by rw [Nat.mul_succ, pw_add, pw_mul x m n]; rfl
theorem mul_pw (x y : Es) : ∀ n, pw (mul x y) n = mul (pw x n) (pw y n)
  | 0 => (mul_one _).symm
  | n + 1 => by
    show mul (pw (mul x y) n) (mul x y) = mul (mul _ _) (mul _ _)
    rw [mul_pw x y n, mul_assoc, mul_assoc, mul_left_comm x]
theorem pw_int (m : Int) : ∀ n, pw (int m) n = int (m ^ n)
  | 0 => by rw [Int.pow_zero]; rfl
  | n + 1 => by rw [pw, pw_int m n, int_mul, Int.pow_succ]
theorem pw_one (x : Es) : pw x 1 = x := one_mul x
theorem one_pw : ∀ n, pw (int 1) n = int 1
  | 0 => rfl
  | n + 1 => by rw [pw, one_pw n, mul_one]
def sum : Nat → (Nat → Es) → Es
  | 0, _ => int 0
  | m + 1, F => add (sum m F) (F m)
theorem sum_congr {F G : Nat → Es} : ∀ m, (∀ i, i < m → F i = G i) → sum m F = sum m G
  | 0, _ => rfl
  | m + 1, h => by rw [sum, sum, sum_congr m (fun i hi => h i (by omega)), h m (by omega)]
theorem add_add (x y z u : Es) : add (add x y) (add z u) = add (add x z) (add y u) := by
  apply eq
  · simp only [add]; omega
  · simp only [add]; omega
theorem sum_add (F G : Nat → Es) : ∀ m, sum m (fun i => add (F i) (G i)) = add (sum m F) (sum m G)
  | 0 => rfl
  | m + 1 => by rw [sum, sum, sum, sum_add F G m, add_add]
theorem sum_mul (x : Es) (F : Nat → Es) : ∀ m, sum m (fun i => mul x (F i)) = mul x (sum m F)
  | 0 => (mul_zero x).symm
  | m + 1 => by rw [sum, sum, sum_mul x F m, mul_add]
theorem sum_head (F : Nat → Es) : ∀ m, sum (m + 1) F = add (F 0) (sum m (fun i => F (i + 1)))
  | 0 => add_comm _ _
  | m + 1 => by rw [sum, sum_head F m, sum, add_assoc]
theorem dv_sum {x : Es} {F : Nat → Es} : ∀ m, (∀ i, i < m → dv x (F i)) → dv x (sum m F)
  | 0, _ => dv_zero x
  | m + 1, h => dv_add (dv_sum m (fun i hi => h i (by omega))) (h m (by omega))
/-- A term of a binomial. -/
def bt (x y : Es) (n k : Nat) : Es := mul (int (chs n k)) (mul (pw x k) (pw y (n - k)))
theorem bt_big (x y : Es) {n k : Nat} (h : n < k) : bt x y n k = int 0 := by
  unfold bt; rw [chs_big n k h]
  rw [mul_comm]; exact mul_zero _
theorem bt_zero (x y : Es) (n : Nat) : bt x y (n + 1) 0 = mul y (bt x y n 0) := by
  unfold bt
  rw [chs_zero, chs_zero, Nat.sub_zero, Nat.sub_zero]
  show mul _ (mul _ (mul (pw y n) y)) = _
  show mul (int 1) (mul (int 1) (mul (pw y n) y)) = mul y (mul (int 1) (mul (int 1) (pw y n)))
  rw [one_mul, one_mul, one_mul, one_mul, mul_comm]
theorem bt_succ (x y : Es) (n k : Nat) : bt x y (n + 1) (k + 1) = add (mul x (bt x y n k)) (mul y (bt x y n (k + 1))) := by
  have e : (int ((chs (n + 1) (k + 1) : Nat) : Int)) = add (int (chs n k)) (int (chs n (k + 1))) := by
    rw [int_add]; congr 1
  have e1 : bt x y (n + 1) (k + 1) = add (mul (int (chs n k)) (mul (pw x (k + 1)) (pw y (n - k)))) (mul (int (chs n (k + 1))) (mul (pw x (k + 1)) (pw y (n - k)))) := by
    unfold bt
    rw [e, add_mul, show n + 1 - (k + 1) = n - k by omega]
  have e2 : mul (int (chs n k)) (mul (pw x (k + 1)) (pw y (n - k))) = mul x (bt x y n k) := by
    unfold bt
    show mul _ (mul (mul (pw x k) x) _) = _
    rw [mul_comm (pw x k) x, mul_assoc, mul_left_comm]
  have e3 : mul (int (chs n (k + 1))) (mul (pw x (k + 1)) (pw y (n - k))) = mul y (bt x y n (k + 1)) := by
    rcases Nat.lt_or_ge n (k + 1) with h | h
    · rw [bt_big x y h, mul_zero, chs_big n (k + 1) h, mul_comm]
      exact mul_zero _
    · unfold bt
      rw [show n - k = n - (k + 1) + 1 by omega]
      show mul _ (mul _ (mul (pw y (n - (k + 1))) y)) = _
      rw [mul_comm (pw y _) y, mul_left_comm (pw x _) y, mul_left_comm _ y]
  rw [e1, e2, e3]
theorem binomial (x y : Es) : ∀ n M, n < M → pw (add x y) n = sum M (bt x y n)
  | 0, M + 1, _ => by
    rw [sum_head]
    have h0 : sum M (fun i => bt x y 0 (i + 1)) = int 0 := by
      have : ∀ m, sum m (fun i => bt x y 0 (i + 1)) = int 0 := by
        intro m
        induction m with
        | zero => rfl
        | succ m ih => rw [sum, ih, bt_big x y (by omega)]; rfl
      exact this M
    rw [h0, add_zero]
    show int 1 = mul (int 1) (mul (int 1) (int 1))
    rw [one_mul, one_mul]
  | n + 1, M + 1, h => by
    have ih := binomial x y n M (by omega)
    have ih2 := binomial x y n (M + 1) (by omega)
    rw [sum_head, bt_zero, sum_congr M (fun i _ => bt_succ x y n i), sum_add, sum_mul, sum_mul, ← ih]
    show mul (pw (add x y) n) (add x y) = _
    rw [mul_add, mul_comm _ x, mul_comm _ y]
    have e : mul y (pw (add x y) n) = add (mul y (bt x y n 0)) (mul y (sum M (fun i => bt x y n (i + 1)))) := by
      rw [← mul_add, ← sum_head, ← ih2]
    rw [e, ← add_assoc, ← add_assoc, add_comm (mul x _)]
/-- Powers of sums by a prime number. -/
theorem frob {p : Nat} (hp : isP p) (x y : Es) : dv (int p) (sub (pw (add x y) p) (add (pw x p) (pw y p))) := by
  have h0 := hp.1
  obtain ⟨m, rfl⟩ : ∃ m, p = m + 1 := ⟨p - 1, by omega⟩
  have hb := binomial x y (m + 1) (m + 1 + 1) (by omega)
  rw [sum, sum_head] at hb
  have hd : dv (int ((m + 1 : Nat) : Int)) (sum m (fun i => bt x y (m + 1) (i + 1))) := by
    refine dv_sum m (fun i hi => ?_)
    obtain ⟨q, hq⟩ := chs_dvd hp (show 1 ≤ i + 1 by omega) (show i + 1 < m + 1 by omega)
    unfold bt
    refine dv_mul ?_ _
    rw [hq]
    exact ⟨int q, by rw [int_mul, Int.natCast_mul]⟩
  have e0 : bt x y (m + 1) 0 = pw y (m + 1) := by
    unfold bt; rw [chs_zero]
    show mul (int 1) (mul (int 1) (pw y (m + 1))) = _
    rw [one_mul, one_mul]
  have e1 : bt x y (m + 1) (m + 1) = pw x (m + 1) := by
    unfold bt; rw [chs_self, Nat.sub_self]
    show mul (int 1) (mul (pw x (m + 1)) (int 1)) = _
    rw [one_mul, mul_one]
  rw [e0, e1] at hb
  rw [hb]
  generalize sum m _ = S at hd
  have : sub (add (add (pw y (m + 1)) S) (pw x (m + 1))) (add (pw x (m + 1)) (pw y (m + 1))) = S := by
    apply eq
    · simp only [sub, add]; omega
    · simp only [sub, add]; omega
  rw [this]
  exact hd
end Es

/-! ### Whole numbers -/
theorem frobI {p : Nat} (hp : isP p) (x : Int) : (p : Int) ∣ (x + 1) ^ p - (x ^ p + 1) := by
  have h := Es.frob hp (Es.int x) (Es.int 1)
  rw [Es.int_add, Es.pw_int, Es.pw_int, Es.one_pw] at h
  exact (Es.dv_int.1 h).1
theorem fermat0 {p : Nat} (hp : isP p) : ∀ x : Nat, (p : Int) ∣ (x : Int) ^ p - x
  | 0 => by
    obtain ⟨m, rfl⟩ : ∃ m, p = m + 1 := ⟨p - 1, by have := hp.1; omega⟩
    rw [Int.pow_succ]; simp
  | x + 1 => by
    have h1 := fermat0 hp x
    have h2 := frobI hp (x : Int)
    have := Int.dvd_add h1 h2
    refine (show ((x : Int) ^ p - x + (((x : Int) + 1) ^ p - ((x : Int) ^ p + 1))) = (((x + 1 : Nat) : Int)) ^ p - ((x + 1 : Nat) : Int) from ?_) ▸ this
    rw [Int.natCast_add]
    show _ = ((x : Int) + 1) ^ p - ((x : Int) + 1)
    omega
/-- Equal up to multiples. -/
def cg (p x y : Int) : Prop := p ∣ x - y
theorem cg.refl (p x : Int) : cg p x x := by unfold cg; rw [Int.sub_self]; exact Int.dvd_zero _
theorem cg.symm {p x y : Int} (h : cg p x y) : cg p y x := by
  unfold cg at *
  have := Int.dvd_neg.2 h
  rwa [Int.neg_sub] at this
theorem cg.trans {p x y z : Int} (h : cg p x y) (k : cg p y z) : cg p x z := by
  unfold cg at *
  have := Int.dvd_add h k
  rwa [show x - y + (y - z) = x - z by omega] at this
theorem cg.mul {p x y z u : Int} (h : cg p x y) (k : cg p z u) : cg p (x * z) (y * u) := by
  unfold cg at *
  have := Int.dvd_add (Int.dvd_mul_of_dvd_right (b := x) k) (Int.dvd_mul_of_dvd_left (c := u) h)
  rwa [Int.mul_sub, Int.sub_mul, show x * z - x * u + (x * u - y * u) = x * z - y * u by omega] at this
theorem cg.pow {p x y : Int} (h : cg p x y) : ∀ n : Nat, cg p (x ^ n) (y ^ n)
  | 0 => by rw [Int.pow_zero, Int.pow_zero]; exact cg.refl _ _
  | n + 1 => by rw [Int.pow_succ, Int.pow_succ]; exact (cg.pow h n).mul h
theorem cg_emod (p x : Int) : cg p x (x % p) := by
  have := Int.mul_ediv_add_emod x p
  exact ⟨x / p, by omega⟩
theorem fermat {p : Nat} (hp : isP p) (x : Int) : cg p (x ^ p) x := by
  have h0 := hp.1
  obtain ⟨r, hr⟩ := Int.eq_ofNat_of_zero_le (Int.emod_nonneg x (b := (p : Int)) (by omega))
  have h1 := cg_emod (p : Int) x
  rw [hr] at h1
  exact (h1.pow p).trans (cg.trans (fermat0 hp r) h1.symm)
theorem fermat1 {p : Nat} (hp : isP p) {x : Int} (hx : ¬ (p : Int) ∣ x) : cg p (x ^ (p - 1)) 1 := by
  have h := fermat hp x
  obtain ⟨m, rfl⟩ : ∃ m, p = m + 1 := ⟨p - 1, by have := hp.1; omega⟩
  unfold cg at *
  rw [Int.pow_succ] at h
  rw [Nat.add_sub_cancel]
  have e : x ^ m * x - x = (x ^ m - 1) * x := by rw [Int.sub_mul, Int.one_mul]
  rw [e] at h
  exact (isP_dvd hp h).resolve_right hx

/-! ### Sums of powers -/
def sumI : Nat → (Nat → Int) → Int
  | 0, _ => 0
  | m + 1, F => sumI m F + F m
theorem sumI_congr {F G : Nat → Int} : ∀ m, (∀ i, i < m → F i = G i) → sumI m F = sumI m G
  | 0, _ => rfl
  | m + 1, h => by rw [sumI, sumI, sumI_congr m (fun i hi => h i (by omega)), h m (by omega)]
theorem sumI_add (F G : Nat → Int) : ∀ m, sumI m (fun i => F i + G i) = sumI m F + sumI m G
  | 0 => rfl
  | m + 1 => by rw [sumI, sumI, sumI, sumI_add F G m]; omega
theorem sumI_mul (a : Int) (F : Nat → Int) : ∀ m, sumI m (fun i => a * F i) = a * sumI m F
  | 0 => by simp [sumI]
  | m + 1 => by rw [sumI, sumI, sumI_mul a F m, Int.mul_add]
theorem sumI_zero : ∀ m, sumI m (fun _ => 0) = 0
  | 0 => rfl
  | m + 1 => by rw [sumI, sumI_zero m]; rfl
theorem sumI_swap (F : Nat → Nat → Int) (m : Nat) : ∀ n, sumI m (fun i => sumI n (fun j => F i j)) = sumI n (fun j => sumI m (fun i => F i j))
  | 0 => by simp only [sumI]; exact sumI_zero m
  | n + 1 => by simp only [sumI]; rw [sumI_add, sumI_swap F m n]
theorem sumI_dvd {p : Int} {F : Nat → Int} : ∀ m, (∀ i, i < m → p ∣ F i) → p ∣ sumI m F
  | 0, _ => Int.dvd_zero _
  | m + 1, h => Int.dvd_add (sumI_dvd m (fun i hi => h i (by omega))) (h m (by omega))
theorem sumI_tele (G : Nat → Int) : ∀ m, sumI m (fun i => G (i + 1) - G i) = G m - G 0
  | 0 => by simp [sumI]
  | m + 1 => by rw [sumI, sumI_tele G m]; omega
theorem sum_a (F : Nat → Es) : ∀ m, (Es.sum m F).a = sumI m (fun i => (F i).a)
  | 0 => rfl
  | m + 1 => by
    show (Es.sum m F).a + (F m).a = _
    rw [sum_a F m]; rfl
/-- (x + 1)^(n + 1) - x^(n + 1). -/
theorem binomI (x : Int) (n : Nat) : (x + 1) ^ (n + 1) - x ^ (n + 1) = sumI (n + 1) (fun k => (chs (n + 1) k : Int) * x ^ k) := by
  have h := Es.binomial (Es.int x) (Es.int 1) (n + 1) (n + 2) (by omega)
  rw [Es.int_add, Es.pw_int] at h
  have h1 := congrArg Es.a h
  rw [sum_a] at h1
  have e : ∀ k, (Es.bt (Es.int x) (Es.int 1) (n + 1) k).a = (chs (n + 1) k : Int) * x ^ k := by
    intro k
    unfold Es.bt
    rw [Es.one_pw, Es.mul_one, Es.pw_int, Es.int_mul]; rfl
  rw [sumI_congr (n + 2) (fun k _ => e k), sumI, chs_self] at h1
  have h2 : (Es.int ((x + 1) ^ (n + 1))).a = (x + 1) ^ (n + 1) := rfl
  rw [h2] at h1
  rw [h1]
  show _ + ((1 : Nat) : Int) * x ^ (n + 1) - x ^ (n + 1) = _
  rw [show ((1 : Nat) : Int) = 1 from rfl, Int.one_mul]
  omega
def pSum (p k : Nat) : Int := sumI p (fun x => (x : Int) ^ k)
theorem pSum_dvd {p : Nat} (hp : isP p) : ∀ k, k + 1 < p → (p : Int) ∣ pSum p k := by
  intro k
  induction k using Nat.strongRecOn with
  | ind k ih =>
    intro hk
    have h1 : sumI p (fun x => (((x + 1 : Nat) : Int)) ^ (k + 1) - (x : Int) ^ (k + 1)) = (p : Int) ^ (k + 1) := by
      rw [sumI_tele (fun x => ((x : Nat) : Int) ^ (k + 1)) p]
      show _ - (0 : Int) ^ (k + 1) = _
      rw [Int.pow_succ (0 : Int) k]; simp
    have h2 : sumI p (fun x => (((x + 1 : Nat) : Int)) ^ (k + 1) - (x : Int) ^ (k + 1)) = sumI (k + 1) (fun j => (chs (k + 1) j : Int) * pSum p j) := by
      rw [sumI_congr p (fun x _ => show (((x + 1 : Nat) : Int)) ^ (k + 1) - (x : Int) ^ (k + 1) = sumI (k + 1) (fun j => (chs (k + 1) j : Int) * (x : Int) ^ j) from by
        rw [← binomI]; rfl)]
      rw [sumI_swap (fun x j => (chs (k + 1) j : Int) * (x : Int) ^ j) p (k + 1)]
      exact sumI_congr (k + 1) (fun j _ => sumI_mul _ _ p)
    rw [h1, sumI, chs_pred] at h2
    have h3 : (p : Int) ∣ sumI k (fun j => (chs (k + 1) j : Int) * pSum p j) := sumI_dvd k (fun j hj => Int.dvd_mul_of_dvd_right (ih j hj (by omega)))
    have h4 : (p : Int) ∣ (p : Int) ^ (k + 1) := ⟨(p : Int) ^ k, by rw [Int.pow_succ, Int.mul_comm]⟩
    have h5 : (p : Int) ∣ ((k + 1 : Nat) : Int) * pSum p k := by
      have := Int.dvd_sub h4 h3
      rwa [h2, show ∀ x y : Int, x + y - x = y from fun x y => by omega] at this
    rcases isP_dvd hp h5 with h6 | h6
    · have := Int.le_of_dvd (by omega) h6
      omega
    · exact h6
/-- There is a number whose k-th power is not 1. -/
theorem no_one {p k : Nat} (hp : isP p) (hk : 1 ≤ k) (hk2 : k + 1 < p) : ∃ x : Nat, 1 ≤ x ∧ x < p ∧ ¬ cg p ((x : Int) ^ k) 1 := by
  rcases Classical.em (∃ x : Nat, 1 ≤ x ∧ x < p ∧ ¬ cg p ((x : Int) ^ k) 1) with h | h
  · exact h
  · exfalso
    have h1 : ∀ x : Nat, 1 ≤ x → x < p → cg p ((x : Int) ^ k) 1 := fun x a b => by
      rcases Classical.em (cg p ((x : Int) ^ k) 1) with h2 | h2
      · exact h2
      · exact absurd ⟨x, a, b, h2⟩ h
    have h2 : ∀ m, m < p → cg p (sumI (m + 1) (fun x => (x : Int) ^ k)) m := by
      intro m
      induction m with
      | zero =>
        intro _
        obtain ⟨j, rfl⟩ : ∃ j, k = j + 1 := ⟨k - 1, by omega⟩
        show cg p (0 + ((0 : Nat) : Int) ^ (j + 1)) 0
        rw [Int.pow_succ]; simp; exact cg.refl _ _
      | succ m ih =>
        intro hm
        have a := ih (by omega)
        have b := h1 (m + 1) (by omega) hm
        unfold cg at *
        rw [sumI]
        have h3 := Int.dvd_add a b
        have e : ∀ S P : Int, S - (m : Int) + (P - 1) = S + P - ((m + 1 : Nat) : Int) := fun S P => by omega
        rwa [e] at h3
    have h3 := h2 (p - 1) (by omega)
    rw [show p - 1 + 1 = p by omega] at h3
    have h4 := pSum_dvd hp k hk2
    unfold cg at h3
    have h5 := Int.dvd_sub h4 h3
    unfold pSum at h5
    rw [show ∀ x y : Int, x - (x - y) = y from fun x y => by omega] at h5
    have := Int.le_of_dvd (by omega) h5
    omega

/-- A prime number with the rest 1 by 3 divides a number t t + t + 1. -/
theorem third_root {p : Nat} (hp : isP p) (h3 : p % 3 = 1) : ∃ t : Int, (p : Int) ∣ t * t + t + 1 := by
  have h0 := hp.1
  obtain ⟨x, hx1, hx2, hx⟩ := no_one hp (k := (p - 1) / 3) (by omega) (by omega)
  have hpx : ¬ (p : Int) ∣ (x : Int) := fun h => by
    have := Int.le_of_dvd (by omega) h
    omega
  have hf := fermat1 hp hpx
  have e : p - 1 = (p - 1) / 3 * 3 := by omega
  rw [e, Int.pow_mul] at hf
  refine ⟨(x : Int) ^ ((p - 1) / 3), ?_⟩
  generalize (x : Int) ^ ((p - 1) / 3) = t at hf hx
  unfold cg at hf hx
  have e2 : t ^ 3 - 1 = (t - 1) * (t * t + t + 1) := by
    rw [show t ^ 3 = t * t * t by rw [Int.pow_succ, Int.pow_succ, Int.pow_succ]; simp]
    simp only [Int.mul_add, Int.sub_mul, Int.mul_assoc]; omega
  rw [e2] at hf
  exact (isP_dvd hp hf).resolve_left hx
/-- It is a norm. -/
theorem split {p : Nat} (hp : isP p) (h3 : p % 3 = 1) : ∃ a b : Int, nrm a b = p := by
  have h0 := hp.1
  obtain ⟨t, ht⟩ := third_root hp h3
  obtain ⟨g, s, u, g1, g2, g3⟩ := Es.bezout (Es.int p) ⟨t, -1⟩
  have hn : Es.nm ⟨t, -1⟩ = t * t + t + 1 := by show nrm t (-1) = _; unfold nrm; omega
  have h1 := Es.dv_nm g1
  rw [Es.nm_int] at h1
  have hg := Es.nm_nn g
  obtain ⟨d, hd⟩ := Int.eq_ofNat_of_zero_le hg
  rw [hd, ← Int.natCast_mul, Int.natCast_dvd_natCast] at h1
  rcases dvd_sq hp h1 with e | e | e
  · exfalso
    subst e
    have h2 : Es.dv (Es.int p) (Es.mul g (Es.conj ⟨t, -1⟩)) := by
      rw [g3, Es.add_mul]
      refine Es.dv_add (Es.dv_mul (Es.dv_mulr (Es.dv_refl _) s) _) ?_
      rw [Es.mul_assoc, Es.mul_conj, hn]
      refine Es.dv_mulr ?_ u
      exact Es.dv_int.2 ⟨ht, Int.dvd_zero _⟩
    have h3 : Es.dv (Es.int p) (Es.conj ⟨t, -1⟩) := by
      have h4 := Es.dv_mulr h2 (Es.conj g)
      rw [← Es.mul_assoc, Es.mul_comm (Es.conj g), Es.mul_conj, hd] at h4
      have e1 : Es.mul (Es.int ((1 : Nat) : Int)) (Es.conj ⟨t, -1⟩) = Es.conj ⟨t, -1⟩ := Es.one_mul _
      rwa [e1] at h4
    exact isP_not_one hp (Es.dv_int.1 h3).2
  · subst e
    exact ⟨g.a, g.b, hd⟩
  · exfalso
    have hne : g ≠ Es.int 0 := by
      intro h
      rw [h, Es.nm_int] at hd
      have : 0 < p * p := Nat.mul_pos (by omega) (by omega)
      omega
    have hnp : Es.nm (Es.int p) = Es.nm g := by rw [Es.nm_int, hd, e, Int.natCast_mul]
    obtain ⟨v, hv, hx⟩ := Es.dv_back g1 hnp hne
    have : Es.dv (Es.int p) g := ⟨Es.conj v, by rw [hx, Es.mul_assoc, Es.mul_conj, hv, Es.mul_one]⟩
    have := (Es.dv_int.1 (Es.dv_trans this g2)).2
    exact isP_not_one hp (by have := Int.dvd_neg.2 this; simpa using this)
/-- A prime number with the rest 2 by 3 divides a norm only if it divides both Parts. -/
theorem inert {q : Nat} (hq : isP q) (h3 : q % 3 = 2) {a b : Int} (h : (q : Int) ∣ nrm a b) : (q : Int) ∣ a ∧ (q : Int) ∣ b := by
  have h0 := hq.1
  have hab : (q : Int) ∣ b → (q : Int) ∣ a := by
    intro hb
    have h1 : (q : Int) ∣ a * a := by
      have h2 : (q : Int) ∣ a * b - b * b := Int.dvd_sub (Int.dvd_mul_of_dvd_right hb) (Int.dvd_mul_of_dvd_right hb)
      have := Int.dvd_add h h2
      unfold nrm at this
      rwa [show a * a - a * b + b * b + (a * b - b * b) = a * a by omega] at this
    rcases isP_dvd hq h1 with h2 | h2 <;> exact h2
  have hba : (q : Int) ∣ a → (q : Int) ∣ b := by
    intro ha
    have h1 : (q : Int) ∣ b * b := by
      have h2 : (q : Int) ∣ a * b - a * a := Int.dvd_sub (Int.dvd_mul_of_dvd_left ha) (Int.dvd_mul_of_dvd_right ha)
      have := Int.dvd_add h h2
      unfold nrm at this
      rwa [show a * a - a * b + b * b + (a * b - a * a) = b * b by omega] at this
    rcases isP_dvd hq h1 with h2 | h2 <;> exact h2
  suffices hs : (q : Int) ∣ b from ⟨hab hs, hs⟩
  rcases Classical.em ((q : Int) ∣ b) with hb | hb
  · exact hb
  exfalso
  have ha : ¬ (q : Int) ∣ a := fun h => hb (hba h)
  have f1 := fermat1 hq ha
  have f2 := fermat1 hq hb
  obtain ⟨k, hk⟩ : ∃ k, q - 1 = 3 * k + 1 := ⟨(q - 2) / 3, by omega⟩
  rw [hk, Int.pow_succ, Int.pow_mul] at f1 f2
  have hc : cg q (a ^ 3) ((-1) * b ^ 3) := by
    unfold cg
    have e : a ^ 3 - (-1) * b ^ 3 = (a + b) * nrm a b := by
      have c3 : ∀ t : Int, t ^ 3 = t * t * t := fun t => by rw [Int.pow_succ, Int.pow_succ, Int.pow_succ]; simp
      rw [c3, c3]
      unfold nrm
      simp only [Int.mul_add, Int.add_mul, Int.mul_sub, Int.mul_assoc, Int.mul_comm b a, Int.mul_left_comm b a]; omega
    rw [e]
    exact Int.dvd_mul_of_dvd_right h
  have hc2 := hc.pow k
  rw [Int.mul_pow] at hc2
  generalize (a ^ 3) ^ k = A at f1 hc2
  have hB : ¬ (q : Int) ∣ (b ^ 3) ^ k := fun h => hb (isP_pow hq 3 (isP_pow hq k h))
  generalize (b ^ 3) ^ k = B at f2 hc2 hB
  have hs : (-1 : Int) ^ k = 1 ∨ (-1 : Int) ^ k = -1 := by
    clear hk f1 f2 hc2
    induction k with
    | zero => exact .inl rfl
    | succ k ih => rw [Int.pow_succ]; rcases ih with h | h <;> rw [h] <;> simp
  have fin : ∀ s : Int, (s = 1 ∨ s = -1) → cg q A (s * B) → False := by
    intro s hs hA
    have h1 : cg q (s * B * a) (B * b) := ((hA.mul (cg.refl _ a)).symm.trans f1).trans f2.symm
    have h2 : (q : Int) ∣ B * (s * a - b) := by
      unfold cg at h1
      rwa [show s * B * a - B * b = B * (s * a - b) by rw [Int.mul_sub, Int.mul_assoc, Int.mul_left_comm]] at h1
    have h3 := (isP_dvd hq h2).resolve_left hB
    rcases hs with rfl | rfl
    · obtain ⟨m, hm⟩ := h3
      have e : nrm a b = b * b + q * (m * (b + q * m)) := by
        have : a = b + q * m := by omega
        subst this
        unfold nrm
        simp only [Int.mul_add, Int.add_mul, Int.mul_assoc, Int.mul_comm b, Int.mul_left_comm b, Int.mul_left_comm m]; omega
      rw [e] at h
      have h4 : (q : Int) ∣ b * b := by
        have := Int.dvd_sub h ⟨m * (b + q * m), rfl⟩
        rwa [show ∀ x y : Int, x + y - y = x from fun x y => by omega] at this
      exact hb ((isP_dvd hq h4).elim id id)
    · obtain ⟨m, hm⟩ := h3
      have e : nrm a b = 3 * (b * b) + q * (m * (b + b + b + q * m)) := by
        have : a = -b - q * m := by omega
        subst this
        unfold nrm
        simp only [Int.mul_add, Int.add_mul, Int.sub_mul, Int.mul_sub, Int.neg_mul, Int.mul_neg, Int.mul_assoc, Int.mul_comm b, Int.mul_left_comm b, Int.mul_left_comm m]; omega
      rw [e] at h
      have h4 : (q : Int) ∣ 3 * (b * b) := by
        have := Int.dvd_sub h ⟨m * (b + b + b + q * m), rfl⟩
        rwa [show ∀ x y : Int, x + y - y = x from fun x y => by omega] at this
      rcases isP_dvd hq h4 with h5 | h5
      · have := Int.le_of_dvd (by omega) h5
        have h6 : q = 2 := by omega
        subst h6
        omega
      · exact hb ((isP_dvd hq h5).elim id id)
  exact fin _ hs hc2
end Go.Proofs.Ytfadlnbmpgbeaaa
