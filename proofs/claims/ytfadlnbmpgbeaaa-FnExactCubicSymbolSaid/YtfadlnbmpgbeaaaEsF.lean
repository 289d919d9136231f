/- Numbers a + b z with z z + z + 1 as 0, by reckoning: norms, quotients and rests, chosen and primary associates, greatest common divisors. Plain facts, no walk. -/
namespace Go.Proofs.Ytfadlnbmpgbeaaa
set_option linter.unusedSimpArgs false
set_option linter.unusedVariables false

theorem sq_nn (x : Int) : 0 ≤ x * x := by
  rcases Int.le_total 0 x with h | h
  · exact Int.mul_nonneg h h
  · have := Int.mul_nonneg (show 0 ≤ -x by omega) (show 0 ≤ -x by omega)
    rwa [Int.neg_mul_neg] at this
theorem sq_le {x m : Int} (h1 : -m ≤ x) (h2 : x ≤ m) : x * x ≤ m * m := by
  have h := Int.mul_nonneg (show 0 ≤ m - x by omega) (show 0 ≤ m + x by omega)
  simp only [Int.mul_add, Int.sub_mul] at h
  have := Int.mul_comm m x
  omega
theorem mul_bd {x y m k : Int} (h1 : -m ≤ x) (h2 : x ≤ m) (h3 : -k ≤ y) (h4 : y ≤ k) : -(m * k) ≤ x * y ∧ x * y ≤ m * k := by
  have a1 := Int.mul_nonneg (show 0 ≤ m - x by omega) (show 0 ≤ k - y by omega)
  have a2 := Int.mul_nonneg (show 0 ≤ m - x by omega) (show 0 ≤ k + y by omega)
  have a3 := Int.mul_nonneg (show 0 ≤ m + x by omega) (show 0 ≤ k - y by omega)
  have a4 := Int.mul_nonneg (show 0 ≤ m + x by omega) (show 0 ≤ k + y by omega)
  simp only [Int.mul_add, Int.sub_mul, Int.add_mul, Int.mul_sub] at a1 a2 a3 a4
  omega
theorem sq_lt_inv {x m : Int} (hm : 0 ≤ m) (h : x * x ≤ m * m) : -m ≤ x ∧ x ≤ m := by
  constructor
  · rcases Int.lt_or_le x (-m) with h1 | h1
    · have := Int.mul_pos (show 0 < -x - m by omega) (show 0 < m - x by omega)
      simp only [Int.mul_sub, Int.sub_mul, Int.neg_mul] at this
      have := Int.mul_comm x m
      omega
    · exact h1
  · rcases Int.lt_or_le m x with h1 | h1
    · have := Int.mul_pos (show 0 < x - m by omega) (show 0 < x + m by omega)
      simp only [Int.mul_add, Int.sub_mul] at this
      have := Int.mul_comm x m
      omega
    · exact h1

/-- The norm of a + b z. -/
def nrm (a b : Int) : Int := a * a - a * b + b * b
def tA (a b c d : Int) : Int := a * c - b * d
def tB (a b c d : Int) : Int := a * d + b * c - b * d

theorem nrm_four (a b : Int) : 4 * nrm a b = (2 * a - b) * (2 * a - b) + 3 * (b * b) := by
  unfold nrm
  rw [show 2 * a - b = a + a - b by omega]
  simp only [Int.mul_add, Int.add_mul, Int.sub_mul, Int.mul_sub, Int.mul_comm b a]; omega
theorem nrm_swap (a b : Int) : nrm b a = nrm a b := by
  unfold nrm; rw [Int.mul_comm b a]; omega
theorem nrm_nn (a b : Int) : 0 ≤ nrm a b := by
  have h1 := nrm_four a b
  have h2 := sq_nn (2 * a - b)
  have h3 := sq_nn b
  omega
theorem sq_zero {x : Int} (h : x * x ≤ 0) : x = 0 := by
  have := sq_lt_inv (x := x) (m := 0) (by omega) (by omega)
  omega
theorem nrm_zero {a b : Int} (h : nrm a b ≤ 0) : a = 0 ∧ b = 0 := by
  have h1 := nrm_four a b
  have h2 := sq_nn (2 * a - b)
  have h3 := sq_nn b
  have e := sq_zero (x := b) (by omega)
  subst e
  have := sq_zero (x := 2 * a - 0) (by omega)
  omega
theorem nrm_pos {a b : Int} (h : ¬ (a = 0 ∧ b = 0)) : 1 ≤ nrm a b := by
  rcases Int.lt_or_le (nrm a b) 1 with h1 | h1
  · exact absurd (nrm_zero (by omega)) h
  · exact h1
theorem nrm_zz : nrm 0 0 = 0 := rfl
theorem nrm_eq0 (a b : Int) : nrm a b = 0 ↔ a = 0 ∧ b = 0 := ⟨fun h => nrm_zero (by omega), fun ⟨h, k⟩ => by subst h; subst k; rfl⟩
theorem nrm_bdb {a b M : Int} (hM : 0 ≤ M) (h : 4 * nrm a b ≤ 3 * (M * M)) : -M ≤ b ∧ b ≤ M := by
  have h1 := nrm_four a b
  have h2 := sq_nn (2 * a - b)
  exact sq_lt_inv hM (by omega)
theorem nrm_bda {a b M : Int} (hM : 0 ≤ M) (h : 4 * nrm a b ≤ 3 * (M * M)) : -M ≤ a ∧ a ≤ M :=
  nrm_bdb (a := b) hM (by rw [nrm_swap]; exact h)
/-- A norm of at most 300000000 bounds the Parts. -/
theorem nrm_small {a b : Int} (h : nrm a b ≤ 300000000) : -20000 ≤ a ∧ a ≤ 20000 ∧ -20000 ≤ b ∧ b ≤ 20000 := by
  have h1 := nrm_bda (a := a) (b := b) (M := 20000) (by omega) (by omega)
  have h2 := nrm_bdb (a := a) (b := b) (M := 20000) (by omega) (by omega)
  omega
theorem nrm_le {a b M : Int} (h1 : -M ≤ a) (h2 : a ≤ M) (h3 : -M ≤ b) (h4 : b ≤ M) : nrm a b ≤ 3 * (M * M) := by
  have a1 := sq_le h1 h2
  have a2 := sq_le h3 h4
  have a3 := mul_bd h1 h2 h3 h4
  unfold nrm
  omega
theorem nrm_mul (a b c d : Int) : nrm (tA a b c d) (tB a b c d) = nrm a b * nrm c d := by
  unfold nrm tA tB
  simp only [Int.mul_add, Int.add_mul, Int.sub_mul, Int.mul_sub, Int.mul_assoc, Int.mul_comm, Int.mul_left_comm]; omega
theorem nrm_conj (c d : Int) : nrm (c - d) (-d) = nrm c d := by
  unfold nrm
  simp only [Int.mul_add, Int.add_mul, Int.sub_mul, Int.mul_sub, Int.neg_mul, Int.mul_neg, Int.neg_neg, Int.mul_comm, Int.mul_left_comm]; omega
theorem nrm_turn (a b : Int) : nrm (a - b) a = nrm a b := by
  unfold nrm
  simp only [Int.mul_add, Int.add_mul, Int.sub_mul, Int.mul_sub, Int.mul_comm, Int.mul_left_comm]; omega

/-! ### Quotients and rests -/
def qA (a b c d : Int) : Int := (2 * tA a b (c - d) (-d) + nrm c d) / (2 * nrm c d)
def qB (a b c d : Int) : Int := (2 * tB a b (c - d) (-d) + nrm c d) / (2 * nrm c d)
def rA (a b c d : Int) : Int := a - tA (qA a b c d) (qB a b c d) c d
def rB (a b c d : Int) : Int := b - tB (qA a b c d) (qB a b c d) c d

theorem rest_conjA (a b c d p q : Int) : tA (a - tA p q c d) (b - tB p q c d) (c - d) (-d) = tA a b (c - d) (-d) - p * nrm c d := by
  unfold nrm tA tB
  simp only [Int.mul_add, Int.add_mul, Int.sub_mul, Int.mul_sub, Int.neg_mul, Int.mul_neg, Int.neg_neg, Int.mul_assoc, Int.mul_comm, Int.mul_left_comm]; omega
theorem rest_conjB (a b c d p q : Int) : tB (a - tA p q c d) (b - tB p q c d) (c - d) (-d) = tB a b (c - d) (-d) - q * nrm c d := by
  unfold nrm tA tB
  simp only [Int.mul_add, Int.add_mul, Int.sub_mul, Int.mul_sub, Int.neg_mul, Int.mul_neg, Int.neg_neg, Int.mul_assoc, Int.mul_comm, Int.mul_left_comm]; omega
theorem round_bd {u N : Int} (hN : 1 ≤ N) : -N ≤ 2 * (u - (2 * u + N) / (2 * N) * N) ∧ 2 * (u - (2 * u + N) / (2 * N) * N) ≤ N := by
  have h1 := Int.mul_ediv_add_emod (2 * u + N) (2 * N)
  have h2 := Int.emod_nonneg (2 * u + N) (b := 2 * N) (by omega)
  have h3 := Int.emod_lt_of_pos (2 * u + N) (b := 2 * N) (by omega)
  rw [Int.mul_assoc, Int.mul_comm N] at h1
  omega
theorem nrm_half {x y N : Int} (h1 : -N ≤ 2 * x) (h2 : 2 * x ≤ N) (h3 : -N ≤ 2 * y) (h4 : 2 * y ≤ N) : 4 * nrm x y ≤ 3 * (N * N) := by
  have := nrm_le h1 h2 h3 h4
  have e : nrm (2 * x) (2 * y) = 4 * nrm x y := by
    unfold nrm
    rw [show 2 * x = x + x by omega, show 2 * y = y + y by omega]
    simp only [Int.mul_add, Int.add_mul]; omega
  omega
/-- A rest's norm is at most three fourths of the divisor's. -/
theorem rest_norm {a b c d : Int} (h : 1 ≤ nrm c d) : 4 * nrm (rA a b c d) (rB a b c d) ≤ 3 * nrm c d := by
  have e := nrm_mul (rA a b c d) (rB a b c d) (c - d) (-d)
  rw [nrm_conj] at e
  unfold rA rB at e ⊢
  rw [rest_conjA, rest_conjB] at e
  have h1 := round_bd (u := tA a b (c - d) (-d)) h
  have h2 := round_bd (u := tB a b (c - d) (-d)) h
  have h3 := nrm_half (N := nrm c d) h1.1 h1.2 h2.1 h2.2
  unfold qA qB at e ⊢
  rw [e] at h3
  generalize nrm (a - _) _ = R at h3 ⊢
  generalize nrm c d = N at h h3 ⊢
  rcases Int.lt_or_le (3 * N) (4 * R) with h4 | h4
  · have := Int.mul_lt_mul_of_pos_right h4 (show 0 < N by omega)
    rw [Int.mul_assoc, Int.mul_assoc] at this
    omega
  · exact h4

/-! ### Chosen associates -/
def isCh (a b : Int) : Prop := 1 ≤ a ∧ 0 ≤ b ∧ b < a
instance (a b : Int) : Decidable (isCh a b) := by unfold isCh; infer_instance
/-- How often a number is to be turned. -/
def cst (a b : Int) : Nat := if 1 ≤ a ∧ 0 ≤ b ∧ b < a then 0 else if 0 ≤ a ∧ b ≤ -1 then 1 else if b ≤ a ∧ a ≤ -1 then 2 else if a ≤ -1 ∧ b ≤ 0 then 3 else if a ≤ 0 ∧ 1 ≤ b then 4 else 5
def chA (a b : Int) : Int := if 1 ≤ a ∧ 0 ≤ b ∧ b < a then a else if 0 ≤ a ∧ b ≤ -1 then a - b else if b ≤ a ∧ a ≤ -1 then -b else if a ≤ -1 ∧ b ≤ 0 then -a else if a ≤ 0 ∧ 1 ≤ b then b - a else b
def chB (a b : Int) : Int := if 1 ≤ a ∧ 0 ≤ b ∧ b < a then b else if 0 ≤ a ∧ b ≤ -1 then a else if b ≤ a ∧ a ≤ -1 then a - b else if a ≤ -1 ∧ b ≤ 0 then -b else if a ≤ 0 ∧ 1 ≤ b then -a else b - a
theorem cst_turn {a b : Int} (h : ¬ (a = 0 ∧ b = 0)) (h' : ¬ isCh a b) : cst (a - b) a + 1 = cst a b := by
  unfold isCh at h'; unfold cst; repeat' split
  all_goals omega
theorem chA_turn {a b : Int} (h : ¬ (a = 0 ∧ b = 0)) : chA (a - b) a = chA a b := by
  unfold chA; repeat' split
  all_goals omega
theorem chB_turn {a b : Int} (h : ¬ (a = 0 ∧ b = 0)) : chB (a - b) a = chB a b := by
  unfold chB; repeat' split
  all_goals omega
theorem ch_self {a b : Int} (h : isCh a b) : chA a b = a ∧ chB a b = b := by
  unfold isCh at h; unfold chA chB; rw [if_pos h, if_pos h]; exact ⟨rfl, rfl⟩
theorem ch_is {a b : Int} (h : ¬ (a = 0 ∧ b = 0)) : isCh (chA a b) (chB a b) := by
  unfold isCh chA chB; repeat' split
  all_goals omega
theorem turn_ne {a b : Int} (h : ¬ (a = 0 ∧ b = 0)) : ¬ (a - b = 0 ∧ a = 0) := by omega
theorem ch_bd {a b M : Int} (h1 : -M ≤ a) (h2 : a ≤ M) (h3 : -M ≤ b) (h4 : b ≤ M) : -(2 * M) ≤ chA a b ∧ chA a b ≤ 2 * M ∧ -(2 * M) ≤ chB a b ∧ chB a b ≤ 2 * M := by
  unfold chA chB; repeat' split
  all_goals omega
/-- The k-th associate. -/
def asA : Nat → Int → Int → Int
  | 0, a, _ => a
  | k + 1, a, b => asA k (a - b) a
def asB : Nat → Int → Int → Int
  | 0, _, b => b
  | k + 1, a, b => asB k (a - b) a
theorem ch_as {a b : Int} (h : ¬ (a = 0 ∧ b = 0)) : ∃ k, k < 6 ∧ chA a b = asA k a b ∧ chB a b = asB k a b := by
  by_cases h0 : 1 ≤ a ∧ 0 ≤ b ∧ b < a
  · exact ⟨0, by omega, by unfold chA; rw [if_pos h0]; rfl, by unfold chB; rw [if_pos h0]; rfl⟩
  by_cases h1 : 0 ≤ a ∧ b ≤ -1
  · exact ⟨1, by omega, by unfold chA; rw [if_neg h0, if_pos h1]; rfl, by unfold chB; rw [if_neg h0, if_pos h1]; rfl⟩
  by_cases h2 : b ≤ a ∧ a ≤ -1
  · exact ⟨2, by omega, by unfold chA; rw [if_neg h0, if_neg h1, if_pos h2]; simp only [asA]; omega, by unfold chB; rw [if_neg h0, if_neg h1, if_pos h2]; rfl⟩
  by_cases h3 : a ≤ -1 ∧ b ≤ 0
  · exact ⟨3, by omega, by unfold chA; rw [if_neg h0, if_neg h1, if_neg h2, if_pos h3]; simp only [asA]; omega, by unfold chB; rw [if_neg h0, if_neg h1, if_neg h2, if_pos h3]; simp only [asB]; omega⟩
  by_cases h4 : a ≤ 0 ∧ 1 ≤ b
  · exact ⟨4, by omega, by unfold chA; rw [if_neg h0, if_neg h1, if_neg h2, if_neg h3, if_pos h4]; simp only [asA]; omega, by unfold chB; rw [if_neg h0, if_neg h1, if_neg h2, if_neg h3, if_pos h4]; simp only [asB]; omega⟩
  · exact ⟨5, by omega, by unfold chA; rw [if_neg h0, if_neg h1, if_neg h2, if_neg h3, if_neg h4]; simp only [asA]; omega, by unfold chB; rw [if_neg h0, if_neg h1, if_neg h2, if_neg h3, if_neg h4]; simp only [asB]; omega⟩
theorem as_ch (k : Nat) {a b : Int} (h : ¬ (a = 0 ∧ b = 0)) : chA (asA k a b) (asB k a b) = chA a b ∧ chB (asA k a b) (asB k a b) = chB a b := by
  induction k generalizing a b with
  | zero => exact ⟨rfl, rfl⟩
  | succ k ih =>
    have := ih (turn_ne h)
    exact ⟨this.1.trans (chA_turn h), this.2.trans (chB_turn h)⟩
theorem as_six (a b : Int) : asA 6 a b = a ∧ asB 6 a b = b := by simp only [asA, asB]; omega
theorem as_add (k m : Nat) (a b : Int) : asA (k + m) a b = asA k (asA m a b) (asB m a b) ∧ asB (k + m) a b = asB k (asA m a b) (asB m a b) := by
  induction m generalizing a b with
  | zero => exact ⟨rfl, rfl⟩
  | succ m ih => exact ih (a - b) a
theorem as_mod (k : Nat) (a b : Int) : asA (k + 6) a b = asA k a b ∧ asB (k + 6) a b = asB k a b := by
  have := as_add k 6 a b
  rwa [(as_six a b).1, (as_six a b).2] at this
/-- Associate: one is turned into the other. -/
def asoc (a b c d : Int) : Prop := ∃ k, k < 6 ∧ asA k a b = c ∧ asB k a b = d
theorem asoc_ch {a b c d : Int} (h : ¬ (a = 0 ∧ b = 0)) (h' : ¬ (c = 0 ∧ d = 0)) : asoc a b c d ↔ chA a b = chA c d ∧ chB a b = chB c d := by
  constructor
  · rintro ⟨k, _, rfl, rfl⟩
    exact ⟨(as_ch k h).1.symm, (as_ch k h).2.symm⟩
  · rintro ⟨e1, e2⟩
    obtain ⟨k, hk, k1, k2⟩ := ch_as h
    obtain ⟨m, hm, m1, m2⟩ := ch_as h'
    have hx : asA k a b = asA m c d ∧ asB k a b = asB m c d := ⟨by rw [← k1, ← m1, e1], by rw [← k2, ← m2, e2]⟩
    have e : asA (6 - m + k) a b = c ∧ asB (6 - m + k) a b = d := by
      have h1 := as_add (6 - m) k a b
      have h2 := as_add (6 - m) m c d
      rw [show 6 - m + m = 6 by omega, (as_six c d).1, (as_six c d).2] at h2
      rw [hx.1, hx.2] at h1
      exact ⟨h1.1.trans h2.1.symm, h1.2.trans h2.2.symm⟩
    rcases Nat.lt_or_ge (6 - m + k) 6 with h6 | h6
    · exact ⟨_, h6, e.1, e.2⟩
    · have h7 := as_mod (6 - m + k - 6) a b
      rw [show 6 - m + k - 6 + 6 = 6 - m + k by omega] at h7
      exact ⟨6 - m + k - 6, by omega, h7.1.symm.trans e.1, h7.2.symm.trans e.2⟩

/-! ### Primary associates -/
def isPr (a b : Int) : Prop := a % 3 = 2 ∧ b % 3 = 0
def pst (a b : Int) : Nat := if a % 3 = 2 ∧ b % 3 = 0 then 0 else if a % 3 = 0 ∧ b % 3 = 1 then 1 else if a % 3 = 1 ∧ b % 3 = 1 then 2 else if a % 3 = 1 then 3 else if a % 3 = 0 then 4 else 5
def prA (a b : Int) : Int := if a % 3 = 2 ∧ b % 3 = 0 then a else if a % 3 = 0 ∧ b % 3 = 1 then a - b else if a % 3 = 1 ∧ b % 3 = 1 then -b else if a % 3 = 1 then -a else if a % 3 = 0 then b - a else b
def prB (a b : Int) : Int := if a % 3 = 2 ∧ b % 3 = 0 then b else if a % 3 = 0 ∧ b % 3 = 1 then a else if a % 3 = 1 ∧ b % 3 = 1 then a - b else if a % 3 = 1 then -b else if a % 3 = 0 then -a else b - a
theorem nrm_three (a b : Int) : nrm a b % 3 = 0 ↔ (a + b) % 3 = 0 := by
  have e : nrm a b = (a + b) * (a + b) - 3 * (a * b) := by
    unfold nrm
    simp only [Int.mul_add, Int.add_mul, Int.mul_comm b a]; omega
  have h3 : (a + b) % 3 = 0 ∨ (a + b) % 3 = 1 ∨ (a + b) % 3 = 2 := by omega
  have h4 : (a + b) * (a + b) % 3 = (a + b) % 3 * ((a + b) % 3) % 3 := Int.mul_emod _ _ _
  rw [e]
  rcases h3 with h | h | h <;> rw [h] at h4 ⊢ <;> omega
theorem pst_turn {a b : Int} (h : ¬ (a + b) % 3 = 0) (h' : ¬ isPr a b) : pst (a - b) a + 1 = pst a b := by
  unfold isPr at h'; unfold pst; repeat' split
  all_goals omega
theorem pr_turn {a b : Int} (h : ¬ (a + b) % 3 = 0) : prA (a - b) a = prA a b ∧ prB (a - b) a = prB a b := by
  constructor
  · unfold prA; repeat' split
    all_goals omega
  · unfold prB; repeat' split
    all_goals omega
theorem pr_self {a b : Int} (h : isPr a b) : prA a b = a ∧ prB a b = b := by
  unfold isPr at h; unfold prA prB; rw [if_pos h, if_pos h]; exact ⟨rfl, rfl⟩
theorem turn3 {a b : Int} (h : ¬ (a + b) % 3 = 0) : ¬ (a - b + a) % 3 = 0 := by omega
theorem pr_bd {a b M : Int} (h1 : -M ≤ a) (h2 : a ≤ M) (h3 : -M ≤ b) (h4 : b ≤ M) : -(2 * M) ≤ prA a b ∧ prA a b ≤ 2 * M ∧ -(2 * M) ≤ prB a b ∧ prB a b ≤ 2 * M := by
  unfold prA prB; repeat' split
  all_goals omega

/-! ### Greatest common divisors -/
def gcF : Nat → Int → Int → Int → Int → Int × Int
  | 0, a, b, _, _ => (a, b)
  | k + 1, a, b, c, d => if c = 0 ∧ d = 0 then (a, b) else gcF k c d (rA a b c d) (rB a b c d)
theorem gcF_zero (k : Nat) (a b : Int) : gcF k a b 0 0 = (a, b) := by
  cases k with
  | zero => rfl
  | succ k => simp [gcF]
theorem gcF_step {F : Nat} {a b c d : Int} (h : ¬ (c = 0 ∧ d = 0)) (hF : (nrm c d).toNat ≤ F) :
    ∃ F', F = F' + 1 ∧ gcF F a b c d = gcF F' c d (rA a b c d) (rB a b c d) ∧ (nrm (rA a b c d) (rB a b c d)).toNat ≤ F' ∧ (nrm (rA a b c d) (rB a b c d)).toNat < (nrm c d).toNat := by
  have h1 := nrm_pos h
  have h2 := rest_norm (a := a) (b := b) h1
  have h3 := nrm_nn (rA a b c d) (rB a b c d)
  obtain ⟨F', rfl⟩ : ∃ F', F = F' + 1 := ⟨F - 1, by omega⟩
  exact ⟨F', rfl, by rw [gcF, if_neg h], by omega, by omega⟩
theorem gcF_ne (k : Nat) {a b c d : Int} (hk : (nrm c d).toNat ≤ k) (h : ¬ (a = 0 ∧ b = 0) ∨ ¬ (c = 0 ∧ d = 0)) : ¬ ((gcF k a b c d).1 = 0 ∧ (gcF k a b c d).2 = 0) := by
  induction k generalizing a b c d with
  | zero =>
    have h1 := nrm_nn c d
    obtain ⟨rfl, rfl⟩ := nrm_zero (a := c) (b := d) (by omega)
    rcases h with h | h
    · exact h
    · exact absurd ⟨rfl, rfl⟩ h
  | succ k ih =>
    by_cases h0 : c = 0 ∧ d = 0
    · obtain ⟨rfl, rfl⟩ := h0
      rw [gcF_zero]
      rcases h with h | h
      · exact h
      · exact absurd ⟨rfl, rfl⟩ h
    · obtain ⟨F', e, e2, h3, _⟩ := gcF_step (a := a) (b := b) h0 hk
      obtain rfl : F' = k := by omega
      rw [e2]
      exact ih h3 (.inl h0)
theorem gcF_norm (k : Nat) {a b c d M : Int} (hk : (nrm c d).toNat ≤ k) (h : nrm a b ≤ M) (h' : nrm c d ≤ M) : nrm (gcF k a b c d).1 (gcF k a b c d).2 ≤ M := by
  induction k generalizing a b c d with
  | zero => exact h
  | succ k ih =>
    by_cases h0 : c = 0 ∧ d = 0
    · obtain ⟨rfl, rfl⟩ := h0
      rw [gcF_zero]; exact h
    · obtain ⟨F', e, e2, h3, h4⟩ := gcF_step (a := a) (b := b) h0 hk
      obtain rfl : F' = k := by omega
      rw [e2]
      exact ih h3 h' (by omega)
end Go.Proofs.Ytfadlnbmpgbeaaa
