/- Residues up to 40: places, products, inverses; Parts at residues; products of elements, by reckoning and by rule. Plain facts, no walk. -/
import Derived.Test.YtnhpodlcgkgpbaaGalZ
namespace Go.Proofs.Ytnhpodlcgkgpbaa
open Go.RowKit Go.ChangeShapes Go.Sort
set_option linter.unusedVariables false
set_option linter.unusedSimpArgs false

/-- Facts of residues up to 40. -/
theorem res_at40 : ∀ n, n < 41 → 1 ≤ n → ∀ k, k < n → gcdI (((k : Nat) : Int) + 1) n = 1 → res n (phiTo n k) = k + 1 := by decide +kernel
theorem res_ok40 : ∀ n, n < 41 → 1 ≤ n → ∀ k, k < phiN n → 1 ≤ res n k ∧ res n k ≤ n ∧ Nat.gcd (res n k) n = 1 := by decide +kernel
theorem phiTo_lt40 : ∀ n, n < 41 → 1 ≤ n → ∀ k, k < n → gcdI (((k : Nat) : Int) + 1) n = 1 → phiTo n k < phiN n := by decide +kernel
theorem res_pl40 : ∀ n, n < 41 → 1 ≤ n → ∀ k, k < phiN n → phiTo n (res n k - 1) = k := by decide +kernel
theorem phi_le40 : ∀ n, n < 41 → phiN n ≤ 39 := by decide +kernel
theorem phi_pos40 : ∀ n, n < 41 → 1 ≤ n → 0 < phiN n := by decide +kernel
/-- The inverse of a residue. -/
def invR (n a : Nat) : Nat := ((List.range n).find? (fun b => a * b % n == 1)).getD 1
theorem inv_ok40 : ∀ n, n < 41 → 2 ≤ n → ∀ k, k < phiN n → res n k * invR n (res n k) % n = 1 ∧ invR n (res n k) < n ∧ 1 ≤ invR n (res n k) := by decide +kernel
theorem inv_first40 : ∀ n, n < 41 → 2 ≤ n → ∀ k, k < phiN n → ∀ b, b < invR n (res n k) → ¬ res n k * b % n = 1 := by decide +kernel
section
variable {n : Nat}
theorem res_lt40 (h : n < 41) (h2 : 2 ≤ n) {k : Nat} (hk : k < phiN n) : 1 ≤ res n k ∧ res n k < n ∧ Nat.gcd (res n k) n = 1 := by
  obtain ⟨a, b, c⟩ := res_ok40 n h (by omega) k hk
  refine ⟨a, ?_, c⟩
  rcases Nat.lt_or_ge (res n k) n with g | g
  · exact g
  · have : res n k = n := by omega
    rw [this, Nat.gcd_self] at c
    omega
theorem res_inj40 (h : n < 41) (h2 : 2 ≤ n) {j k : Nat} (hj : j < phiN n) (hk : k < phiN n) (e : res n j = res n k) : j = k := by
  rw [← res_pl40 n h (by omega) j hj, e, res_pl40 n h (by omega) k hk]
/-- The place of a residue. -/
def plR (n a : Nat) : Nat := phiTo n (a - 1)
theorem plR_ok (h : n < 41) (h2 : 2 ≤ n) {a : Nat} (h1 : 1 ≤ a) (ha : a < n) (hg : Nat.gcd a n = 1) : plR n a < phiN n ∧ res n (plR n a) = a := by
  have e : gcdI (((a - 1 : Nat) : Int) + 1) n = 1 := by
    unfold gcdI
    rw [show (((a - 1 : Nat) : Int) + 1).toNat = a by omega, Int.toNat_natCast, hg]; rfl
  refine ⟨phiTo_lt40 n h (by omega) (a - 1) (by omega) e, ?_⟩
  unfold plR
  rw [res_at40 n h (by omega) (a - 1) (by omega) e]
  omega
theorem cop_mod {a b : Nat} (h2 : 2 ≤ n) (ha : Nat.gcd a n = 1) (hb : Nat.gcd b n = 1) : 1 ≤ a * b % n ∧ a * b % n < n ∧ Nat.gcd (a * b % n) n = 1 := by
  have hc : Nat.gcd (a * b) n = 1 := Nat.Coprime.mul_left ha hb
  have hm : Nat.gcd (a * b % n) n = 1 := by rw [← Nat.gcd_rec, Nat.gcd_comm]; exact hc
  refine ⟨?_, Nat.mod_lt _ (by omega), hm⟩
  rcases Nat.eq_zero_or_pos (a * b % n) with g | g
  · rw [g, Nat.gcd_zero_left] at hm; omega
  · exact g
theorem cop_of_one {a b : Nat} (h2 : 2 ≤ n) (h : a * b % n = 1) : Nat.gcd b n = 1 := by
  have h1 : Nat.gcd b n ∣ a * b % n := (Nat.dvd_mod_iff (Nat.gcd_dvd_right b n)).2 (Nat.dvd_trans (Nat.gcd_dvd_left b n) (Nat.dvd_mul_left b a))
  rw [h] at h1
  exact Nat.dvd_one.1 h1
/-- Numbers with the same product with a residue. -/
theorem cancel {a c b d : Nat} (h : a * c % n = 1) (hb : b < n) (hd : d < n) (e : a * b % n = a * d % n) : b = d := by
  have f : ∀ x, x < n → c * (a * x % n) % n = x := fun x hx => by
    rw [Nat.mul_mod, Nat.mod_mod, ← Nat.mul_mod, show c * (a * x) = (a * c) * x by rw [← Nat.mul_assoc, Nat.mul_comm c a], Nat.mul_mod, h, Nat.one_mul, Nat.mod_mod, Nat.mod_eq_of_lt hx]
  rw [← f b hb, e, f d hd]
/-- The place of the product; the place whose product with i is j; the place of the inverse. -/
def jxR (n i k : Nat) : Nat := plR n (res n i * res n k % n)
def kxR (n i j : Nat) : Nat := plR n (invR n (res n i) * res n j % n)
def ivR (n i : Nat) : Nat := plR n (invR n (res n i))
theorem inv_cop (h : n < 41) (h2 : 2 ≤ n) {i : Nat} (hi : i < phiN n) : Nat.gcd (invR n (res n i)) n = 1 := cop_of_one h2 (inv_ok40 n h h2 i hi).1
theorem jx_ok (h : n < 41) (h2 : 2 ≤ n) {i k : Nat} (hi : i < phiN n) (hk : k < phiN n) : jxR n i k < phiN n ∧ res n (jxR n i k) = res n i * res n k % n := by
  obtain ⟨a, b, c⟩ := cop_mod h2 (res_lt40 h h2 hi).2.2 (res_lt40 h h2 hk).2.2
  exact plR_ok h h2 a b c
theorem kx_ok (h : n < 41) (h2 : 2 ≤ n) {i j : Nat} (hi : i < phiN n) (hj : j < phiN n) : kxR n i j < phiN n ∧ res n (kxR n i j) = invR n (res n i) * res n j % n := by
  obtain ⟨a, b, c⟩ := cop_mod h2 (inv_cop h h2 hi) (res_lt40 h h2 hj).2.2
  exact plR_ok h h2 a b c
theorem iv_ok (h : n < 41) (h2 : 2 ≤ n) {i : Nat} (hi : i < phiN n) : ivR n i < phiN n ∧ res n (ivR n i) = invR n (res n i) := by
  have := inv_ok40 n h h2 i hi
  exact plR_ok h h2 this.2.2 this.2.1 (inv_cop h h2 hi)
theorem kx_mul (h : n < 41) (h2 : 2 ≤ n) {i j : Nat} (hi : i < phiN n) (hj : j < phiN n) : res n i * res n (kxR n i j) % n = res n j := by
  rw [(kx_ok h h2 hi hj).2, Nat.mul_mod, Nat.mod_mod, ← Nat.mul_mod, ← Nat.mul_assoc, Nat.mul_mod, (inv_ok40 n h h2 i hi).1, Nat.one_mul, Nat.mod_mod, Nat.mod_eq_of_lt (res_lt40 h h2 hj).2.1]
theorem jx_kx (h : n < 41) (h2 : 2 ≤ n) {i j : Nat} (hi : i < phiN n) (hj : j < phiN n) : jxR n i (kxR n i j) = j := by
  have hk := kx_ok h h2 hi hj
  have hx := jx_ok h h2 hi hk.1
  exact res_inj40 h h2 hx.1 hj (by rw [hx.2, kx_mul h h2 hi hj])
theorem kx_jx (h : n < 41) (h2 : 2 ≤ n) {i k : Nat} (hi : i < phiN n) (hk : k < phiN n) : kxR n i (jxR n i k) = k := by
  have hx := jx_ok h h2 hi hk
  have hy := kx_ok h h2 hi hx.1
  refine res_inj40 h h2 hy.1 hk (cancel (inv_ok40 n h h2 i hi).1 (res_lt40 h h2 hy.1).2.1 (res_lt40 h h2 hk).2.1 ?_)
  rw [kx_mul h h2 hi hx.1, hx.2]
theorem iv_iv (h : n < 41) (h2 : 2 ≤ n) {i : Nat} (hi : i < phiN n) : ivR n (ivR n i) = i := by
  have hx := iv_ok h h2 hi
  have hy := iv_ok h h2 hx.1
  have e1 := (inv_ok40 n h h2 _ hx.1).1
  rw [← hy.2] at e1
  refine res_inj40 h h2 hy.1 hi (cancel (inv_ok40 n h h2 _ hx.1).1 (res_lt40 h h2 hy.1).2.1 (res_lt40 h h2 hi).2.1 ?_)
  rw [e1, hx.2, Nat.mul_comm, (inv_ok40 n h h2 i hi).1]
/-- The inverse of j divided by i. -/
theorem iv_kx (h : n < 41) (h2 : 2 ≤ n) {i j : Nat} (hi : i < phiN n) (hj : j < phiN n) : res n (ivR n (kxR n i j)) = res n i * res n (ivR n j) % n := by
  have hk := kx_ok h h2 hi hj
  have hv := iv_ok h h2 hk.1
  have hw := iv_ok h h2 hj
  have e0 := (inv_ok40 n h h2 _ hk.1).1
  rw [← hv.2] at e0
  refine cancel (inv_ok40 n h h2 _ hk.1).1 (res_lt40 h h2 hv.1).2.1 (Nat.mod_lt _ (by omega)) ?_
  rw [e0, Nat.mul_mod, Nat.mod_mod, ← Nat.mul_mod, ← Nat.mul_assoc, Nat.mul_mod, Nat.mul_comm (res n (kxR n i j)), kx_mul h h2 hi hj, Nat.mul_mod_mod, hw.2, (inv_ok40 n h h2 j hj).1]

/-- Parts at residues: those at the first i places laid. -/
def opR (n : Nat) (f : Nat → Int) : Nat → Nat → Int
  | 0 => fun _ => 0
  | i + 1 => fun a => if a = res n i then f i else opR n f i a
theorem opR_off {f : Nat → Int} {a : Nat} : ∀ {L : Nat}, (∀ j, j < L → a ≠ res n j) → opR n f L a = 0
  | 0, _ => rfl
  | L + 1, h => by show (if a = res n L then f L else opR n f L a) = 0; rw [if_neg (h L (Nat.lt_succ_self L)), opR_off (fun j hj => h j (Nat.lt_succ_of_lt hj))]
theorem opR_at (h : n < 41) (h2 : 2 ≤ n) {f : Nat → Int} {j : Nat} : ∀ {L : Nat}, L ≤ phiN n → j < L → opR n f L (res n j) = f j
  | 0, _, hj => absurd hj (Nat.not_lt_zero _)
  | L + 1, hL, hj => by
    show (if res n j = res n L then f L else opR n f L (res n j)) = f j
    by_cases e : res n j = res n L
    · rw [if_pos e, res_inj40 h h2 (by omega) (by omega) e]
    · have : j ≠ L := fun g => e (by rw [g])
      rw [if_neg e, opR_at h h2 (by omega) (by omega)]
theorem opR_cases {f : Nat → Int} (L : Nat) (a : Nat) : (∃ j, j < L ∧ a = res n j) ∨ (∀ j, j < L → a ≠ res n j) := by
  induction L with
  | zero => exact .inr (fun _ h => absurd h (Nat.not_lt_zero _))
  | succ L ih =>
    rcases ih with ⟨j, hj, e⟩ | ih
    · exact .inl ⟨j, by omega, e⟩
    · by_cases e : a = res n L
      · exact .inl ⟨L, by omega, e⟩
      · exact .inr (fun j hj => by
          rcases Nat.lt_or_ge j L with g | g
          · exact ih j g
          · obtain rfl : j = L := by omega
            exact e)
theorem opR_congr {f g : Nat → Int} : ∀ {L : Nat}, (∀ j, j < L → f j = g j) → opR n f L = opR n g L
  | 0, _ => rfl
  | L + 1, h => by
    funext a
    show (if a = res n L then f L else opR n f L a) = (if a = res n L then g L else opR n g L a)
    rw [h L (Nat.lt_succ_self L), opR_congr (fun j hj => h j (Nat.lt_succ_of_lt hj))]
/-- What has its numbers at residues and 0 elsewhere. -/
theorem opR_eq (h : n < 41) (h2 : 2 ≤ n) {f : Nat → Int} {L : Nat} (hL : L ≤ phiN n) {F : Nat → Int} (h1 : ∀ j, j < L → F (res n j) = f j) (h0 : ∀ a, (∀ j, j < L → a ≠ res n j) → F a = 0) : F = opR n f L := by
  funext a
  rcases opR_cases (n := n) (f := f) L a with ⟨j, hj, rfl⟩ | ha
  · rw [opR_at h h2 hL hj, h1 j hj]
  · rw [opR_off ha, h0 a ha]
theorem opR_bd {f : Nat → Int} {M : Int} (hM : 0 ≤ M) : ∀ {L : Nat}, Within f L M → ∀ a, -M ≤ opR n f L a ∧ opR n f L a ≤ M
  | 0, _, a => by show -M ≤ 0 ∧ 0 ≤ M; omega
  | L + 1, h, a => by
    show -M ≤ (if a = res n L then f L else opR n f L a) ∧ (if a = res n L then f L else opR n f L a) ≤ M
    split
    · exact h L (Nat.lt_succ_self L)
    · exact opR_bd hM (fun j hj => h j (Nat.lt_succ_of_lt hj)) a
theorem opR_in {f : Nat → Int} : ∀ {L : Nat}, (∀ j, j < L → inR (f j)) → ∀ a, inR (opR n f L a)
  | 0, _, a => by show inR 0; unfold inR; omega
  | L + 1, h, a => by
    show inR (if a = res n L then f L else opR n f L a)
    split
    · exact h L (Nat.lt_succ_self L)
    · exact opR_in (fun j hj => h j (Nat.lt_succ_of_lt hj)) a
theorem opR_lin {f g : Nat → Int} (k : Int) : ∀ (L a : Nat), opR n f L a + k * opR n g L a = opR n (fun j => f j + k * g j) L a
  | 0, a => by show (0 : Int) + k * 0 = 0; omega
  | L + 1, a => by
    show (if a = res n L then f L else opR n f L a) + k * (if a = res n L then g L else opR n g L a) = (if a = res n L then f L + k * g L else opR n (fun j => f j + k * g j) L a)
    split
    · rfl
    · exact opR_lin k L a
theorem opR_map {f : Nat → Int} (T : Int → Int) (hT : T 0 = 0) : ∀ (L a : Nat), T (opR n f L a) = opR n (fun j => T (f j)) L a
  | 0, a => hT
  | L + 1, a => by
    show T (if a = res n L then f L else opR n f L a) = (if a = res n L then T (f L) else opR n (fun j => T (f j)) L a)
    split
    · rfl
    · exact opR_map T hT L a
theorem sumN_point {F : Nat → Int} {x : Int} {p : Nat} (h0 : F p = 0) : ∀ {m : Nat}, p < m → sumN m (fun a => if a = p then x else F a) = sumN m F + x
  | 0, h => absurd h (Nat.not_lt_zero _)
  | m + 1, h => by
    simp only [sumN]
    by_cases e : p = m
    · subst e
      rw [if_pos rfl, h0, sumN_congr (F := fun a => if a = p then x else F a) (G := F) (fun i hi => if_neg (by omega))]
      omega
    · rw [if_neg (fun g => e g.symm), sumN_point h0 (by omega)]
      omega
theorem opR_sum (h : n < 41) (h2 : 2 ≤ n) {f : Nat → Int} : ∀ {L : Nat}, L ≤ phiN n → sumN 40 (opR n f L) = sumN L f
  | 0, _ => sumN_zero 40
  | L + 1, hL => by
    have hr := (res_lt40 h h2 (k := L) (by omega)).2.1
    have := sumN_point (F := opR n f L) (x := f L) (p := res n L) (opR_off (fun j hj e => by have := res_inj40 h h2 (by omega) (by omega) e; omega)) (m := 40) (by omega)
    show sumN 40 (fun a => if a = res n L then f L else opR n f L a) = sumN (L + 1) f
    rw [this, opR_sum h h2 (by omega)]
    rfl
/-- The Parts moved by the residue at place c: the first i laid. -/
def mvR (n : Nat) (f : Nat → Int) (c : Nat) : Nat → Nat → Int
  | 0 => fun _ => 0
  | i + 1 => fun a => if a = res n i * res n c % n then f i else mvR n f c i a
theorem mvR_at (h : n < 41) (h2 : 2 ≤ n) {f : Nat → Int} {c j : Nat} (hc : c < phiN n) : ∀ {L : Nat}, L ≤ phiN n → j < L → mvR n f c L (res n j * res n c % n) = f j
  | 0, _, hj => absurd hj (Nat.not_lt_zero _)
  | L + 1, hL, hj => by
    show (if res n j * res n c % n = res n L * res n c % n then f L else mvR n f c L (res n j * res n c % n)) = f j
    by_cases e : res n j * res n c % n = res n L * res n c % n
    · have e' := e
      rw [Nat.mul_comm, Nat.mul_comm (res n L)] at e'
      rw [if_pos e, res_inj40 h h2 (by omega) (by omega) (cancel (inv_ok40 n h h2 c hc).1 (res_lt40 h h2 (show j < phiN n by omega)).2.1 (res_lt40 h h2 (show L < phiN n by omega)).2.1 e')]
    · have : j ≠ L := fun g => e (by rw [g])
      rw [if_neg e, mvR_at h h2 hc (by omega) (by omega)]
theorem mvR_off {f : Nat → Int} {c a : Nat} : ∀ {L : Nat}, (∀ j, j < L → a ≠ res n j * res n c % n) → mvR n f c L a = 0
  | 0, _ => rfl
  | L + 1, h => by show (if a = res n L * res n c % n then f L else mvR n f c L a) = 0; rw [if_neg (h L (Nat.lt_succ_self L)), mvR_off (fun j hj => h j (Nat.lt_succ_of_lt hj))]
theorem mvR_all (h : n < 41) (h2 : 2 ≤ n) {f : Nat → Int} {c : Nat} (hc : c < phiN n) : mvR n f c (phiN n) = opR n (fun j => f (kxR n c j)) (phiN n) := by
  refine opR_eq h h2 (Nat.le_refl _) (fun j hj => ?_) (fun a ha => ?_)
  · have hk := kx_ok h h2 hc hj
    have e := kx_mul h h2 hc hj
    rw [Nat.mul_comm] at e
    rw [← e, mvR_at h h2 hc (Nat.le_refl _) hk.1]
  · refine mvR_off (fun j hj e => ?_)
    have hx := jx_ok h h2 hj hc
    exact ha _ hx.1 (by rw [e, hx.2])
/-- Products: the first i Parts of the first taken. -/
def prR (n : Nat) (f g : Nat → Int) (i j : Nat) : Int := sumN i (fun q => f q * g (kxR n q j))
/-- In the row i, the first k Parts of the second taken. -/
def prK (n : Nat) (f g : Nat → Int) (i k j : Nat) : Int := prR n f g i j + if kxR n i j < k then f i * g (kxR n i j) else 0
theorem prK_zero (f g : Nat → Int) (i j : Nat) : prK n f g i 0 j = prR n f g i j := by unfold prK; rw [if_neg (Nat.not_lt_zero _)]; omega
theorem prK_all (h : n < 41) (h2 : 2 ≤ n) {f g : Nat → Int} {i j : Nat} (hi : i < phiN n) (hj : j < phiN n) : prK n f g i (phiN n) j = prR n f g (i + 1) j := by
  unfold prK; rw [if_pos (kx_ok h h2 hi hj).1]; rfl
theorem prK_succ (h : n < 41) (h2 : 2 ≤ n) {f g : Nat → Int} {i k j : Nat} (hi : i < phiN n) (hk : k < phiN n) (hj : j < phiN n) :
    prK n f g i (k + 1) j = if j = jxR n i k then prK n f g i k (jxR n i k) + f i * g k else prK n f g i k j := by
  unfold prK
  by_cases e : j = jxR n i k
  · have e2 : kxR n i j = k := by rw [e, kx_jx h h2 hi hk]
    rw [if_pos e, ← e, e2, if_pos (Nat.lt_succ_self k), if_neg (Nat.lt_irrefl k)]
    omega
  · have e2 : kxR n i j ≠ k := fun g => e (by rw [← g, jx_kx h h2 hi hj])
    rw [if_neg e]
    by_cases e3 : kxR n i j < k
    · rw [if_pos e3, if_pos (by omega)]
    · rw [if_neg e3, if_neg (by omega)]
theorem sumR_bd {F : Nat → Int} {M : Int} : ∀ {m : Nat}, (∀ i, i < m → -M ≤ F i ∧ F i ≤ M) → -(m * M) ≤ sumN m F ∧ sumN m F ≤ m * M
  | 0, _ => by simp [sumN]
  | m + 1, h => by
    have a := sumR_bd (m := m) (fun i hi => h i (by omega))
    have b := h m (by omega)
    simp only [sumN]
    have e : ((m + 1 : Nat) : Int) * M = m * M + M := by rw [Int.natCast_add, Int.add_mul]; simp
    rw [e]
    omega
theorem mulR_bd {a b A B : Int} (hA : 0 ≤ A) (hB : 0 ≤ B) (h1 : -A ≤ a) (h2 : a ≤ A) (h3 : -B ≤ b) (h4 : b ≤ B) : -(A * B) ≤ a * b ∧ a * b ≤ A * B := by
  have x1 : (A - a) * (B + b) + (A + a) * (B - b) = 2 * (A * B) - 2 * (a * b) := by
    simp only [Int.sub_mul, Int.mul_add, Int.add_mul, Int.mul_sub]; omega
  have x2 : (A - a) * (B - b) + (A + a) * (B + b) = 2 * (A * B) + 2 * (a * b) := by
    simp only [Int.sub_mul, Int.mul_add, Int.add_mul, Int.mul_sub]; omega
  have y1 := Int.mul_nonneg (show 0 ≤ A - a by omega) (show 0 ≤ B + b by omega)
  have y2 := Int.mul_nonneg (show 0 ≤ A + a by omega) (show 0 ≤ B - b by omega)
  have y3 := Int.mul_nonneg (show 0 ≤ A - a by omega) (show 0 ≤ B - b by omega)
  have y4 := Int.mul_nonneg (show 0 ≤ A + a by omega) (show 0 ≤ B + b by omega)
  omega
/-- The reduced Stickelberger element: n times too great, with nothing left over. -/
theorem red_ok (h : n < 41) (h2 : 2 ≤ n) {c j : Nat} (hc : c < phiN n) (hj : j < phiN n) :
    (((res n c : Nat) : Int) * (res n (ivR n j) : Nat) - (res n (ivR n (kxR n c j)) : Nat)).tdiv (n : Int) = ((res n c : Nat) : Int) * (res n (ivR n j) : Nat) / (n : Int) := by
  rw [iv_kx h h2 hc hj]
  generalize res n c = a
  generalize res n (ivR n j) = b
  have e : ((a : Int) * b - ((a * b % n : Nat) : Int)) = (((a * b / n) * n : Nat) : Int) := by
    have := Nat.div_add_mod (a * b) n
    have h3 : a * b = n * (a * b / n) + a * b % n := by omega
    have h4 : ((a * b : Nat) : Int) = ((n * (a * b / n) + a * b % n : Nat) : Int) := by rw [← h3]
    rw [Nat.mul_comm n] at h4
    rw [Int.natCast_mul] at h4
    rw [h4, Int.natCast_add]
    omega
  rw [e, ← Int.natCast_mul a b, ← Int.natCast_ediv, Int.tdiv_eq_ediv_of_nonneg (Int.natCast_nonneg _), ← Int.natCast_ediv, Nat.mul_div_cancel _ (by omega)]
end
end Go.Proofs.Ytnhpodlcgkgpbaa
