/- Chapter 8 by reckoning: counts of values, sums of forms, points of curves of powers. Plain facts. -/
import Derived.Test.YtopapdahpeemfaaDoorIdx
namespace Go.Proofs.YtopapdahpeemfaaDoor
set_option linter.unusedVariables false
set_option linter.unusedSimpArgs false

/-! ### Sums -/
/-- F 0 + .. + F (m - 1). -/
def smN : Nat → (Nat → Int) → Int
  | 0, _ => 0
  | m + 1, F => smN m F + F m
theorem smN_congr {F G : Nat → Int} : ∀ {m}, (∀ i, i < m → F i = G i) → smN m F = smN m G
  | 0, _ => rfl
  | m + 1, h => by simp only [smN]; rw [smN_congr (fun i hi => h i (Nat.lt_succ_of_lt hi)), h m (Nat.lt_succ_self m)]
theorem smN_add (F G : Nat → Int) : ∀ m, smN m (fun i => F i + G i) = smN m F + smN m G
  | 0 => rfl
  | m + 1 => by simp only [smN]; rw [smN_add F G m]; omega
theorem smN_mul (a : Int) (F : Nat → Int) : ∀ m, smN m (fun i => a * F i) = a * smN m F
  | 0 => by simp [smN]
  | m + 1 => by simp only [smN]; rw [smN_mul a F m, Int.mul_add]
theorem smN_mulr (a : Int) (F : Nat → Int) (m : Nat) : smN m (fun i => F i * a) = smN m F * a := by
  rw [Int.mul_comm, ← smN_mul]
  exact smN_congr (fun i _ => Int.mul_comm _ _)
theorem smN_zero : ∀ m, smN m (fun _ => 0) = 0
  | 0 => rfl
  | m + 1 => by simp only [smN]; rw [smN_zero m]; rfl
theorem smN_swap (F : Nat → Nat → Int) (m : Nat) : ∀ n, smN m (fun i => smN n (fun j => F i j)) = smN n (fun j => smN m (fun i => F i j))
  | 0 => by simp only [smN]; exact smN_zero m
  | n + 1 => by
    simp only [smN]
    rw [smN_add, smN_swap F m n]
theorem smN_single {m k : Nat} (a : Int) : smN m (fun i => if i = k then a else 0) = if k < m then a else 0 := by
  induction m with
  | zero => simp [smN]
  | succ m ih =>
    simp only [smN]
    rw [ih]
    by_cases h : k < m
    · rw [if_pos h, if_neg (by omega), if_pos (by omega)]; omega
    · by_cases e : m = k
      · rw [if_neg h, if_pos e, if_pos (by omega)]; omega
      · rw [if_neg h, if_neg e, if_neg (by omega)]; rfl
theorem smN_ite {m k : Nat} (F : Nat → Int) : smN m (fun i => if i = k then F i else 0) = if k < m then F k else 0 := by
  rw [← smN_single (F k)]
  exact smN_congr (fun i _ => by by_cases e : i = k <;> simp [e])
theorem smN_nonneg {F : Nat → Int} : ∀ {m}, (∀ i, i < m → 0 ≤ F i) → 0 ≤ smN m F
  | 0, _ => Int.le_refl _
  | m + 1, h => by
    have h1 := smN_nonneg (fun i hi => h i (Nat.lt_succ_of_lt hi))
    have h2 := h m (Nat.lt_succ_self m)
    simp only [smN]; omega
theorem smN_le {F : Nat → Int} {B : Int} : ∀ {m}, (∀ i, i < m → F i ≤ B) → smN m F ≤ (m : Int) * B
  | 0, _ => by simp [smN]
  | m + 1, h => by
    have h1 := smN_le (fun i hi => h i (Nat.lt_succ_of_lt hi))
    have h2 := h m (Nat.lt_succ_self m)
    have e1 : ((m + 1 : Nat) : Int) * B = (m : Int) * B + B := by rw [Int.natCast_add, Int.add_mul]; simp
    simp only [smN]; omega
theorem smN_ge {F : Nat → Int} : ∀ {m k}, k < m → (∀ i, i < m → 0 ≤ F i) → F k ≤ smN m F
  | 0, k, hk, _ => absurd hk (Nat.not_lt_zero _)
  | m + 1, k, hk, h => by
    have h1 := smN_nonneg (m := m) (F := F) (fun i hi => h i (Nat.lt_succ_of_lt hi))
    have h2 := h m (Nat.lt_succ_self m)
    simp only [smN]
    rcases Nat.lt_succ_iff_lt_or_eq.1 hk with g | g
    · have := smN_ge g (fun i hi => h i (Nat.lt_succ_of_lt hi)); omega
    · subst g; omega
theorem smN_ite0 {m : Nat} {P : Prop} [Decidable P] (F : Nat → Int) : smN m (fun i => if P then F i else 0) = if P then smN m F else 0 := by
  by_cases h : P
  · simp only [if_pos h]
  · simp only [if_neg h]; exact smN_zero m

/-! ### Rows that turn -/
theorem md2 {p a : Nat} (h : a < p + p) : a % p = if a < p then a else a - p := by
  split
  · rename_i g; exact Nat.mod_eq_of_lt g
  · rename_i g
    rw [Nat.mod_eq_sub_mod (by omega), Nat.mod_eq_of_lt (by omega)]
theorem rot_iff {p e t j : Nat} (he : e < p) (ht : t < p) (hj : j < p) : (t + e) % p = j ↔ t = (j + (p - e)) % p := by
  by_cases e0 : e = 0
  · subst e0
    rw [Nat.add_zero, Nat.sub_zero, Nat.add_mod_right, Nat.mod_eq_of_lt ht, Nat.mod_eq_of_lt hj]
  · rw [md2 (show t + e < p + p by omega), md2 (show j + (p - e) < p + p by omega)]
    split <;> split <;> omega
/-- What the first m numbers of a row add at j, turned by e. -/
def trT (p e : Nat) (r : Nat → Int) (m j : Nat) : Int := smN m (fun t => if (t + e) % p = j then r t else 0)
theorem trT_zero (p e : Nat) (r : Nat → Int) (j : Nat) : trT p e r 0 j = 0 := rfl
theorem trT_succ (p e : Nat) (r : Nat → Int) (m j : Nat) : trT p e r (m + 1) j = if (m + e) % p = j then trT p e r m j + r m else trT p e r m j := by
  unfold trT
  simp only [smN]
  split
  · rfl
  · omega
theorem trT_bd {p e : Nat} {r : Nat → Int} {B : Int} (hB : 0 ≤ B) (j : Nat) {m : Nat} (h : ∀ t, t < m → 0 ≤ r t ∧ r t ≤ B) : 0 ≤ trT p e r m j ∧ trT p e r m j ≤ (m : Int) * B := by
  unfold trT
  refine ⟨smN_nonneg (fun i hi => ?_), smN_le (fun i hi => ?_)⟩
  · split
    · exact (h i hi).1
    · omega
  · split
    · exact (h i hi).2
    · exact hB
theorem trT_congr {p e : Nat} {r r' : Nat → Int} {m : Nat} (h : ∀ t, t < m → r t = r' t) (j : Nat) : trT p e r m j = trT p e r' m j := by
  unfold trT
  exact smN_congr (fun t ht => by rw [h t ht])
theorem trT_eq {p e j : Nat} (r : Nat → Int) (he : e < p) (hj : j < p) : trT p e r p j = r ((j + (p - e)) % p) := by
  unfold trT
  rw [show (r ((j + (p - e)) % p)) = if (j + (p - e)) % p < p then r ((j + (p - e)) % p) else 0 from (if_pos (Nat.mod_lt _ (by omega))).symm, ← smN_ite]
  refine smN_congr (fun t ht => ?_)
  by_cases h : (t + e) % p = j
  · rw [if_pos h, if_pos ((rot_iff he ht hj).1 h)]
  · rw [if_neg h, if_neg (fun g => h ((rot_iff he ht hj).2 g))]

/-! ### Sums of forms -/
/-- .. a form's values at f, .., m - 1 added to what is counted. -/
def wfT (p : Nat) (v : Nat → Nat) (c : Nat → Int) (f m b : Nat) : Int := smN m (fun x => if f ≤ x then trT p (v x) c p b else 0)
theorem wfT_succ {p : Nat} {v : Nat → Nat} {c : Nat → Int} {f m b : Nat} (h : f ≤ m) : wfT p v c f (m + 1) b = wfT p v c f m b + trT p (v m) c p b := by
  unfold wfT
  simp only [smN]
  rw [if_pos h]
theorem wfT_start {p : Nat} {v : Nat → Nat} {c : Nat → Int} {f b : Nat} : wfT p v c f f b = 0 := by
  unfold wfT
  refine (smN_congr (fun i hi => ?_)).trans (smN_zero f)
  exact if_neg (Nat.not_le.2 hi)
theorem wfT_bd {p : Nat} {v : Nat → Nat} {c : Nat → Int} {B : Int} (hB : 0 ≤ B) (h : ∀ t, t < p → 0 ≤ c t ∧ c t ≤ B) (f m b : Nat) (hv : ∀ x, x < m → v x < p) (hb : b < p) : 0 ≤ wfT p v c f m b ∧ wfT p v c f m b ≤ (m : Int) * B := by
  unfold wfT
  refine ⟨smN_nonneg (fun i hi => ?_), smN_le (fun i hi => ?_)⟩
  · split
    · rw [trT_eq _ (hv i hi) hb]; exact (h _ (Nat.mod_lt _ (by omega))).1
    · omega
  · split
    · rw [trT_eq _ (hv i hi) hb]; exact (h _ (Nat.mod_lt _ (by omega))).2
    · exact hB
theorem wfT_congr {p : Nat} {v v' : Nat → Nat} {c c' : Nat → Int} (hv : ∀ x, x < p → v x = v' x) (hc : ∀ t, t < p → c t = c' t) {f m b : Nat} (hm : m ≤ p) : wfT p v c f m b = wfT p v' c' f m b := by
  unfold wfT
  refine smN_congr (fun x hx => ?_)
  rw [hv x (by omega)]
  split
  · exact trT_congr hc b
  · rfl
/-- One way to be 0. -/
def e0Z (j : Nat) : Int := if j = 0 then 1 else 0
/-- How many x in f, .., m - 1 have the value b. -/
def cnT (v : Nat → Nat) (f m b : Nat) : Int := smN m (fun x => if f ≤ x ∧ v x = b then 1 else 0)
theorem cnT_zero (v : Nat → Nat) (f b : Nat) : cnT v f 0 b = 0 := rfl
theorem cnT_succ (v : Nat → Nat) (m b : Nat) : cnT v 0 (m + 1) b = if b = v m then cnT v 0 m b + 1 else cnT v 0 m b := by
  unfold cnT
  simp only [smN]
  by_cases e : b = v m
  · rw [if_pos e, if_pos ⟨Nat.zero_le _, e.symm⟩]
  · rw [if_neg e, if_neg (fun h => e h.2.symm)]; omega
theorem cnT_bd (v : Nat → Nat) (f m b : Nat) : 0 ≤ cnT v f m b ∧ cnT v f m b ≤ m := by
  unfold cnT
  refine ⟨smN_nonneg (fun i hi => by split <;> omega), ?_⟩
  have := smN_le (m := m) (B := 1) (F := fun x => if f ≤ x ∧ v x = b then 1 else 0) (fun i hi => by split <;> omega)
  omega
/-- Counts without the number 0. -/
theorem cnT_full {v : Nat → Nat} {m b : Nat} (h : 1 ≤ m) (h0 : v 0 = 0) : cnT v 1 m b = if b = 0 then cnT v 0 m b - 1 else cnT v 0 m b := by
  have e : cnT v 0 m b = cnT v 1 m b + smN m (fun x => if x = 0 then (if b = 0 then 1 else 0) else 0) := by
    unfold cnT
    rw [← smN_add]
    refine smN_congr (fun x hx => ?_)
    by_cases hx0 : x = 0
    · subst hx0
      rw [h0]
      by_cases hb : b = 0
      · subst hb; simp
      · rw [if_neg (fun g => hb g.2.symm), if_neg (fun g => hb g.2.symm), if_pos rfl, if_neg hb]; rfl
    · rw [if_neg hx0]
      by_cases hv : v x = b
      · rw [if_pos ⟨Nat.zero_le _, hv⟩, if_pos ⟨by omega, hv⟩]; rfl
      · rw [if_neg (fun g => hv g.2), if_neg (fun g => hv g.2)]; rfl
  rw [smN_single, if_pos (by omega)] at e
  by_cases hb : b = 0
  · rw [if_pos hb] at e ⊢; omega
  · rw [if_neg hb] at e ⊢; omega
theorem count_eq {p : Nat} {v : Nat → Nat} (hv : ∀ x, x < p → v x < p) (f : Nat) {m b : Nat} (hm : m ≤ p) (hb : b < p) : wfT p v e0Z f m b = cnT v f m b := by
  unfold wfT cnT
  refine smN_congr (fun x hx => ?_)
  have hvx := hv x (by omega)
  by_cases hf : f ≤ x
  · rw [if_pos hf, trT_eq _ hvx hb]
    unfold e0Z
    have hz := rot_iff hvx (show 0 < p by omega) hb
    rw [Nat.zero_add, Nat.mod_eq_of_lt hvx] at hz
    by_cases e : v x = b
    · rw [if_pos (show f ≤ x ∧ v x = b from ⟨hf, e⟩), if_pos (hz.1 e).symm]
    · rw [if_neg (show ¬ (f ≤ x ∧ v x = b) from fun g => e g.2), if_neg (fun g => e (hz.2 g.symm))]
  · rw [if_neg hf, if_neg (show ¬ (f ≤ x ∧ v x = b) from fun g => hf g.1)]

/-! ### Products of counts, as the model makes them -/
def cvR (p : Nat) (c own : Nat → Int) (x y b : Nat) : Int := smN y (fun t => if (x + t) % p = b then c x * own t else 0)
def cvT (p : Nat) (c own : Nat → Int) (x b : Nat) : Int := smN x (fun s => cvR p c own s p b)
theorem cvR_succ (p : Nat) (c own : Nat → Int) (x y b : Nat) : cvR p c own x (y + 1) b = if b = (x + y) % p then cvR p c own x y b + c x * own y else cvR p c own x y b := by
  unfold cvR
  simp only [smN]
  by_cases e : b = (x + y) % p
  · rw [if_pos e, if_pos e.symm]
  · rw [if_neg e, if_neg (fun h => e h.symm)]; omega
theorem cvT_succ (p : Nat) (c own : Nat → Int) (x b : Nat) : cvT p c own (x + 1) b = cvT p c own x b + cvR p c own x p b := rfl
theorem conv_eq {p : Nat} {v : Nat → Nat} (c : Nat → Int) (hv : ∀ x, x < p → v x < p) (f b : Nat) : cvT p c (cnT v f p) p b = wfT p v c f p b := by
  have e1 : cvT p c (cnT v f p) p b = smN p (fun s => smN p (fun x => if f ≤ x then (if (s + v x) % p = b then c s else 0) else 0)) := by
    unfold cvT
    refine smN_congr (fun s hs => ?_)
    unfold cvR
    have : ∀ t, t < p → (if (s + t) % p = b then c s * cnT v f p t else 0) = smN p (fun x => if t = v x then (if f ≤ x ∧ (s + t) % p = b then c s else 0) else 0) := fun t ht => by
      by_cases g : (s + t) % p = b
      · rw [if_pos g]
        unfold cnT
        rw [← smN_mul]
        refine smN_congr (fun x hx => ?_)
        by_cases k1 : t = v x
        · rw [if_pos k1]
          by_cases k2 : f ≤ x
          · rw [if_pos ⟨k2, k1.symm⟩, if_pos ⟨k2, g⟩, Int.mul_one]
          · rw [if_neg (fun k => k2 k.1), if_neg (fun k => k2 k.1), Int.mul_zero]
        · rw [if_neg k1, if_neg (fun k => k1 k.2.symm), Int.mul_zero]
      · rw [if_neg g]
        refine (smN_zero p).symm.trans (smN_congr (fun x hx => ?_))
        rw [if_neg (show ¬ (f ≤ x ∧ (s + t) % p = b) from fun k => g k.2)]; simp
    rw [smN_congr this, smN_swap]
    refine smN_congr (fun x hx => ?_)
    rw [smN_ite (fun t => if f ≤ x ∧ (s + t) % p = b then c s else 0), if_pos (hv x hx)]
    by_cases k2 : f ≤ x
    · rw [if_pos k2]
      by_cases k3 : (s + v x) % p = b
      · rw [if_pos ⟨k2, k3⟩, if_pos k3]
      · rw [if_neg (fun k => k3 k.2), if_neg k3]
    · rw [if_neg k2, if_neg (fun k => k2 k.1)]
  rw [e1, smN_swap]
  unfold wfT trT
  refine smN_congr (fun x hx => ?_)
  exact smN_ite0 _
/-- Sums over counted values are sums over the numbers. -/
theorem over_values {p : Nat} {v : Nat → Nat} (r : Nat → Int) (hv : ∀ x, x < p → v x < p) : smN p (fun b => cnT v 0 p b * r b) = smN p (fun x => r (v x)) := by
  have e : ∀ b, b < p → cnT v 0 p b * r b = smN p (fun x => if b = v x then r b else 0) := fun b _ => by
    unfold cnT
    rw [← smN_mulr]
    refine smN_congr (fun x hx => ?_)
    by_cases k : b = v x
    · rw [if_pos k, if_pos ⟨Nat.zero_le _, k.symm⟩, Int.one_mul]
    · rw [if_neg k, if_neg (fun g => k g.2.symm), Int.zero_mul]
  rw [smN_congr e, smN_swap]
  refine smN_congr (fun x hx => ?_)
  rw [smN_ite, if_pos (hv x hx)]

/-! ### Powers -/
/-- The value of a x^k. -/
def vN (p a k x : Nat) : Nat := a * pwr p x k % p
theorem vN_lt {p : Nat} (h : 1 ≤ p) (a k x : Nat) : vN p a k x < p := Nat.mod_lt _ (by omega)
theorem pwr_bd {p g : Nat} (h : 2 ≤ p) : ∀ k, pwr p g k < p
  | 0 => by show 1 < p; omega
  | k + 1 => Nat.mod_lt _ (by omega)
theorem pwr_z {p k : Nat} (hk : 1 ≤ k) : pwr p 0 k = 0 := by
  cases k with
  | zero => omega
  | succ k => show pwr p 0 k * 0 % p = 0; rw [Nat.mul_zero, Nat.zero_mod]
theorem pwr_1 {p : Nat} (h : 2 ≤ p) : ∀ k, pwr p 1 k = 1
  | 0 => rfl
  | k + 1 => by show pwr p 1 k * 1 % p = 1; rw [pwr_1 h k, Nat.one_mul, Nat.mod_eq_of_lt (by omega)]
theorem vN_zero {p a k : Nat} (hk : 1 ≤ k) : vN p a k 0 = 0 := by unfold vN; rw [pwr_z hk, Nat.mul_zero, Nat.zero_mod]
theorem vN_one {p k x : Nat} (h : 2 ≤ p) : vN p 1 k x = pwr p x k := by unfold vN; rw [Nat.one_mul, Nat.mod_eq_of_lt (pwr_bd h k)]
theorem pwr_mul {p x y : Nat} (h : 2 ≤ p) : ∀ k, pwr p (x * y % p) k = pwr p x k * pwr p y k % p
  | 0 => by show 1 = 1 * 1 % p; rw [Nat.one_mul, Nat.mod_eq_of_lt (by omega)]
  | k + 1 => by
    show pwr p (x * y % p) k * (x * y % p) % p = (pwr p x k * x % p) * (pwr p y k * y % p) % p
    rw [pwr_mul h k, ← Nat.mul_mod, ← Nat.mul_mod]
    congr 1
    simp only [Nat.mul_assoc, Nat.mul_left_comm, Nat.mul_comm]
/-- The inverse. -/
def invP (p z : Nat) : Nat := pwr p z (p - 2)
theorem inv_all : ((List.range 62).all fun p => !primeN p || (List.range p).all fun z => decide (z = 0) || decide (z * invP p z % p = 1)) = true := by decide +kernel
theorem inv_ok {p z : Nat} (hp : primeN p = true) (h1 : 1 ≤ z) (h2 : z < p) : z * invP p z % p = 1 := by
  have h := all_range (prime_of inv_all hp) z h2
  have e : decide (z = 0) = false := decide_eq_false (by omega)
  simpa only [e, Bool.false_or, decide_eq_true_eq] using h
theorem mul_back {p z z' x : Nat} (h : z * z' % p = 1) (hx : x < p) : z' * (z * x % p) % p = x := by
  rw [Nat.mul_mod, Nat.mod_mod, ← Nat.mul_mod, ← Nat.mul_assoc, Nat.mul_comm z' z, Nat.mul_mod, h, Nat.one_mul, Nat.mod_mod, Nat.mod_eq_of_lt hx]
/-- Times a number other than 0 all numbers come again. -/
theorem smN_times {p z : Nat} (hp : primeN p = true) (h1 : 1 ≤ z) (h2 : z < p) (F : Nat → Int) : smN p (fun x => F (z * x % p)) = smN p F := by
  have hb := primeN_bd hp
  have hi := inv_ok hp h1 h2
  have e : ∀ x, x < p → F (z * x % p) = smN p (fun t => if x = invP p z * t % p then F t else 0) := fun x hx => by
    have e2 : ∀ t, t < p → (if x = invP p z * t % p then F t else 0) = if t = z * x % p then F t else 0 := fun t ht => by
      by_cases k : t = z * x % p
      · rw [if_pos k, if_pos (by rw [k, mul_back hi hx])]
      · rw [if_neg k, if_neg]
        intro g
        apply k
        rw [g, mul_back (by rw [Nat.mul_comm]; exact hi) ht]
    rw [smN_congr e2, smN_ite, if_pos (Nat.mod_lt _ (by omega))]
  rw [smN_congr e, smN_swap]
  refine smN_congr (fun t ht => ?_)
  rw [smN_single, if_pos (Nat.mod_lt _ (by omega))]
theorem pwr_ne {p z k : Nat} (hp : primeN p = true) (h1 : 1 ≤ z) (h2 : z < p) : 1 ≤ pwr p z k := by
  have hb := primeN_bd hp
  have h := pwr_mul (p := p) (x := z) (y := invP p z) (by omega) k
  rw [inv_ok hp h1 h2, pwr_1 (by omega)] at h
  rcases Nat.eq_zero_or_pos (pwr p z k) with g | g
  · rw [g, Nat.zero_mul, Nat.zero_mod] at h; omega
  · exact g

/-! ### Solutions -/
/-- How many solutions the first n parts have. -/
def solT (p : Nat) (fa fe : Nat → Int) (f : Nat) : Nat → Nat → Int
  | 0 => e0Z
  | n + 1 => fun b => wfT p (vN p (fa n).toNat (fe n).toNat) (solT p fa fe f n) f p b
theorem solT_congr {p : Nat} {fa fe fa' fe' : Nat → Int} {f : Nat} : ∀ {n}, (∀ i, i < n → fa i = fa' i ∧ fe i = fe' i) → solT p fa fe f n = solT p fa' fe' f n
  | 0, _ => rfl
  | n + 1, h => by
    show (fun b => wfT p _ (solT p fa fe f n) f p b) = fun b => wfT p _ (solT p fa' fe' f n) f p b
    rw [solT_congr (fun i hi => h i (by omega)), (h n (by omega)).1, (h n (by omega)).2]
theorem solT_bd {p : Nat} (h1 : 1 ≤ p) (h2 : p ≤ 61) (fa fe : Nat → Int) (f : Nat) : ∀ n b, b < p → 0 ≤ solT p fa fe f n b ∧ solT p fa fe f n b ≤ ((61 ^ n : Nat) : Int)
  | 0, b, _ => by show 0 ≤ e0Z b ∧ e0Z b ≤ 1; unfold e0Z; split <;> omega
  | n + 1, b, hb => by
    have h := wfT_bd (p := p) (v := vN p (fa n).toNat (fe n).toNat) (B := ((61 ^ n : Nat) : Int)) (Int.natCast_nonneg _) (fun t ht => solT_bd h1 h2 fa fe f n t ht) f p b (fun x _ => vN_lt h1 _ _ _) hb
    refine ⟨h.1, Int.le_trans h.2 ?_⟩
    have : (p : Int) * ((61 ^ n : Nat) : Int) ≤ 61 * ((61 ^ n : Nat) : Int) := Int.mul_le_mul_of_nonneg_right (by omega) (Int.natCast_nonneg _)
    have e : ((61 ^ (n + 1) : Nat) : Int) = 61 * ((61 ^ n : Nat) : Int) := by rw [Nat.pow_succ, Nat.mul_comm, Int.natCast_mul]; rfl
    rw [e]; exact this
theorem solT_bd4 {p : Nat} (h1 : 1 ≤ p) (h2 : p ≤ 61) (fa fe : Nat → Int) (f : Nat) {n b : Nat} (hn : n ≤ 4) (hb : b < p) : 0 ≤ solT p fa fe f n b ∧ solT p fa fe f n b ≤ 13845841 := by
  have h := solT_bd h1 h2 fa fe f n b hb
  refine ⟨h.1, Int.le_trans h.2 ?_⟩
  have : 61 ^ n ≤ 61 ^ 4 := Nat.pow_le_pow_right (by omega) hn
  omega

/-! ### Curves -/
/-- Ways to make b of two powers. -/
def twoT (p m b : Nat) : Int := smN p (fun x => smN p (fun y => if (pwr p x m + pwr p y m) % p = b then 1 else 0))
theorem mod_scale {p s a c : Nat} (hp : primeN p = true) (h1 : 1 ≤ s) (h2 : s < p) (ha : a < p) (hc : c < p) : s * a % p = s * c % p ↔ a = c := by
  constructor
  · intro h
    have hi := inv_ok hp h1 h2
    rw [← mul_back hi ha, ← mul_back hi hc, h]
  · intro h; rw [h]
theorem two_scale {p m z b : Nat} (hp : primeN p = true) (h1 : 1 ≤ z) (h2 : z < p) (hb : b < p) : twoT p m (pwr p z m * b % p) = twoT p m b := by
  have hbd := primeN_bd hp
  have hs := pwr_ne (k := m) hp h1 h2
  have hs2 := pwr_bd (p := p) (g := z) (by omega) m
  unfold twoT
  rw [← smN_times hp h1 h2 (fun x => smN p (fun y => if (pwr p x m + pwr p y m) % p = pwr p z m * b % p then 1 else 0))]
  refine smN_congr (fun x hx => ?_)
  rw [← smN_times hp h1 h2 (fun y => if (pwr p (z * x % p) m + pwr p y m) % p = pwr p z m * b % p then 1 else 0)]
  refine smN_congr (fun y hy => ?_)
  rw [pwr_mul (by omega), pwr_mul (by omega), ← Nat.add_mod, ← Nat.mul_add]
  have e := mod_scale (a := (pwr p x m + pwr p y m) % p) hp hs hs2 (Nat.mod_lt _ (by omega)) hb
  rw [Nat.mul_mod, Nat.mod_mod, ← Nat.mul_mod] at e
  by_cases g : (pwr p x m + pwr p y m) % p = b
  · rw [if_pos g, if_pos (e.2 g)]
  · rw [if_neg g, if_neg (fun k => g (e.1 k))]
/-- How many x have the power p - 1. -/
def minT (p m : Nat) : Int := smN p (fun x => if (pwr p x m + 1) % p = 0 then 1 else 0)
theorem smN_first {F : Nat → Int} : ∀ m, smN (m + 1) F = F 0 + smN m (fun i => F (i + 1))
  | 0 => by simp only [smN]; omega
  | m + 1 => by
    show smN (m + 1) F + F (m + 1) = F 0 + (smN m (fun i => F (i + 1)) + F (m + 1))
    rw [smN_first m]; omega
theorem smN_const {a : Int} : ∀ m, smN m (fun _ => a) = (m : Int) * a
  | 0 => by simp [smN]
  | m + 1 => by
    have e1 : ((m + 1 : Nat) : Int) * a = (m : Int) * a + a := by rw [Int.natCast_add, Int.add_mul]; simp
    simp only [smN]; rw [smN_const m, e1]
theorem two_zero {p m : Nat} (hp : primeN p = true) (hm : 1 ≤ m) : twoT p m 0 = 1 + ((p - 1 : Nat) : Int) * minT p m := by
  have hbd := primeN_bd hp
  obtain ⟨q, rfl⟩ : ∃ q, p = q + 1 := ⟨p - 1, by omega⟩
  unfold twoT
  rw [smN_first]
  have e0 : smN (q + 1) (fun y => if (pwr (q + 1) 0 m + pwr (q + 1) y m) % (q + 1) = 0 then (1 : Int) else 0) = 1 := by
    have : ∀ y, y < q + 1 → (if (pwr (q + 1) 0 m + pwr (q + 1) y m) % (q + 1) = 0 then (1 : Int) else 0) = if y = 0 then 1 else 0 := fun y hy => by
      rw [pwr_z hm, Nat.zero_add, Nat.mod_eq_of_lt (pwr_bd (by omega) m)]
      by_cases g : y = 0
      · subst g; rw [pwr_z hm, if_pos rfl]
      · rw [if_neg g, if_neg (by have := pwr_ne (k := m) hp (show 1 ≤ y by omega) hy; omega)]
    rw [smN_congr this, smN_single, if_pos (by omega)]
  have e1 : ∀ i, i < q → smN (q + 1) (fun y => if (pwr (q + 1) (i + 1) m + pwr (q + 1) y m) % (q + 1) = 0 then (1 : Int) else 0) = minT (q + 1) m := fun i hi => by
    have hs := pwr_ne (k := m) hp (show 1 ≤ i + 1 by omega) (show i + 1 < q + 1 by omega)
    have hs2 := pwr_bd (p := q + 1) (g := i + 1) (by omega) m
    rw [← smN_times hp (show 1 ≤ i + 1 by omega) (show i + 1 < q + 1 by omega)]
    unfold minT
    refine smN_congr (fun y hy => ?_)
    rw [pwr_mul (by omega), Nat.add_mod, Nat.mod_mod, ← Nat.add_mod]
    have e := mod_scale (a := (pwr (q + 1) y m + 1) % (q + 1)) (c := 0) hp hs hs2 (Nat.mod_lt _ (by omega)) (by omega)
    rw [Nat.mul_mod, Nat.mod_mod, ← Nat.mul_mod, Nat.mul_zero, Nat.zero_mod, Nat.mul_add, Nat.mul_one, Nat.add_comm (_ * _)] at e
    by_cases g : (pwr (q + 1) y m + 1) % (q + 1) = 0
    · rw [if_pos g, if_pos (e.2 g)]
    · rw [if_neg g, if_neg (fun k => g (e.1 k))]
  rw [e0, smN_congr e1, smN_const]
  rfl
/-- A third power beside two. -/
theorem three_eq {p m : Nat} (hp : primeN p = true) (hm : 1 ≤ m) : smN p (fun z => twoT p m (pwr p z m)) = 1 + ((p - 1 : Nat) : Int) * (twoT p m 1 + minT p m) := by
  have hbd := primeN_bd hp
  have h0 := two_zero hp hm
  obtain ⟨q, rfl⟩ : ∃ q, p = q + 1 := ⟨p - 1, by omega⟩
  rw [smN_first, pwr_z hm, h0]
  have e : ∀ i, i < q → twoT (q + 1) m (pwr (q + 1) (i + 1) m) = twoT (q + 1) m 1 := fun i hi => by
    have := two_scale (m := m) (b := 1) hp (show 1 ≤ i + 1 by omega) (show i + 1 < q + 1 by omega) (by omega)
    rwa [Nat.mul_one, Nat.mod_eq_of_lt (pwr_bd (by omega) m)] at this
  rw [smN_congr e, smN_const, Nat.add_sub_cancel, Int.mul_add]
  omega
theorem sol_two {p m b : Nat} (hp : primeN p = true) (hb : b < p) (fa : Nat → Int) (h0 : fa 0 = 1) (h1 : fa 1 = 1) : solT p fa (fun _ => (m : Int)) 0 2 b = twoT p m b := by
  have hbd := primeN_bd hp
  show wfT p (vN p (fa 1).toNat (m : Int).toNat) (fun t => wfT p (vN p (fa 0).toNat (m : Int).toNat) e0Z 0 p t) 0 p b = _
  rw [h0, h1, Int.toNat_natCast]
  show wfT p (vN p 1 m) (fun t => wfT p (vN p 1 m) e0Z 0 p t) 0 p b = _
  rw [wfT_congr (c' := cnT (vN p 1 m) 0 p) (v' := vN p 1 m) (fun _ _ => rfl) (fun t ht => count_eq (fun x hx => vN_lt (by omega) _ _ _) 0 (Nat.le_refl _) ht) (Nat.le_refl _)]
  unfold wfT twoT
  refine smN_congr (fun x hx => ?_)
  have hvx := pwr_bd (p := p) (g := x) (by omega) m
  rw [if_pos (Nat.zero_le _), vN_one (by omega), trT_eq _ hvx hb]
  unfold cnT
  refine smN_congr (fun y hy => ?_)
  have hvy := pwr_bd (p := p) (g := y) (by omega) m
  rw [vN_one (by omega), Nat.add_comm (pwr p x m)]
  have hr := rot_iff hvx hvy hb
  by_cases g : (pwr p y m + pwr p x m) % p = b
  · rw [if_pos g, if_pos ⟨Nat.zero_le _, hr.1 g⟩]
  · rw [if_neg g, if_neg (fun k => g (hr.2 k.2))]
theorem neg_val {p y : Nat} (h : 2 ≤ p) (hy : y < p) : (p - (p - 1) * y % p) % p = y := by
  by_cases g : y = 0
  · subst g; rw [Nat.mul_zero, Nat.zero_mod, Nat.sub_zero, Nat.mod_self]
  · have e : (p - 1) * y % p = p - y := by
      have : (p - 1) * y = p - y + p * (y - 1) := by
        obtain ⟨q, rfl⟩ : ∃ q, p = q + 1 := ⟨p - 1, by omega⟩
        obtain ⟨z, rfl⟩ : ∃ z, y = z + 1 := ⟨y - 1, by omega⟩
        simp only [Nat.add_sub_cancel, Nat.mul_add, Nat.add_mul]
        omega
      rw [this, Nat.add_mul_mod_self_left, Nat.mod_eq_of_lt (by omega)]
    rw [e, show p - (p - y) = y by omega, Nat.mod_eq_of_lt hy]
theorem sol_three {p m : Nat} (hp : primeN p = true) (fa : Nat → Int) (h0 : fa 0 = 1) (h1 : fa 1 = 1) (h2 : fa 2 = (p : Int) - 1) : solT p fa (fun _ => (m : Int)) 0 3 0 = smN p (fun z => twoT p m (pwr p z m)) := by
  have hbd := primeN_bd hp
  show wfT p (vN p (fa 2).toNat (m : Int).toNat) (solT p fa (fun _ => (m : Int)) 0 2) 0 p 0 = _
  rw [h2, Int.toNat_natCast, show ((p : Int) - 1).toNat = p - 1 by omega]
  rw [wfT_congr (c' := twoT p m) (v' := vN p (p - 1) m) (fun _ _ => rfl) (fun t ht => sol_two hp ht fa h0 h1) (Nat.le_refl _)]
  unfold wfT
  refine smN_congr (fun z hz => ?_)
  rw [if_pos (Nat.zero_le _), trT_eq _ (vN_lt (by omega) _ _ _) (by omega), Nat.zero_add]
  unfold vN
  rw [neg_val (by omega) (pwr_bd (by omega) m)]
/-- The points of a curve of powers, both ways. -/
theorem curve_eq {p m : Nat} (hp : primeN p = true) (hm : 1 ≤ m) (fa : Nat → Int) (h0 : fa 0 = 1) (h1 : fa 1 = 1) (h2 : fa 2 = (p : Int) - 1) (fb : Nat → Int) (g0 : fb 0 = 1) (g1 : fb 1 = 1) :
    (solT p fa (fun _ => (m : Int)) 0 3 0 - 1).tdiv ((p : Int) - 1) = solT p fb (fun _ => (m : Int)) 0 2 1 + minT p m := by
  have hbd := primeN_bd hp
  rw [sol_three hp fa h0 h1 h2, three_eq hp hm, sol_two hp (by omega) fb g0 g1]
  rw [show ((p : Int) - 1) = ((p - 1 : Nat) : Int) by omega, Int.add_comm, Int.add_sub_cancel]
  exact Int.mul_tdiv_cancel_left _ (by omega)
end Go.Proofs.YtopapdahpeemfaaDoor
