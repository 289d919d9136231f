/- Chapter 7: numbers with given residues, by reckoning: a number has its values at all roots, and just one number has them. Plain facts. -/
import Derived.Test.YthookppmclimkaaPlcF
import Derived.Test.YthookppmclimkaaAlg
import Derived.Test.YthookppmclimkaaPrm
namespace Go.Proofs.Ythookppmclimkaa
set_option linter.unusedVariables false

theorem hor_ev (f : Nat → Int) (x : Int) (n : Nat) : ∀ j, j ≤ n → hor f x n j * x ^ (n - j) + sumN (n - j) (fun i => f i * x ^ i) = sumN n (fun i => f i * x ^ i)
  | 0, _ => by simp [hor]
  | j + 1, hj => by
    rw [← hor_ev f x n j (by omega)]
    have e : n - j = n - (j + 1) + 1 := by omega
    have e2 : n - 1 - j = n - (j + 1) := by omega
    rw [e]
    simp only [hor, sumN, Int.pow_succ, e2]
    rw [Int.add_mul, Int.mul_assoc, Int.mul_comm x]
    omega
theorem hor_sum (f : Nat → Int) (x : Int) (n : Nat) : hor f x n n = sumN n (fun i => f i * x ^ i) := by
  have := hor_ev f x n n (Nat.le_refl _)
  rw [Nat.sub_self] at this
  simpa [sumN] using this
theorem valN_sum (f : Nat → Int) (n : Nat) (x q : Int) : valN f n x q = sumN n (fun i => f i * x ^ i) % q := by unfold valN; rw [hor_sum]
theorem sumN_mod {F G : Nat → Int} {q : Int} : ∀ {m}, (∀ i, i < m → F i % q = G i % q) → sumN m F % q = sumN m G % q
  | 0, _ => rfl
  | m + 1, h => by
    simp only [sumN]
    rw [Int.add_emod, sumN_mod (fun i hi => h i (by omega)), h m (by omega), ← Int.add_emod]
theorem valN_mod {f g : Nat → Int} {n : Nat} {x q : Int} (h : ∀ i, i < n → f i % q = g i % q) : valN f n x q = valN g n x q := by
  rw [valN_sum, valN_sum]
  exact sumN_mod (fun i hi => by rw [Int.mul_emod, h i hi, ← Int.mul_emod])
theorem valN_lin (f g : Nat → Int) (c : Int) (n : Nat) (x q : Int) : valN (fun i => f i + c * g i) n x q = (valN f n x q + c * valN g n x q) % q := by
  rw [valN_sum, valN_sum, valN_sum]
  have e : sumN n (fun i => (f i + c * g i) * x ^ i) = sumN n (fun i => f i * x ^ i) + c * sumN n (fun i => g i * x ^ i) := by
    rw [← sumN_mul, ← sumN_add]
    exact sumN_congr (fun i _ => by rw [Int.add_mul, Int.mul_assoc])
  rw [e]
  generalize sumN n (fun i => f i * x ^ i) = a
  generalize sumN n (fun i => g i * x ^ i) = b
  conv => rhs; rw [Int.add_emod, Int.mul_emod]
  conv => lhs; rw [Int.add_emod, Int.mul_emod]
  simp only [Int.emod_emod]
theorem sumN_top {F : Nat → Int} {m n : Nat} (h : m ≤ n) (hz : ∀ i, m ≤ i → i < n → F i = 0) : sumN n F = sumN m F := by
  induction n with
  | zero => obtain rfl : m = 0 := by omega
            rfl
  | succ n ih =>
    rcases Nat.lt_or_ge n m with h2 | h2
    · obtain rfl : m = n + 1 := by omega
      rfl
    · simp only [sumN]
      rw [hz n h2 (by omega), Int.add_zero]
      exact ih h2 (fun i h3 h4 => hz i h3 (by omega))
theorem valN_top {f : Nat → Int} {m n : Nat} {x q : Int} (h : m ≤ n) (hz : ∀ i, m ≤ i → i < n → f i = 0) : valN f n x q = valN f m x q := by
  rw [valN_sum, valN_sum, sumN_top h (fun i h1 h2 => by rw [hz i h1 h2, Int.zero_mul])]

/-! ### Lists that are reckoned first -/
section
variable {α : Type}
def fNat (n : Nat) (k : Nat → α) : α := match n with | 0 => k 0 | m + 1 => k (m + 1)
def fNL : List Nat → (List Nat → α) → α
  | [], k => k []
  | x :: xs, k => fNat x (fun x => fNL xs (fun xs => k (x :: xs)))
def fNLL : List (List Nat) → (List (List Nat) → α) → α
  | [], k => k []
  | x :: xs, k => fNL x (fun x => fNLL xs (fun xs => k (x :: xs)))
theorem fNat_eq (n : Nat) (k : Nat → α) : fNat n k = k n := by cases n <;> rfl
theorem fNL_eq : ∀ (l : List Nat) (k : List Nat → α), fNL l k = k l
  | [], _ => rfl
  | x :: xs, k => by unfold fNL; rw [fNat_eq, fNL_eq xs]
theorem fNLL_eq : ∀ (l : List (List Nat)) (k : List (List Nat) → α), fNLL l k = k l
  | [], _ => rfl
  | x :: xs, k => by unfold fNLL; rw [fNL_eq, fNLL_eq xs]
end

/-! ### Root by root: the program -/
/-- A polynomial times x less r. -/
def tmL (l r : Nat) (P : List Nat) : List Nat := (List.range (P.length + 1)).map (fun j => ((if j = 0 then 0 else P.getD (j - 1) 0) + (l - r) * P.getD j 0) % l)
def tmP (l : Nat) (R : List Nat) : Nat → List Nat
  | 0 => [1]
  | i + 1 => tmL l (R.getD i 0) (tmP l R i)
def nF (P : List Nat) (j : Nat) : Int := ((P.getD j 0 : Nat) : Int)
def hN (l : Nat) (x : Nat) : List Nat → Nat
  | [] => 0
  | c :: P => (hN l x P * x + c) % l
def invN (l x : Nat) : Nat := pwr l x (l - 2)
def nwChk (l n : Nat) : Bool := fNL (roots n l) fun R => fNLL ((List.range R.length).map (tmP l R)) fun T =>
  (List.range R.length).all fun i => fNL (T.getD i []) fun P => decide (P.length = i + 1) && P.all (fun c => decide (c < l)) && (List.range i).all (fun k => decide (hN l (R.getD k 0) P = 0)) && fNat (hN l (R.getD i 0) P) (fun v => decide (v * invN l v % l = 1) && decide (1 ≤ v))
set_option maxRecDepth 10000 in
theorem nw_all : pairsChk nwChk = true := by decide +kernel
theorem hN_val (l x : Nat) (hl : 1 ≤ l) : ∀ P : List Nat, ((hN l x P : Nat) : Int) = sumN P.length (fun i => nF P i * (x : Int) ^ i) % (l : Int)
  | [] => by simp [hN, sumN]
  | c :: P => by
    have ih := hN_val l x hl P
    have e : ∀ m, sumN (m + 1) (fun i => nF (c :: P) i * (x : Int) ^ i) = c + x * sumN m (fun i => nF P i * (x : Int) ^ i) := by
      intro m
      induction m with
      | zero => simp [sumN, nF]
      | succ m ih2 =>
        show sumN (m + 1) _ + _ = _
        rw [ih2]
        simp only [sumN, nF, List.getD_cons_succ, Int.pow_succ, Int.mul_add]
        rw [Int.add_assoc, Int.mul_comm ((x : Int) ^ m) x, ← Int.mul_assoc _ (x : Int), Int.mul_comm _ (x : Int), Int.mul_assoc]
    show (((hN l x P * x + c) % l : Nat) : Int) = _
    rw [List.length_cons, e, Int.natCast_emod, Int.natCast_add, Int.natCast_mul, ih]
    rw [Int.add_emod, Int.mul_emod, Int.emod_emod, ← Int.mul_emod, ← Int.add_emod, Int.add_comm, Int.mul_comm]
theorem nw_ok {l n : Nat} (hl : primeN l = true) (h1 : 1 ≤ n) (h2 : n ≤ 16) (hf : fullN l n = true) {i : Nat} (hi : i < (roots n l).length) :
    (tmP l (roots n l) i).length = i + 1 ∧ (∀ j, 0 ≤ nF (tmP l (roots n l) i) j ∧ nF (tmP l (roots n l) i) j < l) ∧
    (∀ k, k < i → valN (nF (tmP l (roots n l) i)) (i + 1) (rtF (roots n l) k) l = 0) ∧
    ∃ v : Nat, valN (nF (tmP l (roots n l) i)) (i + 1) (rtF (roots n l) i) l = (v : Int) ∧ v * invN l v % l = 1 ∧ 1 ≤ v := by
  have hb := primeN_bd hl
  have h := pair_of nw_all hl h1 h2 hf
  unfold nwChk at h
  rw [fNL_eq, fNLL_eq] at h
  have h := all_range h i hi
  rw [show ((List.range (roots n l).length).map (tmP l (roots n l))).getD i [] = tmP l (roots n l) i by
    rw [List.getD_eq_getElem?_getD, List.getElem?_map, List.getElem?_range hi]; rfl] at h
  rw [fNL_eq, fNat_eq] at h
  generalize tmP l (roots n l) i = P at h ⊢
  simp only [Bool.and_eq_true, decide_eq_true_eq] at h
  obtain ⟨⟨⟨a, b⟩, c⟩, d, d2⟩ := h
  have hv : ∀ k, valN (nF P) (i + 1) (rtF (roots n l) k) l = ((hN l ((roots n l).getD k 0) P : Nat) : Int) := fun k => by
    rw [hN_val l _ (by omega), a, valN_sum]; rfl
  refine ⟨a, fun j => ?_, fun k hk => ?_, hN l ((roots n l).getD i 0) P, hv i, d, d2⟩
  · unfold nF
    rcases Nat.lt_or_ge j P.length with hj | hj
    · rw [List.getD_eq_getElem?_getD, List.getElem?_eq_getElem hj]
      have := List.all_eq_true.1 b _ (List.getElem_mem hj)
      simp only [decide_eq_true_eq] at this
      simp only [Option.getD_some]
      omega
    · rw [List.getD_eq_getElem?_getD, List.getElem?_eq_none hj]
      simp; omega
  · have := all_range c k hk
    simp only [decide_eq_true_eq] at this
    rw [hv, this]; rfl

/-- The list after i roots. -/
def nwF (l m : Nat) (R : List Nat) (v : Nat → Int) : Nat → Nat → Int
  | 0 => fun _ => 0
  | i + 1 => fun j => if j ≤ i then (nwF l m R v i j + ((v i - valN (nwF l m R v i) m (rtF R i) l) * (invN l (valN (nF (tmP l R i)) (i + 1) (rtF R i) l).toNat : Nat)).tmod l * nF (tmP l R i) j) % l else nwF l m R v i j
theorem nwF_bd {l m : Nat} (hl : 1 ≤ l) (R : List Nat) (v : Nat → Int) : ∀ i j, 0 ≤ nwF l m R v i j ∧ nwF l m R v i j < l
  | 0, j => by simp [nwF]; omega
  | i + 1, j => by
    simp only [nwF]
    split
    · exact ⟨Int.emod_nonneg _ (by omega), Int.emod_lt_of_pos _ (by omega)⟩
    · exact nwF_bd hl R v i j
theorem nwF_top {l m : Nat} (R : List Nat) (v : Nat → Int) : ∀ i j, i ≤ j → nwF l m R v i j = 0
  | 0, j, _ => rfl
  | i + 1, j, h => by simp only [nwF]; rw [if_neg (by omega)]; exact nwF_top R v i j (by omega)
theorem nF_top {P : List Nat} {j : Nat} (h : P.length ≤ j) : nF P j = 0 := by
  unfold nF; rw [List.getD_eq_getElem?_getD, List.getElem?_eq_none h]; rfl
theorem nwF_val {l n : Nat} (hl : primeN l = true) (h1 : 1 ≤ n) (h2 : n ≤ 16) (hf : fullN l n = true) (v : Nat → Int) (hv : ∀ i, i < (roots n l).length → 0 ≤ v i ∧ v i < l) :
    ∀ i, i ≤ (roots n l).length → ∀ k, k < i → valN (nwF l (roots n l).length (roots n l) v i) (roots n l).length (rtF (roots n l) k) l = v k
  | 0, _, k, hk => by omega
  | i + 1, hi, k, hk => by
    have hb := primeN_bd hl
    have ih := nwF_val hl h1 h2 hf v hv i (by omega)
    obtain ⟨p1, p2, p3, w, p4, p5, p6⟩ := nw_ok hl h1 h2 hf (i := i) (by omega)
    obtain ⟨m, hm⟩ : ∃ m, (roots n l).length = m := ⟨_, rfl⟩
    rw [hm] at ih hi hv ⊢
    generalize hR : roots n l = R at *
    generalize hP : tmP l R i = P at *
    obtain ⟨c, hc⟩ : ∃ c, ((v i - valN (nwF l m R v i) m (rtF R i) l) * (invN l (valN (nF P) (i + 1) (rtF R i) l).toNat : Nat)).tmod l = c := ⟨_, rfl⟩
    have e : valN (nwF l m R v (i + 1)) m (rtF R k) l = valN (fun j => nwF l m R v i j + c * nF P j) m (rtF R k) l := by
      refine valN_mod (fun j hj => ?_)
      simp only [nwF]
      rw [hP, hc]
      by_cases h : j ≤ i
      · rw [if_pos h, Int.emod_emod]
      · rw [if_neg h, nF_top (by omega), Int.mul_zero, Int.add_zero]
    rw [e, valN_lin, valN_top (f := nF P) (m := i + 1) (n := m) (by omega) (fun j h3 h4 => nF_top (by omega))]
    by_cases hki : k < i
    · rw [ih k hki, p3 k hki, Int.mul_zero, Int.add_zero]
      have := hv k (by omega)
      exact Int.emod_eq_of_lt this.1 this.2
    · obtain rfl : k = i := by omega
      rw [p4, Int.toNat_natCast] at hc
      rw [p4]
      have hvk := hv k (by omega)
      have h5 : (c * (w : Int)) % l = (v k - valN (nwF l m R v k) m (rtF R k) l) % l := by
        rw [Int.mul_emod, ← hc, Int.tmod_def, Int.sub_emod, Int.mul_emod_right, Int.sub_zero, Int.emod_emod, ← Int.mul_emod, Int.mul_assoc, Int.mul_emod]
        have : (((invN l w : Nat) : Int) * (w : Int)) % (l : Int) = 1 := by
          rw [← Int.natCast_mul, ← Int.natCast_emod, Nat.mul_comm, p5]; rfl
        rw [this, Int.mul_one, Int.emod_emod]
      rw [Int.add_emod, h5, ← Int.add_emod]
      rw [show valN (nwF l m R v k) m (rtF R k) l + (v k - valN (nwF l m R v k) m (rtF R k) l) = v k by omega]
      exact Int.emod_eq_of_lt hvk.1 hvk.2

/-! ### Polynomials that are 0 at the other roots: the model -/
def lgP (l : Nat) (R : List Nat) (i : Nat) : Nat → List Nat
  | 0 => [1]
  | k + 1 => if k = i then lgP l R i k else tmL l (R.getD k 0) (lgP l R i k)
/-- The factor of v, after k roots. -/
def lgC (l : Nat) (R : List Nat) (i v : Nat) : Nat → Nat
  | 0 => v
  | k + 1 => if k = i then lgC l R i v k else lgC l R i v k * invN l (restN l (rtF R i - rtF R k)) % l
theorem lgC_mul (l : Nat) (R : List Nat) (i v : Nat) : ∀ k, lgC l R i v k % l = v * lgC l R i 1 k % l
  | 0 => by simp [lgC]
  | k + 1 => by
    simp only [lgC]
    split
    · exact lgC_mul l R i v k
    · rw [Nat.mod_mod, Nat.mul_mod, lgC_mul l R i v k, ← Nat.mul_mod, Nat.mul_mod_mod, Nat.mul_assoc]
theorem lgC_lt {l : Nat} (R : List Nat) (i v : Nat) (hv : v < l) : ∀ k, lgC l R i v k < l
  | 0 => hv
  | k + 1 => by
    simp only [lgC]
    split
    · exact lgC_lt R i v hv k
    · exact Nat.mod_lt _ (by omega)
def powL (l x : Nat) : Nat → List Nat
  | 0 => []
  | k + 1 => powL l x k ++ [pwr l x k]
def dotN : List Nat → List Nat → Nat
  | a :: A, b :: B => a * b + dotN A B
  | _, _ => 0
def lgChk (l n : Nat) : Bool := fNL (roots n l) fun R =>
  fNLL ((List.range R.length).map (fun i => fNat (lgC l R i 1 R.length) fun c => (lgP l R i R.length).map (fun x => c * x % l))) fun T =>
  T.all (fun P => decide (P.length = R.length) && P.all (fun c => decide (c < l))) &&
  (List.range R.length).all fun k => fNL (R.map (fun r => pwr l r k)) fun X => (List.range R.length).all fun j =>
    decide (dotN (T.map (fun P => P.getD j 0)) X % l = if j = k then 1 else 0)
set_option maxRecDepth 10000 in
theorem lg_all : pairsChk lgChk = true := by decide +kernel
theorem dotN_sum : ∀ (A B : List Nat) (m : Nat), A.length = m → B.length = m → ((dotN A B : Nat) : Int) = sumN m (fun i => nF A i * nF B i)
  | [], [], m, h, _ => by simp at h; subst h; rfl
  | a :: A, b :: B, 0, h, _ => by simp at h
  | a :: A, [], m, h, h' => by simp at h h'; omega
  | [], b :: B, m, h, h' => by simp at h h'; omega
  | a :: A, b :: B, m + 1, h, h' => by
    have e : ∀ k, sumN (k + 1) (fun i => nF (a :: A) i * nF (b :: B) i) = a * b + sumN k (fun i => nF A i * nF B i) := by
      intro k
      induction k with
      | zero => simp [sumN, nF]
      | succ k ih =>
        show sumN (k + 1) _ + _ = _
        rw [ih]
        simp only [sumN, nF, List.getD_cons_succ]
        omega
    simp only [List.length_cons, Nat.add_right_cancel_iff] at h h'
    rw [e, ← dotN_sum A B m h h']
    show ((a * b + dotN A B : Nat) : Int) = _
    rw [Int.natCast_add, Int.natCast_mul]
/-- The number at j of the polynomial that has the value 1 at the root i, and 0 at the others. -/
def lgT (l : Nat) (R : List Nat) (i j : Nat) : Int := ((lgC l R i 1 R.length * (lgP l R i R.length).getD j 0 % l : Nat) : Int)
theorem lg_ok {l n : Nat} (hl : primeN l = true) (h1 : 1 ≤ n) (h2 : n ≤ 16) (hf : fullN l n = true) :
    (∀ i, i < (roots n l).length → (lgP l (roots n l) i (roots n l).length).length = (roots n l).length) ∧
    ∀ j, j < (roots n l).length → ∀ k, k < (roots n l).length → sumN (roots n l).length (fun i => lgT l (roots n l) i j * (rtF (roots n l) i) ^ k) % l = if j = k then 1 else 0 := by
  have hb := primeN_bd hl
  have h := pair_of lg_all hl h1 h2 hf
  unfold lgChk at h
  rw [fNL_eq, fNLL_eq] at h
  generalize hR : roots n l = R at h ⊢
  have hlt : ∀ r ∈ R, r < l := fun r hr => by
    rw [← hR] at hr
    have := roots_mem.1 hr
    omega
  simp only [fNat_eq, Bool.and_eq_true] at h
  obtain ⟨ha, hb2⟩ := h
  refine ⟨fun i hi => ?_, fun j hj k hk => ?_⟩
  · have := List.all_eq_true.1 ha ((lgP l R i R.length).map (fun x => lgC l R i 1 R.length * x % l)) (List.mem_map.2 ⟨i, List.mem_range.2 hi, rfl⟩)
    simp only [Bool.and_eq_true, decide_eq_true_eq, List.length_map] at this
    exact this.1
  · have h := all_range hb2 k hk
    rw [fNL_eq] at h
    have h := all_range h j hj
    simp only [decide_eq_true_eq] at h
    have e1 : (((dotN (((List.range R.length).map (fun i => (lgP l R i R.length).map (fun x => lgC l R i 1 R.length * x % l))).map (fun P => P.getD j 0)) (R.map (fun r => pwr l r k)) % l : Nat) : Int)) = ((if j = k then 1 else 0 : Nat) : Int) := by rw [h]
    rw [Int.natCast_emod, dotN_sum _ _ R.length (by simp) (by simp)] at e1
    have e2 : ((if j = k then 1 else 0 : Nat) : Int) = if j = k then 1 else 0 := by split <;> rfl
    rw [e2] at e1
    rw [← e1]
    refine sumN_mod (fun i hi => ?_)
    have e3 : nF (((List.range R.length).map (fun i => (lgP l R i R.length).map (fun x => lgC l R i 1 R.length * x % l))).map (fun P => P.getD j 0)) i = lgT l R i j := by
      unfold nF lgT
      rw [List.getD_eq_getElem?_getD, List.getElem?_map, List.getElem?_map, List.getElem?_range hi]
      simp only [Option.map_some, Option.getD_some]
      rw [List.getD_eq_getElem?_getD, List.getElem?_map, List.getD_eq_getElem?_getD]
      cases (lgP l R i R.length)[j]? <;> simp
    have e4 : nF (R.map (fun r => pwr l r k)) i = ((pwr l (R.getD i 0) k : Nat) : Int) := by
      unfold nF
      rw [List.getD_eq_getElem?_getD, List.getElem?_map, List.getD_eq_getElem?_getD, List.getElem?_eq_getElem hi]
      rfl
    have e5 : ∀ x k : Nat, ((pwr l x k : Nat) : Int) % l = (x : Int) ^ k % l := by
      intro x k
      induction k with
      | zero => simp [pwr]
      | succ k ih =>
        show ((pwr l x k * x % l : Nat) : Int) % l = _
        rw [Int.natCast_emod, Int.natCast_mul, Int.emod_emod, Int.mul_emod, ih, ← Int.mul_emod, Int.pow_succ]
    rw [e3, e4, Int.mul_emod _ ((pwr l (R.getD i 0) k : Nat) : Int), e5, ← Int.mul_emod]
    rfl
/-- Just one number has given values at all roots. -/
theorem lg_one {l n : Nat} (hl : primeN l = true) (h1 : 1 ≤ n) (h2 : n ≤ 16) (hf : fullN l n = true) (g : Nat → Int) (v : Nat → Int) (hg : ∀ j, j < (roots n l).length → 0 ≤ g j ∧ g j < l)
    (hv : ∀ k, k < (roots n l).length → valN g (roots n l).length (rtF (roots n l) k) l = v k) (j : Nat) (hj : j < (roots n l).length) :
    g j = sumN (roots n l).length (fun i => lgT l (roots n l) i j * v i) % l := by
  have hb := primeN_bd hl
  have H := (lg_ok hl h1 h2 hf).2 j hj
  generalize roots n l = R at *
  have e1 : sumN R.length (fun i => lgT l R i j * v i) % l = sumN R.length (fun i => lgT l R i j * sumN R.length (fun k => g k * (rtF R i) ^ k)) % l := by
    refine sumN_mod (fun i hi => ?_)
    rw [← hv i hi, valN_sum, Int.mul_emod, Int.emod_emod, ← Int.mul_emod]
  have e2 : sumN R.length (fun i => lgT l R i j * sumN R.length (fun k => g k * (rtF R i) ^ k)) = sumN R.length (fun k => g k * sumN R.length (fun i => lgT l R i j * (rtF R i) ^ k)) := by
    have : ∀ i, lgT l R i j * sumN R.length (fun k => g k * (rtF R i) ^ k) = sumN R.length (fun k => lgT l R i j * (g k * (rtF R i) ^ k)) := fun i => (sumN_mul _ _ _).symm
    rw [sumN_congr (fun i _ => this i), sumN_swap]
    refine sumN_congr (fun k _ => ?_)
    rw [← sumN_mul]
    exact sumN_congr (fun i _ => by rw [← Int.mul_assoc, Int.mul_comm (lgT l R i j), Int.mul_assoc])
  have e3 : sumN R.length (fun k => g k * sumN R.length (fun i => lgT l R i j * (rtF R i) ^ k)) % l = sumN R.length (fun k => if k = j then g j else 0) % l := by
    refine sumN_mod (fun k hk => ?_)
    rw [Int.mul_emod, H k hk]
    by_cases e : k = j
    · subst e; rw [if_pos rfl, if_pos rfl, Int.mul_one, Int.emod_emod]
    · rw [if_neg (fun h => e h.symm), if_neg e, Int.mul_zero]
  rw [e1, e2, e3, sumN_single, if_pos hj]
  exact (Int.emod_eq_of_lt (hg j hj).1 (hg j hj).2).symm
end Go.Proofs.Ythookppmclimkaa
