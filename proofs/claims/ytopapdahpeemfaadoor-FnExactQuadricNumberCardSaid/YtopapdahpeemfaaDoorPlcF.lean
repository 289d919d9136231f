/- Chapter 7 by reckoning: how primes split, values of polynomials, roots. Plain facts. -/
import Derived.Test.YtopapdahpeemfaaDoorIdx
import Derived.Test.YtopapdahpeemfaaDoorZ
namespace Go.Proofs.YtopapdahpeemfaaDoor
set_option linter.unusedVariables false

/-! ### Splitting -/
def mGo (l : Nat) : Nat → Nat → Nat
  | 0, m => m
  | f + 1, m => if m % l = 0 then mGo l f (m / l) else m
/-- n without its factors l. -/
def mN (l n : Nat) : Nat := mGo l 16 n
def pwM (l m : Nat) : Nat → Nat
  | 0 => 1 % m
  | k + 1 => pwM l m k * l % m
def pmGo (l m : Nat) : Nat → Nat → Nat → Nat
  | 0, _, k => k
  | f + 1, x, k => if x = 1 % m then k else pmGo l m f (x * l % m) (k + 1)
/-- The period of l by m. -/
def perM (l m : Nat) : Nat := pmGo l m 16 (l % m) 1
def chkM (l n : Nat) : Bool :=
  decide (1 ≤ mN l n) && decide (mN l n ≤ n) && decide (n % mN l n = 0) && decide (mN l n % l ≠ 0) && (if n % l = 0 then decide (1 ≤ n / l) && decide (n / l < n) && decide (mN l (n / l) = mN l n) else decide (mN l n = n))
def chkP (l m : Nat) : Bool :=
  let f := perM l m
  decide (1 ≤ f) && decide (f ≤ 16) && decide (pwM l m f = 1 % m) && decide (pwM l m 1 = l % m) && (List.range f).all (fun j => decide (j = 0) || decide (pwM l m j ≠ 1 % m)) && (List.range (f + 1)).all (fun j => decide (pwM l m j < m))
/-- l splits fully for n. -/
def fullN (l n : Nat) : Bool := decide (n % l ≠ 0) && decide ((l - 1) % n = 0)
theorem m_all : ((List.range 62).all fun l => !primeN l || (List.range 17).all fun n => decide (n = 0) || chkM l n) = true := by decide +kernel
theorem p_all : ((List.range 62).all fun l => !primeN l || (List.range 17).all fun m => decide (m = 0) || decide (m % l = 0) || chkP l m) = true := by decide +kernel
theorem full_all : ((List.range 62).all fun l => !primeN l || (List.range 17).all fun n => decide (n = 0) || decide ((decide (phiN (n / mN l n) = 1) && decide (perM l (mN l n) = 1)) = fullN l n)) = true := by decide +kernel
theorem order_of {q : Nat → Bool} (h : ((List.range 17).all fun n => decide (n = 0) || q n) = true) {n : Nat} (h1 : 1 ≤ n) (h2 : n ≤ 16) : q n = true := by
  have := all_range h n (by omega)
  have e : decide (n = 0) = false := decide_eq_false (by omega)
  simpa only [e, Bool.false_or] using this
theorem m_ok {l n : Nat} (hl : primeN l = true) (h1 : 1 ≤ n) (h2 : n ≤ 16) : 1 ≤ mN l n ∧ mN l n ≤ n ∧ n % mN l n = 0 ∧ ¬ mN l n % l = 0 ∧ (n % l = 0 → 1 ≤ n / l ∧ n / l < n ∧ mN l (n / l) = mN l n) ∧ (¬ n % l = 0 → mN l n = n) := by
  have h := order_of (prime_of m_all hl) h1 h2
  unfold chkM at h
  simp only [Bool.and_eq_true, decide_eq_true_eq] at h
  obtain ⟨⟨⟨⟨a, b⟩, c⟩, d⟩, e⟩ := h
  refine ⟨a, b, c, d, fun g => ?_, fun g => ?_⟩
  · rw [if_pos g] at e
    simp only [Bool.and_eq_true, decide_eq_true_eq] at e
    exact ⟨e.1.1, e.1.2, e.2⟩
  · rw [if_neg g] at e
    simpa using e
theorem p_ok {l m : Nat} (hl : primeN l = true) (h1 : 1 ≤ m) (h2 : m ≤ 16) (h3 : ¬ m % l = 0) :
    1 ≤ perM l m ∧ perM l m ≤ 16 ∧ pwM l m (perM l m) = 1 % m ∧ pwM l m 1 = l % m ∧ (∀ j, 1 ≤ j → j < perM l m → pwM l m j ≠ 1 % m) ∧ ∀ j, j ≤ perM l m → pwM l m j < m := by
  have h := all_range (prime_of p_all hl) m (by omega)
  have e : decide (m = 0) = false := decide_eq_false (by omega)
  have e2 : decide (m % l = 0) = false := decide_eq_false h3
  simp only [e, e2, Bool.false_or] at h
  unfold chkP at h
  simp only [Bool.and_eq_true, decide_eq_true_eq] at h
  obtain ⟨⟨⟨⟨⟨a, b⟩, c⟩, d⟩, e⟩, f⟩ := h
  refine ⟨a, b, c, d, fun j hj hj' => ?_, fun j hj => ?_⟩
  · have := all_range e j hj'
    have e : decide (j = 0) = false := decide_eq_false (by omega)
    simpa only [e, Bool.false_or, decide_eq_true_eq] using this
  · have := all_range f j (by omega)
    simpa only [decide_eq_true_eq] using this
theorem full_ok {l n : Nat} (hl : primeN l = true) (h1 : 1 ≤ n) (h2 : n ≤ 16) : (decide (phiN (n / mN l n) = 1) && decide (perM l (mN l n) = 1)) = fullN l n := by
  have h := order_of (prime_of full_all hl) h1 h2
  simpa only [decide_eq_true_eq] using h
theorem pwM_succ (l m k : Nat) : pwM l m (k + 1) = pwM l m k * l % m := rfl
/-- n and l are as told. -/
def SpP (n l : Int) : Prop := 1 ≤ n ∧ n ≤ 16 ∧ 0 ≤ l ∧ primeN l.toNat = true
theorem SpP.nat {n l : Int} (h : SpP n l) : ∃ N L : Nat, n = N ∧ l = L ∧ 1 ≤ N ∧ N ≤ 16 ∧ primeN L = true := by
  obtain ⟨h1, h2, h3, h4⟩ := h
  exact ⟨n.toNat, l.toNat, by omega, by omega, by omega, by omega, h4⟩
/-- l splits fully for n. -/
def FuP (n l : Int) : Prop := SpP n l ∧ fullN l.toNat n.toNat = true
theorem FuP.nat {n l : Int} (h : FuP n l) : ∃ N L : Nat, n = N ∧ l = L ∧ 1 ≤ N ∧ N ≤ 16 ∧ primeN L = true ∧ fullN L N = true := by
  obtain ⟨h, h5⟩ := h
  obtain ⟨N, L, rfl, rfl, a, b, c⟩ := h.nat
  exact ⟨N, L, rfl, rfl, a, b, c, by simpa using h5⟩
theorem full_bd {l n : Nat} (hl : primeN l = true) (h : fullN l n = true) : (l - 1) % n = 0 ∧ n ≤ l - 1 := by
  have hb := primeN_bd hl
  unfold fullN at h
  simp only [Bool.and_eq_true, decide_eq_true_eq] at h
  refine ⟨h.2, ?_⟩
  rcases Nat.lt_or_ge (l - 1) n with h2 | h2
  · rw [Nat.mod_eq_of_lt h2] at h; omega
  · exact h2

/-! ### Values -/
/-- The value of the top j of n numbers at x. -/
def hor (f : Nat → Int) (x : Int) (n : Nat) : Nat → Int
  | 0 => 0
  | j + 1 => hor f x n j * x + f (n - 1 - j)
/-- The value of n numbers at x, modulo q. -/
def valN (f : Nat → Int) (n : Nat) (x q : Int) : Int := hor f x n n % q
theorem hor_congr {f g : Nat → Int} {x : Int} {n : Nat} (h : ∀ i, i < n → f i = g i) : ∀ j, j ≤ n → hor f x n j = hor g x n j
  | 0, _ => rfl
  | j + 1, hj => by
    show hor f x n j * x + _ = hor g x n j * x + _
    rw [hor_congr h j (by omega), h (n - 1 - j) (by omega)]
theorem valN_congr {f g : Nat → Int} {x q : Int} {n : Nat} (h : ∀ i, i < n → f i = g i) : valN f n x q = valN g n x q := by
  unfold valN; rw [hor_congr h n (Nat.le_refl _)]
theorem valN_bd (f : Nat → Int) (n : Nat) (x : Int) {q : Int} (h : 1 ≤ q) : 0 ≤ valN f n x q ∧ valN f n x q < q :=
  ⟨Int.emod_nonneg _ (by omega), Int.emod_lt_of_pos _ (by omega)⟩

/-- The polynomials of the orders up to 16. -/
def PT : List (List Int) := [[], [-1, 1], [1, 1], [1, 1, 1], [1, 0, 1], [1, 1, 1, 1, 1], [1, -1, 1], [1, 1, 1, 1, 1, 1, 1], [1, 0, 0, 0, 1], [1, 0, 0, 1, 0, 0, 1], [1, -1, 1, -1, 1], [1, 1, 1, 1, 1, 1, 1, 1, 1, 1, 1], [1, 0, -1, 0, 1], [1, 1, 1, 1, 1, 1, 1, 1, 1, 1, 1, 1, 1], [1, -1, 1, -1, 1, -1, 1], [1, -1, 0, 1, -1, 1, 0, -1, 1], [1, 0, 0, 0, 0, 0, 0, 0, 1]]
def cT (n j : Nat) : Int := (PT.getD n []).getD j 0
theorem pt_all : ∀ n, n < 17 → 1 ≤ n → cycT n = PT.getD n [] := by decide +kernel
theorem pt_len : ∀ n, n < 17 → 1 ≤ n → (PT.getD n []).length = phiN n + 1 := by decide +kernel
theorem pt_bd : ∀ n, n < 17 → 1 ≤ n → ∀ j, j < 13 → -1 ≤ cT n j ∧ cT n j ≤ 1 := by decide +kernel
theorem phi_bd : ∀ n, n < 17 → 1 ≤ n → 1 ≤ phiN n ∧ phiN n ≤ 12 := by decide +kernel
theorem cyc_cT {n : Nat} (h1 : 1 ≤ n) (h2 : n ≤ 16) {i : Nat} (hi : i ≤ phiN n) : cyc n i = cT n i := by
  rw [cyc_table n (by omega) h1 i hi, pt_all n (by omega) h1]; rfl
theorem cyc_bd1 {n : Nat} (h1 : 1 ≤ n) (h2 : n ≤ 16) {i : Nat} (hi : i < phiN n + 1) : -1 ≤ cyc n i ∧ cyc n i ≤ 1 := by
  have := phi_bd n (by omega) h1
  rw [cyc_cT h1 h2 (by omega)]; exact pt_bd n (by omega) h1 i (by omega)
/-- r is a root of n for l. -/
def isRt (n l r : Nat) : Bool := decide (hor (cT n) (r : Int) (PT.getD n []).length (PT.getD n []).length % (l : Int) = 0)
theorem isRt_iff {n l r : Nat} (h1 : 1 ≤ n) (h2 : n ≤ 16) : isRt n l r = true ↔ valN (cyc n) (phiN n + 1) r l = 0 := by
  unfold isRt
  rw [pt_len n (by omega) h1, decide_eq_true_eq]
  unfold valN
  rw [hor_congr (f := cyc n) (g := cT n) (fun i hi => cyc_cT h1 h2 (by omega)) _ (Nat.le_refl _)]
/-- The roots of n for l among the numbers one greater than the list's. -/
def rtL (n l : Nat) (L : List Nat) : List Nat := (L.filter (fun x => isRt n l (x + 1))).map (fun x => x + 1)
theorem rtL_yes {n l x : Nat} (L : List Nat) (h : isRt n l (x + 1) = true) : rtL n l (L ++ [x]) = rtL n l L ++ [x + 1] := by
  unfold rtL; rw [List.filter_append, List.map_append]; simp [h]
theorem rtL_no {n l x : Nat} (L : List Nat) (h : isRt n l (x + 1) = false) : rtL n l (L ++ [x]) = rtL n l L := by
  unfold rtL; rw [List.filter_append, List.map_append]; simp [h]
theorem rtL_len (n l : Nat) (L : List Nat) : (rtL n l L).length ≤ L.length := by
  unfold rtL; rw [List.length_map]; exact List.length_filter_le _ _
theorem rtL_mem {n l y : Nat} {L : List Nat} : y ∈ rtL n l L ↔ ∃ x ∈ L, isRt n l (x + 1) = true ∧ y = x + 1 := by
  unfold rtL
  constructor
  · intro h
    obtain ⟨x, hx, rfl⟩ := List.mem_map.1 h
    exact ⟨x, (List.mem_filter.1 hx).1, (List.mem_filter.1 hx).2, rfl⟩
  · rintro ⟨x, hx, h, rfl⟩
    exact List.mem_map.2 ⟨x, List.mem_filter.2 ⟨hx, h⟩, rfl⟩
/-- The roots of n for l. -/
def roots (n l : Nat) : List Nat := rtL n l (List.range (l - 1))
theorem roots_mem {n l y : Nat} : y ∈ roots n l ↔ 1 ≤ y ∧ y ≤ l - 1 ∧ isRt n l y = true := by
  unfold roots
  rw [rtL_mem]
  constructor
  · rintro ⟨x, hx, h, rfl⟩
    have := List.mem_range.1 hx
    exact ⟨by omega, by omega, h⟩
  · rintro ⟨h1, h2, h3⟩
    refine ⟨y - 1, List.mem_range.2 (by omega), ?_, by omega⟩
    rwa [show y - 1 + 1 = y by omega]
def rtF (L : List Nat) (j : Nat) : Int := (L.getD j 0 : Nat)
theorem rtF_push (L : List Nat) (x j : Nat) (hj : j < L.length + 1) : rtF (L ++ [x]) j = if j < L.length then rtF L j else (x : Int) := by
  unfold rtF
  by_cases e : j < L.length
  · rw [if_pos e, List.getD_eq_getElem?_getD, List.getD_eq_getElem?_getD, List.getElem?_append_left e]
  · rw [if_neg e, List.getD_eq_getElem?_getD, List.getElem?_append_right (by omega), show j - L.length = 0 by omega]
    rfl
theorem rtF_mem {L : List Nat} {j : Nat} (h : j < L.length) : ∃ y ∈ L, rtF L j = (y : Int) := by
  unfold rtF
  rw [List.getD_eq_getElem?_getD, List.getElem?_eq_getElem h]
  exact ⟨L[j], List.getElem_mem h, rfl⟩
theorem rtF_bd {n l m j : Nat} (hm : m ≤ 60) : 0 ≤ rtF (rtL n l (List.range m)) j ∧ rtF (rtL n l (List.range m)) j ≤ 60 := by
  rcases Nat.lt_or_ge j (rtL n l (List.range m)).length with h | h
  · obtain ⟨y, hy, e⟩ := rtF_mem h
    obtain ⟨x, hx, _, rfl⟩ := rtL_mem.1 hy
    have := List.mem_range.1 hx
    rw [e]; omega
  · unfold rtF
    rw [List.getD_eq_getElem?_getD, List.getElem?_eq_none h]
    simp
/-! ### What the roots do -/
def pairsChk (q : Nat → Nat → Bool) : Bool := (List.range 62).all fun l => !primeN l || (List.range 17).all fun n => decide (n = 0) || !fullN l n || q l n
theorem pair_of {q : Nat → Nat → Bool} (h : pairsChk q = true) {l n : Nat} (hl : primeN l = true) (h1 : 1 ≤ n) (h2 : n ≤ 16) (hf : fullN l n = true) : q l n = true := by
  unfold pairsChk at h
  have := order_of (q := fun n => !fullN l n || q l n) (by simpa only [Bool.or_assoc] using prime_of h hl) h1 h2
  simpa only [hf, Bool.not_true, Bool.false_or] using this
theorem rt_len_all : pairsChk (fun l n => decide ((roots n l).length = phiN n)) = true := by decide +kernel
theorem rt_len {l n : Nat} (hl : primeN l = true) (h1 : 1 ≤ n) (h2 : n ≤ 16) (hf : fullN l n = true) : (roots n l).length = phiN n := by
  simpa using pair_of rt_len_all hl h1 h2 hf
theorem rt_per_all : pairsChk (fun l n => (roots n l).all (fun r => decide (perN l r = n))) = true := by decide +kernel
theorem rt_per {l n r : Nat} (hl : primeN l = true) (h1 : 1 ≤ n) (h2 : n ≤ 16) (hf : fullN l n = true) (hr : r ∈ roots n l) : perN l r = n := by
  have := List.all_eq_true.1 (pair_of rt_per_all hl h1 h2 hf) r hr
  simpa using this
end Go.Proofs.YtopapdahpeemfaaDoor
