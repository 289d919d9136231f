/- Bernoulli numbers modulo primes and as fractions, as the program and as the model reckon them; that they are the same; bounds. Plain facts, no walk. -/
import Derived.Test.YtnhpodlcgkgpbaaIdx
namespace Go.Proofs.Ytnhpodlcgkgpbaa
set_option linter.unusedVariables false
set_option linter.unusedSimpArgs false

def frN (n : Nat) (k : Nat → Bool) : Bool := match n with | 0 => k 0 | m + 1 => k (m + 1)
theorem frN_eq (n : Nat) (k : Nat → Bool) : frN n k = k n := by cases n <;> rfl
/-- Choices, as the program reckons them: C(m, t + 1). -/
def chB (m : Nat) : Nat → Nat
  | 0 => m
  | t + 1 => chB m t * (m - (t + 1)) / (t + 2)
theorem ch_bd : ∀ m, m < 60 → ∀ t, t < m → chB m t ≤ 60000000000000000 ∧ chB m t * (m - (t + 1)) ≤ 2000000000000000000 := by decide +kernel
/-- Bernoulli residues as the program reckons them: the sum, the next one, the list. -/
def smP (p : Nat) (L : List Nat) (m : Nat) : Nat → Nat
  | 0 => 1
  | t + 1 => (smP p L m t + L.getD (t + 1) 0 * (chB m t % p) % p) % p
def nxP (p : Nat) (L : List Nat) (m : Nat) : Nat := smP p L m (m - 2) * (p - 1) % p * pwr p m (p - 2) % p
def blP (p : Nat) : Nat → List Nat
  | 0 => [1]
  | k + 1 => blP p k ++ [nxP p (blP p k) (k + 2)]
/-- As the model reckons them. -/
def smM (p : Nat) (L : List Nat) (n : Nat) : Nat → Nat × Nat
  | 0 => (0, 1)
  | i + 1 => (((smM p L n i).1 + (smM p L n i).2 * L.getD i 0) % p, (smM p L n i).2 * ((n + 1 - i) % p) % p * pwr p (i + 1) (p - 2) % p)
def nxM (p : Nat) (L : List Nat) (n : Nat) : Nat := (p - (smM p L n n).1) % p * pwr p (n + 1) (p - 2) % p
/-- The same with the values at hand: sum and choice are forced. -/
def smF (p : Nat) (L : List Nat) (n : Nat) : Nat → Nat → Nat → Nat → (Nat → Bool) → Bool
  | 0, _, s, _, K => K s
  | f + 1, i, s, c, K => frN ((s + c * L.getD i 0) % p) fun s' => frN (c * ((n + 1 - i) % p) % p * pwr p (i + 1) (p - 2) % p) fun c' => smF p L n f (i + 1) s' c' K
theorem smF_eq (p : Nat) (L : List Nat) (n : Nat) (K : Nat → Bool) : ∀ f i, smF p L n f i (smM p L n i).1 (smM p L n i).2 K = K (smM p L n (i + f)).1
  | 0, i => rfl
  | f + 1, i => by
    unfold smF
    rw [frN_eq, frN_eq, show i + (f + 1) = i + 1 + f by omega]
    exact smF_eq p L n K f (i + 1)
def spF (p : Nat) (L : List Nat) (m : Nat) : Nat → Nat → Nat → Nat → (Nat → Bool) → Bool
  | 0, _, s, _, K => K s
  | f + 1, t, s, c, K => frN ((s + L.getD (t + 1) 0 * (c % p) % p) % p) fun s' => frN (c * (m - (t + 1)) / (t + 2)) fun c' => spF p L m f (t + 1) s' c' K
theorem spF_eq (p : Nat) (L : List Nat) (m : Nat) (K : Nat → Bool) : ∀ f t, spF p L m f t (smP p L m t) (chB m t) K = K (smP p L m (t + f))
  | 0, t => rfl
  | f + 1, t => by
    unfold spF
    rw [frN_eq, frN_eq, show t + (f + 1) = t + 1 + f by omega]
    exact spF_eq p L m K f (t + 1)
def runB (p : Nat) : Nat → Nat → List Nat → Bool
  | 0, _, _ => true
  | f + 1, k, L => spF p L (k + 2) k 0 1 (k + 2) fun s => frN (s * (p - 1) % p * pwr p (k + 2) (p - 2) % p) fun v => smF p L (k + 1) (k + 1) 0 0 1 fun s2 => decide (v = (p - s2) % p * pwr p (k + 2) (p - 2) % p) && runB p f (k + 1) (L ++ [v])
theorem runB_eq (p : Nat) : ∀ f k, runB p f k (blP p k) = true → ∀ j, k ≤ j → j < k + f → nxP p (blP p j) (j + 2) = nxM p (blP p j) (j + 1)
  | 0, k, _, j, h1, h2 => by omega
  | f + 1, k, h, j, h1, h2 => by
    unfold runB at h
    rw [show spF p (blP p k) (k + 2) k 0 1 (k + 2) = spF p (blP p k) (k + 2) k 0 (smP p (blP p k) (k + 2) 0) (chB (k + 2) 0) from rfl, spF_eq, frN_eq,
      show smF p (blP p k) (k + 1) (k + 1) 0 0 1 = smF p (blP p k) (k + 1) (k + 1) 0 (smM p (blP p k) (k + 1) 0).1 (smM p (blP p k) (k + 1) 0).2 from rfl, smF_eq] at h
    simp only [Nat.zero_add, Bool.and_eq_true, decide_eq_true_eq] at h
    have e : nxP p (blP p k) (k + 2) = nxM p (blP p k) (k + 1) := by unfold nxP nxM; rw [show k + 2 - 2 = k by omega]; exact h.1
    by_cases g : j = k
    · subst g; exact e
    · refine runB_eq p f (k + 1) ?_ j (by omega) (by omega)
      have h2 := h.2
      show runB p f (k + 1) (blP p k ++ [nxP p (blP p k) (k + 2)]) = true
      unfold nxP
      rw [show k + 2 - 2 = k by omega]
      exact h2
theorem runB_all : ∀ p, p < 62 → primeN p = true → runB p (p - 3) 0 [1] = true := by decide +kernel
theorem be_model {p : Nat} (hp : primeN p = true) {k : Nat} (hk : k + 1 ≤ p - 3) : nxP p (blP p k) (k + 2) = nxM p (blP p k) (k + 1) :=
  runB_eq p (p - 3) 0 (runB_all p (by have := primeN_bd hp; omega) hp) k (by omega) (by omega)
theorem bl_len (p : Nat) : ∀ k, (blP p k).length = k + 1
  | 0 => rfl
  | k + 1 => by simp [blP, bl_len p k]
/-- The k-th Bernoulli residue. -/
def beR (p k : Nat) : Nat := (blP p k).getD k 0
theorem bl_get (p : Nat) : ∀ k i, i ≤ k → (blP p k).getD i 0 = beR p i
  | 0, i, h => by obtain rfl : i = 0 := by omega
                  rfl
  | k + 1, i, h => by
    by_cases e : i = k + 1
    · subst e; rfl
    · have := bl_get p k i (by omega)
      rw [← this]
      simp only [blP, List.getD_eq_getElem?_getD]
      rw [List.getElem?_append_left (by rw [bl_len]; omega)]
theorem be_succ (p k : Nat) : beR p (k + 1) = nxP p (blP p k) (k + 2) := by
  unfold beR
  simp only [blP, List.getD_eq_getElem?_getD]
  rw [List.getElem?_append_right (by rw [bl_len]; omega), bl_len]
  simp
theorem be_lt {p : Nat} (h : 2 ≤ p) : ∀ k, beR p k < p
  | 0 => by show 1 < p; omega
  | k + 1 => by rw [be_succ]; exact Nat.mod_lt _ (by omega)
theorem smP_lt {p : Nat} (h : 2 ≤ p) (L : List Nat) (m : Nat) : ∀ t, smP p L m t < p
  | 0 => by show 1 < p; omega
  | t + 1 => Nat.mod_lt _ (by omega)
theorem smM_lt {p : Nat} (h : 2 ≤ p) (L : List Nat) (n : Nat) : ∀ t, (smM p L n t).1 < p ∧ (smM p L n t).2 < p
  | 0 => by show 0 < p ∧ 1 < p; omega
  | t + 1 => ⟨Nat.mod_lt _ (by omega), Nat.mod_lt _ (by omega)⟩
def frI (x : Int) (k : Int → Bool) : Bool := match x with | .ofNat n => frN n (fun n => k (.ofNat n)) | .negSucc n => frN n (fun n => k (.negSucc n))
theorem frI_eq (x : Int) (k : Int → Bool) : frI x k = k x := by
  cases x with
  | ofNat n => exact frN_eq n (fun n => k (.ofNat n))
  | negSucc n => exact frN_eq n (fun n => k (.negSucc n))
def frP (x : Int × Int) (k : Int × Int → Bool) : Bool := frI x.1 fun a => frI x.2 fun b => k (a, b)
theorem frP_eq (x : Int × Int) (k : Int × Int → Bool) : frP x k = k x := by unfold frP; rw [frI_eq, frI_eq]
/-- Fractions as the program reckons them. -/
def ltF (a b : Int) : Int × Int := (a.tdiv (gcdI (max a (-a)) b), b.tdiv (gcdI (max a (-a)) b))
def plF (x y : Int × Int) : Int × Int := ltF (x.1 * y.2 + y.1 * x.2) (x.2 * y.2)
def tiF (x : Int × Int) (k : Int) : Int × Int := ltF (x.1 * k) x.2
def ovF (x : Int × Int) (k : Int) : Int × Int := ltF x.1 (x.2 * k)
def inB (x : Int) : Bool := decide (-4000000000000000000 ≤ x) && decide (x ≤ 4000000000000000000)
def inP (x : Int) : Bool := decide (1 ≤ x) && decide (x ≤ 4000000000000000000)
def okP (x y : Int × Int) : Bool := inB (x.1 * y.2) && inB (y.1 * x.2) && inB (x.1 * y.2 + y.1 * x.2) && inP (x.2 * y.2)
def okT (x : Int × Int) (k : Int) : Bool := inB (x.1 * k) && inP x.2
def okO (x : Int × Int) (k : Int) : Bool := inB x.1 && inP (x.2 * k)
def smQ (L : List (Int × Int)) (m : Nat) : Nat → Int × Int
  | 0 => (1, 1)
  | t + 1 => plF (smQ L m t) (tiF (L.getD (t + 1) (0, 1)) (chB m t))
def nxQ (L : List (Int × Int)) (m : Nat) : Int × Int := ovF (tiF (smQ L m (m - 2)) (-1)) m
def blQ : Nat → List (Int × Int)
  | 0 => [(1, 1)]
  | k + 1 => blQ k ++ [nxQ (blQ k) (k + 2)]
/-- As the model reckons them. -/
def chC (m : Nat) : Nat → Nat
  | 0 => 1
  | k + 1 => chC m k * (m - k) / (k + 1)
theorem chC_bd : ∀ m, m < 22 → ∀ k, k < m → chC m k ≤ 1000000 ∧ chC m k * (m - k) ≤ 100000000 := by decide +kernel
def mdP (s : Int × Int) (c : Int) (x : Int × Int) : Int := s.1 * (x.2.tdiv (gcdI s.2 x.2)) + c * x.1 * (s.2.tdiv (gcdI s.2 x.2))
def mdQ (s x : Int × Int) : Int := s.2.tdiv (gcdI s.2 x.2) * x.2
def okD (s : Int × Int) (c : Int) (x : Int × Int) : Bool := inP s.2 && inP x.2 && inB s.1 && inB x.1 && inB (s.1 * (x.2.tdiv (gcdI s.2 x.2))) && inB (c * x.1) && inB (c * x.1 * (s.2.tdiv (gcdI s.2 x.2))) && inB (mdP s c x) && inP (mdQ s x)
def smD (L : List (Int × Int)) (n : Nat) : Nat → Int × Int
  | 0 => (0, 1)
  | i + 1 => ltF (mdP (smD L n i) (chC (n + 1) i) (L.getD i (0, 1))) (mdQ (smD L n i) (L.getD i (0, 1)))
def nxD (L : List (Int × Int)) (n : Nat) : Int × Int := ((-(smD L n n).1).tdiv (gcdI (max (smD L n n).1 (-(smD L n n).1)) ((smD L n n).2 * (n + 1))), ((smD L n n).2 * (n + 1)).tdiv (gcdI (max (smD L n n).1 (-(smD L n n).1)) ((smD L n n).2 * (n + 1))))
def spQ (L : List (Int × Int)) (m : Nat) : Nat → Nat → Int × Int → Nat → (Int × Int → Bool) → Bool
  | 0, _, s, _, K => K s
  | f + 1, t, s, c, K => okT (L.getD (t + 1) (0, 1)) c && frP (tiF (L.getD (t + 1) (0, 1)) c) fun u => okP s u && frP (plF s u) fun s' => frN (c * (m - (t + 1)) / (t + 2)) fun c' => spQ L m f (t + 1) s' c' K
theorem spQ_eq (L : List (Int × Int)) (m : Nat) (K : Int × Int → Bool) : ∀ f t, spQ L m f t (smQ L m t) (chB m t) K = true →
    (∀ j, t ≤ j → j < t + f → okT (L.getD (j + 1) (0, 1)) (chB m j) = true ∧ okP (smQ L m j) (tiF (L.getD (j + 1) (0, 1)) (chB m j)) = true) ∧ K (smQ L m (t + f)) = true
  | 0, t, h => ⟨fun j h1 h2 => by omega, h⟩
  | f + 1, t, h => by
    unfold spQ at h
    rw [frP_eq, frP_eq, frN_eq] at h
    simp only [Bool.and_eq_true] at h
    have g := spQ_eq L m K f (t + 1) h.2.2
    rw [show t + (f + 1) = t + 1 + f by omega]
    refine ⟨fun j h1 h2 => ?_, g.2⟩
    by_cases e : j = t
    · subst e; exact ⟨h.1, h.2.1⟩
    · exact g.1 j (by omega) h2
def sdQ (L : List (Int × Int)) (n : Nat) : Nat → Nat → Int × Int → (Int × Int → Bool) → Bool
  | 0, _, s, K => K s
  | f + 1, i, s, K => frN (chC (n + 1) i) fun c => okD s c (L.getD i (0, 1)) && frP (ltF (mdP s c (L.getD i (0, 1))) (mdQ s (L.getD i (0, 1)))) fun s' => sdQ L n f (i + 1) s' K
theorem sdQ_eq (L : List (Int × Int)) (n : Nat) (K : Int × Int → Bool) : ∀ f i, sdQ L n f i (smD L n i) K = true →
    (∀ j, i ≤ j → j < i + f → okD (smD L n j) (chC (n + 1) j) (L.getD j (0, 1)) = true) ∧ K (smD L n (i + f)) = true
  | 0, i, h => ⟨fun j h1 h2 => by omega, h⟩
  | f + 1, i, h => by
    unfold sdQ at h
    rw [frN_eq, frP_eq] at h
    simp only [Bool.and_eq_true] at h
    have g := sdQ_eq L n K f (i + 1) h.2
    rw [show i + (f + 1) = i + 1 + f by omega]
    refine ⟨fun j h1 h2 => ?_, g.2⟩
    by_cases e : j = i
    · subst e; exact h.1
    · exact g.1 j (by omega) h2
def runQ : Nat → Nat → List (Int × Int) → Bool
  | 0, _, _ => true
  | f + 1, k, L => spQ L (k + 2) k 0 (1, 1) (k + 2) fun s => okT s (-1) && frP (tiF s (-1)) fun u => okO u (k + 2 : Nat) && frP (ovF u (k + 2 : Nat)) fun v => (inB v.1 && inP v.2) && sdQ L (k + 1) (k + 1) 0 (0, 1) fun s2 => inB s2.1 && inP (s2.2 * (k + 1 + 1)) && decide (v = ((-s2.1).tdiv (gcdI (max s2.1 (-s2.1)) (s2.2 * (k + 1 + 1))), (s2.2 * (k + 1 + 1)).tdiv (gcdI (max s2.1 (-s2.1)) (s2.2 * (k + 1 + 1))))) && runQ f (k + 1) (L ++ [v])
/-- What holds at the place k. -/
structure BeQ (k : Nat) : Prop where
  st : ∀ j, j < k → okT ((blQ k).getD (j + 1) (0, 1)) (chB (k + 2) j) = true ∧ okP (smQ (blQ k) (k + 2) j) (tiF ((blQ k).getD (j + 1) (0, 1)) (chB (k + 2) j)) = true
  neg : okT (smQ (blQ k) (k + 2) k) (-1) = true
  ov : okO (tiF (smQ (blQ k) (k + 2) k) (-1)) (k + 2 : Nat) = true
  md : ∀ j, j < k + 1 → okD (smD (blQ k) (k + 1) j) (chC (k + 1 + 1) j) ((blQ k).getD j (0, 1)) = true
  a : inB (smD (blQ k) (k + 1) (k + 1)).1 = true
  b : inP ((smD (blQ k) (k + 1) (k + 1)).2 * (k + 1 + 1)) = true
  eq : nxQ (blQ k) (k + 2) = nxD (blQ k) (k + 1)
  v : inB (nxQ (blQ k) (k + 2)).1 = true ∧ inP (nxQ (blQ k) (k + 2)).2 = true
theorem runQ_eq : ∀ f k, runQ f k (blQ k) = true → ∀ j, k ≤ j → j < k + f → BeQ j
  | 0, k, _, j, h1, h2 => by omega
  | f + 1, k, h, j, h1, h2 => by
    unfold runQ at h
    obtain ⟨g1, g2⟩ := spQ_eq (blQ k) (k + 2) _ k 0 h
    rw [Nat.zero_add] at g2
    simp only [Bool.and_eq_true, frP_eq] at g2
    obtain ⟨g3, g4, g12, g5⟩ := g2
    obtain ⟨g6, g7⟩ := sdQ_eq (blQ k) (k + 1) _ (k + 1) 0 g5
    rw [Nat.zero_add] at g7
    simp only [Bool.and_eq_true, decide_eq_true_eq] at g7
    obtain ⟨⟨⟨g8, g9⟩, g10⟩, g11⟩ := g7
    by_cases e : j = k
    · subst e
      exact ⟨fun i hi => g1 i (by omega) (by omega), g3, g4, fun i hi => g6 i (by omega) (by omega), g8, g9, g10, g12⟩
    · exact runQ_eq f (k + 1) g11 j (by omega) (by omega)
theorem runQ_all : runQ 20 0 [(1, 1)] = true := by decide +kernel
theorem beQ_all {k : Nat} (hk : k < 20) : BeQ k := runQ_eq 20 0 runQ_all k (by omega) (by omega)
theorem blQ_len : ∀ k, (blQ k).length = k + 1
  | 0 => rfl
  | k + 1 => by simp [blQ, blQ_len k]
def beQ (k : Nat) : Int × Int := (blQ k).getD k (0, 1)
theorem blQ_get : ∀ k i, i ≤ k → (blQ k).getD i (0, 1) = beQ i
  | 0, i, h => by obtain rfl : i = 0 := by omega
                  rfl
  | k + 1, i, h => by
    by_cases e : i = k + 1
    · subst e; rfl
    · have := blQ_get k i (by omega)
      rw [← this]
      simp only [blQ, List.getD_eq_getElem?_getD]
      rw [List.getElem?_append_left (by rw [blQ_len]; omega)]
theorem beQ_succ (k : Nat) : beQ (k + 1) = nxQ (blQ k) (k + 2) := by
  unfold beQ
  simp only [blQ, List.getD_eq_getElem?_getD]
  rw [List.getElem?_append_right (by rw [blQ_len]; omega), blQ_len]
  simp
theorem beQ_bd : ∀ k, k < 21 → inB (beQ k).1 = true ∧ inP (beQ k).2 = true := by
  intro k hk
  cases k with
  | zero => decide
  | succ k =>
    rw [beQ_succ]
    exact (beQ_all (k := k) (by omega)).v
/-- The irregular numbers below m. -/
def irN (p m : Nat) : List Nat := (List.range m).filter (fun k => decide (2 ≤ k) && decide (k % 2 = 0) && decide (beR p k = 0))
theorem irN_yes {p k : Nat} (h : 2 ≤ k ∧ k % 2 = 0 ∧ beR p k = 0) : irN p (k + 1) = irN p k ++ [k] := by
  unfold irN; rw [List.range_succ, List.filter_append]; simp [h.1, h.2.1, h.2.2]
theorem irN_no {p k : Nat} (h : ¬ (2 ≤ k ∧ k % 2 = 0 ∧ beR p k = 0)) : irN p (k + 1) = irN p k := by
  unfold irN; rw [List.range_succ, List.filter_append]
  have : (decide (2 ≤ k) && decide (k % 2 = 0) && decide (beR p k = 0)) = false := by
    simp only [Bool.and_eq_false_iff, decide_eq_false_iff_not]
    omega
  simp [this]
theorem irN_len (p m : Nat) : (irN p m).length ≤ m := by
  unfold irN; exact Nat.le_trans (List.length_filter_le _ _) (by simp)
theorem irN_lt {p m j : Nat} (h : j < (irN p m).length) : (irN p m).getD j 0 < m := by
  rw [List.getD_eq_getElem?_getD, List.getElem?_eq_getElem h]
  have := List.getElem_mem h
  unfold irN at this
  have := (List.mem_filter.1 this).1
  exact List.mem_range.1 this
end Go.Proofs.Ytnhpodlcgkgpbaa
