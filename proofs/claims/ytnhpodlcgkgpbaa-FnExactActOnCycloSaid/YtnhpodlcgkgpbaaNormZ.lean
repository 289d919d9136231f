/- The norm in whole numbers: it is a whole number, and not 0 for numbers other than 0. Plain facts, no walk. -/
import Derived.Test.YtnhpodlcgkgpbaaDom
import Derived.Test.YtnhpodlcgkgpbaaGalZ
namespace Go.Proofs.Ytnhpodlcgkgpbaa
open Go.RowKit Go.ChangeShapes Go.Sort
set_option linter.unusedVariables false
set_option linter.unusedSimpArgs false

/-- The product of k images, from the one at the place s on. -/
def prI (n L : Nat) (f : Nat → Int) (s : Nat) : Nat → Nat → Int
  | 0 => one0
  | k + 1 => prodZ n (phiN n) (prI n L f s k) (im n L f (s + k))

section
variable {n : Nat}
theorem galZ_mod (a b L : Nat) (f : Nat → Int) (h : a % n = b % n) : galZ n a L f = galZ n b L f := by
  funext j
  unfold galZ
  refine sumN_congr (fun p _ => ?_)
  rw [Nat.mul_mod, h, ← Nat.mul_mod]
theorem galZ_congr {a : Nat} {f g : Nat → Int} (h : ∀ j, j < phiN n → f j = g j) : galZ n a (phiN n) f = galZ n a (phiN n) g := by
  funext j
  unfold galZ
  exact sumN_congr (fun p hp => by rw [h p hp])
theorem gal_gal (hn : n < 17) (h1 : 1 ≤ n) (a b : Nat) (hb : b < n + 1) (hg : Nat.gcd b n = 1) (f : Nat → Int) {j : Nat} (hj : j < phiN n) :
    galZ n b (phiN n) (galZ n a (phiN n) f) j = galZ n (a * b) (phiN n) f j := by
  unfold galZ
  have e : ∀ p, p < phiN n → sumN (phiN n) (fun q => f q * tb n (q * a % n) p) * tb n (p * b % n) j = sumN (phiN n) (fun q => f q * (tb n (q * a % n) p * tb n (p * b % n) j)) := fun p _ => by
    rw [← sumN_mulr]
    exact sumN_congr (fun q _ => by rw [Int.mul_assoc])
  rw [sumN_congr e, sumN_swap]
  refine sumN_congr (fun q _ => ?_)
  rw [sumN_mul, tab_gal n hn h1 b hb hg _ (Nat.mod_lt _ h1) j hj]
  congr 2
  rw [← Nat.mul_assoc]
  conv => lhs; rw [Nat.mul_mod, Nat.mod_mod, ← Nat.mul_mod]
theorem galZ_one (hn : n < 17) (h1 : 1 ≤ n) (f : Nat → Int) {j : Nat} (hj : j < phiN n) : galZ n 1 (phiN n) f j = f j := by
  unfold galZ
  have hle := phi_le_n (n := n)
  have e : ∀ p, p < phiN n → f p * tb n (p * 1 % n) j = if p = j then f p else 0 := fun p hp => by
    rw [Nat.mul_one, Nat.mod_eq_of_lt (by omega), tab_unit n hn h1 p hp j hj]
    by_cases h0 : p = j
    · rw [if_pos h0, if_pos h0, Int.mul_one]
    · rw [if_neg h0, if_neg h0, Int.mul_zero]
  rw [sumN_congr e, sumN_ite (fun p => f p), if_pos hj]
theorem inv_ex : ∀ n, n < 17 → 1 ≤ n → ∀ a, a < n + 1 → Nat.gcd a n = 1 → ∃ b, b < n + 1 ∧ Nat.gcd b n = 1 ∧ a * b % n = 1 % n := by decide +kernel
/-- An image of a number other than 0 is not 0. -/
theorem gal_ne (hn : n < 17) (h1 : 1 ≤ n) {a : Nat} (ha : a < n + 1) (hg : Nat.gcd a n = 1) {f : Nat → Int} (h : ∃ j, j < phiN n ∧ f j ≠ 0) : ∃ j, j < phiN n ∧ galZ n a (phiN n) f j ≠ 0 := by
  obtain ⟨j, hj, hf⟩ := h
  obtain ⟨b, hb, hgb, he⟩ := inv_ex n hn h1 a ha hg
  refine Classical.byContradiction fun hc => hf ?_
  rw [← galZ_one hn h1 f hj, ← galZ_mod (a * b) 1 (phiN n) f he, ← gal_gal hn h1 a b hb hgb f hj]
  rw [galZ_congr (g := fun _ => 0) (fun i hi => Classical.byContradiction fun h => hc ⟨i, hi, h⟩)]
  unfold galZ
  rw [sumN_congr (fun p _ => Int.zero_mul _), sumN_zero]
theorem one0_ne (hn : n < 17) (h1 : 1 ≤ n) : ∃ j, j < phiN n ∧ one0 j ≠ 0 := ⟨0, phi_pos n hn h1, by unfold one0; rw [if_pos rfl]; decide⟩
theorem im_gal {f : Nat → Int} (hn : n < 17) (h1 : 1 ≤ n) (hf : Within f (phiN n) 1000000000) (k : Nat) {j : Nat} (hj : j < phiN n) : im n (phiN n) f k j = galZ n (res n k) (phiN n) f j :=
  imgP_gal hn h1 (fun j hj => by have := hf j hj; omega) (phi_le12 n (by omega) h1) hj
theorem prI_ne (hn : n < 17) (h1 : 1 ≤ n) {f : Nat → Int} (hf : Within f (phiN n) 1000000000) (h : ∃ j, j < phiN n ∧ f j ≠ 0) (s : Nat) : ∀ k, s + k ≤ phiN n → ∃ j, j < phiN n ∧ prI n (phiN n) f s k j ≠ 0
  | 0, _ => one0_ne hn h1
  | k + 1, hk => by
    have hr := res_ok n hn h1 (s + k) (by omega)
    obtain ⟨j, hj, hne⟩ := gal_ne hn h1 (a := res n (s + k)) (by omega) hr.2.2 h
    exact prodZ_ne hn h1 (prI_ne hn h1 hf h s k (by omega)) ⟨j, hj, by rw [im_gal hn h1 hf _ hj]; exact hne⟩

/-- Where the image by b has the image at the place k. -/
def pmx (n b k : Nat) : Nat := (resL n).findIdx (fun a => a % n == res n k * b % n)
def pmxChk (n b : Nat) : Bool := decide (∀ k, k < phiN n → pmx n b k < phiN n ∧ res n (pmx n b k) % n = res n k * b % n) && ((List.range (phiN n)).map (pmx n b)).isPerm (List.range (phiN n))
theorem pmx_all : ∀ n, n < 17 → 1 ≤ n → ∀ b, b < n + 1 → Nat.gcd b n = 1 → pmxChk n b = true := by decide +kernel
theorem pmx_ok (n : Nat) (hn : n < 17) (h1 : 1 ≤ n) (b : Nat) (hb : b < n + 1) (hg : Nat.gcd b n = 1) : ∀ k, k < phiN n → pmx n b k < phiN n ∧ res n (pmx n b k) % n = res n k * b % n := by
  have h := pmx_all n hn h1 b hb hg
  unfold pmxChk at h
  rw [Bool.and_eq_true] at h
  exact of_decide_eq_true h.1
theorem pmx_perm (n : Nat) (hn : n < 17) (h1 : 1 ≤ n) (b : Nat) (hb : b < n + 1) (hg : Nat.gcd b n = 1) : ((List.range (phiN n)).map (pmx n b)).isPerm (List.range (phiN n)) = true := by
  have h := pmx_all n hn h1 b hb hg
  unfold pmxChk at h
  rw [Bool.and_eq_true] at h
  exact h.2
theorem trace_tab : ∀ n, n < 17 → 1 ≤ n → ∀ p, p < phiN n → ∀ j, j < phiN n → 0 < j → sumN (phiN n) (fun k => tb n (p * res n k % n) j) = 0 := by decide +kernel

/-- One image more. -/
def stI (n : Nat) (f : Nat → Int) (acc : Nat → Int) (k : Nat) : Nat → Int := fun j => if j < phiN n then prodZ n (phiN n) acc (im n (phiN n) f k) j else 0
theorem stI_congr {f acc acc' : Nat → Int} (h : ∀ j, j < phiN n → acc j = acc' j) (k : Nat) : stI n f acc k = stI n f acc' k := by
  funext j
  unfold stI
  rw [pz_congr h (fun _ _ => rfl)]
theorem stI_swap (hn : n < 17) (h1 : 1 ≤ n) (f acc : Nat → Int) (a b : Nat) : stI n f (stI n f acc a) b = stI n f (stI n f acc b) a := by
  funext j
  have e : ∀ a b, j < phiN n → stI n f (stI n f acc a) b j = prodZ n (phiN n) (prodZ n (phiN n) acc (im n (phiN n) f a)) (im n (phiN n) f b) j := fun a b hj => by
    show (if j < phiN n then prodZ n (phiN n) (stI n f acc a) (im n (phiN n) f b) j else 0) = _
    rw [if_pos hj, pz_congr (f' := prodZ n (phiN n) acc (im n (phiN n) f a)) (g' := im n (phiN n) f b) (fun i hi => by unfold stI; rw [if_pos hi]) (fun _ _ => rfl)]
  by_cases hj : j < phiN n
  · rw [e a b hj, e b a hj, pz_assoc hn h1 _ _ _ hj, pz_assoc hn h1 _ _ _ hj, prodZ_comm n (phiN n) (im n (phiN n) f a)]
  · show (if j < phiN n then _ else 0) = (if j < phiN n then _ else 0)
    rw [if_neg hj, if_neg hj]
theorem stI_perm (hn : n < 17) (h1 : 1 ≤ n) (f : Nat → Int) {l l' : List Nat} (h : l.Perm l') : ∀ acc, l.foldl (stI n f) acc = l'.foldl (stI n f) acc := by
  induction h with
  | nil => exact fun _ => rfl
  | cons x _ ih => exact fun acc => ih _
  | swap x y l => exact fun acc => by show l.foldl _ (stI n f (stI n f acc y) x) = l.foldl _ (stI n f (stI n f acc x) y); rw [stI_swap hn h1]
  | trans _ _ ih1 ih2 => exact fun acc => (ih1 acc).trans (ih2 acc)
theorem prI_fold (hn : n < 17) (h1 : 1 ≤ n) (f : Nat → Int) : ∀ k j, j < phiN n → prI n (phiN n) f 0 k j = (List.range k).foldl (stI n f) one0 j
  | 0, j, _ => rfl
  | k + 1, j, hj => by
    rw [List.range_succ, List.foldl_append]
    show prodZ n (phiN n) (prI n (phiN n) f 0 k) (im n (phiN n) f (0 + k)) j = stI n f ((List.range k).foldl (stI n f) one0) k j
    rw [Nat.zero_add]
    unfold stI
    rw [if_pos hj]
    exact congrFun (pz_congr (fun i hi => prI_fold hn h1 f k i hi) (fun _ _ => rfl)) j
theorem gal_one0 (hn : n < 17) (h1 : 1 ≤ n) (b : Nat) {j : Nat} (hj : j < phiN n) : galZ n b (phiN n) one0 j = one0 j := by
  unfold galZ
  have e : ∀ p, p < phiN n → one0 p * tb n (p * b % n) j = if p = 0 then tb n (p * b % n) j else 0 := fun p hp => by
    unfold one0
    by_cases h0 : p = 0
    · rw [if_pos h0, if_pos h0, Int.one_mul]
    · rw [if_neg h0, if_neg h0, Int.zero_mul]
  rw [sumN_congr e, sumN_ite (fun p => tb n (p * b % n) j), if_pos (phi_pos n hn h1), Nat.zero_mul, Nat.zero_mod, tab_unit n hn h1 0 (phi_pos n hn h1) j hj]
  unfold one0
  by_cases h0 : j = 0
  · rw [if_pos h0, if_pos h0.symm]
  · rw [if_neg h0, if_neg (fun h => h0 h.symm)]
theorem gal_fold (hn : n < 17) (h1 : 1 ≤ n) {f : Nat → Int} (hf : Within f (phiN n) 1000000000) {b : Nat} (hb : b < n + 1) (hg : Nat.gcd b n = 1) : ∀ (l : List Nat) (acc acc' : Nat → Int), (∀ k ∈ l, k < phiN n) →
    (∀ j, j < phiN n → galZ n b (phiN n) acc j = acc' j) → ∀ j, j < phiN n → galZ n b (phiN n) (l.foldl (stI n f) acc) j = (l.map (pmx n b)).foldl (stI n f) acc' j
  | [], acc, acc', _, h, j, hj => h j hj
  | k :: l, acc, acc', hl, h, j, hj => by
    refine gal_fold hn h1 hf hb hg l (stI n f acc k) (stI n f acc' (pmx n b k)) (fun i hi => hl i (List.mem_cons_of_mem _ hi)) (fun i hi => ?_) j hj
    have hk := hl k List.mem_cons_self
    have hp := pmx_ok n hn h1 b hb hg k hk
    rw [galZ_congr (g := prodZ n (phiN n) acc (im n (phiN n) f k)) (fun i hi => by unfold stI; rw [if_pos hi]), gal_prod hn h1 (by omega) hg _ _ hi]
    unfold stI
    rw [if_pos hi]
    refine congrFun (pz_congr h (fun q hq => ?_)) i
    rw [im_gal hn h1 hf _ hq, galZ_congr (fun q hq => im_gal hn h1 hf k hq), gal_gal hn h1 _ b hb hg f hq]
    exact congrFun (galZ_mod _ _ _ _ hp.2.symm) q
/-- The norm is the same at all images. -/
theorem norm_fix (hn : n < 17) (h1 : 1 ≤ n) {f : Nat → Int} (hf : Within f (phiN n) 1000000000) {b : Nat} (hb : b < n + 1) (hg : Nat.gcd b n = 1) {j : Nat} (hj : j < phiN n) :
    galZ n b (phiN n) (prI n (phiN n) f 0 (phiN n)) j = prI n (phiN n) f 0 (phiN n) j := by
  rw [galZ_congr (prI_fold hn h1 f (phiN n)), gal_fold hn h1 hf hb hg (List.range (phiN n)) one0 one0 (fun k hk => List.mem_range.1 hk) (fun j hj => gal_one0 hn h1 b hj) j hj, prI_fold hn h1 f _ j hj]
  rw [stI_perm hn h1 f (List.isPerm_iff.1 (pmx_perm n hn h1 b hb hg))]
/-- The norm is a whole number: its other Parts are 0. -/
theorem norm_flat (hn : n < 17) (h1 : 1 ≤ n) {f : Nat → Int} (hf : Within f (phiN n) 1000000000) {j : Nat} (hj : j < phiN n) (h0 : 0 < j) : prI n (phiN n) f 0 (phiN n) j = 0 := by
  have e : sumN (phiN n) (fun k => galZ n (res n k) (phiN n) (prI n (phiN n) f 0 (phiN n)) j) = sumN (phiN n) (fun _ => prI n (phiN n) f 0 (phiN n) j) :=
    sumN_congr (fun k hk => by
      have hr := res_ok n hn h1 k hk
      exact norm_fix hn h1 hf (by omega) hr.2.2 hj)
  generalize prI n (phiN n) f 0 (phiN n) = N at *
  have e2 : sumN (phiN n) (fun k => galZ n (res n k) (phiN n) N j) = 0 := by
    unfold galZ
    rw [sumN_swap]
    rw [sumN_congr (fun p hp => by rw [sumN_mul, trace_tab n hn h1 p hp j hj h0, Int.mul_zero]), sumN_zero]
  rw [e2] at e
  have e3 : ∀ m : Nat, sumN m (fun _ => N j) = (m : Int) * N j := fun m => by
    induction m with
    | zero => simp [sumN]
    | succ m ih => show sumN m _ + N j = _; rw [ih, Int.natCast_add, Int.add_mul]; simp
  rw [e3] at e
  have hp := phi_pos n hn h1
  rcases Int.mul_eq_zero.1 e.symm with h | h
  · omega
  · exact h
theorem norm_ne (hn : n < 17) (h1 : 1 ≤ n) {f : Nat → Int} (hf : Within f (phiN n) 1000000000) (h : ∃ j, j < phiN n ∧ f j ≠ 0) : prI n (phiN n) f 0 (phiN n) 0 ≠ 0 := by
  obtain ⟨j, hj, hne⟩ := prI_ne hn h1 hf h 0 (phiN n) (by omega)
  by_cases h0 : j = 0
  · subst h0; exact hne
  · exact absurd (norm_flat hn h1 hf hj (by omega)) hne
end
end Go.Proofs.Ytnhpodlcgkgpbaa
