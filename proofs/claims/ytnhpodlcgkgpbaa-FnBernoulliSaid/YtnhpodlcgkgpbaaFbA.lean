/- Bernoulli numbers as a table; Bernoulli residues are these numbers modulo primes. -/
import Derived.Test.YtnhpodlcgkgpbaaRgB
import Derived.Test.YtnhpodlcgkgpbaaPlcF
namespace Go.Proofs.Ytnhpodlcgkgpbaa
open Go.RowKit Go.ChangeShapes
set_option linter.unusedVariables false
def beT : List (Int × Int) := [(1, 1), (-1, 2), (1, 6), (0, 1), (-1, 30), (0, 1), (1, 42), (0, 1), (-1, 30), (0, 1), (5, 66), (0, 1), (-691, 2730), (0, 1), (7, 6), (0, 1), (-3617, 510), (0, 1), (43867, 798), (0, 1), (-174611, 330)]
/-- The numbers from the place k on are those of the table. -/
def runT : Nat → Nat → List (Int × Int) → Bool
  | 0, _, _ => true
  | f + 1, k, L => spQ L (k + 2) k 0 (1, 1) (k + 2) fun s => frP (tiF s (-1)) fun u => frP (ovF u (k + 2 : Nat)) fun v => decide (v = beT.getD (k + 1) (0, 1)) && runT f (k + 1) (L ++ [v])
theorem runT_eq : ∀ f k, runT f k (blQ k) = true → ∀ j, k ≤ j → j < k + f → beQ (j + 1) = beT.getD (j + 1) (0, 1)
  | 0, k, _, j, h1, h2 => by omega
  | f + 1, k, h, j, h1, h2 => by
    unfold runT at h
    obtain ⟨g1, g2⟩ := spQ_eq (blQ k) (k + 2) _ k 0 h
    rw [Nat.zero_add] at g2
    simp only [Bool.and_eq_true, frP_eq, decide_eq_true_eq] at g2
    obtain ⟨g3, g4⟩ := g2
    by_cases e : j = k
    · subst e; rw [beQ_succ]; exact g3
    · exact runT_eq f (k + 1) g4 j (by omega) (by omega)
theorem runT_all : runT 20 0 [(1, 1)] = true := by decide +kernel
theorem beQ_T {k : Nat} (h : k < 21) : beQ k = beT.getD k (0, 1) := by
  cases k with
  | zero => rfl
  | succ k => exact runT_eq 20 0 runT_all k (by omega) (by omega)
def btOk (p k : Nat) (b : Nat) : Bool :=
  decide (k % 2 = 1) || (decide ((beT.getD k (0, 1)).2.tmod p ≠ 0) && decide ((((b : Int) * (beT.getD k (0, 1)).2 - (beT.getD k (0, 1)).1).tmod p + p).tmod p = 0))
def runR (p : Nat) : Nat → Nat → List Nat → Bool
  | 0, _, _ => true
  | f + 1, k, L => frN (smP p L (k + 2) k * (p - 1) % p * pwr p (k + 2) (p - 2) % p) fun b => btOk p (k + 1) b && runR p f (k + 1) (L ++ [b])
theorem runR_eq (p : Nat) : ∀ f k, runR p f k (blP p k) = true → ∀ j, k ≤ j → j < k + f → btOk p (j + 1) (beR p (j + 1)) = true
  | 0, k, _, j, h1, h2 => by omega
  | f + 1, k, h, j, h1, h2 => by
    unfold runR at h
    rw [frN_eq] at h
    simp only [Bool.and_eq_true] at h
    obtain ⟨g3, g4⟩ := h
    by_cases e : j = k
    · subst e; rw [be_succ]; exact g3
    · exact runR_eq p f (k + 1) g4 j (by omega) (by omega)
theorem runR_all : ∀ p, p < 62 → primeN p = true → runR p (min (p - 3) 20) 0 [1] = true := by decide +kernel
theorem be_mod {p k : Nat} (hp : primeN p = true) (h1 : 1 ≤ k) (h2 : k + 3 ≤ p) (h20 : k ≤ 20) (he : k % 2 = 0) :
    (beQ k).2.tmod p ≠ 0 ∧ (((beR p k : Int) * (beQ k).2 - (beQ k).1).tmod p + p).tmod p = 0 := by
  have hb := primeN_bd hp
  obtain ⟨j, rfl⟩ : ∃ j, k = j + 1 := ⟨k - 1, by omega⟩
  have h := runR_eq p (min (p - 3) 20) 0 (runR_all p (by omega) hp) j (by omega) (by simp only [Nat.min_def]; split <;> omega)
  rw [beQ_T (by omega)]
  unfold btOk at h
  simp only [Bool.or_eq_true, Bool.and_eq_true, decide_eq_true_eq] at h
  rcases h with h | h
  · omega
  · exact h
theorem be_odd : ∀ k, k < 21 → k % 2 = 1 → k ≠ 1 → (beT.getD k (0, 1)).1 = 0 := by decide
theorem be_zero {k : Nat} (h : k < 21) (ho : k % 2 = 1) (h1 : k ≠ 1) : (beQ k).1 = 0 := by rw [beQ_T h]; exact be_odd k h ho h1
theorem beT_bd : ∀ k, k < 21 → 1 ≤ (beT.getD k (0, 1)).2 ∧ (beT.getD k (0, 1)).2 ≤ 2730 ∧ -174611 ≤ (beT.getD k (0, 1)).1 ∧ (beT.getD k (0, 1)).1 ≤ 174611 := by decide
theorem beQ_small {k : Nat} (h : k < 21) : 1 ≤ (beQ k).2 ∧ (beQ k).2 ≤ 2730 ∧ -174611 ≤ (beQ k).1 ∧ (beQ k).1 ≤ 174611 := by rw [beQ_T h]; exact beT_bd k h
theorem ir_get {p m j : Nat} (h : j < (irN p m).length) : 2 ≤ (irN p m).getD j 0 ∧ (irN p m).getD j 0 % 2 = 0 ∧ beR p ((irN p m).getD j 0) = 0 := by
  have hm : (irN p m).getD j 0 ∈ irN p m := by
    rw [List.getD_eq_getElem?_getD, List.getElem?_eq_getElem h]
    exact List.getElem_mem _
  unfold irN at hm ⊢
  have := (List.mem_filter.1 hm).2
  simp only [Bool.and_eq_true, decide_eq_true_eq] at this
  exact ⟨this.1.1, this.1.2, this.2⟩
end Go.Proofs.Ytnhpodlcgkgpbaa
