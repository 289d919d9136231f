/- Cyclotomic polynomials: what both programs reckon, as one function; their degrees. Plain facts, no walk. -/
import Derived.Test.YtnhpodlcgkgpbaaPoly
namespace Go.Proofs.Ytnhpodlcgkgpbaa
open Go.RowKit Go.ChangeShapes Go.Sort

def phiN (d : Nat) : Nat := phiI (d : Int)
/-- The sum of the totients of the divisors of n in 1, .., d - 1. -/
def sumPhi (n : Nat) : Nat → Nat
  | 0 => 0
  | d + 1 => sumPhi n d + if 1 ≤ d ∧ n % d = 0 then phiN d else 0

def cycBase (n : Nat) : Nat → Int := fun j => if j = n then 1 else if j = 0 then -1 else 0
/-- x^n - 1, divided by the polynomials of the divisors in 1, .., d - 1. -/
def cycTo (P : Nat → Nat → Int) (n : Nat) : Nat → (Nat → Int)
  | 0 => cycBase n
  | d + 1 => if 1 ≤ d ∧ n % d = 0 then (fun j => divL (P d) (phiN d) (n + 1 - sumPhi n d - phiN d) (cycTo P n d) (j + phiN d)) else cycTo P n d
def cycF : Nat → Nat → Nat → Int
  | 0, n => cycBase n
  | F + 1, n => cycTo (cycF F) n n
/-- The cyclotomic polynomial of n. -/
def cyc (n : Nat) : Nat → Int := cycF n n

theorem cycTo_congr {P P' : Nat → Nat → Int} {n : Nat} : ∀ d, (∀ e, e < d → P e = P' e) → cycTo P n d = cycTo P' n d
  | 0, _ => rfl
  | d + 1, h => by
    have ih := cycTo_congr (P := P) (P' := P') (n := n) d (fun e he => h e (by omega))
    unfold cycTo
    rw [ih, h d (by omega)]
theorem cycF_stable : ∀ n F, n ≤ F → cycF F n = cyc n := by
  intro n
  induction n using Nat.strongRecOn with
  | _ n ih =>
    intro F hF
    cases n with
    | zero =>
      cases F with
      | zero => rfl
      | succ F => rfl
    | succ n =>
      cases F with
      | zero => omega
      | succ F =>
        show cycTo (cycF F) (n + 1) (n + 1) = cycTo (cycF n) (n + 1) (n + 1)
        exact cycTo_congr _ (fun e he => by rw [ih e he F (by omega), ih e he n (by omega)])
theorem cyc_eq (n : Nat) (h : 0 < n) : cyc n = cycTo cyc n n := by
  obtain ⟨m, rfl⟩ : ∃ m, n = m + 1 := ⟨n - 1, by omega⟩
  show cycTo (cycF m) (m + 1) (m + 1) = _
  exact cycTo_congr _ (fun e he => cycF_stable e m (by omega))

theorem sumPhi_step (n d : Nat) : sumPhi n d ≤ sumPhi n (d + 1) := by
  show _ ≤ sumPhi n d + _; omega
theorem sumPhi_mono (n : Nat) {d e : Nat} (h : d ≤ e) : sumPhi n d ≤ sumPhi n e := by
  induction h with
  | refl => exact Nat.le_refl _
  | step _ ih => exact Nat.le_trans ih (sumPhi_step n _)
theorem sumPhi_div {n d : Nat} (h1 : 1 ≤ d) (h : n % d = 0) : sumPhi n (d + 1) = sumPhi n d + phiN d := by
  show sumPhi n d + _ = _; rw [if_pos ⟨h1, h⟩]
theorem sumPhi_not {n d : Nat} (h : ¬ n % d = 0) : sumPhi n (d + 1) = sumPhi n d := by
  show sumPhi n d + _ = _; rw [if_neg (fun h' => h h'.2)]; rfl
theorem cycTo_div {P : Nat → Nat → Int} {n d : Nat} (h1 : 1 ≤ d) (h : n % d = 0) : cycTo P n (d + 1) = fun j => divL (P d) (phiN d) (n + 1 - sumPhi n d - phiN d) (cycTo P n d) (j + phiN d) := by
  show (if _ then _ else _) = _; rw [if_pos ⟨h1, h⟩]
theorem cycTo_not {P : Nat → Nat → Int} {n d : Nat} (h : ¬ n % d = 0) : cycTo P n (d + 1) = cycTo P n d := by
  show (if _ then _ else _) = _; rw [if_neg (fun h' => h h'.2)]
set_option maxRecDepth 100000 in
/-- The totients of the divisors of n add up to n. -/
theorem gauss : ∀ n, n < 61 → 1 ≤ n → sumPhi n n + phiN n = n := by decide +kernel
theorem phiN_pos : ∀ n, n < 61 → 1 ≤ n → 1 ≤ phiN n := by decide +kernel
theorem sumPhi_le {n d : Nat} (hn : n < 61) (h1 : 1 ≤ n) (hd : d < n) (h2 : 1 ≤ d) (h : n % d = 0) : sumPhi n d + phiN d ≤ n := by
  have := gauss n hn h1
  have := sumPhi_mono n (show d + 1 ≤ n by omega)
  rw [sumPhi_div h2 h] at this
  omega
theorem sumPhi_lt {n d : Nat} (hn : n < 61) (h1 : 1 ≤ n) (hd : d ≤ n) : sumPhi n d < n := by
  have := gauss n hn h1
  have := phiN_pos n hn h1
  have := sumPhi_mono n hd
  omega
theorem sumPhi_one (n : Nat) : sumPhi n 1 = 0 := rfl
theorem cycTo_one (P : Nat → Nat → Int) (n : Nat) : cycTo P n 1 = cycBase n := rfl
theorem cycBase_inR (n j : Nat) : inR (cycBase n j) := by unfold cycBase inR; split; omega; split <;> omega
end Go.Proofs.Ytnhpodlcgkgpbaa
