/- Galois images: imageParts of the program, l01Galois of the model. -/
import Derived.Test.YtopapdahpeemfaaDoorPowZ
namespace Go.Proofs.YtopapdahpeemfaaDoor
open Go.RowKit Go.ChangeShapes Go.Sort
set_option linter.unusedVariables false

/-- A list that has the numbers f at the places ix added, one after the other. -/
def foldP (ix : Nat → Nat) (f : Nat → Int) : Nat → Nat → Int
  | 0 => fun _ => 0
  | m + 1 => fun j => if j = ix m then wrap64 (foldP ix f m j + f m) else foldP ix f m j
theorem foldP_inR (ix : Nat → Nat) (f : Nat → Int) : ∀ m j, inR (foldP ix f m j)
  | 0, _ => by simp [foldP, inR]
  | m + 1, j => by
    unfold foldP
    split
    · exact inR_wrap _
    · exact foldP_inR ix f m j
theorem foldP_far {ix : Nat → Nat} {f : Nat → Int} {n : Nat} : ∀ {m}, (∀ i, i < m → ix i < n) → ∀ j, n ≤ j → foldP ix f m j = 0
  | 0, _, _, _ => rfl
  | m + 1, h, j, hj => by
    unfold foldP
    rw [if_neg (by have := h m (Nat.lt_succ_self m); omega)]
    exact foldP_far (fun i hi => h i (Nat.lt_succ_of_lt hi)) j hj
theorem foldP_congr {ix ix' : Nat → Nat} {f f' : Nat → Int} : ∀ {m}, (∀ i, i < m → ix i = ix' i ∧ f i = f' i) → foldP ix f m = foldP ix' f' m
  | 0, _ => rfl
  | m + 1, h => by
    unfold foldP
    rw [foldP_congr (fun i hi => h i (Nat.lt_succ_of_lt hi)), (h m (Nat.lt_succ_self m)).1, (h m (Nat.lt_succ_self m)).2]
/-- Where the program puts the number at i, and where the model does. -/
def ixI (n a : Nat) (i : Nat) : Nat := i * a % n
def ixG (n : Nat) (a : Int) (i : Nat) : Nat := (((i * a).tmod n + n) % n).toNat
theorem ixG_eq (n : Nat) (h1 : 1 ≤ n) (a : Int) (i : Nat) : (((i : Int) * a).tmod n + n) % n = (ixG n a i : Int) ∧ ixG n a i < n ∧ -(n : Int) < ((i : Int) * a).tmod n ∧ ((i : Int) * a).tmod n < n := powIx_eq n h1 (i * a)
theorem ixG_nat (n a i : Nat) (h1 : 1 ≤ n) : ixG n (a : Int) i = ixI n a i := by
  unfold ixG ixI
  rw [show ((i : Int) * (a : Int)) = ((i * a : Nat) : Int) by simp]
  rw [Int.tmod_eq_emod_of_nonneg (by omega)]
  have h2 : ((i * a : Nat) : Int) % (n : Int) = ((i * a % n : Nat) : Int) := by simp
  rw [h2, Int.add_emod_right, ← Int.natCast_emod, Nat.mod_mod]
  exact Int.toNat_natCast _
theorem ixG_bar : ∀ n, n < 17 → 1 ≤ n → ∀ i, i < n → ixG n (-1) i = ixI n (n - 1) i := by decide +kernel
theorem ixI_lt (n a i : Nat) (h1 : 1 ≤ n) : ixI n a i < n := Nat.mod_lt _ (by omega)
/-- The Parts of the image by a. -/
def imgP (n a L : Nat) (f : Nat → Int) : Nat → Int := redP n (foldP (ixI n a) f L)

section
variable {o : Bool} {lo hi L : Nat} {v : Value} {f : Nat → Int}
end
end Go.Proofs.YtopapdahpeemfaaDoor
