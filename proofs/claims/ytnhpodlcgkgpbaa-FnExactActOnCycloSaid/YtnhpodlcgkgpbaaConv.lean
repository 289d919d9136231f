/- Products of numbers: lists multiplied, and their reduction. -/
import Derived.Test.YtnhpodlcgkgpbaaZ
import Derived.Test.YtnhpodlcgkgpbaaAdd
namespace Go.Proofs.Ytnhpodlcgkgpbaa
open Go.RowKit Go.ChangeShapes Go.Sort
set_option linter.unusedVariables false
set_option linter.unusedSimpArgs false

/-- The row i of a product, as far as m places. -/
def addRow (a : Int) (g : Nat → Int) (i m : Nat) (P : Nat → Int) : Nat → Int := fun j => if i ≤ j ∧ j < i + m then P j + a * g (j - i) else P j
/-- The product of lists of L numbers, the first i rows. -/
def convZ (f g : Nat → Int) (L : Nat) : Nat → Nat → Int
  | 0 => fun _ => 0
  | i + 1 => addRow (f i) g i L (convZ f g L i)
theorem addRow_zero (a : Int) (g : Nat → Int) (i : Nat) (P : Nat → Int) : addRow a g i 0 P = P := by
  funext j; unfold addRow; rw [if_neg (by omega)]
theorem addRow_succ (a : Int) (g : Nat → Int) (i m : Nat) (P : Nat → Int) : addRow a g i (m + 1) P = fun j => if j = i + m then P (i + m) + a * g m else addRow a g i m P j := by
  funext j; unfold addRow
  by_cases e : j = i + m
  · subst e; rw [if_pos (by omega), if_pos rfl, Nat.add_sub_cancel_left]
  · rw [if_neg e]
    by_cases e2 : i ≤ j ∧ j < i + m
    · rw [if_pos (by omega), if_pos e2]
    · rw [if_neg (by omega), if_neg e2]
theorem addRow_at (a : Int) (g : Nat → Int) (i m : Nat) (P : Nat → Int) : addRow a g i m P (i + m) = P (i + m) := by
  unfold addRow; rw [if_neg (by omega)]
theorem mul_abs {a b B : Int} (hB : 0 ≤ B) (ha1 : -12000000000 ≤ a) (ha2 : a ≤ 12000000000) (hb1 : -B ≤ b) (hb2 : b ≤ B) : -(12000000000 * B) ≤ a * b ∧ a * b ≤ 12000000000 * B := by
  have h1 : (a * b).natAbs ≤ 12000000000 * B.natAbs := by
    rw [Int.natAbs_mul]
    exact Nat.mul_le_mul (by omega) (by omega)
  have h2 : ((12000000000 * B.natAbs : Nat) : Int) = 12000000000 * B := by
    rw [Int.natCast_mul]; congr 1; omega
  omega
theorem addRow_bd {a : Int} {g : Nat → Int} {i m L : Nat} {P : Nat → Int} {B C : Int} (hB : 0 ≤ B) (ha1 : -12000000000 ≤ a) (ha2 : a ≤ 12000000000) (hg : ∀ j, j < L → -B ≤ g j ∧ g j ≤ B) (hm : m ≤ L)
    (hP : ∀ j, -C ≤ P j ∧ P j ≤ C) (j : Nat) : -(C + 12000000000 * B) ≤ addRow a g i m P j ∧ addRow a g i m P j ≤ C + 12000000000 * B := by
  have h := hP j
  unfold addRow
  split
  · have h2 := hg (j - i) (by omega)
    have := mul_abs hB ha1 ha2 h2.1 h2.2
    omega
  · omega
theorem convZ_bd {f g : Nat → Int} {L : Nat} {B : Int} (hB : 0 ≤ B) (hf : Within f L 12000000000) (hg : ∀ j, j < L → -B ≤ g j ∧ g j ≤ B) :
    ∀ i : Nat, i ≤ L → ∀ j, -((i : Int) * (12000000000 * B)) ≤ convZ f g L i j ∧ convZ f g L i j ≤ (i : Int) * (12000000000 * B)
  | 0, _, j => by simp [convZ]
  | i + 1, hi, j => by
    have hfi := hf i (by omega)
    have ih := convZ_bd hB hf hg i (by omega)
    have := addRow_bd (i := i) hB hfi.1 hfi.2 hg (Nat.le_refl L) ih j
    rw [show (((i + 1 : Nat) : Int) * (12000000000 * B)) = (i : Int) * (12000000000 * B) + 12000000000 * B by rw [Int.natCast_add, Int.add_mul]; simp]
    exact this
theorem convZ_bd12 {f g : Nat → Int} {L : Nat} {B : Int} (hB : 0 ≤ B) (hf : Within f L 12000000000) (hg : ∀ j, j < L → -B ≤ g j ∧ g j ≤ B) (hL : L ≤ 12) (i : Nat) (hi : i ≤ L) (j : Nat) :
    -(12 * (12000000000 * B)) ≤ convZ f g L i j ∧ convZ f g L i j ≤ 12 * (12000000000 * B) := by
  have h := convZ_bd hB hf hg i hi j
  have h2 : (i : Int) * (12000000000 * B) ≤ 12 * (12000000000 * B) := Int.mul_le_mul_of_nonneg_right (by omega) (by omega)
  omega
theorem convZ_far (f g : Nat → Int) (L : Nat) : ∀ i j, i + L ≤ j + 1 → convZ f g L i j = 0
  | 0, _, _ => rfl
  | i + 1, j, h => by
    show addRow (f i) g i L (convZ f g L i) j = 0
    unfold addRow
    rw [if_neg (by omega)]
    exact convZ_far f g L i j (by omega)
theorem convZ_lin (f g h : Nat → Int) (a b : Int) (L : Nat) : ∀ i j, convZ f (fun j => a * g j + b * h j) L i j = a * convZ f g L i j + b * convZ f h L i j
  | 0, j => by simp [convZ]
  | i + 1, j => by
    have ih := convZ_lin f g h a b L i j
    simp only [convZ, addRow]
    split
    · rw [ih, Int.mul_add, Int.mul_add, Int.mul_add, Int.mul_left_comm (f i) a, Int.mul_left_comm (f i) b]; omega
    · exact ih
theorem convZ_congr {f f' g g' : Nat → Int} {L : Nat} (hf : ∀ j, j < L → f j = f' j) (hg : ∀ j, j < L → g j = g' j) : ∀ i, i ≤ L → convZ f g L i = convZ f' g' L i
  | 0, _ => rfl
  | i + 1, hi => by
    simp only [convZ]
    rw [convZ_congr hf hg i (by omega), hf i (by omega)]
    funext j
    unfold addRow
    split
    · rw [hg (j - i) (by omega)]
    · rfl
/-- The Parts of the product of two numbers of the order n, whatever their size. -/
def prodZ (n L : Nat) (f g : Nat → Int) : Nat → Int := redZ n (convZ f g L L)
theorem prodZ_lin (n L : Nat) (f g h : Nat → Int) (a b : Int) (j : Nat) : prodZ n L f (fun j => a * g j + b * h j) j = a * prodZ n L f g j + b * prodZ n L f h j := by
  unfold prodZ
  rw [← redZ_lin]
  congr 1
  funext i
  exact convZ_lin f g h a b L L i
theorem prodZ_bd {n L : Nat} {f g : Nat → Int} {B : Int} (hn : n < 17) (h1 : 1 ≤ n) (hB : 0 ≤ B) (hf : Within f L 12000000000) (hg : ∀ j, j < L → -B ≤ g j ∧ g j ≤ B) (hL : L ≤ 12) {j : Nat} (hj : j < phiN n) :
    -(6912000000000 * B) ≤ prodZ n L f g j ∧ prodZ n L f g j ≤ 6912000000000 * B := by
  have := redZ_within hn h1 (P := convZ f g L L) (B := 12 * (12000000000 * B)) (fun k _ => convZ_bd12 hB hf hg hL L (Nat.le_refl _) k) hj
  unfold prodZ
  omega
/-- What the programs reduce: the product's list. -/
theorem redP_conv {n L : Nat} {f g : Nat → Int} (hn : n < 17) (h1 : 1 ≤ n) (hf : Within f L 12000000000) (hg : ∀ j, j < L → -400000 ≤ g j ∧ g j ≤ 400000) (hL : L ≤ 12) {j : Nat} (hj : j < phiN n) :
    redP n (convZ f g L L) j = prodZ n L f g j := by
  have hp := phi_le12 n (by omega) h1
  have hb := prodZ_bd hn h1 (by omega : (0 : Int) ≤ 400000) hf hg hL hj
  refine redP_exact hn h1 (fun k _ => ?_) (by omega) (by unfold prodZ at hb; unfold inR; omega)
  have := convZ_bd12 (by omega : (0 : Int) ≤ 400000) hf hg hL L (Nat.le_refl _) k
  exact (wrap_inR (by unfold inR; omega)).symm

/-- The two halves together, as the program puts them. -/
def joinZ (h l : Int) : Int := if -1000000000 ≤ h + l.tdiv 32768 ∧ h + l.tdiv 32768 ≤ 1000000000 then (h + l.tdiv 32768) * 32768 + l.tmod 32768 else 1000000001
theorem tdm (l : Int) (b : Int) (hb : 0 < b) : l.tdiv b * b + l.tmod b = l ∧ -b < l.tmod b ∧ l.tmod b < b := by
  have h1 := Int.mul_tdiv_add_tmod l b
  rw [Int.mul_comm] at h1
  have h2 := Int.tmod_lt_of_pos l hb
  have h3 := Int.lt_tmod_of_pos l hb
  exact ⟨h1, h3, h2⟩
theorem join_ok {h l : Int} (hp1 : -1000000000 ≤ h * 32768 + l) (hp2 : h * 32768 + l ≤ 1000000000) : joinZ h l = h * 32768 + l := by
  obtain ⟨e, h1, h2⟩ := tdm l 32768 (by omega)
  unfold joinZ
  generalize l.tdiv 32768 = q at *
  generalize l.tmod 32768 = r at *
  rw [if_pos (by omega)]
  omega
theorem join_big {h l : Int} (hp : ¬ (-1000000000 ≤ h * 32768 + l ∧ h * 32768 + l ≤ 1000000000)) : ¬ (-1000000000 ≤ joinZ h l ∧ joinZ h l ≤ 1000000000) := by
  obtain ⟨e, h1, h2⟩ := tdm l 32768 (by omega)
  unfold joinZ
  generalize l.tdiv 32768 = q at *
  generalize l.tmod 32768 = r at *
  split <;> omega
def hiH (g : Nat → Int) : Nat → Int := fun j => (g j).tdiv 32768
def loH (g : Nat → Int) : Nat → Int := fun j => (g j).tmod 32768
def hiD (g : Nat → Int) : Nat → Int := fun j => (g j).tdiv 100000
def loD (g : Nat → Int) : Nat → Int := fun j => (g j).tmod 100000
theorem halves_bd {g : Nat → Int} {L : Nat} (hg : Within g L 12000000000) (j : Nat) (hj : j < L) :
    (-400000 ≤ hiH g j ∧ hiH g j ≤ 400000) ∧ (-400000 ≤ loH g j ∧ loH g j ≤ 400000) ∧ (-400000 ≤ hiD g j ∧ hiD g j ≤ 400000) ∧ (-100000 ≤ loD g j ∧ loD g j ≤ 100000) := by
  obtain ⟨h1, h2⟩ := hg j hj
  obtain ⟨e, h3, h4⟩ := tdm (g j) 32768 (by omega)
  obtain ⟨e', h5, h6⟩ := tdm (g j) 100000 (by omega)
  unfold hiH loH hiD loD
  generalize (g j).tdiv 32768 = q at *
  generalize (g j).tmod 32768 = r at *
  generalize (g j).tdiv 100000 = q' at *
  generalize (g j).tmod 100000 = r' at *
  omega
theorem prod_halves (n L : Nat) (f g : Nat → Int) (j : Nat) : prodZ n L f (hiH g) j * 32768 + prodZ n L f (loH g) j = prodZ n L f g j := by
  have e : g = fun j => 32768 * hiH g j + 1 * loH g j := by
    funext j
    have := (tdm (g j) 32768 (by omega)).1
    unfold hiH loH
    omega
  conv => rhs; rw [e, prodZ_lin]
  omega
theorem prod_halvesD (n L : Nat) (f g : Nat → Int) (j : Nat) : prodZ n L f (hiD g) j * 100000 + prodZ n L f (loD g) j = prodZ n L f g j := by
  have e : g = fun j => 100000 * hiD g j + 1 * loD g j := by
    funext j
    have := (tdm (g j) 100000 (by omega)).1
    unfold hiD loD
    omega
  conv => rhs; rw [e, prodZ_lin]
  omega
/-- The array of the product, as the program puts it together. -/
def joinP (n L : Nat) (f g : Nat → Int) : Nat → Int := fun j => joinZ (cut (phiN n) (prodZ n L f (hiH g)) j) (cut (phiN n) (prodZ n L f (loH g)) j)
theorem joinP_within {n L : Nat} {f g : Nat → Int} (hp : phiN n ≤ 12) : Within (joinP n L f g) 12 1000000000 ↔ Within (prodZ n L f g) (phiN n) 1000000000 := by
  constructor
  · intro h j hj
    have h2 := h j (by omega)
    unfold joinP cut at h2
    rw [if_pos hj, if_pos hj] at h2
    rw [← prod_halves]
    exact Decidable.byContradiction fun hc => join_big hc h2
  · intro h j hj
    unfold joinP cut
    by_cases e : j < phiN n
    · rw [if_pos e, if_pos e]
      have h2 := h j e
      rw [← prod_halves] at h2
      rw [join_ok h2.1 h2.2]
      exact h2
    · rw [if_neg e, if_neg e]; decide
theorem joinP_eq {n L : Nat} {f g : Nat → Int} (h : Within (prodZ n L f g) (phiN n) 1000000000) (j : Nat) (hj : j < phiN n) : joinP n L f g j = prodZ n L f g j := by
  unfold joinP cut
  rw [if_pos hj, if_pos hj]
  have h2 := h j hj
  rw [← prod_halves] at h2
  rw [join_ok h2.1 h2.2, prod_halves]
theorem joinZ_inR {h l : Int} (hl1 : -3000000000000000000 ≤ l) (hl2 : l ≤ 3000000000000000000) : -100000000000000 ≤ joinZ h l ∧ joinZ h l ≤ 100000000000000 := by
  obtain ⟨e, h1, h2⟩ := tdm l 32768 (by omega)
  unfold joinZ
  generalize l.tdiv 32768 = q at *
  generalize l.tmod 32768 = r at *
  split <;> omega
theorem cut_bd {n : Nat} {f : Nat → Int} {C : Int} (hC : 0 ≤ C) (h : ∀ j, j < n → -C ≤ f j ∧ f j ≤ C) (j : Nat) : -C ≤ cut n f j ∧ cut n f j ≤ C := by
  unfold cut
  split
  · exact h j (by assumption)
  · omega
theorem Within.big {f : Nat → Int} {L : Nat} (h : Within f L 1000000000) : Within f L 12000000000 := fun j hj => by have := h j hj; omega
end Go.Proofs.Ytnhpodlcgkgpbaa
