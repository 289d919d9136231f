/- FnGalois. -/
import Derived.Test.YtloalhcloifgjaaNormZ
import Derived.Test.YtloalhcloifgjaaFail
import Derived.Test.YtloalhcloifgjaaNorm
import Derived.Test.YtloalhcloifgjaaMul
import Derived.Test.YtloalhcloifgjaaGalZ
import Derived.Test.YtloalhcloifgjaaLift
import Derived.Test.YtloalhcloifgjaaField
import Derived.Test.YtloalhcloifgjaaAdd
import Derived.Test.YtloalhcloifgjaaGal
import Derived.Test.YtloalhcloifgjaaConj
import Derived.Test.YtloalhcloifgjaaFieldSpec
import Derived.Test.YtloalhcloifgjaaReal
import Derived.Test.YtloalhcloifgjaaCopy
import Derived.Test.YtloalhcloifgjaaState
import Derived.Deep.RegionHeld3
import Derived.BigQuiet
import Derived.Laws.BitsAllLaws
import Derived.Test.YtloalhcloifgjaaFin
import Derived.Deep.RegionLaw
import Derived.Test.YtloalhcloifgjaaPlus
import Derived.Deep.DeepCutAuto
import Derived.Test.YtloalhcloifgjaaGcd
import Derived.Test.YtloalhcloifgjaaPowZ
import Derived.JoinedOf
import Derived.Deep.CutRange
import Derived.ShutString
import Derived.ChangeOld
import Derived.Lib.SmallJoins
namespace Go.Proofs.Ytloalhcloifgjaa
set_option linter.unusedVariables false
set_option linter.unusedSimpArgs false
section
open Go.RowKit Go.ChangeShapes Go.Sort
set_option linter.unusedVariables false
set_option linter.unusedSimpArgs false

section
variable {n : Nat}
theorem pz_four (hn : n < 17) (h1 : 1 ≤ n) (a b c d : Nat → Int) {j : Nat} (hj : j < phiN n) :
    prodZ n (phiN n) (prodZ n (phiN n) a b) (prodZ n (phiN n) c d) j = prodZ n (phiN n) (prodZ n (phiN n) a c) (prodZ n (phiN n) b d) j := by
  rw [pz_assoc hn h1 a b _ hj, pz_assoc hn h1 a c _ hj]
  exact congrFun (pz_congr (fun _ _ => rfl) (fun i hi => by rw [← pz_assoc hn h1 b c d hi, ← pz_assoc hn h1 c b d hi, prodZ_comm n (phiN n) b c])) j
theorem im_congr (hn : n < 17) (h1 : 1 ≤ n) {f g : Nat → Int} (hf : Within f (phiN n) 1000000000) (hg : Within g (phiN n) 1000000000) (h : ∀ j, j < phiN n → f j = g j) (k : Nat) {j : Nat} (hj : j < phiN n) : im n (phiN n) f k j = im n (phiN n) g k j := by
  rw [im_gal hn h1 hf k hj, im_gal hn h1 hg k hj, galZ_congr h]
theorem prI_congr (hn : n < 17) (h1 : 1 ≤ n) {f g : Nat → Int} (hf : Within f (phiN n) 1000000000) (hg : Within g (phiN n) 1000000000) (h : ∀ j, j < phiN n → f j = g j) (s : Nat) : ∀ k j, j < phiN n → prI n (phiN n) f s k j = prI n (phiN n) g s k j
  | 0, _, _ => rfl
  | k + 1, j, hj => by
    show prodZ n (phiN n) (prI n (phiN n) f s k) (im n (phiN n) f (s + k)) j = prodZ n (phiN n) (prI n (phiN n) g s k) (im n (phiN n) g (s + k)) j
    rw [pz_congr (prI_congr hn h1 hf hg h s k) (fun j hj => im_congr hn h1 hf hg h (s + k) hj)]
theorem prI_mul (hn : n < 17) (h1 : 1 ≤ n) {f g : Nat → Int} (hf : Within f (phiN n) 1000000000) (hg : Within g (phiN n) 1000000000) (hh : Within (prodZ n (phiN n) f g) (phiN n) 1000000000) : ∀ k, k ≤ phiN n → ∀ j, j < phiN n →
    prI n (phiN n) (prodZ n (phiN n) f g) 0 k j = prodZ n (phiN n) (prI n (phiN n) f 0 k) (prI n (phiN n) g 0 k) j
  | 0, _, j, hj => by
    show one0 j = prodZ n (phiN n) one0 one0 j
    rw [pz_one hn h1 one0 hj]
  | k + 1, hk, j, hj => by
    have hr := res_ok n hn h1 (0 + k) (by omega)
    show prodZ n (phiN n) (prI n (phiN n) (prodZ n (phiN n) f g) 0 k) (im n (phiN n) (prodZ n (phiN n) f g) (0 + k)) j = prodZ n (phiN n) (prodZ n (phiN n) (prI n (phiN n) f 0 k) (im n (phiN n) f (0 + k))) (prodZ n (phiN n) (prI n (phiN n) g 0 k) (im n (phiN n) g (0 + k))) j
    rw [pz_congr (prI_mul hn h1 hf hg hh k (by omega)) (fun i hi => show _ = prodZ n (phiN n) (im n (phiN n) f (0 + k)) (im n (phiN n) g (0 + k)) i by
      rw [im_gal hn h1 hh _ hi, gal_prod hn h1 hr.2.1 hr.2.2 f g hi]
      rw [pz_congr (fun j hj => (im_gal hn h1 hf (0 + k) hj).symm) (fun j hj => (im_gal hn h1 hg (0 + k) hj).symm)])]
    exact pz_four hn h1 _ _ _ _ hj
theorem norm_one0 (hn : n < 17) (h1 : 1 ≤ n) {f : Nat → Int} (hf : Within f (phiN n) 1000000000) : ∀ j, j < phiN n → prI n (phiN n) f 0 (phiN n) j = prI n (phiN n) f 0 (phiN n) 0 * one0 j := fun j hj => by
  unfold one0
  by_cases h0 : j = 0
  · subst h0; rw [if_pos rfl, Int.mul_one]
  · rw [if_neg h0, Int.mul_zero, norm_flat hn h1 hf hj (by omega)]
/-- The norm of a product is the product of the norms. -/
theorem norm_mul (hn : n < 17) (h1 : 1 ≤ n) {f g : Nat → Int} (hf : Within f (phiN n) 1000000000) (hg : Within g (phiN n) 1000000000) (hh : Within (prodZ n (phiN n) f g) (phiN n) 1000000000) :
    prI n (phiN n) (prodZ n (phiN n) f g) 0 (phiN n) 0 = prI n (phiN n) f 0 (phiN n) 0 * prI n (phiN n) g 0 (phiN n) 0 := by
  have hp := phi_pos n hn h1
  rw [prI_mul hn h1 hf hg hh (phiN n) (Nat.le_refl _) 0 hp, pz_congr (norm_one0 hn h1 hf) (norm_one0 hn h1 hg), pz_smul, pz_smull, pz_one hn h1 one0 hp]
  generalize prI n (phiN n) f 0 (phiN n) 0 = A
  generalize prI n (phiN n) g 0 (phiN n) 0 = B
  show B * (A * (if 0 = 0 then 1 else 0)) = A * B
  rw [if_pos rfl, Int.mul_one, Int.mul_comm]
end
end

section
open Go.RowKit Go.ChangeShapes Go.Sort
set_option linter.unusedVariables false
set_option linter.unusedSimpArgs false

/-- A function of one number answers with these two numbers. -/
def A1 (fn : FuncId) (x : Int) (L : Nat) (f : Nat → Int) (C0 C1 : Int) : Prop :=
  ∀ (w : World) (o : Bool) (lo hi : Nat) (v : Value), Sl o w lo hi v L f → Calls Try.prog fn #[.agg #[.int .i64 x, v]] w fun e w' => e = .returned (.tuple #[.int .i64 C0, .int .i64 C1]) ∧ Below w.heap.size w w'
/-- A function of one number answers with this list and this number. -/
def A2 (fn : FuncId) (x : Int) (L : Nat) (f : Nat → Int) (N : Nat) (G : Nat → Int) (C1 : Int) : Prop :=
  ∀ (w : World) (o : Bool) (lo hi : Nat) (v : Value), Sl o w lo hi v L f → Calls Try.prog fn #[.agg #[.int .i64 x, v]] w fun e w' => ∃ a' k', e = .returned (.tuple #[.slice a' N k', .int .i64 C1]) ∧ Sl true w' w.heap.size w'.heap.size (.slice a' N k') N G ∧ Below w.heap.size w w'
/-- A function of two numbers answers with this number and this code. -/
def A3 (fn : FuncId) (x : Int) (L : Nat) (f : Nat → Int) (y : Int) (M : Nat) (g : Nat → Int) (R : Int) (N : Nat) (G : Nat → Int) (C1 : Int) : Prop :=
  ∀ (w : World) (o : Bool) (lo hi : Nat) (v : Value) (o' : Bool) (lo' hi' : Nat) (v' : Value), Sl o w lo hi v L f → Sl o' w lo' hi' v' M g → Calls Try.prog fn #[.agg #[.int .i64 x, v], .agg #[.int .i64 y, v']] w fun e w' => ∃ a' k', e = .returned (.tuple #[.agg #[.int .i64 R, .slice a' N k'], .int .i64 C1]) ∧ Sl true w' w.heap.size w'.heap.size (.slice a' N k') N G ∧ Below w.heap.size w w'
section
variable (x : Int) (L : Nat) (f : Nat → Int)
theorem cy_len {n : Nat} (h : CyP n L f) : L = phiN n := h.2.2.1
def NormR (C0 C1 : Int) : Prop := (C1 = 0 ∧ ∃ n : Nat, x = n ∧ CyP n L f ∧ C0 = prI n (phiN n) f 0 (phiN n) 0 ∧ -1000000000 ≤ C0 ∧ C0 ≤ 1000000000) ∨ (C1 ≠ 0 ∧ C0 = 0)
theorem NormOf_two : ∃ C0 C1 : Int, A1 196 x L f C0 C1 ∧ A1 104 x L f C0 C1 ∧ NormR x L f C0 C1 := by
  by_cases h : CyP x L f
  · obtain ⟨m, rfl⟩ := Int.eq_ofNat_of_zero_le (show 0 ≤ x by have := h.1; omega)
    by_cases hk : prOk m L f 0 (phiN m)
    · refine ⟨_, 0, fun w _ _ _ _ hs => NormOf_spec_ok m w hs h hk, fun w _ _ _ _ hs => NormOf_impl_ok m w hs h hk, .inl ⟨rfl, m, rfl, h, ?_, ?_⟩⟩
      · rw [cy_len L f h]
      · have := prI_within hk 0 (phi_pos m (by have := h.2.1; omega) (by have := h.1; omega)); exact this
    · exact ⟨0, 3, fun w _ _ _ _ hs => NormOf_spec_big m w hs h hk, fun w _ _ _ _ hs => NormOf_impl_big m w hs h hk, .inr ⟨by decide, rfl⟩⟩
  · exact ⟨0, 1, fun w _ _ _ _ hs => NormOf_spec_bad x w hs h, fun w _ _ _ _ hs => NormOf_impl_bad x w hs h, .inr ⟨by decide, rfl⟩⟩
end
/-- A product: what it is where there is one. -/
def MulR (x : Int) (L : Nat) (f : Nat → Int) (y : Int) (M : Nat) (g : Nat → Int) (R : Int) (N : Nat) (G : Nat → Int) (C1 : Int) : Prop :=
  (C1 = 0 ∧ ∃ n : Nat, x = n ∧ y = n ∧ R = n ∧ CyP n L f ∧ CyP n M g ∧ L = phiN n ∧ M = phiN n ∧ N = phiN n ∧ G = prodZ n (phiN n) f g ∧ Within (prodZ n (phiN n) f g) (phiN n) 1000000000) ∨ (C1 ≠ 0)
theorem MultiplyCyclos_one (x : Int) (L : Nat) (f : Nat → Int) (y : Int) (M : Nat) (g : Nat → Int) : ∃ (R : Int) (N : Nat) (G : Nat → Int) (C1 : Int), A3 60 x L f y M g R N G C1 ∧ MulR x L f y M g R N G C1 := by
  by_cases h : pairC x y L M f g = 0
  · obtain ⟨h0, h1, e⟩ := pairC_zero h
    subst e
    obtain ⟨m, rfl⟩ := Int.eq_ofNat_of_zero_le (show 0 ≤ x by have := h0.1; omega)
    have e0 := cy_len L f h0
    have e1 := cy_len M g h1
    obtain rfl : L = M := by rw [e0, e1]
    by_cases hw : Within (prodZ m L f g) (phiN m) 1000000000
    · exact ⟨m, phiN m, prodZ m L f g, 0, fun w _ _ _ _ _ _ _ _ hs ht => MultiplyCyclos_impl_ok m w hs ht h0 h1 hw, .inl ⟨rfl, m, rfl, rfl, rfl, h0, h1, e0, e0, rfl, by rw [← e0], by rw [← e0] at hw ⊢; exact hw⟩⟩
    · exact ⟨0, 0, fun _ => 0, 3, fun w _ _ _ _ _ _ _ _ hs ht => fail_form (MultiplyCyclos_impl_big m w hs ht h0 h1 hw), .inr (by decide)⟩
  · exact ⟨0, 0, fun _ => 0, _, fun w _ _ _ _ _ _ _ _ hs ht => fail_form (MultiplyCyclos_impl_bad x y _ w hs ht rfl h), .inr h⟩
end

section
open Go.RowKit Go.ChangeShapes Go.Sort
set_option linter.unusedVariables false

/-- The sum of the numbers f times the powers ix of the root. -/
def galS (n : Nat) (ix : Nat → Nat) (L : Nat) (f : Nat → Int) : Nat → Int := fun j => sumN L (fun p => f p * tb n (ix p % n) j)
theorem galZ_S (n a L : Nat) (f : Nat → Int) (j : Nat) : galZ n a L f j = galS n (fun p => p * a) L f j := rfl
theorem gal_S {n b L : Nat} (hn : n < 17) (h1 : 1 ≤ n) (hb : b ≤ n) (hg : Nat.gcd b n = 1) (ix : Nat → Nat) (f : Nat → Int) {j : Nat} (hj : j < phiN n) :
    galZ n b (phiN n) (galS n ix L f) j = sumN L (fun p => f p * tb n (ix p % n * b % n) j) := by
  unfold galZ galS
  have e1 : sumN (phiN n) (fun k => sumN L (fun p => f p * tb n (ix p % n) k) * tb n (k * b % n) j) = sumN (phiN n) (fun k => sumN L (fun p => f p * (tb n (ix p % n) k * tb n (k * b % n) j))) :=
    sumN_congr (fun k _ => by rw [← sumN_mulr]; exact sumN_congr (fun p _ => by rw [Int.mul_assoc]))
  rw [e1, sumN_swap]
  exact sumN_congr (fun p _ => by rw [sumN_mul, tab_gal n hn h1 b (by omega) hg _ (Nat.mod_lt _ h1) j hj])
theorem bar_gcd : ∀ n, n < 17 → 1 ≤ n → Nat.gcd (n - 1) n = 1 := by decide +kernel
theorem bar_twice : ∀ n, n < 17 → 1 ≤ n → ∀ p, p < n → p * (n - 1) % n * (n - 1) % n = p := by decide +kernel
theorem galZ_same {n a L : Nat} {f g : Nat → Int} (h : ∀ j, j < L → f j = g j) (j : Nat) : galZ n a L f j = galZ n a L g j := sumN_congr (fun p hp => by rw [h p hp])
theorem galZ_plus (n a L : Nat) (f g : Nat → Int) (j : Nat) : galZ n a L (fun i => f i + g i) j = galZ n a L f j + galZ n a L g j := by
  unfold galZ
  rw [← sumN_add]
  exact sumN_congr (fun p _ => by rw [Int.add_mul])
/-- The conjugate of the conjugate is the number. -/
theorem gal_bar {n : Nat} (hn : n < 17) (h1 : 1 ≤ n) (f : Nat → Int) {j : Nat} (hj : j < phiN n) : galZ n (n - 1) (phiN n) (galZ n (n - 1) (phiN n) f) j = f j := by
  have e : galZ n (n - 1) (phiN n) (galZ n (n - 1) (phiN n) f) j = sumN (phiN n) (fun p => if p = j then f p else 0) := by
    have h := gal_S (L := phiN n) hn h1 (show n - 1 ≤ n by omega) (bar_gcd n hn h1) (fun p => p * (n - 1)) f hj
    refine (show _ = _ from h).trans (sumN_congr (fun p hp => ?_))
    have hpn : phiN n ≤ n := phi_le_n
    rw [bar_twice n hn h1 p (by omega), tab_unit n hn h1 p hp j hj]
    by_cases e : p = j
    · rw [if_pos e, if_pos e, Int.mul_one]
    · rw [if_neg e, if_neg e, Int.mul_zero]
  rw [e, sumN_ite, if_pos hj]
theorem bar_bar {n : Nat} (hn : n < 17) (h1 : 1 ≤ n) {f : Nat → Int} (hf : Within f (phiN n) 1000000000) {j : Nat} (hj : j < phiN n) :
    imgP n (n - 1) (phiN n) (imgP n (n - 1) (phiN n) f) j = f j := by
  have hp := phi_le12 n (by omega) h1
  have hb := img_big (a := n - 1) hn h1 hf hp
  rw [imgP_gal hn h1 (fun j hj => hb j hj) hp hj, galZ_same (fun i hi => imgP_gal hn h1 (fun j hj => by have := hf j hj; omega) hp hi)]
  exact gal_bar hn h1 f hj
theorem imgP_same {n a : Nat} (hn : n < 17) (h1 : 1 ≤ n) {f g : Nat → Int} (hf : ∀ j, j < phiN n → -12000000000 ≤ f j ∧ f j ≤ 12000000000) (h : ∀ j, j < phiN n → f j = g j) {j : Nat} (hj : j < phiN n) :
    imgP n a (phiN n) f j = imgP n a (phiN n) g j := by
  have hp := phi_le12 n (by omega) h1
  rw [imgP_gal hn h1 hf hp hj, imgP_gal hn h1 (fun j hj => by rw [← h j hj]; exact hf j hj) hp hj]
  exact galZ_same h j
/-- A number and its conjugate together are real. -/
theorem real_sum {n : Nat} (hn : n < 17) (h1 : 1 ≤ n) {f : Nat → Int} (hf : Within f (phiN n) 1000000000) (hw : Within (addF 1 f (imgP n (n - 1) (phiN n) f)) (phiN n) 1000000000) :
    realB n (phiN n) (addF 1 f (imgP n (n - 1) (phiN n) f)) = true := by
  have hp := phi_le12 n (by omega) h1
  unfold realB
  rw [eqB_iff]
  intro j hj
  rw [imgP_gal hn h1 (fun j hj => by have := hw j hj; omega) hp hj]
  have e : ∀ i, i < phiN n → addF 1 f (imgP n (n - 1) (phiN n) f) i = f i + galZ n (n - 1) (phiN n) f i := fun i hi => by
    show f i + 1 * imgP n (n - 1) (phiN n) f i = _
    rw [imgP_gal hn h1 (fun j hj => by have := hf j hj; omega) hp hi, Int.one_mul]
  rw [galZ_same e, galZ_plus, gal_bar hn h1 f hj, e j hj]
  omega
/-- The square of the image is the image of the square. -/
theorem img_square {n a : Nat} (hn : n < 17) (h1 : 1 ≤ n) (ha : a ≤ n) (hg : Nat.gcd a n = 1) {f : Nat → Int} (hf : Within f (phiN n) 1000000000) (hs : Within (prodZ n (phiN n) f f) (phiN n) 1000000000) {j : Nat} (hj : j < phiN n) :
    imgP n a (phiN n) (prodZ n (phiN n) f f) j = prodZ n (phiN n) (imgP n a (phiN n) f) (imgP n a (phiN n) f) j := by
  have hp := phi_le12 n (by omega) h1
  rw [imgP_gal hn h1 (fun j hj => by have := hs j hj; omega) hp hj, gal_prod hn h1 ha hg f f hj, prodZ_tab hn h1 (Nat.le_refl _) _ _ hj, prodZ_tab hn h1 (Nat.le_refl _) _ _ hj]
  refine sumN_congr (fun p hp' => sumN_congr (fun q hq => ?_))
  rw [imgP_gal hn h1 (fun j hj => by have := hf j hj; omega) hp hp', imgP_gal hn h1 (fun j hj => by have := hf j hj; omega) hp hq]

theorem setP_fold {ix : Nat → Nat} (hi : ∀ p q, ix p = ix q → p = q) (f : Nat → Int) : ∀ m j, setP ix f m j = foldZ ix f m j
  | 0, j => rfl
  | m + 1, j => by
    show (if j = ix m then f m else setP ix f m j) = foldZ ix f m j + (if ix m = j then f m else 0)
    by_cases e : j = ix m
    · rw [if_pos e, if_pos e.symm]
      have : foldZ ix f m j = sumN m (fun _ => 0) := sumN_congr (fun p hp => if_neg (fun h => absurd (hi p m (h.trans e)) (by omega)))
      rw [this, sumN_zero]
      omega
    · rw [if_neg e, if_neg (fun h => e h.symm), setP_fold hi f m j]
      omega
theorem redZ_foldS {n L : Nat} {ix : Nat → Nat} (hix : ∀ p, p < L → ix p < 24) {f : Nat → Int} (hn : n < 17) (h1 : 1 ≤ n) {j : Nat} (hj : j < phiN n) : redZ n (foldZ ix f L) j = galS n ix L f j := by
  have hp := phi_le12 n (by omega) h1
  rw [redZ_sum hn h1 _ (by omega)]
  unfold foldZ galS
  have e : ∀ k, k < 24 → sumN L (fun i => if ix i = k then f i else 0) * redZ n (unit k) j = sumN L (fun i => if k = ix i then f i * tb n k j else 0) := fun k hk => by
    rw [← sumN_mulr, tb_eq hn h1 hk hj]
    refine sumN_congr (fun i _ => ?_)
    by_cases e : ix i = k
    · rw [if_pos e, if_pos e.symm]
    · rw [if_neg e, if_neg (fun h => e h.symm), Int.zero_mul]
  rw [sumN_congr e, sumN_swap]
  refine sumN_congr (fun i hi => ?_)
  have := sumN_ite (m := 24) (k := ix i) (fun k => f i * tb n k j)
  rw [this, if_pos (hix i hi), ← tb_mod hn h1 (hix i hi)]
theorem galS_bd {n L : Nat} {ix : Nat → Nat} {f : Nat → Int} (hn : n < 17) (h1 : 1 ≤ n) (hf : Within f L 1000000000) (hL : L ≤ 12) {j : Nat} (hj : j < phiN n) :
    -12000000000 ≤ galS n ix L f j ∧ galS n ix L f j ≤ 12000000000 := by
  have h := sumN_bd (F := fun p => f p * tb n (ix p % n) j) (B := 1000000000) (by omega) L (fun i hi => by
    have h2 := tab_one n hn h1 (ix i % n) (Nat.mod_lt _ h1) j hj
    exact one_bd (by omega) (hf i hi).1 (hf i hi).2 h2.1 h2.2)
  have h3 : (L : Int) * 1000000000 ≤ 12 * 1000000000 := by omega
  unfold galS
  omega
/-- The lifted number as a sum of powers. -/
theorem liftP_S {n N : Nat} (h1 : 1 ≤ n) (h2 : n < 17) (hN1 : 1 ≤ N) (hN2 : N < 17) (hd : N % n = 0) {L : Nat} (hL : L ≤ n) (hL12 : L ≤ 12) {f : Nat → Int} (hf : Within f L 1000000000) {j : Nat} (hj : j < phiN N) :
    liftP n N L f j = galS N (fun p => p * (N / n)) L f j := by
  have hp := phi_le12 N (by omega) hN1
  have hq : 1 ≤ N / n := Nat.div_pos (Nat.le_of_dvd hN1 (Nat.dvd_of_mod_eq_zero hd)) h1
  have hix : ∀ p, p < L → p * (N / n) < 24 := fun p hp' => by have := lift_lt (i := p) h1 hd hN1 (by omega); omega
  have hinj : ∀ p q, p * (N / n) = q * (N / n) → p = q := fun p q h => Nat.eq_of_mul_eq_mul_right hq h
  have hb := galS_bd (n := N) (ix := fun p => p * (N / n)) hN2 hN1 hf hL12 hj
  have hr : ∀ k, inR (setP (fun i => i * (N / n)) f L k) := setP_inR (fun i hi => by have := hf i hi; unfold inR; omega)
  unfold liftP
  rw [redP_exact (P' := foldZ (fun i => i * (N / n)) f L) hN2 hN1 (fun k _ => by rw [← setP_fold hinj]; exact (wrap_inR (hr k)).symm) (by omega) (by rw [redZ_foldS hix hN2 hN1 hj]; unfold inR; omega), redZ_foldS hix hN2 hN1 hj]
theorem lift_mod {n N a p : Nat} (h1 : 1 ≤ n) (hd : N % n = 0) (ha : a % n = 1 % n) : p * (N / n) % N * a % N = p * (N / n) % N := by
  have e : n * (N / n) = N := by have := Nat.div_add_mod N n; omega
  generalize N / n = q at *
  subst e
  have e1 : a * q % (n * q) = 1 * q % (n * q) := by rw [Nat.mul_mod_mul_right, Nat.mul_mod_mul_right, ha]
  rw [Nat.mod_mul_mod, Nat.mul_assoc, Nat.mul_comm q a, Nat.mul_mod, e1, Nat.one_mul, ← Nat.mul_mod]
/-- A lifted number is in its field. -/
theorem lift_in {n N : Nat} (h1 : 1 ≤ n) (h2 : n < 17) (hN1 : 1 ≤ N) (hN2 : N < 17) (hd : N % n = 0) {L : Nat} (hL : L ≤ n) (hL12 : L ≤ 12) {f : Nat → Int} (hf : Within f L 1000000000) (hw : Within (liftP n N L f) (phiN N) 1000000000) :
    fieldB N (phiN N) n (liftP n N L f) = true := by
  refine fieldB_true ?_
  intro a ha1 ha2 ha3 hg j hj
  have hp := phi_le12 N (by omega) hN1
  have hg' : Nat.gcd a N = 1 := by unfold gcdI at hg; rw [Int.toNat_natCast, Int.toNat_natCast] at hg; omega
  rw [imgP_gal hN2 hN1 (fun j hj => by have := hw j hj; omega) hp hj, galZ_same (fun i hi => liftP_S h1 h2 hN1 hN2 hd hL hL12 hf hi), gal_S hN2 hN1 (by omega) hg' _ _ hj, liftP_S h1 h2 hN1 hN2 hd hL hL12 hf hj]
  exact sumN_congr (fun p _ => by dsimp only; rw [lift_mod h1 hd ha3])
end

section
open Go.RowKit Go.ChangeShapes Go.Sort
set_option linter.unusedVariables false
set_option linter.unusedSimpArgs false

/-- A function of one number answers with this number and this code. -/
def GC1 (fn : FuncId) (x : Int) (L : Nat) (f : Nat → Int) (R : Int) (N : Nat) (G : Nat → Int) (C1 : Int) : Prop :=
  ∀ (w : World) (o : Bool) (lo hi : Nat) (v : Value), Sl o w lo hi v L f → Calls Try.prog fn #[.agg #[.int .i64 x, v]] w fun e w' => ∃ a' k', e = .returned (.tuple #[.agg #[.int .i64 R, .slice a' N k'], .int .i64 C1]) ∧ Sl true w' w.heap.size w'.heap.size (.slice a' N k') N G ∧ Below w.heap.size w w'
/-- A function of a number and an integer answers with this number and this code. -/
def GC2 (fn : FuncId) (x : Int) (L : Nat) (f : Nat → Int) (a : Int) (R : Int) (N : Nat) (G : Nat → Int) (C1 : Int) : Prop :=
  ∀ (w : World) (o : Bool) (lo hi : Nat) (v : Value), Sl o w lo hi v L f → Calls Try.prog fn #[.agg #[.int .i64 x, v], .int .i64 a] w fun e w' => ∃ a' k', e = .returned (.tuple #[.agg #[.int .i64 R, .slice a' N k'], .int .i64 C1]) ∧ Sl true w' w.heap.size w'.heap.size (.slice a' N k') N G ∧ Below w.heap.size w w'
/-- A function of two numbers and an integer answers with this number and this code. -/
def GC3 (fn : FuncId) (x : Int) (L : Nat) (f : Nat → Int) (y : Int) (M : Nat) (g : Nat → Int) (a : Int) (R : Int) (N : Nat) (G : Nat → Int) (C1 : Int) : Prop :=
  ∀ (w : World) (o : Bool) (lo hi : Nat) (v : Value) (o' : Bool) (lo' hi' : Nat) (v' : Value), Sl o w lo hi v L f → Sl o' w lo' hi' v' M g → Calls Try.prog fn #[.agg #[.int .i64 x, v], .agg #[.int .i64 y, v'], .int .i64 a] w fun e w' => ∃ a' k', e = .returned (.tuple #[.agg #[.int .i64 R, .slice a' N k'], .int .i64 C1]) ∧ Sl true w' w.heap.size w'.heap.size (.slice a' N k') N G ∧ Below w.heap.size w w'
/-- A function of one number answers with this value. -/
def GV1 (fn : FuncId) (x : Int) (L : Nat) (f : Nat → Int) (V : Value) : Prop :=
  ∀ (w : World) (o : Bool) (lo hi : Nat) (v : Value), Sl o w lo hi v L f → Calls Try.prog fn #[.agg #[.int .i64 x, v]] w fun e w' => e = .returned V ∧ Below w.heap.size w w'
/-- A function of a number and an integer answers with this value. -/
def GV2 (fn : FuncId) (x : Int) (L : Nat) (f : Nat → Int) (a : Int) (V : Value) : Prop :=
  ∀ (w : World) (o : Bool) (lo hi : Nat) (v : Value), Sl o w lo hi v L f → Calls Try.prog fn #[.agg #[.int .i64 x, v], .int .i64 a] w fun e w' => e = .returned V ∧ Below w.heap.size w w'

/-- An image: what it is where there is one. -/
def GalR (x : Int) (L : Nat) (f : Nat → Int) (a R : Int) (N : Nat) (G : Nat → Int) (C : Int) : Prop :=
  (C = 0 ∧ ∃ n b : Nat, x = n ∧ a = b ∧ R = n ∧ CyP n L f ∧ L = phiN n ∧ N = phiN n ∧ 1 ≤ b ∧ b ≤ n ∧ Nat.gcd b n = 1 ∧ G = imgP n b L f ∧ Within (imgP n b L f) (phiN n) 1000000000) ∨ C ≠ 0
theorem GaloisImage_two (x : Int) (L : Nat) (f : Nat → Int) (a : Int) : ∃ (R : Int) (N : Nat) (G : Nat → Int) (C : Int), GC2 107 x L f a R N G C ∧ GC2 90 x L f a R N G C ∧ GalR x L f a R N G C := by
  by_cases h : CyP x L f
  · obtain ⟨m, rfl⟩ := Int.eq_ofNat_of_zero_le (show 0 ≤ x by have := h.1; omega)
    by_cases ho : a < 1 ∨ (m : Int) < a
    · exact ⟨0, 0, fun _ => 0, 2, fun w _ _ _ _ hs => fail_form (GaloisImage_spec_out m a w hs h ho), fun w _ _ _ _ hs => fail_form (GaloisImage_impl_out m a w hs h ho), .inr (by decide)⟩
    · by_cases hg : gcdI a m = 1
      · obtain ⟨b, rfl⟩ := Int.eq_ofNat_of_zero_le (show 0 ≤ a by omega)
        have hb : Nat.gcd b m = 1 := by unfold gcdI at hg; rw [Int.toNat_natCast, Int.toNat_natCast] at hg; omega
        by_cases hw : Within (imgP m b L f) (phiN m) 1000000000
        · exact ⟨m, phiN m, imgP m b L f, 0, fun w _ _ _ _ hs => GaloisImage_spec_ok m b w hs h (by omega) (by omega) hg hw, fun w _ _ _ _ hs => GaloisImage_impl_ok m b w hs h (by omega) (by omega) hg hw, .inl ⟨rfl, m, b, rfl, rfl, rfl, h, h.2.2.1, rfl, by omega, by omega, hb, rfl, hw⟩⟩
        · exact ⟨0, 0, fun _ => 0, 3, fun w _ _ _ _ hs => fail_form (GaloisImage_spec_big m b w hs h (by omega) (by omega) hg hw), fun w _ _ _ _ hs => fail_form (GaloisImage_impl_big m b w hs h (by omega) (by omega) hg hw), .inr (by decide)⟩
      · exact ⟨0, 0, fun _ => 0, 2, fun w _ _ _ _ hs => fail_form (GaloisImage_spec_gcd m a w hs h ⟨by omega, by omega, hg⟩), fun w _ _ _ _ hs => fail_form (GaloisImage_impl_gcd m a w hs h ⟨by omega, by omega, hg⟩), .inr (by decide)⟩
  · exact ⟨0, 0, fun _ => 0, 1, fun w _ _ _ _ hs => fail_form (GaloisImage_spec_bad x a w hs h), fun w _ _ _ _ hs => fail_form (GaloisImage_impl_bad x a w hs h), .inr (by decide)⟩
/-- A conjugate: what it is where there is one. -/
def ConR (x : Int) (L : Nat) (f : Nat → Int) (R : Int) (N : Nat) (G : Nat → Int) (C : Int) : Prop :=
  (C = 0 ∧ ∃ n : Nat, x = n ∧ R = n ∧ CyP n L f ∧ L = phiN n ∧ N = phiN n ∧ G = imgP n (n - 1) L f ∧ Within (imgP n (n - 1) L f) (phiN n) 1000000000) ∨ C ≠ 0
theorem ConjugateOf_two (x : Int) (L : Nat) (f : Nat → Int) : ∃ (R : Int) (N : Nat) (G : Nat → Int) (C : Int), GC1 109 x L f R N G C ∧ GC1 61 x L f R N G C ∧ ConR x L f R N G C := by
  by_cases h : CyP x L f
  · obtain ⟨m, rfl⟩ := Int.eq_ofNat_of_zero_le (show 0 ≤ x by have := h.1; omega)
    by_cases hw : Within (imgP m (m - 1) L f) (phiN m) 1000000000
    · exact ⟨m, phiN m, imgP m (m - 1) L f, 0, fun w _ _ _ _ hs => ConjugateOf_spec_ok m w hs h hw, fun w _ _ _ _ hs => ConjugateOf_impl_ok m w hs h hw, .inl ⟨rfl, m, rfl, rfl, h, h.2.2.1, rfl, rfl, hw⟩⟩
    · exact ⟨0, 0, fun _ => 0, 3, fun w _ _ _ _ hs => fail_form (ConjugateOf_spec_big m w hs h hw), fun w _ _ _ _ hs => fail_form (ConjugateOf_impl_big m w hs h hw), .inr (by decide)⟩
  · exact ⟨0, 0, fun _ => 0, 1, fun w _ _ _ _ hs => fail_form (ConjugateOf_spec_bad x w hs h), fun w _ _ _ _ hs => fail_form (ConjugateOf_impl_bad x w hs h), .inr (by decide)⟩
/-- The conjugate of a conjugate is told, and is the number. -/
theorem ConjugateOf_back {x : Int} {L : Nat} {f : Nat → Int} {R : Int} {N : Nat} {G : Nat → Int} (h : ConR x L f R N G 0) :
    ∃ F : Nat → Int, GC1 61 R N G x L F 0 ∧ ∀ j, j < L → F j = f j := by
  rcases h with ⟨_, n, rfl, rfl, h, rfl, rfl, rfl, hw⟩ | h
  · have h1 : 1 ≤ n := by have := h.1; omega
    have h2 : n < 17 := by have := h.2.1; omega
    have hb : ∀ j, j < phiN n → imgP n (n - 1) (phiN n) (imgP n (n - 1) (phiN n) f) j = f j := fun j hj => bar_bar h2 h1 h.2.2.2 hj
    have hw2 : Within (imgP n (n - 1) (phiN n) (imgP n (n - 1) (phiN n) f)) (phiN n) 1000000000 := fun j hj => by rw [hb j hj]; exact h.2.2.2 j hj
    exact ⟨_, fun w _ _ _ _ hs => ConjugateOf_impl_ok n w hs ⟨h.1, h.2.1, rfl, hw⟩ hw2, hb⟩
  · exact absurd rfl h
/-- A number and its conjugate together: a real number, where there is one. -/
theorem AddCyclos_bar {x : Int} {L : Nat} {f : Nat → Int} {R : Int} {N : Nat} {G : Nat → Int} (h : ConR x L f R N G 0) :
    ∃ (R' : Int) (N' : Nat) (G' : Nat → Int) (C : Int), GC3 110 x L f R N G 1 R' N' G' C ∧ (C = 0 → GV1 111 R' N' G' (.tuple #[.bool true, .int .i64 0])) := by
  rcases h with ⟨_, n, rfl, rfl, h, rfl, rfl, rfl, hw⟩ | h
  · have h1 : 1 ≤ n := by have := h.1; omega
    have h2 : n < 17 := by have := h.2.1; omega
    by_cases hk : Within (addF 1 f (imgP n (n - 1) (phiN n) f)) (phiN n) 1000000000
    · refine ⟨n, phiN n, addF 1 f (imgP n (n - 1) (phiN n) f), 0, fun w _ _ _ _ _ _ _ _ hs ht => AddCyclos_impl_ok n 1 w hs ht h ⟨h.1, h.2.1, rfl, hw⟩ (by decide) (by decide) hk, fun _ w _ _ _ _ hs => ?_⟩
      have := IsReal_impl_ok n w hs ⟨h.1, h.2.1, rfl, hk⟩
      rw [real_sum h2 h1 h.2.2.2 hk] at this
      exact this
    · exact ⟨0, 0, fun _ => 0, 3, fun w _ _ _ _ _ _ _ _ hs ht => fail_form (AddCyclos_impl_big n 1 w hs ht h ⟨h.1, h.2.1, rfl, hw⟩ (by decide) (by decide) hk), fun h => absurd h (by decide)⟩
  · exact absurd rfl h
/-- A lifted number: what it is where there is one. -/
def LifR (x : Int) (L : Nat) (f : Nat → Int) (R : Int) (N : Nat) (G : Nat → Int) (C : Int) : Prop :=
  C = 0 → GV2 115 R N G x (.tuple #[.bool true, .int .i64 0])
theorem LiftCyclo_two (x : Int) (L : Nat) (f : Nat → Int) (a : Int) : ∃ (R : Int) (N : Nat) (G : Nat → Int) (C : Int), GC2 114 x L f a R N G C ∧ GC2 113 x L f a R N G C ∧ LifR x L f R N G C := by
  by_cases h : CyP x L f
  · obtain ⟨m, rfl⟩ := Int.eq_ofNat_of_zero_le (show 0 ≤ x by have := h.1; omega)
    have h1 : 1 ≤ m := by have := h.1; omega
    have h2 : m < 17 := by have := h.2.1; omega
    by_cases ho : a < 1 ∨ 16 < a
    · exact ⟨0, 0, fun _ => 0, 2, fun w _ _ _ _ hs => fail_form (LiftCyclo_spec_out m a w hs h ho), fun w _ _ _ _ hs => fail_form (LiftCyclo_impl_out m a w hs h ho), fun h => absurd h (by decide)⟩
    · by_cases hd : a % (m : Int) = 0
      · obtain ⟨b, rfl⟩ := Int.eq_ofNat_of_zero_le (show 0 ≤ a by omega)
        have hd' : b % m = 0 := by have : ((b % m : Nat) : Int) = 0 := by rw [Int.natCast_emod]; exact hd
                                   omega
        have hL : L = phiN m := h.2.2.1
        have hp := phi_le12 m (by omega) h1
        have hpn : phiN m ≤ m := phi_le_n
        by_cases hw : Within (liftP m b L f) (phiN b) 1000000000
        · refine ⟨b, phiN b, liftP m b L f, 0, fun w _ _ _ _ hs => LiftCyclo_spec_ok m b w hs h (by omega) (by omega) hd' hw, fun w _ _ _ _ hs => LiftCyclo_impl_ok m b w hs h (by omega) (by omega) hd' hw, fun _ w _ _ _ _ hs => ?_⟩
          have := IsInField_impl_ok b m w hs ⟨by omega, by omega, rfl, hw⟩ h1 hd'
          rw [lift_in h1 h2 (by omega) (by omega) hd' (by omega) (by omega) h.2.2.2 hw] at this
          exact this
        · exact ⟨0, 0, fun _ => 0, 3, fun w _ _ _ _ hs => fail_form (LiftCyclo_spec_big m b w hs h (by omega) (by omega) hd' hw), fun w _ _ _ _ hs => fail_form (LiftCyclo_impl_big m b w hs h (by omega) (by omega) hd' hw), fun h => absurd h (by decide)⟩
      · exact ⟨0, 0, fun _ => 0, 2, fun w _ _ _ _ hs => fail_form (LiftCyclo_spec_rest m a w hs h ⟨by omega, by omega, hd⟩), fun w _ _ _ _ hs => fail_form (LiftCyclo_impl_rest m a w hs h ⟨by omega, by omega, hd⟩), fun h => absurd h (by decide)⟩
  · exact ⟨0, 0, fun _ => 0, 1, fun w _ _ _ _ hs => fail_form (LiftCyclo_spec_bad x a w hs h), fun w _ _ _ _ hs => fail_form (LiftCyclo_impl_bad x a w hs h), fun h => absurd h (by decide)⟩
theorem IsInField_two (x : Int) (L : Nat) (f : Nat → Int) (a : Int) : ∃ (b : Bool) (C : Int), GV2 117 x L f a (.tuple #[.bool b, .int .i64 C]) ∧ GV2 115 x L f a (.tuple #[.bool b, .int .i64 C]) := by
  by_cases h : CyP x L f
  · obtain ⟨m, rfl⟩ := Int.eq_ofNat_of_zero_le (show 0 ≤ x by have := h.1; omega)
    have h1 : 1 ≤ m := by have := h.1; omega
    by_cases ho : a < 1
    · exact ⟨false, 2, fun w _ _ _ _ hs => IsInField_spec_out m a w hs h (.inl ho), fun w _ _ _ _ hs => IsInField_impl_low m a w hs h ho⟩
    · by_cases hd : (m : Int) % a = 0
      · obtain ⟨b, rfl⟩ := Int.eq_ofNat_of_zero_le (show 0 ≤ a by omega)
        have hd' : m % b = 0 := by have : ((m % b : Nat) : Int) = 0 := by rw [Int.natCast_emod]; exact hd
                                   omega
        exact ⟨_, 0, fun w _ _ _ _ hs => IsInField_spec_ok m b w hs h (by omega) hd', fun w _ _ _ _ hs => IsInField_impl_ok m b w hs h (by omega) hd'⟩
      · by_cases hm : (m : Int) < a
        · exact ⟨false, 2, fun w _ _ _ _ hs => IsInField_spec_out m a w hs h (.inr hm), fun w _ _ _ _ hs => IsInField_impl_rest m a w hs h (by omega) hd⟩
        · exact ⟨false, 2, fun w _ _ _ _ hs => IsInField_spec_rest m a w hs h (by omega) (by omega) hd, fun w _ _ _ _ hs => IsInField_impl_rest m a w hs h (by omega) hd⟩
  · exact ⟨false, 1, fun w _ _ _ _ hs => IsInField_spec_bad x a w hs h, fun w _ _ _ _ hs => IsInField_impl_bad x a w hs h⟩
theorem IsReal_two (x : Int) (L : Nat) (f : Nat → Int) : ∃ (b : Bool) (C : Int), GV1 119 x L f (.tuple #[.bool b, .int .i64 C]) ∧ GV1 111 x L f (.tuple #[.bool b, .int .i64 C]) := by
  by_cases h : CyP x L f
  · obtain ⟨m, rfl⟩ := Int.eq_ofNat_of_zero_le (show 0 ≤ x by have := h.1; omega)
    exact ⟨_, 0, fun w _ _ _ _ hs => IsReal_spec_ok m w hs h, fun w _ _ _ _ hs => IsReal_impl_ok m w hs h⟩
  · exact ⟨false, 1, fun w _ _ _ _ hs => IsReal_spec_bad x w hs h, fun w _ _ _ _ hs => IsReal_impl_bad x w hs h⟩
/-- Where image, square, image of the square and square of the image are told, the last two are the same. -/
theorem square_same {x : Int} {L : Nat} {f : Nat → Int} {a R : Int} {N : Nat} {G : Nat → Int} (h : GalR x L f a R N G 0)
    {R2 : Int} {N2 : Nat} {G2 : Nat → Int} (h2 : MulR x L f x L f R2 N2 G2 0) {R3 : Int} {N3 : Nat} {G3 : Nat → Int} (h3 : GalR R2 N2 G2 a R3 N3 G3 0)
    {R4 : Int} {N4 : Nat} {G4 : Nat → Int} (h4 : MulR R N G R N G R4 N4 G4 0) : R3 = R4 ∧ N3 = N4 ∧ ∀ j, j < N3 → G3 j = G4 j := by
  rcases h with ⟨_, n, b, rfl, rfl, rfl, hc, rfl, rfl, hb1, hb2, hg, rfl, hw⟩ | h
  · rcases h2 with ⟨_, n2, e1, _, rfl, _, _, _, _, rfl, rfl, hw2⟩ | h2
    · obtain rfl : n2 = n := by omega
      rcases h3 with ⟨_, n3, b3, e3, e4, rfl, _, _, rfl, _, _, _, rfl, _⟩ | h3
      · obtain rfl : n3 = n2 := by omega
        obtain rfl : b3 = b := by omega
        rcases h4 with ⟨_, n4, e5, _, rfl, _, _, _, _, rfl, rfl, _⟩ | h4
        · obtain rfl : n4 = n3 := by omega
          have h1 : 1 ≤ n4 := by have := hc.1; omega
          have h2' : n4 < 17 := by have := hc.2.1; omega
          exact ⟨rfl, rfl, fun j hj => img_square h2' h1 hb2 hg hc.2.2.2 hw2 hj⟩
        · exact absurd rfl h4
      · exact absurd rfl h3
    · exact absurd rfl h2
  · exact absurd rfl h
end

section
open Go.RowKit Go.ChangeShapes
set_option linter.unusedVariables false
set_option linter.unusedSimpArgs false
/-- Bytes that are there to be read, below the block B. -/
def Bytes (w : World) (B : Nat) (p : Option Addr) (n : Nat) : Prop := n ≤ 4096 ∧ ∀ j, j < n → ∃ g off c, p = some ⟨g, off, none⟩ ∧ g < B ∧ g < w.heap.size ∧ w.cell? ⟨g, off + j, none⟩ = some (.int .u8 c) ∧ 0 ≤ c ∧ c ≤ 255
/-- A source of drawn numbers in the block b. -/
def Src (w : World) (b : Nat) (p : Option Addr) (n q : Nat) : Prop := ∃ (at_ : Nat) (h : Int), at_ ≤ n ∧ 0 ≤ h ∧ h ≤ 18446744073709551615 ∧ Box w b [.slice p n q, .int .i64 at_, .int .u64 h]
theorem Box.set {w : World} {b i : Nat} {vs : List Value} {u : Value} (h : Box w b vs) (hi : i < vs.length) : Box (w.setCell ⟨b, i, none⟩ u) b (vs.set i u) := by
  obtain ⟨h1, h2, h3⟩ := h
  refine ⟨by simpa using h1, fun j v hj => ?_, fun k => by simpa using h3 k⟩
  by_cases e : j = i
  · subst e
    rw [List.getElem?_set_self (by simpa using hi)] at hj
    obtain rfl : u = v := Option.some.inj hj
    exact World.cell?_setCell_same _ _ _ (h2 j _ (List.getElem?_eq_getElem hi))
  · rw [List.getElem?_set_ne (fun h => e h.symm)] at hj
    rw [setCell_ne _ _ _ _ _ e]
    exact h2 j v hj
theorem Box.drewN {w : World} {b : Nat} {vs : List Value} (h : Box w b vs) (m : Nat) : Box (w.drewN m) b vs := h.keep (below_drewN (Below.refl _ _) m)
theorem wrap_u64 (x : Int) : 0 ≤ IntKind.u64.wrap x ∧ IntKind.u64.wrap x ≤ 18446744073709551615 := by
  have h : IntKind.u64.wrap x = x % 18446744073709551616 := by rfl
  omega
theorem and_small (x : Int) (h : 0 ≤ x) (hx' : x < 18446744073709551616) : 0 ≤ wrap64 (bits .and .u64 x 1073741823) ∧ wrap64 (bits .and .u64 x 1073741823) ≤ 1073741823 := by
  have h1 : 0 ≤ bits .and .u64 x 1073741823 ∧ bits .and .u64 x 1073741823 ≤ 1073741823 := by
    by_cases hx : x < 18446744073709551616
    · rw [u64_and x 1073741823 h hx (by omega) (by omega)]
      have := @Nat.and_le_right x.toNat (1073741823 : Int).toNat
      have e : (1073741823 : Int).toNat = 1073741823 := rfl
      rw [e] at this ⊢
      omega
    · exact absurd hx' hx
  rw [wrap_inR (by unfold inR; omega)]
  exact h1
set_option maxRecDepth 100000 in
set_option maxHeartbeats 1000000 in
theorem l01Next_any (b B : Nat) (p : Option Addr) (n q : Nat) (m : Int) (w : World) (hs : Src w b p n q) (hb : Bytes w B p n) (hB : B ≤ b) (hm : 1 ≤ m) (hm2 : m ≤ 1000000000000) :
    Calls Try.prog 169 #[.pointer (some ⟨b, 0, none⟩), .int .i64 m] w fun e w' => ∃ r : Int, e = .returned (.int .i64 r) ∧ 0 ≤ r ∧ r < m ∧ Src w' b p n q ∧ Frame b (b + 1) w w' := by
  obtain ⟨at_, h, hat, hh1, hh2, hbx⟩ := hs
  have c0 := hbx.2.1 0 _ rfl
  have c1 := hbx.2.1 1 _ rfl
  have c2 := hbx.2.1 2 _ rfl
  have hz := hbx.2.2
  have hbz := hbx.1
  have hn := hb.1
  have HB := Lib.hid hb.2
  have HBX := Lib.hid hbx
  clear hb hbx
  go_enter Try.func169, Try.ntmps169
  go_wp2
  have hH := wrap_u64 (IntKind.u64.wrap (h * 6364136223846793005) + 1442695040888963407)
  have hX := and_small (IntKind.u64.wrap (IntKind.u64.wrap (h * 6364136223846793005) + 1442695040888963407) / 2147483648) (by omega) (by omega)
  generalize wrap64 (bits .and .u64 (IntKind.u64.wrap (IntKind.u64.wrap (h * 6364136223846793005) + 1442695040888963407) / 2147483648) 1073741823) = X at *
  generalize IntKind.u64.wrap (IntKind.u64.wrap (h * 6364136223846793005) + 1442695040888963407) = H at *
  obtain ⟨hX1, hX2⟩ := hX
  obtain ⟨hH1, hH2⟩ := hH
  by_cases hlt : at_ < n
  · obtain ⟨g, off, c, rfl, hg, hgz, hc, hc1, hc2⟩ := HB.out at_ hlt
    have hgb : ¬ (b = g) := by omega
    have hlt2 : (at_ : Int) < n := by omega
    go_quiet (fail)
    go_wp2
    go_quiet (fail)
    go_wp2
    refine bodyPost_ret (v := .int .i64 ((X + c) % m)) (by simp [results, Try.results169, go_sem]) rfl ?_
    refine ⟨_, rfl, Int.emod_nonneg _ (by omega), Int.emod_lt_of_pos _ (by omega), ⟨at_ + 1, H, by omega, hH1, hH2, ?_⟩, ?_⟩
    · have hall : ∀ k, Box (((w.setCell ⟨b, 2, none⟩ (.int .u64 H)).drewN k).setCell ⟨b, 1, none⟩ (.int .i64 ((at_ : Int) + 1))) b [.slice (some ⟨g, off, none⟩) n q, .int .i64 ((at_ + 1 : Nat) : Int), .int .u64 H] := fun k => by
        have h2 := ((HBX.out.set (i := 2) (u := .int .u64 H) (by simp)).drewN k).set (i := 1) (u := .int .i64 ((at_ : Int) + 1)) (by simp)
        simpa using h2
      exact hall _
    · exact (((Frame.refl b (b + 1) w).setCell (Nat.le_refl _) (Nat.lt_succ_self _) _).drewN _).setCell (Nat.le_refl _) (Nat.lt_succ_self _) _
  · have hlt2 : ¬ ((at_ : Int) < n) := by omega
    go_quiet (fail)
    go_wp2
    refine bodyPost_ret (v := .int .i64 (X % m)) (by simp [results, Try.results169, go_sem]) rfl ?_
    refine ⟨_, rfl, Int.emod_nonneg _ (by omega), Int.emod_lt_of_pos _ (by omega), ⟨at_, H, by omega, hH1, hH2, ?_⟩, ?_⟩
    · have h1 := (HBX.out.set (i := 2) (u := .int .u64 H) (by simp)).drewN nq
      simpa using h1
    · exact ((Frame.refl b (b + 1) w).setCell (Nat.le_refl _) (Nat.lt_succ_self _) _).drewN _

theorem Bytes.frame {w w' : World} {B b : Nat} {p : Option Addr} {n : Nat} (h : Bytes w B p n) (hf : Frame b (b + 1) w w') (hB : B ≤ b) : Bytes w' B p n :=
  ⟨h.1, fun j hj => by
    obtain ⟨g, off, c, e, h1, h2, h3, h4⟩ := h.2 j hj
    exact ⟨g, off, c, e, h1, Nat.lt_of_lt_of_le h2 hf.size, (hf.cell (p := ⟨g, off + j, none⟩) h2 (.inl (by show g < b; omega))).trans h3, h4⟩⟩
theorem Bytes.below {w w' : World} {B : Nat} {p : Option Addr} {n : Nat} (h : Bytes w B p n) (hb : Below w.heap.size w w') : Bytes w' B p n :=
  ⟨h.1, fun j hj => by
    obtain ⟨g, off, c, e, h1, h2, h3, h4⟩ := h.2 j hj
    exact ⟨g, off, c, e, h1, Nat.lt_of_lt_of_le h2 hb.size, cell_later hb h3, h4⟩⟩
section
variable {o : Bool} {lo hi k : Nat} {v : Value} {f : Nat → Int}
set_option maxRecDepth 100000 in
theorem l01Pick_any (b B : Nat) (p : Option Addr) (n q : Nat) (w : World) (hs : Src w b p n q) (hb : Bytes w B p n) (hB : B ≤ b) (hl : Sl o w lo hi v k f) (hd : hi ≤ b ∨ b + 1 ≤ lo) (hk : 1 ≤ k) (hk2 : k ≤ 1000) :
    Calls Try.prog 161 #[.pointer (some ⟨b, 0, none⟩), v] w fun e w' => ∃ i, i < k ∧ e = .returned (.int .i64 (f i)) ∧ Src w' b p n q ∧ Frame b (b + 1) w w' := by
  obtain ⟨a, cap, rfl⟩ := hl.shape
  have HL := Lib.hid hl
  clear hl
  go_enter Try.func161, Try.ntmps161
  go_wp2_with fail
  refine (l01Next_any b B p n q k w hs hb hB (by omega) (by omega)).mono ?_
  rintro e w1 ⟨r, rfl, hr1, hr2, hs1, hf1⟩
  obtain ⟨i, rfl⟩ := Int.eq_ofNat_of_zero_le hr1
  have hik : i < k := by omega
  have hl1 := HL.out.keepF hf1 hd
  obtain ⟨g, off, c1, hv, _, _, _, _, hc, _⟩ := hl1.at (by omega)
  obtain ⟨rfl, rfl⟩ : a = some ⟨g, off, none⟩ ∧ cap = c1 := by cases hv; exact ⟨rfl, rfl⟩
  have hck := hc i hik
  clear hv hc
  go_wp2
  go_ret
  exact ⟨i, hik, rfl, hs1, hf1⟩
end
set_option maxRecDepth 100000 in
set_option maxHeartbeats 1000000 in
theorem l01From_any (B : Nat) (p : Option Addr) (n q : Nat) (w : World) (hb : Bytes w B p n) (hB : B ≤ w.heap.size) :
    Calls Try.prog 160 #[.slice p n q] w fun e w' => e = .returned (.pointer (some ⟨w.heap.size, 0, none⟩)) ∧ Src w' w.heap.size p n q ∧ Bytes w' B p n ∧ Below w.heap.size w w' := by
  have hn := hb.1
  have HB := Lib.hid hb
  clear hb
  have H0 := wrap_u64 (13131 + n)
  go_enter Try.func160, Try.ntmps160
  go_wp2
  go_loopw [4] (fun s4 wr => ∃ k : Nat, k ≤ n ∧ s4 = .int .i64 k ∧ (∃ h : Int, 0 ≤ h ∧ h ≤ 18446744073709551615 ∧ Box wr w.heap.size [.slice p n q, .int .i64 0, .int .u64 h]) ∧ Bytes wr B p n ∧ Below w.heap.size w wr) (fun s4 _ => n - (intOf s4).toNat)
  case atStart => exact ⟨0, Nat.zero_le _, rfl, ⟨13131 + n, by omega, by omega, Box.made _ _ _ _ (fun j v h => by simpa using h)⟩, HB.out.below ((Below.refl _ _).alloc (Nat.le_refl _) _), (Below.refl _ _).alloc (Nat.le_refl _) _⟩
  case round =>
    obtain ⟨k, hk, rfl, ⟨h, hh1, hh2, hbx⟩, hby, hbl⟩ := hrel
    have c0 := hbx.2.1 0 _ rfl
    have c1 := hbx.2.1 1 _ rfl
    have c2 := hbx.2.1 2 _ rfl
    have hz := hbx.2.2
    have hbz := hbx.1
    have HBX := Lib.hid hbx
    have HBY := Lib.hid hby
    have HBL := Lib.hid hbl
    clear hbx hby hbl
    by_cases hlt : k < n
    · obtain ⟨g, off, c, rfl, hg, hgz, hc, hc1, hc2⟩ := HBY.out.2 k hlt
      have hgb : ¬ (w.heap.size = g) := by omega
      have hlt2 : (k : Int) < n := by omega
      have hlt3 : (k : Int) < 4096 := by omega
      go_wp2
      go_region
      go_wp2
      go_roundw
      case rel =>
        have hw := wrap_u64 (IntKind.u64.wrap (IntKind.u64.wrap (h * 1099511628211) + c) + 131)
        have hf : Frame w.heap.size (w.heap.size + 1) wr ((wr.setCell ⟨w.heap.size, 2, none⟩ (.int .u64 (IntKind.u64.wrap (IntKind.u64.wrap (IntKind.u64.wrap (h * 1099511628211) + c) + 131)))).drew) := ((Frame.refl w.heap.size (w.heap.size + 1) wr).setCell (Nat.le_refl _) (Nat.lt_succ_self _) _).drew
        refine ⟨k + 1, by omega, by go_num, ⟨_, hw.1, hw.2, ?_⟩, HBY.out.frame hf hB, HBL.out.trans (hf.below (Nat.le_refl _) HBL.out.size)⟩
        have h2 := HBX.out.set (i := 2) (u := .int .u64 (IntKind.u64.wrap (IntKind.u64.wrap (IntKind.u64.wrap (h * 1099511628211) + c) + 131))) (by simp)
        have h3 := h2.keep (Below.refl _ _).drew
        simpa using h3
      case measure => simp [intOf] <;> omega
    · obtain rfl : k = n := by omega
      go_wp2
      go_ret
      exact ⟨rfl, ⟨0, h, Nat.zero_le _, hh1, hh2, HBX.out⟩, HBY.out, HBL.out⟩
end

section
open Go.RowKit Go.ChangeShapes
set_option linter.unusedVariables false
set_option linter.unusedSimpArgs false

theorem Src.keep {w w' : World} {b : Nat} {p : Option Addr} {n q : Nat} (h : Src w b p n q) (hb : Below w.heap.size w w') : Src w' b p n q := by
  obtain ⟨a, x, h1, h2, h3, h4⟩ := h
  exact ⟨a, x, h1, h2, h3, h4.keep hb⟩
theorem Src.lt {w : World} {b : Nat} {p : Option Addr} {n q : Nat} (h : Src w b p n q) : b < w.heap.size := by
  obtain ⟨a, x, h1, h2, h3, h4⟩ := h
  exact h4.1
/-- A list just laid. -/
theorem Sl.list (w : World) (xs : List Int) (hx : ∀ x ∈ xs, inR x) (hl : xs.length ≤ maxLen) :
    Sl true (w.alloc (.cells (xs.map (Value.int .i64)).toArray 2)) w.heap.size (w.heap.size + 1) (.slice (some ⟨w.heap.size, 0, none⟩) xs.length xs.length) xs.length (fun j => xs.getD j 0) :=
  Sl.made w _ _ _ _ _ (Nat.le_refl _) hl (fun j hj => by
    rw [List.getD_eq_getElem?_getD, List.getElem?_eq_getElem hj]
    exact hx _ (List.getElem_mem hj)) (fun j hj => by simp [List.getD_eq_getElem?_getD, List.getElem?_eq_getElem hj])
section
variable {b B : Nat} {p : Option Addr} {n q : Nat}
set_option maxRecDepth 100000 in
theorem l01Near_any (m : Int) (w : World) (hs : Src w b p n q) (hb : Bytes w B p n) (hB : B ≤ b) (hm : 0 ≤ m) (hm2 : m ≤ 100000000000) :
    Calls Try.prog 163 #[.pointer (some ⟨b, 0, none⟩), .int .i64 m] w fun e w' => ∃ r, e = .returned (.int .i64 r) ∧ inR r ∧ Src w' b p n q ∧ Bytes w' B p n ∧ Frame b (b + 1) w w' := by
  go_enter Try.func163, Try.ntmps163
  go_wp2_with fail
  refine (l01Next_any b B p n q 14 w hs hb hB (by omega) (by omega)).mono ?_
  rintro e w1 ⟨r, rfl, hr1, hr2, hs1, hf1⟩
  have hb1 := hb.frame hf1 hB
  clear hs hb
  by_cases h0 : r = 0
  · subst h0
    have hl := Sl.list w1 [-1, m + 1, 1099511627776, -4611686018427387904] (by intro x hx; simp only [List.mem_cons, List.not_mem_nil, or_false] at hx; unfold inR; rcases hx with rfl | rfl | rfl | rfl <;> omega) (by simp [maxLen])
    have hlt := hs1.lt
    have hs2 := hs1.keep ((Below.refl w1.heap.size w1).alloc (Nat.le_refl _) (.cells ([-1, m + 1, 1099511627776, -4611686018427387904].map (Value.int .i64)).toArray 2))
    have hb2 := hb1.below ((Below.refl w1.heap.size w1).alloc (Nat.le_refl _) (.cells ([-1, m + 1, 1099511627776, -4611686018427387904].map (Value.int .i64)).toArray 2))
    simp only [List.map_cons, List.map_nil, List.length_cons, List.length_nil] at hl hs2 hb2
    go_wp2_with fail
    refine (l01Pick_any b B p n q _ hs2 hb2 hB hl (.inr (by omega)) (by omega) (by omega)).mono ?_
    rintro e w2 ⟨i, hi, rfl, hs3, hf3⟩
    have hr : inR ([-1, m + 1, 1099511627776, -4611686018427387904].getD i 0) := hl.bd i hi
    generalize [-1, m + 1, 1099511627776, -4611686018427387904].getD i 0 = x at *
    go_wp2
    go_ret
    exact ⟨_, rfl, hr, hs3, hb2.frame hf3 hB, hf1.trans (((Frame.refl b (b + 1) w1).alloc _).trans hf3)⟩
  · have h0' : (r == 0) = false := by simpa using h0
    go_wp2_with fail
    refine (l01Next_any b B p n q (m + 1) w1 hs1 hb1 hB (by omega) (by omega)).mono ?_
    rintro e w2 ⟨r2, rfl, hr3, hr4, hs2, hf2⟩
    go_wp2
    go_ret
    exact ⟨r2, rfl, by unfold inR; omega, hs2, hb1.frame hf2 hB, hf1.trans hf2⟩
set_option maxRecDepth 100000 in
theorem l01DrawOrder_any (w : World) (hs : Src w b p n q) (hb : Bytes w B p n) (hB : B ≤ b) :
    Calls Try.prog 206 #[.pointer (some ⟨b, 0, none⟩)] w fun e w' => ∃ k : Nat, e = .returned (.int .i64 (k : Int)) ∧ 1 ≤ k ∧ k ≤ 16 ∧ Src w' b p n q ∧ Bytes w' B p n ∧ Frame b (b + 1) w w' := by
  go_enter Try.func206, Try.ntmps206
  go_wp2_with fail
  refine (l01Next_any b B p n q 16 w hs hb hB (by omega) (by omega)).mono ?_
  rintro e w1 ⟨r, rfl, hr1, hr2, hs1, hf1⟩
  have hb1 := hb.frame hf1 hB
  clear hs hb
  have hl := Sl.list w1 [1, 2, 3, 3, 4, 4, 5, 5, 6, 7, 8, 9, 10, 12, 1 + r] (by intro x hx; simp only [List.mem_cons, List.not_mem_nil, or_false] at hx; unfold inR; rcases hx with rfl | rfl | rfl | rfl | rfl | rfl | rfl | rfl | rfl | rfl | rfl | rfl | rfl | rfl | rfl <;> omega) (by simp [maxLen])
  have hall : ∀ x ∈ [1, 2, 3, 3, 4, 4, 5, 5, 6, 7, 8, 9, 10, 12, 1 + r], 1 ≤ x ∧ x ≤ 16 := by intro x hx; simp only [List.mem_cons, List.not_mem_nil, or_false] at hx; rcases hx with rfl | rfl | rfl | rfl | rfl | rfl | rfl | rfl | rfl | rfl | rfl | rfl | rfl | rfl | rfl <;> omega
  have hlt := hs1.lt
  have hs2 := hs1.keep ((Below.refl w1.heap.size w1).alloc (Nat.le_refl _) (.cells ([1, 2, 3, 3, 4, 4, 5, 5, 6, 7, 8, 9, 10, 12, 1 + r].map (Value.int .i64)).toArray 2))
  have hb2 := hb1.below ((Below.refl w1.heap.size w1).alloc (Nat.le_refl _) (.cells ([1, 2, 3, 3, 4, 4, 5, 5, 6, 7, 8, 9, 10, 12, 1 + r].map (Value.int .i64)).toArray 2))
  simp only [List.map_cons, List.map_nil, List.length_cons, List.length_nil] at hl hs2 hb2
  have HALL := Lib.hid hall
  clear hall
  go_wp2_with fail
  refine (l01Pick_any b B p n q _ hs2 hb2 hB hl (.inr (by omega)) (by omega) (by omega)).mono ?_
  rintro e w2 ⟨i, hi, rfl, hs3, hf3⟩
  have hmem : 1 ≤ [1, 2, 3, 3, 4, 4, 5, 5, 6, 7, 8, 9, 10, 12, 1 + r].getD i 0 ∧ [1, 2, 3, 3, 4, 4, 5, 5, 6, 7, 8, 9, 10, 12, 1 + r].getD i 0 ≤ 16 := by
    rw [List.getD_eq_getElem?_getD, List.getElem?_eq_getElem (by simpa using hi)]
    exact HALL.out _ (List.getElem_mem _)
  generalize [1, 2, 3, 3, 4, 4, 5, 5, 6, 7, 8, 9, 10, 12, 1 + r].getD i 0 = x at *
  obtain ⟨k, rfl⟩ := Int.eq_ofNat_of_zero_le (show 0 ≤ x by omega)
  go_wp2
  go_ret
  exact ⟨k, rfl, by omega, by omega, hs3, hb2.frame hf3 hB, hf1.trans (((Frame.refl b (b + 1) w1).alloc _).trans hf3)⟩
set_option maxRecDepth 100000 in
theorem l01DrawPart_any (m : Int) (w : World) (hs : Src w b p n q) (hb : Bytes w B p n) (hB : B ≤ b) (hm : 0 ≤ m) (hm2 : m ≤ 1000000000) :
    Calls Try.prog 170 #[.pointer (some ⟨b, 0, none⟩), .int .i64 m] w fun e w' => ∃ r, e = .returned (.int .i64 r) ∧ -m ≤ r ∧ r ≤ m ∧ Src w' b p n q ∧ Bytes w' B p n ∧ Frame b (b + 1) w w' := by
  go_enter Try.func170, Try.ntmps170
  go_wp2_with fail
  refine (l01Next_any b B p n q (2 * m + 1) w hs hb hB (by omega) (by omega)).mono ?_
  rintro e w1 ⟨r, rfl, hr1, hr2, hs1, hf1⟩
  have hb1 := hb.frame hf1 hB
  go_wp2
  go_ret
  exact ⟨r - m, rfl, by omega, by omega, hs1, hb1, hf1⟩
end
end

section
open Go.RowKit Go.ChangeShapes Go.Sort
set_option linter.unusedVariables false
set_option linter.unusedSimpArgs false
theorem Src.keepF {w w' : World} {b lo hi : Nat} {p : Option Addr} {n q : Nat} (h : Src w b p n q) (hf : Frame lo hi w w') (hd : b < lo ∨ hi ≤ b) : Src w' b p n q := by
  obtain ⟨a, x, h1, h2, h3, h4⟩ := h
  exact ⟨a, x, h1, h2, h3, h4.keepF hf hd⟩
theorem Bytes.frameG {w w' : World} {B lo hi : Nat} {p : Option Addr} {n : Nat} (h : Bytes w B p n) (hf : Frame lo hi w w') (hB : B ≤ lo) : Bytes w' B p n :=
  ⟨h.1, fun j hj => by
    obtain ⟨g, off, c, e, h1, h2, h3, h4⟩ := h.2 j hj
    exact ⟨g, off, c, e, h1, Nat.lt_of_lt_of_le h2 hf.size, (hf.cell (p := ⟨g, off + j, none⟩) h2 (.inl (by show g < lo; omega))).trans h3, h4⟩⟩
section
variable {b B : Nat} {p : Option Addr} {n q : Nat}
set_option maxRecDepth 100000 in
set_option maxHeartbeats 2000000 in
theorem l01DrawOf_any (N : Nat) (m : Int) (w : World) (hs : Src w b p n q) (hb : Bytes w B p n) (hB : B ≤ b) (hN1 : 1 ≤ N) (hN2 : N ≤ 16) (hm : 0 ≤ m) (hm2 : m ≤ 1000000000) :
    Calls Try.prog 204 #[.pointer (some ⟨b, 0, none⟩), .int .i64 (N : Int), .int .i64 m] w fun e w' => ∃ a cap f, e = .returned (.agg #[.int .i64 (N : Int), .slice a (phiN N) cap]) ∧ Sl true w' w.heap.size w'.heap.size (.slice a (phiN N) cap) (phiN N) f ∧ Within f (phiN N) 1000000000 ∧ Src w' b p n q ∧ Bytes w' B p n ∧ Frame b (b + 1) w w' := by
  have hbz := hs.lt
  have hp := phi_le12 N hN2 hN1
  have hp1 := phiN_pos N (by omega) hN1
  have ba := (Below.refl w.heap.size w).alloc (Nat.le_refl _) (.cells #[.int .i64 0, .slice none 0 0] 26)
  have hs0 := hs.keep ba
  have hb0 := hb.below ba
  have bx0 := Box.made2 (w := w) (b := w.heap.size) (v0 := .int .i64 0) (v1 := .slice none 0 0) (t := 26) rfl
  have f0 := (Frame.refl b (b + 1) w).alloc (.cells #[.int .i64 0, .slice none 0 0] 26)
  clear hs hb ba
  go_enter Try.func204, Try.ntmps204
  go_wp2_with fail
  refine (l01Zero_any N (by omega) _).mono ?_
  rintro e w1 ⟨a1, k1, rfl, s1, b1⟩
  have hz1 := b1.size
  simp only [World.size_alloc] at hz1 s1
  have bb := (Below.refl w1.heap.size w1).alloc (Nat.le_refl _) (.cells #[.int .i64 (N : Int), .slice a1 (phiN N) k1] 26)
  have HS := Lib.hid ((hs0.keep b1).keep bb)
  have HB := Lib.hid ((hb0.below b1).below bb)
  have HX0 := Lib.hid ((bx0.keep b1).keep bb)
  have HX1 := Lib.hid (Box.made2 (w := w1) (b := w1.heap.size) (v0 := .int .i64 (N : Int)) (v1 := .slice a1 (phiN N) k1) (t := 26) rfl)
  have HL := Lib.hid (s1.alloc (.cells #[.int .i64 (N : Int), .slice a1 (phiN N) k1] 26))
  have HF := Lib.hid ((f0.trans (Frame.of_below (lo := b) (hi := b + 1) b1 (Nat.le_refl _))).trans (Frame.of_below (lo := b) (hi := b + 1) bb (Nat.le_refl _)))
  clear hs0 hb0 bx0 f0 b1 s1 bb
  go_wp2
  go_loopw [8] (fun s8 wr => ∃ (k : Nat) (f : Nat → Int), k ≤ phiN N ∧ s8 = .int .i64 k ∧ Sl true wr (w.heap.size + 1) w1.heap.size (.slice a1 (phiN N) k1) (phiN N) f ∧ Within f (phiN N) 1000000000 ∧ Box wr w.heap.size [.int .i64 0, .slice none 0 0] ∧ Box wr w1.heap.size [.int .i64 (N : Int), .slice a1 (phiN N) k1] ∧ Src wr b p n q ∧ Bytes wr B p n ∧ Frame b (b + 1) w wr) (fun s8 _ => phiN N - (intOf s8).toNat)
  case atStart => exact ⟨0, fun _ => 0, Nat.zero_le _, rfl, HL.out, fun _ _ => by dsimp only; omega, HX0.out, HX1.out, HS.out, HB.out, HF.out⟩
  case round =>
    clear HS HB HX0 HX1 HL HF
    obtain ⟨k, f, hk, rfl, hl, hw, hx0, hx1, hs, hb, hf⟩ := hrel
    obtain ⟨c0, c1⟩ := hx1.cell2
    have HL := Lib.hid hl
    have HW := Lib.hid hw
    have HX0 := Lib.hid hx0
    have HX1 := Lib.hid hx1
    have HS := Lib.hid hs
    have HB := Lib.hid hb
    have HF := Lib.hid hf
    have hzr := hx1.1
    clear hl hw hx0 hx1 hs hb hf
    by_cases hlt : k < phiN N
    · have hkI : (k : Int) < (phiN N : Int) := by omega
      obtain ⟨g, off, c9, hv, _⟩ := HL.out.at (by omega)
      obtain ⟨rfl, rfl⟩ : a1 = some ⟨g, off, none⟩ ∧ k1 = c9 := by cases hv; exact ⟨rfl, rfl⟩
      clear hv
      obtain ⟨hgl, hgh, _, _, _⟩ := HL.out.known (by omega)
      have hlr := Sl.list wr [0, 1, 1] (by intro x hx; simp only [List.mem_cons, List.not_mem_nil, or_false] at hx; unfold inR; rcases hx with rfl | rfl | rfl <;> omega) (by simp [maxLen])
      simp only [List.map_cons, List.map_nil, List.length_cons, List.length_nil] at hlr
      have HLR := Lib.hid hlr
      clear hlr
      go_wp2_with fail
      go_region_held3 (fun w' => w'.cell? ⟨w1.heap.size, 1, none⟩ = some (.slice (some ⟨g, off, none⟩) (phiN N) k1))
        (first | exact c1 | exact d7 | exact d6 | exact cell_later ((Below.refl _ _).alloc (Nat.le_refl _) _) d6 | exact cell_later (((Below.refl _ _).alloc (Nat.le_refl _) _).drew) c1 | exact cell_later ((Below.refl _ _).alloc (Nat.le_refl _) _) c1 | exact cell_set1 d7 (by omega) | go_keep)
        (first
          | (go_at_call 170; refine (l01DrawPart_any m _ (by first | exact HS.out.keep (Below.refl _ _).drew | exact HS.out.keep (((Below.refl _ _).alloc (Nat.le_refl _) _).drew)) (by first | exact HB.out.below (Below.refl _ _).drew | exact HB.out.below (((Below.refl _ _).alloc (Nat.le_refl _) _).drew)) hB hm hm2).mono ?_; rintro e w6 ⟨r6, rfl, hr61, hr62, hs6, hb6, f6⟩
             have hz6 := f6.size
             try simp only [World.size_drew, World.size_alloc] at hz6
             have d6 : w6.cell? ⟨w1.heap.size, 1, none⟩ = some (.slice (some ⟨g, off, none⟩) (phiN N) k1) := (f6.cell (p := ⟨w1.heap.size, 1, none⟩) (by show w1.heap.size < _; (try simp only [World.size_drew, World.size_alloc]); omega) (.inr (by show b + 1 ≤ w1.heap.size; omega))).trans (by first | exact c1 | exact cell_later (((Below.refl _ _).alloc (Nat.le_refl _) _).drew) c1))
          | (go_at_call 161; refine (l01Pick_any b B p n q _ (by first | exact hs6 | exact hs6.keep ((Below.refl _ _).alloc (Nat.le_refl _) _)) (by first | exact hb6 | exact hb6.below ((Below.refl _ _).alloc (Nat.le_refl _) _)) hB (f := fun j => [0, 1, 1].getD j 0) (by first | exact (HLR.out.drew).keepF f6 (.inr (by omega)) | exact Sl.list w6 [0, 1, 1] (by intro x hx; simp only [List.mem_cons, List.not_mem_nil, or_false] at hx; unfold inR; rcases hx with rfl | rfl | rfl <;> omega) (by simp [maxLen])) (k := 3) (.inr (by omega)) (by omega) (by omega)).mono ?_; rintro e w7 ⟨i7, hi7, rfl, hs7, f7⟩
             have hz7 := f7.size
             try simp only [World.size_drew, World.size_alloc] at hz7
             have d7 : w7.cell? ⟨w1.heap.size, 1, none⟩ = some (.slice (some ⟨g, off, none⟩) (phiN N) k1) := (f7.cell (p := ⟨w1.heap.size, 1, none⟩) (by show w1.heap.size < _; (try simp only [World.size_drew, World.size_alloc]); omega) (.inr (by show b + 1 ≤ w1.heap.size; omega))).trans (by first | exact d6 | exact cell_later ((Below.refl _ _).alloc (Nat.le_refl _) _) d6)
             have FT : Frame b (b + 1) wr w7 := by first | exact ((((Frame.refl b (b + 1) wr).alloc _).drew).trans f6).trans f7 | exact ((((Frame.refl b (b + 1) wr).drew).trans f6).trans ((Frame.refl b (b + 1) w6).alloc _)).trans f7
             have hl7 := HL.out.keepF FT (.inr (by omega))
             obtain ⟨_, _, _, hc7, hzz7⟩ := hl7.known (by omega)
             have hck7 := hc7 k hlt
             have hfr7 := hzz7 rfl (off + k)
             have hx7 : [0, 1, 1].getD i7 0 = (0 : Int) ∨ [0, 1, 1].getD i7 0 = (1 : Int) := by rcases i7 with _ | _ | _ | i7 <;> simp
             generalize ([0, 1, 1] : List Int).getD i7 0 = x7 at *
             have hpr : -1000000000 ≤ r6 * x7 ∧ r6 * x7 ≤ 1000000000 := by rcases hx7 with rfl | rfl <;> omega
             have hwp : IntKind.i64.wrap (r6 * x7) = r6 * x7 := IntWalk.i64_in _ (by omega)
             have HL7 := Lib.hid hl7
             clear hc7 hzz7 hl7 hx7))
      all_goals
        have FS : Frame (w.heap.size + 1) w1.heap.size w7 (w7.setCell ⟨g, off + k, none⟩ (.int .i64 (r6 * x7))) := (Frame.refl _ _ w7).setCell (lo := w.heap.size + 1) (hi := w1.heap.size) hgl hgh _
        go_wp2
        go_roundw
        case rel =>
          refine ⟨k + 1, fun j => if j = k then r6 * x7 else f j, by omega, by go_num, ?_, ?_, ?_, ?_, ?_, ?_, ?_⟩
          · exact ((HL7.out.store (i := k) (by omega) (by unfold inR; omega)).drewN 0).congr (fun j hj => by by_cases e : j = k <;> simp [e])
          · intro j hj
            dsimp only
            by_cases e : j = k
            · rw [if_pos e]; exact hpr
            · rw [if_neg e]; exact HW.out j hj
          · exact (HX0.out.keepF FT (.inr (by omega))).keepF FS (.inl (by omega))
          · exact (HX1.out.keepF FT (.inr (by omega))).keepF FS (.inr (Nat.le_refl _))
          · exact hs7.keepF FS (.inl (by omega))
          · exact (HB.out.frame FT hB).frameG FS (by omega)
          · exact (HF.out.trans FT).setNew (by show w.heap.size ≤ g; omega) _
        case measure => simp [intOf] <;> omega
    · obtain rfl : k = phiN N := by omega
      obtain ⟨d0, d1⟩ := HX0.out.cell2
      have FS : Frame w.heap.size (w.heap.size + 1) wr ((wr.setCell ⟨w.heap.size, 0, none⟩ (.int .i64 (N : Int))).setCell ⟨w.heap.size, 1, none⟩ (.slice a1 (phiN N) k1)) := ((Frame.refl w.heap.size (w.heap.size + 1) wr).setCell (Nat.le_refl _) (Nat.lt_succ_self _) _).setCell (Nat.le_refl _) (Nat.lt_succ_self _) _
      have dz := HX0.out.2.2
      go_wp2
      refine bodyPost_ret (v := .agg #[.int .i64 (N : Int), .slice a1 (phiN N) k1]) (by simp [results, Try.results204, go_sem, d0, d1]) rfl ?_
      refine ⟨_, _, f, rfl, ?_, HW.out, ?_, ?_, ?_⟩
      · exact ((HL.out.setOther (.inl (by show w.heap.size < _; omega)) _).setOther (.inl (by show w.heap.size < _; omega)) _).wide (by omega) (by simp; omega) (Nat.le_refl _)
      · exact HS.out.keepF FS (.inl (by omega))
      · exact HB.out.frameG FS (by omega)
      · exact (HF.out.setNew (Nat.le_refl _) _).setNew (Nat.le_refl _) _
end
end

section
open Go.RowKit Go.ChangeShapes Go.Sort
set_option linter.unusedVariables false
set_option linter.unusedSimpArgs false
section
variable {b B : Nat} {p : Option Addr} {n q : Nat}
set_option maxRecDepth 100000 in
set_option maxHeartbeats 2000000 in
theorem l01Draw_any (w : World) (hs : Src w b p n q) (hb : Bytes w B p n) (hB : B ≤ b) :
    Calls Try.prog 236 #[.pointer (some ⟨b, 0, none⟩)] w fun e w' => ∃ (N : Nat) (a : Option Addr) (cap : Nat) (f : Nat → Int), 1 ≤ N ∧ N ≤ 16 ∧ e = .returned (.agg #[.int .i64 (N : Int), .slice a (phiN N) cap]) ∧ Sl true w' w.heap.size w'.heap.size (.slice a (phiN N) cap) (phiN N) f ∧ Within f (phiN N) 1000000000 ∧ Src w' b p n q ∧ Bytes w' B p n ∧ Frame b (b + 1) w w' := by
  have hbz := hs.lt
  have ba := (Below.refl w.heap.size w).alloc (Nat.le_refl _) (.cells #[.int .i64 0, .slice none 0 0] 26)
  have hs0 := hs.keep ba
  have hb0 := hb.below ba
  have bx0 := Box.made2 (w := w) (b := w.heap.size) (v0 := .int .i64 0) (v1 := .slice none 0 0) (t := 26) rfl
  have f0 := (Frame.refl b (b + 1) w).alloc (.cells #[.int .i64 0, .slice none 0 0] 26)
  clear hs hb ba
  go_enter Try.func236, Try.ntmps236
  go_wp2_with fail
  refine (l01DrawOrder_any _ hs0 hb0 hB).mono ?_
  rintro e w1 ⟨N, rfl, hN1, hN2, hs1, hb1, f1⟩
  have hz1 := f1.size
  simp only [World.size_alloc] at hz1
  have bx1 := bx0.keepF f1 (.inr (by omega))
  have F1 := f0.trans f1
  clear hs0 hb0 bx0 f0 f1
  have hl := Sl.list w1 [1, 2, 3, 9, 1000, 400000000] (by intro x hx; simp only [List.mem_cons, List.not_mem_nil, or_false] at hx; unfold inR; rcases hx with rfl | rfl | rfl | rfl | rfl | rfl <;> omega) (by simp [maxLen])
  have hall : ∀ x ∈ [1, 2, 3, 9, 1000, (400000000 : Int)], 0 ≤ x ∧ x ≤ 1000000000 := by intro x hx; simp only [List.mem_cons, List.not_mem_nil, or_false] at hx; rcases hx with rfl | rfl | rfl | rfl | rfl | rfl <;> omega
  have ba := (Below.refl w1.heap.size w1).alloc (Nat.le_refl _) (.cells ([1, 2, 3, 9, 1000, 400000000].map (Value.int .i64)).toArray 2)
  have hs2 := hs1.keep ba
  have hb2 := hb1.below ba
  have bx2 := bx1.keep ba
  have F2 := F1.alloc (.cells ([1, 2, 3, 9, 1000, 400000000].map (Value.int .i64)).toArray 2)
  simp only [List.map_cons, List.map_nil, List.length_cons, List.length_nil] at hl hs2 hb2 bx2 F2
  have HALL := Lib.hid hall
  clear hall hs1 hb1 bx1 F1 ba
  go_wp2_with fail
  refine (l01Pick_any b B p n q _ hs2 hb2 hB hl (.inr (by omega)) (by omega) (by omega)).mono ?_
  rintro e w2 ⟨i, hi, rfl, hs3, f3⟩
  have hmem : 0 ≤ ([1, 2, 3, 9, 1000, 400000000] : List Int).getD i 0 ∧ ([1, 2, 3, 9, 1000, 400000000] : List Int).getD i 0 ≤ 1000000000 := by
    rw [List.getD_eq_getElem?_getD, List.getElem?_eq_getElem (by simpa using hi)]
    exact HALL.out _ (List.getElem_mem _)
  generalize ([1, 2, 3, 9, 1000, 400000000] : List Int).getD i 0 = x at *
  have hz3 := f3.size
  simp only [World.size_alloc] at hz3
  have hb3 := hb2.frame f3 hB
  have bx3 := bx2.keepF f3 (.inr (by omega))
  have F3 := F2.trans f3
  clear hb2 bx2 F2 f3 hs2 hl
  go_wp2_with fail
  refine (l01DrawOf_any N x _ hs3 hb3 hB hN1 hN2 hmem.1 hmem.2).mono ?_
  rintro e w4 ⟨a4, k4, f, rfl, s4, hw4, hs4, hb4, f4⟩
  have hz4 := f4.size
  have bx4 := bx3.keepF f4 (.inr (by omega))
  have F4 := F3.trans f4
  have S4 := Lib.hid s4
  have HS4 := Lib.hid hs4
  have HB4 := Lib.hid hb4
  have hw := Lib.hid hw4
  clear hs3 hb3 bx3 F3 f4 s4 hs4 hb4 hw4
  obtain ⟨d0, d1⟩ := bx4.cell2
  have dz := bx4.2.2
  have hbx := bx4.1
  clear bx4
  have FS : Frame w.heap.size (w.heap.size + 1) w4 ((w4.setCell ⟨w.heap.size, 0, none⟩ (.int .i64 (N : Int))).setCell ⟨w.heap.size, 1, none⟩ (.slice a4 (phiN N) k4)) := ((Frame.refl w.heap.size (w.heap.size + 1) w4).setCell (Nat.le_refl _) (Nat.lt_succ_self _) _).setCell (Nat.le_refl _) (Nat.lt_succ_self _) _
  go_wp2
  refine bodyPost_ret (v := .agg #[.int .i64 (N : Int), .slice a4 (phiN N) k4]) (by simp [results, Try.results236, go_sem, d0, d1]) rfl ?_
  refine ⟨N, _, _, f, hN1, hN2, rfl, ?_, hw.out, ?_, ?_, ?_⟩
  · exact ((S4.out.setOther (.inl (by show w.heap.size < _; omega)) _).setOther (.inl (by show w.heap.size < _; omega)) _).wide (by omega) (by simp) (Nat.le_refl _)
  · exact HS4.out.keepF FS (.inl (by omega))
  · exact HB4.out.frameG FS (by omega)
  · exact (F4.setNew (Nat.le_refl _) _).setNew (Nat.le_refl _) _
end
end

section
open Go.RowKit Go.ChangeShapes Go.Sort
set_option linter.unusedVariables false
set_option linter.unusedSimpArgs false

/-- The source lies in the block b, its bytes below B; boxes and slices lie apart from it. -/
def Ds (b B : Nat) (p : Option Addr) (n q : Nat) (W w : World) (bs : List (Nat × List Value)) (ss : List SlF) : Prop :=
  Frame b (b + 1) W w ∧ Src w b p n q ∧ Bytes w B p n ∧ (B ≤ b ∧ B ≤ W.heap.size) ∧ (∀ x ∈ bs, Box w x.1 x.2 ∧ x.1 ≠ b) ∧ (∀ s ∈ ss, Sl s.o w s.lo s.hi s.v s.n s.f ∧ (s.hi ≤ b ∨ b + 1 ≤ s.lo))
theorem Frame.set {lo hi g o : Nat} {a w : World} (h : Frame lo hi a w) (hl : lo ≤ g) (hh : g < hi) (u : Value) : Frame lo hi a (w.setCell ⟨g, o, none⟩ u) := h.setCell (p := ⟨g, o, none⟩) hl hh u
section
variable {b B : Nat} {p : Option Addr} {n q : Nat} {W w w' : World} {bs : List (Nat × List Value)} {ss : List SlF}
theorem Ds.start (hs : Src W b p n q) (hb : Bytes W B p n) (hB : B ≤ b) : Ds b B p n q W W [] [] :=
  ⟨Frame.refl _ _ _, hs, hb, ⟨hB, Nat.le_of_lt (Nat.lt_of_le_of_lt hB hs.lt)⟩, (fun _ h => absurd h List.not_mem_nil), (fun _ h => absurd h List.not_mem_nil)⟩
theorem Ds.src (h : Ds b B p n q W w bs ss) : Src w b p n q := h.2.1
theorem Ds.bytes (h : Ds b B p n q W w bs ss) : Bytes w B p n := h.2.2.1
theorem Ds.low (h : Ds b B p n q W w bs ss) : B ≤ b := h.2.2.2.1.1
theorem Ds.at (hB : B ≤ W.heap.size) (h0 : Below W.heap.size W w) (hs : Src w b p n q) (hb : Bytes w B p n) (hBb : B ≤ b) : Ds b B p n q W w [] [] :=
  ⟨Frame.of_below h0 (Nat.le_refl _), hs, hb, ⟨hBb, hB⟩, (fun _ h => absurd h List.not_mem_nil), (fun _ h => absurd h List.not_mem_nil)⟩
theorem Ds.below (h : Ds b B p n q W w bs ss) (hb : W.heap.size ≤ b) : Below W.heap.size W w := h.1.below hb (Nat.le_refl _)
theorem Ds.lt (h : Ds b B p n q W w bs ss) : b < w.heap.size := h.2.1.lt
theorem Ds.frame (h : Ds b B p n q W w bs ss) : Frame b (b + 1) W w := h.1
theorem Ds.size (h : Ds b B p n q W w bs ss) : W.heap.size ≤ w.heap.size := h.1.size
theorem Ds.box (h : Ds b B p n q W w bs ss) (i : Nat) (x : Nat × List Value) (hi : bs[i]? = some x) : Box w x.1 x.2 := (h.2.2.2.2.1 x (List.mem_of_getElem? hi)).1
theorem Ds.sl (h : Ds b B p n q W w bs ss) (i : Nat) (s : SlF) (hi : ss[i]? = some s) : Sl s.o w s.lo s.hi s.v s.n s.f := (h.2.2.2.2.2 s (List.mem_of_getElem? hi)).1
theorem Ds.apart (h : Ds b B p n q W w bs ss) (i : Nat) (s : SlF) (hi : ss[i]? = some s) : s.hi ≤ b ∨ b + 1 ≤ s.lo := (h.2.2.2.2.2 s (List.mem_of_getElem? hi)).2
theorem Ds.keep (h : Ds b B p n q W w bs ss) (hb : Below w.heap.size w w') : Ds b B p n q W w' bs ss :=
  ⟨h.1.trans (Frame.of_below hb (Nat.le_refl _)), h.2.1.keep hb, h.2.2.1.below hb, h.2.2.2.1, fun x hx => ⟨(h.2.2.2.2.1 x hx).1.keep hb, (h.2.2.2.2.1 x hx).2⟩, fun s hs => ⟨(h.2.2.2.2.2 s hs).1.keep hb (h.2.2.2.2.2 s hs).1.size, (h.2.2.2.2.2 s hs).2⟩⟩
/-- A number has been drawn. -/
theorem Ds.draw (h : Ds b B p n q W w bs ss) (hs : Src w' b p n q) (hf : Frame b (b + 1) w w') : Ds b B p n q W w' bs ss :=
  ⟨h.1.trans hf, hs, h.2.2.1.frame hf h.low, h.2.2.2.1, fun x hx => ⟨(h.2.2.2.2.1 x hx).1.keepF hf (by have := (h.2.2.2.2.1 x hx).2; omega), (h.2.2.2.2.1 x hx).2⟩, fun s hs => ⟨(h.2.2.2.2.2 s hs).1.keepF hf (h.2.2.2.2.2 s hs).2, (h.2.2.2.2.2 s hs).2⟩⟩
theorem Ds.alloc (h : Ds b B p n q W w bs ss) (o : Obj) : Ds b B p n q W (w.alloc o) bs ss := h.keep ((Below.refl _ _).alloc (Nat.le_refl _) _)
theorem Ds.drew (h : Ds b B p n q W w bs ss) : Ds b B p n q W w.drew bs ss := h.keep (Below.refl _ _).drew
theorem Ds.addSl (h : Ds b B p n q W w bs ss) (s : SlF) (hs : Sl s.o w s.lo s.hi s.v s.n s.f) (ha : s.hi ≤ b ∨ b + 1 ≤ s.lo) : Ds b B p n q W w bs (s :: ss) :=
  ⟨h.1, h.2.1, h.2.2.1, h.2.2.2.1, h.2.2.2.2.1, fun x hx => by
    rcases List.mem_cons.1 hx with rfl | hx
    · exact ⟨hs, ha⟩
    · exact h.2.2.2.2.2 x hx⟩
theorem Ds.addBox (h : Ds b B p n q W w bs ss) (c : Nat) (vs : List Value) (hb : Box w c vs) (hc : c ≠ b) : Ds b B p n q W w ((c, vs) :: bs) ss :=
  ⟨h.1, h.2.1, h.2.2.1, h.2.2.2.1, fun x hx => by
    rcases List.mem_cons.1 hx with rfl | hx
    · exact ⟨hb, hc⟩
    · exact h.2.2.2.2.1 x hx, h.2.2.2.2.2⟩
/-- A new box. -/
theorem Ds.newBox (h : Ds b B p n q W w bs ss) (vs : List Value) (t : TypeId) : Ds b B p n q W (w.alloc (.cells vs.toArray t)) ((w.heap.size, vs) :: bs) ss :=
  (h.alloc _).addBox _ _ (Box.made _ _ _ _ (fun j v h => by simpa using h)) (by have := h.lt; omega)
/-- Cells of a block of the call's own are written. -/
theorem Ds.write (h : Ds b B p n q W w bs ss) {lo hi : Nat} (hf : Frame lo hi w w') (hlo : W.heap.size ≤ lo) (hbl : b < lo ∨ hi ≤ b) (bs' : List (Nat × List Value)) (ss' : List SlF) (hbs : ∀ x ∈ bs', x ∈ bs ∧ (x.1 < lo ∨ hi ≤ x.1)) (hss : ∀ s ∈ ss', s ∈ ss ∧ (s.hi ≤ lo ∨ hi ≤ s.lo)) : Ds b B p n q W w' bs' ss' :=
  ⟨⟨hf.os.trans h.1.os, hf.tape.trans h.1.tape, hf.output.trans h.1.output, Nat.le_trans h.1.size hf.size, fun k hk hd => (hf.block k (Nat.lt_of_lt_of_le hk h.1.size) (.inl (by omega))).trans (h.1.block k hk hd)⟩, h.2.1.keepF hf hbl, h.2.2.1.frameG hf (by have := h.2.2.2.1.2; omega), h.2.2.2.1, fun x hx => ⟨(h.2.2.2.2.1 x (hbs x hx).1).1.keepF hf (hbs x hx).2, (h.2.2.2.2.1 x (hbs x hx).1).2⟩, fun s hs => ⟨(h.2.2.2.2.2 s (hss s hs).1).1.keepF hf (hss s hs).2, (h.2.2.2.2.2 s (hss s hs).1).2⟩⟩
end
end

section
open Go.RowKit Go.ChangeShapes Go.Sort
set_option linter.unusedVariables false
set_option linter.unusedSimpArgs false
set_option maxHeartbeats 400000 in
/-- A copy of a list that is not empty, as a list that grows. -/
theorem l01Own_row {o : Bool} {lo hi n : Nat} {v : Value} {f : Nat → Int} (w : World) (hs : Sl o w lo hi v n f) (h0 : 0 < n) (hn : n ≤ 1048576) :
    Calls Try.prog 220 #[v] w fun e w' => ∃ g' cap', e = .returned (.slice (some ⟨g', 0, none⟩) n cap') ∧ Row w' w.heap.size g' cap' n f ∧ Below w.heap.size w w' := by
  have hbd := hs.bd
  obtain ⟨i0, hi, hz0, hz1, hz2⟩ := info_parts Try.info2
  have hrow := World.ownsRow_made (e := 2) (size := 1) (base := w.heap.size) w #[] 0 (Nat.le_refl _) (Nat.zero_le _) rfl
  rcases hs.parts with ⟨rfl, rfl⟩ | ⟨ad, cap, rfl, hcell⟩
  · exact absurd h0 (Nat.lt_irrefl _)
  · have hm := hs.len
    have HS := Lib.hid hs; clear hs
    have HC := Lib.hid (fun j u hu => cell_later ((Below.refl w.heap.size w).alloc (Nat.le_refl _) (.cells #[] 2)) (hcell j u hu)); clear hcell
    have HB := Lib.hid hbd; clear hbd
    have HR := Lib.hid hrow; clear hrow
    go_enter Try.func220, Try.ntmps220
    go_wp2_with (at_builtin; refine wpList_append_own _ rfl (.tmp 3) (.tmp 4) 24 rfl w.heap.size 2 i0 (.int .i64 0) 1 8 Try.underlying24 hi hz0 hz1 hz2 rfl (by decide) _ 0 [] rfl HR.out ad n cap ((List.range n).map (fun j => Value.int .i64 (f j))) rfl (by simp) HC.out (fun x hx => by obtain ⟨j, _, rfl⟩ := List.mem_map.1 hx; rfl) (by omega) (by omega) (by simp) ?_; intro v' w1 hown hgrow _)
    go_ret
    simp only [Nat.zero_add, List.nil_append] at hown
    obtain ⟨g1, cap1, rfl, _, _⟩ := hown.form h0
    exact ⟨g1, cap1, rfl, hown, ((Below.refl _ _).alloc (Nat.le_refl _) _).grown hgrow (by simp) (fun k hk => by cases hk; exact Nat.le_refl _)⟩
/-- A number has been drawn, or something that is none: its Parts lie from the block lo on. -/
def DrC (b : Nat) (p : Option Addr) (n q lo M : Nat) (w : World) (e : Ending) (w' : World) : Prop :=
  ∃ (x : Int) (L : Nat) (a : Option Addr) (cap : Nat) (f : Nat → Int) (lo' hi' : Nat), e = .returned (.agg #[.int .i64 x, .slice a L cap]) ∧ inR x ∧ 0 < L ∧ L ≤ M ∧ Sl false w' lo' hi' (.slice a L cap) L f ∧ lo ≤ lo' ∧ Src w' b p n q ∧ Frame b (b + 1) w w'
theorem Row.sl {w : World} {base g cap n : Nat} {f : Nat → Int} (h : Row w base g cap n f) (hr : ∀ j, j < n → inR (f j)) (hm : n ≤ maxLen) : Sl true w base w.heap.size (.slice (some ⟨g, 0, none⟩) n cap) n f :=
  Sl.ofRowF h hr hm
section
variable {b B : Nat} {p : Option Addr} {n q : Nat} {o : Bool} {lo hi L : Nat} {v : Value} {f : Nat → Int}
set_option maxRecDepth 100000 in
set_option maxHeartbeats 4000000 in
theorem l01Bad_any (x : Int) (w : World) (hs : Src w b p n q) (hb : Bytes w B p n) (hB : B ≤ b) (hx : inR x) (hl : Sl o w lo hi v L f) (hlo : b + 1 ≤ lo) (hL0 : 0 < L) (hL : L ≤ 1000) :
    Calls Try.prog 203 #[.pointer (some ⟨b, 0, none⟩), .agg #[.int .i64 x, v]] w (DrC b p n q lo (L + 1) w) := by
  obtain ⟨av, cv, rfl⟩ := hl.shape
  have hlh : lo < hi := by obtain ⟨g, off, cap, _, h1, h2, _⟩ := hl.at hL0; omega
  have hbz := hs.lt
  have hlz := hl.size
  have st0 := (((Ds.start hs hb hB).addSl ⟨o, lo, hi, .slice av L cv, L, f⟩ hl (.inr hlo)).newBox [.int .i64 x, .slice av L cv] 26).newBox [.int .i64 0, .slice none 0 0] 26
  simp only [World.size_alloc] at st0
  clear hs hb hl
  go_enter Try.func203, Try.ntmps203
  go_wp2_with fail
  refine (l01Next_any b B p n q 50 _ st0.src st0.bytes hB (by omega) (by omega)).mono ?_
  rintro e w1 ⟨r, rfl, hr1, hr2, hs1, f1⟩
  have hz1 := f1.size
  simp only [World.size_alloc] at hz1
  have st1 := st0.draw hs1 f1
  clear st0 hs1 f1
  obtain ⟨c0, c1⟩ := (st1.box 1 (w.heap.size, [.int .i64 x, .slice av L cv]) rfl).cell2
  have cz := (st1.box 1 (w.heap.size, [.int .i64 x, .slice av L cv]) rfl).2.2
  obtain ⟨d0, d1⟩ := (st1.box 0 (w.heap.size + 1, [.int .i64 0, .slice none 0 0]) rfl).cell2
  have dz := (st1.box 0 (w.heap.size + 1, [.int .i64 0, .slice none 0 0]) rfl).2.2
  dsimp only at cz dz
  have ST := Lib.hid st1
  by_cases h0 : r = 0
  · subst h0
    have hl2 := Sl.list w1 [0, 17, -1] (by intro x hx; simp only [List.mem_cons, List.not_mem_nil, or_false] at hx; unfold inR; rcases hx with rfl | rfl | rfl <;> omega) (by simp [maxLen])
    have st2 := st1.alloc (.cells ([0, 17, -1].map (Value.int .i64)).toArray 2)
    simp only [List.map_cons, List.map_nil, List.length_cons, List.length_nil] at hl2 st2
    have hall : ∀ x ∈ [0, 17, (-1 : Int)], inR x := by intro x hx; simp only [List.mem_cons, List.not_mem_nil, or_false] at hx; unfold inR; rcases hx with rfl | rfl | rfl <;> omega
    have HALL := Lib.hid hall
    clear hall st1
    go_wp2_with fail
    refine (l01Pick_any b B p n q _ st2.src st2.bytes hB hl2 (.inr (by omega)) (by omega) (by omega)).mono ?_
    rintro e w2 ⟨i, hi', rfl, hs3, f3⟩
    have hmem : inR (([0, 17, -1] : List Int).getD i 0) := by
      rw [List.getD_eq_getElem?_getD, List.getElem?_eq_getElem (by simpa using hi')]
      exact HALL.out _ (List.getElem_mem _)
    generalize ([0, 17, -1] : List Int).getD i 0 = y at *
    have hz3 := f3.size
    simp only [World.size_alloc] at hz3
    have st3 := st2.draw hs3 f3
    have HY := Lib.hid hmem
    clear st2 hs3 f3 hl2 c0 c1 cz d0 d1 dz hmem
    obtain ⟨c0, c1⟩ := (st3.box 1 (w.heap.size, [.int .i64 x, .slice av L cv]) rfl).cell2
    have cz := (st3.box 1 (w.heap.size, [.int .i64 x, .slice av L cv]) rfl).2.2
    obtain ⟨d0, d1⟩ := (st3.box 0 (w.heap.size + 1, [.int .i64 0, .slice none 0 0]) rfl).cell2
    have dz := (st3.box 0 (w.heap.size + 1, [.int .i64 0, .slice none 0 0]) rfl).2.2
    dsimp only at cz dz
    have ST3 := Lib.hid st3
    clear st3
    go_wp2
    refine bodyPost_ret (v := .agg #[.int .i64 y, .slice av L cv]) (by simp [results, Try.results203, go_sem, d0, d1]) rfl ?_
    have FS : Frame w.heap.size (w.heap.size + 1 + 1) w2 (((w2.setCell ⟨w.heap.size, 0, none⟩ (.int .i64 y)).setCell ⟨w.heap.size + 1, 0, none⟩ (.int .i64 y)).setCell ⟨w.heap.size + 1, 1, none⟩ (.slice av L cv)) := (((Frame.refl _ _ w2).set (by omega) (by omega) _).set (by omega) (by omega) _).set (by omega) (by omega) _
    have st4 := ST3.out.write FS (Nat.le_refl _) (.inl hbz) [] [⟨o, lo, hi, .slice av L cv, L, f⟩] (fun x hx => by cases hx) (fun s hs => ⟨hs, by obtain rfl := List.mem_singleton.1 hs; exact .inl (by dsimp only; omega)⟩)
    exact ⟨y, L, av, cv, f, lo, hi, rfl, HY.out, hL0, by omega, (st4.sl 0 ⟨o, lo, hi, .slice av L cv, L, f⟩ rfl).rd, Nat.le_refl _, st4.src, st4.frame⟩
  · by_cases h1 : r = 1
    · subst h1
      have hs1 := st1.sl 0 ⟨o, lo, hi, .slice av L cv, L, f⟩ rfl
      dsimp only at hs1
      have HS1 := Lib.hid hs1
      clear st1 hs1
      go_wp2_with fail
      refine (l01Own_row _ HS1.out hL0 (by omega)).mono ?_
      rintro e w2 ⟨g2, k2, rfl, row2, b2⟩
      have hz2 := b2.size
      have st2 := ST.out.keep b2
      clear c0 c1 cz d0 d1 dz
      obtain ⟨c0, c1⟩ := (st2.box 1 (w.heap.size, [.int .i64 x, .slice av L cv]) rfl).cell2
      have cz := (st2.box 1 (w.heap.size, [.int .i64 x, .slice av L cv]) rfl).2.2
      obtain ⟨d0, d1⟩ := (st2.box 0 (w.heap.size + 1, [.int .i64 0, .slice none 0 0]) rfl).cell2
      have dz := (st2.box 0 (w.heap.size + 1, [.int .i64 0, .slice none 0 0]) rfl).2.2
      dsimp only at cz dz
      have ST2 := Lib.hid st2
      have R2 := Lib.hid row2
      have hg2 := row2.lt
      have c0' := cell_later ((Below.refl w2.heap.size w2).alloc (Nat.le_refl _) (.cells #[.int .i64 0] 2)) c0
      clear st2 row2 b2
      go_wp2_with (at_builtin; refine wpList_push rfl (.tmp 17) (.tmp 18) rfl rfl w1.heap.size g2 k2 L f rfl (R2.out.alloc _) w2.heap.size 0 rfl (heap_alloc_new w2 _) (by omega) ?_; intro gA kA wA rowA grA orA ltA
                   have st5 := (ST2.out.alloc (.cells #[.int .i64 0] 2)).write (Frame.ofGrown grA) (by omega) (by omega) [(w.heap.size + 1, [.int .i64 0, .slice none 0 0]), (w.heap.size, [.int .i64 x, .slice av L cv])] [⟨o, lo, hi, .slice av L cv, L, f⟩] (fun x hx => ⟨hx, by simp only [List.mem_cons, List.not_mem_nil, or_false] at hx; rcases hx with rfl | rfl <;> exact .inl (by dsimp only; omega)⟩) (fun s hs => ⟨hs, by obtain rfl := List.mem_singleton.1 hs; exact .inl (by dsimp only; omega)⟩)
                   clear c0 c1 cz d0 d1 dz c0'
                   obtain ⟨c0, c1⟩ := (st5.box 1 (w.heap.size, [.int .i64 x, .slice av L cv]) rfl).cell2
                   have cz := (st5.box 1 (w.heap.size, [.int .i64 x, .slice av L cv]) rfl).2.2
                   obtain ⟨d0, d1⟩ := (st5.box 0 (w.heap.size + 1, [.int .i64 0, .slice none 0 0]) rfl).cell2
                   have dz := (st5.box 0 (w.heap.size + 1, [.int .i64 0, .slice none 0 0]) rfl).2.2
                   dsimp only at cz dz
                   have ST5 := Lib.hid st5
                   have RA := Lib.hid rowA
                   have hzA := grA.size
                   simp only [World.size_alloc] at hzA
                   clear st5 rowA grA orA)
      refine bodyPost_ret (v := .agg #[.int .i64 x, .slice (some ⟨gA, 0, none⟩) (L + 1) kA]) (by simp [results, Try.results203, go_sem, d0, d1]) rfl ?_
      have hbd : ∀ j, j < L + 1 → inR (if j < L then f j else 0) := fun j hj => by
        by_cases e : j < L
        · rw [if_pos e]; exact HS1.out.bd j e
        · rw [if_neg e]; unfold inR; omega
      have sA := (RA.out.sl hbd (by unfold maxLen; omega)).rd
      have st6 := ST5.out.addSl ⟨false, w1.heap.size, wA.heap.size, .slice (some ⟨gA, 0, none⟩) (L + 1) kA, L + 1, fun j => if j < L then f j else 0⟩ sA (.inr (by dsimp only; omega))
      have FS : Frame w.heap.size (w.heap.size + 1 + 1) wA (((wA.setCell ⟨w.heap.size, 1, none⟩ (.slice (some ⟨gA, 0, none⟩) (L + 1) kA)).setCell ⟨w.heap.size + 1, 0, none⟩ (.int .i64 x)).setCell ⟨w.heap.size + 1, 1, none⟩ (.slice (some ⟨gA, 0, none⟩) (L + 1) kA)) := (((Frame.refl _ _ wA).set (by omega) (by omega) _).set (by omega) (by omega) _).set (by omega) (by omega) _
      have st7 := st6.write FS (Nat.le_refl _) (.inl hbz) [] [⟨false, w1.heap.size, wA.heap.size, .slice (some ⟨gA, 0, none⟩) (L + 1) kA, L + 1, fun j => if j < L then f j else 0⟩] (fun x hx => by cases hx) (fun s hs => ⟨List.mem_cons.2 (.inl (List.mem_singleton.1 hs)), by obtain rfl := List.mem_singleton.1 hs; exact .inr (by dsimp only; omega)⟩)
      exact ⟨x, L + 1, _, kA, _, _, _, rfl, hx, by omega, Nat.le_refl _, st7.sl 0 _ rfl, by show lo ≤ w1.heap.size; omega, st7.src, st7.frame⟩
    · by_cases h2 : r = 2
      · subst h2
        have hs1 := st1.sl 0 ⟨o, lo, hi, .slice av L cv, L, f⟩ rfl
        dsimp only at hs1
        have HS1 := Lib.hid hs1
        clear st1 hs1
        go_wp2_with fail
        refine (l01Own_row _ HS1.out hL0 (by omega)).mono ?_
        rintro e w2 ⟨g2, k2, rfl, row2, b2⟩
        have hz2 := b2.size
        have hg2 := row2.lt
        have st2 := (ST.out.keep b2).addSl ⟨true, w1.heap.size, w2.heap.size, .slice (some ⟨g2, 0, none⟩) L k2, L, f⟩ (row2.sl HS1.out.bd (by unfold maxLen; omega)) (.inr (by show b + 1 ≤ w1.heap.size; omega))
        clear c0 c1 cz d0 d1 dz row2 b2
        have bx3 := (st2.box 1 (w.heap.size, [.int .i64 x, .slice av L cv]) rfl)
        dsimp only at bx3
        obtain ⟨c0, c1⟩ := bx3.cell2
        have cz := bx3.2.2
        have bx3' := bx3.set (i := 1) (u := .slice (some ⟨g2, 0, none⟩) L k2) (by simp)
        have st3 := (st2.write (lo := w.heap.size) (hi := w.heap.size + 1) ((Frame.refl _ _ w2).set (o := 1) (Nat.le_refl _) (Nat.lt_succ_self _) (.slice (some ⟨g2, 0, none⟩) L k2)) (Nat.le_refl _) (.inl hbz) [(w.heap.size + 1, [.int .i64 0, .slice none 0 0])] [⟨true, w1.heap.size, w2.heap.size, .slice (some ⟨g2, 0, none⟩) L k2, L, f⟩] (fun x hx => ⟨by simp at hx ⊢; exact .inl hx, by obtain rfl := List.mem_singleton.1 hx; exact .inr (Nat.le_refl _)⟩) (fun s hs => ⟨by simp at hs ⊢; exact .inl hs, by obtain rfl := List.mem_singleton.1 hs; exact .inr (by dsimp only; omega)⟩)).addBox _ _ bx3' (by omega)
        have hl3 := (Sl.list (w2.setCell ⟨w.heap.size, 1, none⟩ (.slice (some ⟨g2, 0, none⟩) L k2)) [1000000001, -1000000001, 1099511627776] (by intro x hx; simp only [List.mem_cons, List.not_mem_nil, or_false] at hx; unfold inR; rcases hx with rfl | rfl | rfl <;> omega) (by simp [maxLen])).drew
        have st4 := (st3.alloc (.cells ([1000000001, -1000000001, 1099511627776].map (Value.int .i64)).toArray 2)).drew
        simp only [List.map_cons, List.map_nil, List.length_cons, List.length_nil, List.set_cons_succ, List.set_cons_zero, World.size_setCell] at hl3 st4 st3
        have hall : ∀ x ∈ [1000000001, -1000000001, (1099511627776 : Int)], inR x := by intro x hx; simp only [List.mem_cons, List.not_mem_nil, or_false] at hx; unfold inR; rcases hx with rfl | rfl | rfl <;> omega
        have HALL := Lib.hid hall
        have HL3 := Lib.hid hl3
        have ST4 := Lib.hid st4
        have c2 := (st3.box 0 (w.heap.size, [.int .i64 x, .slice (some ⟨g2, 0, none⟩) L k2]) rfl).cell2.2
        dsimp only at c2
        have C2 := Lib.hid c2
        clear hall hl3 st4 st3 st2 bx3 bx3' c2
        go_wp2_with fail
        have c1 := C2.out
        go_region_held3 (fun w' => w'.cell? ⟨w.heap.size, 1, none⟩ = some (.slice (some ⟨g2, 0, none⟩) L k2))
          (first | exact c1 | exact d6 | exact (World.cell?_setCell_other _ _ _ _ (by intro e; have := congrArg Addr.block e; dsimp only at this; omega)).trans d6 | exact cell_later ((Below.refl _ _).alloc (Nat.le_refl _) _) c1 | exact cell_later (((Below.refl _ _).alloc (Nat.le_refl _) _).drew) c1 | exact cell_later (Below.refl _ _).drew c1 | go_keep)
          (first
            | (go_at_call 161; refine (l01Pick_any b B p n q _ ST4.out.src ST4.out.bytes hB HL3.out (.inr (by omega)) (by omega) (by omega)).mono ?_; rintro e w6 ⟨i, hi', rfl, hs6, f6⟩
               have hz6 := f6.size
               try simp only [World.size_drew, World.size_alloc, World.size_setCell] at hz6
               have st6 := ST4.out.draw hs6 f6
               have d6 := (st6.box 0 (w.heap.size, [.int .i64 x, .slice (some ⟨g2, 0, none⟩) L k2]) rfl).cell2.2
               dsimp only at d6
               have hmem : inR (([1000000001, -1000000001, 1099511627776] : List Int).getD i 0) := by
                 rw [List.getD_eq_getElem?_getD, List.getElem?_eq_getElem (by simpa using hi')]
                 exact HALL.out _ (List.getElem_mem _)
               generalize ([1000000001, -1000000001, 1099511627776] : List Int).getD i 0 = y at *
               have HY := Lib.hid hmem
               obtain ⟨_, _, _, hc7, hzz7⟩ := (st6.sl 0 ⟨true, w1.heap.size, w2.heap.size, .slice (some ⟨g2, 0, none⟩) L k2, L, f⟩ rfl).known hL0
               have hck7 := hc7 0 hL0
               have hfr7 := hzz7 rfl 0
               rw [Nat.add_zero] at hck7
               dsimp only at hck7 hfr7
               have ST6 := Lib.hid st6
               clear hc7 hzz7 st6 hmem))
        all_goals
          have st6 := ST6.out
          have sA := (st6.sl 0 ⟨true, w1.heap.size, w2.heap.size, .slice (some ⟨g2, 0, none⟩) L k2, L, f⟩ rfl).store0 (i := 0) (x := y) hL0 HY.out
          have st7 := (st6.write (lo := w1.heap.size) (hi := w2.heap.size) ((Frame.refl _ _ w6).set (g := g2) (o := 0) (by omega) (by omega) (.int .i64 y)) (by omega) (by omega) [(w.heap.size, [.int .i64 x, .slice (some ⟨g2, 0, none⟩) L k2]), (w.heap.size + 1, [.int .i64 0, .slice none 0 0])] [] (fun x hx => ⟨hx, by simp only [List.mem_cons, List.not_mem_nil, or_false] at hx; rcases hx with rfl | rfl <;> exact .inl (by dsimp only; omega)⟩) (fun s hs => by cases hs)).addSl ⟨true, w1.heap.size, w2.heap.size, .slice (some ⟨g2, 0, none⟩) L k2, L, fun j => if j = 0 then y else f j⟩ sA (.inr (by show b + 1 ≤ w1.heap.size; omega))
          obtain ⟨c0, c1⟩ := (st7.box 0 (w.heap.size, [.int .i64 x, .slice (some ⟨g2, 0, none⟩) L k2]) rfl).cell2
          have cz := (st7.box 0 (w.heap.size, [.int .i64 x, .slice (some ⟨g2, 0, none⟩) L k2]) rfl).2.2
          obtain ⟨d0, d1⟩ := (st7.box 1 (w.heap.size + 1, [.int .i64 0, .slice none 0 0]) rfl).cell2
          have dz := (st7.box 1 (w.heap.size + 1, [.int .i64 0, .slice none 0 0]) rfl).2.2
          dsimp only at c0 c1 d0 d1 cz dz
          have ST7 := Lib.hid st7
          clear st6 st7 sA
          go_wp2
          refine bodyPost_ret (v := .agg #[.int .i64 x, .slice (some ⟨g2, 0, none⟩) L k2]) (by simp [results, Try.results203, go_sem, d0, d1]) rfl ?_
          have FS : Frame w.heap.size (w.heap.size + 1 + 1) (w6.setCell ⟨g2, 0, none⟩ (.int .i64 y)) (((w6.setCell ⟨g2, 0, none⟩ (.int .i64 y)).setCell ⟨w.heap.size + 1, 0, none⟩ (.int .i64 x)).setCell ⟨w.heap.size + 1, 1, none⟩ (.slice (some ⟨g2, 0, none⟩) L k2)) := ((Frame.refl _ _ _).set (by omega) (by omega) _).set (by omega) (by omega) _
          have st8 := ST7.out.write FS (Nat.le_refl _) (.inl hbz) [] [⟨true, w1.heap.size, w2.heap.size, .slice (some ⟨g2, 0, none⟩) L k2, L, fun j => if j = 0 then y else f j⟩] (fun x hx => by cases hx) (fun s hs => ⟨List.mem_cons.2 (.inl (List.mem_singleton.1 hs)), by obtain rfl := List.mem_singleton.1 hs; exact .inr (by dsimp only; omega)⟩)
          exact ⟨x, L, _, k2, _, _, _, rfl, hx, hL0, by omega, (st8.sl 0 _ rfl).rd, by show lo ≤ w1.heap.size; omega, st8.src, st8.frame⟩
      · have e0 : (r == 0) = false := by simpa using h0
        have e1 : (r == 1) = false := by simpa using h1
        have e2 : (r == 2) = false := by simpa using h2
        clear st1
        go_wp2
        refine bodyPost_ret (v := .agg #[.int .i64 x, .slice av L cv]) (by simp [results, Try.results203, go_sem, d0, d1]) rfl ?_
        have FS : Frame w.heap.size (w.heap.size + 1 + 1) w1 ((w1.setCell ⟨w.heap.size + 1, 0, none⟩ (.int .i64 x)).setCell ⟨w.heap.size + 1, 1, none⟩ (.slice av L cv)) := ((Frame.refl _ _ w1).set (by omega) (by omega) _).set (by omega) (by omega) _
        have st4 := ST.out.write FS (Nat.le_refl _) (.inl hbz) [] [⟨o, lo, hi, .slice av L cv, L, f⟩] (fun x hx => by cases hx) (fun s hs => ⟨hs, by obtain rfl := List.mem_singleton.1 hs; exact .inl (by dsimp only; omega)⟩)
        exact ⟨x, L, av, cv, f, lo, hi, rfl, hx, hL0, by omega, (st4.sl 0 ⟨o, lo, hi, .slice av L cv, L, f⟩ rfl).rd, Nat.le_refl _, st4.src, st4.frame⟩
end
end

section
open Go.RowKit Go.ChangeShapes Go.Sort
set_option linter.unusedVariables false
set_option linter.unusedSimpArgs false
/-- A drawn argument: a number, or something that is none. -/
def DrX (M : Nat) (w : World) (e : Ending) (w' : World) : Prop :=
  ∃ (x : Int) (L : Nat) (a : Option Addr) (cap : Nat) (f : Nat → Int) (lo' hi' : Nat), e = .returned (.agg #[.int .i64 x, .slice a L cap]) ∧ inR x ∧ 0 < L ∧ L ≤ M ∧ Sl false w' lo' hi' (.slice a L cap) L f ∧ w.heap.size ≤ lo' ∧ Below w.heap.size w w'
section
variable {b B : Nat} {p : Option Addr} {n q : Nat}
set_option maxRecDepth 100000 in
set_option maxHeartbeats 2000000 in
theorem l01Spoil_any (w : World) (hs : Src w b p n q) (hb : Bytes w B p n) (hB : B ≤ b) :
    Calls Try.prog 200 #[.pointer (some ⟨b, 0, none⟩)] w (DrC b p n q w.heap.size 13 w) := by
  have st0 := Ds.start hs hb hB
  have hbz := hs.lt
  replace st0 := st0.newBox [.int .i64 0, .slice none 0 0] 26
  clear hs hb
  go_enter Try.func200, Try.ntmps200
  go_wp2_with fail
  refine (l01Draw_any _ st0.src st0.bytes st0.low).mono ?_
  rintro e w1 ⟨N, a_w1, k_w1, g_w1, hN1, hN2, rfl, s_w1, hw_w1, hs_w1, _, f_w1⟩
  have hz_w1 := f_w1.size
  try simp only [World.size_alloc] at hz_w1
  have st1 := st0.draw hs_w1 f_w1
  try simp only [World.size_alloc] at s_w1
  replace st1 := st1.addSl ⟨true, w.heap.size + 1, w1.heap.size, .slice a_w1 (phiN N) k_w1, (phiN N), g_w1⟩ s_w1 (.inr (by dsimp only; omega))
  clear st0 hs_w1 f_w1 s_w1
  have hp := phi_le12 N hN2 hN1
  have hp1 := phiN_pos N (by omega) hN1
  have q_t := st1.sl 0 ⟨true, w.heap.size + 1, w1.heap.size, .slice a_w1 (phiN N) k_w1, (phiN N), g_w1⟩ rfl
  dsimp only at q_t
  go_wp2_with fail
  refine (l01Bad_any (N : Int) _ st1.src st1.bytes st1.low (by unfold inR; omega) q_t (by omega) hp1 (by omega)).mono ?_
  rintro e w2 ⟨x_w2, L_w2, a_w2, k_w2, g_w2, lo_w2, hi_w2, rfl, hx_w2, hL0_w2, hL_w2, s_w2, hlo_w2, hs_w2, f_w2⟩
  have hz_w2 := f_w2.size
  try simp only [World.size_alloc] at hz_w2
  have st2 := st1.draw hs_w2 f_w2
  try simp only [World.size_alloc] at s_w2
  replace st2 := st2.addSl ⟨false, lo_w2, hi_w2, .slice a_w2 L_w2 k_w2, L_w2, g_w2⟩ s_w2 (.inr (by dsimp only; omega))
  clear q_t st1 hs_w2 f_w2 s_w2
  obtain ⟨c_r_0, c_r_1⟩ := (st2.box 0 (w.heap.size, [.int .i64 0, .slice none 0 0]) rfl).cell2
  have z_r := (st2.box 0 (w.heap.size, [.int .i64 0, .slice none 0 0]) rfl).2.2
  dsimp only at c_r_0 c_r_1 z_r
  go_wp2
  refine bodyPost_ret (v := .agg #[.int .i64 x_w2, .slice a_w2 L_w2 k_w2]) (by simp [results, Try.results200, go_sem, c_r_0 , c_r_1]) rfl ?_
  have FS : Frame (w.heap.size) (w.heap.size + 1) w2 ((w2.setCell ⟨w.heap.size, 0, none⟩ (.int .i64 x_w2)).setCell ⟨w.heap.size, 1, none⟩ (.slice a_w2 L_w2 k_w2)) := ((Frame.refl _ _ _).set (by omega) (by omega) _).set (by omega) (by omega) _
  have stz := st2.write FS (by omega) (by omega) [] [⟨false, lo_w2, hi_w2, .slice a_w2 L_w2 k_w2, L_w2, g_w2⟩] (fun x hx => by cases hx) (fun s hs => by simp only [List.mem_cons, List.not_mem_nil, or_false] at hs; rcases hs with rfl <;> exact ⟨by simp, by first | exact .inl (by dsimp only; omega) | exact .inr (by dsimp only; omega)⟩)
  exact ⟨x_w2, L_w2, a_w2, k_w2, g_w2, lo_w2, hi_w2, rfl, hx_w2, hL0_w2, by omega, stz.sl 0 _ rfl, by show _ ≤ lo_w2; omega, stz.src, stz.frame⟩

set_option maxRecDepth 100000 in
set_option maxHeartbeats 2000000 in
theorem l02Draw_any (w : World) (hs : Src w b p n q) (hb : Bytes w B p n) (hB : B ≤ b) :
    Calls Try.prog 176 #[.pointer (some ⟨b, 0, none⟩)] w (DrC b p n q w.heap.size 13 w) := by
  have st0 := Ds.start hs hb hB
  have hbz := hs.lt
  replace st0 := st0.newBox [.int .i64 0, .slice none 0 0] 26
  clear hs hb
  go_enter Try.func176, Try.ntmps176
  go_wp2_with fail
  refine (l01Next_any b B p n q 8 _ st0.src st0.bytes st0.low (by omega) (by omega)).mono ?_
  rintro e w1 ⟨r, rfl, hr1, hr2, hs_w1, f_w1⟩
  have hz_w1 := f_w1.size
  try simp only [World.size_alloc] at hz_w1
  have st1 := st0.draw hs_w1 f_w1
  clear st0 hs_w1 f_w1
  by_cases h0 : r = 0
  · subst h0
    go_wp2_with fail
    refine (l01Spoil_any _ st1.src st1.bytes st1.low).mono ?_
    rintro e w2 ⟨x_w2, L_w2, a_w2, k_w2, g_w2, lo_w2, hi_w2, rfl, hx_w2, hL0_w2, hL_w2, s_w2, hlo_w2, hs_w2, f_w2⟩
    have hz_w2 := f_w2.size
    try simp only [World.size_alloc] at hz_w2
    have st2 := st1.draw hs_w2 f_w2
    try simp only [World.size_alloc] at s_w2
    replace st2 := st2.addSl ⟨false, lo_w2, hi_w2, .slice a_w2 L_w2 k_w2, L_w2, g_w2⟩ s_w2 (.inr (by dsimp only; omega))
    clear st1 hs_w2 f_w2 s_w2
    obtain ⟨c_r_0, c_r_1⟩ := (st2.box 0 (w.heap.size, [.int .i64 0, .slice none 0 0]) rfl).cell2
    have z_r := (st2.box 0 (w.heap.size, [.int .i64 0, .slice none 0 0]) rfl).2.2
    dsimp only at c_r_0 c_r_1 z_r
    go_wp2
    refine bodyPost_ret (v := .agg #[.int .i64 x_w2, .slice a_w2 L_w2 k_w2]) (by simp [results, Try.results176, go_sem, c_r_0 , c_r_1]) rfl ?_
    have FS : Frame (w.heap.size) (w.heap.size + 1) w2 ((w2.setCell ⟨w.heap.size, 0, none⟩ (.int .i64 x_w2)).setCell ⟨w.heap.size, 1, none⟩ (.slice a_w2 L_w2 k_w2)) := ((Frame.refl _ _ _).set (by omega) (by omega) _).set (by omega) (by omega) _
    have stz := st2.write FS (by omega) (by omega) [] [⟨false, lo_w2, hi_w2, .slice a_w2 L_w2 k_w2, L_w2, g_w2⟩] (fun x hx => by cases hx) (fun s hs => by simp only [List.mem_cons, List.not_mem_nil, or_false] at hs; rcases hs with rfl <;> exact ⟨by simp, by first | exact .inl (by dsimp only; omega) | exact .inr (by dsimp only; omega)⟩)
    exact ⟨x_w2, L_w2, a_w2, k_w2, g_w2, lo_w2, hi_w2, rfl, hx_w2, hL0_w2, by omega, stz.sl 0 _ rfl, by show _ ≤ lo_w2; omega, stz.src, stz.frame⟩
  · have e0 : (r == 0) = false := by simpa using h0
    go_wp2_with fail
    refine (l01DrawOrder_any _ st1.src st1.bytes st1.low).mono ?_
    rintro e w2 ⟨N, rfl, hN1, hN2, hs_w2, _, f_w2⟩
    have hz_w2 := f_w2.size
    try simp only [World.size_alloc] at hz_w2
    have st2 := st1.draw hs_w2 f_w2
    clear st1 hs_w2 f_w2
    have hl := Sl.list (w2) [1, 1, 2, 3] (by intro x hx; simp only [List.mem_cons, List.not_mem_nil, or_false] at hx; unfold inR; rcases hx with rfl | rfl | rfl | rfl <;> omega) (by simp [maxLen])
    replace st2 := st2.alloc (.cells ([1, 1, 2, 3].map (Value.int .i64)).toArray 2)
    simp only [List.map_cons, List.map_nil, List.length_cons, List.length_nil, World.size_alloc] at hl st2
    have hall : ∀ x ∈ ([1, 1, 2, 3] : List Int), 0 ≤ x ∧ x ≤ 1000000000 := by intro x hx; simp only [List.mem_cons, List.not_mem_nil, or_false] at hx; rcases hx with rfl | rfl | rfl | rfl <;> omega
    have HALL := Lib.hid hall
    clear hall
    go_wp2_with fail
    refine (l01Pick_any b B p n q _ st2.src st2.bytes st2.low hl (.inr (by omega)) (by omega) (by omega)).mono ?_
    rintro e w3 ⟨i_w3, hi_w3, rfl, hs_w3, f_w3⟩
    have hz_w3 := f_w3.size
    try simp only [World.size_alloc] at hz_w3
    have st3 := st2.draw hs_w3 f_w3
    clear hl st2 hs_w3 f_w3
    have h_y : (fun x : Int => 0 ≤ x ∧ x ≤ 1000000000) (([1, 1, 2, 3] : List Int).getD i_w3 0) := by
      rw [List.getD_eq_getElem?_getD, List.getElem?_eq_getElem (by simpa using hi_w3)]
      exact HALL.out _ (List.getElem_mem _)
    generalize ([1, 1, 2, 3] : List Int).getD i_w3 0 = y at *
    try dsimp only at h_y
    clear HALL hi_w3
    have hp := phi_le12 N hN2 hN1
    have hp1 := phiN_pos N (by omega) hN1
    go_wp2_with fail
    refine (l01DrawOf_any N y _ st3.src st3.bytes st3.low hN1 hN2 h_y.1 h_y.2).mono ?_
    rintro e w4 ⟨a_w4, k_w4, g_w4, rfl, s_w4, hw_w4, hs_w4, _, f_w4⟩
    have hz_w4 := f_w4.size
    try simp only [World.size_alloc] at hz_w4
    have st4 := st3.draw hs_w4 f_w4
    try simp only [World.size_alloc] at s_w4
    replace st4 := st4.addSl ⟨true, w3.heap.size, w4.heap.size, .slice a_w4 (phiN N) k_w4, (phiN N), g_w4⟩ s_w4 (.inr (by dsimp only; omega))
    clear st3 hs_w4 f_w4 s_w4
    obtain ⟨c_r_0, c_r_1⟩ := (st4.box 0 (w.heap.size, [.int .i64 0, .slice none 0 0]) rfl).cell2
    have z_r := (st4.box 0 (w.heap.size, [.int .i64 0, .slice none 0 0]) rfl).2.2
    dsimp only at c_r_0 c_r_1 z_r
    go_wp2
    refine bodyPost_ret (v := .agg #[.int .i64 (N : Int), .slice a_w4 (phiN N) k_w4]) (by simp [results, Try.results176, go_sem, c_r_0 , c_r_1]) rfl ?_
    have FS : Frame (w.heap.size) (w.heap.size + 1) w4 ((w4.setCell ⟨w.heap.size, 0, none⟩ (.int .i64 (N : Int))).setCell ⟨w.heap.size, 1, none⟩ (.slice a_w4 (phiN N) k_w4)) := ((Frame.refl _ _ _).set (by omega) (by omega) _).set (by omega) (by omega) _
    have stz := st4.write FS (by omega) (by omega) [] [⟨true, w3.heap.size, w4.heap.size, .slice a_w4 (phiN N) k_w4, (phiN N), g_w4⟩] (fun x hx => by cases hx) (fun s hs => by simp only [List.mem_cons, List.not_mem_nil, or_false] at hs; rcases hs with rfl <;> exact ⟨by simp, by first | exact .inl (by dsimp only; omega) | exact .inr (by dsimp only; omega)⟩)
    exact ⟨N, phiN N, a_w4, k_w4, g_w4, _, _, rfl, by unfold inR; omega, hp1, by omega, (stz.sl 0 _ rfl).rd, by (show _ ≤ _); dsimp only; omega, stz.src, stz.frame⟩

end
end

section
open Go.RowKit Go.ChangeShapes Go.Sort
set_option linter.unusedVariables false
set_option linter.unusedSimpArgs false
/-- A drawn number, or something that is none, and an integer. -/
def DrXi (w : World) (e : Ending) (w' : World) : Prop :=
  ∃ (x : Int) (L : Nat) (a : Option Addr) (cap : Nat) (f : Nat → Int) (lo' hi' : Nat) (m : Int), e = .returned (.tuple #[.agg #[.int .i64 x, .slice a L cap], .int .i64 m]) ∧ inR x ∧ 0 < L ∧ L ≤ 13 ∧ Sl false w' lo' hi' (.slice a L cap) L f ∧ w.heap.size ≤ lo' ∧ Below w.heap.size w w'
theorem inR_wrap64 (x : Int) : inR (IntKind.i64.wrap x) := by
  first | exact inR_wrap x | (have h : IntKind.i64.wrap x = wrap64 x := by first | rfl | (unfold IntKind.wrap wrap64; simp [IntKind.signed, IntKind.bits]; omega)
                              rw [h]; exact inR_wrap x)
theorem lst5 (w : World) (a b c d e : Int) (ha : inR a) (hb : inR b) (hc : inR c) (hd : inR d) (he : inR e) :
    Sl true (w.alloc (.cells #[.int .i64 a, .int .i64 b, .int .i64 c, .int .i64 d, .int .i64 e] 2)) w.heap.size (w.heap.size + 1) (.slice (some ⟨w.heap.size, 0, none⟩) 5 5) 5 (fun j => [a, b, c, d, e].getD j 0) := by
  have := Sl.list w [a, b, c, d, e] (by intro t ht; simp only [List.mem_cons, List.not_mem_nil, or_false] at ht; rcases ht with rfl | rfl | rfl | rfl | rfl <;> assumption) (by simp [maxLen])
  simpa only [List.map_cons, List.map_nil, List.length_cons, List.length_nil] using this
theorem lst5g (w : World) (x : Nat) (a b c d e : Int) (hx : w.heap.size = x) (ha : inR a) (hb : inR b) (hc : inR c) (hd : inR d) (he : inR e) :
    Sl true (w.alloc (.cells #[.int .i64 a, .int .i64 b, .int .i64 c, .int .i64 d, .int .i64 e] 2)) x (x + 1) (.slice (some ⟨x, 0, none⟩) 5 5) 5 (fun j => [a, b, c, d, e].getD j 0) := by
  subst hx; exact lst5 w a b c d e ha hb hc hd he
theorem lst7 (w : World) (a b c d e f g : Int) (ha : inR a) (hb : inR b) (hc : inR c) (hd : inR d) (he : inR e) (hf : inR f) (hg : inR g) :
    Sl true (w.alloc (.cells #[.int .i64 a, .int .i64 b, .int .i64 c, .int .i64 d, .int .i64 e, .int .i64 f, .int .i64 g] 2)) w.heap.size (w.heap.size + 1) (.slice (some ⟨w.heap.size, 0, none⟩) 7 7) 7 (fun j => [a, b, c, d, e, f, g].getD j 0) := by
  have := Sl.list w [a, b, c, d, e, f, g] (by intro t ht; simp only [List.mem_cons, List.not_mem_nil, or_false] at ht; rcases ht with rfl | rfl | rfl | rfl | rfl | rfl | rfl <;> assumption) (by simp [maxLen])
  simpa only [List.map_cons, List.map_nil, List.length_cons, List.length_nil] using this
section
variable {b B : Nat} {p : Option Addr} {n q k lo hi : Nat} {o : Bool} {v : Value} {f : Nat → Int} {W w : World} {bs : List (Nat × List Value)} {ss : List SlF}
/-- A drawn choice, told with the state of the walk. -/
theorem pick_ds (st : Ds b B p n q W w bs ss) (hl : Sl o w lo hi v k f) (hd : hi ≤ b ∨ b + 1 ≤ lo) (hk : 1 ≤ k) (hk2 : k ≤ 1000) :
    Calls Try.prog 161 #[.pointer (some ⟨b, 0, none⟩), v] w fun e w' => ∃ m, e = .returned (.int .i64 m) ∧ Ds b B p n q W w' bs ss ∧ w.heap.size ≤ w'.heap.size :=
  (l01Pick_any b B p n q w st.src st.bytes st.low hl hd hk hk2).mono fun _ _ ⟨i, hi, he, hs, hf⟩ => ⟨_, he, st.draw hs hf, hf.size⟩
theorem Ds.tail {s : SlF} (h : Ds b B p n q W w bs (s :: ss)) : Ds b B p n q W w bs ss :=
  ⟨h.1, h.2.1, h.2.2.1, h.2.2.2.1, h.2.2.2.2.1, fun t ht => h.2.2.2.2.2 t (List.mem_cons_of_mem _ ht)⟩
theorem pick5_ds (B : Nat) (W : World) (f : Nat → Int) (bs : List (Nat × List Value)) (ss : List SlF) {g : Nat} (st : Ds b B p n q W w bs ss) (hl : Sl true w g (g + 1) (.slice (some ⟨g, 0, none⟩) 5 5) 5 f) (hd : b + 1 ≤ g) :
    Calls Try.prog 161 #[.pointer (some ⟨b, 0, none⟩), .slice (some ⟨g, 0, none⟩) 5 5] w fun e w' => ∃ m, e = .returned (.int .i64 m) ∧ Ds b B p n q W w' bs ss ∧ w.heap.size ≤ w'.heap.size :=
  pick_ds st hl (.inr hd) (by omega) (by omega)
end
section
variable {B : Nat} {p : Option Addr} {n q : Nat}
set_option maxRecDepth 100000 in
set_option maxHeartbeats 1000000 in
theorem DrawConjugateOf_any (w : World) (hb : Bytes w B p n) (hB : B ≤ w.heap.size) :
    Calls Try.prog 108 #[.slice p n q] w (DrX 13 w) := by
  have hb0 := hb.below ((Below.refl w.heap.size w).alloc (Nat.le_refl _) (.cells #[.int .i64 0, .slice none 0 0] 26))
  have bx0 := Box.made2 (w := w) (b := w.heap.size) (v0 := .int .i64 0) (v1 := .slice none 0 0) (t := 26) rfl
  clear hb
  go_enter Try.func108, Try.ntmps108
  go_wp2_with fail
  refine (l01From_any B p n q _ hb0 (by simp; omega)).mono ?_
  rintro e w1 ⟨rfl, hs1, hb1, b1⟩
  have hz1 := b1.size
  simp only [World.size_alloc] at hz1 hs1
  have bx1 := bx0.keep b1
  have B1 := ((Below.refl w.heap.size w).alloc (Nat.le_refl _) (.cells #[.int .i64 0, .slice none 0 0] 26)).trans (b1.mono (by simp))
  clear hb0 bx0 b1
  go_wp2_with fail
  refine (l01Spoil_any _ hs1 hb1 (by omega)).mono ?_
  rintro e w2 ⟨x, L, a, k, f, lo, hi, rfl, hx, hL0, hL, s2, hlo, hs2, f2⟩
  have hz2 := f2.size
  have bx2 := bx1.keepF f2 (.inl (by omega))
  have B2 := B1.trans (f2.below (B := w.heap.size) (by omega) (by omega))
  have S2 := Lib.hid s2
  clear hs1 hb1 bx1 B1 hs2 f2 s2
  obtain ⟨c0, c1⟩ := bx2.cell2
  have cz := bx2.2.2
  go_wp2
  refine bodyPost_ret (v := .agg #[.int .i64 x, .slice a L k]) (by simp [results, Try.results108, go_sem, c0, c1]) rfl ?_
  refine ⟨x, L, a, k, f, lo, hi, rfl, hx, hL0, hL, ?_, by omega, ?_⟩
  · exact (S2.out.setOther (.inl (by show w.heap.size < _; omega)) _).setOther (.inl (by show w.heap.size < _; omega)) _
  · exact (B2.setCell (Nat.le_refl _) _).setCell (Nat.le_refl _) _

set_option maxRecDepth 100000 in
set_option maxHeartbeats 4000000 in
theorem DrawGaloisImage_any (w : World) (hb : Bytes w B p n) (hB : B ≤ w.heap.size) :
    Calls Try.prog 106 #[.slice p n q] w (DrXi w) := by
  have B0 := Below.refl w.heap.size w
  replace B0 := B0.alloc (Nat.le_refl _) (.cells #[.int .i64 0, .slice none 0 0] 26)
  have bx0 := Box.made (w) #[.int .i64 0, .slice none 0 0] 26 [.int .i64 0, .slice none 0 0] (fun j v h => by simpa using h)
  have hb0 := hb.below B0
  clear hb
  go_enter Try.func106, Try.ntmps106
  go_wp2_with fail
  refine (l01From_any B p n q _ hb0 (by (try simp only [World.size_alloc]); omega)).mono ?_
  rintro e w1 ⟨rfl, hs1, hb1, b1⟩
  have hz_w1 := b1.size
  try simp only [World.size_alloc] at hz_w1 hs1 bx0
  have st1 := Ds.at hB (B0.trans (b1.mono (by (try simp only [World.size_alloc]); omega))) hs1 hb1 (by omega)
  have hbz := hs1.lt
  replace st1 := st1.addBox (w.heap.size) [.int .i64 0, .slice none 0 0] (bx0.keep (by simpa only [World.size_alloc] using b1)) (by omega)
  clear hb0 B0 b1 hs1 hb1 bx0
  go_wp2_with fail
  refine (l01Spoil_any _ st1.src st1.bytes st1.low).mono ?_
  rintro e w2 ⟨x_w2, L_w2, a_w2, k_w2, g_w2, lo_w2, hi_w2, rfl, hx_w2, hL0_w2, hL_w2, s_w2, hlo_w2, hs_w2, f_w2⟩
  have hz_w2 := f_w2.size
  try simp only [World.size_alloc] at hz_w2
  have st2 := st1.draw hs_w2 f_w2
  try simp only [World.size_alloc] at s_w2
  replace st2 := st2.addSl ⟨false, lo_w2, hi_w2, .slice a_w2 L_w2 k_w2, L_w2, g_w2⟩ s_w2 (.inr (by dsimp only; omega))
  clear st1 hs_w2 f_w2 s_w2
  replace st2 := st2.newBox [.int .i64 x_w2, .slice a_w2 L_w2 k_w2] 26
  obtain ⟨c_x_0, c_x_1⟩ := (st2.box 0 (w2.heap.size, [.int .i64 x_w2, .slice a_w2 L_w2 k_w2]) rfl).cell2
  have z_x := (st2.box 0 (w2.heap.size, [.int .i64 x_w2, .slice a_w2 L_w2 k_w2]) rfl).2.2
  dsimp only at c_x_0 c_x_1 z_x
  have ST := Lib.hid st2; clear st2
  go_wp2_with fail
  go_region_held3 (fun w' => w'.cell? ⟨w2.heap.size, 0, none⟩ = some (.int .i64 x_w2) ∧ w'.cell? ⟨w2.heap.size, 1, none⟩ = some (.slice a_w2 L_w2 k_w2))
    (first | exact ⟨c_x_0, c_x_1⟩ | (have q := (st90.box 0 (w2.heap.size, [.int .i64 x_w2, .slice a_w2 L_w2 k_w2]) rfl).cell2; with_reducible exact ⟨q.1, q.2⟩) | (have q := (st80.box 0 (w2.heap.size, [.int .i64 x_w2, .slice a_w2 L_w2 k_w2]) rfl).cell2; with_reducible exact ⟨q.1, q.2⟩) | (have q := (st70.box 0 (w2.heap.size, [.int .i64 x_w2, .slice a_w2 L_w2 k_w2]) rfl).cell2; with_reducible exact ⟨q.1, q.2⟩) | (have q := (ST.out.drew.box 0 (w2.heap.size, [.int .i64 x_w2, .slice a_w2 L_w2 k_w2]) rfl).cell2; with_reducible exact ⟨q.1, q.2⟩) | (have q := (ST.out.box 0 (w2.heap.size, [.int .i64 x_w2, .slice a_w2 L_w2 k_w2]) rfl).cell2; with_reducible exact ⟨q.1, q.2⟩) | (have q := (st90.box 0 (w2.heap.size, [.int .i64 x_w2, .slice a_w2 L_w2 k_w2]) rfl).cell2; exact ⟨cell_set2 q.1 (by omega), cell_set2 q.2 (by omega)⟩) | go_keep)
    (first
      | (go_at_call 163; refine (l01Near_any 15 _ ST.out.drew.src ST.out.drew.bytes ST.out.drew.low (by omega) (by omega)).mono ?_; rintro e w80 ⟨r8, rfl, hr8, hs80, hb80, f80⟩; have st80 := ST.out.drew.draw hs80 f80; have hz80 := f80.size; (try simp only [World.size_drew, World.size_alloc] at hz80))
      | (go_at_call 161; refine (pick_ds (st80.alloc _) (lst7 _ _ _ _ _ _ _ _ (by unfold inR; omega) (by unfold inR; omega) (by unfold inR; omega) (by unfold inR; omega) (by unfold inR; omega) (inR_wrap64 _) (inR_wrap64 _)) (.inr (by omega)) (by omega) (by omega)).mono ?_; rintro e w90 ⟨m9, rfl, st90, hz90⟩; (try simp only [World.size_drew, World.size_alloc] at hz90); obtain ⟨c_r_0, c_r_1⟩ := (st90.box 1 (w.heap.size, [.int .i64 0, .slice none 0 0]) rfl).cell2; have z_r := (st90.box 1 (w.heap.size, [.int .i64 0, .slice none 0 0]) rfl).2.2; dsimp only at c_r_0 c_r_1 z_r))
  all_goals
    go_wp2
    refine bodyPost_ret (v := .tuple #[.agg #[.int .i64 x_w2, .slice a_w2 L_w2 k_w2], .int .i64 _]) (by simp [results, Try.results106, go_sem, c_r_0, c_r_1]; rfl) rfl ?_
    have FS : Frame w.heap.size (w.heap.size + 1) w90 ((w90.setCell ⟨w.heap.size, 0, none⟩ (.int .i64 x_w2)).setCell ⟨w.heap.size, 1, none⟩ (.slice a_w2 L_w2 k_w2)) := ((Frame.refl _ _ _).set (by omega) (by omega) _).set (by omega) (by omega) _
    have stz := st90.write FS (by omega) (by omega) [] [⟨false, lo_w2, hi_w2, .slice a_w2 L_w2 k_w2, L_w2, g_w2⟩] (fun x hx => by cases hx) (fun s hs => by obtain rfl := List.mem_singleton.1 hs; exact ⟨List.mem_cons_self, .inr (by dsimp only; omega)⟩)
    exact ⟨x_w2, L_w2, a_w2, k_w2, g_w2, lo_w2, hi_w2, _, rfl, hx_w2, hL0_w2, by omega, stz.sl 0 _ rfl, by show _ ≤ lo_w2; omega, stz.below (by omega)⟩

set_option maxRecDepth 100000 in
set_option maxHeartbeats 4000000 in
theorem DrawLiftCyclo_any (w : World) (hb : Bytes w B p n) (hB : B ≤ w.heap.size) :
    Calls Try.prog 112 #[.slice p n q] w (DrXi w) := by
  have B0 := Below.refl w.heap.size w
  replace B0 := B0.alloc (Nat.le_refl _) (.cells #[.int .i64 0, .slice none 0 0] 26)
  have bx0 := Box.made (w) #[.int .i64 0, .slice none 0 0] 26 [.int .i64 0, .slice none 0 0] (fun j v h => by simpa using h)
  have hb0 := hb.below B0
  clear hb
  go_enter Try.func112, Try.ntmps112
  go_wp2_with fail
  refine (l01From_any B p n q _ hb0 (by (try simp only [World.size_alloc]); omega)).mono ?_
  rintro e w1 ⟨rfl, hs1, hb1, b1⟩
  have hz_w1 := b1.size
  try simp only [World.size_alloc] at hz_w1 hs1 bx0
  have st1 := Ds.at hB (B0.trans (b1.mono (by (try simp only [World.size_alloc]); omega))) hs1 hb1 (by omega)
  have hbz := hs1.lt
  replace st1 := st1.addBox (w.heap.size) [.int .i64 0, .slice none 0 0] (bx0.keep (by simpa only [World.size_alloc] using b1)) (by omega)
  clear hb0 B0 b1 hs1 hb1 bx0
  have hl := Sl.list (w1) [1, 2, 3, 4, 5, 6, 7, 8] (by intro t ht; simp only [List.mem_cons, List.not_mem_nil, or_false] at ht; unfold inR; rcases ht with rfl | rfl | rfl | rfl | rfl | rfl | rfl | rfl <;> omega) (by simp [maxLen])
  replace st1 := st1.alloc (.cells ([1, 2, 3, 4, 5, 6, 7, 8].map (Value.int .i64)).toArray 2)
  simp only [List.map_cons, List.map_nil, List.length_cons, List.length_nil, World.size_alloc] at hl st1
  have hall : ∀ t ∈ ([1, 2, 3, 4, 5, 6, 7, 8] : List Int), (fun x : Int => 1 ≤ x ∧ x ≤ 8) t := by intro t ht; simp only [List.mem_cons, List.not_mem_nil, or_false] at ht; (try dsimp only); rcases ht with rfl | rfl | rfl | rfl | rfl | rfl | rfl | rfl <;> omega
  have HALL := Lib.hid hall
  clear hall
  go_wp2_with fail
  refine (l01Pick_any _ _ _ _ _ _ st1.src st1.bytes st1.low hl (.inr (by omega)) (by omega) (by omega)).mono ?_
  rintro e w2 ⟨i_w2, hi_w2, rfl, hs_w2, f_w2⟩
  have hz_w2 := f_w2.size
  try simp only [World.size_alloc] at hz_w2
  have st2 := st1.draw hs_w2 f_w2
  clear hl st1 hs_w2 f_w2
  have h_y : (fun x : Int => 1 ≤ x ∧ x ≤ 8) (([1, 2, 3, 4, 5, 6, 7, 8] : List Int).getD i_w2 0) := by
    rw [List.getD_eq_getElem?_getD, List.getElem?_eq_getElem (by simpa using hi_w2)]
    exact HALL.out _ (List.getElem_mem _)
  generalize ([1, 2, 3, 4, 5, 6, 7, 8] : List Int).getD i_w2 0 = y at *
  try dsimp only at h_y
  clear HALL hi_w2
  have hl := Sl.list (w2) [2, 9, 1000000000] (by intro t ht; simp only [List.mem_cons, List.not_mem_nil, or_false] at ht; unfold inR; rcases ht with rfl | rfl | rfl <;> omega) (by simp [maxLen])
  replace st2 := st2.alloc (.cells ([2, 9, 1000000000].map (Value.int .i64)).toArray 2)
  simp only [List.map_cons, List.map_nil, List.length_cons, List.length_nil, World.size_alloc] at hl st2
  have hall : ∀ t ∈ ([2, 9, 1000000000] : List Int), (fun x : Int => 0 ≤ x ∧ x ≤ 1000000000) t := by intro t ht; simp only [List.mem_cons, List.not_mem_nil, or_false] at ht; (try dsimp only); rcases ht with rfl | rfl | rfl <;> omega
  have HALL := Lib.hid hall
  clear hall
  go_wp2_with fail
  refine (l01Pick_any _ _ _ _ _ _ st2.src st2.bytes st2.low hl (.inr (by omega)) (by omega) (by omega)).mono ?_
  rintro e w3 ⟨i_w3, hi_w3, rfl, hs_w3, f_w3⟩
  have hz_w3 := f_w3.size
  try simp only [World.size_alloc] at hz_w3
  have st3 := st2.draw hs_w3 f_w3
  clear hl st2 hs_w3 f_w3
  have h_z : (fun x : Int => 0 ≤ x ∧ x ≤ 1000000000) (([2, 9, 1000000000] : List Int).getD i_w3 0) := by
    rw [List.getD_eq_getElem?_getD, List.getElem?_eq_getElem (by simpa using hi_w3)]
    exact HALL.out _ (List.getElem_mem _)
  generalize ([2, 9, 1000000000] : List Int).getD i_w3 0 = z at *
  try dsimp only at h_z
  clear HALL hi_w3
  obtain ⟨N, rfl⟩ := Int.eq_ofNat_of_zero_le (show 0 ≤ y by omega)
  have hN1 : 1 ≤ N := by omega
  have hN2 : N ≤ 16 := by omega
  have hp := phi_le12 N hN2 hN1
  have hp1 := phiN_pos N (by omega) hN1
  go_wp2_with fail
  refine (l01DrawOf_any N z _ st3.src st3.bytes st3.low hN1 hN2 h_z.1 h_z.2).mono ?_
  rintro e w4 ⟨a_w4, k_w4, g_w4, rfl, s_w4, hw_w4, hs_w4, _, f_w4⟩
  have hz_w4 := f_w4.size
  try simp only [World.size_alloc] at hz_w4
  have st4 := st3.draw hs_w4 f_w4
  try simp only [World.size_alloc] at s_w4
  replace st4 := st4.addSl ⟨true, w3.heap.size, w4.heap.size, .slice a_w4 (phiN N) k_w4, (phiN N), g_w4⟩ s_w4 (.inr (by dsimp only; omega))
  clear st3 hs_w4 f_w4 s_w4
  have q_t := st4.sl 0 ⟨true, w3.heap.size, w4.heap.size, .slice a_w4 (phiN N) k_w4, (phiN N), g_w4⟩ rfl
  dsimp only at q_t
  go_wp2_with fail
  refine (l01Bad_any (N : Int) _ st4.src st4.bytes st4.low (by unfold inR; omega) q_t (by omega) hp1 (by omega)).mono ?_
  rintro e w5 ⟨x_w5, L_w5, a_w5, k_w5, g_w5, lo_w5, hi_w5, rfl, hx_w5, hL0_w5, hL_w5, s_w5, hlo_w5, hs_w5, f_w5⟩
  have hz_w5 := f_w5.size
  try simp only [World.size_alloc] at hz_w5
  have st5 := st4.draw hs_w5 f_w5
  try simp only [World.size_alloc] at s_w5
  replace st5 := st5.addSl ⟨false, lo_w5, hi_w5, .slice a_w5 L_w5 k_w5, L_w5, g_w5⟩ s_w5 (.inr (by dsimp only; omega))
  clear q_t st4 hs_w5 f_w5 s_w5
  replace st5 := st5.newBox [.int .i64 x_w5, .slice a_w5 L_w5 k_w5] 26
  obtain ⟨c_x_0, c_x_1⟩ := (st5.box 0 (w5.heap.size, [.int .i64 x_w5, .slice a_w5 L_w5 k_w5]) rfl).cell2
  have z_x := (st5.box 0 (w5.heap.size, [.int .i64 x_w5, .slice a_w5 L_w5 k_w5]) rfl).2.2
  dsimp only at c_x_0 c_x_1 z_x
  have ST := Lib.hid st5; clear st5
  go_wp2_with fail
  go_region_held3 (fun w' => w'.cell? ⟨w5.heap.size, 0, none⟩ = some (.int .i64 x_w5) ∧ w'.cell? ⟨w5.heap.size, 1, none⟩ = some (.slice a_w5 L_w5 k_w5))
    (first | exact ⟨c_x_0, c_x_1⟩ | (have q := (st90.box 0 (w5.heap.size, [.int .i64 x_w5, .slice a_w5 L_w5 k_w5]) rfl).cell2; with_reducible exact ⟨q.1, q.2⟩) | (have q := (st80.box 0 (w5.heap.size, [.int .i64 x_w5, .slice a_w5 L_w5 k_w5]) rfl).cell2; with_reducible exact ⟨q.1, q.2⟩) | (have q := (st70.box 0 (w5.heap.size, [.int .i64 x_w5, .slice a_w5 L_w5 k_w5]) rfl).cell2; with_reducible exact ⟨q.1, q.2⟩) | (have q := (ST.out.drew.box 0 (w5.heap.size, [.int .i64 x_w5, .slice a_w5 L_w5 k_w5]) rfl).cell2; with_reducible exact ⟨q.1, q.2⟩) | (have q := (ST.out.box 0 (w5.heap.size, [.int .i64 x_w5, .slice a_w5 L_w5 k_w5]) rfl).cell2; with_reducible exact ⟨q.1, q.2⟩) | (have q := (st90.box 0 (w5.heap.size, [.int .i64 x_w5, .slice a_w5 L_w5 k_w5]) rfl).cell2; exact ⟨cell_set2 q.1 (by omega), cell_set2 q.2 (by omega)⟩) | go_keep)
    (first
      | (go_at_call 161; have _g := st80; refine (pick5_ds (p := p) (n := n) (q := q) B w (fun j => [0, 0, 0, 0, 1].getD j 0) [(w5.heap.size, [.int .i64 x_w5, .slice a_w5 L_w5 k_w5]), (w.heap.size, [.int .i64 0, .slice none 0 0])] [⟨false, lo_w5, hi_w5, .slice a_w5 L_w5 k_w5, L_w5, g_w5⟩, ⟨true, w3.heap.size, w4.heap.size, .slice a_w4 (phiN N) k_w4, (phiN N), g_w4⟩] (by ((repeat' (first | with_reducible exact st80 | with_reducible refine Ds.drew ?_ | with_reducible refine Ds.alloc ?_ _))); (first | done | fail)) (by (repeat' (first | with_reducible exact sB | with_reducible exact lst5g _ _ _ _ _ _ _ (by first | (simp only [World.size_drew, World.size_alloc]; done) | (simp only [World.size_drew, World.size_alloc]; omega) | omega) (by unfold inR; omega) (by unfold inR; omega) (by unfold inR; omega) (by unfold inR; omega) (by unfold inR; omega) | with_reducible refine Sl.drew ?_ | with_reducible refine Sl.alloc ?_ _)); (first | done | fail)) (by first | (simp only [World.size_drew, World.size_alloc]; omega) | omega)).mono ?_; rintro e w90 ⟨m9, rfl, st90, hz90⟩; (try simp only [World.size_drew, World.size_alloc] at hz90); obtain ⟨c_r_0, c_r_1⟩ := (st90.box 1 (w.heap.size, [.int .i64 0, .slice none 0 0]) rfl).cell2; have z_r := (st90.box 1 (w.heap.size, [.int .i64 0, .slice none 0 0]) rfl).2.2; dsimp only at c_r_0 c_r_1 z_r)
      | (go_at_call 161; (first | (refine (pick5_ds (p := p) (n := n) (q := q) B w (fun j => [1, 2, 2, 3, 4].getD j 0) [(w5.heap.size, [.int .i64 x_w5, .slice a_w5 L_w5 k_w5]), (w.heap.size, [.int .i64 0, .slice none 0 0])] (⟨true, w5.heap.size + 1 + 1, w5.heap.size + 1 + 1 + 1, .slice (some ⟨w5.heap.size + 1 + 1, 0, none⟩) 5 5, 5, fun j => [0, 0, 0, 0, 1].getD j 0⟩ :: [⟨false, lo_w5, hi_w5, .slice a_w5 L_w5 k_w5, L_w5, g_w5⟩, ⟨true, w3.heap.size, w4.heap.size, .slice a_w4 (phiN N) k_w4, (phiN N), g_w4⟩]) (by (first | exact Ds.addSl (by (repeat' (first | with_reducible exact ST.out | with_reducible refine Ds.drew ?_ | with_reducible refine Ds.alloc ?_ _))) _ (by dsimp only; (repeat' (first | with_reducible exact sB | with_reducible exact lst5g _ _ _ _ _ _ _ (by first | (simp only [World.size_drew, World.size_alloc]; done) | (simp only [World.size_drew, World.size_alloc]; omega) | omega) (by unfold inR; omega) (by unfold inR; omega) (by unfold inR; omega) (by unfold inR; omega) (by unfold inR; omega) | with_reducible refine Sl.drew ?_ | with_reducible refine Sl.alloc ?_ _)); (first | done | fail)) (.inr (by dsimp only; omega)) | fail); (first | done | fail)) (by (repeat' (first | with_reducible exact sB | with_reducible exact lst5g _ _ _ _ _ _ _ (by first | (simp only [World.size_drew, World.size_alloc]; done) | (simp only [World.size_drew, World.size_alloc]; omega) | omega) (by unfold inR; omega) (by unfold inR; omega) (by unfold inR; omega) (by unfold inR; omega) (by unfold inR; omega) | with_reducible refine Sl.drew ?_ | with_reducible refine Sl.alloc ?_ _)); (first | done | fail)) (by first | (simp only [World.size_drew, World.size_alloc]; omega) | omega)).mono ?_; rintro e w80 ⟨m8, rfl, st80, hz80⟩; (try simp only [World.size_drew, World.size_alloc] at hz80); have sB := st80.sl 0 _ rfl; dsimp only at sB; replace st80 := st80.tail) | (refine (pick5_ds (p := p) (n := n) (q := q) B w (fun j => [1, 2, 2, 3, 4].getD j 0) [(w5.heap.size, [.int .i64 x_w5, .slice a_w5 L_w5 k_w5]), (w.heap.size, [.int .i64 0, .slice none 0 0])] (⟨true, w5.heap.size + 1, w5.heap.size + 1 + 1, .slice (some ⟨w5.heap.size + 1, 0, none⟩) 5 5, 5, fun j => [0, 0, 0, 0, 1].getD j 0⟩ :: [⟨false, lo_w5, hi_w5, .slice a_w5 L_w5 k_w5, L_w5, g_w5⟩, ⟨true, w3.heap.size, w4.heap.size, .slice a_w4 (phiN N) k_w4, (phiN N), g_w4⟩]) (by (first | exact Ds.addSl (by (repeat' (first | with_reducible exact ST.out | with_reducible refine Ds.drew ?_ | with_reducible refine Ds.alloc ?_ _))) _ (by dsimp only; (repeat' (first | with_reducible exact sB | with_reducible exact lst5g _ _ _ _ _ _ _ (by first | (simp only [World.size_drew, World.size_alloc]; done) | (simp only [World.size_drew, World.size_alloc]; omega) | omega) (by unfold inR; omega) (by unfold inR; omega) (by unfold inR; omega) (by unfold inR; omega) (by unfold inR; omega) | with_reducible refine Sl.drew ?_ | with_reducible refine Sl.alloc ?_ _)); (first | done | fail)) (.inr (by dsimp only; omega)) | fail); (first | done | fail)) (by (repeat' (first | with_reducible exact sB | with_reducible exact lst5g _ _ _ _ _ _ _ (by first | (simp only [World.size_drew, World.size_alloc]; done) | (simp only [World.size_drew, World.size_alloc]; omega) | omega) (by unfold inR; omega) (by unfold inR; omega) (by unfold inR; omega) (by unfold inR; omega) (by unfold inR; omega) | with_reducible refine Sl.drew ?_ | with_reducible refine Sl.alloc ?_ _)); (first | done | fail)) (by first | (simp only [World.size_drew, World.size_alloc]; omega) | omega)).mono ?_; rintro e w80 ⟨m8, rfl, st80, hz80⟩; (try simp only [World.size_drew, World.size_alloc] at hz80); have sB := st80.sl 0 _ rfl; dsimp only at sB; replace st80 := st80.tail) | (refine (pick5_ds (p := p) (n := n) (q := q) B w (fun j => [1, 2, 2, 3, 4].getD j 0) [(w5.heap.size, [.int .i64 x_w5, .slice a_w5 L_w5 k_w5]), (w.heap.size, [.int .i64 0, .slice none 0 0])] [⟨false, lo_w5, hi_w5, .slice a_w5 L_w5 k_w5, L_w5, g_w5⟩, ⟨true, w3.heap.size, w4.heap.size, .slice a_w4 (phiN N) k_w4, (phiN N), g_w4⟩] (by ((repeat' (first | with_reducible exact ST.out | with_reducible refine Ds.drew ?_ | with_reducible refine Ds.alloc ?_ _))); (first | done | fail)) (by (repeat' (first | with_reducible exact sB | with_reducible exact lst5g _ _ _ _ _ _ _ (by first | (simp only [World.size_drew, World.size_alloc]; done) | (simp only [World.size_drew, World.size_alloc]; omega) | omega) (by unfold inR; omega) (by unfold inR; omega) (by unfold inR; omega) (by unfold inR; omega) (by unfold inR; omega) | with_reducible refine Sl.drew ?_ | with_reducible refine Sl.alloc ?_ _)); (first | done | fail)) (by first | (simp only [World.size_drew, World.size_alloc]; omega) | omega)).mono ?_; rintro e w80 ⟨m8, rfl, st80, hz80⟩; (try simp only [World.size_drew, World.size_alloc] at hz80)))))
  all_goals
    go_wp2
    refine bodyPost_ret (v := .tuple #[.agg #[.int .i64 x_w5, .slice a_w5 L_w5 k_w5], .int .i64 _]) (by simp [results, Try.results112, go_sem, c_r_0, c_r_1]; rfl) rfl ?_
    have FS : Frame w.heap.size (w.heap.size + 1) w90 ((w90.setCell ⟨w.heap.size, 0, none⟩ (.int .i64 x_w5)).setCell ⟨w.heap.size, 1, none⟩ (.slice a_w5 L_w5 k_w5)) := ((Frame.refl _ _ _).set (by omega) (by omega) _).set (by omega) (by omega) _
    have stz := st90.write FS (by omega) (by omega) [] [⟨false, lo_w5, hi_w5, .slice a_w5 L_w5 k_w5, L_w5, g_w5⟩] (fun x hx => by cases hx) (fun s hs => by obtain rfl := List.mem_singleton.1 hs; exact ⟨List.mem_cons_self, .inr (by dsimp only; omega)⟩)
    exact ⟨x_w5, L_w5, a_w5, k_w5, g_w5, lo_w5, hi_w5, _, rfl, hx_w5, hL0_w5, by omega, stz.sl 0 _ rfl, by show _ ≤ lo_w5; omega, stz.below (by omega)⟩
end
end

section
open Go.RowKit Go.ChangeShapes Go.Sort
set_option linter.unusedVariables false
set_option linter.unusedSimpArgs false
section
variable {o o' : Bool} {lo hi lo' hi' L : Nat} {v v' : Value} {f g : Nat → Int}
set_option maxRecDepth 100000 in
set_option maxHeartbeats 1000000 in
theorem l01Plus_gen (x k : Int) (w : World) (hs : Sl o w lo hi v L f) (ht : Sl o' w lo' hi' v' L g) (hf : Within f L 1000000000) (hg : ∀ q, q < L → -1000000000000 ≤ k * g q ∧ k * g q ≤ 1000000000000) (hL : L ≤ 24) :
    Calls Try.prog 140 #[.agg #[.int .i64 x, v], .agg #[.int .i64 x, v'], .int .i64 k] w fun e w' => ∃ a' cap', e = .returned (.agg #[.int .i64 x, .slice a' L cap']) ∧ Sl true w' w.heap.size w'.heap.size (.slice a' L cap') L (addF k f g) ∧ Below w.heap.size w w' := by
  have hhs := hs.size
  have hht := ht.size
  obtain ⟨a, cap, rfl⟩ := hs.shape
  obtain ⟨a', cap', rfl⟩ := ht.shape
  have st0 := (((((St.start w).addSl ⟨o, lo, hi, .slice a L cap, L, f⟩ hs).addSl ⟨o', lo', hi', .slice a' L cap', L, g⟩ ht).alloc (.cells #[.int .i64 x, .slice a L cap] 26)).addBox w.heap.size [.int .i64 x, .slice a L cap] (Box.made _ _ _ _ (fun j v h => by simpa using h)))
  replace st0 := (st0.alloc (.cells #[.int .i64 x, .slice a' L cap'] 26)).addBox _ [.int .i64 x, .slice a' L cap'] (Box.made _ _ _ _ (fun j v h => by simpa using h))
  replace st0 := (st0.alloc (.cells #[.int .i64 0, .slice none 0 0] 26)).addBox _ [.int .i64 0, .slice none 0 0] (Box.made _ _ _ _ (fun j v h => by simpa using h))
  simp only [World.size_alloc] at st0
  clear hs ht
  have HF := Lib.hid hf
  have HG := Lib.hid hg
  clear hf hg
  obtain ⟨x0, x1⟩ := (st0.box 2 (w.heap.size, [.int .i64 x, .slice a L cap]) rfl).cell2
  go_enter Try.func140, Try.ntmps140
  go_wp2
  go_cut [7] (fun s7 wx => ∃ b lo1 hi1 a1 k1, s7 = .pointer (some ⟨b, 0, none⟩) ∧ Sl true wx lo1 hi1 (.slice a1 L k1) L f ∧ (b < lo1 ∨ hi1 ≤ b) ∧ w.heap.size + 1 + 1 + 1 ≤ lo1 ∧ w.heap.size + 1 + 1 + 1 ≤ b ∧ b < wx.heap.size ∧
    St w wx ((b, [.int .i64 x, .slice a1 L k1]) :: [(w.heap.size + 1 + 1, [.int .i64 0, .slice none 0 0]), (w.heap.size + 1, [.int .i64 x, .slice a' L cap']), (w.heap.size, [.int .i64 x, .slice a L cap])]) [⟨o', lo', hi', .slice a' L cap', L, g⟩, ⟨o, lo, hi, .slice a L cap, L, f⟩])
  case first =>
    go_region_held3 (fun w' => w'.cell? ⟨w.heap.size, 0, none⟩ = some (.int .i64 x) ∧ w'.cell? ⟨w.heap.size, 1, none⟩ = some (.slice a L cap))
      (first | exact ⟨x0, x1⟩ | exact ⟨cell_later b6 x0, cell_later b6 x1⟩ | exact ⟨cell_later ((Below.refl _ _).alloc (Nat.le_refl _) _) (cell_later b6 x0), cell_later ((Below.refl _ _).alloc (Nat.le_refl _) _) (cell_later b6 x1)⟩ | exact ⟨cell_later ((Below.refl _ _).alloc (Nat.le_refl _) _) x0, cell_later ((Below.refl _ _).alloc (Nat.le_refl _) _) x1⟩ | exact ⟨cell_later b6 (cell_later (((Below.refl _ _).alloc (Nat.le_refl _) _).drew) x0), cell_later b6 (cell_later (((Below.refl _ _).alloc (Nat.le_refl _) _).drew) x1)⟩ | exact ⟨cell_set2 (cell_later b6 (cell_later (((Below.refl _ _).alloc (Nat.le_refl _) _).drew) x0)) (by omega), cell_set2 (cell_later b6 (cell_later (((Below.refl _ _).alloc (Nat.le_refl _) _).drew) x1)) (by omega)⟩ | go_keep)
      (first
        | (go_at_call 220; refine (l01Own_any _ (by first | exact st0.drew.sl 1 ⟨o, lo, hi, .slice a L cap, L, f⟩ rfl | exact ((st0.alloc _).drew).sl 1 ⟨o, lo, hi, .slice a L cap, L, f⟩ rfl) (Nat.le_trans hL (by decide))).mono ?_; rintro e w6 ⟨a6, k6, rfl, s6, b6⟩
           try (have stb := ((st0.alloc (.cells #[.int .i64 0, .slice none 0 0] 26)).addBox _ [.int .i64 0, .slice none 0 0] (Box.made _ _ _ _ (fun j v h => by simpa using h))).drew.keep b6
                obtain ⟨o0, o1⟩ := (stb.box 0 _ rfl).cell2
                have oz := (stb.box 0 _ rfl).2.2
                dsimp only at oz
                simp only [World.size_alloc] at o0 o1 oz)))
    all_goals
      go_wp2_with fail
      go_meet
      have hz6 := b6.size
      simp only [World.size_drew, World.size_alloc] at hz6 s6
      first
        | exact ⟨w6.heap.size, _, _, a6, k6, rfl, s6.alloc _, .inr (Nat.le_refl _), Nat.le_refl _, by omega, by simp, (st0.drew.keep b6).boxNew _ _ _⟩
        | (have stb := ((st0.boxNew (.int .i64 0) (.slice none 0 0) 26).drew.keep b6).boxSet (u0 := .int .i64 x) (u1 := .slice a6 L k6) (by simp only [World.size_alloc]; omega)
             (by simp only [World.size_alloc]; intro b hb; simp only [List.mem_cons, List.not_mem_nil, or_false] at hb; rcases hb with rfl | rfl | rfl <;> dsimp only <;> omega)
             (by simp only [World.size_alloc]; intro s hs'; simp only [List.mem_cons, List.not_mem_nil, or_false] at hs'; rcases hs' with rfl | rfl <;> dsimp only <;> omega)
           simp only [World.size_alloc] at stb
           exact ⟨_, _, _, a6, k6, rfl, (s6.setOther (.inl (Nat.lt_succ_self _)) _).setOther (.inl (Nat.lt_succ_self _)) _, .inl (Nat.lt_succ_self _), by omega, Nat.le_refl _, by simp only [World.size_setCell]; omega, stb⟩)
  case rest =>
    obtain ⟨b, lo1, hi1, a1, k1, rfl, hown, hd, hb1, hb2, hb3, hst⟩ := hcut
    have HO0 := Lib.hid hown
    have HT0 := Lib.hid hst
    clear hown hst x0 x1 st0
    go_wp2
    go_loopw [8] (fun s8 wr => ∃ q : Nat, q ≤ L ∧ s8 = .int .i64 q ∧ Sl true wr lo1 hi1 (.slice a1 L k1) L (addQ k f g q) ∧
      St w wr ((b, [.int .i64 x, .slice a1 L k1]) :: [(w.heap.size + 1 + 1, [.int .i64 0, .slice none 0 0]), (w.heap.size + 1, [.int .i64 x, .slice a' L cap']), (w.heap.size, [.int .i64 x, .slice a L cap])]) [⟨o', lo', hi', .slice a' L cap', L, g⟩, ⟨o, lo, hi, .slice a L cap, L, f⟩]) (fun s8 _ => L - (intOf s8).toNat)
    case atStart => exact ⟨0, Nat.zero_le _, rfl, HO0.out, HT0.out⟩
    case round =>
      clear HO0 HT0
      obtain ⟨q, hq, rfl, hown, hst⟩ := hrel
      have HO := Lib.hid hown; clear hown
      have HT := Lib.hid hst; clear hst
      obtain ⟨y0, y1⟩ := (HT.out.box 2 (w.heap.size + 1, [.int .i64 x, .slice a' L cap']) rfl).cell2
      obtain ⟨p0, p1⟩ := (HT.out.box 0 (b, [.int .i64 x, .slice a1 L k1]) rfl).cell2
      have hz := HO.out.size
      by_cases hlt : q < L
      · have qa := HT.out.sl 0 ⟨o', lo', hi', .slice a' L cap', L, g⟩ rfl
        dsimp only at qa
        obtain ⟨bb, off, c1, hv, _, _, _, _, hc, _⟩ := qa.at (by omega)
        obtain ⟨rfl, rfl⟩ : a' = some ⟨bb, off, none⟩ ∧ cap' = c1 := by cases hv; exact ⟨rfl, rfl⟩
        have hck := hc q hlt
        obtain ⟨hm1, hm2⟩ := HG.out q hlt
        obtain ⟨hf1, hf2⟩ := HF.out q hlt
        clear hv hc qa
        have HW2 := Lib.hid (addQ_succ k f g q)
        obtain ⟨b2, off2, c2, hv2, _⟩ := HO.out.at (by omega)
        obtain ⟨rfl, rfl⟩ : a1 = some ⟨b2, off2, none⟩ ∧ k1 = c2 := by cases hv2; exact ⟨rfl, rfl⟩
        clear hv2
        obtain ⟨hbl, hbh, _, hc2, hfz⟩ := HO.out.known (by omega)
        have hck2 := hc2 q hlt
        rw [show addQ k f g q q = f q from by unfold addQ; rw [if_neg (Nat.lt_irrefl _)]] at hck2
        have hfr := hfz rfl (off2 + q)
        clear hc2 hfz
        have hlt3 : (q : Int) < L := by omega
        have hwm : IntKind.i64.wrap (k * g q) = k * g q := IntWalk.i64_in _ (by omega)
        have hws : IntKind.i64.wrap (f q + k * g q) = f q + k * g q := IntWalk.i64_in _ (by omega)
        go_wp2
        go_region
        all_goals
          go_wp2
          go_roundw
          case rel =>
            refine ⟨q + 1, by omega, by go_num, ?_, ?_⟩
            · rw [HW2.out]
              refine ((HO.out.store (i := q) (by omega) (by unfold inR; omega))).drew.congr (fun j hj => ?_)
              by_cases e : j = q
              · subst e; simp
              · simp [e]
            · exact (HT.out.write (lo := lo1) (hi := hi1) ((Frame.refl lo1 hi1 wr).setCell hbl hbh _) (by omega) (by intro b hb; simp only [List.mem_cons, List.not_mem_nil, or_false] at hb; rcases hb with rfl | rfl | rfl | rfl <;> dsimp only <;> omega) (by intro s hs'; simp only [List.mem_cons, List.not_mem_nil, or_false] at hs'; rcases hs' with rfl | rfl <;> dsimp only <;> omega)).drew
          case measure => simp [intOf] <;> omega
      · obtain rfl : q = L := by omega
        obtain ⟨d0, d1⟩ := (HT.out.box 1 (w.heap.size + 1 + 1, [.int .i64 0, .slice none 0 0]) rfl).cell2
        have dz := (HT.out.box 1 (w.heap.size + 1 + 1, [.int .i64 0, .slice none 0 0]) rfl).2.2
        have BB := HT.out.1
        dsimp only at dz
        go_wp2
        refine bodyPost_ret (v := .agg #[.int .i64 x, .slice a1 q k1]) (by simp [results, Try.results140, go_sem, d0, d1]) rfl ?_
        refine ⟨_, _, rfl, ?_, by go_grown⟩
        exact (((HO.out.setOther (.inl (by show w.heap.size + 1 + 1 < _; omega)) _).setOther (.inl (by show w.heap.size + 1 + 1 < _; omega)) _).wide (by omega) (by simp; omega) (Nat.le_refl _)).congr (fun j hj => by unfold addQ; rw [if_pos hj])
end
end

section
open Go.RowKit Go.ChangeShapes Go.Sort
set_option linter.unusedVariables false
set_option linter.unusedSimpArgs false
section
variable {B : Nat} {p : Option Addr} {n q : Nat}
set_option maxRecDepth 100000 in
set_option maxHeartbeats 4000000 in
theorem DrawIsReal_any (w : World) (hb : Bytes w B p n) (hB : B ≤ w.heap.size) :
    Calls Try.prog 118 #[.slice p n q] w (DrX 13 w) := by
  have B0 := Below.refl w.heap.size w
  replace B0 := B0.alloc (Nat.le_refl _) (.cells #[.int .i64 0, .slice none 0 0] 26)
  have bx0 := Box.made (w) #[.int .i64 0, .slice none 0 0] 26 [.int .i64 0, .slice none 0 0] (fun j v h => by simpa using h)
  have hb0 := hb.below B0
  clear hb
  go_enter Try.func118, Try.ntmps118
  go_wp2_with fail
  refine (l01From_any B p n q _ hb0 (by (try simp only [World.size_alloc]); omega)).mono ?_
  rintro e w1 ⟨rfl, hs1, hb1, b1⟩
  have hz_w1 := b1.size
  try simp only [World.size_alloc] at hz_w1 hs1 bx0
  have st1 := Ds.at hB (B0.trans (b1.mono (by (try simp only [World.size_alloc]); omega))) hs1 hb1 (by omega)
  have hbz := hs1.lt
  replace st1 := st1.addBox (w.heap.size) [.int .i64 0, .slice none 0 0] (bx0.keep (by simpa only [World.size_alloc] using b1)) (by omega)
  clear hb0 B0 b1 hs1 hb1 bx0
  go_wp2_with fail
  refine (l01DrawOrder_any _ st1.src st1.bytes st1.low).mono ?_
  rintro e w2 ⟨N, rfl, hN1, hN2, hs_w2, _, f_w2⟩
  have hz_w2 := f_w2.size
  try simp only [World.size_alloc] at hz_w2
  have st2 := st1.draw hs_w2 f_w2
  clear st1 hs_w2 f_w2
  have hl := Sl.list (w2) [2, 9, 1000] (by intro t ht; simp only [List.mem_cons, List.not_mem_nil, or_false] at ht; unfold inR; rcases ht with rfl | rfl | rfl <;> omega) (by simp [maxLen])
  replace st2 := st2.alloc (.cells ([2, 9, 1000].map (Value.int .i64)).toArray 2)
  simp only [List.map_cons, List.map_nil, List.length_cons, List.length_nil, World.size_alloc] at hl st2
  have hall : ∀ t ∈ ([2, 9, 1000] : List Int), (fun x : Int => 0 ≤ x ∧ x ≤ 1000000000) t := by intro t ht; simp only [List.mem_cons, List.not_mem_nil, or_false] at ht; (try dsimp only); rcases ht with rfl | rfl | rfl <;> omega
  have HALL := Lib.hid hall
  clear hall
  go_wp2_with fail
  refine (l01Pick_any _ _ _ _ _ _ st2.src st2.bytes st2.low hl (.inr (by omega)) (by omega) (by omega)).mono ?_
  rintro e w3 ⟨i_w3, hi_w3, rfl, hs_w3, f_w3⟩
  have hz_w3 := f_w3.size
  try simp only [World.size_alloc] at hz_w3
  have st3 := st2.draw hs_w3 f_w3
  clear hl st2 hs_w3 f_w3
  have h_z : (fun x : Int => 0 ≤ x ∧ x ≤ 1000000000) (([2, 9, 1000] : List Int).getD i_w3 0) := by
    rw [List.getD_eq_getElem?_getD, List.getElem?_eq_getElem (by simpa using hi_w3)]
    exact HALL.out _ (List.getElem_mem _)
  generalize ([2, 9, 1000] : List Int).getD i_w3 0 = z at *
  try dsimp only at h_z
  clear HALL hi_w3
  have hp := phi_le12 N hN2 hN1
  have hp1 := phiN_pos N (by omega) hN1
  go_wp2_with fail
  refine (l01DrawOf_any N z _ st3.src st3.bytes st3.low hN1 hN2 h_z.1 h_z.2).mono ?_
  rintro e w4 ⟨a_w4, k_w4, g_w4, rfl, s_w4, hw_w4, hs_w4, _, f_w4⟩
  have hz_w4 := f_w4.size
  try simp only [World.size_alloc] at hz_w4
  have st4 := st3.draw hs_w4 f_w4
  try simp only [World.size_alloc] at s_w4
  replace st4 := st4.addSl ⟨true, w3.heap.size, w4.heap.size, .slice a_w4 (phiN N) k_w4, (phiN N), g_w4⟩ s_w4 (.inr (by dsimp only; omega))
  clear st3 hs_w4 f_w4 s_w4
  replace st4 := st4.newBox [.int .i64 (N : Int), .slice a_w4 (phiN N) k_w4] 26
  have HW := Lib.hid hw_w4; clear hw_w4
  go_wp2_with fail
  refine (l01Next_any _ _ _ _ _ 2 _ st4.src st4.bytes st4.low (by omega) (by omega)).mono ?_
  rintro e w5 ⟨r, rfl, hr1, hr2, hs_w5, f_w5⟩
  have hz_w5 := f_w5.size
  try simp only [World.size_alloc] at hz_w5
  have st5 := st4.draw hs_w5 f_w5
  clear st4 hs_w5 f_w5
  by_cases h0 : r = 0
  · subst h0
    obtain ⟨c_x_0, c_x_1⟩ := (st5.box 0 (w4.heap.size, [.int .i64 (N : Int), .slice a_w4 (phiN N) k_w4]) rfl).cell2
    have z_x := (st5.box 0 (w4.heap.size, [.int .i64 (N : Int), .slice a_w4 (phiN N) k_w4]) rfl).2.2
    dsimp only at c_x_0 c_x_1 z_x
    have HST := Lib.hid st5; clear st5
    obtain ⟨V, hV⟩ : ∃ V, imgP N (N - 1) (phiN N) g_w4 = V := ⟨_, rfl⟩
    have HV := Lib.hid (show ∀ j, j < phiN N → -12000000000 ≤ V j ∧ V j ≤ 12000000000 from fun j hj => by rw [← hV]; exact img_big (by omega) hN1 HW.out hp j hj)
    go_wp2_with fail
    go_region_law (first
      | (go_simp; go_at_call 132; refine (l01Bar_any N hN1 hN2 _ (HST.out.drew.sl 0 ⟨true, w3.heap.size, w4.heap.size, .slice a_w4 (phiN N) k_w4, (phiN N), g_w4⟩ rfl) (show phiN N ≤ N from phi_le_n)).mono ?_; rintro e w60 ⟨a60, k60, rfl, s60, b60⟩
         have hz60 := b60.size
         (try simp only [World.size_drew] at hz60 s60)
         rw [hV] at s60
         have st60 := HST.out.drew.keep b60
         obtain ⟨y0, y1⟩ := (st60.box 0 (w4.heap.size, [.int .i64 (N : Int), .slice a_w4 (phiN N) k_w4]) rfl).cell2
         (try dsimp only at y0 y1))
      | (go_simp; go_at_call 140; refine (l01Plus_gen (N : Int) 1 _ (st60.sl 0 ⟨true, w3.heap.size, w4.heap.size, .slice a_w4 (phiN N) k_w4, (phiN N), g_w4⟩ rfl) s60 HW.out (fun j hj => by have := HV.out j hj; omega) (by show phiN N ≤ 24; omega)).mono ?_; rintro e w70 ⟨a70, k70, rfl, s70, b70⟩
         have hz70 := b70.size
         have st70 := st60.keep b70
         obtain ⟨r0, r1⟩ := (st70.box 0 (w4.heap.size, [.int .i64 (N : Int), .slice a_w4 (phiN N) k_w4]) rfl).cell2
         have rz := (st70.box 0 (w4.heap.size, [.int .i64 (N : Int), .slice a_w4 (phiN N) k_w4]) rfl).2.2
         (try dsimp only at r0 r1 rz)))
    all_goals
      have FS := ((Frame.refl (w4.heap.size) (w4.heap.size + 1) w70).set (o := 0) (Nat.le_refl _) (Nat.lt_succ_self _) (.int .i64 (N : Int))).set (o := 1) (Nat.le_refl _) (Nat.lt_succ_self _) (.slice a70 (phiN N) k70)
      have T70 := Lib.hid (((st70.write (w' := ((w70.setCell ⟨w4.heap.size, 0, none⟩ (.int .i64 (N : Int))).setCell ⟨w4.heap.size, 1, none⟩ (.slice a70 (phiN N) k70))) FS (by omega) (by omega) [(w.heap.size, [.int .i64 0, .slice none 0 0])] [] (fun x hx => ⟨by simp only [List.mem_cons, List.not_mem_nil, or_false] at hx ⊢; rcases hx with rfl <;> simp, by simp only [List.mem_cons, List.not_mem_nil, or_false] at hx; rcases hx with rfl <;> first | exact .inl (by (try dsimp only); omega) | exact .inr (by (try dsimp only); omega)⟩) (fun s hs => by cases hs)).addBox (w4.heap.size) [.int .i64 (N : Int), .slice a70 (phiN N) k70] (Box.set2 (st70.box 0 (w4.heap.size, [.int .i64 (N : Int), .slice a_w4 (phiN N) k_w4]) rfl)) (by (try dsimp only); omega)).addSl ⟨true, w60.heap.size, w70.heap.size, .slice a70 (phiN N) k70, phiN N, addF 1 g_w4 V⟩ ((s70.setOther (.inl (by (try dsimp only); omega)) _).setOther (.inl (by (try dsimp only); omega)) _) (.inr (by (try dsimp only); omega)))
      clear st60 st70 s60 s70 b60 b70 FS r0 r1 rz
      obtain ⟨w7, hw7, hz7⟩ : ∃ y : World, y = ((w70.setCell ⟨w4.heap.size, 0, none⟩ (.int .i64 (N : Int))).setCell ⟨w4.heap.size, 1, none⟩ (.slice a70 (phiN N) k70)) ∧ w70.heap.size = y.heap.size := ⟨_, rfl, by simp⟩
      rw [← hw7] at T70
      rw [← hw7]
      clear hw7
      have st80 := T70.out
      clear T70 c_x_0 c_x_1 z_x
      obtain ⟨c_x_0, c_x_1⟩ := (st80.box 0 (w4.heap.size, [.int .i64 (N : Int), .slice a70 (phiN N) k70]) rfl).cell2
      have z_x := (st80.box 0 (w4.heap.size, [.int .i64 (N : Int), .slice a70 (phiN N) k70]) rfl).2.2
      dsimp only at c_x_0 c_x_1 z_x
      have q_t := st80.sl 0 ⟨true, w60.heap.size, w70.heap.size, .slice a70 (phiN N) k70, phiN N, addF 1 g_w4 V⟩ rfl
      dsimp only at q_t
      go_wp2_with fail
      refine (l01Bad_any (N : Int) _ st80.src st80.bytes st80.low (by unfold inR; omega) q_t (by omega) hp1 (by omega)).mono ?_
      rintro e w6 ⟨x_w6, L_w6, a_w6, k_w6, g_w6, lo_w6, hi_w6, rfl, hx_w6, hL0_w6, hL_w6, s_w6, hlo_w6, hs_w6, f_w6⟩
      have hz_w6 := f_w6.size
      try simp only [World.size_alloc] at hz_w6
      have st81 := st80.draw hs_w6 f_w6
      try simp only [World.size_alloc] at s_w6
      replace st81 := st81.addSl ⟨false, lo_w6, hi_w6, .slice a_w6 L_w6 k_w6, L_w6, g_w6⟩ s_w6 (.inr (by dsimp only; omega))
      clear c_x_0 c_x_1 z_x q_t st80 hs_w6 f_w6 s_w6
      obtain ⟨c_r_0, c_r_1⟩ := (st81.box 1 (w.heap.size, [.int .i64 0, .slice none 0 0]) rfl).cell2
      have z_r := (st81.box 1 (w.heap.size, [.int .i64 0, .slice none 0 0]) rfl).2.2
      dsimp only at c_r_0 c_r_1 z_r
      go_wp2
      refine bodyPost_ret (v := .agg #[.int .i64 x_w6, .slice a_w6 L_w6 k_w6]) (by simp [results, Try.results118, go_sem, c_r_0 , c_r_1]) rfl ?_
      have FS : Frame (w.heap.size) (w.heap.size + 1) w6 ((w6.setCell ⟨w.heap.size, 0, none⟩ (.int .i64 x_w6)).setCell ⟨w.heap.size, 1, none⟩ (.slice a_w6 L_w6 k_w6)) := ((Frame.refl _ _ _).set (by omega) (by omega) _).set (by omega) (by omega) _
      have stz := st81.write FS (by omega) (by omega) [] [⟨false, lo_w6, hi_w6, .slice a_w6 L_w6 k_w6, L_w6, g_w6⟩] (fun x hx => by cases hx) (fun s hs => by simp only [List.mem_cons, List.not_mem_nil, or_false] at hs; rcases hs with rfl <;> exact ⟨by simp, by first | exact .inl (by dsimp only; omega) | exact .inr (by dsimp only; omega)⟩)
      exact ⟨x_w6, L_w6, a_w6, k_w6, g_w6, lo_w6, hi_w6, rfl, hx_w6, hL0_w6, by omega, stz.sl 0 _ rfl, by show _ ≤ lo_w6; omega, stz.below (by omega)⟩
  · have e0 : (r == 0) = false := by simpa using h0
    obtain ⟨c_x_0, c_x_1⟩ := (st5.box 0 (w4.heap.size, [.int .i64 (N : Int), .slice a_w4 (phiN N) k_w4]) rfl).cell2
    have z_x := (st5.box 0 (w4.heap.size, [.int .i64 (N : Int), .slice a_w4 (phiN N) k_w4]) rfl).2.2
    dsimp only at c_x_0 c_x_1 z_x
    have q_t := st5.sl 0 ⟨true, w3.heap.size, w4.heap.size, .slice a_w4 (phiN N) k_w4, (phiN N), g_w4⟩ rfl
    dsimp only at q_t
    go_wp2_with fail
    refine (l01Bad_any (N : Int) _ st5.src st5.bytes st5.low (by unfold inR; omega) q_t (by omega) hp1 (by omega)).mono ?_
    rintro e w6 ⟨x_w6, L_w6, a_w6, k_w6, g_w6, lo_w6, hi_w6, rfl, hx_w6, hL0_w6, hL_w6, s_w6, hlo_w6, hs_w6, f_w6⟩
    have hz_w6 := f_w6.size
    try simp only [World.size_alloc] at hz_w6
    have st6 := st5.draw hs_w6 f_w6
    try simp only [World.size_alloc] at s_w6
    replace st6 := st6.addSl ⟨false, lo_w6, hi_w6, .slice a_w6 L_w6 k_w6, L_w6, g_w6⟩ s_w6 (.inr (by dsimp only; omega))
    clear c_x_0 c_x_1 z_x q_t st5 hs_w6 f_w6 s_w6
    obtain ⟨c_r_0, c_r_1⟩ := (st6.box 1 (w.heap.size, [.int .i64 0, .slice none 0 0]) rfl).cell2
    have z_r := (st6.box 1 (w.heap.size, [.int .i64 0, .slice none 0 0]) rfl).2.2
    dsimp only at c_r_0 c_r_1 z_r
    go_wp2
    refine bodyPost_ret (v := .agg #[.int .i64 x_w6, .slice a_w6 L_w6 k_w6]) (by simp [results, Try.results118, go_sem, c_r_0 , c_r_1]) rfl ?_
    have FS : Frame (w.heap.size) (w.heap.size + 1) w6 ((w6.setCell ⟨w.heap.size, 0, none⟩ (.int .i64 x_w6)).setCell ⟨w.heap.size, 1, none⟩ (.slice a_w6 L_w6 k_w6)) := ((Frame.refl _ _ _).set (by omega) (by omega) _).set (by omega) (by omega) _
    have stz := st6.write FS (by omega) (by omega) [] [⟨false, lo_w6, hi_w6, .slice a_w6 L_w6 k_w6, L_w6, g_w6⟩] (fun x hx => by cases hx) (fun s hs => by simp only [List.mem_cons, List.not_mem_nil, or_false] at hs; rcases hs with rfl <;> exact ⟨by simp, by first | exact .inl (by dsimp only; omega) | exact .inr (by dsimp only; omega)⟩)
    exact ⟨x_w6, L_w6, a_w6, k_w6, g_w6, lo_w6, hi_w6, rfl, hx_w6, hL0_w6, by omega, stz.sl 0 _ rfl, by show _ ≤ lo_w6; omega, stz.below (by omega)⟩
end
end

section
open Go.RowKit Go.ChangeShapes Go.Sort
set_option linter.unusedVariables false
set_option linter.unusedSimpArgs false
section
variable {o o' : Bool} {lo hi lo' hi' L : Nat} {v v' : Value} {f g : Nat → Int}
set_option maxRecDepth 100000 in
set_option maxHeartbeats 1000000 in
theorem l01Plus_big (x k : Int) (w : World) (hs : Sl o w lo hi v L f) (ht : Sl o' w lo' hi' v' L g) (hf : ∀ q, q < L → -1000000000000 ≤ f q ∧ f q ≤ 1000000000000) (hg : ∀ q, q < L → -1000000000000 ≤ k * g q ∧ k * g q ≤ 1000000000000) (hL : L ≤ 24) :
    Calls Try.prog 140 #[.agg #[.int .i64 x, v], .agg #[.int .i64 x, v'], .int .i64 k] w fun e w' => ∃ a' cap', e = .returned (.agg #[.int .i64 x, .slice a' L cap']) ∧ Sl true w' w.heap.size w'.heap.size (.slice a' L cap') L (addF k f g) ∧ Below w.heap.size w w' := by
  have hhs := hs.size
  have hht := ht.size
  obtain ⟨a, cap, rfl⟩ := hs.shape
  obtain ⟨a', cap', rfl⟩ := ht.shape
  have st0 := (((((St.start w).addSl ⟨o, lo, hi, .slice a L cap, L, f⟩ hs).addSl ⟨o', lo', hi', .slice a' L cap', L, g⟩ ht).alloc (.cells #[.int .i64 x, .slice a L cap] 26)).addBox w.heap.size [.int .i64 x, .slice a L cap] (Box.made _ _ _ _ (fun j v h => by simpa using h)))
  replace st0 := (st0.alloc (.cells #[.int .i64 x, .slice a' L cap'] 26)).addBox _ [.int .i64 x, .slice a' L cap'] (Box.made _ _ _ _ (fun j v h => by simpa using h))
  replace st0 := (st0.alloc (.cells #[.int .i64 0, .slice none 0 0] 26)).addBox _ [.int .i64 0, .slice none 0 0] (Box.made _ _ _ _ (fun j v h => by simpa using h))
  simp only [World.size_alloc] at st0
  clear hs ht
  have HF := Lib.hid hf
  have HG := Lib.hid hg
  clear hf hg
  obtain ⟨x0, x1⟩ := (st0.box 2 (w.heap.size, [.int .i64 x, .slice a L cap]) rfl).cell2
  go_enter Try.func140, Try.ntmps140
  go_wp2
  go_cut [7] (fun s7 wx => ∃ b lo1 hi1 a1 k1, s7 = .pointer (some ⟨b, 0, none⟩) ∧ Sl true wx lo1 hi1 (.slice a1 L k1) L f ∧ (b < lo1 ∨ hi1 ≤ b) ∧ w.heap.size + 1 + 1 + 1 ≤ lo1 ∧ w.heap.size + 1 + 1 + 1 ≤ b ∧ b < wx.heap.size ∧
    St w wx ((b, [.int .i64 x, .slice a1 L k1]) :: [(w.heap.size + 1 + 1, [.int .i64 0, .slice none 0 0]), (w.heap.size + 1, [.int .i64 x, .slice a' L cap']), (w.heap.size, [.int .i64 x, .slice a L cap])]) [⟨o', lo', hi', .slice a' L cap', L, g⟩, ⟨o, lo, hi, .slice a L cap, L, f⟩])
  case first =>
    go_region_held3 (fun w' => w'.cell? ⟨w.heap.size, 0, none⟩ = some (.int .i64 x) ∧ w'.cell? ⟨w.heap.size, 1, none⟩ = some (.slice a L cap))
      (first | exact ⟨x0, x1⟩ | exact ⟨cell_later b6 x0, cell_later b6 x1⟩ | exact ⟨cell_later ((Below.refl _ _).alloc (Nat.le_refl _) _) (cell_later b6 x0), cell_later ((Below.refl _ _).alloc (Nat.le_refl _) _) (cell_later b6 x1)⟩ | exact ⟨cell_later ((Below.refl _ _).alloc (Nat.le_refl _) _) x0, cell_later ((Below.refl _ _).alloc (Nat.le_refl _) _) x1⟩ | exact ⟨cell_later b6 (cell_later (((Below.refl _ _).alloc (Nat.le_refl _) _).drew) x0), cell_later b6 (cell_later (((Below.refl _ _).alloc (Nat.le_refl _) _).drew) x1)⟩ | exact ⟨cell_set2 (cell_later b6 (cell_later (((Below.refl _ _).alloc (Nat.le_refl _) _).drew) x0)) (by omega), cell_set2 (cell_later b6 (cell_later (((Below.refl _ _).alloc (Nat.le_refl _) _).drew) x1)) (by omega)⟩ | go_keep)
      (first
        | (go_at_call 220; refine (l01Own_any _ (by first | exact st0.drew.sl 1 ⟨o, lo, hi, .slice a L cap, L, f⟩ rfl | exact ((st0.alloc _).drew).sl 1 ⟨o, lo, hi, .slice a L cap, L, f⟩ rfl) (Nat.le_trans hL (by decide))).mono ?_; rintro e w6 ⟨a6, k6, rfl, s6, b6⟩
           try (have stb := ((st0.alloc (.cells #[.int .i64 0, .slice none 0 0] 26)).addBox _ [.int .i64 0, .slice none 0 0] (Box.made _ _ _ _ (fun j v h => by simpa using h))).drew.keep b6
                obtain ⟨o0, o1⟩ := (stb.box 0 _ rfl).cell2
                have oz := (stb.box 0 _ rfl).2.2
                dsimp only at oz
                simp only [World.size_alloc] at o0 o1 oz)))
    all_goals
      go_wp2_with fail
      go_meet
      have hz6 := b6.size
      simp only [World.size_drew, World.size_alloc] at hz6 s6
      first
        | exact ⟨w6.heap.size, _, _, a6, k6, rfl, s6.alloc _, .inr (Nat.le_refl _), Nat.le_refl _, by omega, by simp, (st0.drew.keep b6).boxNew _ _ _⟩
        | (have stb := ((st0.boxNew (.int .i64 0) (.slice none 0 0) 26).drew.keep b6).boxSet (u0 := .int .i64 x) (u1 := .slice a6 L k6) (by simp only [World.size_alloc]; omega)
             (by simp only [World.size_alloc]; intro b hb; simp only [List.mem_cons, List.not_mem_nil, or_false] at hb; rcases hb with rfl | rfl | rfl <;> dsimp only <;> omega)
             (by simp only [World.size_alloc]; intro s hs'; simp only [List.mem_cons, List.not_mem_nil, or_false] at hs'; rcases hs' with rfl | rfl <;> dsimp only <;> omega)
           simp only [World.size_alloc] at stb
           exact ⟨_, _, _, a6, k6, rfl, (s6.setOther (.inl (Nat.lt_succ_self _)) _).setOther (.inl (Nat.lt_succ_self _)) _, .inl (Nat.lt_succ_self _), by omega, Nat.le_refl _, by simp only [World.size_setCell]; omega, stb⟩)
  case rest =>
    obtain ⟨b, lo1, hi1, a1, k1, rfl, hown, hd, hb1, hb2, hb3, hst⟩ := hcut
    have HO0 := Lib.hid hown
    have HT0 := Lib.hid hst
    clear hown hst x0 x1 st0
    go_wp2
    go_loopw [8] (fun s8 wr => ∃ q : Nat, q ≤ L ∧ s8 = .int .i64 q ∧ Sl true wr lo1 hi1 (.slice a1 L k1) L (addQ k f g q) ∧
      St w wr ((b, [.int .i64 x, .slice a1 L k1]) :: [(w.heap.size + 1 + 1, [.int .i64 0, .slice none 0 0]), (w.heap.size + 1, [.int .i64 x, .slice a' L cap']), (w.heap.size, [.int .i64 x, .slice a L cap])]) [⟨o', lo', hi', .slice a' L cap', L, g⟩, ⟨o, lo, hi, .slice a L cap, L, f⟩]) (fun s8 _ => L - (intOf s8).toNat)
    case atStart => exact ⟨0, Nat.zero_le _, rfl, HO0.out, HT0.out⟩
    case round =>
      clear HO0 HT0
      obtain ⟨q, hq, rfl, hown, hst⟩ := hrel
      have HO := Lib.hid hown; clear hown
      have HT := Lib.hid hst; clear hst
      obtain ⟨y0, y1⟩ := (HT.out.box 2 (w.heap.size + 1, [.int .i64 x, .slice a' L cap']) rfl).cell2
      obtain ⟨p0, p1⟩ := (HT.out.box 0 (b, [.int .i64 x, .slice a1 L k1]) rfl).cell2
      have hz := HO.out.size
      by_cases hlt : q < L
      · have qa := HT.out.sl 0 ⟨o', lo', hi', .slice a' L cap', L, g⟩ rfl
        dsimp only at qa
        obtain ⟨bb, off, c1, hv, _, _, _, _, hc, _⟩ := qa.at (by omega)
        obtain ⟨rfl, rfl⟩ : a' = some ⟨bb, off, none⟩ ∧ cap' = c1 := by cases hv; exact ⟨rfl, rfl⟩
        have hck := hc q hlt
        obtain ⟨hm1, hm2⟩ := HG.out q hlt
        obtain ⟨hf1, hf2⟩ := HF.out q hlt
        clear hv hc qa
        have HW2 := Lib.hid (addQ_succ k f g q)
        obtain ⟨b2, off2, c2, hv2, _⟩ := HO.out.at (by omega)
        obtain ⟨rfl, rfl⟩ : a1 = some ⟨b2, off2, none⟩ ∧ k1 = c2 := by cases hv2; exact ⟨rfl, rfl⟩
        clear hv2
        obtain ⟨hbl, hbh, _, hc2, hfz⟩ := HO.out.known (by omega)
        have hck2 := hc2 q hlt
        rw [show addQ k f g q q = f q from by unfold addQ; rw [if_neg (Nat.lt_irrefl _)]] at hck2
        have hfr := hfz rfl (off2 + q)
        clear hc2 hfz
        have hlt3 : (q : Int) < L := by omega
        have hwm : IntKind.i64.wrap (k * g q) = k * g q := IntWalk.i64_in _ (by omega)
        have hws : IntKind.i64.wrap (f q + k * g q) = f q + k * g q := IntWalk.i64_in _ (by omega)
        go_wp2
        go_region
        all_goals
          go_wp2
          go_roundw
          case rel =>
            refine ⟨q + 1, by omega, by go_num, ?_, ?_⟩
            · rw [HW2.out]
              refine ((HO.out.store (i := q) (by omega) (by unfold inR; omega))).drew.congr (fun j hj => ?_)
              by_cases e : j = q
              · subst e; simp
              · simp [e]
            · exact (HT.out.write (lo := lo1) (hi := hi1) ((Frame.refl lo1 hi1 wr).setCell hbl hbh _) (by omega) (by intro b hb; simp only [List.mem_cons, List.not_mem_nil, or_false] at hb; rcases hb with rfl | rfl | rfl | rfl <;> dsimp only <;> omega) (by intro s hs'; simp only [List.mem_cons, List.not_mem_nil, or_false] at hs'; rcases hs' with rfl | rfl <;> dsimp only <;> omega)).drew
          case measure => simp [intOf] <;> omega
      · obtain rfl : q = L := by omega
        obtain ⟨d0, d1⟩ := (HT.out.box 1 (w.heap.size + 1 + 1, [.int .i64 0, .slice none 0 0]) rfl).cell2
        have dz := (HT.out.box 1 (w.heap.size + 1 + 1, [.int .i64 0, .slice none 0 0]) rfl).2.2
        have BB := HT.out.1
        dsimp only at dz
        go_wp2
        refine bodyPost_ret (v := .agg #[.int .i64 x, .slice a1 q k1]) (by simp [results, Try.results140, go_sem, d0, d1]) rfl ?_
        refine ⟨_, _, rfl, ?_, by go_grown⟩
        exact (((HO.out.setOther (.inl (by show w.heap.size + 1 + 1 < _; omega)) _).setOther (.inl (by show w.heap.size + 1 + 1 < _; omega)) _).wide (by omega) (by simp; omega) (Nat.le_refl _)).congr (fun j hj => by unfold addQ; rw [if_pos hj])
end
end

section
set_option linter.unusedVariables false

/-- p is a prime in 3..61. -/
def primeN (p : Nat) : Bool := decide (3 ≤ p) && decide (p ≤ 61) && (List.range 6).all (fun d => decide (p < (d + 2) * (d + 2)) || decide (p % (d + 2) ≠ 0))
/-- The powers of g by p. -/
def pwr (p g : Nat) : Nat → Nat
  | 0 => 1
  | k + 1 => pwr p g k * g % p
def perGo (p g : Nat) : Nat → Nat → Nat → Nat
  | 0, _, k => k
  | f + 1, x, k => if x = 1 then k else perGo p g f (x * g % p) (k + 1)
/-- The period of g. -/
def perN (p g : Nat) : Nat := perGo p g 61 (1 * g % p) 1
/-- The primitive root. -/
def rootN (p : Nat) : Nat := if p = 7 ∨ p = 17 ∨ p = 31 ∨ p = 43 then 3 else if p = 23 ∨ p = 47 then 5 else if p = 41 then 6 else 2
def idxGo (p r x : Nat) : Nat → Nat → Nat → Nat
  | 0, _, i => i
  | f + 1, y, i => if y = x then i else idxGo p r x f (y * r % p) (i + 1)
/-- The index of x. -/
def idxN (p x : Nat) : Nat := idxGo p (rootN p) x 60 1 0

def chkPer (p g : Nat) : Bool :=
  let m := perN p g
  decide (1 ≤ m) && decide (m ≤ p - 1) && decide (pwr p g m = 1) && (List.range m).all (fun j => decide (j = 0) || decide (pwr p g j ≠ 1)) && (List.range (m + 1)).all (fun j => decide (pwr p g j < p))
def chkRoot (p : Nat) : Bool :=
  decide (1 ≤ rootN p) && decide (rootN p < p) && decide (perN p (rootN p) = p - 1) && (List.range (rootN p)).all (fun g => decide (g = 0) || decide (perN p g < p - 1))
def chkIdx (p x : Nat) : Bool :=
  let i := idxN p x
  decide (i < p - 1) && decide (pwr p (rootN p) i = x) && (List.range i).all (fun j => decide (pwr p (rootN p) j ≠ x))
def chkBack (p j : Nat) : Bool :=
  let x := pwr p (rootN p) j
  decide (1 ≤ x) && decide (x < p) && decide (idxN p x = j)

theorem all_range {n : Nat} {q : Nat → Bool} (h : (List.range n).all q = true) (j : Nat) (hj : j < n) : q j = true := List.all_eq_true.1 h j (List.mem_range.2 hj)

theorem per_all : ((List.range 62).all fun p => !primeN p || (List.range p).all fun g => decide (g = 0) || chkPer p g) = true := by decide +kernel
theorem root_all : ((List.range 62).all fun p => !primeN p || chkRoot p) = true := by decide +kernel
theorem idx_all : ((List.range 62).all fun p => !primeN p || (List.range p).all fun x => decide (x = 0) || chkIdx p x) = true := by decide +kernel
theorem back_all : ((List.range 62).all fun p => !primeN p || (List.range (p - 1)).all fun j => chkBack p j) = true := by decide +kernel

theorem primeN_bd {p : Nat} (h : primeN p = true) : 3 ≤ p ∧ p ≤ 61 := by
  unfold primeN at h
  simp only [Bool.and_eq_true, decide_eq_true_eq] at h
  exact h.1
theorem prime_of {q : Nat → Bool} (h : ((List.range 62).all fun p => !primeN p || q p) = true) {p : Nat} (hp : primeN p = true) : q p = true := by
  have := all_range h p (by have := primeN_bd hp; omega)
  simp only [hp, Bool.not_true, Bool.false_or] at this
  exact this

theorem per_ok {p g : Nat} (hp : primeN p = true) (h1 : 1 ≤ g) (h2 : g < p) :
    1 ≤ perN p g ∧ perN p g ≤ p - 1 ∧ pwr p g (perN p g) = 1 ∧ (∀ j, 1 ≤ j → j < perN p g → pwr p g j ≠ 1) ∧ ∀ j, j ≤ perN p g → pwr p g j < p := by
  have h := all_range (prime_of per_all hp) g h2
  have e : decide (g = 0) = false := decide_eq_false (by omega)
  simp only [e, Bool.false_or] at h
  unfold chkPer at h
  simp only [Bool.and_eq_true, decide_eq_true_eq] at h
  obtain ⟨⟨⟨⟨a, b⟩, c⟩, d⟩, e⟩ := h
  refine ⟨a, b, c, fun j hj hj' => ?_, fun j hj => ?_⟩
  · have := all_range d j hj'
    have e : decide (j = 0) = false := decide_eq_false (by omega)
    simpa only [e, Bool.false_or, decide_eq_true_eq] using this
  · have := all_range e j (by omega)
    simpa only [decide_eq_true_eq] using this
theorem root_ok {p : Nat} (hp : primeN p = true) : 1 ≤ rootN p ∧ rootN p < p ∧ perN p (rootN p) = p - 1 ∧ ∀ g, 1 ≤ g → g < rootN p → perN p g < p - 1 := by
  have h := prime_of root_all hp
  unfold chkRoot at h
  simp only [Bool.and_eq_true, decide_eq_true_eq] at h
  obtain ⟨⟨⟨a, b⟩, c⟩, d⟩ := h
  refine ⟨a, b, c, fun j hj hj' => ?_⟩
  have := all_range d j hj'
  have e : decide (j = 0) = false := decide_eq_false (by omega)
  simpa only [e, Bool.false_or, decide_eq_true_eq] using this
theorem idx_ok {p x : Nat} (hp : primeN p = true) (h1 : 1 ≤ x) (h2 : x < p) : idxN p x < p - 1 ∧ pwr p (rootN p) (idxN p x) = x ∧ ∀ j, j < idxN p x → pwr p (rootN p) j ≠ x := by
  have h := all_range (prime_of idx_all hp) x h2
  have e : decide (x = 0) = false := decide_eq_false (by omega)
  simp only [e, Bool.false_or] at h
  unfold chkIdx at h
  simp only [Bool.and_eq_true, decide_eq_true_eq] at h
  obtain ⟨⟨a, b⟩, c⟩ := h
  exact ⟨a, b, fun j hj => by have := all_range c j hj; simpa only [decide_eq_true_eq] using this⟩
theorem back_ok {p j : Nat} (hp : primeN p = true) (hj : j < p - 1) : 1 ≤ pwr p (rootN p) j ∧ pwr p (rootN p) j < p ∧ idxN p (pwr p (rootN p) j) = j := by
  have h := all_range (prime_of back_all hp) j hj
  unfold chkBack at h
  simp only [Bool.and_eq_true, decide_eq_true_eq] at h
  exact ⟨h.1.1, h.1.2, h.2⟩

/-! Squares by a prime are the residues with even indices. -/
def sqN (p x : Nat) : Bool := (List.range (p - 1)).any (fun y => decide ((y + 1) * (y + 1) % p = x))
theorem sq_all : ((List.range 62).all fun p => !primeN p || (List.range p).all fun x => decide (x = 0) || decide (sqN p x = decide (idxN p x % 2 = 0))) = true := by decide +kernel
theorem sq_ok {p x : Nat} (hp : primeN p = true) (h1 : 1 ≤ x) (h2 : x < p) : sqN p x = decide (idxN p x % 2 = 0) := by
  have h := all_range (prime_of sq_all hp) x h2
  have e : decide (x = 0) = false := decide_eq_false (by omega)
  simpa only [e, Bool.false_or, decide_eq_true_eq] using h

/-! The powers of a character come again. -/
def ordChk (n k : Nat) : Bool :=
  let m := n / Nat.gcd n k
  decide (1 ≤ m) && decide (m ≤ n) && decide (k * (m + 1) % n = k % n) && (List.range m).all (fun i => (List.range i).all (fun j => decide (k * (i + 1) % n ≠ k * (j + 1) % n)))
theorem ord_all : ((List.range 17).all fun n => decide (n = 0) || (List.range n).all fun k => ordChk n k) = true := by decide +kernel
theorem ord_ok {n k : Nat} (h1 : 1 ≤ n) (h2 : n ≤ 16) (hk : k < n) : 1 ≤ n / Nat.gcd n k ∧ n / Nat.gcd n k ≤ n ∧ k * (n / Nat.gcd n k + 1) % n = k % n ∧ ∀ i j, i < n / Nat.gcd n k → j < i → k * (i + 1) % n ≠ k * (j + 1) % n := by
  have h := all_range ord_all n (by omega)
  have e : decide (n = 0) = false := decide_eq_false (by omega)
  simp only [e, Bool.false_or] at h
  have h := all_range h k hk
  unfold ordChk at h
  simp only [Bool.and_eq_true, decide_eq_true_eq] at h
  obtain ⟨⟨⟨a, b⟩, c⟩, d⟩ := h
  exact ⟨a, b, c, fun i j hi hj => by have := all_range (all_range d i hi) j hj; simpa only [decide_eq_true_eq] using this⟩
end

section
set_option linter.unusedVariables false

/-- The exponent of the value at x. -/
def expN (p n k x : Nat) : Nat := k * idxN p x % n
theorem expN_lt {p n k x : Nat} (h : 1 ≤ n) : expN p n k x < n := Nat.mod_lt _ h
/-- How often each power of z comes in the sum of the values at the residues below m, each times its weight. -/
def powZ (p n k : Nat) (W : Nat → Int) : Nat → Nat → Int
  | 0 => fun _ => 0
  | x + 1 => fun i => if x ≠ 0 ∧ i = expN p n k x then powZ p n k W x i + W x else powZ p n k W x i
/-- The Parts of this sum. -/
def sumZ (p n k : Nat) (W : Nat → Int) : Nat → Nat → Int
  | 0 => fun _ => 0
  | x + 1 => fun j => if x = 0 then sumZ p n k W x j else sumZ p n k W x j + W x * tb n (expN p n k x) j

theorem powZ_zero {p n k : Nat} {W : Nat → Int} {i : Nat} : powZ p n k W (0 + 1) i = 0 := by simp [powZ]
theorem sumZ_one {p n k : Nat} {W : Nat → Int} {j : Nat} : sumZ p n k W 1 j = 0 := by simp [sumZ]
theorem sumZ_succ {p n k x : Nat} {W : Nat → Int} {j : Nat} (h : 1 ≤ x) : sumZ p n k W (x + 1) j = sumZ p n k W x j + W x * tb n (expN p n k x) j := by
  simp only [sumZ]
  rw [if_neg (by omega)]
theorem powZ_bd {p n k : Nat} {W : Nat → Int} {B : Int} (hB : 0 ≤ B) : ∀ (x : Nat), (∀ y, y < x → -B ≤ W y ∧ W y ≤ B) → ∀ i, -((x : Int) * B) ≤ powZ p n k W x i ∧ powZ p n k W x i ≤ (x : Int) * B
  | 0, _, i => by simp [powZ]
  | x + 1, h, i => by
    have ih := powZ_bd (p := p) (n := n) (k := k) hB x (fun y hy => h y (by omega)) i
    have h1 := h x (by omega)
    have e : ((x + 1 : Nat) : Int) * B = (x : Int) * B + B := by rw [Int.natCast_add, Int.add_mul]; simp
    have hx : 0 ≤ (x : Int) * B := Int.mul_nonneg (by omega) hB
    rw [e]
    simp only [powZ]
    split <;> omega
theorem sumZ_bd {p n k : Nat} {W : Nat → Int} {B : Int} (hn : n < 17) (hn1 : 1 ≤ n) (hB : 0 ≤ B) {j : Nat} (hj : j < phiN n) : ∀ (x : Nat), (∀ y, y < x → -B ≤ W y ∧ W y ≤ B) → -((x : Int) * B) ≤ sumZ p n k W x j ∧ sumZ p n k W x j ≤ (x : Int) * B
  | 0, _ => by simp [sumZ]
  | x + 1, h => by
    have ih := sumZ_bd (p := p) (k := k) hn hn1 hB hj x (fun y hy => h y (by omega))
    have h1 := h x (by omega)
    have h2 := tab_one n hn hn1 (expN p n k x) (expN_lt hn1) j hj
    have h3 := one_bd hB h1.1 h1.2 h2.1 h2.2
    have e : ((x + 1 : Nat) : Int) * B = (x : Int) * B + B := by rw [Int.natCast_add, Int.add_mul]; simp
    have hx : 0 ≤ (x : Int) * B := Int.mul_nonneg (by omega) hB
    rw [e]
    simp only [sumZ]
    split <;> omega
theorem pow_sum {p n k : Nat} {W : Nat → Int} (hn : n < 17) (hn1 : 1 ≤ n) {j : Nat} (hj : j < phiN n) : ∀ x, redZ n (powZ p n k W x) j = sumZ p n k W x j
  | 0 => redZ_zero n j
  | x + 1 => by
    have hp := phi_le12 n (by omega) hn1
    have ih := pow_sum (p := p) (k := k) (W := W) hn hn1 hj x
    by_cases h0 : x = 0
    · subst h0
      have e : powZ p n k W (0 + 1) = fun _ => 0 := funext fun i => powZ_zero
      rw [e, redZ_zero]
      exact sumZ_one.symm
    · have e : powZ p n k W (x + 1) = fun i => 1 * powZ p n k W x i + W x * unit (expN p n k x) i := funext fun i => by
        simp only [powZ, unit]
        by_cases hi : i = expN p n k x
        · rw [if_pos ⟨h0, hi⟩, if_pos hi]; omega
        · rw [if_neg (fun h => hi h.2), if_neg hi]; omega
      rw [e, redZ_lin, ih, sumZ_succ (by omega), tb_eq hn hn1 (by have := expN_lt (p := p) (k := k) (x := x) hn1; omega) hj]
      omega
/-- A power of z, told by its Parts. -/
theorem unit_tb {n k : Nat} (hn : n < 17) (h1 : 1 ≤ n) (hk : k < n) {j : Nat} (hj : j < phiN n) : redP n (unit k) j = tb n k j := by
  have hp := phi_le12 n (by omega) h1
  have h2 := tab_one n hn h1 k hk j hj
  rw [redP_exact hn h1 (P' := unit k) (fun i _ => (wrap_inR (by unfold unit inR; split <;> omega)).symm) (by omega) (by rw [tb_eq hn h1 (by omega) hj]; unfold inR; omega), tb_eq hn h1 (by omega) hj]
/-- What the program makes of the sum. -/
theorem pow_red {p n k x : Nat} {W : Nat → Int} {P : Nat → Int} {B : Int} (hn : n < 17) (hn1 : 1 ≤ n) (hB : 0 ≤ B) (hB' : B ≤ 1000000) (hx : x ≤ 61) (hW : ∀ y, y < x → -B ≤ W y ∧ W y ≤ B) (hP : ∀ i, i < 24 → P i = powZ p n k W x i) {j : Nat} (hj : j < phiN n) : redP n P j = sumZ p n k W x j := by
  have hp := phi_le12 n (by omega) hn1
  have hb := sumZ_bd (p := p) (k := k) hn hn1 hB hj x hW
  have hm : (x : Int) * B ≤ 61 * 1000000 := Int.mul_le_mul (by omega) hB' hB (by omega)
  rw [redP_exact hn hn1 (P' := powZ p n k W x) (fun i hi => ?_) (by omega) (by rw [pow_sum hn hn1 hj]; unfold inR; omega), pow_sum hn hn1 hj]
  have h3 := powZ_bd (p := p) (n := n) (k := k) hB x hW i
  rw [hP i hi, wrap_inR (by unfold inR; omega)]
theorem sum_within {p n k x : Nat} {W : Nat → Int} {B : Int} (hn : n < 17) (hn1 : 1 ≤ n) (hB : 0 ≤ B) (hB' : B ≤ 1000000) (hx : x ≤ 61) (hW : ∀ y, y < x → -B ≤ W y ∧ W y ≤ B) {j : Nat} (hj : j < phiN n) : -61000000 ≤ sumZ p n k W x j ∧ sumZ p n k W x j ≤ 61000000 := by
  have hb := sumZ_bd (p := p) (k := k) hn hn1 hB hj x hW
  have hm : (x : Int) * B ≤ 61 * 1000000 := Int.mul_le_mul (by omega) hB' hB (by omega)
  omega
theorem sumZ_congr {p n k : Nat} {W W' : Nat → Int} {j : Nat} : ∀ x, (∀ y, 1 ≤ y → y < x → W y = W' y) → sumZ p n k W x j = sumZ p n k W' x j
  | 0, _ => rfl
  | x + 1, h => by
    simp only [sumZ]
    rw [sumZ_congr x (fun y h1 hy => h y h1 (by omega))]
    by_cases h0 : x = 0
    · rw [if_pos h0, if_pos h0]
    · rw [if_neg h0, if_neg h0, h x (by omega) (by omega)]

/-! The value of c at x times the conjugate of that of d. -/
/-- The conjugate of a power of z. -/
theorem bar_tb {n b : Nat} {f : Nat → Int} (hn : n < 17) (h1 : 1 ≤ n) (hb : b < n) (hf : ∀ j, j < phiN n → f j = tb n b j) {j : Nat} (hj : j < phiN n) : imgP n (n - 1) (phiN n) f j = tb n (b * (n - 1) % n) j := by
  have hp := phi_le12 n (by omega) h1
  rw [imgP_gal hn h1 (fun i hi => by have := tab_one n hn h1 b hb i hi; rw [hf i hi]; omega) hp hj]
  unfold galZ
  rw [← tab_gal n hn h1 (n - 1) (by omega) (by
    rcases Nat.lt_or_ge n 2 with h | h
    · have : n = 1 := by omega
      subst this; rfl
    · have : Nat.gcd (n - 1) n = Nat.gcd (n - 1) 1 := by
        conv => lhs; rw [show n = 1 + (n - 1) by omega]
        simp
      rw [this, Nat.gcd_one_right]) b hb j hj]
  exact sumN_congr (fun i hi => by rw [hf i hi])
theorem orth_exp {n k k' i : Nat} (h1 : 1 ≤ n) (hk' : k' < n) : (k * i % n + k' * i % n * (n - 1) % n) % n = (k + (n - k') % n) % n * i % n := by
  have e1 : (k * i % n + k' * i % n * (n - 1) % n) % n = (k * i + k' * i * (n - 1)) % n := by
    rw [← Nat.add_mod, Nat.add_mod, Nat.mul_mod (k' * i % n), Nat.mod_mod, ← Nat.mul_mod, ← Nat.add_mod]
  have e2 : (k + (n - k') % n) % n * i % n = (k + (n - k')) * i % n := by
    rw [Nat.mul_mod, Nat.mod_mod, Nat.add_mod, Nat.mod_mod, ← Nat.add_mod, ← Nat.mul_mod]
  rw [e1, e2, Nat.add_mul]
  have e3 : k' * i * (n - 1) + k' * i = k' * i * n := by
    conv => rhs; rw [show n = (n - 1) + 1 by omega]
    rw [Nat.mul_add, Nat.mul_one]
  have e4 : (n - k') * i + k' * i = n * i := by rw [← Nat.add_mul]; congr 1; omega
  have e5 : k' * i * (n - 1) + n * i = (n - k') * i + n * (k' * i) := by
    have : k' * i * n = n * (k' * i) := Nat.mul_comm _ _
    omega
  have e6 : (k * i + k' * i * (n - 1)) % n = (k * i + k' * i * (n - 1) + n * i) % n := by simp
  rw [e6, show k * i + k' * i * (n - 1) + n * i = k * i + (n - k') * i + n * (k' * i) by omega]
  simp
theorem orth_tb {n a b : Nat} {f g : Nat → Int} (hn : n < 17) (h1 : 1 ≤ n) (ha : a < n) (hb : b < n) (hf : ∀ j, j < phiN n → f j = tb n a j) (hg : ∀ j, j < phiN n → g j = tb n b j) {j : Nat} (hj : j < phiN n) : prodZ n (phiN n) f g j = tb n ((a + b) % n) j := by
  rw [prodZ_tab hn h1 (Nat.le_refl _) f g hj, ← tab_prod hn h1 ha hb hj]
  exact sumN_congr (fun p hp => sumN_congr (fun q hq => by rw [hf p hp, hg q hq]))
end

section
open Go.RowKit Go.ChangeShapes Go.Sort
set_option linter.unusedVariables false
set_option linter.unusedSimpArgs false
theorem unitG_bd (N : Nat) (k : Int) (h1 : 1 ≤ N) (h2 : N ≤ 16) : ∀ j, j < phiN N → -1 ≤ redP N (unit (powIx N k)) j ∧ redP N (unit (powIx N k)) j ≤ 1 := fun j hj => by
  have hk := (powIx_eq N h1 k).2.1
  rw [unit_tb (by omega) h1 hk hj]
  exact tab_one N (by omega) h1 _ hk j hj
section
variable {B : Nat} {p : Option Addr} {n q : Nat}
set_option maxRecDepth 100000 in
set_option maxHeartbeats 4000000 in
theorem DrawIsInField_any (w : World) (hb : Bytes w B p n) (hB : B ≤ w.heap.size) :
    Calls Try.prog 116 #[.slice p n q] w (DrXi w) := by
  have B0 := Below.refl w.heap.size w
  replace B0 := B0.alloc (Nat.le_refl _) (.cells #[.int .i64 0, .slice none 0 0] 26)
  have bx0 := Box.made (w) #[.int .i64 0, .slice none 0 0] 26 [.int .i64 0, .slice none 0 0] (fun j v h => by simpa using h)
  have hb0 := hb.below B0
  clear hb
  go_enter Try.func116, Try.ntmps116
  go_wp2_with fail
  refine (l01From_any B p n q _ hb0 (by (try simp only [World.size_alloc]); omega)).mono ?_
  rintro e w1 ⟨rfl, hs1, hb1, b1⟩
  have hz_w1 := b1.size
  try simp only [World.size_alloc] at hz_w1 hs1 bx0
  have st1 := Ds.at hB (B0.trans (b1.mono (by (try simp only [World.size_alloc]); omega))) hs1 hb1 (by omega)
  have hbz := hs1.lt
  replace st1 := st1.addBox (w.heap.size) [.int .i64 0, .slice none 0 0] (bx0.keep (by simpa only [World.size_alloc] using b1)) (by omega)
  clear hb0 B0 b1 hs1 hb1 bx0
  have hl := Sl.list (w1) [1, 2, 3, 4, 5, 6, 7, 8] (by intro t ht; simp only [List.mem_cons, List.not_mem_nil, or_false] at ht; unfold inR; rcases ht with rfl | rfl | rfl | rfl | rfl | rfl | rfl | rfl <;> omega) (by simp [maxLen])
  replace st1 := st1.alloc (.cells ([1, 2, 3, 4, 5, 6, 7, 8].map (Value.int .i64)).toArray 2)
  simp only [List.map_cons, List.map_nil, List.length_cons, List.length_nil, World.size_alloc] at hl st1
  have hall : ∀ t ∈ ([1, 2, 3, 4, 5, 6, 7, 8] : List Int), (fun x : Int => 1 ≤ x ∧ x ≤ 8) t := by intro t ht; simp only [List.mem_cons, List.not_mem_nil, or_false] at ht; (try dsimp only); rcases ht with rfl | rfl | rfl | rfl | rfl | rfl | rfl | rfl <;> omega
  have HALL := Lib.hid hall
  clear hall
  go_wp2_with fail
  refine (l01Pick_any _ _ _ _ _ _ st1.src st1.bytes st1.low hl (.inr (by omega)) (by omega) (by omega)).mono ?_
  rintro e w2 ⟨i_w2, hi_w2, rfl, hs_w2, f_w2⟩
  have hz_w2 := f_w2.size
  try simp only [World.size_alloc] at hz_w2
  have st2 := st1.draw hs_w2 f_w2
  clear hl st1 hs_w2 f_w2
  have h_y : (fun x : Int => 1 ≤ x ∧ x ≤ 8) (([1, 2, 3, 4, 5, 6, 7, 8] : List Int).getD i_w2 0) := by
    rw [List.getD_eq_getElem?_getD, List.getElem?_eq_getElem (by simpa using hi_w2)]
    exact HALL.out _ (List.getElem_mem _)
  generalize ([1, 2, 3, 4, 5, 6, 7, 8] : List Int).getD i_w2 0 = y at *
  try dsimp only at h_y
  clear HALL hi_w2
  have hl := Sl.list (w2) [1, 2, 2, 3] (by intro t ht; simp only [List.mem_cons, List.not_mem_nil, or_false] at ht; unfold inR; rcases ht with rfl | rfl | rfl | rfl <;> omega) (by simp [maxLen])
  replace st2 := st2.alloc (.cells ([1, 2, 2, 3].map (Value.int .i64)).toArray 2)
  simp only [List.map_cons, List.map_nil, List.length_cons, List.length_nil, World.size_alloc] at hl st2
  have hall : ∀ t ∈ ([1, 2, 2, 3] : List Int), (fun x : Int => 1 ≤ x ∧ x ≤ 3) t := by intro t ht; simp only [List.mem_cons, List.not_mem_nil, or_false] at ht; (try dsimp only); rcases ht with rfl | rfl | rfl | rfl <;> omega
  have HALL := Lib.hid hall
  clear hall
  go_wp2_with fail
  refine (l01Pick_any _ _ _ _ _ _ st2.src st2.bytes st2.low hl (.inr (by omega)) (by omega) (by omega)).mono ?_
  rintro e w3 ⟨i_w3, hi_w3, rfl, hs_w3, f_w3⟩
  have hz_w3 := f_w3.size
  try simp only [World.size_alloc] at hz_w3
  have st3 := st2.draw hs_w3 f_w3
  clear hl st2 hs_w3 f_w3
  have h_z : (fun x : Int => 1 ≤ x ∧ x ≤ 3) (([1, 2, 2, 3] : List Int).getD i_w3 0) := by
    rw [List.getD_eq_getElem?_getD, List.getElem?_eq_getElem (by simpa using hi_w3)]
    exact HALL.out _ (List.getElem_mem _)
  generalize ([1, 2, 2, 3] : List Int).getD i_w3 0 = z at *
  try dsimp only at h_z
  clear HALL hi_w3
  obtain ⟨N, rfl⟩ := Int.eq_ofNat_of_zero_le (show 0 ≤ y by omega)
  obtain ⟨K, rfl⟩ := Int.eq_ofNat_of_zero_le (show 0 ≤ z by omega)
  have hN1 : 1 ≤ N := by omega
  have hN2 : N ≤ 16 := by omega
  have hp := phi_le12 N hN2 hN1
  have hp1 := phiN_pos N (by omega) hN1
  obtain ⟨P, hP⟩ : ∃ P, N * K = P := ⟨_, rfl⟩
  have hP1 : 1 ≤ P := by rw [← hP]; exact Nat.mul_pos hN1 (by omega)
  have hP2 : P ≤ 24 := by rw [← hP]; exact Nat.le_trans (Nat.mul_le_mul (show N ≤ 8 by omega) (show K ≤ 3 by omega)) (by decide)
  have hPI : (N : Int) * (K : Int) = (P : Int) := by rw [← hP, Int.natCast_mul]
  have hwr : IntKind.i64.wrap ((N : Int) * (K : Int)) = (P : Int) := by rw [hPI]; exact IntWalk.i64_in _ (by omega)
  have hPd : P % N = 0 := by rw [← hP]; exact Nat.mul_mod_right _ _
  go_wp2_with fail
  refine (l01DrawOf_any N 9 _ st3.src st3.bytes st3.low hN1 hN2 (by omega) (by omega)).mono ?_
  rintro e w4 ⟨a_w4, k_w4, g_w4, rfl, s_w4, hw_w4, hs_w4, _, f_w4⟩
  have hz_w4 := f_w4.size
  try simp only [World.size_alloc] at hz_w4
  have st4 := st3.draw hs_w4 f_w4
  try simp only [World.size_alloc] at s_w4
  replace st4 := st4.addSl ⟨true, w3.heap.size, w4.heap.size, .slice a_w4 (phiN N) k_w4, (phiN N), g_w4⟩ s_w4 (.inr (by dsimp only; omega))
  clear st3 hs_w4 f_w4 s_w4
  replace st4 := st4.newBox [.int .i64 (N : Int), .slice a_w4 (phiN N) k_w4] 26
  have HW := Lib.hid hw_w4; clear hw_w4
  obtain ⟨c_x_0, c_x_1⟩ := (st4.box 0 (w4.heap.size, [.int .i64 (N : Int), .slice a_w4 (phiN N) k_w4]) rfl).cell2
  have z_x := (st4.box 0 (w4.heap.size, [.int .i64 (N : Int), .slice a_w4 (phiN N) k_w4]) rfl).2.2
  dsimp only at c_x_0 c_x_1 z_x
  by_cases hle : (P : Int) ≤ 16
  · have hpO := phi_le12 P (by omega) hP1
    have hpO1 := phiN_pos P (by omega) hP1
    have q_t := st4.sl 0 ⟨true, w3.heap.size, w4.heap.size, .slice a_w4 (phiN N) k_w4, (phiN N), g_w4⟩ rfl
    dsimp only at q_t
    have HV := Lib.hid (show ∀ j, j < phiN P → -12000000000 ≤ liftP N P (phiN N) g_w4 j ∧ liftP N P (phiN N) g_w4 j ≤ 12000000000 from fun j hj => by rw [liftP_S hN1 (by omega) hP1 (by omega) hPd phi_le_n hp HW.out hj]; exact galS_bd (by omega) hP1 HW.out hp hj)
    have HL := Lib.hid (fun (o : Bool) (lo hi : Nat) (v : Value) (wx : World) => l01Lift_any (o := o) (lo := lo) (hi := hi) (v := v) (L := phiN N) (f := g_w4) N P hN1 hN2 hP1 (by omega) hPd wx)
    obtain ⟨V, hV⟩ : ∃ V, liftP N P (phiN N) g_w4 = V := ⟨_, rfl⟩
    rw [hV] at HV HL
    clear hV
    go_wp2_with fail
    refine (HL.out _ _ _ _ _ q_t phi_le_n).mono ?_
    rintro e w60 ⟨a60, k60, rfl, s60, b60⟩
    have hz60 := b60.size
    (try simp only [World.size_drew, World.size_alloc] at hz60 s60)
    have st60 := st4.keep b60
    obtain ⟨r0, r1⟩ := (st60.box 0 (w4.heap.size, [.int .i64 (N : Int), .slice a_w4 (phiN N) k_w4]) rfl).cell2; have rz := (st60.box 0 (w4.heap.size, [.int .i64 (N : Int), .slice a_w4 (phiN N) k_w4]) rfl).2.2; dsimp only at r0 r1 rz
    clear c_x_0 c_x_1 z_x q_t st4 b60
    go_wp2_with fail
    have FS := ((Frame.refl (w4.heap.size) (w4.heap.size + 1) w60).set (o := 0) (Nat.le_refl _) (Nat.lt_succ_self _) (.int .i64 (P : Int))).set (o := 1) (Nat.le_refl _) (Nat.lt_succ_self _) (.slice a60 (phiN P) k60)
    have T70 := Lib.hid (((st60.write (w' := ((w60.setCell ⟨w4.heap.size, 0, none⟩ (.int .i64 (P : Int))).setCell ⟨w4.heap.size, 1, none⟩ (.slice a60 (phiN P) k60))) FS (by omega) (by omega) [(w.heap.size, [.int .i64 0, .slice none 0 0])] [] (fun x hx => ⟨by simp only [List.mem_cons, List.not_mem_nil, or_false] at hx ⊢; rcases hx with rfl <;> simp, by simp only [List.mem_cons, List.not_mem_nil, or_false] at hx; rcases hx with rfl <;> first | exact .inl (by (try dsimp only); omega) | exact .inr (by (try dsimp only); omega)⟩) (fun s hs => by cases hs)).addBox (w4.heap.size) [.int .i64 (P : Int), .slice a60 (phiN P) k60] (Box.set2 (st60.box 0 (w4.heap.size, [.int .i64 (N : Int), .slice a_w4 (phiN N) k_w4]) rfl)) (by (try dsimp only); omega)).addSl ⟨true, w4.heap.size + 1, w60.heap.size, .slice a60 (phiN P) k60, phiN P, V⟩ ((s60.setOther (.inl (by (try dsimp only); omega)) _).setOther (.inl (by (try dsimp only); omega)) _) (.inr (by (try dsimp only); omega)))
    clear st60 s60 FS
    obtain ⟨w61, hw61, hzw61⟩ : ∃ y : World, y = ((w60.setCell ⟨w4.heap.size, 0, none⟩ (.int .i64 (P : Int))).setCell ⟨w4.heap.size, 1, none⟩ (.slice a60 (phiN P) k60)) ∧ w60.heap.size = y.heap.size := ⟨_, rfl, by simp⟩
    rw [← hw61] at T70
    rw [← hw61]
    clear hw61
    have st61 := T70.out
    clear T70
    clear r0 r1 rz
    go_wp2_with fail
    refine (l01Next_any _ _ _ _ _ 3 _ st61.src st61.bytes st61.low (by omega) (by omega)).mono ?_
    rintro e w62 ⟨r, rfl, hr1, hr2, hs_w62, f_w62⟩
    have hz_w62 := f_w62.size
    try simp only [World.size_alloc] at hz_w62
    have st62 := st61.draw hs_w62 f_w62
    clear st61 hs_w62 f_w62
    by_cases h0 : r = 0
    · subst h0
      obtain ⟨c_x_0, c_x_1⟩ := (st62.box 0 (w4.heap.size, [.int .i64 (P : Int), .slice a60 (phiN P) k60]) rfl).cell2
      have z_x := (st62.box 0 (w4.heap.size, [.int .i64 (P : Int), .slice a60 (phiN P) k60]) rfl).2.2
      dsimp only at c_x_0 c_x_1 z_x
      have HST := Lib.hid st62; clear st62
      have HU := Lib.hid (unitG_bd P 1 hP1 (by omega))
      obtain ⟨U, hU⟩ : ∃ U, redP P (unit (powIx P 1)) = U := ⟨_, rfl⟩
      have HUA := Lib.hid (fun wx => l01Unit_any P 1 wx hP1 (by omega))
      rw [hU] at HU HUA
      clear hU
      go_wp2_with fail
      go_region_law (first
        | (go_simp; go_at_call 198; refine (HUA.out _).mono ?_; rintro e w70 ⟨a70, k70, rfl, s70, b70⟩
           have hz70 := b70.size
           (try simp only [World.size_drew] at hz70 s70)
           have st70 := HST.out.drew.keep b70
           obtain ⟨y0, y1⟩ := (st70.box 0 (w4.heap.size, [.int .i64 (P : Int), .slice a60 (phiN P) k60]) rfl).cell2
           (try dsimp only at y0 y1))
        | (go_simp; go_at_call 140; refine (l01Plus_big (P : Int) 1 _ (st70.sl 0 ⟨true, w4.heap.size + 1, w60.heap.size, .slice a60 (phiN P) k60, phiN P, V⟩ rfl) s70 (fun j hj => by have := HV.out j hj; (show -1000000000000 ≤ V j ∧ V j ≤ 1000000000000); omega) (fun j hj => by have := HU.out j hj; omega) (by show phiN P ≤ 24; omega)).mono ?_; rintro e w80 ⟨a80, k80, rfl, s80, b80⟩
           have hz80 := b80.size
           have st80 := st70.keep b80
           obtain ⟨r0, r1⟩ := (st80.box 0 (w4.heap.size, [.int .i64 (P : Int), .slice a60 (phiN P) k60]) rfl).cell2
           have rz := (st80.box 0 (w4.heap.size, [.int .i64 (P : Int), .slice a60 (phiN P) k60]) rfl).2.2
           (try dsimp only at r0 r1 rz)))
      all_goals
        have FS := ((Frame.refl (w4.heap.size) (w4.heap.size + 1) w80).set (o := 0) (Nat.le_refl _) (Nat.lt_succ_self _) (.int .i64 (P : Int))).set (o := 1) (Nat.le_refl _) (Nat.lt_succ_self _) (.slice a80 (phiN P) k80)
        have T70 := Lib.hid (((st80.write (w' := ((w80.setCell ⟨w4.heap.size, 0, none⟩ (.int .i64 (P : Int))).setCell ⟨w4.heap.size, 1, none⟩ (.slice a80 (phiN P) k80))) FS (by omega) (by omega) [(w.heap.size, [.int .i64 0, .slice none 0 0])] [] (fun x hx => ⟨by simp only [List.mem_cons, List.not_mem_nil, or_false] at hx ⊢; rcases hx with rfl <;> simp, by simp only [List.mem_cons, List.not_mem_nil, or_false] at hx; rcases hx with rfl <;> first | exact .inl (by (try dsimp only); omega) | exact .inr (by (try dsimp only); omega)⟩) (fun s hs => by cases hs)).addBox (w4.heap.size) [.int .i64 (P : Int), .slice a80 (phiN P) k80] (Box.set2 (st80.box 0 (w4.heap.size, [.int .i64 (P : Int), .slice a60 (phiN P) k60]) rfl)) (by (try dsimp only); omega)).addSl ⟨true, w70.heap.size, w80.heap.size, .slice a80 (phiN P) k80, phiN P, addF 1 V U⟩ ((s80.setOther (.inl (by (try dsimp only); omega)) _).setOther (.inl (by (try dsimp only); omega)) _) (.inr (by (try dsimp only); omega)))
        clear st80 s80 FS
        obtain ⟨w81, hw81, hzw81⟩ : ∃ y : World, y = ((w80.setCell ⟨w4.heap.size, 0, none⟩ (.int .i64 (P : Int))).setCell ⟨w4.heap.size, 1, none⟩ (.slice a80 (phiN P) k80)) ∧ w80.heap.size = y.heap.size := ⟨_, rfl, by simp⟩
        rw [← hw81] at T70
        rw [← hw81]
        clear hw81
        have st81 := T70.out
        clear T70
        clear st70 s70 b70 b80 r0 r1 rz c_x_0 c_x_1 z_x
        obtain ⟨c_x_0, c_x_1⟩ := (st81.box 0 (w4.heap.size, [.int .i64 (P : Int), .slice a80 (phiN P) k80]) rfl).cell2
        have z_x := (st81.box 0 (w4.heap.size, [.int .i64 (P : Int), .slice a80 (phiN P) k80]) rfl).2.2
        dsimp only at c_x_0 c_x_1 z_x
        have q_t := st81.sl 0 ⟨true, w70.heap.size, w80.heap.size, .slice a80 (phiN P) k80, phiN P, addF 1 V U⟩ rfl
        dsimp only at q_t
        go_wp2_with fail
        refine (l01Bad_any (P : Int) _ st81.src st81.bytes st81.low (by unfold inR; omega) q_t (by omega) hpO1 (by omega)).mono ?_
        rintro e w82 ⟨x_w82, L_w82, a_w82, k_w82, g_w82, lo_w82, hi_w82, rfl, hx_w82, hL0_w82, hL_w82, s_w82, hlo_w82, hs_w82, f_w82⟩
        have hz_w82 := f_w82.size
        try simp only [World.size_alloc] at hz_w82
        have st82 := st81.draw hs_w82 f_w82
        try simp only [World.size_alloc] at s_w82
        replace st82 := st82.addSl ⟨false, lo_w82, hi_w82, .slice a_w82 L_w82 k_w82, L_w82, g_w82⟩ s_w82 (.inr (by dsimp only; omega))
        clear c_x_0 c_x_1 z_x q_t st81 hs_w82 f_w82 s_w82
        go_wp2_with fail
        refine (l01Near_any 16 _ st82.src st82.bytes st82.low (by omega) (by omega)).mono ?_
        rintro e w83 ⟨rn, rfl, hrn, hs_w83, _, f_w83⟩
        have hz_w83 := f_w83.size
        try simp only [World.size_alloc] at hz_w83
        have st83 := st82.draw hs_w83 f_w83
        clear st82 hs_w83 f_w83
        go_wp2_with fail
        refine (pick_ds (st83.alloc _) (lst7 _ _ _ _ _ _ _ _ (by unfold inR; omega) (by unfold inR; omega) (by unfold inR; omega) (by unfold inR; omega) (by unfold inR; omega) (by unfold inR; omega) hrn) (.inr (by omega)) (by omega) (by omega)).mono ?_; rintro e w90 ⟨m9, rfl, st90, hz90⟩; (try simp only [World.size_drew, World.size_alloc] at hz90)
        obtain ⟨c_r_0, c_r_1⟩ := (st90.box 1 (w.heap.size, [.int .i64 0, .slice none 0 0]) rfl).cell2; have z_r := (st90.box 1 (w.heap.size, [.int .i64 0, .slice none 0 0]) rfl).2.2; dsimp only at c_r_0 c_r_1 z_r
        go_wp2
        refine bodyPost_ret (v := .tuple #[.agg #[.int .i64 x_w82, .slice a_w82 L_w82 k_w82], .int .i64 _]) (by simp [results, Try.results116, go_sem, c_r_0, c_r_1]; rfl) rfl ?_
        have FS : Frame w.heap.size (w.heap.size + 1) w90 ((w90.setCell ⟨w.heap.size, 0, none⟩ (.int .i64 x_w82)).setCell ⟨w.heap.size, 1, none⟩ (.slice a_w82 L_w82 k_w82)) := ((Frame.refl _ _ _).set (by omega) (by omega) _).set (by omega) (by omega) _
        have stz := st90.write FS (by omega) (by omega) [] [⟨false, lo_w82, hi_w82, .slice a_w82 L_w82 k_w82, L_w82, g_w82⟩] (fun x hx => by cases hx) (fun s hs => by obtain rfl := List.mem_singleton.1 hs; exact ⟨by simp, .inr (by dsimp only; omega)⟩)
        exact ⟨x_w82, L_w82, a_w82, k_w82, g_w82, lo_w82, hi_w82, _, rfl, hx_w82, hL0_w82, by omega, stz.sl 0 _ rfl, by show _ ≤ lo_w82; omega, stz.below (by omega)⟩
    · have e0 : (r == 0) = false := by simpa using h0
      obtain ⟨c_x_0, c_x_1⟩ := (st62.box 0 (w4.heap.size, [.int .i64 (P : Int), .slice a60 (phiN P) k60]) rfl).cell2
      have z_x := (st62.box 0 (w4.heap.size, [.int .i64 (P : Int), .slice a60 (phiN P) k60]) rfl).2.2
      dsimp only at c_x_0 c_x_1 z_x
      have q_t := st62.sl 0 ⟨true, w4.heap.size + 1, w60.heap.size, .slice a60 (phiN P) k60, phiN P, V⟩ rfl
      dsimp only at q_t
      go_wp2_with fail
      refine (l01Bad_any (P : Int) _ st62.src st62.bytes st62.low (by unfold inR; omega) q_t (by omega) hpO1 (by omega)).mono ?_
      rintro e w63 ⟨x_w63, L_w63, a_w63, k_w63, g_w63, lo_w63, hi_w63, rfl, hx_w63, hL0_w63, hL_w63, s_w63, hlo_w63, hs_w63, f_w63⟩
      have hz_w63 := f_w63.size
      try simp only [World.size_alloc] at hz_w63
      have st63 := st62.draw hs_w63 f_w63
      try simp only [World.size_alloc] at s_w63
      replace st63 := st63.addSl ⟨false, lo_w63, hi_w63, .slice a_w63 L_w63 k_w63, L_w63, g_w63⟩ s_w63 (.inr (by dsimp only; omega))
      clear c_x_0 c_x_1 z_x q_t st62 hs_w63 f_w63 s_w63
      go_wp2_with fail
      refine (l01Near_any 16 _ st63.src st63.bytes st63.low (by omega) (by omega)).mono ?_
      rintro e w64 ⟨rn, rfl, hrn, hs_w64, _, f_w64⟩
      have hz_w64 := f_w64.size
      try simp only [World.size_alloc] at hz_w64
      have st64 := st63.draw hs_w64 f_w64
      clear st63 hs_w64 f_w64
      go_wp2_with fail
      refine (pick_ds (st64.alloc _) (lst7 _ _ _ _ _ _ _ _ (by unfold inR; omega) (by unfold inR; omega) (by unfold inR; omega) (by unfold inR; omega) (by unfold inR; omega) (by unfold inR; omega) hrn) (.inr (by omega)) (by omega) (by omega)).mono ?_; rintro e w90 ⟨m9, rfl, st90, hz90⟩; (try simp only [World.size_drew, World.size_alloc] at hz90)
      obtain ⟨c_r_0, c_r_1⟩ := (st90.box 1 (w.heap.size, [.int .i64 0, .slice none 0 0]) rfl).cell2; have z_r := (st90.box 1 (w.heap.size, [.int .i64 0, .slice none 0 0]) rfl).2.2; dsimp only at c_r_0 c_r_1 z_r
      go_wp2
      refine bodyPost_ret (v := .tuple #[.agg #[.int .i64 x_w63, .slice a_w63 L_w63 k_w63], .int .i64 _]) (by simp [results, Try.results116, go_sem, c_r_0, c_r_1]; rfl) rfl ?_
      have FS : Frame w.heap.size (w.heap.size + 1) w90 ((w90.setCell ⟨w.heap.size, 0, none⟩ (.int .i64 x_w63)).setCell ⟨w.heap.size, 1, none⟩ (.slice a_w63 L_w63 k_w63)) := ((Frame.refl _ _ _).set (by omega) (by omega) _).set (by omega) (by omega) _
      have stz := st90.write FS (by omega) (by omega) [] [⟨false, lo_w63, hi_w63, .slice a_w63 L_w63 k_w63, L_w63, g_w63⟩] (fun x hx => by cases hx) (fun s hs => by obtain rfl := List.mem_singleton.1 hs; exact ⟨by simp, .inr (by dsimp only; omega)⟩)
      exact ⟨x_w63, L_w63, a_w63, k_w63, g_w63, lo_w63, hi_w63, _, rfl, hx_w63, hL0_w63, by omega, stz.sl 0 _ rfl, by show _ ≤ lo_w63; omega, stz.below (by omega)⟩
  · have hpO := hp
    have hpO1 := hp1
    have q_t := st4.sl 0 ⟨true, w3.heap.size, w4.heap.size, .slice a_w4 (phiN N) k_w4, (phiN N), g_w4⟩ rfl
    dsimp only at q_t
    go_wp2_with fail
    refine (l01Bad_any (N : Int) _ st4.src st4.bytes st4.low (by unfold inR; omega) q_t (by omega) hpO1 (by omega)).mono ?_
    rintro e w5 ⟨x_w5, L_w5, a_w5, k_w5, g_w5, lo_w5, hi_w5, rfl, hx_w5, hL0_w5, hL_w5, s_w5, hlo_w5, hs_w5, f_w5⟩
    have hz_w5 := f_w5.size
    try simp only [World.size_alloc] at hz_w5
    have st5 := st4.draw hs_w5 f_w5
    try simp only [World.size_alloc] at s_w5
    replace st5 := st5.addSl ⟨false, lo_w5, hi_w5, .slice a_w5 L_w5 k_w5, L_w5, g_w5⟩ s_w5 (.inr (by dsimp only; omega))
    clear c_x_0 c_x_1 z_x q_t st4 hs_w5 f_w5 s_w5
    go_wp2_with fail
    refine (l01Near_any 16 _ st5.src st5.bytes st5.low (by omega) (by omega)).mono ?_
    rintro e w6 ⟨rn, rfl, hrn, hs_w6, _, f_w6⟩
    have hz_w6 := f_w6.size
    try simp only [World.size_alloc] at hz_w6
    have st6 := st5.draw hs_w6 f_w6
    clear st5 hs_w6 f_w6
    go_wp2_with fail
    refine (pick_ds (st6.alloc _) (lst7 _ _ _ _ _ _ _ _ (by unfold inR; omega) (by unfold inR; omega) (by unfold inR; omega) (by unfold inR; omega) (by unfold inR; omega) (by unfold inR; omega) hrn) (.inr (by omega)) (by omega) (by omega)).mono ?_; rintro e w90 ⟨m9, rfl, st90, hz90⟩; (try simp only [World.size_drew, World.size_alloc] at hz90)
    obtain ⟨c_r_0, c_r_1⟩ := (st90.box 1 (w.heap.size, [.int .i64 0, .slice none 0 0]) rfl).cell2; have z_r := (st90.box 1 (w.heap.size, [.int .i64 0, .slice none 0 0]) rfl).2.2; dsimp only at c_r_0 c_r_1 z_r
    go_wp2
    refine bodyPost_ret (v := .tuple #[.agg #[.int .i64 x_w5, .slice a_w5 L_w5 k_w5], .int .i64 _]) (by simp [results, Try.results116, go_sem, c_r_0, c_r_1]; rfl) rfl ?_
    have FS : Frame w.heap.size (w.heap.size + 1) w90 ((w90.setCell ⟨w.heap.size, 0, none⟩ (.int .i64 x_w5)).setCell ⟨w.heap.size, 1, none⟩ (.slice a_w5 L_w5 k_w5)) := ((Frame.refl _ _ _).set (by omega) (by omega) _).set (by omega) (by omega) _
    have stz := st90.write FS (by omega) (by omega) [] [⟨false, lo_w5, hi_w5, .slice a_w5 L_w5 k_w5, L_w5, g_w5⟩] (fun x hx => by cases hx) (fun s hs => by obtain rfl := List.mem_singleton.1 hs; exact ⟨by simp, .inr (by dsimp only; omega)⟩)
    exact ⟨x_w5, L_w5, a_w5, k_w5, g_w5, lo_w5, hi_w5, _, rfl, hx_w5, hL0_w5, by omega, stz.sl 0 _ rfl, by show _ ≤ lo_w5; omega, stz.below (by omega)⟩
end
end

section
open Go.RowKit Go.ChangeShapes Go.Sort
set_option linter.unusedVariables false
set_option linter.unusedSimpArgs false

section
variable {o : Bool} {lo hi n : Nat} {v : Value} {f : Nat → Int}
set_option maxHeartbeats 800000 in
theorem likeInts_yes {o' : Bool} {lo' hi' : Nat} {v' : Value} {f' : Nat → Int} (w : World) (hs : Sl o w lo hi v n f) (hs' : Sl o' w lo' hi' v' n f') (he : ∀ j, j < n → f j = f' j) :
    Calls Try.prog 80 #[v, v'] w fun e w' => e = .returned (.bool true) ∧ Below w.heap.size w w' := by
  obtain ⟨a, cap, rfl⟩ := hs.shape
  obtain ⟨a', cap', rfl⟩ := hs'.shape
  have hm := hs.len
  unfold maxLen at hm
  have HS := Lib.hid hs; clear hs
  have HS' := Lib.hid hs'; clear hs'
  have HE := Lib.hid he; clear he
  go_enter Try.func80, Try.ntmps80
  go_wp2
  go_loopw [5] (fun i wr => ∃ k : Nat, k ≤ n ∧ i = .int .i64 k ∧ Below w.heap.size w wr) (fun i _ => n - (intOf i).toNat)
  case atStart => exact ⟨0, Nat.zero_le _, rfl, Below.refl _ _⟩
  case round =>
    obtain ⟨k, hk, rfl, hb⟩ := hrel
    by_cases hlt : k < n
    · obtain ⟨g, off, c1, hv, _, hg, _, _, hc, _⟩ := HS.out.at (by omega)
      have hgs : g < w.heap.size := Nat.lt_of_lt_of_le hg HS.out.size
      obtain ⟨rfl, rfl⟩ : a = some ⟨g, off, none⟩ ∧ cap = c1 := by cases hv; exact ⟨rfl, rfl⟩
      obtain ⟨g', off', c1', hv', _, hg', _, _, hc', _⟩ := HS'.out.at (by omega)
      have hgs' : g' < w.heap.size := Nat.lt_of_lt_of_le hg' HS'.out.size
      obtain ⟨rfl, rfl⟩ : a' = some ⟨g', off', none⟩ ∧ cap' = c1' := by cases hv'; exact ⟨rfl, rfl⟩
      clear hv hg hv' hg'
      have hck : wr.cell? ⟨g, off + k, none⟩ = some (.int .i64 (f k)) := by rw [hb.cell (p := ⟨g, off + k, none⟩) hgs]; exact hc k hlt
      have hck' : wr.cell? ⟨g', off' + k, none⟩ = some (.int .i64 (f k)) := by rw [hb.cell (p := ⟨g', off' + k, none⟩) hgs', HE.out k hlt]; exact hc' k hlt
      clear hc hc'
      go_wp2
      go_quiet (fail)
      go_wp2
      go_roundw
      case rel => exact ⟨k + 1, by omega, by go_num, below_drewN hb _⟩
      case measure => simp [intOf]; omega
    · go_wp2
      go_ret
      exact ⟨rfl, hb⟩

set_option maxHeartbeats 800000 in
theorem cyclos5_yes {o' : Bool} {lo' hi' : Nat} {v' : Value} {f' : Nat → Int} (x : Int) (w : World) (hs : Sl o w lo hi v n f) (hs' : Sl o' w lo' hi' v' n f') (he : ∀ j, j < n → f j = f' j) :
    Calls Try.prog 62 #[.agg #[.int .i64 x, v], .agg #[.int .i64 x, v']] w fun e w' => e = .returned (.bool true) ∧ Below w.heap.size w w' := by
  obtain ⟨a, cap, rfl⟩ := hs.shape
  obtain ⟨a', cap', rfl⟩ := hs'.shape
  have HS := Lib.hid hs; clear hs
  have HS' := Lib.hid hs'; clear hs'
  have HE := Lib.hid he; clear he
  go_enter Try.func62, Try.ntmps62
  go_wp2_with (go_at_call 80; refine (likeInts_yes _ ((HS.out.alloc _).alloc _) ((HS'.out.alloc _).alloc _) HE.out).mono ?_; rintro e w1 ⟨rfl, hb⟩)
  go_ret
  exact ⟨rfl, (((Below.refl w.heap.size w).alloc (Nat.le_refl _) _).alloc (by simp) _).trans (hb.mono (by simp; omega))⟩

set_option maxHeartbeats 800000 in
theorem cyclo9_yes {o' : Bool} {lo' hi' : Nat} {v' : Value} {f' : Nat → Int} (x : Int) (w : World) (hs : Sl o w lo hi v n f) (hs' : Sl o' w lo' hi' v' n f') (he : ∀ j, j < n → f j = f' j) :
    Calls Try.prog 91 #[.agg #[.int .i64 x, v], .agg #[.int .i64 x, v']] w fun e w' => e = .returned (.bool true) ∧ Below w.heap.size w w' := by
  obtain ⟨a, cap, rfl⟩ := hs.shape
  obtain ⟨a', cap', rfl⟩ := hs'.shape
  have HS := Lib.hid hs; clear hs
  have HS' := Lib.hid hs'; clear hs'
  have HE := Lib.hid he; clear he
  go_enter Try.func91, Try.ntmps91
  go_wp2_with (go_at_call 80; refine (likeInts_yes _ ((HS.out.alloc _).alloc _) ((HS'.out.alloc _).alloc _) HE.out).mono ?_; rintro e w1 ⟨rfl, hb⟩)
  go_ret
  exact ⟨rfl, (((Below.refl w.heap.size w).alloc (Nat.le_refl _) _).alloc (by simp) _).trans (hb.mono (by simp; omega))⟩

end
theorem big_no (p : Option Addr) (n q : Nat) (w : World) (h : n ≤ 4096) : Calls Try.prog 48 #[.slice p n q] w fun e w' => e = .returned (.bool false) ∧ Below w.heap.size w w' := by
  have hh : ¬ (4096 < (n : Int)) := by omega
  go_enter Try.func48, Try.ntmps48
  go_wp2
  go_ret
  exact ⟨rfl, Below.refl _ _⟩
theorem big_yes (p : Option Addr) (n q : Nat) (w : World) (h : 4096 < n) : Calls Try.prog 48 #[.slice p n q] w fun e w' => e = .returned (.bool true) ∧ Below w.heap.size w w' := by
  have hd : decide ((4096 : Int) < (n : Int)) = true := decide_eq_true (by omega)
  go_enter Try.func48, Try.ntmps48
  go_wp2
  go_ret
  exact ⟨by first | rfl | (show Ending.returned (.bool (decide ((4096 : Int) < (n : Int)))) = _; rw [hd]), Below.refl _ _⟩
/-- A code that came in. -/
theorem Bytes.came {H : Type} {enc : TypeId × Value → H} {P : Program} {W : World} {t e : TypeId} {fuel : Nat} {c : Value} {y : DataW H × List MemPlace}
    (ht : P.underlying t = some (.slice e)) (he : P.underlying e = some (.int .u8)) (hc : P.cellsOf e = 1)
    (h : DataW.trod enc P W 0 (fun _ => true) true fuel t [c] = some y) : ∃ p n q, c = .slice p n q ∧ (n ≤ 4096 → Bytes W W.heap.size p n) := by
  rcases open_ints ht he hc h with ⟨hcs, _⟩ | ⟨a, len, cap, zs, hcs, _, hl, hm, hz, _, hcell, hwz⟩
  · cases hcs
    exact ⟨none, 0, 0, rfl, fun _ => ⟨by omega, fun j hj => absurd hj (Nat.not_lt_zero _)⟩⟩
  · cases hcs
    refine ⟨some a, len, cap, rfl, fun hn => ⟨hn, fun j hj => ?_⟩⟩
    simp only [if_true] at hz
    obtain ⟨b, off, rfl, hcells⟩ := ints_at hcell (by omega)
    have hj' : j < zs.length := by omega
    have hwf : (Lit.int .u8 (zs.getD j 0)).wf = true := hwz _ (by
      rw [List.getD_eq_getElem?_getD, List.getElem?_eq_getElem hj']
      exact List.getElem_mem hj')
    have hb : 0 ≤ zs.getD j 0 ∧ zs.getD j 0 ≤ 255 := by simpa [Lit.wf, IntKind.min, IntKind.max, IntKind.signed, IntKind.bits] using hwf
    exact ⟨b, off, zs.getD j 0, rfl, World.block_lt_of_cell? _ _ (hcells 0 (by omega)), World.block_lt_of_cell? _ _ (hcells 0 (by omega)), hcells j hj', hb.1, hb.2⟩
end

section
open Go
theorem and_tt {a b : Bool} (h : a = true) (h' : b = true) : (a && b) = true := by rw [h, h']; rfl
def initChars : List Char := [Char.ofNat 104, Char.ofNat 97, Char.ofNat 114, Char.ofNat 110, Char.ofNat 101, Char.ofNat 115, Char.ofNat 115, Char.ofNat 32, Char.ofNat 57, Char.ofNat 49, Char.ofNat 54, Char.ofNat 49, Char.ofNat 57, Char.ofNat 51, Char.ofNat 101, Char.ofNat 102, Char.ofNat 97, Char.ofNat 53, Char.ofNat 57, Char.ofNat 101, Char.ofNat 98, Char.ofNat 57, Char.ofNat 51, Char.ofNat 100, Char.ofNat 102, Char.ofNat 55, Char.ofNat 100, Char.ofNat 49, Char.ofNat 51, Char.ofNat 51, Char.ofNat 98, Char.ofNat 101, Char.ofNat 53, Char.ofNat 101, Char.ofNat 97, Char.ofNat 54, Char.ofNat 55, Char.ofNat 102, Char.ofNat 52, Char.ofNat 99, Char.ofNat 98, Char.ofNat 98, Char.ofNat 48, Char.ofNat 55, Char.ofNat 97, Char.ofNat 101, Char.ofNat 54, Char.ofNat 98, Char.ofNat 54, Char.ofNat 56, Char.ofNat 99, Char.ofNat 99, Char.ofNat 99, Char.ofNat 97, Char.ofNat 100, Char.ofNat 57, Char.ofNat 54, Char.ofNat 56, Char.ofNat 100, Char.ofNat 53, Char.ofNat 57, Char.ofNat 102, Char.ofNat 56, Char.ofNat 101, Char.ofNat 55, Char.ofNat 56, Char.ofNat 57, Char.ofNat 51, Char.ofNat 49, Char.ofNat 50, Char.ofNat 50, Char.ofNat 53, Char.ofNat 32, Char.ofNat 99, Char.ofNat 117, Char.ofNat 116, Char.ofNat 32, Char.ofNat 97, Char.ofNat 116, Char.ofNat 32, Char.ofNat 108, Char.ofNat 111, Char.ofNat 111, Char.ofNat 112, Char.ofNat 46, Char.ofNat 101, Char.ofNat 120, Char.ofNat 97, Char.ofNat 109, Char.ofNat 112, Char.ofNat 108, Char.ofNat 101, Char.ofNat 47, Char.ofNat 103, Char.ofNat 48, Char.ofNat 49, Char.ofNat 51, Char.ofNat 49, Char.ofNat 51, Char.ofNat 47, Char.ofNat 108, Char.ofNat 97, Char.ofNat 119, Char.ofNat 115, Char.ofNat 46, Char.ofNat 70, Char.ofNat 110, Char.ofNat 69, Char.ofNat 120, Char.ofNat 97, Char.ofNat 99, Char.ofNat 116, Char.ofNat 74, Char.ofNat 97, Char.ofNat 99, Char.ofNat 111, Char.ofNat 98, Char.ofNat 105, Char.ofNat 83, Char.ofNat 117, Char.ofNat 109, Char.ofNat 32, Char.ofNat 108, Char.ofNat 111, Char.ofNat 111, Char.ofNat 112, Char.ofNat 46, Char.ofNat 101, Char.ofNat 120, Char.ofNat 97, Char.ofNat 109, Char.ofNat 112, Char.ofNat 108, Char.ofNat 101, Char.ofNat 47, Char.ofNat 103, Char.ofNat 48, Char.ofNat 49, Char.ofNat 51, Char.ofNat 49, Char.ofNat 51, Char.ofNat 47, Char.ofNat 108, Char.ofNat 97, Char.ofNat 119, Char.ofNat 115, Char.ofNat 46, Char.ofNat 70, Char.ofNat 110, Char.ofNat 69, Char.ofNat 120, Char.ofNat 97, Char.ofNat 99, Char.ofNat 116, Char.ofNat 74, Char.ofNat 97, Char.ofNat 99, Char.ofNat 111, Char.ofNat 98, Char.ofNat 105, Char.ofNat 79, Char.ofNat 102, Char.ofNat 32, Char.ofNat 108, Char.ofNat 111, Char.ofNat 111, Char.ofNat 112, Char.ofNat 46, Char.ofNat 101, Char.ofNat 120, Char.ofNat 97, Char.ofNat 109, Char.ofNat 112, Char.ofNat 108, Char.ofNat 101, Char.ofNat 47, Char.ofNat 103, Char.ofNat 48, Char.ofNat 49, Char.ofNat 51, Char.ofNat 49, Char.ofNat 51, Char.ofNat 47, Char.ofNat 108, Char.ofNat 97, Char.ofNat 119, Char.ofNat 115, Char.ofNat 46, Char.ofNat 70, Char.ofNat 110, Char.ofNat 69, Char.ofNat 120, Char.ofNat 97, Char.ofNat 99, Char.ofNat 116, Char.ofNat 90, Char.ofNat 101, Char.ofNat 114, Char.ofNat 111, Char.ofNat 83, Char.ofNat 117, Char.ofNat 109, Char.ofNat 79, Char.ofNat 102, Char.ofNat 32, Char.ofNat 108, Char.ofNat 111, Char.ofNat 111, Char.ofNat 112, Char.ofNat 46, Char.ofNat 101, Char.ofNat 120, Char.ofNat 97, Char.ofNat 109, Char.ofNat 112, Char.ofNat 108, Char.ofNat 101, Char.ofNat 47, Char.ofNat 103, Char.ofNat 48, Char.ofNat 49, Char.ofNat 51, Char.ofNat 49, Char.ofNat 51, Char.ofNat 47, Char.ofNat 108, Char.ofNat 97, Char.ofNat 119, Char.ofNat 115, Char.ofNat 46, Char.ofNat 70, Char.ofNat 110, Char.ofNat 69, Char.ofNat 120, Char.ofNat 97, Char.ofNat 99, Char.ofNat 116, Char.ofNat 83, Char.ofNat 113, Char.ofNat 117, Char.ofNat 97, Char.ofNat 114, Char.ofNat 101, Char.ofNat 79, Char.ofNat 102, Char.ofNat 74, Char.ofNat 97, Char.ofNat 99, Char.ofNat 111, Char.ofNat 98, Char.ofNat 105, Char.ofNat 32, Char.ofNat 108, Char.ofNat 111, Char.ofNat 111, Char.ofNat 112, Char.ofNat 46, Char.ofNat 101, Char.ofNat 120, Char.ofNat 97, Char.ofNat 109, Char.ofNat 112, Char.ofNat 108, Char.ofNat 101, Char.ofNat 47, Char.ofNat 103, Char.ofNat 48, Char.ofNat 49, Char.ofNat 51, Char.ofNat 49, Char.ofNat 51, Char.ofNat 47, Char.ofNat 108, Char.ofNat 97, Char.ofNat 119, Char.ofNat 115, Char.ofNat 46, Char.ofNat 70, Char.ofNat 110, Char.ofNat 69, Char.ofNat 120, Char.ofNat 97, Char.ofNat 99, Char.ofNat 116, Char.ofNat 74, Char.ofNat 97, Char.ofNat 99, Char.ofNat 111, Char.ofNat 98, Char.ofNat 105, Char.ofNat 82, Char.ofNat 111, Char.ofNat 119, Char.ofNat 32, Char.ofNat 108, Char.ofNat 111, Char.ofNat 111, Char.ofNat 112, Char.ofNat 46, Char.ofNat 101, Char.ofNat 120, Char.ofNat 97, Char.ofNat 109, Char.ofNat 112, Char.ofNat 108, Char.ofNat 101, Char.ofNat 47, Char.ofNat 103, Char.ofNat 48, Char.ofNat 49, Char.ofNat 51, Char.ofNat 49, Char.ofNat 51, Char.ofNat 47, Char.ofNat 108, Char.ofNat 97, Char.ofNat 119, Char.ofNat 115, Char.ofNat 46, Char.ofNat 70, Char.ofNat 110, Char.ofNat 69, Char.ofNat 120, Char.ofNat 97, Char.ofNat 99, Char.ofNat 116, Char.ofNat 67, Char.ofNat 111, Char.ofNat 117, Char.ofNat 110, Char.ofNat 116, Char.ofNat 66, Char.ofNat 121, Char.ofNat 74, Char.ofNat 97, Char.ofNat 99, Char.ofNat 111, Char.ofNat 98, Char.ofNat 105, Char.ofNat 32, Char.ofNat 108, Char.ofNat 111, Char.ofNat 111, Char.ofNat 112, Char.ofNat 46, Char.ofNat 101, Char.ofNat 120, Char.ofNat 97, Char.ofNat 109, Char.ofNat 112, Char.ofNat 108, Char.ofNat 101, Char.ofNat 47, Char.ofNat 103, Char.ofNat 48, Char.ofNat 49, Char.ofNat 51, Char.ofNat 49, Char.ofNat 51, Char.ofNat 47, Char.ofNat 108, Char.ofNat 97, Char.ofNat 119, Char.ofNat 115, Char.ofNat 46, Char.ofNat 70, Char.ofNat 110, Char.ofNat 69, Char.ofNat 120, Char.ofNat 97, Char.ofNat 99, Char.ofNat 116, Char.ofNat 83, Char.ofNat 113, Char.ofNat 117, Char.ofNat 97, Char.ofNat 114, Char.ofNat 101, Char.ofNat 80, Char.ofNat 97, Char.ofNat 105, Char.ofNat 114, Char.ofNat 32, Char.ofNat 108, Char.ofNat 111, Char.ofNat 111, Char.ofNat 112, Char.ofNat 46, Char.ofNat 101, Char.ofNat 120, Char.ofNat 97, Char.ofNat 109, Char.ofNat 112, Char.ofNat 108, Char.ofNat 101, Char.ofNat 47, Char.ofNat 103, Char.ofNat 48, Char.ofNat 49, Char.ofNat 51, Char.ofNat 49, Char.ofNat 51, Char.ofNat 47, Char.ofNat 108, Char.ofNat 97, Char.ofNat 119, Char.ofNat 115, Char.ofNat 46, Char.ofNat 70, Char.ofNat 110, Char.ofNat 69, Char.ofNat 120, Char.ofNat 97, Char.ofNat 99, Char.ofNat 116, Char.ofNat 67, Char.ofNat 117, Char.ofNat 98, Char.ofNat 105, Char.ofNat 99, Char.ofNat 80, Char.ofNat 97, Char.ofNat 105, Char.ofNat 114, Char.ofNat 32, Char.ofNat 108, Char.ofNat 111, Char.ofNat 111, Char.ofNat 112, Char.ofNat 46, Char.ofNat 101, Char.ofNat 120, Char.ofNat 97, Char.ofNat 109, Char.ofNat 112, Char.ofNat 108, Char.ofNat 101, Char.ofNat 47, Char.ofNat 103, Char.ofNat 48, Char.ofNat 49, Char.ofNat 51, Char.ofNat 49, Char.ofNat 51, Char.ofNat 47, Char.ofNat 108, Char.ofNat 97, Char.ofNat 119, Char.ofNat 115, Char.ofNat 46, Char.ofNat 70, Char.ofNat 110, Char.ofNat 69, Char.ofNat 120, Char.ofNat 97, Char.ofNat 99, Char.ofNat 116, Char.ofNat 73, Char.ofNat 115, Char.ofNat 80, Char.ofNat 108, Char.ofNat 97, Char.ofNat 105, Char.ofNat 110, Char.ofNat 80, Char.ofNat 97, Char.ofNat 105, Char.ofNat 114, Char.ofNat 32, Char.ofNat 108, Char.ofNat 111, Char.ofNat 111, Char.ofNat 112, Char.ofNat 46, Char.ofNat 101, Char.ofNat 120, Char.ofNat 97, Char.ofNat 109, Char.ofNat 112, Char.ofNat 108, Char.ofNat 101, Char.ofNat 47, Char.ofNat 103, Char.ofNat 48, Char.ofNat 49, Char.ofNat 51, Char.ofNat 49, Char.ofNat 51, Char.ofNat 47, Char.ofNat 108, Char.ofNat 97, Char.ofNat 119, Char.ofNat 115, Char.ofNat 46, Char.ofNat 70, Char.ofNat 110, Char.ofNat 67, Char.ofNat 104, Char.ofNat 97, Char.ofNat 114, Char.ofNat 97, Char.ofNat 99, Char.ofNat 116, Char.ofNat 101, Char.ofNat 114, Char.ofNat 115, Char.ofNat 32, Char.ofNat 108, Char.ofNat 111, Char.ofNat 111, Char.ofNat 112, Char.ofNat 46, Char.ofNat 101, Char.ofNat 120, Char.ofNat 97, Char.ofNat 109, Char.ofNat 112, Char.ofNat 108, Char.ofNat 101, Char.ofNat 47, Char.ofNat 103, Char.ofNat 48, Char.ofNat 49, Char.ofNat 51, Char.ofNat 49, Char.ofNat 51, Char.ofNat 47, Char.ofNat 108, Char.ofNat 97, Char.ofNat 119, Char.ofNat 115, Char.ofNat 46, Char.ofNat 70, Char.ofNat 110, Char.ofNat 77, Char.ofNat 105, Char.ofNat 110, Char.ofNat 105, Char.ofNat 109, Char.ofNat 97, Char.ofNat 108, Char.ofNat 32, Char.ofNat 108, Char.ofNat 111, Char.ofNat 111, Char.ofNat 112, Char.ofNat 46, Char.ofNat 101, Char.ofNat 120, Char.ofNat 97, Char.ofNat 109, Char.ofNat 112, Char.ofNat 108, Char.ofNat 101, Char.ofNat 47, Char.ofNat 103, Char.ofNat 48, Char.ofNat 49, Char.ofNat 51, Char.ofNat 49, Char.ofNat 51, Char.ofNat 47, Char.ofNat 108, Char.ofNat 97, Char.ofNat 119, Char.ofNat 115, Char.ofNat 46, Char.ofNat 70, Char.ofNat 110, Char.ofNat 68, Char.ofNat 105, Char.ofNat 118, Char.ofNat 105, Char.ofNat 115, Char.ofNat 105, Char.ofNat 111, Char.ofNat 110, Char.ofNat 32, Char.ofNat 108, Char.ofNat 111, Char.ofNat 111, Char.ofNat 112, Char.ofNat 46, Char.ofNat 101, Char.ofNat 120, Char.ofNat 97, Char.ofNat 109, Char.ofNat 112, Char.ofNat 108, Char.ofNat 101, Char.ofNat 47, Char.ofNat 103, Char.ofNat 48, Char.ofNat 49, Char.ofNat 51, Char.ofNat 49, Char.ofNat 51, Char.ofNat 47, Char.ofNat 108, Char.ofNat 97, Char.ofNat 119, Char.ofNat 115, Char.ofNat 46, Char.ofNat 70, Char.ofNat 110, Char.ofNat 71, Char.ofNat 97, Char.ofNat 108, Char.ofNat 111, Char.ofNat 105, Char.ofNat 115]
set_option maxRecDepth 100000 in
theorem init_word : Try.prog.initOrder = String.ofList initChars := by kernel_rfl
theorem init_list : Try.prog.initOrder.toList = initChars := by rw [init_word, String.toList_ofList]
set_option maxRecDepth 100000
theorem init_head : (behindMainWord (wordsSigns initChars)).head? = some [Char.ofNat 99, Char.ofNat 117, Char.ofNat 116] := by kernel_rfl
theorem init_r1 : (stripLifts liftWords (behindMainWord (wordsSigns initChars))).1 = [] := by kernel_rfl
theorem init_r2 : ((stripLifts liftWords (behindMainWord (wordsSigns initChars))).2.head? == some "cut".toList) = true := by kernel_rfl
theorem init_r3 : Try.prog.laysLater = false := by kernel_rfl
theorem init_r4 : Try.prog.bearsReflect = false := by kernel_rfl
theorem init_r5 : Try.prog.doorFits [] = true := by kernel_rfl
theorem init_lifts : Try.prog.liftsFinal = false := by unfold Program.liftsFinal Program.headLifts; rw [init_list]; kernel_rfl
theorem init_cons : ∃ rest, behindMainWord (wordsSigns initChars) = [Char.ofNat 99, Char.ofNat 117, Char.ofNat 116] :: rest := by
  have h := init_head
  cases hb : behindMainWord (wordsSigns initChars) with
  | nil => rw [hb] at h; cases h
  | cons c rest => rw [hb] at h; injection h with h; subst h; exact ⟨rest, rfl⟩
theorem init_g : ([Char.ofNat 99, Char.ofNat 117, Char.ofNat 116] == "gc".toList) = false := by kernel_rfl
theorem init_s : ([Char.ofNat 99, Char.ofNat 117, Char.ofNat 116] == "spec".toList) = false := by kernel_rfl
theorem init_c : ([Char.ofNat 99, Char.ofNat 117, Char.ofNat 116] == "cut".toList) = true := by kernel_rfl
theorem make_of {P : Program} {rest : List (List Char)} (h : behindMainWord (wordsSigns P.initOrder.toList) = [Char.ofNat 99, Char.ofNat 117, Char.ofNat 116] :: rest) : P.make = some .cut := by
  unfold Program.make
  rw [h]
  simp only [init_g, init_s, init_c, Bool.or_self, Bool.true_or, Bool.false_eq_true, if_false, if_true]
theorem enter_of {P : Program} {rest : List (List Char)} (h : behindMainWord (wordsSigns P.initOrder.toList) = [Char.ofNat 99, Char.ofNat 117, Char.ofNat 116] :: rest)
    (h1 : (stripLifts liftWords ([Char.ofNat 99, Char.ofNat 117, Char.ofNat 116] :: rest)).1 = []) (h2 : ((stripLifts liftWords ([Char.ofNat 99, Char.ofNat 117, Char.ofNat 116] :: rest)).2.head? == some "cut".toList) = true)
    (h3 : P.laysLater = false) (h4 : P.bearsReflect = false) (h5 : P.doorFits [] = true) : P.mayEnter = true := by
  unfold Program.mayEnter
  rw [h]
  simp only [h1, h2, h3, h4, h5, List.contains_nil, Bool.not_false, Bool.or_true, Bool.and_true]
theorem init_make : Try.prog.make = some .cut := by
  obtain ⟨rest, hr⟩ := init_cons
  exact make_of (rest := rest) (by rw [init_list]; exact hr)
theorem init_enter : Try.prog.mayEnter = true := by
  have h1 := init_r1
  have h2 := init_r2
  obtain ⟨rest, hr⟩ := init_cons
  rw [hr] at h1 h2
  exact enter_of (rest := rest) (by rw [init_list]; exact hr) h1 h2 init_r3 init_r4 init_r5
theorem tt_lifts {P : Program} {c : Bool} (h : P.liftsFinal = false) (hc : c = false) : (c == P.liftsFinal) = true := by rw [h, hc]; rfl
theorem tt_make {P : Program} {c : Make} (h : P.make = some .cut) (hc : c = .cut) : (P.make == some c) = true := by rw [h, hc]; rfl
end

open Go.RowKit Go.ChangeShapes Go.Sort Go.WideShapes Go.ChangeAt
set_option linter.unusedVariables false
set_option linter.unusedSimpArgs false
namespace fnGalois
set_option maxRecDepth 100000 in
set_option maxHeartbeats 8000000 in
theorem walk (w : World) (p : Option Addr) (n q : Nat) (hb : n ≤ 4096 → Bytes w w.heap.size p n) :
    Calls Try.prog 15 #[.slice p n q] w fun e w' => e = .returned (.bool true) ∧ Below w.heap.size w w' := by
  by_cases hn : n ≤ 4096
  case neg =>
    go_enter Try.func15, Try.ntmps15
    go_wp2_with fail
    refine (big_yes _ _ _ _ (by omega)).mono ?_
    rintro e w1 ⟨rfl, b1⟩
    go_wp2
    go_ret
    exact ⟨rfl, b1⟩
  have by0 := hb hn
  clear hb
  have st0 := St.start w
  go_enter Try.func15, Try.ntmps15
  go_wp2_with fail
  refine (big_no _ _ _ _ hn).mono ?_
  rintro e w1 ⟨rfl, b_w1⟩
  have hz_w1 := b_w1.size
  try simp only [World.size_alloc] at hz_w1
  have st1 := st0.keep b_w1
  have by1 := by0.below b_w1
  clear st0 by0 b_w1
  go_wp2_with fail
  refine (DrawGaloisImage_any _ by1 (by (try simp only [World.size_alloc]); omega)).mono ?_
  rintro e w2 ⟨x_w2, L_w2, a_w2, k_w2, g_w2, lo_w2, hi_w2, a, rfl, hx_w2, hL0_w2, hL_w2, s_w2, hlo_w2, b_w2⟩
  have hz_w2 := b_w2.size
  try simp only [World.size_alloc] at hz_w2
  have st2 := st1.keep b_w2
  have by2 := by1.below b_w2
  try simp only [World.size_alloc] at s_w2
  have hsz_x := s_w2.size
  replace st2 := st2.addSl ⟨false, lo_w2, hi_w2, .slice a_w2 L_w2 k_w2, L_w2, g_w2⟩ s_w2
  replace st2 := (st2.alloc (.cells #[.int .i64 x_w2, .slice a_w2 L_w2 k_w2] 26)).addBox _ [.int .i64 x_w2, .slice a_w2 L_w2 k_w2] (Box.made _ _ _ _ (fun j v h => by simpa using h))
  replace by2 := by2.below ((Below.refl _ _).alloc (Nat.le_refl _) (.cells #[.int .i64 x_w2, .slice a_w2 L_w2 k_w2] 26))
  clear st1 by1 b_w2 s_w2
  obtain ⟨Rg, Ng, Gg, Cg, hS, hI, hR⟩ := GaloisImage_two x_w2 L_w2 g_w2 a
  have HS := Lib.hid hS; have HI := Lib.hid hI; clear hS hI
  have HR_g := Lib.hid hR; clear hR
  obtain ⟨c_x_0, c_x_1⟩ := (st2.box 0 (w2.heap.size, [.int .i64 x_w2, .slice a_w2 L_w2 k_w2]) rfl).cell2
  try dsimp only at c_x_0 c_x_1
  have q_x := st2.sl 0 ⟨false, lo_w2, hi_w2, .slice a_w2 L_w2 k_w2, L_w2, g_w2⟩ rfl
  try dsimp only at q_x
  go_wp2_with fail
  refine (HI.out _ _ _ _ _ q_x).mono ?_
  rintro e w3 ⟨a_w3, k_w3, rfl, s_w3, b_w3⟩
  have hz_w3 := b_w3.size
  try simp only [World.size_alloc] at hz_w3
  have st3 := st2.keep b_w3
  have by3 := by2.below b_w3
  try simp only [World.size_alloc] at s_w3
  replace st3 := st3.addSl ⟨true, w2.heap.size + 1, w3.heap.size, .slice a_w3 Ng k_w3, Ng, Gg⟩ s_w3
  replace st3 := (st3.alloc (.cells #[.int .i64 Rg, .slice a_w3 Ng k_w3] 26)).addBox _ [.int .i64 Rg, .slice a_w3 Ng k_w3] (Box.made _ _ _ _ (fun j v h => by simpa using h))
  replace by3 := by3.below ((Below.refl _ _).alloc (Nat.le_refl _) (.cells #[.int .i64 Rg, .slice a_w3 Ng k_w3] 26))
  clear c_x_0 c_x_1 q_x st2 by2 b_w3 s_w3
  obtain ⟨c_x_0, c_x_1⟩ := (st3.box 1 (w2.heap.size, [.int .i64 x_w2, .slice a_w2 L_w2 k_w2]) rfl).cell2
  try dsimp only at c_x_0 c_x_1
  have q_x := st3.sl 1 ⟨false, lo_w2, hi_w2, .slice a_w2 L_w2 k_w2, L_w2, g_w2⟩ rfl
  try dsimp only at q_x
  go_wp2_with fail
  refine (HS.out _ _ _ _ _ q_x).mono ?_
  rintro e w4 ⟨a_w4, k_w4, rfl, s_w4, b_w4⟩
  have hz_w4 := b_w4.size
  try simp only [World.size_alloc] at hz_w4
  have st4 := st3.keep b_w4
  have by4 := by3.below b_w4
  try simp only [World.size_alloc] at s_w4
  replace st4 := st4.addSl ⟨true, w3.heap.size + 1, w4.heap.size, .slice a_w4 Ng k_w4, Ng, Gg⟩ s_w4
  replace st4 := (st4.alloc (.cells #[.int .i64 Rg, .slice a_w4 Ng k_w4] 26)).addBox _ [.int .i64 Rg, .slice a_w4 Ng k_w4] (Box.made _ _ _ _ (fun j v h => by simpa using h))
  replace by4 := by4.below ((Below.refl _ _).alloc (Nat.le_refl _) (.cells #[.int .i64 Rg, .slice a_w4 Ng k_w4] 26))
  clear c_x_0 c_x_1 q_x st3 by3 b_w4 s_w4
  clear HS HI
  obtain ⟨c_image_0, c_image_1⟩ := (st4.box 1 (w3.heap.size, [.int .i64 Rg, .slice a_w3 Ng k_w3]) rfl).cell2
  try dsimp only at c_image_0 c_image_1
  obtain ⟨c_want_0, c_want_1⟩ := (st4.box 0 (w4.heap.size, [.int .i64 Rg, .slice a_w4 Ng k_w4]) rfl).cell2
  try dsimp only at c_want_0 c_want_1
  have q_image := st4.sl 1 ⟨true, w2.heap.size + 1, w3.heap.size, .slice a_w3 Ng k_w3, Ng, Gg⟩ rfl
  try dsimp only at q_image
  have q_want := st4.sl 0 ⟨true, w3.heap.size + 1, w4.heap.size, .slice a_w4 Ng k_w4, Ng, Gg⟩ rfl
  try dsimp only at q_want
  go_wp2_with fail
  refine (cyclos5_yes _ _ q_image q_want (fun _ _ => rfl)).mono ?_
  rintro e w5 ⟨rfl, b_w5⟩
  have hz_w5 := b_w5.size
  try simp only [World.size_alloc] at hz_w5
  have st5 := st4.keep b_w5
  have by5 := by4.below b_w5
  clear c_image_0 c_image_1 c_want_0 c_want_1 q_image q_want st4 by4 b_w5
  go_upto_if 74 with fail
  go_cut [] (fun wx => St w wx [(w4.heap.size, [.int .i64 Rg, .slice a_w4 Ng k_w4]), (w3.heap.size, [.int .i64 Rg, .slice a_w3 Ng k_w3]), (w2.heap.size, [.int .i64 x_w2, .slice a_w2 L_w2 k_w2])] [⟨true, w3.heap.size + 1, w4.heap.size, .slice a_w4 Ng k_w4, Ng, Gg⟩, ⟨true, w2.heap.size + 1, w3.heap.size, .slice a_w3 Ng k_w3, Ng, Gg⟩, ⟨false, lo_w2, hi_w2, .slice a_w2 L_w2 k_w2, L_w2, g_w2⟩] ∧ w5.heap.size ≤ wx.heap.size ∧ Bytes wx w.heap.size p n)
  case first => as_aux_lemma =>
    by_cases h1 : Cg = 0
    case neg =>
      have e1 : (Cg == 0) = false := by simpa using h1
      go_wp2_with fail; go_meet; exact ⟨st5, Nat.le_refl _, by5⟩
    case pos =>
      subst h1
      obtain ⟨R2, N2, G2, C2, hM2, hR2⟩ := MultiplyCyclos_one x_w2 L_w2 g_w2 x_w2 L_w2 g_w2
      have HM2 := Lib.hid hM2; clear hM2
      obtain ⟨c_x_0, c_x_1⟩ := (st5.box 2 (w2.heap.size, [.int .i64 x_w2, .slice a_w2 L_w2 k_w2]) rfl).cell2
      try dsimp only at c_x_0 c_x_1
      have q_x := st5.sl 2 ⟨false, lo_w2, hi_w2, .slice a_w2 L_w2 k_w2, L_w2, g_w2⟩ rfl
      try dsimp only at q_x
      go_wp2_with fail
      refine (HM2.out _ _ _ _ _ _ _ _ _ q_x q_x).mono ?_
      rintro e w6 ⟨a_w6, k_w6, rfl, s_w6, b_w6⟩
      have hz_w6 := b_w6.size
      try simp only [World.size_alloc] at hz_w6
      have st6 := st5.keep b_w6
      have by6 := by5.below b_w6
      try simp only [World.size_alloc] at s_w6
      replace st6 := st6.addSl ⟨true, w5.heap.size, w6.heap.size, .slice a_w6 N2 k_w6, N2, G2⟩ s_w6
      replace st6 := (st6.alloc (.cells #[.int .i64 R2, .slice a_w6 N2 k_w6] 26)).addBox _ [.int .i64 R2, .slice a_w6 N2 k_w6] (Box.made _ _ _ _ (fun j v h => by simpa using h))
      replace by6 := by6.below ((Below.refl _ _).alloc (Nat.le_refl _) (.cells #[.int .i64 R2, .slice a_w6 N2 k_w6] 26))
      clear c_x_0 c_x_1 q_x st5 by5 b_w6 s_w6
      obtain ⟨R3, N3, G3, C3, _, hI3, hR3⟩ := GaloisImage_two R2 N2 G2 a
      have HI3 := Lib.hid hI3; clear hI3
      obtain ⟨c_square_0, c_square_1⟩ := (st6.box 0 (w6.heap.size, [.int .i64 R2, .slice a_w6 N2 k_w6]) rfl).cell2
      try dsimp only at c_square_0 c_square_1
      have q_square := st6.sl 0 ⟨true, w5.heap.size, w6.heap.size, .slice a_w6 N2 k_w6, N2, G2⟩ rfl
      try dsimp only at q_square
      go_wp2_with fail
      refine (HI3.out _ _ _ _ _ q_square).mono ?_
      rintro e w7 ⟨a_w7, k_w7, rfl, s_w7, b_w7⟩
      have hz_w7 := b_w7.size
      try simp only [World.size_alloc] at hz_w7
      have st7 := st6.keep b_w7
      have by7 := by6.below b_w7
      try simp only [World.size_alloc] at s_w7
      replace st7 := st7.addSl ⟨true, w6.heap.size + 1, w7.heap.size, .slice a_w7 N3 k_w7, N3, G3⟩ s_w7
      replace st7 := (st7.alloc (.cells #[.int .i64 R3, .slice a_w7 N3 k_w7] 26)).addBox _ [.int .i64 R3, .slice a_w7 N3 k_w7] (Box.made _ _ _ _ (fun j v h => by simpa using h))
      replace by7 := by7.below ((Below.refl _ _).alloc (Nat.le_refl _) (.cells #[.int .i64 R3, .slice a_w7 N3 k_w7] 26))
      clear c_square_0 c_square_1 q_square st6 by6 b_w7 s_w7
      obtain ⟨R4, N4, G4, C4, hM4, hR4⟩ := MultiplyCyclos_one Rg Ng Gg Rg Ng Gg
      have HM4 := Lib.hid hM4; clear hM4
      obtain ⟨c_image_0, c_image_1⟩ := (st7.box 3 (w3.heap.size, [.int .i64 Rg, .slice a_w3 Ng k_w3]) rfl).cell2
      try dsimp only at c_image_0 c_image_1
      have q_image := st7.sl 3 ⟨true, w2.heap.size + 1, w3.heap.size, .slice a_w3 Ng k_w3, Ng, Gg⟩ rfl
      try dsimp only at q_image
      go_wp2_with fail
      refine (HM4.out _ _ _ _ _ _ _ _ _ q_image q_image).mono ?_
      rintro e w8 ⟨a_w8, k_w8, rfl, s_w8, b_w8⟩
      have hz_w8 := b_w8.size
      try simp only [World.size_alloc] at hz_w8
      have st8 := st7.keep b_w8
      have by8 := by7.below b_w8
      try simp only [World.size_alloc] at s_w8
      replace st8 := st8.addSl ⟨true, w7.heap.size + 1, w8.heap.size, .slice a_w8 N4 k_w8, N4, G4⟩ s_w8
      replace st8 := (st8.alloc (.cells #[.int .i64 R4, .slice a_w8 N4 k_w8] 26)).addBox _ [.int .i64 R4, .slice a_w8 N4 k_w8] (Box.made _ _ _ _ (fun j v h => by simpa using h))
      replace by8 := by8.below ((Below.refl _ _).alloc (Nat.le_refl _) (.cells #[.int .i64 R4, .slice a_w8 N4 k_w8] 26))
      clear c_image_0 c_image_1 q_image st7 by7 b_w8 s_w8
      have stz : St w _ [(w4.heap.size, [.int .i64 Rg, .slice a_w4 Ng k_w4]), (w3.heap.size, [.int .i64 Rg, .slice a_w3 Ng k_w3]), (w2.heap.size, [.int .i64 x_w2, .slice a_w2 L_w2 k_w2])] [⟨true, w3.heap.size + 1, w4.heap.size, .slice a_w4 Ng k_w4, Ng, Gg⟩, ⟨true, w2.heap.size + 1, w3.heap.size, .slice a_w3 Ng k_w3, Ng, Gg⟩, ⟨false, lo_w2, hi_w2, .slice a_w2 L_w2 k_w2, L_w2, g_w2⟩] := ⟨st8.1, fun b hb => st8.2.1 b (List.mem_cons_of_mem _ (List.mem_cons_of_mem _ (List.mem_cons_of_mem _ (hb)))), fun s hs => st8.2.2 s (List.mem_cons_of_mem _ (List.mem_cons_of_mem _ (List.mem_cons_of_mem _ (hs))))⟩
      by_cases h2 : C2 = 0
      case neg =>
        have e2 : (C2 == 0) = false := by simpa using h2
        go_wp2_with fail; go_meet; exact ⟨stz, by (try simp only [World.size_alloc]); omega, by8⟩
      case pos =>
        subst h2
        by_cases h3 : C3 = 0
        case neg =>
          have e3 : (C3 == 0) = false := by simpa using h3
          go_wp2_with fail; go_meet; exact ⟨stz, by (try simp only [World.size_alloc]); omega, by8⟩
        case pos =>
          subst h3
          by_cases h4 : C4 = 0
          case neg =>
            have e4 : (C4 == 0) = false := by simpa using h4
            go_wp2_with fail; go_meet; exact ⟨stz, by (try simp only [World.size_alloc]); omega, by8⟩
          case pos =>
            subst h4
            obtain ⟨eR, eN, hEq⟩ := square_same HR_g.out hR2 hR3 hR4
            subst eR eN
            have HE := Lib.hid hEq; clear hEq hR2 hR3 hR4 stz
            obtain ⟨c_first_0, c_first_1⟩ := (st8.box 1 (w7.heap.size, [.int .i64 R3, .slice a_w7 N3 k_w7]) rfl).cell2
            try dsimp only at c_first_0 c_first_1
            obtain ⟨c_second_0, c_second_1⟩ := (st8.box 0 (w8.heap.size, [.int .i64 R3, .slice a_w8 N3 k_w8]) rfl).cell2
            try dsimp only at c_second_0 c_second_1
            have q_first := st8.sl 1 ⟨true, w6.heap.size + 1, w7.heap.size, .slice a_w7 N3 k_w7, N3, G3⟩ rfl
            try dsimp only at q_first
            have q_second := st8.sl 0 ⟨true, w7.heap.size + 1, w8.heap.size, .slice a_w8 N3 k_w8, N3, G4⟩ rfl
            try dsimp only at q_second
            go_wp2_with fail
            refine (cyclos5_yes _ _ q_first q_second (fun j hj => HE.out j hj)).mono ?_
            rintro e w9 ⟨rfl, b_w9⟩
            have hz_w9 := b_w9.size
            try simp only [World.size_alloc] at hz_w9
            have st9 := st8.keep b_w9
            have by9 := by8.below b_w9
            clear c_first_0 c_first_1 c_second_0 c_second_1 q_first q_second st8 by8 b_w9
            have stz : St w _ [(w4.heap.size, [.int .i64 Rg, .slice a_w4 Ng k_w4]), (w3.heap.size, [.int .i64 Rg, .slice a_w3 Ng k_w3]), (w2.heap.size, [.int .i64 x_w2, .slice a_w2 L_w2 k_w2])] [⟨true, w3.heap.size + 1, w4.heap.size, .slice a_w4 Ng k_w4, Ng, Gg⟩, ⟨true, w2.heap.size + 1, w3.heap.size, .slice a_w3 Ng k_w3, Ng, Gg⟩, ⟨false, lo_w2, hi_w2, .slice a_w2 L_w2 k_w2, L_w2, g_w2⟩] := ⟨st9.1, fun b hb => st9.2.1 b (List.mem_cons_of_mem _ (List.mem_cons_of_mem _ (List.mem_cons_of_mem _ (hb)))), fun s hs => st9.2.2 s (List.mem_cons_of_mem _ (List.mem_cons_of_mem _ (List.mem_cons_of_mem _ (hs))))⟩
            go_wp2_with fail; go_meet; exact ⟨stz, by (try simp only [World.size_alloc]); omega, by9⟩
  case rest => as_aux_lemma =>
    obtain ⟨st100, hz100, by100⟩ := hcut
    obtain ⟨w100, hw100⟩ : ∃ z : World, z = wc := ⟨_, rfl⟩
    subst hw100
    go_wp2_with fail
    refine (DrawConjugateOf_any _ by100 (by omega)).mono ?_
    rintro e w6 ⟨x_w6, L_w6, a_w6, k_w6, g_w6, lo_w6, hi_w6, rfl, hx_w6, hL0_w6, hL_w6, s_w6, hlo_w6, b_w6⟩
    have hz_w6 := b_w6.size
    try simp only [World.size_alloc] at hz_w6
    have st106 := st100.keep b_w6
    have by106 := by100.below b_w6
    try simp only [World.size_alloc] at s_w6
    have hsz_y := s_w6.size
    replace st106 := st106.addSl ⟨false, lo_w6, hi_w6, .slice a_w6 L_w6 k_w6, L_w6, g_w6⟩ s_w6
    replace st106 := (st106.alloc (.cells #[.int .i64 x_w6, .slice a_w6 L_w6 k_w6] 26)).addBox _ [.int .i64 x_w6, .slice a_w6 L_w6 k_w6] (Box.made _ _ _ _ (fun j v h => by simpa using h))
    replace by106 := by106.below ((Below.refl _ _).alloc (Nat.le_refl _) (.cells #[.int .i64 x_w6, .slice a_w6 L_w6 k_w6] 26))
    clear st100 by100 b_w6 s_w6
    obtain ⟨Rc, Nc, Gc, Cc, hS, hI, hR⟩ := ConjugateOf_two x_w6 L_w6 g_w6
    have HS := Lib.hid hS; have HI := Lib.hid hI; clear hS hI
    have HR_c := Lib.hid hR; clear hR
    obtain ⟨c_y_0, c_y_1⟩ := (st106.box 0 (w6.heap.size, [.int .i64 x_w6, .slice a_w6 L_w6 k_w6]) rfl).cell2
    try dsimp only at c_y_0 c_y_1
    have q_y := st106.sl 0 ⟨false, lo_w6, hi_w6, .slice a_w6 L_w6 k_w6, L_w6, g_w6⟩ rfl
    try dsimp only at q_y
    go_wp2_with fail
    refine (HI.out _ _ _ _ _ q_y).mono ?_
    rintro e w7 ⟨a_w7, k_w7, rfl, s_w7, b_w7⟩
    have hz_w7 := b_w7.size
    try simp only [World.size_alloc] at hz_w7
    have st107 := st106.keep b_w7
    have by107 := by106.below b_w7
    try simp only [World.size_alloc] at s_w7
    replace st107 := st107.addSl ⟨true, w6.heap.size + 1, w7.heap.size, .slice a_w7 Nc k_w7, Nc, Gc⟩ s_w7
    replace st107 := (st107.alloc (.cells #[.int .i64 Rc, .slice a_w7 Nc k_w7] 26)).addBox _ [.int .i64 Rc, .slice a_w7 Nc k_w7] (Box.made _ _ _ _ (fun j v h => by simpa using h))
    replace by107 := by107.below ((Below.refl _ _).alloc (Nat.le_refl _) (.cells #[.int .i64 Rc, .slice a_w7 Nc k_w7] 26))
    clear c_y_0 c_y_1 q_y st106 by106 b_w7 s_w7
    obtain ⟨c_y_0, c_y_1⟩ := (st107.box 1 (w6.heap.size, [.int .i64 x_w6, .slice a_w6 L_w6 k_w6]) rfl).cell2
    try dsimp only at c_y_0 c_y_1
    have q_y := st107.sl 1 ⟨false, lo_w6, hi_w6, .slice a_w6 L_w6 k_w6, L_w6, g_w6⟩ rfl
    try dsimp only at q_y
    go_wp2_with fail
    refine (HS.out _ _ _ _ _ q_y).mono ?_
    rintro e w8 ⟨a_w8, k_w8, rfl, s_w8, b_w8⟩
    have hz_w8 := b_w8.size
    try simp only [World.size_alloc] at hz_w8
    have st108 := st107.keep b_w8
    have by108 := by107.below b_w8
    try simp only [World.size_alloc] at s_w8
    replace st108 := st108.addSl ⟨true, w7.heap.size + 1, w8.heap.size, .slice a_w8 Nc k_w8, Nc, Gc⟩ s_w8
    replace st108 := (st108.alloc (.cells #[.int .i64 Rc, .slice a_w8 Nc k_w8] 26)).addBox _ [.int .i64 Rc, .slice a_w8 Nc k_w8] (Box.made _ _ _ _ (fun j v h => by simpa using h))
    replace by108 := by108.below ((Below.refl _ _).alloc (Nat.le_refl _) (.cells #[.int .i64 Rc, .slice a_w8 Nc k_w8] 26))
    clear c_y_0 c_y_1 q_y st107 by107 b_w8 s_w8
    clear HS HI
    obtain ⟨c_bar_0, c_bar_1⟩ := (st108.box 1 (w7.heap.size, [.int .i64 Rc, .slice a_w7 Nc k_w7]) rfl).cell2
    try dsimp only at c_bar_0 c_bar_1
    obtain ⟨c_cdue_0, c_cdue_1⟩ := (st108.box 0 (w8.heap.size, [.int .i64 Rc, .slice a_w8 Nc k_w8]) rfl).cell2
    try dsimp only at c_cdue_0 c_cdue_1
    have q_bar := st108.sl 1 ⟨true, w6.heap.size + 1, w7.heap.size, .slice a_w7 Nc k_w7, Nc, Gc⟩ rfl
    try dsimp only at q_bar
    have q_cdue := st108.sl 0 ⟨true, w7.heap.size + 1, w8.heap.size, .slice a_w8 Nc k_w8, Nc, Gc⟩ rfl
    try dsimp only at q_cdue
    go_wp2_with fail
    refine (cyclos5_yes _ _ q_bar q_cdue (fun _ _ => rfl)).mono ?_
    rintro e w9 ⟨rfl, b_w9⟩
    have hz_w9 := b_w9.size
    try simp only [World.size_alloc] at hz_w9
    have st109 := st108.keep b_w9
    have by109 := by108.below b_w9
    clear c_bar_0 c_bar_1 c_cdue_0 c_cdue_1 q_bar q_cdue st108 by108 b_w9
    go_upto_if 131 with fail
    go_cut [] (fun wx => St w wx [(w8.heap.size, [.int .i64 Rc, .slice a_w8 Nc k_w8]), (w7.heap.size, [.int .i64 Rc, .slice a_w7 Nc k_w7]), (w6.heap.size, [.int .i64 x_w6, .slice a_w6 L_w6 k_w6]), (w4.heap.size, [.int .i64 Rg, .slice a_w4 Ng k_w4]), (w3.heap.size, [.int .i64 Rg, .slice a_w3 Ng k_w3]), (w2.heap.size, [.int .i64 x_w2, .slice a_w2 L_w2 k_w2])] [⟨true, w7.heap.size + 1, w8.heap.size, .slice a_w8 Nc k_w8, Nc, Gc⟩, ⟨true, w6.heap.size + 1, w7.heap.size, .slice a_w7 Nc k_w7, Nc, Gc⟩, ⟨false, lo_w6, hi_w6, .slice a_w6 L_w6 k_w6, L_w6, g_w6⟩, ⟨true, w3.heap.size + 1, w4.heap.size, .slice a_w4 Ng k_w4, Ng, Gg⟩, ⟨true, w2.heap.size + 1, w3.heap.size, .slice a_w3 Ng k_w3, Ng, Gg⟩, ⟨false, lo_w2, hi_w2, .slice a_w2 L_w2 k_w2, L_w2, g_w2⟩] ∧ w9.heap.size ≤ wx.heap.size ∧ Bytes wx w.heap.size p n)
    case first => as_aux_lemma =>
      by_cases h1 : Cc = 0
      case neg =>
        have e1 : (Cc == 0) = false := by simpa using h1
        go_wp2_with fail; go_meet; exact ⟨st109, Nat.le_refl _, by109⟩
      case pos =>
        subst h1
        obtain ⟨Fb, hB, hBE⟩ := ConjugateOf_back HR_c.out
        obtain ⟨R5, N5, G5, C5, hA5, hR5⟩ := AddCyclos_bar HR_c.out
        have HB := Lib.hid hB; have HBE := Lib.hid hBE; have HA5 := Lib.hid hA5; have HR5 := Lib.hid hR5; clear hB hBE hA5 hR5
        obtain ⟨c_bar_0, c_bar_1⟩ := (st109.box 1 (w7.heap.size, [.int .i64 Rc, .slice a_w7 Nc k_w7]) rfl).cell2
        try dsimp only at c_bar_0 c_bar_1
        have q_bar := st109.sl 1 ⟨true, w6.heap.size + 1, w7.heap.size, .slice a_w7 Nc k_w7, Nc, Gc⟩ rfl
        try dsimp only at q_bar
        go_wp2_with fail
        refine (HB.out _ _ _ _ _ q_bar).mono ?_
        rintro e w10 ⟨a_w10, k_w10, rfl, s_w10, b_w10⟩
        have hz_w10 := b_w10.size
        try simp only [World.size_alloc] at hz_w10
        have st110 := st109.keep b_w10
        have by110 := by109.below b_w10
        try simp only [World.size_alloc] at s_w10
        replace st110 := st110.addSl ⟨true, w9.heap.size, w10.heap.size, .slice a_w10 L_w6 k_w10, L_w6, Fb⟩ s_w10
        replace st110 := (st110.alloc (.cells #[.int .i64 x_w6, .slice a_w10 L_w6 k_w10] 26)).addBox _ [.int .i64 x_w6, .slice a_w10 L_w6 k_w10] (Box.made _ _ _ _ (fun j v h => by simpa using h))
        replace by110 := by110.below ((Below.refl _ _).alloc (Nat.le_refl _) (.cells #[.int .i64 x_w6, .slice a_w10 L_w6 k_w10] 26))
        clear c_bar_0 c_bar_1 q_bar st109 by109 b_w10 s_w10
        obtain ⟨c_y_0, c_y_1⟩ := (st110.box 3 (w6.heap.size, [.int .i64 x_w6, .slice a_w6 L_w6 k_w6]) rfl).cell2
        try dsimp only at c_y_0 c_y_1
        obtain ⟨c_bar_0, c_bar_1⟩ := (st110.box 2 (w7.heap.size, [.int .i64 Rc, .slice a_w7 Nc k_w7]) rfl).cell2
        try dsimp only at c_bar_0 c_bar_1
        have q_y := st110.sl 3 ⟨false, lo_w6, hi_w6, .slice a_w6 L_w6 k_w6, L_w6, g_w6⟩ rfl
        try dsimp only at q_y
        have q_bar := st110.sl 2 ⟨true, w6.heap.size + 1, w7.heap.size, .slice a_w7 Nc k_w7, Nc, Gc⟩ rfl
        try dsimp only at q_bar
        go_wp2_with fail
        refine (HA5.out _ _ _ _ _ _ _ _ _ q_y q_bar).mono ?_
        rintro e w11 ⟨a_w11, k_w11, rfl, s_w11, b_w11⟩
        have hz_w11 := b_w11.size
        try simp only [World.size_alloc] at hz_w11
        have st111 := st110.keep b_w11
        have by111 := by110.below b_w11
        try simp only [World.size_alloc] at s_w11
        replace st111 := st111.addSl ⟨true, w10.heap.size + 1, w11.heap.size, .slice a_w11 N5 k_w11, N5, G5⟩ s_w11
        replace st111 := (st111.alloc (.cells #[.int .i64 R5, .slice a_w11 N5 k_w11] 26)).addBox _ [.int .i64 R5, .slice a_w11 N5 k_w11] (Box.made _ _ _ _ (fun j v h => by simpa using h))
        replace by111 := by111.below ((Below.refl _ _).alloc (Nat.le_refl _) (.cells #[.int .i64 R5, .slice a_w11 N5 k_w11] 26))
        clear c_y_0 c_y_1 c_bar_0 c_bar_1 q_y q_bar st110 by110 b_w11 s_w11
        obtain ⟨c_cback_0, c_cback_1⟩ := (st111.box 1 (w10.heap.size, [.int .i64 x_w6, .slice a_w10 L_w6 k_w10]) rfl).cell2
        try dsimp only at c_cback_0 c_cback_1
        obtain ⟨c_y_0, c_y_1⟩ := (st111.box 4 (w6.heap.size, [.int .i64 x_w6, .slice a_w6 L_w6 k_w6]) rfl).cell2
        try dsimp only at c_y_0 c_y_1
        have q_cback := st111.sl 1 ⟨true, w9.heap.size, w10.heap.size, .slice a_w10 L_w6 k_w10, L_w6, Fb⟩ rfl
        try dsimp only at q_cback
        have q_y := st111.sl 4 ⟨false, lo_w6, hi_w6, .slice a_w6 L_w6 k_w6, L_w6, g_w6⟩ rfl
        try dsimp only at q_y
        go_wp2_with fail
        refine (cyclos5_yes _ _ q_cback q_y (fun j hj => HBE.out j hj)).mono ?_
        rintro e w12 ⟨rfl, b_w12⟩
        have hz_w12 := b_w12.size
        try simp only [World.size_alloc] at hz_w12
        have st112 := st111.keep b_w12
        have by112 := by111.below b_w12
        clear c_cback_0 c_cback_1 c_y_0 c_y_1 q_cback q_y st111 by111 b_w12
        by_cases h2 : C5 = 0
        case neg =>
          have e2 : (C5 == 0) = false := by simpa using h2
          have stz : St w _ [(w8.heap.size, [.int .i64 Rc, .slice a_w8 Nc k_w8]), (w7.heap.size, [.int .i64 Rc, .slice a_w7 Nc k_w7]), (w6.heap.size, [.int .i64 x_w6, .slice a_w6 L_w6 k_w6]), (w4.heap.size, [.int .i64 Rg, .slice a_w4 Ng k_w4]), (w3.heap.size, [.int .i64 Rg, .slice a_w3 Ng k_w3]), (w2.heap.size, [.int .i64 x_w2, .slice a_w2 L_w2 k_w2])] [⟨true, w7.heap.size + 1, w8.heap.size, .slice a_w8 Nc k_w8, Nc, Gc⟩, ⟨true, w6.heap.size + 1, w7.heap.size, .slice a_w7 Nc k_w7, Nc, Gc⟩, ⟨false, lo_w6, hi_w6, .slice a_w6 L_w6 k_w6, L_w6, g_w6⟩, ⟨true, w3.heap.size + 1, w4.heap.size, .slice a_w4 Ng k_w4, Ng, Gg⟩, ⟨true, w2.heap.size + 1, w3.heap.size, .slice a_w3 Ng k_w3, Ng, Gg⟩, ⟨false, lo_w2, hi_w2, .slice a_w2 L_w2 k_w2, L_w2, g_w2⟩] := ⟨st112.1, fun b hb => st112.2.1 b (List.mem_cons_of_mem _ (List.mem_cons_of_mem _ (hb))), fun s hs => st112.2.2 s (List.mem_cons_of_mem _ (List.mem_cons_of_mem _ (hs)))⟩
          go_wp2_with fail; go_meet; exact ⟨stz, by (try simp only [World.size_alloc]); omega, by112⟩
        case pos =>
          subst h2
          have HV5 := Lib.hid (HR5.out rfl)
          obtain ⟨c_total_0, c_total_1⟩ := (st112.box 0 (w11.heap.size, [.int .i64 R5, .slice a_w11 N5 k_w11]) rfl).cell2
          try dsimp only at c_total_0 c_total_1
          have q_total := st112.sl 0 ⟨true, w10.heap.size + 1, w11.heap.size, .slice a_w11 N5 k_w11, N5, G5⟩ rfl
          try dsimp only at q_total
          go_wp2_with fail
          refine (HV5.out _ _ _ _ _ q_total).mono ?_
          rintro e w13 ⟨rfl, b_w13⟩
          have hz_w13 := b_w13.size
          try simp only [World.size_alloc] at hz_w13
          have st113 := st112.keep b_w13
          have by113 := by112.below b_w13
          clear c_total_0 c_total_1 q_total st112 by112 b_w13
          have stz : St w _ [(w8.heap.size, [.int .i64 Rc, .slice a_w8 Nc k_w8]), (w7.heap.size, [.int .i64 Rc, .slice a_w7 Nc k_w7]), (w6.heap.size, [.int .i64 x_w6, .slice a_w6 L_w6 k_w6]), (w4.heap.size, [.int .i64 Rg, .slice a_w4 Ng k_w4]), (w3.heap.size, [.int .i64 Rg, .slice a_w3 Ng k_w3]), (w2.heap.size, [.int .i64 x_w2, .slice a_w2 L_w2 k_w2])] [⟨true, w7.heap.size + 1, w8.heap.size, .slice a_w8 Nc k_w8, Nc, Gc⟩, ⟨true, w6.heap.size + 1, w7.heap.size, .slice a_w7 Nc k_w7, Nc, Gc⟩, ⟨false, lo_w6, hi_w6, .slice a_w6 L_w6 k_w6, L_w6, g_w6⟩, ⟨true, w3.heap.size + 1, w4.heap.size, .slice a_w4 Ng k_w4, Ng, Gg⟩, ⟨true, w2.heap.size + 1, w3.heap.size, .slice a_w3 Ng k_w3, Ng, Gg⟩, ⟨false, lo_w2, hi_w2, .slice a_w2 L_w2 k_w2, L_w2, g_w2⟩] := ⟨st113.1, fun b hb => st113.2.1 b (List.mem_cons_of_mem _ (List.mem_cons_of_mem _ (hb))), fun s hs => st113.2.2 s (List.mem_cons_of_mem _ (List.mem_cons_of_mem _ (hs)))⟩
          go_wp2_with fail; go_meet; exact ⟨stz, by (try simp only [World.size_alloc]); omega, by113⟩
    case rest => as_aux_lemma =>
      obtain ⟨st200, hz200, by200⟩ := hcut
      obtain ⟨w200, hw200⟩ : ∃ z : World, z = wc := ⟨_, rfl⟩
      subst hw200
      go_wp2_with fail
      refine (DrawLiftCyclo_any _ by200 (by (try simp only [World.size_alloc]); omega)).mono ?_
      rintro e w10 ⟨x_w10, L_w10, a_w10, k_w10, g_w10, lo_w10, hi_w10, nz, rfl, hx_w10, hL0_w10, hL_w10, s_w10, hlo_w10, b_w10⟩
      have hz_w10 := b_w10.size
      try simp only [World.size_alloc] at hz_w10
      have st210 := st200.keep b_w10
      have by210 := by200.below b_w10
      try simp only [World.size_alloc] at s_w10
      have hsz_z := s_w10.size
      replace st210 := st210.addSl ⟨false, lo_w10, hi_w10, .slice a_w10 L_w10 k_w10, L_w10, g_w10⟩ s_w10
      replace st210 := (st210.alloc (.cells #[.int .i64 x_w10, .slice a_w10 L_w10 k_w10] 26)).addBox _ [.int .i64 x_w10, .slice a_w10 L_w10 k_w10] (Box.made _ _ _ _ (fun j v h => by simpa using h))
      replace by210 := by210.below ((Below.refl _ _).alloc (Nat.le_refl _) (.cells #[.int .i64 x_w10, .slice a_w10 L_w10 k_w10] 26))
      clear st200 by200 b_w10 s_w10
      obtain ⟨Rl, Nl, Gl, Cl, hS, hI, hR⟩ := LiftCyclo_two x_w10 L_w10 g_w10 nz
      have HS := Lib.hid hS; have HI := Lib.hid hI; clear hS hI
      have HR_l := Lib.hid hR; clear hR
      obtain ⟨c_z_0, c_z_1⟩ := (st210.box 0 (w10.heap.size, [.int .i64 x_w10, .slice a_w10 L_w10 k_w10]) rfl).cell2
      try dsimp only at c_z_0 c_z_1
      have q_z := st210.sl 0 ⟨false, lo_w10, hi_w10, .slice a_w10 L_w10 k_w10, L_w10, g_w10⟩ rfl
      try dsimp only at q_z
      go_wp2_with fail
      refine (HI.out _ _ _ _ _ q_z).mono ?_
      rintro e w11 ⟨a_w11, k_w11, rfl, s_w11, b_w11⟩
      have hz_w11 := b_w11.size
      try simp only [World.size_alloc] at hz_w11
      have st211 := st210.keep b_w11
      have by211 := by210.below b_w11
      try simp only [World.size_alloc] at s_w11
      replace st211 := st211.addSl ⟨true, w10.heap.size + 1, w11.heap.size, .slice a_w11 Nl k_w11, Nl, Gl⟩ s_w11
      replace st211 := (st211.alloc (.cells #[.int .i64 Rl, .slice a_w11 Nl k_w11] 26)).addBox _ [.int .i64 Rl, .slice a_w11 Nl k_w11] (Box.made _ _ _ _ (fun j v h => by simpa using h))
      replace by211 := by211.below ((Below.refl _ _).alloc (Nat.le_refl _) (.cells #[.int .i64 Rl, .slice a_w11 Nl k_w11] 26))
      clear c_z_0 c_z_1 q_z st210 by210 b_w11 s_w11
      obtain ⟨c_z_0, c_z_1⟩ := (st211.box 1 (w10.heap.size, [.int .i64 x_w10, .slice a_w10 L_w10 k_w10]) rfl).cell2
      try dsimp only at c_z_0 c_z_1
      have q_z := st211.sl 1 ⟨false, lo_w10, hi_w10, .slice a_w10 L_w10 k_w10, L_w10, g_w10⟩ rfl
      try dsimp only at q_z
      go_wp2_with fail
      refine (HS.out _ _ _ _ _ q_z).mono ?_
      rintro e w12 ⟨a_w12, k_w12, rfl, s_w12, b_w12⟩
      have hz_w12 := b_w12.size
      try simp only [World.size_alloc] at hz_w12
      have st212 := st211.keep b_w12
      have by212 := by211.below b_w12
      try simp only [World.size_alloc] at s_w12
      replace st212 := st212.addSl ⟨true, w11.heap.size + 1, w12.heap.size, .slice a_w12 Nl k_w12, Nl, Gl⟩ s_w12
      replace st212 := (st212.alloc (.cells #[.int .i64 Rl, .slice a_w12 Nl k_w12] 26)).addBox _ [.int .i64 Rl, .slice a_w12 Nl k_w12] (Box.made _ _ _ _ (fun j v h => by simpa using h))
      replace by212 := by212.below ((Below.refl _ _).alloc (Nat.le_refl _) (.cells #[.int .i64 Rl, .slice a_w12 Nl k_w12] 26))
      clear c_z_0 c_z_1 q_z st211 by211 b_w12 s_w12
      clear HS HI
      obtain ⟨c_lifted_0, c_lifted_1⟩ := (st212.box 1 (w11.heap.size, [.int .i64 Rl, .slice a_w11 Nl k_w11]) rfl).cell2
      try dsimp only at c_lifted_0 c_lifted_1
      obtain ⟨c_lown_0, c_lown_1⟩ := (st212.box 0 (w12.heap.size, [.int .i64 Rl, .slice a_w12 Nl k_w12]) rfl).cell2
      try dsimp only at c_lown_0 c_lown_1
      have q_lifted := st212.sl 1 ⟨true, w10.heap.size + 1, w11.heap.size, .slice a_w11 Nl k_w11, Nl, Gl⟩ rfl
      try dsimp only at q_lifted
      have q_lown := st212.sl 0 ⟨true, w11.heap.size + 1, w12.heap.size, .slice a_w12 Nl k_w12, Nl, Gl⟩ rfl
      try dsimp only at q_lown
      go_wp2_with fail
      refine (cyclos5_yes _ _ q_lifted q_lown (fun _ _ => rfl)).mono ?_
      rintro e w13 ⟨rfl, b_w13⟩
      have hz_w13 := b_w13.size
      try simp only [World.size_alloc] at hz_w13
      have st213 := st212.keep b_w13
      have by213 := by212.below b_w13
      clear c_lifted_0 c_lifted_1 c_lown_0 c_lown_1 q_lifted q_lown st212 by212 b_w13
      go_upto_if 191 with fail
      go_cut [] (fun wx => St w wx [(w12.heap.size, [.int .i64 Rl, .slice a_w12 Nl k_w12]), (w11.heap.size, [.int .i64 Rl, .slice a_w11 Nl k_w11]), (w10.heap.size, [.int .i64 x_w10, .slice a_w10 L_w10 k_w10]), (w8.heap.size, [.int .i64 Rc, .slice a_w8 Nc k_w8]), (w7.heap.size, [.int .i64 Rc, .slice a_w7 Nc k_w7]), (w6.heap.size, [.int .i64 x_w6, .slice a_w6 L_w6 k_w6]), (w4.heap.size, [.int .i64 Rg, .slice a_w4 Ng k_w4]), (w3.heap.size, [.int .i64 Rg, .slice a_w3 Ng k_w3]), (w2.heap.size, [.int .i64 x_w2, .slice a_w2 L_w2 k_w2])] [⟨true, w11.heap.size + 1, w12.heap.size, .slice a_w12 Nl k_w12, Nl, Gl⟩, ⟨true, w10.heap.size + 1, w11.heap.size, .slice a_w11 Nl k_w11, Nl, Gl⟩, ⟨false, lo_w10, hi_w10, .slice a_w10 L_w10 k_w10, L_w10, g_w10⟩, ⟨true, w7.heap.size + 1, w8.heap.size, .slice a_w8 Nc k_w8, Nc, Gc⟩, ⟨true, w6.heap.size + 1, w7.heap.size, .slice a_w7 Nc k_w7, Nc, Gc⟩, ⟨false, lo_w6, hi_w6, .slice a_w6 L_w6 k_w6, L_w6, g_w6⟩, ⟨true, w3.heap.size + 1, w4.heap.size, .slice a_w4 Ng k_w4, Ng, Gg⟩, ⟨true, w2.heap.size + 1, w3.heap.size, .slice a_w3 Ng k_w3, Ng, Gg⟩, ⟨false, lo_w2, hi_w2, .slice a_w2 L_w2 k_w2, L_w2, g_w2⟩] ∧ w13.heap.size ≤ wx.heap.size ∧ Bytes wx w.heap.size p n)
      case first => as_aux_lemma =>
        by_cases h1 : Cl = 0
        case neg =>
          have e1 : (Cl == 0) = false := by simpa using h1
          go_wp2_with fail; go_meet; exact ⟨st213, Nat.le_refl _, by213⟩
        case pos =>
          subst h1
          have HVL := Lib.hid (HR_l.out rfl)
          obtain ⟨c_z_0, c_z_1⟩ := (st213.box 2 (w10.heap.size, [.int .i64 x_w10, .slice a_w10 L_w10 k_w10]) rfl).cell2
          try dsimp only at c_z_0 c_z_1
          obtain ⟨c_lifted_0, c_lifted_1⟩ := (st213.box 1 (w11.heap.size, [.int .i64 Rl, .slice a_w11 Nl k_w11]) rfl).cell2
          try dsimp only at c_lifted_0 c_lifted_1
          have q_lifted := st213.sl 1 ⟨true, w10.heap.size + 1, w11.heap.size, .slice a_w11 Nl k_w11, Nl, Gl⟩ rfl
          try dsimp only at q_lifted
          go_wp2_with fail
          refine (HVL.out _ _ _ _ _ q_lifted).mono ?_
          rintro e w14 ⟨rfl, b_w14⟩
          have hz_w14 := b_w14.size
          try simp only [World.size_alloc] at hz_w14
          have st214 := st213.keep b_w14
          have by214 := by213.below b_w14
          clear c_z_0 c_z_1 c_lifted_0 c_lifted_1 q_lifted st213 by213 b_w14
          go_wp2_with fail; go_meet; exact ⟨st214, by omega, by214⟩
      case rest => as_aux_lemma =>
        obtain ⟨st300, hz300, by300⟩ := hcut
        obtain ⟨w300, hw300⟩ : ∃ z : World, z = wc := ⟨_, rfl⟩
        subst hw300
        go_wp2_with fail
        refine (DrawIsInField_any _ by300 (by (try simp only [World.size_alloc]); omega)).mono ?_
        rintro e w14 ⟨x_w14, L_w14, a_w14, k_w14, g_w14, lo_w14, hi_w14, mu, rfl, hx_w14, hL0_w14, hL_w14, s_w14, hlo_w14, b_w14⟩
        have hz_w14 := b_w14.size
        try simp only [World.size_alloc] at hz_w14
        have st314 := st300.keep b_w14
        have by314 := by300.below b_w14
        try simp only [World.size_alloc] at s_w14
        have hsz_u := s_w14.size
        replace st314 := st314.addSl ⟨false, lo_w14, hi_w14, .slice a_w14 L_w14 k_w14, L_w14, g_w14⟩ s_w14
        replace st314 := (st314.alloc (.cells #[.int .i64 x_w14, .slice a_w14 L_w14 k_w14] 26)).addBox _ [.int .i64 x_w14, .slice a_w14 L_w14 k_w14] (Box.made _ _ _ _ (fun j v h => by simpa using h))
        replace by314 := by314.below ((Below.refl _ _).alloc (Nat.le_refl _) (.cells #[.int .i64 x_w14, .slice a_w14 L_w14 k_w14] 26))
        clear st300 by300 b_w14 s_w14
        obtain ⟨Bf, Cf, hS, hI⟩ := IsInField_two x_w14 L_w14 g_w14 mu
        have HS := Lib.hid hS; have HI := Lib.hid hI; clear hS hI
        obtain ⟨c_u_0, c_u_1⟩ := (st314.box 0 (w14.heap.size, [.int .i64 x_w14, .slice a_w14 L_w14 k_w14]) rfl).cell2
        try dsimp only at c_u_0 c_u_1
        have q_u := st314.sl 0 ⟨false, lo_w14, hi_w14, .slice a_w14 L_w14 k_w14, L_w14, g_w14⟩ rfl
        try dsimp only at q_u
        go_wp2_with fail
        refine (HI.out _ _ _ _ _ q_u).mono ?_
        rintro e w15 ⟨rfl, b_w15⟩
        have hz_w15 := b_w15.size
        try simp only [World.size_alloc] at hz_w15
        have st315 := st314.keep b_w15
        have by315 := by314.below b_w15
        clear c_u_0 c_u_1 q_u st314 by314 b_w15
        obtain ⟨c_u_0, c_u_1⟩ := (st315.box 0 (w14.heap.size, [.int .i64 x_w14, .slice a_w14 L_w14 k_w14]) rfl).cell2
        try dsimp only at c_u_0 c_u_1
        have q_u := st315.sl 0 ⟨false, lo_w14, hi_w14, .slice a_w14 L_w14 k_w14, L_w14, g_w14⟩ rfl
        try dsimp only at q_u
        go_wp2_with fail
        refine (HS.out _ _ _ _ _ q_u).mono ?_
        rintro e w16 ⟨rfl, b_w16⟩
        have hz_w16 := b_w16.size
        try simp only [World.size_alloc] at hz_w16
        have st316 := st315.keep b_w16
        have by316 := by315.below b_w16
        clear c_u_0 c_u_1 q_u st315 by315 b_w16
        clear HS HI
        go_wp2_with fail
        refine (DrawIsReal_any _ by316 (by omega)).mono ?_
        rintro e w17 ⟨x_w17, L_w17, a_w17, k_w17, g_w17, lo_w17, hi_w17, rfl, hx_w17, hL0_w17, hL_w17, s_w17, hlo_w17, b_w17⟩
        have hz_w17 := b_w17.size
        try simp only [World.size_alloc] at hz_w17
        have st317 := st316.keep b_w17
        have by317 := by316.below b_w17
        try simp only [World.size_alloc] at s_w17
        have hsz_v := s_w17.size
        replace st317 := st317.addSl ⟨false, lo_w17, hi_w17, .slice a_w17 L_w17 k_w17, L_w17, g_w17⟩ s_w17
        replace st317 := (st317.alloc (.cells #[.int .i64 x_w17, .slice a_w17 L_w17 k_w17] 26)).addBox _ [.int .i64 x_w17, .slice a_w17 L_w17 k_w17] (Box.made _ _ _ _ (fun j v h => by simpa using h))
        replace by317 := by317.below ((Below.refl _ _).alloc (Nat.le_refl _) (.cells #[.int .i64 x_w17, .slice a_w17 L_w17 k_w17] 26))
        clear st316 by316 b_w17 s_w17
        obtain ⟨Br, Cr, hS, hI⟩ := IsReal_two x_w17 L_w17 g_w17
        have HS := Lib.hid hS; have HI := Lib.hid hI; clear hS hI
        obtain ⟨c_v_0, c_v_1⟩ := (st317.box 0 (w17.heap.size, [.int .i64 x_w17, .slice a_w17 L_w17 k_w17]) rfl).cell2
        try dsimp only at c_v_0 c_v_1
        have q_v := st317.sl 0 ⟨false, lo_w17, hi_w17, .slice a_w17 L_w17 k_w17, L_w17, g_w17⟩ rfl
        try dsimp only at q_v
        go_wp2_with fail
        refine (HI.out _ _ _ _ _ q_v).mono ?_
        rintro e w18 ⟨rfl, b_w18⟩
        have hz_w18 := b_w18.size
        try simp only [World.size_alloc] at hz_w18
        have st318 := st317.keep b_w18
        have by318 := by317.below b_w18
        clear c_v_0 c_v_1 q_v st317 by317 b_w18
        obtain ⟨c_v_0, c_v_1⟩ := (st318.box 0 (w17.heap.size, [.int .i64 x_w17, .slice a_w17 L_w17 k_w17]) rfl).cell2
        try dsimp only at c_v_0 c_v_1
        have q_v := st318.sl 0 ⟨false, lo_w17, hi_w17, .slice a_w17 L_w17 k_w17, L_w17, g_w17⟩ rfl
        try dsimp only at q_v
        go_wp2_with fail
        refine (HS.out _ _ _ _ _ q_v).mono ?_
        rintro e w19 ⟨rfl, b_w19⟩
        have hz_w19 := b_w19.size
        try simp only [World.size_alloc] at hz_w19
        have st319 := st318.keep b_w19
        have by319 := by318.below b_w19
        clear c_v_0 c_v_1 q_v st318 by318 b_w19
        clear HS HI
        have BBz := st319.1
        go_wp2
        go_ret
        exact ⟨rfl, BBz⟩

theorem own : ownKnob Try.prog.godebug = none := by kernel_rfl
theorem laidOut : laidOutB Try.prog = true := by kernel_rfl
set_option maxRecDepth 100000 in
theorem lifted (os : Os) (started : os.Started) (H : Type) (enc : TypeId × Value → H) :
    ReturnsInHanded {} Try.checked os 15 .any (Rows.fnGaloisSpec.pre6 enc Try.prog Try.f15 Rows.fnGaloisRow.domain false) (Rows.fnGaloisSpec.post enc Try.prog Try.f15 false true false false) := by
  refine returnsInHanded_of_change (C := Try.checked) own started (by kernel_rfl) Try.func15
    (ChangeSpec.witness6 (enc := enc) (C := Try.checked) false ⟨#[], #[.slice none 0 0], []⟩ 8 (by kernel_rfl) (by kernel_rfl) (by kernel_rfl) (by kernel_rfl)) ?_
  intro W base args ds gs before hval0 hW hcnd _
  have hval : ∀ (j : Nat) t v, Try.f15.params[j]? = some t → args[j]? = some v → Value.okWide Try.prog W .any base t v := hval0
  have hW' := hW
  obtain ⟨p, q, hA0, hV, rfl, hfz, hnd⟩ := hW
  have hA : DataW.TrodAll enc Try.prog W 0 (fun _ => true) true Try.f15.params.toList args.toList ds p := hA0
  rw [Try.params15] at hA hval
  obtain ⟨v0, vs0, d0, ds0, p0, q0, hargs, rfl, rfl, h0, r0⟩ := trodAll_cons hA
  obtain ⟨rfl, rfl, rfl⟩ := trodAll_nil r0
  obtain rfl : args = #[v0] := by cases args; simp_all
  obtain ⟨rfl, rfl⟩ := trodVars_none hV
  have k0 := h0
  have lt0 : ∀ x ∈ p0, x.block < W.heap.size := by obtain ⟨m, hm⟩ := k0; exact DataW.trod_lt m _ _ _ hm
  obtain ⟨p_0, n_0, q_0, rfl, s0⟩ : ∃ p n q, v0 = .slice p n q ∧ (n ≤ 4096 → Bytes W W.heap.size p n) := by
    obtain ⟨a, len, cap, rfl⟩ := okWide_slice Try.underlying58 (hval 0 58 v0 rfl rfl)
    obtain ⟨fuel, hf⟩ := h0
    exact Bytes.came Try.underlying58 Try.underlying5 (by kernel_rfl) (by simpa [Value.cells] using hf)
  clear hA0 hval0
  refine (walk W p_0 n_0 q_0 s0).mono fun e W' ⟨he, bel⟩ => ?_
  subst he
  exact ⟨_, rfl, _, _, _, [], _, [], hW', trodAll_mk1 (shut_bool Try.underlying4 _), (trodAll_cons_mk (Below.trod laidOut (by kernel_rfl) (of_decide_eq_true (by kernel_rfl)) k0 bel lt0) trodAll_mk0), rfl, bel.frame _, fun h => by cases h⟩

theorem over : Rows.fnGaloisRow.holds Try.pinned (OpenSpec.ofChange Rows.fnGaloisSpec) :=
  OpenClaim.holds_of_wide 15 Try.f15 rfl rfl rfl rfl rfl rfl rfl ⟨rfl, rfl, rfl, rfl, rfl⟩ rfl rfl rfl rfl rfl (by kernel_rfl) Try.func15 (by unfold joinedFacts; exact (and_tt (and_tt (and_tt (and_tt (and_tt (and_tt (and_tt (and_tt (and_tt (and_tt (and_tt (and_tt (and_tt (and_tt (and_tt (and_tt (and_tt (and_tt (and_tt (and_tt (and_tt (and_tt (and_tt (and_tt (and_tt (and_tt (and_tt (and_tt (and_tt (and_tt (and_tt (by kernel_rfl) (by kernel_rfl)) (by kernel_rfl)) (by kernel_rfl)) (by kernel_rfl)) (by kernel_rfl)) (by kernel_rfl)) (by kernel_rfl)) (by kernel_rfl)) (by kernel_rfl)) (by kernel_rfl)) (by kernel_rfl)) (by kernel_rfl)) (by kernel_rfl)) (by kernel_rfl)) (by kernel_rfl)) (by kernel_rfl)) (by kernel_rfl)) (by kernel_rfl)) (by kernel_rfl)) (by kernel_rfl)) (by kernel_rfl)) (by kernel_rfl)) (by kernel_rfl)) (by kernel_rfl)) init_enter) (tt_lifts init_lifts rfl)) (tt_make init_make rfl)) (by kernel_rfl)) (by kernel_rfl)) (by kernel_rfl)) (by kernel_rfl)))
    (of_decide_eq_true (by kernel_rfl)) (by unfold Func.isWrapper; first | (rw [if_pos (by decide +kernel)]; kernel_rfl) | (rw [if_neg (by decide +kernel)]; exact ⟨rfl, rfl⟩))
    (fun os started H enc _ => lifted os started H enc)

theorem proved : Rows.FnGaloisSaid := over
#print axioms proved
end fnGalois
end Go.Proofs.Ytloalhcloifgjaa
