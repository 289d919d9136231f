/- SquareOfJacobi of both. -/
import Derived.Test.YtloalhcloifgjaaJacob
import Derived.Test.YtloalhcloifgjaaConj
import Derived.Test.YtloalhcloifgjaaMul
import Derived.Test.YtloalhcloifgjaaTimes
import Derived.Test.YtloalhcloifgjaaFail
import Derived.Deep.DeepCutAuto
namespace Go.Proofs.Ytloalhcloifgjaa
open Go.RowKit Go.ChangeShapes Go.Sort
set_option linter.unusedVariables false
set_option linter.unusedSimpArgs false

/-- The product of a Jacobi sum with its conjugate. -/
def jacS (p n k l : Nat) : Nat → Int := prodZ n (phiN n) (jacP p n k l) (imgP n (n - 1) (phiN n) (jacP p n k l))
theorem sumN_cut {n : Nat} {F : Nat → Int} : ∀ {m}, n ≤ m → sumN m (fun k => if k < n then F k else 0) = sumN n F
  | m, h => by
    induction m with
    | zero => obtain rfl : n = 0 := by omega
              rfl
    | succ m ih =>
      simp only [sumN]
      by_cases e : n ≤ m
      · rw [ih e, if_neg (by omega)]; omega
      · obtain rfl : n = m + 1 := by omega
        simp only [sumN]
        rw [if_pos (by omega), sumN_congr (fun k hk => if_pos (show k < m + 1 by omega))]
/-- Reduced rows, told by the table of the powers. -/
theorem red_tab {n : Nat} {f : Nat → Int} (hn : n < 17) (h1 : 1 ≤ n) (h : ∀ j, j < n → -20000000 ≤ f j ∧ f j ≤ 20000000) {j : Nat} (hj : j < phiN n) : redP n (pad n f) j = sumN n (fun k => f k * tb n k j) := by
  have hp := phi_le12 n (by omega) h1
  have hP : ∀ k, k < 24 → -20000000 ≤ pad n f k ∧ pad n f k ≤ 20000000 := fun k _ => by
    unfold pad
    split
    · exact h k (by assumption)
    · omega
  have hz := redZ_within hn h1 hP hj
  rw [redP_exact hn h1 (P' := pad n f) (fun k hk => (wrap_inR (by have := hP k hk; unfold inR; omega)).symm) (by omega) (by unfold inR; omega), redZ_sum hn h1 _ (by omega), ← sumN_cut (m := 24) (n := n) (by omega)]
  refine sumN_congr (fun k hk => ?_)
  rw [tb_eq hn h1 hk hj]
  unfold pad
  split
  · rfl
  · rw [Int.zero_mul]
theorem mass_one {p n k l : Nat} (h1 : 1 ≤ n) : Mass p n (rowsL p n (two k l) 2) ((p : Int) * 1) := by
  have h : Mass p n (rowsL p n (two k l) 1) 1 := by
    obtain ⟨a, b, c⟩ := rowOne_mass (p := p) (k := two k l 0) h1
    refine ⟨a, fun x t hx ht => ?_, fun x hx => ?_⟩
    · show 0 ≤ lenZ p n (two k l 0) rowNone x t
      rw [len_none h1 hx]; exact b x t hx ht
    · rw [sumN_congr (fun t _ => show rowsL p n (two k l) 1 x t = _ from len_none h1 hx t)]; exact c x hx
  exact h.len h1
theorem jac_small {p n k l : Nat} (hp : p ≤ 61) (hp3 : 3 ≤ p) (hn : n < 17) (h1 : 1 ≤ n) {j : Nat} (hj : j < phiN n) : -61 ≤ jacP p n k l j ∧ jacP p n k l j ≤ 61 := by
  have hm := mass_one (p := p) (k := k) (l := l) h1
  have hs := hm.2.2 1 (by omega)
  have hb := fun t (ht : t < n) => hm.2.1 1 t (by omega) ht
  have hr := red_tab (f := rowsL p n (two k l) 2 1) hn h1 (fun t ht => by have := jac_bd (k := k) (l := l) hp hp3 h1 ht; omega) hj
  unfold jacP jacR
  rw [hr]
  have key : ∀ m, m ≤ n → -(sumN m (rowsL p n (two k l) 2 1)) ≤ sumN m (fun t => rowsL p n (two k l) 2 1 t * tb n t j) ∧ sumN m (fun t => rowsL p n (two k l) 2 1 t * tb n t j) ≤ sumN m (rowsL p n (two k l) 2 1) := by
    intro m
    induction m with
    | zero => intro _; simp [sumN]
    | succ m ih =>
      intro hm'
      have ih := ih (by omega)
      have h2 := tab_one n hn h1 m (by omega) j hj
      have h3 := one_bd (hb m (by omega)) (by have := hb m (by omega); omega) (Int.le_refl _) h2.1 h2.2
      simp only [sumN]
      omega
  have := key n (Nat.le_refl _)
  omega
theorem prod_small {n : Nat} {f g : Nat → Int} (hn : n < 17) (h1 : 1 ≤ n) (hf : ∀ j, j < phiN n → -61 ≤ f j ∧ f j ≤ 61) (hg : ∀ j, j < phiN n → -732 ≤ g j ∧ g j ≤ 732) {j : Nat} (hj : j < phiN n) : -10000000 ≤ prodZ n (phiN n) f g j ∧ prodZ n (phiN n) f g j ≤ 10000000 := by
  have hp := phi_le12 n (by omega) h1
  rw [prodZ_tab hn h1 (Nat.le_refl _) f g hj]
  have hin : ∀ a, a < phiN n → -535824 ≤ sumN (phiN n) (fun q => f a * g q * tb n ((a + q) % n) j) ∧ sumN (phiN n) (fun q => f a * g q * tb n ((a + q) % n) j) ≤ 535824 := fun a ha => by
    have := sumN_bd (F := fun q => f a * g q * tb n ((a + q) % n) j) (B := 44652) (by omega) (phiN n) (fun q hq => by
      have h2 := tab_one n hn h1 ((a + q) % n) (Nat.mod_lt _ h1) j hj
      have h3 := hf a ha
      have h4 := hg q hq
      have h5 : -44652 ≤ f a * g q ∧ f a * g q ≤ 44652 := by
        rcases Int.le_total 0 (f a) with h | h
        · constructor
          · have := Int.mul_le_mul_of_nonneg_left h4.1 h
            have h6 : f a * -732 ≥ 61 * -732 := by omega
            omega
          · have := Int.mul_le_mul_of_nonneg_left h4.2 h
            have h6 : f a * 732 ≤ 61 * 732 := by omega
            omega
        · constructor
          · have := Int.mul_le_mul_of_nonpos_left h h4.2
            have h6 : f a * 732 ≥ -61 * 732 := by omega
            omega
          · have := Int.mul_le_mul_of_nonpos_left h h4.1
            have h6 : f a * -732 ≤ 61 * 732 := by omega
            omega
      exact one_bd (by omega) h5.1 h5.2 h2.1 h2.2)
    have h7 : (phiN n : Int) * 44652 ≤ 12 * 44652 := Int.mul_le_mul_of_nonneg_right (by omega) (by omega)
    omega
  have := sumN_bd (F := fun a => sumN (phiN n) (fun q => f a * g q * tb n ((a + q) % n) j)) (B := 535824) (by omega) (phiN n) hin
  have h7 : (phiN n : Int) * 535824 ≤ 12 * 535824 := Int.mul_le_mul_of_nonneg_right (by omega) (by omega)
  omega
theorem bar_small {n : Nat} {f : Nat → Int} (hn : n < 17) (h1 : 1 ≤ n) (hf : ∀ j, j < phiN n → -61 ≤ f j ∧ f j ≤ 61) {j : Nat} (hj : j < phiN n) : -732 ≤ imgP n (n - 1) (phiN n) f j ∧ imgP n (n - 1) (phiN n) f j ≤ 732 := by
  have hp := phi_le12 n (by omega) h1
  rw [imgP_gal hn h1 (fun j hj => by have := hf j hj; omega) hp hj]
  exact galZ_bd hn h1 (by omega) hf hp hj

set_option maxRecDepth 100000 in
set_option maxHeartbeats 2000000 in
theorem SquareOfJacobi_impl_ok (p n k l : Nat) (hp : primeN p = true) (h1 : 1 ≤ n) (h2 : n ≤ 16) (hd : (p - 1) % n = 0) (hk : k < n) (hl : l < n) (w : World) :
    Calls Try.prog 31 #[.agg #[.int .i64 (p : Int), .int .i64 (n : Int), .int .i64 (k : Int)], .agg #[.int .i64 (p : Int), .int .i64 (n : Int), .int .i64 (l : Int)]] w fun e w' => ∃ a cap, e = .returned (.tuple #[.agg #[.int .i64 (n : Int), .slice a (phiN n) cap], .int .i64 0]) ∧ Sl true w' w.heap.size w'.heap.size (.slice a (phiN n) cap) (phiN n) (jacS p n k l) ∧ Below w.heap.size w w' := by
  have hb := primeN_bd hp
  have hphi := phi_le12 n h2 h1
  have HJ := Lib.hid (JacobiSum_impl_ok p n k l hp h1 h2 hd hk hl)
  have HB := Lib.hid (fun j (hj : j < phiN n) => jac_small (k := k) (l := l) hb.2 hb.1 (show n < 17 by omega) h1 hj); clear hp hd
  unfold jacS
  generalize jacP p n k l = J at *
  have HBB := Lib.hid (fun j (hj : j < phiN n) => bar_small (show n < 17 by omega) h1 HB.out hj)
  have HPB := Lib.hid (fun j (hj : j < phiN n) => prod_small (show n < 17 by omega) h1 HB.out HBB.out hj)
  generalize hI : imgP n (n - 1) (phiN n) J = I at *
  have HI := Lib.hid hI; clear hI
  have HC1 : Hid (CyP n (phiN n) J) := Lib.hid ⟨by omega, by omega, rfl, fun j hj => by have := HB.out j hj; omega⟩
  have HC2 : Hid (CyP n (phiN n) I) := Lib.hid ⟨by omega, by omega, rfl, fun j hj => by have := HBB.out j hj; omega⟩
  have st0 := (((St.start w).boxNew3 (.int .i64 (p : Int)) (.int .i64 (n : Int)) (.int .i64 (k : Int)) 29).boxNew3 (.int .i64 (p : Int)) (.int .i64 (n : Int)) (.int .i64 (l : Int)) 29).boxNew (.int .i64 0) (.slice none 0 0) 26
  simp only [World.size_alloc] at st0
  obtain ⟨f0, f1, f2⟩ := (st0.box 2 (w.heap.size, [.int .i64 (p : Int), .int .i64 (n : Int), .int .i64 (k : Int)]) rfl).cell3
  obtain ⟨e0, e1, e2⟩ := (st0.box 1 (w.heap.size + 1, [.int .i64 (p : Int), .int .i64 (n : Int), .int .i64 (l : Int)]) rfl).cell3
  go_enter Try.func31, Try.ntmps31
  go_wp2_with fail
  refine (HJ.out _).mono ?_
  rintro e w3 ⟨a3, k3, rfl, s3, b3⟩
  have hz3 := b3.size
  simp only [World.size_alloc] at hz3 s3
  have st3 := ((st0.keep b3).addSl ⟨true, w.heap.size + 1 + 1 + 1, w3.heap.size, .slice a3 (phiN n) k3, phiN n, J⟩ s3).boxNew (.int .i64 (n : Int)) (.slice a3 (phiN n) k3) 26
  obtain ⟨g0, g1⟩ := (st3.box 0 (w3.heap.size, [.int .i64 (n : Int), .slice a3 (phiN n) k3]) rfl).cell2
  have q3 := st3.sl 0 ⟨true, w.heap.size + 1 + 1 + 1, w3.heap.size, .slice a3 (phiN n) k3, phiN n, J⟩ rfl
  dsimp only at q3
  have HW := Lib.hid (fun w lo hi v o (q : Sl o w lo hi v (phiN n) J) => ConjugateOf_impl_ok n w q HC1.out (fun j hj => by rw [HI.out]; have := HBB.out j hj; omega))
  rw [HI.out] at HW
  clear st0 b3 s3 f0 f1 f2 e0 e1 e2
  go_wp2_with fail
  refine (HW.out _ _ _ _ _ q3).mono ?_
  rintro e w4 ⟨a4, k4, rfl, s4, b4⟩
  have hz4 := b4.size
  simp only [World.size_alloc] at hz4 s4
  have st4 := ((st3.keep b4).addSl ⟨true, w3.heap.size + 1, w4.heap.size, .slice a4 (phiN n) k4, phiN n, I⟩ s4).boxNew (.int .i64 (n : Int)) (.slice a4 (phiN n) k4) 26
  obtain ⟨h0, h1'⟩ := (st4.box 0 (w4.heap.size, [.int .i64 (n : Int), .slice a4 (phiN n) k4]) rfl).cell2
  clear g0 g1 q3
  obtain ⟨g0, g1⟩ := (st4.box 1 (w3.heap.size, [.int .i64 (n : Int), .slice a3 (phiN n) k3]) rfl).cell2
  have q3 := st4.sl 1 ⟨true, w.heap.size + 1 + 1 + 1, w3.heap.size, .slice a3 (phiN n) k3, phiN n, J⟩ rfl
  have q4 := st4.sl 0 ⟨true, w3.heap.size + 1, w4.heap.size, .slice a4 (phiN n) k4, phiN n, I⟩ rfl
  dsimp only at q3 q4
  clear st3 b4 s4
  go_wp2_with fail
  refine (MultiplyCyclos_impl_ok n _ q3 q4 HC1.out HC2.out (fun j hj => by have := HPB.out j hj; omega)).mono ?_
  rintro e w9 ⟨a9, k9, rfl, s9, b9⟩
  have st9 := st4.keep b9
  have hz9 := b9.size
  simp only [World.size_alloc] at hz9 s9
  obtain ⟨d0, d1⟩ := (st9.box 2 (w.heap.size + 1 + 1, [.int .i64 0, .slice none 0 0]) rfl).cell2
  have dz := (st9.box 2 (w.heap.size + 1 + 1, [.int .i64 0, .slice none 0 0]) rfl).2.2
  dsimp only at dz
  have BB := st9.1
  have S9 := Lib.hid s9
  clear s9 b9 st9 st4 q3 q4 g0 g1 h0 h1'
  go_wp2
  refine bodyPost_ret (v := .tuple #[.agg #[.int .i64 (n : Int), .slice a9 (phiN n) k9], .int .i64 0]) (by simp [results, Try.results31, go_sem, d0, d1]) rfl ?_
  exact ⟨_, _, rfl, (((S9.out.setOther (.inl (by show w.heap.size + 1 + 1 < _; omega)) _).setOther (.inl (by show w.heap.size + 1 + 1 < _; omega)) _).wide (by omega) (by simp) (Nat.le_refl _)), by go_grown⟩

set_option maxRecDepth 100000 in
set_option maxHeartbeats 8000000 in
theorem SquareOfJacobi_spec_ok (p n k l : Nat) (hp : primeN p = true) (h1 : 1 ≤ n) (h2 : n ≤ 16) (hd : (p - 1) % n = 0) (hk : k < n) (hl : l < n) (w : World) :
    Calls Try.prog 30 #[.agg #[.int .i64 (p : Int), .int .i64 (n : Int), .int .i64 (k : Int)], .agg #[.int .i64 (p : Int), .int .i64 (n : Int), .int .i64 (l : Int)]] w fun e w' => ∃ a cap, e = .returned (.tuple #[.agg #[.int .i64 (n : Int), .slice a (phiN n) cap], .int .i64 0]) ∧ Sl true w' w.heap.size w'.heap.size (.slice a (phiN n) cap) (phiN n) (jacS p n k l) ∧ Below w.heap.size w w' := by
  have hb := primeN_bd hp
  have hphi := phi_le12 n h2 h1
  have hpos := phiN_pos n (by omega) h1
  have hle := phi_le_n (n := n)
  have HCK := Lib.hid (l03Like_ok (p : Int) (n : Int) (k : Int) (l : Int) (ChP.mk hp h1 h2 hd hk) (ChP.mk hp h1 h2 hd hl))
  have HJ := Lib.hid (l04Jacobi_any p n k l hp h1 h2 hk hl)
  have HB := Lib.hid (fun j (hj : j < phiN n) => jac_small (k := k) (l := l) hb.2 hb.1 (show n < 17 by omega) h1 hj); clear hp hd
  unfold jacS
  generalize jacP p n k l = J at *
  have HBB := Lib.hid (fun j (hj : j < phiN n) => bar_small (show n < 17 by omega) h1 HB.out hj)
  have HPB := Lib.hid (fun j (hj : j < phiN n) => prod_small (show n < 17 by omega) h1 HB.out HBB.out hj)
  generalize hI : imgP n (n - 1) (phiN n) J = I at *
  have HI := Lib.hid hI; clear hI
  have HW1 : Hid (Within J (phiN n) 12000000000) := Lib.hid fun j hj => by have := HB.out j hj; omega
  have HW2 : Hid (Within I (phiN n) 12000000000) := Lib.hid fun j hj => by have := HBB.out j hj; omega
  have HPW : Hid (Within (prodZ n (phiN n) J I) (phiN n) 1000000000) := Lib.hid fun j hj => by have := HPB.out j hj; omega
  have st0 := (((St.start w).boxNew3 (.int .i64 (p : Int)) (.int .i64 (n : Int)) (.int .i64 (k : Int)) 29).boxNew3 (.int .i64 (p : Int)) (.int .i64 (n : Int)) (.int .i64 (l : Int)) 29).boxNew (.int .i64 0) (.slice none 0 0) 26
  simp only [World.size_alloc] at st0
  obtain ⟨f0, f1, f2⟩ := (st0.box 2 (w.heap.size, [.int .i64 (p : Int), .int .i64 (n : Int), .int .i64 (k : Int)]) rfl).cell3
  obtain ⟨e0, e1, e2⟩ := (st0.box 1 (w.heap.size + 1, [.int .i64 (p : Int), .int .i64 (n : Int), .int .i64 (l : Int)]) rfl).cell3
  go_enter Try.func30, Try.ntmps30
  go_wp2_with fail
  refine (HCK.out _).mono ?_
  rintro e w2 ⟨rfl, b2⟩
  have st2 := st0.keep b2
  have hz2 := b2.size
  simp only [World.size_alloc] at hz2
  clear st0 b2 f0 f1 f2 e0 e1 e2
  obtain ⟨f0, f1, f2⟩ := (st2.box 2 (w.heap.size, [.int .i64 (p : Int), .int .i64 (n : Int), .int .i64 (k : Int)]) rfl).cell3
  obtain ⟨e0, e1, e2⟩ := (st2.box 1 (w.heap.size + 1, [.int .i64 (p : Int), .int .i64 (n : Int), .int .i64 (l : Int)]) rfl).cell3
  go_wp2_with fail
  refine (HJ.out _).mono ?_
  rintro e w3 ⟨a3, k3, rfl, s3, b3⟩
  have hz3 := b3.size
  have ST3 := Lib.hid (((st2.keep b3).addSl ⟨true, w.heap.size + 1 + 1 + 1, w3.heap.size, .slice a3 (phiN n) k3, phiN n, J⟩ (s3.wide (by omega) (Nat.le_refl _) (Nat.le_refl _))).boxNew (.int .i64 (n : Int)) (.slice a3 (phiN n) k3) 26)
  obtain ⟨g0, g1⟩ := (ST3.out.box 0 (w3.heap.size, [.int .i64 (n : Int), .slice a3 (phiN n) k3]) rfl).cell2
  clear st2 b3 s3 f0 f1 f2 e0 e1 e2
  go_wp2_with fail
  go_cut [8, 9] (fun s8 s9 wx => ∃ bq loq hiq aq kq, s8 = .pointer (some ⟨bq, 0, none⟩) ∧ s9 = .bool true ∧ Sl true wx loq hiq (.slice aq (phiN n) kq) (phiN n) (prodZ n (phiN n) J I) ∧ (bq < loq ∨ hiq ≤ bq) ∧ w3.heap.size + 1 ≤ loq ∧ w3.heap.size + 1 ≤ bq ∧ bq < wx.heap.size ∧ hiq ≤ wx.heap.size ∧ St w wx ((bq, [.int .i64 (n : Int), .slice aq (phiN n) kq]) :: [(w3.heap.size, [.int .i64 (n : Int), .slice a3 (phiN n) k3]), (w.heap.size + 1 + 1, [.int .i64 0, .slice none 0 0]), (w.heap.size + 1, [.int .i64 (p : Int), .int .i64 (n : Int), .int .i64 (l : Int)]), (w.heap.size, [.int .i64 (p : Int), .int .i64 (n : Int), .int .i64 (k : Int)])]) [⟨true, w.heap.size + 1 + 1 + 1, w3.heap.size, .slice a3 (phiN n) k3, phiN n, J⟩])
  case first =>
    go_region_held3 (fun w' => w'.cell? ⟨w3.heap.size, 0, none⟩ = some (.int .i64 (n : Int)) ∧ w'.cell? ⟨w3.heap.size, 1, none⟩ = some (.slice a3 (phiN n) k3))
      (first | exact ⟨g0, g1⟩ | (have q0 := (st9.box 0 (w3.heap.size, [.int .i64 (n : Int), .slice a3 (phiN n) k3]) rfl).cell2; with_reducible exact ⟨q0.1, q0.2⟩) | (have q0 := (st9.box 1 (w3.heap.size, [.int .i64 (n : Int), .slice a3 (phiN n) k3]) rfl).cell2; with_reducible exact ⟨q0.1, q0.2⟩) | (have q0 := ((st9.boxNew (.int .i64 0) (.slice none 0 0) 26).box 1 (w3.heap.size, [.int .i64 (n : Int), .slice a3 (phiN n) k3]) rfl).cell2; with_reducible exact ⟨q0.1, q0.2⟩) | (have q0 := (st7.box 0 (w3.heap.size, [.int .i64 (n : Int), .slice a3 (phiN n) k3]) rfl).cell2; with_reducible exact ⟨q0.1, q0.2⟩) | (have q0 := (st7.box 1 (w3.heap.size, [.int .i64 (n : Int), .slice a3 (phiN n) k3]) rfl).cell2; with_reducible exact ⟨q0.1, q0.2⟩) | (have q0 := ((st7.boxNew (.int .i64 0) (.slice none 0 0) 26).box 1 (w3.heap.size, [.int .i64 (n : Int), .slice a3 (phiN n) k3]) rfl).cell2; with_reducible exact ⟨q0.1, q0.2⟩) | (have q0 := ((st9.boxNew (.int .i64 (n : Int)) (.slice a9 (phiN n) k9) 26).box 1 (w3.heap.size, [.int .i64 (n : Int), .slice a3 (phiN n) k3]) rfl).cell2; with_reducible exact ⟨q0.1, q0.2⟩) | (have q0 := ((ST3.out.boxNew (.int .i64 0) (.slice none 0 0) 26).box 1 (w3.heap.size, [.int .i64 (n : Int), .slice a3 (phiN n) k3]) rfl).cell2; with_reducible exact ⟨q0.1, q0.2⟩) | (have q0 := ((ST3.out.boxNew (.int .i64 0) (.slice none 0 0) 26).drew.box 1 (w3.heap.size, [.int .i64 (n : Int), .slice a3 (phiN n) k3]) rfl).cell2; with_reducible exact ⟨q0.1, q0.2⟩) | (have q0 := (ST3.out.drew.box 0 (w3.heap.size, [.int .i64 (n : Int), .slice a3 (phiN n) k3]) rfl).cell2; with_reducible exact ⟨q0.1, q0.2⟩) | exact ⟨cell_set2 (st9.box 1 (w3.heap.size, [.int .i64 (n : Int), .slice a3 (phiN n) k3]) rfl).cell2.1 (by omega), cell_set2 (st9.box 1 (w3.heap.size, [.int .i64 (n : Int), .slice a3 (phiN n) k3]) rfl).cell2.2 (by omega)⟩)
      (first
      | (go_at_call 131; have _g := b7; refine (l01Times_any n h1 h2 (L := phiN n) _ (by first | (have q := st7.sl 0 ⟨true, w.heap.size + 1 + 1 + 1, w3.heap.size, .slice a3 (phiN n) k3, phiN n, J⟩ rfl; dsimp only at q; with_reducible exact q) | (have q := (st7.boxNew (.int .i64 0) (.slice none 0 0) 26).sl 0 ⟨true, w.heap.size + 1 + 1 + 1, w3.heap.size, .slice a3 (phiN n) k3, phiN n, J⟩ rfl; dsimp only at q; with_reducible exact q)) (by first | with_reducible exact s7 | with_reducible exact (s7.alloc _)) HW1.out HW2.out hpos (by omega)).mono ?_; rintro e w9 ⟨a9, k9, bb, rfl, hbb, s9, b9⟩
         obtain rfl : bb = true := hbb.2 HPW.out
         clear hbb
         replace s9 := s9 rfl
         have hz9 := b9.size
         try simp only [World.size_drew, World.size_alloc] at hz9
         first | have st9 := st7.keep b9 | have st9 := (st7.boxNew (.int .i64 0) (.slice none 0 0) 26).keep b9
         try (obtain ⟨o0, o1⟩ := (st9.box 0 (_, [.int .i64 0, .slice none 0 0]) rfl).cell2
              have oz := (st9.box 0 (_, [.int .i64 0, .slice none 0 0]) rfl).2.2
              dsimp only at oz
              try simp only [World.size_alloc, World.size_drew] at o0 o1 oz))
      | (go_at_call 132; refine (l01Bar_any n h1 h2 _ (by first | (have q := ST3.out.drew.sl 0 ⟨true, w.heap.size + 1 + 1 + 1, w3.heap.size, .slice a3 (phiN n) k3, phiN n, J⟩ rfl; dsimp only at q; with_reducible exact q) | (have q := (ST3.out.boxNew (.int .i64 0) (.slice none 0 0) 26).drew.sl 0 ⟨true, w.heap.size + 1 + 1 + 1, w3.heap.size, .slice a3 (phiN n) k3, phiN n, J⟩ rfl; dsimp only at q; with_reducible exact q)) hle).mono ?_; rw [HI.out]; rintro e w7 ⟨a7, k7, rfl, s7, b7⟩
         have hz7 := b7.size
         try simp only [World.size_drew, World.size_alloc] at hz7
         first | have st7 := ST3.out.drew.keep b7 | have st7 := (ST3.out.boxNew (.int .i64 0) (.slice none 0 0) 26).drew.keep b7))
    all_goals
      go_wp2_with fail
      go_meet
      try simp only [World.size_drew, World.size_alloc] at s9
      first
        | exact ⟨w9.heap.size, _, _, a9, k9, rfl, rfl, s9.alloc _, .inr (Nat.le_refl _), by omega, by omega, by simp, by simp, st9.boxNew _ _ _⟩
        | (have stb := st9.boxSet (u0 := .int .i64 (n : Int)) (u1 := .slice a9 (phiN n) k9) (by (try simp only [World.size_alloc, World.size_drew]); omega)
             (by (try simp only [World.size_alloc, World.size_drew]); intro b hb; simp only [List.mem_cons, List.not_mem_nil, or_false] at hb; rcases hb with rfl | rfl | rfl | rfl <;> dsimp only <;> omega)
             (by (try simp only [World.size_alloc, World.size_drew]); intro s hs'; simp only [List.mem_cons, List.not_mem_nil, or_false] at hs'; rcases hs' with rfl <;> dsimp only <;> omega)
           try simp only [World.size_alloc, World.size_drew] at stb
           exact ⟨_, _, _, a9, k9, rfl, rfl, (s9.setOther (.inl (by dsimp only; omega)) _).setOther (.inl (by dsimp only; omega)) _, .inl (by omega), by omega, by omega, by simp only [World.size_setCell]; omega, by simp, stb⟩)
  case rest =>
    obtain ⟨bq, loq, hiq, aq, kq, rfl, rfl, sq, hdq, hlq, hbq, hzq, hhq, stq⟩ := hcut
    clear ST3 g0 g1
    obtain ⟨w5, hw5⟩ : ∃ y : World, y = wc := ⟨_, rfl⟩
    subst hw5
    obtain ⟨o0, o1⟩ := (stq.box 0 (bq, [.int .i64 (n : Int), .slice aq (phiN n) kq]) rfl).cell2
    obtain ⟨d0, d1⟩ := (stq.box 2 (w.heap.size + 1 + 1, [.int .i64 0, .slice none 0 0]) rfl).cell2
    have dz := (stq.box 2 (w.heap.size + 1 + 1, [.int .i64 0, .slice none 0 0]) rfl).2.2
    dsimp only at dz
    have BB := stq.1
    have S9 := Lib.hid sq
    clear sq stq
    go_wp2
    refine bodyPost_ret (v := .tuple #[.agg #[.int .i64 (n : Int), .slice aq (phiN n) kq], .int .i64 0]) (by simp [results, Try.results30, go_sem, d0, d1]) rfl ?_
    exact ⟨_, _, rfl, (((S9.out.setOther (.inl (by show w.heap.size + 1 + 1 < _; omega)) _).setOther (.inl (by show w.heap.size + 1 + 1 < _; omega)) _).wide (by omega) (by simp; omega) (by simp)), by go_grown⟩
set_option maxRecDepth 100000 in
set_option maxHeartbeats 1000000 in
theorem SquareOfJacobi_impl_bad (p n k q m l c : Int) (h : pcC p n k q m l c) (hc : c ≠ 0) (w : World) :
    Calls Try.prog 31 #[.agg #[.int .i64 p, .int .i64 n, .int .i64 k], .agg #[.int .i64 q, .int .i64 m, .int .i64 l]] w fun e w' => e = .returned (failV c) ∧ Below w.heap.size w w' := by
  have H := Lib.hid (JacobiSum_impl_bad p n k q m l c h hc); clear h
  have hcb : (c != 0) = true := by rw [bne_iff_ne]; exact hc
  have st0 := (((St.start w).boxNew3 (.int .i64 p) (.int .i64 n) (.int .i64 k) 29).boxNew3 (.int .i64 q) (.int .i64 m) (.int .i64 l) 29).boxNew (.int .i64 0) (.slice none 0 0) 26
  simp only [World.size_alloc] at st0
  obtain ⟨f0, f1, f2⟩ := (st0.box 2 (w.heap.size, [.int .i64 p, .int .i64 n, .int .i64 k]) rfl).cell3
  obtain ⟨e0, e1, e2⟩ := (st0.box 1 (w.heap.size + 1, [.int .i64 q, .int .i64 m, .int .i64 l]) rfl).cell3
  go_enter Try.func31, Try.ntmps31
  go_wp2_with fail
  refine (H.out _).mono ?_
  unfold failV
  rintro e w1 ⟨rfl, b1⟩
  have hz1 := b1.size
  simp only [World.size_alloc] at hz1
  have st1 := (st0.keep b1).boxNew (.int .i64 0) (.slice none 0 0) 26
  clear st0 b1 f0 f1 f2 e0 e1 e2
  obtain ⟨d0, d1⟩ := (st1.box 1 (w.heap.size + 1 + 1, [.int .i64 0, .slice none 0 0]) rfl).cell2
  have dz := (st1.box 1 (w.heap.size + 1 + 1, [.int .i64 0, .slice none 0 0]) rfl).2.2
  have BB := st1.1
  dsimp only at dz
  go_wp2
  refine bodyPost_ret (v := failV c) (by simp [results, Try.results31, go_sem, failV, d0, d1]) rfl ?_
  exact ⟨rfl, by go_grown⟩
set_option maxRecDepth 100000 in
set_option maxHeartbeats 1000000 in
theorem SquareOfJacobi_spec_bad (p n k q m l c : Int) (h : pcC p n k q m l c) (hc : c ≠ 0) (w : World) :
    Calls Try.prog 30 #[.agg #[.int .i64 p, .int .i64 n, .int .i64 k], .agg #[.int .i64 q, .int .i64 m, .int .i64 l]] w fun e w' => e = .returned (failV c) ∧ Below w.heap.size w w' := by
  have H := Lib.hid h; clear h
  have hcb : (c != 0) = true := by rw [bne_iff_ne]; exact hc
  have st0 := St.start w
  replace st0 := (st0.alloc (.cells #[.int .i64 p, .int .i64 n, .int .i64 k] 29)).addBox _ [.int .i64 p, .int .i64 n, .int .i64 k] (Box.made _ _ _ _ (fun j v h => by simpa using h))
  replace st0 := (st0.alloc (.cells #[.int .i64 q, .int .i64 m, .int .i64 l] 29)).addBox _ [.int .i64 q, .int .i64 m, .int .i64 l] (Box.made _ _ _ _ (fun j v h => by simpa using h))
  replace st0 := (st0.alloc (.cells #[.int .i64 0, .slice none 0 0] 26)).addBox _ [.int .i64 0, .slice none 0 0] (Box.made _ _ _ _ (fun j v h => by simpa using h))
  simp only [World.size_alloc] at st0
  go_enter Try.func30, Try.ntmps30
  go_wp2_with fail
  refine (l03Like_any p n k q m l c H.out _).mono ?_
  rintro e w1 ⟨rfl, b1⟩
  have st1 := st0.keep b1
  have hz1 := b1.size
  try simp only [World.size_alloc] at hz1
  clear st0 b1
  obtain ⟨d0, d1⟩ := (st1.box 0 (w.heap.size + 1 + 1, [.int .i64 0, .slice none 0 0]) rfl).cell2
  have dz := (st1.box 0 (w.heap.size + 1 + 1, [.int .i64 0, .slice none 0 0]) rfl).2.2
  have BB := st1.1
  dsimp only at dz
  go_wp2
  refine bodyPost_ret (v := failV c) (by simp [results, Try.results30, go_sem, failV, d0, d1]) rfl ?_
  exact ⟨rfl, by go_grown⟩

end Go.Proofs.Ytloalhcloifgjaa
