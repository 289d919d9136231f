/- Primes by their norms, of the program and of the model; IsCubicPrime of both. -/
import Derived.Test.YtfadlnbmpgbeaaaEsP
import Derived.Test.YtfadlnbmpgbeaaaEsU
namespace Go.Proofs.Ytfadlnbmpgbeaaa
open Go.RowKit Go.ChangeShapes Go.Sort
set_option linter.unusedVariables false
set_option linter.unusedSimpArgs false
set_option maxRecDepth 100000
set_option maxHeartbeats 2000000

/-- Whether a number with the norm n, whose least divisor is L, is prime. -/
def prmB (n L : Nat) : Bool := decide (2 ≤ n ∧ ((L % 3 = 2 ∧ L * L = n) ∨ (¬ L % 3 = 2 ∧ L = n)))
theorem primesOfNorm_small (n : Nat) (w : World) (h : n < 2) :
    Calls Try.prog 85 #[.int .i64 (n : Int)] w fun e w' => e = .returned (.slice none 0 0) ∧ Below w.heap.size w w' := by
  have h1 : decide ((n : Int) < 2) = true := decide_eq_true (by omega)
  go_enter Try.func85, Try.ntmps85
  go_wp2
  go_ret
  exact ⟨rfl, Below.refl _ _⟩
theorem primesOfNorm_two (n L : Nat) (w : World) (h2 : 2 ≤ n) (hn : n ≤ 300000000) (hL : isLD n L) (h3 : L % 3 = 2) (h4 : L * L = n) :
    Calls Try.prog 85 #[.int .i64 (n : Int)] w fun e w' => ∃ g, e = .returned (.slice (some ⟨g, 0, none⟩) 1 1) ∧ w'.cell? ⟨g, 0, none⟩ = some (.iface 99 (.int .i64 (L : Int))) ∧ Below w.heap.size w w' := by
  have HL := Lib.hid hL
  have hL2 := hL.1
  have hLn := Nat.le_of_dvd (by omega) hL.2.1
  have hLL := Nat.mul_le_mul (Nat.le_trans hLn hn) (Nat.le_trans hLn hn)
  have hbd : (0 : Int) ≤ (L : Int) * (L : Int) ∧ (L : Int) * (L : Int) ≤ 90000000000000000 := by rw [← Int.natCast_mul]; omega
  have h5 : (L : Int) * (L : Int) = (n : Int) := by rw [← Int.natCast_mul]; omega
  have h5b : ((L : Int) * (L : Int) == (n : Int)) = true := by simpa using h5
  have h1 : decide ((n : Int) < 2) = false := decide_eq_false (by omega)
  have H3 := Lib.hid h3
  clear hL hLL h4 h3
  go_enter Try.func85, Try.ntmps85
  go_wp2_with fail
  refine (leastDivisor_any n L _ h2 (by omega) HL.out).mono ?_
  rintro e w1 ⟨rfl, b1⟩
  go_wp2_with fail
  refine (primesAbove_two L _ hL2 (by omega) H3.out).mono ?_
  rintro e w2 ⟨g, rfl, c0, b2⟩
  have BB := b1.trans (b2.mono b1.size)
  have G0 := Lib.hid c0
  go_wp2
  go_ret
  exact ⟨_, rfl, by simpa using G0.out, by go_grown⟩
theorem primesOfNorm_twoNo (n L : Nat) (w : World) (h2 : 2 ≤ n) (hn : n ≤ 300000000) (hL : isLD n L) (h3 : L % 3 = 2) (h4 : ¬ L * L = n) :
    Calls Try.prog 85 #[.int .i64 (n : Int)] w fun e w' => e = .returned (.slice none 0 0) ∧ Below w.heap.size w w' := by
  have HL := Lib.hid hL
  have hL2 := hL.1
  have hLn := Nat.le_of_dvd (by omega) hL.2.1
  have hLL := Nat.mul_le_mul (Nat.le_trans hLn hn) (Nat.le_trans hLn hn)
  have hbd : (0 : Int) ≤ (L : Int) * (L : Int) ∧ (L : Int) * (L : Int) ≤ 90000000000000000 := by rw [← Int.natCast_mul]; omega
  have h5 : ¬ (L : Int) * (L : Int) = (n : Int) := by rw [← Int.natCast_mul]; omega
  have h5b : ((L : Int) * (L : Int) == (n : Int)) = false := by simpa using h5
  have h1 : decide ((n : Int) < 2) = false := decide_eq_false (by omega)
  have H3 := Lib.hid h3
  clear hL hLL h4 h3
  go_enter Try.func85, Try.ntmps85
  go_wp2_with fail
  refine (leastDivisor_any n L _ h2 (by omega) HL.out).mono ?_
  rintro e w1 ⟨rfl, b1⟩
  go_wp2_with fail
  refine (primesAbove_two L _ hL2 (by omega) H3.out).mono ?_
  rintro e w2 ⟨g, rfl, c0, b2⟩
  have BB := b1.trans (b2.mono b1.size)
  have G0 := Lib.hid c0
  go_wp2
  go_ret
  exact ⟨rfl, by go_grown⟩
theorem primesOfNorm_spl (n L A B : Nat) (w : World) (h2 : 2 ≤ n) (hn : n ≤ 300000000) (hL : isLD n L) (h3 : ¬ L % 3 = 2) (hF : Fst L A B) (h4 : L = n) :
    Calls Try.prog 85 #[.int .i64 (n : Int)] w fun e w' => ∃ g m, e = .returned (.slice (some ⟨g, 0, none⟩) m m) ∧ m = pcn A B ∧ w'.cell? ⟨g, 0, none⟩ = some (.iface 101 (.agg #[.int .i64 (A : Int), .int .i64 (B : Int)])) ∧ pSec w' g A B ∧ Below w.heap.size w w' := by
  have HL := Lib.hid hL
  have hL2 := hL.1
  have hLn := Nat.le_of_dvd (by omega) hL.2.1
  have h1 : decide ((n : Int) < 2) = false := decide_eq_false (by omega)
  have hAB := hF.bd (by omega)
  have NM := Lib.hid (show ∀ w' : World, Calls Try.prog 58 #[.agg #[.int .i64 (A : Int), .int .i64 (B : Int)]] w' fun e w'' => e = .returned (.int .i64 (L : Int)) ∧ Below w'.heap.size w' w'' from fun w' => by
    have h := norm_impl A B w' (by omega) (by omega) (by omega) (by omega)
    rw [hF.nm] at h
    exact h)
  have H3 := Lib.hid h3
  have HF := Lib.hid hF
  have hln : ((L : Int) == (n : Int)) = true := by simp; omega
  have hln2 : (L : Int) = (n : Int) := by omega
  have H4 := Lib.hid hln2
  clear hL h3 hF h4 hln2
  go_enter Try.func85, Try.ntmps85
  go_wp2_with fail
  refine (leastDivisor_any n L _ h2 (by omega) HL.out).mono ?_
  rintro e w1 ⟨rfl, b1⟩
  go_wp2_with fail
  refine (primesAbove_split L A B _ (isLD_P HL.out) (by omega) H3.out HF.out).mono ?_
  rintro e w2 ⟨g, m, rfl, hm, c0, c1, b2⟩
  have BB := b1.trans (b2.mono b1.size)
  have G0 := Lib.hid c0
  have G1 := Lib.hid c1
  have hm1 : 1 ≤ m := by rw [hm]; unfold pcn; split <;> omega
  have hm2 : m ≤ 2 := by rw [hm]; unfold pcn; split <;> omega
  have HM := Lib.hid hm
  have hmi : (0 : Int) < (m : Int) := by omega
  clear hm c1
  go_wp2_with fail
  have htk : ∀ x y : Value, (List.take (Try.prog.types[59]'(of_decide_eq_true (by kernel_rfl))).size [x, y]).toArray = #[x, y] := fun x y => by
    have e : (Try.prog.types[59]'(of_decide_eq_true (by kernel_rfl))).size = 2 := by kernel_rfl
    rw [e]; rfl
  rw [htk]
  refine (NM.out _).mono ?_
  rintro e w3 ⟨rfl, b3⟩
  have BB2 := BB.trans (b3.mono BB.size)
  have c3 := cell_later b3 c0
  have HS2 : pSec w3 g A B := fun h => cell_later b3 (G1.out h)
  have G3 := Lib.hid (show w3.cell? ⟨g, 0, none⟩ = some (Value.iface 101 (Value.agg #[Value.int IntKind.i64 (A : Int), Value.int IntKind.i64 (B : Int)])) from c3)
  have HS3 := Lib.hid HS2
  clear HS2
  go_wp2
  go_ret
  exact ⟨_, _, rfl, HM.out, by simpa using G3.out, HS3.out, by go_grown⟩
theorem primesOfNorm_splNo (n L A B : Nat) (w : World) (h2 : 2 ≤ n) (hn : n ≤ 300000000) (hL : isLD n L) (h3 : ¬ L % 3 = 2) (hF : Fst L A B) (h4 : ¬ L = n) :
    Calls Try.prog 85 #[.int .i64 (n : Int)] w fun e w' => e = .returned (.slice none 0 0) ∧ Below w.heap.size w w' := by
  have HL := Lib.hid hL
  have hL2 := hL.1
  have hLn := Nat.le_of_dvd (by omega) hL.2.1
  have h1 : decide ((n : Int) < 2) = false := decide_eq_false (by omega)
  have hAB := hF.bd (by omega)
  have NM := Lib.hid (show ∀ w' : World, Calls Try.prog 58 #[.agg #[.int .i64 (A : Int), .int .i64 (B : Int)]] w' fun e w'' => e = .returned (.int .i64 (L : Int)) ∧ Below w'.heap.size w' w'' from fun w' => by
    have h := norm_impl A B w' (by omega) (by omega) (by omega) (by omega)
    rw [hF.nm] at h
    exact h)
  have H3 := Lib.hid h3
  have HF := Lib.hid hF
  have hln : ((L : Int) == (n : Int)) = false := by simp; omega
  have hln2 : ¬ (L : Int) = (n : Int) := by omega
  have H4 := Lib.hid hln2
  clear hL h3 hF h4 hln2
  go_enter Try.func85, Try.ntmps85
  go_wp2_with fail
  refine (leastDivisor_any n L _ h2 (by omega) HL.out).mono ?_
  rintro e w1 ⟨rfl, b1⟩
  go_wp2_with fail
  refine (primesAbove_split L A B _ (isLD_P HL.out) (by omega) H3.out HF.out).mono ?_
  rintro e w2 ⟨g, m, rfl, hm, c0, c1, b2⟩
  have BB := b1.trans (b2.mono b1.size)
  have G0 := Lib.hid c0
  have G1 := Lib.hid c1
  have hm1 : 1 ≤ m := by rw [hm]; unfold pcn; split <;> omega
  have hm2 : m ≤ 2 := by rw [hm]; unfold pcn; split <;> omega
  have HM := Lib.hid hm
  have hmi : (0 : Int) < (m : Int) := by omega
  clear hm c1
  go_wp2_with fail
  have htk : ∀ x y : Value, (List.take (Try.prog.types[59]'(of_decide_eq_true (by kernel_rfl))).size [x, y]).toArray = #[x, y] := fun x y => by
    have e : (Try.prog.types[59]'(of_decide_eq_true (by kernel_rfl))).size = 2 := by kernel_rfl
    rw [e]; rfl
  rw [htk]
  refine (NM.out _).mono ?_
  rintro e w3 ⟨rfl, b3⟩
  have BB2 := BB.trans (b3.mono BB.size)
  have c3 := cell_later b3 c0
  skip
  skip
  skip
  skip
  go_wp2
  go_ret
  exact ⟨rfl, by go_grown⟩
theorem prmB_true {n L : Nat} (h2 : 2 ≤ n) (h : (L % 3 = 2 ∧ L * L = n) ∨ (¬ L % 3 = 2 ∧ L = n)) : prmB n L = true := decide_eq_true ⟨h2, h⟩
theorem prmB_false {n L : Nat} (h : ¬ (2 ≤ n ∧ ((L % 3 = 2 ∧ L * L = n) ∨ (¬ L % 3 = 2 ∧ L = n)))) : prmB n L = false := decide_eq_false h
theorem isCubicPrime_any (a b : Int) (n L : Nat) (w : World) (ha : -10000 ≤ a) (ha' : a ≤ 10000) (hb : -10000 ≤ b) (hb' : b ≤ 10000) (hn : nrm a b = n) (hL : 2 ≤ n → isLD n L) :
    Calls Try.prog 74 #[.agg #[.int .i64 a, .int .i64 b]] w fun e w' => e = .returned (.bool (prmB n L)) ∧ Below w.heap.size w w' := by
  have hle := nrm_le ha ha' hb hb'
  have hnb : n ≤ 300000000 := by rw [hn] at hle; omega
  have NM := Lib.hid (show ∀ w' : World, Calls Try.prog 58 #[.agg #[.int .i64 a, .int .i64 b]] w' fun e w'' => e = .returned (.int .i64 (n : Int)) ∧ Below w'.heap.size w' w'' from fun w' => by
    have h := norm_impl a b w' (by omega) (by omega) (by omega) (by omega)
    rw [hn] at h
    exact h)
  have HLL := Lib.hid hL
  clear hL hle hn
  have st := ((St.start w).alloc (.cells #[.int .i64 a, .int .i64 b] 59)).addBox w.heap.size [.int .i64 a, .int .i64 b] (Box.made _ _ _ _ (fun j v h => by simpa using h))
  by_cases h2 : 2 ≤ n
  · have HL := Lib.hid (HLL.out h2)
    by_cases h3 : L % 3 = 2
    · by_cases h4 : L * L = n
      · rw [prmB_true h2 (.inl ⟨h3, h4⟩)]
        go_enter Try.func74, Try.ntmps74
        go_wp2_with fail
        refine (NM.out _).mono ?_
        rintro e w1 ⟨rfl, b1⟩
        replace st := st.keep b1
        clear b1
        go_wp2_with fail
        refine (primesOfNorm_two n L _ h2 hnb HL.out h3 h4).mono ?_
        rintro e w2 ⟨g, rfl, _, b2⟩
        replace st := st.keep b2
        clear b2
        clear h4 h3
        have BB := st.1
        go_wp2
        go_ret
        exact ⟨by first | rfl | simp | (simp; omega), by go_grown⟩
      · rw [prmB_false (fun h => by omega)]
        go_enter Try.func74, Try.ntmps74
        go_wp2_with fail
        refine (NM.out _).mono ?_
        rintro e w1 ⟨rfl, b1⟩
        replace st := st.keep b1
        clear b1
        go_wp2_with fail
        refine (primesOfNorm_twoNo n L _ h2 hnb HL.out h3 h4).mono ?_
        rintro e w2 ⟨rfl, b2⟩
        replace st := st.keep b2
        clear b2
        clear h4 h3
        have BB := st.1
        go_wp2
        go_ret
        exact ⟨by first | rfl | simp | (simp; omega), by go_grown⟩
    · obtain ⟨A, B, hF⟩ := fst_ex (isLD_P HL.out) h3
      by_cases h4 : L = n
      · rw [prmB_true h2 (.inr ⟨h3, h4⟩)]
        go_enter Try.func74, Try.ntmps74
        go_wp2_with fail
        refine (NM.out _).mono ?_
        rintro e w1 ⟨rfl, b1⟩
        replace st := st.keep b1
        clear b1
        go_wp2_with fail
        refine (primesOfNorm_spl n L A B _ h2 hnb HL.out h3 hF h4).mono ?_
        rintro e w2 ⟨g, m, rfl, hm, _, _, b2⟩
        replace st := st.keep b2
        have hm0 : 0 < m := by rw [hm]; unfold pcn; split <;> omega
        have hm1 : decide ((0 : Int) < (m : Int)) = true := decide_eq_true (by omega)
        clear b2 hm
        clear h4 h3 hF
        have BB := st.1
        go_wp2
        go_ret
        exact ⟨by first | rfl | simp | (simp; omega), by go_grown⟩
      · rw [prmB_false (fun h => by omega)]
        go_enter Try.func74, Try.ntmps74
        go_wp2_with fail
        refine (NM.out _).mono ?_
        rintro e w1 ⟨rfl, b1⟩
        replace st := st.keep b1
        clear b1
        go_wp2_with fail
        refine (primesOfNorm_splNo n L A B _ h2 hnb HL.out h3 hF h4).mono ?_
        rintro e w2 ⟨rfl, b2⟩
        replace st := st.keep b2
        clear b2
        clear h4 h3 hF
        have BB := st.1
        go_wp2
        go_ret
        exact ⟨by first | rfl | simp | (simp; omega), by go_grown⟩
  · rw [prmB_false (fun h => h2 h.1)]
    go_enter Try.func74, Try.ntmps74
    go_wp2_with fail
    refine (NM.out _).mono ?_
    rintro e w1 ⟨rfl, b1⟩
    replace st := st.keep b1
    clear b1
    go_wp2_with fail
    refine (primesOfNorm_small n _ (by omega)).mono ?_
    rintro e w2 ⟨rfl, b2⟩
    replace st := st.keep b2
    clear b2
    have BB := st.1
    go_wp2
    go_ret
    exact ⟨by first | rfl | simp | (simp; omega), by go_grown⟩
section
variable {o : Bool} {lo hi n : Nat} {v : Value} {f : Nat → Int}
theorem l09Prime_any (x : Int) (N L : Nat) (w : World) (hs : Sl o w lo hi v 2 f) (ha : -10000 ≤ f 0) (ha' : f 0 ≤ 10000) (hb : -10000 ≤ f 1) (hb' : f 1 ≤ 10000) (hn : nrm (f 0) (f 1) = N) (hL : 2 ≤ N → isLD N L) :
    Calls Try.prog 73 #[.agg #[.int .i64 x, v]] w fun e w' => e = .returned (.bool (prmB N L)) ∧ Below w.heap.size w w' := by
  have hle := nrm_le ha ha' hb hb'
  have hnb : N ≤ 300000000 := by rw [hn] at hle; omega
  have hin : 2 ≤ N → L = N → ¬ L % 3 = 2 := fun h2 e h3 => inert_no (isLD_P (hL h2)) h3 (f 0) (f 1) (by rw [hn, e])
  have HIN := Lib.hid hin
  have HN := Lib.hid hn
  have HLL := Lib.hid hL
  clear hin hn hL hle
  obtain ⟨av, cap, rfl⟩ := hs.shape
  have hm := hs.len
  unfold maxLen at hm
  have st := ((((St.start w).addSl ⟨o, lo, hi, .slice av 2 cap, 2, f⟩ hs).alloc (.cells #[.int .i64 x, .slice av 2 cap] 27)).addBox w.heap.size [.int .i64 x, .slice av 2 cap] (Box.made _ _ _ _ (fun j v h => by simpa using h)))
  have q0 := st.sl 0 ⟨o, lo, hi, .slice av 2 cap, 2, f⟩ rfl
  dsimp only at q0
  by_cases h2 : 2 ≤ N
  · have HL := Lib.hid (HLL.out h2)
    have hL2 := HL.out.1
    have hLn := Nat.le_of_dvd (by omega) HL.out.2.1
    have hLL := Nat.mul_le_mul (Nat.le_trans hLn hnb) (Nat.le_trans hLn hnb)
    have hbd : (0 : Int) ≤ (L : Int) * (L : Int) ∧ (L : Int) * (L : Int) ≤ 90000000000000000 := by rw [← Int.natCast_mul]; omega
    have h1 : decide ((N : Int) < 2) = false := decide_eq_false (by omega)
    clear hLL
    by_cases h5 : L = N
    · have h3 := HIN.out h2 h5
      rw [prmB_true h2 (.inr ⟨h3, h5⟩)]
      have k1 : ((L : Int) == (N : Int)) = true := by simp; omega
      clear h3 h5
      go_enter Try.func73, Try.ntmps73
      go_wp2_with fail
      refine (l09Norm_any _ _ q0 (by omega) (by omega) (by omega) (by omega)).mono ?_
      rw [HN.out]
      rintro e w1 ⟨rfl, b1⟩
      replace st := st.keep b1
      clear b1 q0
      go_wp2_with fail
      refine (l09Least_any N L _ h2 (by omega) HL.out).mono ?_
      rintro e w2 ⟨rfl, b2⟩
      replace st := st.keep b2
      clear b2
      have BB := st.1
      go_wp2
      go_ret
      exact ⟨by first | rfl | simp, BB⟩
    · have k1 : ((L : Int) == (N : Int)) = false := by simp; omega
      by_cases h3 : L % 3 = 2
      · have k2 : ((L : Int) % 3 == 2) = true := by simp; omega
        by_cases h4 : L * L = N
        · have k3 : (L : Int) * (L : Int) = (N : Int) := by rw [← Int.natCast_mul]; omega
          have k4 : ((L : Int) * (L : Int) == (N : Int)) = true := by simpa using k3
          rw [prmB_true h2 (.inl ⟨h3, h4⟩)]
          clear h3 h4 h5
          go_enter Try.func73, Try.ntmps73
          go_wp2_with fail
          refine (l09Norm_any _ _ q0 (by omega) (by omega) (by omega) (by omega)).mono ?_
          rw [HN.out]
          rintro e w1 ⟨rfl, b1⟩
          replace st := st.keep b1
          clear b1 q0
          go_wp2_with fail
          refine (l09Least_any N L _ h2 (by omega) HL.out).mono ?_
          rintro e w2 ⟨rfl, b2⟩
          replace st := st.keep b2
          clear b2
          have BB := st.1
          go_wp2
          go_ret
          exact ⟨by first | rfl | simp, BB⟩
        · have k3 : ¬ (L : Int) * (L : Int) = (N : Int) := by rw [← Int.natCast_mul]; omega
          have k4 : ((L : Int) * (L : Int) == (N : Int)) = false := by simpa using k3
          rw [prmB_false (fun h => by omega)]
          clear h3 h4 h5
          go_enter Try.func73, Try.ntmps73
          go_wp2_with fail
          refine (l09Norm_any _ _ q0 (by omega) (by omega) (by omega) (by omega)).mono ?_
          rw [HN.out]
          rintro e w1 ⟨rfl, b1⟩
          replace st := st.keep b1
          clear b1 q0
          go_wp2_with fail
          refine (l09Least_any N L _ h2 (by omega) HL.out).mono ?_
          rintro e w2 ⟨rfl, b2⟩
          replace st := st.keep b2
          clear b2
          have BB := st.1
          go_wp2
          go_ret
          exact ⟨by first | rfl | simp, BB⟩
      · have k2 : ((L : Int) % 3 == 2) = false := by simp; omega
        rw [prmB_false (fun h => by omega)]
        clear h3 h5
        go_enter Try.func73, Try.ntmps73
        go_wp2_with fail
        refine (l09Norm_any _ _ q0 (by omega) (by omega) (by omega) (by omega)).mono ?_
        rw [HN.out]
        rintro e w1 ⟨rfl, b1⟩
        replace st := st.keep b1
        clear b1 q0
        go_wp2_with fail
        refine (l09Least_any N L _ h2 (by omega) HL.out).mono ?_
        rintro e w2 ⟨rfl, b2⟩
        replace st := st.keep b2
        clear b2
        have BB := st.1
        go_wp2
        go_ret
        exact ⟨by first | rfl | simp, BB⟩
  · have h1 : decide ((N : Int) < 2) = true := decide_eq_true (by omega)
    rw [prmB_false (fun h => h2 h.1)]
    go_enter Try.func73, Try.ntmps73
    go_wp2_with fail
    refine (l09Norm_any _ _ q0 (by omega) (by omega) (by omega) (by omega)).mono ?_
    rw [HN.out]
    rintro e w1 ⟨rfl, b1⟩
    replace st := st.keep b1
    clear b1 q0
    have BB := st.1
    go_wp2
    go_ret
    exact ⟨by first | rfl | simp, BB⟩
theorem IsCubicPrime_impl_ok (x : Int) (N L : Nat) (w : World) (hs : Sl o w lo hi v n f) (h : CuP x n f) (hn : nrm (f 0) (f 1) = N) (hL : 2 ≤ N → isLD N L) :
    Calls Try.prog 33 #[.agg #[.int .i64 x, v]] w fun e w' => e = .returned (.tuple #[.bool (prmB N L), .int .i64 0]) ∧ Below w.heap.size w w' := by
  obtain ⟨av, cap, rfl⟩ := hs.shape
  have hm := hs.len
  unfold maxLen at hm
  have st := ((((St.start w).addSl ⟨o, lo, hi, .slice av n cap, n, f⟩ hs).alloc (.cells #[.int .i64 x, .slice av n cap] 27)).addBox w.heap.size [.int .i64 x, .slice av n cap] (Box.made _ _ _ _ (fun j v h => by simpa using h)))
  have q0 := st.sl 0 ⟨o, lo, hi, .slice av n cap, n, f⟩ rfl
  dsimp only at q0
  have HC := Lib.hid h
  have hb := h.bd
  have HN := Lib.hid hn
  have HLL := Lib.hid hL
  clear h hn hL
  obtain ⟨D, hD⟩ : ∃ D, prmB N L = D := ⟨_, rfl⟩
  rw [hD]
  have HD := Lib.hid hD
  clear hD
  go_enter Try.func33, Try.ntmps33
  go_wp2_with fail
  refine (openCubic_ok _ _ q0 HC.out).mono ?_
  rintro e w1 ⟨rfl, b1⟩
  replace st := st.keep b1
  have hz1 := b1.size
  try simp only [World.size_alloc] at hz1
  clear b1
  replace st := (st.alloc (.cells #[.int .i64 (f 0), .int .i64 (f 1)] 59)).addBox _ [.int .i64 (f 0), .int .i64 (f 1)] (Box.made _ _ _ _ (fun j v h => by simpa using h))
  try simp only [World.size_alloc] at st
  go_wp2_with fail
  refine (isCubicPrime_any (f 0) (f 1) N L _ hb.1 hb.2.1 hb.2.2.1 hb.2.2.2 HN.out HLL.out).mono ?_
  rw [HD.out]
  rintro e w2 ⟨rfl, b2⟩
  replace st := st.keep b2
  clear b2
  have BB := st.1
  go_wp2
  go_ret2
  exact ⟨by first | rfl | simp, by go_grown⟩
theorem IsCubicPrime_impl_bad (x : Int) (w : World) (hs : Sl o w lo hi v n f) (h : ¬ CuP x n f) :
    Calls Try.prog 33 #[.agg #[.int .i64 x, v]] w fun e w' => e = .returned (.tuple #[.bool false, .int .i64 1]) ∧ Below w.heap.size w w' := by
  obtain ⟨av, cap, rfl⟩ := hs.shape
  have hm := hs.len
  unfold maxLen at hm
  have st := ((((St.start w).addSl ⟨o, lo, hi, .slice av n cap, n, f⟩ hs).alloc (.cells #[.int .i64 x, .slice av n cap] 27)).addBox w.heap.size [.int .i64 x, .slice av n cap] (Box.made _ _ _ _ (fun j v h => by simpa using h)))
  have q0 := st.sl 0 ⟨o, lo, hi, .slice av n cap, n, f⟩ rfl
  dsimp only at q0
  have HC := Lib.hid h
  clear h
  go_enter Try.func33, Try.ntmps33
  go_wp2_with fail
  refine (openCubic_bad _ _ q0 HC.out).mono ?_
  rintro e w1 ⟨rfl, b1⟩
  replace st := st.keep b1
  have hz1 := b1.size
  try simp only [World.size_alloc] at hz1
  clear b1
  have BB := st.1
  go_wp2
  go_ret2
  exact ⟨by first | rfl | simp, by go_grown⟩
theorem IsCubicPrime_spec_ok (x : Int) (N L : Nat) (w : World) (hs : Sl o w lo hi v n f) (h : CuP x n f) (hn : nrm (f 0) (f 1) = N) (hL : 2 ≤ N → isLD N L) :
    Calls Try.prog 32 #[.agg #[.int .i64 x, v]] w fun e w' => e = .returned (.tuple #[.bool (prmB N L), .int .i64 0]) ∧ Below w.heap.size w w' := by
  obtain rfl : n = 2 := h.2.1
  obtain ⟨av, cap, rfl⟩ := hs.shape
  have hm := hs.len
  unfold maxLen at hm
  have st := ((((St.start w).addSl ⟨o, lo, hi, .slice av 2 cap, 2, f⟩ hs).alloc (.cells #[.int .i64 x, .slice av 2 cap] 27)).addBox w.heap.size [.int .i64 x, .slice av 2 cap] (Box.made _ _ _ _ (fun j v h => by simpa using h)))
  have HC := Lib.hid h
  have hb := h.bd
  have HN := Lib.hid hn
  have HLL := Lib.hid hL
  clear h hn hL
  obtain ⟨D, hD⟩ : ∃ D, prmB N L = D := ⟨_, rfl⟩
  rw [hD]
  have HD := Lib.hid hD
  clear hD
  go_enter Try.func32, Try.ntmps32
  replace st := (st.alloc (.cells #[.int .i64 x, .slice av 2 cap] 27)).addBox _ [.int .i64 x, .slice av 2 cap] (Box.made _ _ _ _ (fun j v h => by simpa using h))
  try simp only [World.size_alloc] at st
  have hbx := st.box 0 _ rfl
  have q0 := st.sl 0 ⟨o, lo, hi, .slice av 2 cap, 2, f⟩ rfl
  dsimp only at q0
  dsimp only at hbx
  go_wp2_with fail
  refine (l09Code1_ok _ _ _ q0 hbx HC.out).mono ?_
  rintro e w1 ⟨rfl, b1⟩
  replace st := st.keep b1
  have hz1 := b1.size
  try simp only [World.size_alloc] at hz1
  clear b1 hbx q0
  obtain ⟨x0, x1⟩ := (st.box 1 _ rfl).cell2
  have xz := (st.box 1 _ rfl).2.2
  have xs := (st.box 1 _ rfl).1
  dsimp only at x0 x1 xz xs
  have q0 := st.sl 0 ⟨o, lo, hi, .slice av 2 cap, 2, f⟩ rfl
  dsimp only at q0
  go_wp2_with fail
  refine (l09Prime_any x N L _ q0 hb.1 hb.2.1 hb.2.2.1 hb.2.2.2 HN.out HLL.out).mono ?_
  rw [HD.out]
  rintro e w2 ⟨rfl, b2⟩
  replace st := st.keep b2
  clear b2
  have BB := st.1
  go_wp2
  go_ret2
  exact ⟨by first | rfl | simp, by go_grown⟩
theorem IsCubicPrime_spec_bad (x : Int) (w : World) (hs : Sl o w lo hi v n f) (h : ¬ CuP x n f) :
    Calls Try.prog 32 #[.agg #[.int .i64 x, v]] w fun e w' => e = .returned (.tuple #[.bool false, .int .i64 1]) ∧ Below w.heap.size w w' := by
  obtain ⟨av, cap, rfl⟩ := hs.shape
  have hm := hs.len
  unfold maxLen at hm
  have st := ((((St.start w).addSl ⟨o, lo, hi, .slice av n cap, n, f⟩ hs).alloc (.cells #[.int .i64 x, .slice av n cap] 27)).addBox w.heap.size [.int .i64 x, .slice av n cap] (Box.made _ _ _ _ (fun j v h => by simpa using h)))
  have HC := Lib.hid h
  clear h
  go_enter Try.func32, Try.ntmps32
  replace st := (st.alloc (.cells #[.int .i64 x, .slice av n cap] 27)).addBox _ [.int .i64 x, .slice av n cap] (Box.made _ _ _ _ (fun j v h => by simpa using h))
  try simp only [World.size_alloc] at st
  have hbx := st.box 0 _ rfl
  have q0 := st.sl 0 ⟨o, lo, hi, .slice av n cap, n, f⟩ rfl
  dsimp only at q0
  dsimp only at hbx
  go_wp2_with fail
  refine (l09Code1_bad0 _ _ _ q0 hbx HC.out).mono ?_
  rintro e w1 ⟨rfl, b1⟩
  replace st := st.keep b1
  have hz1 := b1.size
  try simp only [World.size_alloc] at hz1
  clear b1 hbx q0
  have BB := st.1
  go_wp2
  go_ret2
  exact ⟨by first | rfl | simp, by go_grown⟩
end
end Go.Proofs.Ytfadlnbmpgbeaaa
