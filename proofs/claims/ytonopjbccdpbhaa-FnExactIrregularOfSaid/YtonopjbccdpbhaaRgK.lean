/- BernoulliModulo and IrregularOf of the program and of the model. -/
import Derived.Test.YtonopjbccdpbhaaRgJ
import Derived.Test.YtonopjbccdpbhaaRgL
import Derived.Test.YtonopjbccdpbhaaPrm
namespace Go.Proofs.Ytonopjbccdpbhaa
open Go.RowKit Go.ChangeShapes Go.Sort
set_option linter.unusedVariables false
set_option linter.unusedSimpArgs false
set_option maxRecDepth 100000
set_option maxHeartbeats 4000000

theorem bernoulliResidues_any (p K : Nat) (hp : primeN p = true) (hKp : K + 3 = p) (w : World) :
    Calls Try.prog 139 #[.int .i64 (p : Int)] w fun e w' => ∃ (g cap : Nat), e = .returned (.slice (some ⟨g, 0, none⟩) (K + 1) cap) ∧ RowE w' (w.heap.size + 1) 139 2 g cap (K + 1) (fun i => [.int .i64 (beR p i : Int), .int .i64 (p : Int)]) ∧ Below w.heap.size w w' := by
  have hbd := primeN_bd hp
  have hw3 : (p : Int) - 3 = (K : Int) := by omega
  have HB := Lib.hid (fun w' => bernR_any p K hp hKp w')
  go_enter Try.func139, Try.ntmps139
  go_wp2_with (go_at_call 183; refine (HB.out _).mono ?_; rintro e w2 ⟨g, cap, rfl, r2, b2⟩)
  go_ret
  exact ⟨g, cap, rfl, r2, b2⟩
def OkM (p k : Int) : Prop := PrP p ∧ 2 ≤ k ∧ k ≤ p - 3 ∧ k % 2 = 0
theorem BernoulliModulo_impl_np (p k : Int) (hp : ¬ PrP p) (w : World) :
    Calls Try.prog 60 #[.int .i64 p, .int .i64 k] w fun e w' => e = .returned (.tuple #[.int .i64 0, .int .i64 2]) ∧ Below w.heap.size w w' := by
  have HP := Lib.hid hp
  clear hp
  go_enter Try.func60, Try.ntmps60
  go_wp2_with (first
    | (go_at_call 138; refine (isOddPrime_no p HP.out _).mono ?_; rintro e w1 ⟨rfl, m1, rfl⟩)
    | fail)
  go_returns
  exact ⟨rfl, below_drewN (Below.refl _ _) _⟩
theorem BernoulliModulo_impl_lo (p : Nat) (k : Int) (hp : primeN p = true) (hk : inR k) (h : k < 2) (w : World) :
    Calls Try.prog 60 #[.int .i64 (p : Int), .int .i64 k] w fun e w' => e = .returned (.tuple #[.int .i64 0, .int .i64 2]) ∧ Below w.heap.size w w' := by
  have hbd := primeN_bd hp
  have HP := Lib.hid hp
  clear hp
  have wq : IntKind.i64.wrap ((p : Int) - 3) = (p : Int) - 3 := by rw [IntKind.wrap_i64]; omega
  go_enter Try.func60, Try.ntmps60
  go_wp2_with (first
    | (go_at_call 138; refine (isOddPrime_yes p HP.out _).mono ?_; rintro e w1 ⟨rfl, m1, rfl⟩)
    | fail)
  go_returns
  exact ⟨rfl, below_drewN (Below.refl _ _) _⟩
theorem BernoulliModulo_impl_hi (p : Nat) (k : Int) (hp : primeN p = true) (hk : inR k) (h2 : 2 ≤ k) (h : (p : Int) - 3 < k) (w : World) :
    Calls Try.prog 60 #[.int .i64 (p : Int), .int .i64 k] w fun e w' => e = .returned (.tuple #[.int .i64 0, .int .i64 2]) ∧ Below w.heap.size w w' := by
  have hbd := primeN_bd hp
  have HP := Lib.hid hp
  clear hp
  have wq : IntKind.i64.wrap ((p : Int) - 3) = (p : Int) - 3 := by rw [IntKind.wrap_i64]; omega
  go_enter Try.func60, Try.ntmps60
  go_wp2_with (first
    | (go_at_call 138; refine (isOddPrime_yes p HP.out _).mono ?_; rintro e w1 ⟨rfl, m1, rfl⟩)
    | fail)
  go_returns
  exact ⟨rfl, below_drewN (Below.refl _ _) _⟩
theorem BernoulliModulo_impl_od (p : Nat) (k : Int) (hp : primeN p = true) (h2 : 2 ≤ k) (h : k ≤ (p : Int) - 3) (ho : k % 2 = 1) (w : World) :
    Calls Try.prog 60 #[.int .i64 (p : Int), .int .i64 k] w fun e w' => e = .returned (.tuple #[.int .i64 0, .int .i64 2]) ∧ Below w.heap.size w w' := by
  have hbd := primeN_bd hp
  have HP := Lib.hid hp
  clear hp
  have wq : IntKind.i64.wrap ((p : Int) - 3) = (p : Int) - 3 := by rw [IntKind.wrap_i64]; omega
  have hm : k.tmod 2 = 1 := by rw [Int.tmod_eq_emod_of_nonneg (by omega)]; exact ho
  have hb : (k % 2 != 0) = true := by rw [ho]; rfl
  have hb2 : (k.tmod 2 != 0) = true := by rw [hm]; rfl
  clear hm ho
  go_enter Try.func60, Try.ntmps60
  go_wp2_with (first
    | (go_at_call 138; refine (isOddPrime_yes p HP.out _).mono ?_; rintro e w1 ⟨rfl, m1, rfl⟩)
    | fail)
  go_returns
  exact ⟨rfl, below_drewN (Below.refl _ _) _⟩
theorem BernoulliModulo_spec_np (p k : Int) (hp : ¬ PrP p) (w : World) :
    Calls Try.prog 61 #[.int .i64 p, .int .i64 k] w fun e w' => e = .returned (.tuple #[.int .i64 0, .int .i64 2]) ∧ Below w.heap.size w w' := by
  have HP := Lib.hid hp
  clear hp
  go_enter Try.func61, Try.ntmps61
  go_wp2_with (first
    | (go_at_call 140; refine (l06Prime_no p HP.out _).mono ?_; rintro e w1 ⟨rfl, m1, rfl⟩)
    | fail)
  go_returns
  exact ⟨rfl, below_drewN (Below.refl _ _) _⟩
theorem BernoulliModulo_spec_out (p : Nat) (k : Int) (hp : primeN p = true) (hk : inR k) (h : k < 2 ∨ (p : Int) - 3 < k) (w : World) :
    Calls Try.prog 61 #[.int .i64 (p : Int), .int .i64 k] w fun e w' => e = .returned (.tuple #[.int .i64 0, .int .i64 2]) ∧ Below w.heap.size w w' := by
  have hbd := primeN_bd hp
  have HP := Lib.hid hp
  clear hp
  have wq : IntKind.i64.wrap ((p : Int) - 3) = (p : Int) - 3 := by rw [IntKind.wrap_i64]; omega
  have HX := Lib.hid h
  clear h
  go_enter Try.func61, Try.ntmps61
  go_wp2_with (first
    | (go_at_call 140; refine (l06Prime_yes p HP.out _).mono ?_; rintro e w1 ⟨rfl, m1, rfl⟩)
    | (go_at_call 100; refine (l01In_no _ _ _ _ HX.out).mono ?_; rintro e w' ⟨rfl, rfl⟩))
  go_returns
  exact ⟨rfl, below_drewN (Below.refl _ _) _⟩
theorem BernoulliModulo_spec_od (p : Nat) (k : Int) (hp : primeN p = true) (h2 : 2 ≤ k) (h : k ≤ (p : Int) - 3) (ho : k % 2 = 1) (w : World) :
    Calls Try.prog 61 #[.int .i64 (p : Int), .int .i64 k] w fun e w' => e = .returned (.tuple #[.int .i64 0, .int .i64 2]) ∧ Below w.heap.size w w' := by
  have hbd := primeN_bd hp
  have HP := Lib.hid hp
  clear hp
  have wq : IntKind.i64.wrap ((p : Int) - 3) = (p : Int) - 3 := by rw [IntKind.wrap_i64]; omega
  have hm : k.tmod 2 = 1 := by rw [Int.tmod_eq_emod_of_nonneg (by omega)]; exact ho
  have hb : (k % 2 == 1) = true := by rw [ho]; rfl
  have hb2 : (k.tmod 2 == 1) = true := by rw [hm]; rfl
  clear hm ho
  go_enter Try.func61, Try.ntmps61
  go_wp2_with (first
    | (go_at_call 140; refine (l06Prime_yes p HP.out _).mono ?_; rintro e w1 ⟨rfl, m1, rfl⟩)
    | (go_at_call 100; refine (l01In_yes _ _ _ _ h2 h).mono ?_; rintro e w' ⟨rfl, rfl⟩))
  go_returns
  exact ⟨rfl, below_drewN (Below.refl _ _) _⟩
theorem BernoulliModulo_impl_ok (p : Nat) (k : Int) (hp : primeN p = true) (h2 : 2 ≤ k) (h : k ≤ (p : Int) - 3) (ho : k % 2 = 0) (w : World) :
    Calls Try.prog 60 #[.int .i64 (p : Int), .int .i64 k] w fun e w' => e = .returned (.tuple #[.int .i64 (beR p k.toNat : Int), .int .i64 0]) ∧ Below w.heap.size w w' := by
  have hbd := primeN_bd hp
  have HP := Lib.hid hp
  have hq1 : k.tmod 2 = 0 := by rw [Int.tmod_eq_emod_of_nonneg (by omega)]; exact ho
  obtain ⟨q, rfl⟩ := Int.eq_ofNat_of_zero_le (show 0 ≤ k by omega)
  obtain ⟨K, hK⟩ : ∃ K, K + 3 = p := ⟨p - 3, by omega⟩
  have hqK : q < K + 1 := by omega
  have hqi : (q : Int) < ((K : Int) + 1) := by omega
  have wq : IntKind.i64.wrap ((p : Int) - 3) = (p : Int) - 3 := by rw [IntKind.wrap_i64]; omega
  have hb : ((q : Int) % 2 != 0) = false := by rw [ho]; rfl
  have hb2 : ((q : Int).tmod 2 != 0) = false := by rw [hq1]; rfl
  clear hq1 ho
  go_enter Try.func60, Try.ntmps60
  go_wp2_with (first
    | (go_at_call 138; refine (isOddPrime_yes p HP.out _).mono ?_; rintro e w1 ⟨rfl, m1, rfl⟩)
    | (go_at_call 139; refine (bernoulliResidues_any p K HP.out hK _).mono ?_; rintro e w2 ⟨g, cap, rfl, r2, b2⟩
       have hq0 := r2.cell (fun _ => rfl) hqK (show 0 < 2 by omega)
       simp only [Nat.add_zero, List.getElem?_cons_zero] at hq0))
  go_returns
  exact ⟨by rw [Int.toNat_natCast]; rfl, (below_drewN (Below.refl _ _) m1).trans b2⟩
theorem BernoulliModulo_spec_ok (p : Nat) (k : Int) (hp : primeN p = true) (h2 : 2 ≤ k) (h : k ≤ (p : Int) - 3) (ho : k % 2 = 0) (w : World) :
    Calls Try.prog 61 #[.int .i64 (p : Int), .int .i64 k] w fun e w' => e = .returned (.tuple #[.int .i64 (beR p k.toNat : Int), .int .i64 0]) ∧ Below w.heap.size w w' := by
  have hbd := primeN_bd hp
  have HP := Lib.hid hp
  have hq1 : k.tmod 2 = 0 := by rw [Int.tmod_eq_emod_of_nonneg (by omega)]; exact ho
  obtain ⟨q, rfl⟩ := Int.eq_ofNat_of_zero_le (show 0 ≤ k by omega)
  obtain ⟨K, hK⟩ : ∃ K, K + 3 = p := ⟨p - 3, by omega⟩
  have hqK : q < K + 1 := by omega
  have hqi : (q : Int) < ((K : Int) + 1) := by omega
  have wq : IntKind.i64.wrap ((p : Int) - 3) = (p : Int) - 3 := by rw [IntKind.wrap_i64]; omega
  have hb : ((q : Int) % 2 == 1) = false := by rw [ho]; rfl
  have hb2 : ((q : Int).tmod 2 == 1) = false := by rw [hq1]; rfl
  clear hq1 ho
  go_enter Try.func61, Try.ntmps61
  go_wp2_with (first
    | (go_at_call 140; refine (l06Prime_yes p HP.out _).mono ?_; rintro e w1 ⟨rfl, m1, rfl⟩)
    | (go_at_call 100; refine (l01In_yes _ _ _ _ h2 h).mono ?_; rintro e w' ⟨rfl, rfl⟩)
    | (go_at_call 141; refine (l10Bernoulli_any p K HP.out hK _).mono ?_; rintro e w2 ⟨g, cap, rfl, s2, b2⟩
       have hq0 := s2.known (by omega)
       replace hq0 := hq0.2.2.2.1 q hqK
       rw [Nat.zero_add] at hq0))
  go_returns
  exact ⟨by rw [Int.toNat_natCast]; rfl, (below_drewN (Below.refl _ _) m1).trans b2⟩
end Go.Proofs.Ytonopjbccdpbhaa
