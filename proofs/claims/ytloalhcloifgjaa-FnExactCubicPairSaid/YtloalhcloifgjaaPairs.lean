/- SquarePair and CubicPair of both. -/
import Derived.Test.YtloalhcloifgjaaJacob
namespace Go.Proofs.Ytloalhcloifgjaa
open Go.RowKit Go.ChangeShapes Go.Sort
set_option linter.unusedVariables false
set_option linter.unusedSimpArgs false

theorem run_parts (x y : Value) (w : World) : (Instr.field 26 (.agg #[x, y]) 1).run Try.prog w = .ok y w := by kernel_rfl
theorem phi4 : phiN 4 = 2 := by decide +kernel
theorem phi3 : phiN 3 = 2 := by decide +kernel
theorem phi30 : 0 < phiN 3 := by decide +kernel
theorem phi31 : 1 < phiN 3 := by decide +kernel
set_option maxHeartbeats 1000000 in
theorem partsOfDouble_ok (p n : Nat) (hp : primeN p = true) (h1 : 2 ≤ n) (h2 : n ≤ 16) (hd : (p - 1) % n = 0) (w : World) :
    Calls Try.prog 149 #[.int .i64 (p : Int), .int .i64 (n : Int)] w fun e w' => ∃ a cap, e = .returned (.tuple #[.slice a (phiN n) cap, .int .i64 0]) ∧ Sl true w' w.heap.size w'.heap.size (.slice a (phiN n) cap) (phiN n) (jacP p n 1 1) ∧ Below w.heap.size w w' := by
  have HH := Lib.hid (haveCharacters_yes p n hp (by omega) h2 hd)
  have HJ := Lib.hid (JacobiSum_impl_ok p n 1 1 hp (by omega) h2 hd (by omega) (by omega)); clear hp hd
  go_enter Try.func149, Try.ntmps149
  go_wp2_with fail
  refine (HH.out _).mono ?_
  rintro e w1 ⟨rfl, b1⟩
  have st1 := (St.start w).keep b1
  have hz1 := b1.size
  have st2 := st1.boxNew3 (.int .i64 (p : Int)) (.int .i64 (n : Int)) (.int .i64 1) 29
  obtain ⟨f0, f1, f2⟩ := (st2.box 0 (w1.heap.size, [.int .i64 (p : Int), .int .i64 (n : Int), .int .i64 1]) rfl).cell3
  clear b1 st1
  go_wp2_with fail
  refine (HJ.out _).mono ?_
  rintro e w3 ⟨a3, k3, rfl, s3, b3⟩
  have st3 := st2.keep b3
  have hz3 := b3.size
  simp only [World.size_alloc] at hz3 s3
  have st4 := st3.boxNew (.int .i64 (n : Int)) (.slice a3 (phiN n) k3) 26
  obtain ⟨g0, g1⟩ := (st4.box 0 (w3.heap.size, [.int .i64 (n : Int), .slice a3 (phiN n) k3]) rfl).cell2
  have BB := st4.1
  have S3 := Lib.hid s3
  clear st2 st3 st4 b3 s3 f0 f1 f2
  go_wp2
  go_ret2
  exact ⟨_, _, rfl, (S3.out.alloc _).wide (by omega) (by simp) (by simp), by go_grown⟩
theorem partsOfDouble_bad (p n : Int) (h : ¬ (PrP p ∧ OrP p n)) (w : World) :
    Calls Try.prog 149 #[.int .i64 p, .int .i64 n] w fun e w' => e = .returned (.tuple #[.slice none 0 0, .int .i64 2]) ∧ Below w.heap.size w w' := by
  have HH := Lib.hid (haveCharacters_no p n h); clear h
  go_enter Try.func149, Try.ntmps149
  go_wp2_with fail
  refine (HH.out _).mono ?_
  rintro e w1 ⟨rfl, b1⟩
  go_wp2
  go_ret2
  exact ⟨rfl, b1⟩
theorem nil_form {P : Program} {fn : FuncId} {args : Array Value} {w : World} {c : Int} (h : Calls P fn args w fun e w' => e = .returned (.tuple #[.slice none 0 0, .int .i64 c]) ∧ Below w.heap.size w w') :
    Calls P fn args w fun e w' => ∃ a k, e = .returned (.tuple #[.slice a 0 k, .int .i64 c]) ∧ Sl true w' w.heap.size w'.heap.size (.slice a 0 k) 0 (fun _ => 0) ∧ Below w.heap.size w w' :=
  h.mono fun _ _ ⟨he, hw⟩ => ⟨_, _, he, Sl.nil _ _ _ (Nat.le_refl _) _, hw⟩
section
variable (p : Nat) (hp : primeN p = true)
include hp
theorem SquarePair_impl_ok (hd : (p - 1) % 4 = 0) (w : World) :
    Calls Try.prog 40 #[.int .i64 (p : Int)] w fun e w' => ∃ a cap, e = .returned (.tuple #[.slice a 2 cap, .int .i64 0]) ∧ Sl true w' w.heap.size w'.heap.size (.slice a 2 cap) 2 (jacP p 4 1 1) ∧ Below w.heap.size w w' := by
  have HP := Lib.hid (partsOfDouble_ok p 4 hp (by omega) (by omega) hd); clear hp hd
  rw [phi4] at HP
  generalize jacP p 4 1 1 = J at *
  go_enter Try.func40, Try.ntmps40
  go_wp2_with fail
  refine (HP.out _).mono ?_
  rintro e w1 ⟨a1, k1, rfl, s1, b1⟩
  have S1 := Lib.hid s1; clear s1
  go_wp2
  go_ret2
  exact ⟨_, _, rfl, S1.out, b1⟩
set_option maxRecDepth 100000 in
set_option maxHeartbeats 1000000 in
theorem SquarePair_spec_ok (hd : (p - 1) % 4 = 0) (w : World) :
    Calls Try.prog 39 #[.int .i64 (p : Int)] w fun e w' => ∃ a cap, e = .returned (.tuple #[.slice a 2 cap, .int .i64 0]) ∧ Sl true w' w.heap.size w'.heap.size (.slice a 2 cap) 2 (jacP p 4 1 1) ∧ Below w.heap.size w w' := by
  have hb := primeN_bd hp
  have HQ := Lib.hid (l03Prime_yes p hp)
  have HJ := Lib.hid (l04Jacobi_any p 4 1 1 hp (by omega) (by omega) (by omega) (by omega)); clear hp
  rw [phi4] at HJ
  generalize jacP p 4 1 1 = J at *
  have hm : (p : Int) % 4 = 1 := by omega
  have hmb : ((p : Int) % 4 != 1) = false := by rw [hm]; rfl
  clear hm
  have hfl := run_parts
  go_enter Try.func39, Try.ntmps39
  go_wp2_with fail
  refine (HQ.out _).mono ?_
  rintro e w1 ⟨rfl, m1, hw1⟩
  have b1 : Below w.heap.size w w1 := by rw [hw1]; exact below_drewN (Below.refl _ _) _
  clear hw1
  have hz1 := b1.size
  have st2 := ((St.start w).keep b1).boxNew3 (.int .i64 (p : Int)) (.int .i64 4) (.int .i64 1) 29
  obtain ⟨f0, f1, f2⟩ := (st2.box 0 (w1.heap.size, [.int .i64 (p : Int), .int .i64 4, .int .i64 1]) rfl).cell3
  clear b1
  go_wp2_with fail
  refine (HJ.out _).mono ?_
  rintro e w3 ⟨a3, k3, rfl, s3, b3⟩
  have st3 := st2.keep b3
  have hz3 := b3.size
  simp only [World.size_alloc] at hz3 s3
  have BB := st3.1
  have S3 := Lib.hid s3
  clear st2 st3 b3 s3 f0 f1 f2
  go_wp2
  go_ret2
  exact ⟨_, _, rfl, S3.out.wide (by omega) (by simp) (Nat.le_refl _), BB⟩
end
theorem SquarePair_impl_bad (p : Int) (h : ¬ (PrP p ∧ OrP p 4)) (w : World) :
    Calls Try.prog 40 #[.int .i64 p] w fun e w' => ∃ a k, e = .returned (.tuple #[.slice a 0 k, .int .i64 2]) ∧ Sl true w' w.heap.size w'.heap.size (.slice a 0 k) 0 (fun _ => 0) ∧ Below w.heap.size w w' := by
  have HP := Lib.hid (partsOfDouble_bad p 4 h); clear h
  refine nil_form ?_
  go_enter Try.func40, Try.ntmps40
  go_wp2_with fail
  refine (HP.out _).mono ?_
  rintro e w1 ⟨rfl, b1⟩
  go_wp2
  go_ret2
  exact ⟨rfl, b1⟩
theorem SquarePair_spec_bad (p : Int) (h : ¬ (PrP p ∧ OrP p 4)) (w : World) :
    Calls Try.prog 39 #[.int .i64 p] w fun e w' => ∃ a k, e = .returned (.tuple #[.slice a 0 k, .int .i64 2]) ∧ Sl true w' w.heap.size w'.heap.size (.slice a 0 k) 0 (fun _ => 0) ∧ Below w.heap.size w w' := by
  refine nil_form ?_
  by_cases hp : PrP p
  · have h4 : ¬ OrP p 4 := fun q => h ⟨hp, q⟩
    obtain ⟨P, rfl⟩ := Int.eq_ofNat_of_zero_le hp.1
    have hpp : primeN P = true := by have := hp.2; rwa [Int.toNat_natCast] at this
    have hb := primeN_bd hpp
    have HQ := Lib.hid (l03Prime_yes P hpp)
    have hm : ((P : Int) % 4 != 1) = true := by
      rw [bne_iff_ne]
      intro e
      exact h4 ⟨by omega, by omega, by omega⟩
    clear h hp h4 hpp
    go_enter Try.func39, Try.ntmps39
    go_wp2_with fail
    refine (HQ.out _).mono ?_
    rintro e w1 ⟨rfl, m1, rfl⟩
    go_wp2
    go_ret2
    exact ⟨rfl, below_drewN (Below.refl _ _) _⟩
  · have HQ := Lib.hid (l03Prime_no p hp)
    clear h hp
    go_enter Try.func39, Try.ntmps39
    go_wp2_with fail
    refine (HQ.out _).mono ?_
    rintro e w1 ⟨rfl, m1, rfl⟩
    go_wp2
    go_ret2
    exact ⟨rfl, below_drewN (Below.refl _ _) _⟩

end Go.Proofs.Ytloalhcloifgjaa
