/- Characters: what is one; products and inverses; the copies of the laws. -/
import Derived.Test.YtaipaggaodnfkaaPrm
import Derived.Test.YtaipaggaodnfkaaIs
import Derived.Test.YtaipaggaodnfkaaState
namespace Go.Proofs.Ytaipaggaodnfkaa
open Go.RowKit Go.ChangeShapes Go.Sort
set_option linter.unusedVariables false
set_option linter.unusedSimpArgs false

/-- There are characters with this prime and this order. -/
def OrP (p n : Int) : Prop := 1 ≤ n ∧ n ≤ 16 ∧ (p - 1) % n = 0
/-- A character. -/
def ChP (p n k : Int) : Prop := PrP p ∧ OrP p n ∧ 0 ≤ k ∧ k < n
theorem ChP.nat {p n k : Int} (h : ChP p n k) : ∃ P N K : Nat, p = P ∧ n = N ∧ k = K ∧ primeN P = true ∧ 1 ≤ N ∧ N ≤ 16 ∧ (P - 1) % N = 0 ∧ K < N := by
  obtain ⟨⟨hp0, hp⟩, ⟨h1, h2, h3⟩, h4, h5⟩ := h
  obtain ⟨P, rfl⟩ := Int.eq_ofNat_of_zero_le hp0
  obtain ⟨N, rfl⟩ := Int.eq_ofNat_of_zero_le (show 0 ≤ n by omega)
  obtain ⟨K, rfl⟩ := Int.eq_ofNat_of_zero_le h4
  rw [Int.toNat_natCast] at hp
  have hb := primeN_bd hp
  refine ⟨P, N, K, rfl, rfl, rfl, hp, by omega, by omega, ?_, by omega⟩
  have e : ((P : Int) - 1) = ((P - 1 : Nat) : Int) := by omega
  rw [e, ← Int.natCast_emod] at h3
  omega

theorem haveCharacters_yes (p n : Nat) (hp : primeN p = true) (h1 : 1 ≤ n) (h2 : n ≤ 16) (hd : (p - 1) % n = 0) (w : World) :
    Calls Try.prog 84 #[.int .i64 (p : Int), .int .i64 (n : Int)] w fun e w' => e = .returned (.bool true) ∧ Below w.heap.size w w' := by
  have hb := primeN_bd hp
  have HP := Lib.hid hp; clear hp
  have hn0 : ¬ n = 0 := by omega
  have hdi : (((p : Int) - 1) % (n : Int) == 0) = true := by
    rw [show ((p : Int) - 1) = ((p - 1 : Nat) : Int) by omega, ← Int.natCast_emod, hd]; rfl
  clear hd
  go_enter Try.func84, Try.ntmps84
  go_wp2_with (first
    | (go_at_call 94; refine (isOddPrime_yes p HP.out _).mono ?_; rintro e w1 ⟨rfl, m1, rfl⟩)
    | (go_at_call 95; refine (isOrder_yes _ _ (by omega) (by omega)).mono ?_; rintro e w2 ⟨rfl, rfl⟩))
  go_ret
  exact ⟨rfl, by first | exact below_drewN (Below.refl _ _) _ | go_grown⟩
theorem haveCharacters_no (p n : Int) (h : ¬ (PrP p ∧ OrP p n)) (w : World) :
    Calls Try.prog 84 #[.int .i64 p, .int .i64 n] w fun e w' => e = .returned (.bool false) ∧ Below w.heap.size w w' := by
  by_cases hp : PrP p
  · obtain ⟨P, rfl⟩ := Int.eq_ofNat_of_zero_le hp.1
    have hp2 : primeN P = true := by have := hp.2; rwa [Int.toNat_natCast] at this
    have hb := primeN_bd hp2
    have HP := Lib.hid hp2
    have ho : ¬ OrP (P : Int) n := fun ho => h ⟨hp, ho⟩
    clear hp hp2 h
    by_cases hn : 1 ≤ n ∧ n ≤ 16
    · obtain ⟨hn1, hn2⟩ := hn
      have hn3 : (((P : Int) - 1) % n == 0) = false := beq_eq_false_iff_ne.2 (fun e => ho ⟨hn1, hn2, e⟩)
      clear ho
      obtain ⟨N, rfl⟩ := Int.eq_ofNat_of_zero_le (show 0 ≤ n by omega)
      have hn0 : ¬ N = 0 := by omega
      go_enter Try.func84, Try.ntmps84
      go_wp2_with (first
        | (go_at_call 94; refine (isOddPrime_yes P HP.out _).mono ?_; rintro e w1 ⟨rfl, m1, rfl⟩)
        | (go_at_call 95; refine (isOrder_yes _ _ (by omega) (by omega)).mono ?_; rintro e w2 ⟨rfl, rfl⟩))
      go_ret
      exact ⟨rfl, by first | exact below_drewN (Below.refl _ _) _ | go_grown⟩
    · have H := Lib.hid (show n < 1 ∨ 16 < n by omega)
      clear hn ho
      go_enter Try.func84, Try.ntmps84
      go_wp2_with (first
        | (go_at_call 94; refine (isOddPrime_yes P HP.out _).mono ?_; rintro e w1 ⟨rfl, m1, rfl⟩)
        | (go_at_call 95; refine (isOrder_no _ _ H.out).mono ?_; rintro e w2 ⟨rfl, rfl⟩))
      go_ret
      exact ⟨rfl, by first | exact below_drewN (Below.refl _ _) _ | go_grown⟩
  · have HP := Lib.hid hp
    clear hp h
    go_enter Try.func84, Try.ntmps84
    go_wp2_with (go_at_call 94; refine (isOddPrime_no p HP.out _).mono ?_; rintro e w1 ⟨rfl, m1, rfl⟩)
    go_ret
    exact ⟨rfl, by first | exact below_drewN (Below.refl _ _) _ | go_grown⟩

end Go.Proofs.Ytaipaggaodnfkaa
