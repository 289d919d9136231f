/- Characters: what is one; products and inverses; the copies of the laws. -/
import Derived.Test.YtnhpodlcgkgpbaaPrm
import Derived.Test.YtnhpodlcgkgpbaaIs
import Derived.Test.YtnhpodlcgkgpbaaState
namespace Go.Proofs.Ytnhpodlcgkgpbaa
open Go.RowKit Go.ChangeShapes Go.Sort
set_option linter.unusedVariables false
set_option linter.unusedSimpArgs false

/-- There are characters with this prime and this order. -/
def OrP (p n : Int) : Prop := 1 ≤ n ∧ n ≤ 16 ∧ (p - 1) % n = 0
/-- A character. -/
def ChP (p n k : Int) : Prop := PrP p ∧ OrP p n ∧ 0 ≤ k ∧ k < n
theorem ChP.nat {p n k : Int} (h : ChP p n k) : ∃ P N K : Nat, p = P ∧ n = N ∧ k = K ∧ primeN P = true ∧ 1 ≤ N ∧ N ≤ 16 ∧ (P - 1) % N = 0 ∧ K < N := by
  obtain ⟨⟨hp0, hp⟩, ⟨h1, h2, h3⟩, h4, h5⟩ := h
  obtain ⟨P, rfl⟩ := Int.eq_ofNat_of_zero_le hp0
  obtain ⟨N, rfl⟩ := Int.eq_ofNat_of_zero_le (show 0 ≤ n by omega)
  obtain ⟨K, rfl⟩ := Int.eq_ofNat_of_zero_le h4
  rw [Int.toNat_natCast] at hp
  have hb := primeN_bd hp
  refine ⟨P, N, K, rfl, rfl, rfl, hp, by omega, by omega, ?_, by omega⟩
  have e : ((P : Int) - 1) = ((P - 1 : Nat) : Int) := by omega
  rw [e, ← Int.natCast_emod] at h3
  omega

theorem haveCharacters_yes (p n : Nat) (hp : primeN p = true) (h1 : 1 ≤ n) (h2 : n ≤ 16) (hd : (p - 1) % n = 0) (w : World) :
    Calls Try.prog 169 #[.int .i64 (p : Int), .int .i64 (n : Int)] w fun e w' => e = .returned (.bool true) ∧ Below w.heap.size w w' := by
  have hb := primeN_bd hp
  have HP := Lib.hid hp; clear hp
  have hn0 : ¬ n = 0 := by omega
  have hdi : (((p : Int) - 1) % (n : Int) == 0) = true := by
    rw [show ((p : Int) - 1) = ((p - 1 : Nat) : Int) by omega, ← Int.natCast_emod, hd]; rfl
  clear hd
  go_enter Try.func169, Try.ntmps169
  go_wp2_with (first
    | (go_at_call 136; refine (isOddPrime_yes p HP.out _).mono ?_; rintro e w1 ⟨rfl, m1, rfl⟩)
    | (go_at_call 141; refine (isOrder_yes _ _ (by omega) (by omega)).mono ?_; rintro e w2 ⟨rfl, rfl⟩))
  go_ret
  exact ⟨rfl, by first | exact below_drewN (Below.refl _ _) _ | go_grown⟩
theorem haveCharacters_no (p n : Int) (h : ¬ (PrP p ∧ OrP p n)) (w : World) :
    Calls Try.prog 169 #[.int .i64 p, .int .i64 n] w fun e w' => e = .returned (.bool false) ∧ Below w.heap.size w w' := by
  by_cases hp : PrP p
  · obtain ⟨P, rfl⟩ := Int.eq_ofNat_of_zero_le hp.1
    have hp2 : primeN P = true := by have := hp.2; rwa [Int.toNat_natCast] at this
    have hb := primeN_bd hp2
    have HP := Lib.hid hp2
    have ho : ¬ OrP (P : Int) n := fun ho => h ⟨hp, ho⟩
    clear hp hp2 h
    by_cases hn : 1 ≤ n ∧ n ≤ 16
    · obtain ⟨hn1, hn2⟩ := hn
      have hn3 : (((P : Int) - 1) % n == 0) = false := beq_eq_false_iff_ne.2 (fun e => ho ⟨hn1, hn2, e⟩)
      clear ho
      obtain ⟨N, rfl⟩ := Int.eq_ofNat_of_zero_le (show 0 ≤ n by omega)
      have hn0 : ¬ N = 0 := by omega
      go_enter Try.func169, Try.ntmps169
      go_wp2_with (first
        | (go_at_call 136; refine (isOddPrime_yes P HP.out _).mono ?_; rintro e w1 ⟨rfl, m1, rfl⟩)
        | (go_at_call 141; refine (isOrder_yes _ _ (by omega) (by omega)).mono ?_; rintro e w2 ⟨rfl, rfl⟩))
      go_ret
      exact ⟨rfl, by first | exact below_drewN (Below.refl _ _) _ | go_grown⟩
    · have H := Lib.hid (show n < 1 ∨ 16 < n by omega)
      clear hn ho
      go_enter Try.func169, Try.ntmps169
      go_wp2_with (first
        | (go_at_call 136; refine (isOddPrime_yes P HP.out _).mono ?_; rintro e w1 ⟨rfl, m1, rfl⟩)
        | (go_at_call 141; refine (isOrder_no _ _ H.out).mono ?_; rintro e w2 ⟨rfl, rfl⟩))
      go_ret
      exact ⟨rfl, by first | exact below_drewN (Below.refl _ _) _ | go_grown⟩
  · have HP := Lib.hid hp
    clear hp h
    go_enter Try.func169, Try.ntmps169
    go_wp2_with (go_at_call 136; refine (isOddPrime_no p HP.out _).mono ?_; rintro e w1 ⟨rfl, m1, rfl⟩)
    go_ret
    exact ⟨rfl, by first | exact below_drewN (Below.refl _ _) _ | go_grown⟩

theorem l03Order_yes (p n : Nat) (hb : 3 ≤ p) (hb' : p ≤ 61) (h1 : 1 ≤ n) (h2 : n ≤ 16) (hd : (p - 1) % n = 0) (w : World) :
    Calls Try.prog 166 #[.int .i64 (p : Int), .int .i64 (n : Int)] w fun e w' => e = .returned (.bool true) ∧ Below w.heap.size w w' := by
  have hn0 : ¬ n = 0 := by omega
  have hdi : (((p : Int) - 1) % (n : Int) == 0) = true := by
    rw [show ((p : Int) - 1) = ((p - 1 : Nat) : Int) by omega, ← Int.natCast_emod, hd]; rfl
  clear hd
  go_enter Try.func166, Try.ntmps166
  go_wp2_with (go_at_call 101; refine (l01In_yes _ _ _ _ (by omega) (by omega)).mono ?_; rintro e w2 ⟨rfl, rfl⟩)
  go_ret
  exact ⟨rfl, by first | exact below_drewN (Below.refl _ _) _ | go_grown⟩
theorem l03Order_no (p : Nat) (n : Int) (hb : 3 ≤ p) (hb' : p ≤ 61) (h : ¬ OrP p n) (w : World) :
    Calls Try.prog 166 #[.int .i64 (p : Int), .int .i64 n] w fun e w' => e = .returned (.bool false) ∧ Below w.heap.size w w' := by
  by_cases hn : 1 ≤ n ∧ n ≤ 16
  · obtain ⟨hn1, hn2⟩ := hn
    have hn3 : (((p : Int) - 1) % n == 0) = false := beq_eq_false_iff_ne.2 (fun e => h ⟨hn1, hn2, e⟩)
    clear h
    obtain ⟨N, rfl⟩ := Int.eq_ofNat_of_zero_le (show 0 ≤ n by omega)
    have hn0 : ¬ N = 0 := by omega
    go_enter Try.func166, Try.ntmps166
    go_wp2_with (go_at_call 101; refine (l01In_yes _ _ _ _ (by omega) (by omega)).mono ?_; rintro e w2 ⟨rfl, rfl⟩)
    go_ret
    exact ⟨rfl, by first | exact below_drewN (Below.refl _ _) _ | go_grown⟩
  · have H := Lib.hid (show n < 1 ∨ 16 < n by omega)
    clear hn h
    go_enter Try.func166, Try.ntmps166
    go_wp2_with (go_at_call 101; refine (l01In_no _ _ _ _ H.out).mono ?_; rintro e w2 ⟨rfl, rfl⟩)
    go_ret
    exact ⟨rfl, by first | exact below_drewN (Below.refl _ _) _ | go_grown⟩

theorem IsCharacter_yes (p n k : Nat) (hp : primeN p = true) (h1 : 1 ≤ n) (h2 : n ≤ 16) (hd : (p - 1) % n = 0) (hk : k < n) (w : World) :
    Calls Try.prog 93 #[.agg #[.int .i64 (p : Int), .int .i64 (n : Int), .int .i64 (k : Int)]] w fun e w' => e = .returned (.bool true) ∧ Below w.heap.size w w' := by
  have H := Lib.hid hd
  have HP := Lib.hid hp
  clear hd hp
  go_enter Try.func93, Try.ntmps93
  go_wp2_with (go_at_call 169; refine (haveCharacters_yes p n HP.out h1 h2 H.out _).mono ?_; rintro e w1 ⟨rfl, b1⟩; have hz1 := b1.size; simp only [World.size_alloc] at hz1; have q0 := b1.cell (p := ⟨w.heap.size, 0, none⟩) (by simp); have q1 := b1.cell (p := ⟨w.heap.size, 1, none⟩) (by simp); have q2 := b1.cell (p := ⟨w.heap.size, 2, none⟩) (by simp); simp at q0 q1 q2)
  go_ret
  exact ⟨by first | rfl | (simp; omega), ((Below.refl w.heap.size w).alloc (Nat.le_refl _) _).trans (b1.mono (by simp))⟩
theorem IsCharacter_no (p n k : Int) (h : ¬ ChP p n k) (w : World) :
    Calls Try.prog 93 #[.agg #[.int .i64 p, .int .i64 n, .int .i64 k]] w fun e w' => e = .returned (.bool false) ∧ Below w.heap.size w w' := by
  by_cases ho : PrP p ∧ OrP p n
  · obtain ⟨ho1, ho2⟩ := ho
    have hk : k < 0 ∨ n ≤ k := by
      rcases Int.lt_or_le k 0 with h1 | h1
      · exact .inl h1
      · rcases Int.lt_or_le k n with h2 | h2
        · exact absurd ⟨ho1, ho2, h1, h2⟩ h
        · exact .inr h2
    obtain ⟨P, rfl⟩ := Int.eq_ofNat_of_zero_le ho1.1
    obtain ⟨N, rfl⟩ := Int.eq_ofNat_of_zero_le (show 0 ≤ n by have := ho2.1; omega)
    have hp2 : primeN P = true := by have := ho1.2; rwa [Int.toNat_natCast] at this
    have hb := primeN_bd hp2
    have hd : (P - 1) % N = 0 := by
      have := ho2.2.2
      rw [show ((P : Int) - 1) = ((P - 1 : Nat) : Int) by omega, ← Int.natCast_emod] at this
      omega
    have h1 : 1 ≤ N := by have := ho2.1; omega
    have h2 : N ≤ 16 := by have := ho2.2.1; omega
    have H := Lib.hid hd
    have HP := Lib.hid hp2
    clear hd hp2 ho1 ho2 h
    rcases hk with hk | hk
    all_goals
      go_enter Try.func93, Try.ntmps93
      go_wp2_with (go_at_call 169; refine (haveCharacters_yes P N HP.out h1 h2 H.out _).mono ?_; rintro e w1 ⟨rfl, b1⟩; have hz1 := b1.size; simp only [World.size_alloc] at hz1; have q0 := b1.cell (p := ⟨w.heap.size, 0, none⟩) (by simp); have q1 := b1.cell (p := ⟨w.heap.size, 1, none⟩) (by simp); have q2 := b1.cell (p := ⟨w.heap.size, 2, none⟩) (by simp); simp at q0 q1 q2)
      go_ret
      exact ⟨by first | rfl | (simp; omega), ((Below.refl w.heap.size w).alloc (Nat.le_refl _) _).trans (b1.mono (by simp))⟩
  · have H := Lib.hid ho
    clear ho h
    go_enter Try.func93, Try.ntmps93
    go_wp2_with (go_at_call 169; refine (haveCharacters_no p n H.out _).mono ?_; rintro e w1 ⟨rfl, b1⟩; have hz1 := b1.size; simp only [World.size_alloc] at hz1)
    go_ret
    exact ⟨by first | rfl | (simp; omega), ((Below.refl w.heap.size w).alloc (Nat.le_refl _) _).trans (b1.mono (by simp))⟩

theorem toCharacter_any (x y z : Int) (w : World) :
    Calls Try.prog 91 #[.agg #[.int .i64 x, .int .i64 y, .int .i64 z]] w fun e w' => e = .returned (.agg #[.int .i64 x, .int .i64 y, .int .i64 z]) ∧ Below w.heap.size w w' := by
  go_enter Try.func91, Try.ntmps91
  go_wp2
  refine bodyPost_ret (v := .agg #[.int .i64 x, .int .i64 y, .int .i64 z]) (by simp [results, Try.results91, go_sem]) rfl ?_
  exact ⟨rfl, by first | exact below_drewN (Below.refl _ _) _ | go_grown⟩
end Go.Proofs.Ytnhpodlcgkgpbaa
