/- l03Is; IsCharacter of the model; pairs, products and inverses of characters. -/
import Derived.Test.YtnhpodlcgkgpbaaChr
namespace Go.Proofs.Ytnhpodlcgkgpbaa
open Go.RowKit Go.ChangeShapes Go.Sort
set_option linter.unusedVariables false
set_option linter.unusedSimpArgs false

theorem ChP.mk {p n k : Nat} (hp : primeN p = true) (h1 : 1 ≤ n) (h2 : n ≤ 16) (hd : (p - 1) % n = 0) (hk : k < n) : ChP p n k := by
  have hb := primeN_bd hp
  refine ⟨⟨by omega, by rwa [Int.toNat_natCast]⟩, ⟨by omega, by omega, ?_⟩, by omega, by omega⟩
  rw [show ((p : Int) - 1) = ((p - 1 : Nat) : Int) by omega, ← Int.natCast_emod, hd]; rfl

theorem l03Is_yes (p n k : Nat) (hp : primeN p = true) (h1 : 1 ≤ n) (h2 : n ≤ 16) (hd : (p - 1) % n = 0) (hk : k < n) (w : World) :
    Calls Try.prog 89 #[.agg #[.int .i64 (p : Int), .int .i64 (n : Int), .int .i64 (k : Int)]] w fun e w' => e = .returned (.bool true) ∧ Below w.heap.size w w' := by
  have hb := primeN_bd hp
  have H := Lib.hid hd
  have HP := Lib.hid hp
  clear hd hp
  go_enter Try.func89, Try.ntmps89
  go_wp2_with (first
    | (go_at_call 165; refine (l03Prime_yes p HP.out _).mono ?_; rintro e w1 ⟨rfl, m1, rfl⟩)
    | (go_at_call 166; refine (l03Order_yes p n hb.1 hb.2 h1 h2 H.out _).mono ?_; rintro e w2 ⟨rfl, b2⟩; have hz2 : (w.alloc (.cells #[.int .i64 (p : Int), .int .i64 (n : Int), .int .i64 (k : Int)] 26)).heap.size ≤ w2.heap.size := b2.size; simp only [World.size_alloc] at hz2; have q0 := b2.cell (p := ⟨w.heap.size, 0, none⟩) (by show _ < (w.alloc _).heap.size; simp); have q1 := b2.cell (p := ⟨w.heap.size, 1, none⟩) (by show _ < (w.alloc _).heap.size; simp); have q2 := b2.cell (p := ⟨w.heap.size, 2, none⟩) (by show _ < (w.alloc _).heap.size; simp); simp at q0 q1 q2)
    | (go_at_call 101; refine (l01In_yes _ _ _ _ (by omega) (by omega)).mono ?_; rintro e w' ⟨rfl, rfl⟩))
  go_ret
  exact ⟨rfl, ((Below.refl w.heap.size w).alloc (Nat.le_refl _) _).trans ((below_drewN (Below.refl _ _) _).trans (b2.mono (by show _ ≤ (w.alloc _).heap.size; simp)))⟩
theorem l03Is_no (p n k : Int) (h : ¬ ChP p n k) (w : World) :
    Calls Try.prog 89 #[.agg #[.int .i64 p, .int .i64 n, .int .i64 k]] w fun e w' => e = .returned (.bool false) ∧ Below w.heap.size w w' := by
  by_cases hp : PrP p
  · obtain ⟨P, rfl⟩ := Int.eq_ofNat_of_zero_le hp.1
    have hp2 : primeN P = true := by have := hp.2; rwa [Int.toNat_natCast] at this
    have hb := primeN_bd hp2
    have HP := Lib.hid hp2
    by_cases ho : OrP (P : Int) n
    · have hk : k < 0 ∨ n - 1 < k := by
        rcases Int.lt_or_le k 0 with h1 | h1
        · exact .inl h1
        · rcases Int.lt_or_le k n with h2 | h2
          · exact absurd ⟨hp, ho, h1, h2⟩ h
          · exact .inr (by omega)
      obtain ⟨N, rfl⟩ := Int.eq_ofNat_of_zero_le (show 0 ≤ n by have := ho.1; omega)
      have hd : (P - 1) % N = 0 := by
        have := ho.2.2
        rw [show ((P : Int) - 1) = ((P - 1 : Nat) : Int) by omega, ← Int.natCast_emod] at this
        omega
      have h1 : 1 ≤ N := by have := ho.1; omega
      have h2 : N ≤ 16 := by have := ho.2.1; omega
      have H := Lib.hid hd
      have HK := Lib.hid hk
      clear hd hp2 hp ho h hk
      go_enter Try.func89, Try.ntmps89
      go_wp2_with (first
        | (go_at_call 165; refine (l03Prime_yes P HP.out _).mono ?_; rintro e w1 ⟨rfl, m1, rfl⟩)
        | (go_at_call 166; refine (l03Order_yes P N hb.1 hb.2 h1 h2 H.out _).mono ?_; rintro e w2 ⟨rfl, b2⟩; have hz2 : (w.alloc (.cells #[.int .i64 (P : Int), .int .i64 (N : Int), .int .i64 k] 26)).heap.size ≤ w2.heap.size := b2.size; simp only [World.size_alloc] at hz2; have q0 := b2.cell (p := ⟨w.heap.size, 0, none⟩) (by show _ < (w.alloc _).heap.size; simp); have q1 := b2.cell (p := ⟨w.heap.size, 1, none⟩) (by show _ < (w.alloc _).heap.size; simp); have q2 := b2.cell (p := ⟨w.heap.size, 2, none⟩) (by show _ < (w.alloc _).heap.size; simp); simp at q0 q1 q2)
        | (go_at_call 101; refine (l01In_no _ _ _ _ HK.out).mono ?_; rintro e w' ⟨rfl, rfl⟩))
      go_ret
      exact ⟨rfl, ((Below.refl w.heap.size w).alloc (Nat.le_refl _) _).trans ((below_drewN (Below.refl _ _) _).trans (b2.mono (by show _ ≤ (w.alloc _).heap.size; simp)))⟩
    · have H := Lib.hid ho
      clear hp2 hp ho h
      go_enter Try.func89, Try.ntmps89
      go_wp2_with (first
        | (go_at_call 165; refine (l03Prime_yes P HP.out _).mono ?_; rintro e w1 ⟨rfl, m1, rfl⟩)
        | (go_at_call 166; refine (l03Order_no P n hb.1 hb.2 H.out _).mono ?_; rintro e w2 ⟨rfl, b2⟩))
      go_ret
      exact ⟨rfl, ((Below.refl w.heap.size w).alloc (Nat.le_refl _) _).trans ((below_drewN (Below.refl _ _) _).trans (b2.mono (by show _ ≤ (w.alloc _).heap.size; simp)))⟩
  · have H := Lib.hid hp
    clear hp h
    go_enter Try.func89, Try.ntmps89
    go_wp2_with (go_at_call 165; refine (l03Prime_no p H.out _).mono ?_; rintro e w1 ⟨rfl, m1, rfl⟩)
    go_ret
    exact ⟨rfl, below_drewN ((Below.refl w.heap.size w).alloc (Nat.le_refl _) _) _⟩

/-- Both in one: whether it is a character. -/
theorem IsCharacter_dec (p n k : Int) (b : Bool) (h : (ChP p n k ∧ b = true) ∨ (¬ ChP p n k ∧ b = false)) (w : World) :
    Calls Try.prog 93 #[.agg #[.int .i64 p, .int .i64 n, .int .i64 k]] w fun e w' => e = .returned (.bool b) ∧ Below w.heap.size w w' := by
  rcases h with ⟨h, rfl⟩ | ⟨h, rfl⟩
  · obtain ⟨P, N, K, rfl, rfl, rfl, h1, h2, h3, h4, h5⟩ := h.nat
    exact IsCharacter_yes P N K h1 h2 h3 h4 h5 w
  · exact IsCharacter_no p n k h w
theorem l03Is_dec (p n k : Int) (b : Bool) (h : (ChP p n k ∧ b = true) ∨ (¬ ChP p n k ∧ b = false)) (w : World) :
    Calls Try.prog 89 #[.agg #[.int .i64 p, .int .i64 n, .int .i64 k]] w fun e w' => e = .returned (.bool b) ∧ Below w.heap.size w w' := by
  rcases h with ⟨h, rfl⟩ | ⟨h, rfl⟩
  · obtain ⟨P, N, K, rfl, rfl, rfl, h1, h2, h3, h4, h5⟩ := h.nat
    exact l03Is_yes P N K h1 h2 h3 h4 h5 w
  · exact l03Is_no p n k h w
/-- The character that is none. -/
def noC (c : Int) : Value := .tuple #[.agg #[.int .i64 0, .int .i64 0, .int .i64 0], .int .i64 c]

end Go.Proofs.Ytnhpodlcgkgpbaa
