/- Places of the model; MovePlace and ResidueAt of the program and of the model. -/
import Derived.Test.YthookppmclimkaaDoorPlcG
import Derived.Test.YthookppmclimkaaDoorIs
namespace Go.Proofs.YthookppmclimkaaDoor
open Go.RowKit Go.ChangeShapes Go.Sort
set_option linter.unusedVariables false
set_option linter.unusedSimpArgs false
set_option maxRecDepth 100000

/-- The variable holds an error. -/
def Gv (w : World) : Prop := ∃ ad : Addr, w.cell? ⟨0, 0, none⟩ = some (.iface 121 (.pointer (some ad)))
theorem Gv.keep {w w' : World} (h : Gv w) (hb : Below w.heap.size w w') : Gv w' := by
  obtain ⟨ad, h⟩ := h
  exact ⟨ad, (hb.cell (p := ⟨0, 0, none⟩) (World.block_lt_of_cell? _ _ h)).trans h⟩
theorem openPlace_out (n l r : Int) (h : ¬ PlP n l r) (w : World) (hG : Gv w) :
    Calls Tryd.prog 39 #[.int .i64 n, .int .i64 l, .int .i64 r] w fun e w' => e = .returned (.tuple #[.agg #[.int .i64 0, .int .i64 0, .int .i64 0], .int .i64 2]) ∧ Below w.heap.size w w' := by
  obtain ⟨ad, h2⟩ := hG
  exact openPlace_no n l r h w ad h2

/-! Places of the model -/
set_option maxHeartbeats 1000000 in
theorem l07Place_yes (n l r : Nat) (h1 : 1 ≤ n) (h2 : n ≤ 16) (hl : primeN l = true) (hf : fullN l n = true) (hr : r ∈ roots n l) (w : World) :
    Calls Tryd.prog 45 #[.int .i64 (n : Int), .int .i64 (l : Int), .int .i64 (r : Int)] w fun e w' => e = .returned (.bool true) ∧ Below w.heap.size w w' := by
  have hb := primeN_bd hl
  obtain ⟨hr1, hr2, hr3⟩ := roots_mem.1 hr
  have HV := Lib.hid ((isRt_iff h1 h2).1 hr3)
  have HL := Lib.hid hl
  have HF := Lib.hid hf
  have HC := Lib.hid (cyc_in9 h1 h2)
  have hph := phi_bd n (by omega) h1
  have hvb : (valN (cyc n) (phiN n + 1) (r : Int) (l : Int) == 0) = true := by rw [HV.out]; rfl
  clear hl hf hr hr3
  go_enter Tryd.func45, Tryd.ntmps45
  go_wp2_with (first
    | (go_at_call 80; refine (l07Code_yes n l h1 h2 HL.out _).mono ?_; rintro e w1 ⟨rfl, m1, rfl⟩)
    | (go_at_call 81; refine (l07Fully_any n l h1 h2 HL.out _).mono ?_; rintro e w2 ⟨rfl, rfl⟩; rw [HF.out])
    | (go_at_call 46; refine (l01In_yes _ _ _ _ (by omega) (by omega)).mono ?_; rintro e w3 ⟨rfl, rfl⟩)
    | (go_at_call 82; refine (l01Cyclotomic_any n (by omega) h1 _).mono ?_; rintro e w4 ⟨a4, k4, rfl, s4, b4⟩)
    | (go_at_call 34; refine (l07Value_any _ s4 HC.out (by omega) (by omega) r l (by omega) (by omega) (by omega)).mono ?_; rintro e w5 ⟨rfl, m5, rfl⟩))
  go_ret
  exact ⟨rfl, below_drewN ((below_drewN (Below.refl _ _) _).trans b4) _⟩
set_option maxHeartbeats 1000000 in
theorem l07Place_no (n l r : Int) (h : ¬ PlP n l r) (w : World) :
    Calls Tryd.prog 45 #[.int .i64 n, .int .i64 l, .int .i64 r] w fun e w' => e = .returned (.bool false) ∧ Below w.heap.size w w' := by
  by_cases hs : SpP n l
  · obtain ⟨N, L, rfl, rfl, h1, h2, hl⟩ := hs.nat
    have hb := primeN_bd hl
    have HL := Lib.hid hl
    cases hf : fullN L N with
    | false =>
      have HF := Lib.hid hf
      clear hf hl h hs
      go_enter Tryd.func45, Tryd.ntmps45
      go_wp2_with (first
        | (go_at_call 80; refine (l07Code_yes N L h1 h2 HL.out _).mono ?_; rintro e w1 ⟨rfl, m1, rfl⟩)
        | (go_at_call 81; refine (l07Fully_any N L h1 h2 HL.out _).mono ?_; rintro e w2 ⟨rfl, rfl⟩; rw [HF.out]))
      go_ret
      exact ⟨rfl, below_drewN (Below.refl _ _) _⟩
    | true =>
      have HF := Lib.hid hf
      by_cases hr : 1 ≤ r ∧ r < L
      · obtain ⟨R, rfl⟩ := Int.eq_ofNat_of_zero_le (show 0 ≤ r by omega)
        have hv : ¬ valN (cyc N) (phiN N + 1) (R : Int) L = 0 := fun e => h ⟨⟨hs, by simpa using hf⟩, by omega, by omega, by simpa using (isRt_iff h1 h2).2 e⟩
        have hvb : (valN (cyc N) (phiN N + 1) (R : Int) (L : Int) == 0) = false := beq_eq_false_iff_ne.2 hv
        have HC := Lib.hid (cyc_in9 h1 h2)
        have hph := phi_bd N (by omega) h1
        obtain ⟨hr1, hr2⟩ := hr
        clear hf hl h hs hv
        go_enter Tryd.func45, Tryd.ntmps45
        go_wp2_with (first
          | (go_at_call 80; refine (l07Code_yes N L h1 h2 HL.out _).mono ?_; rintro e w1 ⟨rfl, m1, rfl⟩)
          | (go_at_call 81; refine (l07Fully_any N L h1 h2 HL.out _).mono ?_; rintro e w2 ⟨rfl, rfl⟩; rw [HF.out])
          | (go_at_call 46; refine (l01In_yes _ _ _ _ (by omega) (by omega)).mono ?_; rintro e w3 ⟨rfl, rfl⟩)
          | (go_at_call 82; refine (l01Cyclotomic_any N (by omega) h1 _).mono ?_; rintro e w4 ⟨a4, k4, rfl, s4, b4⟩)
          | (go_at_call 34; refine (l07Value_any _ s4 HC.out (by omega) (by omega) R L (by omega) (by omega) (by omega)).mono ?_; rintro e w5 ⟨rfl, m5, rfl⟩))
        go_ret
        exact ⟨rfl, below_drewN ((below_drewN (Below.refl _ _) _).trans b4) _⟩
      · have HR := Lib.hid (show r < 1 ∨ (L : Int) - 1 < r by omega)
        clear hf hl h hs hr
        go_enter Tryd.func45, Tryd.ntmps45
        go_wp2_with (first
          | (go_at_call 80; refine (l07Code_yes N L h1 h2 HL.out _).mono ?_; rintro e w1 ⟨rfl, m1, rfl⟩)
          | (go_at_call 81; refine (l07Fully_any N L h1 h2 HL.out _).mono ?_; rintro e w2 ⟨rfl, rfl⟩; rw [HF.out])
          | (go_at_call 46; refine (l01In_no _ _ _ _ HR.out).mono ?_; rintro e w3 ⟨rfl, rfl⟩))
        go_ret
        exact ⟨rfl, below_drewN (Below.refl _ _) _⟩
  · have HS := Lib.hid hs
    clear h hs
    go_enter Tryd.func45, Tryd.ntmps45
    go_wp2_with (go_at_call 80; refine (l07Code_no n l HS.out _).mono ?_; rintro e w1 ⟨rfl, m1, rfl⟩)
    go_ret
    exact ⟨rfl, below_drewN (Below.refl _ _) _⟩

/-! MovePlace -/
def MvP (n l r a : Int) : Prop := PlP n l r ∧ 1 ≤ a ∧ a ≤ n ∧ gcdI a n = 1
theorem gcdI_pos {a n : Nat} (h : 1 ≤ a) : 1 ≤ gcdI (a : Int) (n : Int) := by
  unfold gcdI
  have := Nat.gcd_pos_of_pos_left n (show 0 < a by omega)
  simp only [Int.toNat_natCast]; omega
theorem MovePlace_spec_ok (n l r a : Nat) (h1 : 1 ≤ n) (h2 : n ≤ 16) (hl : primeN l = true) (hf : fullN l n = true) (hr : r ∈ roots n l) (ha1 : 1 ≤ a) (ha2 : a ≤ n) (hg : gcdI (a : Int) (n : Int) = 1) (w : World) :
    Calls Tryd.prog 17 #[.int .i64 (n : Int), .int .i64 (l : Int), .int .i64 (r : Int), .int .i64 (a : Int)] w fun e w' => e = .returned (.tuple #[.int .i64 (pwr l r a : Nat), .int .i64 0]) ∧ Below w.heap.size w w' := by
  have hb := primeN_bd hl
  have hrl := (roots_le hl r hr).1
  have HL := Lib.hid hl
  have HF := Lib.hid hf
  have HR := Lib.hid hr
  have HG := Lib.hid hg
  clear hl hf hr hg
  go_enter Tryd.func17, Tryd.ntmps17
  go_wp2_with (first
    | (go_at_call 45; refine (l07Place_yes n l r h1 h2 HL.out HF.out HR.out _).mono ?_; rintro e w1 ⟨rfl, b1⟩)
    | (go_at_call 46; refine (l01In_yes _ _ _ _ (by omega) (by omega)).mono ?_; rintro e w3 ⟨rfl, rfl⟩)
    | (go_at_call 47; refine (l01Gcd_any _ _ _ (by omega) (by omega) (by omega) (by omega)).mono ?_; rintro e w4 ⟨rfl, rfl⟩; rw [HG.out])
    | (go_at_call 35; refine (l07Power_any l r a (by omega) (by omega) (by omega) (by omega) _).mono ?_; rintro e w5 ⟨rfl, m5, rfl⟩))
  go_ret2
  exact ⟨rfl, below_drewN b1 _⟩
theorem MovePlace_impl_ok (n l r a : Nat) (h1 : 1 ≤ n) (h2 : n ≤ 16) (hl : primeN l = true) (hf : fullN l n = true) (hr : r ∈ roots n l) (ha1 : 1 ≤ a) (ha2 : a ≤ n) (hg : gcdI (a : Int) (n : Int) = 1) (w : World) :
    Calls Tryd.prog 16 #[.int .i64 (n : Int), .int .i64 (l : Int), .int .i64 (r : Int), .int .i64 (a : Int)] w fun e w' => e = .returned (.tuple #[.int .i64 (pwr l r a : Nat), .int .i64 0]) ∧ Below w.heap.size w w' := by
  have hb := primeN_bd hl
  have hrl := (roots_le hl r hr).1
  have HL := Lib.hid hl
  have HF := Lib.hid hf
  have HR := Lib.hid hr
  have HG := Lib.hid hg
  clear hl hf hr hg
  go_enter Tryd.func16, Tryd.ntmps16
  go_wp2_with (first
    | (go_at_call 39; refine (openPlace_ok n l r h1 h2 HL.out HF.out HR.out _).mono ?_; rintro e w1 ⟨rfl, b1⟩; have bx := Box.made w1 #[.int .i64 (n : Int), .int .i64 (l : Int), .int .i64 (r : Int)] 57 [.int .i64 (n : Int), .int .i64 (l : Int), .int .i64 (r : Int)] (fun j v h => by simpa using h))
    | (go_at_call 44; refine (commonDivisor_any _ _ _ (by omega) (by omega) (by omega) (by omega)).mono ?_; rintro e w4 ⟨rfl, m4, rfl⟩; rw [HG.out]; have bx4 := bx.keep (below_drewN (Below.refl _ _) m4); have c1 := bx4.2.1 1 _ rfl; have c2 := bx4.2.1 2 _ rfl)
    | (go_at_call 31; refine (powerModulo_any l r a (by omega) (by omega) (by omega) (by omega) _).mono ?_; rintro e w5 ⟨rfl, m5, rfl⟩))
  go_ret2
  exact ⟨rfl, below_drewN (b1.alloc b1.size _) _⟩
theorem MovePlace_spec_bad (n l r a : Int) (hn : inR n) (ha : inR a) (h : ¬ MvP n l r a) (w : World) :
    Calls Tryd.prog 17 #[.int .i64 n, .int .i64 l, .int .i64 r, .int .i64 a] w fun e w' => e = .returned (.tuple #[.int .i64 0, .int .i64 2]) ∧ Below w.heap.size w w' := by
  by_cases hp : PlP n l r
  · obtain ⟨N, L, R, rfl, rfl, rfl, h1, h2, hl, hf, hr⟩ := hp.nat
    have HL := Lib.hid hl
    have HF := Lib.hid hf
    have HR := Lib.hid hr
    by_cases hin : 1 ≤ a ∧ a ≤ N
    · obtain ⟨A, rfl⟩ := Int.eq_ofNat_of_zero_le (show 0 ≤ a by omega)
      have hg := fun e => h ⟨hp, hin.1, hin.2, e⟩
      have hgb : (gcdI (A : Int) (N : Int) != 1) = true := by rw [bne_iff_ne]; exact hg
      obtain ⟨hi1, hi2⟩ := hin
      clear h hp hl hf hr hg
      go_enter Tryd.func17, Tryd.ntmps17
      go_wp2_with (first
        | (go_at_call 45; refine (l07Place_yes N L R h1 h2 HL.out HF.out HR.out _).mono ?_; rintro e w1 ⟨rfl, b1⟩)
        | (go_at_call 46; refine (l01In_yes _ _ _ _ (by omega) (by omega)).mono ?_; rintro e w3 ⟨rfl, rfl⟩)
        | (go_at_call 47; refine (l01Gcd_any _ _ _ (by omega) (by omega) (by omega) (by omega)).mono ?_; rintro e w4 ⟨rfl, rfl⟩))
      go_ret2
      exact ⟨rfl, b1⟩
    · have HI := Lib.hid (show a < 1 ∨ (N : Int) < a by omega)
      clear h hp hl hf hr hin
      go_enter Tryd.func17, Tryd.ntmps17
      go_wp2_with (first
        | (go_at_call 45; refine (l07Place_yes N L R h1 h2 HL.out HF.out HR.out _).mono ?_; rintro e w1 ⟨rfl, b1⟩)
        | (go_at_call 46; refine (l01In_no _ _ _ _ HI.out).mono ?_; rintro e w3 ⟨rfl, rfl⟩))
      go_ret2
      exact ⟨rfl, b1⟩
  · have HP := Lib.hid hp
    clear h hp
    go_enter Tryd.func17, Tryd.ntmps17
    go_wp2_with (go_at_call 45; refine (l07Place_no n l r HP.out _).mono ?_; rintro e w1 ⟨rfl, b1⟩)
    go_ret2
    exact ⟨rfl, b1⟩
theorem MovePlace_impl_bad (n l r a : Int) (hn : inR n) (ha : inR a) (h : ¬ MvP n l r a) (w : World) (hG : Gv w) :
    Calls Tryd.prog 16 #[.int .i64 n, .int .i64 l, .int .i64 r, .int .i64 a] w fun e w' => e = .returned (.tuple #[.int .i64 0, .int .i64 2]) ∧ Below w.heap.size w w' := by
  by_cases hp : PlP n l r
  · obtain ⟨N, L, R, rfl, rfl, rfl, h1, h2, hl, hf, hr⟩ := hp.nat
    have HL := Lib.hid hl
    have HF := Lib.hid hf
    have HR := Lib.hid hr
    by_cases hlo : a < 1
    · clear h hp hl hf hr
      go_enter Tryd.func16, Tryd.ntmps16
      go_wp2_with (go_at_call 39; refine (openPlace_ok N L R h1 h2 HL.out HF.out HR.out _).mono ?_; rintro e w1 ⟨rfl, b1⟩)
      go_ret2
      exact ⟨rfl, b1.alloc b1.size _⟩
    · by_cases hhi : (N : Int) < a
      · have hlo' : 1 ≤ a := by omega
        clear h hp hl hf hr hlo
        go_enter Tryd.func16, Tryd.ntmps16
        go_wp2_with (go_at_call 39; refine (openPlace_ok N L R h1 h2 HL.out HF.out HR.out _).mono ?_; rintro e w1 ⟨rfl, b1⟩)
        go_ret2
        exact ⟨rfl, b1.alloc b1.size _⟩
      · obtain ⟨A, rfl⟩ := Int.eq_ofNat_of_zero_le (show 0 ≤ a by omega)
        have hg : gcdI (A : Int) (N : Int) ≠ 1 := fun e => h ⟨hp, by omega, by omega, e⟩
        have hgp := gcdI_pos (n := N) (show 1 ≤ A by omega)
        have hg2 : 1 < gcdI (A : Int) (N : Int) := by omega
        have hi1 : 1 ≤ A := by omega
        have hi2 : A ≤ N := by omega
        clear h hp hl hf hr hg hlo hhi
        go_enter Tryd.func16, Tryd.ntmps16
        go_wp2_with (first
          | (go_at_call 39; refine (openPlace_ok N L R h1 h2 HL.out HF.out HR.out _).mono ?_; rintro e w1 ⟨rfl, b1⟩)
          | (go_at_call 44; refine (commonDivisor_any _ _ _ (by omega) (by omega) (by omega) (by omega)).mono ?_; rintro e w4 ⟨rfl, m4, rfl⟩))
        go_ret2
        exact ⟨rfl, below_drewN (b1.alloc b1.size _) _⟩
  · have HP := Lib.hid hp
    clear h hp
    go_enter Tryd.func16, Tryd.ntmps16
    go_wp2_with (go_at_call 39; refine (openPlace_out n l r HP.out _ hG).mono ?_; rintro e w1 ⟨rfl, b1⟩)
    go_ret2
    exact ⟨rfl, b1.alloc b1.size _⟩
end Go.Proofs.YthookppmclimkaaDoor
