/- The value of a character at a number: l03At of the model, CharacterAt of both. -/
import Derived.Test.YtkcofcppmlndiaaExp
import Derived.Test.YtkcofcppmlndiaaPowZ
namespace Go.Proofs.Ytkcofcppmlndiaa
open Go.RowKit Go.ChangeShapes Go.Sort
set_option linter.unusedVariables false
set_option linter.unusedSimpArgs false

/-- The Parts of the value at x. -/
def atP (p n k : Nat) (x : Int) : Nat → Int := fun j => if restN p x = 0 then 0 else tb n (expN p n k (restN p x)) j
theorem atP_zero {p n k : Nat} {x : Int} (h : restN p x = 0) (j : Nat) : atP p n k x j = 0 := by unfold atP; rw [if_pos h]
theorem atP_some {p n k : Nat} {x : Int} (h : ¬ restN p x = 0) (j : Nat) : atP p n k x j = tb n (expN p n k (restN p x)) j := by unfold atP; rw [if_neg h]
theorem atP_bd {p n k : Nat} {x : Int} (hn : n < 17) (h1 : 1 ≤ n) {j : Nat} (hj : j < phiN n) : -1 ≤ atP p n k x j ∧ atP p n k x j ≤ 1 := by
  by_cases h : restN p x = 0
  · rw [atP_zero h]; omega
  · rw [atP_some h]; exact tab_one n hn h1 _ (expN_lt h1) j hj
theorem atP_within {p n k : Nat} {x : Int} (hn : n < 17) (h1 : 1 ≤ n) : Within (atP p n k x) (phiN n) 1000000000 := fun j hj => by have := atP_bd (p := p) (k := k) (x := x) hn h1 hj; omega
theorem redP_pad0 {n : Nat} (hn : n < 17) (h1 : 1 ≤ n) (f : Nat → Int) {j : Nat} (hj : j < phiN n) : redP n (pad 0 f) j = 0 := by
  have hp := phi_le12 n (by omega) h1
  rw [redP_exact hn h1 (P' := fun _ => 0) (fun i _ => by unfold pad; rw [if_neg (by omega)]; simp [wrap64]) (by omega) (by rw [redZ_zero]; unfold inR; omega), redZ_zero]
theorem powIx_nat {n k : Nat} (h : k < n) : powIx n (k : Int) = k := by
  unfold powIx
  rw [Int.tmod_eq_emod_of_nonneg (by omega), Int.emod_eq_of_lt (a := (k : Int)) (by omega) (by omega), Int.add_emod_right, Int.emod_eq_of_lt (by omega) (by omega)]
  simp

set_option maxRecDepth 100000 in
set_option maxHeartbeats 1000000 in
theorem l03At_any (p n k : Nat) (x : Int) (hp : primeN p = true) (h1 : 1 ≤ n) (h2 : n ≤ 16) (hk : k ≤ 16) (hr1 : -9223372036854775808 ≤ x) (hr2 : x ≤ 9223372036854775807) (w : World) :
    Calls Try.prog 120 #[.agg #[.int .i64 (p : Int), .int .i64 (n : Int), .int .i64 (k : Int)], .int .i64 x] w fun e w' => ∃ a cap, e = .returned (.agg #[.int .i64 (n : Int), .slice a (phiN n) cap]) ∧ Sl true w' w.heap.size w'.heap.size (.slice a (phiN n) cap) (phiN n) (atP p n k x) ∧ Below w.heap.size w w' := by
  have HP := Lib.hid hp; clear hp
  have st0 := (((St.start w).alloc (.cells #[.int .i64 (p : Int), .int .i64 (n : Int), .int .i64 (k : Int)] 25)).addBox w.heap.size [.int .i64 (p : Int), .int .i64 (n : Int), .int .i64 (k : Int)] (Box.made _ _ _ _ (fun j v h => by simpa using h)))
  replace st0 := (st0.alloc (.cells #[.int .i64 0, .slice none 0 0] 40)).addBox _ [.int .i64 0, .slice none 0 0] (Box.made _ _ _ _ (fun j v h => by simpa using h))
  simp only [World.size_alloc] at st0
  obtain ⟨e0, e1, e2⟩ := (st0.box 1 (w.heap.size, [.int .i64 (p : Int), .int .i64 (n : Int), .int .i64 (k : Int)]) rfl).cell3
  by_cases hr : restN p x = 0
  · have HX := Lib.hid (show exM p n k x = -1 by unfold exM; rw [if_pos hr])
    have HA := Lib.hid (fun j => atP_zero (p := p) (n := n) (k := k) hr j)
    clear hr
    go_enter Try.func120, Try.ntmps120
    go_wp2_with fail
    refine (l03Exponent_any p n k x HP.out h1 h2 hk hr1 hr2 _).mono ?_
    rw [HX.out]
    rintro e w1 ⟨rfl, b1⟩
    clear e0 e1 e2
    have st1 := st0.keep b1
    have hz1 := b1.size
    try simp only [World.size_alloc] at hz1
    clear st0 b1
    obtain ⟨e0, e1, e2⟩ := (st1.box 1 (w.heap.size, [.int .i64 (p : Int), .int .i64 (n : Int), .int .i64 (k : Int)]) rfl).cell3
    go_wp2_with fail
    refine (l01Zero_any n (by omega) _).mono ?_
    rintro e w2 ⟨a2, k2, rfl, s2, b2⟩
    have S2 := Lib.hid (s2.congr (f' := atP p n k x) (fun j hj => HA.out j))
    clear s2 e0 e1 e2
    have st2 := st1.keep b2
    have hz2 := b2.size
    try simp only [World.size_alloc] at hz2
    clear st1 b2
    obtain ⟨d0, d1⟩ := (st2.box 0 (w.heap.size + 1, [.int .i64 0, .slice none 0 0]) rfl).cell2
    have dz := (st2.box 0 (w.heap.size + 1, [.int .i64 0, .slice none 0 0]) rfl).2.2
    have BB := st2.1
    dsimp only at dz
    go_wp2
    refine bodyPost_ret (v := .agg #[.int .i64 (n : Int), .slice a2 (phiN n) k2]) (by simp [results, Try.results120, go_sem, d0, d1]) rfl ?_
    refine ⟨_, _, rfl, ?_, by go_grown⟩
    exact ((S2.out.setOther (.inl (by show w.heap.size + 1 < _; omega)) _).setOther (.inl (by show w.heap.size + 1 < _; omega)) _).wide (by omega) (by simp) (Nat.le_refl _)
  · have HX := Lib.hid (show exM p n k x = ((expN p n k (restN p x) : Nat) : Int) by unfold exM; rw [if_neg hr])
    have HA := Lib.hid (fun j => atP_some (p := p) (n := n) (k := k) hr j)
    have hlt := expN_lt (p := p) (k := k) (x := restN p x) h1
    clear hr
    generalize expN p n k (restN p x) = q at *
    go_enter Try.func120, Try.ntmps120
    go_wp2_with fail
    refine (l03Exponent_any p n k x HP.out h1 h2 hk hr1 hr2 _).mono ?_
    rw [HX.out]
    rintro e w1 ⟨rfl, b1⟩
    clear e0 e1 e2
    have st1 := st0.keep b1
    have hz1 := b1.size
    try simp only [World.size_alloc] at hz1
    clear st0 b1
    obtain ⟨e0, e1, e2⟩ := (st1.box 1 (w.heap.size, [.int .i64 (p : Int), .int .i64 (n : Int), .int .i64 (k : Int)]) rfl).cell3
    go_wp2_with fail
    refine (l01Unit_any n (q : Int) _ h1 h2).mono ?_
    rintro e w2 ⟨a2, k2, rfl, s2, b2⟩
    rw [powIx_nat hlt] at s2
    have S2 := Lib.hid (s2.congr (f' := atP p n k x) (fun j hj => by rw [HA.out j, unit_tb (by omega) h1 hlt hj]))
    clear s2 e0 e1 e2
    have st2 := st1.keep b2
    have hz2 := b2.size
    try simp only [World.size_alloc] at hz2
    clear st1 b2
    obtain ⟨d0, d1⟩ := (st2.box 0 (w.heap.size + 1, [.int .i64 0, .slice none 0 0]) rfl).cell2
    have dz := (st2.box 0 (w.heap.size + 1, [.int .i64 0, .slice none 0 0]) rfl).2.2
    have BB := st2.1
    dsimp only at dz
    go_wp2
    refine bodyPost_ret (v := .agg #[.int .i64 (n : Int), .slice a2 (phiN n) k2]) (by simp [results, Try.results120, go_sem, d0, d1]) rfl ?_
    refine ⟨_, _, rfl, ?_, by go_grown⟩
    exact ((S2.out.setOther (.inl (by show w.heap.size + 1 < _; omega)) _).setOther (.inl (by show w.heap.size + 1 < _; omega)) _).wide (by omega) (by simp) (Nat.le_refl _)

theorem CharacterAt_impl_bad (p n k x : Int) (h : ¬ ChP p n k) (w : World) :
    Calls Try.prog 33 #[.agg #[.int .i64 p, .int .i64 n, .int .i64 k], .int .i64 x] w fun e w' => e = .returned (failV 1) ∧ Below w.heap.size w w' := by
  have H := Lib.hid h; clear h
  have st0 := (((St.start w).alloc (.cells #[.int .i64 p, .int .i64 n, .int .i64 k] 25)).addBox w.heap.size [.int .i64 p, .int .i64 n, .int .i64 k] (Box.made _ _ _ _ (fun j v h => by simpa using h)))
  replace st0 := (st0.alloc (.cells #[.int .i64 0, .slice none 0 0] 40)).addBox _ [.int .i64 0, .slice none 0 0] (Box.made _ _ _ _ (fun j v h => by simpa using h))
  simp only [World.size_alloc] at st0
  go_enter Try.func33, Try.ntmps33
  go_wp2_with fail
  refine (IsCharacter_no p n k H.out _).mono ?_
  rintro e w1 ⟨rfl, b1⟩
  have st1 := st0.keep b1
  have hz1 := b1.size
  try simp only [World.size_alloc] at hz1
  clear st0 b1
  obtain ⟨d0, d1⟩ := (st1.box 0 (w.heap.size + 1, [.int .i64 0, .slice none 0 0]) rfl).cell2
  have dz := (st1.box 0 (w.heap.size + 1, [.int .i64 0, .slice none 0 0]) rfl).2.2
  have BB := st1.1
  dsimp only at dz
  go_wp2
  refine bodyPost_ret (v := failV 1) (by simp [results, Try.results33, go_sem, failV, d0, d1]) rfl ?_
  exact ⟨rfl, by go_grown⟩

theorem CharacterAt_spec_bad (p n k x : Int) (h : ¬ ChP p n k) (w : World) :
    Calls Try.prog 42 #[.agg #[.int .i64 p, .int .i64 n, .int .i64 k], .int .i64 x] w fun e w' => e = .returned (failV 1) ∧ Below w.heap.size w w' := by
  have H := Lib.hid h; clear h
  have st0 := (((St.start w).alloc (.cells #[.int .i64 p, .int .i64 n, .int .i64 k] 25)).addBox w.heap.size [.int .i64 p, .int .i64 n, .int .i64 k] (Box.made _ _ _ _ (fun j v h => by simpa using h)))
  replace st0 := (st0.alloc (.cells #[.int .i64 0, .slice none 0 0] 40)).addBox _ [.int .i64 0, .slice none 0 0] (Box.made _ _ _ _ (fun j v h => by simpa using h))
  simp only [World.size_alloc] at st0
  go_enter Try.func42, Try.ntmps42
  go_wp2_with fail
  refine (l03Is_no p n k H.out _).mono ?_
  rintro e w1 ⟨rfl, b1⟩
  have st1 := st0.keep b1
  have hz1 := b1.size
  try simp only [World.size_alloc] at hz1
  clear st0 b1
  obtain ⟨d0, d1⟩ := (st1.box 0 (w.heap.size + 1, [.int .i64 0, .slice none 0 0]) rfl).cell2
  have dz := (st1.box 0 (w.heap.size + 1, [.int .i64 0, .slice none 0 0]) rfl).2.2
  have BB := st1.1
  dsimp only at dz
  go_wp2
  refine bodyPost_ret (v := failV 1) (by simp [results, Try.results42, go_sem, failV, d0, d1]) rfl ?_
  exact ⟨rfl, by go_grown⟩

theorem CharacterAt_impl_out (p n k : Nat) (x : Int) (hp : primeN p = true) (h1 : 1 ≤ n) (h2 : n ≤ 16) (hd : (p - 1) % n = 0) (hk : k < n) (hx : x < -1000000 ∨ 1000000 < x) (w : World) :
    Calls Try.prog 33 #[.agg #[.int .i64 (p : Int), .int .i64 (n : Int), .int .i64 (k : Int)], .int .i64 x] w fun e w' => e = .returned (failV 2) ∧ Below w.heap.size w w' := by
  have HP := Lib.hid hp
  have HD := Lib.hid hd
  have HX := Lib.hid hx
  clear hp hd hx
  have st0 := (((St.start w).alloc (.cells #[.int .i64 (p : Int), .int .i64 (n : Int), .int .i64 (k : Int)] 25)).addBox w.heap.size [.int .i64 (p : Int), .int .i64 (n : Int), .int .i64 (k : Int)] (Box.made _ _ _ _ (fun j v h => by simpa using h)))
  replace st0 := (st0.alloc (.cells #[.int .i64 0, .slice none 0 0] 40)).addBox _ [.int .i64 0, .slice none 0 0] (Box.made _ _ _ _ (fun j v h => by simpa using h))
  simp only [World.size_alloc] at st0
  go_enter Try.func33, Try.ntmps33
  go_wp2_with fail
  refine (IsCharacter_yes p n k HP.out h1 h2 HD.out hk _).mono ?_
  rintro e w1 ⟨rfl, b1⟩
  have st1 := st0.keep b1
  have hz1 := b1.size
  try simp only [World.size_alloc] at hz1
  clear st0 b1
  obtain ⟨d0, d1⟩ := (st1.box 0 (w.heap.size + 1, [.int .i64 0, .slice none 0 0]) rfl).cell2
  have dz := (st1.box 0 (w.heap.size + 1, [.int .i64 0, .slice none 0 0]) rfl).2.2
  have BB := st1.1
  dsimp only at dz
  go_wp2_with (go_at_call 99; refine (isWithin_no _ _ _ (by omega) (by omega) HX.out).mono ?_; rintro e w' ⟨rfl, rfl⟩)
  refine bodyPost_ret (v := failV 2) (by simp [results, Try.results33, go_sem, failV, d0, d1]) rfl ?_
  exact ⟨rfl, by go_grown⟩

theorem CharacterAt_spec_out (p n k : Nat) (x : Int) (hp : primeN p = true) (h1 : 1 ≤ n) (h2 : n ≤ 16) (hd : (p - 1) % n = 0) (hk : k < n) (hx : x < -1000000 ∨ 1000000 < x) (w : World) :
    Calls Try.prog 42 #[.agg #[.int .i64 (p : Int), .int .i64 (n : Int), .int .i64 (k : Int)], .int .i64 x] w fun e w' => e = .returned (failV 2) ∧ Below w.heap.size w w' := by
  have HP := Lib.hid hp
  have HD := Lib.hid hd
  have HX := Lib.hid hx
  clear hp hd hx
  have st0 := (((St.start w).alloc (.cells #[.int .i64 (p : Int), .int .i64 (n : Int), .int .i64 (k : Int)] 25)).addBox w.heap.size [.int .i64 (p : Int), .int .i64 (n : Int), .int .i64 (k : Int)] (Box.made _ _ _ _ (fun j v h => by simpa using h)))
  replace st0 := (st0.alloc (.cells #[.int .i64 0, .slice none 0 0] 40)).addBox _ [.int .i64 0, .slice none 0 0] (Box.made _ _ _ _ (fun j v h => by simpa using h))
  simp only [World.size_alloc] at st0
  go_enter Try.func42, Try.ntmps42
  go_wp2_with fail
  refine (l03Is_yes p n k HP.out h1 h2 HD.out hk _).mono ?_
  rintro e w1 ⟨rfl, b1⟩
  have st1 := st0.keep b1
  have hz1 := b1.size
  try simp only [World.size_alloc] at hz1
  clear st0 b1
  obtain ⟨d0, d1⟩ := (st1.box 0 (w.heap.size + 1, [.int .i64 0, .slice none 0 0]) rfl).cell2
  have dz := (st1.box 0 (w.heap.size + 1, [.int .i64 0, .slice none 0 0]) rfl).2.2
  have BB := st1.1
  dsimp only at dz
  go_wp2_with (go_at_call 114; refine (l01In_no _ _ _ _ HX.out).mono ?_; rintro e w' ⟨rfl, rfl⟩)
  refine bodyPost_ret (v := failV 2) (by simp [results, Try.results42, go_sem, failV, d0, d1]) rfl ?_
  exact ⟨rfl, by go_grown⟩

set_option maxRecDepth 100000 in
set_option maxHeartbeats 1000000 in
theorem CharacterAt_spec_ok (p n k : Nat) (x : Int) (hp : primeN p = true) (h1 : 1 ≤ n) (h2 : n ≤ 16) (hd : (p - 1) % n = 0) (hk : k < n) (hx1 : -1000000 ≤ x) (hx2 : x ≤ 1000000) (w : World) :
    Calls Try.prog 42 #[.agg #[.int .i64 (p : Int), .int .i64 (n : Int), .int .i64 (k : Int)], .int .i64 x] w fun e w' => ∃ a cap, e = .returned (.tuple #[.agg #[.int .i64 (n : Int), .slice a (phiN n) cap], .int .i64 0]) ∧ Sl true w' w.heap.size w'.heap.size (.slice a (phiN n) cap) (phiN n) (atP p n k x) ∧ Below w.heap.size w w' := by
  have HP := Lib.hid hp
  have HD := Lib.hid hd
  clear hp hd
  have st0 := (((St.start w).alloc (.cells #[.int .i64 (p : Int), .int .i64 (n : Int), .int .i64 (k : Int)] 25)).addBox w.heap.size [.int .i64 (p : Int), .int .i64 (n : Int), .int .i64 (k : Int)] (Box.made _ _ _ _ (fun j v h => by simpa using h)))
  replace st0 := (st0.alloc (.cells #[.int .i64 0, .slice none 0 0] 40)).addBox _ [.int .i64 0, .slice none 0 0] (Box.made _ _ _ _ (fun j v h => by simpa using h))
  simp only [World.size_alloc] at st0
  go_enter Try.func42, Try.ntmps42
  go_wp2_with fail
  refine (l03Is_yes p n k HP.out h1 h2 HD.out hk _).mono ?_
  rintro e w1 ⟨rfl, b1⟩
  have st1 := st0.keep b1
  have hz1 := b1.size
  try simp only [World.size_alloc] at hz1
  clear st0 b1
  obtain ⟨e0, e1, e2⟩ := (st1.box 1 (w.heap.size, [.int .i64 (p : Int), .int .i64 (n : Int), .int .i64 (k : Int)]) rfl).cell3
  go_wp2_with (go_at_call 114; refine (l01In_yes _ _ _ _ (by omega) (by omega)).mono ?_; rintro e w' ⟨rfl, rfl⟩)
  refine (l03At_any p n k x HP.out h1 h2 (by omega) (by omega) (by omega) _).mono ?_
  rintro e w2 ⟨a2, k2, rfl, s2, b2⟩
  have S2 := Lib.hid s2
  clear s2 e0 e1 e2
  have st2 := st1.keep b2
  have hz2 := b2.size
  try simp only [World.size_alloc] at hz2
  clear st1 b2
  obtain ⟨d0, d1⟩ := (st2.box 0 (w.heap.size + 1, [.int .i64 0, .slice none 0 0]) rfl).cell2
  have dz := (st2.box 0 (w.heap.size + 1, [.int .i64 0, .slice none 0 0]) rfl).2.2
  have BB := st2.1
  dsimp only at dz
  go_wp2
  refine bodyPost_ret (v := .tuple #[.agg #[.int .i64 (n : Int), .slice a2 (phiN n) k2], .int .i64 0]) (by simp [results, Try.results42, go_sem, d0, d1]) rfl ?_
  refine ⟨_, _, rfl, ?_, by go_grown⟩
  exact ((S2.out.setOther (.inl (by show w.heap.size + 1 < _; omega)) _).setOther (.inl (by show w.heap.size + 1 < _; omega)) _).wide (by omega) (by simp) (Nat.le_refl _)

set_option maxRecDepth 100000 in
set_option maxHeartbeats 1000000 in
theorem CharacterAt_impl_ok (p n k : Nat) (x : Int) (hp : primeN p = true) (h1 : 1 ≤ n) (h2 : n ≤ 16) (hd : (p - 1) % n = 0) (hk : k < n) (hx1 : -1000000 ≤ x) (hx2 : x ≤ 1000000) (w : World) :
    Calls Try.prog 33 #[.agg #[.int .i64 (p : Int), .int .i64 (n : Int), .int .i64 (k : Int)], .int .i64 x] w fun e w' => ∃ a cap, e = .returned (.tuple #[.agg #[.int .i64 (n : Int), .slice a (phiN n) cap], .int .i64 0]) ∧ Sl true w' w.heap.size w'.heap.size (.slice a (phiN n) cap) (phiN n) (atP p n k x) ∧ Below w.heap.size w w' := by
  have hb := primeN_bd hp
  have HP := Lib.hid hp
  have HD := Lib.hid hd
  clear hp hd
  have st0 := (((St.start w).alloc (.cells #[.int .i64 (p : Int), .int .i64 (n : Int), .int .i64 (k : Int)] 25)).addBox w.heap.size [.int .i64 (p : Int), .int .i64 (n : Int), .int .i64 (k : Int)] (Box.made _ _ _ _ (fun j v h => by simpa using h)))
  replace st0 := (st0.alloc (.cells #[.int .i64 0, .slice none 0 0] 40)).addBox _ [.int .i64 0, .slice none 0 0] (Box.made _ _ _ _ (fun j v h => by simpa using h))
  simp only [World.size_alloc] at st0
  go_enter Try.func33, Try.ntmps33
  go_wp2_with fail
  refine (IsCharacter_yes p n k HP.out h1 h2 HD.out hk _).mono ?_
  rintro e w1 ⟨rfl, b1⟩
  have st1 := st0.keep b1
  have hz1 := b1.size
  try simp only [World.size_alloc] at hz1
  clear st0 b1
  obtain ⟨e0, e1, e2⟩ := (st1.box 1 (w.heap.size, [.int .i64 (p : Int), .int .i64 (n : Int), .int .i64 (k : Int)]) rfl).cell3
  go_wp2_with (go_at_call 99; refine (isWithin_yes _ _ _ (by omega) (by omega) (by omega) (by omega)).mono ?_; rintro e w' ⟨rfl, rfl⟩)
  refine (valuesOf_any p n k HP.out h1 h2 (by omega) _).mono ?_
  rintro e w2 ⟨rfl, b2, hv2, bx, by_, sl⟩
  clear e0 e1 e2
  have st2 := st1.keep b2
  have hz2 := b2.size
  try simp only [World.size_alloc] at hz2
  clear st1 b2
  go_wp2_with fail
  refine (value_any p n k x _ _ _ (by omega) hb.2 (by omega) (by omega) bx by_ sl).mono ?_
  rintro e w3 ⟨rfl, b3⟩
  clear bx by_ sl
  have st3 := st2.keep b3
  have hz3 := b3.size
  try simp only [World.size_alloc] at hz3
  clear st2 b3
  obtain ⟨e0, e1, e2⟩ := (st3.box 1 (w.heap.size, [.int .i64 (p : Int), .int .i64 (n : Int), .int .i64 (k : Int)]) rfl).cell3
  by_cases hr : restN p x = 0
  · have HA := Lib.hid (fun j => atP_zero (p := p) (n := n) (k := k) hr j)
    have hne : (((restN p x : Nat) : Int) != 0) = false := by rw [hr]; rfl
    clear hr
    go_wp2_with fail
    refine (CycloOf_impl_ok n w3 (Sl.nil (o := true) w3 w3.heap.size w3.heap.size (Nat.le_refl _) (fun _ => 0)) ⟨by omega, by omega, by omega, fun j hj => absurd hj (Nat.not_lt_zero _)⟩ (fun j hj => by rw [redP_pad0 (by omega) h1 _ hj]; omega)).mono ?_
    rintro e w4 ⟨a4, k4, rfl, s4, b4⟩
    have S4 := Lib.hid (s4.congr (f' := atP p n k x) (fun j hj => by rw [HA.out j, redP_pad0 (by omega) h1 _ hj]))
    clear s4 e0 e1 e2
    have st4 := st3.keep b4
    have hz4 := b4.size
    try simp only [World.size_alloc] at hz4
    clear st3 b4
    obtain ⟨d0, d1⟩ := (st4.box 0 (w.heap.size + 1, [.int .i64 0, .slice none 0 0]) rfl).cell2
    have dz := (st4.box 0 (w.heap.size + 1, [.int .i64 0, .slice none 0 0]) rfl).2.2
    have BB := st4.1
    dsimp only at dz
    go_wp2
    refine bodyPost_ret (v := .tuple #[.agg #[.int .i64 (n : Int), .slice a4 (phiN n) k4], .int .i64 0]) (by simp [results, Try.results33, go_sem, d0, d1]) rfl ?_
    refine ⟨_, _, rfl, ?_, by go_grown⟩
    exact ((S4.out.setOther (.inl (by show w.heap.size + 1 < _; omega)) _).setOther (.inl (by show w.heap.size + 1 < _; omega)) _).wide (by omega) (by simp) (Nat.le_refl _)
  · have HA := Lib.hid (fun j => atP_some (p := p) (n := n) (k := k) hr j)
    have hne : (((restN p x : Nat) : Int) != 0) = true := by rw [bne_iff_ne]; omega
    have HX := Lib.hid (exV_exp (p := p) (n := n) (k := k) hr)
    have hlt := expN_lt (p := p) (k := k) (x := restN p x) h1
    clear hr
    generalize expN p n k (restN p x) = q at *
    generalize exV p n k (restN p x) = qv at *
    obtain rfl : qv = (q : Int) := HX.out
    go_wp2_with fail
    refine (PowerOfZ_impl_ok n (q : Int) w3 h1 h2 (by omega) (by omega)).mono ?_
    rintro e w4 ⟨a4, k4, rfl, s4, b4⟩
    rw [powIx_nat hlt] at s4
    have S4 := Lib.hid (s4.congr (f' := atP p n k x) (fun j hj => by rw [HA.out j, unit_tb (by omega) h1 hlt hj]))
    clear s4 e0 e1 e2
    have st4 := st3.keep b4
    have hz4 := b4.size
    try simp only [World.size_alloc] at hz4
    clear st3 b4
    obtain ⟨d0, d1⟩ := (st4.box 0 (w.heap.size + 1, [.int .i64 0, .slice none 0 0]) rfl).cell2
    have dz := (st4.box 0 (w.heap.size + 1, [.int .i64 0, .slice none 0 0]) rfl).2.2
    have BB := st4.1
    dsimp only at dz
    go_wp2
    refine bodyPost_ret (v := .tuple #[.agg #[.int .i64 (n : Int), .slice a4 (phiN n) k4], .int .i64 0]) (by simp [results, Try.results33, go_sem, d0, d1]) rfl ?_
    refine ⟨_, _, rfl, ?_, by go_grown⟩
    exact ((S4.out.setOther (.inl (by show w.heap.size + 1 < _; omega)) _).setOther (.inl (by show w.heap.size + 1 < _; omega)) _).wide (by omega) (by simp) (Nat.le_refl _)
end Go.Proofs.Ytkcofcppmlndiaa
