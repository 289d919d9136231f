/- Sums of values of characters: sumOfValues, SumOfCharacter of both. -/
import Derived.Test.YtkcofcppmlndiaaWSum
import Derived.Deep.RegionLaw
namespace Go.Proofs.Ytkcofcppmlndiaa
open Go.RowKit Go.ChangeShapes Go.Sort
set_option linter.unusedVariables false
set_option linter.unusedSimpArgs false

set_option maxRecDepth 100000 in
set_option maxHeartbeats 1000000 in
theorem sumOfValues_any (p n k : Nat) (hp : primeN p = true) (h1 : 1 ≤ n) (h2 : n ≤ 16) (hk : k ≤ 16) (w : World) :
    Calls Try.prog 126 #[.agg #[.int .i64 (p : Int), .int .i64 (n : Int), .int .i64 (k : Int)]] w fun e w' => ∃ a cap, e = .returned (.tuple #[.agg #[.int .i64 (n : Int), .slice a (phiN n) cap], .int .i64 0]) ∧ Sl true w' w.heap.size w'.heap.size (.slice a (phiN n) cap) (phiN n) (sumZ p n k (fun _ => 1) p) ∧ Below w.heap.size w w' := by
  have HP := Lib.hid hp; clear hp
  have st0 := (((St.start w).alloc (.cells #[.int .i64 (p : Int), .int .i64 (n : Int), .int .i64 (k : Int)] 25)).addBox w.heap.size [.int .i64 (p : Int), .int .i64 (n : Int), .int .i64 (k : Int)] (Box.made _ _ _ _ (fun j v h => by simpa using h)))
  replace st0 := (st0.alloc (.cells #[.int .i64 0, .slice none 0 0] 40)).addBox _ [.int .i64 0, .slice none 0 0] (Box.made _ _ _ _ (fun j v h => by simpa using h))
  simp only [World.size_alloc] at st0
  go_enter Try.func126, Try.ntmps126
  go_wp2_with fail
  refine (weightedSum_one p n k HP.out h1 h2 hk _).mono ?_
  rintro e w1 ⟨a1, k1, rfl, s1, b1⟩
  simp only [World.size_alloc] at s1
  have S1 := Lib.hid s1
  clear s1
  have st1 := st0.keep b1
  have hz1 := b1.size
  try simp only [World.size_alloc] at hz1
  clear st0 b1
  obtain ⟨d0, d1⟩ := (st1.box 0 (w.heap.size + 1, [.int .i64 0, .slice none 0 0]) rfl).cell2
  have dz := (st1.box 0 (w.heap.size + 1, [.int .i64 0, .slice none 0 0]) rfl).2.2
  have BB := st1.1
  dsimp only at dz
  go_wp2
  refine bodyPost_ret (v := .tuple #[.agg #[.int .i64 (n : Int), .slice a1 (phiN n) k1], .int .i64 0]) (by simp [results, Try.results126, go_sem, d0, d1]) rfl ?_
  refine ⟨_, _, rfl, ?_, by go_grown⟩
  exact ((S1.out.setOther (.inl (by show w.heap.size + 1 < _; omega)) _).setOther (.inl (by show w.heap.size + 1 < _; omega)) _).wide (by omega) (by simp) (Nat.le_refl _)

theorem SumOfCharacter_impl_bad (p n k : Int) (h : ¬ ChP p n k) (w : World) :
    Calls Try.prog 62 #[.agg #[.int .i64 p, .int .i64 n, .int .i64 k]] w fun e w' => e = .returned (failV 1) ∧ Below w.heap.size w w' := by
  have H := Lib.hid h; clear h
  have st0 := (((St.start w).alloc (.cells #[.int .i64 p, .int .i64 n, .int .i64 k] 25)).addBox w.heap.size [.int .i64 p, .int .i64 n, .int .i64 k] (Box.made _ _ _ _ (fun j v h => by simpa using h)))
  replace st0 := (st0.alloc (.cells #[.int .i64 0, .slice none 0 0] 40)).addBox _ [.int .i64 0, .slice none 0 0] (Box.made _ _ _ _ (fun j v h => by simpa using h))
  simp only [World.size_alloc] at st0
  go_enter Try.func62, Try.ntmps62
  go_wp2_with fail
  refine (IsCharacter_no p n k H.out _).mono ?_
  rintro e w1 ⟨rfl, b1⟩
  have st1 := st0.keep b1
  have hz1 := b1.size
  try simp only [World.size_alloc] at hz1
  clear st0 b1
  obtain ⟨d0, d1⟩ := (st1.box 0 (w.heap.size + 1, [.int .i64 0, .slice none 0 0]) rfl).cell2
  have dz := (st1.box 0 (w.heap.size + 1, [.int .i64 0, .slice none 0 0]) rfl).2.2
  have BB := st1.1
  dsimp only at dz
  go_wp2
  refine bodyPost_ret (v := failV 1) (by simp [results, Try.results62, go_sem, failV, d0, d1]) rfl ?_
  exact ⟨rfl, by go_grown⟩

theorem SumOfCharacter_spec_bad (p n k : Int) (h : ¬ ChP p n k) (w : World) :
    Calls Try.prog 67 #[.agg #[.int .i64 p, .int .i64 n, .int .i64 k]] w fun e w' => e = .returned (failV 1) ∧ Below w.heap.size w w' := by
  have H := Lib.hid h; clear h
  have st0 := (((St.start w).alloc (.cells #[.int .i64 p, .int .i64 n, .int .i64 k] 25)).addBox w.heap.size [.int .i64 p, .int .i64 n, .int .i64 k] (Box.made _ _ _ _ (fun j v h => by simpa using h)))
  replace st0 := (st0.alloc (.cells #[.int .i64 0, .slice none 0 0] 40)).addBox _ [.int .i64 0, .slice none 0 0] (Box.made _ _ _ _ (fun j v h => by simpa using h))
  simp only [World.size_alloc] at st0
  go_enter Try.func67, Try.ntmps67
  go_wp2_with fail
  refine (l03Is_no p n k H.out _).mono ?_
  rintro e w1 ⟨rfl, b1⟩
  have st1 := st0.keep b1
  have hz1 := b1.size
  try simp only [World.size_alloc] at hz1
  clear st0 b1
  obtain ⟨d0, d1⟩ := (st1.box 0 (w.heap.size + 1, [.int .i64 0, .slice none 0 0]) rfl).cell2
  have dz := (st1.box 0 (w.heap.size + 1, [.int .i64 0, .slice none 0 0]) rfl).2.2
  have BB := st1.1
  dsimp only at dz
  go_wp2
  refine bodyPost_ret (v := failV 1) (by simp [results, Try.results67, go_sem, failV, d0, d1]) rfl ?_
  exact ⟨rfl, by go_grown⟩

set_option maxRecDepth 100000 in
set_option maxHeartbeats 1000000 in
theorem SumOfCharacter_impl_ok (p n k : Nat) (hp : primeN p = true) (h1 : 1 ≤ n) (h2 : n ≤ 16) (hd : (p - 1) % n = 0) (hk : k < n) (w : World) :
    Calls Try.prog 62 #[.agg #[.int .i64 (p : Int), .int .i64 (n : Int), .int .i64 (k : Int)]] w fun e w' => ∃ a cap, e = .returned (.tuple #[.agg #[.int .i64 (n : Int), .slice a (phiN n) cap], .int .i64 0]) ∧ Sl true w' w.heap.size w'.heap.size (.slice a (phiN n) cap) (phiN n) (sumZ p n k (fun _ => 1) p) ∧ Below w.heap.size w w' := by
  have HP := Lib.hid hp
  have HD := Lib.hid hd
  clear hp hd
  have st0 := (((St.start w).alloc (.cells #[.int .i64 (p : Int), .int .i64 (n : Int), .int .i64 (k : Int)] 25)).addBox w.heap.size [.int .i64 (p : Int), .int .i64 (n : Int), .int .i64 (k : Int)] (Box.made _ _ _ _ (fun j v h => by simpa using h)))
  replace st0 := (st0.alloc (.cells #[.int .i64 0, .slice none 0 0] 40)).addBox _ [.int .i64 0, .slice none 0 0] (Box.made _ _ _ _ (fun j v h => by simpa using h))
  simp only [World.size_alloc] at st0
  go_enter Try.func62, Try.ntmps62
  go_wp2_with fail
  refine (IsCharacter_yes p n k HP.out h1 h2 HD.out hk _).mono ?_
  rintro e w1 ⟨rfl, b1⟩
  have st1 := st0.keep b1
  have hz1 := b1.size
  try simp only [World.size_alloc] at hz1
  clear st0 b1
  obtain ⟨e0, e1, e2⟩ := (st1.box 1 (w.heap.size, [.int .i64 (p : Int), .int .i64 (n : Int), .int .i64 (k : Int)]) rfl).cell3
  go_wp2_with fail
  refine (sumOfValues_any p n k HP.out h1 h2 (by omega) _).mono ?_
  rintro e w2 ⟨a2, k2, rfl, s2, b2⟩
  have S2 := Lib.hid s2
  clear s2 e0 e1 e2
  have st2 := st1.keep b2
  have hz2 := b2.size
  try simp only [World.size_alloc] at hz2
  clear st1 b2
  obtain ⟨d0, d1⟩ := (st2.box 0 (w.heap.size + 1, [.int .i64 0, .slice none 0 0]) rfl).cell2
  have dz := (st2.box 0 (w.heap.size + 1, [.int .i64 0, .slice none 0 0]) rfl).2.2
  have BB := st2.1
  dsimp only at dz
  go_wp2
  refine bodyPost_ret (v := .tuple #[.agg #[.int .i64 (n : Int), .slice a2 (phiN n) k2], .int .i64 0]) (by simp [results, Try.results62, go_sem, d0, d1]) rfl ?_
  refine ⟨_, _, rfl, ?_, by go_grown⟩
  exact ((S2.out.setOther (.inl (by show w.heap.size + 1 < _; omega)) _).setOther (.inl (by show w.heap.size + 1 < _; omega)) _).wide (by omega) (by simp) (Nat.le_refl _)

theorem sum_step {p n k x : Nat} {W : Nat → Int} (h0 : 1 ≤ x) (hx : x < p) (j : Nat) : addF (W x) (sumZ p n k W x) (atP p n k (x : Int)) j = sumZ p n k W (x + 1) j := by
  unfold addF
  rw [sumZ_succ h0, atP_some (by rw [restN_nat hx]; omega), restN_nat hx]
theorem sumZ_ok {p n k x : Nat} {W : Nat → Int} (hn : n < 17) (h1 : 1 ≤ n) (hx : x ≤ 61) (hW : ∀ y, y < x → -1000000 ≤ W y ∧ W y ≤ 1000000) : Within (sumZ p n k W x) (phiN n) 1000000000 := fun j hj => by
  have := sum_within (p := p) (k := k) (B := 1000000) hn h1 (by omega) (by omega) hx hW hj
  omega
set_option maxRecDepth 100000 in
set_option maxHeartbeats 4000000 in
theorem l03Sum_any (p n k : Nat) (hp : primeN p = true) (h1 : 1 ≤ n) (h2 : n ≤ 16) (hk : k ≤ 16) (w : World) :
    Calls Try.prog 137 #[.agg #[.int .i64 (p : Int), .int .i64 (n : Int), .int .i64 (k : Int)]] w fun e w' => ∃ a cap, e = .returned (.agg #[.int .i64 (n : Int), .slice a (phiN n) cap]) ∧ Sl true w' w.heap.size w'.heap.size (.slice a (phiN n) cap) (phiN n) (sumZ p n k (fun _ => 1) p) ∧ Below w.heap.size w w' := by
  have hb := primeN_bd hp
  have hphi := phi_le12 n (by omega) h1
  have HP := Lib.hid hp; clear hp
  have st0 := (((St.start w).alloc (.cells #[.int .i64 (p : Int), .int .i64 (n : Int), .int .i64 (k : Int)] 25)).addBox w.heap.size [.int .i64 (p : Int), .int .i64 (n : Int), .int .i64 (k : Int)] (Box.made _ _ _ _ (fun j v h => by simpa using h)))
  replace st0 := (st0.alloc (.cells #[.int .i64 0, .slice none 0 0] 40)).addBox _ [.int .i64 0, .slice none 0 0] (Box.made _ _ _ _ (fun j v h => by simpa using h))
  simp only [World.size_alloc] at st0
  obtain ⟨e0, e1, e2⟩ := (st0.box 1 (w.heap.size, [.int .i64 (p : Int), .int .i64 (n : Int), .int .i64 (k : Int)]) rfl).cell3
  go_enter Try.func137, Try.ntmps137
  go_wp2_with fail
  refine (l01Zero_any n (by omega) _).mono ?_
  rintro e w1 ⟨a1, k1, rfl, s1, b1⟩
  simp only [World.size_alloc] at s1
  clear e0 e1 e2
  have st1 := st0.keep b1
  have hz1 := b1.size
  try simp only [World.size_alloc] at hz1
  clear st0 b1
  have S1 := Lib.hid s1
  have HT := Lib.hid (st1.boxNew (.int .i64 (n : Int)) (.slice a1 (phiN n) k1) 40)
  clear st1 s1
  go_wp2
  go_loopw [4] (fun s4 wr => ∃ (x : Nat) (a : Option Addr) (cap lo hi : Nat), 1 ≤ x ∧ x ≤ p ∧ s4 = .int .i64 (x : Int) ∧ w1.heap.size < wr.heap.size ∧ w.heap.size + 1 + 1 ≤ lo ∧ (w1.heap.size < lo ∨ hi ≤ w1.heap.size) ∧ Sl true wr lo hi (.slice a (phiN n) cap) (phiN n) (sumZ p n k (fun _ => 1) x) ∧
      St w wr [(w1.heap.size, [.int .i64 (n : Int), .slice a (phiN n) cap]), (w.heap.size + 1, [.int .i64 0, .slice none 0 0]), (w.heap.size, [.int .i64 (p : Int), .int .i64 (n : Int), .int .i64 (k : Int)])] []) (fun s4 _ => p + 1 - (intOf s4).toNat)
  case atStart => exact ⟨1, a1, k1, w.heap.size + 1 + 1, w1.heap.size, by omega, by omega, rfl, by simp, by omega, .inr (Nat.le_refl _), (S1.out.alloc _).congr (fun j hj => by rw [sumZ_one]), HT.out⟩
  case round =>
    clear S1 HT
    obtain ⟨x, a, cap, lo, hi, hx1, hx, rfl, hzr, hlo, hdis, hsl, hst⟩ := hrel
    obtain ⟨o0, o1⟩ := (hst.box 0 (w1.heap.size, [.int .i64 (n : Int), .slice a (phiN n) cap]) rfl).cell2
    obtain ⟨c0, c1, c2⟩ := (hst.box 2 (w.heap.size, [.int .i64 (p : Int), .int .i64 (n : Int), .int .i64 (k : Int)]) rfl).cell3
    by_cases hlt : x < p
    · have HSL := Lib.hid hsl
      have HST := Lib.hid hst
      have HSS := Lib.hid (fun j => sum_step (p := p) (n := n) (k := k) (W := (fun _ => 1)) hx1 hlt j)
      have HWI := Lib.hid (sumZ_ok (p := p) (n := n) (k := k) (x := x) (W := (fun _ => 1)) (by omega) h1 (by omega) (fun y _ => by omega))
      clear hsl hst
      go_wp2_with fail
      go_region_law (first
        | (go_simp; go_at_call 120; refine (l03At_any p n k (x : Int) HP.out h1 h2 hk (by omega) (by omega) _).mono ?_; rintro e w6 ⟨a6, k6, rfl, s6, b6⟩
           have hz6 := b6.size
           simp only [World.size_drew] at hz6 s6
           have st6 := HST.out.drew.keep b6
           have sl6 := HSL.out.drew.keep b6 HSL.out.drew.size
           obtain ⟨y0, y1⟩ := (st6.box 0 (w1.heap.size, [.int .i64 (n : Int), .slice a (phiN n) cap]) rfl).cell2
           obtain ⟨z0, z1, z2⟩ := (st6.box 2 (w.heap.size, [.int .i64 (p : Int), .int .i64 (n : Int), .int .i64 (k : Int)]) rfl).cell3)
        | (go_simp; go_at_call 130; refine (l01Plus_any (n : Int) 1 _ sl6 s6 (by omega) (by omega) HWI.out (atP_within (by omega) h1) (by omega)).mono ?_; rintro e w7 ⟨a7, k7, rfl, s7, b7⟩
           have hz7 := b7.size
           have st7 := st6.keep b7
           obtain ⟨r0, r1⟩ := (st7.box 0 (w1.heap.size, [.int .i64 (n : Int), .slice a (phiN n) cap]) rfl).cell2
           have rz := (st7.box 0 (w1.heap.size, [.int .i64 (n : Int), .slice a (phiN n) cap]) rfl).2.2
           dsimp only at rz))
      all_goals
        have S7 := Lib.hid s7
        have T7 := Lib.hid (st7.boxSet (u0 := .int .i64 (n : Int)) (u1 := .slice a7 (phiN n) k7) (by omega) (by intro b hb; simp only [List.mem_cons, List.not_mem_nil, or_false] at hb; rcases hb with rfl | rfl <;> dsimp only <;> omega) (by intro s hs'; cases hs'))
        clear st6 st7 sl6 s6 s7 b6 b7
        go_wp2
        go_roundw
        case rel => exact ⟨x + 1, a7, k7, w6.heap.size, w7.heap.size, by omega, by omega, by go_num, by simp; omega, by omega, .inl (by omega), ((S7.out.setOther (.inl (by show w1.heap.size < _; omega)) _).setOther (.inl (by show w1.heap.size < _; omega)) _).congr (fun j hj => (HSS.out j).symm), T7.out⟩
        case measure => simp [intOf] <;> omega
    · obtain rfl : p = x := by omega
      obtain ⟨d0, d1⟩ := (hst.box 1 (w.heap.size + 1, [.int .i64 0, .slice none 0 0]) rfl).cell2
      have dz := (hst.box 1 (w.heap.size + 1, [.int .i64 0, .slice none 0 0]) rfl).2.2
      have BB := hst.1
      have HSL := Lib.hid hsl
      dsimp only at dz
      clear hst hsl
      go_wp2
      refine bodyPost_ret (v := .agg #[.int .i64 (n : Int), .slice a (phiN n) cap]) (by simp [results, Try.results137, go_sem, d0, d1]) rfl ?_
      refine ⟨_, _, rfl, ?_, by go_grown⟩
      have := HSL.out.size
      exact ((HSL.out.setOther (.inl (by show w.heap.size + 1 < _; omega)) _).setOther (.inl (by show w.heap.size + 1 < _; omega)) _).wide (by omega) (by simp; omega) (Nat.le_refl _)

set_option maxRecDepth 100000 in
set_option maxHeartbeats 1000000 in
theorem SumOfCharacter_spec_ok (p n k : Nat) (hp : primeN p = true) (h1 : 1 ≤ n) (h2 : n ≤ 16) (hd : (p - 1) % n = 0) (hk : k < n) (w : World) :
    Calls Try.prog 67 #[.agg #[.int .i64 (p : Int), .int .i64 (n : Int), .int .i64 (k : Int)]] w fun e w' => ∃ a cap, e = .returned (.tuple #[.agg #[.int .i64 (n : Int), .slice a (phiN n) cap], .int .i64 0]) ∧ Sl true w' w.heap.size w'.heap.size (.slice a (phiN n) cap) (phiN n) (sumZ p n k (fun _ => 1) p) ∧ Below w.heap.size w w' := by
  have HP := Lib.hid hp
  have HD := Lib.hid hd
  clear hp hd
  have st0 := (((St.start w).alloc (.cells #[.int .i64 (p : Int), .int .i64 (n : Int), .int .i64 (k : Int)] 25)).addBox w.heap.size [.int .i64 (p : Int), .int .i64 (n : Int), .int .i64 (k : Int)] (Box.made _ _ _ _ (fun j v h => by simpa using h)))
  replace st0 := (st0.alloc (.cells #[.int .i64 0, .slice none 0 0] 40)).addBox _ [.int .i64 0, .slice none 0 0] (Box.made _ _ _ _ (fun j v h => by simpa using h))
  simp only [World.size_alloc] at st0
  go_enter Try.func67, Try.ntmps67
  go_wp2_with fail
  refine (l03Is_yes p n k HP.out h1 h2 HD.out hk _).mono ?_
  rintro e w1 ⟨rfl, b1⟩
  have st1 := st0.keep b1
  have hz1 := b1.size
  try simp only [World.size_alloc] at hz1
  clear st0 b1
  obtain ⟨e0, e1, e2⟩ := (st1.box 1 (w.heap.size, [.int .i64 (p : Int), .int .i64 (n : Int), .int .i64 (k : Int)]) rfl).cell3
  go_wp2_with fail
  refine (l03Sum_any p n k HP.out h1 h2 (by omega) _).mono ?_
  rintro e w2 ⟨a2, k2, rfl, s2, b2⟩
  have S2 := Lib.hid s2
  clear s2 e0 e1 e2
  have st2 := st1.keep b2
  have hz2 := b2.size
  try simp only [World.size_alloc] at hz2
  clear st1 b2
  obtain ⟨d0, d1⟩ := (st2.box 0 (w.heap.size + 1, [.int .i64 0, .slice none 0 0]) rfl).cell2
  have dz := (st2.box 0 (w.heap.size + 1, [.int .i64 0, .slice none 0 0]) rfl).2.2
  have BB := st2.1
  dsimp only at dz
  go_wp2
  refine bodyPost_ret (v := .tuple #[.agg #[.int .i64 (n : Int), .slice a2 (phiN n) k2], .int .i64 0]) (by simp [results, Try.results67, go_sem, d0, d1]) rfl ?_
  refine ⟨_, _, rfl, ?_, by go_grown⟩
  exact ((S2.out.setOther (.inl (by show w.heap.size + 1 < _; omega)) _).setOther (.inl (by show w.heap.size + 1 < _; omega)) _).wide (by omega) (by simp) (Nat.le_refl _)
end Go.Proofs.Ytkcofcppmlndiaa
