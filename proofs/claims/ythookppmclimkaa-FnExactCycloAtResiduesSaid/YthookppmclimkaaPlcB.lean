/- How primes split: SplittingOf, SplitsFully, haveRoots of the program; the model's. -/
import Derived.Test.YthookppmclimkaaPlcF
import Derived.Test.YthookppmclimkaaSpecRed
import Derived.Test.YthookppmclimkaaIs
import Derived.Test.YthookppmclimkaaPrm
import Derived.Test.YthookppmclimkaaState
namespace Go.Proofs.Ythookppmclimkaa
open Go.RowKit Go.ChangeShapes Go.Sort
set_option linter.unusedVariables false
set_option linter.unusedSimpArgs false
set_option maxRecDepth 100000

/-- e, f and g. -/
def spF (n l : Nat) (j : Nat) : Int := if j = 0 then (phiN (n / mN l n) : Nat) else if j = 1 then (perM l (mN l n) : Nat) else (phiN (mN l n) / perM l (mN l n) : Nat)
theorem phi_le (n : Nat) (h1 : 1 ≤ n) (h2 : n ≤ 16) : phiN n ≤ 12 := (phi_bd n (by omega) h1).2
theorem spF_inR (n l : Nat) (h1 : 1 ≤ n) (h2 : n ≤ 16) (hl : primeN l = true) (j : Nat) : 0 ≤ spF n l j ∧ spF n l j ≤ 16 := by
  obtain ⟨m1, m2, m3, m4, _⟩ := m_ok hl h1 h2
  have p := p_ok hl m1 (by omega) m4
  have hq : 1 ≤ n / mN l n ∧ n / mN l n ≤ 16 := ⟨Nat.div_pos m2 m1, Nat.le_trans (Nat.div_le_self _ _) h2⟩
  have h3 := phi_le _ hq.1 hq.2
  have h4 := phi_le _ m1 (by omega)
  have h5 := Nat.div_le_self (phiN (mN l n)) (perM l (mN l n))
  unfold spF
  generalize phiN (mN l n) / perM l (mN l n) = z at *
  split
  · omega
  · split <;> omega
theorem sp_made (w : World) (n l : Nat) (h1 : 1 ≤ n) (h2 : n ≤ 16) (hl : primeN l = true) (a b c : Int) (ha : a = (phiN (n / mN l n) : Nat)) (hb : b = (perM l (mN l n) : Nat)) (hc : c = (phiN (mN l n) / perM l (mN l n) : Nat)) (t : TypeId) (ht : t = 2) :
    Sl true (w.alloc (.cells #[.int .i64 a, .int .i64 b, .int .i64 c] t)) w.heap.size (w.heap.size + 1) (.slice (some ⟨w.heap.size, 0, none⟩) 3 3) 3 (spF n l) := by
  subst ht ha hb hc
  refine Sl.made w _ _ 3 3 _ (Nat.le_refl _) (by decide) (fun j _ => by have := spF_inR n l h1 h2 hl j; unfold inR; omega) (fun j hj => ?_)
  match j, hj with
  | 0, _ => rfl
  | 1, _ => rfl
  | 2, _ => rfl

theorem l07Period_any (l m : Nat) (hl : primeN l = true) (h1 : 1 ≤ m) (h2 : m ≤ 16) (h3 : ¬ m % l = 0) (w : World) :
    Calls Try.prog 48 #[.int .i64 (l : Int), .int .i64 (m : Int)] w fun r w' => r = .returned (.int .i64 (perM l m : Nat)) ∧ ∃ k, w' = w.drewN k := by
  have hb := primeN_bd hl
  obtain ⟨q1, q2, q3, q4, q5, q6⟩ := p_ok hl h1 h2 h3
  have HE := Lib.hid q3
  have HF := Lib.hid q4
  have HN := Lib.hid q5
  have HB := Lib.hid q6
  have hm0 : ¬ m = 0 := by omega
  have HL1 := Lib.hid (show (l : Int) % (m : Int) = ((pwM l m 1 : Nat) : Int) by rw [q4, Int.natCast_emod])
  have H11 := Lib.hid (show (1 : Int) % (m : Int) = ((1 % m : Nat) : Int) by rw [Int.natCast_emod]; rfl)
  clear q3 q4 q5 q6 hl h3
  go_enter Try.func48, Try.ntmps48
  go_wp2
  go_loopw [5, 6] (fun s5 s6 wr => ∃ k : Nat, 1 ≤ k ∧ k ≤ perM l m ∧ s5 = .int .i64 (pwM l m k : Nat) ∧ s6 = .int .i64 (k : Int) ∧ ∃ j, wr = w.drewN j) (fun _ s6 _ => perM l m + 1 - (intOf s6).toNat)
  case atStart => exact ⟨1, by omega, q1, by first | rfl | (rw [HL1.out]), rfl, 0, rfl⟩
  case round =>
    obtain ⟨k, hk1, hk2, rfl, rfl, j, rfl⟩ := hrel
    have hx := HB.out k hk2
    have hp0 : 0 ≤ ((pwM l m k : Nat) : Int) * (l : Int) := Int.mul_nonneg (by omega) (by omega)
    have hp1 : ((pwM l m k : Nat) : Int) * (l : Int) ≤ 16 * 61 := Int.mul_le_mul (by omega) (by omega) (by omega) (by omega)
    by_cases hlt : k < perM l m
    · have hne := HN.out k hk1 hlt
      have hne2 : (((pwM l m k : Nat) : Int) != (1 : Int) % (m : Int)) = true := by rw [bne_iff_ne, H11.out]; omega
      have HS := Lib.hid (show ((pwM l m k : Nat) : Int) * (l : Int) % (m : Int) = ((pwM l m (k + 1) : Nat) : Int) by rw [pwM_succ, Int.natCast_emod, Int.natCast_mul])
      clear hne
      go_wp2
      go_roundw
      case rel => exact ⟨k + 1, by omega, by omega, by rw [← HS.out], by go_num, _, rfl⟩
      case measure => simp [intOf] <;> omega
    · obtain rfl : k = perM l m := by omega
      have hne2 : (((pwM l m (perM l m) : Nat) : Int) != (1 : Int) % (m : Int)) = false := by rw [HE.out, H11.out]; simp
      go_wp2
      go_ret
      exact ⟨rfl, j, rfl⟩

set_option maxHeartbeats 1000000 in
theorem l07Split_any (n l : Nat) (h1 : 1 ≤ n) (h2 : n ≤ 16) (hl : primeN l = true) (w : World) :
    Calls Try.prog 28 #[.int .i64 (n : Int), .int .i64 (l : Int)] w fun r w' => ∃ a k, r = .returned (.slice a 3 k) ∧ Sl true w' w.heap.size w'.heap.size (.slice a 3 k) 3 (spF n l) ∧ Below w.heap.size w w' := by
  have HM := Lib.hid (m_ok hl h1 h2)
  have HL := Lib.hid hl
  have hb := primeN_bd hl
  clear hl
  go_enter Try.func28, Try.ntmps28
  go_wp2
  go_loopw [5] (fun s5 wr => ∃ x : Nat, 1 ≤ x ∧ x ≤ n ∧ s5 = .int .i64 (x : Int) ∧ mN l x = mN l n ∧ ∃ j, wr = w.drewN j) (fun s5 _ => (intOf s5).toNat)
  case atStart => exact ⟨n, h1, by omega, rfl, rfl, 0, rfl⟩
  case round =>
    obtain ⟨x, hx1, hx2, rfl, hxm, j, rfl⟩ := hrel
    have HXM := Lib.hid hxm
    have HX := Lib.hid (m_ok HL.out hx1 (by omega))
    clear hxm
    have hl0 : ¬ l = 0 := by omega
    by_cases hd : x % l = 0
    · have hd2 : (((x : Int) % (l : Int)) == 0) = true := by rw [← Int.natCast_emod, hd]; rfl
      obtain ⟨k1, k2, k3⟩ := HX.out.2.2.2.2.1 hd
      have HK := Lib.hid k3
      have HQ := Lib.hid (Int.natCast_ediv x l)
      have hqb : 0 ≤ (x : Int) / (l : Int) ∧ (x : Int) / (l : Int) < x := by rw [← Int.natCast_ediv]; omega
      clear hd k3 k1 k2
      go_wp2
      go_roundw
      case rel => exact ⟨x / l, (HX.out.2.2.2.2.1 (by rw [← Int.natCast_emod] at hd2; simp at hd2; omega)).1, by have := HQ.out; omega, by rw [HQ.out], HK.out.trans HXM.out, _, rfl⟩
      case measure => simp [intOf] <;> omega
    · have hd2 : (((x : Int) % (l : Int)) == 0) = false := beq_eq_false_iff_ne.2 (fun e => hd (by rw [← Int.natCast_emod] at e; omega))
      have hmx : mN l n = x := HXM.out.symm.trans (HX.out.2.2.2.2.2 hd)
      clear hd HXM
      have hmm := HM.out
      rw [hmx] at hmm
      obtain ⟨m1, m2, m3, m4, _⟩ := hmm
      obtain ⟨q1, q2, _⟩ := p_ok HL.out m1 (by omega) m4
      have hx0 : ¬ x = 0 := by omega
      have hp0 : ¬ perM l x = 0 := by omega
      have HND := Lib.hid (Int.natCast_ediv n x)
      have hndb : 0 ≤ (n : Int) / (x : Int) ∧ (n : Int) / (x : Int) ≤ 16 := ⟨Int.ediv_nonneg (by omega) (by omega), Int.le_trans (Int.ediv_le_self _ (by omega)) (by omega)⟩
      have HQ := Lib.hid (Int.natCast_ediv (phiN x) (perM l x))
      have hqb : 0 ≤ ((phiN x : Nat) : Int) / ((perM l x : Nat) : Int) ∧ ((phiN x : Nat) : Int) / ((perM l x : Nat) : Int) ≤ 16 := ⟨Int.ediv_nonneg (by omega) (by omega), Int.le_trans (Int.ediv_le_self _ (by omega)) (by have := phi_le x m1 (by omega); omega)⟩
      have hl1 := Nat.div_le_self n x
      have hl2 := phi_le x m1 (by omega)
      clear HX HM
      have MM := Lib.hid hmx
      have HM4 := Lib.hid m4
      clear hmx m3 m4 hl1
      go_wp2_with (first
        | (go_at_call 48; refine (l07Period_any l x HL.out (by omega) (by omega) HM4.out _).mono ?_; rintro r w1 ⟨rfl, k1, rfl⟩)
        | (go_at_call 47; refine (l01Phi_nat _ _ (by omega)).mono ?_; rintro r w1 ⟨rfl, rfl⟩))
      have s := sp_made (w.drewN (j + k1)) n l h1 h2 HL.out _ _ _ (show ((phiN (n / x) : Nat) : Int) = _ by rw [MM.out]) (show ((perM l x : Nat) : Int) = _ by rw [MM.out]) (show ((phiN x : Nat) : Int) / ((perM l x : Nat) : Int) = _ by rw [MM.out, HQ.out]) 2 rfl
      go_ret
      exact ⟨_, _, rfl, s.wide (Nat.le_refl _) (by simp) (Nat.le_refl _), (below_drewN (Below.refl _ _) _).alloc (Nat.le_refl _) _⟩
theorem totient_nat (n : Nat) (w : World) (hn : n ≤ 1000) :
    Calls Try.prog 31 #[.int .i64 (n : Int)] w fun e w' => e = .returned (.int .i64 (phiN n : Nat)) ∧ ∃ m, w' = w.drewN m := totient_any (n : Int) w (by omega)
theorem SpP.no {n l : Int} (h : ¬ SpP n l) : (n < 1 ∨ 16 < n) ∨ (1 ≤ n ∧ n ≤ 16 ∧ ¬ PrP l) := by
  by_cases h1 : 1 ≤ n ∧ n ≤ 16
  · exact .inr ⟨h1.1, h1.2, fun hp => h ⟨h1.1, h1.2, hp.1, hp.2⟩⟩
  · left; omega
theorem l07Code_yes (n l : Nat) (h1 : 1 ≤ n) (h2 : n ≤ 16) (hl : primeN l = true) (w : World) :
    Calls Try.prog 27 #[.int .i64 (n : Int), .int .i64 (l : Int)] w fun r w' => r = .returned (.int .i64 0) ∧ ∃ m, w' = w.drewN m := by
  have HL := Lib.hid hl
  clear hl
  go_enter Try.func27, Try.ntmps27
  go_wp2_with (first
    | (go_at_call 36; refine (l01In_yes _ _ _ _ (by omega) (by omega)).mono ?_; rintro r w1 ⟨rfl, rfl⟩)
    | (go_at_call 46; refine (l03Prime_yes l HL.out _).mono ?_; rintro r w1 ⟨rfl, m1, rfl⟩))
  go_ret
  exact ⟨rfl, m1, rfl⟩
theorem l07Code_no (n l : Int) (h : ¬ SpP n l) (w : World) :
    Calls Try.prog 27 #[.int .i64 n, .int .i64 l] w fun r w' => r = .returned (.int .i64 2) ∧ ∃ m, w' = w.drewN m := by
  rcases SpP.no h with hn | ⟨h1, h2, hp⟩
  · have HN := Lib.hid hn
    clear h hn
    go_enter Try.func27, Try.ntmps27
    go_wp2_with (go_at_call 36; refine (l01In_no _ _ _ _ HN.out).mono ?_; rintro r w1 ⟨rfl, rfl⟩)
    go_ret
    exact ⟨rfl, 0, rfl⟩
  · have HP := Lib.hid hp
    clear h hp
    go_enter Try.func27, Try.ntmps27
    go_wp2_with (first
      | (go_at_call 36; refine (l01In_yes _ _ _ _ (by omega) (by omega)).mono ?_; rintro r w1 ⟨rfl, rfl⟩)
      | (go_at_call 46; refine (l03Prime_no l HP.out _).mono ?_; rintro r w1 ⟨rfl, m1, rfl⟩))
    go_ret
    exact ⟨rfl, m1, rfl⟩

/-! SplittingOf -/
theorem SplittingOf_spec_ok (n l : Nat) (h1 : 1 ≤ n) (h2 : n ≤ 16) (hl : primeN l = true) (w : World) :
    Calls Try.prog 8 #[.int .i64 (n : Int), .int .i64 (l : Int)] w fun r w' => ∃ a k, r = .returned (.tuple #[.slice a 3 k, .int .i64 0]) ∧ Sl true w' w.heap.size w'.heap.size (.slice a 3 k) 3 (spF n l) ∧ Below w.heap.size w w' := by
  have HL := Lib.hid hl
  clear hl
  go_enter Try.func8, Try.ntmps8
  go_wp2_with (first
    | (go_at_call 27; refine (l07Code_yes n l h1 h2 HL.out _).mono ?_; rintro r w1 ⟨rfl, m1, rfl⟩)
    | (go_at_call 28; refine (l07Split_any n l h1 h2 HL.out _).mono ?_; rintro r w2 ⟨a2, k2, rfl, s2, b2⟩))
  go_ret2
  exact ⟨a2, k2, rfl, s2, (below_drewN (Below.refl _ _) _).trans b2⟩
theorem SplittingOf_spec_bad (n l : Int) (h : ¬ SpP n l) (w : World) :
    Calls Try.prog 8 #[.int .i64 n, .int .i64 l] w fun r w' => ∃ a k, r = .returned (.tuple #[.slice a 0 k, .int .i64 2]) ∧ Sl true w' w.heap.size w'.heap.size (.slice a 0 k) 0 (fun _ => 0) ∧ Below w.heap.size w w' := by
  have H := Lib.hid h
  clear h
  go_enter Try.func8, Try.ntmps8
  go_wp2_with (go_at_call 27; refine (l07Code_no n l H.out _).mono ?_; rintro r w1 ⟨rfl, m1, rfl⟩)
  go_ret2
  exact ⟨none, 0, rfl, Sl.nil _ _ _ (Nat.le_refl _) _, below_drewN (Below.refl _ _) _⟩
theorem SplittingOf_impl_bad (n l : Int) (h : ¬ SpP n l) (w : World) :
    Calls Try.prog 9 #[.int .i64 n, .int .i64 l] w fun r w' => ∃ a k, r = .returned (.tuple #[.slice a 0 k, .int .i64 2]) ∧ Sl true w' w.heap.size w'.heap.size (.slice a 0 k) 0 (fun _ => 0) ∧ Below w.heap.size w w' := by
  rcases SpP.no h with hn | ⟨h1, h2, hp⟩
  · have HN := Lib.hid hn
    clear h hn
    go_enter Try.func9, Try.ntmps9
    go_wp2_with (go_at_call 29; refine (isOrder_no _ _ HN.out).mono ?_; rintro r w1 ⟨rfl, rfl⟩)
    go_ret2
    exact ⟨none, 0, rfl, Sl.nil _ _ _ (Nat.le_refl _) _, Below.refl _ _⟩
  · have HP := Lib.hid hp
    clear h hp
    go_enter Try.func9, Try.ntmps9
    go_wp2_with (first
      | (go_at_call 29; refine (isOrder_yes _ _ h1 h2).mono ?_; rintro r w1 ⟨rfl, rfl⟩)
      | (go_at_call 30; refine (isOddPrime_no l HP.out _).mono ?_; rintro r w1 ⟨rfl, m1, rfl⟩))
    go_ret2
    exact ⟨none, 0, rfl, Sl.nil _ _ _ (Nat.le_refl _) _, below_drewN (Below.refl _ _) _⟩
set_option maxRecDepth 100000 in
set_option maxHeartbeats 2000000 in
theorem SplittingOf_impl_ok (n l : Nat) (h1 : 1 ≤ n) (h2 : n ≤ 16) (hl : primeN l = true) (w : World) :
    Calls Try.prog 9 #[.int .i64 (n : Int), .int .i64 (l : Int)] w fun r w' => ∃ a k, r = .returned (.tuple #[.slice a 3 k, .int .i64 0]) ∧ Sl true w' w.heap.size w'.heap.size (.slice a 3 k) 3 (spF n l) ∧ Below w.heap.size w w' := by
  have HM := Lib.hid (m_ok hl h1 h2)
  have HL := Lib.hid hl
  have hb := primeN_bd hl
  clear hl
  go_enter Try.func9, Try.ntmps9
  go_wp2_with (first
    | (go_at_call 29; refine (isOrder_yes _ _ (by omega) (by omega)).mono ?_; rintro r w1 ⟨rfl, rfl⟩)
    | (go_at_call 30; refine (isOddPrime_yes l HL.out _).mono ?_; rintro r w1 ⟨rfl, m1, rfl⟩))
  go_loopw [6] (fun s6 wr => ∃ x : Nat, 1 ≤ x ∧ x ≤ n ∧ s6 = .int .i64 (x : Int) ∧ mN l x = mN l n ∧ ∃ j, wr = w.drewN j) (fun s6 _ => (intOf s6).toNat)
  case atStart => exact ⟨n, h1, by omega, rfl, rfl, _, rfl⟩
  case round =>
    obtain ⟨x, hx1, hx2, rfl, hxm, j, rfl⟩ := hrel
    have HXM := Lib.hid hxm
    have HX := Lib.hid (m_ok HL.out hx1 (by omega))
    clear hxm
    have hl0 : ¬ l = 0 := by omega
    by_cases hd : x % l = 0
    · have hd2 : (((x : Int) % (l : Int)) == 0) = true := by rw [← Int.natCast_emod, hd]; rfl
      obtain ⟨k1, k2, k3⟩ := HX.out.2.2.2.2.1 hd
      have HK := Lib.hid k3
      have HQ := Lib.hid (Int.natCast_ediv x l)
      have hqb : 0 ≤ (x : Int) / (l : Int) ∧ (x : Int) / (l : Int) < x := by rw [← Int.natCast_ediv]; omega
      clear hd k3 k1 k2
      go_wp2
      go_roundw
      case rel => exact ⟨x / l, (HX.out.2.2.2.2.1 (by rw [← Int.natCast_emod] at hd2; simp at hd2; omega)).1, by have := HQ.out; omega, by rw [HQ.out], HK.out.trans HXM.out, _, rfl⟩
      case measure => simp [intOf] <;> omega
    · have hd2 : (((x : Int) % (l : Int)) == 0) = false := beq_eq_false_iff_ne.2 (fun e => hd (by rw [← Int.natCast_emod] at e; omega))
      have hmx : mN l n = x := HXM.out.symm.trans (HX.out.2.2.2.2.2 hd)
      clear hd HXM
      have hmm := HM.out
      rw [hmx] at hmm
      obtain ⟨m1, m2, m3, m4, _⟩ := hmm
      obtain ⟨q1, q2, q3, q4, q5, q6⟩ := p_ok HL.out m1 (by omega) m4
      have HE := Lib.hid q3
      have HF := Lib.hid q4
      have HN := Lib.hid q5
      have HB := Lib.hid q6
      have hx0 : ¬ x = 0 := by omega
      have HL1 := Lib.hid (show (l : Int) % (x : Int) = ((pwM l x 1 : Nat) : Int) by rw [q4, Int.natCast_emod])
      have H11 := Lib.hid (show (1 : Int) % (x : Int) = ((1 % x : Nat) : Int) by rw [Int.natCast_emod]; rfl)
      have hp0 : ¬ perM l x = 0 := by omega
      have HND := Lib.hid (Int.natCast_ediv n x)
      have hndb : 0 ≤ (n : Int) / (x : Int) ∧ (n : Int) / (x : Int) ≤ 16 := ⟨Int.ediv_nonneg (by omega) (by omega), Int.le_trans (Int.ediv_le_self _ (by omega)) (by omega)⟩
      have HQ := Lib.hid (Int.natCast_ediv (phiN x) (perM l x))
      have hqb : 0 ≤ ((phiN x : Nat) : Int) / ((perM l x : Nat) : Int) ∧ ((phiN x : Nat) : Int) / ((perM l x : Nat) : Int) ≤ 16 := ⟨Int.ediv_nonneg (by omega) (by omega), Int.le_trans (Int.ediv_le_self _ (by omega)) (by have := phi_le x m1 (by omega); omega)⟩
      have hl2 := phi_le x m1 (by omega)
      have MM := Lib.hid hmx
      clear HX HM hmx m3 m4 q3 q4 q5 q6
      go_wp2
      go_loopw [7, 8] (fun s7 s8 wr => ∃ k : Nat, 1 ≤ k ∧ k ≤ perM l x ∧ s7 = .int .i64 (k : Int) ∧ s8 = .int .i64 (pwM l x k : Nat) ∧ ∃ j, wr = w.drewN j) (fun s7 _ _ => perM l x + 1 - (intOf s7).toNat)
      case atStart => exact ⟨1, by omega, q1, rfl, by first | rfl | (rw [HL1.out]), _, rfl⟩
      case round =>
        obtain ⟨k, hk1, hk2, rfl, rfl, j, rfl⟩ := hrel
        have hx := HB.out k hk2
        have hpp0 : 0 ≤ ((pwM l x k : Nat) : Int) * (l : Int) := Int.mul_nonneg (by omega) (by omega)
        have hpp1 : ((pwM l x k : Nat) : Int) * (l : Int) ≤ 16 * 61 := Int.mul_le_mul (by omega) (by omega) (by omega) (by omega)
        by_cases hlt : k < perM l x
        · have hne := HN.out k hk1 hlt
          have hne2 : (((pwM l x k : Nat) : Int) != (1 : Int) % (x : Int)) = true := by rw [bne_iff_ne, H11.out]; omega
          have HS := Lib.hid (show ((pwM l x k : Nat) : Int) * (l : Int) % (x : Int) = ((pwM l x (k + 1) : Nat) : Int) by rw [pwM_succ, Int.natCast_emod, Int.natCast_mul])
          clear hne
          go_wp2
          go_roundw
          case rel => exact ⟨k + 1, by omega, by omega, by go_num, by rw [← HS.out], _, rfl⟩
          case measure => simp [intOf] <;> omega
        · obtain rfl : k = perM l x := by omega
          have hne2 : (((pwM l x (perM l x) : Nat) : Int) != (1 : Int) % (x : Int)) = false := by rw [HE.out, H11.out]; simp
          go_wp2_with (first
            | (go_at_call 31; refine (totient_nat _ _ (by omega)).mono ?_; rintro r w1 ⟨rfl, k1, rfl⟩))
          have s := sp_made (w.drewN (j + k1)) n l h1 h2 HL.out _ _ _ (show ((phiN (n / x) : Nat) : Int) = _ by rw [MM.out]) (show ((perM l x : Nat) : Int) = _ by rw [MM.out]) (show ((phiN x : Nat) : Int) / ((perM l x : Nat) : Int) = _ by rw [MM.out, HQ.out]) 2 rfl
          go_ret2
          exact ⟨_, _, rfl, s.wide (Nat.le_refl _) (by simp) (Nat.le_refl _), (below_drewN (Below.refl _ _) _).alloc (Nat.le_refl _) _⟩

/-! SplitsFully -/
theorem l07Fully_any (n l : Nat) (h1 : 1 ≤ n) (h2 : n ≤ 16) (hl : primeN l = true) (w : World) :
    Calls Try.prog 32 #[.int .i64 (n : Int), .int .i64 (l : Int)] w fun r w' => r = .returned (.bool (fullN l n)) ∧ w = w' := by
  have hb := primeN_bd hl
  have hn0 : ¬ n = 0 := by omega
  have hl0 : ¬ l = 0 := by omega
  unfold fullN
  by_cases h : n % l = 0
  · have hd : (((n : Int) % (l : Int)) != 0) = false := by rw [← Int.natCast_emod, h]; rfl
    rw [show decide (n % l ≠ 0) = false from decide_eq_false (fun e => e h), Bool.false_and]
    clear h
    go_enter Try.func32, Try.ntmps32
    go_wp2
    go_ret
    exact ⟨by first | rfl | simp, rfl⟩
  · have hd : (((n : Int) % (l : Int)) != 0) = true := by rw [bne_iff_ne, ← Int.natCast_emod]; omega
    rw [show decide (n % l ≠ 0) = true from decide_eq_true h, Bool.true_and]
    have HE := Lib.hid (show ((((l : Int) - 1) % (n : Int)) == 0) = decide ((l - 1) % n = 0) by
      rw [show ((l : Int) - 1) = ((l - 1 : Nat) : Int) by omega, ← Int.natCast_emod]
      by_cases e : (l - 1) % n = 0
      · rw [e]; rfl
      · rw [decide_eq_false e]; exact beq_eq_false_iff_ne.2 (by omega))
    clear h
    go_enter Try.func32, Try.ntmps32
    go_wp2
    go_ret
    exact ⟨by first | rfl | (rw [← HE.out]; rfl) | (rw [← HE.out]; simp), rfl⟩
theorem SplitsFully_spec_ok (n l : Nat) (h1 : 1 ≤ n) (h2 : n ≤ 16) (hl : primeN l = true) (w : World) :
    Calls Try.prog 13 #[.int .i64 (n : Int), .int .i64 (l : Int)] w fun r w' => r = .returned (.tuple #[.bool (fullN l n), .int .i64 0]) ∧ Below w.heap.size w w' := by
  have HL := Lib.hid hl
  clear hl
  go_enter Try.func13, Try.ntmps13
  go_wp2_with (first
    | (go_at_call 27; refine (l07Code_yes n l h1 h2 HL.out _).mono ?_; rintro r w1 ⟨rfl, m1, rfl⟩)
    | (go_at_call 32; refine (l07Fully_any n l h1 h2 HL.out _).mono ?_; rintro r w2 ⟨rfl, rfl⟩))
  go_ret2
  exact ⟨rfl, below_drewN (Below.refl _ _) _⟩
theorem SplitsFully_spec_bad (n l : Int) (h : ¬ SpP n l) (w : World) :
    Calls Try.prog 13 #[.int .i64 n, .int .i64 l] w fun r w' => r = .returned (.tuple #[.bool false, .int .i64 2]) ∧ Below w.heap.size w w' := by
  have H := Lib.hid h
  clear h
  go_enter Try.func13, Try.ntmps13
  go_wp2_with (go_at_call 27; refine (l07Code_no n l H.out _).mono ?_; rintro r w1 ⟨rfl, m1, rfl⟩)
  go_ret2
  exact ⟨rfl, below_drewN (Below.refl _ _) _⟩
theorem SplitsFully_impl_bad (n l : Int) (h : ¬ SpP n l) (w : World) :
    Calls Try.prog 14 #[.int .i64 n, .int .i64 l] w fun r w' => r = .returned (.tuple #[.bool false, .int .i64 2]) ∧ Below w.heap.size w w' := by
  have H := Lib.hid h
  clear h
  go_enter Try.func14, Try.ntmps14
  go_wp2_with (go_at_call 9; refine (SplittingOf_impl_bad n l H.out _).mono ?_; rintro r w1 ⟨a1, k1, rfl, s1, b1⟩)
  go_ret2
  exact ⟨rfl, b1⟩
theorem SplitsFully_impl_ok (n l : Nat) (h1 : 1 ≤ n) (h2 : n ≤ 16) (hl : primeN l = true) (w : World) :
    Calls Try.prog 14 #[.int .i64 (n : Int), .int .i64 (l : Int)] w fun r w' => r = .returned (.tuple #[.bool (fullN l n), .int .i64 0]) ∧ Below w.heap.size w w' := by
  have HL := Lib.hid hl
  have HF := Lib.hid (full_ok hl h1 h2)
  have HB := Lib.hid (spF_inR n l h1 h2 hl)
  clear hl
  go_enter Try.func14, Try.ntmps14
  go_wp2_with (go_at_call 9; refine (SplittingOf_impl_ok n l h1 h2 HL.out _).mono ?_; rintro r w1 ⟨a1, k1, rfl, s1, b1⟩)
  obtain ⟨g, off, cap, hv, _, _, _, _, hc, _⟩ := s1.at (by omega)
  cases hv
  have c0 := hc 0 (by omega)
  have c1 := hc 1 (by omega)
  have e0 : spF n l 0 = (phiN (n / mN l n) : Nat) := rfl
  have e1 : spF n l 1 = (perM l (mN l n) : Nat) := rfl
  rw [e0, Nat.add_zero] at c0
  rw [e1] at c1
  clear hc e0 e1 s1
  generalize phiN (n / mN l n) = x at *
  generalize perM l (mN l n) = y at *
  by_cases hx : x = 1
  · have hx2 : ((x : Int) == 1) = true := by rw [hx]; rfl
    rw [show decide (x = 1) = true from decide_eq_true hx, Bool.true_and] at HF
    by_cases hy : y = 1
    · have hy2 : ((y : Int) == 1) = true := by rw [hy]; rfl
      rw [show decide (y = 1) = true from decide_eq_true hy] at HF
      clear hx hy
      go_wp2
      go_ret2
      exact ⟨by rw [← HF.out]; rfl, b1⟩
    · have hy2 : ((y : Int) == 1) = false := beq_eq_false_iff_ne.2 (by omega)
      rw [show decide (y = 1) = false from decide_eq_false hy] at HF
      clear hx hy
      go_wp2
      go_ret2
      exact ⟨by rw [← HF.out]; rfl, b1⟩
  · have hx2 : ((x : Int) == 1) = false := beq_eq_false_iff_ne.2 (by omega)
    rw [show decide (x = 1) = false from decide_eq_false hx, Bool.false_and] at HF
    clear hx
    go_wp2
    go_ret2
    exact ⟨by rw [← HF.out]; rfl, b1⟩
theorem haveRoots_yes (n l : Nat) (h1 : 1 ≤ n) (h2 : n ≤ 16) (hl : primeN l = true) (hf : fullN l n = true) (w : World) :
    Calls Try.prog 34 #[.int .i64 (n : Int), .int .i64 (l : Int)] w fun r w' => r = .returned (.bool true) ∧ Below w.heap.size w w' := by
  have HL := Lib.hid hl
  have HF := Lib.hid hf
  clear hl hf
  go_enter Try.func34, Try.ntmps34
  go_wp2_with (go_at_call 14; refine (SplitsFully_impl_ok n l h1 h2 HL.out _).mono ?_; rintro r w1 ⟨rfl, b1⟩)
  go_ret
  exact ⟨by rw [HF.out]; rfl, b1⟩
theorem haveRoots_no (n l : Int) (h : ¬ FuP n l) (w : World) :
    Calls Try.prog 34 #[.int .i64 n, .int .i64 l] w fun r w' => r = .returned (.bool false) ∧ Below w.heap.size w w' := by
  by_cases hs : SpP n l
  · have HF := Lib.hid (show fullN l.toNat n.toNat = false by
      cases e : fullN l.toNat n.toNat with
      | false => rfl
      | true => exact absurd ⟨hs, e⟩ h)
    clear h
    obtain ⟨N, L, rfl, rfl, h1, h2, hl⟩ := hs.nat
    rw [Int.toNat_natCast, Int.toNat_natCast] at HF
    have HL := Lib.hid hl
    clear hl hs
    go_enter Try.func34, Try.ntmps34
    go_wp2_with (go_at_call 14; refine (SplitsFully_impl_ok N L h1 h2 HL.out _).mono ?_; rintro r w1 ⟨rfl, b1⟩)
    go_ret
    exact ⟨by rw [HF.out]; rfl, b1⟩
  · have H := Lib.hid hs
    clear h hs
    go_enter Try.func34, Try.ntmps34
    go_wp2_with (go_at_call 14; refine (SplitsFully_impl_bad n l H.out _).mono ?_; rintro r w1 ⟨rfl, b1⟩)
    go_ret
    exact ⟨rfl, b1⟩
end Go.Proofs.Ythookppmclimkaa
