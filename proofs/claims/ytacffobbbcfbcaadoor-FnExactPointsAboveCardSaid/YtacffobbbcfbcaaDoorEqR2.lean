/- Points above polynomials, of the model. -/
import Derived.Test.YtacffobbbcfbcaaDoorEqR
namespace Go.Proofs.YtacffobbbcfbcaaDoor
open Go.RowKit Go.ChangeShapes Go.Sort
set_option linter.unusedVariables false
set_option linter.unusedSimpArgs false
set_option maxRecDepth 100000
section
variable {o : Bool} {lo hi : Nat} {v : Value} {n : Nat} {f : Nat → Int}
set_option maxHeartbeats 4000000 in
theorem PointsAbove_spec_ok (p k : Nat) (hp : primeN p = true) (h1 : 1 ≤ k) (h2 : k ≤ 60) (h3 : 1 ≤ n) (h4 : n ≤ 8) (hr : ResP f n (p : Int)) (w : World) (hs : Sl o w lo hi v n f) :
    Calls Tryd.prog 43 #[.int .i64 (p : Int), .int .i64 (k : Int), v] w fun e w' => e = .returned (.tuple #[.int .i64 (paN p k f n), .int .i64 0]) ∧ Below w.heap.size w w' := by
  have hbd := primeN_bd hp
  have HP := Lib.hid hp
  have HR := Lib.hid hr
  have S1 := Lib.hid (one_madeS w (k : Int) (by unfold inR; omega) _ rfl)
  have HX := Lib.hid (ex_one (k := (k : Int)) (by omega) (by omega))
  have hal := alloc_bl w (.cells #[.int .i64 (k : Int)] 2)
  obtain ⟨g1, off1, k1, rfl, _, hg1, _, _, hc1, _⟩ := hs.at (by omega)
  have hs1 := hs.size
  have HC1 := Lib.hid hc1
  have hd8 : decide ((8 : Int) < (n : Int)) = false := decide_eq_false (by omega)
  have hd1 : decide ((n : Int) < 1) = false := decide_eq_false (by omega)
  clear hp hr hs hc1
  go_enter Tryd.func43, Tryd.ntmps43
  go_wp2_with (go_at_call 73; refine (l08Code_yes p HP.out _ S1.out HX.out).mono ?_; rintro e w1 ⟨rfl, b1⟩; have BL1 := hal.trans (b1.mono (show w.heap.size ≤ _ by simp)))
  go_loopw [8, 9] (fun s8 s9 wr => ∃ i : Nat, i ≤ n ∧ s8 = .int .i64 0 ∧ s9 = .int .i64 (i : Int) ∧ wr = w1) (fun _ s9 _ => n - (intOf s9).toNat)
  case atStart => exact ⟨0, Nat.zero_le _, rfl, rfl, rfl⟩
  case round =>
    obtain ⟨i, hi', rfl, rfl, rfl⟩ := hrel
    by_cases hlt : i < n
    · have hci := (BL1.cell (p := ⟨g1, off1 + i, none⟩) (by show g1 < _; omega)).trans (HC1.out i hlt)
      obtain ⟨j1, j2⟩ := HR.out i hlt
      have j3 : f i ≤ (p : Int) - 1 := by omega
      go_wp2_with (go_at_call 74; refine (l01In_yes _ _ _ _ j1 j3).mono ?_; rintro e w2 ⟨rfl, rfl⟩)
      go_roundw
      case rel => exact ⟨i + 1, by omega, rfl, by go_num, by first | rfl | trivial⟩
      case measure => simp [intOf]; omega
    · obtain rfl : i = n := by omega
      go_wp2_with (go_at_call 75; refine (l08Values_1 p k (by omega) hbd.2 h2 _).mono ?_; rintro e w2 ⟨rfl, q2, b2, hz2⟩; have HZ2 := Lib.hid hz2; clear hz2)
      have hs2 := BL1.size
      have BL2 := BL1.trans (b2.mono hs2)
      have HQ := Lib.hid q2
      clear q2
      go_loopw [11, 12] (fun s11 s12 wx => ∃ x : Nat, x ≤ p ∧ s11 = .int .i64 (smN x (fun t => cnT (vN p 1 k) 0 p (plV f i p t))) ∧ s12 = .int .i64 (x : Int) ∧ wx = w2) (fun _ s12 _ => p - (intOf s12).toNat)
      case atStart => exact ⟨0, by omega, rfl, rfl, rfl⟩
      case round =>
        obtain ⟨x, hx, rfl, rfl, rfl⟩ := hrel
        by_cases hxp : x < p
        · have B1 := paN_bd (k := k) f i x hbd.2 (by omega)
          have B2 := paN_bd (k := k) f i (x + 1) hbd.2 (by omega)
          have HSM := Lib.hid (show smN (x + 1) (fun t => cnT (vN p 1 k) 0 p (plV f i p t)) = smN x (fun t => cnT (vN p 1 k) 0 p (plV f i p t)) + cnT (vN p 1 k) 0 p (plV f i p x) from rfl)
          rw [HSM.out] at B2
          obtain ⟨S, hS⟩ : ∃ S, smN x (fun t => cnT (vN p 1 k) 0 p (plV f i p t)) = S := ⟨_, rfl⟩
          rw [hS] at B1 B2 HSM ⊢
          clear hS
          have hpl := plV_lt (f := f) (n := i) (p := p) (by omega) x
          have HPL := Lib.hid (plV_int (f := f) (n := i) (p := p) (by omega) x)
          go_wp2
          go_loopw [13, 14] (fun s13 s14 wy => ∃ j : Nat, j ≤ i ∧ s13 = .int .i64 (hor f x i j % (p : Int)) ∧ s14 = .int .i64 ((i : Int) - 1 - j) ∧ wy = wr) (fun _ s14 _ => (intOf s14 + 1).toNat)
          case atStart => exact ⟨0, by omega, by simp [hor], by go_num, rfl⟩
          case round =>
            obtain ⟨j, hj, rfl, rfl, rfl⟩ := hrel
            have hh0 := Int.emod_nonneg (hor f x i j) (b := (p : Int)) (by omega)
            have hh1 := Int.emod_lt_of_pos (hor f x i j) (b := (p : Int)) (by omega)
            by_cases hjl : j < i
            · obtain ⟨q, hq⟩ : ∃ q, i - 1 - j = q := ⟨_, rfl⟩
              have e : (i : Int) - 1 - j = (q : Int) := by omega
              rw [e]
              have hcq := (BL2.cell (p := ⟨g1, off1 + q, none⟩) (by show g1 < _; omega)).trans (HC1.out q (by omega))
              have hfq := HR.out q (by omega)
              have HE := Lib.hid (show (hor f x i j % (p : Int) * (x : Int) + f q) % (p : Int) = hor f x i (j + 1) % (p : Int) by
                rw [step_mod (h := hor f x i j) (Int.emod_emod _ _)]
                show _ = (hor f x i j * x + f (i - 1 - j)) % (p : Int)
                rw [hq])
              generalize hor f x i j % (p : Int) = y at *
              have hp0 : 0 ≤ y * (x : Int) := Int.mul_nonneg (by omega) (by omega)
              have hp1 : y * (x : Int) ≤ 61 * 61 := Int.mul_le_mul (by omega) (by omega) (by omega) (by omega)
              have hpn : ¬ p = 0 := by omega
              clear hh0 hh1 e
              go_wp2
              go_roundw
              case rel => exact ⟨j + 1, by omega, by rw [← HE.out], by go_num, by first | rfl | trivial⟩
              case measure => simp [intOf] <;> omega
            · obtain rfl : j = i := by omega
              have e : (j : Int) - 1 - j = -1 := by omega
              rw [e]
              have hvv : hor f x j j % (p : Int) = ((plV f j p x : Nat) : Int) := HPL.out
              rw [hvv]
              have hcq := (HQ.out.known (by omega)).2.2.2.1 (plV f j p x) hpl
              rw [Nat.zero_add] at hcq
              obtain ⟨c, hc⟩ : ∃ c, cnT (vN p 1 k) 0 p (plV f j p x) = c := ⟨_, rfl⟩
              rw [hc] at hcq B2 HSM
              clear hc hvv hh0 hh1
              go_wp2
              go_roundw
              case rel => exact ⟨x + 1, by omega, by rw [HSM.out], by go_num, by first | rfl | trivial⟩
              case measure => simp [intOf]; omega
        · obtain rfl : x = p := by omega
          go_wp2
          go_ret2
          exact ⟨rfl, BL2⟩
set_option maxHeartbeats 2000000 in
theorem PointsAbove_spec_no (p k : Int) (hk : inR k) (h : ¬ PaP p k n f) (w : World) (hs : Sl o w lo hi v n f) :
    Calls Tryd.prog 43 #[.int .i64 p, .int .i64 k, v] w fun e w' => e = .returned (.tuple #[.int .i64 0, .int .i64 2]) ∧ Below w.heap.size w w' := by
  have hl1 := hs.len
  unfold maxLen at hl1
  have S1 := Lib.hid (one_madeS w k hk _ rfl)
  have hal := alloc_bl w (.cells #[.int .i64 k] 2)
  by_cases hP : PkP p k
  · obtain ⟨P, K, rfl, rfl, hp, h1, h2⟩ := hP.nat
    have hbd := primeN_bd hp
    have HP := Lib.hid hp
    have HX := Lib.hid (ex_one (k := (K : Int)) (by omega) (by omega))
    by_cases g1 : 1 ≤ n
    · by_cases g2 : n ≤ 8
      · have HN := Lib.hid (show ¬ ResP f n (P : Int) from fun g => h ⟨hP, g1, g2, g⟩)
        obtain ⟨b1', off1, k1, rfl, _, hg1, _, _, hc1, _⟩ := hs.at (by omega)
        have hs1 := hs.size
        have HC1 := Lib.hid hc1
        have HBD := Lib.hid hs.bd
        have hd8 : decide ((8 : Int) < (n : Int)) = false := decide_eq_false (by omega)
        have hd1 : decide ((n : Int) < 1) = false := decide_eq_false (by omega)
        clear h hP hp hs hc1
        go_enter Tryd.func43, Tryd.ntmps43
        go_wp2_with (go_at_call 73; refine (l08Code_yes P HP.out _ S1.out HX.out).mono ?_; rintro e w1 ⟨rfl, b1⟩; have BL1 := hal.trans (b1.mono (show w.heap.size ≤ _ by simp)))
        go_loopw [8, 9] (fun s8 s9 wr => ∃ i : Nat, i ≤ n ∧ s9 = .int .i64 (i : Int) ∧ (s8 = .int .i64 0 ∧ ResP f i (P : Int) ∨ s8 = .int .i64 2) ∧ wr = w1) (fun s8 s9 _ => 2 * (n - (intOf s9).toNat) + 1 - (intOf s8).toNat)
        case atStart => exact ⟨0, Nat.zero_le _, rfl, .inl ⟨rfl, fun j hj => absurd hj (Nat.not_lt_zero _)⟩, rfl⟩
        case round =>
          obtain ⟨i, hi', rfl, hcs, rfl⟩ := hrel
          rcases hcs with ⟨rfl, hall⟩ | rfl
          · have HA := Lib.hid hall
            clear hall
            by_cases hlt : i < n
            · have hci := (BL1.cell (p := ⟨b1', off1 + i, none⟩) (by show b1' < _; omega)).trans (HC1.out i hlt)
              have hrr := HBD.out i hlt
              by_cases hok : 0 ≤ f i ∧ f i < (P : Int)
              · obtain ⟨j1, j2⟩ := hok
                have j3 : f i ≤ (P : Int) - 1 := by omega
                go_wp2_with (go_at_call 74; refine (l01In_yes _ _ _ _ j1 j3).mono ?_; rintro e w2 ⟨rfl, rfl⟩)
                go_roundw
                case rel => exact ⟨i + 1, by omega, by go_num, .inl ⟨rfl, fun j hj => by
                  rcases Nat.lt_succ_iff_lt_or_eq.1 hj with h | h
                  · exact HA.out j h
                  · subst h; exact ⟨j1, j2⟩⟩, by first | rfl | trivial⟩
                case measure => simp [intOf]; omega
              · have HO := Lib.hid (show f i < 0 ∨ (P : Int) - 1 < f i by omega)
                clear hok
                go_wp2_with (go_at_call 74; refine (l01In_no _ _ _ _ HO.out).mono ?_; rintro e w2 ⟨rfl, rfl⟩)
                go_roundw
                case rel => exact ⟨i + 1, by omega, by go_num, .inr rfl, by first | rfl | trivial⟩
                case measure => simp [intOf]; omega
            · obtain rfl : i = n := by omega
              exact absurd HA.out HN.out
          · by_cases hlt : i < n
            · go_wp2
              go_ret2
              exact ⟨rfl, BL1⟩
            · obtain rfl : i = n := by omega
              go_wp2
              go_ret2
              exact ⟨rfl, BL1⟩
      · obtain ⟨a1, k1, rfl⟩ := hs.shape
        have hd8 : decide ((8 : Int) < (n : Int)) = true := decide_eq_true (by omega)
        have hd1 : decide ((n : Int) < 1) = false := decide_eq_false (by omega)
        clear h hP hp hs
        go_enter Tryd.func43, Tryd.ntmps43
        go_wp2_with (go_at_call 73; refine (l08Code_yes P HP.out _ S1.out HX.out).mono ?_; rintro e w1 ⟨rfl, b1⟩; have BL1 := hal.trans (b1.mono (show w.heap.size ≤ _ by simp)))
        go_rounds 1
        all_goals go_ret2
        all_goals exact ⟨rfl, BL1⟩
    · obtain rfl : n = 0 := by omega
      obtain ⟨a1, k1, rfl⟩ := hs.shape
      clear h hP hp hs
      go_enter Tryd.func43, Tryd.ntmps43
      go_wp2_with (go_at_call 73; refine (l08Code_yes P HP.out _ S1.out HX.out).mono ?_; rintro e w1 ⟨rfl, b1⟩; have BL1 := hal.trans (b1.mono (show w.heap.size ≤ _ by simp)))
      go_rounds 1
      all_goals go_ret2
      all_goals exact ⟨rfl, BL1⟩
  · have H := Lib.hid (show ¬ (PrP p ∧ ExP (fun _ => k) 1) from fun g => hP ⟨g.1, (g.2 0 (by omega)).1, (g.2 0 (by omega)).2⟩)
    obtain ⟨a1, k1, rfl⟩ := hs.shape
    clear h hP hs
    by_cases g1 : n = 0
    · subst g1
      go_enter Tryd.func43, Tryd.ntmps43
      go_wp2_with (go_at_call 73; refine (l08Code_no p _ S1.out H.out).mono ?_; rintro e w1 ⟨rfl, b1⟩; have BL1 := hal.trans (b1.mono (show w.heap.size ≤ _ by simp)))
      go_rounds 1
      all_goals go_ret2
      all_goals exact ⟨rfl, BL1⟩
    · have g2 : 0 < n := by omega
      go_enter Tryd.func43, Tryd.ntmps43
      go_wp2_with (go_at_call 73; refine (l08Code_no p _ S1.out H.out).mono ?_; rintro e w1 ⟨rfl, b1⟩; have BL1 := hal.trans (b1.mono (show w.heap.size ≤ _ by simp)))
      go_rounds 1
      all_goals go_ret2
      all_goals exact ⟨rfl, BL1⟩
end
end Go.Proofs.YtacffobbbcfbcaaDoor
