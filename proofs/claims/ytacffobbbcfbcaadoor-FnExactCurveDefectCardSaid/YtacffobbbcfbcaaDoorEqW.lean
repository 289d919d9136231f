/- Chapter 8 of the model: curves of powers. -/
import Derived.Test.YtacffobbbcfbcaaDoorEqU
namespace Go.Proofs.YtacffobbbcfbcaaDoor
open Go.RowKit Go.ChangeShapes Go.Sort
set_option linter.unusedVariables false
set_option linter.unusedSimpArgs false
set_option maxRecDepth 100000

theorem l08Curve_yes (p m : Nat) (hp : primeN p = true) (h1 : 1 ≤ m) (h2 : m ≤ 60) (h3 : ¬ m % p = 0) (w : World) :
    Calls Tryd.prog 81 #[.int .i64 (p : Int), .int .i64 (m : Int)] w fun e w' => e = .returned (.int .i64 0) ∧ Below w.heap.size w w' := by
  have hbd := primeN_bd hp
  have HP := Lib.hid hp
  have S1 := Lib.hid (one_madeS w (m : Int) (by unfold inR; omega) _ rfl)
  have HX := Lib.hid (ex_one (k := (m : Int)) (by omega) (by omega))
  have hal := alloc_bl w (.cells #[.int .i64 (m : Int)] 2)
  have hp0 : ¬ p = 0 := by omega
  have hmm : ((m : Int) % (p : Int) == 0) = false := by rw [beq_eq_false_iff_ne, ← Int.natCast_emod]; omega
  clear hp h3
  go_enter Tryd.func81, Tryd.ntmps81
  go_wp2_with (go_at_call 73; refine (l08Code_yes p HP.out _ S1.out HX.out).mono ?_; rintro e w1 ⟨rfl, b1⟩)
  go_ret
  exact ⟨rfl, hal.trans (b1.mono (by simp))⟩
theorem l08Curve_no (p m : Int) (hm : inR m) (h : ¬ ((PrP p ∧ 1 ≤ m ∧ m ≤ 60) ∧ ¬ m % p = 0)) (w : World) :
    Calls Tryd.prog 81 #[.int .i64 p, .int .i64 m] w fun e w' => e = .returned (.int .i64 2) ∧ Below w.heap.size w w' := by
  have S1 := Lib.hid (one_madeS w m hm _ rfl)
  have hal := alloc_bl w (.cells #[.int .i64 m] 2)
  by_cases hc : PrP p ∧ ExP (fun _ => m) 1
  · obtain ⟨hp, hx⟩ := hc
    have hx0 := hx 0 (by omega)
    obtain ⟨P, rfl⟩ := Int.eq_ofNat_of_zero_le hp.1
    have hP : primeN P = true := by have := hp.2; rwa [Int.toNat_natCast] at this
    have hbd := primeN_bd hP
    have HP := Lib.hid hP
    have HX := Lib.hid hx
    have hz : m % (P : Int) = 0 := by
      by_cases g : m % (P : Int) = 0
      · exact g
      · exact absurd ⟨⟨hp, hx0.1, hx0.2⟩, g⟩ h
    have hm1 : 1 ≤ m := hx0.1
    have hm2 : m ≤ 60 := hx0.2
    have hp0 : ¬ P = 0 := by omega
    have hmm : (m % (P : Int) == 0) = true := by rw [hz]; rfl
    clear h hp hx hx0 hP hz
    go_enter Tryd.func81, Tryd.ntmps81
    go_wp2_with (go_at_call 73; refine (l08Code_yes P HP.out _ S1.out HX.out).mono ?_; rintro e w1 ⟨rfl, b1⟩)
    go_ret
    exact ⟨rfl, hal.trans (b1.mono (by simp))⟩
  · have H := Lib.hid hc
    clear h hc
    go_enter Tryd.func81, Tryd.ntmps81
    go_wp2_with (go_at_call 73; refine (l08Code_no p _ S1.out H.out).mono ?_; rintro e w1 ⟨rfl, b1⟩)
    go_ret
    exact ⟨rfl, hal.trans (b1.mono (by simp))⟩
theorem two_madeS (w : World) (x y : Int) (hx : inR x) (hy : inR y) (t : TypeId) (ht : t = 2) (f : Nat → Int) (h0 : f 0 = x) (h1 : f 1 = y) : Sl true (w.alloc (.cells #[.int .i64 x, .int .i64 y] t)) w.heap.size (w.heap.size + 1) (.slice (some ⟨w.heap.size, 0, none⟩) 2 2) 2 f := by
  subst ht
  refine Sl.made w #[.int .i64 x, .int .i64 y] 2 2 2 _ (Nat.le_refl _) (by unfold maxLen; omega) (fun j hj => ?_) (fun j hj => ?_)
  · match j, hj with
    | 0, _ => rw [h0]; exact hx
    | 1, _ => rw [h1]; exact hy
  · match j, hj with
    | 0, _ => rw [h0]; rfl
    | 1, _ => rw [h1]; rfl
theorem l08Count_curve {o o' : Bool} {lo hi lo' hi' : Nat} {v v' : Value} {fa fe : Nat → Int} (p : Nat) (hp : primeN p = true) (h : ∀ i, i < 2 → 1 ≤ fa i ∧ fa i < (p : Int) ∧ 1 ≤ fe i ∧ fe i ≤ 60) (w : World) (hs : Sl o w lo hi v 2 fa) (ht : Sl o' w lo' hi' v' 2 fe) :
    Calls Tryd.prog 63 #[.int .i64 (p : Int), v, v', .int .i64 1, .bool false] w fun e w' => e = .returned (.int .i64 (solT p fa fe 0 2 1)) ∧ Below w.heap.size w w' := by
  have hbd := primeN_bd hp
  have h := l08Count_false p 1 hp (by omega) (by omega) (by omega) h w hs ht
  rw [show ((1 : Nat) : Int) = 1 from rfl] at h
  exact h
/-- The number of points, as the model counts. -/
def crvS (p m : Nat) : Int := solT p (fun _ => 1) (fun _ => (m : Int)) 0 2 1 + minT p m
def minP (p m x : Nat) : Int := smN x (fun y => if (pwr p y m + 1) % p = 0 then 1 else 0)
theorem minP_succ (p m x : Nat) : minP p m (x + 1) = if (pwr p x m + 1) % p = 0 then minP p m x + 1 else minP p m x := by
  unfold minP
  simp only [smN]
  split <;> omega
theorem minP_bd (p m x : Nat) : 0 ≤ minP p m x ∧ minP p m x ≤ (x : Int) := by
  have := smN_le (m := x) (B := 1) (F := fun y => if (pwr p y m + 1) % p = 0 then (1 : Int) else 0) (fun i hi => by split <;> omega)
  exact ⟨smN_nonneg (fun i hi => by split <;> omega), by unfold minP; omega⟩
set_option maxHeartbeats 2000000 in
theorem l08Points_any (p m : Nat) (hp : primeN p = true) (h1 : 1 ≤ m) (h2 : m ≤ 60) (w : World) :
    Calls Tryd.prog 82 #[.int .i64 (p : Int), .int .i64 (m : Int)] w fun e w' => e = .returned (.int .i64 (crvS p m)) ∧ Below w.heap.size w w' := by
  have hbd := primeN_bd hp
  have HP := Lib.hid hp
  have hT := two_madeS w 1 1 (by unfold inR; omega) (by unfold inR; omega) _ rfl (fun _ => 1) rfl rfl
  have hU := two_madeS (w.alloc (.cells #[.int .i64 1, .int .i64 1] 2)) m m (by unfold inR; omega) (by unfold inR; omega) _ rfl (fun _ => (m : Int)) rfl rfl
  simp only [World.size_alloc] at hU
  have SA := Lib.hid (hT.alloc (.cells #[.int .i64 (m : Int), .int .i64 (m : Int)] 2))
  have SB := Lib.hid hU
  have bl := ((Below.refl w.heap.size w).alloc (Nat.le_refl _) (.cells #[.int .i64 1, .int .i64 1] 2)).alloc (by simp) (.cells #[.int .i64 (m : Int), .int .i64 (m : Int)] 2)
  have H := Lib.hid (show ∀ i, i < 2 → 1 ≤ (fun _ => (1 : Int)) i ∧ (fun _ => (1 : Int)) i < (p : Int) ∧ 1 ≤ (fun _ => (m : Int)) i ∧ (fun _ => (m : Int)) i ≤ 60 from fun i hi => by refine ⟨?_, ?_, ?_, ?_⟩ <;> dsimp only <;> omega)
  have SBD := solT_bd4 (p := p) (by omega) hbd.2 (fun _ => 1) (fun _ => (m : Int)) 0 (n := 2) (b := 1) (by omega) (by omega)
  have HE := Lib.hid (show crvS p m = solT p (fun _ => 1) (fun _ => (m : Int)) 0 2 1 + minP p m p from rfl)
  obtain ⟨S, hS⟩ : ∃ S, solT p (fun _ => 1) (fun _ => (m : Int)) 0 2 1 = S := ⟨_, rfl⟩
  rw [hS] at SBD HE
  have HSS := Lib.hid hS
  have hp0 : ¬ p = 0 := by omega
  clear hp hT hU hS
  go_enter Tryd.func82, Tryd.ntmps82
  go_wp2_with (go_at_call 63; refine (l08Count_curve p HP.out H.out _ SA.out SB.out).mono ?_; rw [HSS.out]; rintro e w1 ⟨rfl, b1⟩; have BL1 := bl.trans (b1.mono (show w.heap.size ≤ _ by simp; omega)))
  go_loopw [5, 6] (fun s5 s6 wr => ∃ x : Nat, x ≤ p ∧ s5 = .int .i64 (S + minP p m x) ∧ s6 = .int .i64 (x : Int) ∧ Below w.heap.size w wr) (fun _ s6 _ => p - (intOf s6).toNat)
  case atStart => exact ⟨0, by omega, by rw [show minP p m 0 = 0 from rfl, Int.add_zero], rfl, BL1⟩
  case round =>
    obtain ⟨x, hx, rfl, rfl, hB⟩ := hrel
    have hmb := minP_bd p m x
    by_cases hlt : x < p
    · have hb := pwr_bd (p := p) (g := x) (by omega) m
      have HS := Lib.hid (minP_succ p m x)
      have HM := Lib.hid (show (((pwr p x m : Nat) : Int) + 1) % (p : Int) = (((pwr p x m + 1) % p : Nat) : Int) by rw [Int.natCast_emod, Int.natCast_add]; rfl)
      by_cases hz : (pwr p x m + 1) % p = 0
      · have hE : ((((pwr p x m : Nat) : Int) + 1) % (p : Int) == 0) = true := by rw [HM.out, hz]; rfl
        have HZ := Lib.hid (show minP p m (x + 1) = minP p m x + 1 by rw [HS.out, if_pos hz])
        clear hz
        go_wp2_with (go_at_call 104; refine (l08Power_any p x m (by omega) hbd.2 hlt (by omega) _).mono ?_; rintro e w2 ⟨rfl, m2, rfl⟩)
        go_roundw
        case rel => exact ⟨x + 1, by omega, by rw [HZ.out]; first | rfl | go_num, by go_num, below_drewN hB m2⟩
        case measure => simp [intOf]; omega
      · have hE : ((((pwr p x m : Nat) : Int) + 1) % (p : Int) == 0) = false := by rw [HM.out, beq_eq_false_iff_ne]; omega
        have HZ := Lib.hid (show minP p m (x + 1) = minP p m x by rw [HS.out, if_neg hz])
        clear hz
        go_wp2_with (go_at_call 104; refine (l08Power_any p x m (by omega) hbd.2 hlt (by omega) _).mono ?_; rintro e w2 ⟨rfl, m2, rfl⟩)
        go_roundw
        case rel => exact ⟨x + 1, by omega, by rw [HZ.out], by go_num, below_drewN hB m2⟩
        case measure => simp [intOf]; omega
    · obtain rfl : x = p := by omega
      go_wp2
      go_ret
      exact ⟨by rw [HE.out]; rfl, hB⟩
theorem CurvePoints_spec_ok (p m : Nat) (hp : primeN p = true) (h1 : 1 ≤ m) (h2 : m ≤ 60) (h3 : ¬ m % p = 0) (w : World) :
    Calls Tryd.prog 35 #[.int .i64 (p : Int), .int .i64 (m : Int)] w fun e w' => e = .returned (.tuple #[.int .i64 (crvS p m), .int .i64 0]) ∧ Below w.heap.size w w' := by
  have HP := Lib.hid hp
  have H3 := Lib.hid h3
  clear hp h3
  go_enter Tryd.func35, Tryd.ntmps35
  go_wp2_with (first
    | (go_at_call 81; refine (l08Curve_yes p m HP.out h1 h2 H3.out _).mono ?_; rintro e w1 ⟨rfl, b1⟩)
    | (go_at_call 82; refine (l08Points_any p m HP.out h1 h2 _).mono ?_; rintro e w2 ⟨rfl, b2⟩))
  go_ret2
  exact ⟨rfl, b1.trans (b2.mono b1.size)⟩
theorem CurvePoints_spec_no (p m : Int) (hm : inR m) (h : ¬ ((PrP p ∧ 1 ≤ m ∧ m ≤ 60) ∧ ¬ m % p = 0)) (w : World) :
    Calls Tryd.prog 35 #[.int .i64 p, .int .i64 m] w fun e w' => e = .returned (.tuple #[.int .i64 0, .int .i64 2]) ∧ Below w.heap.size w w' := by
  have H := Lib.hid h
  clear h
  go_enter Tryd.func35, Tryd.ntmps35
  go_wp2_with (go_at_call 81; refine (l08Curve_no p m hm H.out _).mono ?_; rintro e w1 ⟨rfl, b1⟩)
  go_ret2
  exact ⟨rfl, b1⟩
theorem CurveDefect_spec_ok (p m : Nat) (hp : primeN p = true) (h1 : 1 ≤ m) (h2 : m ≤ 60) (h3 : ¬ m % p = 0) (hc : 0 ≤ crvS p m ∧ crvS p m ≤ 14000000) (w : World) :
    Calls Tryd.prog 37 #[.int .i64 (p : Int), .int .i64 (m : Int)] w fun e w' => e = .returned (.tuple #[.int .i64 ((p : Int) + 1 - crvS p m), .int .i64 0]) ∧ Below w.heap.size w w' := by
  have HP := Lib.hid hp
  have H3 := Lib.hid h3
  have hbd := primeN_bd hp
  clear hp h3
  go_enter Tryd.func37, Tryd.ntmps37
  go_wp2_with (first
    | (go_at_call 81; refine (l08Curve_yes p m HP.out h1 h2 H3.out _).mono ?_; rintro e w1 ⟨rfl, b1⟩)
    | (go_at_call 82; refine (l08Points_any p m HP.out h1 h2 _).mono ?_; rintro e w2 ⟨rfl, b2⟩))
  go_ret2
  exact ⟨rfl, b1.trans (b2.mono b1.size)⟩
theorem CurveDefect_spec_no (p m : Int) (hm : inR m) (h : ¬ ((PrP p ∧ 1 ≤ m ∧ m ≤ 60) ∧ ¬ m % p = 0)) (w : World) :
    Calls Tryd.prog 37 #[.int .i64 p, .int .i64 m] w fun e w' => e = .returned (.tuple #[.int .i64 0, .int .i64 2]) ∧ Below w.heap.size w w' := by
  have H := Lib.hid h
  clear h
  go_enter Tryd.func37, Tryd.ntmps37
  go_wp2_with (go_at_call 81; refine (l08Curve_no p m hm H.out _).mono ?_; rintro e w1 ⟨rfl, b1⟩)
  go_ret2
  exact ⟨rfl, b1⟩
end Go.Proofs.YtacffobbbcfbcaaDoor
