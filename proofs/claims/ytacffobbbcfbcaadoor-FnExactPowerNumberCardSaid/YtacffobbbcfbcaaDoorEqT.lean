/- Chapter 8 of the model: equations and their solutions, genus, values. -/
import Derived.Test.YtacffobbbcfbcaaDoorEqS
namespace Go.Proofs.YtacffobbbcfbcaaDoor
open Go.RowKit Go.ChangeShapes Go.Sort
set_option linter.unusedVariables false
set_option linter.unusedSimpArgs false
set_option maxRecDepth 100000

def genS (m : Int) : Int := (m - 1) * (m - 2) / 2
theorem GenusOfCurve_spec_ok (m : Nat) (h1 : 1 ≤ m) (h2 : m ≤ 60) (w : World) :
    Calls Tryd.prog 40 #[.int .i64 (m : Int)] w fun e w' => e = .returned (.tuple #[.int .i64 (genS m), .int .i64 0]) ∧ Below w.heap.size w w' := by
  have hp1 : ((m : Int) - 1) * ((m : Int) - 2) ≤ 59 * 59 := by
    rcases Nat.lt_or_ge m 2 with h | h
    · obtain rfl : m = 1 := by omega
      decide
    · exact Int.mul_le_mul (by omega) (by omega) (by omega) (by omega)
  have hp0 : 0 ≤ ((m : Int) - 1) * ((m : Int) - 2) := by
    rcases Nat.lt_or_ge m 2 with h | h
    · obtain rfl : m = 1 := by omega
      decide
    · exact Int.mul_nonneg (by omega) (by omega)
  have HG := Lib.hid (show ((m : Int) - 1) * ((m : Int) - 2) / 2 = genS m from rfl)
  go_enter Tryd.func40, Tryd.ntmps40
  go_wp2_with (go_at_call 74; refine (l01In_yes _ _ _ _ (by omega) (by omega)).mono ?_; rintro e w1 ⟨rfl, rfl⟩)
  go_ret2
  exact ⟨by rw [HG.out]; rfl, Below.refl _ _⟩
theorem GenusOfCurve_spec_no (m : Int) (h : ¬ (1 ≤ m ∧ m ≤ 60)) (w : World) :
    Calls Tryd.prog 40 #[.int .i64 m] w fun e w' => e = .returned (.tuple #[.int .i64 0, .int .i64 2]) ∧ Below w.heap.size w w' := by
  have H := Lib.hid (show m < 1 ∨ 60 < m by omega)
  clear h
  go_enter Tryd.func40, Tryd.ntmps40
  go_wp2_with (go_at_call 74; refine (l01In_no _ _ _ _ H.out).mono ?_; rintro e w1 ⟨rfl, rfl⟩)
  go_ret2
  exact ⟨rfl, Below.refl _ _⟩

theorem ex_one {k : Int} (h1 : 1 ≤ k) (h2 : k ≤ 60) : ExP (fun _ => k) 1 := fun _ _ => ⟨h1, h2⟩
theorem alloc_bl (w : World) (ob : Obj) : Below w.heap.size w (w.alloc ob) := (Below.refl w.heap.size w).alloc (Nat.le_refl _) ob
/-! ValueCounts -/
theorem ValueCounts_spec_ok (p a k : Nat) (hp : primeN p = true) (h1 : 1 ≤ a) (h2 : a < p) (h3 : 1 ≤ k) (h4 : k ≤ 60) (w : World) :
    Calls Tryd.prog 27 #[.int .i64 (p : Int), .int .i64 (a : Int), .int .i64 (k : Int)] w fun e w' => ∃ a_ k_, e = .returned (.tuple #[.slice a_ p k_, .int .i64 0]) ∧ Sl true w' w.heap.size w'.heap.size (.slice a_ p k_) p (cnT (vN p a k) 0 p) ∧ Below w.heap.size w w' := by
  have hbd := primeN_bd hp
  have HP := Lib.hid hp
  have S1 := Lib.hid (one_madeS w (k : Int) (by unfold inR; omega) _ rfl)
  have HX := Lib.hid (ex_one (k := (k : Int)) (by omega) (by omega))
  have hal := alloc_bl w (.cells #[.int .i64 (k : Int)] 2)
  have hpi : (a : Int) ≤ (p : Int) - 1 := by omega
  clear hp
  go_enter Tryd.func27, Tryd.ntmps27
  go_wp2_with (first
    | (go_at_call 73; refine (l08Code_yes p HP.out _ S1.out HX.out).mono ?_; rintro e w1 ⟨rfl, b1⟩; have hz1 := b1.size)
    | (go_at_call 74; refine (l01In_yes _ _ _ _ (by omega) hpi).mono ?_; rintro e w2 ⟨rfl, rfl⟩)
    | (go_at_call 75; refine (l08Values_any p a k (by omega) hbd.2 (by omega) h4 _).mono ?_; rintro e w3 ⟨rfl, q3, b3, hz3⟩))
  simp only [World.size_alloc] at hz1
  go_ret2
  exact ⟨_, _, rfl, q3.wide (by omega) (by omega) (Nat.le_refl _), (hal.trans (b1.mono (by simp))).trans (b3.mono (by omega))⟩
theorem ValueCounts_spec_no (p a k : Int) (ha : inR a) (hk : inR k) (h : ¬ (PrP p ∧ 1 ≤ a ∧ a < p ∧ 1 ≤ k ∧ k ≤ 60)) (w : World) :
    Calls Tryd.prog 27 #[.int .i64 p, .int .i64 a, .int .i64 k] w fun e w' => e = .returned (.tuple #[.slice none 0 0, .int .i64 2]) ∧ Below w.heap.size w w' := by
  have S1 := Lib.hid (one_madeS w k hk _ rfl)
  have hal := alloc_bl w (.cells #[.int .i64 k] 2)
  by_cases hp : PrP p ∧ ExP (fun _ => k) 1
  · obtain ⟨hp, hx⟩ := hp
    have hx0 := hx 0 (by omega)
    obtain ⟨P, rfl⟩ := Int.eq_ofNat_of_zero_le hp.1
    have hP : primeN P = true := by have := hp.2; rwa [Int.toNat_natCast] at this
    have hbd := primeN_bd hP
    have HP := Lib.hid hP
    have HX := Lib.hid hx
    have H := Lib.hid (show a < 1 ∨ (P : Int) - 1 < a by
      rcases Int.lt_or_le a 1 with g | g
      · exact .inl g
      · rcases Int.lt_or_le ((P : Int) - 1) a with g2 | g2
        · exact .inr g2
        · exact absurd ⟨hp, g, by omega, hx0.1, hx0.2⟩ h)
    clear h hp hx hx0 hP
    go_enter Tryd.func27, Tryd.ntmps27
    go_wp2_with (first
      | (go_at_call 73; refine (l08Code_yes P HP.out _ S1.out HX.out).mono ?_; rintro e w1 ⟨rfl, b1⟩)
      | (go_at_call 74; refine (l01In_no _ _ _ _ H.out).mono ?_; rintro e w2 ⟨rfl, rfl⟩))
    go_ret2
    exact ⟨rfl, hal.trans (b1.mono (by simp))⟩
  · have H := Lib.hid hp
    clear h hp
    go_enter Tryd.func27, Tryd.ntmps27
    go_wp2_with (go_at_call 73; refine (l08Code_no p _ S1.out H.out).mono ?_; rintro e w1 ⟨rfl, b1⟩)
    go_ret2
    exact ⟨rfl, hal.trans (b1.mono (by simp))⟩

/-! Equations -/
section
variable {o o' : Bool} {lo hi lo' hi' : Nat} {v v' : Value} {n m : Nat} {fa fe : Nat → Int}
set_option maxHeartbeats 1000000 in
theorem l08Given_yes (p : Nat) (b : Int) (hp : primeN p = true) (hb0 : 0 ≤ b) (hb1 : b < (p : Int)) (h1 : 1 ≤ n) (h2 : n ≤ 4) (h : ∀ i, i < n → 1 ≤ fa i ∧ fa i < (p : Int) ∧ 1 ≤ fe i ∧ fe i ≤ 60) (w : World) (hs : Sl o w lo hi v n fa) (ht : Sl o' w lo' hi' v' n fe) :
    Calls Tryd.prog 62 #[.int .i64 (p : Int), v, v', .int .i64 b] w fun e w' => e = .returned (.int .i64 0) ∧ Below w.heap.size w w' := by
  have hbd := primeN_bd hp
  have HP := Lib.hid hp
  have H := Lib.hid h
  have HX := Lib.hid (show ExP fe n from fun i hi => ⟨(h i hi).2.2.1, (h i hi).2.2.2⟩)
  obtain ⟨g1, off1, k1, rfl, _, hg1, _, _, hc1, _⟩ := hs.at (by omega)
  obtain ⟨a2, k2, rfl⟩ := ht.shape
  have hs1 := hs.size
  have HC1 := Lib.hid hc1
  have HT := Lib.hid ht
  have hb2 : b ≤ (p : Int) - 1 := by omega
  clear hs ht hp h hc1
  go_enter Tryd.func62, Tryd.ntmps62
  go_wp2_with (first
    | (go_at_call 73; refine (l08Code_yes p HP.out _ HT.out HX.out).mono ?_; rintro e w1 ⟨rfl, b1⟩)
    | (go_at_call 74; refine (l01In_yes _ _ _ _ hb0 hb2).mono ?_; rintro e w2 ⟨rfl, rfl⟩))
  go_loopw [9, 10] (fun s9 s10 wr => ∃ i : Nat, i ≤ n ∧ s9 = .int .i64 0 ∧ s10 = .int .i64 (i : Int) ∧ Below w.heap.size w wr) (fun _ s10 _ => n - (intOf s10).toNat)
  case atStart => exact ⟨0, Nat.zero_le _, rfl, rfl, b1⟩
  case round =>
    obtain ⟨i, hi', rfl, rfl, hB⟩ := hrel
    by_cases hlt : i < n
    · have hci := (hB.cell (p := ⟨g1, off1 + i, none⟩) (by show g1 < _; omega)).trans (HC1.out i hlt)
      obtain ⟨j1, j2, _, _⟩ := H.out i hlt
      have j3 : fa i ≤ (p : Int) - 1 := by omega
      go_wp2_with (go_at_call 74; refine (l01In_yes _ _ _ _ j1 j3).mono ?_; rintro e w2 ⟨rfl, rfl⟩)
      go_roundw
      case rel => exact ⟨i + 1, by omega, rfl, by go_num, hB⟩
      case measure => simp [intOf]; omega
    · obtain rfl : i = n := by omega
      go_wp2
      go_ret
      exact ⟨rfl, hB⟩
set_option maxHeartbeats 2000000 in
theorem l08Given_no (p b : Int) (w : World) (hs : Sl o w lo hi v n fa) (ht : Sl o' w lo' hi' v' m fe) (h : ¬ ((PrP p ∧ 1 ≤ n ∧ n ≤ 4 ∧ m = n ∧ ∀ i, i < n → 1 ≤ fa i ∧ fa i < p ∧ 1 ≤ fe i ∧ fe i ≤ 60) ∧ 0 ≤ b ∧ b < p)) :
    Calls Tryd.prog 62 #[.int .i64 p, v, v', .int .i64 b] w fun e w' => e = .returned (.int .i64 2) ∧ Below w.heap.size w w' := by
  have hl1 := hs.len
  have hl2 := ht.len
  unfold maxLen at hl1 hl2
  by_cases hc : PrP p ∧ ExP fe m
  · obtain ⟨hp, hx⟩ := hc
    obtain ⟨P, rfl⟩ := Int.eq_ofNat_of_zero_le hp.1
    have hP : primeN P = true := by have := hp.2; rwa [Int.toNat_natCast] at this
    have hbd := primeN_bd hP
    have HP := Lib.hid hP
    have HX := Lib.hid hx
    by_cases h1 : 1 ≤ n ∧ n ≤ 4 ∧ m = n ∧ 0 ≤ b ∧ b < (P : Int)
    · obtain ⟨h1, h2, rfl, hb0, hb1⟩ := h1
      have HH := Lib.hid (show ¬ ∀ i, i < m → 1 ≤ fa i ∧ fa i < (P : Int) from fun k => h ⟨⟨hp, h1, h2, rfl, fun i hi => ⟨(k i hi).1, (k i hi).2, (hx i hi).1, (hx i hi).2⟩⟩, hb0, hb1⟩)
      have hb2 : b ≤ (P : Int) - 1 := by omega
      obtain ⟨g1, off1, k1, rfl, _, hg1, _, _, hc1, _⟩ := hs.at (by omega)
      obtain ⟨a2, k2, rfl⟩ := ht.shape
      have hs1 := hs.size
      have HC1 := Lib.hid hc1
      have HT := Lib.hid ht
      have HBD := Lib.hid hs.bd
      clear hs ht hp h hc1 hP hx
      go_enter Tryd.func62, Tryd.ntmps62
      go_wp2_with (first
        | (go_at_call 73; refine (l08Code_yes P HP.out _ HT.out HX.out).mono ?_; rintro e w1 ⟨rfl, b1⟩)
        | (go_at_call 74; refine (l01In_yes _ _ _ _ hb0 hb2).mono ?_; rintro e w2 ⟨rfl, rfl⟩))
      go_loopw [9, 10] (fun s9 s10 wr => ∃ i : Nat, i ≤ m ∧ s10 = .int .i64 (i : Int) ∧ (s9 = .int .i64 0 ∧ (∀ j, j < i → 1 ≤ fa j ∧ fa j < (P : Int)) ∨ s9 = .int .i64 2) ∧ Below w.heap.size w wr) (fun s9 s10 _ => 2 * (m - (intOf s10).toNat) + 1 - (intOf s9).toNat)
      case atStart => exact ⟨0, Nat.zero_le _, rfl, .inl ⟨rfl, fun j hj => absurd hj (Nat.not_lt_zero _)⟩, b1⟩
      case round =>
        obtain ⟨i, hi', rfl, hcs, hB⟩ := hrel
        rcases hcs with ⟨rfl, hall⟩ | rfl
        · have HA := Lib.hid hall
          clear hall
          by_cases hlt : i < m
          · have hci := (hB.cell (p := ⟨g1, off1 + i, none⟩) (by show g1 < _; omega)).trans (HC1.out i hlt)
            have hr := HBD.out i hlt
            by_cases hok : 1 ≤ fa i ∧ fa i < (P : Int)
            · obtain ⟨j1, j2⟩ := hok
              have j3 : fa i ≤ (P : Int) - 1 := by omega
              go_wp2_with (go_at_call 74; refine (l01In_yes _ _ _ _ j1 j3).mono ?_; rintro e w2 ⟨rfl, rfl⟩)
              go_roundw
              case rel => exact ⟨i + 1, by omega, by go_num, .inl ⟨rfl, fun j hj => by
                rcases Nat.lt_succ_iff_lt_or_eq.1 hj with h | h
                · exact HA.out j h
                · subst h; exact ⟨j1, j2⟩⟩, hB⟩
              case measure => simp [intOf]; omega
            · have HO := Lib.hid (show fa i < 1 ∨ (P : Int) - 1 < fa i by omega)
              clear hok
              go_wp2_with (go_at_call 74; refine (l01In_no _ _ _ _ HO.out).mono ?_; rintro e w2 ⟨rfl, rfl⟩)
              go_roundw
              case rel => exact ⟨i + 1, by omega, by go_num, .inr rfl, hB⟩
              case measure => simp [intOf]; omega
          · obtain rfl : i = m := by omega
            exact absurd HA.out HH.out
        · by_cases hlt : i < m
          · go_wp2
            go_ret
            exact ⟨rfl, hB⟩
          · obtain rfl : i = m := by omega
            go_wp2
            go_ret
            exact ⟨rfl, hB⟩
    · obtain ⟨a1, k1, rfl⟩ := hs.shape
      obtain ⟨a2, k2, rfl⟩ := ht.shape
      have HT := Lib.hid ht
      have hbb : ∀ (r : Value), True := fun _ => trivial
      clear hbb
      clear h hp hP hx hs ht
      by_cases g1 : 1 ≤ n
      · by_cases g2 : n ≤ 4
        · by_cases g3 : m = n
          · have HB := Lib.hid (show b < 0 ∨ (P : Int) - 1 < b by omega)
            subst g3
            clear h1
            go_enter Tryd.func62, Tryd.ntmps62
            go_wp2_with (first
              | (go_at_call 73; refine (l08Code_yes P HP.out _ HT.out HX.out).mono ?_; rintro e w1 ⟨rfl, b1⟩)
              | (go_at_call 74; refine (l01In_no _ _ _ _ HB.out).mono ?_; rintro e w2 ⟨rfl, rfl⟩))
            go_rounds 1
            all_goals go_ret
            all_goals exact ⟨rfl, b1⟩
          · have hne : ((n : Int) != (m : Int)) = true := bne_iff_ne.2 (by omega)
            clear h1
            go_enter Tryd.func62, Tryd.ntmps62
            go_wp2_with (go_at_call 73; refine (l08Code_yes P HP.out _ HT.out HX.out).mono ?_; rintro e w1 ⟨rfl, b1⟩)
            go_rounds 1
            all_goals go_ret
            all_goals exact ⟨rfl, b1⟩
        · clear h1
          go_enter Tryd.func62, Tryd.ntmps62
          go_wp2_with (go_at_call 73; refine (l08Code_yes P HP.out _ HT.out HX.out).mono ?_; rintro e w1 ⟨rfl, b1⟩)
          go_rounds 1
          all_goals go_ret
          all_goals exact ⟨rfl, b1⟩
      · obtain rfl : n = 0 := by omega
        clear h1
        go_enter Tryd.func62, Tryd.ntmps62
        go_wp2_with (go_at_call 73; refine (l08Code_yes P HP.out _ HT.out HX.out).mono ?_; rintro e w1 ⟨rfl, b1⟩)
        go_rounds 1
        all_goals go_ret
        all_goals exact ⟨rfl, b1⟩
  · have H := Lib.hid hc
    obtain ⟨a1, k1, rfl⟩ := hs.shape
    obtain ⟨a2, k2, rfl⟩ := ht.shape
    have HT := Lib.hid ht
    clear h hc hs ht
    by_cases g1 : n = 0
    · subst g1
      go_enter Tryd.func62, Tryd.ntmps62
      go_wp2_with (go_at_call 73; refine (l08Code_no p _ HT.out H.out).mono ?_; rintro e w1 ⟨rfl, b1⟩)
      go_rounds 1
      all_goals go_ret
      all_goals exact ⟨rfl, b1⟩
    · have g2 : 0 < n := by omega
      go_enter Tryd.func62, Tryd.ntmps62
      go_wp2_with (go_at_call 73; refine (l08Code_no p _ HT.out H.out).mono ?_; rintro e w1 ⟨rfl, b1⟩)
      go_rounds 1
      all_goals go_ret
      all_goals exact ⟨rfl, b1⟩
end
end Go.Proofs.YtacffobbbcfbcaaDoor
