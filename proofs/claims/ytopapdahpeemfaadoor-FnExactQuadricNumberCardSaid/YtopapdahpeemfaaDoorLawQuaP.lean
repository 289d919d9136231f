/- QuadricNumber answers as its model, for every argument. No condition. -/
import Derived.Test.YtopapdahpeemfaaDoorEqD
import Derived.Test.YtopapdahpeemfaaDoorEqQ
import Derived.Test.YtopapdahpeemfaaDoorExp
import Derived.Test.YtopapdahpeemfaaDoorEqF
import Derived.Test.YtopapdahpeemfaaDoorPlcA
import Derived.Deep.RegionLaw
import Derived.BigRegion
import Derived.Test.YtopapdahpeemfaaDoorRow
import Derived.Test.YtopapdahpeemfaaDoorPlcF
import Derived.BigQuiet
import Derived.Conc.Holds
import Derived.Leaving
import Derived.Handed
import Derived.Test.YtopapdahpeemfaaDoorEqA
import Derived.Test.YtopapdahpeemfaaDoorCards
import Derived.Test.YtopapdahpeemfaaDoorTie
import Derived.ChangeSame
import Derived.ChangeVars
import Derived.JoinedOf
import Derived.RowKitTokens
import Derived.LaidLaws
import Derived.LaidMore
import Derived.LaidHandle
import Derived.MakeChecks
import Derived.Stop.LaidErr
import Derived.Stop.Joined
import Derived.SevenTiedAt
import Derived.Test.YtopapdahpeemfaaDoorCopy
import Derived.Deep.RegionHeld3
import Derived.Deep.DeepCutAuto
import Derived.ShutString
import Derived.ChangeOld
import Derived.Lib.SmallJoins
import Derived.Test.YtopapdahpeemfaaDoorInit
namespace Go.Proofs.YtopapdahpeemfaaDoor
set_option linter.unusedVariables false
set_option linter.unusedSimpArgs false
section
open Go.RowKit Go.ChangeShapes Go.Sort
set_option linter.unusedVariables false
set_option linter.unusedSimpArgs false
set_option maxRecDepth 100000

/-- The number whose symbol is asked, behind i factors. -/
def nuT (p : Nat) (fa : Nat → Int) (h : Nat) : Nat → Int
  | 0 => (pwr p (p - 1) h : Nat)
  | i + 1 => nuT p fa h i * fa i % (p : Int)
theorem nuT_bd {p : Nat} (hp : 2 ≤ p) (fa : Nat → Int) (h : Nat) : ∀ i, 0 ≤ nuT p fa h i ∧ nuT p fa h i < p
  | 0 => by
    have := pwr_bd (p := p) (g := p - 1) hp h
    show 0 ≤ ((pwr p (p - 1) h : Nat) : Int) ∧ ((pwr p (p - 1) h : Nat) : Int) < p
    omega
  | i + 1 => ⟨Int.emod_nonneg _ (by omega), Int.emod_lt_of_pos _ (by omega)⟩
/-- The number of solutions, by the rule. -/
def quV (p n : Nat) (fa : Nat → Int) (b : Int) : Int :=
  if n % 2 = 1 then ((p ^ (n - 1) : Nat) : Int) + ((p ^ (n / 2) : Nat) : Int) * legN p (nuT p fa (n / 2) n * b % (p : Int))
  else if b = 0 then ((p ^ (n - 1) : Nat) : Int) + (((p : Int) - 1) * ((p ^ (n / 2 - 1) : Nat) : Int)) * legN p (nuT p fa (n / 2) n)
  else ((p ^ (n - 1) : Nat) : Int) + (-((p ^ (n / 2 - 1) : Nat) : Int)) * legN p (nuT p fa (n / 2) n)
theorem leg_bd (p : Nat) (x : Int) : -1 ≤ legN p x ∧ legN p x ≤ 1 := by
  unfold legN
  split
  · omega
  · split <;> omega
theorem pw_bd {p k : Nat} (hp : p ≤ 61) (hk : k ≤ 4) : ((p ^ k : Nat) : Int) ≤ 13845841 := by
  have hb : p ^ k ≤ 61 ^ 4 := Nat.le_trans (Nat.pow_le_pow_left hp k) (Nat.pow_le_pow_right (by omega) (by omega))
  omega
theorem mul_leg {a l A : Int} (h0 : -A ≤ a) (h1 : a ≤ A) (l0 : -1 ≤ l) (l1 : l ≤ 1) : -A ≤ a * l ∧ a * l ≤ A := by
  have h : l = -1 ∨ l = 0 ∨ l = 1 := by omega
  rcases h with rfl | rfl | rfl
  · rw [Int.mul_neg, Int.mul_one]; omega
  · rw [Int.mul_zero]; omega
  · rw [Int.mul_one]; omega
set_option maxHeartbeats 4000000 in
theorem quadricByRule_any (p g n : Nat) (fa fe : Nat → Int) (b : Int) (hp : primeN p = true) (hn1 : 1 ≤ n) (hn4 : n ≤ 4) (hb0 : 0 ≤ b) (hb1 : b < (p : Int)) (h : ∀ i, i < n → 1 ≤ fa i ∧ fa i < (p : Int)) (w : World) (hP : Pts w g n fa fe) :
    Calls Tryd.prog 15 #[.int .i64 (p : Int), .slice (some ⟨g, 0, none⟩) n n, .int .i64 b] w fun e w' => e = .returned (.int .i64 (quV p n fa b)) ∧ Below w.heap.size w w' := by
  have hbd := primeN_bd hp
  have HP := Lib.hid hp
  have H := Lib.hid h
  have hg := hP.1
  have HPT := Lib.hid hP
  obtain ⟨V, HQV⟩ : ∃ V, quV p n fa b = V := ⟨_, rfl⟩
  rw [HQV]
  unfold quV at HQV
  replace HQV := Lib.hid HQV
  obtain ⟨hh, hhe⟩ : ∃ hh, n / 2 = hh := ⟨_, rfl⟩
  have hq1 : (n : Int) / 2 = (hh : Int) := by omega
  have hq2 : (n : Int).tdiv 2 = (hh : Int) := by rw [Int.tdiv_eq_ediv_of_nonneg (by omega)]; exact hq1
  have hh2 : hh ≤ 2 := by omega
  have hnm : (n : Int) - 1 = ((n - 1 : Nat) : Int) := by omega
  have hpm : (p : Int) - 1 = ((p - 1 : Nat) : Int) := by omega
  have hp0 : ¬ p = 0 := by omega
  rw [hhe] at HQV
  have HNM := Lib.hid hnm
  have HPM := Lib.hid hpm
  have HHE := Lib.hid hhe
  clear hp h hP hhe hnm
  go_enter Tryd.func15, Tryd.ntmps15
  go_wp2_with (go_at_call 25; refine (powerModulo_any p (p - 1) hh (by omega) hbd.2 (by omega) (by omega) _).mono ?_; rintro e w1 ⟨rfl, m1, rfl⟩)
  have B1 := Lib.hid (below_drewN (Below.refl w.heap.size w) m1)
  go_loopw [9, 26] (fun s9 s26 wr => ∃ i : Nat, i ≤ n ∧ s9 = .int .i64 (nuT p fa hh i) ∧ s26 = .int .i64 (i : Int) ∧ Below w.heap.size w wr) (fun _ s26 _ => n - (intOf s26).toNat)
  case atStart => exact ⟨0, by omega, rfl, rfl, B1.out⟩
  case round =>
    clear B1
    obtain ⟨i, hi', rfl, rfl, hB⟩ := hrel
    have hnu := nuT_bd (p := p) (by omega) fa hh i
    by_cases hlt : i < n
    · obtain ⟨k1, k2⟩ := H.out i hlt
      have hPr := HPT.out.keepB hB hg
      obtain ⟨hc0, hc1⟩ := hPr.2.1 i hlt
      have HS := Lib.hid (show nuT p fa hh (i + 1) = nuT p fa hh i * fa i % (p : Int) from rfl)
      have HB := Lib.hid hB
      have hBs := hB.size
      have bx := Box.made wr #[.int .i64 (fa i), .int .i64 (fe i)] 46 [.int .i64 (fa i), .int .i64 (fe i)] (fun j v h => by simpa using h)
      have d0 := bx.2.1 0 _ rfl
      obtain ⟨y, hy⟩ : ∃ y, nuT p fa hh i = y := ⟨_, rfl⟩
      obtain ⟨z, hz⟩ : ∃ z, fa i = z := ⟨_, rfl⟩
      rw [hy] at hnu HS ⊢
      rw [hz] at HS hc0 d0 k1 k2
      have hm0 : 0 ≤ y * z := Int.mul_nonneg hnu.1 (by omega)
      have hm1 : y * z ≤ 61 * 61 := Int.mul_le_mul (by omega) (by omega) (by omega) (by omega)
      clear hy hz hPr bx hB
      go_wp2
      go_roundw
      case rel => exact ⟨i + 1, by omega, by rw [HS.out], by go_num, HB.out.alloc hBs _⟩
      case measure => simp [intOf]; omega
    · obtain rfl : i = n := by omega
      have HB := Lib.hid hB
      have hBs := hB.size
      clear hB
      have hpn := pw_bd (p := p) (k := i - 1) hbd.2 (by omega)
      have hpn0 : 0 ≤ ((p ^ (i - 1) : Nat) : Int) := Int.natCast_nonneg _
      have HWN := Lib.hid (fun w => wholePower_any p (i - 1) hbd.2 (by omega) w)
      by_cases ho : i % 2 = 1
      · rw [if_pos ho] at HQV
        have hob : ((i : Int) % 2 == 1) = true := by rw [beq_iff_eq]; omega
        have hpw := pw_bd (p := p) (k := hh) hbd.2 (by omega)
        have hpw0 : 0 ≤ ((p ^ hh : Nat) : Int) := Int.natCast_nonneg _
        have hr0 := Int.emod_nonneg (nuT p fa hh i * b) (b := (p : Int)) (by omega)
        have hr1 := Int.emod_lt_of_pos (nuT p fa hh i * b) (b := (p : Int)) (by omega)
        have hl := leg_bd p (nuT p fa hh i * b % (p : Int))
        have HLG := Lib.hid (fun w => LegendreSymbol_impl_ok p (nuT p fa hh i * b % (p : Int)) HP.out (by omega) (by omega) w)
        obtain ⟨y, hy⟩ : ∃ y, nuT p fa hh i = y := ⟨_, rfl⟩
        rw [hy] at hnu HQV HLG hr0 hr1 hl ⊢
        obtain ⟨L, hL⟩ : ∃ L, legN p (y * b % (p : Int)) = L := ⟨_, rfl⟩
        rw [hL] at HQV HLG hl
        obtain ⟨q1, e1⟩ : ∃ q, ((p ^ (i - 1) : Nat) : Int) = q := ⟨_, rfl⟩
        obtain ⟨q2, e2⟩ : ∃ q, ((p ^ hh : Nat) : Int) = q := ⟨_, rfl⟩
        have E1 := Lib.hid e1
        have E2 := Lib.hid e2
        rw [e1] at HQV hpn hpn0
        rw [e2] at HQV hpw hpw0
        have hml := mul_leg (a := q2) (l := L) (A := 13845841) (by omega) hpw hl.1 hl.2
        have hm0 : 0 ≤ y * b := Int.mul_nonneg hnu.1 hb0
        have hm1 : y * b ≤ 61 * 61 := Int.mul_le_mul (by omega) (by omega) (by omega) (by omega)
        have HW2 := Lib.hid (fun w => wholePower_any p hh hbd.2 (by omega) w)
        have HW1 := HWN
        rw [e2] at HW2
        rw [e1, ← HNM.out] at HW1
        clear hy hL e1 e2
        go_wp2_with (first
          | (go_at_call 27; refine (HLG.out _).mono ?_; rintro e w3 ⟨rfl, b3⟩)
          | (go_at_call 26; first
              | (with_reducible refine (HW2.out _).mono ?_; rintro e w2 ⟨rfl, rfl⟩)
              | (with_reducible refine (HW1.out _).mono ?_; rintro e w4 ⟨rfl, rfl⟩)))
        go_ret
        exact ⟨by rw [← HQV.out]; rfl, HB.out.trans (b3.mono hBs)⟩
      · rw [if_neg ho] at HQV
        have hob : ((i : Int) % 2 == 1) = false := by rw [beq_eq_false_iff_ne]; omega
        have hhe := HHE.out
        have hh1 : 1 ≤ hh := by omega
        have hpw := pw_bd (p := p) (k := hh - 1) hbd.2 (by omega)
        have hpw0 : 0 ≤ ((p ^ (hh - 1) : Nat) : Int) := Int.natCast_nonneg _
        have hl := leg_bd p (nuT p fa hh i)
        have HLG := Lib.hid (fun w => LegendreSymbol_impl_ok p (nuT p fa hh i) HP.out (by omega) (by omega) w)
        replace HQV := HQV.out
        obtain ⟨y, hy⟩ : ∃ y, nuT p fa hh i = y := ⟨_, rfl⟩
        rw [hy] at hnu HQV HLG hl ⊢
        obtain ⟨L, hL⟩ : ∃ L, legN p y = L := ⟨_, rfl⟩
        rw [hL] at HQV HLG hl
        obtain ⟨q1, e1⟩ : ∃ q, ((p ^ (i - 1) : Nat) : Int) = q := ⟨_, rfl⟩
        obtain ⟨q2, e2⟩ : ∃ q, ((p ^ (hh - 1) : Nat) : Int) = q := ⟨_, rfl⟩
        rw [e1] at HQV hpn hpn0
        rw [e2] at HQV hpw hpw0
        have hhm : (hh : Int) - 1 = ((hh - 1 : Nat) : Int) := by omega
        have HW2 := Lib.hid (fun w => wholePower_any p (hh - 1) hbd.2 (by omega) w)
        have HW1 := HWN
        rw [e2, ← hhm] at HW2
        rw [e1, ← HNM.out] at HW1
        clear hy hL e1 e2 hhm hhe
        by_cases hb : b = 0
        · skip
          have hbb : (b == 0) = true := by rw [beq_iff_eq]; exact hb
          rw [if_pos hb, HPM.out] at HQV
          have hwt : 0 ≤ ((p - 1 : Nat) : Int) * q2 ∧ ((p - 1 : Nat) : Int) * q2 ≤ 61 * 13845841 := ⟨Int.mul_nonneg (by omega) hpw0, Int.mul_le_mul (by omega) hpw hpw0 (by omega)⟩
          have hml := mul_leg (a := ((p - 1 : Nat) : Int) * q2) (l := L) (A := 61 * 13845841) (by omega) hwt.2 hl.1 hl.2
          replace HQV := Lib.hid HQV
          clear hb
          go_wp2_with (first
            | (go_at_call 27; refine (HLG.out _).mono ?_; rintro e w3 ⟨rfl, b3⟩)
            | (go_at_call 26; first
                | (with_reducible refine (HW2.out _).mono ?_; rintro e w2 ⟨rfl, rfl⟩)
                | (with_reducible refine (HW1.out _).mono ?_; rintro e w4 ⟨rfl, rfl⟩)))
          go_ret
          exact ⟨by rw [← HQV.out]; rfl, HB.out.trans (b3.mono hBs)⟩
        · skip
          have hbb : (b == 0) = false := beq_eq_false_iff_ne.2 hb
          rw [if_neg hb] at HQV
          have hml := mul_leg (a := -q2) (l := L) (A := 13845841) (by omega) (by omega) hl.1 hl.2
          replace HQV := Lib.hid HQV
          clear hb
          go_wp2_with (first
            | (go_at_call 27; refine (HLG.out _).mono ?_; rintro e w3 ⟨rfl, b3⟩)
            | (go_at_call 26; first
                | (with_reducible refine (HW2.out _).mono ?_; rintro e w2 ⟨rfl, rfl⟩)
                | (with_reducible refine (HW1.out _).mono ?_; rintro e w4 ⟨rfl, rfl⟩)))
          go_ret
          exact ⟨by rw [← HQV.out]; rfl, HB.out.trans (b3.mono hBs)⟩
end

section
open Go.RowKit Go.ChangeShapes Go.Sort
set_option linter.unusedVariables false
set_option linter.unusedSimpArgs false
set_option maxRecDepth 100000
theorem St.bel {W w : World} {bs : List (Nat × List Value)} {ss : List SlF} (h : St W w bs ss) : Below W.heap.size W w := h.1
set_option maxHeartbeats 2000000 in
theorem Repeat_zero (w : World) {o : Bool} {lo hi : Nat} {v : Value} (hs : Sl o w lo hi v 1 (fun _ => 2)) :
    Calls Tryd.prog 13 #[v, .int .i64 0] w fun r w' => ∃ a c, r = .returned (.slice a 0 c) ∧ Sl true w' w.heap.size w'.heap.size (.slice a 0 c) 0 (fun _ => 2) ∧ Below w.heap.size w w' := by
  obtain ⟨g, off, cap, rfl, _⟩ := hs.at (by omega)
  have hmk := run_make_row' (P := Tryd.prog) 22 2 (.int .i64 0) 8 Tryd.underlying22 Tryd.info2 rfl .i64 .i64 0 (by omega) (by omega)
  have q0 := Sl.made w (madeCells #[.int .i64 0] 0) 2 0 0 (fun _ => 0) (Nat.le_refl _) (by unfold maxLen; omega) (fun j hj => by simp [inR]) (fun j hj => absurd hj (Nat.not_lt_zero _))
  have hMG := fun w => Mul_gen 0 (by omega) w
  rw [show ((0 : Nat) : Int) = 0 from rfl] at hMG hmk
  have HMG := Lib.hid hMG
  have hcp := fun W => run_copy_none (P := Tryd.prog) W 22 22 3 2 (some ⟨w.heap.size, 0, none⟩) (some ⟨g, off, none⟩) 0 0 1 cap Tryd.underlying22 Tryd.size1_2 rfl
  clear hs hMG
  go_enter Tryd.func13, Tryd.ntmps13
  go_wp2_with (go_at_call 23; refine (HMG.out _).mono ?_; rintro r w1 ⟨rfl, rfl⟩)
  all_goals (try go_wp2)
  go_rounds 1
  all_goals go_ret
  all_goals exact ⟨_, _, rfl, (q0.congr (f' := fun _ => 2) (fun j hj => absurd hj (Nat.not_lt_zero _))).wide (Nat.le_refl _) (by simp) (Nat.le_refl _), (Below.refl w.heap.size w).alloc (Nat.le_refl _) _⟩
theorem Repeat_all (n : Nat) (hn : n ≤ 1048576) (w : World) {o : Bool} {lo hi : Nat} {v : Value} (hs : Sl o w lo hi v 1 (fun _ => 2)) :
    Calls Tryd.prog 13 #[v, .int .i64 (n : Int)] w fun r w' => ∃ a c, r = .returned (.slice a n c) ∧ Sl true w' w.heap.size w'.heap.size (.slice a n c) n (fun _ => 2) ∧ Below w.heap.size w w' := by
  rcases Nat.eq_zero_or_pos n with h | h
  · subst h
    have g := Repeat_zero w hs
    rw [show ((0 : Nat) : Int) = 0 from rfl]
    exact g
  · exact (Repeat_two n h hn w hs).mono fun e w' ⟨G, he, q, b⟩ => ⟨_, _, he, q, b⟩
section
variable {o : Bool} {lo hi : Nat} {v : Value} {n : Nat} {fa : Nat → Int}
set_option maxHeartbeats 4000000 in
theorem QuadricNumber_cl_ok (b0 b1 b2 p : Nat) (b : Int) (hp : primeN p = true) (hb0 : 0 ≤ b) (hb1 : b < (p : Int)) (h1 : 1 ≤ n) (h2 : n ≤ 4) (h : ∀ i, i < n → 1 ≤ fa i ∧ fa i < (p : Int)) (w : World) (x0 : Box w b0 [.int .i64 (p : Int)]) (x1 : Box w b1 [v]) (x2 : Box w b2 [.int .i64 b]) (hs : Sl o w lo hi v n fa) :
    Calls Tryd.prog 11 #[.pointer (some ⟨b0, 0, none⟩), .pointer (some ⟨b1, 0, none⟩), .pointer (some ⟨b2, 0, none⟩)] w fun e w' => e = .returned (.int .i64 (quV p n fa b)) ∧ Below w.heap.size w w' := by
  have hbd := primeN_bd hp
  have HP := Lib.hid hp
  have H := Lib.hid h
  have HE := Lib.hid (show ∀ i, i < n → 1 ≤ fa i ∧ fa i < (p : Int) ∧ 1 ≤ (fun _ => (2 : Int)) i ∧ (fun _ => (2 : Int)) i ≤ 60 from fun i hi => ⟨(h i hi).1, (h i hi).2, by show (1 : Int) ≤ 2; omega, by show (2 : Int) ≤ 60; omega⟩)
  have HR := Lib.hid (show ResP (fun _ => b) 1 (p : Int) from fun i hi => ⟨hb0, hb1⟩)
  obtain ⟨av, cv, rfl⟩ := hs.shape
  have c0 := x0.c0
  have c1 := x1.c0
  have ST := Lib.hid ((((((((St.start w).addBox b0 [.int .i64 (p : Int)] x0).addBox b1 [.slice av n cv] x1).addBox b2 [.int .i64 b] x2).addSl ⟨o, lo, hi, .slice av n cv, n, fa⟩ hs).alloc (.cells #[.int .i64 2] 2)).addSl ⟨true, w.heap.size, w.heap.size + 1, .slice (some ⟨w.heap.size, 0, none⟩) 1 1, 1, fun _ => 2⟩ (one_made w 2 (by unfold inR; omega) _ rfl)).drew)
  clear hp h hs x0 x1 x2
  go_enter Tryd.func11, Tryd.ntmps11
  go_wp2
  go_region_held3 (fun w' => w'.cell? ⟨b0, 0, none⟩ = some (.int .i64 (p : Int)) ∧ w'.cell? ⟨b1, 0, none⟩ = some (.slice av n cv))
    (first | exact ⟨c0, c1⟩ | exact ⟨u0, u1⟩ | exact ⟨v0, v1⟩ | go_keep)
    (first
      | (go_at_call 13; with_reducible refine (Repeat_all n (by omega) _ (ST.out.sl 0 ⟨true, w.heap.size, w.heap.size + 1, .slice (some ⟨w.heap.size, 0, none⟩) 1 1, 1, fun _ => 2⟩ rfl)).mono ?_; rintro e w1 ⟨a1, k1, rfl, q1, bl1⟩; have st1 := ST.out.keep bl1; have u0 := (st1.box 2 (b0, [.int .i64 (p : Int)]) rfl).c0; have u1 := (st1.box 1 (b1, [.slice av n cv]) rfl).c0)
      | (go_at_call 12; with_reducible refine (partsOf_ok p HP.out _ (st1.sl 1 ⟨o, lo, hi, .slice av n cv, n, fa⟩ rfl) q1 h1 h2 HE.out).mono ?_; rintro e w2 ⟨rfl, P2, bl2⟩; have st2 := st1.keep bl2; have v0 := (st2.box 2 (b0, [.int .i64 (p : Int)]) rfl).c0; have v1 := (st2.box 1 (b1, [.slice av n cv]) rfl).c0))
  have v2 := (st2.box 0 (b2, [.int .i64 b]) rfl).c0
  have ST2 := Lib.hid st2
  have sB := one_made w2 b (by unfold inR; omega) _ rfl
  have bA := (Below.refl w2.heap.size w2).alloc (Nat.le_refl _) (.cells #[.int .i64 b] 2)
  have P3 := Lib.hid (P2.keep bA)
  have z0 := ((ST2.out.keep bA).box 2 (b0, [.int .i64 (p : Int)]) rfl).c0
  have z2 := ((ST2.out.keep bA).box 0 (b2, [.int .i64 b]) rfl).c0
  have BB := (ST2.out.keep bA).1
  have hsB := BB.size
  have SB := Lib.hid sB
  clear st1 st2 u0 u1 v1 P2 bl1 q1 bA sB c0 c1
  go_wp2_with (first
    | (go_at_call 14; with_reducible refine (demandResidues_ok _ _ (by omega) (by omega) SB.out HR.out).mono ?_; rintro e w3 ⟨rfl, rfl⟩)
    | (go_at_call 15; with_reducible refine (quadricByRule_any p _ n fa _ b HP.out h1 h2 hb0 hb1 H.out _ P3.out).mono ?_; rintro e w4 ⟨rfl, b4⟩))
  go_ret
  exact ⟨rfl, BB.trans (b4.mono hsB)⟩
set_option maxHeartbeats 4000000 in
theorem QuadricNumber_cl_no (b0 b1 b2 : Nat) (p b : Int) (hb : inR b) (hn : n ≤ 1048576) (h : ¬ (EqP p n fa n (fun _ => 2) ∧ 0 ≤ b ∧ b < p)) (w : World) (ad : Addr) (hG : Gat w ad) (x0 : Box w b0 [.int .i64 p]) (x1 : Box w b1 [v]) (x2 : Box w b2 [.int .i64 b]) (hs : Sl o w lo hi v n fa) :
    Calls Tryd.prog 11 #[.pointer (some ⟨b0, 0, none⟩), .pointer (some ⟨b1, 0, none⟩), .pointer (some ⟨b2, 0, none⟩)] w fun e w' => e = .panicked [{ v := .iface 69 (.pointer (some ad)), recovered := false }] ∧ Below w.heap.size w w' := by
  obtain ⟨av, cv, rfl⟩ := hs.shape
  have c0 := x0.c0
  have c1 := x1.c0
  have HG := Lib.hid hG
  have ST := Lib.hid ((((((((St.start w).addBox b0 [.int .i64 p] x0).addBox b1 [.slice av n cv] x1).addBox b2 [.int .i64 b] x2).addSl ⟨o, lo, hi, .slice av n cv, n, fa⟩ hs).alloc (.cells #[.int .i64 2] 2)).addSl ⟨true, w.heap.size, w.heap.size + 1, .slice (some ⟨w.heap.size, 0, none⟩) 1 1, 1, fun _ => 2⟩ (one_made w 2 (by unfold inR; omega) _ rfl)).drew)
  clear hs x0 x1 x2 hG
  by_cases hE : EqP p n fa n (fun _ => 2)
  · have HR := Lib.hid (show ¬ ResP (fun _ => b) 1 p from fun g => h ⟨hE, (g 0 (by omega)).1, (g 0 (by omega)).2⟩)
    obtain ⟨hp, h1, h2, _, hall⟩ := hE
    obtain ⟨P, rfl⟩ := Int.eq_ofNat_of_zero_le hp.1
    have HP := Lib.hid (show primeN P = true by have := hp.2; rwa [Int.toNat_natCast] at this)
    have hbd := primeN_bd HP.out
    have HE := Lib.hid hall
    clear h hp hall
    go_enter Tryd.func11, Tryd.ntmps11
    go_wp2
    go_region_held3 (fun w' => w'.cell? ⟨b0, 0, none⟩ = some (.int .i64 (P : Int)) ∧ w'.cell? ⟨b1, 0, none⟩ = some (.slice av n cv))
      (first | exact ⟨c0, c1⟩ | exact ⟨u0, u1⟩ | exact ⟨v0, v1⟩ | go_keep)
      (first
        | (go_at_call 13; with_reducible refine (Repeat_all n hn _ (ST.out.sl 0 ⟨true, w.heap.size, w.heap.size + 1, .slice (some ⟨w.heap.size, 0, none⟩) 1 1, 1, fun _ => 2⟩ rfl)).mono ?_; rintro e w1 ⟨a1, k1, rfl, q1, bl1⟩; have st1 := ST.out.keep bl1; have u0 := (st1.box 2 (b0, [.int .i64 (P : Int)]) rfl).c0; have u1 := (st1.box 1 (b1, [.slice av n cv]) rfl).c0)
        | (go_at_call 12; with_reducible refine (partsOf_ok P HP.out _ (st1.sl 1 ⟨o, lo, hi, .slice av n cv, n, fa⟩ rfl) q1 h1 h2 HE.out).mono ?_; rintro e w2 ⟨rfl, P2, bl2⟩; have st2 := st1.keep bl2; have v0 := (st2.box 2 (b0, [.int .i64 (P : Int)]) rfl).c0; have v1 := (st2.box 1 (b1, [.slice av n cv]) rfl).c0))
    have v2 := (st2.box 0 (b2, [.int .i64 b]) rfl).c0
    have BL2 := st2.1
    have sB := Lib.hid (one_made w2 b hb _ rfl)
    have bA := (Below.refl w2.heap.size w2).alloc (Nat.le_refl _) (.cells #[.int .i64 b] 2)
    have BL1 := BL2.trans (bA.mono BL2.size)
    have HG2 := Lib.hid (HG.out.keep BL1)
    clear st1 st2 u0 u1 v1 P2 bl1 bl2 q1 c0 c1
    go_wp2_with (go_at_call 14; with_reducible refine (demandResidues_no _ _ ad HG2.out (by omega) (by omega) sB.out HR.out).mono ?_; rintro e w3 ⟨rfl, rfl⟩)
    first | exact ⟨rfl, BL1⟩ | exact ⟨rfl, rfl, BL1⟩
  · have H := Lib.hid hE
    clear h hE
    go_enter Tryd.func11, Tryd.ntmps11
    go_wp2
    go_region_held (fun w' => w'.cell? ⟨b0, 0, none⟩ = some (.int .i64 p) ∧ w'.cell? ⟨b1, 0, none⟩ = some (.slice av n cv))
      (first | exact hF.out.elim | exact ⟨c0, c1⟩ | exact ⟨u0, u1⟩ | go_keep)
      (first
        | (go_at_call 13; with_reducible refine (Repeat_all n hn _ (ST.out.sl 0 ⟨true, w.heap.size, w.heap.size + 1, .slice (some ⟨w.heap.size, 0, none⟩) 1 1, 1, fun _ => 2⟩ rfl)).mono ?_; rintro e w1 ⟨a1, k1, rfl, q1, bl1⟩; have st1 := ST.out.keep bl1; have u0 := (st1.box 2 (b0, [.int .i64 p]) rfl).c0; have u1 := (st1.box 1 (b1, [.slice av n cv]) rfl).c0; have HG1 := Lib.hid (HG.out.keep st1.bel))
        | (go_at_call 12; refine (Classical.em False).symm.elim (fun _ => ?_) (fun hF0 => ?_)
           · refine (partsOf_no p _ ad HG1.out (st1.sl 1 ⟨o, lo, hi, .slice av n cv, n, fa⟩ rfl) q1 H.out).mono ?_
             rintro e w2 ⟨rfl, bl2⟩
             have BL1 : Below w.heap.size w w2 := st1.bel.trans (bl2.mono st1.bel.size)
             go_big_unhide; dsimp only [bodyPost]; (first | exact ⟨rfl, BL1⟩ | exact ⟨rfl, rfl, BL1⟩)
           have hF := Lib.hid hF0
           clear hF0
           refine Calls.mono (R := fun e w' => e = .returned (.slice none 0 0)) hF.out.elim ?_
           rintro e w2 rfl))
    all_goals exact hF.out.elim

set_option maxHeartbeats 2000000 in
theorem QuadricNumber_impl_ok (p : Nat) (b : Int) (hp : primeN p = true) (hb0 : 0 ≤ b) (hb1 : b < (p : Int)) (h1 : 1 ≤ n) (h2 : n ≤ 4) (h : ∀ i, i < n → 1 ≤ fa i ∧ fa i < (p : Int)) (w : World) (h_v : Sl o w lo hi v n fa) :
    Calls Tryd.prog 6 #[.int .i64 (p : Int), v, .int .i64 b] w fun e w' => e = .returned (.tuple #[.int .i64 (quV p n fa b), .int .i64 0]) ∧ Below w.heap.size w w' := by
  obtain ⟨a_v, c_v, rfl⟩ := h_v.shape
  have ST := (((((((St.start w).alloc (.cells #[.int .i64 (p : Int)] 2)).addBox w.heap.size [.int .i64 (p : Int)] (Box.made _ _ _ _ (fun j v h => by simpa using h))).alloc (.cells #[.slice a_v n c_v] 22)).addBox (w.heap.size + 1) [.slice a_v n c_v] (Box.new _ _ _ _ (by simp))).alloc (.cells #[.int .i64 b] 2)).addBox (w.heap.size + 1 + 1) [.int .i64 b] (Box.new _ _ _ _ (by simp)))
  have hz : w.heap.size ≤ (((w.alloc (.cells #[.int .i64 (p : Int)] 2)).alloc (.cells #[.slice a_v n c_v] 22)).alloc (.cells #[.int .i64 b] 2)).heap.size := ST.1.size
  have bx0 := (ST.alloc (.cells #[.int .i64 0] 2)).box 2 (w.heap.size, [.int .i64 (p : Int)]) rfl
  have bx1 := (ST.alloc (.cells #[.int .i64 0] 2)).box 1 (w.heap.size + 1, [.slice a_v n c_v]) rfl
  have bx2 := (ST.alloc (.cells #[.int .i64 0] 2)).box 0 (w.heap.size + 1 + 1, [.int .i64 b]) rfl
  have sl_v := (h_v.keep ST.1 h_v.size).alloc (.cells #[.int .i64 0] 2)
  have hmf : ∀ (fn : Fn) (first cap : Array Value) (w : World), (Instr.makeFunc fn first cap).run Tryd.prog w = .ok (.func fn first cap) w := fun _ _ _ _ => rfl
  obtain ⟨W, hW⟩ : ∃ W, (((w.alloc (.cells #[.int .i64 (p : Int)] 2)).alloc (.cells #[.slice a_v n c_v] 22)).alloc (.cells #[.int .i64 b] 2)) = W := ⟨_, rfl⟩
  have hst := ST.1
  rw [hW] at hz hst bx0 bx1 bx2 sl_v
  have HC := Lib.hid ((doorI_QuadricNumber_ok (w.heap.size) (w.heap.size + 1) (w.heap.size + 1 + 1) W ((quV p n fa b)) ((QuadricNumber_cl_ok (w.heap.size) (w.heap.size + 1) (w.heap.size + 1 + 1) p b hp hb0 hb1 h1 h2 h _ bx0 bx1 bx2 sl_v).mono (fun e w' ⟨he, hb⟩ => ⟨he, hb.mono (by simp)⟩))))
  clear ST bx0 bx1 bx2 sl_v h_v
  go_enter Tryd.func6, Tryd.ntmps6
  go_wp2_with fail
  try simp only [World.size_alloc]
  try rw [hW]
  go_wp2_with (go_at_call 10; refine HC.out.mono ?_; rintro e w1 ⟨rfl, b1⟩)
  have BB := hst.trans (b1.mono hz)
  go_ret2
  exact ⟨rfl, BB⟩

set_option maxHeartbeats 2000000 in
theorem QuadricNumber_impl_no (p b : Int) (hb : inR b) (hn : n ≤ 1048576) (h : ¬ (EqP p n fa n (fun _ => 2) ∧ 0 ≤ b ∧ b < p)) (w : World) (ad : Addr) (hG : Gat w ad) (h_v : Sl o w lo hi v n fa) :
    Calls Tryd.prog 6 #[.int .i64 (p : Int), v, .int .i64 b] w fun e w' => e = .returned (.tuple #[.int .i64 0, .int .i64 2]) ∧ Below w.heap.size w w' := by
  obtain ⟨a_v, c_v, rfl⟩ := h_v.shape
  have ST := (((((((St.start w).alloc (.cells #[.int .i64 (p : Int)] 2)).addBox w.heap.size [.int .i64 (p : Int)] (Box.made _ _ _ _ (fun j v h => by simpa using h))).alloc (.cells #[.slice a_v n c_v] 22)).addBox (w.heap.size + 1) [.slice a_v n c_v] (Box.new _ _ _ _ (by simp))).alloc (.cells #[.int .i64 b] 2)).addBox (w.heap.size + 1 + 1) [.int .i64 b] (Box.new _ _ _ _ (by simp)))
  have hz : w.heap.size ≤ (((w.alloc (.cells #[.int .i64 (p : Int)] 2)).alloc (.cells #[.slice a_v n c_v] 22)).alloc (.cells #[.int .i64 b] 2)).heap.size := ST.1.size
  have bx0 := (ST.alloc (.cells #[.int .i64 0] 2)).box 2 (w.heap.size, [.int .i64 (p : Int)]) rfl
  have bx1 := (ST.alloc (.cells #[.int .i64 0] 2)).box 1 (w.heap.size + 1, [.slice a_v n c_v]) rfl
  have bx2 := (ST.alloc (.cells #[.int .i64 0] 2)).box 0 (w.heap.size + 1 + 1, [.int .i64 b]) rfl
  have sl_v := (h_v.keep ST.1 h_v.size).alloc (.cells #[.int .i64 0] 2)
  have HG := (hG.keep ST.1).alloc (.cells #[.int .i64 0] 2)
  have hmf : ∀ (fn : Fn) (first cap : Array Value) (w : World), (Instr.makeFunc fn first cap).run Tryd.prog w = .ok (.func fn first cap) w := fun _ _ _ _ => rfl
  obtain ⟨W, hW⟩ : ∃ W, (((w.alloc (.cells #[.int .i64 (p : Int)] 2)).alloc (.cells #[.slice a_v n c_v] 22)).alloc (.cells #[.int .i64 b] 2)) = W := ⟨_, rfl⟩
  have hst := ST.1
  rw [hW] at hz hst bx0 bx1 bx2 sl_v HG
  have HC := Lib.hid ((doorI_QuadricNumber_no (w.heap.size) (w.heap.size + 1) (w.heap.size + 1 + 1) W ad ((QuadricNumber_cl_no (w.heap.size) (w.heap.size + 1) (w.heap.size + 1 + 1) p b hb hn h _ ad HG bx0 bx1 bx2 sl_v).mono (fun e w' ⟨he, hb⟩ => ⟨he, hb.mono (by simp)⟩))))
  clear ST bx0 bx1 bx2 sl_v h_v HG hG
  go_enter Tryd.func6, Tryd.ntmps6
  go_wp2_with fail
  try simp only [World.size_alloc]
  try rw [hW]
  go_wp2_with (go_at_call 10; refine HC.out.mono ?_; rintro e w1 ⟨rfl, b1⟩)
  have BB := hst.trans (b1.mono hz)
  go_ret2
  exact ⟨rfl, BB⟩
end
end

section
open Go.RowKit Go.ChangeShapes Go.Sort
set_option linter.unusedVariables false
set_option linter.unusedSimpArgs false
set_option maxRecDepth 100000

theorem l06Prime_yes (p : Nat) (hp : primeN p = true) (w : World) :
    Calls Tryd.prog 28 #[.int .i64 (p : Int)] w fun e w' => e = .returned (.bool true) ∧ ∃ m, w' = w.drewN m := by
  have hb := primeN_bd hp
  have HP := Lib.hid hp; clear hp
  go_enter Tryd.func28, Tryd.ntmps28
  go_wp2_with (go_at_call 17; refine (l01In_yes _ _ _ _ (by omega) (by omega)).mono ?_; rintro e w' ⟨rfl, rfl⟩)
  go_loopw [3] (fun s3 wr => ∃ k : Nat, 2 ≤ k ∧ k ≤ 8 ∧ s3 = .int .i64 (k : Int) ∧ ∃ m, wr = w.drewN m) (fun s3 _ => 9 - (intOf s3).toNat)
  case atStart => exact ⟨2, by omega, by omega, rfl, 0, rfl⟩
  case round =>
    obtain ⟨k, hk2, hk8, rfl, m, rfl⟩ := hrel
    have hkk0 : 0 ≤ (k : Int) * (k : Int) := Int.mul_nonneg (by omega) (by omega)
    have hkk1 : (k : Int) * (k : Int) ≤ 64 := Int.mul_le_mul (c := 8) (d := 8) (by omega) (by omega) (by omega) (by omega)
    by_cases hle : k * k ≤ p
    · have hk7 := sq_le (by omega) hle
      have hm := prime_div HP.out k hk2 hle
      have hle2 : (k : Int) * (k : Int) ≤ (p : Int) := by have := Int.ofNat_le.2 hle; rwa [Int.natCast_mul] at this
      have hk0 : ¬ k = 0 := by omega
      have hm2 : (((p : Int) % (k : Int)) == 0) = false := beq_eq_false_iff_ne.2 (fun e => hm (by rw [← Int.natCast_emod] at e; omega))
      clear hm hle
      go_wp2
      go_roundw
      case rel => exact ⟨k + 1, by omega, by omega, by go_num, _, rfl⟩
      case measure => simp [intOf]; omega
    · have hle2 : (p : Int) < (k : Int) * (k : Int) := by have := Int.ofNat_lt.2 (Nat.not_le.1 hle); rwa [Int.natCast_mul] at this
      clear hle
      go_wp2
      go_ret
      exact ⟨rfl, m, rfl⟩
theorem l06Prime_no (p : Int) (hp : ¬ PrP p) (w : World) :
    Calls Tryd.prog 28 #[.int .i64 p] w fun e w' => e = .returned (.bool false) ∧ ∃ m, w' = w.drewN m := by
  by_cases hr : 3 ≤ p ∧ p ≤ 61
  · obtain ⟨h3, h61⟩ := hr
    obtain ⟨P, rfl⟩ := Int.eq_ofNat_of_zero_le (show 0 ≤ p by omega)
    have HP := Lib.hid (show ¬ primeN P = true from fun h => hp ⟨by omega, by rwa [Int.toNat_natCast]⟩)
    clear hp
    go_enter Tryd.func28, Tryd.ntmps28
    go_wp2_with (go_at_call 17; refine (l01In_yes _ _ _ _ (by omega) (by omega)).mono ?_; rintro e w' ⟨rfl, rfl⟩)
    go_loopw [3] (fun s3 wr => ∃ k : Nat, 2 ≤ k ∧ k ≤ 8 ∧ s3 = .int .i64 (k : Int) ∧ (∀ j, 2 ≤ j → j < k → ¬ P % j = 0) ∧ ∃ m, wr = w.drewN m) (fun s3 _ => 9 - (intOf s3).toNat)
    case atStart => exact ⟨2, by omega, by omega, rfl, fun j h1 h2 => by omega, 0, rfl⟩
    case round =>
      obtain ⟨k, hk2, hk8, rfl, hno, m, rfl⟩ := hrel
      have HN := Lib.hid hno; clear hno
      have hkk0 : 0 ≤ (k : Int) * (k : Int) := Int.mul_nonneg (by omega) (by omega)
      have hkk1 : (k : Int) * (k : Int) ≤ 64 := Int.mul_le_mul (c := 8) (d := 8) (by omega) (by omega) (by omega) (by omega)
      have hle : k * k ≤ P := by
        rcases Nat.lt_or_ge P (k * k) with h | h
        · exact absurd (prime_of_div (by omega) (by omega) h HN.out) HP.out
        · exact h
      have hk7 := sq_le (by omega) hle
      have hle2 : (k : Int) * (k : Int) ≤ (P : Int) := by have := Int.ofNat_le.2 hle; rwa [Int.natCast_mul] at this
      have hk0 : ¬ k = 0 := by omega
      clear hle
      by_cases hm : P % k = 0
      · have hm2 : (((P : Int) % (k : Int)) == 0) = true := by rw [← Int.natCast_emod, hm]; rfl
        clear hm
        go_wp2
        go_ret
        exact ⟨rfl, m, rfl⟩
      · have hm2 : (((P : Int) % (k : Int)) == 0) = false := beq_eq_false_iff_ne.2 (fun e => hm (by rw [← Int.natCast_emod] at e; omega))
        have HM := Lib.hid hm
        clear hm
        go_wp2
        go_roundw
        case rel => exact ⟨k + 1, by omega, by omega, by go_num, fun j h1 h2 => by
          rcases Nat.lt_or_ge j k with h | h
          · exact HN.out j h1 h
          · obtain rfl : j = k := by omega
            exact HM.out, _, rfl⟩
        case measure => simp [intOf]; omega
  · have H := Lib.hid (show p < 3 ∨ 61 < p by omega)
    clear hp hr
    go_enter Tryd.func28, Tryd.ntmps28
    go_wp2_with (go_at_call 17; refine (l01In_no _ _ _ _ H.out).mono ?_; rintro e w' ⟨rfl, rfl⟩)
    go_ret
    exact ⟨rfl, 0, rfl⟩


theorem l08Power_any (l x k : Nat) (hl : 2 ≤ l) (hl2 : l ≤ 61) (hx : x < l) (hk : k ≤ 100) (w : World) :
    Calls Tryd.prog 18 #[.int .i64 (l : Int), .int .i64 (x : Int), .int .i64 (k : Int)] w fun r w' => r = .returned (.int .i64 (pwr l x k : Nat)) ∧ ∃ m, w' = w.drewN m := by
  go_enter Tryd.func18, Tryd.ntmps18
  go_wp2
  go_loopw [2, 7] (fun s2 s7 wr => ∃ i : Nat, i ≤ k ∧ s7 = .int .i64 (pwr l x i : Nat) ∧ s2 = .int .i64 ((k - i : Nat) : Int) ∧ ∃ m, wr = w.drewN m) (fun s2 _ _ => (intOf s2).toNat)
  case atStart => exact ⟨0, by omega, rfl, rfl, 0, rfl⟩
  case round =>
    obtain ⟨i, hi, rfl, rfl, m, rfl⟩ := hrel
    by_cases hlt : i < k
    · have hb := pwr_lt (p := l) (g := x) (by omega) i
      have hp0 : 0 ≤ ((pwr l x i : Nat) : Int) * (x : Int) := Int.mul_nonneg (by omega) (by omega)
      have hp1 : ((pwr l x i : Nat) : Int) * (x : Int) ≤ 61 * 61 := Int.mul_le_mul (by omega) (by omega) (by omega) (by omega)
      have hl0 : ¬ l = 0 := by omega
      have HS := Lib.hid (show ((pwr l x i : Nat) : Int) * (x : Int) % (l : Int) = ((pwr l x (i + 1) : Nat) : Int) by rw [pwr_succ, ← Int.natCast_mul, ← Int.natCast_emod])
      have hki : ((k - i : Nat) : Int) = ((k - (i + 1) : Nat) : Int) + 1 := by omega
      rw [hki]
      clear hki
      go_wp2
      go_roundw
      case rel => exact ⟨i + 1, by omega, by rw [← HS.out], by first | rfl | go_num, _, rfl⟩
      case measure => simp [intOf] <;> omega
    · obtain rfl : i = k := by omega
      rw [Nat.sub_self]
      go_wp2
      go_ret
      exact ⟨rfl, m, rfl⟩

theorem one_madeS (w : World) (x : Int) (hx : inR x) (t : TypeId) (ht : t = 2) : Sl true (w.alloc (.cells #[.int .i64 x] t)) w.heap.size (w.heap.size + 1) (.slice (some ⟨w.heap.size, 0, none⟩) 1 1) 1 (fun _ => x) := by
  subst ht
  exact Sl.made w #[.int .i64 x] 2 1 1 (fun _ => x) (Nat.le_refl _) (by unfold maxLen; omega) (fun j hj => hx) (fun j hj => by have hj' : j < 1 := hj; obtain rfl : j = 0 := (by omega); rfl)
/-- Exponents are as told. -/
def ExP (f : Nat → Int) (n : Nat) : Prop := ∀ i, i < n → 1 ≤ f i ∧ f i ≤ 60
section
variable {o : Bool} {lo hi : Nat} {v : Value} {n : Nat} {f : Nat → Int}
set_option maxHeartbeats 1000000 in
theorem l08Code_yes (p : Nat) (hp : primeN p = true) (w : World) (hs : Sl o w lo hi v n f) (h : ExP f n) :
    Calls Tryd.prog 16 #[.int .i64 (p : Int), v] w fun r w' => r = .returned (.int .i64 0) ∧ Below w.heap.size w w' := by
  have hm := hs.len
  unfold maxLen at hm
  obtain ⟨a, cap, rfl⟩ := hs.shape
  have HS := Lib.hid hs
  have H := Lib.hid h
  have HP := Lib.hid hp
  have hsz := hs.size
  clear hs h hp
  go_enter Tryd.func16, Tryd.ntmps16
  go_wp2_with (go_at_call 28; refine (l06Prime_yes p HP.out _).mono ?_; rintro e w1 ⟨rfl, m1, rfl⟩)
  go_loopw [5] (fun s5 wr => ∃ k : Nat, k ≤ n ∧ s5 = .int .i64 (k : Int) ∧ Below w.heap.size w wr) (fun s5 _ => n - (intOf s5).toNat)
  case atStart => exact ⟨0, Nat.zero_le _, rfl, below_drewN (Below.refl _ _) _⟩
  case round =>
    obtain ⟨k, hk, rfl, hB⟩ := hrel
    by_cases hlt : k < n
    · obtain ⟨g, off, cap', hv, _, _, _, _, hc, _⟩ := (HS.out.keep hB hsz).at (by omega)
      obtain ⟨rfl, rfl⟩ : a = some ⟨g, off, none⟩ ∧ cap = cap' := by cases hv; exact ⟨rfl, rfl⟩
      clear hv
      have hck := hc k hlt
      clear hc
      obtain ⟨h1, h2⟩ := H.out k hlt
      go_wp2_with (go_at_call 17; refine (l01In_yes _ _ _ _ h1 h2).mono ?_; rintro e w' ⟨rfl, rfl⟩)
      go_roundw
      case rel => exact ⟨k + 1, by omega, by go_num, hB⟩
      case measure => simp [intOf] <;> omega
    · obtain rfl : k = n := by omega
      go_wp2
      go_ret
      exact ⟨rfl, hB⟩
set_option maxHeartbeats 1000000 in
theorem l08Code_no (p : Int) (w : World) (hs : Sl o w lo hi v n f) (h : ¬ (PrP p ∧ ExP f n)) :
    Calls Tryd.prog 16 #[.int .i64 p, v] w fun r w' => r = .returned (.int .i64 2) ∧ Below w.heap.size w w' := by
  have hm := hs.len
  unfold maxLen at hm
  obtain ⟨a, cap, rfl⟩ := hs.shape
  have HS := Lib.hid hs
  have HBD := Lib.hid hs.bd
  have hsz := hs.size
  clear hs
  by_cases hp : PrP p
  · have H := Lib.hid (show ¬ ExP f n from fun g => h ⟨hp, g⟩)
    obtain ⟨P, rfl⟩ := Int.eq_ofNat_of_zero_le hp.1
    have HP := Lib.hid (show primeN P = true by have := hp.2; rwa [Int.toNat_natCast] at this)
    clear h hp
    go_enter Tryd.func16, Tryd.ntmps16
    go_wp2_with (go_at_call 28; refine (l06Prime_yes P HP.out _).mono ?_; rintro e w1 ⟨rfl, m1, rfl⟩)
    go_loopw [5] (fun s5 wr => ∃ k : Nat, k ≤ n ∧ s5 = .int .i64 (k : Int) ∧ ExP f k ∧ Below w.heap.size w wr) (fun s5 _ => n - (intOf s5).toNat)
    case atStart => exact ⟨0, Nat.zero_le _, rfl, fun j hj => absurd hj (Nat.not_lt_zero _), below_drewN (Below.refl _ _) _⟩
    case round =>
      obtain ⟨k, hk, rfl, he, hB⟩ := hrel
      have HE := Lib.hid he
      clear he
      by_cases hlt : k < n
      · obtain ⟨g, off, cap', hv, _, _, _, _, hc, _⟩ := (HS.out.keep hB hsz).at (by omega)
        obtain ⟨rfl, rfl⟩ : a = some ⟨g, off, none⟩ ∧ cap = cap' := by cases hv; exact ⟨rfl, rfl⟩
        clear hv
        have hck := hc k hlt
        clear hc
        by_cases h1 : 1 ≤ f k ∧ f k ≤ 60
        · obtain ⟨h1, h2⟩ := h1
          go_wp2_with (go_at_call 17; refine (l01In_yes _ _ _ _ h1 h2).mono ?_; rintro e w' ⟨rfl, rfl⟩)
          go_roundw
          case rel => exact ⟨k + 1, by omega, by go_num, fun j hj => by
            rcases Nat.lt_succ_iff_lt_or_eq.1 hj with h | h
            · exact HE.out j h
            · subst h; exact ⟨h1, h2⟩, hB⟩
          case measure => simp [intOf] <;> omega
        · have h2 : f k < 1 ∨ 60 < f k := by omega
          have H2 := Lib.hid h2
          clear h1 h2
          go_wp2_with (go_at_call 17; refine (l01In_no _ _ _ _ H2.out).mono ?_; rintro e w' ⟨rfl, rfl⟩)
          go_ret
          exact ⟨rfl, hB⟩
      · obtain rfl : k = n := by omega
        exact absurd HE.out H.out
  · have H := Lib.hid hp
    clear h hp
    go_enter Tryd.func16, Tryd.ntmps16
    go_wp2_with (go_at_call 28; refine (l06Prime_no p H.out _).mono ?_; rintro e w1 ⟨rfl, m1, rfl⟩)
    go_ret
    exact ⟨rfl, below_drewN (Below.refl _ _) _⟩
end
end

section
open Go.RowKit Go.ChangeShapes Go.Sort
set_option linter.unusedVariables false
set_option linter.unusedSimpArgs false
set_option maxRecDepth 100000

def genS (m : Int) : Int := (m - 1) * (m - 2) / 2
theorem ex_one {k : Int} (h1 : 1 ≤ k) (h2 : k ≤ 60) : ExP (fun _ => k) 1 := fun _ _ => ⟨h1, h2⟩
theorem alloc_bl (w : World) (ob : Obj) : Below w.heap.size w (w.alloc ob) := (Below.refl w.heap.size w).alloc (Nat.le_refl _) ob
/-! ValueCounts -/
/-! Equations -/
section
variable {o o' : Bool} {lo hi lo' hi' : Nat} {v v' : Value} {n m : Nat} {fa fe : Nat → Int}
set_option maxHeartbeats 1000000 in
theorem l08Given_yes (p : Nat) (b : Int) (hp : primeN p = true) (hb0 : 0 ≤ b) (hb1 : b < (p : Int)) (h1 : 1 ≤ n) (h2 : n ≤ 4) (h : ∀ i, i < n → 1 ≤ fa i ∧ fa i < (p : Int) ∧ 1 ≤ fe i ∧ fe i ≤ 60) (w : World) (hs : Sl o w lo hi v n fa) (ht : Sl o' w lo' hi' v' n fe) :
    Calls Tryd.prog 8 #[.int .i64 (p : Int), v, v', .int .i64 b] w fun e w' => e = .returned (.int .i64 0) ∧ Below w.heap.size w w' := by
  have hbd := primeN_bd hp
  have HP := Lib.hid hp
  have H := Lib.hid h
  have HX := Lib.hid (show ExP fe n from fun i hi => ⟨(h i hi).2.2.1, (h i hi).2.2.2⟩)
  obtain ⟨g1, off1, k1, rfl, _, hg1, _, _, hc1, _⟩ := hs.at (by omega)
  obtain ⟨a2, k2, rfl⟩ := ht.shape
  have hs1 := hs.size
  have HC1 := Lib.hid hc1
  have HT := Lib.hid ht
  have hb2 : b ≤ (p : Int) - 1 := by omega
  clear hs ht hp h hc1
  go_enter Tryd.func8, Tryd.ntmps8
  go_wp2_with (first
    | (go_at_call 16; refine (l08Code_yes p HP.out _ HT.out HX.out).mono ?_; rintro e w1 ⟨rfl, b1⟩)
    | (go_at_call 17; refine (l01In_yes _ _ _ _ hb0 hb2).mono ?_; rintro e w2 ⟨rfl, rfl⟩))
  go_loopw [9, 10] (fun s9 s10 wr => ∃ i : Nat, i ≤ n ∧ s9 = .int .i64 0 ∧ s10 = .int .i64 (i : Int) ∧ Below w.heap.size w wr) (fun _ s10 _ => n - (intOf s10).toNat)
  case atStart => exact ⟨0, Nat.zero_le _, rfl, rfl, b1⟩
  case round =>
    obtain ⟨i, hi', rfl, rfl, hB⟩ := hrel
    by_cases hlt : i < n
    · have hci := (hB.cell (p := ⟨g1, off1 + i, none⟩) (by show g1 < _; omega)).trans (HC1.out i hlt)
      obtain ⟨j1, j2, _, _⟩ := H.out i hlt
      have j3 : fa i ≤ (p : Int) - 1 := by omega
      go_wp2_with (go_at_call 17; refine (l01In_yes _ _ _ _ j1 j3).mono ?_; rintro e w2 ⟨rfl, rfl⟩)
      go_roundw
      case rel => exact ⟨i + 1, by omega, rfl, by go_num, hB⟩
      case measure => simp [intOf]; omega
    · obtain rfl : i = n := by omega
      go_wp2
      go_ret
      exact ⟨rfl, hB⟩
set_option maxHeartbeats 2000000 in
theorem l08Given_no (p b : Int) (w : World) (hs : Sl o w lo hi v n fa) (ht : Sl o' w lo' hi' v' m fe) (h : ¬ ((PrP p ∧ 1 ≤ n ∧ n ≤ 4 ∧ m = n ∧ ∀ i, i < n → 1 ≤ fa i ∧ fa i < p ∧ 1 ≤ fe i ∧ fe i ≤ 60) ∧ 0 ≤ b ∧ b < p)) :
    Calls Tryd.prog 8 #[.int .i64 p, v, v', .int .i64 b] w fun e w' => e = .returned (.int .i64 2) ∧ Below w.heap.size w w' := by
  have hl1 := hs.len
  have hl2 := ht.len
  unfold maxLen at hl1 hl2
  by_cases hc : PrP p ∧ ExP fe m
  · obtain ⟨hp, hx⟩ := hc
    obtain ⟨P, rfl⟩ := Int.eq_ofNat_of_zero_le hp.1
    have hP : primeN P = true := by have := hp.2; rwa [Int.toNat_natCast] at this
    have hbd := primeN_bd hP
    have HP := Lib.hid hP
    have HX := Lib.hid hx
    by_cases h1 : 1 ≤ n ∧ n ≤ 4 ∧ m = n ∧ 0 ≤ b ∧ b < (P : Int)
    · obtain ⟨h1, h2, rfl, hb0, hb1⟩ := h1
      have HH := Lib.hid (show ¬ ∀ i, i < m → 1 ≤ fa i ∧ fa i < (P : Int) from fun k => h ⟨⟨hp, h1, h2, rfl, fun i hi => ⟨(k i hi).1, (k i hi).2, (hx i hi).1, (hx i hi).2⟩⟩, hb0, hb1⟩)
      have hb2 : b ≤ (P : Int) - 1 := by omega
      obtain ⟨g1, off1, k1, rfl, _, hg1, _, _, hc1, _⟩ := hs.at (by omega)
      obtain ⟨a2, k2, rfl⟩ := ht.shape
      have hs1 := hs.size
      have HC1 := Lib.hid hc1
      have HT := Lib.hid ht
      have HBD := Lib.hid hs.bd
      clear hs ht hp h hc1 hP hx
      go_enter Tryd.func8, Tryd.ntmps8
      go_wp2_with (first
        | (go_at_call 16; refine (l08Code_yes P HP.out _ HT.out HX.out).mono ?_; rintro e w1 ⟨rfl, b1⟩)
        | (go_at_call 17; refine (l01In_yes _ _ _ _ hb0 hb2).mono ?_; rintro e w2 ⟨rfl, rfl⟩))
      go_loopw [9, 10] (fun s9 s10 wr => ∃ i : Nat, i ≤ m ∧ s10 = .int .i64 (i : Int) ∧ (s9 = .int .i64 0 ∧ (∀ j, j < i → 1 ≤ fa j ∧ fa j < (P : Int)) ∨ s9 = .int .i64 2) ∧ Below w.heap.size w wr) (fun s9 s10 _ => 2 * (m - (intOf s10).toNat) + 1 - (intOf s9).toNat)
      case atStart => exact ⟨0, Nat.zero_le _, rfl, .inl ⟨rfl, fun j hj => absurd hj (Nat.not_lt_zero _)⟩, b1⟩
      case round =>
        obtain ⟨i, hi', rfl, hcs, hB⟩ := hrel
        rcases hcs with ⟨rfl, hall⟩ | rfl
        · have HA := Lib.hid hall
          clear hall
          by_cases hlt : i < m
          · have hci := (hB.cell (p := ⟨g1, off1 + i, none⟩) (by show g1 < _; omega)).trans (HC1.out i hlt)
            have hr := HBD.out i hlt
            by_cases hok : 1 ≤ fa i ∧ fa i < (P : Int)
            · obtain ⟨j1, j2⟩ := hok
              have j3 : fa i ≤ (P : Int) - 1 := by omega
              go_wp2_with (go_at_call 17; refine (l01In_yes _ _ _ _ j1 j3).mono ?_; rintro e w2 ⟨rfl, rfl⟩)
              go_roundw
              case rel => exact ⟨i + 1, by omega, by go_num, .inl ⟨rfl, fun j hj => by
                rcases Nat.lt_succ_iff_lt_or_eq.1 hj with h | h
                · exact HA.out j h
                · subst h; exact ⟨j1, j2⟩⟩, hB⟩
              case measure => simp [intOf]; omega
            · have HO := Lib.hid (show fa i < 1 ∨ (P : Int) - 1 < fa i by omega)
              clear hok
              go_wp2_with (go_at_call 17; refine (l01In_no _ _ _ _ HO.out).mono ?_; rintro e w2 ⟨rfl, rfl⟩)
              go_roundw
              case rel => exact ⟨i + 1, by omega, by go_num, .inr rfl, hB⟩
              case measure => simp [intOf]; omega
          · obtain rfl : i = m := by omega
            exact absurd HA.out HH.out
        · by_cases hlt : i < m
          · go_wp2
            go_ret
            exact ⟨rfl, hB⟩
          · obtain rfl : i = m := by omega
            go_wp2
            go_ret
            exact ⟨rfl, hB⟩
    · obtain ⟨a1, k1, rfl⟩ := hs.shape
      obtain ⟨a2, k2, rfl⟩ := ht.shape
      have HT := Lib.hid ht
      have hbb : ∀ (r : Value), True := fun _ => trivial
      clear hbb
      clear h hp hP hx hs ht
      by_cases g1 : 1 ≤ n
      · by_cases g2 : n ≤ 4
        · by_cases g3 : m = n
          · have HB := Lib.hid (show b < 0 ∨ (P : Int) - 1 < b by omega)
            subst g3
            clear h1
            go_enter Tryd.func8, Tryd.ntmps8
            go_wp2_with (first
              | (go_at_call 16; refine (l08Code_yes P HP.out _ HT.out HX.out).mono ?_; rintro e w1 ⟨rfl, b1⟩)
              | (go_at_call 17; refine (l01In_no _ _ _ _ HB.out).mono ?_; rintro e w2 ⟨rfl, rfl⟩))
            go_rounds 1
            all_goals go_ret
            all_goals exact ⟨rfl, b1⟩
          · have hne : ((n : Int) != (m : Int)) = true := bne_iff_ne.2 (by omega)
            clear h1
            go_enter Tryd.func8, Tryd.ntmps8
            go_wp2_with (go_at_call 16; refine (l08Code_yes P HP.out _ HT.out HX.out).mono ?_; rintro e w1 ⟨rfl, b1⟩)
            go_rounds 1
            all_goals go_ret
            all_goals exact ⟨rfl, b1⟩
        · clear h1
          go_enter Tryd.func8, Tryd.ntmps8
          go_wp2_with (go_at_call 16; refine (l08Code_yes P HP.out _ HT.out HX.out).mono ?_; rintro e w1 ⟨rfl, b1⟩)
          go_rounds 1
          all_goals go_ret
          all_goals exact ⟨rfl, b1⟩
      · obtain rfl : n = 0 := by omega
        clear h1
        go_enter Tryd.func8, Tryd.ntmps8
        go_wp2_with (go_at_call 16; refine (l08Code_yes P HP.out _ HT.out HX.out).mono ?_; rintro e w1 ⟨rfl, b1⟩)
        go_rounds 1
        all_goals go_ret
        all_goals exact ⟨rfl, b1⟩
  · have H := Lib.hid hc
    obtain ⟨a1, k1, rfl⟩ := hs.shape
    obtain ⟨a2, k2, rfl⟩ := ht.shape
    have HT := Lib.hid ht
    clear h hc hs ht
    by_cases g1 : n = 0
    · subst g1
      go_enter Tryd.func8, Tryd.ntmps8
      go_wp2_with (go_at_call 16; refine (l08Code_no p _ HT.out H.out).mono ?_; rintro e w1 ⟨rfl, b1⟩)
      go_rounds 1
      all_goals go_ret
      all_goals exact ⟨rfl, b1⟩
    · have g2 : 0 < n := by omega
      go_enter Tryd.func8, Tryd.ntmps8
      go_wp2_with (go_at_call 16; refine (l08Code_no p _ HT.out H.out).mono ?_; rintro e w1 ⟨rfl, b1⟩)
      go_rounds 1
      all_goals go_ret
      all_goals exact ⟨rfl, b1⟩
end
end

section
open Go.RowKit Go.ChangeShapes Go.Sort
set_option linter.unusedVariables false
set_option linter.unusedSimpArgs false
set_option maxRecDepth 100000

theorem eul_all : ((List.range 62).all fun p => !primeN p || (List.range p).all fun x => decide (x = 0) || decide (sqN p x = decide (pwr p x ((p - 1) / 2) = 1))) = true := by decide +kernel
theorem eul_ok {p x : Nat} (hp : primeN p = true) (h1 : 1 ≤ x) (h2 : x < p) : sqN p x = decide (pwr p x ((p - 1) / 2) = 1) := by
  have h := all_range (prime_of eul_all hp) x h2
  have e : decide (x = 0) = false := decide_eq_false (by omega)
  simpa only [e, Bool.false_or, decide_eq_true_eq] using h
theorem restN_emod (p : Nat) (x : Int) : restN p x = (x % (p : Int)).toNat := by
  unfold restN
  rw [Int.tmod_def, show x - (p : Int) * x.tdiv p + (p : Int) = x + (p : Int) * (1 - x.tdiv p) by rw [Int.mul_sub, Int.mul_one]; omega, Int.add_mul_emod_self_left]
theorem legN_congr {p : Nat} {x y : Int} (h : x % (p : Int) = y % (p : Int)) : legN p x = legN p y := by
  unfold legN
  rw [restN_emod p x, restN_emod p y, h]
/-- The product of the factors, modulo p. -/
def prF (p : Nat) (fa : Nat → Int) : Nat → Int
  | 0 => 1
  | i + 1 => prF p fa i * fa i % (p : Int)
theorem prF_bd {p : Nat} (hp : 2 ≤ p) (fa : Nat → Int) : ∀ i, 0 ≤ prF p fa i ∧ prF p fa i < p
  | 0 => by show (0 : Int) ≤ 1 ∧ (1 : Int) < p; omega
  | i + 1 => ⟨Int.emod_nonneg _ (by omega), Int.emod_lt_of_pos _ (by omega)⟩
theorem nu_prF {p h : Nat} {s : Int} (fa : Nat → Int) (hs : s % (p : Int) = ((pwr p (p - 1) h : Nat) : Int)) (hp : 2 ≤ p) : ∀ i, (s * prF p fa i) % (p : Int) = nuT p fa h i
  | 0 => by show (s * 1) % (p : Int) = _; rw [Int.mul_one, hs]; rfl
  | i + 1 => by
    show (s * (prF p fa i * fa i % (p : Int))) % (p : Int) = nuT p fa h i * fa i % (p : Int)
    rw [← nu_prF fa hs hp i, Int.mul_emod s, Int.emod_emod, ← Int.mul_emod, ← Int.mul_assoc, Int.mul_emod (s * prF p fa i % _), Int.emod_emod, ← Int.mul_emod]
theorem sg_0 {p : Nat} (hp : 2 ≤ p) : (1 : Int) % (p : Int) = ((pwr p (p - 1) 0 : Nat) : Int) := by
  show (1 : Int) % (p : Int) = 1
  exact Int.emod_eq_of_lt (by omega) (by omega)
theorem sg_1 {p : Nat} (hp : 2 ≤ p) : (-1 : Int) % (p : Int) = ((pwr p (p - 1) 1 : Nat) : Int) := by
  show (-1 : Int) % (p : Int) = ((1 * (p - 1) % p : Nat) : Int)
  rw [Nat.one_mul, Nat.mod_eq_of_lt (by omega)]
  have e := Int.add_emod_right (-1) (p : Int)
  rw [← e, Int.emod_eq_of_lt (by omega) (by omega)]
  omega
theorem sg_2 {p : Nat} (hp : 2 ≤ p) : (1 : Int) % (p : Int) = ((pwr p (p - 1) 2 : Nat) : Int) := by
  show (1 : Int) % (p : Int) = ((1 * (p - 1) % p * (p - 1) % p : Nat) : Int)
  rw [Nat.one_mul, Nat.mod_eq_of_lt (show p - 1 < p by omega)]
  obtain ⟨q, rfl⟩ : ∃ q, p = q + 2 := ⟨p - 2, by omega⟩
  have e : (q + 2 - 1) * (q + 2 - 1) = 1 + (q + 2) * q := by
    rw [show q + 2 - 1 = q + 1 by omega, Nat.add_mul, Nat.mul_add, Nat.add_mul]; omega
  rw [e, Nat.add_mul_mod_self_left, Nat.mod_eq_of_lt (by omega), Int.emod_eq_of_lt (by omega) (by omega)]
  rfl
set_option maxHeartbeats 1000000 in
theorem l08Square_any (p : Nat) (x : Int) (hp : primeN p = true) (hx1 : -1000000 ≤ x) (hx2 : x ≤ 1000000) (w : World) :
    Calls Tryd.prog 9 #[.int .i64 (p : Int), .int .i64 x] w fun e w' => e = .returned (.int .i64 (legN p x)) ∧ ∃ m, w' = w.drewN m := by
  have hb := primeN_bd hp
  have hp0 : ¬ p = 0 := by omega
  obtain ⟨r1, r2, r3, r4⟩ := restN_eq p (by omega) x
  have HL := Lib.hid (show legN p x = if restN p x = 0 then 0 else if sqN p (restN p x) = true then 1 else -1 from rfl)
  have HE := Lib.hid (fun h1 => eul_ok (x := restN p x) hp h1 r2)
  generalize restN p x = y at *
  clear hp
  by_cases hy : y = 0
  · have HV := Lib.hid (show legN p x = 0 by rw [HL.out, if_pos hy])
    subst hy
    rw [HV.out]
    go_enter Tryd.func9, Tryd.ntmps9
    go_wp2
    go_ret
    exact ⟨rfl, 0, rfl⟩
  · have hyb : ((y : Int) == 0) = false := beq_eq_false_iff_ne.2 (by omega)
    rw [if_neg hy, HE.out (by omega)] at HL
    have hq1 : ((p : Int) - 1) / 2 = (((p - 1) / 2 : Nat) : Int) := by omega
    have hq2 : ((p : Int) - 1).tdiv 2 = (((p - 1) / 2 : Nat) : Int) := by rw [Int.tdiv_eq_ediv_of_nonneg (by omega)]; exact hq1
    generalize hlg : legN p x = lg at HL ⊢
    have hhh : (p - 1) / 2 ≤ 100 := by omega
    clear HE hlg hy
    have HP := Lib.hid (fun w => l08Power_any p y ((p - 1) / 2) (by omega) hb.2 r2 hhh w)
    generalize (p - 1) / 2 = hh at *
    by_cases he : pwr p y hh = 1
    · have HV := Lib.hid (show lg = 1 by rw [HL.out, if_pos (decide_eq_true he)])
      rw [he] at HP
      clear he HL
      go_enter Tryd.func9, Tryd.ntmps9
      go_wp2_with (go_at_call 18; with_reducible refine (HP.out _).mono ?_; rintro r w1 ⟨rfl, m1, rfl⟩)
      go_ret
      exact ⟨by rw [HV.out]; rfl, m1, rfl⟩
    · have HV := Lib.hid (show lg = -1 by rw [HL.out, if_neg (by simp [he])])
      have heb : (((pwr p y hh : Nat) : Int) == 1) = false := beq_eq_false_iff_ne.2 (by omega)
      generalize pwr p y hh = z at *
      clear he HL
      go_enter Tryd.func9, Tryd.ntmps9
      go_wp2_with (go_at_call 18; with_reducible refine (HP.out _).mono ?_; rintro r w1 ⟨rfl, m1, rfl⟩)
      go_ret
      exact ⟨by rw [HV.out]; rfl, m1, rfl⟩
end

section
open Go.RowKit Go.ChangeShapes Go.Sort
set_option linter.unusedVariables false
set_option linter.unusedSimpArgs false
set_option maxRecDepth 100000

section
variable {o : Bool} {lo hi : Nat} {v : Value} {n : Nat} {f : Nat → Int}
end
/-- i is the least number with the count 0. -/
def Lst (p k i : Nat) : Prop := i < p ∧ cnT (vN p 1 k) 0 p i = 0 ∧ ∀ j, j < i → cnT (vN p 1 k) 0 p j ≠ 0
theorem lst_or (p k : Nat) : (∃ i, Lst p k i) ∨ ∀ j, j < p → cnT (vN p 1 k) 0 p j ≠ 0 := by
  have h : ∀ m, m ≤ p → (∃ i, Lst p k i) ∨ ∀ j, j < m → cnT (vN p 1 k) 0 p j ≠ 0 := by
    intro m
    induction m with
    | zero => exact fun _ => .inr (fun j hj => absurd hj (Nat.not_lt_zero _))
    | succ m ih =>
      intro hm
      rcases ih (by omega) with h | h
      · exact .inl h
      · by_cases e : cnT (vN p 1 k) 0 p m = 0
        · exact .inl ⟨m, by omega, e, h⟩
        · exact .inr (fun j hj => by
            rcases Nat.lt_succ_iff_lt_or_eq.1 hj with g | g
            · exact h j g
            · subst g; exact e)
  exact h p (Nat.le_refl _)
/-! LeastNoPower -/
end

section
open Go.RowKit Go.ChangeShapes Go.Sort
set_option linter.unusedVariables false
set_option linter.unusedSimpArgs false
set_option maxRecDepth 100000

/-- The first powers. -/
def pwL (p k m : Nat) : List Nat := (List.range m).filter (fun b => decide (0 < cnT (vN p 1 k) 0 p b))
theorem pwL_yes {p k m : Nat} (h : 0 < cnT (vN p 1 k) 0 p m) : pwL p k (m + 1) = pwL p k m ++ [m] := by
  unfold pwL; rw [List.range_succ, List.filter_append]; simp [h]
theorem pwL_no {p k m : Nat} (h : ¬ 0 < cnT (vN p 1 k) 0 p m) : pwL p k (m + 1) = pwL p k m := by
  unfold pwL; rw [List.range_succ, List.filter_append]; simp [h]
theorem pwL_len (p k m : Nat) : (pwL p k m).length ≤ m := by
  unfold pwL
  have := List.length_filter_le (fun b => decide (0 < cnT (vN p 1 k) 0 p b)) (List.range m)
  rwa [List.length_range] at this
theorem pwF_inR (p k m : Nat) (hm : m ≤ 1000) (j : Nat) : inR (rtF (pwL p k m) j) := by
  rcases Nat.lt_or_ge j (pwL p k m).length with h | h
  · obtain ⟨y, hy, e⟩ := rtF_mem h
    have := List.mem_range.1 (List.mem_filter.1 hy).1
    rw [e]; unfold inR; omega
  · unfold rtF
    rw [List.getD_eq_getElem?_getD, List.getElem?_eq_none h]
    simp [inR]
theorem Row.keepY {w w' : World} {base g cap n : Nat} {f : Nat → Int} (h : Row w base g cap n f) (hb : Below w.heap.size w w') : Row w' base g cap n f :=
  World.ownsRow.kept (row := none) h ⟨hb.os, hb.tape, hb.output, hb.size, fun k hk _ => hb.block k hk⟩ (.inr (fun e => by cases e))
/-! The model -/
end

section
open Go.RowKit Go.ChangeShapes Go.Sort
set_option linter.unusedVariables false
set_option linter.unusedSimpArgs false
set_option maxRecDepth 100000
section
variable {o : Bool} {lo hi : Nat} {v : Value} {n : Nat} {fa : Nat → Int}
set_option maxHeartbeats 4000000 in
theorem QuadricNumber_spec_ok (p : Nat) (b : Int) (hp : primeN p = true) (hb0 : 0 ≤ b) (hb1 : b < (p : Int)) (h1 : 1 ≤ n) (h2 : n ≤ 4) (h : ∀ i, i < n → 1 ≤ fa i ∧ fa i < (p : Int)) (w : World) (hs : Sl o w lo hi v n fa) :
    Calls Tryd.prog 4 #[.int .i64 (p : Int), v, .int .i64 b] w fun e w' => e = .returned (.tuple #[.int .i64 (quV p n fa b), .int .i64 0]) ∧ Below w.heap.size w w' := by
  have hbd := primeN_bd hp
  have HP := Lib.hid hp
  have H := Lib.hid h
  have HE := Lib.hid (show ∀ i, i < n → 1 ≤ fa i ∧ fa i < (p : Int) ∧ 1 ≤ (fun _ => (2 : Int)) i ∧ (fun _ => (2 : Int)) i ≤ 60 from fun i hi => ⟨(h i hi).1, (h i hi).2, by show (1 : Int) ≤ 2; omega, by show (2 : Int) ≤ 60; omega⟩)
  have hp0 : ¬ p = 0 := by omega
  have hs1 := hs.size
  have hs' := hs
  obtain ⟨g1, off1, k1, rfl, _, hg1, _, _, hc1, _⟩ := hs'.at (by omega)
  have HC1 := Lib.hid hc1
  have ST := Lib.hid (((St.start w).addSl ⟨o, lo, hi, .slice (some ⟨g1, off1, none⟩) n k1, n, fa⟩ hs).alloc (.cells #[] 2))
  have R1 := Lib.hid (Row.made w w.heap.size (fun _ => 2) (Nat.le_refl _))
  have hpp0 : 0 ≤ (p : Int) * (p : Int) := Int.mul_nonneg (by omega) (by omega)
  have hpp1 : (p : Int) * (p : Int) ≤ 61 * 61 := Int.mul_le_mul (by omega) (by omega) (by omega) (by omega)
  have hppp0 : 0 ≤ (p : Int) * (p : Int) * (p : Int) := Int.mul_nonneg hpp0 (by omega)
  have hppp1 : (p : Int) * (p : Int) * (p : Int) ≤ 61 * 61 * 61 := Int.mul_le_mul hpp1 (by omega) (by omega) (by omega)
  clear hp h hs hs' hc1
  go_enter Tryd.func4, Tryd.ntmps4
  go_wp2
  go_loopw [8, 9] (fun s8 s9 wr => ∃ (k g cap : Nat), k ≤ n ∧ s8 = .slice (some ⟨g, 0, none⟩) k cap ∧ s9 = .int .i64 (k : Int) ∧ Row wr w.heap.size g cap k (fun _ => 2) ∧ St w wr [] [⟨o, lo, hi, .slice (some ⟨g1, off1, none⟩) n k1, n, fa⟩]) (fun _ s9 _ => n + 1 - (intOf s9).toNat)
  case atStart => exact ⟨0, _, _, by omega, rfl, rfl, R1.out, ST.out⟩
  case round =>
    clear R1 ST
    obtain ⟨k, g, cap, hk, rfl, rfl, hr, hst⟩ := hrel
    have R1 := Lib.hid hr
    have HT := Lib.hid hst
    clear hr hst
    obtain ⟨hl1, hl2⟩ := R1.out.lt
    by_cases hlt : k < n
    · have hk4 : (k : Int) ≤ 4 := by omega
      go_wp2_with (at_builtin; refine wpList_push rfl (.tmp 28) (.tmp 29) rfl rfl w.heap.size g cap k (fun _ => 2) rfl (R1.out.alloc _) wr.heap.size 2 rfl (heap_alloc_new wr _) (by omega) ?_; intro gA kA wA rowA grA orA ltA; have stA := Lib.hid ((HT.out.alloc (.cells #[.int .i64 2] 2)).write (Frame.ofGrown grA) (by omega) (by intro b hb; cases hb) (by intro s hs'; simp only [List.mem_cons, List.not_mem_nil, or_false] at hs'; rcases hs' with rfl; left; show hi ≤ _; omega)); have RA := Lib.hid rowA; clear rowA grA orA)
      go_roundw
      case rel => exact ⟨k + 1, gA, kA, by omega, rfl, by go_num, RA.out.congr (fun j hj => by first | rfl | (dsimp only; split <;> rfl) | simp), stA.out⟩
      case measure => simp [intOf] <;> omega
    · obtain rfl : k = n := by omega
      have SQ := Lib.hid (Sl.ofRowF R1.out (fun j hj => by unfold inR; omega) (by unfold maxLen; omega))
      have HV := Lib.hid (HT.out.sl 0 ⟨o, lo, hi, .slice (some ⟨g1, off1, none⟩) k k1, k, fa⟩ rfl)
      have BL := (show Below w.heap.size w _ from HT.out.1)
      go_wp2_with (go_at_call 8; refine (l08Given_yes p b HP.out hb0 hb1 h1 h2 HE.out _ HV.out SQ.out).mono ?_; rintro e w1 ⟨rfl, b1⟩)
      have B1 := Lib.hid (BL.trans (b1.mono BL.size))
      clear HV SQ BL b1 R1 HT HE
      go_loopw [12, 14] (fun s12 s14 wr => ∃ i : Nat, i ≤ k ∧ s12 = .int .i64 (prF p fa i) ∧ s14 = .int .i64 (i : Int) ∧ Below w.heap.size w wr) (fun _ s14 _ => k - (intOf s14).toNat)
      case atStart => exact ⟨0, by omega, rfl, rfl, B1.out⟩
      case round =>
        clear B1
        obtain ⟨i, hi', rfl, rfl, hB⟩ := hrel
        have hnu := prF_bd (p := p) (by omega) fa i
        have HB := Lib.hid hB
        have hBs := hB.size
        by_cases hlt2 : i < k
        · obtain ⟨k1', k2'⟩ := H.out i hlt2
          have hci := (hB.cell (p := ⟨g1, off1 + i, none⟩) (by show g1 < _; omega)).trans (HC1.out i hlt2)
          have HS := Lib.hid (show prF p fa (i + 1) = prF p fa i * fa i % (p : Int) from rfl)
          obtain ⟨y, hy⟩ : ∃ y, prF p fa i = y := ⟨_, rfl⟩
          obtain ⟨z, hz⟩ : ∃ z, fa i = z := ⟨_, rfl⟩
          rw [hy] at hnu HS ⊢
          rw [hz] at HS hci k1' k2'
          have hm0 : 0 ≤ y * z := Int.mul_nonneg hnu.1 (by omega)
          have hm1 : y * z ≤ 61 * 61 := Int.mul_le_mul (by omega) (by omega) (by omega) (by omega)
          clear hy hz hB
          go_wp2
          go_roundw
          case rel => exact ⟨i + 1, by omega, by rw [HS.out], by go_num, HB.out⟩
          case measure => simp [intOf] <;> omega
        · obtain rfl : i = k := by omega
          obtain ⟨y, hy⟩ : ∃ y, prF p fa i = y := ⟨_, rfl⟩
          rw [hy] at hnu ⊢
          have bx := Box.made wr #[.int .i64 1, .int .i64 (p : Int), .int .i64 ((p : Int) * (p : Int)), .int .i64 ((p : Int) * (p : Int) * (p : Int))] 2 [.int .i64 1, .int .i64 (p : Int), .int .i64 ((p : Int) * (p : Int)), .int .i64 ((p : Int) * (p : Int) * (p : Int))] (fun j v h => by simpa using h)
          have d0 := bx.2.1 0 _ rfl
          have d1 := bx.2.1 1 _ rfl
          have d2 := bx.2.1 2 _ rfl
          have d3 := bx.2.1 3 _ rfl
          have hm0 : 0 ≤ y * b := Int.mul_nonneg hnu.1 hb0
          have hm1 : y * b ≤ 61 * 61 := Int.mul_le_mul (by omega) (by omega) (by omega) (by omega)
          have hm2 : 1 * y * b = y * b := by rw [Int.one_mul]
          have hm3 : -1 * y * b = -(y * b) := by rw [Int.neg_mul, Int.one_mul, Int.neg_mul]
          obtain ⟨N, hN⟩ : ∃ N : Int, (i : Int) = N := ⟨_, rfl⟩
          rw [hN]
          clear bx hB H HC1
          have hi4 : i = 1 ∨ i = 2 ∨ i = 3 ∨ i = 4 := by omega
          rcases hi4 with rfl | rfl | rfl | rfl
          · obtain rfl : N = 1 := by omega
            clear hN
            have hLG : legN p (y * b) = legN p (nuT p fa 0 1 * b % (p : Int)) := legN_congr (by rw [show y * b = 1 * y * b by first | (rw [hm3]) | (rw [hm2]) | omega, ← nu_prF fa (sg_0 (p := p) (by omega)) (by omega) 1, hy]; rw [Int.emod_emod, Int.mul_emod (1 * y % _) b, Int.emod_emod, ← Int.mul_emod])
            have HQ := Lib.hid (show quV p 1 fa b = 1 + 1 * legN p (y * b) by rw [hLG]; unfold quV; rw [if_pos (by decide)]; simp [Nat.pow_succ, Int.natCast_mul, Int.mul_assoc])
            have hl := leg_bd p (y * b)
            have HSQ := Lib.hid (fun w => l08Square_any p (y * b) HP.out (by omega) (by omega) w)
            obtain ⟨l, hL⟩ : ∃ l, legN p (y * b) = l := ⟨_, rfl⟩
            rw [hL] at HQ HSQ hl
            have hml := mul_leg (a := 1) (l := l) (A := 300000) (by omega) (by omega) hl.1 hl.2
            clear hL hLG hy
            go_wp2
            refine wp_region_held_drew (S := fun wy => wy.cell? ⟨wr.heap.size, 0, none⟩ = some (.int .i64 1) ∧ wy.cell? ⟨wr.heap.size, 1, none⟩ = some (.int .i64 (p : Int)) ∧ wy.cell? ⟨wr.heap.size, 2, none⟩ = some (.int .i64 ((p : Int) * (p : Int))) ∧ wy.cell? ⟨wr.heap.size, 3, none⟩ = some (.int .i64 ((p : Int) * (p : Int) * (p : Int)))) (by kernel_rfl) (⟨d0, d1, d2, d3⟩) (fun hHeld => ?_)
            refine wpAnyH_take (i := 0) (v := .slice (some ⟨wr.heap.size, 0, none⟩) 4 4) rfl (by kernel_rfl) (by kernel_rfl) (by kernel_rfl) (fun _ _ _ h => h) (Or.inl ⟨by rfl, ?_⟩) hHeld ?_
            · intro wy hy; go_simp; try (first | (rw [IntKind.wrap_i64]; omega) | (rw [Int.neg_mul, IntKind.wrap_i64]; omega))
            (try simp only [Act.put, List.getElem_toArray, List.getElem_cons_zero, List.getElem_cons_succ, List.setIfInBounds_toArray, List.set_cons_zero, List.set_cons_succ])
            refine wpAnyH_take (i := 1) (v := .int .i64 (1 : Int)) rfl (by kernel_rfl) (by kernel_rfl) (by kernel_rfl) (fun _ _ _ h => h) (Or.inl ⟨by rfl, ?_⟩) hHeld ?_
            · intro wy hy; go_simp; try (first | (rw [IntKind.wrap_i64]; omega) | (rw [Int.neg_mul, IntKind.wrap_i64]; omega))
            (try simp only [Act.put, List.getElem_toArray, List.getElem_cons_zero, List.getElem_cons_succ, List.setIfInBounds_toArray, List.set_cons_zero, List.set_cons_succ])
            refine wpAnyH_take (i := 2) (v := .int .i64 (0 : Int)) rfl (by kernel_rfl) (by kernel_rfl) (by kernel_rfl) (fun _ _ _ h => h) (Or.inl ⟨by rfl, ?_⟩) hHeld ?_
            · intro wy hy; go_simp; try (first | (rw [IntKind.wrap_i64]; omega) | (rw [Int.neg_mul, IntKind.wrap_i64]; omega))
            (try simp only [Act.put, List.getElem_toArray, List.getElem_cons_zero, List.getElem_cons_succ, List.setIfInBounds_toArray, List.set_cons_zero, List.set_cons_succ])
            refine wpAnyH_take (i := 3) (v := .pointer (some ⟨wr.heap.size, 0, none⟩)) rfl (by kernel_rfl) (by kernel_rfl) (by kernel_rfl) (fun _ _ _ h => h) (Or.inl ⟨by rfl, ?_⟩) hHeld ?_
            · intro wy hy; go_simp; try (first | (rw [IntKind.wrap_i64]; omega) | (rw [Int.neg_mul, IntKind.wrap_i64]; omega))
            (try simp only [Act.put, List.getElem_toArray, List.getElem_cons_zero, List.getElem_cons_succ, List.setIfInBounds_toArray, List.set_cons_zero, List.set_cons_succ])
            refine wpAnyH_take (i := 4) (v := .int .i64 (1 : Int)) rfl (by kernel_rfl) (by kernel_rfl) (by kernel_rfl) (fun _ _ _ h => h) (Or.inl ⟨by rfl, ?_⟩) hHeld ?_
            · intro wy hy; obtain ⟨c0, c1, c2, c3⟩ := hy; go_simp; try (first | (rw [IntKind.wrap_i64]; omega) | (rw [Int.neg_mul, IntKind.wrap_i64]; omega))
            (try simp only [Act.put, List.getElem_toArray, List.getElem_cons_zero, List.getElem_cons_succ, List.setIfInBounds_toArray, List.set_cons_zero, List.set_cons_succ])
            refine wpAnyH_take (i := 5) (v := .slice (some ⟨wr.heap.size, 0, none⟩) 4 4) rfl (by kernel_rfl) (by kernel_rfl) (by kernel_rfl) (fun _ _ _ h => h) (Or.inl ⟨by rfl, ?_⟩) hHeld ?_
            · intro wy hy; go_simp; try (first | (rw [IntKind.wrap_i64]; omega) | (rw [Int.neg_mul, IntKind.wrap_i64]; omega))
            (try simp only [Act.put, List.getElem_toArray, List.getElem_cons_zero, List.getElem_cons_succ, List.setIfInBounds_toArray, List.set_cons_zero, List.set_cons_succ])
            refine wpAnyH_take (i := 6) (v := .int .i64 (1 : Int)) rfl (by kernel_rfl) (by kernel_rfl) (by kernel_rfl) (fun _ _ _ h => h) (Or.inl ⟨by rfl, ?_⟩) hHeld ?_
            · intro wy hy; go_simp; try (first | (rw [IntKind.wrap_i64]; omega) | (rw [Int.neg_mul, IntKind.wrap_i64]; omega))
            (try simp only [Act.put, List.getElem_toArray, List.getElem_cons_zero, List.getElem_cons_succ, List.setIfInBounds_toArray, List.set_cons_zero, List.set_cons_succ])
            refine wpAnyH_take (i := 7) (v := .int .i64 (0 : Int)) rfl (by kernel_rfl) (by kernel_rfl) (by kernel_rfl) (fun _ _ _ h => h) (Or.inl ⟨by rfl, ?_⟩) hHeld ?_
            · intro wy hy; go_simp; try (first | (rw [IntKind.wrap_i64]; omega) | (rw [Int.neg_mul, IntKind.wrap_i64]; omega))
            (try simp only [Act.put, List.getElem_toArray, List.getElem_cons_zero, List.getElem_cons_succ, List.setIfInBounds_toArray, List.set_cons_zero, List.set_cons_succ])
            refine wpAnyH_take (i := 8) (v := .pointer (some ⟨wr.heap.size, 0, none⟩)) rfl (by kernel_rfl) (by kernel_rfl) (by kernel_rfl) (fun _ _ _ h => h) (Or.inl ⟨by rfl, ?_⟩) hHeld ?_
            · intro wy hy; go_simp; try (first | (rw [IntKind.wrap_i64]; omega) | (rw [Int.neg_mul, IntKind.wrap_i64]; omega))
            (try simp only [Act.put, List.getElem_toArray, List.getElem_cons_zero, List.getElem_cons_succ, List.setIfInBounds_toArray, List.set_cons_zero, List.set_cons_succ])
            refine wpAnyH_take (i := 9) (v := .int .i64 (1 : Int)) rfl (by kernel_rfl) (by kernel_rfl) (by kernel_rfl) (fun _ _ _ h => h) (Or.inl ⟨by rfl, ?_⟩) hHeld ?_
            · intro wy hy; obtain ⟨c0, c1, c2, c3⟩ := hy; go_simp; try (first | (rw [IntKind.wrap_i64]; omega) | (rw [Int.neg_mul, IntKind.wrap_i64]; omega))
            (try simp only [Act.put, List.getElem_toArray, List.getElem_cons_zero, List.getElem_cons_succ, List.setIfInBounds_toArray, List.set_cons_zero, List.set_cons_succ])
            refine wpAnyH_take (i := 10) (v := .int .i64 ((p : Int) : Int)) rfl (by kernel_rfl) (by kernel_rfl) (by kernel_rfl) (fun _ _ _ h => h) (Or.inl ⟨by rfl, ?_⟩) hHeld ?_
            · intro wy hy; go_simp; try (first | (rw [IntKind.wrap_i64]; omega) | (rw [Int.neg_mul, IntKind.wrap_i64]; omega))
            (try simp only [Act.put, List.getElem_toArray, List.getElem_cons_zero, List.getElem_cons_succ, List.setIfInBounds_toArray, List.set_cons_zero, List.set_cons_succ])
            refine wpAnyH_take (i := 11) (v := .int .i64 (1 : Int)) rfl (by kernel_rfl) (by kernel_rfl) (by kernel_rfl) (fun _ _ _ h => h) (Or.inl ⟨by rfl, ?_⟩) hHeld ?_
            · intro wy hy; go_simp; try (first | (rw [IntKind.wrap_i64]; omega) | (rw [Int.neg_mul, IntKind.wrap_i64]; omega))
            (try simp only [Act.put, List.getElem_toArray, List.getElem_cons_zero, List.getElem_cons_succ, List.setIfInBounds_toArray, List.set_cons_zero, List.set_cons_succ])
            refine wpAnyH_take (i := 12) (v := .int .i64 (y : Int)) rfl (by kernel_rfl) (by kernel_rfl) (by kernel_rfl) (fun _ _ _ h => h) (Or.inl ⟨by rfl, ?_⟩) hHeld ?_
            · intro wy hy; go_simp; try (first | (rw [IntKind.wrap_i64]; omega) | (rw [Int.neg_mul, IntKind.wrap_i64]; omega))
            (try simp only [Act.put, List.getElem_toArray, List.getElem_cons_zero, List.getElem_cons_succ, List.setIfInBounds_toArray, List.set_cons_zero, List.set_cons_succ])
            refine wpAnyH_take (i := 13) (v := .int .i64 (y : Int)) rfl (by kernel_rfl) (by kernel_rfl) (by kernel_rfl) (fun _ _ _ h => h) (Or.inl ⟨by rfl, ?_⟩) hHeld ?_
            · intro wy hy; go_simp; try (first | (rw [IntKind.wrap_i64]; omega) | (rw [Int.neg_mul, IntKind.wrap_i64]; omega))
            (try simp only [Act.put, List.getElem_toArray, List.getElem_cons_zero, List.getElem_cons_succ, List.setIfInBounds_toArray, List.set_cons_zero, List.set_cons_succ])
            refine wpAnyH_take (i := 14) (v := .int .i64 (b : Int)) rfl (by kernel_rfl) (by kernel_rfl) (by kernel_rfl) (fun _ _ _ h => h) (Or.inl ⟨by rfl, ?_⟩) hHeld ?_
            · intro wy hy; go_simp; try (first | (rw [IntKind.wrap_i64]; omega) | (rw [Int.neg_mul, IntKind.wrap_i64]; omega))
            (try simp only [Act.put, List.getElem_toArray, List.getElem_cons_zero, List.getElem_cons_succ, List.setIfInBounds_toArray, List.set_cons_zero, List.set_cons_succ])
            refine wpAnyH_take (i := 15) (v := .int .i64 (y * b : Int)) rfl (by kernel_rfl) (by kernel_rfl) (by kernel_rfl) (fun _ _ _ h => h) (Or.inl ⟨by rfl, ?_⟩) hHeld ?_
            · intro wy hy; go_simp; try (first | (rw [IntKind.wrap_i64]; omega) | (rw [Int.neg_mul, IntKind.wrap_i64]; omega))
            (try simp only [Act.put, List.getElem_toArray, List.getElem_cons_zero, List.getElem_cons_succ, List.setIfInBounds_toArray, List.set_cons_zero, List.set_cons_succ])
            refine wpAnyH_ready (rs := [16]) (by kernel_rfl) (by simp) ?_
            refine AllReadyH.cons rfl (fun K hK => ?_) AllReadyH.nil
            rw [if_pos (by rfl)]
            (try simp only [List.getElem_toArray, List.getElem_cons_zero, List.getElem_cons_succ])
            go_simp
            go_at_call 9
            refine (HSQ.out _).mono ?_
            rintro e w3 ⟨rfl, m3, rfl⟩
            refine hK.out _ _ hHeld (fun hHeld => ?_)
            clear hK K
            (try simp only [Act.put, List.getElem_toArray, List.getElem_cons_zero, List.getElem_cons_succ, List.setIfInBounds_toArray, List.set_cons_zero, List.set_cons_succ])
            refine wpAnyH_take (i := 17) (v := .int .i64 (l : Int)) rfl (by kernel_rfl) (by kernel_rfl) (by kernel_rfl) (fun _ _ _ h => h) (Or.inl ⟨by rfl, ?_⟩) hHeld ?_
            · intro wy hy; go_simp; try (first | (rw [IntKind.wrap_i64]; omega) | (rw [Int.neg_mul, IntKind.wrap_i64]; omega))
            (try simp only [Act.put, List.getElem_toArray, List.getElem_cons_zero, List.getElem_cons_succ, List.setIfInBounds_toArray, List.set_cons_zero, List.set_cons_succ])
            refine wpAnyH_take (i := 18) (v := .int .i64 (1 + l : Int)) rfl (by kernel_rfl) (by kernel_rfl) (by kernel_rfl) (fun _ _ _ h => h) (Or.inl ⟨by rfl, ?_⟩) hHeld ?_
            · intro wy hy; go_simp; try (first | (rw [IntKind.wrap_i64]; omega) | (rw [Int.neg_mul, IntKind.wrap_i64]; omega))
            (try simp only [Act.put, List.getElem_toArray, List.getElem_cons_zero, List.getElem_cons_succ, List.setIfInBounds_toArray, List.set_cons_zero, List.set_cons_succ])
            refine wpAnyH_take (i := 19) (v := .int .i64 (1 + l : Int)) rfl (by kernel_rfl) (by kernel_rfl) (by kernel_rfl) (fun _ _ _ h => h) (Or.inl ⟨by rfl, ?_⟩) hHeld ?_
            · intro wy hy; go_simp; try (first | (rw [IntKind.wrap_i64]; omega) | (rw [Int.neg_mul, IntKind.wrap_i64]; omega))
            (try simp only [Act.put, List.getElem_toArray, List.getElem_cons_zero, List.getElem_cons_succ, List.setIfInBounds_toArray, List.set_cons_zero, List.set_cons_succ])
            refine wpAnyH_take (i := 20) (v := .int .i64 (0 : Int)) rfl (by kernel_rfl) (by kernel_rfl) (by kernel_rfl) (fun _ _ _ h => h) (Or.inl ⟨by rfl, ?_⟩) hHeld ?_
            · intro wy hy; go_simp; try (first | (rw [IntKind.wrap_i64]; omega) | (rw [Int.neg_mul, IntKind.wrap_i64]; omega))
            (try simp only [Act.put, List.getElem_toArray, List.getElem_cons_zero, List.getElem_cons_succ, List.setIfInBounds_toArray, List.set_cons_zero, List.set_cons_succ])
            refine wpAnyH_done (by kernel_rfl) ?_ _
            go_wp2
            go_ret2
            exact ⟨by rw [show quV p 1 fa b = 1 + l from by have e := HQ.out; first | exact e | (rw [e]; first | (simp; done) | (simp [Int.neg_mul]; done) | omega)]; rfl, by first | exact below_drewN (HB.out.alloc hBs _).drew m3 | exact below_drewN (HB.out.alloc hBs _) m3 | exact (below_drewN (HB.out.alloc hBs _).drew m3).drew | go_grown⟩
          · obtain rfl : N = 2 := by omega
            clear hN
            by_cases hb : b = 0
            · have hbb : (b == 0) = true := by rw [hb]; rfl
              have hLG : legN p (-y) = legN p (nuT p fa 1 2) := legN_congr (by rw [show -y = -1 * y by first | (rw [hm3]) | (rw [hm2]) | omega, ← nu_prF fa (sg_1 (p := p) (by omega)) (by omega) 2, hy]; rw [Int.emod_emod])
              have HQ := Lib.hid (show quV p 2 fa b = (p : Int) + ((p : Int) - 1) * legN p (-y) by rw [hLG]; unfold quV; rw [if_neg (by decide), if_pos hb]; simp [Nat.pow_succ, Int.natCast_mul, Int.mul_assoc])
              have hl := leg_bd p (-y)
              have HSQ := Lib.hid (fun w => l08Square_any p (-y) HP.out (by omega) (by omega) w)
              obtain ⟨l, hL⟩ : ∃ l, legN p (-y) = l := ⟨_, rfl⟩
              rw [hL] at HQ HSQ hl
              have hml := mul_leg (a := ((p : Int) - 1)) (l := l) (A := 300000) (by omega) (by omega) hl.1 hl.2
              clear hL hLG hy
              go_wp2
              refine wp_region_held_drew (S := fun wy => wy.cell? ⟨wr.heap.size, 0, none⟩ = some (.int .i64 1) ∧ wy.cell? ⟨wr.heap.size, 1, none⟩ = some (.int .i64 (p : Int)) ∧ wy.cell? ⟨wr.heap.size, 2, none⟩ = some (.int .i64 ((p : Int) * (p : Int))) ∧ wy.cell? ⟨wr.heap.size, 3, none⟩ = some (.int .i64 ((p : Int) * (p : Int) * (p : Int)))) (by kernel_rfl) (⟨d0, d1, d2, d3⟩) (fun hHeld => ?_)
              have hpl := mul_leg (a := (p : Int)) (l := l) (A := 61) (by omega) (by omega) hl.1 hl.2
              refine wpAnyH_take (i := 0) (v := .slice (some ⟨wr.heap.size, 0, none⟩) 4 4) rfl (by kernel_rfl) (by kernel_rfl) (by kernel_rfl) (fun _ _ _ h => h) (Or.inl ⟨by rfl, ?_⟩) hHeld ?_
              · intro wy hy; go_simp; try (first | (rw [IntKind.wrap_i64]; omega) | (rw [Int.neg_mul, IntKind.wrap_i64]; omega))
              (try simp only [Act.put, List.getElem_toArray, List.getElem_cons_zero, List.getElem_cons_succ, List.setIfInBounds_toArray, List.set_cons_zero, List.set_cons_succ])
              refine wpAnyH_take (i := 1) (v := .int .i64 (2 : Int)) rfl (by kernel_rfl) (by kernel_rfl) (by kernel_rfl) (fun _ _ _ h => h) (Or.inl ⟨by rfl, ?_⟩) hHeld ?_
              · intro wy hy; go_simp; try (first | (rw [IntKind.wrap_i64]; omega) | (rw [Int.neg_mul, IntKind.wrap_i64]; omega))
              (try simp only [Act.put, List.getElem_toArray, List.getElem_cons_zero, List.getElem_cons_succ, List.setIfInBounds_toArray, List.set_cons_zero, List.set_cons_succ])
              refine wpAnyH_take (i := 2) (v := .int .i64 (1 : Int)) rfl (by kernel_rfl) (by kernel_rfl) (by kernel_rfl) (fun _ _ _ h => h) (Or.inl ⟨by rfl, ?_⟩) hHeld ?_
              · intro wy hy; go_simp; try (first | (rw [IntKind.wrap_i64]; omega) | (rw [Int.neg_mul, IntKind.wrap_i64]; omega))
              (try simp only [Act.put, List.getElem_toArray, List.getElem_cons_zero, List.getElem_cons_succ, List.setIfInBounds_toArray, List.set_cons_zero, List.set_cons_succ])
              refine wpAnyH_take (i := 3) (v := .pointer (some ⟨wr.heap.size, 1, none⟩)) rfl (by kernel_rfl) (by kernel_rfl) (by kernel_rfl) (fun _ _ _ h => h) (Or.inl ⟨by rfl, ?_⟩) hHeld ?_
              · intro wy hy; go_simp; try (first | (rw [IntKind.wrap_i64]; omega) | (rw [Int.neg_mul, IntKind.wrap_i64]; omega))
              (try simp only [Act.put, List.getElem_toArray, List.getElem_cons_zero, List.getElem_cons_succ, List.setIfInBounds_toArray, List.set_cons_zero, List.set_cons_succ])
              refine wpAnyH_take (i := 4) (v := .int .i64 ((p : Int) : Int)) rfl (by kernel_rfl) (by kernel_rfl) (by kernel_rfl) (fun _ _ _ h => h) (Or.inl ⟨by rfl, ?_⟩) hHeld ?_
              · intro wy hy; obtain ⟨c0, c1, c2, c3⟩ := hy; go_simp; try (first | (rw [IntKind.wrap_i64]; omega) | (rw [Int.neg_mul, IntKind.wrap_i64]; omega))
              (try simp only [Act.put, List.getElem_toArray, List.getElem_cons_zero, List.getElem_cons_succ, List.setIfInBounds_toArray, List.set_cons_zero, List.set_cons_succ])
              refine wpAnyH_take (i := 5) (v := .int .i64 ((p : Int) - 1 : Int)) rfl (by kernel_rfl) (by kernel_rfl) (by kernel_rfl) (fun _ _ _ h => h) (Or.inl ⟨by rfl, ?_⟩) hHeld ?_
              · intro wy hy; go_simp; try (first | (rw [IntKind.wrap_i64]; omega) | (rw [Int.neg_mul, IntKind.wrap_i64]; omega))
              (try simp only [Act.put, List.getElem_toArray, List.getElem_cons_zero, List.getElem_cons_succ, List.setIfInBounds_toArray, List.set_cons_zero, List.set_cons_succ])
              refine wpAnyH_take (i := 6) (v := .slice (some ⟨wr.heap.size, 0, none⟩) 4 4) rfl (by kernel_rfl) (by kernel_rfl) (by kernel_rfl) (fun _ _ _ h => h) (Or.inl ⟨by rfl, ?_⟩) hHeld ?_
              · intro wy hy; go_simp; try (first | (rw [IntKind.wrap_i64]; omega) | (rw [Int.neg_mul, IntKind.wrap_i64]; omega))
              (try simp only [Act.put, List.getElem_toArray, List.getElem_cons_zero, List.getElem_cons_succ, List.setIfInBounds_toArray, List.set_cons_zero, List.set_cons_succ])
              refine wpAnyH_take (i := 7) (v := .int .i64 (2 : Int)) rfl (by kernel_rfl) (by kernel_rfl) (by kernel_rfl) (fun _ _ _ h => h) (Or.inl ⟨by rfl, ?_⟩) hHeld ?_
              · intro wy hy; go_simp; try (first | (rw [IntKind.wrap_i64]; omega) | (rw [Int.neg_mul, IntKind.wrap_i64]; omega))
              (try simp only [Act.put, List.getElem_toArray, List.getElem_cons_zero, List.getElem_cons_succ, List.setIfInBounds_toArray, List.set_cons_zero, List.set_cons_succ])
              refine wpAnyH_take (i := 8) (v := .int .i64 (1 : Int)) rfl (by kernel_rfl) (by kernel_rfl) (by kernel_rfl) (fun _ _ _ h => h) (Or.inl ⟨by rfl, ?_⟩) hHeld ?_
              · intro wy hy; go_simp; try (first | (rw [IntKind.wrap_i64]; omega) | (rw [Int.neg_mul, IntKind.wrap_i64]; omega))
              (try simp only [Act.put, List.getElem_toArray, List.getElem_cons_zero, List.getElem_cons_succ, List.setIfInBounds_toArray, List.set_cons_zero, List.set_cons_succ])
              refine wpAnyH_take (i := 9) (v := .int .i64 (0 : Int)) rfl (by kernel_rfl) (by kernel_rfl) (by kernel_rfl) (fun _ _ _ h => h) (Or.inl ⟨by rfl, ?_⟩) hHeld ?_
              · intro wy hy; go_simp; try (first | (rw [IntKind.wrap_i64]; omega) | (rw [Int.neg_mul, IntKind.wrap_i64]; omega))
              (try simp only [Act.put, List.getElem_toArray, List.getElem_cons_zero, List.getElem_cons_succ, List.setIfInBounds_toArray, List.set_cons_zero, List.set_cons_succ])
              refine wpAnyH_take (i := 10) (v := .pointer (some ⟨wr.heap.size, 0, none⟩)) rfl (by kernel_rfl) (by kernel_rfl) (by kernel_rfl) (fun _ _ _ h => h) (Or.inl ⟨by rfl, ?_⟩) hHeld ?_
              · intro wy hy; go_simp; try (first | (rw [IntKind.wrap_i64]; omega) | (rw [Int.neg_mul, IntKind.wrap_i64]; omega))
              (try simp only [Act.put, List.getElem_toArray, List.getElem_cons_zero, List.getElem_cons_succ, List.setIfInBounds_toArray, List.set_cons_zero, List.set_cons_succ])
              refine wpAnyH_take (i := 11) (v := .int .i64 (1 : Int)) rfl (by kernel_rfl) (by kernel_rfl) (by kernel_rfl) (fun _ _ _ h => h) (Or.inl ⟨by rfl, ?_⟩) hHeld ?_
              · intro wy hy; obtain ⟨c0, c1, c2, c3⟩ := hy; go_simp; try (first | (rw [IntKind.wrap_i64]; omega) | (rw [Int.neg_mul, IntKind.wrap_i64]; omega))
              (try simp only [Act.put, List.getElem_toArray, List.getElem_cons_zero, List.getElem_cons_succ, List.setIfInBounds_toArray, List.set_cons_zero, List.set_cons_succ])
              refine wpAnyH_take (i := 12) (v := .int .i64 ((p : Int) - 1 : Int)) rfl (by kernel_rfl) (by kernel_rfl) (by kernel_rfl) (fun _ _ _ h => h) (Or.inl ⟨by rfl, ?_⟩) hHeld ?_
              · intro wy hy; go_simp; try (first | (rw [IntKind.wrap_i64]; omega) | (rw [Int.neg_mul, IntKind.wrap_i64]; omega))
              (try simp only [Act.put, List.getElem_toArray, List.getElem_cons_zero, List.getElem_cons_succ, List.setIfInBounds_toArray, List.set_cons_zero, List.set_cons_succ])
              refine wpAnyH_take (i := 13) (v := .int .i64 ((p : Int) : Int)) rfl (by kernel_rfl) (by kernel_rfl) (by kernel_rfl) (fun _ _ _ h => h) (Or.inl ⟨by rfl, ?_⟩) hHeld ?_
              · intro wy hy; go_simp; try (first | (rw [IntKind.wrap_i64]; omega) | (rw [Int.neg_mul, IntKind.wrap_i64]; omega))
              (try simp only [Act.put, List.getElem_toArray, List.getElem_cons_zero, List.getElem_cons_succ, List.setIfInBounds_toArray, List.set_cons_zero, List.set_cons_succ])
              refine wpAnyH_take (i := 14) (v := .int .i64 (-1 : Int)) rfl (by kernel_rfl) (by kernel_rfl) (by kernel_rfl) (fun _ _ _ h => h) (Or.inl ⟨by rfl, ?_⟩) hHeld ?_
              · intro wy hy; go_simp; try (first | (rw [IntKind.wrap_i64]; omega) | (rw [Int.neg_mul, IntKind.wrap_i64]; omega))
              (try simp only [Act.put, List.getElem_toArray, List.getElem_cons_zero, List.getElem_cons_succ, List.setIfInBounds_toArray, List.set_cons_zero, List.set_cons_succ])
              refine wpAnyH_take (i := 15) (v := .int .i64 (y : Int)) rfl (by kernel_rfl) (by kernel_rfl) (by kernel_rfl) (fun _ _ _ h => h) (Or.inl ⟨by rfl, ?_⟩) hHeld ?_
              · intro wy hy; go_simp; try (first | (rw [IntKind.wrap_i64]; omega) | (rw [Int.neg_mul, IntKind.wrap_i64]; omega))
              (try simp only [Act.put, List.getElem_toArray, List.getElem_cons_zero, List.getElem_cons_succ, List.setIfInBounds_toArray, List.set_cons_zero, List.set_cons_succ])
              refine wpAnyH_take (i := 16) (v := .int .i64 (-y : Int)) rfl (by kernel_rfl) (by kernel_rfl) (by kernel_rfl) (fun _ _ _ h => h) (Or.inl ⟨by rfl, ?_⟩) hHeld ?_
              · intro wy hy; go_simp; try (first | (rw [IntKind.wrap_i64]; omega) | (rw [Int.neg_mul, IntKind.wrap_i64]; omega))
              (try simp only [Act.put, List.getElem_toArray, List.getElem_cons_zero, List.getElem_cons_succ, List.setIfInBounds_toArray, List.set_cons_zero, List.set_cons_succ])
              refine wpAnyH_ready (rs := [17]) (by kernel_rfl) (by simp) ?_
              refine AllReadyH.cons rfl (fun K hK => ?_) AllReadyH.nil
              rw [if_pos (by rfl)]
              (try simp only [List.getElem_toArray, List.getElem_cons_zero, List.getElem_cons_succ])
              go_simp
              go_at_call 9
              refine (HSQ.out _).mono ?_
              rintro e w3 ⟨rfl, m3, rfl⟩
              refine hK.out _ _ hHeld (fun hHeld => ?_)
              clear hK K
              (try simp only [Act.put, List.getElem_toArray, List.getElem_cons_zero, List.getElem_cons_succ, List.setIfInBounds_toArray, List.set_cons_zero, List.set_cons_succ])
              refine wpAnyH_take (i := 18) (v := .int .i64 (((p : Int) - 1) * l : Int)) rfl (by kernel_rfl) (by kernel_rfl) (by kernel_rfl) (fun _ _ _ h => h) (Or.inl ⟨by rfl, ?_⟩) hHeld ?_
              · intro wy hy; go_simp; try (first | (rw [IntKind.wrap_i64]; omega) | (rw [Int.neg_mul, IntKind.wrap_i64]; omega))
              (try simp only [Act.put, List.getElem_toArray, List.getElem_cons_zero, List.getElem_cons_succ, List.setIfInBounds_toArray, List.set_cons_zero, List.set_cons_succ])
              refine wpAnyH_take (i := 19) (v := .int .i64 ((p : Int) + ((p : Int) - 1) * l : Int)) rfl (by kernel_rfl) (by kernel_rfl) (by kernel_rfl) (fun _ _ _ h => h) (Or.inl ⟨by rfl, ?_⟩) hHeld ?_
              · intro wy hy; go_simp; try (first | (rw [IntKind.wrap_i64]; omega) | (rw [Int.neg_mul, IntKind.wrap_i64]; omega))
              (try simp only [Act.put, List.getElem_toArray, List.getElem_cons_zero, List.getElem_cons_succ, List.setIfInBounds_toArray, List.set_cons_zero, List.set_cons_succ])
              refine wpAnyH_take (i := 20) (v := .int .i64 ((p : Int) + ((p : Int) - 1) * l : Int)) rfl (by kernel_rfl) (by kernel_rfl) (by kernel_rfl) (fun _ _ _ h => h) (Or.inl ⟨by rfl, ?_⟩) hHeld ?_
              · intro wy hy; go_simp; try (first | (rw [IntKind.wrap_i64]; omega) | (rw [Int.neg_mul, IntKind.wrap_i64]; omega))
              (try simp only [Act.put, List.getElem_toArray, List.getElem_cons_zero, List.getElem_cons_succ, List.setIfInBounds_toArray, List.set_cons_zero, List.set_cons_succ])
              refine wpAnyH_take (i := 21) (v := .int .i64 (0 : Int)) rfl (by kernel_rfl) (by kernel_rfl) (by kernel_rfl) (fun _ _ _ h => h) (Or.inl ⟨by rfl, ?_⟩) hHeld ?_
              · intro wy hy; go_simp; try (first | (rw [IntKind.wrap_i64]; omega) | (rw [Int.neg_mul, IntKind.wrap_i64]; omega))
              (try simp only [Act.put, List.getElem_toArray, List.getElem_cons_zero, List.getElem_cons_succ, List.setIfInBounds_toArray, List.set_cons_zero, List.set_cons_succ])
              refine wpAnyH_done (by kernel_rfl) ?_ _
              go_wp2
              go_ret2
              exact ⟨by rw [show quV p 2 fa b = (p : Int) + ((p : Int) - 1) * l from by have e := HQ.out; first | exact e | (rw [e]; first | (simp; done) | (simp [Int.neg_mul]; done) | omega)]; rfl, by first | exact below_drewN (HB.out.alloc hBs _).drew m3 | exact below_drewN (HB.out.alloc hBs _) m3 | exact (below_drewN (HB.out.alloc hBs _).drew m3).drew | go_grown⟩
            · have hbb : (b == 0) = false := beq_eq_false_iff_ne.2 hb
              have hLG : legN p (-y) = legN p (nuT p fa 1 2) := legN_congr (by rw [show -y = -1 * y by first | (rw [hm3]) | (rw [hm2]) | omega, ← nu_prF fa (sg_1 (p := p) (by omega)) (by omega) 2, hy]; rw [Int.emod_emod])
              have HQ := Lib.hid (show quV p 2 fa b = (p : Int) + (-1) * legN p (-y) by rw [hLG]; unfold quV; rw [if_neg (by decide), if_neg hb]; simp [Nat.pow_succ, Int.natCast_mul, Int.mul_assoc])
              have hl := leg_bd p (-y)
              have HSQ := Lib.hid (fun w => l08Square_any p (-y) HP.out (by omega) (by omega) w)
              obtain ⟨l, hL⟩ : ∃ l, legN p (-y) = l := ⟨_, rfl⟩
              rw [hL] at HQ HSQ hl
              have hml := mul_leg (a := (-1)) (l := l) (A := 300000) (by omega) (by omega) hl.1 hl.2
              clear hL hLG hy
              go_wp2
              refine wp_region_held_drew (S := fun wy => wy.cell? ⟨wr.heap.size, 0, none⟩ = some (.int .i64 1) ∧ wy.cell? ⟨wr.heap.size, 1, none⟩ = some (.int .i64 (p : Int)) ∧ wy.cell? ⟨wr.heap.size, 2, none⟩ = some (.int .i64 ((p : Int) * (p : Int))) ∧ wy.cell? ⟨wr.heap.size, 3, none⟩ = some (.int .i64 ((p : Int) * (p : Int) * (p : Int)))) (by kernel_rfl) (⟨d0, d1, d2, d3⟩) (fun hHeld => ?_)
              have hpl := mul_leg (a := (p : Int)) (l := l) (A := 61) (by omega) (by omega) hl.1 hl.2
              refine wpAnyH_take (i := 0) (v := .slice (some ⟨wr.heap.size, 0, none⟩) 4 4) rfl (by kernel_rfl) (by kernel_rfl) (by kernel_rfl) (fun _ _ _ h => h) (Or.inl ⟨by rfl, ?_⟩) hHeld ?_
              · intro wy hy; go_simp; try (first | (rw [IntKind.wrap_i64]; omega) | (rw [Int.neg_mul, IntKind.wrap_i64]; omega))
              (try simp only [Act.put, List.getElem_toArray, List.getElem_cons_zero, List.getElem_cons_succ, List.setIfInBounds_toArray, List.set_cons_zero, List.set_cons_succ])
              refine wpAnyH_take (i := 1) (v := .int .i64 (2 : Int)) rfl (by kernel_rfl) (by kernel_rfl) (by kernel_rfl) (fun _ _ _ h => h) (Or.inl ⟨by rfl, ?_⟩) hHeld ?_
              · intro wy hy; go_simp; try (first | (rw [IntKind.wrap_i64]; omega) | (rw [Int.neg_mul, IntKind.wrap_i64]; omega))
              (try simp only [Act.put, List.getElem_toArray, List.getElem_cons_zero, List.getElem_cons_succ, List.setIfInBounds_toArray, List.set_cons_zero, List.set_cons_succ])
              refine wpAnyH_take (i := 2) (v := .int .i64 (1 : Int)) rfl (by kernel_rfl) (by kernel_rfl) (by kernel_rfl) (fun _ _ _ h => h) (Or.inl ⟨by rfl, ?_⟩) hHeld ?_
              · intro wy hy; go_simp; try (first | (rw [IntKind.wrap_i64]; omega) | (rw [Int.neg_mul, IntKind.wrap_i64]; omega))
              (try simp only [Act.put, List.getElem_toArray, List.getElem_cons_zero, List.getElem_cons_succ, List.setIfInBounds_toArray, List.set_cons_zero, List.set_cons_succ])
              refine wpAnyH_take (i := 3) (v := .pointer (some ⟨wr.heap.size, 1, none⟩)) rfl (by kernel_rfl) (by kernel_rfl) (by kernel_rfl) (fun _ _ _ h => h) (Or.inl ⟨by rfl, ?_⟩) hHeld ?_
              · intro wy hy; go_simp; try (first | (rw [IntKind.wrap_i64]; omega) | (rw [Int.neg_mul, IntKind.wrap_i64]; omega))
              (try simp only [Act.put, List.getElem_toArray, List.getElem_cons_zero, List.getElem_cons_succ, List.setIfInBounds_toArray, List.set_cons_zero, List.set_cons_succ])
              refine wpAnyH_take (i := 4) (v := .int .i64 ((p : Int) : Int)) rfl (by kernel_rfl) (by kernel_rfl) (by kernel_rfl) (fun _ _ _ h => h) (Or.inl ⟨by rfl, ?_⟩) hHeld ?_
              · intro wy hy; obtain ⟨c0, c1, c2, c3⟩ := hy; go_simp; try (first | (rw [IntKind.wrap_i64]; omega) | (rw [Int.neg_mul, IntKind.wrap_i64]; omega))
              (try simp only [Act.put, List.getElem_toArray, List.getElem_cons_zero, List.getElem_cons_succ, List.setIfInBounds_toArray, List.set_cons_zero, List.set_cons_succ])
              refine wpAnyH_take (i := 5) (v := .int .i64 (-1 : Int)) rfl (by kernel_rfl) (by kernel_rfl) (by kernel_rfl) (fun _ _ _ h => h) (Or.inl ⟨by rfl, ?_⟩) hHeld ?_
              · intro wy hy; go_simp; try (first | (rw [IntKind.wrap_i64]; omega) | (rw [Int.neg_mul, IntKind.wrap_i64]; omega))
              (try simp only [Act.put, List.getElem_toArray, List.getElem_cons_zero, List.getElem_cons_succ, List.setIfInBounds_toArray, List.set_cons_zero, List.set_cons_succ])
              refine wpAnyH_take (i := 6) (v := .slice (some ⟨wr.heap.size, 0, none⟩) 4 4) rfl (by kernel_rfl) (by kernel_rfl) (by kernel_rfl) (fun _ _ _ h => h) (Or.inl ⟨by rfl, ?_⟩) hHeld ?_
              · intro wy hy; go_simp; try (first | (rw [IntKind.wrap_i64]; omega) | (rw [Int.neg_mul, IntKind.wrap_i64]; omega))
              (try simp only [Act.put, List.getElem_toArray, List.getElem_cons_zero, List.getElem_cons_succ, List.setIfInBounds_toArray, List.set_cons_zero, List.set_cons_succ])
              refine wpAnyH_take (i := 7) (v := .int .i64 (2 : Int)) rfl (by kernel_rfl) (by kernel_rfl) (by kernel_rfl) (fun _ _ _ h => h) (Or.inl ⟨by rfl, ?_⟩) hHeld ?_
              · intro wy hy; go_simp; try (first | (rw [IntKind.wrap_i64]; omega) | (rw [Int.neg_mul, IntKind.wrap_i64]; omega))
              (try simp only [Act.put, List.getElem_toArray, List.getElem_cons_zero, List.getElem_cons_succ, List.setIfInBounds_toArray, List.set_cons_zero, List.set_cons_succ])
              refine wpAnyH_take (i := 8) (v := .int .i64 (1 : Int)) rfl (by kernel_rfl) (by kernel_rfl) (by kernel_rfl) (fun _ _ _ h => h) (Or.inl ⟨by rfl, ?_⟩) hHeld ?_
              · intro wy hy; go_simp; try (first | (rw [IntKind.wrap_i64]; omega) | (rw [Int.neg_mul, IntKind.wrap_i64]; omega))
              (try simp only [Act.put, List.getElem_toArray, List.getElem_cons_zero, List.getElem_cons_succ, List.setIfInBounds_toArray, List.set_cons_zero, List.set_cons_succ])
              refine wpAnyH_take (i := 9) (v := .int .i64 (0 : Int)) rfl (by kernel_rfl) (by kernel_rfl) (by kernel_rfl) (fun _ _ _ h => h) (Or.inl ⟨by rfl, ?_⟩) hHeld ?_
              · intro wy hy; go_simp; try (first | (rw [IntKind.wrap_i64]; omega) | (rw [Int.neg_mul, IntKind.wrap_i64]; omega))
              (try simp only [Act.put, List.getElem_toArray, List.getElem_cons_zero, List.getElem_cons_succ, List.setIfInBounds_toArray, List.set_cons_zero, List.set_cons_succ])
              refine wpAnyH_take (i := 10) (v := .pointer (some ⟨wr.heap.size, 0, none⟩)) rfl (by kernel_rfl) (by kernel_rfl) (by kernel_rfl) (fun _ _ _ h => h) (Or.inl ⟨by rfl, ?_⟩) hHeld ?_
              · intro wy hy; go_simp; try (first | (rw [IntKind.wrap_i64]; omega) | (rw [Int.neg_mul, IntKind.wrap_i64]; omega))
              (try simp only [Act.put, List.getElem_toArray, List.getElem_cons_zero, List.getElem_cons_succ, List.setIfInBounds_toArray, List.set_cons_zero, List.set_cons_succ])
              refine wpAnyH_take (i := 11) (v := .int .i64 (1 : Int)) rfl (by kernel_rfl) (by kernel_rfl) (by kernel_rfl) (fun _ _ _ h => h) (Or.inl ⟨by rfl, ?_⟩) hHeld ?_
              · intro wy hy; obtain ⟨c0, c1, c2, c3⟩ := hy; go_simp; try (first | (rw [IntKind.wrap_i64]; omega) | (rw [Int.neg_mul, IntKind.wrap_i64]; omega))
              (try simp only [Act.put, List.getElem_toArray, List.getElem_cons_zero, List.getElem_cons_succ, List.setIfInBounds_toArray, List.set_cons_zero, List.set_cons_succ])
              refine wpAnyH_take (i := 12) (v := .int .i64 (-1 : Int)) rfl (by kernel_rfl) (by kernel_rfl) (by kernel_rfl) (fun _ _ _ h => h) (Or.inl ⟨by rfl, ?_⟩) hHeld ?_
              · intro wy hy; go_simp; try (first | (rw [IntKind.wrap_i64]; omega) | (rw [Int.neg_mul, IntKind.wrap_i64]; omega))
              (try simp only [Act.put, List.getElem_toArray, List.getElem_cons_zero, List.getElem_cons_succ, List.setIfInBounds_toArray, List.set_cons_zero, List.set_cons_succ])
              refine wpAnyH_take (i := 13) (v := .int .i64 ((p : Int) : Int)) rfl (by kernel_rfl) (by kernel_rfl) (by kernel_rfl) (fun _ _ _ h => h) (Or.inl ⟨by rfl, ?_⟩) hHeld ?_
              · intro wy hy; go_simp; try (first | (rw [IntKind.wrap_i64]; omega) | (rw [Int.neg_mul, IntKind.wrap_i64]; omega))
              (try simp only [Act.put, List.getElem_toArray, List.getElem_cons_zero, List.getElem_cons_succ, List.setIfInBounds_toArray, List.set_cons_zero, List.set_cons_succ])
              refine wpAnyH_take (i := 14) (v := .int .i64 (-1 : Int)) rfl (by kernel_rfl) (by kernel_rfl) (by kernel_rfl) (fun _ _ _ h => h) (Or.inl ⟨by rfl, ?_⟩) hHeld ?_
              · intro wy hy; go_simp; try (first | (rw [IntKind.wrap_i64]; omega) | (rw [Int.neg_mul, IntKind.wrap_i64]; omega))
              (try simp only [Act.put, List.getElem_toArray, List.getElem_cons_zero, List.getElem_cons_succ, List.setIfInBounds_toArray, List.set_cons_zero, List.set_cons_succ])
              refine wpAnyH_take (i := 15) (v := .int .i64 (y : Int)) rfl (by kernel_rfl) (by kernel_rfl) (by kernel_rfl) (fun _ _ _ h => h) (Or.inl ⟨by rfl, ?_⟩) hHeld ?_
              · intro wy hy; go_simp; try (first | (rw [IntKind.wrap_i64]; omega) | (rw [Int.neg_mul, IntKind.wrap_i64]; omega))
              (try simp only [Act.put, List.getElem_toArray, List.getElem_cons_zero, List.getElem_cons_succ, List.setIfInBounds_toArray, List.set_cons_zero, List.set_cons_succ])
              refine wpAnyH_take (i := 16) (v := .int .i64 (-y : Int)) rfl (by kernel_rfl) (by kernel_rfl) (by kernel_rfl) (fun _ _ _ h => h) (Or.inl ⟨by rfl, ?_⟩) hHeld ?_
              · intro wy hy; go_simp; try (first | (rw [IntKind.wrap_i64]; omega) | (rw [Int.neg_mul, IntKind.wrap_i64]; omega))
              (try simp only [Act.put, List.getElem_toArray, List.getElem_cons_zero, List.getElem_cons_succ, List.setIfInBounds_toArray, List.set_cons_zero, List.set_cons_succ])
              refine wpAnyH_ready (rs := [17]) (by kernel_rfl) (by simp) ?_
              refine AllReadyH.cons rfl (fun K hK => ?_) AllReadyH.nil
              rw [if_pos (by rfl)]
              (try simp only [List.getElem_toArray, List.getElem_cons_zero, List.getElem_cons_succ])
              go_simp
              go_at_call 9
              refine (HSQ.out _).mono ?_
              rintro e w3 ⟨rfl, m3, rfl⟩
              refine hK.out _ _ hHeld (fun hHeld => ?_)
              clear hK K
              (try simp only [Act.put, List.getElem_toArray, List.getElem_cons_zero, List.getElem_cons_succ, List.setIfInBounds_toArray, List.set_cons_zero, List.set_cons_succ])
              refine wpAnyH_take (i := 18) (v := .int .i64 (-l : Int)) rfl (by kernel_rfl) (by kernel_rfl) (by kernel_rfl) (fun _ _ _ h => h) (Or.inl ⟨by rfl, ?_⟩) hHeld ?_
              · intro wy hy; go_simp; try (first | (rw [IntKind.wrap_i64]; omega) | (rw [Int.neg_mul, IntKind.wrap_i64]; omega))
              (try simp only [Act.put, List.getElem_toArray, List.getElem_cons_zero, List.getElem_cons_succ, List.setIfInBounds_toArray, List.set_cons_zero, List.set_cons_succ])
              refine wpAnyH_take (i := 19) (v := .int .i64 ((p : Int) + -l : Int)) rfl (by kernel_rfl) (by kernel_rfl) (by kernel_rfl) (fun _ _ _ h => h) (Or.inl ⟨by rfl, ?_⟩) hHeld ?_
              · intro wy hy; go_simp; try (first | (rw [IntKind.wrap_i64]; omega) | (rw [Int.neg_mul, IntKind.wrap_i64]; omega))
              (try simp only [Act.put, List.getElem_toArray, List.getElem_cons_zero, List.getElem_cons_succ, List.setIfInBounds_toArray, List.set_cons_zero, List.set_cons_succ])
              refine wpAnyH_take (i := 20) (v := .int .i64 ((p : Int) + -l : Int)) rfl (by kernel_rfl) (by kernel_rfl) (by kernel_rfl) (fun _ _ _ h => h) (Or.inl ⟨by rfl, ?_⟩) hHeld ?_
              · intro wy hy; go_simp; try (first | (rw [IntKind.wrap_i64]; omega) | (rw [Int.neg_mul, IntKind.wrap_i64]; omega))
              (try simp only [Act.put, List.getElem_toArray, List.getElem_cons_zero, List.getElem_cons_succ, List.setIfInBounds_toArray, List.set_cons_zero, List.set_cons_succ])
              refine wpAnyH_take (i := 21) (v := .int .i64 (0 : Int)) rfl (by kernel_rfl) (by kernel_rfl) (by kernel_rfl) (fun _ _ _ h => h) (Or.inl ⟨by rfl, ?_⟩) hHeld ?_
              · intro wy hy; go_simp; try (first | (rw [IntKind.wrap_i64]; omega) | (rw [Int.neg_mul, IntKind.wrap_i64]; omega))
              (try simp only [Act.put, List.getElem_toArray, List.getElem_cons_zero, List.getElem_cons_succ, List.setIfInBounds_toArray, List.set_cons_zero, List.set_cons_succ])
              refine wpAnyH_done (by kernel_rfl) ?_ _
              go_wp2
              go_ret2
              exact ⟨by rw [show quV p 2 fa b = (p : Int) + -l from by have e := HQ.out; first | exact e | (rw [e]; first | (simp; done) | (simp [Int.neg_mul]; done) | omega)]; rfl, by first | exact below_drewN (HB.out.alloc hBs _).drew m3 | exact below_drewN (HB.out.alloc hBs _) m3 | exact (below_drewN (HB.out.alloc hBs _).drew m3).drew | go_grown⟩
          · obtain rfl : N = 3 := by omega
            clear hN
            have hLG : legN p (-(y * b)) = legN p (nuT p fa 1 3 * b % (p : Int)) := legN_congr (by rw [show -(y * b) = -1 * y * b by first | (rw [hm3]) | (rw [hm2]) | omega, ← nu_prF fa (sg_1 (p := p) (by omega)) (by omega) 3, hy]; rw [Int.emod_emod, Int.mul_emod (-1 * y % _) b, Int.emod_emod, ← Int.mul_emod])
            have HQ := Lib.hid (show quV p 3 fa b = ((p : Int) * (p : Int)) + (p : Int) * legN p (-(y * b)) by rw [hLG]; unfold quV; rw [if_pos (by decide)]; simp [Nat.pow_succ, Int.natCast_mul, Int.mul_assoc])
            have hl := leg_bd p (-(y * b))
            have HSQ := Lib.hid (fun w => l08Square_any p (-(y * b)) HP.out (by omega) (by omega) w)
            obtain ⟨l, hL⟩ : ∃ l, legN p (-(y * b)) = l := ⟨_, rfl⟩
            rw [hL] at HQ HSQ hl
            have hml := mul_leg (a := (p : Int)) (l := l) (A := 300000) (by omega) (by omega) hl.1 hl.2
            clear hL hLG hy
            go_wp2
            refine wp_region_held_drew (S := fun wy => wy.cell? ⟨wr.heap.size, 0, none⟩ = some (.int .i64 1) ∧ wy.cell? ⟨wr.heap.size, 1, none⟩ = some (.int .i64 (p : Int)) ∧ wy.cell? ⟨wr.heap.size, 2, none⟩ = some (.int .i64 ((p : Int) * (p : Int))) ∧ wy.cell? ⟨wr.heap.size, 3, none⟩ = some (.int .i64 ((p : Int) * (p : Int) * (p : Int)))) (by kernel_rfl) (⟨d0, d1, d2, d3⟩) (fun hHeld => ?_)
            refine wpAnyH_take (i := 0) (v := .slice (some ⟨wr.heap.size, 0, none⟩) 4 4) rfl (by kernel_rfl) (by kernel_rfl) (by kernel_rfl) (fun _ _ _ h => h) (Or.inl ⟨by rfl, ?_⟩) hHeld ?_
            · intro wy hy; go_simp; try (first | (rw [IntKind.wrap_i64]; omega) | (rw [Int.neg_mul, IntKind.wrap_i64]; omega))
            (try simp only [Act.put, List.getElem_toArray, List.getElem_cons_zero, List.getElem_cons_succ, List.setIfInBounds_toArray, List.set_cons_zero, List.set_cons_succ])
            refine wpAnyH_take (i := 1) (v := .int .i64 (3 : Int)) rfl (by kernel_rfl) (by kernel_rfl) (by kernel_rfl) (fun _ _ _ h => h) (Or.inl ⟨by rfl, ?_⟩) hHeld ?_
            · intro wy hy; go_simp; try (first | (rw [IntKind.wrap_i64]; omega) | (rw [Int.neg_mul, IntKind.wrap_i64]; omega))
            (try simp only [Act.put, List.getElem_toArray, List.getElem_cons_zero, List.getElem_cons_succ, List.setIfInBounds_toArray, List.set_cons_zero, List.set_cons_succ])
            refine wpAnyH_take (i := 2) (v := .int .i64 (2 : Int)) rfl (by kernel_rfl) (by kernel_rfl) (by kernel_rfl) (fun _ _ _ h => h) (Or.inl ⟨by rfl, ?_⟩) hHeld ?_
            · intro wy hy; go_simp; try (first | (rw [IntKind.wrap_i64]; omega) | (rw [Int.neg_mul, IntKind.wrap_i64]; omega))
            (try simp only [Act.put, List.getElem_toArray, List.getElem_cons_zero, List.getElem_cons_succ, List.setIfInBounds_toArray, List.set_cons_zero, List.set_cons_succ])
            refine wpAnyH_take (i := 3) (v := .pointer (some ⟨wr.heap.size, 2, none⟩)) rfl (by kernel_rfl) (by kernel_rfl) (by kernel_rfl) (fun _ _ _ h => h) (Or.inl ⟨by rfl, ?_⟩) hHeld ?_
            · intro wy hy; go_simp; try (first | (rw [IntKind.wrap_i64]; omega) | (rw [Int.neg_mul, IntKind.wrap_i64]; omega))
            (try simp only [Act.put, List.getElem_toArray, List.getElem_cons_zero, List.getElem_cons_succ, List.setIfInBounds_toArray, List.set_cons_zero, List.set_cons_succ])
            refine wpAnyH_take (i := 4) (v := .int .i64 (((p : Int) * (p : Int)) : Int)) rfl (by kernel_rfl) (by kernel_rfl) (by kernel_rfl) (fun _ _ _ h => h) (Or.inl ⟨by rfl, ?_⟩) hHeld ?_
            · intro wy hy; obtain ⟨c0, c1, c2, c3⟩ := hy; go_simp; try (first | (rw [IntKind.wrap_i64]; omega) | (rw [Int.neg_mul, IntKind.wrap_i64]; omega))
            (try simp only [Act.put, List.getElem_toArray, List.getElem_cons_zero, List.getElem_cons_succ, List.setIfInBounds_toArray, List.set_cons_zero, List.set_cons_succ])
            refine wpAnyH_take (i := 5) (v := .slice (some ⟨wr.heap.size, 0, none⟩) 4 4) rfl (by kernel_rfl) (by kernel_rfl) (by kernel_rfl) (fun _ _ _ h => h) (Or.inl ⟨by rfl, ?_⟩) hHeld ?_
            · intro wy hy; go_simp; try (first | (rw [IntKind.wrap_i64]; omega) | (rw [Int.neg_mul, IntKind.wrap_i64]; omega))
            (try simp only [Act.put, List.getElem_toArray, List.getElem_cons_zero, List.getElem_cons_succ, List.setIfInBounds_toArray, List.set_cons_zero, List.set_cons_succ])
            refine wpAnyH_take (i := 6) (v := .int .i64 (3 : Int)) rfl (by kernel_rfl) (by kernel_rfl) (by kernel_rfl) (fun _ _ _ h => h) (Or.inl ⟨by rfl, ?_⟩) hHeld ?_
            · intro wy hy; go_simp; try (first | (rw [IntKind.wrap_i64]; omega) | (rw [Int.neg_mul, IntKind.wrap_i64]; omega))
            (try simp only [Act.put, List.getElem_toArray, List.getElem_cons_zero, List.getElem_cons_succ, List.setIfInBounds_toArray, List.set_cons_zero, List.set_cons_succ])
            refine wpAnyH_take (i := 7) (v := .int .i64 (1 : Int)) rfl (by kernel_rfl) (by kernel_rfl) (by kernel_rfl) (fun _ _ _ h => h) (Or.inl ⟨by rfl, ?_⟩) hHeld ?_
            · intro wy hy; go_simp; try (first | (rw [IntKind.wrap_i64]; omega) | (rw [Int.neg_mul, IntKind.wrap_i64]; omega))
            (try simp only [Act.put, List.getElem_toArray, List.getElem_cons_zero, List.getElem_cons_succ, List.setIfInBounds_toArray, List.set_cons_zero, List.set_cons_succ])
            refine wpAnyH_take (i := 8) (v := .pointer (some ⟨wr.heap.size, 1, none⟩)) rfl (by kernel_rfl) (by kernel_rfl) (by kernel_rfl) (fun _ _ _ h => h) (Or.inl ⟨by rfl, ?_⟩) hHeld ?_
            · intro wy hy; go_simp; try (first | (rw [IntKind.wrap_i64]; omega) | (rw [Int.neg_mul, IntKind.wrap_i64]; omega))
            (try simp only [Act.put, List.getElem_toArray, List.getElem_cons_zero, List.getElem_cons_succ, List.setIfInBounds_toArray, List.set_cons_zero, List.set_cons_succ])
            refine wpAnyH_take (i := 9) (v := .int .i64 ((p : Int) : Int)) rfl (by kernel_rfl) (by kernel_rfl) (by kernel_rfl) (fun _ _ _ h => h) (Or.inl ⟨by rfl, ?_⟩) hHeld ?_
            · intro wy hy; obtain ⟨c0, c1, c2, c3⟩ := hy; go_simp; try (first | (rw [IntKind.wrap_i64]; omega) | (rw [Int.neg_mul, IntKind.wrap_i64]; omega))
            (try simp only [Act.put, List.getElem_toArray, List.getElem_cons_zero, List.getElem_cons_succ, List.setIfInBounds_toArray, List.set_cons_zero, List.set_cons_succ])
            refine wpAnyH_take (i := 10) (v := .int .i64 ((p : Int) : Int)) rfl (by kernel_rfl) (by kernel_rfl) (by kernel_rfl) (fun _ _ _ h => h) (Or.inl ⟨by rfl, ?_⟩) hHeld ?_
            · intro wy hy; go_simp; try (first | (rw [IntKind.wrap_i64]; omega) | (rw [Int.neg_mul, IntKind.wrap_i64]; omega))
            (try simp only [Act.put, List.getElem_toArray, List.getElem_cons_zero, List.getElem_cons_succ, List.setIfInBounds_toArray, List.set_cons_zero, List.set_cons_succ])
            refine wpAnyH_take (i := 11) (v := .int .i64 (-1 : Int)) rfl (by kernel_rfl) (by kernel_rfl) (by kernel_rfl) (fun _ _ _ h => h) (Or.inl ⟨by rfl, ?_⟩) hHeld ?_
            · intro wy hy; go_simp; try (first | (rw [IntKind.wrap_i64]; omega) | (rw [Int.neg_mul, IntKind.wrap_i64]; omega))
            (try simp only [Act.put, List.getElem_toArray, List.getElem_cons_zero, List.getElem_cons_succ, List.setIfInBounds_toArray, List.set_cons_zero, List.set_cons_succ])
            refine wpAnyH_take (i := 12) (v := .int .i64 (y : Int)) rfl (by kernel_rfl) (by kernel_rfl) (by kernel_rfl) (fun _ _ _ h => h) (Or.inl ⟨by rfl, ?_⟩) hHeld ?_
            · intro wy hy; go_simp; try (first | (rw [IntKind.wrap_i64]; omega) | (rw [Int.neg_mul, IntKind.wrap_i64]; omega))
            (try simp only [Act.put, List.getElem_toArray, List.getElem_cons_zero, List.getElem_cons_succ, List.setIfInBounds_toArray, List.set_cons_zero, List.set_cons_succ])
            refine wpAnyH_take (i := 13) (v := .int .i64 (-y : Int)) rfl (by kernel_rfl) (by kernel_rfl) (by kernel_rfl) (fun _ _ _ h => h) (Or.inl ⟨by rfl, ?_⟩) hHeld ?_
            · intro wy hy; go_simp; try (first | (rw [IntKind.wrap_i64]; omega) | (rw [Int.neg_mul, IntKind.wrap_i64]; omega))
            (try simp only [Act.put, List.getElem_toArray, List.getElem_cons_zero, List.getElem_cons_succ, List.setIfInBounds_toArray, List.set_cons_zero, List.set_cons_succ])
            refine wpAnyH_take (i := 14) (v := .int .i64 (b : Int)) rfl (by kernel_rfl) (by kernel_rfl) (by kernel_rfl) (fun _ _ _ h => h) (Or.inl ⟨by rfl, ?_⟩) hHeld ?_
            · intro wy hy; go_simp; try (first | (rw [IntKind.wrap_i64]; omega) | (rw [Int.neg_mul, IntKind.wrap_i64]; omega))
            (try simp only [Act.put, List.getElem_toArray, List.getElem_cons_zero, List.getElem_cons_succ, List.setIfInBounds_toArray, List.set_cons_zero, List.set_cons_succ])
            refine wpAnyH_take (i := 15) (v := .int .i64 (-(y * b) : Int)) rfl (by kernel_rfl) (by kernel_rfl) (by kernel_rfl) (fun _ _ _ h => h) (Or.inl ⟨by rfl, ?_⟩) hHeld ?_
            · intro wy hy; go_simp; try (first | (rw [IntKind.wrap_i64]; omega) | (rw [Int.neg_mul, IntKind.wrap_i64]; omega))
            (try simp only [Act.put, List.getElem_toArray, List.getElem_cons_zero, List.getElem_cons_succ, List.setIfInBounds_toArray, List.set_cons_zero, List.set_cons_succ])
            refine wpAnyH_ready (rs := [16]) (by kernel_rfl) (by simp) ?_
            refine AllReadyH.cons rfl (fun K hK => ?_) AllReadyH.nil
            rw [if_pos (by rfl)]
            (try simp only [List.getElem_toArray, List.getElem_cons_zero, List.getElem_cons_succ])
            go_simp
            go_at_call 9
            refine (HSQ.out _).mono ?_
            rintro e w3 ⟨rfl, m3, rfl⟩
            refine hK.out _ _ hHeld (fun hHeld => ?_)
            clear hK K
            (try simp only [Act.put, List.getElem_toArray, List.getElem_cons_zero, List.getElem_cons_succ, List.setIfInBounds_toArray, List.set_cons_zero, List.set_cons_succ])
            refine wpAnyH_take (i := 17) (v := .int .i64 ((p : Int) * l : Int)) rfl (by kernel_rfl) (by kernel_rfl) (by kernel_rfl) (fun _ _ _ h => h) (Or.inl ⟨by rfl, ?_⟩) hHeld ?_
            · intro wy hy; go_simp; try (first | (rw [IntKind.wrap_i64]; omega) | (rw [Int.neg_mul, IntKind.wrap_i64]; omega))
            (try simp only [Act.put, List.getElem_toArray, List.getElem_cons_zero, List.getElem_cons_succ, List.setIfInBounds_toArray, List.set_cons_zero, List.set_cons_succ])
            refine wpAnyH_take (i := 18) (v := .int .i64 (((p : Int) * (p : Int)) + (p : Int) * l : Int)) rfl (by kernel_rfl) (by kernel_rfl) (by kernel_rfl) (fun _ _ _ h => h) (Or.inl ⟨by rfl, ?_⟩) hHeld ?_
            · intro wy hy; go_simp; try (first | (rw [IntKind.wrap_i64]; omega) | (rw [Int.neg_mul, IntKind.wrap_i64]; omega))
            (try simp only [Act.put, List.getElem_toArray, List.getElem_cons_zero, List.getElem_cons_succ, List.setIfInBounds_toArray, List.set_cons_zero, List.set_cons_succ])
            refine wpAnyH_take (i := 19) (v := .int .i64 (((p : Int) * (p : Int)) + (p : Int) * l : Int)) rfl (by kernel_rfl) (by kernel_rfl) (by kernel_rfl) (fun _ _ _ h => h) (Or.inl ⟨by rfl, ?_⟩) hHeld ?_
            · intro wy hy; go_simp; try (first | (rw [IntKind.wrap_i64]; omega) | (rw [Int.neg_mul, IntKind.wrap_i64]; omega))
            (try simp only [Act.put, List.getElem_toArray, List.getElem_cons_zero, List.getElem_cons_succ, List.setIfInBounds_toArray, List.set_cons_zero, List.set_cons_succ])
            refine wpAnyH_take (i := 20) (v := .int .i64 (0 : Int)) rfl (by kernel_rfl) (by kernel_rfl) (by kernel_rfl) (fun _ _ _ h => h) (Or.inl ⟨by rfl, ?_⟩) hHeld ?_
            · intro wy hy; go_simp; try (first | (rw [IntKind.wrap_i64]; omega) | (rw [Int.neg_mul, IntKind.wrap_i64]; omega))
            (try simp only [Act.put, List.getElem_toArray, List.getElem_cons_zero, List.getElem_cons_succ, List.setIfInBounds_toArray, List.set_cons_zero, List.set_cons_succ])
            refine wpAnyH_done (by kernel_rfl) ?_ _
            go_wp2
            go_ret2
            exact ⟨by rw [show quV p 3 fa b = ((p : Int) * (p : Int)) + (p : Int) * l from by have e := HQ.out; first | exact e | (rw [e]; first | (simp; done) | (simp [Int.neg_mul]; done) | omega)]; rfl, by first | exact below_drewN (HB.out.alloc hBs _).drew m3 | exact below_drewN (HB.out.alloc hBs _) m3 | exact (below_drewN (HB.out.alloc hBs _).drew m3).drew | go_grown⟩
          · obtain rfl : N = 4 := by omega
            clear hN
            by_cases hb : b = 0
            · have hbb : (b == 0) = true := by rw [hb]; rfl
              have hLG : legN p (y) = legN p (nuT p fa 2 4) := legN_congr (by rw [show y = 1 * y by first | (rw [hm3]) | (rw [hm2]) | omega, ← nu_prF fa (sg_2 (p := p) (by omega)) (by omega) 4, hy]; rw [Int.emod_emod])
              have HQ := Lib.hid (show quV p 4 fa b = ((p : Int) * (p : Int) * (p : Int)) + (((p : Int) - 1) * (p : Int)) * legN p (y) by rw [hLG]; unfold quV; rw [if_neg (by decide), if_pos hb]; simp [Nat.pow_succ, Int.natCast_mul, Int.mul_assoc])
              have hl := leg_bd p (y)
              have HSQ := Lib.hid (fun w => l08Square_any p (y) HP.out (by omega) (by omega) w)
              obtain ⟨l, hL⟩ : ∃ l, legN p (y) = l := ⟨_, rfl⟩
              rw [hL] at HQ HSQ hl
              have hpv : 0 ≤ ((p : Int) - 1) * (p : Int) ∧ ((p : Int) - 1) * (p : Int) ≤ 60 * 61 := ⟨Int.mul_nonneg (by omega) (by omega), Int.mul_le_mul (by omega) (by omega) (by omega) (by omega)⟩
              have hml := mul_leg (a := (((p : Int) - 1) * (p : Int))) (l := l) (A := 300000) (by omega) (by omega) hl.1 hl.2
              clear hL hLG hy
              go_wp2
              refine wp_region_held_drew (S := fun wy => wy.cell? ⟨wr.heap.size, 0, none⟩ = some (.int .i64 1) ∧ wy.cell? ⟨wr.heap.size, 1, none⟩ = some (.int .i64 (p : Int)) ∧ wy.cell? ⟨wr.heap.size, 2, none⟩ = some (.int .i64 ((p : Int) * (p : Int))) ∧ wy.cell? ⟨wr.heap.size, 3, none⟩ = some (.int .i64 ((p : Int) * (p : Int) * (p : Int)))) (by kernel_rfl) (⟨d0, d1, d2, d3⟩) (fun hHeld => ?_)
              have hpl := mul_leg (a := (p : Int)) (l := l) (A := 61) (by omega) (by omega) hl.1 hl.2
              refine wpAnyH_take (i := 0) (v := .slice (some ⟨wr.heap.size, 0, none⟩) 4 4) rfl (by kernel_rfl) (by kernel_rfl) (by kernel_rfl) (fun _ _ _ h => h) (Or.inl ⟨by rfl, ?_⟩) hHeld ?_
              · intro wy hy; go_simp; try (first | (rw [IntKind.wrap_i64]; omega) | (rw [Int.neg_mul, IntKind.wrap_i64]; omega))
              (try simp only [Act.put, List.getElem_toArray, List.getElem_cons_zero, List.getElem_cons_succ, List.setIfInBounds_toArray, List.set_cons_zero, List.set_cons_succ])
              refine wpAnyH_take (i := 1) (v := .int .i64 (4 : Int)) rfl (by kernel_rfl) (by kernel_rfl) (by kernel_rfl) (fun _ _ _ h => h) (Or.inl ⟨by rfl, ?_⟩) hHeld ?_
              · intro wy hy; go_simp; try (first | (rw [IntKind.wrap_i64]; omega) | (rw [Int.neg_mul, IntKind.wrap_i64]; omega))
              (try simp only [Act.put, List.getElem_toArray, List.getElem_cons_zero, List.getElem_cons_succ, List.setIfInBounds_toArray, List.set_cons_zero, List.set_cons_succ])
              refine wpAnyH_take (i := 2) (v := .int .i64 (3 : Int)) rfl (by kernel_rfl) (by kernel_rfl) (by kernel_rfl) (fun _ _ _ h => h) (Or.inl ⟨by rfl, ?_⟩) hHeld ?_
              · intro wy hy; go_simp; try (first | (rw [IntKind.wrap_i64]; omega) | (rw [Int.neg_mul, IntKind.wrap_i64]; omega))
              (try simp only [Act.put, List.getElem_toArray, List.getElem_cons_zero, List.getElem_cons_succ, List.setIfInBounds_toArray, List.set_cons_zero, List.set_cons_succ])
              refine wpAnyH_take (i := 3) (v := .pointer (some ⟨wr.heap.size, 3, none⟩)) rfl (by kernel_rfl) (by kernel_rfl) (by kernel_rfl) (fun _ _ _ h => h) (Or.inl ⟨by rfl, ?_⟩) hHeld ?_
              · intro wy hy; go_simp; try (first | (rw [IntKind.wrap_i64]; omega) | (rw [Int.neg_mul, IntKind.wrap_i64]; omega))
              (try simp only [Act.put, List.getElem_toArray, List.getElem_cons_zero, List.getElem_cons_succ, List.setIfInBounds_toArray, List.set_cons_zero, List.set_cons_succ])
              refine wpAnyH_take (i := 4) (v := .int .i64 (((p : Int) * (p : Int) * (p : Int)) : Int)) rfl (by kernel_rfl) (by kernel_rfl) (by kernel_rfl) (fun _ _ _ h => h) (Or.inl ⟨by rfl, ?_⟩) hHeld ?_
              · intro wy hy; obtain ⟨c0, c1, c2, c3⟩ := hy; go_simp; try (first | (rw [IntKind.wrap_i64]; omega) | (rw [Int.neg_mul, IntKind.wrap_i64]; omega))
              (try simp only [Act.put, List.getElem_toArray, List.getElem_cons_zero, List.getElem_cons_succ, List.setIfInBounds_toArray, List.set_cons_zero, List.set_cons_succ])
              refine wpAnyH_take (i := 5) (v := .int .i64 ((p : Int) - 1 : Int)) rfl (by kernel_rfl) (by kernel_rfl) (by kernel_rfl) (fun _ _ _ h => h) (Or.inl ⟨by rfl, ?_⟩) hHeld ?_
              · intro wy hy; go_simp; try (first | (rw [IntKind.wrap_i64]; omega) | (rw [Int.neg_mul, IntKind.wrap_i64]; omega))
              (try simp only [Act.put, List.getElem_toArray, List.getElem_cons_zero, List.getElem_cons_succ, List.setIfInBounds_toArray, List.set_cons_zero, List.set_cons_succ])
              refine wpAnyH_take (i := 6) (v := .slice (some ⟨wr.heap.size, 0, none⟩) 4 4) rfl (by kernel_rfl) (by kernel_rfl) (by kernel_rfl) (fun _ _ _ h => h) (Or.inl ⟨by rfl, ?_⟩) hHeld ?_
              · intro wy hy; go_simp; try (first | (rw [IntKind.wrap_i64]; omega) | (rw [Int.neg_mul, IntKind.wrap_i64]; omega))
              (try simp only [Act.put, List.getElem_toArray, List.getElem_cons_zero, List.getElem_cons_succ, List.setIfInBounds_toArray, List.set_cons_zero, List.set_cons_succ])
              refine wpAnyH_take (i := 7) (v := .int .i64 (4 : Int)) rfl (by kernel_rfl) (by kernel_rfl) (by kernel_rfl) (fun _ _ _ h => h) (Or.inl ⟨by rfl, ?_⟩) hHeld ?_
              · intro wy hy; go_simp; try (first | (rw [IntKind.wrap_i64]; omega) | (rw [Int.neg_mul, IntKind.wrap_i64]; omega))
              (try simp only [Act.put, List.getElem_toArray, List.getElem_cons_zero, List.getElem_cons_succ, List.setIfInBounds_toArray, List.set_cons_zero, List.set_cons_succ])
              refine wpAnyH_take (i := 8) (v := .int .i64 (2 : Int)) rfl (by kernel_rfl) (by kernel_rfl) (by kernel_rfl) (fun _ _ _ h => h) (Or.inl ⟨by rfl, ?_⟩) hHeld ?_
              · intro wy hy; go_simp; try (first | (rw [IntKind.wrap_i64]; omega) | (rw [Int.neg_mul, IntKind.wrap_i64]; omega))
              (try simp only [Act.put, List.getElem_toArray, List.getElem_cons_zero, List.getElem_cons_succ, List.setIfInBounds_toArray, List.set_cons_zero, List.set_cons_succ])
              refine wpAnyH_take (i := 9) (v := .int .i64 (1 : Int)) rfl (by kernel_rfl) (by kernel_rfl) (by kernel_rfl) (fun _ _ _ h => h) (Or.inl ⟨by rfl, ?_⟩) hHeld ?_
              · intro wy hy; go_simp; try (first | (rw [IntKind.wrap_i64]; omega) | (rw [Int.neg_mul, IntKind.wrap_i64]; omega))
              (try simp only [Act.put, List.getElem_toArray, List.getElem_cons_zero, List.getElem_cons_succ, List.setIfInBounds_toArray, List.set_cons_zero, List.set_cons_succ])
              refine wpAnyH_take (i := 10) (v := .pointer (some ⟨wr.heap.size, 1, none⟩)) rfl (by kernel_rfl) (by kernel_rfl) (by kernel_rfl) (fun _ _ _ h => h) (Or.inl ⟨by rfl, ?_⟩) hHeld ?_
              · intro wy hy; go_simp; try (first | (rw [IntKind.wrap_i64]; omega) | (rw [Int.neg_mul, IntKind.wrap_i64]; omega))
              (try simp only [Act.put, List.getElem_toArray, List.getElem_cons_zero, List.getElem_cons_succ, List.setIfInBounds_toArray, List.set_cons_zero, List.set_cons_succ])
              refine wpAnyH_take (i := 11) (v := .int .i64 ((p : Int) : Int)) rfl (by kernel_rfl) (by kernel_rfl) (by kernel_rfl) (fun _ _ _ h => h) (Or.inl ⟨by rfl, ?_⟩) hHeld ?_
              · intro wy hy; obtain ⟨c0, c1, c2, c3⟩ := hy; go_simp; try (first | (rw [IntKind.wrap_i64]; omega) | (rw [Int.neg_mul, IntKind.wrap_i64]; omega))
              (try simp only [Act.put, List.getElem_toArray, List.getElem_cons_zero, List.getElem_cons_succ, List.setIfInBounds_toArray, List.set_cons_zero, List.set_cons_succ])
              refine wpAnyH_take (i := 12) (v := .int .i64 (((p : Int) - 1) * (p : Int) : Int)) rfl (by kernel_rfl) (by kernel_rfl) (by kernel_rfl) (fun _ _ _ h => h) (Or.inl ⟨by rfl, ?_⟩) hHeld ?_
              · intro wy hy; go_simp; try (first | (rw [IntKind.wrap_i64]; omega) | (rw [Int.neg_mul, IntKind.wrap_i64]; omega))
              (try simp only [Act.put, List.getElem_toArray, List.getElem_cons_zero, List.getElem_cons_succ, List.setIfInBounds_toArray, List.set_cons_zero, List.set_cons_succ])
              refine wpAnyH_take (i := 13) (v := .int .i64 ((p : Int) : Int)) rfl (by kernel_rfl) (by kernel_rfl) (by kernel_rfl) (fun _ _ _ h => h) (Or.inl ⟨by rfl, ?_⟩) hHeld ?_
              · intro wy hy; go_simp; try (first | (rw [IntKind.wrap_i64]; omega) | (rw [Int.neg_mul, IntKind.wrap_i64]; omega))
              (try simp only [Act.put, List.getElem_toArray, List.getElem_cons_zero, List.getElem_cons_succ, List.setIfInBounds_toArray, List.set_cons_zero, List.set_cons_succ])
              refine wpAnyH_take (i := 14) (v := .int .i64 (1 : Int)) rfl (by kernel_rfl) (by kernel_rfl) (by kernel_rfl) (fun _ _ _ h => h) (Or.inl ⟨by rfl, ?_⟩) hHeld ?_
              · intro wy hy; go_simp; try (first | (rw [IntKind.wrap_i64]; omega) | (rw [Int.neg_mul, IntKind.wrap_i64]; omega))
              (try simp only [Act.put, List.getElem_toArray, List.getElem_cons_zero, List.getElem_cons_succ, List.setIfInBounds_toArray, List.set_cons_zero, List.set_cons_succ])
              refine wpAnyH_take (i := 15) (v := .int .i64 (y : Int)) rfl (by kernel_rfl) (by kernel_rfl) (by kernel_rfl) (fun _ _ _ h => h) (Or.inl ⟨by rfl, ?_⟩) hHeld ?_
              · intro wy hy; go_simp; try (first | (rw [IntKind.wrap_i64]; omega) | (rw [Int.neg_mul, IntKind.wrap_i64]; omega))
              (try simp only [Act.put, List.getElem_toArray, List.getElem_cons_zero, List.getElem_cons_succ, List.setIfInBounds_toArray, List.set_cons_zero, List.set_cons_succ])
              refine wpAnyH_take (i := 16) (v := .int .i64 (y : Int)) rfl (by kernel_rfl) (by kernel_rfl) (by kernel_rfl) (fun _ _ _ h => h) (Or.inl ⟨by rfl, ?_⟩) hHeld ?_
              · intro wy hy; go_simp; try (first | (rw [IntKind.wrap_i64]; omega) | (rw [Int.neg_mul, IntKind.wrap_i64]; omega))
              (try simp only [Act.put, List.getElem_toArray, List.getElem_cons_zero, List.getElem_cons_succ, List.setIfInBounds_toArray, List.set_cons_zero, List.set_cons_succ])
              refine wpAnyH_ready (rs := [17]) (by kernel_rfl) (by simp) ?_
              refine AllReadyH.cons rfl (fun K hK => ?_) AllReadyH.nil
              rw [if_pos (by rfl)]
              (try simp only [List.getElem_toArray, List.getElem_cons_zero, List.getElem_cons_succ])
              go_simp
              go_at_call 9
              refine (HSQ.out _).mono ?_
              rintro e w3 ⟨rfl, m3, rfl⟩
              refine hK.out _ _ hHeld (fun hHeld => ?_)
              clear hK K
              (try simp only [Act.put, List.getElem_toArray, List.getElem_cons_zero, List.getElem_cons_succ, List.setIfInBounds_toArray, List.set_cons_zero, List.set_cons_succ])
              refine wpAnyH_take (i := 18) (v := .int .i64 (((p : Int) - 1) * (p : Int) * l : Int)) rfl (by kernel_rfl) (by kernel_rfl) (by kernel_rfl) (fun _ _ _ h => h) (Or.inl ⟨by rfl, ?_⟩) hHeld ?_
              · intro wy hy; go_simp; try (first | (rw [IntKind.wrap_i64]; omega) | (rw [Int.neg_mul, IntKind.wrap_i64]; omega))
              (try simp only [Act.put, List.getElem_toArray, List.getElem_cons_zero, List.getElem_cons_succ, List.setIfInBounds_toArray, List.set_cons_zero, List.set_cons_succ])
              refine wpAnyH_take (i := 19) (v := .int .i64 (((p : Int) * (p : Int) * (p : Int)) + ((p : Int) - 1) * (p : Int) * l : Int)) rfl (by kernel_rfl) (by kernel_rfl) (by kernel_rfl) (fun _ _ _ h => h) (Or.inl ⟨by rfl, ?_⟩) hHeld ?_
              · intro wy hy; go_simp; try (first | (rw [IntKind.wrap_i64]; omega) | (rw [Int.neg_mul, IntKind.wrap_i64]; omega))
              (try simp only [Act.put, List.getElem_toArray, List.getElem_cons_zero, List.getElem_cons_succ, List.setIfInBounds_toArray, List.set_cons_zero, List.set_cons_succ])
              refine wpAnyH_take (i := 20) (v := .int .i64 (((p : Int) * (p : Int) * (p : Int)) + ((p : Int) - 1) * (p : Int) * l : Int)) rfl (by kernel_rfl) (by kernel_rfl) (by kernel_rfl) (fun _ _ _ h => h) (Or.inl ⟨by rfl, ?_⟩) hHeld ?_
              · intro wy hy; go_simp; try (first | (rw [IntKind.wrap_i64]; omega) | (rw [Int.neg_mul, IntKind.wrap_i64]; omega))
              (try simp only [Act.put, List.getElem_toArray, List.getElem_cons_zero, List.getElem_cons_succ, List.setIfInBounds_toArray, List.set_cons_zero, List.set_cons_succ])
              refine wpAnyH_take (i := 21) (v := .int .i64 (0 : Int)) rfl (by kernel_rfl) (by kernel_rfl) (by kernel_rfl) (fun _ _ _ h => h) (Or.inl ⟨by rfl, ?_⟩) hHeld ?_
              · intro wy hy; go_simp; try (first | (rw [IntKind.wrap_i64]; omega) | (rw [Int.neg_mul, IntKind.wrap_i64]; omega))
              (try simp only [Act.put, List.getElem_toArray, List.getElem_cons_zero, List.getElem_cons_succ, List.setIfInBounds_toArray, List.set_cons_zero, List.set_cons_succ])
              refine wpAnyH_done (by kernel_rfl) ?_ _
              go_wp2
              go_ret2
              exact ⟨by rw [show quV p 4 fa b = ((p : Int) * (p : Int) * (p : Int)) + ((p : Int) - 1) * (p : Int) * l from by have e := HQ.out; first | exact e | (rw [e]; first | (simp; done) | (simp [Int.neg_mul]; done) | omega)]; rfl, by first | exact below_drewN (HB.out.alloc hBs _).drew m3 | exact below_drewN (HB.out.alloc hBs _) m3 | exact (below_drewN (HB.out.alloc hBs _).drew m3).drew | go_grown⟩
            · have hbb : (b == 0) = false := beq_eq_false_iff_ne.2 hb
              have hLG : legN p (y) = legN p (nuT p fa 2 4) := legN_congr (by rw [show y = 1 * y by first | (rw [hm3]) | (rw [hm2]) | omega, ← nu_prF fa (sg_2 (p := p) (by omega)) (by omega) 4, hy]; rw [Int.emod_emod])
              have HQ := Lib.hid (show quV p 4 fa b = ((p : Int) * (p : Int) * (p : Int)) + ((-1) * (p : Int)) * legN p (y) by rw [hLG]; unfold quV; rw [if_neg (by decide), if_neg hb]; simp [Nat.pow_succ, Int.natCast_mul, Int.mul_assoc])
              have hl := leg_bd p (y)
              have HSQ := Lib.hid (fun w => l08Square_any p (y) HP.out (by omega) (by omega) w)
              obtain ⟨l, hL⟩ : ∃ l, legN p (y) = l := ⟨_, rfl⟩
              rw [hL] at HQ HSQ hl
              have hpv : 0 ≤ ((p : Int) - 1) * (p : Int) ∧ ((p : Int) - 1) * (p : Int) ≤ 60 * 61 := ⟨Int.mul_nonneg (by omega) (by omega), Int.mul_le_mul (by omega) (by omega) (by omega) (by omega)⟩
              have hml := mul_leg (a := ((-1) * (p : Int))) (l := l) (A := 300000) (by omega) (by omega) hl.1 hl.2
              clear hL hLG hy
              go_wp2
              refine wp_region_held_drew (S := fun wy => wy.cell? ⟨wr.heap.size, 0, none⟩ = some (.int .i64 1) ∧ wy.cell? ⟨wr.heap.size, 1, none⟩ = some (.int .i64 (p : Int)) ∧ wy.cell? ⟨wr.heap.size, 2, none⟩ = some (.int .i64 ((p : Int) * (p : Int))) ∧ wy.cell? ⟨wr.heap.size, 3, none⟩ = some (.int .i64 ((p : Int) * (p : Int) * (p : Int)))) (by kernel_rfl) (⟨d0, d1, d2, d3⟩) (fun hHeld => ?_)
              have hpl := mul_leg (a := (p : Int)) (l := l) (A := 61) (by omega) (by omega) hl.1 hl.2
              refine wpAnyH_take (i := 0) (v := .slice (some ⟨wr.heap.size, 0, none⟩) 4 4) rfl (by kernel_rfl) (by kernel_rfl) (by kernel_rfl) (fun _ _ _ h => h) (Or.inl ⟨by rfl, ?_⟩) hHeld ?_
              · intro wy hy; go_simp; try (first | (rw [IntKind.wrap_i64]; omega) | (rw [Int.neg_mul, IntKind.wrap_i64]; omega))
              (try simp only [Act.put, List.getElem_toArray, List.getElem_cons_zero, List.getElem_cons_succ, List.setIfInBounds_toArray, List.set_cons_zero, List.set_cons_succ])
              refine wpAnyH_take (i := 1) (v := .int .i64 (4 : Int)) rfl (by kernel_rfl) (by kernel_rfl) (by kernel_rfl) (fun _ _ _ h => h) (Or.inl ⟨by rfl, ?_⟩) hHeld ?_
              · intro wy hy; go_simp; try (first | (rw [IntKind.wrap_i64]; omega) | (rw [Int.neg_mul, IntKind.wrap_i64]; omega))
              (try simp only [Act.put, List.getElem_toArray, List.getElem_cons_zero, List.getElem_cons_succ, List.setIfInBounds_toArray, List.set_cons_zero, List.set_cons_succ])
              refine wpAnyH_take (i := 2) (v := .int .i64 (3 : Int)) rfl (by kernel_rfl) (by kernel_rfl) (by kernel_rfl) (fun _ _ _ h => h) (Or.inl ⟨by rfl, ?_⟩) hHeld ?_
              · intro wy hy; go_simp; try (first | (rw [IntKind.wrap_i64]; omega) | (rw [Int.neg_mul, IntKind.wrap_i64]; omega))
              (try simp only [Act.put, List.getElem_toArray, List.getElem_cons_zero, List.getElem_cons_succ, List.setIfInBounds_toArray, List.set_cons_zero, List.set_cons_succ])
              refine wpAnyH_take (i := 3) (v := .pointer (some ⟨wr.heap.size, 3, none⟩)) rfl (by kernel_rfl) (by kernel_rfl) (by kernel_rfl) (fun _ _ _ h => h) (Or.inl ⟨by rfl, ?_⟩) hHeld ?_
              · intro wy hy; go_simp; try (first | (rw [IntKind.wrap_i64]; omega) | (rw [Int.neg_mul, IntKind.wrap_i64]; omega))
              (try simp only [Act.put, List.getElem_toArray, List.getElem_cons_zero, List.getElem_cons_succ, List.setIfInBounds_toArray, List.set_cons_zero, List.set_cons_succ])
              refine wpAnyH_take (i := 4) (v := .int .i64 (((p : Int) * (p : Int) * (p : Int)) : Int)) rfl (by kernel_rfl) (by kernel_rfl) (by kernel_rfl) (fun _ _ _ h => h) (Or.inl ⟨by rfl, ?_⟩) hHeld ?_
              · intro wy hy; obtain ⟨c0, c1, c2, c3⟩ := hy; go_simp; try (first | (rw [IntKind.wrap_i64]; omega) | (rw [Int.neg_mul, IntKind.wrap_i64]; omega))
              (try simp only [Act.put, List.getElem_toArray, List.getElem_cons_zero, List.getElem_cons_succ, List.setIfInBounds_toArray, List.set_cons_zero, List.set_cons_succ])
              refine wpAnyH_take (i := 5) (v := .int .i64 (-1 : Int)) rfl (by kernel_rfl) (by kernel_rfl) (by kernel_rfl) (fun _ _ _ h => h) (Or.inl ⟨by rfl, ?_⟩) hHeld ?_
              · intro wy hy; go_simp; try (first | (rw [IntKind.wrap_i64]; omega) | (rw [Int.neg_mul, IntKind.wrap_i64]; omega))
              (try simp only [Act.put, List.getElem_toArray, List.getElem_cons_zero, List.getElem_cons_succ, List.setIfInBounds_toArray, List.set_cons_zero, List.set_cons_succ])
              refine wpAnyH_take (i := 6) (v := .slice (some ⟨wr.heap.size, 0, none⟩) 4 4) rfl (by kernel_rfl) (by kernel_rfl) (by kernel_rfl) (fun _ _ _ h => h) (Or.inl ⟨by rfl, ?_⟩) hHeld ?_
              · intro wy hy; go_simp; try (first | (rw [IntKind.wrap_i64]; omega) | (rw [Int.neg_mul, IntKind.wrap_i64]; omega))
              (try simp only [Act.put, List.getElem_toArray, List.getElem_cons_zero, List.getElem_cons_succ, List.setIfInBounds_toArray, List.set_cons_zero, List.set_cons_succ])
              refine wpAnyH_take (i := 7) (v := .int .i64 (4 : Int)) rfl (by kernel_rfl) (by kernel_rfl) (by kernel_rfl) (fun _ _ _ h => h) (Or.inl ⟨by rfl, ?_⟩) hHeld ?_
              · intro wy hy; go_simp; try (first | (rw [IntKind.wrap_i64]; omega) | (rw [Int.neg_mul, IntKind.wrap_i64]; omega))
              (try simp only [Act.put, List.getElem_toArray, List.getElem_cons_zero, List.getElem_cons_succ, List.setIfInBounds_toArray, List.set_cons_zero, List.set_cons_succ])
              refine wpAnyH_take (i := 8) (v := .int .i64 (2 : Int)) rfl (by kernel_rfl) (by kernel_rfl) (by kernel_rfl) (fun _ _ _ h => h) (Or.inl ⟨by rfl, ?_⟩) hHeld ?_
              · intro wy hy; go_simp; try (first | (rw [IntKind.wrap_i64]; omega) | (rw [Int.neg_mul, IntKind.wrap_i64]; omega))
              (try simp only [Act.put, List.getElem_toArray, List.getElem_cons_zero, List.getElem_cons_succ, List.setIfInBounds_toArray, List.set_cons_zero, List.set_cons_succ])
              refine wpAnyH_take (i := 9) (v := .int .i64 (1 : Int)) rfl (by kernel_rfl) (by kernel_rfl) (by kernel_rfl) (fun _ _ _ h => h) (Or.inl ⟨by rfl, ?_⟩) hHeld ?_
              · intro wy hy; go_simp; try (first | (rw [IntKind.wrap_i64]; omega) | (rw [Int.neg_mul, IntKind.wrap_i64]; omega))
              (try simp only [Act.put, List.getElem_toArray, List.getElem_cons_zero, List.getElem_cons_succ, List.setIfInBounds_toArray, List.set_cons_zero, List.set_cons_succ])
              refine wpAnyH_take (i := 10) (v := .pointer (some ⟨wr.heap.size, 1, none⟩)) rfl (by kernel_rfl) (by kernel_rfl) (by kernel_rfl) (fun _ _ _ h => h) (Or.inl ⟨by rfl, ?_⟩) hHeld ?_
              · intro wy hy; go_simp; try (first | (rw [IntKind.wrap_i64]; omega) | (rw [Int.neg_mul, IntKind.wrap_i64]; omega))
              (try simp only [Act.put, List.getElem_toArray, List.getElem_cons_zero, List.getElem_cons_succ, List.setIfInBounds_toArray, List.set_cons_zero, List.set_cons_succ])
              refine wpAnyH_take (i := 11) (v := .int .i64 ((p : Int) : Int)) rfl (by kernel_rfl) (by kernel_rfl) (by kernel_rfl) (fun _ _ _ h => h) (Or.inl ⟨by rfl, ?_⟩) hHeld ?_
              · intro wy hy; obtain ⟨c0, c1, c2, c3⟩ := hy; go_simp; try (first | (rw [IntKind.wrap_i64]; omega) | (rw [Int.neg_mul, IntKind.wrap_i64]; omega))
              (try simp only [Act.put, List.getElem_toArray, List.getElem_cons_zero, List.getElem_cons_succ, List.setIfInBounds_toArray, List.set_cons_zero, List.set_cons_succ])
              refine wpAnyH_take (i := 12) (v := .int .i64 (-(p : Int) : Int)) rfl (by kernel_rfl) (by kernel_rfl) (by kernel_rfl) (fun _ _ _ h => h) (Or.inl ⟨by rfl, ?_⟩) hHeld ?_
              · intro wy hy; go_simp; try (first | (rw [IntKind.wrap_i64]; omega) | (rw [Int.neg_mul, IntKind.wrap_i64]; omega))
              (try simp only [Act.put, List.getElem_toArray, List.getElem_cons_zero, List.getElem_cons_succ, List.setIfInBounds_toArray, List.set_cons_zero, List.set_cons_succ])
              refine wpAnyH_take (i := 13) (v := .int .i64 ((p : Int) : Int)) rfl (by kernel_rfl) (by kernel_rfl) (by kernel_rfl) (fun _ _ _ h => h) (Or.inl ⟨by rfl, ?_⟩) hHeld ?_
              · intro wy hy; go_simp; try (first | (rw [IntKind.wrap_i64]; omega) | (rw [Int.neg_mul, IntKind.wrap_i64]; omega))
              (try simp only [Act.put, List.getElem_toArray, List.getElem_cons_zero, List.getElem_cons_succ, List.setIfInBounds_toArray, List.set_cons_zero, List.set_cons_succ])
              refine wpAnyH_take (i := 14) (v := .int .i64 (1 : Int)) rfl (by kernel_rfl) (by kernel_rfl) (by kernel_rfl) (fun _ _ _ h => h) (Or.inl ⟨by rfl, ?_⟩) hHeld ?_
              · intro wy hy; go_simp; try (first | (rw [IntKind.wrap_i64]; omega) | (rw [Int.neg_mul, IntKind.wrap_i64]; omega))
              (try simp only [Act.put, List.getElem_toArray, List.getElem_cons_zero, List.getElem_cons_succ, List.setIfInBounds_toArray, List.set_cons_zero, List.set_cons_succ])
              refine wpAnyH_take (i := 15) (v := .int .i64 (y : Int)) rfl (by kernel_rfl) (by kernel_rfl) (by kernel_rfl) (fun _ _ _ h => h) (Or.inl ⟨by rfl, ?_⟩) hHeld ?_
              · intro wy hy; go_simp; try (first | (rw [IntKind.wrap_i64]; omega) | (rw [Int.neg_mul, IntKind.wrap_i64]; omega))
              (try simp only [Act.put, List.getElem_toArray, List.getElem_cons_zero, List.getElem_cons_succ, List.setIfInBounds_toArray, List.set_cons_zero, List.set_cons_succ])
              refine wpAnyH_take (i := 16) (v := .int .i64 (y : Int)) rfl (by kernel_rfl) (by kernel_rfl) (by kernel_rfl) (fun _ _ _ h => h) (Or.inl ⟨by rfl, ?_⟩) hHeld ?_
              · intro wy hy; go_simp; try (first | (rw [IntKind.wrap_i64]; omega) | (rw [Int.neg_mul, IntKind.wrap_i64]; omega))
              (try simp only [Act.put, List.getElem_toArray, List.getElem_cons_zero, List.getElem_cons_succ, List.setIfInBounds_toArray, List.set_cons_zero, List.set_cons_succ])
              refine wpAnyH_ready (rs := [17]) (by kernel_rfl) (by simp) ?_
              refine AllReadyH.cons rfl (fun K hK => ?_) AllReadyH.nil
              rw [if_pos (by rfl)]
              (try simp only [List.getElem_toArray, List.getElem_cons_zero, List.getElem_cons_succ])
              go_simp
              go_at_call 9
              refine (HSQ.out _).mono ?_
              rintro e w3 ⟨rfl, m3, rfl⟩
              refine hK.out _ _ hHeld (fun hHeld => ?_)
              clear hK K
              (try simp only [Act.put, List.getElem_toArray, List.getElem_cons_zero, List.getElem_cons_succ, List.setIfInBounds_toArray, List.set_cons_zero, List.set_cons_succ])
              refine wpAnyH_take (i := 18) (v := .int .i64 (-((p : Int) * l) : Int)) rfl (by kernel_rfl) (by kernel_rfl) (by kernel_rfl) (fun _ _ _ h => h) (Or.inl ⟨by rfl, ?_⟩) hHeld ?_
              · intro wy hy; go_simp; try (first | (rw [IntKind.wrap_i64]; omega) | (rw [Int.neg_mul, IntKind.wrap_i64]; omega))
              (try simp only [Act.put, List.getElem_toArray, List.getElem_cons_zero, List.getElem_cons_succ, List.setIfInBounds_toArray, List.set_cons_zero, List.set_cons_succ])
              refine wpAnyH_take (i := 19) (v := .int .i64 (((p : Int) * (p : Int) * (p : Int)) + -((p : Int) * l) : Int)) rfl (by kernel_rfl) (by kernel_rfl) (by kernel_rfl) (fun _ _ _ h => h) (Or.inl ⟨by rfl, ?_⟩) hHeld ?_
              · intro wy hy; go_simp; try (first | (rw [IntKind.wrap_i64]; omega) | (rw [Int.neg_mul, IntKind.wrap_i64]; omega))
              (try simp only [Act.put, List.getElem_toArray, List.getElem_cons_zero, List.getElem_cons_succ, List.setIfInBounds_toArray, List.set_cons_zero, List.set_cons_succ])
              refine wpAnyH_take (i := 20) (v := .int .i64 (((p : Int) * (p : Int) * (p : Int)) + -((p : Int) * l) : Int)) rfl (by kernel_rfl) (by kernel_rfl) (by kernel_rfl) (fun _ _ _ h => h) (Or.inl ⟨by rfl, ?_⟩) hHeld ?_
              · intro wy hy; go_simp; try (first | (rw [IntKind.wrap_i64]; omega) | (rw [Int.neg_mul, IntKind.wrap_i64]; omega))
              (try simp only [Act.put, List.getElem_toArray, List.getElem_cons_zero, List.getElem_cons_succ, List.setIfInBounds_toArray, List.set_cons_zero, List.set_cons_succ])
              refine wpAnyH_take (i := 21) (v := .int .i64 (0 : Int)) rfl (by kernel_rfl) (by kernel_rfl) (by kernel_rfl) (fun _ _ _ h => h) (Or.inl ⟨by rfl, ?_⟩) hHeld ?_
              · intro wy hy; go_simp; try (first | (rw [IntKind.wrap_i64]; omega) | (rw [Int.neg_mul, IntKind.wrap_i64]; omega))
              (try simp only [Act.put, List.getElem_toArray, List.getElem_cons_zero, List.getElem_cons_succ, List.setIfInBounds_toArray, List.set_cons_zero, List.set_cons_succ])
              refine wpAnyH_done (by kernel_rfl) ?_ _
              go_wp2
              go_ret2
              exact ⟨by rw [show quV p 4 fa b = ((p : Int) * (p : Int) * (p : Int)) + -((p : Int) * l) from by have e := HQ.out; first | exact e | (rw [e]; first | (simp; done) | (simp [Int.neg_mul]; done) | omega)]; rfl, by first | exact below_drewN (HB.out.alloc hBs _).drew m3 | exact below_drewN (HB.out.alloc hBs _) m3 | exact (below_drewN (HB.out.alloc hBs _).drew m3).drew | go_grown⟩
end
end

section
open Go.RowKit Go.ChangeShapes Go.Sort
set_option linter.unusedVariables false
set_option linter.unusedSimpArgs false
set_option maxRecDepth 100000
section
variable {o : Bool} {lo hi : Nat} {v : Value} {n : Nat} {fa : Nat → Int}
set_option maxHeartbeats 2000000 in
theorem QuadricNumber_spec_no (p b : Int) (hn : n ≤ 1048576) (h : ¬ (EqP p n fa n (fun _ => 2) ∧ 0 ≤ b ∧ b < p)) (w : World) (hs : Sl o w lo hi v n fa) :
    Calls Tryd.prog 4 #[.int .i64 p, v, .int .i64 b] w fun e w' => e = .returned (.tuple #[.int .i64 0, .int .i64 2]) ∧ Below w.heap.size w w' := by
  have hs1 := hs.size
  obtain ⟨av, cv, rfl⟩ := hs.shape
  obtain ⟨B, hBe⟩ : ∃ B, min n 5 = B := ⟨_, rfl⟩
  obtain ⟨fe, hfe⟩ : ∃ fe : Nat → Int, (fun _ => (2 : Int)) = fe := ⟨_, rfl⟩
  have hf2 : ∀ j, fe j = 2 := fun j => by rw [← hfe]
  rw [hfe] at h
  have H := Lib.hid (show ¬ ((PrP p ∧ 1 ≤ n ∧ n ≤ 4 ∧ B = n ∧ ∀ i, i < n → 1 ≤ fa i ∧ fa i < p ∧ 1 ≤ fe i ∧ fe i ≤ 60) ∧ 0 ≤ b ∧ b < p) from fun g => h ⟨⟨g.1.1, g.1.2.1, g.1.2.2.1, rfl, g.1.2.2.2.2⟩, g.2⟩)
  have hB1 : B ≤ 5 ∧ B ≤ n ∧ (B = n ∨ B = 5) := by omega
  have ST := Lib.hid (((St.start w).addSl ⟨o, lo, hi, .slice av n cv, n, fa⟩ hs).alloc (.cells #[] 2))
  have R1 := Lib.hid (Row.made w w.heap.size fe (Nat.le_refl _))
  clear h hs hBe hfe
  go_enter Tryd.func4, Tryd.ntmps4
  go_wp2
  go_loopw [8, 9] (fun s8 s9 wr => ∃ (k g cap : Nat), k ≤ B ∧ s8 = .slice (some ⟨g, 0, none⟩) k cap ∧ s9 = .int .i64 (k : Int) ∧ Row wr w.heap.size g cap k fe ∧ St w wr [] [⟨o, lo, hi, .slice av n cv, n, fa⟩]) (fun _ s9 _ => B + 1 - (intOf s9).toNat)
  case atStart => exact ⟨0, _, _, by omega, rfl, rfl, R1.out, ST.out⟩
  case round =>
    clear R1 ST
    obtain ⟨k, g, cap, hk, rfl, rfl, hr, hst⟩ := hrel
    have R1 := Lib.hid hr
    have HT := Lib.hid hst
    clear hr hst
    obtain ⟨hl1, hl2⟩ := R1.out.lt
    by_cases hlt : k < B
    · have hk4 : (k : Int) ≤ 4 := by omega
      have hkn : k < n := by omega
      go_wp2_with (at_builtin; refine wpList_push rfl (.tmp 28) (.tmp 29) rfl rfl w.heap.size g cap k fe rfl (R1.out.alloc _) wr.heap.size 2 rfl (heap_alloc_new wr _) (by omega) ?_; intro gA kA wA rowA grA orA ltA; have stA := Lib.hid ((HT.out.alloc (.cells #[.int .i64 2] 2)).write (Frame.ofGrown grA) (by omega) (by intro b hb; cases hb) (by intro s hs'; simp only [List.mem_cons, List.not_mem_nil, or_false] at hs'; rcases hs' with rfl; left; show hi ≤ _; omega)); have RA := Lib.hid rowA; clear rowA grA orA)
      go_roundw
      case rel => exact ⟨k + 1, gA, kA, by omega, rfl, by go_num, RA.out.congr (fun j hj => by first | (dsimp only; split <;> first | rfl | exact (hf2 j).symm | exact hf2 j) | simp [hf2]), stA.out⟩
      case measure => simp [intOf] <;> omega
    · obtain rfl : k = B := by omega
      have SQ := Lib.hid (Sl.ofRowF R1.out (fun j hj => by rw [hf2 j]; unfold inR; omega) (by unfold maxLen; omega))
      have HV := Lib.hid (HT.out.sl 0 ⟨o, lo, hi, .slice av n cv, n, fa⟩ rfl)
      have BL := (show Below w.heap.size w _ from HT.out.1)
      rcases hB1.2.2 with rfl | rfl
      · have hkn : ¬ k < k := by omega
        go_wp2_with (go_at_call 8; with_reducible refine (l08Given_no p b _ HV.out SQ.out H.out).mono ?_; rintro e w1 ⟨rfl, b1⟩)
        go_ret2
        exact ⟨rfl, BL.trans (b1.mono BL.size)⟩
      · by_cases hkn : 5 < n
        · go_wp2_with (go_at_call 8; with_reducible refine (l08Given_no p b _ HV.out SQ.out H.out).mono ?_; rintro e w1 ⟨rfl, b1⟩)
          go_ret2
          exact ⟨rfl, BL.trans (b1.mono BL.size)⟩
        · go_wp2_with (go_at_call 8; with_reducible refine (l08Given_no p b _ HV.out SQ.out H.out).mono ?_; rintro e w1 ⟨rfl, b1⟩)
          go_ret2
          exact ⟨rfl, BL.trans (b1.mono BL.size)⟩
end
end

section
theorem leave_of_handed {a : Assume} {C : Checked} {os : Os} {f : FuncId} {r : Reach} {Pre : World → Array Value → Prop} {Post : World → Array Value → Value → World → Prop}
    (h : ReturnsInHanded a C os f r Pre Post) : ReturnsInLeavingWide a C os f r Pre Post := fun enter =>
  ReturnsInOpen.mono (fun _ _ _ x => ⟨x.2.1, onlyLeaving_of_quiet x.1, x.2.2⟩) (fun _ x => x) (h enter)
end

section
open Go.RowKit Go.ChangeShapes Go.Sort Go.WideShapes Go.ChangeAt
set_option linter.unusedVariables false
set_option linter.unusedSimpArgs false

/-- The variable holds what init laid. -/
def Gv (w : World) : Prop := ∃ ad, Gat w ad
theorem Gv.keep {w w' : World} (h : Gv w) (hb : Below w.heap.size w w') : Gv w' := by
  obtain ⟨ad, h⟩ := h
  exact ⟨ad, h.keep hb⟩
/-- What is listed. -/
def LD : List (String × DataW Unit) := [("loop.example/g01313/impl.errNoEquation", Rows.laid_loop_example_g01313_impl_errNoEquation)]
theorem gE : Tryd.prog.globalNamed "loop.example/g01313/impl.errNoEquation" = some 0 := by kernel_rfl
theorem gT : (Tryd.prog.globals[0]?).map (·.type) = some 41 := by kernel_rfl
theorem starE : "*" ++ "errors.errorString" = "*errors.errorString" := by decide
theorem rowE (u : TypeId) (h : Tryd.prog.typeName? 3 u = some "*errors.errorString") : u = 69 :=
  typeName_ptr_named (nm := "errors.errorString") (by rw [starE]; kernel_rfl) (by kernel_rfl) (by decide) u (by rw [starE]; exact h)
theorem var_of_laid {W : World} (h : laidMetH Tryd.prog LD W) : ∃ ad : Addr, W.var? Tryd.prog "loop.example/g01313/impl.errNoEquation" = some #[.iface 69 (.pointer (some ad))] := by
  rw [MakeChecks.laidMetH_plain _ _ _ (by kernel_rfl)] at h
  obtain ⟨a0, s0, hv0, _⟩ := laid_sentinel h gE gT Tryd.underlying41 rowE Tryd.underlying69 Tryd.underlying86 rfl rfl Tryd.underlying9 (by kernel_rfl) (by kernel_rfl)
  exact ⟨a0, hv0⟩
theorem gv_of_var {W : World} {ad : Addr} (h : W.var? Tryd.prog "loop.example/g01313/impl.errNoEquation" = some #[.iface 69 (.pointer (some ad))]) : Gv W :=
  ⟨ad, by unfold Gat; simpa using World.var?_cell gE h 0⟩
theorem var_below {W W' : World} {cs : Array Value} (hv : W.var? Tryd.prog "loop.example/g01313/impl.errNoEquation" = some cs) (hb : Below W.heap.size W W') : W'.var? Tryd.prog "loop.example/g01313/impl.errNoEquation" = some cs := by
  unfold World.var? at hv ⊢
  rw [gE] at hv ⊢
  simp only [Option.bind_some] at hv ⊢
  have hlt : 0 < W.heap.size := by
    rcases Nat.lt_or_ge 0 W.heap.size with h' | h'
    · exact h'
    · simp [Array.getElem?_eq_none h'] at hv
  rw [hb.block _ hlt]
  exact hv
theorem door_met (os : Os) (args : Array Value) : laidMetH Tryd.prog LD ((World.doorLaid Tryd.prog 400 os).forCall (fun _ _ => 0) ⟨#[], args, []⟩).memory :=
  laidMetH_of_parts3 (fuel := 8) (laidMet_of_run' 8 (by kernel_rfl) (by kernel_rfl)) (by kernel_rfl) (by kernel_rfl)
/-- A tied card of a law that may start goroutines. -/
theorem tied_goes (Lk : Looks) {p : Pinned} {s : OpenSpec} {c : OpenClaim} (kinds : List LaidKind) (tests : Bool) (har : Bool × String) (lk : Bool)
    (hc : c.holds p s) (hw : c.wfByText s = true) (htie : c.laidByTextAt Lk p kinds tests)
    (hst : c.start = .entering) (hnb : c.noBlocks = false ∧ c.again = false) (hm : p.checked.prog.mainIs = some (har.1, har.2.toList)) (hn : (!har.1 && har.2.isEmpty && !lk) = false)
    (hl : ∀ f fn, p.checked.prog.funcNamed c.func = some f → p.checked.prog.funcs[f]? = some fn → lk = p.checked.prog.looks [] ∧ ∀ (j : Nat) t, fn.params[j]? = some t → p.checked.prog.wantsStandIn t = false)
    (hg : true = c.goesBy p.checked.prog) :
    Claim7.holds p (.plain s) { stood := { row := c, standIns := [], harness := har, looks := lk }, kinds := [], alts := [], goes := true, laidByText := true, laidKinds := kinds, laidTests := tests, laidLooks := Lk } := by
  have h6 : ∀ r : OpenClaim, Claim7.isSixth { stood := { row := r, standIns := [], harness := har, looks := lk }, kinds := [] } = false := fun r => by simpa [Claim7.isSixth] using hn
  exact ⟨Claim7.tied_new_at Lk kinds tests (Claim7.new_of_sixth hc har lk hst hnb hm (h6 c) hl) hw, (fun D hD => by cases hD), htie, (fun h => by cases h), hg⟩
end

open Go.RowKit Go.ChangeShapes Go.Sort Go.WideShapes Go.ChangeAt
set_option linter.unusedVariables false
set_option linter.unusedSimpArgs false
namespace fnExactQuadricNumberCard
set_option maxRecDepth 100000 in
set_option maxHeartbeats 4000000 in
theorem walk_of (w : World) (a0 : Int) (n1 : Nat) (f1 : Nat → Int) (a2 : Int) {lo1 hi1 : Nat} {u1 : Value} (hs1 : Sl false w lo1 hi1 u1 n1 f1) (C0 : Int) (C1 : Int) (hn1 : n1 ≤ 1048576)
    (hS : ∀ (w : World) (o1 : Bool) (l1 h1 : Nat) (v1 : Value) (_ : Sl o1 w l1 h1 v1 n1 f1), Calls Tryd.prog 4 #[.int .i64 a0, v1, .int .i64 a2] w fun e w' => e = .returned (.tuple #[.int .i64 C0, .int .i64 C1]) ∧ Below w.heap.size w w')
    (hG : Gv w)
    (hI : ∀ (w : World) (o1 : Bool) (l1 h1 : Nat) (v1 : Value) (_ : Sl o1 w l1 h1 v1 n1 f1), Gv w → Calls Tryd.prog 6 #[.int .i64 a0, v1, .int .i64 a2] w fun e w' => e = .returned (.tuple #[.int .i64 C0, .int .i64 C1]) ∧ Below w.heap.size w w') :
    Calls Tryd.prog 3 #[.int .i64 a0, u1, .int .i64 a2] w fun e w' => e = .returned (.bool true) ∧ Below w.heap.size w w' := by
  obtain ⟨p1, q1, rfl⟩ := hs1.shape
  have HS := Lib.hid hS; clear hS
  have HI := Lib.hid hI; clear hI
  have st0 := St.start w
  have hh1 := hs1.size
  replace st0 := st0.addSl ⟨false, lo1, hi1, .slice p1 n1 q1, n1, f1⟩ hs1
  clear hs1
  go_enter Tryd.func3, Tryd.ntmps3
  have q_1 := st0.sl 0 ⟨false, lo1, hi1, .slice p1 n1 q1, n1, f1⟩ rfl
  dsimp only at q_1
  go_wp2_with fail
  refine (toInt64S_any _ q_1 hn1).mono ?_
  rintro e w1 ⟨aw1, kw1, rfl, sw1, bw1⟩
  have st1 := st0.keep bw1
  have hz_w1 := bw1.size
  try simp only [World.size_alloc] at hz_w1
  try simp only [World.size_alloc] at sw1
  replace st1 := st1.addSl ⟨true, w.heap.size, w1.heap.size, .slice aw1 n1 kw1, n1, f1⟩ sw1
  clear st0 bw1 sw1
  clear q_1
  have q_1 := st1.sl 0 ⟨true, w.heap.size, w1.heap.size, .slice aw1 n1 kw1, n1, f1⟩ rfl
  dsimp only at q_1
  go_wp2_with fail
  refine (HS.out _ _ _ _ _ q_1).mono ?_
  rintro e w2 ⟨rfl, bw2⟩
  have st2 := st1.keep bw2
  have hz_w2 := bw2.size
  try simp only [World.size_alloc] at hz_w2
  clear st1 bw2 
  clear q_1
  have q_1 := st2.sl 1 ⟨false, lo1, hi1, .slice p1 n1 q1, n1, f1⟩ rfl
  dsimp only at q_1
  go_wp2_with fail
  refine (toInt64S_any _ q_1 hn1).mono ?_
  rintro e w3 ⟨aw3, kw3, rfl, sw3, bw3⟩
  have st3 := st2.keep bw3
  have hz_w3 := bw3.size
  try simp only [World.size_alloc] at hz_w3
  try simp only [World.size_alloc] at sw3
  replace st3 := st3.addSl ⟨true, w2.heap.size, w3.heap.size, .slice aw3 n1 kw3, n1, f1⟩ sw3
  clear st2 bw3 sw3
  clear q_1
  have q_1 := st3.sl 0 ⟨true, w2.heap.size, w3.heap.size, .slice aw3 n1 kw3, n1, f1⟩ rfl
  dsimp only at q_1
  go_wp2_with fail
  refine (HI.out _ _ _ _ _ q_1 (hG.keep st3.1)).mono ?_
  rintro e w4 ⟨rfl, bw4⟩
  have st4 := st3.keep bw4
  have hz_w4 := bw4.size
  try simp only [World.size_alloc] at hz_w4
  clear st3 bw4 
  clear q_1
  have q_1 := st4.sl 2 ⟨false, lo1, hi1, .slice p1 n1 q1, n1, f1⟩ rfl
  dsimp only at q_1
  go_wp2_with fail
  refine (toInt64S_any _ q_1 hn1).mono ?_
  rintro e w5 ⟨aw5, kw5, rfl, sw5, bw5⟩
  have st5 := st4.keep bw5
  have hz_w5 := bw5.size
  try simp only [World.size_alloc] at hz_w5
  try simp only [World.size_alloc] at sw5
  replace st5 := st5.addSl ⟨true, w4.heap.size, w5.heap.size, .slice aw5 n1 kw5, n1, f1⟩ sw5
  clear st4 bw5 sw5
  clear q_1
  have q_x := st5.sl 1 ⟨true, w2.heap.size, w3.heap.size, .slice aw3 n1 kw3, n1, f1⟩ rfl
  dsimp only at q_x
  have q_y := st5.sl 0 ⟨true, w4.heap.size, w5.heap.size, .slice aw5 n1 kw5, n1, f1⟩ rfl
  dsimp only at q_y
  go_wp2_with fail
  refine (eqInt64S_yes _ q_x q_y (fun _ _ => rfl)).mono ?_
  rintro e w6 ⟨rfl, bw6⟩
  have st6 := st5.keep bw6
  have hz_w6 := bw6.size
  try simp only [World.size_alloc] at hz_w6
  clear st5 bw6 
  clear q_x q_y
  go_wp2_with fail
  go_ret
  exact ⟨rfl, st6.1⟩

theorem walk_big1 (w : World) (a0 : Int) {lo1 hi1 n1 : Nat} {v1 : Value} {f1 : Nat → Int} (hs1 : Sl false w lo1 hi1 v1 n1 f1) (a2 : Int)  (hn1 : 1048576 < n1) :
    Calls Tryd.prog 3 #[.int .i64 a0, v1, .int .i64 a2] w fun e w' => e = .returned (.bool true) ∧ Below w.heap.size w w' := by
  obtain ⟨p1, c1, rfl⟩ := hs1.shape
  have hm1 := hs1.len
  have hm1' := hm1
  unfold maxLen at hm1'
  clear hs1
  go_enter Tryd.func3, Tryd.ntmps3
  go_wp2
  go_ret
  exact ⟨rfl, by go_grown⟩

theorem walk (w : World) (hG : Gv w) (a0 : Int) (_ha0 : inR a0) {lo1 hi1 n1 : Nat} {v1 : Value} {f1 : Nat → Int} (hs1 : Sl false w lo1 hi1 v1 n1 f1) (a2 : Int) (_ha2 : inR a2) :
    Calls Tryd.prog 3 #[.int .i64 a0, v1, .int .i64 a2] w fun e w' => e = .returned (.bool true) ∧ Below w.heap.size w w' := by
  by_cases hL : n1 ≤ 1048576
  · by_cases h : EqP a0 n1 f1 n1 (fun _ => 2) ∧ 0 ≤ a2 ∧ a2 < a0
    · obtain ⟨⟨hp, h1, h2, _, hall⟩, hb0, hb1⟩ := h
      obtain ⟨P, rfl⟩ := Int.eq_ofNat_of_zero_le hp.1
      have hP : primeN P = true := by have := hp.2; rwa [Int.toNat_natCast] at this
      have hF : ∀ i, i < n1 → 1 ≤ f1 i ∧ f1 i < (P : Int) := fun i hi => ⟨(hall i hi).1, (hall i hi).2.1⟩
      exact walk_of w P _ f1 a2 hs1 (quV P _ f1 a2) 0 hL (fun w _ _ _ _ hs => QuadricNumber_spec_ok P a2 hP hb0 hb1 h1 h2 hF w hs) hG (fun w _ _ _ _ hs _ => QuadricNumber_impl_ok P a2 hP hb0 hb1 h1 h2 hF w hs)
    · exact walk_of w a0 n1 f1 a2 hs1 0 2 hL (fun w _ _ _ _ hs => QuadricNumber_spec_no a0 a2 hL h w hs) hG (fun w _ _ _ _ hs hG => by obtain ⟨ad, hA⟩ := hG; exact QuadricNumber_impl_no a0 a2 _ha2 hL h w ad hA hs)
  · exact walk_big1 w a0 hs1 a2 (by omega)

theorem own : ownKnob Tryd.prog.godebug = none := by kernel_rfl
theorem laidOut : laidOutB Tryd.prog = true := by kernel_rfl
set_option maxRecDepth 100000 in
theorem lifted (os : Os) (started : os.Started) (H : Type) (enc : TypeId × Value → H) :
    ReturnsInHanded {} Tryd.checked os 3 .any (fun w args => (Rows.fnExactQuadricNumberSpec.pre enc Tryd.prog Tryd.f3 [] false w args ∧ laidMetH Tryd.prog LD w) ∧ sizedMet enc Tryd.prog Tryd.f3 (OpenSpec.ofChange Rows.fnExactQuadricNumberSpec) false w args) (Rows.fnExactQuadricNumberSpec.post enc Tryd.prog Tryd.f3 false true false false) := by
  refine returnsInHanded_of_change_and (C := Tryd.checked) (X := fun w _ => laidMetH Tryd.prog LD w) (fun _ _ _ hh h => h.of_heap hh) own started (by kernel_rfl) Tryd.func3
    (ChangeSpec.witness_shaped (enc := enc) (C := Tryd.checked) (os := os) (X := fun w _ => laidMetH Tryd.prog LD w) false (World.doorLaid Tryd.prog 400 os) #[.int .i64 0, .slice none 0 0, .int .i64 0] 8 rfl (World.shaped_of_RefB (by kernel_rfl) (by kernel_rfl)) (by kernel_rfl) (by kernel_rfl) (by kernel_rfl) (door_met os _)) ?_
  intro W base args ds gs before hval0 hW _ _ hL _
  have hval : ∀ (j : Nat) t v, Tryd.f3.params[j]? = some t → args[j]? = some v → Value.okWide Tryd.prog W .any base t v := hval0
  have hW' := hW
  obtain ⟨p, q, hA0, hV0, rfl, hfz, hnd⟩ := hW
  have hV : DataW.TrodVars enc Tryd.prog W (fun _ => true) ["loop.example/g01313/impl.errNoEquation"] gs q := hV0
  have hA : DataW.TrodAll enc Tryd.prog W 0 (fun _ => true) true Tryd.f3.params.toList args.toList ds p := hA0
  rw [Tryd.params3] at hA hval
  obtain ⟨v0, vs0, d0, ds0, p0, q0, hargs, rfl, rfl, h0, r0⟩ := trodAll_cons hA
  obtain ⟨v1, vs1, d1, ds1, p1, q1, rfl, rfl, rfl, h1, r1⟩ := trodAll_cons r0
  obtain ⟨v2, vs2, d2, ds2, p2, q2, rfl, rfl, rfl, h2, r2⟩ := trodAll_cons r1
  obtain ⟨rfl, rfl, rfl⟩ := trodAll_nil r2
  obtain rfl : args = #[v0, v1, v2] := by cases args; simp_all
  obtain ⟨ad, hvar⟩ := var_of_laid hL
  obtain ⟨rfl, rfl⟩ := hV.unique (vars_read1 enc gE gT Tryd.underlying41 hvar trivial _)
  have hG := gv_of_var hvar
  have k0 := h0
  have lt0 : ∀ x ∈ p0, x.block < W.heap.size := by obtain ⟨m, hm⟩ := k0; exact DataW.trod_lt m _ _ _ hm
  obtain ⟨a0, rfl, hd0, hp0, w0⟩ := open_int Tryd.underlying2 (hval 0 2 v0 rfl rfl) h0
  have k1 := h1
  have lt1 : ∀ x ∈ p1, x.block < W.heap.size := by obtain ⟨m, hm⟩ := k1; exact DataW.trod_lt m _ _ _ hm
  obtain ⟨n1, f1, s1⟩ : ∃ n f, Sl false W 0 W.heap.size v1 n f := by
    obtain ⟨a, len, cap, rfl⟩ := okWide_slice Tryd.underlying22 (hval 1 22 v1 rfl rfl)
    obtain ⟨fuel, hf⟩ := h1
    exact Sl.came Tryd.underlying22 Tryd.underlying2 (by kernel_rfl) (by simpa [Value.cells] using hf)
  have k2 := h2
  have lt2 : ∀ x ∈ p2, x.block < W.heap.size := by obtain ⟨m, hm⟩ := k2; exact DataW.trod_lt m _ _ _ hm
  obtain ⟨a2, rfl, hd2, hp2, w2⟩ := open_int Tryd.underlying2 (hval 2 2 v2 rfl rfl) h2
  clear hA0 hval0 hV0
  refine (walk W hG a0 (inR_wf w0) s1 a2 (inR_wf w2)).mono fun e W' ⟨he, bel⟩ => ?_
  subst he
  exact ⟨_, rfl, _, _, _, [], _, [.cell 0 0], hW', trodAll_mk1 (shut_bool Tryd.underlying4 _), (trodAll_cons_mk (Below.trod laidOut (by kernel_rfl) (of_decide_eq_true (by kernel_rfl)) k0 bel lt0) (trodAll_cons_mk (Below.trod laidOut (by kernel_rfl) (of_decide_eq_true (by kernel_rfl)) k1 bel lt1) (trodAll_cons_mk (Below.trod laidOut (by kernel_rfl) (of_decide_eq_true (by kernel_rfl)) k2 bel lt2) trodAll_mk0))), vars_read1 enc gE gT Tryd.underlying41 (var_below hvar bel) trivial _, bel.frame _, fun h => by cases h⟩

theorem over : Rows.fnExactQuadricNumberRow.holds Tryd.pinned (OpenSpec.ofChange Rows.fnExactQuadricNumberSpec) :=
  OpenClaim.holds_of_wide 3 Tryd.f3 rfl rfl rfl rfl rfl rfl rfl ⟨rfl, rfl, rfl, rfl, rfl⟩ rfl rfl rfl rfl rfl (by kernel_rfl) Tryd.func3 (by unfold joinedFacts; exact (and_tt (and_tt (and_tt (and_tt (and_tt (and_tt (and_tt (and_tt (and_tt (and_tt (and_tt (and_tt (and_tt (and_tt (and_tt (and_tt (and_tt (and_tt (and_tt (and_tt (and_tt (and_tt (and_tt (and_tt (and_tt (and_tt (and_tt (and_tt (and_tt (and_tt (and_tt (by kernel_rfl) (by kernel_rfl)) (by kernel_rfl)) (by kernel_rfl)) (by kernel_rfl)) (by kernel_rfl)) (by kernel_rfl)) (by kernel_rfl)) (by kernel_rfl)) (by kernel_rfl)) (by kernel_rfl)) (by kernel_rfl)) (by kernel_rfl)) (by kernel_rfl)) (by kernel_rfl)) (by kernel_rfl)) (by kernel_rfl)) (by kernel_rfl)) (by kernel_rfl)) (by kernel_rfl)) (by kernel_rfl)) (by kernel_rfl)) (by kernel_rfl)) (by kernel_rfl)) (by kernel_rfl)) init_enter) (tt_lifts init_lifts rfl)) (tt_make init_make rfl)) (by kernel_rfl)) (by kernel_rfl)) (by kernel_rfl)) (by kernel_rfl)))
    (of_decide_eq_true (by kernel_rfl)) (by unfold Func.isWrapper; first | (rw [if_pos (by decide +kernel)]; kernel_rfl) | (rw [if_neg (by decide +kernel)]; exact ⟨rfl, rfl⟩))
    (fun os started H enc _ => lifted os started H enc)

set_option maxRecDepth 100000 in
theorem proved : Rows.FnExactQuadricNumberCardSaid :=
  Claim7.holds_tied_plain_at .later [] [.sentinel] true (true, "6167473b9026ff38ca4de86728960e0e7a8f1e4073dc00a53aa865380abc771b") true over (fun D hD => by cases hD) (by kernel_rfl) (fun D hD => by cases hD) fnExactQuadricNumber_row_tie rfl ⟨rfl, rfl⟩ (by kernel_rfl) rfl
    (fun f fn hf hfn => by
      obtain rfl : f = 3 := Option.some.inj ((show Tryd.prog.funcNamed "loop.example/g01313/laws.FnExactQuadricNumber" = some 3 by kernel_rfl).symm.trans hf) |>.symm
      obtain rfl : fn = Tryd.f3 := (Option.some.inj (Tryd.func3.symm.trans hfn)).symm
      exact ⟨by kernel_rfl, fun j t ht => by
        rw [Tryd.params3] at ht
        have hm : t ∈ [2, 22, 2] := by simpa using Array.mem_of_getElem? ht
        have hall : ([2, 22, 2].all fun u => !Tryd.prog.wantsStandIn u) = true := by kernel_rfl
        exact (show Tryd.prog.wantsStandIn t = false by simpa using List.all_eq_true.1 hall t hm)⟩)
    (by kernel_rfl)
#print axioms proved
end fnExactQuadricNumberCard
end Go.Proofs.YtopapdahpeemfaaDoor
