/- Fractions of the program: lowestTerms, plus, times, over. -/
import Derived.Test.YtnhpodlcgkgpbaaRgB
import Derived.Test.YtnhpodlcgkgpbaaRgE
import Derived.Test.YtnhpodlcgkgpbaaState
import Derived.Deep.RegionLaw
import Derived.Deep.RegionHeld3
namespace Go.Proofs.Ytnhpodlcgkgpbaa
open Go.RowKit Go.ChangeShapes Go.Sort
set_option linter.unusedVariables false
set_option linter.unusedSimpArgs false
set_option maxRecDepth 100000
set_option maxHeartbeats 2000000
theorem tdiv_bd {a g M : Int} (hg : 1 ≤ g) (h1 : -M ≤ a) (h2 : a ≤ M) : -M ≤ a.tdiv g ∧ a.tdiv g ≤ M := by
  by_cases h : 0 ≤ a
  · rw [Int.tdiv_eq_ediv_of_nonneg h]
    have e1 := Int.ediv_nonneg h (show 0 ≤ g by omega)
    have e2 := Int.ediv_le_self g h
    omega
  · have e : a.tdiv g = -((-a) / g) := by rw [← Int.tdiv_eq_ediv_of_nonneg (show 0 ≤ -a by omega), Int.neg_tdiv, Int.neg_neg]
    have e1 := Int.ediv_nonneg (show 0 ≤ -a by omega) (show 0 ≤ g by omega)
    have e2 := Int.ediv_le_self g (show 0 ≤ -a by omega)
    omega
theorem gcdI_one {a b : Int} (hb : 1 ≤ b) : 1 ≤ gcdI a b ∧ gcdI a b ≤ b := by
  unfold gcdI
  have h1 : 0 < Nat.gcd a.toNat b.toNat := Nat.gcd_pos_of_pos_right _ (by omega)
  have h2 : Nat.gcd a.toNat b.toNat ≤ b.toNat := Nat.gcd_le_right _ (by omega)
  omega
theorem inB_iff {x : Int} : inB x = true ↔ -4000000000000000000 ≤ x ∧ x ≤ 4000000000000000000 := by unfold inB; simp
theorem inP_iff {x : Int} : inP x = true ↔ 1 ≤ x ∧ x ≤ 4000000000000000000 := by unfold inP; simp
theorem lowestTerms_any (a b : Int) (ha : inB a = true) (hb : inP b = true) (w : World) :
    Calls Try.prog 233 #[.int .i64 a, .int .i64 b] w fun e w' => e = .returned (.agg #[.int .i64 (ltF a b).1, .int .i64 (ltF a b).2]) ∧ Below w.heap.size w w' := by
  rw [inB_iff] at ha
  rw [inP_iff] at hb
  obtain ⟨ha1, ha2⟩ := ha
  obtain ⟨hb1, hb2⟩ := hb
  obtain ⟨M, hM⟩ : ∃ M, max a (-a) = M := ⟨_, rfl⟩
  have hM0 : 0 ≤ M ∧ M ≤ 4000000000000000000 := by omega
  obtain ⟨g, hg⟩ : ∃ g, gcdI M b = g := ⟨_, rfl⟩
  have hgb := gcdI_one (a := M) hb1
  rw [hg] at hgb
  obtain ⟨hg1, hg2⟩ := hgb
  have HC := Lib.hid (fun w' => commonDivisor_any M b w' (by omega) (by omega) (by omega) (by omega))
  rw [hg] at HC
  obtain ⟨q1, hq1⟩ : ∃ q, a.tdiv g = q := ⟨_, rfl⟩
  obtain ⟨q2, hq2⟩ : ∃ q, b.tdiv g = q := ⟨_, rfl⟩
  have e : ltF a b = (q1, q2) := by unfold ltF; rw [hM, hg, hq1, hq2]
  rw [e]
  clear e hg
  dsimp only
  have hb1' := tdiv_bd hg1 ha1 ha2
  have hb2' := tdiv_bd (M := 4000000000000000000) hg1 (show -4000000000000000000 ≤ b by omega) hb2
  rw [hq1] at hb1'
  rw [hq2] at hb2'
  have hq2e : b / g = q2 := by rw [← Int.tdiv_eq_ediv_of_nonneg (by omega)]; exact hq2
  have hgn : ¬ g = 0 := by omega
  have hgb : (g == 0) = false := beq_eq_false_iff_ne.2 hgn
  have st := ((St.start w).alloc (.cells #[.int .i64 0, .int .i64 0] 145)).addBox w.heap.size [.int .i64 0, .int .i64 0] (Box.made _ _ _ _ (fun j v h => by simpa using h))
  obtain ⟨z0, z1⟩ := (st.box 0 (w.heap.size, [.int .i64 0, .int .i64 0]) rfl).cell2
  have zz := (st.box 0 (w.heap.size, [.int .i64 0, .int .i64 0]) rfl).2.2
  have BB := st.1
  dsimp only at z0 z1 zz
  go_enter Try.func233, Try.ntmps233
  go_wp2_with (go_at_call 173; (first
      | ((have e : M = -a := by omega); rw [e] at HC; refine (HC.out _).mono ?_; rintro e w2 ⟨rfl, m2, rfl⟩)
      | ((have e : M = a := by omega); rw [e] at HC; refine (HC.out _).mono ?_; rintro e w2 ⟨rfl, m2, rfl⟩)))
  all_goals
    clear HC hM hM0
    go_region
    go_wp2
    refine bodyPost_ret (v := .agg #[.int .i64 q1, .int .i64 q2]) (by simp [results, Try.results233, go_sem, z0, z1]) rfl ⟨rfl, ?_⟩
    have BD := below_drewN BB (m2 + 1)
    go_grown
theorem plusQ_any (x1 x2 y1 y2 : Int) (h : okP (x1, x2) (y1, y2) = true) (w : World) :
    Calls Try.prog 231 #[.agg #[.int .i64 x1, .int .i64 x2], .agg #[.int .i64 y1, .int .i64 y2]] w fun e w' => e = .returned (.agg #[.int .i64 (plF (x1, x2) (y1, y2)).1, .int .i64 (plF (x1, x2) (y1, y2)).2]) ∧ Below w.heap.size w w' := by
  have st := ((St.start w).alloc (.cells #[.int .i64 x1, .int .i64 x2] 145)).addBox _ [.int .i64 x1, .int .i64 x2] (Box.made _ _ _ _ (fun j v h => by simpa using h))
  replace st := (st.alloc (.cells #[.int .i64 y1, .int .i64 y2] 145)).addBox _ [.int .i64 y1, .int .i64 y2] (Box.made _ _ _ _ (fun j v h => by simpa using h))
  replace st := (st.alloc (.cells #[.int .i64 0, .int .i64 0] 145)).addBox _ [.int .i64 0, .int .i64 0] (Box.made _ _ _ _ (fun j v h => by simpa using h))
  simp only [World.size_alloc] at st
  unfold okP at h
  simp only [Bool.and_eq_true, inB_iff, inP_iff] at h
  obtain ⟨⟨⟨⟨h1, h1'⟩, h2, h2'⟩, h3, h3'⟩, h4, h4'⟩ := h
  have HL := Lib.hid (fun w' => lowestTerms_any (x1 * y2 + y1 * x2) (x2 * y2) (inB_iff.2 (by omega)) (inP_iff.2 (by omega)) w')
  have eV : ltF (x1 * y2 + y1 * x2) (x2 * y2) = plF (x1, x2) (y1, y2) := rfl
  rw [eV] at HL
  clear eV
  obtain ⟨q1, hq1⟩ : ∃ q, (plF (x1, x2) (y1, y2)).1 = q := ⟨_, rfl⟩
  obtain ⟨q2, hq2⟩ : ∃ q, (plF (x1, x2) (y1, y2)).2 = q := ⟨_, rfl⟩
  rw [hq1, hq2] at HL
  rw [hq1, hq2]
  clear hq1 hq2
  obtain ⟨xa, xb⟩ := (st.box 2 (w.heap.size, [.int .i64 x1, .int .i64 x2]) rfl).cell2
  dsimp only at xa xb
  obtain ⟨ya, yb⟩ := (st.box 1 (w.heap.size + 1, [.int .i64 y1, .int .i64 y2]) rfl).cell2
  dsimp only at ya yb
  go_enter Try.func231, Try.ntmps231
  go_wp2_with (first
    | (go_at_call 233; refine (HL.out _).mono ?_; rintro e w2 ⟨rfl, b2⟩
       replace st := st.keep b2
       obtain ⟨z0, z1⟩ := (st.box 0 (w.heap.size + 1 + 1, [.int .i64 0, .int .i64 0]) rfl).cell2
       have zz := (st.box 0 (w.heap.size + 1 + 1, [.int .i64 0, .int .i64 0]) rfl).2.2
       have hz2 := b2.size
       simp only [World.size_alloc] at hz2
       dsimp only at z0 z1 zz))
  have BB := st.1
  refine bodyPost_ret (v := .agg #[.int .i64 q1, .int .i64 q2]) (by simp [results, Try.results231, go_sem, z0, z1]) rfl ⟨rfl, ?_⟩
  go_grown
theorem timesQ_any (x1 x2 k : Int) (h : okT (x1, x2) k = true) (w : World) :
    Calls Try.prog 232 #[.agg #[.int .i64 x1, .int .i64 x2], .int .i64 k] w fun e w' => e = .returned (.agg #[.int .i64 (tiF (x1, x2) k).1, .int .i64 (tiF (x1, x2) k).2]) ∧ Below w.heap.size w w' := by
  have st := ((St.start w).alloc (.cells #[.int .i64 x1, .int .i64 x2] 145)).addBox _ [.int .i64 x1, .int .i64 x2] (Box.made _ _ _ _ (fun j v h => by simpa using h))
  replace st := (st.alloc (.cells #[.int .i64 0, .int .i64 0] 145)).addBox _ [.int .i64 0, .int .i64 0] (Box.made _ _ _ _ (fun j v h => by simpa using h))
  simp only [World.size_alloc] at st
  unfold okT at h
  simp only [Bool.and_eq_true, inB_iff, inP_iff] at h
  obtain ⟨⟨h1, h1'⟩, h2, h2'⟩ := h
  have HL := Lib.hid (fun w' => lowestTerms_any (x1 * k) (x2) (inB_iff.2 (by omega)) (inP_iff.2 (by omega)) w')
  have eV : ltF (x1 * k) (x2) = tiF (x1, x2) k := rfl
  rw [eV] at HL
  clear eV
  obtain ⟨q1, hq1⟩ : ∃ q, (tiF (x1, x2) k).1 = q := ⟨_, rfl⟩
  obtain ⟨q2, hq2⟩ : ∃ q, (tiF (x1, x2) k).2 = q := ⟨_, rfl⟩
  rw [hq1, hq2] at HL
  rw [hq1, hq2]
  clear hq1 hq2
  obtain ⟨xa, xb⟩ := (st.box 1 (w.heap.size, [.int .i64 x1, .int .i64 x2]) rfl).cell2
  dsimp only at xa xb
  go_enter Try.func232, Try.ntmps232
  go_wp2_with (first
    | (go_at_call 233; refine (HL.out _).mono ?_; rintro e w2 ⟨rfl, b2⟩
       replace st := st.keep b2
       obtain ⟨z0, z1⟩ := (st.box 0 (w.heap.size + 1, [.int .i64 0, .int .i64 0]) rfl).cell2
       have zz := (st.box 0 (w.heap.size + 1, [.int .i64 0, .int .i64 0]) rfl).2.2
       have hz2 := b2.size
       simp only [World.size_alloc] at hz2
       dsimp only at z0 z1 zz))
  have BB := st.1
  refine bodyPost_ret (v := .agg #[.int .i64 q1, .int .i64 q2]) (by simp [results, Try.results232, go_sem, z0, z1]) rfl ⟨rfl, ?_⟩
  go_grown
theorem overQ_any (x1 x2 k : Int) (h : okO (x1, x2) k = true) (w : World) :
    Calls Try.prog 230 #[.agg #[.int .i64 x1, .int .i64 x2], .int .i64 k] w fun e w' => e = .returned (.agg #[.int .i64 (ovF (x1, x2) k).1, .int .i64 (ovF (x1, x2) k).2]) ∧ Below w.heap.size w w' := by
  have st := ((St.start w).alloc (.cells #[.int .i64 x1, .int .i64 x2] 145)).addBox _ [.int .i64 x1, .int .i64 x2] (Box.made _ _ _ _ (fun j v h => by simpa using h))
  replace st := (st.alloc (.cells #[.int .i64 0, .int .i64 0] 145)).addBox _ [.int .i64 0, .int .i64 0] (Box.made _ _ _ _ (fun j v h => by simpa using h))
  simp only [World.size_alloc] at st
  unfold okO at h
  simp only [Bool.and_eq_true, inB_iff, inP_iff] at h
  obtain ⟨⟨h1, h1'⟩, h2, h2'⟩ := h
  have HL := Lib.hid (fun w' => lowestTerms_any (x1) (x2 * k) (inB_iff.2 (by omega)) (inP_iff.2 (by omega)) w')
  have eV : ltF (x1) (x2 * k) = ovF (x1, x2) k := rfl
  rw [eV] at HL
  clear eV
  obtain ⟨q1, hq1⟩ : ∃ q, (ovF (x1, x2) k).1 = q := ⟨_, rfl⟩
  obtain ⟨q2, hq2⟩ : ∃ q, (ovF (x1, x2) k).2 = q := ⟨_, rfl⟩
  rw [hq1, hq2] at HL
  rw [hq1, hq2]
  clear hq1 hq2
  obtain ⟨xa, xb⟩ := (st.box 1 (w.heap.size, [.int .i64 x1, .int .i64 x2]) rfl).cell2
  dsimp only at xa xb
  go_enter Try.func230, Try.ntmps230
  go_wp2_with (first
    | (go_at_call 233; refine (HL.out _).mono ?_; rintro e w2 ⟨rfl, b2⟩
       replace st := st.keep b2
       obtain ⟨z0, z1⟩ := (st.box 0 (w.heap.size + 1, [.int .i64 0, .int .i64 0]) rfl).cell2
       have zz := (st.box 0 (w.heap.size + 1, [.int .i64 0, .int .i64 0]) rfl).2.2
       have hz2 := b2.size
       simp only [World.size_alloc] at hz2
       dsimp only at z0 z1 zz))
  have BB := st.1
  refine bodyPost_ret (v := .agg #[.int .i64 q1, .int .i64 q2]) (by simp [results, Try.results230, go_sem, z0, z1]) rfl ⟨rfl, ?_⟩
  go_grown
theorem l10Choose_any (m i : Nat) (hm : m < 22) (hi : i < m) (w : World) :
    Calls Try.prog 134 #[.int .i64 (m : Int), .int .i64 (i : Int)] w fun e w' => e = .returned (.int .i64 (chC m i : Int)) ∧ w = w' := by
  go_enter Try.func134, Try.ntmps134
  go_wp2
  go_loopw [5, 6] (fun s5 s6 wr => ∃ k : Nat, k ≤ i ∧ s6 = .int .i64 (k : Int) ∧ s5 = .int .i64 (chC m k : Int) ∧ wr = w) (fun _ s6 _ => i - (intOf s6).toNat)
  case atStart => exact ⟨0, Nat.zero_le _, rfl, rfl, rfl⟩
  case round =>
    obtain ⟨k, hk, rfl, rfl, hwr⟩ := hrel
    subst hwr
    by_cases hlt : k < i
    · have hki : (k : Int) < (i : Int) := by omega
      have hb := chC_bd m hm k (by omega)
      have hcm : ((chC m k * (m - k) : Nat) : Int) = (chC m k : Int) * ((m : Int) - (k : Int)) := by
        rw [Int.natCast_mul, Int.natCast_sub (by omega)]
      have hm0 : 0 ≤ (chC m k : Int) * ((m : Int) - (k : Int)) := by rw [← hcm]; omega
      have hm1 : (chC m k : Int) * ((m : Int) - (k : Int)) ≤ 100000000 := by rw [← hcm]; omega
      have HC2 := Lib.hid (show ((chC m (k + 1) : Nat) : Int) = (chC m k : Int) * ((m : Int) - (k : Int)) / ((k : Int) + 1) by
        rw [← hcm, show ((k : Int) + 1) = ((k + 1 : Nat) : Int) by omega, ← Int.natCast_ediv]; rfl)
      obtain ⟨C, hC⟩ : ∃ C, chC m k = C := ⟨_, rfl⟩
      rw [hC] at hb hm0 hm1 HC2
      rw [hC]
      clear hC hcm
      have hd := Int.ediv_nonneg (a := (C : Int) * ((m : Int) - (k : Int))) (b := (k : Int) + 1) hm0 (by omega)
      have hd2 := Int.ediv_le_self ((k : Int) + 1) hm0
      go_wp2
      go_roundw
      case rel => exact ⟨k + 1, by omega, by go_num, by rw [HC2.out], by first | rfl | trivial⟩
      case measure => simp [intOf] <;> omega
    · obtain rfl : k = i := by omega
      go_wp2
      go_ret
      exact ⟨rfl, by first | rfl | trivial⟩
end Go.Proofs.Ytnhpodlcgkgpbaa
