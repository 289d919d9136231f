/- BernoulliOf of the model. -/
import Derived.Test.YtnhpodlcgkgpbaaRgFq
namespace Go.Proofs.Ytnhpodlcgkgpbaa
open Go.RowKit Go.ChangeShapes Go.Sort
set_option linter.unusedVariables false
set_option linter.unusedSimpArgs false
set_option maxRecDepth 100000
set_option maxHeartbeats 4000000
theorem BernoulliOf_spec_no (k : Int) (h : k < 0 ∨ 20 < k) (w : World) :
    Calls Try.prog 58 #[.int .i64 k] w fun e w' => e = .returned (.tuple #[.int .i64 0, .int .i64 0, .int .i64 2]) ∧ Below w.heap.size w w' := by
  have H := Lib.hid h
  clear h
  go_enter Try.func58, Try.ntmps58
  go_wp2_with (go_at_call 101; refine (l01In_no _ _ _ _ H.out).mono ?_; rintro e w' ⟨rfl, rfl⟩)
  go_returns
  exact ⟨rfl, Below.refl _ _⟩
theorem maxI_two (P M : Int) (h : max P (-P) = M) : 0 ≤ M ∧ (P < -P → M = -P) ∧ (¬ P < -P → M = P) := by omega
theorem row_cell {w : World} {base g cap n : Nat} {F : Nat → Int} (h : Row w base g cap n F) (hF : ∀ i, i < n → inR (F i)) (hn : n ≤ 1000) {t : Nat} (ht : t < n) : w.cell? ⟨g, t, none⟩ = some (.int .i64 (F t)) := by
  have := (Sl.ofRowF h hF (by unfold maxLen; omega)).known (by omega)
  have := this.2.2.2.1 t ht
  rwa [Nat.zero_add] at this
theorem beQ_in (k : Nat) (h : k < 21) : inR (beQ k).1 ∧ inR (beQ k).2 := by
  obtain ⟨h1, h2⟩ := beQ_bd k h
  rw [inB_iff] at h1
  rw [inP_iff] at h2
  unfold inR
  omega
theorem row_first (w : World) (base : Nat) (x : Int) (F : Nat → Int) (hb : base ≤ w.heap.size) (hF : F 0 = x) : Row (w.alloc (.cells #[.int .i64 x] 2)) base w.heap.size 1 1 F :=
  ⟨by simp, .inr ⟨w.heap.size, 1, #[.int .i64 x], rfl, hb, heap_alloc_new w _, Nat.le_refl _, by decide, by simp, by simp [hF]⟩⟩
theorem BernoulliOf_spec_ok (K : Nat) (hK : K ≤ 20) (w : World) :
    Calls Try.prog 58 #[.int .i64 (K : Int)] w fun e w' => e = .returned (.tuple #[.int .i64 (beQ K).1, .int .i64 (beQ K).2, .int .i64 0]) ∧ Below w.heap.size w w' := by
  have R0 := row_first w w.heap.size 1 (fun i => (beQ i).1) (Nat.le_refl _) rfl
  have R0' := row_first (w.alloc (.cells #[.int .i64 1] 2)) w.heap.size 1 (fun i => (beQ i).2) (by simp) rfl
  simp only [World.size_alloc] at R0'
  have HRA := Lib.hid (R0.alloc (.cells #[.int .i64 1] 2))
  have HRB := Lib.hid R0'
  have HST := Lib.hid (((St.start w).alloc (.cells #[.int .i64 1] 2)).alloc (.cells #[.int .i64 1] 2))
  clear R0 R0'
  go_enter Try.func58, Try.ntmps58
  go_wp2_with (first
    | (go_at_call 101; refine (l01In_yes _ _ _ _ (by omega) (by omega)).mono ?_; rintro e w' ⟨rfl, rfl⟩))
  go_loopw [5, 6, 7] (fun s5 s6 s7 wr => ∃ (j gA cA gB cB : Nat), j ≤ K ∧ s5 = .slice (some ⟨gA, 0, none⟩) (j + 1) cA ∧ s6 = .slice (some ⟨gB, 0, none⟩) (j + 1) cB ∧ s7 = .int .i64 ((j : Int) + 1) ∧ gA ≠ gB ∧ Row wr w.heap.size gA cA (j + 1) (fun i => (beQ i).1) ∧ Row wr w.heap.size gB cB (j + 1) (fun i => (beQ i).2) ∧ St w wr [] []) (fun _ _ s7 _ => K + 2 - (intOf s7).toNat)
  case atStart => exact ⟨0, _, _, _, _, Nat.zero_le _, rfl, rfl, rfl, by omega, HRA.out, HRB.out, HST.out⟩
  case round =>
    clear HRA HRB HST
    rename World => wo
    obtain ⟨j, gA, cA, gB, cB, hj, rfl, rfl, rfl, hne, hra, hrb, st⟩ := hrel
    have RA1 := Lib.hid hra
    have RB1 := Lib.hid hrb
    have HNE := Lib.hid hne
    clear hra hrb hne
    by_cases hlt : j < K
    · have hc1 : (j : Int) + 1 ≤ (K : Int) := by omega
      have HST := Lib.hid st
      have BQ := Lib.hid (beQ_all (k := j) (by omega))
      clear st
      go_wp2
      go_loopw [8, 9, 10] (fun s8 s9 s10 wr => ∃ t : Nat, t ≤ j + 1 ∧ s10 = .int .i64 (t : Int) ∧ s8 = .int .i64 (smD (blQ j) (j + 1) t).1 ∧ s9 = .int .i64 (smD (blQ j) (j + 1) t).2 ∧ Row wr w.heap.size gA cA (j + 1) (fun i => (beQ i).1) ∧ Row wr w.heap.size gB cB (j + 1) (fun i => (beQ i).2) ∧ St w wr [] []) (fun _ _ s10 _ => j + 1 - (intOf s10).toNat)
      case atStart => exact ⟨0, Nat.zero_le _, rfl, rfl, rfl, RA1.out, RB1.out, HST.out⟩
      case round =>
        clear HST RA1 RB1
        obtain ⟨t, ht, rfl, rfl, rfl, hra, hrb, st⟩ := hrel
        have RA1 := Lib.hid hra
        have RB1 := Lib.hid hrb
        clear hra hrb
        by_cases htj : t < j + 1
        · have htji : (t : Int) < (j : Int) + 1 := by omega
          have cA1 := row_cell RA1.out (fun i hi => (beQ_in i (by omega)).1) (by omega) htj
          have cB1 := row_cell RB1.out (fun i hi => (beQ_in i (by omega)).2) (by omega) htj
          have HOK := BQ.out.md t htj
          rw [blQ_get j t (by omega)] at HOK
          have HSM := Lib.hid (show smD (blQ j) (j + 1) (t + 1) = ltF (mdP (smD (blQ j) (j + 1) t) (chC (j + 1 + 1) t) (beQ t)) (mdQ (smD (blQ j) (j + 1) t) (beQ t)) by rw [← blQ_get j t (by omega)]; rfl)
          have HCH := Lib.hid (fun w' => l10Choose_any (j + 1 + 1) t (by omega) (by omega) w')
          rw [show ((j + 1 + 1 : Nat) : Int) = (j : Int) + 1 + 1 by omega] at HCH
          obtain ⟨C, hC⟩ : ∃ C : Int, (chC (j + 1 + 1) t : Int) = C := ⟨_, rfl⟩
          obtain ⟨B1, B2, hB⟩ : ∃ B1 B2, beQ t = (B1, B2) := ⟨_, _, rfl⟩
          obtain ⟨X1, X2, hX⟩ : ∃ X1 X2, smD (blQ j) (j + 1) t = (X1, X2) := ⟨_, _, rfl⟩
          rw [hC] at HOK HSM HCH
          rw [hB] at HOK HSM cA1 cB1
          rw [hX] at HOK HSM
          rw [hX]
          clear hC hB hX
          unfold okD at HOK
          unfold mdP mdQ at HOK HSM
          simp only [Bool.and_eq_true, inB_iff, inP_iff] at HOK
          dsimp only at HOK HSM cA1 cB1 ⊢
          obtain ⟨⟨⟨⟨⟨⟨⟨⟨h1, h2⟩, h3⟩, h4⟩, h5⟩, h6⟩, h7⟩, h8⟩, h9⟩ := HOK
          have hgG := gcdI_one (a := X2) h2.1
          have HG := Lib.hid (fun w' => l01Gcd_any X2 B2 w' (by omega) (by omega) (by omega) (by omega))
          obtain ⟨G, hG⟩ : ∃ G, gcdI X2 B2 = G := ⟨_, rfl⟩
          rw [hG] at hgG HG h5 h7 h8 h9 HSM
          clear hG
          have hD := tdiv_bd (M := 4000000000000000000) hgG.1 (show -4000000000000000000 ≤ B2 by omega) h2.2
          have hE := tdiv_bd (M := 4000000000000000000) hgG.1 (show -4000000000000000000 ≤ X2 by omega) h1.2
          obtain ⟨D, hDe⟩ : ∃ D, B2.tdiv G = D := ⟨_, rfl⟩
          obtain ⟨E, hEe⟩ : ∃ E, X2.tdiv G = E := ⟨_, rfl⟩
          have hDe2 : B2 / G = D := by rw [← Int.tdiv_eq_ediv_of_nonneg (by omega)]; exact hDe
          have hEe2 : X2 / G = E := by rw [← Int.tdiv_eq_ediv_of_nonneg (by omega)]; exact hEe
          rw [hDe] at hD h5 h8 HSM
          rw [hEe] at hE h7 h8 h9 HSM
          obtain ⟨P, hP⟩ : ∃ P, X1 * D + C * B1 * E = P := ⟨_, rfl⟩
          obtain ⟨Q, hQ⟩ : ∃ Q, E * B2 = Q := ⟨_, rfl⟩
          rw [hP] at h8 HSM
          rw [hQ] at h9 HSM
          obtain ⟨M, hM⟩ : ∃ M, max P (-P) = M := ⟨_, rfl⟩
          obtain ⟨hM0, hM1, hM2⟩ := maxI_two P M hM
          have hMb : M ≤ 4000000000000000000 := by omega
          have hgH := gcdI_one (a := M) h9.1
          have HH := Lib.hid (fun w' => l01Gcd_any M Q w' (by omega) (by omega) (by omega) (by omega))
          unfold ltF at HSM
          rw [hM] at HSM
          obtain ⟨g, hg⟩ : ∃ g, gcdI M Q = g := ⟨_, rfl⟩
          rw [hg] at hgH HH HSM
          have HM := Lib.hid hM
          clear hg hM
          have hU := tdiv_bd (M := 4000000000000000000) hgH.1 h8.1 h8.2
          have hV := tdiv_bd (M := 4000000000000000000) hgH.1 (show -4000000000000000000 ≤ Q by omega) h9.2
          obtain ⟨U, hUe⟩ : ∃ U, P.tdiv g = U := ⟨_, rfl⟩
          obtain ⟨V, hVe⟩ : ∃ V, Q.tdiv g = V := ⟨_, rfl⟩
          have hVe2 : Q / g = V := by rw [← Int.tdiv_eq_ediv_of_nonneg (by omega)]; exact hVe
          rw [hUe] at hU HSM
          rw [hVe] at hV HSM
          have hGn : ¬ G = 0 := by omega
          have hgn : ¬ g = 0 := by omega
          have HM1 := Lib.hid hM1
          have HM2 := Lib.hid hM2
          clear hM1 hM2
          have st2 := Lib.hid st
          clear st
          go_wp2_with (first
            | (go_at_call 134; refine (HCH.out _).mono ?_; rintro e w' ⟨rfl, rfl⟩)
            | (go_at_call 124; refine (HG.out _).mono ?_; rintro e w' ⟨rfl, rfl⟩))
          go_region
          go_wp2
          go_region
          go_wp2_with (go_at_call 124; (first
              | ((have e : M = -P := HM1.out (by assumption)); rw [e] at HH; refine (HH.out _).mono ?_; rintro e w' ⟨rfl, rfl⟩)
              | ((have e : M = P := HM2.out (by assumption)); rw [e] at HH; refine (HH.out _).mono ?_; rintro e w' ⟨rfl, rfl⟩)))
          all_goals
            go_roundw
            case rel => exact ⟨t + 1, by omega, by go_num, by rw [HSM.out], by rw [HSM.out], RA1.out, RB1.out, (st2.out.drew).drew⟩
            case measure => simp [intOf] <;> omega
        · obtain rfl : t = j + 1 := by omega
          have HA0 := BQ.out.a
          have HB0 := BQ.out.b
          have HE0 := Lib.hid ((beQ_succ j).trans BQ.out.eq)
          obtain ⟨X1, X2, hX⟩ : ∃ X1 X2, smD (blQ j) (j + 1) (j + 1) = (X1, X2) := ⟨_, _, rfl⟩
          have HE1 := Lib.hid (show nxD (blQ j) (j + 1) = ((-(smD (blQ j) (j + 1) (j + 1)).1).tdiv (gcdI (max (smD (blQ j) (j + 1) (j + 1)).1 (-(smD (blQ j) (j + 1) (j + 1)).1)) ((smD (blQ j) (j + 1) (j + 1)).2 * ((j : Int) + 1 + 1))), ((smD (blQ j) (j + 1) (j + 1)).2 * ((j : Int) + 1 + 1)).tdiv (gcdI (max (smD (blQ j) (j + 1) (j + 1)).1 (-(smD (blQ j) (j + 1) (j + 1)).1)) ((smD (blQ j) (j + 1) (j + 1)).2 * ((j : Int) + 1 + 1)))) from rfl)
          rw [hX] at HA0 HB0 HE1
          rw [hX]
          dsimp only at HA0 HB0 HE1 ⊢
          rw [inB_iff] at HA0
          rw [inP_iff] at HB0
          clear hX
          obtain ⟨Q, hQ⟩ : ∃ Q, X2 * ((j : Int) + 1 + 1) = Q := ⟨_, rfl⟩
          rw [hQ] at HB0 HE1
          obtain ⟨M, hM⟩ : ∃ M, max X1 (-X1) = M := ⟨_, rfl⟩
          obtain ⟨hM0, hM1, hM2⟩ := maxI_two X1 M hM
          have hMb : M ≤ 4000000000000000000 := by omega
          have hgH := gcdI_one (a := M) HB0.1
          have HH := Lib.hid (fun w' => l01Gcd_any M Q w' (by omega) (by omega) (by omega) (by omega))
          rw [hM] at HE1
          obtain ⟨g, hg⟩ : ∃ g, gcdI M Q = g := ⟨_, rfl⟩
          rw [hg] at hgH HH HE1
          clear hg hM
          have hU := tdiv_bd (M := 4000000000000000000) hgH.1 (show -4000000000000000000 ≤ -X1 by omega) (show -X1 ≤ 4000000000000000000 by omega)
          have hV := tdiv_bd (M := 4000000000000000000) hgH.1 (show -4000000000000000000 ≤ Q by omega) HB0.2
          obtain ⟨U, hUe⟩ : ∃ U, (-X1).tdiv g = U := ⟨_, rfl⟩
          obtain ⟨V, hVe⟩ : ∃ V, Q.tdiv g = V := ⟨_, rfl⟩
          have hVe2 : Q / g = V := by rw [← Int.tdiv_eq_ediv_of_nonneg (by omega)]; exact hVe
          rw [hUe] at hU HE1
          rw [hVe] at hV HE1
          have hgn : ¬ g = 0 := by omega
          have HM1 := Lib.hid hM1
          have HM2 := Lib.hid hM2
          have hlA := RA1.out.lt
          have hlB := RB1.out.lt
          have HSTB := Lib.hid st
          clear hM1 hM2 st
          go_wp2_with (first
            | (go_at_call 124; (first
              | ((have e : M = -X1 := HM1.out (by assumption)); rw [e] at HH; refine (HH.out _).mono ?_; rintro e w' ⟨rfl, rfl⟩)
              | ((have e : M = X1 := HM2.out (by assumption)); rw [e] at HH; refine (HH.out _).mono ?_; rintro e w' ⟨rfl, rfl⟩)))
            | ((fail_if_success (have _g := RA2)); at_builtin; refine wpList_push rfl (.tmp 89) (.tmp 94) rfl rfl w.heap.size gA cA (j + 1) (fun i => (beQ i).1) rfl (RA1.out.alloc _) wr.heap.size U rfl (heap_alloc_new wr _) (by omega) ?_; intro gA2 kA wA rowA grA orA ltA
               have stA := Lib.hid ((HSTB.out.alloc (.cells #[.int .i64 U] 2)).write (Frame.ofGrown grA) (by omega) (by intro q hq; cases hq) (by intro s hs'; cases hs'))
               have RA2 := Lib.hid rowA
               have RB2 := Lib.hid ((RB1.out.alloc (.cells #[.int .i64 U] 2)).kept grA (fun e => HNE.out e.symm))
               have hzA := grA.size
               have hneA : gA2 = gA ∨ gA2 = wr.heap.size + 1 := by simpa using orA
               have hzA2 : wr.heap.size + 1 ≤ wA.heap.size := by simpa using hzA
               clear rowA grA RB1 RA1 orA hzA)
            | ((have _g := RA2); at_builtin; refine wpList_push rfl (.tmp 96) (.tmp 100) rfl rfl w.heap.size gB cB (j + 1) (fun i => (beQ i).2) rfl (RB2.out.alloc _) wA.heap.size V rfl (heap_alloc_new wA _) (by omega) ?_; intro gB2 kB wB rowB grB orB ltB
               have stB := Lib.hid ((stA.out.alloc (.cells #[.int .i64 V] 2)).write (Frame.ofGrown grB) (by omega) (by intro q hq; cases hq) (by intro s hs'; cases hs'))
               have RB3 := Lib.hid rowB
               have hne2 : gA2 ≠ gB := by have := HNE.out; omega
               have RA3 := Lib.hid ((RA2.out.alloc (.cells #[.int .i64 V] 2)).kept grB hne2)
               have hneB : gB2 = gB ∨ gB2 = wA.heap.size + 1 := by simpa using orB
               clear rowB grB orB))
          all_goals
            go_roundw
            case rel =>
              refine ⟨j + 1, gA2, kA, gB2, kB, by omega, rfl, rfl, by go_num, by omega, RA3.out.congr (fun i hi => ?_), RB3.out.congr (fun i hi => ?_), stB.out⟩
              · by_cases e : i < j + 1
                · rw [if_pos e]
                · obtain rfl : i = j + 1 := by omega
                  rw [if_neg e, HE0.out, HE1.out]
              · by_cases e : i < j + 1
                · rw [if_pos e]
                · obtain rfl : i = j + 1 := by omega
                  rw [if_neg e, HE0.out, HE1.out]
            case measure => simp [intOf] <;> omega
    · obtain rfl : j = K := by omega
      have BB := st.1
      have cA1 := row_cell RA1.out (fun i hi => (beQ_in i (by omega)).1) (by omega) (Nat.lt_succ_self j)
      have cB1 := row_cell RB1.out (fun i hi => (beQ_in i (by omega)).2) (by omega) (Nat.lt_succ_self j)
      go_wp2
      go_region
      go_wp2
      go_returns
      exact ⟨rfl, by go_grown⟩
end Go.Proofs.Ytnhpodlcgkgpbaa
