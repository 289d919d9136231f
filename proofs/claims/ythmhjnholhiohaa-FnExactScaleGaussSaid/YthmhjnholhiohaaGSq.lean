/- Gauss numbers of the model and of the program: what is one, what fits, two of the same kind. -/
import Derived.Test.YthmhjnholhiohaaGSp
import Derived.Test.YthmhjnholhiohaaCycloOf
namespace Go.Proofs.Ythmhjnholhiohaa
open Go.RowKit Go.ChangeShapes Go.Sort Go.WideShapes
set_option linter.unusedVariables false
set_option linter.unusedSimpArgs false

theorem cell_one {w : World} {b g i k : Nat} {u x : Value} (h : w.cell? ⟨g, k, none⟩ = some x) (hb : g ≠ b) : (w.setCell ⟨b, i, none⟩ u).cell? ⟨g, k, none⟩ = some x :=
  (World.cell?_setCell_other _ _ _ _ (fun e => hb (by injection e with e1; exact e1.symm))).trans h
/-- What fails. -/
def failG (c : Int) : Value := .tuple #[.agg #[.int .i64 0, .int .i64 0, .slice none 0 0], .int .i64 c]

section
variable {o : Bool} {lo hi : Nat} {V : Value} {m : Nat} {ln : Nat → Nat} {F : Nat → Nat → Int}
set_option maxRecDepth 100000 in
set_option maxHeartbeats 4000000 in
theorem l05Is_any (x y : Int) (w : World) (hs : Rw o w lo hi V m ln F) :
    Calls Try.prog 64 #[.agg #[.int .i64 x, .int .i64 y, V]] w fun e w' => e = .returned (.bool (gsB x y m ln F)) ∧ Below w.heap.size w w' := by
  obtain ⟨a, cap, rfl⟩ := hs.shape
  have hml := hs.len
  unfold maxLen at hml
  have st0 := ((StR.start w).addRw ⟨o, lo, hi, .slice a m cap, m, ln, F⟩ hs).boxNew3 (.int .i64 x) (.int .i64 y) (.slice a m cap) 27
  clear hs
  go_enter Try.func64, Try.ntmps64
  by_cases hp : PrP x
  · obtain ⟨P, rfl⟩ := Int.eq_ofNat_of_zero_le hp.1
    have hpr : primeN P = true := by have := hp.2; rwa [Int.toNat_natCast] at this
    have hb := primeN_bd hpr
    obtain ⟨c0, c1, c2⟩ := (st0.box 0 (w.heap.size, [.int .i64 (P : Int), .int .i64 y, .slice a m cap]) rfl).c3
    go_wp2_with fail
    refine (l03Prime_yes P hpr _).mono ?_
    rintro e w1 ⟨rfl, d, rfl⟩
    have st1 := st0.drewN d
    clear st0 c0 c1 c2
    obtain ⟨w1, hw1⟩ : ∃ w1, (w.alloc (.cells #[.int .i64 (P : Int), .int .i64 y, .slice a m cap] 27)).drewN d = w1 := ⟨_, rfl⟩
    rw [hw1] at st1
    simp only [hw1]
    clear hw1
    obtain ⟨c0, c1, c2⟩ := (st1.box 0 (w.heap.size, [.int .i64 (P : Int), .int .i64 y, .slice a m cap]) rfl).c3
    by_cases hy : 1 ≤ y ∧ y ≤ 16
    · obtain ⟨N, rfl⟩ := Int.eq_ofNat_of_zero_le (show 0 ≤ y by omega)
      by_cases hmp : m = P
      · subst hmp
        go_wp2_with fail
        refine (l01In_yes _ _ _ _ (by omega) (by omega)).mono ?_
        rintro e w2 ⟨rfl, rfl⟩
        go_wp2_with fail
        refine (l01Phi_nat N _ (by omega)).mono ?_
        rintro e w2 ⟨rfl, rfl⟩
        obtain ⟨L, hL⟩ : ∃ L, phiN N = L := ⟨_, rfl⟩
        have h12 := phi_le12 N (by omega) (by omega)
        have h1L := phiN_pos N (by omega) (by omega)
        rw [hL] at h12 h1L
        simp only [hL]
        have HL := Lib.hid (show phiI (N : Int) = L from hL)
        clear hL
        clear c0 c1 c2
        go_wp2
        go_loopw [4] (fun i wr => ∃ k : Nat, k ≤ m ∧ i = .int .i64 k ∧ StR w wr [(w.heap.size, [.int .i64 (m : Int), .int .i64 (N : Int), .slice a m cap])] [] [⟨o, lo, hi, .slice a m cap, m, ln, F⟩] ∧ (∀ i, i < k → CyP (N : Int) (ln i) (F i)) ∧ (0 < k → ∀ j, j < ln 0 → F 0 j = 0)) (fun i _ => m - (intOf i).toNat)
        case atStart => exact ⟨0, Nat.zero_le _, rfl, st1, fun i hi => absurd hi (Nat.not_lt_zero _), fun h => absurd h (Nat.lt_irrefl _)⟩
        case round =>
          clear st1
          obtain ⟨k, hk, rfl, st, hall, hz0⟩ := hrel
          have HA := Lib.hid hall; clear hall
          have HZ := Lib.hid hz0; clear hz0
          obtain ⟨c0, c1, c2⟩ := (st.box 0 (w.heap.size, [.int .i64 (m : Int), .int .i64 (N : Int), .slice a m cap]) rfl).c3
          by_cases hlt : k < m
          · obtain ⟨g, off, cp, u, hv, hr⟩ := (st.rw 0 ⟨o, lo, hi, .slice a m cap, m, ln, F⟩ rfl).at (show 0 < m by omega)
            dsimp only at hv hr
            obtain ⟨rfl, rfl⟩ : a = some ⟨g, off, none⟩ ∧ cap = cp := by cases hv; exact ⟨rfl, rfl⟩
            have ck := hr.head hlt
            obtain ⟨a1, k1, hu⟩ := (hr.row hlt).shape
            rw [hu] at ck
            by_cases hlen : ln k = L
            · rw [hlen] at ck
              clear hu hv hr
              go_wp2
              clear c0 c1 c2 ck
              go_loopw [5] (fun s wq => ∃ j : Nat, j ≤ L ∧ s = .int .i64 j ∧ StR w wq [(w.heap.size, [.int .i64 (m : Int), .int .i64 (N : Int), .slice (some ⟨g, off, none⟩) m cap])] [] [⟨o, lo, hi, .slice (some ⟨g, off, none⟩) m cap, m, ln, F⟩] ∧ (∀ t, t < j → -1000000000 ≤ F k t ∧ F k t ≤ 1000000000) ∧ (k = 0 → ∀ t, t < j → F 0 t = 0)) (fun s _ => L - (intOf s).toNat)
              case atStart => exact ⟨0, Nat.zero_le _, rfl, st, fun i hi => absurd hi (Nat.not_lt_zero _), fun _ t ht => absurd ht (Nat.not_lt_zero _)⟩
              case round =>
                clear st
                obtain ⟨j, hj, rfl, st, hin, hzz⟩ := hrel
                have HI := Lib.hid hin; clear hin
                have HZZ := Lib.hid hzz; clear hzz
                obtain ⟨c0, c1, c2⟩ := (st.box 0 (w.heap.size, [.int .i64 (m : Int), .int .i64 (N : Int), .slice (some ⟨g, off, none⟩) m cap]) rfl).c3
                by_cases hjl : j < L
                · obtain ⟨g', off', cp', u, hv, hr⟩ := (st.rw 0 ⟨o, lo, hi, .slice (some ⟨g, off, none⟩) m cap, m, ln, F⟩ rfl).at (show 0 < m by omega)
                  dsimp only at hv hr
                  obtain ⟨rfl, rfl, rfl⟩ : g = g' ∧ off = off' ∧ cap = cp' := by cases hv; exact ⟨rfl, rfl, rfl⟩
                  have ck := hr.head hlt
                  obtain ⟨g1, o1, k1, hu, _, _, _, _, hc1, _⟩ := (hr.row hlt).at (show 0 < ln k by omega)
                  have d1 := hc1 j (by omega)
                  rw [hu, hlen] at ck
                  have BB := st.1
                  by_cases hrng : -1000000000 ≤ F k j ∧ F k j ≤ 1000000000
                  · by_cases hk0 : k = 0
                    · have hkb : ((k : Int) == 0) = true := by rw [hk0]; rfl
                      have HK0 := Lib.hid hk0
                      have c00 := hr.head (show 0 < m by omega)
                      rw [Nat.add_zero] at c00
                      have hl0 : ln 0 = L := by rw [← hk0]; exact hlen
                      obtain ⟨g2, o2, k2, hu2, _, _, _, _, hc2, _⟩ := (hr.row (show 0 < m by omega)).at (show 0 < ln 0 by omega)
                      have d2 := hc2 j (by omega)
                      rw [hu2, hl0] at c00
                      have hmI : (0 : Int) < (m : Int) := by omega
                      have hjI : (j : Int) < (L : Int) := by omega
                      by_cases hzr : F 0 j = 0
                      · have HF0 := Lib.hid hzr
                        have HRN := Lib.hid hrng
                        rw [hzr] at d2
                        clear hu hu2 hv hr hc1 hc2 hzr hl0 hk0
                        go_wp2_with fail
                        refine (l01In_yes _ _ _ _ (by omega) (by omega)).mono ?_
                        rintro e w2 ⟨rfl, rfl⟩
                        clear hrng
                        go_wp2
                        go_roundw
                        case rel =>
                          refine ⟨j + 1, by omega, by go_num, st, fun t ht => ?_, fun h0 t ht => ?_⟩
                          · by_cases e : t = j
                            · subst e; exact HRN.out
                            · exact HI.out t (by omega)
                          · by_cases e : t = j
                            · subst e; exact HF0.out
                            · exact HZZ.out h0 t (by omega)
                        case measure => simp [intOf]; omega
                      · have hne : (F 0 j != 0) = true := by simpa using hzr
                        have HG := Lib.hid (gsB_no (fun h : GsP (m : Int) (N : Int) m ln F => hzr (h.2.2.2 j (by omega))))
                        clear hu hu2 hv hr hc1 hc2 hzr hl0 hk0
                        go_wp2_with fail
                        refine (l01In_yes _ _ _ _ (by omega) (by omega)).mono ?_
                        rintro e w2 ⟨rfl, rfl⟩
                        go_wp2
                        go_ret
                        exact ⟨by rw [HG.out]; rfl, BB⟩
                    · have hkI : ¬ (k : Int) = 0 := by omega
                      have HK0 := Lib.hid hk0
                      have HRN := Lib.hid hrng
                      clear hu hv hr hc1 hk0
                      go_wp2_with fail
                      refine (l01In_yes _ _ _ _ (by omega) (by omega)).mono ?_
                      rintro e w2 ⟨rfl, rfl⟩
                      clear hrng
                      go_wp2
                      go_roundw
                      case rel =>
                        refine ⟨j + 1, by omega, by go_num, st, fun t ht => ?_, fun h => absurd h HK0.out⟩
                        by_cases e : t = j
                        · subst e; exact HRN.out
                        · exact HI.out t (by omega)
                      case measure => simp [intOf]; omega
                  · have HG := Lib.hid (gsB_no (fun h : GsP (m : Int) (N : Int) m ln F => hrng ((h.2.2.1 k hlt).2.2.2 j (by omega))))
                    have HRN := Lib.hid (show F k j < -1000000000 ∨ 1000000000 < F k j by omega)
                    clear hu hv hr hc1 hrng
                    go_wp2_with fail
                    refine (l01In_no _ _ _ _ HRN.out).mono ?_
                    rintro e w2 ⟨rfl, rfl⟩
                    go_wp2
                    go_ret
                    exact ⟨by rw [HG.out]; rfl, BB⟩
                · obtain rfl : j = L := by omega
                  have hc : CyP (N : Int) (ln k) (F k) := ⟨by omega, by omega, by rw [HL.out]; exact hlen, fun t ht => HI.out t (by omega)⟩
                  have HC := Lib.hid hc
                  clear hc
                  go_wp2
                  go_roundw
                  case rel =>
                    refine ⟨k + 1, by omega, by go_num, st, fun i hi => ?_, fun _ t ht => ?_⟩
                    · by_cases e : i = k
                      · subst e; exact HC.out
                      · exact HA.out i (by omega)
                    · by_cases e : k = 0
                      · subst e; exact HZZ.out rfl t (by omega)
                      · exact HZ.out (by omega) t ht
                  case measure => simp [intOf]; omega
            · have hlI : ¬ (ln k : Int) = (L : Int) := by omega
              have HG := Lib.hid (gsB_no (fun h : GsP (m : Int) (N : Int) m ln F => hlen ((h.2.2.1 k hlt).2.2.1.trans HL.out)))
              have BB := st.1
              clear hu hv hr
              go_wp2
              go_ret
              exact ⟨by rw [HG.out]; rfl, BB⟩
          · obtain rfl : k = m := by omega
            have HG := Lib.hid (gsB_yes (show GsP (k : Int) (N : Int) k ln F from ⟨hp, rfl, HA.out, HZ.out (by omega)⟩))
            have BB := st.1
            go_wp2
            go_ret
            exact ⟨by rw [HG.out]; rfl, BB⟩
      · have hne : ¬ (m : Int) = (P : Int) := by omega
        have HG := Lib.hid (gsB_no (fun h : GsP (P : Int) (N : Int) m ln F => hne h.2.1))
        have BB := st1.1
        go_wp2_with fail
        refine (l01In_yes _ _ _ _ (by omega) (by omega)).mono ?_
        rintro e w2 ⟨rfl, rfl⟩
        go_wp2
        go_ret
        exact ⟨by rw [HG.out]; rfl, BB⟩
    · have HN := Lib.hid (show y < 1 ∨ 16 < y by omega)
      have HG := Lib.hid (gsB_no (fun h : GsP (P : Int) y m ln F => by
        have h0 := h.2.2.1 0 (by have := h.2.1; omega)
        exact hy ⟨h0.1, h0.2.1⟩))
      have BB := st1.1
      clear hy
      go_wp2_with fail
      refine (l01In_no _ _ _ _ HN.out).mono ?_
      rintro e w2 ⟨rfl, rfl⟩
      go_wp2
      go_ret
      exact ⟨by rw [HG.out]; rfl, BB⟩
  · obtain ⟨c0, c1, c2⟩ := (st0.box 0 (w.heap.size, [.int .i64 x, .int .i64 y, .slice a m cap]) rfl).c3
    have HP := Lib.hid hp; clear hp
    go_wp2_with fail
    refine (l03Prime_no x HP.out _).mono ?_
    rintro e w1 ⟨rfl, d, rfl⟩
    go_wp2
    go_ret
    exact ⟨by rw [gsB_no (fun h => HP.out h.1)]; rfl, (st0.drewN d).1⟩

theorem IsGauss_spec_any (x y : Int) (w : World) (hs : Rw o w lo hi V m ln F) :
    Calls Try.prog 18 #[.agg #[.int .i64 x, .int .i64 y, V]] w fun e w' => e = .returned (.bool (gsB x y m ln F)) ∧ Below w.heap.size w w' := by
  obtain ⟨a, cap, rfl⟩ := hs.shape
  have HS := Lib.hid hs; clear hs
  go_enter Try.func18, Try.ntmps18
  go_wp2_with fail
  refine (l05Is_any _ _ _ (HS.out.alloc _)).mono ?_
  rintro e w1 ⟨rfl, b1⟩
  go_wp2
  go_ret
  exact ⟨rfl, ((Below.refl w.heap.size w).alloc (Nat.le_refl _) _).trans (b1.mono (by simp))⟩
end
theorem failG_form {fn : FuncId} {args : Array Value} {w : World} {c : Int} {ln : Nat → Nat} {F : Nat → Nat → Int} (h : Calls Try.prog fn args w fun e w' => e = .returned (failG c) ∧ Below w.heap.size w w') :
    Calls Try.prog fn args w fun e w' => ∃ a' k', e = .returned (.tuple #[.agg #[.int .i64 0, .int .i64 0, .slice a' 0 k'], .int .i64 c]) ∧ Rw true w' w.heap.size w'.heap.size (.slice a' 0 k') 0 ln F ∧ Below w.heap.size w w' :=
  h.mono fun e w' ⟨he, hb⟩ => ⟨none, 0, he, Rw.nil _ _ _ (Nat.le_refl _) _ _, hb⟩
end Go.Proofs.Ythmhjnholhiohaa
