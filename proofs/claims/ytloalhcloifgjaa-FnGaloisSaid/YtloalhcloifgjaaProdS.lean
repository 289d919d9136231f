/- Products of images: l02Product of the model. -/
import Derived.Test.YtloalhcloifgjaaProdI
import Derived.Test.YtloalhcloifgjaaTimes
import Derived.Test.YtloalhcloifgjaaPowSpec
import Derived.Deep.RegionLaw
namespace Go.Proofs.Ytloalhcloifgjaa
open Go.RowKit Go.ChangeShapes Go.Sort
set_option linter.unusedVariables false
set_option linter.unusedSimpArgs false

theorem powIx_zero : ∀ n, n < 17 → 1 ≤ n → powIx n 0 = 0 := by decide +kernel
theorem one_red {n : Nat} (hn : n < 17) (h1 : 1 ≤ n) {j : Nat} (hj : j < phiN n) : redP n (unit (powIx n 0)) j = one0 j := by
  have hp := phi_le12 n (by omega) h1
  have e : redZ n (unit 0) j = one0 j := by
    rw [tb_eq hn h1 (by omega) hj, tab_unit n hn h1 0 (phi_pos n hn h1) j hj]
    unfold one0
    by_cases h : j = 0
    · rw [if_pos h, if_pos h.symm]
    · rw [if_neg h, if_neg (fun h' => h h'.symm)]
  rw [powIx_zero n hn h1, redP_exact hn h1 (P' := unit 0) (fun k _ => (wrap_inR (by unfold unit inR; split <;> omega)).symm) (by omega) (by rw [e]; unfold one0 inR; split <;> omega), e]

section
variable {o : Bool} {lo hi L : Nat} {v : Value} {f : Nat → Int}
set_option maxRecDepth 100000 in
set_option maxHeartbeats 4000000 in
theorem l02Product_any (n : Nat) (s : Nat) (w : World) (hs : Sl o w lo hi v L f) (h : CyP n L f) (hsn : s ≤ phiN n) :
    Calls Try.prog 233 #[.agg #[.int .i64 (n : Int), v], .int .i64 (s : Int)] w fun e w' => ((prOk n L f s (phiN n - s) ∧ ∃ a' cap', e = .returned (.tuple #[.agg #[.int .i64 (n : Int), .slice a' (phiN n) cap'], .bool true]) ∧ Sl true w' w.heap.size w'.heap.size (.slice a' (phiN n) cap') (phiN n) (prI n L f s (phiN n - s))) ∨ (¬ prOk n L f s (phiN n - s) ∧ e = .returned (.tuple #[.agg #[.int .i64 0, .slice none 0 0], .bool false]))) ∧ Below w.heap.size w w' := by
  obtain ⟨av, cap, rfl⟩ := hs.shape
  have hn1 : 1 ≤ n := by have := h.1; omega
  have hn2 : n ≤ 16 := by have := h.2.1; omega
  have hp := phi_le12 n hn2 hn1
  have hp0 := phiN_pos n (by omega) hn1
  have hL : L ≤ 12 := by have e : L = phiN n := h.2.2.1; omega
  have hhs := hs.size
  have HIM := Lib.hid (fun k => im_big (n := n) (L := L) (f := f) (by omega) hn1 h.2.2.2 hL k)
  have st0 := ((((St.start w).addSl ⟨o, lo, hi, .slice av L cap, L, f⟩ hs).alloc (.cells #[.int .i64 (n : Int), .slice av L cap] 26)).addBox w.heap.size [.int .i64 (n : Int), .slice av L cap] (Box.made _ _ _ _ (fun j v h => by simpa using h)))
  replace st0 := st0.boxNew (.int .i64 0) (.slice none 0 0) 26
  simp only [World.size_alloc] at st0
  have q0 := st0.sl 0 ⟨o, lo, hi, .slice av L cap, L, f⟩ rfl
  dsimp only at q0
  clear h hs
  go_enter Try.func233, Try.ntmps233
  go_wp2_with fail
  refine (l02Images_any n hn1 hn2 _ q0 (by omega)).mono ?_
  rintro e w2 ⟨g, cap2, g2, cap3, vs, rfl, r2, s2, n2, hne, b2⟩
  have hz2 := b2.size
  simp only [World.size_alloc] at hz2 r2 s2
  have st2 := st0.keep b2
  clear st0 b2 n2 q0
  obtain ⟨x0, x1⟩ := (st2.box 1 (w.heap.size, [.int .i64 (n : Int), .slice av L cap]) rfl).cell2
  go_wp2_with fail
  refine (l01One_any n _ hn1 hn2).mono ?_
  rintro e w3 ⟨a3, k3, rfl, s3, b3⟩
  have hz3 := b3.size
  have HS3 := Lib.hid ((s3.congr (f' := prI n L f s 0) (fun j hj => (one_red (by omega) hn1 hj).symm)).alloc (.cells #[.int .i64 (n : Int), .slice a3 (phiN n) k3] 26))
  have R3 := Lib.hid ((r2.keep b3 (Nat.le_refl _)).alloc (.cells #[.int .i64 (n : Int), .slice a3 (phiN n) k3] 26))
  have SS3 := Lib.hid ((s2.keep b3 (Nat.le_refl _)).alloc (.cells #[.int .i64 (n : Int), .slice a3 (phiN n) k3] 26))
  have ST3 := Lib.hid ((st2.keep b3).boxNew (.int .i64 (n : Int)) (.slice a3 (phiN n) k3) 26)
  have hg3 : g < w3.heap.size := by have := r2.lt.2; omega
  have HLO := Lib.hid (show ∀ i, i < phiN n → ∃ lo1 hi1, hi1 ≤ w3.heap.size ∧ Sl true w3 lo1 hi1 (vs i) (phiN n) (im n L f i) from fun i hi => by
    obtain ⟨lo1, hi1, _, _, _, q⟩ := s2 i hi
    have := q.size
    exact ⟨lo1, hi1, by omega, q.keep b3 q.size⟩)
  clear st2 b3 s3 r2 s2 x0 x1
  go_wp2
  go_loopw [9] (fun s9 wr => ∃ k i : Nat, k = s + i ∧ k ≤ phiN n ∧ s9 = .int .i64 k ∧ prOk n L f s i ∧ RowE wr (w.heap.size + 1 + 1) 26 2 g cap2 (phiN n) (fun k => [.int .i64 (n : Int), vs k]) ∧
      (∀ i, i < phiN n → ∃ lo1 hi1, hi1 ≤ w3.heap.size ∧ Sl true wr lo1 hi1 (vs i) (phiN n) (im n L f i)) ∧
      ∃ (lo6 hi6 : Nat) (a6 : Option Addr) (k6 : Nat), w.heap.size + 2 ≤ lo6 ∧ (w3.heap.size < lo6 ∨ hi6 ≤ w3.heap.size) ∧ Sl true wr lo6 hi6 (.slice a6 (phiN n) k6) (phiN n) (prI n L f s i) ∧ St w wr [(w3.heap.size, [.int .i64 (n : Int), .slice a6 (phiN n) k6]), (w.heap.size + 1, [.int .i64 0, .slice none 0 0]), (w.heap.size, [.int .i64 (n : Int), .slice av L cap])] [⟨o, lo, hi, .slice av L cap, L, f⟩]) (fun s9 _ => phiN n - (intOf s9).toNat)
  case atStart => exact ⟨s, 0, rfl, hsn, rfl, prOk_zero _ _ _ _, R3.out, fun i hi => by
      obtain ⟨l, h, q1, q2⟩ := HLO.out i hi
      exact ⟨l, h, q1, q2.alloc _⟩, _, _, a3, k3, by omega, .inr (Nat.le_refl _), HS3.out, ST3.out⟩
  case round =>
    clear HS3 R3 SS3 ST3 HLO
    obtain ⟨k, i, hki, hk, rfl, hok, hrow, hsl, lo6, hi6, a6, k6, hl6, hd6, hown, hst6⟩ := hrel
    have R1 := Lib.hid hrow; clear hrow
    have HO := Lib.hid hown; clear hown
    have HT := Lib.hid hst6; clear hst6
    have HOK := Lib.hid hok; clear hok
    have SL := Lib.hid hsl; clear hsl
    have HKI := Lib.hid hki; clear hki
    obtain ⟨p0, p1⟩ := (HT.out.box 0 (w3.heap.size, [.int .i64 (n : Int), .slice a6 (phiN n) k6]) rfl).cell2
    have pz := (HT.out.box 0 (w3.heap.size, [.int .i64 (n : Int), .slice a6 (phiN n) k6]) rfl).2.2
    have pl := (HT.out.box 0 (w3.heap.size, [.int .i64 (n : Int), .slice a6 (phiN n) k6]) rfl).1
    dsimp only at pz pl
    have hgl := R1.out.lt.2
    by_cases hlt : k < phiN n
    · have hk2 : (k : Int) < (phiN n : Int) := by omega
      have e0 := R1.out.cell (fun _ => rfl) (i := k) (j := 0) hlt (by omega)
      have e1 := R1.out.cell (fun _ => rfl) (i := k) (j := 1) hlt (by omega)
      simp only [Nat.add_zero, List.getElem?_cons_zero, List.getElem?_cons_succ] at e0 e1
      obtain ⟨lo1, hi1, hh1, hv⟩ := SL.out k hlt
      have HTA := Lib.hid (HT.out.boxNew (.int .i64 0) (.slice none 0 0) 26)
      have HPW := Lib.hid (l01Times_any n hn1 hn2 wr.drew HO.out.drew hv.drew (Within.big (prI_within HOK.out)) (HIM.out k) hp0 hp)
      have HPA := Lib.hid (l01Times_any n hn1 hn2 (wr.alloc (.cells #[.int .i64 0, .slice none 0 0] 26)).drew (HO.out.alloc _).drew (hv.alloc _).drew (Within.big (prI_within HOK.out)) (HIM.out k) hp0 hp)
      have HPE := Lib.hid (show prodZ n (phiN n) (prI n L f s i) (im n L f k) = prI n L f s (i + 1) from by rw [HKI.out]; rfl)
      rw [HPE.out] at HPW HPA
      clear hv
      go_wp2_with fail
      go_region_law (first
          | (go_simp; go_at_call 131; refine HPW.out.mono ?_; rintro e w4 ⟨a4, k4, b4', rfl, hb4, s4, b4⟩
             have hz4 := b4.size
             have st4 := ((HT.out.drew.keep b4).alloc (.cells #[.int .i64 (n : Int), .slice a4 (phiN n) k4] 26)).addBox w4.heap.size [.int .i64 (n : Int), .slice a4 (phiN n) k4] (Box.made2 rfl)
             have r4 := (((R1.out.drewN 1).keep b4 (Nat.le_refl _)).alloc (.cells #[.int .i64 (n : Int), .slice a4 (phiN n) k4] 26))
             have l4 := Lib.hid (fun i hi => show ∃ lo1 hi1, hi1 ≤ w3.heap.size ∧ Sl true (w4.alloc (.cells #[.int .i64 (n : Int), .slice a4 (phiN n) k4] 26)) lo1 hi1 (vs i) (phiN n) (im n L f i) from by
               obtain ⟨l, h, q1, q2⟩ := SL.out i hi
               exact ⟨l, h, q1, (q2.drew.keep b4 (by show h ≤ wr.heap.size; omega)).alloc _⟩)
             have S4 := Lib.hid (fun hb => (s4 hb).alloc (.cells #[.int .i64 (n : Int), .slice a4 (phiN n) k4] 26))
             have ST4 := Lib.hid st4
             have R4 := Lib.hid r4
             have HB4 := Lib.hid hb4
             obtain ⟨t0, t1⟩ := (st4.box 0 (w4.heap.size, [.int .i64 (n : Int), .slice a4 (phiN n) k4]) rfl).cell2
             clear s4 b4 st4 r4 hb4 HPW HPA)
          | (go_simp; go_at_call 131; refine HPA.out.mono ?_; rintro e w4 ⟨a4, k4, b4', rfl, hb4, s4, b4⟩
             have hz4 := b4.size
             have st4 := HTA.out.drew.keep b4
             obtain ⟨q0, q1⟩ := (st4.box 0 (wr.heap.size, [.int .i64 0, .slice none 0 0]) rfl).cell2
             have qz := (st4.box 0 (wr.heap.size, [.int .i64 0, .slice none 0 0]) rfl).2.2
             dsimp only at qz))
      all_goals first
        | (
          skip
          have PB := (ST4.out.box 1 (w3.heap.size, [.int .i64 (n : Int), .slice a6 (phiN n) k6]) rfl)
          have p0' := PB.cell2.1
          have p1' := PB.cell2.2
          have pz' := PB.2.2
          dsimp only at pz'
          clear PB
          cases b4' with
          | false =>
            have HN := Lib.hid (show ¬ prOk n L f s (phiN n - s) from fun h => by
              have := HB4.out.2 (h i (by have := HKI.out; omega))
              cases this)
            obtain ⟨d0, d1⟩ := (ST4.out.box 2 (w.heap.size + 1, [.int .i64 0, .slice none 0 0]) rfl).cell2
            have dz := (ST4.out.box 2 (w.heap.size + 1, [.int .i64 0, .slice none 0 0]) rfl).2.2
            have BB := ST4.out.1
            dsimp only at dz
            clear ST4 R4 l4 S4
            go_wp2
            refine bodyPost_ret (v := .tuple #[.agg #[.int .i64 0, .slice none 0 0], .bool false]) (by simp [results, Try.results233, go_sem, d0, d1]) rfl ?_
            exact ⟨.inr ⟨HN.out, rfl⟩, by go_grown⟩
          | true =>
            have HN := Lib.hid (prOk_succ HOK.out (HB4.out.1 rfl))
            have STN := Lib.hid (ST4.out.tailB.boxSet (u0 := .int .i64 (n : Int)) (u1 := .slice a4 (phiN n) k4) (by omega) (by intro b hb; simp only [List.mem_cons, List.not_mem_nil, or_false] at hb; rcases hb with rfl | rfl <;> dsimp only <;> omega) (by intro s hs'; simp only [List.mem_cons, List.not_mem_nil, or_false] at hs'; rcases hs' with rfl <;> dsimp only <;> omega))
            have RN := Lib.hid (R4.out.keepF (((Frame.refl w3.heap.size (w3.heap.size + 1) (w4.alloc (.cells #[.int .i64 (n : Int), .slice a4 (phiN n) k4] 26))).setCell (Nat.le_refl _) (Nat.lt_succ_self _) (.int .i64 (n : Int)) (p := ⟨w3.heap.size, 0, none⟩)).setCell (Nat.le_refl _) (Nat.lt_succ_self _) (.slice a4 (phiN n) k4) (p := ⟨w3.heap.size, 1, none⟩)) (by omega))
            have SN := Lib.hid (((S4.out rfl).setOther (p := ⟨w3.heap.size, 0, none⟩) (.inl (by show w3.heap.size < wr.drew.heap.size; exact pl)) (.int .i64 (n : Int))).setOther (p := ⟨w3.heap.size, 1, none⟩) (.inl (by show w3.heap.size < wr.drew.heap.size; exact pl)) (.slice a4 (phiN n) k4))
            have LN := Lib.hid (fun i hi => show ∃ lo1 hi1, hi1 ≤ w3.heap.size ∧ Sl true (((w4.alloc (.cells #[.int .i64 (n : Int), .slice a4 (phiN n) k4] 26)).setCell ⟨w3.heap.size, 0, none⟩ (.int .i64 (n : Int))).setCell ⟨w3.heap.size, 1, none⟩ (.slice a4 (phiN n) k4)) lo1 hi1 (vs i) (phiN n) (im n L f i) from by
              obtain ⟨l, h, q1, q2⟩ := l4.out i hi
              exact ⟨l, h, q1, (q2.setOther (.inr q1) _).setOther (.inr q1) _⟩)
            clear ST4 R4 l4 S4
            go_wp2
            go_roundw
            case rel =>
              exact ⟨k + 1, i + 1, by have := HKI.out; omega, by omega, by go_num, HN.out, RN.out, LN.out, _, _, a4, k4, (by show w.heap.size + 2 ≤ wr.heap.size; omega), .inl pl, SN.out, STN.out⟩
            case measure => simp [intOf] <;> omega )
        | (
          skip
          have ST4 := Lib.hid ((st4.tailB.set2 (b := wr.heap.size) (i := 0) (j := 1) (u := .int .i64 (n : Int)) (v := .slice a4 (phiN n) k4) (by omega) (by intro b hb; simp only [List.mem_cons, List.not_mem_nil, or_false] at hb; rcases hb with rfl | rfl | rfl <;> dsimp only <;> omega) (by intro s hs'; simp only [List.mem_cons, List.not_mem_nil, or_false] at hs'; rcases hs' with rfl <;> dsimp only <;> omega)).addBox wr.heap.size [.int .i64 (n : Int), .slice a4 (phiN n) k4] ((st4.box 0 (wr.heap.size, [.int .i64 0, .slice none 0 0]) rfl).set2))
          have R4 := Lib.hid ((((R1.out.alloc (.cells #[.int .i64 0, .slice none 0 0] 26)).drewN 1).keep b4 (Nat.le_refl _)).keepF (((Frame.refl wr.heap.size (wr.heap.size + 1) w4).setCell (Nat.le_refl _) (Nat.lt_succ_self _) (.int .i64 (n : Int)) (p := ⟨wr.heap.size, 0, none⟩)).setCell (Nat.le_refl _) (Nat.lt_succ_self _) (.slice a4 (phiN n) k4) (p := ⟨wr.heap.size, 1, none⟩)) (by omega))
          have l4 := Lib.hid (fun i hi => show ∃ lo1 hi1, hi1 ≤ w3.heap.size ∧ Sl true ((w4.setCell ⟨wr.heap.size, 0, none⟩ (.int .i64 (n : Int))).setCell ⟨wr.heap.size, 1, none⟩ (.slice a4 (phiN n) k4)) lo1 hi1 (vs i) (phiN n) (im n L f i) from by
            obtain ⟨l, h, q1, q2⟩ := SL.out i hi
            exact ⟨l, h, q1, ((((q2.alloc (.cells #[.int .i64 0, .slice none 0 0] 26)).drew.keep b4 (by show h ≤ (wr.alloc _).heap.size; rw [World.size_alloc]; omega)).setOther (.inr (by show h ≤ wr.heap.size; omega)) _).setOther (.inr (by show h ≤ wr.heap.size; omega)) _)⟩)
          have S4 := Lib.hid (fun hb => ((s4 hb).setOther (p := ⟨wr.heap.size, 0, none⟩) (.inl (by show wr.heap.size < (wr.alloc _).heap.size; rw [World.size_alloc]; omega)) (.int .i64 (n : Int))).setOther (p := ⟨wr.heap.size, 1, none⟩) (.inl (by show wr.heap.size < (wr.alloc _).heap.size; rw [World.size_alloc]; omega)) (.slice a4 (phiN n) k4))
          have HB4 := Lib.hid hb4
          obtain ⟨t0, t1⟩ := (ST4.out.box 0 (wr.heap.size, [.int .i64 (n : Int), .slice a4 (phiN n) k4]) rfl).cell2
          have hw4 : wr.heap.size + 1 ≤ w4.heap.size := by have := hz4; simp only [World.size_drew, World.size_alloc] at this; omega
          clear s4 b4 st4 hb4 HPW HPA q0 q1 qz
          have PB := (ST4.out.box 1 (w3.heap.size, [.int .i64 (n : Int), .slice a6 (phiN n) k6]) rfl)
          have p0' := PB.cell2.1
          have p1' := PB.cell2.2
          have pz' := PB.2.2
          dsimp only at pz'
          clear PB
          cases b4' with
          | false =>
            have HN := Lib.hid (show ¬ prOk n L f s (phiN n - s) from fun h => by
              have := HB4.out.2 (h i (by have := HKI.out; omega))
              cases this)
            obtain ⟨d0, d1⟩ := (ST4.out.box 2 (w.heap.size + 1, [.int .i64 0, .slice none 0 0]) rfl).cell2
            have dz := (ST4.out.box 2 (w.heap.size + 1, [.int .i64 0, .slice none 0 0]) rfl).2.2
            have BB := ST4.out.1
            dsimp only at dz
            clear ST4 R4 l4 S4
            go_wp2
            refine bodyPost_ret (v := .tuple #[.agg #[.int .i64 0, .slice none 0 0], .bool false]) (by simp [results, Try.results233, go_sem, d0, d1]) rfl ?_
            exact ⟨.inr ⟨HN.out, rfl⟩, by go_grown⟩
          | true =>
            have HN := Lib.hid (prOk_succ HOK.out (HB4.out.1 rfl))
            have STN := Lib.hid (ST4.out.tailB.boxSet (u0 := .int .i64 (n : Int)) (u1 := .slice a4 (phiN n) k4) (by omega) (by intro b hb; simp only [List.mem_cons, List.not_mem_nil, or_false] at hb; rcases hb with rfl | rfl <;> dsimp only <;> omega) (by intro s hs'; simp only [List.mem_cons, List.not_mem_nil, or_false] at hs'; rcases hs' with rfl <;> dsimp only <;> omega))
            have RN := Lib.hid (R4.out.keepF (((Frame.refl w3.heap.size (w3.heap.size + 1) ((w4.setCell ⟨wr.heap.size, 0, none⟩ (.int .i64 (n : Int))).setCell ⟨wr.heap.size, 1, none⟩ (.slice a4 (phiN n) k4))).setCell (Nat.le_refl _) (Nat.lt_succ_self _) (.int .i64 (n : Int)) (p := ⟨w3.heap.size, 0, none⟩)).setCell (Nat.le_refl _) (Nat.lt_succ_self _) (.slice a4 (phiN n) k4) (p := ⟨w3.heap.size, 1, none⟩)) (by omega))
            have SN := Lib.hid (((S4.out rfl).setOther (p := ⟨w3.heap.size, 0, none⟩) (.inl (by show w3.heap.size < (wr.alloc _).heap.size; rw [World.size_alloc]; omega)) (.int .i64 (n : Int))).setOther (p := ⟨w3.heap.size, 1, none⟩) (.inl (by show w3.heap.size < (wr.alloc _).heap.size; rw [World.size_alloc]; omega)) (.slice a4 (phiN n) k4))
            have LN := Lib.hid (fun i hi => show ∃ lo1 hi1, hi1 ≤ w3.heap.size ∧ Sl true ((((w4.setCell ⟨wr.heap.size, 0, none⟩ (.int .i64 (n : Int))).setCell ⟨wr.heap.size, 1, none⟩ (.slice a4 (phiN n) k4)).setCell ⟨w3.heap.size, 0, none⟩ (.int .i64 (n : Int))).setCell ⟨w3.heap.size, 1, none⟩ (.slice a4 (phiN n) k4)) lo1 hi1 (vs i) (phiN n) (im n L f i) from by
              obtain ⟨l, h, q1, q2⟩ := l4.out i hi
              exact ⟨l, h, q1, (q2.setOther (.inr q1) _).setOther (.inr q1) _⟩)
            clear ST4 R4 l4 S4
            go_wp2
            go_roundw
            case rel =>
              exact ⟨k + 1, i + 1, by have := HKI.out; omega, by omega, by go_num, HN.out, RN.out, LN.out, _, _, a4, k4, (by show w.heap.size + 2 ≤ (wr.alloc _).heap.size; rw [World.size_alloc]; omega), (by left; show w3.heap.size < (wr.alloc _).heap.size; rw [World.size_alloc]; omega), SN.out, STN.out⟩
            case measure => simp [intOf] <;> omega )
    · obtain rfl : k = phiN n := by omega
      obtain ⟨d0, d1⟩ := (HT.out.box 1 (w.heap.size + 1, [.int .i64 0, .slice none 0 0]) rfl).cell2
      have dz := (HT.out.box 1 (w.heap.size + 1, [.int .i64 0, .slice none 0 0]) rfl).2.2
      have BB := HT.out.1
      have HIS := Lib.hid (show phiN n - s = i from by have := HKI.out; omega)
      dsimp only at dz
      clear HT
      go_wp2
      refine bodyPost_ret (v := .tuple #[.agg #[.int .i64 (n : Int), .slice a6 (phiN n) k6], .bool true]) (by simp [results, Try.results233, go_sem, d0, d1]) rfl ?_
      refine ⟨.inl ⟨by rw [HIS.out]; exact HOK.out, _, _, rfl, ?_⟩, by go_grown⟩
      rw [HIS.out]
      exact ((HO.out.setOther (.inl (by show w.heap.size + 1 < _; omega)) _).setOther (.inl (by show w.heap.size + 1 < _; omega)) _).wide (by omega) (by simpa using HO.out.size) (Nat.le_refl _)
end
end Go.Proofs.Ytloalhcloifgjaa
