/- The polynomial with these roots: polynomialWithRoots of the program. -/
import Derived.Test.YtdalahgfpbdilaaPlr
namespace Go.Proofs.Ytdalahgfpbdilaa
open Go.RowKit Go.ChangeShapes Go.Sort
set_option linter.unusedVariables false
set_option linter.unusedSimpArgs false

set_option maxRecDepth 100000 in
set_option maxHeartbeats 4000000 in
theorem polynomialWithRoots_any (n : Nat) (h1 : 1 ≤ n) (h2 : n ≤ 16) (w : World) {base g cap t : Nat} {A : Nat → Nat → Int} (ht : t ≤ 12) (hR : RowE w base 101 12 g cap t (fun k => arrL (A k)))
    (hA : ∀ k, k < t → Within (A k) 12 12000000000) (hz : ∀ k, k < t → ∀ j, phiN n ≤ j → j < 12 → A k j = 0) :
    Calls Try.prog 126 #[.int .i64 (n : Int), .slice (some ⟨g, 0, none⟩) t cap] w fun e w' => ((plOk n A t ∧ ∃ a' k', e = .returned (.tuple #[.slice a' (t + 1) k', .int .i64 0]) ∧ Sl true w' w.heap.size w'.heap.size (.slice a' (t + 1) k') (t + 1) (fun k => plZ n A t k 0)) ∨ (¬ plOk n A t ∧ e = .returned (.tuple #[.slice none 0 0, .int .i64 3]))) ∧ Below w.heap.size w w' := by
  have hp := phi_le12 n h2 h1
  have hp0 := phiN_pos n (by omega) h1
  have HA := Lib.hid hA
  have HZ := Lib.hid hz
  have HR := Lib.hid hR
  have hgl := hR.lt
  clear hA hz hR
  have hmk2 := run_make_row' (P := Try.prog) 22 2 (.int .i64 0) 8 Try.underlying22 Try.info2 rfl .i64 .i64 (t + 1) (by omega) (by omega)
  have HMK := Lib.hid hmk2
  clear hmk2
  go_enter Try.func126, Try.ntmps126
  go_wp2_with fail
  refine (oneOf_any n h1 h2 _).mono ?_
  rintro e w1 ⟨a1, k1, rfl, s1, b1⟩
  have hz1 := b1.size
  have C1 := Lib.hid (show CL _ w1.heap.size 1 1 n (phiN n) (fun _ => .slice a1 (phiN n) k1) (plZ n A 0) [] from CL.one w1 28 n (phiN n) s1.rd)
  have R1 := Lib.hid ((HR.out.keep b1 (Nat.le_refl _)).alloc (.cells #[.int .i64 (n : Int), .slice a1 (phiN n) k1] 28))
  have B1 := Lib.hid (b1.alloc hz1 (.cells #[.int .i64 (n : Int), .slice a1 (phiN n) k1] 28))
  clear HR s1 b1
  go_wp2
  go_loopw [6, 7, 8] (fun s6 s7 s8 wr => ∃ i : Nat, i ≤ t ∧ s8 = .int .i64 (i : Int) ∧ ((plOk n A i ∧ s7 = .int .i64 0 ∧ ∃ (g' cap' : Nat) (vs : Nat → Value), s6 = .slice (some ⟨g', 0, none⟩) (i + 1) cap' ∧ CL wr g' (i + 1) (i + 1) n (phiN n) vs (plZ n A i) [] ∧ RowE wr base 101 12 g cap t (fun k => arrL (A k)) ∧ Below w.heap.size w wr) ∨ (¬ plOk n A t ∧ s7 = .int .i64 3 ∧ Below w.heap.size w wr))) (fun _ s7 s8 _ => t - (intOf s8).toNat)
  case atStart => exact ⟨0, Nat.zero_le _, rfl, .inl ⟨plOk_zero _ _, rfl, _, _, _, rfl, C1.out, R1.out, B1.out⟩⟩
  case round =>
    clear C1 R1 B1
    obtain ⟨i, hi, rfl, hr⟩ := hrel
    rcases hr with ⟨hok, rfl, g', cap', vs, rfl, hcl, hrow, hB⟩ | ⟨hbad, rfl, hB⟩
    · have C := Lib.hid hcl; clear hcl
      have R := Lib.hid hrow; clear hrow
      have BB := Lib.hid hB; clear hB
      have HOK := Lib.hid hok; clear hok
      by_cases hlt : i < t
      · have hi2 : (i : Int) < (t : Int) := by omega
        have e0 := R.out.cell (fun _ => arrL_len _) (i := i) (j := 0) hlt (by omega)
        have e1 := R.out.cell (fun _ => arrL_len _) (i := i) (j := 1) hlt (by omega)
        have e2 := R.out.cell (fun _ => arrL_len _) (i := i) (j := 2) hlt (by omega)
        have e3 := R.out.cell (fun _ => arrL_len _) (i := i) (j := 3) hlt (by omega)
        have e4 := R.out.cell (fun _ => arrL_len _) (i := i) (j := 4) hlt (by omega)
        have e5 := R.out.cell (fun _ => arrL_len _) (i := i) (j := 5) hlt (by omega)
        have e6 := R.out.cell (fun _ => arrL_len _) (i := i) (j := 6) hlt (by omega)
        have e7 := R.out.cell (fun _ => arrL_len _) (i := i) (j := 7) hlt (by omega)
        have e8 := R.out.cell (fun _ => arrL_len _) (i := i) (j := 8) hlt (by omega)
        have e9 := R.out.cell (fun _ => arrL_len _) (i := i) (j := 9) hlt (by omega)
        have e10 := R.out.cell (fun _ => arrL_len _) (i := i) (j := 10) hlt (by omega)
        have e11 := R.out.cell (fun _ => arrL_len _) (i := i) (j := 11) hlt (by omega)
        have HL := Lib.hid (listWithRoot_any n h1 h2 (i + 1) (by omega) (by omega) wr (cap := cap') C.out (HA.out i hlt) (HZ.out i hlt) (plZ_within HOK.out))
        generalize hGe : A i = AA at e0 e1 e2 e3 e4 e5 e6 e7 e8 e9 e10 e11 HL
        unfold arrV at HL
        simp only [arrL, arrC, Nat.add_zero, List.getElem?_cons_zero, List.getElem?_cons_succ] at e0 e1 e2 e3 e4 e5 e6 e7 e8 e9 e10 e11
        go_wp2_with fail
        refine HL.out.mono ?_
        subst hGe
        rintro e w2 ⟨⟨hso, g2, vs2, rfl, c2⟩ | ⟨hso, rfl⟩, b2⟩
        · have C2 := Lib.hid c2
          have R2 := Lib.hid (R.out.keep b2 (Nat.le_refl _))
          have B2 := Lib.hid (BB.out.trans (b2.mono BB.out.size))
          have HN := Lib.hid (plOk_succ HOK.out hso)
          clear c2 b2 hso e0 e1 e2 e3 e4 e5 e6 e7 e8 e9 e10 e11 HL C R
          go_wp2_with fail
          go_roundw
          case rel => exact ⟨i + 1, by omega, by go_num, .inl ⟨HN.out, rfl, g2, _, vs2, rfl, C2.out, R2.out, B2.out⟩⟩
          case measure => simp [intOf] <;> omega
        · have B2 := Lib.hid (BB.out.trans (b2.mono BB.out.size))
          have HN := Lib.hid (show ¬ plOk n A t from fun h => hso (h i hlt))
          clear b2 hso e0 e1 e2 e3 e4 e5 e6 e7 e8 e9 e10 e11 HL C R
          go_wp2_with fail
          go_roundw
          case rel => exact ⟨i + 1, by omega, by go_num, .inr ⟨HN.out, rfl, B2.out⟩⟩
          case measure => simp [intOf] <;> omega
      · obtain rfl : i = t := by omega
        obtain ⟨wp, hwp⟩ : ∃ x : World, x = wr := ⟨_, rfl⟩
        subst hwp
        have hmk : ∀ w : World, (Instr.makeSlice 22 (.int .i64 ((i : Int) + 1)) (.int .i64 ((i : Int) + 1))).run Try.prog w = .ok (.slice (some ⟨w.heap.size, 0, none⟩) (i + 1) (i + 1)) (w.alloc (.cells (madeCells #[.int .i64 0] (i + 1)) 2)) := fun w => HMK.out w
        have q0 := Lib.hid (Sl.made wp (madeCells #[.int .i64 0] (i + 1)) 2 (i + 1) (i + 1) (fun _ => 0) (Nat.le_refl _) (by unfold maxLen; omega) (fun _ _ => by simp [inR]) (fun j hj => madeCells_at _ _ _ hj))
        have c0 := Lib.hid ((C.out.more (b := wp.heap.size) (Nat.le_refl _)).alloc (.cells (madeCells #[.int .i64 0] (i + 1)) 2))
        have hgw := C.out.1
        have hzr := BB.out.size
        have bb0 := Lib.hid (BB.out.alloc BB.out.size (.cells (madeCells #[.int .i64 0] (i + 1)) 2))
        have HPW := Lib.hid (plZ_within HOK.out)
        clear C R BB HMK
        go_wp2_with fail
        go_loopw [43] (fun s43 wx => ∃ k : Nat, k ≤ i + 1 ∧ s43 = .int .i64 (k : Int) ∧ CL wx g' (i + 1) (i + 1) n (phiN n) vs (plZ n A i) [wp.heap.size] ∧ Sl true wx wp.heap.size (wp.heap.size + 1) (.slice (some ⟨wp.heap.size, 0, none⟩) (i + 1) (i + 1)) (i + 1) (fun j => if j < k then plZ n A i j 0 else 0) ∧ Below w.heap.size w wx) (fun s43 _ => i + 1 - (intOf s43).toNat)
        case atStart => exact ⟨0, Nat.zero_le _, rfl, c0.out, q0.out.congr (fun j hj => by rw [if_neg (Nat.not_lt_zero _)]), bb0.out⟩
        case round =>
          clear q0 c0 bb0 hmk
          obtain ⟨k, hk, rfl, hcl, hown, hB⟩ := hrel
          have C := Lib.hid hcl; clear hcl
          have HO := Lib.hid hown; clear hown
          have BB := Lib.hid hB; clear hB
          by_cases hlk : k < i + 1
          · have hk2 : (k : Int) < (i : Int) + 1 := by omega
            have hpi : (0 : Int) < (phiN n : Int) := by omega
            have hpn : 0 < phiN n := by omega
            have hwb : wp.heap.size < wr.heap.size := by have := HO.out.size; omega
            have hgb := C.out.1
            have d0 := C.out.c0 hlk
            have d1 := C.out.c1 hlk
            obtain ⟨l8, h8, hd8, q8⟩ := C.out.2.2.2 k hlk
            have hpb := HPW.out k hlk 0 hp0
            obtain ⟨g8, o8, c8, hv8, hl8, hg8, _, _, hc8, _⟩ := q8.at (by omega)
            rw [hv8] at d1
            have f0 := hc8 0 (by omega)
            rw [Nat.add_zero] at f0
            have u0 := (HO.out.known (by omega)).2.2.2.1 k hlk
            have uz := (HO.out.known (by omega)).2.2.2.2 rfl k
            rw [Nat.zero_add] at u0
            have hbl := World.block_lt_of_cell? _ _ f0
            have S2 := Lib.hid ((HO.out.store (i := k) (x := plZ n A i k 0) hlk (by unfold inR; omega)).alloc (.cells #[.int .i64 (n : Int), .slice (some ⟨g8, o8, none⟩) (phiN n) c8] 28))
            have C2 := Lib.hid ((C.out.setOther (b := wp.heap.size) (o := k) (by simp) (by omega) (.int .i64 (plZ n A i k 0))).alloc (.cells #[.int .i64 (n : Int), .slice (some ⟨g8, o8, none⟩) (phiN n) c8] 28))
            have B2 := Lib.hid ((BB.out.setCell (p := ⟨wp.heap.size, k, none⟩) hzr (.int .i64 (plZ n A i k 0))).alloc (by simpa [World.setCell] using BB.out.size) (.cells #[.int .i64 (n : Int), .slice (some ⟨g8, o8, none⟩) (phiN n) c8] 28))
            rw [Nat.zero_add] at S2
            clear hv8 hc8 q8 C HO BB
            dsimp only at hbl
            go_wp2_with fail
            go_roundw
            case rel => exact ⟨k + 1, by omega, by go_num, C2.out, S2.out.congr (fun j hj => by
              by_cases e : j = k
              · subst e; rw [if_pos (Nat.lt_succ_self _), if_pos rfl]
              · rw [if_neg e]
                by_cases e2 : j < k
                · rw [if_pos e2, if_pos (by omega)]
                · rw [if_neg e2, if_neg (by omega)]), B2.out⟩
            case measure => simp [intOf] <;> omega
          · obtain rfl : i + 1 = k := by omega
            go_wp2_with fail
            go_ret2
            exact ⟨.inl ⟨HOK.out, _, _, rfl, (HO.out.congr (fun j hj => by rw [if_pos hj])).wide hzr HO.out.size (Nat.le_refl _)⟩, BB.out⟩
    · have BB := Lib.hid hB; clear hB
      have HN := Lib.hid hbad; clear hbad
      by_cases hlast : i < t
      · go_wp2_with fail
        go_ret2
        exact ⟨.inr ⟨HN.out, rfl⟩, BB.out⟩
      · go_wp2_with fail
        go_ret2
        exact ⟨.inr ⟨HN.out, rfl⟩, BB.out⟩
end Go.Proofs.Ytdalahgfpbdilaa
