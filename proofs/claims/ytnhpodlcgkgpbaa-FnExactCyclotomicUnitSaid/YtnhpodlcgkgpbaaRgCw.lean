/- CyclotomicUnit of the model. -/
import Derived.Test.YtnhpodlcgkgpbaaRgCv
namespace Go.Proofs.Ytnhpodlcgkgpbaa
open Go.RowKit Go.ChangeShapes Go.Sort
set_option linter.unusedVariables false
set_option linter.unusedSimpArgs false
set_option maxRecDepth 100000
set_option maxHeartbeats 4000000
theorem CyclotomicUnit_spec_no (n a : Int) (h : ¬ cuOk n a) (w : World) :
    Calls Try.prog 67 #[.int .i64 n, .int .i64 a] w fun e w' => e = .returned (failV 2) ∧ Below w.heap.size w w' := by
  have st0 := (St.start w).boxNew (.int .i64 0) (.slice none 0 0) 24
  by_cases h2 : 2 ≤ n ∧ n ≤ 16
  · obtain ⟨h2, h16⟩ := h2
    by_cases ha : 1 ≤ a ∧ a ≤ n
    · obtain ⟨h1, ha⟩ := ha
      have hg : ¬ gcdI a n = 1 := fun e => h ⟨h2, h16, h1, by
        by_cases e2 : a = n
        · exfalso
          subst e2
          unfold gcdI at e
          rw [Nat.gcd_self] at e
          omega
        · omega, e⟩
      have hgb : (gcdI a n != 1) = true := by rw [bne_iff_ne]; exact hg
      clear h hg
      obtain ⟨x0, x1⟩ := (st0.box 0 (w.heap.size, [.int .i64 0, .slice none 0 0]) rfl).cell2
      have xz := (st0.box 0 (w.heap.size, [.int .i64 0, .slice none 0 0]) rfl).2.2
      dsimp only at x0 x1 xz
      have BB := st0.1
      go_enter Try.func67, Try.ntmps67
      go_wp2_with (first | (go_at_call 101; refine (l01In_yes _ _ _ _ (by omega) (by omega)).mono ?_; rintro e w' ⟨rfl, rfl⟩) | (go_at_call 124; refine (l01Gcd_any _ _ _ (by omega) (by omega) (by omega) (by omega)).mono ?_; rintro e w' ⟨rfl, rfl⟩))
      refine bodyPost_ret (v := failV 2) (by simp [results, Try.results67, go_sem, failV, x0, x1]) rfl ⟨rfl, by go_grown⟩
    · have HX := Lib.hid (show a < 1 ∨ n < a by omega)
      clear h ha
      obtain ⟨x0, x1⟩ := (st0.box 0 (w.heap.size, [.int .i64 0, .slice none 0 0]) rfl).cell2
      have xz := (st0.box 0 (w.heap.size, [.int .i64 0, .slice none 0 0]) rfl).2.2
      dsimp only at x0 x1 xz
      have BB := st0.1
      go_enter Try.func67, Try.ntmps67
      go_wp2_with fail
      refine (l01In_yes _ _ _ _ (by omega) (by omega)).mono ?_
      rintro e w' ⟨rfl, rfl⟩
      go_wp2_with fail
      refine (l01In_no _ _ _ _ HX.out).mono ?_
      rintro e w' ⟨rfl, rfl⟩
      go_wp2_with fail
      refine bodyPost_ret (v := failV 2) (by simp [results, Try.results67, go_sem, failV, x0, x1]) rfl ⟨rfl, by go_grown⟩
  · have HX := Lib.hid (show n < 2 ∨ 16 < n by omega)
    clear h h2
    obtain ⟨x0, x1⟩ := (st0.box 0 (w.heap.size, [.int .i64 0, .slice none 0 0]) rfl).cell2
    have xz := (st0.box 0 (w.heap.size, [.int .i64 0, .slice none 0 0]) rfl).2.2
    dsimp only at x0 x1 xz
    have BB := st0.1
    go_enter Try.func67, Try.ntmps67
    go_wp2_with (first | (go_at_call 101; refine (l01In_no _ _ _ _ HX.out).mono ?_; rintro e w' ⟨rfl, rfl⟩))
    refine bodyPost_ret (v := failV 2) (by simp [results, Try.results67, go_sem, failV, x0, x1]) rfl ⟨rfl, by go_grown⟩
theorem CyclotomicUnit_spec_ok (n a : Nat) (h2 : 2 ≤ n) (h16 : n ≤ 16) (h1 : 1 ≤ a) (ha : a < n) (hg : Nat.gcd a n = 1) (w : World) :
    Calls Try.prog 67 #[.int .i64 (n : Int), .int .i64 (a : Int)] w fun e w' => ∃ a' k', e = .returned (.tuple #[.agg #[.int .i64 (n : Int), .slice a' (phiN n) k'], .int .i64 0]) ∧ Sl true w' w.heap.size w'.heap.size (.slice a' (phiN n) k') (phiN n) (cuF n a) ∧ Below w.heap.size w w' := by
  have hp := phi_le12 n h16 (by omega)
  have hge : gcdI (a : Int) (n : Int) = 1 := by unfold gcdI; rw [Int.toNat_natCast, Int.toNat_natCast, hg]; rfl
  have hgb : (gcdI (a : Int) (n : Int) != 1) = false := by rw [hge]; rfl
  have st0 := (St.start w).boxNew (.int .i64 0) (.slice none 0 0) 24
  clear hg hge
  go_enter Try.func67, Try.ntmps67
  go_wp2_with (first
    | (go_at_call 101; refine (l01In_yes _ _ _ _ (by omega) (by omega)).mono ?_; rintro e w' ⟨rfl, rfl⟩)
    | (go_at_call 124; refine (l01Gcd_any _ _ _ (by omega) (by omega) (by omega) (by omega)).mono ?_; rintro e w' ⟨rfl, rfl⟩)
    | (go_at_call 144; refine (l01Zero_any n (by omega) _).mono ?_; rintro e w2 ⟨a2, c2, rfl, s2, b2⟩
       have HS2 := Lib.hid ((s2.congr (f' := cuF n 0) (fun j hj => rfl)).alloc (.cells #[.int .i64 (n : Int), .slice a2 (phiN n) c2] 24))
       have ST2 := Lib.hid ((st0.keep b2).boxNew (.int .i64 (n : Int)) (.slice a2 (phiN n) c2) 24)
       have hz2 := b2.size
       have hs2 := s2.size
       try simp only [World.size_alloc] at hz2
       clear s2 b2 st0))
  go_loopw [7] (fun s7 wr => ∃ i : Nat, i ≤ a ∧ s7 = .int .i64 (i : Int) ∧ ∃ (lo6 hi6 : Nat) (a6 : Option Addr) (k6 : Nat), w.heap.size + 1 ≤ lo6 ∧ (w2.heap.size < lo6 ∨ hi6 ≤ w2.heap.size) ∧ Sl true wr lo6 hi6 (.slice a6 (phiN n) k6) (phiN n) (cuF n i) ∧ St w wr [(w2.heap.size, [.int .i64 (n : Int), .slice a6 (phiN n) k6]), (w.heap.size, [.int .i64 0, .slice none 0 0])] []) (fun s7 _ => a - (intOf s7).toNat)
  case atStart => exact ⟨0, Nat.zero_le _, rfl, _, _, a2, c2, by simp, .inr (Nat.le_refl _), HS2.out, ST2.out⟩
  case round =>
    clear HS2 ST2 hs2
    obtain ⟨i, hia, rfl, lo6, hi6, a6, k6, hl6, hd6, hown, hst6⟩ := hrel
    have HO := Lib.hid hown; clear hown
    have HT := Lib.hid hst6; clear hst6
    obtain ⟨p0, p1⟩ := (HT.out.box 0 (w2.heap.size, [.int .i64 (n : Int), .slice a6 (phiN n) k6]) rfl).cell2
    have pz := (HT.out.box 0 (w2.heap.size, [.int .i64 (n : Int), .slice a6 (phiN n) k6]) rfl).2.2
    have pl := (HT.out.box 0 (w2.heap.size, [.int .i64 (n : Int), .slice a6 (phiN n) k6]) rfl).1
    dsimp only at pz pl
    by_cases hlt : i < a
    · have hi12 : (i : Int) < (a : Int) := by omega
      have HU := Lib.hid (fun w' => l01Unit_any n (i : Int) w' (by omega) h16)
      have HUW := Lib.hid (cu_uwithin (n := n) (i := i) (by omega) (by omega) (by omega))
      have HCW := Lib.hid (cu_within (n := n) (a := i) (by omega) (by omega) (by omega))
      have hlo := HO.out.size
      go_wp2_with fail
      go_region_law (first
        | (go_simp; go_at_call 146; refine (HU.out _).mono ?_; rintro e w3 ⟨a3, k3, rfl, s3, b3⟩
           have hz3 := b3.size
           have st3 := HT.out.drew.keep b3
           have o3 := HO.out.drew.keep b3 hlo
           have HP := Lib.hid (l01Plus_any (n : Int) 1 w3 o3 s3 (by omega) (by omega) HCW.out HUW.out (by omega))
           have ST3 := Lib.hid st3
           obtain ⟨q0, q1⟩ := (st3.box 0 (w2.heap.size, [.int .i64 (n : Int), .slice a6 (phiN n) k6]) rfl).cell2
           clear s3 b3 o3 st3)
        | (go_simp; go_at_call 145; refine HP.out.mono ?_; rintro e w4 ⟨a4, k4, rfl, s4, b4⟩
           have hz4 := b4.size
           have st4 := ST3.out.keep b4
           obtain ⟨r0, r1⟩ := (st4.box 0 (w2.heap.size, [.int .i64 (n : Int), .slice a6 (phiN n) k6]) rfl).cell2
           have rz := (st4.box 0 (w2.heap.size, [.int .i64 (n : Int), .slice a6 (phiN n) k6]) rfl).2.2
           dsimp only at rz
           have S4 := Lib.hid (s4.congr (f' := cuF n (i + 1)) (fun j hj => (cu_step (n := n) (i := i) (by omega) (by omega) (by omega) hj).symm))
           have ST4 := Lib.hid (st4.boxSet (u0 := .int .i64 (n : Int)) (u1 := .slice a4 (phiN n) k4) (by omega) (by intro b hb; simp only [List.mem_cons, List.not_mem_nil, or_false] at hb; rcases hb with rfl <;> dsimp only <;> omega) (by intro s hs'; cases hs'))
           clear s4 b4 st4 HP))
      all_goals
        have S5 := Lib.hid ((S4.out.setOther (.inl (show w2.heap.size < w3.heap.size from by have := hz3; simp only [World.size_drew] at this; omega)) (.int .i64 (n : Int)) (p := ⟨w2.heap.size, 0, none⟩)).setOther (.inl (show w2.heap.size < w3.heap.size from by have := hz3; simp only [World.size_drew] at this; omega)) (.slice a4 (phiN n) k4) (p := ⟨w2.heap.size, 1, none⟩))
        clear p0 p1 pz HT HO q0 q1 r0 r1 rz S4
        go_wp2
        go_roundw
        case rel => exact ⟨i + 1, by omega, by go_num, _, _, a4, k4, by simp only [World.size_drew] at hz3; omega, .inl (by simp only [World.size_drew] at hz3; omega), S5.out, ST4.out⟩
        case measure => simp [intOf] <;> omega
    · obtain rfl : i = a := by omega
      obtain ⟨d0, d1⟩ := (HT.out.box 1 (w.heap.size, [.int .i64 0, .slice none 0 0]) rfl).cell2
      have dz := (HT.out.box 1 (w.heap.size, [.int .i64 0, .slice none 0 0]) rfl).2.2
      have BB := HT.out.1
      dsimp only at dz
      clear HT
      go_wp2
      refine bodyPost_ret (v := .tuple #[.agg #[.int .i64 (n : Int), .slice a6 (phiN n) k6], .int .i64 0]) (by simp [results, Try.results67, go_sem, d0, d1]) rfl ?_
      refine ⟨_, _, rfl, ?_, by go_grown⟩
      exact ((HO.out.setOther (.inl (by show w.heap.size < _; omega)) _).setOther (.inl (by show w.heap.size < _; omega)) _).wide (by omega) (by simpa using HO.out.size) (Nat.le_refl _)
end Go.Proofs.Ytnhpodlcgkgpbaa
