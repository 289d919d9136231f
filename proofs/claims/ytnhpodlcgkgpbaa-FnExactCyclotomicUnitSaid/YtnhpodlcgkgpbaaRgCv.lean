/- CyclotomicUnit of the program and of the model. -/
import Derived.Test.YtnhpodlcgkgpbaaRgCu
import Derived.Test.YtnhpodlcgkgpbaaRgRp
import Derived.Test.YtnhpodlcgkgpbaaRgCt
import Derived.Test.YtnhpodlcgkgpbaaRes
import Derived.Test.YtnhpodlcgkgpbaaRgF
import Derived.Test.YtnhpodlcgkgpbaaCycloOf
import Derived.Test.YtnhpodlcgkgpbaaPlus
import Derived.Deep.RegionLaw
namespace Go.Proofs.Ytnhpodlcgkgpbaa
open Go.RowKit Go.ChangeShapes Go.Sort
set_option linter.unusedVariables false
set_option linter.unusedSimpArgs false
set_option maxRecDepth 100000
set_option maxHeartbeats 4000000
def cuOk (n a : Int) : Prop := 2 ≤ n ∧ n ≤ 16 ∧ 1 ≤ a ∧ a < n ∧ gcdI a n = 1
instance (n a : Int) : Decidable (cuOk n a) := by unfold cuOk; infer_instance
theorem resAt {n a : Nat} (h2 : 2 ≤ n) (h16 : n ≤ 16) (h1 : 1 ≤ a) (ha : a < n) (hg : Nat.gcd a n = 1) : ∃ i, i < phiN n ∧ res n i = a ∧ ∀ j, j < i → res n j ≠ a := by
  obtain ⟨h3, h4⟩ := plR_ok (n := n) (by omega) h2 h1 ha hg
  exact ⟨plR n a, h3, h4, fun j hj e => by
    have := res_inj40 (n := n) (by omega) h2 (show j < phiN n by omega) h3 (e.trans h4.symm)
    omega⟩
theorem CyclotomicUnit_impl_ok (n a : Nat) (h2 : 2 ≤ n) (h16 : n ≤ 16) (h1 : 1 ≤ a) (ha : a < n) (hg : Nat.gcd a n = 1) (w : World) :
    Calls Try.prog 66 #[.int .i64 (n : Int), .int .i64 (a : Int)] w fun e w' => ∃ a' k', e = .returned (.tuple #[.agg #[.int .i64 (n : Int), .slice a' (phiN n) k'], .int .i64 0]) ∧ Sl true w' w.heap.size w'.heap.size (.slice a' (phiN n) k') (phiN n) (cuF n a) ∧ Below w.heap.size w w' := by
  obtain ⟨i, hi, hri, hlt⟩ := resAt h2 h16 h1 ha hg
  have hp := phi_le12 n h16 (by omega)
  have st0 := (St.start w).boxNew (.int .i64 0) (.slice none 0 0) 24
  have HCO := Lib.hid (show cycloOfOk (n : Int) a (fun _ => 1) from ⟨by omega, by omega, by omega, fun j _ => by dsimp only; omega⟩)
  have HW := Lib.hid (cu_rwithin (n := n) (a := a) (by omega) (by omega) (by omega))
  have HRI := Lib.hid (show ((res n i : Nat) : Int) = (a : Int) by rw [hri])
  have HLT := Lib.hid (show ∀ j, j < i → ((res n j : Nat) : Int) ≠ (a : Int) from fun j hj e => hlt j hj (by omega))
  clear hri hlt
  go_enter Try.func66, Try.ntmps66
  go_wp2_with (first
    | (go_at_call 141; refine (isOrder_yes _ _ (by omega) (by omega)).mono ?_; rintro e w' ⟨rfl, rfl⟩)
    | (go_at_call 118; refine (residuesOf_any n (by omega) h16 _).mono ?_; rintro e w2 ⟨g2, c2, rfl, s2, b2⟩
       have S2 := Lib.hid s2
       have st2 := st0.keep b2
       have HC2 := Lib.hid (Contains_yes (a : Int) w2 i (by omega) s2 hi HRI.out HLT.out)
       have hz2 := b2.size
       try simp only [World.size_alloc] at hz2
       have s3 := Sl.made w2 #[.int .i64 1] 2 1 1 (fun _ => 1) (Nat.le_refl _) (by decide) (fun k _ => by unfold inR; omega) (fun k hk => by
         obtain rfl : k = 0 := by omega
         rfl)
       have st3 := st2.alloc (.cells #[.int .i64 1] 2)
       clear s2 b2 st0)
    | (go_at_call 120; refine HC2.out.mono ?_; rintro e w' ⟨rfl, rfl⟩)
    | (go_at_call 143; refine (Repeat_gen 1 (by unfold inR; omega) a h1 (by omega) _ s3).mono ?_; rintro e w4 ⟨g4, rfl, s4, b4⟩
       have S4 := Lib.hid s4
       have st4 := st3.keep b4
       have hz4 := b4.size
       try simp only [World.size_alloc] at hz4
       clear s4 b4 st3 s3)
    | (go_at_call 142; refine (CycloOf_impl_ok n _ S4.out HCO.out HW.out).mono ?_; rintro e w5 ⟨a5, c5, rfl, s5, b5⟩
       have S5 := Lib.hid s5
       have st5 := st4.keep b5
       have hz5 := b5.size
       obtain ⟨x0, x1⟩ := (st5.box 0 (w.heap.size, [.int .i64 0, .slice none 0 0]) rfl).cell2
       have xz := (st5.box 0 (w.heap.size, [.int .i64 0, .slice none 0 0]) rfl).2.2
       dsimp only at x0 x1 xz
       clear s5 b5 st4))
  have BB := st5.1
  refine bodyPost_ret (v := .tuple #[.agg #[.int .i64 (n : Int), .slice a5 (phiN n) c5], .int .i64 0]) (by simp [results, Try.results66, go_sem, x0, x1]) rfl ?_
  refine ⟨_, _, rfl, ?_, by go_grown⟩
  exact (((S5.out.congr (fun j hj => (cu_red (n := n) (a := a) (by omega) (by omega) (by omega) hj).symm)).setOther (.inl (by show w.heap.size < _; omega)) _).setOther (.inl (by show w.heap.size < _; omega)) _).wide (by omega) (by simp) (Nat.le_refl _)
theorem CyclotomicUnit_impl_no (n a : Int) (h : ¬ cuOk n a) (w : World) :
    Calls Try.prog 66 #[.int .i64 n, .int .i64 a] w fun e w' => e = .returned (failV 2) ∧ Below w.heap.size w w' := by
  have st0 := (St.start w).boxNew (.int .i64 0) (.slice none 0 0) 24
  by_cases h2 : n < 2
  · obtain ⟨x0, x1⟩ := (st0.box 0 (w.heap.size, [.int .i64 0, .slice none 0 0]) rfl).cell2
    have xz := (st0.box 0 (w.heap.size, [.int .i64 0, .slice none 0 0]) rfl).2.2
    dsimp only at x0 x1 xz
    have BB := st0.1
    clear h
    go_enter Try.func66, Try.ntmps66
    go_wp2_with fail
    refine bodyPost_ret (v := failV 2) (by simp [results, Try.results66, go_sem, failV, x0, x1]) rfl ⟨rfl, by go_grown⟩
  · by_cases h16 : 16 < n
    · obtain ⟨x0, x1⟩ := (st0.box 0 (w.heap.size, [.int .i64 0, .slice none 0 0]) rfl).cell2
      have xz := (st0.box 0 (w.heap.size, [.int .i64 0, .slice none 0 0]) rfl).2.2
      dsimp only at x0 x1 xz
      have BB := st0.1
      clear h
      go_enter Try.func66, Try.ntmps66
      go_wp2_with (go_at_call 141; refine (isOrder_no _ _ (.inr h16)).mono ?_; rintro e w' ⟨rfl, rfl⟩)
      refine bodyPost_ret (v := failV 2) (by simp [results, Try.results66, go_sem, failV, x0, x1]) rfl ⟨rfl, by go_grown⟩
    · obtain ⟨N, rfl⟩ := Int.eq_ofNat_of_zero_le (show 0 ≤ n by omega)
      have HNO := Lib.hid (show ∀ j, j < phiN N → ((res N j : Nat) : Int) ≠ a from fun j hj e => h (by
        have := res_lt40 (n := N) (by omega) (by omega) hj
        refine ⟨by omega, by omega, by omega, by omega, ?_⟩
        subst e
        unfold gcdI
        rw [Int.toNat_natCast, Int.toNat_natCast, this.2.2]; rfl))
      have hp := phi_le12 N (by omega) (by omega)
      clear h
      go_enter Try.func66, Try.ntmps66
      go_wp2_with (first
        | (go_at_call 141; refine (isOrder_yes _ _ (by omega) (by omega)).mono ?_; rintro e w' ⟨rfl, rfl⟩)
        | (go_at_call 118; refine (residuesOf_any N (by omega) (by omega) _).mono ?_; rintro e w2 ⟨g2, c2, rfl, s2, b2⟩
           have st2 := st0.keep b2
           have HC2 := Lib.hid (Contains_no a w2 (by omega) s2 HNO.out)
           have hz2 := b2.size
           try simp only [World.size_alloc] at hz2
           obtain ⟨x0, x1⟩ := (st2.box 0 (w.heap.size, [.int .i64 0, .slice none 0 0]) rfl).cell2
           have xz := (st2.box 0 (w.heap.size, [.int .i64 0, .slice none 0 0]) rfl).2.2
           dsimp only at x0 x1 xz
           clear s2 b2 st0)
        | (go_at_call 120; refine HC2.out.mono ?_; rintro e w' ⟨rfl, rfl⟩))
      have BB := st2.1
      refine bodyPost_ret (v := failV 2) (by simp [results, Try.results66, go_sem, failV, x0, x1]) rfl ⟨rfl, by go_grown⟩
end Go.Proofs.Ytnhpodlcgkgpbaa
