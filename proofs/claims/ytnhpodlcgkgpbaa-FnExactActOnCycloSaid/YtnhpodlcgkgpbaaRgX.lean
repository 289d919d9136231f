/- The model's functions over elements of group rings: l10Fits, l10Is, l10Like, l10Told, l10Zero. -/
import Derived.Test.YtnhpodlcgkgpbaaRgN
import Derived.Deep.RegionLaw
namespace Go.Proofs.Ytnhpodlcgkgpbaa
open Go.RowKit Go.ChangeShapes Go.Sort
set_option linter.unusedVariables false
set_option linter.unusedSimpArgs false
set_option maxRecDepth 100000
set_option maxHeartbeats 2000000

theorem l10Fits_yes {o : Bool} {lo hi : Nat} {v : Value} {n : Nat} {f : Nat → Int} (x : Int) (w : World) (hs : Sl o w lo hi v n f) (h : Within f n 1000000000) :
    Calls Try.prog 167 #[.agg #[.int .i64 x, v]] w fun e w' => e = .returned (.bool true) ∧ Below w.heap.size w w' := by
  have hm := hs.len
  unfold maxLen at hm
  obtain ⟨a, cap, rfl⟩ := hs.shape
  have HS := Lib.hid hs; clear hs
  have HW := Lib.hid h; clear h
  go_enter Try.func167, Try.ntmps167
  go_wp2
  go_loop [3] (fun i => ∃ k : Nat, k ≤ n ∧ i = .int .i64 k) (fun i => n - (intOf i).toNat)
  case atStart => exact ⟨0, Nat.zero_le _, rfl⟩
  case round =>
    obtain ⟨k, hk, rfl⟩ := hrel
    by_cases hlt : k < n
    · obtain ⟨g, off, cap', hv, _, hg, _, _, hc, _⟩ := HS.out.at (by omega)
      have hgs : g < w.heap.size := Nat.lt_of_lt_of_le hg HS.out.size
      obtain ⟨rfl, rfl⟩ : a = some ⟨g, off, none⟩ ∧ cap = cap' := by cases hv; exact ⟨rfl, rfl⟩
      clear hv hg
      have hck := hc k hlt
      clear hc
      obtain ⟨hw1, hw2⟩ := HW.out k hlt
      go_wp2_with (go_at_call 101; refine (l01In_yes _ _ _ _ (by omega) (by omega)).mono ?_; rintro e w' ⟨rfl, rfl⟩)
      go_round
      case rel => exact ⟨k + 1, by omega, by go_num⟩
      case measure => simp [intOf]; omega
    · go_wp2
      go_ret
      exact ⟨rfl, (Below.refl _ _).alloc (Nat.le_refl _) _⟩

theorem l10Fits_no {o : Bool} {lo hi : Nat} {v : Value} {n : Nat} {f : Nat → Int} (x : Int) (w : World) (hs : Sl o w lo hi v n f) (h : ¬ Within f n 1000000000) :
    Calls Try.prog 167 #[.agg #[.int .i64 x, v]] w fun e w' => e = .returned (.bool false) ∧ Below w.heap.size w w' := by
  have hm := hs.len
  unfold maxLen at hm
  obtain ⟨a, cap, rfl⟩ := hs.shape
  have HS := Lib.hid hs; clear hs
  have HW := Lib.hid h; clear h
  go_enter Try.func167, Try.ntmps167
  go_wp2
  go_loop [3] (fun i => ∃ k : Nat, k ≤ n ∧ i = .int .i64 k ∧ Within f k 1000000000) (fun i => n - (intOf i).toNat)
  case atStart => exact ⟨0, Nat.zero_le _, rfl, fun j hj => absurd hj (Nat.not_lt_zero _)⟩
  case round =>
    obtain ⟨k, hk, rfl, hwk⟩ := hrel
    have HK := Lib.hid hwk; clear hwk
    by_cases hlt : k < n
    · obtain ⟨g, off, cap', hv, _, hg, _, _, hc, _⟩ := HS.out.at (by omega)
      have hgs : g < w.heap.size := Nat.lt_of_lt_of_le hg HS.out.size
      obtain ⟨rfl, rfl⟩ : a = some ⟨g, off, none⟩ ∧ cap = cap' := by cases hv; exact ⟨rfl, rfl⟩
      clear hv hg
      have hck := hc k hlt
      clear hc
      by_cases hw : -1000000000 ≤ f k ∧ f k ≤ 1000000000
      · obtain ⟨hw1, hw2⟩ := hw
        go_wp2_with (go_at_call 101; refine (l01In_yes _ _ _ _ (by omega) (by omega)).mono ?_; rintro e w' ⟨rfl, rfl⟩)
        go_round
        case rel => exact ⟨k + 1, by omega, by go_num, fun j hj => by
          by_cases e : j = k
          · subst e; exact ⟨hw1, hw2⟩
          · exact HK.out j (by omega)⟩
        case measure => simp [intOf]; omega
      · have hw' : f k < -1000000000 ∨ 1000000000 < f k := by omega
        have HW' := Lib.hid hw'
        clear hw hw'
        go_wp2_with (go_at_call 101; refine (l01In_no _ _ _ _ HW'.out).mono ?_; rintro e w' ⟨rfl, rfl⟩)
        go_ret
        exact ⟨rfl, (Below.refl _ _).alloc (Nat.le_refl _) _⟩
    · exact absurd (show Within f n 1000000000 from fun j hj => HK.out j (by omega)) HW.out
section
variable {o o' : Bool} {lo hi n lo' hi' n' : Nat} {v v' : Value} {f f' : Nat → Int}
theorem l10Is_noMod (x : Int) (w : World) (hs : Sl o w lo hi v n f) (h : x < 2 ∨ 40 < x) :
    Calls Try.prog 90 #[.agg #[.int .i64 x, v]] w fun e w' => e = .returned (.bool false) ∧ Below w.heap.size w w' := by
  have hm := hs.len
  unfold maxLen at hm
  obtain ⟨a, cap, rfl⟩ := hs.shape
  have st := ((St.start w).addSl ⟨o, lo, hi, .slice a n cap, n, f⟩ hs)
  have hhs := hs.size
  replace st := (st.alloc (.cells #[.int .i64 x, .slice a n cap] 28)).addBox w.heap.size [.int .i64 x, .slice a n cap] (Box.made _ _ _ _ (fun j v h => by simpa using h))
  have HO := Lib.hid h; clear h hs
  go_enter Try.func90, Try.ntmps90
  go_wp2
  have k0 := cell_regrown (st.box 0 (w.heap.size, [.int .i64 x, .slice a n cap]) rfl).cell2.1
  have k1 := cell_regrown (st.box 0 (w.heap.size, [.int .i64 x, .slice a n cap]) rfl).cell2.2
  refine wp_region_quiet_below (by kernel_rfl) (by kernel_rfl) ?_
  repeat (go_big_quiet_step (first
    | (go_at_call 101; exact regrown_same (l01In_no _ _ _ _ HO.out))))
  refine wpQuiet_nil ?_
  intro _ hw'
  obtain ⟨⟨dq, osq⟩, hw''⟩ := hw'
  subst hw''
  go_wp2
  go_ret
  exact ⟨rfl, below_boxed _ _ _ _⟩
theorem l10Is_noLen (N : Nat) (w : World) (hs : Sl o w lo hi v n f) (h2 : 2 ≤ N) (h40 : N ≤ 40) (hn : n ≠ phiN N) :
    Calls Try.prog 90 #[.agg #[.int .i64 (N : Int), v]] w fun e w' => e = .returned (.bool false) ∧ Below w.heap.size w w' := by
  have hm := hs.len
  unfold maxLen at hm
  obtain ⟨a, cap, rfl⟩ := hs.shape
  have st := ((St.start w).addSl ⟨o, lo, hi, .slice a n cap, n, f⟩ hs)
  have hhs := hs.size
  replace st := (st.alloc (.cells #[.int .i64 (N : Int), .slice a n cap] 28)).addBox w.heap.size [.int .i64 (N : Int), .slice a n cap] (Box.made _ _ _ _ (fun j v h => by simpa using h))
  have hb : ((n : Int) == ((phiN N : Nat) : Int)) = false := by rw [beq_eq_false_iff_ne]; omega
  clear hs
  obtain ⟨c0, c1⟩ := (st.box 0 (w.heap.size, [.int .i64 (N : Int), .slice a n cap]) rfl).cell2
  go_enter Try.func90, Try.ntmps90
  go_wp2_with fail
  go_region_law (first
    | (go_simp; go_at_call 101; refine (l01In_yes _ _ _ _ (by omega) (by omega)).mono ?_; rintro e w' ⟨rfl, rfl⟩)
    | (go_simp; go_at_call 112; refine (l10Residues_any N (by omega) h40 _).mono ?_; rintro e w6 ⟨g6, k6, rfl, s6, b6⟩; (first | replace st := st.keep b6 | replace st := st.drew.keep b6); clear c0 c1 s6 b6; obtain ⟨c0, c1⟩ := (st.box 0 (w.heap.size, [.int .i64 (N : Int), .slice a n cap]) rfl).cell2)
    | fail)
  all_goals
    have BB := st.1
    go_wp2
    go_ret
    exact ⟨rfl, by first | exact BB | go_grown⟩
theorem l10Is_noPart (N : Nat) (w : World) (hs : Sl o w lo hi v n f) (h2 : 2 ≤ N) (h40 : N ≤ 40) (hn : n = phiN N) (hw : ¬ Within f n 1000000000) :
    Calls Try.prog 90 #[.agg #[.int .i64 (N : Int), v]] w fun e w' => e = .returned (.bool false) ∧ Below w.heap.size w w' := by
  have hm := hs.len
  unfold maxLen at hm
  obtain ⟨a, cap, rfl⟩ := hs.shape
  have st := ((St.start w).addSl ⟨o, lo, hi, .slice a n cap, n, f⟩ hs)
  have hhs := hs.size
  replace st := (st.alloc (.cells #[.int .i64 (N : Int), .slice a n cap] 28)).addBox w.heap.size [.int .i64 (N : Int), .slice a n cap] (Box.made _ _ _ _ (fun j v h => by simpa using h))
  have hb : ((n : Int) == ((phiN N : Nat) : Int)) = true := by rw [hn]; simp
  have HW := Lib.hid hw
  clear hw hn
  clear hs
  obtain ⟨c0, c1⟩ := (st.box 0 (w.heap.size, [.int .i64 (N : Int), .slice a n cap]) rfl).cell2
  go_enter Try.func90, Try.ntmps90
  go_wp2_with fail
  go_region_law (first
    | (go_simp; go_at_call 101; refine (l01In_yes _ _ _ _ (by omega) (by omega)).mono ?_; rintro e w' ⟨rfl, rfl⟩)
    | (go_simp; go_at_call 112; refine (l10Residues_any N (by omega) h40 _).mono ?_; rintro e w6 ⟨g6, k6, rfl, s6, b6⟩; (first | replace st := st.keep b6 | replace st := st.drew.keep b6); clear c0 c1 s6 b6; obtain ⟨c0, c1⟩ := (st.box 0 (w.heap.size, [.int .i64 (N : Int), .slice a n cap]) rfl).cell2)
    | (go_simp; go_at_call 167; refine (l10Fits_no _ _ (by first | exact st.sl 0 ⟨o, lo, hi, .slice a n cap, n, f⟩ rfl | exact st.drew.sl 0 ⟨o, lo, hi, .slice a n cap, n, f⟩ rfl) HW.out).mono ?_; rintro e w7 ⟨rfl, b7⟩; (first | replace st := st.keep b7 | replace st := st.drew.keep b7); clear b7))
  all_goals
    have BB := st.1
    go_wp2
    go_ret
    exact ⟨rfl, by first | exact BB | go_grown⟩
theorem l10Is_yesN (N : Nat) (w : World) (hs : Sl o w lo hi v n f) (h2 : 2 ≤ N) (h40 : N ≤ 40) (hn : n = phiN N) (hw : Within f n 1000000000) :
    Calls Try.prog 90 #[.agg #[.int .i64 (N : Int), v]] w fun e w' => e = .returned (.bool true) ∧ Below w.heap.size w w' := by
  have hm := hs.len
  unfold maxLen at hm
  obtain ⟨a, cap, rfl⟩ := hs.shape
  have st := ((St.start w).addSl ⟨o, lo, hi, .slice a n cap, n, f⟩ hs)
  have hhs := hs.size
  replace st := (st.alloc (.cells #[.int .i64 (N : Int), .slice a n cap] 28)).addBox w.heap.size [.int .i64 (N : Int), .slice a n cap] (Box.made _ _ _ _ (fun j v h => by simpa using h))
  have hb : ((n : Int) == ((phiN N : Nat) : Int)) = true := by rw [hn]; simp
  have HW := Lib.hid hw
  clear hw hn
  clear hs
  obtain ⟨c0, c1⟩ := (st.box 0 (w.heap.size, [.int .i64 (N : Int), .slice a n cap]) rfl).cell2
  go_enter Try.func90, Try.ntmps90
  go_wp2_with fail
  go_region_law (first
    | (go_simp; go_at_call 101; refine (l01In_yes _ _ _ _ (by omega) (by omega)).mono ?_; rintro e w' ⟨rfl, rfl⟩)
    | (go_simp; go_at_call 112; refine (l10Residues_any N (by omega) h40 _).mono ?_; rintro e w6 ⟨g6, k6, rfl, s6, b6⟩; (first | replace st := st.keep b6 | replace st := st.drew.keep b6); clear c0 c1 s6 b6; obtain ⟨c0, c1⟩ := (st.box 0 (w.heap.size, [.int .i64 (N : Int), .slice a n cap]) rfl).cell2)
    | (go_simp; go_at_call 167; refine (l10Fits_yes _ _ (by first | exact st.sl 0 ⟨o, lo, hi, .slice a n cap, n, f⟩ rfl | exact st.drew.sl 0 ⟨o, lo, hi, .slice a n cap, n, f⟩ rfl) HW.out).mono ?_; rintro e w7 ⟨rfl, b7⟩; (first | replace st := st.keep b7 | replace st := st.drew.keep b7); clear b7))
  all_goals
    have BB := st.1
    go_wp2
    go_ret
    exact ⟨rfl, by first | exact BB | go_grown⟩
theorem l10Is_yes (N : Nat) (w : World) (hs : Sl o w lo hi v n f) (h : RgP N n f) :
    Calls Try.prog 90 #[.agg #[.int .i64 (N : Int), v]] w fun e w' => e = .returned (.bool true) ∧ Below w.heap.size w w' :=
  l10Is_yesN N w hs (by have := h.1; omega) (by have := h.2.1; omega) h.2.2.1 h.2.2.2
theorem l10Is_no (x : Int) (w : World) (hs : Sl o w lo hi v n f) (h : ¬ RgP x n f) :
    Calls Try.prog 90 #[.agg #[.int .i64 x, v]] w fun e w' => e = .returned (.bool false) ∧ Below w.heap.size w w' := by
  by_cases h1 : x < 2 ∨ 40 < x
  · exact l10Is_noMod x w hs h1
  · obtain ⟨N, rfl⟩ := Int.eq_ofNat_of_zero_le (show 0 ≤ x by omega)
    by_cases h2 : n = phiN N
    · exact l10Is_noPart N w hs (by omega) (by omega) h2 (fun h3 => h ⟨by omega, by omega, h2, h3⟩)
    · exact l10Is_noLen N w hs (by omega) (by omega) h2
end
end Go.Proofs.Ytnhpodlcgkgpbaa
