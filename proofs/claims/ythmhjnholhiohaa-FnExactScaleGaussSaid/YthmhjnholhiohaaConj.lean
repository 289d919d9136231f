/- ConjugateOf of the program and of the model. -/
import Derived.Test.YthmhjnholhiohaaImg
import Derived.Deep.RegionHeld3
import Derived.IntWalk
namespace Go.Proofs.Ythmhjnholhiohaa
open Go.RowKit Go.ChangeShapes Go.Sort
set_option linter.unusedVariables false

section
variable {o : Bool} {lo hi L : Nat} {v : Value} {f : Nat → Int}
theorem l01Bar_any (n : Nat) (h1 : 1 ≤ n) (h2 : n ≤ 16) (w : World) (hs : Sl o w lo hi v L f) (hL : L ≤ n) :
    Calls Try.prog 141 #[.agg #[.int .i64 (n : Int), v]] w fun e w' => ∃ a' cap', e = .returned (.agg #[.int .i64 (n : Int), .slice a' (phiN n) cap']) ∧ Sl true w' w.heap.size w'.heap.size (.slice a' (phiN n) cap') (phiN n) (imgP n (n - 1) L f) ∧ Below w.heap.size w w' := by
  obtain ⟨av, cap, rfl⟩ := hs.shape
  have HQ := Lib.hid (show redP n (foldP (ixG n (-1)) f L) = imgP n (n - 1) L f from by unfold imgP; rw [foldP_congr (fun i hi => ⟨ixG_bar n (by omega) h1 i (by omega), rfl⟩)])
  have h := h1
  have st0 := ((((St.start w).addSl ⟨o, lo, hi, .slice av L cap, L, f⟩ hs).alloc (.cells #[.int .i64 (n : Int), .slice av L cap] 37)).addBox w.heap.size [.int .i64 (n : Int), .slice av L cap] (Box.made _ _ _ _ (fun j v h => by simpa using h)))
  replace st0 := (st0.alloc (.cells #[.int .i64 0, .slice none 0 0] 37)).addBox _ [.int .i64 0, .slice none 0 0] (Box.made _ _ _ _ (fun j v h => by simpa using h))
  simp only [World.size_alloc] at st0
  have q0 := st0.sl 0 ⟨o, lo, hi, .slice av L cap, L, f⟩ rfl
  dsimp only at q0
  clear h hs
  go_enter Try.func141, Try.ntmps141
  go_wp2_with fail
  refine (l01Galois_any n (-1) h1 h2 (by omega) (by omega) _ q0 (by omega)).mono ?_
  rintro e w1 ⟨a1, k1, rfl, s1, b1⟩
  rw [HQ.out] at s1
  have S1 := Lib.hid s1
  clear q0 s1
  have st1 := st0.keep b1
  have hz_w1 := b1.size
  try simp only [World.size_alloc] at hz_w1
  clear st0 b1
  obtain ⟨d0, d1⟩ := (st1.box 0 _ rfl).cell2
  have dz := (st1.box 0 _ rfl).2.2
  have BB := st1.1
  dsimp only at dz
  clear st1
  go_wp2
  refine bodyPost_ret (v := .agg #[.int .i64 (n : Int), .slice a1 (phiN n) k1]) (by simp [results, Try.results141, go_sem, d0, d1]) rfl ?_
  refine ⟨_, _, rfl, ?_, by go_grown⟩
  exact ((S1.out.setOther (.inl (by show w.heap.size + 1 < _; simp)) _).setOther (.inl (by show w.heap.size + 1 < _; simp)) _).wide (by simp; omega) (by simp) (Nat.le_refl _)

theorem ConjugateOf_impl_bad (x : Int) (w : World) (hs : Sl o w lo hi v L f) (h : ¬ CyP x L f) :
    Calls Try.prog 97 #[.agg #[.int .i64 x, v]] w fun e w' => e = .returned (failV 1) ∧ Below w.heap.size w w' := by
  obtain ⟨av, cap, rfl⟩ := hs.shape
  have st0 := ((((St.start w).addSl ⟨o, lo, hi, .slice av L cap, L, f⟩ hs).alloc (.cells #[.int .i64 x, .slice av L cap] 37)).addBox w.heap.size [.int .i64 x, .slice av L cap] (Box.made _ _ _ _ (fun j v h => by simpa using h)))
  replace st0 := (st0.alloc (.cells #[.int .i64 0, .slice none 0 0] 37)).addBox _ [.int .i64 0, .slice none 0 0] (Box.made _ _ _ _ (fun j v h => by simpa using h))
  simp only [World.size_alloc] at st0
  have q0 := st0.sl 0 ⟨o, lo, hi, .slice av L cap, L, f⟩ rfl
  dsimp only at q0
  have HC := Lib.hid h
  clear h hs
  go_enter Try.func97, Try.ntmps97
  go_wp2_with fail
  refine (IsCyclo_no _ _ q0 HC.out).mono ?_
  rintro e w1 ⟨rfl, b1⟩
  clear q0
  have st1 := st0.keep b1
  have hz_w1 := b1.size
  try simp only [World.size_alloc] at hz_w1
  clear st0 b1
  obtain ⟨d0, d1⟩ := (st1.box 0 _ rfl).cell2
  have dz := (st1.box 0 _ rfl).2.2
  have BB := st1.1
  dsimp only at dz
  go_wp2
  refine bodyPost_ret (v := failV 1) (by simp [results, Try.results97, go_sem, failV, d0, d1]) rfl ?_
  exact ⟨rfl, by go_grown⟩

set_option maxRecDepth 100000 in
set_option maxHeartbeats 1000000 in
theorem ConjugateOf_impl_ok (n : Nat) (w : World) (hs : Sl o w lo hi v L f) (h : CyP n L f) (hw : Within (imgP n (n - 1) L f) (phiN n) 1000000000) :
    Calls Try.prog 97 #[.agg #[.int .i64 (n : Int), v]] w fun e w' => ∃ a cap, e = .returned (.tuple #[.agg #[.int .i64 (n : Int), .slice a (phiN n) cap], .int .i64 0]) ∧ Sl true w' w.heap.size w'.heap.size (.slice a (phiN n) cap) (phiN n) (imgP n (n - 1) L f) ∧ Below w.heap.size w w' := by
  obtain ⟨av, cap, rfl⟩ := hs.shape
  have hn1 : 1 ≤ n := by have := h.1; omega
  have hn2 : n ≤ 16 := by have := h.2.1; omega
  have hp := phi_le12 n hn2 hn1
  have hL : L ≤ 12 := by have e : L = phiN n := h.2.2.1; omega
  have HW := Lib.hid ((cut_within hp).2 hw); clear hw
  have st0 := ((((St.start w).addSl ⟨o, lo, hi, .slice av L cap, L, f⟩ hs).alloc (.cells #[.int .i64 (n : Int), .slice av L cap] 37)).addBox w.heap.size [.int .i64 (n : Int), .slice av L cap] (Box.made _ _ _ _ (fun j v h => by simpa using h)))
  replace st0 := (st0.alloc (.cells #[.int .i64 0, .slice none 0 0] 37)).addBox _ [.int .i64 0, .slice none 0 0] (Box.made _ _ _ _ (fun j v h => by simpa using h))
  simp only [World.size_alloc] at st0
  have q0 := st0.sl 0 ⟨o, lo, hi, .slice av L cap, L, f⟩ rfl
  dsimp only at q0
  have HC := Lib.hid h
  clear h hs
  have HSUB := Lib.hid (show IntKind.i64.wrap ((n : Int) - 1) = ((n - 1 : Nat) : Int) from by rw [IntWalk.i64_in _ (by omega)]; omega)
  go_enter Try.func97, Try.ntmps97
  go_wp2_with fail
  refine (IsCyclo_yes _ _ q0 HC.out).mono ?_
  rintro e w1 ⟨rfl, b1⟩
  clear q0
  have st1 := st0.keep b1
  have hz_w1 := b1.size
  try simp only [World.size_alloc] at hz_w1
  clear st0 b1
  obtain ⟨c0, c1⟩ := (st1.box 1 (w.heap.size, [.int .i64 (n : Int), .slice av L cap]) rfl).cell2
  go_wp2_with fail
  go_region_held3 (fun w' => w'.cell? ⟨w.heap.size, 0, none⟩ = some (.int .i64 (n : Int)) ∧ w'.cell? ⟨w.heap.size, 1, none⟩ = some (.slice av L cap))
    (first | exact ⟨c0, c1⟩ | exact ⟨cell_later b6 c0, cell_later b6 c1⟩ | exact ⟨cell_later b7 (cell_later b6 c0), cell_later b7 (cell_later b6 c1)⟩ | go_keep)
    (first
      | (go_at_call 142; rw [HSUB.out]; refine (imageParts_any n (n - 1) (by omega) (by omega) (by omega) _ (st1.drew.sl 0 ⟨o, lo, hi, .slice av L cap, L, f⟩ rfl) (Nat.le_trans hL (by decide))).mono ?_; rintro e w6 ⟨rfl, b6⟩)
      | (go_at_call 113; refine (cycloWithin_yes n (by omega) (by omega) _ HW.out).mono ?_; rintro e w7 ⟨a7, k7, rfl, s7, b7⟩
         have st7 := (st1.drew.keep b6).keep b7
         obtain ⟨d0, d1⟩ := (st7.box 0 _ rfl).cell2
         have dz := (st7.box 0 _ rfl).2.2
         obtain ⟨y0, y1⟩ := (st7.box 1 (w.heap.size, [.int .i64 (n : Int), .slice av L cap]) rfl).cell2
         dsimp only at dz))
  all_goals
    have hz6 := b6.size
    have hz7 := b7.size
    simp only [World.size_drew] at hz6
    have BB := st7.1
    have S7 := Lib.hid s7
    clear b6 b7 s7 st7
    go_wp2
    refine bodyPost_ret (v := .tuple #[.agg #[.int .i64 (n : Int), .slice a7 (phiN n) k7], .int .i64 0]) (by simp [results, Try.results97, go_sem, d0, d1]) rfl ?_
    refine ⟨_, _, rfl, ?_, by go_grown⟩
    exact (((S7.out.setOther (.inl (by show w.heap.size + 1 < _; omega)) _).setOther (.inl (by show w.heap.size + 1 < _; omega)) _).wide (by omega) (by simp) (Nat.le_refl _)).congr (fun j hj => by unfold cut; rw [if_pos hj])

set_option maxRecDepth 100000 in
set_option maxHeartbeats 1000000 in
theorem ConjugateOf_impl_big (n : Nat) (w : World) (hs : Sl o w lo hi v L f) (h : CyP n L f) (hw : ¬ Within (imgP n (n - 1) L f) (phiN n) 1000000000) :
    Calls Try.prog 97 #[.agg #[.int .i64 (n : Int), v]] w fun e w' => e = .returned (failV 3) ∧ Below w.heap.size w w' := by
  obtain ⟨av, cap, rfl⟩ := hs.shape
  have hn1 : 1 ≤ n := by have := h.1; omega
  have hn2 : n ≤ 16 := by have := h.2.1; omega
  have hp := phi_le12 n hn2 hn1
  have hL : L ≤ 12 := by have e : L = phiN n := h.2.2.1; omega
  have HW := Lib.hid (fun h' => hw ((cut_within hp).1 h')); clear hw
  have HR := Lib.hid (cut_inR (phiN n) (imgP n (n - 1) L f) 12 (fun j hj => redP_inR n _ (fun j _ => foldP_inR _ _ _ _) j (by omega)))
  have st0 := ((((St.start w).addSl ⟨o, lo, hi, .slice av L cap, L, f⟩ hs).alloc (.cells #[.int .i64 (n : Int), .slice av L cap] 37)).addBox w.heap.size [.int .i64 (n : Int), .slice av L cap] (Box.made _ _ _ _ (fun j v h => by simpa using h)))
  replace st0 := (st0.alloc (.cells #[.int .i64 0, .slice none 0 0] 37)).addBox _ [.int .i64 0, .slice none 0 0] (Box.made _ _ _ _ (fun j v h => by simpa using h))
  simp only [World.size_alloc] at st0
  have q0 := st0.sl 0 ⟨o, lo, hi, .slice av L cap, L, f⟩ rfl
  dsimp only at q0
  have HC := Lib.hid h
  clear h hs
  have HSUB := Lib.hid (show IntKind.i64.wrap ((n : Int) - 1) = ((n - 1 : Nat) : Int) from by rw [IntWalk.i64_in _ (by omega)]; omega)
  go_enter Try.func97, Try.ntmps97
  go_wp2_with fail
  refine (IsCyclo_yes _ _ q0 HC.out).mono ?_
  rintro e w1 ⟨rfl, b1⟩
  clear q0
  have st1 := st0.keep b1
  have hz_w1 := b1.size
  try simp only [World.size_alloc] at hz_w1
  clear st0 b1
  obtain ⟨c0, c1⟩ := (st1.box 1 (w.heap.size, [.int .i64 (n : Int), .slice av L cap]) rfl).cell2
  go_wp2_with fail
  go_region_held3 (fun w' => w'.cell? ⟨w.heap.size, 0, none⟩ = some (.int .i64 (n : Int)) ∧ w'.cell? ⟨w.heap.size, 1, none⟩ = some (.slice av L cap))
    (first | exact ⟨c0, c1⟩ | exact ⟨cell_later b6 c0, cell_later b6 c1⟩ | exact ⟨cell_later b7 (cell_later b6 c0), cell_later b7 (cell_later b6 c1)⟩ | go_keep)
    (first
      | (go_at_call 142; rw [HSUB.out]; refine (imageParts_any n (n - 1) (by omega) (by omega) (by omega) _ (st1.drew.sl 0 ⟨o, lo, hi, .slice av L cap, L, f⟩ rfl) (Nat.le_trans hL (by decide))).mono ?_; rintro e w6 ⟨rfl, b6⟩)
      | (go_at_call 113; refine (cycloWithin_no _ _ HR.out HW.out).mono ?_; rintro e w7 ⟨rfl, b7⟩
         have st7 := (st1.drew.keep b6).keep b7
         obtain ⟨d0, d1⟩ := (st7.box 0 _ rfl).cell2
         have dz := (st7.box 0 _ rfl).2.2
         obtain ⟨y0, y1⟩ := (st7.box 1 (w.heap.size, [.int .i64 (n : Int), .slice av L cap]) rfl).cell2
         dsimp only at dz))
  all_goals
    have hz6 := b6.size
    have hz7 := b7.size
    simp only [World.size_drew] at hz6
    have BB := st7.1
    clear b6 b7 st7
    go_wp2
    refine bodyPost_ret (v := failV 3) (by simp [results, Try.results97, go_sem, failV, d0, d1]) rfl ?_
    exact ⟨rfl, by go_grown⟩

end
end Go.Proofs.Ythmhjnholhiohaa
