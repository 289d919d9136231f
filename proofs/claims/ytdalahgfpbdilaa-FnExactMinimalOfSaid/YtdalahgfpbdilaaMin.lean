/- MinimalOf of the program and of the model. -/
import Derived.Test.YtdalahgfpbdilaaPlq
import Derived.Deep.RegionLaw
namespace Go.Proofs.Ytdalahgfpbdilaa
open Go.RowKit Go.ChangeShapes Go.Sort
set_option linter.unusedVariables false
set_option linter.unusedSimpArgs false

section
variable {o : Bool} {lo hi L : Nat} {v : Value} {f : Nat → Int}
theorem MinimalOf_impl_bad (x : Int) (w : World) (hs : Sl o w lo hi v L f) (h : ¬ CyP x L f) :
    Calls Try.prog 21 #[.agg #[.int .i64 x, v]] w fun e w' => ∃ a' k', e = .returned (.tuple #[.slice a' 0 k', .int .i64 1]) ∧ Sl true w' w.heap.size w'.heap.size (.slice a' 0 k') 0 (fun _ => 0) ∧ Below w.heap.size w w' := by
  obtain ⟨av, cap, rfl⟩ := hs.shape
  have st0 := ((((St.start w).addSl ⟨o, lo, hi, .slice av L cap, L, f⟩ hs).alloc (.cells #[.int .i64 x, .slice av L cap] 28)).addBox w.heap.size [.int .i64 x, .slice av L cap] (Box.made _ _ _ _ (fun j v h => by simpa using h)))
  have q0 := st0.sl 0 ⟨o, lo, hi, .slice av L cap, L, f⟩ rfl
  dsimp only at q0
  have HC := Lib.hid h
  clear h hs
  go_enter Try.func21, Try.ntmps21
  go_wp2_with fail
  refine (IsCyclo_no _ _ q0 HC.out).mono ?_
  rintro e w1 ⟨rfl, b1⟩
  clear q0
  have st1 := st0.keep b1
  have hz_w1 := b1.size
  try simp only [World.size_alloc] at hz_w1
  clear st0 b1
  have BB := st1.1
  go_wp2
  go_ret2
  exact ⟨none, 0, rfl, Sl.nil _ _ _ (Nat.le_refl _) _, BB⟩

theorem MinimalOf_spec_bad (x : Int) (w : World) (hs : Sl o w lo hi v L f) (h : ¬ CyP x L f) :
    Calls Try.prog 20 #[.agg #[.int .i64 x, v]] w fun e w' => ∃ a' k', e = .returned (.tuple #[.slice a' 0 k', .int .i64 1]) ∧ Sl true w' w.heap.size w'.heap.size (.slice a' 0 k') 0 (fun _ => 0) ∧ Below w.heap.size w w' := by
  obtain ⟨av, cap, rfl⟩ := hs.shape
  have st0 := ((((St.start w).addSl ⟨o, lo, hi, .slice av L cap, L, f⟩ hs).alloc (.cells #[.int .i64 x, .slice av L cap] 28)).addBox w.heap.size [.int .i64 x, .slice av L cap] (Box.made _ _ _ _ (fun j v h => by simpa using h)))
  have q0 := st0.sl 0 ⟨o, lo, hi, .slice av L cap, L, f⟩ rfl
  dsimp only at q0
  have HC := Lib.hid h
  clear h hs
  go_enter Try.func20, Try.ntmps20
  go_wp2_with fail
  refine (l01Is_no _ _ q0 HC.out).mono ?_
  rintro e w1 ⟨rfl, b1⟩
  clear q0
  have st1 := st0.keep b1
  have hz_w1 := b1.size
  try simp only [World.size_alloc] at hz_w1
  clear st0 b1
  have BB := st1.1
  go_wp2
  go_ret2
  exact ⟨none, 0, rfl, Sl.nil _ _ _ (Nat.le_refl _) _, BB⟩

set_option maxRecDepth 100000 in
set_option maxHeartbeats 4000000 in
theorem MinimalOf_impl_ok (n : Nat) (w : World) (hs : Sl o w lo hi v L f) (h : CyP n L f) (hk : plOk n (rtI n L f true) (cntI n L f true (phiN n))) :
    Calls Try.prog 21 #[.agg #[.int .i64 (n : Int), v]] w fun e w' => ∃ a' k', e = .returned (.tuple #[.slice a' ((cntI n L f true (phiN n)) + 1) k', .int .i64 0]) ∧ Sl true w' w.heap.size w'.heap.size (.slice a' ((cntI n L f true (phiN n)) + 1) k') ((cntI n L f true (phiN n)) + 1) (fun k => plZ n (rtI n L f true) (cntI n L f true (phiN n)) k 0) ∧ Below w.heap.size w w' := by
  obtain ⟨av, cap, rfl⟩ := hs.shape
  have hn1 : 1 ≤ n := by have := h.1; omega
  have hn2 : n ≤ 16 := by have := h.2.1; omega
  have hp := phi_le12 n hn2 hn1
  have hL : L ≤ 12 := by have e : L = phiN n := h.2.2.1; omega
  have hhs := hs.size
  have HF := Lib.hid h.2.2.2
  have HK := Lib.hid hk
  clear hk
  have st0 := ((((St.start w).addSl ⟨o, lo, hi, .slice av L cap, L, f⟩ hs).alloc (.cells #[.int .i64 (n : Int), .slice av L cap] 28)).addBox w.heap.size [.int .i64 (n : Int), .slice av L cap] (Box.made _ _ _ _ (fun j v h => by simpa using h)))
  have q0 := st0.sl 0 ⟨o, lo, hi, .slice av L cap, L, f⟩ rfl
  dsimp only at q0
  have HC := Lib.hid h
  clear h hs
  go_enter Try.func21, Try.ntmps21
  go_wp2_with fail
  refine (IsCyclo_yes _ _ q0 HC.out).mono ?_
  rintro e w1 ⟨rfl, b1⟩
  clear q0
  have st1 := st0.keep b1
  have hz_w1 := b1.size
  try simp only [World.size_alloc] at hz_w1
  clear st0 b1
  obtain ⟨c0, c1⟩ := (st1.box 0 (w.heap.size, [.int .i64 (n : Int), .slice av L cap]) rfl).cell2
  have q0 := st1.sl 0 ⟨o, lo, hi, .slice av L cap, L, f⟩ rfl
  dsimp only at q0
  have hl1 : w.heap.size < w1.heap.size := by omega
  have hdl : (cntI n L f true (phiN n)) ≤ 12 := by have := cntI_le n L f true (phiN n); omega
  go_wp2_with fail
  go_region_law (first
      | (go_simp; go_at_call 128; refine (differentImagesOf_any n hn1 hn2 _ q0.drew (by omega)).mono ?_; rintro e w6 ⟨g6, c6, rfl, r6, b6⟩
         have hz6 := b6.size
         have st6 := st1.drew.keep b6
         obtain ⟨x6, x6'⟩ := (st6.box 0 (w.heap.size, [.int .i64 (n : Int), .slice av L cap]) rfl).cell2
         have hl6 : w.heap.size < w6.heap.size := by simp only [World.size_drew, World.size_alloc] at hz6; omega)
      | (go_simp; go_at_call 126; refine (polynomialWithRoots_ok n hn1 hn2 _ (t := (cntI n L f true (phiN n))) (L := L) (f := f) (fun k => difI n L f (phiN n) k) hdl HF.out hL HK.out r6).mono ?_; rintro e w7 ⟨a7, k7, rfl, s7, b7⟩
         have hz7 := b7.size
         have st7 := st6.keep b7))
  all_goals
    go_wp2_with fail
    go_ret2
    exact ⟨_, _, rfl, s7.wide (by omega) (Nat.le_refl _) (Nat.le_refl _), st7.1⟩

set_option maxRecDepth 100000 in
set_option maxHeartbeats 4000000 in
theorem MinimalOf_spec_ok (n : Nat) (w : World) (hs : Sl o w lo hi v L f) (h : CyP n L f) (hk : plOk n (rtI n L f true) (cntI n L f true (phiN n))) :
    Calls Try.prog 20 #[.agg #[.int .i64 (n : Int), v]] w fun e w' => ∃ a' k', e = .returned (.tuple #[.slice a' ((cntI n L f true (phiN n)) + 1) k', .int .i64 0]) ∧ Sl true w' w.heap.size w'.heap.size (.slice a' ((cntI n L f true (phiN n)) + 1) k') ((cntI n L f true (phiN n)) + 1) (fun k => plZ n (rtI n L f true) (cntI n L f true (phiN n)) k 0) ∧ Below w.heap.size w w' := by
  obtain ⟨av, cap, rfl⟩ := hs.shape
  have hn1 : 1 ≤ n := by have := h.1; omega
  have hn2 : n ≤ 16 := by have := h.2.1; omega
  have hp := phi_le12 n hn2 hn1
  have hL : L ≤ 12 := by have e : L = phiN n := h.2.2.1; omega
  have hhs := hs.size
  have HF := Lib.hid h.2.2.2
  have HK := Lib.hid hk
  clear hk
  have st0 := ((((St.start w).addSl ⟨o, lo, hi, .slice av L cap, L, f⟩ hs).alloc (.cells #[.int .i64 (n : Int), .slice av L cap] 28)).addBox w.heap.size [.int .i64 (n : Int), .slice av L cap] (Box.made _ _ _ _ (fun j v h => by simpa using h)))
  have q0 := st0.sl 0 ⟨o, lo, hi, .slice av L cap, L, f⟩ rfl
  dsimp only at q0
  have HC := Lib.hid h
  clear h hs
  go_enter Try.func20, Try.ntmps20
  go_wp2_with fail
  refine (l01Is_yes _ _ q0 HC.out).mono ?_
  rintro e w1 ⟨rfl, b1⟩
  clear q0
  have st1 := st0.keep b1
  have hz_w1 := b1.size
  try simp only [World.size_alloc] at hz_w1
  clear st0 b1
  obtain ⟨c0, c1⟩ := (st1.box 0 (w.heap.size, [.int .i64 (n : Int), .slice av L cap]) rfl).cell2
  have q0 := st1.sl 0 ⟨o, lo, hi, .slice av L cap, L, f⟩ rfl
  dsimp only at q0
  go_wp2_with fail
  refine (l02Polynomial_any n true _ q0 HC.out).mono ?_
  rintro e w7 ⟨⟨hok, a7, k7, rfl, s7⟩ | ⟨hno, rfl⟩, b7⟩
  · have hz7 := b7.size
    have HS7 := Lib.hid s7
    have BB := (st1.keep b7).1
    clear st1 b7 q0 c0 c1 s7 hok
    go_wp2_with fail
    go_ret2
    exact ⟨_, _, rfl, HS7.out.wide (by omega) (Nat.le_refl _) (Nat.le_refl _), BB⟩
  · exact absurd HK.out hno

set_option maxRecDepth 100000 in
set_option maxHeartbeats 4000000 in
theorem MinimalOf_impl_big (n : Nat) (w : World) (hs : Sl o w lo hi v L f) (h : CyP n L f) (hk : ¬ plOk n (rtI n L f true) (cntI n L f true (phiN n))) :
    Calls Try.prog 21 #[.agg #[.int .i64 (n : Int), v]] w fun e w' => ∃ a' k', e = .returned (.tuple #[.slice a' 0 k', .int .i64 3]) ∧ Sl true w' w.heap.size w'.heap.size (.slice a' 0 k') 0 (fun _ => 0) ∧ Below w.heap.size w w' := by
  obtain ⟨av, cap, rfl⟩ := hs.shape
  have hn1 : 1 ≤ n := by have := h.1; omega
  have hn2 : n ≤ 16 := by have := h.2.1; omega
  have hp := phi_le12 n hn2 hn1
  have hL : L ≤ 12 := by have e : L = phiN n := h.2.2.1; omega
  have hhs := hs.size
  have HF := Lib.hid h.2.2.2
  have HK := Lib.hid hk
  clear hk
  have st0 := ((((St.start w).addSl ⟨o, lo, hi, .slice av L cap, L, f⟩ hs).alloc (.cells #[.int .i64 (n : Int), .slice av L cap] 28)).addBox w.heap.size [.int .i64 (n : Int), .slice av L cap] (Box.made _ _ _ _ (fun j v h => by simpa using h)))
  have q0 := st0.sl 0 ⟨o, lo, hi, .slice av L cap, L, f⟩ rfl
  dsimp only at q0
  have HC := Lib.hid h
  clear h hs
  go_enter Try.func21, Try.ntmps21
  go_wp2_with fail
  refine (IsCyclo_yes _ _ q0 HC.out).mono ?_
  rintro e w1 ⟨rfl, b1⟩
  clear q0
  have st1 := st0.keep b1
  have hz_w1 := b1.size
  try simp only [World.size_alloc] at hz_w1
  clear st0 b1
  obtain ⟨c0, c1⟩ := (st1.box 0 (w.heap.size, [.int .i64 (n : Int), .slice av L cap]) rfl).cell2
  have q0 := st1.sl 0 ⟨o, lo, hi, .slice av L cap, L, f⟩ rfl
  dsimp only at q0
  have hl1 : w.heap.size < w1.heap.size := by omega
  have hdl : (cntI n L f true (phiN n)) ≤ 12 := by have := cntI_le n L f true (phiN n); omega
  go_wp2_with fail
  go_region_law (first
      | (go_simp; go_at_call 128; refine (differentImagesOf_any n hn1 hn2 _ q0.drew (by omega)).mono ?_; rintro e w6 ⟨g6, c6, rfl, r6, b6⟩
         have hz6 := b6.size
         have st6 := st1.drew.keep b6
         obtain ⟨x6, x6'⟩ := (st6.box 0 (w.heap.size, [.int .i64 (n : Int), .slice av L cap]) rfl).cell2
         have hl6 : w.heap.size < w6.heap.size := by simp only [World.size_drew, World.size_alloc] at hz6; omega)
      | (go_simp; go_at_call 126; refine (polynomialWithRoots_big n hn1 hn2 _ (t := (cntI n L f true (phiN n))) (L := L) (f := f) (fun k => difI n L f (phiN n) k) hdl HF.out hL HK.out r6).mono ?_; rintro e w7 ⟨rfl, b7⟩
         have hz7 := b7.size
         have st7 := st6.keep b7))
  all_goals
    go_wp2_with fail
    go_ret2
    exact ⟨none, 0, rfl, Sl.nil _ _ _ (Nat.le_refl _) _, st7.1⟩

set_option maxRecDepth 100000 in
set_option maxHeartbeats 4000000 in
theorem MinimalOf_spec_big (n : Nat) (w : World) (hs : Sl o w lo hi v L f) (h : CyP n L f) (hk : ¬ plOk n (rtI n L f true) (cntI n L f true (phiN n))) :
    Calls Try.prog 20 #[.agg #[.int .i64 (n : Int), v]] w fun e w' => ∃ a' k', e = .returned (.tuple #[.slice a' 0 k', .int .i64 3]) ∧ Sl true w' w.heap.size w'.heap.size (.slice a' 0 k') 0 (fun _ => 0) ∧ Below w.heap.size w w' := by
  obtain ⟨av, cap, rfl⟩ := hs.shape
  have hn1 : 1 ≤ n := by have := h.1; omega
  have hn2 : n ≤ 16 := by have := h.2.1; omega
  have hp := phi_le12 n hn2 hn1
  have hL : L ≤ 12 := by have e : L = phiN n := h.2.2.1; omega
  have hhs := hs.size
  have HF := Lib.hid h.2.2.2
  have HK := Lib.hid hk
  clear hk
  have st0 := ((((St.start w).addSl ⟨o, lo, hi, .slice av L cap, L, f⟩ hs).alloc (.cells #[.int .i64 (n : Int), .slice av L cap] 28)).addBox w.heap.size [.int .i64 (n : Int), .slice av L cap] (Box.made _ _ _ _ (fun j v h => by simpa using h)))
  have q0 := st0.sl 0 ⟨o, lo, hi, .slice av L cap, L, f⟩ rfl
  dsimp only at q0
  have HC := Lib.hid h
  clear h hs
  go_enter Try.func20, Try.ntmps20
  go_wp2_with fail
  refine (l01Is_yes _ _ q0 HC.out).mono ?_
  rintro e w1 ⟨rfl, b1⟩
  clear q0
  have st1 := st0.keep b1
  have hz_w1 := b1.size
  try simp only [World.size_alloc] at hz_w1
  clear st0 b1
  obtain ⟨c0, c1⟩ := (st1.box 0 (w.heap.size, [.int .i64 (n : Int), .slice av L cap]) rfl).cell2
  have q0 := st1.sl 0 ⟨o, lo, hi, .slice av L cap, L, f⟩ rfl
  dsimp only at q0
  go_wp2_with fail
  refine (l02Polynomial_any n true _ q0 HC.out).mono ?_
  rintro e w7 ⟨⟨hok, a7, k7, rfl, s7⟩ | ⟨hno, rfl⟩, b7⟩
  · exact absurd hok HK.out
  · have BB := (st1.keep b7).1
    clear st1 b7 q0 c0 c1 hno
    go_wp2_with fail
    go_ret2
    exact ⟨none, 0, rfl, Sl.nil _ _ _ (Nat.le_refl _) _, BB⟩

end
end Go.Proofs.Ytdalahgfpbdilaa
