/- IsCubicNumber, NormOfCubic of the program and of the model. -/
import Derived.Test.YtfadlnbmpgbeaaaEsT
namespace Go.Proofs.Ytfadlnbmpgbeaaa
open Go.RowKit Go.ChangeShapes Go.Sort
set_option linter.unusedVariables false
set_option linter.unusedSimpArgs false
set_option maxRecDepth 100000
set_option maxHeartbeats 1000000

section
variable {o o' : Bool} {lo hi n lo' hi' n' : Nat} {v v' : Value} {f f' : Nat → Int}
theorem IsCubicNumber_spec_yes (x : Int) (w : World) (hs : Sl o w lo hi v n f) (h : CuP x n f) :
    Calls Try.prog 16 #[.agg #[.int .i64 x, v]] w fun e w' => e = .returned (.bool true) ∧ Below w.heap.size w w' := by
  obtain ⟨av, cap, rfl⟩ := hs.shape
  have hm := hs.len
  unfold maxLen at hm
  have st := ((((St.start w).addSl ⟨o, lo, hi, .slice av n cap, n, f⟩ hs).alloc (.cells #[.int .i64 x, .slice av n cap] 27)).addBox w.heap.size [.int .i64 x, .slice av n cap] (Box.made _ _ _ _ (fun j v h => by simpa using h)))
  have q0 := st.sl 0 ⟨o, lo, hi, .slice av n cap, n, f⟩ rfl
  dsimp only at q0
  have HC := Lib.hid h
  clear h
  go_enter Try.func16, Try.ntmps16
  go_wp2_with fail
  refine (l09Is_yes _ _ q0 HC.out).mono ?_
  rintro e w1 ⟨rfl, b1⟩
  replace st := st.keep b1
  have hz1 := b1.size
  try simp only [World.size_alloc] at hz1
  clear b1
  have BB := st.1
  go_wp2
  go_ret
  exact ⟨rfl, by go_grown⟩
theorem IsCubicNumber_spec_no (x : Int) (w : World) (hs : Sl o w lo hi v n f) (h : ¬ CuP x n f) :
    Calls Try.prog 16 #[.agg #[.int .i64 x, v]] w fun e w' => e = .returned (.bool false) ∧ Below w.heap.size w w' := by
  obtain ⟨av, cap, rfl⟩ := hs.shape
  have hm := hs.len
  unfold maxLen at hm
  have st := ((((St.start w).addSl ⟨o, lo, hi, .slice av n cap, n, f⟩ hs).alloc (.cells #[.int .i64 x, .slice av n cap] 27)).addBox w.heap.size [.int .i64 x, .slice av n cap] (Box.made _ _ _ _ (fun j v h => by simpa using h)))
  have q0 := st.sl 0 ⟨o, lo, hi, .slice av n cap, n, f⟩ rfl
  dsimp only at q0
  have HC := Lib.hid h
  clear h
  go_enter Try.func16, Try.ntmps16
  go_wp2_with fail
  refine (l09Is_no _ _ q0 HC.out).mono ?_
  rintro e w1 ⟨rfl, b1⟩
  replace st := st.keep b1
  have hz1 := b1.size
  try simp only [World.size_alloc] at hz1
  clear b1
  have BB := st.1
  go_wp2
  go_ret
  exact ⟨rfl, by go_grown⟩
theorem NormOfCubic_impl_ok (x : Int) (w : World) (hs : Sl o w lo hi v n f) (h : CuP x n f) :
    Calls Try.prog 21 #[.agg #[.int .i64 x, v]] w fun e w' => e = .returned (.tuple #[.int .i64 (nrm (f 0) (f 1)), .int .i64 0]) ∧ Below w.heap.size w w' := by
  obtain ⟨av, cap, rfl⟩ := hs.shape
  have hm := hs.len
  unfold maxLen at hm
  have st := ((((St.start w).addSl ⟨o, lo, hi, .slice av n cap, n, f⟩ hs).alloc (.cells #[.int .i64 x, .slice av n cap] 27)).addBox w.heap.size [.int .i64 x, .slice av n cap] (Box.made _ _ _ _ (fun j v h => by simpa using h)))
  have q0 := st.sl 0 ⟨o, lo, hi, .slice av n cap, n, f⟩ rfl
  dsimp only at q0
  have HC := Lib.hid h
  have hb := h.bd
  clear h
  go_enter Try.func21, Try.ntmps21
  go_wp2_with fail
  refine (openCubic_ok _ _ q0 HC.out).mono ?_
  rintro e w1 ⟨rfl, b1⟩
  replace st := st.keep b1
  have hz1 := b1.size
  try simp only [World.size_alloc] at hz1
  clear b1
  replace st := (st.alloc (.cells #[.int .i64 (f 0), .int .i64 (f 1)] 59)).addBox _ [.int .i64 (f 0), .int .i64 (f 1)] (Box.made _ _ _ _ (fun j v h => by simpa using h))
  try simp only [World.size_alloc] at st
  have n0 := norm_impl (f 0) (f 1)
  go_wp2_with fail
  refine (norm_impl (f 0) (f 1) _ (by omega) (by omega) (by omega) (by omega)).mono ?_
  rintro e w2 ⟨rfl, b2⟩
  replace st := st.keep b2
  have hz2 := b2.size
  try simp only [World.size_alloc] at hz2
  clear b2
  have BB := st.1
  go_wp2
  go_ret2
  exact ⟨by first | rfl | simp, by go_grown⟩
theorem NormOfCubic_impl_bad (x : Int) (w : World) (hs : Sl o w lo hi v n f) (h : ¬ CuP x n f) :
    Calls Try.prog 21 #[.agg #[.int .i64 x, v]] w fun e w' => e = .returned (.tuple #[.int .i64 0, .int .i64 1]) ∧ Below w.heap.size w w' := by
  obtain ⟨av, cap, rfl⟩ := hs.shape
  have hm := hs.len
  unfold maxLen at hm
  have st := ((((St.start w).addSl ⟨o, lo, hi, .slice av n cap, n, f⟩ hs).alloc (.cells #[.int .i64 x, .slice av n cap] 27)).addBox w.heap.size [.int .i64 x, .slice av n cap] (Box.made _ _ _ _ (fun j v h => by simpa using h)))
  have q0 := st.sl 0 ⟨o, lo, hi, .slice av n cap, n, f⟩ rfl
  dsimp only at q0
  have HC := Lib.hid h
  clear h
  go_enter Try.func21, Try.ntmps21
  go_wp2_with fail
  refine (openCubic_bad _ _ q0 HC.out).mono ?_
  rintro e w1 ⟨rfl, b1⟩
  replace st := st.keep b1
  have hz1 := b1.size
  try simp only [World.size_alloc] at hz1
  clear b1
  replace st := (st.alloc (.cells #[.int .i64 0, .int .i64 0] 59)).addBox _ [.int .i64 0, .int .i64 0] (Box.made _ _ _ _ (fun j v h => by simpa using h))
  try simp only [World.size_alloc] at st
  go_wp2_with fail
  refine (norm_impl 0 0 _ (by omega) (by omega) (by omega) (by omega)).mono ?_
  rintro e w2 ⟨rfl, b2⟩
  replace st := st.keep b2
  have hz2 := b2.size
  try simp only [World.size_alloc] at hz2
  clear b2
  have BB := st.1
  go_wp2
  go_ret2
  exact ⟨by first | rfl | simp [nrm_zz], by go_grown⟩
theorem NormOfCubic_spec_ok (x : Int) (w : World) (hs : Sl o w lo hi v n f) (h : CuP x n f) :
    Calls Try.prog 20 #[.agg #[.int .i64 x, v]] w fun e w' => e = .returned (.tuple #[.int .i64 (nrm (f 0) (f 1)), .int .i64 0]) ∧ Below w.heap.size w w' := by
  obtain rfl : n = 2 := h.2.1
  obtain ⟨av, cap, rfl⟩ := hs.shape
  have hm := hs.len
  unfold maxLen at hm
  have st := ((((St.start w).addSl ⟨o, lo, hi, .slice av 2 cap, 2, f⟩ hs).alloc (.cells #[.int .i64 x, .slice av 2 cap] 27)).addBox w.heap.size [.int .i64 x, .slice av 2 cap] (Box.made _ _ _ _ (fun j v h => by simpa using h)))
  have HC := Lib.hid h
  have hb := h.bd
  clear h
  go_enter Try.func20, Try.ntmps20
  replace st := (st.alloc (.cells #[.int .i64 x, .slice av 2 cap] 27)).addBox _ [.int .i64 x, .slice av 2 cap] (Box.made _ _ _ _ (fun j v h => by simpa using h))
  try simp only [World.size_alloc] at st
  have hbx := st.box 0 _ rfl
  have q0 := st.sl 0 ⟨o, lo, hi, .slice av 2 cap, 2, f⟩ rfl
  dsimp only at q0
  dsimp only at hbx
  go_wp2_with fail
  refine (l09Code1_ok _ _ _ q0 hbx HC.out).mono ?_
  rintro e w1 ⟨rfl, b1⟩
  replace st := st.keep b1
  have hz1 := b1.size
  try simp only [World.size_alloc] at hz1
  clear b1 hbx q0
  obtain ⟨x0, x1⟩ := (st.box 1 _ rfl).cell2
  have xz := (st.box 1 _ rfl).2.2
  have xs := (st.box 1 _ rfl).1
  dsimp only at x0 x1 xz xs
  have q0 := st.sl 0 ⟨o, lo, hi, .slice av 2 cap, 2, f⟩ rfl
  dsimp only at q0
  go_wp2_with fail
  refine (l09Norm_any _ _ q0 (by omega) (by omega) (by omega) (by omega)).mono ?_
  rintro e w2 ⟨rfl, b2⟩
  replace st := st.keep b2
  have hz2 := b2.size
  try simp only [World.size_alloc] at hz2
  clear b2
  have BB := st.1
  go_wp2
  go_ret2
  exact ⟨by first | rfl | simp, by go_grown⟩
theorem NormOfCubic_spec_bad (x : Int) (w : World) (hs : Sl o w lo hi v n f) (h : ¬ CuP x n f) :
    Calls Try.prog 20 #[.agg #[.int .i64 x, v]] w fun e w' => e = .returned (.tuple #[.int .i64 0, .int .i64 1]) ∧ Below w.heap.size w w' := by
  obtain ⟨av, cap, rfl⟩ := hs.shape
  have hm := hs.len
  unfold maxLen at hm
  have st := ((((St.start w).addSl ⟨o, lo, hi, .slice av n cap, n, f⟩ hs).alloc (.cells #[.int .i64 x, .slice av n cap] 27)).addBox w.heap.size [.int .i64 x, .slice av n cap] (Box.made _ _ _ _ (fun j v h => by simpa using h)))
  have HC := Lib.hid h
  clear h
  go_enter Try.func20, Try.ntmps20
  replace st := (st.alloc (.cells #[.int .i64 x, .slice av n cap] 27)).addBox _ [.int .i64 x, .slice av n cap] (Box.made _ _ _ _ (fun j v h => by simpa using h))
  try simp only [World.size_alloc] at st
  have hbx := st.box 0 _ rfl
  have q0 := st.sl 0 ⟨o, lo, hi, .slice av n cap, n, f⟩ rfl
  dsimp only at q0
  dsimp only at hbx
  go_wp2_with fail
  refine (l09Code1_bad0 _ _ _ q0 hbx HC.out).mono ?_
  rintro e w1 ⟨rfl, b1⟩
  replace st := st.keep b1
  have hz1 := b1.size
  try simp only [World.size_alloc] at hz1
  clear b1 hbx q0
  have BB := st.1
  go_wp2
  go_ret2
  exact ⟨by first | rfl | simp, by go_grown⟩
end
end Go.Proofs.Ytfadlnbmpgbeaaa
