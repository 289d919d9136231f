/- ChosenAssociate, PrimaryAssociate of the program and of the model. -/
import Derived.Test.YtfadlnbmpgbeaaaEsU
import Derived.Test.YtfadlnbmpgbeaaaEsV
namespace Go.Proofs.Ytfadlnbmpgbeaaa
open Go.RowKit Go.ChangeShapes Go.Sort
set_option linter.unusedVariables false
set_option linter.unusedSimpArgs false
set_option maxRecDepth 100000
set_option maxHeartbeats 2000000

theorem tmod3 {x : Int} (h : 0 ≤ x) : x.tmod 3 = x % 3 := Int.tmod_eq_emod_of_nonneg h
section
variable {o o' : Bool} {lo hi n lo' hi' n' : Nat} {v v' : Value} {f f' : Nat → Int}
theorem ChosenAssociate_spec_bad (x : Int) (w : World) (hs : Sl o w lo hi v n f) (h : ¬ CuP x n f) :
    Calls Try.prog 22 #[.agg #[.int .i64 x, v]] w fun e w' => e = .returned (failV 1) ∧ Below w.heap.size w w' := by
  obtain ⟨av, cap, rfl⟩ := hs.shape
  have hm := hs.len
  unfold maxLen at hm
  have st := ((((St.start w).addSl ⟨o, lo, hi, .slice av n cap, n, f⟩ hs).alloc (.cells #[.int .i64 x, .slice av n cap] 27)).addBox w.heap.size [.int .i64 x, .slice av n cap] (Box.made _ _ _ _ (fun j v h => by simpa using h)))
  replace st := (st.alloc (.cells #[.int .i64 0, .slice none 0 0] 27)).addBox _ [.int .i64 0, .slice none 0 0] (Box.made _ _ _ _ (fun j v h => by simpa using h))
  simp only [World.size_alloc] at st
  have HC := Lib.hid h
  clear h
  go_enter Try.func22, Try.ntmps22
  replace st := (st.alloc (.cells #[.int .i64 x, .slice av n cap] 27)).addBox _ [.int .i64 x, .slice av n cap] (Box.made _ _ _ _ (fun j v h => by simpa using h))
  try simp only [World.size_alloc] at st
  have hbx := st.box 0 _ rfl
  have q0 := st.sl 0 ⟨o, lo, hi, .slice av n cap, n, f⟩ rfl
  dsimp only at q0
  dsimp only at hbx
  go_wp2_with fail
  refine (l09Code1_bad0 _ _ _ q0 hbx HC.out).mono ?_
  rintro e w1 ⟨rfl, b1⟩
  replace st := st.keep b1
  have hz1 := b1.size
  try simp only [World.size_alloc] at hz1
  clear b1 hbx q0
  obtain ⟨r0, r1⟩ := (st.box 1 _ rfl).cell2
  have rz := (st.box 1 _ rfl).2.2
  have rs := (st.box 1 _ rfl).1
  dsimp only at r0 r1 rz rs
  have BB := st.1
  go_wp2
  refine bodyPost_ret (v := failV 1) (by simp [results, Try.results22, go_sem, failV, r0, r1, rs, Nat.ne_of_lt rs]) rfl ?_
  exact ⟨rfl, by go_grown⟩
theorem ChosenAssociate_spec_no (x : Int) (w : World) (hs : Sl o w lo hi v n f) (h : CuP x n f) (h0 : f 0 = 0 ∧ f 1 = 0) :
    Calls Try.prog 22 #[.agg #[.int .i64 x, v]] w fun e w' => e = .returned (failV 5) ∧ Below w.heap.size w w' := by
  obtain rfl : n = 2 := h.2.1
  have hb := h.bd
  have hnz : nrm (f 0) (f 1) = 0 := (nrm_eq0 _ _).2 h0
  have hnb : (nrm (f 0) (f 1) == 0) = true := by simpa using hnz
  obtain ⟨nv, hnv⟩ : ∃ nv, nrm (f 0) (f 1) = nv := ⟨_, rfl⟩
  rw [hnv] at hnz hnb
  obtain ⟨av, cap, rfl⟩ := hs.shape
  have hm := hs.len
  unfold maxLen at hm
  have st := ((((St.start w).addSl ⟨o, lo, hi, .slice av 2 cap, 2, f⟩ hs).alloc (.cells #[.int .i64 x, .slice av 2 cap] 27)).addBox w.heap.size [.int .i64 x, .slice av 2 cap] (Box.made _ _ _ _ (fun j v h => by simpa using h)))
  replace st := (st.alloc (.cells #[.int .i64 0, .slice none 0 0] 27)).addBox _ [.int .i64 0, .slice none 0 0] (Box.made _ _ _ _ (fun j v h => by simpa using h))
  simp only [World.size_alloc] at st
  have HC := Lib.hid h
  clear h
  go_enter Try.func22, Try.ntmps22
  replace st := (st.alloc (.cells #[.int .i64 x, .slice av 2 cap] 27)).addBox _ [.int .i64 x, .slice av 2 cap] (Box.made _ _ _ _ (fun j v h => by simpa using h))
  try simp only [World.size_alloc] at st
  have hbx := st.box 0 _ rfl
  have q0 := st.sl 0 ⟨o, lo, hi, .slice av 2 cap, 2, f⟩ rfl
  dsimp only at q0
  dsimp only at hbx
  go_wp2_with fail
  refine (l09Code1_ok _ _ _ q0 hbx HC.out).mono ?_
  rintro e w1 ⟨rfl, b1⟩
  replace st := st.keep b1
  have hz1 := b1.size
  try simp only [World.size_alloc] at hz1
  clear b1 hbx q0
  obtain ⟨x0, x1⟩ := (st.box 2 _ rfl).cell2
  have xz := (st.box 2 _ rfl).2.2
  have xs := (st.box 2 _ rfl).1
  dsimp only at x0 x1 xz xs
  have q0 := st.sl 0 ⟨o, lo, hi, .slice av 2 cap, 2, f⟩ rfl
  dsimp only at q0
  go_wp2_with fail
  refine (l09Norm_any _ _ q0 (by omega) (by omega) (by omega) (by omega)).mono ?_
  rw [hnv]
  rintro e w2 ⟨rfl, b2⟩
  replace st := st.keep b2
  have hz2 := b2.size
  try simp only [World.size_alloc] at hz2
  clear b2 q0 x0 x1 xz xs
  obtain ⟨r0, r1⟩ := (st.box 1 _ rfl).cell2
  have rz := (st.box 1 _ rfl).2.2
  have rs := (st.box 1 _ rfl).1
  dsimp only at r0 r1 rz rs
  have BB := st.1
  go_wp2
  refine bodyPost_ret (v := failV 5) (by simp [results, Try.results22, go_sem, failV, r0, r1, rs, Nat.ne_of_lt rs]) rfl ?_
  exact ⟨rfl, by go_grown⟩
theorem ChosenAssociate_spec_big (x : Int) (w : World) (hs : Sl o w lo hi v n f) (h : CuP x n f) (h0 : ¬ (f 0 = 0 ∧ f 1 = 0)) (hf : ¬ (-10000 ≤ (chA (f 0) (f 1)) ∧ (chA (f 0) (f 1)) ≤ 10000 ∧ -10000 ≤ (chB (f 0) (f 1)) ∧ (chB (f 0) (f 1)) ≤ 10000)) :
    Calls Try.prog 22 #[.agg #[.int .i64 x, v]] w fun e w' => e = .returned (failV 3) ∧ Below w.heap.size w w' := by
  obtain rfl : n = 2 := h.2.1
  have hb := h.bd
  have hnz : ¬ nrm (f 0) (f 1) = 0 := fun h => h0 ((nrm_eq0 _ _).1 h)
  have hnb : (nrm (f 0) (f 1) == 0) = false := by simpa using hnz
  obtain ⟨nv, hnv⟩ : ∃ nv, nrm (f 0) (f 1) = nv := ⟨_, rfl⟩
  rw [hnv] at hnz hnb
  obtain ⟨av, cap, rfl⟩ := hs.shape
  have hm := hs.len
  unfold maxLen at hm
  have st := ((((St.start w).addSl ⟨o, lo, hi, .slice av 2 cap, 2, f⟩ hs).alloc (.cells #[.int .i64 x, .slice av 2 cap] 27)).addBox w.heap.size [.int .i64 x, .slice av 2 cap] (Box.made _ _ _ _ (fun j v h => by simpa using h)))
  replace st := (st.alloc (.cells #[.int .i64 0, .slice none 0 0] 27)).addBox _ [.int .i64 0, .slice none 0 0] (Box.made _ _ _ _ (fun j v h => by simpa using h))
  simp only [World.size_alloc] at st
  have HC := Lib.hid h
  clear h
  have H0 := Lib.hid h0
  have HF := Lib.hid hf
  clear h0 hf
  go_enter Try.func22, Try.ntmps22
  replace st := (st.alloc (.cells #[.int .i64 x, .slice av 2 cap] 27)).addBox _ [.int .i64 x, .slice av 2 cap] (Box.made _ _ _ _ (fun j v h => by simpa using h))
  try simp only [World.size_alloc] at st
  have hbx := st.box 0 _ rfl
  have q0 := st.sl 0 ⟨o, lo, hi, .slice av 2 cap, 2, f⟩ rfl
  dsimp only at q0
  dsimp only at hbx
  go_wp2_with fail
  refine (l09Code1_ok _ _ _ q0 hbx HC.out).mono ?_
  rintro e w1 ⟨rfl, b1⟩
  replace st := st.keep b1
  have hz1 := b1.size
  try simp only [World.size_alloc] at hz1
  clear b1 hbx q0
  obtain ⟨x0, x1⟩ := (st.box 2 _ rfl).cell2
  have xz := (st.box 2 _ rfl).2.2
  have xs := (st.box 2 _ rfl).1
  dsimp only at x0 x1 xz xs
  have q0 := st.sl 0 ⟨o, lo, hi, .slice av 2 cap, 2, f⟩ rfl
  dsimp only at q0
  go_wp2_with fail
  refine (l09Norm_any _ _ q0 (by omega) (by omega) (by omega) (by omega)).mono ?_
  rw [hnv]
  rintro e w2 ⟨rfl, b2⟩
  replace st := st.keep b2
  have hz2 := b2.size
  try simp only [World.size_alloc] at hz2
  clear b2 q0 x0 x1 xz xs
  obtain ⟨x0, x1⟩ := (st.box 2 _ rfl).cell2
  have xz := (st.box 2 _ rfl).2.2
  have xs := (st.box 2 _ rfl).1
  dsimp only at x0 x1 xz xs
  have q0 := st.sl 0 ⟨o, lo, hi, .slice av 2 cap, 2, f⟩ rfl
  dsimp only at q0
  go_wp2_with fail
  refine (l09Chosen_any _ _ q0 (by omega) (by omega) (by omega) (by omega) H0.out).mono ?_
  rintro e w3 ⟨g3, k3, rfl, s3, b3⟩
  replace st := st.keep b3
  have hz3 := b3.size
  try simp only [World.size_alloc] at hz3
  clear b3 q0 x0 x1 xz xs
  replace st := st.addSl ⟨true, w2.heap.size, w3.heap.size, .slice g3 2 k3, 2, two (chA (f 0) (f 1)) (chB (f 0) (f 1))⟩ s3
  go_wp2_with fail
  refine (l09Told_no _ _ s3 HF.out).mono ?_
  rintro e w4 ⟨rfl, b4⟩
  unfold failV
  replace st := st.keep b4
  have hz4 := b4.size
  clear b4 s3
  obtain ⟨r0, r1⟩ := (st.box 1 _ rfl).cell2
  have rz := (st.box 1 _ rfl).2.2
  have rs := (st.box 1 _ rfl).1
  dsimp only at r0 r1 rz rs
  have BB := st.1
  go_wp2
  refine bodyPost_ret (v := failV 3) (by simp [results, Try.results22, go_sem, failV, r0, r1, rs, Nat.ne_of_lt rs]) rfl ?_
  exact ⟨rfl, by go_grown⟩
theorem ChosenAssociate_spec_ok (x : Int) (w : World) (hs : Sl o w lo hi v n f) (h : CuP x n f) (h0 : ¬ (f 0 = 0 ∧ f 1 = 0)) (hf : -10000 ≤ (chA (f 0) (f 1)) ∧ (chA (f 0) (f 1)) ≤ 10000 ∧ -10000 ≤ (chB (f 0) (f 1)) ∧ (chB (f 0) (f 1)) ≤ 10000) :
    Calls Try.prog 22 #[.agg #[.int .i64 x, v]] w fun e w' => ∃ g k, e = .returned (.tuple #[.agg #[.int .i64 3, .slice g 2 k], .int .i64 0]) ∧ Sl true w' w.heap.size w'.heap.size (.slice g 2 k) 2 (two (chA (f 0) (f 1)) (chB (f 0) (f 1))) ∧ Below w.heap.size w w' := by
  obtain rfl : n = 2 := h.2.1
  have hb := h.bd
  have hnz : ¬ nrm (f 0) (f 1) = 0 := fun h => h0 ((nrm_eq0 _ _).1 h)
  have hnb : (nrm (f 0) (f 1) == 0) = false := by simpa using hnz
  obtain ⟨nv, hnv⟩ : ∃ nv, nrm (f 0) (f 1) = nv := ⟨_, rfl⟩
  rw [hnv] at hnz hnb
  obtain ⟨av, cap, rfl⟩ := hs.shape
  have hm := hs.len
  unfold maxLen at hm
  have st := ((((St.start w).addSl ⟨o, lo, hi, .slice av 2 cap, 2, f⟩ hs).alloc (.cells #[.int .i64 x, .slice av 2 cap] 27)).addBox w.heap.size [.int .i64 x, .slice av 2 cap] (Box.made _ _ _ _ (fun j v h => by simpa using h)))
  replace st := (st.alloc (.cells #[.int .i64 0, .slice none 0 0] 27)).addBox _ [.int .i64 0, .slice none 0 0] (Box.made _ _ _ _ (fun j v h => by simpa using h))
  simp only [World.size_alloc] at st
  have HC := Lib.hid h
  clear h
  have H0 := Lib.hid h0
  have HF := Lib.hid hf
  clear h0 hf
  go_enter Try.func22, Try.ntmps22
  replace st := (st.alloc (.cells #[.int .i64 x, .slice av 2 cap] 27)).addBox _ [.int .i64 x, .slice av 2 cap] (Box.made _ _ _ _ (fun j v h => by simpa using h))
  try simp only [World.size_alloc] at st
  have hbx := st.box 0 _ rfl
  have q0 := st.sl 0 ⟨o, lo, hi, .slice av 2 cap, 2, f⟩ rfl
  dsimp only at q0
  dsimp only at hbx
  go_wp2_with fail
  refine (l09Code1_ok _ _ _ q0 hbx HC.out).mono ?_
  rintro e w1 ⟨rfl, b1⟩
  replace st := st.keep b1
  have hz1 := b1.size
  try simp only [World.size_alloc] at hz1
  clear b1 hbx q0
  obtain ⟨x0, x1⟩ := (st.box 2 _ rfl).cell2
  have xz := (st.box 2 _ rfl).2.2
  have xs := (st.box 2 _ rfl).1
  dsimp only at x0 x1 xz xs
  have q0 := st.sl 0 ⟨o, lo, hi, .slice av 2 cap, 2, f⟩ rfl
  dsimp only at q0
  go_wp2_with fail
  refine (l09Norm_any _ _ q0 (by omega) (by omega) (by omega) (by omega)).mono ?_
  rw [hnv]
  rintro e w2 ⟨rfl, b2⟩
  replace st := st.keep b2
  have hz2 := b2.size
  try simp only [World.size_alloc] at hz2
  clear b2 q0 x0 x1 xz xs
  obtain ⟨x0, x1⟩ := (st.box 2 _ rfl).cell2
  have xz := (st.box 2 _ rfl).2.2
  have xs := (st.box 2 _ rfl).1
  dsimp only at x0 x1 xz xs
  have q0 := st.sl 0 ⟨o, lo, hi, .slice av 2 cap, 2, f⟩ rfl
  dsimp only at q0
  go_wp2_with fail
  refine (l09Chosen_any _ _ q0 (by omega) (by omega) (by omega) (by omega) H0.out).mono ?_
  rintro e w3 ⟨g3, k3, rfl, s3, b3⟩
  replace st := st.keep b3
  have hz3 := b3.size
  try simp only [World.size_alloc] at hz3
  clear b3 q0 x0 x1 xz xs
  replace st := st.addSl ⟨true, w2.heap.size, w3.heap.size, .slice g3 2 k3, 2, two (chA (f 0) (f 1)) (chB (f 0) (f 1))⟩ s3
  go_wp2_with fail
  refine (l09Told_yes _ _ s3 HF.out.1 HF.out.2.1 HF.out.2.2.1 HF.out.2.2.2).mono ?_
  rintro e w4 ⟨rfl, b4⟩
  replace st := st.keep b4
  have hz4 := b4.size
  have s4 := s3.keep b4 s3.size
  clear b4 s3
  obtain ⟨r0, r1⟩ := (st.box 1 _ rfl).cell2
  have rz := (st.box 1 _ rfl).2.2
  have rs := (st.box 1 _ rfl).1
  dsimp only at r0 r1 rz rs
  have BB := st.1
  go_wp2
  refine bodyPost_ret (v := .tuple #[.agg #[.int .i64 3, .slice g3 2 k3], .int .i64 0]) (by simp [results, Try.results22, go_sem, r0, r1, rs, Nat.ne_of_lt rs]) rfl ?_
  refine ⟨_, _, rfl, ?_, by go_grown⟩
  exact (((s4.setOther (.inl (by show w.heap.size + 1 < _; omega)) _).setOther (.inl (by show w.heap.size + 1 < _; omega)) _).alloc _).wide (by omega) (by simp; omega) (by simp)
theorem ChosenAssociate_impl_bad (x : Int) (w : World) (hs : Sl o w lo hi v n f) (h : ¬ CuP x n f) :
    Calls Try.prog 23 #[.agg #[.int .i64 x, v]] w fun e w' => e = .returned (failV 1) ∧ Below w.heap.size w w' := by
  obtain ⟨av, cap, rfl⟩ := hs.shape
  have hm := hs.len
  unfold maxLen at hm
  have st := ((((St.start w).addSl ⟨o, lo, hi, .slice av n cap, n, f⟩ hs).alloc (.cells #[.int .i64 x, .slice av n cap] 27)).addBox w.heap.size [.int .i64 x, .slice av n cap] (Box.made _ _ _ _ (fun j v h => by simpa using h)))
  replace st := (st.alloc (.cells #[.int .i64 0, .slice none 0 0] 27)).addBox _ [.int .i64 0, .slice none 0 0] (Box.made _ _ _ _ (fun j v h => by simpa using h))
  simp only [World.size_alloc] at st
  have q0 := st.sl 0 ⟨o, lo, hi, .slice av n cap, n, f⟩ rfl
  dsimp only at q0
  have HC := Lib.hid h
  clear h
  go_enter Try.func23, Try.ntmps23
  go_wp2_with fail
  refine (openNonzero_bad _ _ q0 HC.out).mono ?_
  rintro e w1 ⟨rfl, b1⟩
  replace st := st.keep b1
  have hz1 := b1.size
  try simp only [World.size_alloc] at hz1
  clear b1
  obtain ⟨r0, r1⟩ := (st.box 0 _ rfl).cell2
  have rz := (st.box 0 _ rfl).2.2
  have rs := (st.box 0 _ rfl).1
  dsimp only at r0 r1 rz rs
  have BB := st.1
  go_wp2
  refine bodyPost_ret (v := failV 1) (by simp [results, Try.results23, go_sem, failV, r0, r1, rs, Nat.ne_of_lt rs]) rfl ?_
  exact ⟨rfl, by go_grown⟩
theorem ChosenAssociate_impl_no (x : Int) (w : World) (hs : Sl o w lo hi v n f) (h : CuP x n f) (h0 : f 0 = 0 ∧ f 1 = 0) :
    Calls Try.prog 23 #[.agg #[.int .i64 x, v]] w fun e w' => e = .returned (failV 5) ∧ Below w.heap.size w w' := by
  obtain ⟨av, cap, rfl⟩ := hs.shape
  have hm := hs.len
  unfold maxLen at hm
  have st := ((((St.start w).addSl ⟨o, lo, hi, .slice av n cap, n, f⟩ hs).alloc (.cells #[.int .i64 x, .slice av n cap] 27)).addBox w.heap.size [.int .i64 x, .slice av n cap] (Box.made _ _ _ _ (fun j v h => by simpa using h)))
  replace st := (st.alloc (.cells #[.int .i64 0, .slice none 0 0] 27)).addBox _ [.int .i64 0, .slice none 0 0] (Box.made _ _ _ _ (fun j v h => by simpa using h))
  simp only [World.size_alloc] at st
  have q0 := st.sl 0 ⟨o, lo, hi, .slice av n cap, n, f⟩ rfl
  dsimp only at q0
  have HC := Lib.hid h
  clear h
  go_enter Try.func23, Try.ntmps23
  go_wp2_with fail
  refine (openNonzero_zero _ _ q0 HC.out h0.1 h0.2).mono ?_
  rintro e w1 ⟨rfl, b1⟩
  replace st := st.keep b1
  have hz1 := b1.size
  try simp only [World.size_alloc] at hz1
  clear b1
  obtain ⟨r0, r1⟩ := (st.box 0 _ rfl).cell2
  have rz := (st.box 0 _ rfl).2.2
  have rs := (st.box 0 _ rfl).1
  dsimp only at r0 r1 rz rs
  have BB := st.1
  go_wp2
  refine bodyPost_ret (v := failV 5) (by simp [results, Try.results23, go_sem, failV, r0, r1, rs, Nat.ne_of_lt rs]) rfl ?_
  exact ⟨rfl, by go_grown⟩
theorem ChosenAssociate_impl_big (x : Int) (w : World) (hs : Sl o w lo hi v n f) (h : CuP x n f) (h0 : ¬ (f 0 = 0 ∧ f 1 = 0)) (hf : ¬ (-10000 ≤ (chA (f 0) (f 1)) ∧ (chA (f 0) (f 1)) ≤ 10000 ∧ -10000 ≤ (chB (f 0) (f 1)) ∧ (chB (f 0) (f 1)) ≤ 10000)) :
    Calls Try.prog 23 #[.agg #[.int .i64 x, v]] w fun e w' => e = .returned (failV 3) ∧ Below w.heap.size w w' := by
  have hb := h.bd
  have hbd := ch_bd (a := f 0) (b := f 1) (M := 10000) (by omega) (by omega) (by omega) (by omega)
  obtain ⟨av, cap, rfl⟩ := hs.shape
  have hm := hs.len
  unfold maxLen at hm
  have st := ((((St.start w).addSl ⟨o, lo, hi, .slice av n cap, n, f⟩ hs).alloc (.cells #[.int .i64 x, .slice av n cap] 27)).addBox w.heap.size [.int .i64 x, .slice av n cap] (Box.made _ _ _ _ (fun j v h => by simpa using h)))
  replace st := (st.alloc (.cells #[.int .i64 0, .slice none 0 0] 27)).addBox _ [.int .i64 0, .slice none 0 0] (Box.made _ _ _ _ (fun j v h => by simpa using h))
  simp only [World.size_alloc] at st
  have q0 := st.sl 0 ⟨o, lo, hi, .slice av n cap, n, f⟩ rfl
  dsimp only at q0
  have HC := Lib.hid h
  clear h
  have H0 := Lib.hid h0
  have HF := Lib.hid hf
  clear h0 hf
  go_enter Try.func23, Try.ntmps23
  go_wp2_with fail
  refine (openNonzero_ok _ _ q0 HC.out H0.out).mono ?_
  rintro e w1 ⟨rfl, b1⟩
  replace st := st.keep b1
  have hz1 := b1.size
  try simp only [World.size_alloc] at hz1
  clear b1
  replace st := (st.alloc (.cells #[.int .i64 (f 0), .int .i64 (f 1)] 59)).addBox _ [.int .i64 (f 0), .int .i64 (f 1)] (Box.made _ _ _ _ (fun j v h => by simpa using h))
  try simp only [World.size_alloc] at st
  go_wp2_with fail
  refine (associate_chosen (f 0) (f 1) _ (by omega) (by omega) (by omega) (by omega) H0.out).mono ?_
  rintro e w3 ⟨rfl, b3⟩
  replace st := st.keep b3
  have hz3 := b3.size
  try simp only [World.size_alloc] at hz3
  clear b3
  go_wp2_with fail
  refine (cubicWithin_no _ _ _ (by unfold inR; omega) (by unfold inR; omega) HF.out).mono ?_
  rintro e w4 ⟨rfl, b4⟩
  unfold failV
  replace st := st.keep b4
  have hz4 := b4.size
  clear b4
  obtain ⟨r0, r1⟩ := (st.box 1 _ rfl).cell2
  have rz := (st.box 1 _ rfl).2.2
  have rs := (st.box 1 _ rfl).1
  dsimp only at r0 r1 rz rs
  have BB := st.1
  go_wp2
  refine bodyPost_ret (v := failV 3) (by simp [results, Try.results23, go_sem, failV, r0, r1, rs, Nat.ne_of_lt rs]) rfl ?_
  exact ⟨rfl, by go_grown⟩
theorem ChosenAssociate_impl_ok (x : Int) (w : World) (hs : Sl o w lo hi v n f) (h : CuP x n f) (h0 : ¬ (f 0 = 0 ∧ f 1 = 0)) (hf : -10000 ≤ (chA (f 0) (f 1)) ∧ (chA (f 0) (f 1)) ≤ 10000 ∧ -10000 ≤ (chB (f 0) (f 1)) ∧ (chB (f 0) (f 1)) ≤ 10000) :
    Calls Try.prog 23 #[.agg #[.int .i64 x, v]] w fun e w' => ∃ g k, e = .returned (.tuple #[.agg #[.int .i64 3, .slice g 2 k], .int .i64 0]) ∧ Sl true w' w.heap.size w'.heap.size (.slice g 2 k) 2 (two (chA (f 0) (f 1)) (chB (f 0) (f 1))) ∧ Below w.heap.size w w' := by
  have hb := h.bd
  obtain ⟨av, cap, rfl⟩ := hs.shape
  have hm := hs.len
  unfold maxLen at hm
  have st := ((((St.start w).addSl ⟨o, lo, hi, .slice av n cap, n, f⟩ hs).alloc (.cells #[.int .i64 x, .slice av n cap] 27)).addBox w.heap.size [.int .i64 x, .slice av n cap] (Box.made _ _ _ _ (fun j v h => by simpa using h)))
  replace st := (st.alloc (.cells #[.int .i64 0, .slice none 0 0] 27)).addBox _ [.int .i64 0, .slice none 0 0] (Box.made _ _ _ _ (fun j v h => by simpa using h))
  simp only [World.size_alloc] at st
  have q0 := st.sl 0 ⟨o, lo, hi, .slice av n cap, n, f⟩ rfl
  dsimp only at q0
  have HC := Lib.hid h
  clear h
  have H0 := Lib.hid h0
  clear h0
  go_enter Try.func23, Try.ntmps23
  go_wp2_with fail
  refine (openNonzero_ok _ _ q0 HC.out H0.out).mono ?_
  rintro e w1 ⟨rfl, b1⟩
  replace st := st.keep b1
  have hz1 := b1.size
  try simp only [World.size_alloc] at hz1
  clear b1
  replace st := (st.alloc (.cells #[.int .i64 (f 0), .int .i64 (f 1)] 59)).addBox _ [.int .i64 (f 0), .int .i64 (f 1)] (Box.made _ _ _ _ (fun j v h => by simpa using h))
  try simp only [World.size_alloc] at st
  go_wp2_with fail
  refine (associate_chosen (f 0) (f 1) _ (by omega) (by omega) (by omega) (by omega) H0.out).mono ?_
  rintro e w3 ⟨rfl, b3⟩
  replace st := st.keep b3
  have hz3 := b3.size
  try simp only [World.size_alloc] at hz3
  clear b3
  go_wp2_with fail
  refine (cubicWithin_yes (chA (f 0) (f 1)) (chB (f 0) (f 1)) _ hf.1 hf.2.1 hf.2.2.1 hf.2.2.2).mono ?_
  rintro e w4 ⟨g4, k4, rfl, s4, b4⟩
  replace st := st.keep b4
  have hz4 := b4.size
  clear b4
  obtain ⟨r0, r1⟩ := (st.box 1 _ rfl).cell2
  have rz := (st.box 1 _ rfl).2.2
  have rs := (st.box 1 _ rfl).1
  dsimp only at r0 r1 rz rs
  have BB := st.1
  go_wp2
  refine bodyPost_ret (v := .tuple #[.agg #[.int .i64 3, .slice g4 2 k4], .int .i64 0]) (by simp [results, Try.results23, go_sem, r0, r1]) rfl ?_
  refine ⟨_, _, rfl, ?_, by go_grown⟩
  exact ((s4.setOther (.inl (by show w.heap.size + 1 < _; omega)) _).setOther (.inl (by show w.heap.size + 1 < _; omega)) _).wide (by omega) (by simp) (by simp)
theorem PrimaryAssociate_spec_bad (x : Int) (w : World) (hs : Sl o w lo hi v n f) (h : ¬ CuP x n f) :
    Calls Try.prog 26 #[.agg #[.int .i64 x, v]] w fun e w' => e = .returned (failV 1) ∧ Below w.heap.size w w' := by
  obtain ⟨av, cap, rfl⟩ := hs.shape
  have hm := hs.len
  unfold maxLen at hm
  have st := ((((St.start w).addSl ⟨o, lo, hi, .slice av n cap, n, f⟩ hs).alloc (.cells #[.int .i64 x, .slice av n cap] 27)).addBox w.heap.size [.int .i64 x, .slice av n cap] (Box.made _ _ _ _ (fun j v h => by simpa using h)))
  replace st := (st.alloc (.cells #[.int .i64 0, .slice none 0 0] 27)).addBox _ [.int .i64 0, .slice none 0 0] (Box.made _ _ _ _ (fun j v h => by simpa using h))
  simp only [World.size_alloc] at st
  have HC := Lib.hid h
  clear h
  go_enter Try.func26, Try.ntmps26
  replace st := (st.alloc (.cells #[.int .i64 x, .slice av n cap] 27)).addBox _ [.int .i64 x, .slice av n cap] (Box.made _ _ _ _ (fun j v h => by simpa using h))
  try simp only [World.size_alloc] at st
  have hbx := st.box 0 _ rfl
  have q0 := st.sl 0 ⟨o, lo, hi, .slice av n cap, n, f⟩ rfl
  dsimp only at q0
  dsimp only at hbx
  go_wp2_with fail
  refine (l09Code1_bad0 _ _ _ q0 hbx HC.out).mono ?_
  rintro e w1 ⟨rfl, b1⟩
  replace st := st.keep b1
  have hz1 := b1.size
  try simp only [World.size_alloc] at hz1
  clear b1 hbx q0
  obtain ⟨r0, r1⟩ := (st.box 1 _ rfl).cell2
  have rz := (st.box 1 _ rfl).2.2
  have rs := (st.box 1 _ rfl).1
  dsimp only at r0 r1 rz rs
  have BB := st.1
  go_wp2
  refine bodyPost_ret (v := failV 1) (by simp [results, Try.results26, go_sem, failV, r0, r1, rs, Nat.ne_of_lt rs]) rfl ?_
  exact ⟨rfl, by go_grown⟩
theorem PrimaryAssociate_spec_no (x : Int) (w : World) (hs : Sl o w lo hi v n f) (h : CuP x n f) (h0 : (f 0 + f 1) % 3 = 0) :
    Calls Try.prog 26 #[.agg #[.int .i64 x, v]] w fun e w' => e = .returned (failV 5) ∧ Below w.heap.size w w' := by
  obtain rfl : n = 2 := h.2.1
  have hb := h.bd
  have hnz : (nrm (f 0) (f 1)).tmod 3 = 0 := (tmod3 (nrm_nn _ _)).trans ((nrm_three _ _).2 h0)
  have hnb : ((nrm (f 0) (f 1)).tmod 3 == 0) = true := by simpa using hnz
  obtain ⟨nv, hnv⟩ : ∃ nv, nrm (f 0) (f 1) = nv := ⟨_, rfl⟩
  rw [hnv] at hnz hnb
  obtain ⟨av, cap, rfl⟩ := hs.shape
  have hm := hs.len
  unfold maxLen at hm
  have st := ((((St.start w).addSl ⟨o, lo, hi, .slice av 2 cap, 2, f⟩ hs).alloc (.cells #[.int .i64 x, .slice av 2 cap] 27)).addBox w.heap.size [.int .i64 x, .slice av 2 cap] (Box.made _ _ _ _ (fun j v h => by simpa using h)))
  replace st := (st.alloc (.cells #[.int .i64 0, .slice none 0 0] 27)).addBox _ [.int .i64 0, .slice none 0 0] (Box.made _ _ _ _ (fun j v h => by simpa using h))
  simp only [World.size_alloc] at st
  have HC := Lib.hid h
  clear h
  go_enter Try.func26, Try.ntmps26
  replace st := (st.alloc (.cells #[.int .i64 x, .slice av 2 cap] 27)).addBox _ [.int .i64 x, .slice av 2 cap] (Box.made _ _ _ _ (fun j v h => by simpa using h))
  try simp only [World.size_alloc] at st
  have hbx := st.box 0 _ rfl
  have q0 := st.sl 0 ⟨o, lo, hi, .slice av 2 cap, 2, f⟩ rfl
  dsimp only at q0
  dsimp only at hbx
  go_wp2_with fail
  refine (l09Code1_ok _ _ _ q0 hbx HC.out).mono ?_
  rintro e w1 ⟨rfl, b1⟩
  replace st := st.keep b1
  have hz1 := b1.size
  try simp only [World.size_alloc] at hz1
  clear b1 hbx q0
  obtain ⟨x0, x1⟩ := (st.box 2 _ rfl).cell2
  have xz := (st.box 2 _ rfl).2.2
  have xs := (st.box 2 _ rfl).1
  dsimp only at x0 x1 xz xs
  have q0 := st.sl 0 ⟨o, lo, hi, .slice av 2 cap, 2, f⟩ rfl
  dsimp only at q0
  go_wp2_with fail
  refine (l09Norm_any _ _ q0 (by omega) (by omega) (by omega) (by omega)).mono ?_
  rw [hnv]
  rintro e w2 ⟨rfl, b2⟩
  replace st := st.keep b2
  have hz2 := b2.size
  try simp only [World.size_alloc] at hz2
  clear b2 q0 x0 x1 xz xs
  obtain ⟨r0, r1⟩ := (st.box 1 _ rfl).cell2
  have rz := (st.box 1 _ rfl).2.2
  have rs := (st.box 1 _ rfl).1
  dsimp only at r0 r1 rz rs
  have BB := st.1
  go_wp2
  refine bodyPost_ret (v := failV 5) (by simp [results, Try.results26, go_sem, failV, r0, r1, rs, Nat.ne_of_lt rs]) rfl ?_
  exact ⟨rfl, by go_grown⟩
theorem PrimaryAssociate_spec_big (x : Int) (w : World) (hs : Sl o w lo hi v n f) (h : CuP x n f) (h0 : ¬ (f 0 + f 1) % 3 = 0) (hf : ¬ (-10000 ≤ (prA (f 0) (f 1)) ∧ (prA (f 0) (f 1)) ≤ 10000 ∧ -10000 ≤ (prB (f 0) (f 1)) ∧ (prB (f 0) (f 1)) ≤ 10000)) :
    Calls Try.prog 26 #[.agg #[.int .i64 x, v]] w fun e w' => e = .returned (failV 3) ∧ Below w.heap.size w w' := by
  obtain rfl : n = 2 := h.2.1
  have hb := h.bd
  have hnz : ¬ (nrm (f 0) (f 1)).tmod 3 = 0 := fun h => h0 ((nrm_three _ _).1 ((tmod3 (nrm_nn _ _)).symm.trans h))
  have hnb : ((nrm (f 0) (f 1)).tmod 3 == 0) = false := by simpa using hnz
  obtain ⟨nv, hnv⟩ : ∃ nv, nrm (f 0) (f 1) = nv := ⟨_, rfl⟩
  rw [hnv] at hnz hnb
  obtain ⟨av, cap, rfl⟩ := hs.shape
  have hm := hs.len
  unfold maxLen at hm
  have st := ((((St.start w).addSl ⟨o, lo, hi, .slice av 2 cap, 2, f⟩ hs).alloc (.cells #[.int .i64 x, .slice av 2 cap] 27)).addBox w.heap.size [.int .i64 x, .slice av 2 cap] (Box.made _ _ _ _ (fun j v h => by simpa using h)))
  replace st := (st.alloc (.cells #[.int .i64 0, .slice none 0 0] 27)).addBox _ [.int .i64 0, .slice none 0 0] (Box.made _ _ _ _ (fun j v h => by simpa using h))
  simp only [World.size_alloc] at st
  have HC := Lib.hid h
  clear h
  have H0 := Lib.hid h0
  have HF := Lib.hid hf
  clear h0 hf
  go_enter Try.func26, Try.ntmps26
  replace st := (st.alloc (.cells #[.int .i64 x, .slice av 2 cap] 27)).addBox _ [.int .i64 x, .slice av 2 cap] (Box.made _ _ _ _ (fun j v h => by simpa using h))
  try simp only [World.size_alloc] at st
  have hbx := st.box 0 _ rfl
  have q0 := st.sl 0 ⟨o, lo, hi, .slice av 2 cap, 2, f⟩ rfl
  dsimp only at q0
  dsimp only at hbx
  go_wp2_with fail
  refine (l09Code1_ok _ _ _ q0 hbx HC.out).mono ?_
  rintro e w1 ⟨rfl, b1⟩
  replace st := st.keep b1
  have hz1 := b1.size
  try simp only [World.size_alloc] at hz1
  clear b1 hbx q0
  obtain ⟨x0, x1⟩ := (st.box 2 _ rfl).cell2
  have xz := (st.box 2 _ rfl).2.2
  have xs := (st.box 2 _ rfl).1
  dsimp only at x0 x1 xz xs
  have q0 := st.sl 0 ⟨o, lo, hi, .slice av 2 cap, 2, f⟩ rfl
  dsimp only at q0
  go_wp2_with fail
  refine (l09Norm_any _ _ q0 (by omega) (by omega) (by omega) (by omega)).mono ?_
  rw [hnv]
  rintro e w2 ⟨rfl, b2⟩
  replace st := st.keep b2
  have hz2 := b2.size
  try simp only [World.size_alloc] at hz2
  clear b2 q0 x0 x1 xz xs
  obtain ⟨x0, x1⟩ := (st.box 2 _ rfl).cell2
  have xz := (st.box 2 _ rfl).2.2
  have xs := (st.box 2 _ rfl).1
  dsimp only at x0 x1 xz xs
  have q0 := st.sl 0 ⟨o, lo, hi, .slice av 2 cap, 2, f⟩ rfl
  dsimp only at q0
  go_wp2_with fail
  refine (l09Primary_any _ _ q0 (by omega) (by omega) (by omega) (by omega) H0.out).mono ?_
  rintro e w3 ⟨g3, k3, rfl, s3, b3⟩
  replace st := st.keep b3
  have hz3 := b3.size
  try simp only [World.size_alloc] at hz3
  clear b3 q0 x0 x1 xz xs
  replace st := st.addSl ⟨true, w2.heap.size, w3.heap.size, .slice g3 2 k3, 2, two (prA (f 0) (f 1)) (prB (f 0) (f 1))⟩ s3
  go_wp2_with fail
  refine (l09Told_no _ _ s3 HF.out).mono ?_
  rintro e w4 ⟨rfl, b4⟩
  unfold failV
  replace st := st.keep b4
  have hz4 := b4.size
  clear b4 s3
  obtain ⟨r0, r1⟩ := (st.box 1 _ rfl).cell2
  have rz := (st.box 1 _ rfl).2.2
  have rs := (st.box 1 _ rfl).1
  dsimp only at r0 r1 rz rs
  have BB := st.1
  go_wp2
  refine bodyPost_ret (v := failV 3) (by simp [results, Try.results26, go_sem, failV, r0, r1, rs, Nat.ne_of_lt rs]) rfl ?_
  exact ⟨rfl, by go_grown⟩
theorem PrimaryAssociate_spec_ok (x : Int) (w : World) (hs : Sl o w lo hi v n f) (h : CuP x n f) (h0 : ¬ (f 0 + f 1) % 3 = 0) (hf : -10000 ≤ (prA (f 0) (f 1)) ∧ (prA (f 0) (f 1)) ≤ 10000 ∧ -10000 ≤ (prB (f 0) (f 1)) ∧ (prB (f 0) (f 1)) ≤ 10000) :
    Calls Try.prog 26 #[.agg #[.int .i64 x, v]] w fun e w' => ∃ g k, e = .returned (.tuple #[.agg #[.int .i64 3, .slice g 2 k], .int .i64 0]) ∧ Sl true w' w.heap.size w'.heap.size (.slice g 2 k) 2 (two (prA (f 0) (f 1)) (prB (f 0) (f 1))) ∧ Below w.heap.size w w' := by
  obtain rfl : n = 2 := h.2.1
  have hb := h.bd
  have hnz : ¬ (nrm (f 0) (f 1)).tmod 3 = 0 := fun h => h0 ((nrm_three _ _).1 ((tmod3 (nrm_nn _ _)).symm.trans h))
  have hnb : ((nrm (f 0) (f 1)).tmod 3 == 0) = false := by simpa using hnz
  obtain ⟨nv, hnv⟩ : ∃ nv, nrm (f 0) (f 1) = nv := ⟨_, rfl⟩
  rw [hnv] at hnz hnb
  obtain ⟨av, cap, rfl⟩ := hs.shape
  have hm := hs.len
  unfold maxLen at hm
  have st := ((((St.start w).addSl ⟨o, lo, hi, .slice av 2 cap, 2, f⟩ hs).alloc (.cells #[.int .i64 x, .slice av 2 cap] 27)).addBox w.heap.size [.int .i64 x, .slice av 2 cap] (Box.made _ _ _ _ (fun j v h => by simpa using h)))
  replace st := (st.alloc (.cells #[.int .i64 0, .slice none 0 0] 27)).addBox _ [.int .i64 0, .slice none 0 0] (Box.made _ _ _ _ (fun j v h => by simpa using h))
  simp only [World.size_alloc] at st
  have HC := Lib.hid h
  clear h
  have H0 := Lib.hid h0
  have HF := Lib.hid hf
  clear h0 hf
  go_enter Try.func26, Try.ntmps26
  replace st := (st.alloc (.cells #[.int .i64 x, .slice av 2 cap] 27)).addBox _ [.int .i64 x, .slice av 2 cap] (Box.made _ _ _ _ (fun j v h => by simpa using h))
  try simp only [World.size_alloc] at st
  have hbx := st.box 0 _ rfl
  have q0 := st.sl 0 ⟨o, lo, hi, .slice av 2 cap, 2, f⟩ rfl
  dsimp only at q0
  dsimp only at hbx
  go_wp2_with fail
  refine (l09Code1_ok _ _ _ q0 hbx HC.out).mono ?_
  rintro e w1 ⟨rfl, b1⟩
  replace st := st.keep b1
  have hz1 := b1.size
  try simp only [World.size_alloc] at hz1
  clear b1 hbx q0
  obtain ⟨x0, x1⟩ := (st.box 2 _ rfl).cell2
  have xz := (st.box 2 _ rfl).2.2
  have xs := (st.box 2 _ rfl).1
  dsimp only at x0 x1 xz xs
  have q0 := st.sl 0 ⟨o, lo, hi, .slice av 2 cap, 2, f⟩ rfl
  dsimp only at q0
  go_wp2_with fail
  refine (l09Norm_any _ _ q0 (by omega) (by omega) (by omega) (by omega)).mono ?_
  rw [hnv]
  rintro e w2 ⟨rfl, b2⟩
  replace st := st.keep b2
  have hz2 := b2.size
  try simp only [World.size_alloc] at hz2
  clear b2 q0 x0 x1 xz xs
  obtain ⟨x0, x1⟩ := (st.box 2 _ rfl).cell2
  have xz := (st.box 2 _ rfl).2.2
  have xs := (st.box 2 _ rfl).1
  dsimp only at x0 x1 xz xs
  have q0 := st.sl 0 ⟨o, lo, hi, .slice av 2 cap, 2, f⟩ rfl
  dsimp only at q0
  go_wp2_with fail
  refine (l09Primary_any _ _ q0 (by omega) (by omega) (by omega) (by omega) H0.out).mono ?_
  rintro e w3 ⟨g3, k3, rfl, s3, b3⟩
  replace st := st.keep b3
  have hz3 := b3.size
  try simp only [World.size_alloc] at hz3
  clear b3 q0 x0 x1 xz xs
  replace st := st.addSl ⟨true, w2.heap.size, w3.heap.size, .slice g3 2 k3, 2, two (prA (f 0) (f 1)) (prB (f 0) (f 1))⟩ s3
  go_wp2_with fail
  refine (l09Told_yes _ _ s3 HF.out.1 HF.out.2.1 HF.out.2.2.1 HF.out.2.2.2).mono ?_
  rintro e w4 ⟨rfl, b4⟩
  replace st := st.keep b4
  have hz4 := b4.size
  have s4 := s3.keep b4 s3.size
  clear b4 s3
  obtain ⟨r0, r1⟩ := (st.box 1 _ rfl).cell2
  have rz := (st.box 1 _ rfl).2.2
  have rs := (st.box 1 _ rfl).1
  dsimp only at r0 r1 rz rs
  have BB := st.1
  go_wp2
  refine bodyPost_ret (v := .tuple #[.agg #[.int .i64 3, .slice g3 2 k3], .int .i64 0]) (by simp [results, Try.results26, go_sem, r0, r1, rs, Nat.ne_of_lt rs]) rfl ?_
  refine ⟨_, _, rfl, ?_, by go_grown⟩
  exact (((s4.setOther (.inl (by show w.heap.size + 1 < _; omega)) _).setOther (.inl (by show w.heap.size + 1 < _; omega)) _).alloc _).wide (by omega) (by simp; omega) (by simp)
theorem PrimaryAssociate_impl_bad (x : Int) (w : World) (hs : Sl o w lo hi v n f) (h : ¬ CuP x n f) :
    Calls Try.prog 27 #[.agg #[.int .i64 x, v]] w fun e w' => e = .returned (failV 1) ∧ Below w.heap.size w w' := by
  obtain ⟨av, cap, rfl⟩ := hs.shape
  have hm := hs.len
  unfold maxLen at hm
  have st := ((((St.start w).addSl ⟨o, lo, hi, .slice av n cap, n, f⟩ hs).alloc (.cells #[.int .i64 x, .slice av n cap] 27)).addBox w.heap.size [.int .i64 x, .slice av n cap] (Box.made _ _ _ _ (fun j v h => by simpa using h)))
  replace st := (st.alloc (.cells #[.int .i64 0, .slice none 0 0] 27)).addBox _ [.int .i64 0, .slice none 0 0] (Box.made _ _ _ _ (fun j v h => by simpa using h))
  simp only [World.size_alloc] at st
  have q0 := st.sl 0 ⟨o, lo, hi, .slice av n cap, n, f⟩ rfl
  dsimp only at q0
  have HC := Lib.hid h
  clear h
  go_enter Try.func27, Try.ntmps27
  go_wp2_with fail
  refine (openCubic_bad _ _ q0 HC.out).mono ?_
  rintro e w1 ⟨rfl, b1⟩
  replace st := st.keep b1
  have hz1 := b1.size
  try simp only [World.size_alloc] at hz1
  clear b1
  obtain ⟨r0, r1⟩ := (st.box 0 _ rfl).cell2
  have rz := (st.box 0 _ rfl).2.2
  have rs := (st.box 0 _ rfl).1
  dsimp only at r0 r1 rz rs
  have BB := st.1
  go_wp2
  refine bodyPost_ret (v := failV 1) (by simp [results, Try.results27, go_sem, failV, r0, r1, rs, Nat.ne_of_lt rs]) rfl ?_
  exact ⟨rfl, by go_grown⟩
theorem PrimaryAssociate_impl_no (x : Int) (w : World) (hs : Sl o w lo hi v n f) (h : CuP x n f) (h0 : (f 0 + f 1) % 3 = 0) :
    Calls Try.prog 27 #[.agg #[.int .i64 x, v]] w fun e w' => e = .returned (failV 5) ∧ Below w.heap.size w w' := by
  have hb := h.bd
  have hnz : (nrm (f 0) (f 1)).tmod 3 = 0 := (tmod3 (nrm_nn _ _)).trans ((nrm_three _ _).2 h0)
  have hnb : ((nrm (f 0) (f 1)).tmod 3 == 0) = true := by simpa using hnz
  obtain ⟨nv, hnv⟩ : ∃ nv, nrm (f 0) (f 1) = nv := ⟨_, rfl⟩
  rw [hnv] at hnz hnb
  obtain ⟨av, cap, rfl⟩ := hs.shape
  have hm := hs.len
  unfold maxLen at hm
  have st := ((((St.start w).addSl ⟨o, lo, hi, .slice av n cap, n, f⟩ hs).alloc (.cells #[.int .i64 x, .slice av n cap] 27)).addBox w.heap.size [.int .i64 x, .slice av n cap] (Box.made _ _ _ _ (fun j v h => by simpa using h)))
  replace st := (st.alloc (.cells #[.int .i64 0, .slice none 0 0] 27)).addBox _ [.int .i64 0, .slice none 0 0] (Box.made _ _ _ _ (fun j v h => by simpa using h))
  simp only [World.size_alloc] at st
  have q0 := st.sl 0 ⟨o, lo, hi, .slice av n cap, n, f⟩ rfl
  dsimp only at q0
  have HC := Lib.hid h
  clear h
  go_enter Try.func27, Try.ntmps27
  go_wp2_with fail
  refine (openCubic_ok _ _ q0 HC.out).mono ?_
  rintro e w1 ⟨rfl, b1⟩
  replace st := st.keep b1
  have hz1 := b1.size
  try simp only [World.size_alloc] at hz1
  clear b1
  replace st := (st.alloc (.cells #[.int .i64 (f 0), .int .i64 (f 1)] 59)).addBox _ [.int .i64 (f 0), .int .i64 (f 1)] (Box.made _ _ _ _ (fun j v h => by simpa using h))
  try simp only [World.size_alloc] at st
  go_wp2_with fail
  refine (norm_impl (f 0) (f 1) _ (by omega) (by omega) (by omega) (by omega)).mono ?_
  rw [hnv]
  rintro e w2 ⟨rfl, b2⟩
  replace st := st.keep b2
  have hz2 := b2.size
  try simp only [World.size_alloc] at hz2
  clear b2
  obtain ⟨u0, u1⟩ := (st.box 0 _ rfl).cell2
  have uz := (st.box 0 _ rfl).2.2
  have us := (st.box 0 _ rfl).1
  dsimp only at u0 u1 uz us
  obtain ⟨r0, r1⟩ := (st.box 1 _ rfl).cell2
  have rz := (st.box 1 _ rfl).2.2
  have rs := (st.box 1 _ rfl).1
  dsimp only at r0 r1 rz rs
  have BB := st.1
  go_wp2
  refine bodyPost_ret (v := failV 5) (by simp [results, Try.results27, go_sem, failV, r0, r1, rs, Nat.ne_of_lt rs]) rfl ?_
  exact ⟨rfl, by go_grown⟩
theorem PrimaryAssociate_impl_big (x : Int) (w : World) (hs : Sl o w lo hi v n f) (h : CuP x n f) (h0 : ¬ (f 0 + f 1) % 3 = 0) (hf : ¬ (-10000 ≤ (prA (f 0) (f 1)) ∧ (prA (f 0) (f 1)) ≤ 10000 ∧ -10000 ≤ (prB (f 0) (f 1)) ∧ (prB (f 0) (f 1)) ≤ 10000)) :
    Calls Try.prog 27 #[.agg #[.int .i64 x, v]] w fun e w' => e = .returned (failV 3) ∧ Below w.heap.size w w' := by
  have hb := h.bd
  have hnz : ¬ (nrm (f 0) (f 1)).tmod 3 = 0 := fun h => h0 ((nrm_three _ _).1 ((tmod3 (nrm_nn _ _)).symm.trans h))
  have hnb : ((nrm (f 0) (f 1)).tmod 3 == 0) = false := by simpa using hnz
  obtain ⟨nv, hnv⟩ : ∃ nv, nrm (f 0) (f 1) = nv := ⟨_, rfl⟩
  rw [hnv] at hnz hnb
  have hbd := pr_bd (a := f 0) (b := f 1) (M := 10000) (by omega) (by omega) (by omega) (by omega)
  obtain ⟨av, cap, rfl⟩ := hs.shape
  have hm := hs.len
  unfold maxLen at hm
  have st := ((((St.start w).addSl ⟨o, lo, hi, .slice av n cap, n, f⟩ hs).alloc (.cells #[.int .i64 x, .slice av n cap] 27)).addBox w.heap.size [.int .i64 x, .slice av n cap] (Box.made _ _ _ _ (fun j v h => by simpa using h)))
  replace st := (st.alloc (.cells #[.int .i64 0, .slice none 0 0] 27)).addBox _ [.int .i64 0, .slice none 0 0] (Box.made _ _ _ _ (fun j v h => by simpa using h))
  simp only [World.size_alloc] at st
  have q0 := st.sl 0 ⟨o, lo, hi, .slice av n cap, n, f⟩ rfl
  dsimp only at q0
  have HC := Lib.hid h
  clear h
  have H0 := Lib.hid h0
  have HF := Lib.hid hf
  clear h0 hf
  go_enter Try.func27, Try.ntmps27
  go_wp2_with fail
  refine (openCubic_ok _ _ q0 HC.out).mono ?_
  rintro e w1 ⟨rfl, b1⟩
  replace st := st.keep b1
  have hz1 := b1.size
  try simp only [World.size_alloc] at hz1
  clear b1
  replace st := (st.alloc (.cells #[.int .i64 (f 0), .int .i64 (f 1)] 59)).addBox _ [.int .i64 (f 0), .int .i64 (f 1)] (Box.made _ _ _ _ (fun j v h => by simpa using h))
  try simp only [World.size_alloc] at st
  go_wp2_with fail
  refine (norm_impl (f 0) (f 1) _ (by omega) (by omega) (by omega) (by omega)).mono ?_
  rw [hnv]
  rintro e w2 ⟨rfl, b2⟩
  replace st := st.keep b2
  have hz2 := b2.size
  try simp only [World.size_alloc] at hz2
  clear b2
  obtain ⟨u0, u1⟩ := (st.box 0 _ rfl).cell2
  have uz := (st.box 0 _ rfl).2.2
  have us := (st.box 0 _ rfl).1
  dsimp only at u0 u1 uz us
  go_wp2_with fail
  refine (associate_primary (f 0) (f 1) _ (by omega) (by omega) (by omega) (by omega) H0.out).mono ?_
  rintro e w3 ⟨rfl, b3⟩
  replace st := st.keep b3
  have hz3 := b3.size
  try simp only [World.size_alloc] at hz3
  clear b3
  go_wp2_with fail
  refine (cubicWithin_no _ _ _ (by unfold inR; omega) (by unfold inR; omega) HF.out).mono ?_
  rintro e w4 ⟨rfl, b4⟩
  unfold failV
  replace st := st.keep b4
  have hz4 := b4.size
  clear b4
  obtain ⟨r0, r1⟩ := (st.box 1 _ rfl).cell2
  have rz := (st.box 1 _ rfl).2.2
  have rs := (st.box 1 _ rfl).1
  dsimp only at r0 r1 rz rs
  have BB := st.1
  go_wp2
  refine bodyPost_ret (v := failV 3) (by simp [results, Try.results27, go_sem, failV, r0, r1, rs, Nat.ne_of_lt rs]) rfl ?_
  exact ⟨rfl, by go_grown⟩
theorem PrimaryAssociate_impl_ok (x : Int) (w : World) (hs : Sl o w lo hi v n f) (h : CuP x n f) (h0 : ¬ (f 0 + f 1) % 3 = 0) (hf : -10000 ≤ (prA (f 0) (f 1)) ∧ (prA (f 0) (f 1)) ≤ 10000 ∧ -10000 ≤ (prB (f 0) (f 1)) ∧ (prB (f 0) (f 1)) ≤ 10000) :
    Calls Try.prog 27 #[.agg #[.int .i64 x, v]] w fun e w' => ∃ g k, e = .returned (.tuple #[.agg #[.int .i64 3, .slice g 2 k], .int .i64 0]) ∧ Sl true w' w.heap.size w'.heap.size (.slice g 2 k) 2 (two (prA (f 0) (f 1)) (prB (f 0) (f 1))) ∧ Below w.heap.size w w' := by
  have hb := h.bd
  have hnz : ¬ (nrm (f 0) (f 1)).tmod 3 = 0 := fun h => h0 ((nrm_three _ _).1 ((tmod3 (nrm_nn _ _)).symm.trans h))
  have hnb : ((nrm (f 0) (f 1)).tmod 3 == 0) = false := by simpa using hnz
  obtain ⟨nv, hnv⟩ : ∃ nv, nrm (f 0) (f 1) = nv := ⟨_, rfl⟩
  rw [hnv] at hnz hnb
  obtain ⟨av, cap, rfl⟩ := hs.shape
  have hm := hs.len
  unfold maxLen at hm
  have st := ((((St.start w).addSl ⟨o, lo, hi, .slice av n cap, n, f⟩ hs).alloc (.cells #[.int .i64 x, .slice av n cap] 27)).addBox w.heap.size [.int .i64 x, .slice av n cap] (Box.made _ _ _ _ (fun j v h => by simpa using h)))
  replace st := (st.alloc (.cells #[.int .i64 0, .slice none 0 0] 27)).addBox _ [.int .i64 0, .slice none 0 0] (Box.made _ _ _ _ (fun j v h => by simpa using h))
  simp only [World.size_alloc] at st
  have q0 := st.sl 0 ⟨o, lo, hi, .slice av n cap, n, f⟩ rfl
  dsimp only at q0
  have HC := Lib.hid h
  clear h
  have H0 := Lib.hid h0
  clear h0
  go_enter Try.func27, Try.ntmps27
  go_wp2_with fail
  refine (openCubic_ok _ _ q0 HC.out).mono ?_
  rintro e w1 ⟨rfl, b1⟩
  replace st := st.keep b1
  have hz1 := b1.size
  try simp only [World.size_alloc] at hz1
  clear b1
  replace st := (st.alloc (.cells #[.int .i64 (f 0), .int .i64 (f 1)] 59)).addBox _ [.int .i64 (f 0), .int .i64 (f 1)] (Box.made _ _ _ _ (fun j v h => by simpa using h))
  try simp only [World.size_alloc] at st
  go_wp2_with fail
  refine (norm_impl (f 0) (f 1) _ (by omega) (by omega) (by omega) (by omega)).mono ?_
  rw [hnv]
  rintro e w2 ⟨rfl, b2⟩
  replace st := st.keep b2
  have hz2 := b2.size
  try simp only [World.size_alloc] at hz2
  clear b2
  obtain ⟨u0, u1⟩ := (st.box 0 _ rfl).cell2
  have uz := (st.box 0 _ rfl).2.2
  have us := (st.box 0 _ rfl).1
  dsimp only at u0 u1 uz us
  go_wp2_with fail
  refine (associate_primary (f 0) (f 1) _ (by omega) (by omega) (by omega) (by omega) H0.out).mono ?_
  rintro e w3 ⟨rfl, b3⟩
  replace st := st.keep b3
  have hz3 := b3.size
  try simp only [World.size_alloc] at hz3
  clear b3
  go_wp2_with fail
  refine (cubicWithin_yes (prA (f 0) (f 1)) (prB (f 0) (f 1)) _ hf.1 hf.2.1 hf.2.2.1 hf.2.2.2).mono ?_
  rintro e w4 ⟨g4, k4, rfl, s4, b4⟩
  replace st := st.keep b4
  have hz4 := b4.size
  clear b4
  obtain ⟨r0, r1⟩ := (st.box 1 _ rfl).cell2
  have rz := (st.box 1 _ rfl).2.2
  have rs := (st.box 1 _ rfl).1
  dsimp only at r0 r1 rz rs
  have BB := st.1
  go_wp2
  refine bodyPost_ret (v := .tuple #[.agg #[.int .i64 3, .slice g4 2 k4], .int .i64 0]) (by simp [results, Try.results27, go_sem, r0, r1]) rfl ?_
  refine ⟨_, _, rfl, ?_, by go_grown⟩
  exact ((s4.setOther (.inl (by show w.heap.size + 1 < _; omega)) _).setOther (.inl (by show w.heap.size + 1 < _; omega)) _).wide (by omega) (by simp) (by simp)
end
end Go.Proofs.Ytfadlnbmpgbeaaa
