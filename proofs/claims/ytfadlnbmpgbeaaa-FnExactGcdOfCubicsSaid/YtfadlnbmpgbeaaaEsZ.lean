/- GcdOfCubics of the program and of the model. -/
import Derived.Test.YtfadlnbmpgbeaaaEsY
import Derived.Test.YtfadlnbmpgbeaaaEsW
import Derived.Deep.RegionLaw
namespace Go.Proofs.Ytfadlnbmpgbeaaa
open Go.RowKit Go.ChangeShapes Go.Sort
set_option linter.unusedVariables false
set_option linter.unusedSimpArgs false
set_option maxRecDepth 100000
set_option maxHeartbeats 4000000

section
variable {o o' : Bool} {lo hi n lo' hi' n' : Nat} {v v' : Value} {f f' : Nat → Int}
theorem GcdOfCubics_spec_bad (x x' : Int) (w : World) (hs : Sl o w lo hi v n f) (hs' : Sl o' w lo' hi' v' n' f') (h : ¬ (CuP x n f ∧ CuP x' n' f')) :
    Calls Try.prog 30 #[.agg #[.int .i64 x, v], .agg #[.int .i64 x', v']] w fun e w' => e = .returned (failV 1) ∧ Below w.heap.size w w' := by
  by_cases h1 : CuP x n f
  · have h2 : ¬ CuP x' n' f' := fun g => h ⟨h1, g⟩
    obtain ⟨av, cap, rfl⟩ := hs.shape
    obtain ⟨av', cap', rfl⟩ := hs'.shape
    have hh := hs.size
    have hh' := hs'.size
    have st := (((((St.start w).addSl ⟨o, lo, hi, .slice av n cap, n, f⟩ hs).addSl ⟨o', lo', hi', .slice av' n' cap', n', f'⟩ hs').alloc (.cells #[.int .i64 x, .slice av n cap] 27)).addBox w.heap.size [.int .i64 x, .slice av n cap] (Box.made _ _ _ _ (fun j v h => by simpa using h)))
    replace st := (st.alloc (.cells #[.int .i64 x', .slice av' n' cap'] 27)).addBox _ [.int .i64 x', .slice av' n' cap'] (Box.made _ _ _ _ (fun j v h => by simpa using h))
    simp only [World.size_alloc] at st
    replace st := (st.alloc (.cells #[.int .i64 0, .slice none 0 0] 27)).addBox _ [.int .i64 0, .slice none 0 0] (Box.made _ _ _ _ (fun j v h => by simpa using h))
    simp only [World.size_alloc] at st
    have HC := Lib.hid h1
    have HC' := Lib.hid h2
    clear h h1 h2
    go_enter Try.func30, Try.ntmps30
    replace st := (st.alloc (.cells #[.int .i64 x, .slice av n cap, .int .i64 x', .slice av' n' cap'] 27)).addBox _ [.int .i64 x, .slice av n cap, .int .i64 x', .slice av' n' cap'] (Box.made _ _ _ _ (fun j v h => by simpa using h))
    simp only [World.size_alloc] at st
    have hbx := st.box 0 _ rfl
    have q0 := st.sl 1 ⟨o, lo, hi, .slice av n cap, n, f⟩ rfl
    have q1 := st.sl 0 ⟨o', lo', hi', .slice av' n' cap', n', f'⟩ rfl
    dsimp only at q0 q1
    dsimp only at hbx
    go_wp2_with fail
    refine (l09Code2_bad1 _ _ _ _ q0 q1 hbx HC.out HC'.out).mono ?_
    rintro e w1 ⟨rfl, b1⟩
    replace st := st.keep b1
    have hz1 := b1.size
    try simp only [World.size_alloc] at hz1
    clear b1 hbx q0 q1
    obtain ⟨r0, r1⟩ := (st.box 1 _ rfl).cell2
    have rz := (st.box 1 _ rfl).2.2
    have rs := (st.box 1 _ rfl).1
    dsimp only at r0 r1 rz rs
    have BB := st.1
    go_wp2
    refine bodyPost_ret (v := failV 1) (by simp [results, Try.results30, go_sem, failV, r0, r1, rs, Nat.ne_of_lt rs]) rfl ?_
    exact ⟨rfl, by go_grown⟩
  · have HC := Lib.hid h1
    clear h h1
    obtain ⟨av, cap, rfl⟩ := hs.shape
    obtain ⟨av', cap', rfl⟩ := hs'.shape
    have hh := hs.size
    have hh' := hs'.size
    have st := (((((St.start w).addSl ⟨o, lo, hi, .slice av n cap, n, f⟩ hs).addSl ⟨o', lo', hi', .slice av' n' cap', n', f'⟩ hs').alloc (.cells #[.int .i64 x, .slice av n cap] 27)).addBox w.heap.size [.int .i64 x, .slice av n cap] (Box.made _ _ _ _ (fun j v h => by simpa using h)))
    replace st := (st.alloc (.cells #[.int .i64 x', .slice av' n' cap'] 27)).addBox _ [.int .i64 x', .slice av' n' cap'] (Box.made _ _ _ _ (fun j v h => by simpa using h))
    simp only [World.size_alloc] at st
    replace st := (st.alloc (.cells #[.int .i64 0, .slice none 0 0] 27)).addBox _ [.int .i64 0, .slice none 0 0] (Box.made _ _ _ _ (fun j v h => by simpa using h))
    simp only [World.size_alloc] at st
    go_enter Try.func30, Try.ntmps30
    replace st := (st.alloc (.cells #[.int .i64 x, .slice av n cap, .int .i64 x', .slice av' n' cap'] 27)).addBox _ [.int .i64 x, .slice av n cap, .int .i64 x', .slice av' n' cap'] (Box.made _ _ _ _ (fun j v h => by simpa using h))
    simp only [World.size_alloc] at st
    have hbx := st.box 0 _ rfl
    have q0 := st.sl 1 ⟨o, lo, hi, .slice av n cap, n, f⟩ rfl
    have q1 := st.sl 0 ⟨o', lo', hi', .slice av' n' cap', n', f'⟩ rfl
    dsimp only at q0 q1
    dsimp only at hbx
    go_wp2_with fail
    refine (l09Code2_bad0 _ _ _ _ q0 q1 hbx HC.out).mono ?_
    rintro e w1 ⟨rfl, b1⟩
    replace st := st.keep b1
    have hz1 := b1.size
    try simp only [World.size_alloc] at hz1
    clear b1 hbx q0 q1
    obtain ⟨r0, r1⟩ := (st.box 1 _ rfl).cell2
    have rz := (st.box 1 _ rfl).2.2
    have rs := (st.box 1 _ rfl).1
    dsimp only at r0 r1 rz rs
    have BB := st.1
    go_wp2
    refine bodyPost_ret (v := failV 1) (by simp [results, Try.results30, go_sem, failV, r0, r1, rs, Nat.ne_of_lt rs]) rfl ?_
    exact ⟨rfl, by go_grown⟩
theorem GcdOfCubics_spec_zero (x x' : Int) (w : World) (hs : Sl o w lo hi v n f) (hs' : Sl o' w lo' hi' v' n' f') (h : CuP x n f) (h' : CuP x' n' f') (h0 : (f 0 = 0 ∧ f 1 = 0) ∧ (f' 0 = 0 ∧ f' 1 = 0)) :
    Calls Try.prog 30 #[.agg #[.int .i64 x, v], .agg #[.int .i64 x', v']] w fun e w' => e = .returned (failV 5) ∧ Below w.heap.size w w' := by
  obtain rfl : n = 2 := h.2.1
  obtain rfl : n' = 2 := h'.2.1
  have hb := h.bd
  have hb' := h'.bd
  have hn1 := nrm_le (M := 10000) hb.1 hb.2.1 hb.2.2.1 hb.2.2.2
  have hn2 := nrm_le (M := 10000) hb'.1 hb'.2.1 hb'.2.2.1 hb'.2.2.2
  have z1 : nrm (f 0) (f 1) = 0 ↔ f 0 = 0 ∧ f 1 = 0 := nrm_eq0 _ _
  have z2 : nrm (f' 0) (f' 1) = 0 ↔ f' 0 = 0 ∧ f' 1 = 0 := nrm_eq0 _ _
  have HC := Lib.hid h
  have HC' := Lib.hid h'
  clear h h'
  obtain ⟨av, cap, rfl⟩ := hs.shape
  obtain ⟨av', cap', rfl⟩ := hs'.shape
  have hh := hs.size
  have hh' := hs'.size
  have st := (((((St.start w).addSl ⟨o, lo, hi, .slice av 2 cap, 2, f⟩ hs).addSl ⟨o', lo', hi', .slice av' 2 cap', 2, f'⟩ hs').alloc (.cells #[.int .i64 x, .slice av 2 cap] 27)).addBox w.heap.size [.int .i64 x, .slice av 2 cap] (Box.made _ _ _ _ (fun j v h => by simpa using h)))
  replace st := (st.alloc (.cells #[.int .i64 x', .slice av' 2 cap'] 27)).addBox _ [.int .i64 x', .slice av' 2 cap'] (Box.made _ _ _ _ (fun j v h => by simpa using h))
  simp only [World.size_alloc] at st
  replace st := (st.alloc (.cells #[.int .i64 0, .slice none 0 0] 27)).addBox _ [.int .i64 0, .slice none 0 0] (Box.made _ _ _ _ (fun j v h => by simpa using h))
  simp only [World.size_alloc] at st
  have HN := Lib.hid (show nrm (f 0) (f 1) ≤ 300000000 ∧ nrm (f' 0) (f' 1) ≤ 300000000 from ⟨by omega, by omega⟩)
  obtain ⟨N, hN⟩ : ∃ N, nrm (f 0) (f 1) = N := ⟨_, rfl⟩
  obtain ⟨N', hN'⟩ : ∃ N', nrm (f' 0) (f' 1) = N' := ⟨_, rfl⟩
  rw [hN] at z1
  rw [hN'] at z2
  have NN := Lib.hid (show nrm (f 0) (f 1) = N ∧ nrm (f' 0) (f' 1) = N' from ⟨hN, hN'⟩)
  have Z1 := Lib.hid z1
  have Z2 := Lib.hid z2
  clear z1 z2 hN hN' hn1 hn2
  go_enter Try.func30, Try.ntmps30
  replace st := (st.alloc (.cells #[.int .i64 x, .slice av 2 cap, .int .i64 x', .slice av' 2 cap'] 27)).addBox _ [.int .i64 x, .slice av 2 cap, .int .i64 x', .slice av' 2 cap'] (Box.made _ _ _ _ (fun j v h => by simpa using h))
  simp only [World.size_alloc] at st
  have hbx := st.box 0 _ rfl
  have q0 := st.sl 1 ⟨o, lo, hi, .slice av 2 cap, 2, f⟩ rfl
  have q1 := st.sl 0 ⟨o', lo', hi', .slice av' 2 cap', 2, f'⟩ rfl
  dsimp only at q0 q1
  dsimp only at hbx
  go_wp2_with fail
  refine (l09Code2_ok _ _ _ _ q0 q1 hbx HC.out HC'.out).mono ?_
  rintro e w1 ⟨rfl, b1⟩
  replace st := st.keep b1
  have hz1 := b1.size
  try simp only [World.size_alloc] at hz1
  clear b1 hbx q0 q1
  have hzx : N = 0 := Z1.out.2 h0.1
  have hzy : N' = 0 := Z2.out.2 h0.2
  subst hzx
  subst hzy
  obtain ⟨x0, x1⟩ := (st.box 3 _ rfl).cell2
  have xz := (st.box 3 _ rfl).2.2
  have xs := (st.box 3 _ rfl).1
  dsimp only at x0 x1 xz xs
  obtain ⟨y0, y1⟩ := (st.box 2 _ rfl).cell2
  have yz := (st.box 2 _ rfl).2.2
  have ys := (st.box 2 _ rfl).1
  dsimp only at y0 y1 yz ys
  have q2 := st.sl 1 ⟨o, lo, hi, .slice av 2 cap, 2, f⟩ rfl
  dsimp only at q2
  go_wp2_with fail
  refine (l09Norm_any _ _ q2 (by omega) (by omega) (by omega) (by omega)).mono ?_
  rw [NN.out.1]
  rintro e w2 ⟨rfl, b2⟩
  replace st := st.keep b2
  have hz2 := b2.size
  clear b2 q2
  clear x0 x1 xz xs y0 y1 yz ys
  obtain ⟨x0, x1⟩ := (st.box 3 _ rfl).cell2
  have xz := (st.box 3 _ rfl).2.2
  have xs := (st.box 3 _ rfl).1
  dsimp only at x0 x1 xz xs
  obtain ⟨y0, y1⟩ := (st.box 2 _ rfl).cell2
  have yz := (st.box 2 _ rfl).2.2
  have ys := (st.box 2 _ rfl).1
  dsimp only at y0 y1 yz ys
  have q3 := st.sl 0 ⟨o', lo', hi', .slice av' 2 cap', 2, f'⟩ rfl
  dsimp only at q3
  go_wp2_with fail
  refine (l09Norm_any _ _ q3 (by omega) (by omega) (by omega) (by omega)).mono ?_
  rw [NN.out.2]
  rintro e w3 ⟨rfl, b3⟩
  replace st := st.keep b3
  have hz3 := b3.size
  clear b3 q3
  clear x0 x1 xz xs y0 y1 yz ys
  obtain ⟨r0, r1⟩ := (st.box 1 _ rfl).cell2
  have rz := (st.box 1 _ rfl).2.2
  have rs := (st.box 1 _ rfl).1
  dsimp only at r0 r1 rz rs
  have BB := st.1
  go_wp2
  refine bodyPost_ret (v := failV 5) (by simp [results, Try.results30, go_sem, failV, r0, r1, rs, Nat.ne_of_lt rs]) rfl ?_
  exact ⟨rfl, by go_grown⟩
theorem GcdOfCubics_spec_ok (x x' : Int) (w : World) (hs : Sl o w lo hi v n f) (hs' : Sl o' w lo' hi' v' n' f') (h : CuP x n f) (h' : CuP x' n' f') (h0 : ¬ (f 0 = 0 ∧ f 1 = 0) ∨ ¬ (f' 0 = 0 ∧ f' 1 = 0)) (G : Int × Int) (hG : gcF (nrm (f' 0) (f' 1)).toNat (f 0) (f 1) (f' 0) (f' 1) = G) (hf : (-10000 ≤ chA G.1 G.2 ∧ chA G.1 G.2 ≤ 10000 ∧ -10000 ≤ chB G.1 G.2 ∧ chB G.1 G.2 ≤ 10000)) :
    Calls Try.prog 30 #[.agg #[.int .i64 x, v], .agg #[.int .i64 x', v']] w fun e w' => ∃ g k, e = .returned (.tuple #[.agg #[.int .i64 3, .slice g 2 k], .int .i64 0]) ∧ Sl true w' w.heap.size w'.heap.size (.slice g 2 k) 2 (two (chA G.1 G.2) (chB G.1 G.2)) ∧ Below w.heap.size w w' := by
  obtain rfl : n = 2 := h.2.1
  obtain rfl : n' = 2 := h'.2.1
  have hb := h.bd
  have hb' := h'.bd
  have hn1 := nrm_le (M := 10000) hb.1 hb.2.1 hb.2.2.1 hb.2.2.2
  have hn2 := nrm_le (M := 10000) hb'.1 hb'.2.1 hb'.2.2.1 hb'.2.2.2
  have z1 : nrm (f 0) (f 1) = 0 ↔ f 0 = 0 ∧ f 1 = 0 := nrm_eq0 _ _
  have z2 : nrm (f' 0) (f' 1) = 0 ↔ f' 0 = 0 ∧ f' 1 = 0 := nrm_eq0 _ _
  have HC := Lib.hid h
  have HC' := Lib.hid h'
  clear h h'
  obtain ⟨av, cap, rfl⟩ := hs.shape
  obtain ⟨av', cap', rfl⟩ := hs'.shape
  have hh := hs.size
  have hh' := hs'.size
  have st := (((((St.start w).addSl ⟨o, lo, hi, .slice av 2 cap, 2, f⟩ hs).addSl ⟨o', lo', hi', .slice av' 2 cap', 2, f'⟩ hs').alloc (.cells #[.int .i64 x, .slice av 2 cap] 27)).addBox w.heap.size [.int .i64 x, .slice av 2 cap] (Box.made _ _ _ _ (fun j v h => by simpa using h)))
  replace st := (st.alloc (.cells #[.int .i64 x', .slice av' 2 cap'] 27)).addBox _ [.int .i64 x', .slice av' 2 cap'] (Box.made _ _ _ _ (fun j v h => by simpa using h))
  simp only [World.size_alloc] at st
  replace st := (st.alloc (.cells #[.int .i64 0, .slice none 0 0] 27)).addBox _ [.int .i64 0, .slice none 0 0] (Box.made _ _ _ _ (fun j v h => by simpa using h))
  simp only [World.size_alloc] at st
  have HN := Lib.hid (show nrm (f 0) (f 1) ≤ 300000000 ∧ nrm (f' 0) (f' 1) ≤ 300000000 from ⟨by omega, by omega⟩)
  have H0 := Lib.hid h0
  have HGG := Lib.hid hG
  have HF := Lib.hid hf
  clear h0 hG hf
  obtain ⟨N, hN⟩ : ∃ N, nrm (f 0) (f 1) = N := ⟨_, rfl⟩
  obtain ⟨N', hN'⟩ : ∃ N', nrm (f' 0) (f' 1) = N' := ⟨_, rfl⟩
  rw [hN] at z1
  rw [hN'] at z2
  have NN := Lib.hid (show nrm (f 0) (f 1) = N ∧ nrm (f' 0) (f' 1) = N' from ⟨hN, hN'⟩)
  have Z1 := Lib.hid z1
  have Z2 := Lib.hid z2
  clear z1 z2 hN hN' hn1 hn2
  go_enter Try.func30, Try.ntmps30
  replace st := (st.alloc (.cells #[.int .i64 x, .slice av 2 cap, .int .i64 x', .slice av' 2 cap'] 27)).addBox _ [.int .i64 x, .slice av 2 cap, .int .i64 x', .slice av' 2 cap'] (Box.made _ _ _ _ (fun j v h => by simpa using h))
  simp only [World.size_alloc] at st
  have hbx := st.box 0 _ rfl
  have q0 := st.sl 1 ⟨o, lo, hi, .slice av 2 cap, 2, f⟩ rfl
  have q1 := st.sl 0 ⟨o', lo', hi', .slice av' 2 cap', 2, f'⟩ rfl
  dsimp only at q0 q1
  dsimp only at hbx
  go_wp2_with fail
  refine (l09Code2_ok _ _ _ _ q0 q1 hbx HC.out HC'.out).mono ?_
  rintro e w1 ⟨rfl, b1⟩
  replace st := st.keep b1
  have hz1 := b1.size
  try simp only [World.size_alloc] at hz1
  clear b1 hbx q0 q1
  by_cases c1 : N = 0
  · have c2 : ¬ N' = 0 := fun h => by rcases H0.out with g | g; exact g (Z1.out.1 c1); exact g (Z2.out.1 h)
    have c2b : (N' == 0) = false := by simpa using c2
    subst c1
    obtain ⟨x0, x1⟩ := (st.box 3 _ rfl).cell2
    have xz := (st.box 3 _ rfl).2.2
    have xs := (st.box 3 _ rfl).1
    dsimp only at x0 x1 xz xs
    obtain ⟨y0, y1⟩ := (st.box 2 _ rfl).cell2
    have yz := (st.box 2 _ rfl).2.2
    have ys := (st.box 2 _ rfl).1
    dsimp only at y0 y1 yz ys
    have q2 := st.sl 1 ⟨o, lo, hi, .slice av 2 cap, 2, f⟩ rfl
    dsimp only at q2
    go_wp2_with fail
    refine (l09Norm_any _ _ q2 (by omega) (by omega) (by omega) (by omega)).mono ?_
    rw [NN.out.1]
    rintro e w2 ⟨rfl, b2⟩
    replace st := st.keep b2
    have hz2 := b2.size
    clear b2 q2
    clear x0 x1 xz xs y0 y1 yz ys
    obtain ⟨x0, x1⟩ := (st.box 3 _ rfl).cell2
    have xz := (st.box 3 _ rfl).2.2
    have xs := (st.box 3 _ rfl).1
    dsimp only at x0 x1 xz xs
    obtain ⟨y0, y1⟩ := (st.box 2 _ rfl).cell2
    have yz := (st.box 2 _ rfl).2.2
    have ys := (st.box 2 _ rfl).1
    dsimp only at y0 y1 yz ys
    have q3 := st.sl 0 ⟨o', lo', hi', .slice av' 2 cap', 2, f'⟩ rfl
    dsimp only at q3
    go_wp2_with fail
    refine (l09Norm_any _ _ q3 (by omega) (by omega) (by omega) (by omega)).mono ?_
    rw [NN.out.2]
    rintro e w3 ⟨rfl, b3⟩
    replace st := st.keep b3
    have hz3 := b3.size
    clear b3 q3
    clear x0 x1 xz xs y0 y1 yz ys
    obtain ⟨x0, x1⟩ := (st.box 3 _ rfl).cell2
    have xz := (st.box 3 _ rfl).2.2
    have xs := (st.box 3 _ rfl).1
    dsimp only at x0 x1 xz xs
    obtain ⟨y0, y1⟩ := (st.box 2 _ rfl).cell2
    have yz := (st.box 2 _ rfl).2.2
    have ys := (st.box 2 _ rfl).1
    dsimp only at y0 y1 yz ys
    have q5 := st.sl 1 ⟨o, lo, hi, .slice av 2 cap, 2, f⟩ rfl
    have q6 := st.sl 0 ⟨o', lo', hi', .slice av' 2 cap', 2, f'⟩ rfl
    dsimp only at q5 q6
    go_wp2_with fail
    refine (l09Gcd_any _ _ _ q5 q6 HN.out.1 HN.out.2 H0.out G HGG.out).mono ?_
    rintro e w5 ⟨g5, k5, rfl, s5, b5⟩
    replace st := st.keep b5
    have hz5 := b5.size
    clear b5 q5 q6
    clear x0 x1 xz xs y0 y1 yz ys
    go_wp2_with fail
    refine (l09Told_yes _ _ s5 HF.out.1 HF.out.2.1 HF.out.2.2.1 HF.out.2.2.2).mono ?_
    rintro e w6 ⟨rfl, b6⟩
    replace st := st.keep b6
    have hz6 := b6.size
    have s6 := s5.keep b6 s5.size
    clear b6 s5
    obtain ⟨r0, r1⟩ := (st.box 1 _ rfl).cell2
    have rz := (st.box 1 _ rfl).2.2
    have rs := (st.box 1 _ rfl).1
    dsimp only at r0 r1 rz rs
    have BB := st.1
    go_wp2
    refine bodyPost_ret (v := .tuple #[.agg #[.int .i64 3, .slice g5 2 k5], .int .i64 0]) (by simp [results, Try.results30, go_sem, r0, r1, rs, Nat.ne_of_lt rs]) rfl ?_
    refine ⟨_, _, rfl, ?_, by go_grown⟩
    exact (((s6.setOther (.inl (by show w.heap.size + 1 + 1 < _; omega)) _).setOther (.inl (by show w.heap.size + 1 + 1 < _; omega)) _).alloc _).wide (by omega) (by simp; omega) (by simp)
  · have c1b : (N == 0) = false := by simpa using c1
    obtain ⟨x0, x1⟩ := (st.box 3 _ rfl).cell2
    have xz := (st.box 3 _ rfl).2.2
    have xs := (st.box 3 _ rfl).1
    dsimp only at x0 x1 xz xs
    obtain ⟨y0, y1⟩ := (st.box 2 _ rfl).cell2
    have yz := (st.box 2 _ rfl).2.2
    have ys := (st.box 2 _ rfl).1
    dsimp only at y0 y1 yz ys
    have q2 := st.sl 1 ⟨o, lo, hi, .slice av 2 cap, 2, f⟩ rfl
    dsimp only at q2
    go_wp2_with fail
    refine (l09Norm_any _ _ q2 (by omega) (by omega) (by omega) (by omega)).mono ?_
    rw [NN.out.1]
    rintro e w2 ⟨rfl, b2⟩
    replace st := st.keep b2
    have hz2 := b2.size
    clear b2 q2
    clear x0 x1 xz xs y0 y1 yz ys
    obtain ⟨x0, x1⟩ := (st.box 3 _ rfl).cell2
    have xz := (st.box 3 _ rfl).2.2
    have xs := (st.box 3 _ rfl).1
    dsimp only at x0 x1 xz xs
    obtain ⟨y0, y1⟩ := (st.box 2 _ rfl).cell2
    have yz := (st.box 2 _ rfl).2.2
    have ys := (st.box 2 _ rfl).1
    dsimp only at y0 y1 yz ys
    have q5 := st.sl 1 ⟨o, lo, hi, .slice av 2 cap, 2, f⟩ rfl
    have q6 := st.sl 0 ⟨o', lo', hi', .slice av' 2 cap', 2, f'⟩ rfl
    dsimp only at q5 q6
    go_wp2_with fail
    refine (l09Gcd_any _ _ _ q5 q6 HN.out.1 HN.out.2 H0.out G HGG.out).mono ?_
    rintro e w5 ⟨g5, k5, rfl, s5, b5⟩
    replace st := st.keep b5
    have hz5 := b5.size
    clear b5 q5 q6
    clear x0 x1 xz xs y0 y1 yz ys
    go_wp2_with fail
    refine (l09Told_yes _ _ s5 HF.out.1 HF.out.2.1 HF.out.2.2.1 HF.out.2.2.2).mono ?_
    rintro e w6 ⟨rfl, b6⟩
    replace st := st.keep b6
    have hz6 := b6.size
    have s6 := s5.keep b6 s5.size
    clear b6 s5
    obtain ⟨r0, r1⟩ := (st.box 1 _ rfl).cell2
    have rz := (st.box 1 _ rfl).2.2
    have rs := (st.box 1 _ rfl).1
    dsimp only at r0 r1 rz rs
    have BB := st.1
    go_wp2
    refine bodyPost_ret (v := .tuple #[.agg #[.int .i64 3, .slice g5 2 k5], .int .i64 0]) (by simp [results, Try.results30, go_sem, r0, r1, rs, Nat.ne_of_lt rs]) rfl ?_
    refine ⟨_, _, rfl, ?_, by go_grown⟩
    exact (((s6.setOther (.inl (by show w.heap.size + 1 + 1 < _; omega)) _).setOther (.inl (by show w.heap.size + 1 + 1 < _; omega)) _).alloc _).wide (by omega) (by simp; omega) (by simp)
theorem GcdOfCubics_spec_big (x x' : Int) (w : World) (hs : Sl o w lo hi v n f) (hs' : Sl o' w lo' hi' v' n' f') (h : CuP x n f) (h' : CuP x' n' f') (h0 : ¬ (f 0 = 0 ∧ f 1 = 0) ∨ ¬ (f' 0 = 0 ∧ f' 1 = 0)) (G : Int × Int) (hG : gcF (nrm (f' 0) (f' 1)).toNat (f 0) (f 1) (f' 0) (f' 1) = G) (hf : ¬ (-10000 ≤ chA G.1 G.2 ∧ chA G.1 G.2 ≤ 10000 ∧ -10000 ≤ chB G.1 G.2 ∧ chB G.1 G.2 ≤ 10000)) :
    Calls Try.prog 30 #[.agg #[.int .i64 x, v], .agg #[.int .i64 x', v']] w fun e w' => e = .returned (failV 3) ∧ Below w.heap.size w w' := by
  obtain rfl : n = 2 := h.2.1
  obtain rfl : n' = 2 := h'.2.1
  have hb := h.bd
  have hb' := h'.bd
  have hn1 := nrm_le (M := 10000) hb.1 hb.2.1 hb.2.2.1 hb.2.2.2
  have hn2 := nrm_le (M := 10000) hb'.1 hb'.2.1 hb'.2.2.1 hb'.2.2.2
  have z1 : nrm (f 0) (f 1) = 0 ↔ f 0 = 0 ∧ f 1 = 0 := nrm_eq0 _ _
  have z2 : nrm (f' 0) (f' 1) = 0 ↔ f' 0 = 0 ∧ f' 1 = 0 := nrm_eq0 _ _
  have HC := Lib.hid h
  have HC' := Lib.hid h'
  clear h h'
  obtain ⟨av, cap, rfl⟩ := hs.shape
  obtain ⟨av', cap', rfl⟩ := hs'.shape
  have hh := hs.size
  have hh' := hs'.size
  have st := (((((St.start w).addSl ⟨o, lo, hi, .slice av 2 cap, 2, f⟩ hs).addSl ⟨o', lo', hi', .slice av' 2 cap', 2, f'⟩ hs').alloc (.cells #[.int .i64 x, .slice av 2 cap] 27)).addBox w.heap.size [.int .i64 x, .slice av 2 cap] (Box.made _ _ _ _ (fun j v h => by simpa using h)))
  replace st := (st.alloc (.cells #[.int .i64 x', .slice av' 2 cap'] 27)).addBox _ [.int .i64 x', .slice av' 2 cap'] (Box.made _ _ _ _ (fun j v h => by simpa using h))
  simp only [World.size_alloc] at st
  replace st := (st.alloc (.cells #[.int .i64 0, .slice none 0 0] 27)).addBox _ [.int .i64 0, .slice none 0 0] (Box.made _ _ _ _ (fun j v h => by simpa using h))
  simp only [World.size_alloc] at st
  have HN := Lib.hid (show nrm (f 0) (f 1) ≤ 300000000 ∧ nrm (f' 0) (f' 1) ≤ 300000000 from ⟨by omega, by omega⟩)
  have H0 := Lib.hid h0
  have HGG := Lib.hid hG
  have HF := Lib.hid hf
  clear h0 hG hf
  obtain ⟨N, hN⟩ : ∃ N, nrm (f 0) (f 1) = N := ⟨_, rfl⟩
  obtain ⟨N', hN'⟩ : ∃ N', nrm (f' 0) (f' 1) = N' := ⟨_, rfl⟩
  rw [hN] at z1
  rw [hN'] at z2
  have NN := Lib.hid (show nrm (f 0) (f 1) = N ∧ nrm (f' 0) (f' 1) = N' from ⟨hN, hN'⟩)
  have Z1 := Lib.hid z1
  have Z2 := Lib.hid z2
  clear z1 z2 hN hN' hn1 hn2
  go_enter Try.func30, Try.ntmps30
  replace st := (st.alloc (.cells #[.int .i64 x, .slice av 2 cap, .int .i64 x', .slice av' 2 cap'] 27)).addBox _ [.int .i64 x, .slice av 2 cap, .int .i64 x', .slice av' 2 cap'] (Box.made _ _ _ _ (fun j v h => by simpa using h))
  simp only [World.size_alloc] at st
  have hbx := st.box 0 _ rfl
  have q0 := st.sl 1 ⟨o, lo, hi, .slice av 2 cap, 2, f⟩ rfl
  have q1 := st.sl 0 ⟨o', lo', hi', .slice av' 2 cap', 2, f'⟩ rfl
  dsimp only at q0 q1
  dsimp only at hbx
  go_wp2_with fail
  refine (l09Code2_ok _ _ _ _ q0 q1 hbx HC.out HC'.out).mono ?_
  rintro e w1 ⟨rfl, b1⟩
  replace st := st.keep b1
  have hz1 := b1.size
  try simp only [World.size_alloc] at hz1
  clear b1 hbx q0 q1
  by_cases c1 : N = 0
  · have c2 : ¬ N' = 0 := fun h => by rcases H0.out with g | g; exact g (Z1.out.1 c1); exact g (Z2.out.1 h)
    have c2b : (N' == 0) = false := by simpa using c2
    subst c1
    obtain ⟨x0, x1⟩ := (st.box 3 _ rfl).cell2
    have xz := (st.box 3 _ rfl).2.2
    have xs := (st.box 3 _ rfl).1
    dsimp only at x0 x1 xz xs
    obtain ⟨y0, y1⟩ := (st.box 2 _ rfl).cell2
    have yz := (st.box 2 _ rfl).2.2
    have ys := (st.box 2 _ rfl).1
    dsimp only at y0 y1 yz ys
    have q2 := st.sl 1 ⟨o, lo, hi, .slice av 2 cap, 2, f⟩ rfl
    dsimp only at q2
    go_wp2_with fail
    refine (l09Norm_any _ _ q2 (by omega) (by omega) (by omega) (by omega)).mono ?_
    rw [NN.out.1]
    rintro e w2 ⟨rfl, b2⟩
    replace st := st.keep b2
    have hz2 := b2.size
    clear b2 q2
    clear x0 x1 xz xs y0 y1 yz ys
    obtain ⟨x0, x1⟩ := (st.box 3 _ rfl).cell2
    have xz := (st.box 3 _ rfl).2.2
    have xs := (st.box 3 _ rfl).1
    dsimp only at x0 x1 xz xs
    obtain ⟨y0, y1⟩ := (st.box 2 _ rfl).cell2
    have yz := (st.box 2 _ rfl).2.2
    have ys := (st.box 2 _ rfl).1
    dsimp only at y0 y1 yz ys
    have q3 := st.sl 0 ⟨o', lo', hi', .slice av' 2 cap', 2, f'⟩ rfl
    dsimp only at q3
    go_wp2_with fail
    refine (l09Norm_any _ _ q3 (by omega) (by omega) (by omega) (by omega)).mono ?_
    rw [NN.out.2]
    rintro e w3 ⟨rfl, b3⟩
    replace st := st.keep b3
    have hz3 := b3.size
    clear b3 q3
    clear x0 x1 xz xs y0 y1 yz ys
    obtain ⟨x0, x1⟩ := (st.box 3 _ rfl).cell2
    have xz := (st.box 3 _ rfl).2.2
    have xs := (st.box 3 _ rfl).1
    dsimp only at x0 x1 xz xs
    obtain ⟨y0, y1⟩ := (st.box 2 _ rfl).cell2
    have yz := (st.box 2 _ rfl).2.2
    have ys := (st.box 2 _ rfl).1
    dsimp only at y0 y1 yz ys
    have q5 := st.sl 1 ⟨o, lo, hi, .slice av 2 cap, 2, f⟩ rfl
    have q6 := st.sl 0 ⟨o', lo', hi', .slice av' 2 cap', 2, f'⟩ rfl
    dsimp only at q5 q6
    go_wp2_with fail
    refine (l09Gcd_any _ _ _ q5 q6 HN.out.1 HN.out.2 H0.out G HGG.out).mono ?_
    rintro e w5 ⟨g5, k5, rfl, s5, b5⟩
    replace st := st.keep b5
    have hz5 := b5.size
    clear b5 q5 q6
    clear x0 x1 xz xs y0 y1 yz ys
    go_wp2_with fail
    refine (l09Told_no _ _ s5 HF.out).mono ?_
    rintro e w6 ⟨rfl, b6⟩
    unfold failV
    replace st := st.keep b6
    have hz6 := b6.size
    clear b6 s5
    obtain ⟨r0, r1⟩ := (st.box 1 _ rfl).cell2
    have rz := (st.box 1 _ rfl).2.2
    have rs := (st.box 1 _ rfl).1
    dsimp only at r0 r1 rz rs
    have BB := st.1
    go_wp2
    refine bodyPost_ret (v := failV 3) (by simp [results, Try.results30, go_sem, failV, r0, r1, rs, Nat.ne_of_lt rs]) rfl ?_
    exact ⟨rfl, by go_grown⟩
  · have c1b : (N == 0) = false := by simpa using c1
    obtain ⟨x0, x1⟩ := (st.box 3 _ rfl).cell2
    have xz := (st.box 3 _ rfl).2.2
    have xs := (st.box 3 _ rfl).1
    dsimp only at x0 x1 xz xs
    obtain ⟨y0, y1⟩ := (st.box 2 _ rfl).cell2
    have yz := (st.box 2 _ rfl).2.2
    have ys := (st.box 2 _ rfl).1
    dsimp only at y0 y1 yz ys
    have q2 := st.sl 1 ⟨o, lo, hi, .slice av 2 cap, 2, f⟩ rfl
    dsimp only at q2
    go_wp2_with fail
    refine (l09Norm_any _ _ q2 (by omega) (by omega) (by omega) (by omega)).mono ?_
    rw [NN.out.1]
    rintro e w2 ⟨rfl, b2⟩
    replace st := st.keep b2
    have hz2 := b2.size
    clear b2 q2
    clear x0 x1 xz xs y0 y1 yz ys
    obtain ⟨x0, x1⟩ := (st.box 3 _ rfl).cell2
    have xz := (st.box 3 _ rfl).2.2
    have xs := (st.box 3 _ rfl).1
    dsimp only at x0 x1 xz xs
    obtain ⟨y0, y1⟩ := (st.box 2 _ rfl).cell2
    have yz := (st.box 2 _ rfl).2.2
    have ys := (st.box 2 _ rfl).1
    dsimp only at y0 y1 yz ys
    have q5 := st.sl 1 ⟨o, lo, hi, .slice av 2 cap, 2, f⟩ rfl
    have q6 := st.sl 0 ⟨o', lo', hi', .slice av' 2 cap', 2, f'⟩ rfl
    dsimp only at q5 q6
    go_wp2_with fail
    refine (l09Gcd_any _ _ _ q5 q6 HN.out.1 HN.out.2 H0.out G HGG.out).mono ?_
    rintro e w5 ⟨g5, k5, rfl, s5, b5⟩
    replace st := st.keep b5
    have hz5 := b5.size
    clear b5 q5 q6
    clear x0 x1 xz xs y0 y1 yz ys
    go_wp2_with fail
    refine (l09Told_no _ _ s5 HF.out).mono ?_
    rintro e w6 ⟨rfl, b6⟩
    unfold failV
    replace st := st.keep b6
    have hz6 := b6.size
    clear b6 s5
    obtain ⟨r0, r1⟩ := (st.box 1 _ rfl).cell2
    have rz := (st.box 1 _ rfl).2.2
    have rs := (st.box 1 _ rfl).1
    dsimp only at r0 r1 rz rs
    have BB := st.1
    go_wp2
    refine bodyPost_ret (v := failV 3) (by simp [results, Try.results30, go_sem, failV, r0, r1, rs, Nat.ne_of_lt rs]) rfl ?_
    exact ⟨rfl, by go_grown⟩
theorem GcdOfCubics_impl_bad (x x' : Int) (w : World) (hs : Sl o w lo hi v n f) (hs' : Sl o' w lo' hi' v' n' f') (h : ¬ (CuP x n f ∧ CuP x' n' f')) :
    Calls Try.prog 31 #[.agg #[.int .i64 x, v], .agg #[.int .i64 x', v']] w fun e w' => e = .returned (failV 1) ∧ Below w.heap.size w w' := by
  obtain ⟨av, cap, rfl⟩ := hs.shape
  obtain ⟨av', cap', rfl⟩ := hs'.shape
  have hh := hs.size
  have hh' := hs'.size
  have st := (((((St.start w).addSl ⟨o, lo, hi, .slice av n cap, n, f⟩ hs).addSl ⟨o', lo', hi', .slice av' n' cap', n', f'⟩ hs').alloc (.cells #[.int .i64 x, .slice av n cap] 27)).addBox w.heap.size [.int .i64 x, .slice av n cap] (Box.made _ _ _ _ (fun j v h => by simpa using h)))
  replace st := (st.alloc (.cells #[.int .i64 x', .slice av' n' cap'] 27)).addBox _ [.int .i64 x', .slice av' n' cap'] (Box.made _ _ _ _ (fun j v h => by simpa using h))
  simp only [World.size_alloc] at st
  replace st := (st.alloc (.cells #[.int .i64 0, .slice none 0 0] 27)).addBox _ [.int .i64 0, .slice none 0 0] (Box.made _ _ _ _ (fun j v h => by simpa using h))
  simp only [World.size_alloc] at st
  have HB := Lib.hid h
  clear h
  go_enter Try.func31, Try.ntmps31
  have q0 := st.sl 1 ⟨o, lo, hi, .slice av n cap, n, f⟩ rfl
  have q1 := st.sl 0 ⟨o', lo', hi', .slice av' n' cap', n', f'⟩ rfl
  dsimp only at q0 q1
  go_wp2_with fail
  refine (openCubics_bad _ _ _ q0 q1 HB.out).mono ?_
  rintro e w1 ⟨rfl, b1⟩
  replace st := st.keep b1
  have hz1 := b1.size
  try simp only [World.size_alloc] at hz1
  clear b1 q0 q1
  obtain ⟨r0, r1⟩ := (st.box 0 _ rfl).cell2
  have rz := (st.box 0 _ rfl).2.2
  have rs := (st.box 0 _ rfl).1
  dsimp only at r0 r1 rz rs
  have rs2 := Nat.lt_succ_of_lt rs
  have BB := st.1
  go_wp2
  refine bodyPost_ret (v := failV 1) (by simp [results, Try.results31, go_sem, failV, r0, r1, rs, Nat.ne_of_lt rs, rs2, Nat.ne_of_lt rs2]) rfl ?_
  exact ⟨rfl, by go_grown⟩
theorem GcdOfCubics_impl_zero (x x' : Int) (w : World) (hs : Sl o w lo hi v n f) (hs' : Sl o' w lo' hi' v' n' f') (h : CuP x n f) (h' : CuP x' n' f') (h0 : (f 0 = 0 ∧ f 1 = 0) ∧ (f' 0 = 0 ∧ f' 1 = 0)) :
    Calls Try.prog 31 #[.agg #[.int .i64 x, v], .agg #[.int .i64 x', v']] w fun e w' => e = .returned (failV 5) ∧ Below w.heap.size w w' := by
  have hb := h.bd
  have hb' := h'.bd
  have hn1 := nrm_le (M := 10000) hb.1 hb.2.1 hb.2.2.1 hb.2.2.2
  have hn2 := nrm_le (M := 10000) hb'.1 hb'.2.1 hb'.2.2.1 hb'.2.2.2
  have HC := Lib.hid h
  have HC' := Lib.hid h'
  clear h h'
  obtain ⟨av, cap, rfl⟩ := hs.shape
  obtain ⟨av', cap', rfl⟩ := hs'.shape
  have hh := hs.size
  have hh' := hs'.size
  have st := (((((St.start w).addSl ⟨o, lo, hi, .slice av n cap, n, f⟩ hs).addSl ⟨o', lo', hi', .slice av' n' cap', n', f'⟩ hs').alloc (.cells #[.int .i64 x, .slice av n cap] 27)).addBox w.heap.size [.int .i64 x, .slice av n cap] (Box.made _ _ _ _ (fun j v h => by simpa using h)))
  replace st := (st.alloc (.cells #[.int .i64 x', .slice av' n' cap'] 27)).addBox _ [.int .i64 x', .slice av' n' cap'] (Box.made _ _ _ _ (fun j v h => by simpa using h))
  simp only [World.size_alloc] at st
  replace st := (st.alloc (.cells #[.int .i64 0, .slice none 0 0] 27)).addBox _ [.int .i64 0, .slice none 0 0] (Box.made _ _ _ _ (fun j v h => by simpa using h))
  simp only [World.size_alloc] at st
  go_enter Try.func31, Try.ntmps31
  have q0 := st.sl 1 ⟨o, lo, hi, .slice av n cap, n, f⟩ rfl
  have q1 := st.sl 0 ⟨o', lo', hi', .slice av' n' cap', n', f'⟩ rfl
  dsimp only at q0 q1
  go_wp2_with fail
  refine (openCubics_ok _ _ _ q0 q1 HC.out HC'.out).mono ?_
  rintro e w1 ⟨rfl, b1⟩
  replace st := st.keep b1
  have hz1 := b1.size
  try simp only [World.size_alloc] at hz1
  clear b1 q0 q1
  replace st := (st.alloc (.cells #[.int .i64 (f 0), .int .i64 (f 1)] 59)).addBox _ [.int .i64 (f 0), .int .i64 (f 1)] (Box.made _ _ _ _ (fun j v h => by simpa using h))
  replace st := (st.alloc (.cells #[.int .i64 (f' 0), .int .i64 (f' 1)] 59)).addBox _ [.int .i64 (f' 0), .int .i64 (f' 1)] (Box.made _ _ _ _ (fun j v h => by simpa using h))
  simp only [World.size_alloc] at st
  rw [h0.1.1, h0.1.2, h0.2.1, h0.2.2] at st
  have z0 : w.heap.size + 1 + 1 < w1.heap.size := by have := (st.box 2 _ rfl).1; omega
  have stx := st.sub (bs' := [(w1.heap.size, [.int .i64 0, .int .i64 0]), (w1.heap.size + 1, [.int .i64 0, .int .i64 0]), (w.heap.size + 1 + 1, [.int .i64 0, .slice none 0 0])]) (ss' := []) (by intro b hb; simp only [List.mem_cons, List.not_mem_nil, or_false] at hb; rcases hb with rfl | rfl | rfl <;> simp) (by intro s hs; cases hs)
  clear st
  go_wp2_with fail
  go_loopg [] 0 (fun k wr => St w wr [(w1.heap.size, [.int .i64 0, .int .i64 0]), (w1.heap.size + 1, [.int .i64 0, .int .i64 0]), (w.heap.size + 1 + 1, [.int .i64 0, .slice none 0 0])] [])
  case atStart => exact stx
  case round =>
    clear stx
    have st := hrel
    obtain ⟨x0, x1⟩ := (st.box 0 _ rfl).cell2
    have xz := (st.box 0 _ rfl).2.2
    have xs := (st.box 0 _ rfl).1
    dsimp only at x0 x1 xz xs
    obtain ⟨y0, y1⟩ := (st.box 1 _ rfl).cell2
    have yz := (st.box 1 _ rfl).2.2
    have ys := (st.box 1 _ rfl).1
    dsimp only at y0 y1 yz ys
    obtain ⟨r0, r1⟩ := (st.box 2 _ rfl).cell2
    have rz := (st.box 2 _ rfl).2.2
    have rs := (st.box 2 _ rfl).1
    dsimp only at r0 r1 rz rs
    have BB := st.1
    go_wp2
    refine bodyPost_ret (v := failV 5) (by simp [results, Try.results31, go_sem, failV, r0, r1, rs, Nat.ne_of_lt rs]) rfl ?_
    exact ⟨rfl, by go_grown⟩
theorem GcdOfCubics_impl_ok (x x' : Int) (w : World) (hs : Sl o w lo hi v n f) (hs' : Sl o' w lo' hi' v' n' f') (h : CuP x n f) (h' : CuP x' n' f') (h0 : ¬ (f 0 = 0 ∧ f 1 = 0) ∨ ¬ (f' 0 = 0 ∧ f' 1 = 0)) (G : Int × Int) (hG : gcF (nrm (f' 0) (f' 1)).toNat (f 0) (f 1) (f' 0) (f' 1) = G) (hf : (-10000 ≤ chA G.1 G.2 ∧ chA G.1 G.2 ≤ 10000 ∧ -10000 ≤ chB G.1 G.2 ∧ chB G.1 G.2 ≤ 10000)) :
    Calls Try.prog 31 #[.agg #[.int .i64 x, v], .agg #[.int .i64 x', v']] w fun e w' => ∃ g k, e = .returned (.tuple #[.agg #[.int .i64 3, .slice g 2 k], .int .i64 0]) ∧ Sl true w' w.heap.size w'.heap.size (.slice g 2 k) 2 (two (chA G.1 G.2) (chB G.1 G.2)) ∧ Below w.heap.size w w' := by
  have hb := h.bd
  have hb' := h'.bd
  have hn1 := nrm_le (M := 10000) hb.1 hb.2.1 hb.2.2.1 hb.2.2.2
  have hn2 := nrm_le (M := 10000) hb'.1 hb'.2.1 hb'.2.2.1 hb'.2.2.2
  have HC := Lib.hid h
  have HC' := Lib.hid h'
  clear h h'
  obtain ⟨av, cap, rfl⟩ := hs.shape
  obtain ⟨av', cap', rfl⟩ := hs'.shape
  have hh := hs.size
  have hh' := hs'.size
  have st := (((((St.start w).addSl ⟨o, lo, hi, .slice av n cap, n, f⟩ hs).addSl ⟨o', lo', hi', .slice av' n' cap', n', f'⟩ hs').alloc (.cells #[.int .i64 x, .slice av n cap] 27)).addBox w.heap.size [.int .i64 x, .slice av n cap] (Box.made _ _ _ _ (fun j v h => by simpa using h)))
  replace st := (st.alloc (.cells #[.int .i64 x', .slice av' n' cap'] 27)).addBox _ [.int .i64 x', .slice av' n' cap'] (Box.made _ _ _ _ (fun j v h => by simpa using h))
  simp only [World.size_alloc] at st
  replace st := (st.alloc (.cells #[.int .i64 0, .slice none 0 0] 27)).addBox _ [.int .i64 0, .slice none 0 0] (Box.made _ _ _ _ (fun j v h => by simpa using h))
  simp only [World.size_alloc] at st
  have H0 := Lib.hid h0
  have HGG := Lib.hid hG
  have HF := Lib.hid hf
  clear h0 hG hf
  go_enter Try.func31, Try.ntmps31
  have q0 := st.sl 1 ⟨o, lo, hi, .slice av n cap, n, f⟩ rfl
  have q1 := st.sl 0 ⟨o', lo', hi', .slice av' n' cap', n', f'⟩ rfl
  dsimp only at q0 q1
  go_wp2_with fail
  refine (openCubics_ok _ _ _ q0 q1 HC.out HC'.out).mono ?_
  rintro e w1 ⟨rfl, b1⟩
  replace st := st.keep b1
  have hz1 := b1.size
  try simp only [World.size_alloc] at hz1
  clear b1 q0 q1
  replace st := (st.alloc (.cells #[.int .i64 (f 0), .int .i64 (f 1)] 59)).addBox _ [.int .i64 (f 0), .int .i64 (f 1)] (Box.made _ _ _ _ (fun j v h => by simpa using h))
  replace st := (st.alloc (.cells #[.int .i64 (f' 0), .int .i64 (f' 1)] 59)).addBox _ [.int .i64 (f' 0), .int .i64 (f' 1)] (Box.made _ _ _ _ (fun j v h => by simpa using h))
  simp only [World.size_alloc] at st
  have z0 : w.heap.size + 1 + 1 < w1.heap.size := by have := (st.box 2 _ rfl).1; omega
  have stx := st.sub (bs' := [(w1.heap.size, [.int .i64 (f 0), .int .i64 (f 1)]), (w1.heap.size + 1, [.int .i64 (f' 0), .int .i64 (f' 1)]), (w.heap.size + 1 + 1, [.int .i64 0, .slice none 0 0])]) (ss' := []) (by intro b hb; simp only [List.mem_cons, List.not_mem_nil, or_false] at hb; rcases hb with rfl | rfl | rfl <;> simp) (by intro s hs; cases hs)
  clear st
  go_wp2_with fail
  go_loopg [] (nrm (f' 0) (f' 1)).toNat (fun k wr => ∃ a b c d : Int, Hid (gcF k a b c d = G) ∧ Hid ((nrm c d).toNat ≤ k) ∧ Hid (¬ (a = 0 ∧ b = 0) ∨ ¬ (c = 0 ∧ d = 0)) ∧ nrm a b ≤ 300000000 ∧ nrm c d ≤ 300000000 ∧ St w wr [(w1.heap.size, [.int .i64 a, .int .i64 b]), (w1.heap.size + 1, [.int .i64 c, .int .i64 d]), (w.heap.size + 1 + 1, [.int .i64 0, .slice none 0 0])] [])
  case atStart => exact ⟨_, _, _, _, HGG, Lib.hid (Nat.le_refl _), H0, by omega, by omega, stx⟩
  case round =>
    clear stx
    obtain ⟨a, b, c, d, HG, HK, H0, hn1, hn2, st⟩ := hrel
    have bf := nrm_small hn1
    have bg := nrm_small hn2
    obtain ⟨x0, x1⟩ := (st.box 0 _ rfl).cell2
    have xz := (st.box 0 _ rfl).2.2
    have xs := (st.box 0 _ rfl).1
    dsimp only at x0 x1 xz xs
    obtain ⟨y0, y1⟩ := (st.box 1 _ rfl).cell2
    have yz := (st.box 1 _ rfl).2.2
    have ys := (st.box 1 _ rfl).1
    dsimp only at y0 y1 yz ys
    obtain ⟨r0, r1⟩ := (st.box 2 _ rfl).cell2
    have rz := (st.box 2 _ rfl).2.2
    have rs := (st.box 2 _ rfl).1
    dsimp only at r0 r1 rz rs
    by_cases hz : c = 0 ∧ d = 0
    · obtain ⟨rfl, rfl⟩ := hz
      have e1 := HG.out
      rw [gcF_zero] at e1
      have hnf : ¬ (a = 0 ∧ b = 0) := H0.out.resolve_right (fun h => h ⟨rfl, rfl⟩)
      subst e1
      have HNF := Lib.hid hnf
      clear hnf HG HK H0
      by_cases ga : a = 0
      ·
        have gb : ¬ b = 0 := fun h => HNF.out ⟨ga, h⟩
        subst ga
        go_wp2_with fail
        refine (associate_chosen 0 b _ (by omega) (by omega) (by omega) (by omega) (fun h => gb h.2)).mono ?_
        rintro e w3 ⟨rfl, b3⟩
        replace st := st.keep b3
        have hz3 := b3.size
        have zr : w.heap.size + 1 + 1 < wr.heap.size := rs
        clear b3 x0 x1 xz xs y0 y1 yz ys r0 r1 rz rs
        go_wp2_with fail
        refine (cubicWithin_yes (chA 0 b) (chB 0 b) _ HF.out.1 HF.out.2.1 HF.out.2.2.1 HF.out.2.2.2).mono ?_
        rintro e w4 ⟨g4, k4, rfl, s4, b4⟩
        replace st := st.keep b4
        have hz4 := b4.size
        clear b4
        obtain ⟨r0, r1⟩ := (st.box 2 _ rfl).cell2
        have rz := (st.box 2 _ rfl).2.2
        have rs := (st.box 2 _ rfl).1
        dsimp only at r0 r1 rz rs
        have BB := st.1
        go_wp2
        refine bodyPost_ret (v := .tuple #[.agg #[.int .i64 3, .slice g4 2 k4], .int .i64 0]) (by simp [results, Try.results31, go_sem, r0, r1]) rfl ?_
        refine ⟨_, _, rfl, ?_, by go_grown⟩
        exact ((s4.setOther (.inl (by show w.heap.size + 1 + 1 < _; omega)) _).setOther (.inl (by show w.heap.size + 1 + 1 < _; omega)) _).wide (by omega) (by simp) (by simp)
      ·
        skip
        go_wp2_with fail
        refine (associate_chosen a b _ (by omega) (by omega) (by omega) (by omega) HNF.out).mono ?_
        rintro e w3 ⟨rfl, b3⟩
        replace st := st.keep b3
        have hz3 := b3.size
        have zr : w.heap.size + 1 + 1 < wr.heap.size := rs
        clear b3 x0 x1 xz xs y0 y1 yz ys r0 r1 rz rs
        go_wp2_with fail
        refine (cubicWithin_yes (chA a b) (chB a b) _ HF.out.1 HF.out.2.1 HF.out.2.2.1 HF.out.2.2.2).mono ?_
        rintro e w4 ⟨g4, k4, rfl, s4, b4⟩
        replace st := st.keep b4
        have hz4 := b4.size
        clear b4
        obtain ⟨r0, r1⟩ := (st.box 2 _ rfl).cell2
        have rz := (st.box 2 _ rfl).2.2
        have rs := (st.box 2 _ rfl).1
        dsimp only at r0 r1 rz rs
        have BB := st.1
        go_wp2
        refine bodyPost_ret (v := .tuple #[.agg #[.int .i64 3, .slice g4 2 k4], .int .i64 0]) (by simp [results, Try.results31, go_sem, r0, r1]) rfl ?_
        refine ⟨_, _, rfl, ?_, by go_grown⟩
        exact ((s4.setOther (.inl (by show w.heap.size + 1 + 1 < _; omega)) _).setOther (.inl (by show w.heap.size + 1 + 1 < _; omega)) _).wide (by omega) (by simp) (by simp)
    · obtain ⟨k', hk', e1, hk1, hk2⟩ := gcF_step (a := a) (b := b) hz HK.out
      have hp1 := nrm_pos hz
      have hrn := rest_norm (a := a) (b := b) hp1
      rw [HG.out] at e1
      have E1 := Lib.hid e1
      have E2 := Lib.hid (show (nrm (rA a b c d) (rB a b c d)).toNat ≤ k' from hk1)
      have E3 := Lib.hid hk'
      have E4 := Lib.hid (show nrm (rA a b c d) (rB a b c d) ≤ 300000000 by omega)
      have E5 := Lib.hid hz
      have RM := Lib.hid (show ∀ w' : World, Calls Try.prog 71 #[.agg #[.int .i64 a, .int .i64 b], .agg #[.int .i64 c, .int .i64 d]] w' fun e w'' => e = .returned (.agg #[.int .i64 (rA a b c d), .int .i64 (rB a b c d)]) ∧ Below w'.heap.size w' w'' from fun w' => rest_impl a b c d w' (by omega) (by omega) (by omega) (by omega) (by omega) (by omega) (by omega) (by omega) hp1)
      obtain ⟨R, hR⟩ : ∃ R, rA a b c d = R := ⟨_, rfl⟩
      obtain ⟨S, hS⟩ : ∃ S, rB a b c d = S := ⟨_, rfl⟩
      rw [hR, hS] at E1 E2 E4 RM
      clear hR hS hp1 hrn e1 hk1 hk2 hk' HG HK H0
      by_cases gc : c = 0
      · have gd : ¬ d = 0 := fun h => hz ⟨gc, h⟩
        have GC := Lib.hid gc
        clear hz
        subst gc
        go_wp2_with fail
        go_region_law (first
          | (go_simp; go_at_call 71; refine (RM.out _).mono ?_; rintro e w5 ⟨rfl, b5⟩; (first | (replace st := st.keep b5) | (replace st := st.drew.keep b5)); obtain ⟨x0, x1⟩ := (st.box 0 _ rfl).cell2; have xz := (st.box 0 _ rfl).2.2; have xs := (st.box 0 _ rfl).1; (try dsimp only at x0 x1 xz xs); obtain ⟨y0, y1⟩ := (st.box 1 _ rfl).cell2; have yz := (st.box 1 _ rfl).2.2; have ys := (st.box 1 _ rfl).1; (try dsimp only at y0 y1 yz ys)))
        all_goals
          have st2 := st.setHead (u0 := .int .i64 0) (u1 := .int .i64 d) (by omega) (by intro q hq; simp only [List.mem_cons, List.not_mem_nil, or_false] at hq; rcases hq with rfl | rfl <;> dsimp only <;> omega) (by intro s hs; cases hs)
          have st3 := st2.swp.setHead (u0 := .int .i64 R) (u1 := .int .i64 S) (by omega) (by intro q hq; simp only [List.mem_cons, List.not_mem_nil, or_false] at hq; rcases hq with rfl | rfl <;> dsimp only <;> omega) (by intro s hs; cases hs)
          have st4 := st3.swp
          clear st2 st3
          go_wp2
          have e3 := E3.out
          go_roundg k'
          case rel => exact ⟨_, _, _, _, Lib.hid E1.out.symm, E2, Lib.hid (.inl (by first | exact E5.out | simpa using E5.out)), hn2, E4.out, st4⟩
          case measure => omega
      · clear hz
        skip
        go_wp2_with fail
        go_region_law (first
          | (go_simp; go_at_call 71; refine (RM.out _).mono ?_; rintro e w5 ⟨rfl, b5⟩; (first | (replace st := st.keep b5) | (replace st := st.drew.keep b5)); obtain ⟨x0, x1⟩ := (st.box 0 _ rfl).cell2; have xz := (st.box 0 _ rfl).2.2; have xs := (st.box 0 _ rfl).1; (try dsimp only at x0 x1 xz xs); obtain ⟨y0, y1⟩ := (st.box 1 _ rfl).cell2; have yz := (st.box 1 _ rfl).2.2; have ys := (st.box 1 _ rfl).1; (try dsimp only at y0 y1 yz ys)))
        all_goals
          have st2 := st.setHead (u0 := .int .i64 c) (u1 := .int .i64 d) (by omega) (by intro q hq; simp only [List.mem_cons, List.not_mem_nil, or_false] at hq; rcases hq with rfl | rfl <;> dsimp only <;> omega) (by intro s hs; cases hs)
          have st3 := st2.swp.setHead (u0 := .int .i64 R) (u1 := .int .i64 S) (by omega) (by intro q hq; simp only [List.mem_cons, List.not_mem_nil, or_false] at hq; rcases hq with rfl | rfl <;> dsimp only <;> omega) (by intro s hs; cases hs)
          have st4 := st3.swp
          clear st2 st3
          go_wp2
          have e3 := E3.out
          go_roundg k'
          case rel => exact ⟨_, _, _, _, Lib.hid E1.out.symm, E2, Lib.hid (.inl (by first | exact E5.out | simpa using E5.out)), hn2, E4.out, st4⟩
          case measure => omega
theorem GcdOfCubics_impl_big (x x' : Int) (w : World) (hs : Sl o w lo hi v n f) (hs' : Sl o' w lo' hi' v' n' f') (h : CuP x n f) (h' : CuP x' n' f') (h0 : ¬ (f 0 = 0 ∧ f 1 = 0) ∨ ¬ (f' 0 = 0 ∧ f' 1 = 0)) (G : Int × Int) (hG : gcF (nrm (f' 0) (f' 1)).toNat (f 0) (f 1) (f' 0) (f' 1) = G) (hf : ¬ (-10000 ≤ chA G.1 G.2 ∧ chA G.1 G.2 ≤ 10000 ∧ -10000 ≤ chB G.1 G.2 ∧ chB G.1 G.2 ≤ 10000)) :
    Calls Try.prog 31 #[.agg #[.int .i64 x, v], .agg #[.int .i64 x', v']] w fun e w' => e = .returned (failV 3) ∧ Below w.heap.size w w' := by
  have hb := h.bd
  have hb' := h'.bd
  have hn1 := nrm_le (M := 10000) hb.1 hb.2.1 hb.2.2.1 hb.2.2.2
  have hn2 := nrm_le (M := 10000) hb'.1 hb'.2.1 hb'.2.2.1 hb'.2.2.2
  have HC := Lib.hid h
  have HC' := Lib.hid h'
  clear h h'
  obtain ⟨av, cap, rfl⟩ := hs.shape
  obtain ⟨av', cap', rfl⟩ := hs'.shape
  have hh := hs.size
  have hh' := hs'.size
  have st := (((((St.start w).addSl ⟨o, lo, hi, .slice av n cap, n, f⟩ hs).addSl ⟨o', lo', hi', .slice av' n' cap', n', f'⟩ hs').alloc (.cells #[.int .i64 x, .slice av n cap] 27)).addBox w.heap.size [.int .i64 x, .slice av n cap] (Box.made _ _ _ _ (fun j v h => by simpa using h)))
  replace st := (st.alloc (.cells #[.int .i64 x', .slice av' n' cap'] 27)).addBox _ [.int .i64 x', .slice av' n' cap'] (Box.made _ _ _ _ (fun j v h => by simpa using h))
  simp only [World.size_alloc] at st
  replace st := (st.alloc (.cells #[.int .i64 0, .slice none 0 0] 27)).addBox _ [.int .i64 0, .slice none 0 0] (Box.made _ _ _ _ (fun j v h => by simpa using h))
  simp only [World.size_alloc] at st
  have H0 := Lib.hid h0
  have HGG := Lib.hid hG
  have HF := Lib.hid hf
  clear h0 hG hf
  go_enter Try.func31, Try.ntmps31
  have q0 := st.sl 1 ⟨o, lo, hi, .slice av n cap, n, f⟩ rfl
  have q1 := st.sl 0 ⟨o', lo', hi', .slice av' n' cap', n', f'⟩ rfl
  dsimp only at q0 q1
  go_wp2_with fail
  refine (openCubics_ok _ _ _ q0 q1 HC.out HC'.out).mono ?_
  rintro e w1 ⟨rfl, b1⟩
  replace st := st.keep b1
  have hz1 := b1.size
  try simp only [World.size_alloc] at hz1
  clear b1 q0 q1
  replace st := (st.alloc (.cells #[.int .i64 (f 0), .int .i64 (f 1)] 59)).addBox _ [.int .i64 (f 0), .int .i64 (f 1)] (Box.made _ _ _ _ (fun j v h => by simpa using h))
  replace st := (st.alloc (.cells #[.int .i64 (f' 0), .int .i64 (f' 1)] 59)).addBox _ [.int .i64 (f' 0), .int .i64 (f' 1)] (Box.made _ _ _ _ (fun j v h => by simpa using h))
  simp only [World.size_alloc] at st
  have z0 : w.heap.size + 1 + 1 < w1.heap.size := by have := (st.box 2 _ rfl).1; omega
  have stx := st.sub (bs' := [(w1.heap.size, [.int .i64 (f 0), .int .i64 (f 1)]), (w1.heap.size + 1, [.int .i64 (f' 0), .int .i64 (f' 1)]), (w.heap.size + 1 + 1, [.int .i64 0, .slice none 0 0])]) (ss' := []) (by intro b hb; simp only [List.mem_cons, List.not_mem_nil, or_false] at hb; rcases hb with rfl | rfl | rfl <;> simp) (by intro s hs; cases hs)
  clear st
  go_wp2_with fail
  go_loopg [] (nrm (f' 0) (f' 1)).toNat (fun k wr => ∃ a b c d : Int, Hid (gcF k a b c d = G) ∧ Hid ((nrm c d).toNat ≤ k) ∧ Hid (¬ (a = 0 ∧ b = 0) ∨ ¬ (c = 0 ∧ d = 0)) ∧ nrm a b ≤ 300000000 ∧ nrm c d ≤ 300000000 ∧ St w wr [(w1.heap.size, [.int .i64 a, .int .i64 b]), (w1.heap.size + 1, [.int .i64 c, .int .i64 d]), (w.heap.size + 1 + 1, [.int .i64 0, .slice none 0 0])] [])
  case atStart => exact ⟨_, _, _, _, HGG, Lib.hid (Nat.le_refl _), H0, by omega, by omega, stx⟩
  case round =>
    clear stx
    obtain ⟨a, b, c, d, HG, HK, H0, hn1, hn2, st⟩ := hrel
    have bf := nrm_small hn1
    have bg := nrm_small hn2
    obtain ⟨x0, x1⟩ := (st.box 0 _ rfl).cell2
    have xz := (st.box 0 _ rfl).2.2
    have xs := (st.box 0 _ rfl).1
    dsimp only at x0 x1 xz xs
    obtain ⟨y0, y1⟩ := (st.box 1 _ rfl).cell2
    have yz := (st.box 1 _ rfl).2.2
    have ys := (st.box 1 _ rfl).1
    dsimp only at y0 y1 yz ys
    obtain ⟨r0, r1⟩ := (st.box 2 _ rfl).cell2
    have rz := (st.box 2 _ rfl).2.2
    have rs := (st.box 2 _ rfl).1
    dsimp only at r0 r1 rz rs
    by_cases hz : c = 0 ∧ d = 0
    · obtain ⟨rfl, rfl⟩ := hz
      have e1 := HG.out
      rw [gcF_zero] at e1
      have hnf : ¬ (a = 0 ∧ b = 0) := H0.out.resolve_right (fun h => h ⟨rfl, rfl⟩)
      subst e1
      have HNF := Lib.hid hnf
      clear hnf HG HK H0
      by_cases ga : a = 0
      ·
        have gb : ¬ b = 0 := fun h => HNF.out ⟨ga, h⟩
        subst ga
        go_wp2_with fail
        refine (associate_chosen 0 b _ (by omega) (by omega) (by omega) (by omega) (fun h => gb h.2)).mono ?_
        rintro e w3 ⟨rfl, b3⟩
        replace st := st.keep b3
        have hz3 := b3.size
        have zr : w.heap.size + 1 + 1 < wr.heap.size := rs
        clear b3 x0 x1 xz xs y0 y1 yz ys r0 r1 rz rs
        go_wp2_with fail
        have hcb := ch_bd (a := 0) (b := b) (M := 20000) (by omega) (by omega) (by omega) (by omega)
        refine (cubicWithin_no (chA 0 b) (chB 0 b) _ (by unfold inR; omega) (by unfold inR; omega) HF.out).mono ?_
        rintro e w4 ⟨rfl, b4⟩
        unfold failV
        replace st := st.keep b4
        have hz4 := b4.size
        clear b4
        obtain ⟨r0, r1⟩ := (st.box 2 _ rfl).cell2
        have rz := (st.box 2 _ rfl).2.2
        have rs := (st.box 2 _ rfl).1
        dsimp only at r0 r1 rz rs
        have BB := st.1
        go_wp2
        refine bodyPost_ret (v := failV 3) (by simp [results, Try.results31, go_sem, failV, r0, r1, rs, Nat.ne_of_lt rs]) rfl ?_
        exact ⟨rfl, by go_grown⟩
      ·
        skip
        go_wp2_with fail
        refine (associate_chosen a b _ (by omega) (by omega) (by omega) (by omega) HNF.out).mono ?_
        rintro e w3 ⟨rfl, b3⟩
        replace st := st.keep b3
        have hz3 := b3.size
        have zr : w.heap.size + 1 + 1 < wr.heap.size := rs
        clear b3 x0 x1 xz xs y0 y1 yz ys r0 r1 rz rs
        go_wp2_with fail
        have hcb := ch_bd (a := a) (b := b) (M := 20000) (by omega) (by omega) (by omega) (by omega)
        refine (cubicWithin_no (chA a b) (chB a b) _ (by unfold inR; omega) (by unfold inR; omega) HF.out).mono ?_
        rintro e w4 ⟨rfl, b4⟩
        unfold failV
        replace st := st.keep b4
        have hz4 := b4.size
        clear b4
        obtain ⟨r0, r1⟩ := (st.box 2 _ rfl).cell2
        have rz := (st.box 2 _ rfl).2.2
        have rs := (st.box 2 _ rfl).1
        dsimp only at r0 r1 rz rs
        have BB := st.1
        go_wp2
        refine bodyPost_ret (v := failV 3) (by simp [results, Try.results31, go_sem, failV, r0, r1, rs, Nat.ne_of_lt rs]) rfl ?_
        exact ⟨rfl, by go_grown⟩
    · obtain ⟨k', hk', e1, hk1, hk2⟩ := gcF_step (a := a) (b := b) hz HK.out
      have hp1 := nrm_pos hz
      have hrn := rest_norm (a := a) (b := b) hp1
      rw [HG.out] at e1
      have E1 := Lib.hid e1
      have E2 := Lib.hid (show (nrm (rA a b c d) (rB a b c d)).toNat ≤ k' from hk1)
      have E3 := Lib.hid hk'
      have E4 := Lib.hid (show nrm (rA a b c d) (rB a b c d) ≤ 300000000 by omega)
      have E5 := Lib.hid hz
      have RM := Lib.hid (show ∀ w' : World, Calls Try.prog 71 #[.agg #[.int .i64 a, .int .i64 b], .agg #[.int .i64 c, .int .i64 d]] w' fun e w'' => e = .returned (.agg #[.int .i64 (rA a b c d), .int .i64 (rB a b c d)]) ∧ Below w'.heap.size w' w'' from fun w' => rest_impl a b c d w' (by omega) (by omega) (by omega) (by omega) (by omega) (by omega) (by omega) (by omega) hp1)
      obtain ⟨R, hR⟩ : ∃ R, rA a b c d = R := ⟨_, rfl⟩
      obtain ⟨S, hS⟩ : ∃ S, rB a b c d = S := ⟨_, rfl⟩
      rw [hR, hS] at E1 E2 E4 RM
      clear hR hS hp1 hrn e1 hk1 hk2 hk' HG HK H0
      by_cases gc : c = 0
      · have gd : ¬ d = 0 := fun h => hz ⟨gc, h⟩
        have GC := Lib.hid gc
        clear hz
        subst gc
        go_wp2_with fail
        go_region_law (first
          | (go_simp; go_at_call 71; refine (RM.out _).mono ?_; rintro e w5 ⟨rfl, b5⟩; (first | (replace st := st.keep b5) | (replace st := st.drew.keep b5)); obtain ⟨x0, x1⟩ := (st.box 0 _ rfl).cell2; have xz := (st.box 0 _ rfl).2.2; have xs := (st.box 0 _ rfl).1; (try dsimp only at x0 x1 xz xs); obtain ⟨y0, y1⟩ := (st.box 1 _ rfl).cell2; have yz := (st.box 1 _ rfl).2.2; have ys := (st.box 1 _ rfl).1; (try dsimp only at y0 y1 yz ys)))
        all_goals
          have st2 := st.setHead (u0 := .int .i64 0) (u1 := .int .i64 d) (by omega) (by intro q hq; simp only [List.mem_cons, List.not_mem_nil, or_false] at hq; rcases hq with rfl | rfl <;> dsimp only <;> omega) (by intro s hs; cases hs)
          have st3 := st2.swp.setHead (u0 := .int .i64 R) (u1 := .int .i64 S) (by omega) (by intro q hq; simp only [List.mem_cons, List.not_mem_nil, or_false] at hq; rcases hq with rfl | rfl <;> dsimp only <;> omega) (by intro s hs; cases hs)
          have st4 := st3.swp
          clear st2 st3
          go_wp2
          have e3 := E3.out
          go_roundg k'
          case rel => exact ⟨_, _, _, _, Lib.hid E1.out.symm, E2, Lib.hid (.inl (by first | exact E5.out | simpa using E5.out)), hn2, E4.out, st4⟩
          case measure => omega
      · clear hz
        skip
        go_wp2_with fail
        go_region_law (first
          | (go_simp; go_at_call 71; refine (RM.out _).mono ?_; rintro e w5 ⟨rfl, b5⟩; (first | (replace st := st.keep b5) | (replace st := st.drew.keep b5)); obtain ⟨x0, x1⟩ := (st.box 0 _ rfl).cell2; have xz := (st.box 0 _ rfl).2.2; have xs := (st.box 0 _ rfl).1; (try dsimp only at x0 x1 xz xs); obtain ⟨y0, y1⟩ := (st.box 1 _ rfl).cell2; have yz := (st.box 1 _ rfl).2.2; have ys := (st.box 1 _ rfl).1; (try dsimp only at y0 y1 yz ys)))
        all_goals
          have st2 := st.setHead (u0 := .int .i64 c) (u1 := .int .i64 d) (by omega) (by intro q hq; simp only [List.mem_cons, List.not_mem_nil, or_false] at hq; rcases hq with rfl | rfl <;> dsimp only <;> omega) (by intro s hs; cases hs)
          have st3 := st2.swp.setHead (u0 := .int .i64 R) (u1 := .int .i64 S) (by omega) (by intro q hq; simp only [List.mem_cons, List.not_mem_nil, or_false] at hq; rcases hq with rfl | rfl <;> dsimp only <;> omega) (by intro s hs; cases hs)
          have st4 := st3.swp
          clear st2 st3
          go_wp2
          have e3 := E3.out
          go_roundg k'
          case rel => exact ⟨_, _, _, _, Lib.hid E1.out.symm, E2, Lib.hid (.inl (by first | exact E5.out | simpa using E5.out)), hn2, E4.out, st4⟩
          case measure => omega
end
end Go.Proofs.Ytfadlnbmpgbeaaa
