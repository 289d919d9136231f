/- Cubic numbers of the model: fits, is, the code, norms, products. -/
import Derived.Test.YtfadlnbmpgbeaaaEsE
namespace Go.Proofs.Ytfadlnbmpgbeaaa
open Go.RowKit Go.ChangeShapes Go.Sort
set_option linter.unusedVariables false
set_option linter.unusedSimpArgs false
set_option maxRecDepth 100000
set_option maxHeartbeats 1000000

section
variable {o o' : Bool} {lo hi n lo' hi' n' : Nat} {v v' : Value} {f f' : Nat → Int}
theorem l09Fits_yes (x : Int) (w : World) (hs : Sl o w lo hi v 2 f) (h0 : -10000 ≤ f 0) (h0' : f 0 ≤ 10000) (h1 : -10000 ≤ f 1) (h1' : f 1 ≤ 10000) :
    Calls Try.prog 68 #[.agg #[.int .i64 x, v]] w fun e w' => e = .returned (.bool true) ∧ Below w.heap.size w w' := by
  obtain ⟨av, cap, rfl⟩ := hs.shape
  have hm := hs.len
  unfold maxLen at hm
  have st := ((((St.start w).addSl ⟨o, lo, hi, .slice av 2 cap, 2, f⟩ hs).alloc (.cells #[.int .i64 x, .slice av 2 cap] 27)).addBox w.heap.size [.int .i64 x, .slice av 2 cap] (Box.made _ _ _ _ (fun j v h => by simpa using h)))
  have q0 := st.sl 0 ⟨o, lo, hi, .slice av 2 cap, 2, f⟩ rfl
  dsimp only at q0
  obtain ⟨g, off, rfl, _, hgi, hcap, e0, e1, i0, i1⟩ := q0.two
  go_enter Try.func68, Try.ntmps68
  go_wp2_with fail
  refine (l01In_yes _ _ _ _ (by omega) (by omega)).mono ?_
  rintro e w1 ⟨rfl, rfl⟩
  go_wp2_with fail
  refine (l01In_yes _ _ _ _ (by omega) (by omega)).mono ?_
  rintro e w2 ⟨rfl, rfl⟩
  have BB := st.1
  go_wp2
  go_ret
  exact ⟨rfl, by go_grown⟩
theorem l09Fits_no (x : Int) (w : World) (hs : Sl o w lo hi v 2 f) (h : ¬ (-10000 ≤ f 0 ∧ f 0 ≤ 10000 ∧ -10000 ≤ f 1 ∧ f 1 ≤ 10000)) :
    Calls Try.prog 68 #[.agg #[.int .i64 x, v]] w fun e w' => e = .returned (.bool false) ∧ Below w.heap.size w w' := by
  obtain ⟨av, cap, rfl⟩ := hs.shape
  have hm := hs.len
  unfold maxLen at hm
  have st := ((((St.start w).addSl ⟨o, lo, hi, .slice av 2 cap, 2, f⟩ hs).alloc (.cells #[.int .i64 x, .slice av 2 cap] 27)).addBox w.heap.size [.int .i64 x, .slice av 2 cap] (Box.made _ _ _ _ (fun j v h => by simpa using h)))
  have q0 := st.sl 0 ⟨o, lo, hi, .slice av 2 cap, 2, f⟩ rfl
  dsimp only at q0
  obtain ⟨g, off, rfl, _, hgi, hcap, e0, e1, i0, i1⟩ := q0.two
  by_cases h0 : -10000 ≤ f 0 ∧ f 0 ≤ 10000
  · have h1 : f 1 < -10000 ∨ 10000 < f 1 := by omega
    go_enter Try.func68, Try.ntmps68
    go_wp2_with fail
    refine (l01In_yes _ _ _ _ (by omega) (by omega)).mono ?_
    rintro e w1 ⟨rfl, rfl⟩
    go_wp2_with fail
    refine (l01In_no _ _ _ _ h1).mono ?_
    rintro e w2 ⟨rfl, rfl⟩
    have BB := st.1
    go_wp2
    go_ret
    exact ⟨rfl, by go_grown⟩
  · have h1 : f 0 < -10000 ∨ 10000 < f 0 := by omega
    go_enter Try.func68, Try.ntmps68
    go_wp2_with fail
    refine (l01In_no _ _ _ _ h1).mono ?_
    rintro e w1 ⟨rfl, rfl⟩
    have BB := st.1
    go_wp2
    go_ret
    exact ⟨rfl, by go_grown⟩
theorem l09Is_yes (x : Int) (w : World) (hs : Sl o w lo hi v n f) (h : CuP x n f) :
    Calls Try.prog 51 #[.agg #[.int .i64 x, v]] w fun e w' => e = .returned (.bool true) ∧ Below w.heap.size w w' := by
  obtain rfl : n = 2 := h.2.1
  have HC := Lib.hid h.cy
  have hb := h.bd
  have h3 : (x == 3) = true := by rw [h.1]; rfl
  clear h
  obtain ⟨av, cap, rfl⟩ := hs.shape
  have hm := hs.len
  unfold maxLen at hm
  have st := ((((St.start w).addSl ⟨o, lo, hi, .slice av 2 cap, 2, f⟩ hs).alloc (.cells #[.int .i64 x, .slice av 2 cap] 27)).addBox w.heap.size [.int .i64 x, .slice av 2 cap] (Box.made _ _ _ _ (fun j v h => by simpa using h)))
  have q0 := st.sl 0 ⟨o, lo, hi, .slice av 2 cap, 2, f⟩ rfl
  dsimp only at q0
  go_enter Try.func51, Try.ntmps51
  go_wp2_with fail
  refine (l01Is_yes _ _ q0 HC.out).mono ?_
  rintro e w1 ⟨rfl, b1⟩
  replace st := st.keep b1
  have hz1 := b1.size
  try simp only [World.size_alloc] at hz1
  clear b1
  obtain ⟨x0, x1⟩ := (st.box 0 _ rfl).cell2
  have xz := (st.box 0 _ rfl).2.2
  have xs := (st.box 0 _ rfl).1
  dsimp only at x0 x1 xz xs
  have q1 := st.sl 0 ⟨o, lo, hi, .slice av 2 cap, 2, f⟩ rfl
  dsimp only at q1
  go_wp2_with fail
  refine (l09Fits_yes _ _ q1 (by omega) (by omega) (by omega) (by omega)).mono ?_
  rintro e w2 ⟨rfl, b2⟩
  replace st := st.keep b2
  have hz2 := b2.size
  try simp only [World.size_alloc] at hz2
  clear b2
  have BB := st.1
  go_wp2
  go_ret
  exact ⟨rfl, by go_grown⟩
theorem l09Is_no (x : Int) (w : World) (hs : Sl o w lo hi v n f) (h : ¬ CuP x n f) :
    Calls Try.prog 51 #[.agg #[.int .i64 x, v]] w fun e w' => e = .returned (.bool false) ∧ Below w.heap.size w w' := by
  by_cases h3 : x = 3
  · have hx : (x == 3) = true := by rw [h3]; rfl
    by_cases hc : CyP x n f
    · obtain rfl : n = 2 := by have := hc.2.2.1; rw [h3] at this; exact this.trans phi3
      have HW := Lib.hid (show ¬ (-10000 ≤ f 0 ∧ f 0 ≤ 10000 ∧ -10000 ≤ f 1 ∧ f 1 ≤ 10000) from fun g => h (CuP.of hc h3 (fun j hj => by
        have e : j = 0 ∨ j = 1 := by omega
        rcases e with rfl | rfl <;> omega)))
      have HC := Lib.hid hc
      clear h hc h3
      obtain ⟨av, cap, rfl⟩ := hs.shape
      have hm := hs.len
      unfold maxLen at hm
      have st := ((((St.start w).addSl ⟨o, lo, hi, .slice av 2 cap, 2, f⟩ hs).alloc (.cells #[.int .i64 x, .slice av 2 cap] 27)).addBox w.heap.size [.int .i64 x, .slice av 2 cap] (Box.made _ _ _ _ (fun j v h => by simpa using h)))
      have q0 := st.sl 0 ⟨o, lo, hi, .slice av 2 cap, 2, f⟩ rfl
      dsimp only at q0
      go_enter Try.func51, Try.ntmps51
      go_wp2_with fail
      refine (l01Is_yes _ _ q0 HC.out).mono ?_
      rintro e w1 ⟨rfl, b1⟩
      replace st := st.keep b1
      have hz1 := b1.size
      try simp only [World.size_alloc] at hz1
      clear b1
      obtain ⟨x0, x1⟩ := (st.box 0 _ rfl).cell2
      have xz := (st.box 0 _ rfl).2.2
      have xs := (st.box 0 _ rfl).1
      dsimp only at x0 x1 xz xs
      have q1 := st.sl 0 ⟨o, lo, hi, .slice av 2 cap, 2, f⟩ rfl
      dsimp only at q1
      go_wp2_with fail
      refine (l09Fits_no _ _ q1 HW.out).mono ?_
      rintro e w2 ⟨rfl, b2⟩
      replace st := st.keep b2
      have hz2 := b2.size
      try simp only [World.size_alloc] at hz2
      clear b2
      have BB := st.1
      go_wp2
      go_ret
      exact ⟨rfl, by go_grown⟩
    · have HC := Lib.hid hc
      clear h hc h3
      obtain ⟨av, cap, rfl⟩ := hs.shape
      have hm := hs.len
      unfold maxLen at hm
      have st := ((((St.start w).addSl ⟨o, lo, hi, .slice av n cap, n, f⟩ hs).alloc (.cells #[.int .i64 x, .slice av n cap] 27)).addBox w.heap.size [.int .i64 x, .slice av n cap] (Box.made _ _ _ _ (fun j v h => by simpa using h)))
      have q0 := st.sl 0 ⟨o, lo, hi, .slice av n cap, n, f⟩ rfl
      dsimp only at q0
      go_enter Try.func51, Try.ntmps51
      go_wp2_with fail
      refine (l01Is_no _ _ q0 HC.out).mono ?_
      rintro e w1 ⟨rfl, b1⟩
      replace st := st.keep b1
      have hz1 := b1.size
      try simp only [World.size_alloc] at hz1
      clear b1
      obtain ⟨x0, x1⟩ := (st.box 0 _ rfl).cell2
      have xz := (st.box 0 _ rfl).2.2
      have xs := (st.box 0 _ rfl).1
      dsimp only at x0 x1 xz xs
      have BB := st.1
      go_wp2
      go_ret
      exact ⟨rfl, by go_grown⟩
  · have hx : (x == 3) = false := by simpa using h3
    clear h h3
    obtain ⟨av, cap, rfl⟩ := hs.shape
    have hm := hs.len
    unfold maxLen at hm
    have st := ((((St.start w).addSl ⟨o, lo, hi, .slice av n cap, n, f⟩ hs).alloc (.cells #[.int .i64 x, .slice av n cap] 27)).addBox w.heap.size [.int .i64 x, .slice av n cap] (Box.made _ _ _ _ (fun j v h => by simpa using h)))
    go_enter Try.func51, Try.ntmps51
    have BB := st.1
    go_wp2
    go_ret
    exact ⟨rfl, by go_grown⟩
theorem l09Of_any (a b : Int) (w : World) (ha : inR a) (hb : inR b) :
    Calls Try.prog 91 #[.int .i64 a, .int .i64 b] w fun e w' => ∃ g k, e = .returned (.agg #[.int .i64 3, .slice g 2 k]) ∧ Sl true w' w.heap.size w'.heap.size (.slice g 2 k) 2 (two a b) ∧ Below w.heap.size w w' := by
  have S0 := two_made a b ha hb (w := w.alloc (.cells #[.int .i64 0, .slice none 0 0] 27))
  simp only [World.size_alloc] at S0
  have st := ((St.start w).alloc (.cells #[.int .i64 0, .slice none 0 0] 27)).addBox w.heap.size [.int .i64 0, .slice none 0 0] (Box.made _ _ _ _ (fun j v h => by simpa using h))
  replace st := st.alloc (.cells #[.int .i64 a, .int .i64 b] 2)
  obtain ⟨r0, r1⟩ := (st.box 0 _ rfl).cell2
  have rz := (st.box 0 _ rfl).2.2
  have rs := (st.box 0 _ rfl).1
  dsimp only at r0 r1 rz rs
  go_enter Try.func91, Try.ntmps91
  go_wp2
  refine bodyPost_ret (v := .agg #[.int .i64 3, .slice (some ⟨w.heap.size + 1, 0, none⟩) 2 2]) (by simp [results, Try.results91, go_sem]) rfl ?_
  refine ⟨_, _, rfl, ?_, by go_grown⟩
  have S1 := two_made a b ha hb (w := w.alloc (.cells #[.int .i64 3, .slice (some ⟨w.heap.size + 1, 0, none⟩) 2 2] 27))
  simp only [World.size_alloc] at S1
  exact S1.wide (by omega) (by simp) (by simp)
theorem l09Norm_any (x : Int) (w : World) (hs : Sl o w lo hi v 2 f) (ha : -40000 ≤ f 0) (ha' : f 0 ≤ 40000) (hb : -40000 ≤ f 1) (hb' : f 1 ≤ 40000) :
    Calls Try.prog 56 #[.agg #[.int .i64 x, v]] w fun e w' => e = .returned (.int .i64 (nrm (f 0) (f 1))) ∧ Below w.heap.size w w' := by
  have h1 := mul_bd ha ha' ha ha'
  have h2 := mul_bd ha ha' hb hb'
  have h3 := mul_bd hb hb' hb hb'
  have HN := Lib.hid (show f 0 * f 0 - f 0 * f 1 + f 1 * f 1 = nrm (f 0) (f 1) from rfl)
  obtain ⟨av, cap, rfl⟩ := hs.shape
  have hm := hs.len
  unfold maxLen at hm
  have st := ((((St.start w).addSl ⟨o, lo, hi, .slice av 2 cap, 2, f⟩ hs).alloc (.cells #[.int .i64 x, .slice av 2 cap] 27)).addBox w.heap.size [.int .i64 x, .slice av 2 cap] (Box.made _ _ _ _ (fun j v h => by simpa using h)))
  have q0 := st.sl 0 ⟨o, lo, hi, .slice av 2 cap, 2, f⟩ rfl
  dsimp only at q0
  obtain ⟨g, off, rfl, _, hgi, hcap, e0, e1, i0, i1⟩ := q0.two
  obtain ⟨x0, x1⟩ := (st.box 0 _ rfl).cell2
  have xz := (st.box 0 _ rfl).2.2
  have xs := (st.box 0 _ rfl).1
  dsimp only at x0 x1 xz xs
  go_enter Try.func56, Try.ntmps56
  go_wp2_with fail
  go_region_held3 (fun w' => w'.cell? ⟨w.heap.size, 1, none⟩ = some (.slice (some ⟨g, off, none⟩) 2 cap) ∧ w'.cell? ⟨g, off, none⟩ = some (.int .i64 (f 0)) ∧ w'.cell? ⟨g, off + 1, none⟩ = some (.int .i64 (f 1)))
    (first | exact ⟨x1, e0, e1⟩ | go_keep) (fail)
  all_goals
    have BB := st.1
    go_wp2
    go_ret
    exact ⟨by rw [HN.out]; rfl, by go_grown⟩
theorem l09Times_any (x x' : Int) (w : World) (hs : Sl o w lo hi v 2 f) (hs' : Sl o' w lo' hi' v' 2 f') (ha : -100000000000 ≤ f 0) (ha' : f 0 ≤ 100000000000) (hb : -100000000000 ≤ f 1) (hb' : f 1 ≤ 100000000000) (hc : -80000 ≤ f' 0) (hc' : f' 0 ≤ 80000) (hd : -80000 ≤ f' 1) (hd' : f' 1 ≤ 80000) :
    Calls Try.prog 90 #[.agg #[.int .i64 x, v], .agg #[.int .i64 x', v']] w fun e w' => ∃ g k, e = .returned (.agg #[.int .i64 3, .slice g 2 k]) ∧ Sl true w' w.heap.size w'.heap.size (.slice g 2 k) 2 (two (tA (f 0) (f 1) (f' 0) (f' 1)) (tB (f 0) (f 1) (f' 0) (f' 1))) ∧ Below w.heap.size w w' := by
  have h1 := mul_bd ha ha' hc hc'
  have h2 := mul_bd ha ha' hd hd'
  have h3 := mul_bd hb hb' hc hc'
  have h4 := mul_bd hb hb' hd hd'
  have HA := Lib.hid (show f 0 * f' 0 - f 1 * f' 1 = tA (f 0) (f 1) (f' 0) (f' 1) from rfl)
  have HB := Lib.hid (show f 0 * f' 1 + f 1 * f' 0 - f 1 * f' 1 = tB (f 0) (f 1) (f' 0) (f' 1) from rfl)
  have O := Lib.hid (show ∀ w' : World, Calls Try.prog 91 #[.int .i64 (f 0 * f' 0 - f 1 * f' 1), .int .i64 (f 0 * f' 1 + f 1 * f' 0 - f 1 * f' 1)] w' fun e w'' => ∃ g k, e = .returned (.agg #[.int .i64 3, .slice g 2 k]) ∧ Sl true w'' w'.heap.size w''.heap.size (.slice g 2 k) 2 (two (tA (f 0) (f 1) (f' 0) (f' 1)) (tB (f 0) (f 1) (f' 0) (f' 1))) ∧ Below w'.heap.size w' w'' from fun w' => l09Of_any _ _ w' (by unfold inR; omega) (by unfold inR; omega))
  obtain ⟨av, cap, rfl⟩ := hs.shape
  obtain ⟨av', cap', rfl⟩ := hs'.shape
  have hh := hs.size
  have hh' := hs'.size
  have st := (((((St.start w).addSl ⟨o, lo, hi, .slice av 2 cap, 2, f⟩ hs).addSl ⟨o', lo', hi', .slice av' 2 cap', 2, f'⟩ hs').alloc (.cells #[.int .i64 x, .slice av 2 cap] 27)).addBox w.heap.size [.int .i64 x, .slice av 2 cap] (Box.made _ _ _ _ (fun j v h => by simpa using h)))
  replace st := (st.alloc (.cells #[.int .i64 x', .slice av' 2 cap'] 27)).addBox _ [.int .i64 x', .slice av' 2 cap'] (Box.made _ _ _ _ (fun j v h => by simpa using h))
  simp only [World.size_alloc] at st
  replace st := (st.alloc (.cells #[.int .i64 0, .slice none 0 0] 27)).addBox _ [.int .i64 0, .slice none 0 0] (Box.made _ _ _ _ (fun j v h => by simpa using h))
  simp only [World.size_alloc] at st
  have q0 := st.sl 1 ⟨o, lo, hi, .slice av 2 cap, 2, f⟩ rfl
  have q1 := st.sl 0 ⟨o', lo', hi', .slice av' 2 cap', 2, f'⟩ rfl
  dsimp only at q0 q1
  obtain ⟨g, off, rfl, _, hgi, hcap, e0, e1, i0, i1⟩ := q0.two
  obtain ⟨g', off', rfl, _, hgi', hcap', d0, d1, j0, j1⟩ := q1.two
  obtain ⟨r0, r1⟩ := (st.box 0 _ rfl).cell2
  have rz := (st.box 0 _ rfl).2.2
  have rs := (st.box 0 _ rfl).1
  dsimp only at r0 r1 rz rs
  obtain ⟨y0, y1⟩ := (st.box 1 _ rfl).cell2
  have yz := (st.box 1 _ rfl).2.2
  have ys := (st.box 1 _ rfl).1
  dsimp only at y0 y1 yz ys
  obtain ⟨x0, x1⟩ := (st.box 2 _ rfl).cell2
  have xz := (st.box 2 _ rfl).2.2
  have xs := (st.box 2 _ rfl).1
  dsimp only at x0 x1 xz xs
  go_enter Try.func90, Try.ntmps90
  go_wp2_with fail
  go_region_held3 (fun w' => w'.cell? ⟨w.heap.size, 1, none⟩ = some (.slice (some ⟨g, off, none⟩) 2 cap) ∧ w'.cell? ⟨g, off, none⟩ = some (.int .i64 (f 0)) ∧ w'.cell? ⟨g, off + 1, none⟩ = some (.int .i64 (f 1)) ∧ w'.cell? ⟨w.heap.size + 1, 1, none⟩ = some (.slice (some ⟨g', off', none⟩) 2 cap') ∧ w'.cell? ⟨g', off', none⟩ = some (.int .i64 (f' 0)) ∧ w'.cell? ⟨g', off' + 1, none⟩ = some (.int .i64 (f' 1)))
    (first | exact ⟨x1, e0, e1, y1, d0, d1⟩ | go_keep) (fail)
  all_goals
    go_wp2_with fail
    refine (O.out _).mono ?_
    rintro e w1 ⟨g1, k1, rfl, s1, b1⟩
    have hz1 := b1.size
    replace st := st.drew.keep b1
    simp only [World.size_drew, World.size_alloc] at s1 hz1
    clear b1 r0 r1 rz rs
    obtain ⟨r0, r1⟩ := (st.box 0 _ rfl).cell2
    have rz := (st.box 0 _ rfl).2.2
    have rs := (st.box 0 _ rfl).1
    dsimp only at r0 r1 rz rs
    have BB := st.1
    go_wp2
    refine bodyPost_ret (v := .agg #[.int .i64 3, .slice g1 2 k1]) (by simp [results, Try.results90, go_sem, r0, r1]) rfl ?_
    refine ⟨_, _, rfl, ?_, by go_grown⟩
    exact ((s1.setOther (.inl (by show w.heap.size + 1 + 1 < _; omega)) _).setOther (.inl (by show w.heap.size + 1 + 1 < _; omega)) _).wide (by omega) (by simp) (by simp)
end
end Go.Proofs.Ytfadlnbmpgbeaaa
