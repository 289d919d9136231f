/- Cubic numbers of the program: opened, closed, turned to associates. -/
import Derived.Test.YtfadlnbmpgbeaaaEsD
import Derived.Test.YtfadlnbmpgbeaaaFail
import Derived.Deep.LoopGhost
namespace Go.Proofs.Ytfadlnbmpgbeaaa
open Go.RowKit Go.ChangeShapes Go.Sort
set_option linter.unusedVariables false
set_option linter.unusedSimpArgs false
set_option maxRecDepth 100000
set_option maxHeartbeats 1000000

section
variable {o o' : Bool} {lo hi n lo' hi' n' : Nat} {v v' : Value} {f f' : Nat → Int}
theorem openCubic_ok (x : Int) (w : World) (hs : Sl o w lo hi v n f) (h : CuP x n f) :
    Calls Try.prog 57 #[.agg #[.int .i64 x, v]] w fun e w' => e = .returned (.tuple #[.agg #[.int .i64 (f 0), .int .i64 (f 1)], .int .i64 0]) ∧ Below w.heap.size w w' := by
  obtain ⟨av, cap, rfl⟩ := hs.shape
  have hm := hs.len
  unfold maxLen at hm
  have st := ((((St.start w).addSl ⟨o, lo, hi, .slice av n cap, n, f⟩ hs).alloc (.cells #[.int .i64 x, .slice av n cap] 27)).addBox w.heap.size [.int .i64 x, .slice av n cap] (Box.made _ _ _ _ (fun j v h => by simpa using h)))
  have HC := Lib.hid h
  obtain rfl : n = 2 := h.2.1
  have hi0 := hs.bd 0 (by omega)
  have hi1 := hs.bd 1 (by omega)
  clear hs h
  replace st := (st.alloc (.cells #[.int .i64 0, .int .i64 0] 59)).addBox _ [.int .i64 0, .int .i64 0] (Box.made _ _ _ _ (fun j v h => by simpa using h))
  simp only [World.size_alloc] at st
  have q0 := st.sl 0 ⟨o, lo, hi, .slice av 2 cap, 2, f⟩ rfl
  dsimp only at q0
  go_enter Try.func57, Try.ntmps57
  go_wp2_with fail
  refine (IsCubicNumber_yes _ _ q0 HC.out).mono ?_
  rintro e w1 ⟨rfl, b1⟩
  replace st := st.keep b1
  have hz1 := b1.size
  try simp only [World.size_alloc] at hz1
  clear b1
  obtain ⟨x0, x1⟩ := (st.box 1 (w.heap.size, [.int .i64 x, .slice av 2 cap]) rfl).cell2
  dsimp only at x0 x1
  obtain ⟨r0, r1⟩ := (st.box 0 _ rfl).cell2
  dsimp only at r0 r1
  have rz := (st.box 0 _ rfl).2.2
  dsimp only at rz
  have q1 := st.sl 0 ⟨o, lo, hi, .slice av 2 cap, 2, f⟩ rfl
  dsimp only at q1
  obtain ⟨g, off, rfl, _, _, hcap, c0, c1, _, _⟩ := q1.two
  have BB := st.1
  go_wp2_with fail
  go_region
  all_goals
    go_wp2
    refine bodyPost_ret (v := .tuple #[.agg #[.int .i64 (f 0), .int .i64 (f 1)], .int .i64 0]) (by simp [results, Try.results57, go_sem, r0, r1]) rfl ?_
    exact ⟨rfl, by go_grown⟩
theorem openCubic_bad (x : Int) (w : World) (hs : Sl o w lo hi v n f) (h : ¬ CuP x n f) :
    Calls Try.prog 57 #[.agg #[.int .i64 x, v]] w fun e w' => e = .returned (.tuple #[.agg #[.int .i64 0, .int .i64 0], .int .i64 1]) ∧ Below w.heap.size w w' := by
  obtain ⟨av, cap, rfl⟩ := hs.shape
  have hm := hs.len
  unfold maxLen at hm
  have st := ((((St.start w).addSl ⟨o, lo, hi, .slice av n cap, n, f⟩ hs).alloc (.cells #[.int .i64 x, .slice av n cap] 27)).addBox w.heap.size [.int .i64 x, .slice av n cap] (Box.made _ _ _ _ (fun j v h => by simpa using h)))
  have HC := Lib.hid h
  clear hs h
  replace st := (st.alloc (.cells #[.int .i64 0, .int .i64 0] 59)).addBox _ [.int .i64 0, .int .i64 0] (Box.made _ _ _ _ (fun j v h => by simpa using h))
  simp only [World.size_alloc] at st
  have q0 := st.sl 0 ⟨o, lo, hi, .slice av n cap, n, f⟩ rfl
  dsimp only at q0
  go_enter Try.func57, Try.ntmps57
  go_wp2_with fail
  refine (IsCubicNumber_no _ _ q0 HC.out).mono ?_
  rintro e w1 ⟨rfl, b1⟩
  replace st := st.keep b1
  have hz1 := b1.size
  try simp only [World.size_alloc] at hz1
  clear b1
  obtain ⟨r0, r1⟩ := (st.box 0 _ rfl).cell2
  dsimp only at r0 r1
  have rz := (st.box 0 _ rfl).2.2
  have rs := (st.box 0 _ rfl).1
  dsimp only at rz rs
  have BB := st.1
  go_wp2
  refine bodyPost_ret (v := .tuple #[.agg #[.int .i64 0, .int .i64 0], .int .i64 1]) (by simp [results, Try.results57, go_sem, r0, r1, rs, Nat.ne_of_lt rs]) rfl ?_
  exact ⟨rfl, by go_grown⟩
theorem openNonzero_ok (x : Int) (w : World) (hs : Sl o w lo hi v n f) (h : CuP x n f) (h0 : ¬ (f 0 = 0 ∧ f 1 = 0)) :
    Calls Try.prog 61 #[.agg #[.int .i64 x, v]] w fun e w' => e = .returned (.tuple #[.agg #[.int .i64 (f 0), .int .i64 (f 1)], .int .i64 0]) ∧ Below w.heap.size w w' := by
  obtain ⟨av, cap, rfl⟩ := hs.shape
  have hm := hs.len
  unfold maxLen at hm
  have st := ((((St.start w).addSl ⟨o, lo, hi, .slice av n cap, n, f⟩ hs).alloc (.cells #[.int .i64 x, .slice av n cap] 27)).addBox w.heap.size [.int .i64 x, .slice av n cap] (Box.made _ _ _ _ (fun j v h => by simpa using h)))
  have HC := Lib.hid h
  clear hs h
  replace st := (st.alloc (.cells #[.int .i64 0, .int .i64 0] 59)).addBox _ [.int .i64 0, .int .i64 0] (Box.made _ _ _ _ (fun j v h => by simpa using h))
  simp only [World.size_alloc] at st
  have q0 := st.sl 0 ⟨o, lo, hi, .slice av n cap, n, f⟩ rfl
  dsimp only at q0
  go_enter Try.func61, Try.ntmps61
  go_wp2_with fail
  refine (openCubic_ok _ _ q0 HC.out).mono ?_
  rintro e w1 ⟨rfl, b1⟩
  replace st := st.keep b1
  have hz1 := b1.size
  try simp only [World.size_alloc] at hz1
  clear b1
  obtain ⟨r0, r1⟩ := (st.box 0 _ rfl).cell2
  dsimp only at r0 r1
  have rz := (st.box 0 _ rfl).2.2
  have rs := (st.box 0 _ rfl).1
  dsimp only at rz rs
  have H0 := Lib.hid h0
  clear h0
  by_cases g0 : f 0 = 0
  · have g1 : ¬ f 1 = 0 := fun h => H0.out ⟨g0, h⟩
    have BB := st.1
    go_wp2
    refine bodyPost_ret (v := .tuple #[.agg #[.int .i64 (f 0), .int .i64 (f 1)], .int .i64 0]) (by simp [results, Try.results61, go_sem, r0, r1, g0, rs, Nat.ne_of_lt rs]) rfl ?_
    exact ⟨rfl, by go_grown⟩
  ·
    have BB := st.1
    go_wp2
    refine bodyPost_ret (v := .tuple #[.agg #[.int .i64 (f 0), .int .i64 (f 1)], .int .i64 0]) (by simp [results, Try.results61, go_sem, r0, r1, rs, Nat.ne_of_lt rs]) rfl ?_
    exact ⟨rfl, by go_grown⟩

theorem openNonzero_zero (x : Int) (w : World) (hs : Sl o w lo hi v n f) (h : CuP x n f) (h0 : f 0 = 0) (h1 : f 1 = 0) :
    Calls Try.prog 61 #[.agg #[.int .i64 x, v]] w fun e w' => e = .returned (.tuple #[.agg #[.int .i64 0, .int .i64 0], .int .i64 5]) ∧ Below w.heap.size w w' := by
  obtain ⟨av, cap, rfl⟩ := hs.shape
  have hm := hs.len
  unfold maxLen at hm
  have st := ((((St.start w).addSl ⟨o, lo, hi, .slice av n cap, n, f⟩ hs).alloc (.cells #[.int .i64 x, .slice av n cap] 27)).addBox w.heap.size [.int .i64 x, .slice av n cap] (Box.made _ _ _ _ (fun j v h => by simpa using h)))
  have HC := Lib.hid h
  clear hs h
  replace st := (st.alloc (.cells #[.int .i64 0, .int .i64 0] 59)).addBox _ [.int .i64 0, .int .i64 0] (Box.made _ _ _ _ (fun j v h => by simpa using h))
  simp only [World.size_alloc] at st
  have q0 := st.sl 0 ⟨o, lo, hi, .slice av n cap, n, f⟩ rfl
  dsimp only at q0
  go_enter Try.func61, Try.ntmps61
  go_wp2_with fail
  refine (openCubic_ok _ _ q0 HC.out).mono ?_
  rintro e w1 ⟨rfl, b1⟩
  replace st := st.keep b1
  have hz1 := b1.size
  try simp only [World.size_alloc] at hz1
  clear b1
  obtain ⟨r0, r1⟩ := (st.box 0 _ rfl).cell2
  dsimp only at r0 r1
  have rz := (st.box 0 _ rfl).2.2
  have rs := (st.box 0 _ rfl).1
  dsimp only at rz rs
  have BB := st.1
  go_wp2
  refine bodyPost_ret (v := .tuple #[.agg #[.int .i64 0, .int .i64 0], .int .i64 5]) (by simp [results, Try.results61, go_sem, r0, r1, rs, Nat.ne_of_lt rs]) rfl ?_
  exact ⟨rfl, by go_grown⟩

theorem openNonzero_bad (x : Int) (w : World) (hs : Sl o w lo hi v n f) (h : ¬ CuP x n f) :
    Calls Try.prog 61 #[.agg #[.int .i64 x, v]] w fun e w' => e = .returned (.tuple #[.agg #[.int .i64 0, .int .i64 0], .int .i64 1]) ∧ Below w.heap.size w w' := by
  obtain ⟨av, cap, rfl⟩ := hs.shape
  have hm := hs.len
  unfold maxLen at hm
  have st := ((((St.start w).addSl ⟨o, lo, hi, .slice av n cap, n, f⟩ hs).alloc (.cells #[.int .i64 x, .slice av n cap] 27)).addBox w.heap.size [.int .i64 x, .slice av n cap] (Box.made _ _ _ _ (fun j v h => by simpa using h)))
  have HC := Lib.hid h
  clear hs h
  replace st := (st.alloc (.cells #[.int .i64 0, .int .i64 0] 59)).addBox _ [.int .i64 0, .int .i64 0] (Box.made _ _ _ _ (fun j v h => by simpa using h))
  simp only [World.size_alloc] at st
  have q0 := st.sl 0 ⟨o, lo, hi, .slice av n cap, n, f⟩ rfl
  dsimp only at q0
  go_enter Try.func61, Try.ntmps61
  go_wp2_with fail
  refine (openCubic_bad _ _ q0 HC.out).mono ?_
  rintro e w1 ⟨rfl, b1⟩
  replace st := st.keep b1
  have hz1 := b1.size
  try simp only [World.size_alloc] at hz1
  clear b1
  obtain ⟨r0, r1⟩ := (st.box 0 _ rfl).cell2
  dsimp only at r0 r1
  have rz := (st.box 0 _ rfl).2.2
  have rs := (st.box 0 _ rfl).1
  dsimp only at rz rs
  have BB := st.1
  go_wp2
  refine bodyPost_ret (v := .tuple #[.agg #[.int .i64 0, .int .i64 0], .int .i64 1]) (by simp [results, Try.results61, go_sem, r0, r1, rs, Nat.ne_of_lt rs]) rfl ?_
  exact ⟨rfl, by go_grown⟩

theorem openCubics_ok (x x' : Int) (w : World) (hs : Sl o w lo hi v n f) (hs' : Sl o' w lo' hi' v' n' f') (h : CuP x n f) (h' : CuP x' n' f') :
    Calls Try.prog 69 #[.agg #[.int .i64 x, v], .agg #[.int .i64 x', v']] w fun e w' => e = .returned (.tuple #[.agg #[.int .i64 (f 0), .int .i64 (f 1)], .agg #[.int .i64 (f' 0), .int .i64 (f' 1)], .int .i64 0]) ∧ Below w.heap.size w w' := by
  obtain ⟨av, cap, rfl⟩ := hs.shape
  have hm := hs.len
  unfold maxLen at hm
  obtain ⟨av', cap', rfl⟩ := hs'.shape
  have hm' := hs'.len
  unfold maxLen at hm'
  have hh := hs.size
  have hh' := hs'.size
  have st := (((((St.start w).addSl ⟨o, lo, hi, .slice av n cap, n, f⟩ hs).addSl ⟨o', lo', hi', .slice av' n' cap', n', f'⟩ hs').alloc (.cells #[.int .i64 x, .slice av n cap] 27)).addBox w.heap.size [.int .i64 x, .slice av n cap] (Box.made _ _ _ _ (fun j v h => by simpa using h)))
  replace st := (st.alloc (.cells #[.int .i64 x', .slice av' n' cap'] 27)).addBox _ [.int .i64 x', .slice av' n' cap'] (Box.made _ _ _ _ (fun j v h => by simpa using h))
  simp only [World.size_alloc] at st
  have HC := Lib.hid h
  have HC' := Lib.hid h'
  clear hs h hs' h'
  replace st := (st.alloc (.cells #[.int .i64 0, .int .i64 0] 59)).addBox _ [.int .i64 0, .int .i64 0] (Box.made _ _ _ _ (fun j v h => by simpa using h))
  simp only [World.size_alloc] at st
  replace st := (st.alloc (.cells #[.int .i64 0, .int .i64 0] 59)).addBox _ [.int .i64 0, .int .i64 0] (Box.made _ _ _ _ (fun j v h => by simpa using h))
  simp only [World.size_alloc] at st
  have q0 := st.sl 1 ⟨o, lo, hi, .slice av n cap, n, f⟩ rfl
  have q1 := st.sl 0 ⟨o', lo', hi', .slice av' n' cap', n', f'⟩ rfl
  dsimp only at q0 q1
  go_enter Try.func69, Try.ntmps69
  go_wp2_with fail
  refine (openCubic_ok _ _ q0 HC.out).mono ?_
  rintro e w1 ⟨rfl, b1⟩
  replace st := st.keep b1
  have hz1 := b1.size
  try simp only [World.size_alloc] at hz1
  clear b1
  replace st := (st.alloc (.cells #[.int .i64 (f 0), .int .i64 (f 1)] 59)).addBox _ [.int .i64 (f 0), .int .i64 (f 1)] (Box.made _ _ _ _ (fun j v h => by simpa using h))
  try simp only [World.size_alloc] at st
  have q2 := st.sl 0 ⟨o', lo', hi', .slice av' n' cap', n', f'⟩ rfl
  dsimp only at q2
  obtain ⟨y0, y1⟩ := (st.box 3 (w.heap.size + 1, [.int .i64 x', .slice av' n' cap']) rfl).cell2
  dsimp only at y0 y1
  go_wp2_with fail
  refine (openCubic_ok _ _ q2 HC'.out).mono ?_
  rintro e w2 ⟨rfl, b2⟩
  replace st := st.keep b2
  have hz2 := b2.size
  try simp only [World.size_alloc] at hz2
  clear b2
  replace st := (st.alloc (.cells #[.int .i64 (f' 0), .int .i64 (f' 1)] 59)).addBox _ [.int .i64 (f' 0), .int .i64 (f' 1)] (Box.made _ _ _ _ (fun j v h => by simpa using h))
  try simp only [World.size_alloc] at st
  go_wp2_with fail
  generalize World.alloc w2 _ = W at st ⊢
  obtain ⟨p0, p1⟩ := (st.box 0 _ rfl).cell2
  have pz := (st.box 0 _ rfl).2.2
  have ps := (st.box 0 _ rfl).1
  dsimp only at p0 p1 pz ps
  obtain ⟨q0, q1⟩ := (st.box 1 _ rfl).cell2
  have qz := (st.box 1 _ rfl).2.2
  have qs := (st.box 1 _ rfl).1
  dsimp only at q0 q1 qz qs
  obtain ⟨r0, r1⟩ := (st.box 2 _ rfl).cell2
  have rz := (st.box 2 _ rfl).2.2
  have rs := (st.box 2 _ rfl).1
  dsimp only at r0 r1 rz rs
  obtain ⟨s0, s1⟩ := (st.box 3 _ rfl).cell2
  have sz := (st.box 3 _ rfl).2.2
  have ss := (st.box 3 _ rfl).1
  dsimp only at s0 s1 sz ss
  have g1 : w.heap.size + 1 + 1 < w1.heap.size := by omega
  have g2 : w.heap.size + 1 + 1 + 1 < w1.heap.size := by omega
  have g3 : w.heap.size + 1 + 1 < w2.heap.size := by omega
  have g4 : w.heap.size + 1 + 1 + 1 < w2.heap.size := by omega
  have BB := st.1
  go_region
  all_goals
    go_wp2
    refine bodyPost_ret (v := .tuple #[.agg #[.int .i64 (f 0), .int .i64 (f 1)], .agg #[.int .i64 (f' 0), .int .i64 (f' 1)], .int .i64 0]) (by simp [results, Try.results69, go_sem, r0, r1, s0, s1]) rfl ?_
    exact ⟨rfl, by go_grown⟩
theorem openCubics_bad (x x' : Int) (w : World) (hs : Sl o w lo hi v n f) (hs' : Sl o' w lo' hi' v' n' f') (h : ¬ (CuP x n f ∧ CuP x' n' f')) :
    Calls Try.prog 69 #[.agg #[.int .i64 x, v], .agg #[.int .i64 x', v']] w fun e w' => e = .returned (.tuple #[.agg #[.int .i64 0, .int .i64 0], .agg #[.int .i64 0, .int .i64 0], .int .i64 1]) ∧ Below w.heap.size w w' := by
  by_cases h1 : CuP x n f
  · have h2 : ¬ CuP x' n' f' := fun g => h ⟨h1, g⟩
    obtain ⟨av, cap, rfl⟩ := hs.shape
    have hm := hs.len
    unfold maxLen at hm
    obtain ⟨av', cap', rfl⟩ := hs'.shape
    have hm' := hs'.len
    unfold maxLen at hm'
    have hh := hs.size
    have hh' := hs'.size
    have st := (((((St.start w).addSl ⟨o, lo, hi, .slice av n cap, n, f⟩ hs).addSl ⟨o', lo', hi', .slice av' n' cap', n', f'⟩ hs').alloc (.cells #[.int .i64 x, .slice av n cap] 27)).addBox w.heap.size [.int .i64 x, .slice av n cap] (Box.made _ _ _ _ (fun j v h => by simpa using h)))
    replace st := (st.alloc (.cells #[.int .i64 x', .slice av' n' cap'] 27)).addBox _ [.int .i64 x', .slice av' n' cap'] (Box.made _ _ _ _ (fun j v h => by simpa using h))
    simp only [World.size_alloc] at st
    have HC := Lib.hid h1
    have HC' := Lib.hid h2
    clear hs h hs' h1 h2
    replace st := (st.alloc (.cells #[.int .i64 0, .int .i64 0] 59)).addBox _ [.int .i64 0, .int .i64 0] (Box.made _ _ _ _ (fun j v h => by simpa using h))
    simp only [World.size_alloc] at st
    replace st := (st.alloc (.cells #[.int .i64 0, .int .i64 0] 59)).addBox _ [.int .i64 0, .int .i64 0] (Box.made _ _ _ _ (fun j v h => by simpa using h))
    simp only [World.size_alloc] at st
    have q0 := st.sl 1 ⟨o, lo, hi, .slice av n cap, n, f⟩ rfl
    have q1 := st.sl 0 ⟨o', lo', hi', .slice av' n' cap', n', f'⟩ rfl
    dsimp only at q0 q1
    go_enter Try.func69, Try.ntmps69
    go_wp2_with fail
    refine (openCubic_ok _ _ q0 HC.out).mono ?_
    rintro e w1 ⟨rfl, b1⟩
    replace st := st.keep b1
    have hz1 := b1.size
    try simp only [World.size_alloc] at hz1
    clear b1
    replace st := (st.alloc (.cells #[.int .i64 (f 0), .int .i64 (f 1)] 59)).addBox _ [.int .i64 (f 0), .int .i64 (f 1)] (Box.made _ _ _ _ (fun j v h => by simpa using h))
    try simp only [World.size_alloc] at st
    have q2 := st.sl 0 ⟨o', lo', hi', .slice av' n' cap', n', f'⟩ rfl
    dsimp only at q2
    obtain ⟨y0, y1⟩ := (st.box 3 (w.heap.size + 1, [.int .i64 x', .slice av' n' cap']) rfl).cell2
    dsimp only at y0 y1
    go_wp2_with fail
    refine (openCubic_bad _ _ q2 HC'.out).mono ?_
    rintro e w2 ⟨rfl, b2⟩
    replace st := st.keep b2
    have hz2 := b2.size
    try simp only [World.size_alloc] at hz2
    clear b2
    obtain ⟨r0, r1⟩ := (st.box 1 _ rfl).cell2
    have rz := (st.box 1 _ rfl).2.2
    have rs := (st.box 1 _ rfl).1
    dsimp only at r0 r1 rz rs
    obtain ⟨s0, s1⟩ := (st.box 2 _ rfl).cell2
    have sz := (st.box 2 _ rfl).2.2
    have ss := (st.box 2 _ rfl).1
    dsimp only at s0 s1 sz ss
    have BB := st.1
    go_wp2
    refine bodyPost_ret (v := .tuple #[.agg #[.int .i64 0, .int .i64 0], .agg #[.int .i64 0, .int .i64 0], .int .i64 1]) (by simp [results, Try.results69, go_sem, r0, r1, s0, s1, rs, ss, Nat.ne_of_lt rs, Nat.ne_of_lt ss]) rfl ?_
    exact ⟨rfl, by go_grown⟩
  · by_cases h2 : CuP x' n' f'
    ·
      obtain ⟨av, cap, rfl⟩ := hs.shape
      have hm := hs.len
      unfold maxLen at hm
      obtain ⟨av', cap', rfl⟩ := hs'.shape
      have hm' := hs'.len
      unfold maxLen at hm'
      have hh := hs.size
      have hh' := hs'.size
      have st := (((((St.start w).addSl ⟨o, lo, hi, .slice av n cap, n, f⟩ hs).addSl ⟨o', lo', hi', .slice av' n' cap', n', f'⟩ hs').alloc (.cells #[.int .i64 x, .slice av n cap] 27)).addBox w.heap.size [.int .i64 x, .slice av n cap] (Box.made _ _ _ _ (fun j v h => by simpa using h)))
      replace st := (st.alloc (.cells #[.int .i64 x', .slice av' n' cap'] 27)).addBox _ [.int .i64 x', .slice av' n' cap'] (Box.made _ _ _ _ (fun j v h => by simpa using h))
      simp only [World.size_alloc] at st
      have HC := Lib.hid h1
      have HC' := Lib.hid h2
      clear hs h hs' h1 h2
      replace st := (st.alloc (.cells #[.int .i64 0, .int .i64 0] 59)).addBox _ [.int .i64 0, .int .i64 0] (Box.made _ _ _ _ (fun j v h => by simpa using h))
      simp only [World.size_alloc] at st
      replace st := (st.alloc (.cells #[.int .i64 0, .int .i64 0] 59)).addBox _ [.int .i64 0, .int .i64 0] (Box.made _ _ _ _ (fun j v h => by simpa using h))
      simp only [World.size_alloc] at st
      have q0 := st.sl 1 ⟨o, lo, hi, .slice av n cap, n, f⟩ rfl
      have q1 := st.sl 0 ⟨o', lo', hi', .slice av' n' cap', n', f'⟩ rfl
      dsimp only at q0 q1
      go_enter Try.func69, Try.ntmps69
      go_wp2_with fail
      refine (openCubic_bad _ _ q0 HC.out).mono ?_
      rintro e w1 ⟨rfl, b1⟩
      replace st := st.keep b1
      have hz1 := b1.size
      try simp only [World.size_alloc] at hz1
      clear b1
      replace st := (st.alloc (.cells #[.int .i64 0, .int .i64 0] 59)).addBox _ [.int .i64 0, .int .i64 0] (Box.made _ _ _ _ (fun j v h => by simpa using h))
      try simp only [World.size_alloc] at st
      have q2 := st.sl 0 ⟨o', lo', hi', .slice av' n' cap', n', f'⟩ rfl
      dsimp only at q2
      obtain ⟨y0, y1⟩ := (st.box 3 (w.heap.size + 1, [.int .i64 x', .slice av' n' cap']) rfl).cell2
      dsimp only at y0 y1
      go_wp2_with fail
      refine (openCubic_ok _ _ q2 HC'.out).mono ?_
      rintro e w2 ⟨rfl, b2⟩
      replace st := st.keep b2
      have hz2 := b2.size
      try simp only [World.size_alloc] at hz2
      clear b2
      obtain ⟨r0, r1⟩ := (st.box 1 _ rfl).cell2
      have rz := (st.box 1 _ rfl).2.2
      have rs := (st.box 1 _ rfl).1
      dsimp only at r0 r1 rz rs
      obtain ⟨s0, s1⟩ := (st.box 2 _ rfl).cell2
      have sz := (st.box 2 _ rfl).2.2
      have ss := (st.box 2 _ rfl).1
      dsimp only at s0 s1 sz ss
      have BB := st.1
      go_wp2
      refine bodyPost_ret (v := .tuple #[.agg #[.int .i64 0, .int .i64 0], .agg #[.int .i64 0, .int .i64 0], .int .i64 1]) (by simp [results, Try.results69, go_sem, r0, r1, s0, s1, rs, ss, Nat.ne_of_lt rs, Nat.ne_of_lt ss]) rfl ?_
      exact ⟨rfl, by go_grown⟩
    ·
      obtain ⟨av, cap, rfl⟩ := hs.shape
      have hm := hs.len
      unfold maxLen at hm
      obtain ⟨av', cap', rfl⟩ := hs'.shape
      have hm' := hs'.len
      unfold maxLen at hm'
      have hh := hs.size
      have hh' := hs'.size
      have st := (((((St.start w).addSl ⟨o, lo, hi, .slice av n cap, n, f⟩ hs).addSl ⟨o', lo', hi', .slice av' n' cap', n', f'⟩ hs').alloc (.cells #[.int .i64 x, .slice av n cap] 27)).addBox w.heap.size [.int .i64 x, .slice av n cap] (Box.made _ _ _ _ (fun j v h => by simpa using h)))
      replace st := (st.alloc (.cells #[.int .i64 x', .slice av' n' cap'] 27)).addBox _ [.int .i64 x', .slice av' n' cap'] (Box.made _ _ _ _ (fun j v h => by simpa using h))
      simp only [World.size_alloc] at st
      have HC := Lib.hid h1
      have HC' := Lib.hid h2
      clear hs h hs' h1 h2
      replace st := (st.alloc (.cells #[.int .i64 0, .int .i64 0] 59)).addBox _ [.int .i64 0, .int .i64 0] (Box.made _ _ _ _ (fun j v h => by simpa using h))
      simp only [World.size_alloc] at st
      replace st := (st.alloc (.cells #[.int .i64 0, .int .i64 0] 59)).addBox _ [.int .i64 0, .int .i64 0] (Box.made _ _ _ _ (fun j v h => by simpa using h))
      simp only [World.size_alloc] at st
      have q0 := st.sl 1 ⟨o, lo, hi, .slice av n cap, n, f⟩ rfl
      have q1 := st.sl 0 ⟨o', lo', hi', .slice av' n' cap', n', f'⟩ rfl
      dsimp only at q0 q1
      go_enter Try.func69, Try.ntmps69
      go_wp2_with fail
      refine (openCubic_bad _ _ q0 HC.out).mono ?_
      rintro e w1 ⟨rfl, b1⟩
      replace st := st.keep b1
      have hz1 := b1.size
      try simp only [World.size_alloc] at hz1
      clear b1
      replace st := (st.alloc (.cells #[.int .i64 0, .int .i64 0] 59)).addBox _ [.int .i64 0, .int .i64 0] (Box.made _ _ _ _ (fun j v h => by simpa using h))
      try simp only [World.size_alloc] at st
      have q2 := st.sl 0 ⟨o', lo', hi', .slice av' n' cap', n', f'⟩ rfl
      dsimp only at q2
      obtain ⟨y0, y1⟩ := (st.box 3 (w.heap.size + 1, [.int .i64 x', .slice av' n' cap']) rfl).cell2
      dsimp only at y0 y1
      go_wp2_with fail
      refine (openCubic_bad _ _ q2 HC'.out).mono ?_
      rintro e w2 ⟨rfl, b2⟩
      replace st := st.keep b2
      have hz2 := b2.size
      try simp only [World.size_alloc] at hz2
      clear b2
      obtain ⟨r0, r1⟩ := (st.box 1 _ rfl).cell2
      have rz := (st.box 1 _ rfl).2.2
      have rs := (st.box 1 _ rfl).1
      dsimp only at r0 r1 rz rs
      obtain ⟨s0, s1⟩ := (st.box 2 _ rfl).cell2
      have sz := (st.box 2 _ rfl).2.2
      have ss := (st.box 2 _ rfl).1
      dsimp only at s0 s1 sz ss
      have BB := st.1
      go_wp2
      refine bodyPost_ret (v := .tuple #[.agg #[.int .i64 0, .int .i64 0], .agg #[.int .i64 0, .int .i64 0], .int .i64 1]) (by simp [results, Try.results69, go_sem, r0, r1, s0, s1, rs, ss, Nat.ne_of_lt rs, Nat.ne_of_lt ss]) rfl ?_
      exact ⟨rfl, by go_grown⟩
theorem cubicWithin_yes (a b : Int) (w : World) (ha : -10000 ≤ a) (ha' : a ≤ 10000) (hb : -10000 ≤ b) (hb' : b ≤ 10000) :
    Calls Try.prog 62 #[.agg #[.int .i64 a, .int .i64 b]] w fun e w' => ∃ g k, e = .returned (.tuple #[.agg #[.int .i64 3, .slice g 2 k], .int .i64 0]) ∧ Sl true w' w.heap.size w'.heap.size (.slice g 2 k) 2 (two a b) ∧ Below w.heap.size w w' := by
  have st := ((St.start w).alloc (.cells #[.int .i64 a, .int .i64 b] 59)).addBox w.heap.size [.int .i64 a, .int .i64 b] (Box.made _ _ _ _ (fun j v h => by simpa using h))
  replace st := (st.alloc (.cells #[.int .i64 0, .slice none 0 0] 27)).addBox _ [.int .i64 0, .slice none 0 0] (Box.made _ _ _ _ (fun j v h => by simpa using h))
  simp only [World.size_alloc] at st
  have S0 := two_made a b (by unfold inR; omega) (by unfold inR; omega) (w := (w.alloc (.cells #[.int .i64 a, .int .i64 b] 59)).alloc (.cells #[.int .i64 0, .slice none 0 0] 27))
  simp only [World.size_alloc] at S0
  replace st := st.alloc (.cells #[.int .i64 a, .int .i64 b] 2)
  have HW := Lib.hid (show Within (two a b) 2 10000 from fun j hj => by unfold two; split <;> omega)
  go_enter Try.func62, Try.ntmps62
  go_wp2_with fail
  refine (areWithin_yes _ _ (by omega) (by omega) S0 HW.out).mono ?_
  rintro e w1 ⟨rfl, rfl⟩
  generalize World.alloc _ (.cells #[.int .i64 a, .int .i64 b] 2) = W at S0 st ⊢
  obtain ⟨r0, r1⟩ := (st.box 0 _ rfl).cell2
  have rz := (st.box 0 _ rfl).2.2
  have rs := (st.box 0 _ rfl).1
  dsimp only at r0 r1 rz rs
  have BB := st.1
  go_wp2
  refine bodyPost_ret (v := .tuple #[.agg #[.int .i64 3, .slice (some ⟨w.heap.size + 1 + 1, 0, none⟩) 2 2], .int .i64 0]) (by simp [results, Try.results62, go_sem, r0, r1]) rfl ?_
  refine ⟨_, _, rfl, ?_, by go_grown⟩
  exact ((S0.setOther (.inl (by show w.heap.size + 1 < _; omega)) _).setOther (.inl (by show w.heap.size + 1 < _; omega)) _).wide (by omega) (by have := S0.size; simp; omega) (by simp)
theorem cubicWithin_no (a b : Int) (w : World) (ha : inR a) (hb : inR b) (h : ¬ (-10000 ≤ a ∧ a ≤ 10000 ∧ -10000 ≤ b ∧ b ≤ 10000)) :
    Calls Try.prog 62 #[.agg #[.int .i64 a, .int .i64 b]] w fun e w' => e = .returned (failV 3) ∧ Below w.heap.size w w' := by
  have st := ((St.start w).alloc (.cells #[.int .i64 a, .int .i64 b] 59)).addBox w.heap.size [.int .i64 a, .int .i64 b] (Box.made _ _ _ _ (fun j v h => by simpa using h))
  replace st := (st.alloc (.cells #[.int .i64 0, .slice none 0 0] 27)).addBox _ [.int .i64 0, .slice none 0 0] (Box.made _ _ _ _ (fun j v h => by simpa using h))
  simp only [World.size_alloc] at st
  have S0 := two_made a b ha hb (w := (w.alloc (.cells #[.int .i64 a, .int .i64 b] 59)).alloc (.cells #[.int .i64 0, .slice none 0 0] 27))
  simp only [World.size_alloc] at S0
  replace st := st.alloc (.cells #[.int .i64 a, .int .i64 b] 2)
  have HW := Lib.hid (show ¬ Within (two a b) 2 10000 from fun g => h (by have g0 := g 0 (by omega); have g1 := g 1 (by omega); unfold two at g0 g1; simp at g0 g1; omega))
  clear ha hb h
  go_enter Try.func62, Try.ntmps62
  go_wp2_with fail
  refine (areWithin_no _ _ (by omega) (by omega) S0 HW.out).mono ?_
  rintro e w1 ⟨rfl, rfl⟩
  generalize World.alloc _ (.cells #[.int .i64 a, .int .i64 b] 2) = W at S0 st ⊢
  obtain ⟨r0, r1⟩ := (st.box 0 _ rfl).cell2
  have rz := (st.box 0 _ rfl).2.2
  have rs := (st.box 0 _ rfl).1
  dsimp only at r0 r1 rz rs
  have BB := st.1
  go_wp2
  refine bodyPost_ret (v := failV 3) (by simp [results, Try.results62, go_sem, failV, r0, r1]) rfl ?_
  exact ⟨rfl, by go_grown⟩
set_option maxHeartbeats 2000000 in
theorem associate_chosen (a b : Int) (w : World) (ha : -20000 ≤ a) (ha' : a ≤ 20000) (hb : -20000 ≤ b) (hb' : b ≤ 20000) (hn0 : ¬ (a = 0 ∧ b = 0)) :
    Calls Try.prog 63 #[.agg #[.int .i64 a, .int .i64 b], .func (.func 64) #[] #[]] w fun e w' => e = .returned (.agg #[.int .i64 (chA a b), .int .i64 (chB a b)]) ∧ Below w.heap.size w w' := by
  obtain ⟨A, hA0⟩ : ∃ A, chA a b = A := ⟨_, rfl⟩
  obtain ⟨B, hB0⟩ : ∃ B, chB a b = B := ⟨_, rfl⟩
  rw [hA0, hB0]
  have HA0 := Lib.hid hA0
  have HB0 := Lib.hid hB0
  have HN0 := Lib.hid hn0
  clear hA0 hB0 hn0
  have st := ((St.start w).alloc (.cells #[.int .i64 a, .int .i64 b] 59)).addBox w.heap.size [.int .i64 a, .int .i64 b] (Box.made _ _ _ _ (fun j v h => by simpa using h))
  replace st := (st.alloc (.cells #[.int .i64 0, .int .i64 0] 59)).addBox _ [.int .i64 0, .int .i64 0] (Box.made _ _ _ _ (fun j v h => by simpa using h))
  simp only [World.size_alloc] at st
  go_enter Try.func63, Try.ntmps63
  go_wp2_with fail
  go_loopg [] (cst a b) (fun k wr => ∃ c d : Int, cst c d = k ∧ (-40000 ≤ c ∧ c ≤ 40000 ∧ -40000 ≤ d ∧ d ≤ 40000 ∧ -40000 ≤ c - d ∧ c - d ≤ 40000) ∧ Hid (¬ (c = 0 ∧ d = 0)) ∧ Hid (chA c d = A) ∧ Hid (chB c d = B) ∧ St w wr [(w.heap.size, [.int .i64 c, .int .i64 d]), (w.heap.size + 1, [.int .i64 0, .int .i64 0])] [])
  case atStart => exact ⟨a, b, rfl, by omega, HN0, HA0, HB0, st.swp⟩
  case round =>
    clear st
    obtain ⟨c, d, hk, hbd, HN, HA, HB, st⟩ := hrel
    have HK := Lib.hid hk
    clear hk
    obtain ⟨c0, c1⟩ := (st.box 0 _ rfl).cell2
    have cz := (st.box 0 _ rfl).2.2
    have cs := (st.box 0 _ rfl).1
    dsimp only at c0 c1 cz cs
    obtain ⟨r0, r1⟩ := (st.box 1 _ rfl).cell2
    have rz := (st.box 1 _ rfl).2.2
    have rs := (st.box 1 _ rfl).1
    dsimp only at r0 r1 rz rs
    by_cases hch : isCh c d
    · have HC := Lib.hid hch
      have hdec : decide (isCh c d) = true := decide_eq_true hch
      clear hch
      go_wp2_with fail
      refine (isChosen_impl c d _).mono ?_
      rw [hdec]
      rintro e w1 ⟨rfl, b1⟩
      replace st := st.keep b1
      clear b1 hdec c0 c1 cz cs r0 r1 rz rs
      obtain ⟨c0, c1⟩ := (st.box 0 _ rfl).cell2
      have cz := (st.box 0 _ rfl).2.2
      have cs := (st.box 0 _ rfl).1
      dsimp only at c0 c1 cz cs
      obtain ⟨r0, r1⟩ := (st.box 1 _ rfl).cell2
      have rz := (st.box 1 _ rfl).2.2
      have rs := (st.box 1 _ rfl).1
      dsimp only at r0 r1 rz rs
      have BB := st.1
      go_wp2
      refine bodyPost_ret (v := .agg #[.int .i64 c, .int .i64 d]) (by simp [results, Try.results63, go_sem, r0, r1]) rfl ?_
      have e0 := ch_self HC.out
      exact ⟨by rw [← HA.out, ← HB.out, e0.1, e0.2], by go_grown⟩
    · have HC := Lib.hid hch
      have hdec : decide (isCh c d) = false := decide_eq_false hch
      clear hch
      go_wp2_with fail
      refine (isChosen_impl c d _).mono ?_
      rw [hdec]
      rintro e w1 ⟨rfl, b1⟩
      replace st := st.keep b1
      clear b1 hdec c0 c1 cz cs r0 r1 rz rs
      obtain ⟨c0, c1⟩ := (st.box 0 _ rfl).cell2
      have cz := (st.box 0 _ rfl).2.2
      have cs := (st.box 0 _ rfl).1
      dsimp only at c0 c1 cz cs
      go_wp2_with fail
      refine (turned_impl c d _ (by omega) (by omega) (by omega) (by omega)).mono ?_
      rintro e w2 ⟨rfl, b2⟩
      replace st := st.keep b2
      clear b2 c0 c1 cz cs
      obtain ⟨c0, c1⟩ := (st.box 0 _ rfl).cell2
      have cz := (st.box 0 _ rfl).2.2
      have cs := (st.box 0 _ rfl).1
      dsimp only at c0 c1 cz cs
      have st2 := st.setHead (u0 := .int .i64 (c - d)) (u1 := .int .i64 c) (Nat.le_refl _) (by intro q hq; simp only [List.mem_cons, List.not_mem_nil, or_false] at hq; rcases hq with rfl <;> dsimp only <;> omega) (by intro s hs; cases hs)
      go_wp2
      have hne := HN.out
      have hch := HC.out
      have hA := HA.out
      have hB := HB.out
      go_roundg (cst (c - d) c)
      case rel => exact ⟨c - d, c, rfl, by omega, Lib.hid (turn_ne hne), Lib.hid ((chA_turn hne).trans hA), Lib.hid ((chB_turn hne).trans hB), st2⟩
      case measure => have := cst_turn hne hch; have := HK.out; omega
set_option maxHeartbeats 2000000 in
theorem associate_primary (a b : Int) (w : World) (ha : -20000 ≤ a) (ha' : a ≤ 20000) (hb : -20000 ≤ b) (hb' : b ≤ 20000) (hn0 : ¬ (a + b) % 3 = 0) :
    Calls Try.prog 63 #[.agg #[.int .i64 a, .int .i64 b], .func (.func 66) #[] #[]] w fun e w' => e = .returned (.agg #[.int .i64 (prA a b), .int .i64 (prB a b)]) ∧ Below w.heap.size w w' := by
  obtain ⟨A, hA0⟩ : ∃ A, prA a b = A := ⟨_, rfl⟩
  obtain ⟨B, hB0⟩ : ∃ B, prB a b = B := ⟨_, rfl⟩
  rw [hA0, hB0]
  have HA0 := Lib.hid hA0
  have HB0 := Lib.hid hB0
  have HN0 := Lib.hid hn0
  clear hA0 hB0 hn0
  have st := ((St.start w).alloc (.cells #[.int .i64 a, .int .i64 b] 59)).addBox w.heap.size [.int .i64 a, .int .i64 b] (Box.made _ _ _ _ (fun j v h => by simpa using h))
  replace st := (st.alloc (.cells #[.int .i64 0, .int .i64 0] 59)).addBox _ [.int .i64 0, .int .i64 0] (Box.made _ _ _ _ (fun j v h => by simpa using h))
  simp only [World.size_alloc] at st
  go_enter Try.func63, Try.ntmps63
  go_wp2_with fail
  go_loopg [] (pst a b) (fun k wr => ∃ c d : Int, pst c d = k ∧ (-40000 ≤ c ∧ c ≤ 40000 ∧ -40000 ≤ d ∧ d ≤ 40000 ∧ -40000 ≤ c - d ∧ c - d ≤ 40000) ∧ Hid (¬ (c + d) % 3 = 0) ∧ Hid (prA c d = A) ∧ Hid (prB c d = B) ∧ St w wr [(w.heap.size, [.int .i64 c, .int .i64 d]), (w.heap.size + 1, [.int .i64 0, .int .i64 0])] [])
  case atStart => exact ⟨a, b, rfl, by omega, HN0, HA0, HB0, st.swp⟩
  case round =>
    clear st
    obtain ⟨c, d, hk, hbd, HN, HA, HB, st⟩ := hrel
    have HK := Lib.hid hk
    clear hk
    obtain ⟨c0, c1⟩ := (st.box 0 _ rfl).cell2
    have cz := (st.box 0 _ rfl).2.2
    have cs := (st.box 0 _ rfl).1
    dsimp only at c0 c1 cz cs
    obtain ⟨r0, r1⟩ := (st.box 1 _ rfl).cell2
    have rz := (st.box 1 _ rfl).2.2
    have rs := (st.box 1 _ rfl).1
    dsimp only at r0 r1 rz rs
    by_cases hch : isPr c d
    · have HC := Lib.hid hch
      have hdec : decide ((c % 3 = 2 ∧ d % 3 = 0)) = true := decide_eq_true hch
      clear hch
      go_wp2_with fail
      refine (isPrimary_impl c d _ (by omega) (by omega) (by omega) (by omega)).mono ?_
      rw [hdec]
      rintro e w1 ⟨rfl, b1⟩
      replace st := st.keep b1
      clear b1 hdec c0 c1 cz cs r0 r1 rz rs
      obtain ⟨c0, c1⟩ := (st.box 0 _ rfl).cell2
      have cz := (st.box 0 _ rfl).2.2
      have cs := (st.box 0 _ rfl).1
      dsimp only at c0 c1 cz cs
      obtain ⟨r0, r1⟩ := (st.box 1 _ rfl).cell2
      have rz := (st.box 1 _ rfl).2.2
      have rs := (st.box 1 _ rfl).1
      dsimp only at r0 r1 rz rs
      have BB := st.1
      go_wp2
      refine bodyPost_ret (v := .agg #[.int .i64 c, .int .i64 d]) (by simp [results, Try.results63, go_sem, r0, r1]) rfl ?_
      have e0 := pr_self HC.out
      exact ⟨by rw [← HA.out, ← HB.out, e0.1, e0.2], by go_grown⟩
    · have HC := Lib.hid hch
      have hdec : decide ((c % 3 = 2 ∧ d % 3 = 0)) = false := decide_eq_false hch
      clear hch
      go_wp2_with fail
      refine (isPrimary_impl c d _ (by omega) (by omega) (by omega) (by omega)).mono ?_
      rw [hdec]
      rintro e w1 ⟨rfl, b1⟩
      replace st := st.keep b1
      clear b1 hdec c0 c1 cz cs r0 r1 rz rs
      obtain ⟨c0, c1⟩ := (st.box 0 _ rfl).cell2
      have cz := (st.box 0 _ rfl).2.2
      have cs := (st.box 0 _ rfl).1
      dsimp only at c0 c1 cz cs
      go_wp2_with fail
      refine (turned_impl c d _ (by omega) (by omega) (by omega) (by omega)).mono ?_
      rintro e w2 ⟨rfl, b2⟩
      replace st := st.keep b2
      clear b2 c0 c1 cz cs
      obtain ⟨c0, c1⟩ := (st.box 0 _ rfl).cell2
      have cz := (st.box 0 _ rfl).2.2
      have cs := (st.box 0 _ rfl).1
      dsimp only at c0 c1 cz cs
      have st2 := st.setHead (u0 := .int .i64 (c - d)) (u1 := .int .i64 c) (Nat.le_refl _) (by intro q hq; simp only [List.mem_cons, List.not_mem_nil, or_false] at hq; rcases hq with rfl <;> dsimp only <;> omega) (by intro s hs; cases hs)
      go_wp2
      have hne := HN.out
      have hch := HC.out
      have hA := HA.out
      have hB := HB.out
      go_roundg (pst (c - d) c)
      case rel => exact ⟨c - d, c, rfl, by omega, Lib.hid (turn3 hne), Lib.hid ((pr_turn hne).1.trans hA), Lib.hid ((pr_turn hne).2.trans hB), st2⟩
      case measure => have := pst_turn hne hch; have := HK.out; omega
end
end Go.Proofs.Ytfadlnbmpgbeaaa
