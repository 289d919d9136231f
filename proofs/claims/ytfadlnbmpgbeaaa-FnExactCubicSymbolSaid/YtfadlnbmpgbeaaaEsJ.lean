/- CubicSymbol of the model. -/
import Derived.Test.YtfadlnbmpgbeaaaEsQ
namespace Go.Proofs.Ytfadlnbmpgbeaaa
open Go.RowKit Go.ChangeShapes Go.Sort
set_option linter.unusedVariables false
set_option linter.unusedSimpArgs false
set_option maxRecDepth 100000
set_option maxHeartbeats 4000000

section
variable {o o' : Bool} {lo hi n lo' hi' n' : Nat} {v v' : Value} {f f' : Nat → Int}
theorem CubicSymbol_spec_bad (x x' : Int) (w : World) (hs : Sl o w lo hi v n f) (hs' : Sl o' w lo' hi' v' n' f') (h : ¬ (CuP x n f ∧ CuP x' n' f')) :
    Calls Try.prog 42 #[.agg #[.int .i64 x, v], .agg #[.int .i64 x', v']] w fun e w' => e = .returned (.tuple #[.int .i64 0, .int .i64 1]) ∧ Below w.heap.size w w' := by
  by_cases h1 : CuP x n f
  · have h2 : ¬ CuP x' n' f' := fun g => h ⟨h1, g⟩
    obtain ⟨av, cap, rfl⟩ := hs.shape
    obtain ⟨av', cap', rfl⟩ := hs'.shape
    have hh := hs.size
    have hh' := hs'.size
    have st := (((((St.start w).addSl ⟨o, lo, hi, .slice av n cap, n, f⟩ hs).addSl ⟨o', lo', hi', .slice av' n' cap', n', f'⟩ hs').alloc (.cells #[.int .i64 x, .slice av n cap] 27)).addBox w.heap.size [.int .i64 x, .slice av n cap] (Box.made _ _ _ _ (fun j v h => by simpa using h)))
    replace st := (st.alloc (.cells #[.int .i64 x', .slice av' n' cap'] 27)).addBox _ [.int .i64 x', .slice av' n' cap'] (Box.made _ _ _ _ (fun j v h => by simpa using h))
    simp only [World.size_alloc] at st
    have HC := Lib.hid h1
    have HC' := Lib.hid h2
    clear h h1 h2
    go_enter Try.func42, Try.ntmps42
    replace st := (st.alloc (.cells #[.int .i64 x, .slice av n cap, .int .i64 x', .slice av' n' cap'] 27)).addBox _ [.int .i64 x, .slice av n cap, .int .i64 x', .slice av' n' cap'] (Box.made _ _ _ _ (fun j v h => by simpa using h))
    simp only [World.size_alloc] at st
    have hbx := st.box 0 _ rfl
    have q0 := st.sl 1 ⟨o, lo, hi, .slice av n cap, n, f⟩ rfl
    have q1 := st.sl 0 ⟨o', lo', hi', .slice av' n' cap', n', f'⟩ rfl
    dsimp only at q0 q1
    dsimp only at hbx
    go_wp2_with fail
    refine (l09Code2_bad1 _ _ _ _ q0 q1 hbx HC.out HC'.out).mono ?_
    rintro e w1 ⟨rfl, b1⟩
    replace st := st.keep b1
    have hz1 := b1.size
    try simp only [World.size_alloc] at hz1
    clear b1 hbx q0 q1
    have BB := st.1
    go_wp2
    refine bodyPost_ret (v := .tuple #[.int .i64 0, .int .i64 1]) (by simp [results, Try.results42, go_sem]) rfl ?_
    exact ⟨by first | rfl | simp, by go_grown⟩
  · have HC := Lib.hid h1
    clear h h1
    obtain ⟨av, cap, rfl⟩ := hs.shape
    obtain ⟨av', cap', rfl⟩ := hs'.shape
    have hh := hs.size
    have hh' := hs'.size
    have st := (((((St.start w).addSl ⟨o, lo, hi, .slice av n cap, n, f⟩ hs).addSl ⟨o', lo', hi', .slice av' n' cap', n', f'⟩ hs').alloc (.cells #[.int .i64 x, .slice av n cap] 27)).addBox w.heap.size [.int .i64 x, .slice av n cap] (Box.made _ _ _ _ (fun j v h => by simpa using h)))
    replace st := (st.alloc (.cells #[.int .i64 x', .slice av' n' cap'] 27)).addBox _ [.int .i64 x', .slice av' n' cap'] (Box.made _ _ _ _ (fun j v h => by simpa using h))
    simp only [World.size_alloc] at st
    go_enter Try.func42, Try.ntmps42
    replace st := (st.alloc (.cells #[.int .i64 x, .slice av n cap, .int .i64 x', .slice av' n' cap'] 27)).addBox _ [.int .i64 x, .slice av n cap, .int .i64 x', .slice av' n' cap'] (Box.made _ _ _ _ (fun j v h => by simpa using h))
    simp only [World.size_alloc] at st
    have hbx := st.box 0 _ rfl
    have q0 := st.sl 1 ⟨o, lo, hi, .slice av n cap, n, f⟩ rfl
    have q1 := st.sl 0 ⟨o', lo', hi', .slice av' n' cap', n', f'⟩ rfl
    dsimp only at q0 q1
    dsimp only at hbx
    go_wp2_with fail
    refine (l09Code2_bad0 _ _ _ _ q0 q1 hbx HC.out).mono ?_
    rintro e w1 ⟨rfl, b1⟩
    replace st := st.keep b1
    have hz1 := b1.size
    try simp only [World.size_alloc] at hz1
    clear b1 hbx q0 q1
    have BB := st.1
    go_wp2
    refine bodyPost_ret (v := .tuple #[.int .i64 0, .int .i64 1]) (by simp [results, Try.results42, go_sem]) rfl ?_
    exact ⟨by first | rfl | simp, by go_grown⟩
theorem CubicSymbol_spec_no (x x' : Int) (w : World) (hs : Sl o w lo hi v n f) (hs' : Sl o' w lo' hi' v' n' f') (h : CuP x n f) (h' : CuP x' n' f') (N L : Nat) (hN : nrm (f' 0) (f' 1) = N) (hL : 2 ≤ N → isLD N L) (hp : N % 3 = 0 ∨ prmB N L = false) :
    Calls Try.prog 42 #[.agg #[.int .i64 x, v], .agg #[.int .i64 x', v']] w fun e w' => e = .returned (.tuple #[.int .i64 0, .int .i64 5]) ∧ Below w.heap.size w w' := by
  obtain rfl : n = 2 := h.2.1
  obtain rfl : n' = 2 := h'.2.1
  have hb := h.bd
  have hb' := h'.bd
  have hn2 := nrm_le (M := 10000) hb'.1 hb'.2.1 hb'.2.2.1 hb'.2.2.2
  rw [hN] at hn2
  have HC := Lib.hid h
  have HC' := Lib.hid h'
  have HLD := Lib.hid hL
  have HN := Lib.hid hN
  clear h h' hL
  obtain ⟨av, cap, rfl⟩ := hs.shape
  obtain ⟨av', cap', rfl⟩ := hs'.shape
  have hh := hs.size
  have hh' := hs'.size
  have st := (((((St.start w).addSl ⟨o, lo, hi, .slice av 2 cap, 2, f⟩ hs).addSl ⟨o', lo', hi', .slice av' 2 cap', 2, f'⟩ hs').alloc (.cells #[.int .i64 x, .slice av 2 cap] 27)).addBox w.heap.size [.int .i64 x, .slice av 2 cap] (Box.made _ _ _ _ (fun j v h => by simpa using h)))
  replace st := (st.alloc (.cells #[.int .i64 x', .slice av' 2 cap'] 27)).addBox _ [.int .i64 x', .slice av' 2 cap'] (Box.made _ _ _ _ (fun j v h => by simpa using h))
  simp only [World.size_alloc] at st
  go_enter Try.func42, Try.ntmps42
  replace st := (st.alloc (.cells #[.int .i64 x, .slice av 2 cap, .int .i64 x', .slice av' 2 cap'] 27)).addBox _ [.int .i64 x, .slice av 2 cap, .int .i64 x', .slice av' 2 cap'] (Box.made _ _ _ _ (fun j v h => by simpa using h))
  simp only [World.size_alloc] at st
  have hbx := st.box 0 _ rfl
  have q0 := st.sl 1 ⟨o, lo, hi, .slice av 2 cap, 2, f⟩ rfl
  have q1 := st.sl 0 ⟨o', lo', hi', .slice av' 2 cap', 2, f'⟩ rfl
  dsimp only at q0 q1
  dsimp only at hbx
  go_wp2_with fail
  refine (l09Code2_ok _ _ _ _ q0 q1 hbx HC.out HC'.out).mono ?_
  rintro e w1 ⟨rfl, b1⟩
  replace st := st.keep b1
  have hz1 := b1.size
  try simp only [World.size_alloc] at hz1
  clear b1 hbx q0 q1
  obtain ⟨x0, x1⟩ := (st.box 2 _ rfl).cell2
  have xz := (st.box 2 _ rfl).2.2
  have xs := (st.box 2 _ rfl).1
  dsimp only at x0 x1 xz xs
  obtain ⟨y0, y1⟩ := (st.box 1 _ rfl).cell2
  have yz := (st.box 1 _ rfl).2.2
  have ys := (st.box 1 _ rfl).1
  dsimp only at y0 y1 yz ys
  have q2 := st.sl 0 ⟨o', lo', hi', .slice av' 2 cap', 2, f'⟩ rfl
  dsimp only at q2
  go_wp2_with fail
  refine (l09Prime_any x' N L _ q2 hb'.1 hb'.2.1 hb'.2.2.1 hb'.2.2.2 HN.out HLD.out).mono ?_
  rintro e w2 ⟨rfl, b2⟩
  replace st := st.keep b2
  have hz2 := b2.size
  clear b2 q2 x0 x1 xz xs y0 y1 yz ys
  cases hpb : prmB N L with
  | false =>
    have BB := st.1
    go_wp2
    refine bodyPost_ret (v := .tuple #[.int .i64 0, .int .i64 5]) (by simp [results, Try.results42, go_sem]) rfl ?_
    exact ⟨by first | rfl | simp, by go_grown⟩
  | true =>
    have h3 : N % 3 = 0 := hp.resolve_right (by rw [hpb]; decide)
    have h3i : (N : Int).tmod 3 = 0 := by rw [Int.tmod_eq_emod_of_nonneg (by omega)]; omega
    obtain ⟨x0, x1⟩ := (st.box 2 _ rfl).cell2
    have xz := (st.box 2 _ rfl).2.2
    have xs := (st.box 2 _ rfl).1
    dsimp only at x0 x1 xz xs
    obtain ⟨y0, y1⟩ := (st.box 1 _ rfl).cell2
    have yz := (st.box 1 _ rfl).2.2
    have ys := (st.box 1 _ rfl).1
    dsimp only at y0 y1 yz ys
    have q3 := st.sl 0 ⟨o', lo', hi', .slice av' 2 cap', 2, f'⟩ rfl
    dsimp only at q3
    go_wp2_with fail
    refine (l09Norm_any x' _ q3 (by omega) (by omega) (by omega) (by omega)).mono ?_
    rw [HN.out]
    rintro e w3 ⟨rfl, b3⟩
    replace st := st.keep b3
    have hz3 := b3.size
    clear b3 q3 x0 x1 xz xs y0 y1 yz ys
    have BB := st.1
    go_wp2
    refine bodyPost_ret (v := .tuple #[.int .i64 0, .int .i64 5]) (by simp [results, Try.results42, go_sem]) rfl ?_
    exact ⟨by first | rfl | simp, by go_grown⟩
theorem CubicSymbol_spec_ok (x x' : Int) (w : World) (hs : Sl o w lo hi v n f) (hs' : Sl o' w lo' hi' v' n' f') (h : CuP x n f) (h' : CuP x' n' f') (N L : Nat) (K : Int) (hN : nrm (f' 0) (f' 1) = N) (hL : 2 ≤ N → isLD N L) (h3 : ¬ N % 3 = 0) (hp : prmB N L = true) (hn1 : 1 ≤ N) (hk0 : Es.dv ⟨f' 0, f' 1⟩ ⟨f 0, f 1⟩ ↔ K = -1) (hK : isSy ⟨f' 0, f' 1⟩ (Es.pw ⟨f 0, f 1⟩ ((N - 1) / 3)) K) :
    Calls Try.prog 42 #[.agg #[.int .i64 x, v], .agg #[.int .i64 x', v']] w fun e w' => e = .returned (.tuple #[.int .i64 K, .int .i64 0]) ∧ Below w.heap.size w w' := by
  have HK := Lib.hid hK
  have HK0 := Lib.hid hk0
  clear hK hk0
  obtain rfl : n = 2 := h.2.1
  obtain rfl : n' = 2 := h'.2.1
  have hb := h.bd
  have hb' := h'.bd
  have hn2 := nrm_le (M := 10000) hb'.1 hb'.2.1 hb'.2.2.1 hb'.2.2.2
  rw [hN] at hn2
  have HC := Lib.hid h
  have HC' := Lib.hid h'
  have HLD := Lib.hid hL
  have HN := Lib.hid hN
  clear h h' hL
  obtain ⟨av, cap, rfl⟩ := hs.shape
  obtain ⟨av', cap', rfl⟩ := hs'.shape
  have hh := hs.size
  have hh' := hs'.size
  have st := (((((St.start w).addSl ⟨o, lo, hi, .slice av 2 cap, 2, f⟩ hs).addSl ⟨o', lo', hi', .slice av' 2 cap', 2, f'⟩ hs').alloc (.cells #[.int .i64 x, .slice av 2 cap] 27)).addBox w.heap.size [.int .i64 x, .slice av 2 cap] (Box.made _ _ _ _ (fun j v h => by simpa using h)))
  replace st := (st.alloc (.cells #[.int .i64 x', .slice av' 2 cap'] 27)).addBox _ [.int .i64 x', .slice av' 2 cap'] (Box.made _ _ _ _ (fun j v h => by simpa using h))
  simp only [World.size_alloc] at st
  go_enter Try.func42, Try.ntmps42
  replace st := (st.alloc (.cells #[.int .i64 x, .slice av 2 cap, .int .i64 x', .slice av' 2 cap'] 27)).addBox _ [.int .i64 x, .slice av 2 cap, .int .i64 x', .slice av' 2 cap'] (Box.made _ _ _ _ (fun j v h => by simpa using h))
  simp only [World.size_alloc] at st
  have hbx := st.box 0 _ rfl
  have q0 := st.sl 1 ⟨o, lo, hi, .slice av 2 cap, 2, f⟩ rfl
  have q1 := st.sl 0 ⟨o', lo', hi', .slice av' 2 cap', 2, f'⟩ rfl
  dsimp only at q0 q1
  dsimp only at hbx
  go_wp2_with fail
  refine (l09Code2_ok _ _ _ _ q0 q1 hbx HC.out HC'.out).mono ?_
  rintro e w1 ⟨rfl, b1⟩
  replace st := st.keep b1
  have hz1 := b1.size
  try simp only [World.size_alloc] at hz1
  clear b1 hbx q0 q1
  obtain ⟨x0, x1⟩ := (st.box 2 _ rfl).cell2
  have xz := (st.box 2 _ rfl).2.2
  have xs := (st.box 2 _ rfl).1
  dsimp only at x0 x1 xz xs
  obtain ⟨y0, y1⟩ := (st.box 1 _ rfl).cell2
  have yz := (st.box 1 _ rfl).2.2
  have ys := (st.box 1 _ rfl).1
  dsimp only at y0 y1 yz ys
  have q2 := st.sl 0 ⟨o', lo', hi', .slice av' 2 cap', 2, f'⟩ rfl
  dsimp only at q2
  go_wp2_with fail
  refine (l09Prime_any x' N L _ q2 hb'.1 hb'.2.1 hb'.2.2.1 hb'.2.2.2 HN.out HLD.out).mono ?_
  rintro e w2 ⟨rfl, b2⟩
  replace st := st.keep b2
  have hz2 := b2.size
  clear b2 q2 x0 x1 xz xs y0 y1 yz ys
  rw [hp]
  have h3i : ¬ (N : Int).tmod 3 = 0 := by rw [Int.tmod_eq_emod_of_nonneg (by omega)]; omega
  have h3b : (((N : Int).tmod 3) == 0) = false := by simpa using h3i
  obtain ⟨x0, x1⟩ := (st.box 2 _ rfl).cell2
  have xz := (st.box 2 _ rfl).2.2
  have xs := (st.box 2 _ rfl).1
  dsimp only at x0 x1 xz xs
  obtain ⟨y0, y1⟩ := (st.box 1 _ rfl).cell2
  have yz := (st.box 1 _ rfl).2.2
  have ys := (st.box 1 _ rfl).1
  dsimp only at y0 y1 yz ys
  have q3 := st.sl 0 ⟨o', lo', hi', .slice av' 2 cap', 2, f'⟩ rfl
  dsimp only at q3
  go_wp2_with fail
  refine (l09Norm_any x' _ q3 (by omega) (by omega) (by omega) (by omega)).mono ?_
  rw [HN.out]
  rintro e w3 ⟨rfl, b3⟩
  replace st := st.keep b3
  have hz3 := b3.size
  clear b3 q3 x0 x1 xz xs y0 y1 yz ys
  obtain ⟨x0, x1⟩ := (st.box 2 _ rfl).cell2
  have xz := (st.box 2 _ rfl).2.2
  have xs := (st.box 2 _ rfl).1
  dsimp only at x0 x1 xz xs
  obtain ⟨y0, y1⟩ := (st.box 1 _ rfl).cell2
  have yz := (st.box 1 _ rfl).2.2
  have ys := (st.box 1 _ rfl).1
  dsimp only at y0 y1 yz ys
  have q4 := st.sl 1 ⟨o, lo, hi, .slice av 2 cap, 2, f⟩ rfl
  have q5 := st.sl 0 ⟨o', lo', hi', .slice av' 2 cap', 2, f'⟩ rfl
  dsimp only at q4 q5
  go_wp2_with fail
  refine (l09Symbol_any x x' N K _ q4 q5 rfl rfl rfl rfl (by omega) (by omega) HN.out hn1 HK0.out HK.out).mono ?_
  rintro e w4 ⟨rfl, b4⟩
  replace st := st.keep b4
  have hz4 := b4.size
  clear b4 q4 q5 x0 x1 xz xs y0 y1 yz ys
  have BB := st.1
  go_wp2
  refine bodyPost_ret (v := .tuple #[.int .i64 K, .int .i64 0]) (by simp [results, Try.results42, go_sem]) rfl ?_
  exact ⟨by first | rfl | simp, by go_grown⟩
end
/-- What the primes are that the symbols take. -/
theorem prN_of {a b : Int} {N L : Nat} (hN : nrm a b = N) (h2 : 2 ≤ N) (hL : isLD N L) (h3 : ¬ N % 3 = 0) (hp : prmB N L = true) : Es.PrN ⟨a, b⟩ N := by
  have hL2 := isLD_P hL
  unfold prmB at hp
  rcases (of_decide_eq_true hp).2 with ⟨h4, h5⟩ | ⟨h4, h5⟩
  · subst h5
    exact Es.prN_inert hL2 h4 hN
  · subst h5
    exact Es.prN_split hL2 h3 hN
end Go.Proofs.Ytfadlnbmpgbeaaa
