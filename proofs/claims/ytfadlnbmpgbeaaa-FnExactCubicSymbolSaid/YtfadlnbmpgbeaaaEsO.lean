/- CubicSymbol of the program. -/
import Derived.Test.YtfadlnbmpgbeaaaEsN
import Derived.Test.YtfadlnbmpgbeaaaEsR
namespace Go.Proofs.Ytfadlnbmpgbeaaa
open Go.RowKit Go.ChangeShapes Go.Sort
set_option linter.unusedVariables false
set_option linter.unusedSimpArgs false
set_option maxRecDepth 100000
set_option maxHeartbeats 4000000

/-- The symbol of the power X at y: the root it agrees with, or -1. -/
def isSy (y X : Es) (K : Int) : Prop := -1 ≤ K ∧ K < 3 ∧ ∀ i : Nat, i < 3 → (Es.cg y X (Es.rt i) ↔ K = i)
theorem isSy_ex {y : Es} {N : Nat} (h : Es.PrN y N) (x : Es) : (Es.dv y x ∧ isSy y (Es.pw x ((N - 1) / 3)) (-1)) ∨ (¬ Es.dv y x ∧ ∃ i : Nat, i < 3 ∧ isSy y (Es.pw x ((N - 1) / 3)) i) := by
  by_cases hd : Es.dv y x
  · refine .inl ⟨hd, by omega, by omega, fun i hi => ⟨fun k => absurd k (Es.rt_none h (Es.pw_dv hd ?_) i), fun k => by omega⟩⟩
    have := h.two
    have := h.mod
    omega
  · obtain ⟨i, hi, hc⟩ := Es.rt_some h hd
    exact .inr ⟨hd, i, hi, by omega, by omega, fun j hj => ⟨fun k => by rw [Es.rt_uniq h hi hj hc k], fun k => by
      obtain rfl : i = j := by omega
      exact hc⟩⟩
theorem isSy_rest {c d p q K : Int} {X : Es} (hn : 1 ≤ nrm c d) (hP : Es.cg ⟨c, d⟩ ⟨p, q⟩ X) (hK : isSy ⟨c, d⟩ X K) (i : Nat) (hi : i < 3) :
    (rA (p - (Es.rt i).a) (q - (Es.rt i).b) c d = 0 ∧ rB (p - (Es.rt i).a) (q - (Es.rt i).b) c d = 0) ↔ K = i := by
  rw [Es.rest_dv hn, ← hK.2.2 i hi]
  exact ⟨fun h => Es.cg_trans (Es.cg_symm hP) h, fun h => Es.cg_trans hP h⟩

section
variable {o o' : Bool} {lo hi n lo' hi' n' : Nat} {v v' : Value} {f f' : Nat → Int}
theorem CubicSymbol_impl_bad (x x' : Int) (w : World) (hs : Sl o w lo hi v n f) (hs' : Sl o' w lo' hi' v' n' f') (h : ¬ (CuP x n f ∧ CuP x' n' f')) :
    Calls Try.prog 43 #[.agg #[.int .i64 x, v], .agg #[.int .i64 x', v']] w fun e w' => e = .returned (.tuple #[.int .i64 0, .int .i64 1]) ∧ Below w.heap.size w w' := by
  obtain ⟨av, cap, rfl⟩ := hs.shape
  obtain ⟨av', cap', rfl⟩ := hs'.shape
  have hh := hs.size
  have hh' := hs'.size
  have st := (((((St.start w).addSl ⟨o, lo, hi, .slice av n cap, n, f⟩ hs).addSl ⟨o', lo', hi', .slice av' n' cap', n', f'⟩ hs').alloc (.cells #[.int .i64 x, .slice av n cap] 27)).addBox w.heap.size [.int .i64 x, .slice av n cap] (Box.made _ _ _ _ (fun j v h => by simpa using h)))
  replace st := (st.alloc (.cells #[.int .i64 x', .slice av' n' cap'] 27)).addBox _ [.int .i64 x', .slice av' n' cap'] (Box.made _ _ _ _ (fun j v h => by simpa using h))
  simp only [World.size_alloc] at st
  have HB := Lib.hid h
  clear h
  go_enter Try.func43, Try.ntmps43
  have q0 := st.sl 1 ⟨o, lo, hi, .slice av n cap, n, f⟩ rfl
  have q1 := st.sl 0 ⟨o', lo', hi', .slice av' n' cap', n', f'⟩ rfl
  dsimp only at q0 q1
  go_wp2_with fail
  refine (openCubics_bad _ _ _ q0 q1 HB.out).mono ?_
  rintro e w1 ⟨rfl, b1⟩
  replace st := st.keep b1
  have hz1 := b1.size
  try simp only [World.size_alloc] at hz1
  clear b1 q0 q1
  have BB := st.1
  go_wp2
  refine bodyPost_ret (v := .tuple #[.int .i64 0, .int .i64 1]) (by simp [results, Try.results43, go_sem]) rfl ?_
  exact ⟨by first | rfl | simp, by go_grown⟩
theorem CubicSymbol_impl_no (x x' : Int) (w : World) (hs : Sl o w lo hi v n f) (hs' : Sl o' w lo' hi' v' n' f') (h : CuP x n f) (h' : CuP x' n' f') (N L : Nat) (hN : nrm (f' 0) (f' 1) = N) (hL : 2 ≤ N → isLD N L) (hp : N % 3 = 0 ∨ prmB N L = false) :
    Calls Try.prog 43 #[.agg #[.int .i64 x, v], .agg #[.int .i64 x', v']] w fun e w' => e = .returned (.tuple #[.int .i64 0, .int .i64 5]) ∧ Below w.heap.size w w' := by
  obtain ⟨a, hea⟩ : ∃ a, f 0 = a := ⟨_, rfl⟩
  obtain ⟨b, heb⟩ : ∃ b, f 1 = b := ⟨_, rfl⟩
  obtain ⟨c, hec⟩ : ∃ c, f' 0 = c := ⟨_, rfl⟩
  obtain ⟨d, hed⟩ : ∃ d, f' 1 = d := ⟨_, rfl⟩
  have EE := Lib.hid (show f 0 = a ∧ f 1 = b ∧ f' 0 = c ∧ f' 1 = d from ⟨hea, heb, hec, hed⟩)
  have hb := h.bd
  have hb' := h'.bd
  rw [hea, heb] at hb
  rw [hec, hed] at hb'
  rw [hec, hed] at hN
  have hn2 := nrm_le (M := 10000) hb'.1 hb'.2.1 hb'.2.2.1 hb'.2.2.2
  rw [hN] at hn2
  have HC := Lib.hid h
  have HC' := Lib.hid h'
  have HLD := Lib.hid hL
  clear h h' hL hea heb hec hed
  have NM := Lib.hid (show ∀ w' : World, Calls Try.prog 58 #[.agg #[.int .i64 c, .int .i64 d]] w' fun e w'' => e = .returned (.int .i64 (N : Int)) ∧ Below w'.heap.size w' w'' from fun w' => by
    have h := norm_impl c d w' (by omega) (by omega) (by omega) (by omega)
    rw [hN] at h
    exact h)
  have HN := Lib.hid hN
  obtain ⟨av, cap, rfl⟩ := hs.shape
  obtain ⟨av', cap', rfl⟩ := hs'.shape
  have hh := hs.size
  have hh' := hs'.size
  have st := (((((St.start w).addSl ⟨o, lo, hi, .slice av n cap, n, f⟩ hs).addSl ⟨o', lo', hi', .slice av' n' cap', n', f'⟩ hs').alloc (.cells #[.int .i64 x, .slice av n cap] 27)).addBox w.heap.size [.int .i64 x, .slice av n cap] (Box.made _ _ _ _ (fun j v h => by simpa using h)))
  replace st := (st.alloc (.cells #[.int .i64 x', .slice av' n' cap'] 27)).addBox _ [.int .i64 x', .slice av' n' cap'] (Box.made _ _ _ _ (fun j v h => by simpa using h))
  simp only [World.size_alloc] at st
  go_enter Try.func43, Try.ntmps43
  have q0 := st.sl 1 ⟨o, lo, hi, .slice av n cap, n, f⟩ rfl
  have q1 := st.sl 0 ⟨o', lo', hi', .slice av' n' cap', n', f'⟩ rfl
  dsimp only at q0 q1
  go_wp2_with fail
  refine (openCubics_ok _ _ _ q0 q1 HC.out HC'.out).mono ?_
  rw [EE.out.1, EE.out.2.1, EE.out.2.2.1, EE.out.2.2.2]
  rintro e w1 ⟨rfl, b1⟩
  replace st := st.keep b1
  have hz1 := b1.size
  try simp only [World.size_alloc] at hz1
  clear b1 q0 q1
  replace st := (st.alloc (.cells #[.int .i64 a, .int .i64 b] 59)).addBox _ [.int .i64 a, .int .i64 b] (Box.made _ _ _ _ (fun j v h => by simpa using h))
  replace st := (st.alloc (.cells #[.int .i64 c, .int .i64 d] 59)).addBox _ [.int .i64 c, .int .i64 d] (Box.made _ _ _ _ (fun j v h => by simpa using h))
  simp only [World.size_alloc] at st
  go_wp2_with fail
  refine (NM.out _).mono ?_
  rintro e w2 ⟨rfl, b2⟩
  replace st := st.keep b2
  have hz2 := b2.size
  simp only [World.size_alloc] at hz2
  clear b2
  by_cases h3 : N % 3 = 0
  · have h3i : (N : Int).tmod 3 = 0 := by rw [Int.tmod_eq_emod_of_nonneg (by omega)]; omega
    obtain ⟨y0, y1⟩ := (st.box 0 _ rfl).cell2; have yz := (st.box 0 _ rfl).2.2; have ys := (st.box 0 _ rfl).1; (try dsimp only at y0 y1 yz ys)
    have BB := st.1
    go_wp2
    refine bodyPost_ret (v := .tuple #[.int .i64 0, .int .i64 5]) (by simp [results, Try.results43, go_sem]) rfl ?_
    exact ⟨by first | rfl | simp, by go_grown⟩
  · have h3i : ¬ (N : Int).tmod 3 = 0 := by rw [Int.tmod_eq_emod_of_nonneg (by omega)]; omega
    have h3b : (((N : Int).tmod 3) == 0) = false := by simpa using h3i
    have hpf := hp.resolve_left h3
    obtain ⟨y0, y1⟩ := (st.box 0 _ rfl).cell2; have yz := (st.box 0 _ rfl).2.2; have ys := (st.box 0 _ rfl).1; (try dsimp only at y0 y1 yz ys)
    go_wp2_with fail
    refine (isCubicPrime_any c d N L _ (by omega) (by omega) (by omega) (by omega) HN.out HLD.out).mono ?_
    rintro e w3 ⟨rfl, b3⟩
    replace st := st.keep b3
    have hz3 := b3.size
    clear b3 y0 y1 yz ys
    rw [hpf]
    have BB := st.1
    go_wp2
    refine bodyPost_ret (v := .tuple #[.int .i64 0, .int .i64 5]) (by simp [results, Try.results43, go_sem]) rfl ?_
    exact ⟨by first | rfl | simp, by go_grown⟩
theorem CubicSymbol_impl_ok (x x' : Int) (w : World) (hs : Sl o w lo hi v n f) (hs' : Sl o' w lo' hi' v' n' f') (h : CuP x n f) (h' : CuP x' n' f') (N L : Nat) (K : Int) (hN : nrm (f' 0) (f' 1) = N) (hL : 2 ≤ N → isLD N L) (h3 : ¬ N % 3 = 0) (hp : prmB N L = true) (hn1 : 1 ≤ N) (hK : isSy ⟨f' 0, f' 1⟩ (Es.pw ⟨f 0, f 1⟩ ((N - 1) / 3)) K) :
    Calls Try.prog 43 #[.agg #[.int .i64 x, v], .agg #[.int .i64 x', v']] w fun e w' => e = .returned (.tuple #[.int .i64 K, .int .i64 0]) ∧ Below w.heap.size w w' := by
  have hK0 := hK
  obtain ⟨a, hea⟩ : ∃ a, f 0 = a := ⟨_, rfl⟩
  obtain ⟨b, heb⟩ : ∃ b, f 1 = b := ⟨_, rfl⟩
  obtain ⟨c, hec⟩ : ∃ c, f' 0 = c := ⟨_, rfl⟩
  obtain ⟨d, hed⟩ : ∃ d, f' 1 = d := ⟨_, rfl⟩
  have EE := Lib.hid (show f 0 = a ∧ f 1 = b ∧ f' 0 = c ∧ f' 1 = d from ⟨hea, heb, hec, hed⟩)
  have hb := h.bd
  have hb' := h'.bd
  rw [hea, heb] at hb
  rw [hec, hed] at hb'
  rw [hec, hed] at hN
  have hn2 := nrm_le (M := 10000) hb'.1 hb'.2.1 hb'.2.2.1 hb'.2.2.2
  rw [hN] at hn2
  have HC := Lib.hid h
  have HC' := Lib.hid h'
  have HLD := Lib.hid hL
  clear h h' hL hea heb hec hed
  have NM := Lib.hid (show ∀ w' : World, Calls Try.prog 58 #[.agg #[.int .i64 c, .int .i64 d]] w' fun e w'' => e = .returned (.int .i64 (N : Int)) ∧ Below w'.heap.size w' w'' from fun w' => by
    have h := norm_impl c d w' (by omega) (by omega) (by omega) (by omega)
    rw [hN] at h
    exact h)
  have HN := Lib.hid hN
  obtain ⟨av, cap, rfl⟩ := hs.shape
  obtain ⟨av', cap', rfl⟩ := hs'.shape
  have hh := hs.size
  have hh' := hs'.size
  have st := (((((St.start w).addSl ⟨o, lo, hi, .slice av n cap, n, f⟩ hs).addSl ⟨o', lo', hi', .slice av' n' cap', n', f'⟩ hs').alloc (.cells #[.int .i64 x, .slice av n cap] 27)).addBox w.heap.size [.int .i64 x, .slice av n cap] (Box.made _ _ _ _ (fun j v h => by simpa using h)))
  replace st := (st.alloc (.cells #[.int .i64 x', .slice av' n' cap'] 27)).addBox _ [.int .i64 x', .slice av' n' cap'] (Box.made _ _ _ _ (fun j v h => by simpa using h))
  simp only [World.size_alloc] at st
  go_enter Try.func43, Try.ntmps43
  have q0 := st.sl 1 ⟨o, lo, hi, .slice av n cap, n, f⟩ rfl
  have q1 := st.sl 0 ⟨o', lo', hi', .slice av' n' cap', n', f'⟩ rfl
  dsimp only at q0 q1
  go_wp2_with fail
  refine (openCubics_ok _ _ _ q0 q1 HC.out HC'.out).mono ?_
  rw [EE.out.1, EE.out.2.1, EE.out.2.2.1, EE.out.2.2.2]
  rintro e w1 ⟨rfl, b1⟩
  replace st := st.keep b1
  have hz1 := b1.size
  try simp only [World.size_alloc] at hz1
  clear b1 q0 q1
  replace st := (st.alloc (.cells #[.int .i64 a, .int .i64 b] 59)).addBox _ [.int .i64 a, .int .i64 b] (Box.made _ _ _ _ (fun j v h => by simpa using h))
  replace st := (st.alloc (.cells #[.int .i64 c, .int .i64 d] 59)).addBox _ [.int .i64 c, .int .i64 d] (Box.made _ _ _ _ (fun j v h => by simpa using h))
  simp only [World.size_alloc] at st
  go_wp2_with fail
  refine (NM.out _).mono ?_
  rintro e w2 ⟨rfl, b2⟩
  replace st := st.keep b2
  have hz2 := b2.size
  simp only [World.size_alloc] at hz2
  clear b2
  rw [EE.out.1, EE.out.2.1, EE.out.2.2.1, EE.out.2.2.2] at hK
  have HK := Lib.hid hK
  have hk1 := hK.1
  have hk2 := hK.2.1
  clear hK hK0
  have h3i : ¬ (N : Int).tmod 3 = 0 := by rw [Int.tmod_eq_emod_of_nonneg (by omega)]; omega
  have h3b : (((N : Int).tmod 3) == 0) = false := by simpa using h3i
  obtain ⟨y0, y1⟩ := (st.box 0 _ rfl).cell2; have yz := (st.box 0 _ rfl).2.2; have ys := (st.box 0 _ rfl).1; (try dsimp only at y0 y1 yz ys)
  go_wp2_with fail
  refine (isCubicPrime_any c d N L _ (by omega) (by omega) (by omega) (by omega) HN.out HLD.out).mono ?_
  rintro e w3 ⟨rfl, b3⟩
  replace st := st.keep b3
  have hz3 := b3.size
  clear b3 y0 y1 yz ys
  rw [hp]
  have HDV := Lib.hid (show ((N : Int) - 1) / 3 = (((N - 1) / 3 : Nat) : Int) by omega)
  obtain ⟨y0, y1⟩ := (st.box 0 _ rfl).cell2; have yz := (st.box 0 _ rfl).2.2; have ys := (st.box 0 _ rfl).1; (try dsimp only at y0 y1 yz ys)
  obtain ⟨x0, x1⟩ := (st.box 1 _ rfl).cell2; have xz := (st.box 1 _ rfl).2.2; have xs := (st.box 1 _ rfl).1; (try dsimp only at x0 x1 xz xs)
  go_wp2_with fail
  rw [HDV.out]
  refine (restOfPower_impl a b c d ((N - 1) / 3) _ (by omega) (by omega) (by omega) (by omega) (by omega) (by omega) (by omega) (by omega) (by rw [HN.out]; omega) (by omega)).mono ?_
  rintro e w4 ⟨p, q, rfl, hpq, hcg, b4⟩
  replace st := st.keep b4
  have hz4 := b4.size
  have bp := nrm_small hpq
  have Z := Lib.hid (fun i hi => isSy_rest (by rw [HN.out]; omega) hcg HK.out i hi)
  clear b4 x0 x1 xz xs y0 y1 yz ys hcg HDV h3b h3i
  have hz0 : w1.heap.size + 1 < w4.heap.size := by have := (st.box 0 _ rfl).1; omega
  have stx := st.sub (bs' := [(w1.heap.size + 1, [.int .i64 c, .int .i64 d])]) (ss' := []) (by intro b hb; simp only [List.mem_cons, List.not_mem_nil, or_false] at hb; rcases hb with rfl <;> simp) (by intro s hs; cases hs)
  clear st
  replace stx := (stx.alloc (.cells #[.int .i64 p, .int .i64 q] 59)).addBox _ [.int .i64 p, .int .i64 q] (Box.made _ _ _ _ (fun j v h => by simpa using h))
  go_wp2_with fail
  go_loopg [11, 44] 3 (fun k s11 s44 wr => ∃ (i : Nat) (M : Int), i + k = 3 ∧ s44 = .int .i64 (i : Int) ∧ s11 = .int .i64 M ∧ Hid (M = if K < (i : Int) then K else -1) ∧ St w wr [(w4.heap.size, [.int .i64 p, .int .i64 q]), (w1.heap.size + 1, [.int .i64 c, .int .i64 d])] [])
  case atStart => exact ⟨0, -1, rfl, rfl, rfl, Lib.hid (by split <;> omega), stx⟩
  case round =>
    clear stx
    obtain ⟨i, M, hik, rfl, rfl, HM, st⟩ := hrel
    have hi : i = 0 ∨ i = 1 ∨ i = 2 ∨ i = 3 := by omega
    rcases hi with rfl | rfl | rfl | rfl
    · have i0 : ∀ w, (Instr.index 89 (.agg #[.int .i64 1, .int .i64 0, .int .i64 0, .int .i64 1, .int .i64 (-1), .int .i64 (-1)]) (.int .i64 0)).run Try.prog w = .ok (.agg #[.int .i64 1, .int .i64 0]) w := fun _ => by kernel_rfl
      have hlt : decide (((0 : Nat) : Int) < 3) = true := by decide
      have zz : (rA (p - 1) (q - 0) c d = 0 ∧ rB (p - 1) (q - 0) c d = 0) ↔ K = ((0 : Nat) : Int) := Z.out 0 (by omega)
      have LM := Lib.hid (show ∀ w' : World, Calls Try.prog 79 #[.agg #[.int .i64 p, .int .i64 q], .agg #[.int .i64 1, .int .i64 0]] w' fun e w'' => e = .returned (.agg #[.int .i64 (p - 1), .int .i64 (q - 0)]) ∧ Below w'.heap.size w' w'' from fun w' => less_impl p q 1 0 w' (by omega) (by omega) (by omega) (by omega) (by omega) (by omega) (by omega) (by omega))
      have RM := Lib.hid (show ∀ w' : World, Calls Try.prog 71 #[.agg #[.int .i64 (p - 1), .int .i64 (q - 0)], .agg #[.int .i64 c, .int .i64 d]] w' fun e w'' => e = .returned (.agg #[.int .i64 (rA (p - 1) (q - 0) c d), .int .i64 (rB (p - 1) (q - 0) c d)]) ∧ Below w'.heap.size w' w'' from fun w' => rest_impl _ _ c d w' (by omega) (by omega) (by omega) (by omega) (by omega) (by omega) (by omega) (by omega) (by rw [HN.out]; omega))
      obtain ⟨P1, hP1⟩ : ∃ P1, p - 1 = P1 := ⟨_, rfl⟩
      obtain ⟨Q1, hQ1⟩ : ∃ Q1, q - 0 = Q1 := ⟨_, rfl⟩
      rw [hP1, hQ1] at zz LM RM
      clear hP1 hQ1
      obtain ⟨U, hU⟩ : ∃ U, rA P1 Q1 c d = U := ⟨_, rfl⟩
      obtain ⟨V, hV⟩ : ∃ V, rB P1 Q1 c d = V := ⟨_, rfl⟩
      rw [hU, hV] at zz RM
      clear hU hV
      replace st := (st.alloc (.cells #[.int .i64 1, .int .i64 0] 59)).addBox _ [.int .i64 1, .int .i64 0] (Box.made _ _ _ _ (fun j v h => by simpa using h))
      have hbx := st.box 0 (wr.heap.size, [.int .i64 1, .int .i64 0]) rfl; obtain ⟨u0, u1⟩ := hbx.cell2; have uz := hbx.2.2; have us := hbx.1; (try dsimp only at u0 u1 uz us); clear hbx; have hbx := st.box 1 (w4.heap.size, [.int .i64 p, .int .i64 q]) rfl; obtain ⟨p0, p1⟩ := hbx.cell2; have pz := hbx.2.2; have ps := hbx.1; (try dsimp only at p0 p1 pz ps); clear hbx; have hbx := st.box 2 (w1.heap.size + 1, [.int .i64 c, .int .i64 d]) rfl; obtain ⟨y0, y1⟩ := hbx.cell2; have yz := hbx.2.2; have ys := hbx.1; (try dsimp only at y0 y1 yz ys); clear hbx
      by_cases hu : U = 0
      · by_cases hv : V = 0
        · have hk := zz.1 ⟨hu, hv⟩
          subst hu
          subst hv
          go_wp2_with fail
          go_region_held3 (fun w' => w'.cell? ⟨wr.heap.size, 0, none⟩ = some (.int .i64 1) ∧ w'.cell? ⟨wr.heap.size, 1, none⟩ = some (.int .i64 0) ∧ w'.cell? ⟨w4.heap.size, 0, none⟩ = some (.int .i64 p) ∧ w'.cell? ⟨w4.heap.size, 1, none⟩ = some (.int .i64 q) ∧ w'.cell? ⟨w1.heap.size + 1, 0, none⟩ = some (.int .i64 c) ∧ w'.cell? ⟨w1.heap.size + 1, 1, none⟩ = some (.int .i64 d))
              (first | exact ⟨u0, u1, p0, p1, y0, y1⟩ | exact ⟨cell_al u0 _, cell_al u1 _, cell_al p0 _, cell_al p1 _, cell_al y0 _, cell_al y1 _⟩ | exact ⟨cell_ald u0 _, cell_ald u1 _, cell_ald p0 _, cell_ald p1 _, cell_ald y0 _, cell_ald y1 _⟩ | exact ⟨cell_st2 u0 (by omega), cell_st2 u1 (by omega), cell_st2 p0 (by omega), cell_st2 p1 (by omega), cell_st2 y0 (by omega), cell_st2 y1 (by omega)⟩ | go_keep)
              (first
                | (go_at_call 79; refine (LM.out _).mono ?_; rintro e wq0 ⟨rfl, bq0⟩; (first | (replace st := st.keep bq0; have hbx := st.box 0 (wr.heap.size, [.int .i64 1, .int .i64 0]) rfl; obtain ⟨u0, u1⟩ := hbx.cell2; have uz := hbx.2.2; have us := hbx.1; (try dsimp only at u0 u1 uz us); clear hbx; have hbx := st.box 1 (w4.heap.size, [.int .i64 p, .int .i64 q]) rfl; obtain ⟨p0, p1⟩ := hbx.cell2; have pz := hbx.2.2; have ps := hbx.1; (try dsimp only at p0 p1 pz ps); clear hbx; have hbx := st.box 2 (w1.heap.size + 1, [.int .i64 c, .int .i64 d]) rfl; obtain ⟨y0, y1⟩ := hbx.cell2; have yz := hbx.2.2; have ys := hbx.1; (try dsimp only at y0 y1 yz ys); clear hbx) | (replace st := st.drew.keep bq0; have hbx := st.box 0 (wr.heap.size, [.int .i64 1, .int .i64 0]) rfl; obtain ⟨u0, u1⟩ := hbx.cell2; have uz := hbx.2.2; have us := hbx.1; (try dsimp only at u0 u1 uz us); clear hbx; have hbx := st.box 1 (w4.heap.size, [.int .i64 p, .int .i64 q]) rfl; obtain ⟨p0, p1⟩ := hbx.cell2; have pz := hbx.2.2; have ps := hbx.1; (try dsimp only at p0 p1 pz ps); clear hbx; have hbx := st.box 2 (w1.heap.size + 1, [.int .i64 c, .int .i64 d]) rfl; obtain ⟨y0, y1⟩ := hbx.cell2; have yz := hbx.2.2; have ys := hbx.1; (try dsimp only at y0 y1 yz ys); clear hbx)))
                | (go_at_call 71; refine (RM.out _).mono ?_; rintro e wq1 ⟨rfl, bq1⟩; (first | (replace st := st.keep bq1; have hbx := st.box 0 (wr.heap.size, [.int .i64 1, .int .i64 0]) rfl; obtain ⟨u0, u1⟩ := hbx.cell2; have uz := hbx.2.2; have us := hbx.1; (try dsimp only at u0 u1 uz us); clear hbx; have hbx := st.box 1 (w4.heap.size, [.int .i64 p, .int .i64 q]) rfl; obtain ⟨p0, p1⟩ := hbx.cell2; have pz := hbx.2.2; have ps := hbx.1; (try dsimp only at p0 p1 pz ps); clear hbx; have hbx := st.box 2 (w1.heap.size + 1, [.int .i64 c, .int .i64 d]) rfl; obtain ⟨y0, y1⟩ := hbx.cell2; have yz := hbx.2.2; have ys := hbx.1; (try dsimp only at y0 y1 yz ys); clear hbx) | (replace st := st.drew.keep bq1; have hbx := st.box 0 (wr.heap.size, [.int .i64 1, .int .i64 0]) rfl; obtain ⟨u0, u1⟩ := hbx.cell2; have uz := hbx.2.2; have us := hbx.1; (try dsimp only at u0 u1 uz us); clear hbx; have hbx := st.box 1 (w4.heap.size, [.int .i64 p, .int .i64 q]) rfl; obtain ⟨p0, p1⟩ := hbx.cell2; have pz := hbx.2.2; have ps := hbx.1; (try dsimp only at p0 p1 pz ps); clear hbx; have hbx := st.box 2 (w1.heap.size + 1, [.int .i64 c, .int .i64 d]) rfl; obtain ⟨y0, y1⟩ := hbx.cell2; have yz := hbx.2.2; have ys := hbx.1; (try dsimp only at y0 y1 yz ys); clear hbx))))
          all_goals
            go_wp2
            have st2 := st.sub (bs' := [(w4.heap.size, [.int .i64 p, .int .i64 q]), (w1.heap.size + 1, [.int .i64 c, .int .i64 d])]) (ss' := []) (by intro b hb; simp only [List.mem_cons, List.not_mem_nil, or_false] at hb; rcases hb with rfl | rfl <;> simp) (by intro s hs; cases hs)
            go_roundg (gk - 1)
            case rel => exact ⟨1, _, by omega, by first | rfl | go_num, rfl, Lib.hid (by rw [if_pos (show K < ((1 : Nat) : Int) by omega)]; omega), st2⟩
            case measure => omega
        · have hk : ¬ K = ((0 : Nat) : Int) := fun h => hv (zz.2 h).2
          subst hu
          go_wp2_with fail
          go_region_held3 (fun w' => w'.cell? ⟨wr.heap.size, 0, none⟩ = some (.int .i64 1) ∧ w'.cell? ⟨wr.heap.size, 1, none⟩ = some (.int .i64 0) ∧ w'.cell? ⟨w4.heap.size, 0, none⟩ = some (.int .i64 p) ∧ w'.cell? ⟨w4.heap.size, 1, none⟩ = some (.int .i64 q) ∧ w'.cell? ⟨w1.heap.size + 1, 0, none⟩ = some (.int .i64 c) ∧ w'.cell? ⟨w1.heap.size + 1, 1, none⟩ = some (.int .i64 d))
              (first | exact ⟨u0, u1, p0, p1, y0, y1⟩ | exact ⟨cell_al u0 _, cell_al u1 _, cell_al p0 _, cell_al p1 _, cell_al y0 _, cell_al y1 _⟩ | exact ⟨cell_ald u0 _, cell_ald u1 _, cell_ald p0 _, cell_ald p1 _, cell_ald y0 _, cell_ald y1 _⟩ | exact ⟨cell_st2 u0 (by omega), cell_st2 u1 (by omega), cell_st2 p0 (by omega), cell_st2 p1 (by omega), cell_st2 y0 (by omega), cell_st2 y1 (by omega)⟩ | go_keep)
              (first
                | (go_at_call 79; refine (LM.out _).mono ?_; rintro e wq0 ⟨rfl, bq0⟩; (first | (replace st := st.keep bq0; have hbx := st.box 0 (wr.heap.size, [.int .i64 1, .int .i64 0]) rfl; obtain ⟨u0, u1⟩ := hbx.cell2; have uz := hbx.2.2; have us := hbx.1; (try dsimp only at u0 u1 uz us); clear hbx; have hbx := st.box 1 (w4.heap.size, [.int .i64 p, .int .i64 q]) rfl; obtain ⟨p0, p1⟩ := hbx.cell2; have pz := hbx.2.2; have ps := hbx.1; (try dsimp only at p0 p1 pz ps); clear hbx; have hbx := st.box 2 (w1.heap.size + 1, [.int .i64 c, .int .i64 d]) rfl; obtain ⟨y0, y1⟩ := hbx.cell2; have yz := hbx.2.2; have ys := hbx.1; (try dsimp only at y0 y1 yz ys); clear hbx) | (replace st := st.drew.keep bq0; have hbx := st.box 0 (wr.heap.size, [.int .i64 1, .int .i64 0]) rfl; obtain ⟨u0, u1⟩ := hbx.cell2; have uz := hbx.2.2; have us := hbx.1; (try dsimp only at u0 u1 uz us); clear hbx; have hbx := st.box 1 (w4.heap.size, [.int .i64 p, .int .i64 q]) rfl; obtain ⟨p0, p1⟩ := hbx.cell2; have pz := hbx.2.2; have ps := hbx.1; (try dsimp only at p0 p1 pz ps); clear hbx; have hbx := st.box 2 (w1.heap.size + 1, [.int .i64 c, .int .i64 d]) rfl; obtain ⟨y0, y1⟩ := hbx.cell2; have yz := hbx.2.2; have ys := hbx.1; (try dsimp only at y0 y1 yz ys); clear hbx)))
                | (go_at_call 71; refine (RM.out _).mono ?_; rintro e wq1 ⟨rfl, bq1⟩; (first | (replace st := st.keep bq1; have hbx := st.box 0 (wr.heap.size, [.int .i64 1, .int .i64 0]) rfl; obtain ⟨u0, u1⟩ := hbx.cell2; have uz := hbx.2.2; have us := hbx.1; (try dsimp only at u0 u1 uz us); clear hbx; have hbx := st.box 1 (w4.heap.size, [.int .i64 p, .int .i64 q]) rfl; obtain ⟨p0, p1⟩ := hbx.cell2; have pz := hbx.2.2; have ps := hbx.1; (try dsimp only at p0 p1 pz ps); clear hbx; have hbx := st.box 2 (w1.heap.size + 1, [.int .i64 c, .int .i64 d]) rfl; obtain ⟨y0, y1⟩ := hbx.cell2; have yz := hbx.2.2; have ys := hbx.1; (try dsimp only at y0 y1 yz ys); clear hbx) | (replace st := st.drew.keep bq1; have hbx := st.box 0 (wr.heap.size, [.int .i64 1, .int .i64 0]) rfl; obtain ⟨u0, u1⟩ := hbx.cell2; have uz := hbx.2.2; have us := hbx.1; (try dsimp only at u0 u1 uz us); clear hbx; have hbx := st.box 1 (w4.heap.size, [.int .i64 p, .int .i64 q]) rfl; obtain ⟨p0, p1⟩ := hbx.cell2; have pz := hbx.2.2; have ps := hbx.1; (try dsimp only at p0 p1 pz ps); clear hbx; have hbx := st.box 2 (w1.heap.size + 1, [.int .i64 c, .int .i64 d]) rfl; obtain ⟨y0, y1⟩ := hbx.cell2; have yz := hbx.2.2; have ys := hbx.1; (try dsimp only at y0 y1 yz ys); clear hbx))))
          all_goals
            go_wp2
            have st2 := st.sub (bs' := [(w4.heap.size, [.int .i64 p, .int .i64 q]), (w1.heap.size + 1, [.int .i64 c, .int .i64 d])]) (ss' := []) (by intro b hb; simp only [List.mem_cons, List.not_mem_nil, or_false] at hb; rcases hb with rfl | rfl <;> simp) (by intro s hs; cases hs)
            go_roundg (gk - 1)
            case rel => exact ⟨1, _, by omega, by first | rfl | go_num, rfl, Lib.hid (by rw [HM.out]; split <;> split <;> omega), st2⟩
            case measure => omega
      · have hk : ¬ K = ((0 : Nat) : Int) := fun h => hu (zz.2 h).1
        go_wp2_with fail
        go_region_held3 (fun w' => w'.cell? ⟨wr.heap.size, 0, none⟩ = some (.int .i64 1) ∧ w'.cell? ⟨wr.heap.size, 1, none⟩ = some (.int .i64 0) ∧ w'.cell? ⟨w4.heap.size, 0, none⟩ = some (.int .i64 p) ∧ w'.cell? ⟨w4.heap.size, 1, none⟩ = some (.int .i64 q) ∧ w'.cell? ⟨w1.heap.size + 1, 0, none⟩ = some (.int .i64 c) ∧ w'.cell? ⟨w1.heap.size + 1, 1, none⟩ = some (.int .i64 d))
            (first | exact ⟨u0, u1, p0, p1, y0, y1⟩ | exact ⟨cell_al u0 _, cell_al u1 _, cell_al p0 _, cell_al p1 _, cell_al y0 _, cell_al y1 _⟩ | exact ⟨cell_ald u0 _, cell_ald u1 _, cell_ald p0 _, cell_ald p1 _, cell_ald y0 _, cell_ald y1 _⟩ | exact ⟨cell_st2 u0 (by omega), cell_st2 u1 (by omega), cell_st2 p0 (by omega), cell_st2 p1 (by omega), cell_st2 y0 (by omega), cell_st2 y1 (by omega)⟩ | go_keep)
            (first
              | (go_at_call 79; refine (LM.out _).mono ?_; rintro e wq0 ⟨rfl, bq0⟩; (first | (replace st := st.keep bq0; have hbx := st.box 0 (wr.heap.size, [.int .i64 1, .int .i64 0]) rfl; obtain ⟨u0, u1⟩ := hbx.cell2; have uz := hbx.2.2; have us := hbx.1; (try dsimp only at u0 u1 uz us); clear hbx; have hbx := st.box 1 (w4.heap.size, [.int .i64 p, .int .i64 q]) rfl; obtain ⟨p0, p1⟩ := hbx.cell2; have pz := hbx.2.2; have ps := hbx.1; (try dsimp only at p0 p1 pz ps); clear hbx; have hbx := st.box 2 (w1.heap.size + 1, [.int .i64 c, .int .i64 d]) rfl; obtain ⟨y0, y1⟩ := hbx.cell2; have yz := hbx.2.2; have ys := hbx.1; (try dsimp only at y0 y1 yz ys); clear hbx) | (replace st := st.drew.keep bq0; have hbx := st.box 0 (wr.heap.size, [.int .i64 1, .int .i64 0]) rfl; obtain ⟨u0, u1⟩ := hbx.cell2; have uz := hbx.2.2; have us := hbx.1; (try dsimp only at u0 u1 uz us); clear hbx; have hbx := st.box 1 (w4.heap.size, [.int .i64 p, .int .i64 q]) rfl; obtain ⟨p0, p1⟩ := hbx.cell2; have pz := hbx.2.2; have ps := hbx.1; (try dsimp only at p0 p1 pz ps); clear hbx; have hbx := st.box 2 (w1.heap.size + 1, [.int .i64 c, .int .i64 d]) rfl; obtain ⟨y0, y1⟩ := hbx.cell2; have yz := hbx.2.2; have ys := hbx.1; (try dsimp only at y0 y1 yz ys); clear hbx)))
              | (go_at_call 71; refine (RM.out _).mono ?_; rintro e wq1 ⟨rfl, bq1⟩; (first | (replace st := st.keep bq1; have hbx := st.box 0 (wr.heap.size, [.int .i64 1, .int .i64 0]) rfl; obtain ⟨u0, u1⟩ := hbx.cell2; have uz := hbx.2.2; have us := hbx.1; (try dsimp only at u0 u1 uz us); clear hbx; have hbx := st.box 1 (w4.heap.size, [.int .i64 p, .int .i64 q]) rfl; obtain ⟨p0, p1⟩ := hbx.cell2; have pz := hbx.2.2; have ps := hbx.1; (try dsimp only at p0 p1 pz ps); clear hbx; have hbx := st.box 2 (w1.heap.size + 1, [.int .i64 c, .int .i64 d]) rfl; obtain ⟨y0, y1⟩ := hbx.cell2; have yz := hbx.2.2; have ys := hbx.1; (try dsimp only at y0 y1 yz ys); clear hbx) | (replace st := st.drew.keep bq1; have hbx := st.box 0 (wr.heap.size, [.int .i64 1, .int .i64 0]) rfl; obtain ⟨u0, u1⟩ := hbx.cell2; have uz := hbx.2.2; have us := hbx.1; (try dsimp only at u0 u1 uz us); clear hbx; have hbx := st.box 1 (w4.heap.size, [.int .i64 p, .int .i64 q]) rfl; obtain ⟨p0, p1⟩ := hbx.cell2; have pz := hbx.2.2; have ps := hbx.1; (try dsimp only at p0 p1 pz ps); clear hbx; have hbx := st.box 2 (w1.heap.size + 1, [.int .i64 c, .int .i64 d]) rfl; obtain ⟨y0, y1⟩ := hbx.cell2; have yz := hbx.2.2; have ys := hbx.1; (try dsimp only at y0 y1 yz ys); clear hbx))))
        all_goals
          go_wp2
          have st2 := st.sub (bs' := [(w4.heap.size, [.int .i64 p, .int .i64 q]), (w1.heap.size + 1, [.int .i64 c, .int .i64 d])]) (ss' := []) (by intro b hb; simp only [List.mem_cons, List.not_mem_nil, or_false] at hb; rcases hb with rfl | rfl <;> simp) (by intro s hs; cases hs)
          go_roundg (gk - 1)
          case rel => exact ⟨1, _, by omega, by first | rfl | go_num, rfl, Lib.hid (by rw [HM.out]; split <;> split <;> omega), st2⟩
          case measure => omega
    · have i0 : ∀ w, (Instr.index 89 (.agg #[.int .i64 1, .int .i64 0, .int .i64 0, .int .i64 1, .int .i64 (-1), .int .i64 (-1)]) (.int .i64 1)).run Try.prog w = .ok (.agg #[.int .i64 0, .int .i64 1]) w := fun _ => by kernel_rfl
      have hlt : decide (((1 : Nat) : Int) < 3) = true := by decide
      have zz : (rA (p - 0) (q - 1) c d = 0 ∧ rB (p - 0) (q - 1) c d = 0) ↔ K = ((1 : Nat) : Int) := Z.out 1 (by omega)
      have LM := Lib.hid (show ∀ w' : World, Calls Try.prog 79 #[.agg #[.int .i64 p, .int .i64 q], .agg #[.int .i64 0, .int .i64 1]] w' fun e w'' => e = .returned (.agg #[.int .i64 (p - 0), .int .i64 (q - 1)]) ∧ Below w'.heap.size w' w'' from fun w' => less_impl p q 0 1 w' (by omega) (by omega) (by omega) (by omega) (by omega) (by omega) (by omega) (by omega))
      have RM := Lib.hid (show ∀ w' : World, Calls Try.prog 71 #[.agg #[.int .i64 (p - 0), .int .i64 (q - 1)], .agg #[.int .i64 c, .int .i64 d]] w' fun e w'' => e = .returned (.agg #[.int .i64 (rA (p - 0) (q - 1) c d), .int .i64 (rB (p - 0) (q - 1) c d)]) ∧ Below w'.heap.size w' w'' from fun w' => rest_impl _ _ c d w' (by omega) (by omega) (by omega) (by omega) (by omega) (by omega) (by omega) (by omega) (by rw [HN.out]; omega))
      obtain ⟨P1, hP1⟩ : ∃ P1, p - 0 = P1 := ⟨_, rfl⟩
      obtain ⟨Q1, hQ1⟩ : ∃ Q1, q - 1 = Q1 := ⟨_, rfl⟩
      rw [hP1, hQ1] at zz LM RM
      clear hP1 hQ1
      obtain ⟨U, hU⟩ : ∃ U, rA P1 Q1 c d = U := ⟨_, rfl⟩
      obtain ⟨V, hV⟩ : ∃ V, rB P1 Q1 c d = V := ⟨_, rfl⟩
      rw [hU, hV] at zz RM
      clear hU hV
      replace st := (st.alloc (.cells #[.int .i64 0, .int .i64 1] 59)).addBox _ [.int .i64 0, .int .i64 1] (Box.made _ _ _ _ (fun j v h => by simpa using h))
      have hbx := st.box 0 (wr.heap.size, [.int .i64 0, .int .i64 1]) rfl; obtain ⟨u0, u1⟩ := hbx.cell2; have uz := hbx.2.2; have us := hbx.1; (try dsimp only at u0 u1 uz us); clear hbx; have hbx := st.box 1 (w4.heap.size, [.int .i64 p, .int .i64 q]) rfl; obtain ⟨p0, p1⟩ := hbx.cell2; have pz := hbx.2.2; have ps := hbx.1; (try dsimp only at p0 p1 pz ps); clear hbx; have hbx := st.box 2 (w1.heap.size + 1, [.int .i64 c, .int .i64 d]) rfl; obtain ⟨y0, y1⟩ := hbx.cell2; have yz := hbx.2.2; have ys := hbx.1; (try dsimp only at y0 y1 yz ys); clear hbx
      by_cases hu : U = 0
      · by_cases hv : V = 0
        · have hk := zz.1 ⟨hu, hv⟩
          subst hu
          subst hv
          go_wp2_with fail
          go_region_held3 (fun w' => w'.cell? ⟨wr.heap.size, 0, none⟩ = some (.int .i64 0) ∧ w'.cell? ⟨wr.heap.size, 1, none⟩ = some (.int .i64 1) ∧ w'.cell? ⟨w4.heap.size, 0, none⟩ = some (.int .i64 p) ∧ w'.cell? ⟨w4.heap.size, 1, none⟩ = some (.int .i64 q) ∧ w'.cell? ⟨w1.heap.size + 1, 0, none⟩ = some (.int .i64 c) ∧ w'.cell? ⟨w1.heap.size + 1, 1, none⟩ = some (.int .i64 d))
              (first | exact ⟨u0, u1, p0, p1, y0, y1⟩ | exact ⟨cell_al u0 _, cell_al u1 _, cell_al p0 _, cell_al p1 _, cell_al y0 _, cell_al y1 _⟩ | exact ⟨cell_ald u0 _, cell_ald u1 _, cell_ald p0 _, cell_ald p1 _, cell_ald y0 _, cell_ald y1 _⟩ | exact ⟨cell_st2 u0 (by omega), cell_st2 u1 (by omega), cell_st2 p0 (by omega), cell_st2 p1 (by omega), cell_st2 y0 (by omega), cell_st2 y1 (by omega)⟩ | go_keep)
              (first
                | (go_at_call 79; refine (LM.out _).mono ?_; rintro e wq0 ⟨rfl, bq0⟩; (first | (replace st := st.keep bq0; have hbx := st.box 0 (wr.heap.size, [.int .i64 0, .int .i64 1]) rfl; obtain ⟨u0, u1⟩ := hbx.cell2; have uz := hbx.2.2; have us := hbx.1; (try dsimp only at u0 u1 uz us); clear hbx; have hbx := st.box 1 (w4.heap.size, [.int .i64 p, .int .i64 q]) rfl; obtain ⟨p0, p1⟩ := hbx.cell2; have pz := hbx.2.2; have ps := hbx.1; (try dsimp only at p0 p1 pz ps); clear hbx; have hbx := st.box 2 (w1.heap.size + 1, [.int .i64 c, .int .i64 d]) rfl; obtain ⟨y0, y1⟩ := hbx.cell2; have yz := hbx.2.2; have ys := hbx.1; (try dsimp only at y0 y1 yz ys); clear hbx) | (replace st := st.drew.keep bq0; have hbx := st.box 0 (wr.heap.size, [.int .i64 0, .int .i64 1]) rfl; obtain ⟨u0, u1⟩ := hbx.cell2; have uz := hbx.2.2; have us := hbx.1; (try dsimp only at u0 u1 uz us); clear hbx; have hbx := st.box 1 (w4.heap.size, [.int .i64 p, .int .i64 q]) rfl; obtain ⟨p0, p1⟩ := hbx.cell2; have pz := hbx.2.2; have ps := hbx.1; (try dsimp only at p0 p1 pz ps); clear hbx; have hbx := st.box 2 (w1.heap.size + 1, [.int .i64 c, .int .i64 d]) rfl; obtain ⟨y0, y1⟩ := hbx.cell2; have yz := hbx.2.2; have ys := hbx.1; (try dsimp only at y0 y1 yz ys); clear hbx)))
                | (go_at_call 71; refine (RM.out _).mono ?_; rintro e wq1 ⟨rfl, bq1⟩; (first | (replace st := st.keep bq1; have hbx := st.box 0 (wr.heap.size, [.int .i64 0, .int .i64 1]) rfl; obtain ⟨u0, u1⟩ := hbx.cell2; have uz := hbx.2.2; have us := hbx.1; (try dsimp only at u0 u1 uz us); clear hbx; have hbx := st.box 1 (w4.heap.size, [.int .i64 p, .int .i64 q]) rfl; obtain ⟨p0, p1⟩ := hbx.cell2; have pz := hbx.2.2; have ps := hbx.1; (try dsimp only at p0 p1 pz ps); clear hbx; have hbx := st.box 2 (w1.heap.size + 1, [.int .i64 c, .int .i64 d]) rfl; obtain ⟨y0, y1⟩ := hbx.cell2; have yz := hbx.2.2; have ys := hbx.1; (try dsimp only at y0 y1 yz ys); clear hbx) | (replace st := st.drew.keep bq1; have hbx := st.box 0 (wr.heap.size, [.int .i64 0, .int .i64 1]) rfl; obtain ⟨u0, u1⟩ := hbx.cell2; have uz := hbx.2.2; have us := hbx.1; (try dsimp only at u0 u1 uz us); clear hbx; have hbx := st.box 1 (w4.heap.size, [.int .i64 p, .int .i64 q]) rfl; obtain ⟨p0, p1⟩ := hbx.cell2; have pz := hbx.2.2; have ps := hbx.1; (try dsimp only at p0 p1 pz ps); clear hbx; have hbx := st.box 2 (w1.heap.size + 1, [.int .i64 c, .int .i64 d]) rfl; obtain ⟨y0, y1⟩ := hbx.cell2; have yz := hbx.2.2; have ys := hbx.1; (try dsimp only at y0 y1 yz ys); clear hbx))))
          all_goals
            go_wp2
            have st2 := st.sub (bs' := [(w4.heap.size, [.int .i64 p, .int .i64 q]), (w1.heap.size + 1, [.int .i64 c, .int .i64 d])]) (ss' := []) (by intro b hb; simp only [List.mem_cons, List.not_mem_nil, or_false] at hb; rcases hb with rfl | rfl <;> simp) (by intro s hs; cases hs)
            go_roundg (gk - 1)
            case rel => exact ⟨2, _, by omega, by first | rfl | go_num, rfl, Lib.hid (by rw [if_pos (show K < ((2 : Nat) : Int) by omega)]; omega), st2⟩
            case measure => omega
        · have hk : ¬ K = ((1 : Nat) : Int) := fun h => hv (zz.2 h).2
          subst hu
          go_wp2_with fail
          go_region_held3 (fun w' => w'.cell? ⟨wr.heap.size, 0, none⟩ = some (.int .i64 0) ∧ w'.cell? ⟨wr.heap.size, 1, none⟩ = some (.int .i64 1) ∧ w'.cell? ⟨w4.heap.size, 0, none⟩ = some (.int .i64 p) ∧ w'.cell? ⟨w4.heap.size, 1, none⟩ = some (.int .i64 q) ∧ w'.cell? ⟨w1.heap.size + 1, 0, none⟩ = some (.int .i64 c) ∧ w'.cell? ⟨w1.heap.size + 1, 1, none⟩ = some (.int .i64 d))
              (first | exact ⟨u0, u1, p0, p1, y0, y1⟩ | exact ⟨cell_al u0 _, cell_al u1 _, cell_al p0 _, cell_al p1 _, cell_al y0 _, cell_al y1 _⟩ | exact ⟨cell_ald u0 _, cell_ald u1 _, cell_ald p0 _, cell_ald p1 _, cell_ald y0 _, cell_ald y1 _⟩ | exact ⟨cell_st2 u0 (by omega), cell_st2 u1 (by omega), cell_st2 p0 (by omega), cell_st2 p1 (by omega), cell_st2 y0 (by omega), cell_st2 y1 (by omega)⟩ | go_keep)
              (first
                | (go_at_call 79; refine (LM.out _).mono ?_; rintro e wq0 ⟨rfl, bq0⟩; (first | (replace st := st.keep bq0; have hbx := st.box 0 (wr.heap.size, [.int .i64 0, .int .i64 1]) rfl; obtain ⟨u0, u1⟩ := hbx.cell2; have uz := hbx.2.2; have us := hbx.1; (try dsimp only at u0 u1 uz us); clear hbx; have hbx := st.box 1 (w4.heap.size, [.int .i64 p, .int .i64 q]) rfl; obtain ⟨p0, p1⟩ := hbx.cell2; have pz := hbx.2.2; have ps := hbx.1; (try dsimp only at p0 p1 pz ps); clear hbx; have hbx := st.box 2 (w1.heap.size + 1, [.int .i64 c, .int .i64 d]) rfl; obtain ⟨y0, y1⟩ := hbx.cell2; have yz := hbx.2.2; have ys := hbx.1; (try dsimp only at y0 y1 yz ys); clear hbx) | (replace st := st.drew.keep bq0; have hbx := st.box 0 (wr.heap.size, [.int .i64 0, .int .i64 1]) rfl; obtain ⟨u0, u1⟩ := hbx.cell2; have uz := hbx.2.2; have us := hbx.1; (try dsimp only at u0 u1 uz us); clear hbx; have hbx := st.box 1 (w4.heap.size, [.int .i64 p, .int .i64 q]) rfl; obtain ⟨p0, p1⟩ := hbx.cell2; have pz := hbx.2.2; have ps := hbx.1; (try dsimp only at p0 p1 pz ps); clear hbx; have hbx := st.box 2 (w1.heap.size + 1, [.int .i64 c, .int .i64 d]) rfl; obtain ⟨y0, y1⟩ := hbx.cell2; have yz := hbx.2.2; have ys := hbx.1; (try dsimp only at y0 y1 yz ys); clear hbx)))
                | (go_at_call 71; refine (RM.out _).mono ?_; rintro e wq1 ⟨rfl, bq1⟩; (first | (replace st := st.keep bq1; have hbx := st.box 0 (wr.heap.size, [.int .i64 0, .int .i64 1]) rfl; obtain ⟨u0, u1⟩ := hbx.cell2; have uz := hbx.2.2; have us := hbx.1; (try dsimp only at u0 u1 uz us); clear hbx; have hbx := st.box 1 (w4.heap.size, [.int .i64 p, .int .i64 q]) rfl; obtain ⟨p0, p1⟩ := hbx.cell2; have pz := hbx.2.2; have ps := hbx.1; (try dsimp only at p0 p1 pz ps); clear hbx; have hbx := st.box 2 (w1.heap.size + 1, [.int .i64 c, .int .i64 d]) rfl; obtain ⟨y0, y1⟩ := hbx.cell2; have yz := hbx.2.2; have ys := hbx.1; (try dsimp only at y0 y1 yz ys); clear hbx) | (replace st := st.drew.keep bq1; have hbx := st.box 0 (wr.heap.size, [.int .i64 0, .int .i64 1]) rfl; obtain ⟨u0, u1⟩ := hbx.cell2; have uz := hbx.2.2; have us := hbx.1; (try dsimp only at u0 u1 uz us); clear hbx; have hbx := st.box 1 (w4.heap.size, [.int .i64 p, .int .i64 q]) rfl; obtain ⟨p0, p1⟩ := hbx.cell2; have pz := hbx.2.2; have ps := hbx.1; (try dsimp only at p0 p1 pz ps); clear hbx; have hbx := st.box 2 (w1.heap.size + 1, [.int .i64 c, .int .i64 d]) rfl; obtain ⟨y0, y1⟩ := hbx.cell2; have yz := hbx.2.2; have ys := hbx.1; (try dsimp only at y0 y1 yz ys); clear hbx))))
          all_goals
            go_wp2
            have st2 := st.sub (bs' := [(w4.heap.size, [.int .i64 p, .int .i64 q]), (w1.heap.size + 1, [.int .i64 c, .int .i64 d])]) (ss' := []) (by intro b hb; simp only [List.mem_cons, List.not_mem_nil, or_false] at hb; rcases hb with rfl | rfl <;> simp) (by intro s hs; cases hs)
            go_roundg (gk - 1)
            case rel => exact ⟨2, _, by omega, by first | rfl | go_num, rfl, Lib.hid (by rw [HM.out]; split <;> split <;> omega), st2⟩
            case measure => omega
      · have hk : ¬ K = ((1 : Nat) : Int) := fun h => hu (zz.2 h).1
        go_wp2_with fail
        go_region_held3 (fun w' => w'.cell? ⟨wr.heap.size, 0, none⟩ = some (.int .i64 0) ∧ w'.cell? ⟨wr.heap.size, 1, none⟩ = some (.int .i64 1) ∧ w'.cell? ⟨w4.heap.size, 0, none⟩ = some (.int .i64 p) ∧ w'.cell? ⟨w4.heap.size, 1, none⟩ = some (.int .i64 q) ∧ w'.cell? ⟨w1.heap.size + 1, 0, none⟩ = some (.int .i64 c) ∧ w'.cell? ⟨w1.heap.size + 1, 1, none⟩ = some (.int .i64 d))
            (first | exact ⟨u0, u1, p0, p1, y0, y1⟩ | exact ⟨cell_al u0 _, cell_al u1 _, cell_al p0 _, cell_al p1 _, cell_al y0 _, cell_al y1 _⟩ | exact ⟨cell_ald u0 _, cell_ald u1 _, cell_ald p0 _, cell_ald p1 _, cell_ald y0 _, cell_ald y1 _⟩ | exact ⟨cell_st2 u0 (by omega), cell_st2 u1 (by omega), cell_st2 p0 (by omega), cell_st2 p1 (by omega), cell_st2 y0 (by omega), cell_st2 y1 (by omega)⟩ | go_keep)
            (first
              | (go_at_call 79; refine (LM.out _).mono ?_; rintro e wq0 ⟨rfl, bq0⟩; (first | (replace st := st.keep bq0; have hbx := st.box 0 (wr.heap.size, [.int .i64 0, .int .i64 1]) rfl; obtain ⟨u0, u1⟩ := hbx.cell2; have uz := hbx.2.2; have us := hbx.1; (try dsimp only at u0 u1 uz us); clear hbx; have hbx := st.box 1 (w4.heap.size, [.int .i64 p, .int .i64 q]) rfl; obtain ⟨p0, p1⟩ := hbx.cell2; have pz := hbx.2.2; have ps := hbx.1; (try dsimp only at p0 p1 pz ps); clear hbx; have hbx := st.box 2 (w1.heap.size + 1, [.int .i64 c, .int .i64 d]) rfl; obtain ⟨y0, y1⟩ := hbx.cell2; have yz := hbx.2.2; have ys := hbx.1; (try dsimp only at y0 y1 yz ys); clear hbx) | (replace st := st.drew.keep bq0; have hbx := st.box 0 (wr.heap.size, [.int .i64 0, .int .i64 1]) rfl; obtain ⟨u0, u1⟩ := hbx.cell2; have uz := hbx.2.2; have us := hbx.1; (try dsimp only at u0 u1 uz us); clear hbx; have hbx := st.box 1 (w4.heap.size, [.int .i64 p, .int .i64 q]) rfl; obtain ⟨p0, p1⟩ := hbx.cell2; have pz := hbx.2.2; have ps := hbx.1; (try dsimp only at p0 p1 pz ps); clear hbx; have hbx := st.box 2 (w1.heap.size + 1, [.int .i64 c, .int .i64 d]) rfl; obtain ⟨y0, y1⟩ := hbx.cell2; have yz := hbx.2.2; have ys := hbx.1; (try dsimp only at y0 y1 yz ys); clear hbx)))
              | (go_at_call 71; refine (RM.out _).mono ?_; rintro e wq1 ⟨rfl, bq1⟩; (first | (replace st := st.keep bq1; have hbx := st.box 0 (wr.heap.size, [.int .i64 0, .int .i64 1]) rfl; obtain ⟨u0, u1⟩ := hbx.cell2; have uz := hbx.2.2; have us := hbx.1; (try dsimp only at u0 u1 uz us); clear hbx; have hbx := st.box 1 (w4.heap.size, [.int .i64 p, .int .i64 q]) rfl; obtain ⟨p0, p1⟩ := hbx.cell2; have pz := hbx.2.2; have ps := hbx.1; (try dsimp only at p0 p1 pz ps); clear hbx; have hbx := st.box 2 (w1.heap.size + 1, [.int .i64 c, .int .i64 d]) rfl; obtain ⟨y0, y1⟩ := hbx.cell2; have yz := hbx.2.2; have ys := hbx.1; (try dsimp only at y0 y1 yz ys); clear hbx) | (replace st := st.drew.keep bq1; have hbx := st.box 0 (wr.heap.size, [.int .i64 0, .int .i64 1]) rfl; obtain ⟨u0, u1⟩ := hbx.cell2; have uz := hbx.2.2; have us := hbx.1; (try dsimp only at u0 u1 uz us); clear hbx; have hbx := st.box 1 (w4.heap.size, [.int .i64 p, .int .i64 q]) rfl; obtain ⟨p0, p1⟩ := hbx.cell2; have pz := hbx.2.2; have ps := hbx.1; (try dsimp only at p0 p1 pz ps); clear hbx; have hbx := st.box 2 (w1.heap.size + 1, [.int .i64 c, .int .i64 d]) rfl; obtain ⟨y0, y1⟩ := hbx.cell2; have yz := hbx.2.2; have ys := hbx.1; (try dsimp only at y0 y1 yz ys); clear hbx))))
        all_goals
          go_wp2
          have st2 := st.sub (bs' := [(w4.heap.size, [.int .i64 p, .int .i64 q]), (w1.heap.size + 1, [.int .i64 c, .int .i64 d])]) (ss' := []) (by intro b hb; simp only [List.mem_cons, List.not_mem_nil, or_false] at hb; rcases hb with rfl | rfl <;> simp) (by intro s hs; cases hs)
          go_roundg (gk - 1)
          case rel => exact ⟨2, _, by omega, by first | rfl | go_num, rfl, Lib.hid (by rw [HM.out]; split <;> split <;> omega), st2⟩
          case measure => omega
    · have i0 : ∀ w, (Instr.index 89 (.agg #[.int .i64 1, .int .i64 0, .int .i64 0, .int .i64 1, .int .i64 (-1), .int .i64 (-1)]) (.int .i64 2)).run Try.prog w = .ok (.agg #[.int .i64 (-1), .int .i64 (-1)]) w := fun _ => by kernel_rfl
      have hlt : decide (((2 : Nat) : Int) < 3) = true := by decide
      have zz : (rA (p - (-1)) (q - (-1)) c d = 0 ∧ rB (p - (-1)) (q - (-1)) c d = 0) ↔ K = ((2 : Nat) : Int) := Z.out 2 (by omega)
      have LM := Lib.hid (show ∀ w' : World, Calls Try.prog 79 #[.agg #[.int .i64 p, .int .i64 q], .agg #[.int .i64 (-1), .int .i64 (-1)]] w' fun e w'' => e = .returned (.agg #[.int .i64 (p - (-1)), .int .i64 (q - (-1))]) ∧ Below w'.heap.size w' w'' from fun w' => less_impl p q (-1) (-1) w' (by omega) (by omega) (by omega) (by omega) (by omega) (by omega) (by omega) (by omega))
      have RM := Lib.hid (show ∀ w' : World, Calls Try.prog 71 #[.agg #[.int .i64 (p - (-1)), .int .i64 (q - (-1))], .agg #[.int .i64 c, .int .i64 d]] w' fun e w'' => e = .returned (.agg #[.int .i64 (rA (p - (-1)) (q - (-1)) c d), .int .i64 (rB (p - (-1)) (q - (-1)) c d)]) ∧ Below w'.heap.size w' w'' from fun w' => rest_impl _ _ c d w' (by omega) (by omega) (by omega) (by omega) (by omega) (by omega) (by omega) (by omega) (by rw [HN.out]; omega))
      obtain ⟨P1, hP1⟩ : ∃ P1, p - (-1) = P1 := ⟨_, rfl⟩
      obtain ⟨Q1, hQ1⟩ : ∃ Q1, q - (-1) = Q1 := ⟨_, rfl⟩
      rw [hP1, hQ1] at zz LM RM
      clear hP1 hQ1
      obtain ⟨U, hU⟩ : ∃ U, rA P1 Q1 c d = U := ⟨_, rfl⟩
      obtain ⟨V, hV⟩ : ∃ V, rB P1 Q1 c d = V := ⟨_, rfl⟩
      rw [hU, hV] at zz RM
      clear hU hV
      replace st := (st.alloc (.cells #[.int .i64 (-1), .int .i64 (-1)] 59)).addBox _ [.int .i64 (-1), .int .i64 (-1)] (Box.made _ _ _ _ (fun j v h => by simpa using h))
      have hbx := st.box 0 (wr.heap.size, [.int .i64 (-1), .int .i64 (-1)]) rfl; obtain ⟨u0, u1⟩ := hbx.cell2; have uz := hbx.2.2; have us := hbx.1; (try dsimp only at u0 u1 uz us); clear hbx; have hbx := st.box 1 (w4.heap.size, [.int .i64 p, .int .i64 q]) rfl; obtain ⟨p0, p1⟩ := hbx.cell2; have pz := hbx.2.2; have ps := hbx.1; (try dsimp only at p0 p1 pz ps); clear hbx; have hbx := st.box 2 (w1.heap.size + 1, [.int .i64 c, .int .i64 d]) rfl; obtain ⟨y0, y1⟩ := hbx.cell2; have yz := hbx.2.2; have ys := hbx.1; (try dsimp only at y0 y1 yz ys); clear hbx
      by_cases hu : U = 0
      · by_cases hv : V = 0
        · have hk := zz.1 ⟨hu, hv⟩
          subst hu
          subst hv
          go_wp2_with fail
          go_region_held3 (fun w' => w'.cell? ⟨wr.heap.size, 0, none⟩ = some (.int .i64 (-1)) ∧ w'.cell? ⟨wr.heap.size, 1, none⟩ = some (.int .i64 (-1)) ∧ w'.cell? ⟨w4.heap.size, 0, none⟩ = some (.int .i64 p) ∧ w'.cell? ⟨w4.heap.size, 1, none⟩ = some (.int .i64 q) ∧ w'.cell? ⟨w1.heap.size + 1, 0, none⟩ = some (.int .i64 c) ∧ w'.cell? ⟨w1.heap.size + 1, 1, none⟩ = some (.int .i64 d))
              (first | exact ⟨u0, u1, p0, p1, y0, y1⟩ | exact ⟨cell_al u0 _, cell_al u1 _, cell_al p0 _, cell_al p1 _, cell_al y0 _, cell_al y1 _⟩ | exact ⟨cell_ald u0 _, cell_ald u1 _, cell_ald p0 _, cell_ald p1 _, cell_ald y0 _, cell_ald y1 _⟩ | exact ⟨cell_st2 u0 (by omega), cell_st2 u1 (by omega), cell_st2 p0 (by omega), cell_st2 p1 (by omega), cell_st2 y0 (by omega), cell_st2 y1 (by omega)⟩ | go_keep)
              (first
                | (go_at_call 79; refine (LM.out _).mono ?_; rintro e wq0 ⟨rfl, bq0⟩; (first | (replace st := st.keep bq0; have hbx := st.box 0 (wr.heap.size, [.int .i64 (-1), .int .i64 (-1)]) rfl; obtain ⟨u0, u1⟩ := hbx.cell2; have uz := hbx.2.2; have us := hbx.1; (try dsimp only at u0 u1 uz us); clear hbx; have hbx := st.box 1 (w4.heap.size, [.int .i64 p, .int .i64 q]) rfl; obtain ⟨p0, p1⟩ := hbx.cell2; have pz := hbx.2.2; have ps := hbx.1; (try dsimp only at p0 p1 pz ps); clear hbx; have hbx := st.box 2 (w1.heap.size + 1, [.int .i64 c, .int .i64 d]) rfl; obtain ⟨y0, y1⟩ := hbx.cell2; have yz := hbx.2.2; have ys := hbx.1; (try dsimp only at y0 y1 yz ys); clear hbx) | (replace st := st.drew.keep bq0; have hbx := st.box 0 (wr.heap.size, [.int .i64 (-1), .int .i64 (-1)]) rfl; obtain ⟨u0, u1⟩ := hbx.cell2; have uz := hbx.2.2; have us := hbx.1; (try dsimp only at u0 u1 uz us); clear hbx; have hbx := st.box 1 (w4.heap.size, [.int .i64 p, .int .i64 q]) rfl; obtain ⟨p0, p1⟩ := hbx.cell2; have pz := hbx.2.2; have ps := hbx.1; (try dsimp only at p0 p1 pz ps); clear hbx; have hbx := st.box 2 (w1.heap.size + 1, [.int .i64 c, .int .i64 d]) rfl; obtain ⟨y0, y1⟩ := hbx.cell2; have yz := hbx.2.2; have ys := hbx.1; (try dsimp only at y0 y1 yz ys); clear hbx)))
                | (go_at_call 71; refine (RM.out _).mono ?_; rintro e wq1 ⟨rfl, bq1⟩; (first | (replace st := st.keep bq1; have hbx := st.box 0 (wr.heap.size, [.int .i64 (-1), .int .i64 (-1)]) rfl; obtain ⟨u0, u1⟩ := hbx.cell2; have uz := hbx.2.2; have us := hbx.1; (try dsimp only at u0 u1 uz us); clear hbx; have hbx := st.box 1 (w4.heap.size, [.int .i64 p, .int .i64 q]) rfl; obtain ⟨p0, p1⟩ := hbx.cell2; have pz := hbx.2.2; have ps := hbx.1; (try dsimp only at p0 p1 pz ps); clear hbx; have hbx := st.box 2 (w1.heap.size + 1, [.int .i64 c, .int .i64 d]) rfl; obtain ⟨y0, y1⟩ := hbx.cell2; have yz := hbx.2.2; have ys := hbx.1; (try dsimp only at y0 y1 yz ys); clear hbx) | (replace st := st.drew.keep bq1; have hbx := st.box 0 (wr.heap.size, [.int .i64 (-1), .int .i64 (-1)]) rfl; obtain ⟨u0, u1⟩ := hbx.cell2; have uz := hbx.2.2; have us := hbx.1; (try dsimp only at u0 u1 uz us); clear hbx; have hbx := st.box 1 (w4.heap.size, [.int .i64 p, .int .i64 q]) rfl; obtain ⟨p0, p1⟩ := hbx.cell2; have pz := hbx.2.2; have ps := hbx.1; (try dsimp only at p0 p1 pz ps); clear hbx; have hbx := st.box 2 (w1.heap.size + 1, [.int .i64 c, .int .i64 d]) rfl; obtain ⟨y0, y1⟩ := hbx.cell2; have yz := hbx.2.2; have ys := hbx.1; (try dsimp only at y0 y1 yz ys); clear hbx))))
          all_goals
            go_wp2
            have st2 := st.sub (bs' := [(w4.heap.size, [.int .i64 p, .int .i64 q]), (w1.heap.size + 1, [.int .i64 c, .int .i64 d])]) (ss' := []) (by intro b hb; simp only [List.mem_cons, List.not_mem_nil, or_false] at hb; rcases hb with rfl | rfl <;> simp) (by intro s hs; cases hs)
            go_roundg (gk - 1)
            case rel => exact ⟨3, _, by omega, by first | rfl | go_num, rfl, Lib.hid (by rw [if_pos (show K < ((3 : Nat) : Int) by omega)]; omega), st2⟩
            case measure => omega
        · have hk : ¬ K = ((2 : Nat) : Int) := fun h => hv (zz.2 h).2
          subst hu
          go_wp2_with fail
          go_region_held3 (fun w' => w'.cell? ⟨wr.heap.size, 0, none⟩ = some (.int .i64 (-1)) ∧ w'.cell? ⟨wr.heap.size, 1, none⟩ = some (.int .i64 (-1)) ∧ w'.cell? ⟨w4.heap.size, 0, none⟩ = some (.int .i64 p) ∧ w'.cell? ⟨w4.heap.size, 1, none⟩ = some (.int .i64 q) ∧ w'.cell? ⟨w1.heap.size + 1, 0, none⟩ = some (.int .i64 c) ∧ w'.cell? ⟨w1.heap.size + 1, 1, none⟩ = some (.int .i64 d))
              (first | exact ⟨u0, u1, p0, p1, y0, y1⟩ | exact ⟨cell_al u0 _, cell_al u1 _, cell_al p0 _, cell_al p1 _, cell_al y0 _, cell_al y1 _⟩ | exact ⟨cell_ald u0 _, cell_ald u1 _, cell_ald p0 _, cell_ald p1 _, cell_ald y0 _, cell_ald y1 _⟩ | exact ⟨cell_st2 u0 (by omega), cell_st2 u1 (by omega), cell_st2 p0 (by omega), cell_st2 p1 (by omega), cell_st2 y0 (by omega), cell_st2 y1 (by omega)⟩ | go_keep)
              (first
                | (go_at_call 79; refine (LM.out _).mono ?_; rintro e wq0 ⟨rfl, bq0⟩; (first | (replace st := st.keep bq0; have hbx := st.box 0 (wr.heap.size, [.int .i64 (-1), .int .i64 (-1)]) rfl; obtain ⟨u0, u1⟩ := hbx.cell2; have uz := hbx.2.2; have us := hbx.1; (try dsimp only at u0 u1 uz us); clear hbx; have hbx := st.box 1 (w4.heap.size, [.int .i64 p, .int .i64 q]) rfl; obtain ⟨p0, p1⟩ := hbx.cell2; have pz := hbx.2.2; have ps := hbx.1; (try dsimp only at p0 p1 pz ps); clear hbx; have hbx := st.box 2 (w1.heap.size + 1, [.int .i64 c, .int .i64 d]) rfl; obtain ⟨y0, y1⟩ := hbx.cell2; have yz := hbx.2.2; have ys := hbx.1; (try dsimp only at y0 y1 yz ys); clear hbx) | (replace st := st.drew.keep bq0; have hbx := st.box 0 (wr.heap.size, [.int .i64 (-1), .int .i64 (-1)]) rfl; obtain ⟨u0, u1⟩ := hbx.cell2; have uz := hbx.2.2; have us := hbx.1; (try dsimp only at u0 u1 uz us); clear hbx; have hbx := st.box 1 (w4.heap.size, [.int .i64 p, .int .i64 q]) rfl; obtain ⟨p0, p1⟩ := hbx.cell2; have pz := hbx.2.2; have ps := hbx.1; (try dsimp only at p0 p1 pz ps); clear hbx; have hbx := st.box 2 (w1.heap.size + 1, [.int .i64 c, .int .i64 d]) rfl; obtain ⟨y0, y1⟩ := hbx.cell2; have yz := hbx.2.2; have ys := hbx.1; (try dsimp only at y0 y1 yz ys); clear hbx)))
                | (go_at_call 71; refine (RM.out _).mono ?_; rintro e wq1 ⟨rfl, bq1⟩; (first | (replace st := st.keep bq1; have hbx := st.box 0 (wr.heap.size, [.int .i64 (-1), .int .i64 (-1)]) rfl; obtain ⟨u0, u1⟩ := hbx.cell2; have uz := hbx.2.2; have us := hbx.1; (try dsimp only at u0 u1 uz us); clear hbx; have hbx := st.box 1 (w4.heap.size, [.int .i64 p, .int .i64 q]) rfl; obtain ⟨p0, p1⟩ := hbx.cell2; have pz := hbx.2.2; have ps := hbx.1; (try dsimp only at p0 p1 pz ps); clear hbx; have hbx := st.box 2 (w1.heap.size + 1, [.int .i64 c, .int .i64 d]) rfl; obtain ⟨y0, y1⟩ := hbx.cell2; have yz := hbx.2.2; have ys := hbx.1; (try dsimp only at y0 y1 yz ys); clear hbx) | (replace st := st.drew.keep bq1; have hbx := st.box 0 (wr.heap.size, [.int .i64 (-1), .int .i64 (-1)]) rfl; obtain ⟨u0, u1⟩ := hbx.cell2; have uz := hbx.2.2; have us := hbx.1; (try dsimp only at u0 u1 uz us); clear hbx; have hbx := st.box 1 (w4.heap.size, [.int .i64 p, .int .i64 q]) rfl; obtain ⟨p0, p1⟩ := hbx.cell2; have pz := hbx.2.2; have ps := hbx.1; (try dsimp only at p0 p1 pz ps); clear hbx; have hbx := st.box 2 (w1.heap.size + 1, [.int .i64 c, .int .i64 d]) rfl; obtain ⟨y0, y1⟩ := hbx.cell2; have yz := hbx.2.2; have ys := hbx.1; (try dsimp only at y0 y1 yz ys); clear hbx))))
          all_goals
            go_wp2
            have st2 := st.sub (bs' := [(w4.heap.size, [.int .i64 p, .int .i64 q]), (w1.heap.size + 1, [.int .i64 c, .int .i64 d])]) (ss' := []) (by intro b hb; simp only [List.mem_cons, List.not_mem_nil, or_false] at hb; rcases hb with rfl | rfl <;> simp) (by intro s hs; cases hs)
            go_roundg (gk - 1)
            case rel => exact ⟨3, _, by omega, by first | rfl | go_num, rfl, Lib.hid (by rw [HM.out]; split <;> split <;> omega), st2⟩
            case measure => omega
      · have hk : ¬ K = ((2 : Nat) : Int) := fun h => hu (zz.2 h).1
        go_wp2_with fail
        go_region_held3 (fun w' => w'.cell? ⟨wr.heap.size, 0, none⟩ = some (.int .i64 (-1)) ∧ w'.cell? ⟨wr.heap.size, 1, none⟩ = some (.int .i64 (-1)) ∧ w'.cell? ⟨w4.heap.size, 0, none⟩ = some (.int .i64 p) ∧ w'.cell? ⟨w4.heap.size, 1, none⟩ = some (.int .i64 q) ∧ w'.cell? ⟨w1.heap.size + 1, 0, none⟩ = some (.int .i64 c) ∧ w'.cell? ⟨w1.heap.size + 1, 1, none⟩ = some (.int .i64 d))
            (first | exact ⟨u0, u1, p0, p1, y0, y1⟩ | exact ⟨cell_al u0 _, cell_al u1 _, cell_al p0 _, cell_al p1 _, cell_al y0 _, cell_al y1 _⟩ | exact ⟨cell_ald u0 _, cell_ald u1 _, cell_ald p0 _, cell_ald p1 _, cell_ald y0 _, cell_ald y1 _⟩ | exact ⟨cell_st2 u0 (by omega), cell_st2 u1 (by omega), cell_st2 p0 (by omega), cell_st2 p1 (by omega), cell_st2 y0 (by omega), cell_st2 y1 (by omega)⟩ | go_keep)
            (first
              | (go_at_call 79; refine (LM.out _).mono ?_; rintro e wq0 ⟨rfl, bq0⟩; (first | (replace st := st.keep bq0; have hbx := st.box 0 (wr.heap.size, [.int .i64 (-1), .int .i64 (-1)]) rfl; obtain ⟨u0, u1⟩ := hbx.cell2; have uz := hbx.2.2; have us := hbx.1; (try dsimp only at u0 u1 uz us); clear hbx; have hbx := st.box 1 (w4.heap.size, [.int .i64 p, .int .i64 q]) rfl; obtain ⟨p0, p1⟩ := hbx.cell2; have pz := hbx.2.2; have ps := hbx.1; (try dsimp only at p0 p1 pz ps); clear hbx; have hbx := st.box 2 (w1.heap.size + 1, [.int .i64 c, .int .i64 d]) rfl; obtain ⟨y0, y1⟩ := hbx.cell2; have yz := hbx.2.2; have ys := hbx.1; (try dsimp only at y0 y1 yz ys); clear hbx) | (replace st := st.drew.keep bq0; have hbx := st.box 0 (wr.heap.size, [.int .i64 (-1), .int .i64 (-1)]) rfl; obtain ⟨u0, u1⟩ := hbx.cell2; have uz := hbx.2.2; have us := hbx.1; (try dsimp only at u0 u1 uz us); clear hbx; have hbx := st.box 1 (w4.heap.size, [.int .i64 p, .int .i64 q]) rfl; obtain ⟨p0, p1⟩ := hbx.cell2; have pz := hbx.2.2; have ps := hbx.1; (try dsimp only at p0 p1 pz ps); clear hbx; have hbx := st.box 2 (w1.heap.size + 1, [.int .i64 c, .int .i64 d]) rfl; obtain ⟨y0, y1⟩ := hbx.cell2; have yz := hbx.2.2; have ys := hbx.1; (try dsimp only at y0 y1 yz ys); clear hbx)))
              | (go_at_call 71; refine (RM.out _).mono ?_; rintro e wq1 ⟨rfl, bq1⟩; (first | (replace st := st.keep bq1; have hbx := st.box 0 (wr.heap.size, [.int .i64 (-1), .int .i64 (-1)]) rfl; obtain ⟨u0, u1⟩ := hbx.cell2; have uz := hbx.2.2; have us := hbx.1; (try dsimp only at u0 u1 uz us); clear hbx; have hbx := st.box 1 (w4.heap.size, [.int .i64 p, .int .i64 q]) rfl; obtain ⟨p0, p1⟩ := hbx.cell2; have pz := hbx.2.2; have ps := hbx.1; (try dsimp only at p0 p1 pz ps); clear hbx; have hbx := st.box 2 (w1.heap.size + 1, [.int .i64 c, .int .i64 d]) rfl; obtain ⟨y0, y1⟩ := hbx.cell2; have yz := hbx.2.2; have ys := hbx.1; (try dsimp only at y0 y1 yz ys); clear hbx) | (replace st := st.drew.keep bq1; have hbx := st.box 0 (wr.heap.size, [.int .i64 (-1), .int .i64 (-1)]) rfl; obtain ⟨u0, u1⟩ := hbx.cell2; have uz := hbx.2.2; have us := hbx.1; (try dsimp only at u0 u1 uz us); clear hbx; have hbx := st.box 1 (w4.heap.size, [.int .i64 p, .int .i64 q]) rfl; obtain ⟨p0, p1⟩ := hbx.cell2; have pz := hbx.2.2; have ps := hbx.1; (try dsimp only at p0 p1 pz ps); clear hbx; have hbx := st.box 2 (w1.heap.size + 1, [.int .i64 c, .int .i64 d]) rfl; obtain ⟨y0, y1⟩ := hbx.cell2; have yz := hbx.2.2; have ys := hbx.1; (try dsimp only at y0 y1 yz ys); clear hbx))))
        all_goals
          go_wp2
          have st2 := st.sub (bs' := [(w4.heap.size, [.int .i64 p, .int .i64 q]), (w1.heap.size + 1, [.int .i64 c, .int .i64 d])]) (ss' := []) (by intro b hb; simp only [List.mem_cons, List.not_mem_nil, or_false] at hb; rcases hb with rfl | rfl <;> simp) (by intro s hs; cases hs)
          go_roundg (gk - 1)
          case rel => exact ⟨3, _, by omega, by first | rfl | go_num, rfl, Lib.hid (by rw [HM.out]; split <;> split <;> omega), st2⟩
          case measure => omega
    · have hlt : decide (((3 : Nat) : Int) < 3) = false := by decide
      have e3 := HM.out
      rw [if_pos (by omega)] at e3
      rw [e3]
      have BB := st.1
      go_wp2
      refine bodyPost_ret (v := .tuple #[.int .i64 K, .int .i64 0]) (by simp [results, Try.results43, go_sem]) rfl ?_
      exact ⟨by first | rfl | simp, by go_grown⟩

end
end Go.Proofs.Ytfadlnbmpgbeaaa
