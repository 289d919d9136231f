/- Rests of powers of the program. -/
import Derived.Test.YtfadlnbmpgbeaaaEsX
import Derived.Test.YtfadlnbmpgbeaaaEsK
namespace Go.Proofs.Ytfadlnbmpgbeaaa
open Go.RowKit Go.ChangeShapes Go.Sort
set_option linter.unusedVariables false
set_option linter.unusedSimpArgs false
set_option maxRecDepth 100000
set_option maxHeartbeats 4000000

/-- The rest of a product. -/
def rtA (p q s t c d : Int) : Int := rA (tA p q s t) (tB p q s t) c d
def rtB (p q s t c d : Int) : Int := rB (tA p q s t) (tB p q s t) c d
theorem rt_bd {p q s t c d : Int} (hn : 1 ≤ nrm c d) (hn2 : nrm c d ≤ 300000000) : nrm (rtA p q s t c d) (rtB p q s t c d) ≤ 300000000 := by
  have := rest_norm (a := tA p q s t) (b := tB p q s t) hn
  unfold rtA rtB
  omega
theorem t_bd {p q s t : Int} (h1 : nrm p q ≤ 300000000) (h2 : nrm s t ≤ 300000000) : -2000000000 ≤ tA p q s t ∧ tA p q s t ≤ 2000000000 ∧ -2000000000 ≤ tB p q s t ∧ tB p q s t ≤ 2000000000 := by
  have b1 := nrm_small h1
  have b2 := nrm_small h2
  have u1 := mul_bd b1.1 b1.2.1 b2.1 b2.2.1
  have u2 := mul_bd b1.1 b1.2.1 b2.2.2.1 b2.2.2.2
  have u3 := mul_bd b1.2.2.1 b1.2.2.2 b2.1 b2.2.1
  have u4 := mul_bd b1.2.2.1 b1.2.2.2 b2.2.2.1 b2.2.2.2
  unfold tA tB
  omega
theorem rt_cg {p q s t c d : Int} : Es.cg ⟨c, d⟩ ⟨rtA p q s t c d, rtB p q s t c d⟩ (Es.mul ⟨p, q⟩ ⟨s, t⟩) := Es.rest_cg
theorem rt_odd {p q s t c d : Int} {X : Es} {m : Nat} (h : Es.cg ⟨c, d⟩ (Es.mul ⟨p, q⟩ (Es.pw ⟨s, t⟩ m)) X) (hm : m % 2 = 1) :
    Es.cg ⟨c, d⟩ (Es.mul ⟨rtA p q s t c d, rtB p q s t c d⟩ (Es.pw ⟨rtA s t s t c d, rtB s t s t c d⟩ (m / 2))) X := by
  have e : m = 2 * (m / 2) + 1 := by omega
  rw [e] at h
  have h1 := Es.step_odd h
  exact Es.cg_trans (Es.cg_mul rt_cg (Es.cg_pw rt_cg _)) h1
theorem rt_even {p q s t c d : Int} {X : Es} {m : Nat} (h : Es.cg ⟨c, d⟩ (Es.mul ⟨p, q⟩ (Es.pw ⟨s, t⟩ m)) X) (hm : ¬ m % 2 = 1) :
    Es.cg ⟨c, d⟩ (Es.mul ⟨p, q⟩ (Es.pw ⟨rtA s t s t c d, rtB s t s t c d⟩ (m / 2))) X := by
  have e : m = 2 * (m / 2) := by omega
  rw [e] at h
  have h1 := Es.step_even h
  exact Es.cg_trans (Es.cg_mul (Es.cg_refl _ _) (Es.cg_pw rt_cg _)) h1

theorem restOfPower_impl (a b c d : Int) (e : Nat) (w : World) (ha : -10000 ≤ a) (ha' : a ≤ 10000) (hb : -10000 ≤ b) (hb' : b ≤ 10000) (hc : -10000 ≤ c) (hc' : c ≤ 10000) (hd : -10000 ≤ d) (hd' : d ≤ 10000) (hn : 1 ≤ nrm c d) (he : e ≤ 1000000000) :
    Calls Try.prog 78 #[.agg #[.int .i64 a, .int .i64 b], .int .i64 (e : Int), .agg #[.int .i64 c, .int .i64 d]] w fun r w' => ∃ p q, r = .returned (.agg #[.int .i64 p, .int .i64 q]) ∧ nrm p q ≤ 300000000 ∧ Es.cg ⟨c, d⟩ ⟨p, q⟩ (Es.pw ⟨a, b⟩ e) ∧ Below w.heap.size w w' := by
  have hn2 := nrm_le (M := 10000) hc hc' hd hd'
  have st := St.start w
  replace st := (st.alloc (.cells #[.int .i64 a, .int .i64 b] 59)).addBox _ [.int .i64 a, .int .i64 b] (Box.made _ _ _ _ (fun j v h => by simpa using h))
  replace st := (st.alloc (.cells #[.int .i64 c, .int .i64 d] 59)).addBox _ [.int .i64 c, .int .i64 d] (Box.made _ _ _ _ (fun j v h => by simpa using h))
  replace st := (st.alloc (.cells #[.int .i64 0, .int .i64 0] 59)).addBox _ [.int .i64 0, .int .i64 0] (Box.made _ _ _ _ (fun j v h => by simpa using h))
  simp only [World.size_alloc] at st
  have hr1 := rest_norm (a := a) (b := b) hn
  have C0 := Lib.hid (show Es.cg ⟨c, d⟩ (Es.mul ⟨1, 0⟩ (Es.pw ⟨rA a b c d, rB a b c d⟩ e)) (Es.pw ⟨a, b⟩ e) by
    have h1 : Es.mul ⟨1, 0⟩ (Es.pw ⟨rA a b c d, rB a b c d⟩ e) = Es.pw ⟨rA a b c d, rB a b c d⟩ e := Es.one_mul _
    rw [h1]
    exact Es.cg_pw Es.rest_cg e)
  have RM := Lib.hid (show ∀ w' : World, Calls Try.prog 71 #[.agg #[.int .i64 a, .int .i64 b], .agg #[.int .i64 c, .int .i64 d]] w' fun e w'' => e = .returned (.agg #[.int .i64 (rA a b c d), .int .i64 (rB a b c d)]) ∧ Below w'.heap.size w' w'' from fun w' => rest_impl a b c d w' (by omega) (by omega) (by omega) (by omega) (by omega) (by omega) (by omega) (by omega) hn)
  obtain ⟨A, hA⟩ : ∃ A, rA a b c d = A := ⟨_, rfl⟩
  obtain ⟨B, hB⟩ : ∃ B, rB a b c d = B := ⟨_, rfl⟩
  rw [hA, hB] at hr1 C0 RM
  clear hA hB
  obtain ⟨X, hX⟩ : ∃ X, Es.pw ⟨a, b⟩ e = X := ⟨_, rfl⟩
  rw [hX] at C0 ⊢
  clear hX
  go_enter Try.func78, Try.ntmps78
  obtain ⟨x0, x1⟩ := (st.box 2 _ rfl).cell2
  obtain ⟨y0, y1⟩ := (st.box 1 _ rfl).cell2
  obtain ⟨r0, r1⟩ := (st.box 0 _ rfl).cell2
  try dsimp only at x0 x1 y0 y1 r0 r1
  go_wp2_with fail
  refine (RM.out _).mono ?_
  rintro r w1 ⟨rfl, b1⟩
  replace st := st.keep b1
  have hz1 := b1.size
  simp only [World.size_alloc] at hz1
  clear b1 x0 x1 y0 y1 r0 r1
  have z0 : w.heap.size + 1 + 1 < w1.heap.size := by omega
  have sty := st.sub (bs' := [(w.heap.size + 1 + 1, [.int .i64 0, .int .i64 0]), (w.heap.size + 1, [.int .i64 c, .int .i64 d])]) (ss' := []) (by intro b hb; simp only [List.mem_cons, List.not_mem_nil, or_false] at hb; rcases hb with rfl | rfl <;> simp) (by intro s hs; cases hs)
  clear st
  have stx := (sty.alloc (.cells #[.int .i64 1, .int .i64 0] 59)).addBox _ [.int .i64 1, .int .i64 0] (Box.made _ _ _ _ (fun j v h => by simpa using h))
  replace stx := (stx.alloc (.cells #[.int .i64 A, .int .i64 B] 59)).addBox _ [.int .i64 A, .int .i64 B] (Box.made _ _ _ _ (fun j v h => by simpa using h))
  simp only [World.size_alloc] at stx
  replace stx := stx.swp
  clear sty
  go_wp2_with fail
  go_loopg [1] e (fun k s1 wr => ∃ (m : Nat) (p q s t : Int), m ≤ k ∧ m ≤ 1000000000 ∧ s1 = .int .i64 (m : Int) ∧ nrm p q ≤ 300000000 ∧ nrm s t ≤ 300000000 ∧ Hid (Es.cg ⟨c, d⟩ (Es.mul ⟨p, q⟩ (Es.pw ⟨s, t⟩ m)) X) ∧ St w wr [(w1.heap.size, [.int .i64 p, .int .i64 q]), (w1.heap.size + 1, [.int .i64 s, .int .i64 t]), (w.heap.size + 1 + 1, [.int .i64 0, .int .i64 0]), (w.heap.size + 1, [.int .i64 c, .int .i64 d])] [])
  case atStart => exact ⟨e, 1, 0, A, B, Nat.le_refl _, he, rfl, by decide, by omega, C0, stx⟩
  case round =>
    clear stx C0 RM hr1
    obtain ⟨m, p, q, s, t, hmk, hm, rfl, hpq, hst, HC, st⟩ := hrel
    have bp := nrm_small hpq
    have bs := nrm_small hst
    have bc := nrm_small (Int.le_trans hn2 (by omega))
    have tb1 := t_bd hpq hst
    have tb2 := t_bd hst hst
    have rb1 := rt_bd (p := p) (q := q) (s := s) (t := t) hn (by omega)
    have rb2 := rt_bd (p := s) (q := t) (s := s) (t := t) hn (by omega)
    have hbx := st.box 0 (w1.heap.size, [.int .i64 p, .int .i64 q]) rfl; obtain ⟨p0, p1⟩ := hbx.cell2; have pz := hbx.2.2; have ps := hbx.1; (try dsimp only at p0 p1 pz ps); clear hbx; have hbx := st.box 1 (w1.heap.size + 1, [.int .i64 s, .int .i64 t]) rfl; obtain ⟨s0, s1⟩ := hbx.cell2; have sz := hbx.2.2; have ss := hbx.1; (try dsimp only at s0 s1 sz ss); clear hbx; have hbx := st.box 2 (w.heap.size + 1 + 1, [.int .i64 0, .int .i64 0]) rfl; obtain ⟨r0, r1⟩ := hbx.cell2; have rz := hbx.2.2; have rs := hbx.1; (try dsimp only at r0 r1 rz rs); clear hbx; have hbx := st.box 3 (w.heap.size + 1, [.int .i64 c, .int .i64 d]) rfl; obtain ⟨y0, y1⟩ := hbx.cell2; have yz := hbx.2.2; have ys := hbx.1; (try dsimp only at y0 y1 yz ys); clear hbx
    by_cases h0 : m = 0
    · subst h0
      have e0 : Es.mul (⟨p, q⟩ : Es) (Es.pw ⟨s, t⟩ 0) = ⟨p, q⟩ := Es.mul_one _
      have e1 := HC.out
      rw [e0] at e1
      have BB := st.1
      go_wp2
      refine bodyPost_ret (v := .agg #[.int .i64 p, .int .i64 q]) (by simp [results, Try.results78, go_sem, p0, p1, r0, r1, rs, Nat.ne_of_lt rs]) rfl ?_
      exact ⟨_, _, rfl, hpq, e1, by go_grown⟩
    · have h0b : decide ((0 : Int) < (m : Int)) = true := decide_eq_true (by omega)
      have hdv : (m : Int).tdiv 2 = ((m / 2 : Nat) : Int) := by rw [Int.tdiv_eq_ediv_of_nonneg (by omega)]; omega
      have TS := Lib.hid (show ∀ w' : World, Calls Try.prog 94 #[.agg #[.int .i64 s, .int .i64 t], .agg #[.int .i64 s, .int .i64 t]] w' fun e w'' => e = .returned (.agg #[.int .i64 (tA s t s t), .int .i64 (tB s t s t)]) ∧ Below w'.heap.size w' w'' from fun w' => times_impl s t s t w' (by omega) (by omega) (by omega) (by omega) (by omega) (by omega) (by omega) (by omega))
      have RS := Lib.hid (show ∀ w' : World, Calls Try.prog 71 #[.agg #[.int .i64 (tA s t s t), .int .i64 (tB s t s t)], .agg #[.int .i64 c, .int .i64 d]] w' fun e w'' => e = .returned (.agg #[.int .i64 (rtA s t s t c d), .int .i64 (rtB s t s t c d)]) ∧ Below w'.heap.size w' w'' from fun w' => rest_impl _ _ c d w' (by omega) (by omega) (by omega) (by omega) (by omega) (by omega) (by omega) (by omega) hn)
      obtain ⟨U, hU⟩ : ∃ U, rtA s t s t c d = U := ⟨_, rfl⟩
      obtain ⟨V, hV⟩ : ∃ V, rtB s t s t c d = V := ⟨_, rfl⟩
      obtain ⟨u, hu⟩ : ∃ u, tA s t s t = u := ⟨_, rfl⟩
      obtain ⟨v, hv⟩ : ∃ v, tB s t s t = v := ⟨_, rfl⟩
      by_cases h1 : m % 2 = 1
      · have hmo : (m : Int).tmod 2 = 1 := by rw [Int.tmod_eq_emod_of_nonneg (by omega)]; omega
        have D := Lib.hid (rt_odd HC.out h1)
        have TP := Lib.hid (show ∀ w' : World, Calls Try.prog 94 #[.agg #[.int .i64 p, .int .i64 q], .agg #[.int .i64 s, .int .i64 t]] w' fun e w'' => e = .returned (.agg #[.int .i64 (tA p q s t), .int .i64 (tB p q s t)]) ∧ Below w'.heap.size w' w'' from fun w' => times_impl p q s t w' (by omega) (by omega) (by omega) (by omega) (by omega) (by omega) (by omega) (by omega))
        have RP := Lib.hid (show ∀ w' : World, Calls Try.prog 71 #[.agg #[.int .i64 (tA p q s t), .int .i64 (tB p q s t)], .agg #[.int .i64 c, .int .i64 d]] w' fun e w'' => e = .returned (.agg #[.int .i64 (rtA p q s t c d), .int .i64 (rtB p q s t c d)]) ∧ Below w'.heap.size w' w'' from fun w' => rest_impl _ _ c d w' (by omega) (by omega) (by omega) (by omega) (by omega) (by omega) (by omega) (by omega) hn)
        obtain ⟨G, hG⟩ : ∃ G, rtA p q s t c d = G := ⟨_, rfl⟩
        obtain ⟨H, hH⟩ : ∃ H, rtB p q s t c d = H := ⟨_, rfl⟩
        obtain ⟨g, hg⟩ : ∃ g, tA p q s t = g := ⟨_, rfl⟩
        obtain ⟨h, hh⟩ : ∃ h, tB p q s t = h := ⟨_, rfl⟩
        rw [hG, hH] at D rb1 RP
        rw [hU, hV] at D rb2 RS
        rw [hg, hh] at TP RP
        rw [hu, hv] at TS RS
        clear hG hH hg hh hU hV hu hv tb1 tb2 HC h1 bp bs bc
        go_wp2_with fail
        go_region_law (first
          | (go_simp; go_at_call 94; refine (TP.out _).mono ?_; rintro r wq0 ⟨rfl, bq0⟩; (first | (replace st := st.keep bq0) | (replace st := st.drew.keep bq0)); obtain ⟨p0, p1⟩ := (st.box 0 _ rfl).cell2; have pz := (st.box 0 _ rfl).2.2; have ps := (st.box 0 _ rfl).1; (try dsimp only at p0 p1 pz ps); obtain ⟨s0, s1⟩ := (st.box 1 _ rfl).cell2; have sz := (st.box 1 _ rfl).2.2; have ss := (st.box 1 _ rfl).1; (try dsimp only at s0 s1 sz ss); obtain ⟨r0, r1⟩ := (st.box 2 _ rfl).cell2; have rz := (st.box 2 _ rfl).2.2; have rs := (st.box 2 _ rfl).1; (try dsimp only at r0 r1 rz rs); obtain ⟨y0, y1⟩ := (st.box 3 _ rfl).cell2; have yz := (st.box 3 _ rfl).2.2; have ys := (st.box 3 _ rfl).1; (try dsimp only at y0 y1 yz ys))
          | (go_simp; go_at_call 71; refine (RP.out _).mono ?_; rintro r wq1 ⟨rfl, bq1⟩; (first | (replace st := st.keep bq1) | (replace st := st.drew.keep bq1)); obtain ⟨p0, p1⟩ := (st.box 0 _ rfl).cell2; have pz := (st.box 0 _ rfl).2.2; have ps := (st.box 0 _ rfl).1; (try dsimp only at p0 p1 pz ps); obtain ⟨s0, s1⟩ := (st.box 1 _ rfl).cell2; have sz := (st.box 1 _ rfl).2.2; have ss := (st.box 1 _ rfl).1; (try dsimp only at s0 s1 sz ss); obtain ⟨r0, r1⟩ := (st.box 2 _ rfl).cell2; have rz := (st.box 2 _ rfl).2.2; have rs := (st.box 2 _ rfl).1; (try dsimp only at r0 r1 rz rs); obtain ⟨y0, y1⟩ := (st.box 3 _ rfl).cell2; have yz := (st.box 3 _ rfl).2.2; have ys := (st.box 3 _ rfl).1; (try dsimp only at y0 y1 yz ys)))
        all_goals
          replace st := st.setHead (u0 := .int .i64 G) (u1 := .int .i64 H) (by omega) (by intro q hq; simp only [List.mem_cons, List.not_mem_nil, or_false] at hq; rcases hq with rfl | rfl | rfl <;> dsimp only <;> omega) (by intro s hs; cases hs)
          clear p0 p1 pz ps s0 s1 sz ss r0 r1 rz rs y0 y1 yz ys
          obtain ⟨p0, p1⟩ := (st.box 0 _ rfl).cell2; have pz := (st.box 0 _ rfl).2.2; have ps := (st.box 0 _ rfl).1; (try dsimp only at p0 p1 pz ps); obtain ⟨s0, s1⟩ := (st.box 1 _ rfl).cell2; have sz := (st.box 1 _ rfl).2.2; have ss := (st.box 1 _ rfl).1; (try dsimp only at s0 s1 sz ss); obtain ⟨r0, r1⟩ := (st.box 2 _ rfl).cell2; have rz := (st.box 2 _ rfl).2.2; have rs := (st.box 2 _ rfl).1; (try dsimp only at r0 r1 rz rs); obtain ⟨y0, y1⟩ := (st.box 3 _ rfl).cell2; have yz := (st.box 3 _ rfl).2.2; have ys := (st.box 3 _ rfl).1; (try dsimp only at y0 y1 yz ys)
          go_wp2_with fail
          go_region_law (first
            | (go_simp; go_at_call 94; refine (TS.out _).mono ?_; rintro r wq0 ⟨rfl, bq0⟩; (first | (replace st := st.keep bq0) | (replace st := st.drew.keep bq0)); obtain ⟨p0, p1⟩ := (st.box 0 _ rfl).cell2; have pz := (st.box 0 _ rfl).2.2; have ps := (st.box 0 _ rfl).1; (try dsimp only at p0 p1 pz ps); obtain ⟨s0, s1⟩ := (st.box 1 _ rfl).cell2; have sz := (st.box 1 _ rfl).2.2; have ss := (st.box 1 _ rfl).1; (try dsimp only at s0 s1 sz ss); obtain ⟨r0, r1⟩ := (st.box 2 _ rfl).cell2; have rz := (st.box 2 _ rfl).2.2; have rs := (st.box 2 _ rfl).1; (try dsimp only at r0 r1 rz rs); obtain ⟨y0, y1⟩ := (st.box 3 _ rfl).cell2; have yz := (st.box 3 _ rfl).2.2; have ys := (st.box 3 _ rfl).1; (try dsimp only at y0 y1 yz ys))
            | (go_simp; go_at_call 71; refine (RS.out _).mono ?_; rintro r wq1 ⟨rfl, bq1⟩; (first | (replace st := st.keep bq1) | (replace st := st.drew.keep bq1)); obtain ⟨p0, p1⟩ := (st.box 0 _ rfl).cell2; have pz := (st.box 0 _ rfl).2.2; have ps := (st.box 0 _ rfl).1; (try dsimp only at p0 p1 pz ps); obtain ⟨s0, s1⟩ := (st.box 1 _ rfl).cell2; have sz := (st.box 1 _ rfl).2.2; have ss := (st.box 1 _ rfl).1; (try dsimp only at s0 s1 sz ss); obtain ⟨r0, r1⟩ := (st.box 2 _ rfl).cell2; have rz := (st.box 2 _ rfl).2.2; have rs := (st.box 2 _ rfl).1; (try dsimp only at r0 r1 rz rs); obtain ⟨y0, y1⟩ := (st.box 3 _ rfl).cell2; have yz := (st.box 3 _ rfl).2.2; have ys := (st.box 3 _ rfl).1; (try dsimp only at y0 y1 yz ys)))
          all_goals
            replace st := st.swp.setHead (u0 := .int .i64 U) (u1 := .int .i64 V) (by omega) (by intro q hq; simp only [List.mem_cons, List.not_mem_nil, or_false] at hq; rcases hq with rfl | rfl | rfl <;> dsimp only <;> omega) (by intro s hs; cases hs)
            replace st := st.swp
            clear p0 p1 pz ps s0 s1 sz ss r0 r1 rz rs y0 y1 yz ys
            go_wp2
            go_roundg (m / 2)
            case rel => exact ⟨m / 2, _, _, _, _, Nat.le_refl _, by omega, by first | rfl | (rw [hdv]) | go_num, rb1, rb2, D, st⟩
            case measure => omega
      · have hmo : (m : Int).tmod 2 = 0 := by rw [Int.tmod_eq_emod_of_nonneg (by omega)]; omega
        have D := Lib.hid (rt_even HC.out h1)
        rw [hU, hV] at D rb2 RS
        rw [hu, hv] at TS RS
        clear hU hV hu hv tb1 tb2 HC h1 bp bs bc
        go_wp2_with fail
        go_region_law (first
          | (go_simp; go_at_call 94; refine (TS.out _).mono ?_; rintro r wq0 ⟨rfl, bq0⟩; (first | (replace st := st.keep bq0) | (replace st := st.drew.keep bq0)); obtain ⟨p0, p1⟩ := (st.box 0 _ rfl).cell2; have pz := (st.box 0 _ rfl).2.2; have ps := (st.box 0 _ rfl).1; (try dsimp only at p0 p1 pz ps); obtain ⟨s0, s1⟩ := (st.box 1 _ rfl).cell2; have sz := (st.box 1 _ rfl).2.2; have ss := (st.box 1 _ rfl).1; (try dsimp only at s0 s1 sz ss); obtain ⟨r0, r1⟩ := (st.box 2 _ rfl).cell2; have rz := (st.box 2 _ rfl).2.2; have rs := (st.box 2 _ rfl).1; (try dsimp only at r0 r1 rz rs); obtain ⟨y0, y1⟩ := (st.box 3 _ rfl).cell2; have yz := (st.box 3 _ rfl).2.2; have ys := (st.box 3 _ rfl).1; (try dsimp only at y0 y1 yz ys))
          | (go_simp; go_at_call 71; refine (RS.out _).mono ?_; rintro r wq1 ⟨rfl, bq1⟩; (first | (replace st := st.keep bq1) | (replace st := st.drew.keep bq1)); obtain ⟨p0, p1⟩ := (st.box 0 _ rfl).cell2; have pz := (st.box 0 _ rfl).2.2; have ps := (st.box 0 _ rfl).1; (try dsimp only at p0 p1 pz ps); obtain ⟨s0, s1⟩ := (st.box 1 _ rfl).cell2; have sz := (st.box 1 _ rfl).2.2; have ss := (st.box 1 _ rfl).1; (try dsimp only at s0 s1 sz ss); obtain ⟨r0, r1⟩ := (st.box 2 _ rfl).cell2; have rz := (st.box 2 _ rfl).2.2; have rs := (st.box 2 _ rfl).1; (try dsimp only at r0 r1 rz rs); obtain ⟨y0, y1⟩ := (st.box 3 _ rfl).cell2; have yz := (st.box 3 _ rfl).2.2; have ys := (st.box 3 _ rfl).1; (try dsimp only at y0 y1 yz ys)))
        all_goals
          replace st := st.swp.setHead (u0 := .int .i64 U) (u1 := .int .i64 V) (by omega) (by intro q hq; simp only [List.mem_cons, List.not_mem_nil, or_false] at hq; rcases hq with rfl | rfl | rfl <;> dsimp only <;> omega) (by intro s hs; cases hs)
          replace st := st.swp
          clear p0 p1 pz ps s0 s1 sz ss r0 r1 rz rs y0 y1 yz ys
          go_wp2
          go_roundg (m / 2)
          case rel => exact ⟨m / 2, _, _, _, _, Nat.le_refl _, by omega, by first | rfl | (rw [hdv]) | go_num, hpq, rb2, D, st⟩
          case measure => omega
end Go.Proofs.Ytfadlnbmpgbeaaa
