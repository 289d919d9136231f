/- Cubic symbols of the model. -/
import Derived.Test.YtfadlnbmpgbeaaaEsO
import Derived.Test.YtfadlnbmpgbeaaaEsX
import Derived.Test.YtfadlnbmpgbeaaaPowZ
namespace Go.Proofs.Ytfadlnbmpgbeaaa
open Go.RowKit Go.ChangeShapes Go.Sort
set_option linter.unusedVariables false
set_option linter.unusedSimpArgs false
set_option maxRecDepth 100000
set_option maxHeartbeats 4000000

section
variable {o o' : Bool} {lo hi n lo' hi' n' : Nat} {v v' : Value} {f f' : Nat → Int}
theorem l09Times_two {p q s t : Int} (x x' : Int) (w : World) (h1 : Sl o w lo hi v 2 (two p q)) (h2 : Sl o' w lo' hi' v' 2 (two s t)) (hp : nrm p q ≤ 300000000) (ht : nrm s t ≤ 300000000) :
    Calls Try.prog 90 #[.agg #[.int .i64 x, v], .agg #[.int .i64 x', v']] w fun e w' => ∃ g k, e = .returned (.agg #[.int .i64 3, .slice g 2 k]) ∧ Sl true w' w.heap.size w'.heap.size (.slice g 2 k) 2 (two (tA p q s t) (tB p q s t)) ∧ Below w.heap.size w w' := by
  have b1 := nrm_small hp
  have b2 := nrm_small ht
  exact l09Times_any x x' w h1 h2 (by show _ ≤ p; omega) (by show p ≤ _; omega) (by show _ ≤ q; omega) (by show q ≤ _; omega) (by show _ ≤ s; omega) (by show s ≤ _; omega) (by show _ ≤ t; omega) (by show t ≤ _; omega)
theorem l01Unit3_any (i : Nat) (w : World) (hi : i < 2) :
    Calls Try.prog 103 #[.int .i64 3, .int .i64 (i : Int)] w fun e w' => ∃ g k, e = .returned (.agg #[.int .i64 3, .slice g 2 k]) ∧ Sl true w' w.heap.size w'.heap.size (.slice g 2 k) 2 (two (Es.rt i).a (Es.rt i).b) ∧ Below w.heap.size w w' := by
  refine (l01Unit_any 3 (i : Int) w (by omega) (by omega)).mono ?_
  rintro e w' ⟨g, k, rfl, s1, b1⟩
  have hi2 : i = 0 ∨ i = 1 := by omega
  rcases hi2 with rfl | rfl
  · exact ⟨g, k, rfl, s1.congr (fun j hj => by have hj2 : j = 0 ∨ j = 1 := by (have : phiN 3 = 2 := by decide); omega
                                               rcases hj2 with rfl | rfl <;> decide), b1⟩
  · exact ⟨g, k, rfl, s1.congr (fun j hj => by have hj2 : j = 0 ∨ j = 1 := by (have : phiN 3 = 2 := by decide); omega
                                               rcases hj2 with rfl | rfl <;> decide), b1⟩
theorem l09Rest_any {a b c d : Int} (x x' : Int) (w : World) (h1 : Sl o w lo hi v 2 f) (h2 : Sl o' w lo' hi' v' 2 f') (ea : f 0 = a) (eb : f 1 = b) (ec : f' 0 = c) (ed : f' 1 = d) (ha : -2000000000 ≤ a ∧ a ≤ 2000000000 ∧ -2000000000 ≤ b ∧ b ≤ 2000000000) (hc : -20000 ≤ c ∧ c ≤ 20000 ∧ -20000 ≤ d ∧ d ≤ 20000) (hn : 1 ≤ nrm c d) :
    Calls Try.prog 67 #[.agg #[.int .i64 x, v], .agg #[.int .i64 x', v']] w fun e w' => ∃ g1 k1 g k m, e = .returned (.tuple #[.agg #[.int .i64 3, .slice g1 2 k1], .agg #[.int .i64 3, .slice g 2 k]]) ∧ w.heap.size ≤ m ∧ m ≤ w'.heap.size ∧ Sl true w' m w'.heap.size (.slice g 2 k) 2 (two (rA a b c d) (rB a b c d)) ∧ Below w.heap.size w w' := by
  subst ea eb ec ed
  refine (l09Divide_any x x' w h1 h2 ha.1 ha.2.1 ha.2.2.1 ha.2.2.2 hc.1 hc.2.1 hc.2.2.1 hc.2.2.2 hn).mono ?_
  rintro e w' ⟨g1, k1, g2, k2, rfl, ⟨m, hm1, hm2, s1, s2⟩, c1⟩
  exact ⟨g1, k1, g2, k2, m, rfl, hm1, hm2, s2, c1⟩

theorem l09Symbol_any {a b c d : Int} (x x' : Int) (N : Nat) (K : Int) (w : World) (hs : Sl o w lo hi v 2 f) (hs' : Sl o' w lo' hi' v' 2 f') (ea : f 0 = a) (eb : f 1 = b) (ec : f' 0 = c) (ed : f' 1 = d) (ha : -10000 ≤ a ∧ a ≤ 10000 ∧ -10000 ≤ b ∧ b ≤ 10000) (hc : -10000 ≤ c ∧ c ≤ 10000 ∧ -10000 ≤ d ∧ d ≤ 10000) (hN : nrm c d = N) (hn1 : 1 ≤ N) (hk0 : Es.dv ⟨c, d⟩ ⟨a, b⟩ ↔ K = -1) (hK : isSy ⟨c, d⟩ (Es.pw ⟨a, b⟩ ((N - 1) / 3)) K) :
    Calls Try.prog 77 #[.agg #[.int .i64 x, v], .agg #[.int .i64 x', v']] w fun e w' => e = .returned (.int .i64 K) ∧ Below w.heap.size w w' := by
  have hnn : 1 ≤ nrm c d := by omega
  have hn2 := nrm_le (M := 10000) hc.1 hc.2.1 hc.2.2.1 hc.2.2.2
  rw [hN] at hn2
  have HN := Lib.hid hN
  have HNN := Lib.hid hnn
  have HK := Lib.hid hK
  have EE := Lib.hid (show f 0 = a ∧ f 1 = b ∧ f' 0 = c ∧ f' 1 = d from ⟨ea, eb, ec, ed⟩)
  have hr1 := rest_norm (a := a) (b := b) hnn
  have hz1 := Es.rest_dv (a := a) (b := b) hnn
  rw [hk0, ← nrm_eq0] at hz1
  rw [hN] at hr1
  have C0 := Lib.hid (show Es.cg ⟨c, d⟩ (Es.mul ⟨1, 0⟩ (Es.pw ⟨rA a b c d, rB a b c d⟩ ((N - 1) / 3))) (Es.pw ⟨a, b⟩ ((N - 1) / 3)) by
    have h1 : Es.mul ⟨1, 0⟩ (Es.pw ⟨rA a b c d, rB a b c d⟩ ((N - 1) / 3)) = Es.pw ⟨rA a b c d, rB a b c d⟩ ((N - 1) / 3) := Es.one_mul _
    rw [h1]
    exact Es.cg_pw Es.rest_cg _)
  have hk1 := hK.1
  have hk2 := hK.2.1
  clear ea eb ec ed hk0 hK hN
  obtain ⟨av, cap, rfl⟩ := hs.shape
  obtain ⟨av', cap', rfl⟩ := hs'.shape
  have hh := hs.size
  have hh' := hs'.size
  have st := (((((St.start w).addSl ⟨o, lo, hi, .slice av 2 cap, 2, f⟩ hs).addSl ⟨o', lo', hi', .slice av' 2 cap', 2, f'⟩ hs').alloc (.cells #[.int .i64 x, .slice av 2 cap] 27)).addBox w.heap.size [.int .i64 x, .slice av 2 cap] (Box.made _ _ _ _ (fun j v h => by simpa using h)))
  replace st := (st.alloc (.cells #[.int .i64 x', .slice av' 2 cap'] 27)).addBox _ [.int .i64 x', .slice av' 2 cap'] (Box.made _ _ _ _ (fun j v h => by simpa using h))
  simp only [World.size_alloc] at st
  go_enter Try.func77, Try.ntmps77
  have q0 := st.sl 1 ⟨o, lo, hi, .slice av 2 cap, 2, f⟩ rfl
  have q1 := st.sl 0 ⟨o', lo', hi', .slice av' 2 cap', 2, f'⟩ rfl
  dsimp only at q0 q1
  obtain ⟨x0, x1⟩ := (st.box 1 _ rfl).cell2
  have xz := (st.box 1 _ rfl).2.2
  have xs := (st.box 1 _ rfl).1
  dsimp only at x0 x1 xz xs
  obtain ⟨y0, y1⟩ := (st.box 0 _ rfl).cell2
  have yz := (st.box 0 _ rfl).2.2
  have ys := (st.box 0 _ rfl).1
  dsimp only at y0 y1 yz ys
  go_wp2_with fail
  refine (l09Rest_any x x' _ q0 q1 EE.out.1 EE.out.2.1 EE.out.2.2.1 EE.out.2.2.2 (by omega) (by omega) HNN.out).mono ?_
  obtain ⟨A, hA⟩ : ∃ A, rA a b c d = A := ⟨_, rfl⟩
  obtain ⟨B, hB⟩ : ∃ B, rB a b c d = B := ⟨_, rfl⟩
  rw [hA, hB] at hr1 hz1 C0 ⊢
  clear hA hB
  rintro e w1 ⟨g1, k1, gb, kb, lb, rfl, hm1, hm2, sb, b1⟩
  have z1 := b1.size
  simp only [World.size_alloc] at z1 hm1
  replace st := (st.keep b1).addSl ⟨true, lb, w1.heap.size, .slice gb 2 kb, 2, two A B⟩ sb
  replace st := (st.alloc (.cells #[.int .i64 3, .slice g1 2 k1] 27))
  replace st := (st.alloc (.cells #[.int .i64 3, .slice gb 2 kb] 27)).addBox _ [.int .i64 3, .slice gb 2 kb] (Box.made _ _ _ _ (fun j v h => by simpa using h))
  simp only [World.size_alloc] at st
  clear b1 q0 q1 x0 x1 xz xs y0 y1 yz ys
  obtain ⟨b0, b1⟩ := (st.box 0 _ rfl).cell2; have bz := (st.box 0 _ rfl).2.2; have bs := (st.box 0 _ rfl).1; (try dsimp only at b0 b1 bz bs)
  have q2 := st.sl 0 ⟨true, lb, w1.heap.size, .slice gb 2 kb, 2, two A B⟩ rfl
  dsimp only at q2
  have bAB := nrm_small (a := A) (b := B) (by omega)
  go_wp2_with fail
  refine (l09Norm_any 3 _ q2 (by show _ ≤ A; omega) (by show A ≤ _; omega) (by show _ ≤ B; omega) (by show B ≤ _; omega)).mono ?_
  rw [show nrm (two A B 0) (two A B 1) = nrm A B from rfl]
  obtain ⟨M, hM⟩ : ∃ M, nrm A B = M := ⟨_, rfl⟩
  rw [hM] at hz1 hr1 ⊢
  have HM := Lib.hid hM
  clear hM
  rintro e w2 ⟨rfl, b2⟩
  replace st := st.keep b2
  have z2 := b2.size
  simp only [World.size_alloc] at z2
  clear b2 q2 b0 b1 bz bs
  by_cases hz : M = 0
  · have hKm := hz1.1 hz
    subst hKm
    subst hz
    have BB := st.1
    go_wp2
    refine bodyPost_ret (v := .int .i64 (-1)) (by simp [results, Try.results77, go_sem]) rfl ?_
    exact ⟨rfl, by go_grown⟩
  · have hKp : 0 ≤ K := by have : ¬ K = -1 := fun h => hz (hz1.2 h); omega
    have hzb : (M == 0) = false := by simpa using hz
    go_wp2_with fail
    refine (l09Of_any 1 0 _ (by unfold inR; omega) (by unfold inR; omega)).mono ?_
    rintro e w3 ⟨gp, kp, rfl, sp, b3⟩
    have z3 := b3.size
    replace st := (st.keep b3).addSl ⟨true, w2.heap.size, w3.heap.size, .slice gp 2 kp, 2, two 1 0⟩ sp
    replace st := (st.alloc (.cells #[.int .i64 3, .slice gp 2 kp] 27)).addBox _ [.int .i64 3, .slice gp 2 kp] (Box.made _ _ _ _ (fun j v h => by simpa using h))
    clear b3 sp sb
    have stx := st.sub (bs' := [(w3.heap.size, [.int .i64 3, .slice gp 2 kp]), (w1.heap.size + 1, [.int .i64 3, .slice gb 2 kb]), (w.heap.size + 1, [.int .i64 x', .slice av' 2 cap'])]) (ss' := [⟨true, w2.heap.size, w3.heap.size, .slice gp 2 kp, 2, two 1 0⟩, ⟨true, lb, w1.heap.size, .slice gb 2 kb, 2, two A B⟩, ⟨o', lo', hi', .slice av' 2 cap', 2, f'⟩]) (by intro b hb; simp only [List.mem_cons, List.not_mem_nil, or_false] at hb; rcases hb with rfl | rfl | rfl <;> simp) (by intro b hb; simp only [List.mem_cons, List.not_mem_nil, or_false] at hb; rcases hb with rfl | rfl | rfl <;> simp)
    clear st
    have st := stx
    clear stx
    obtain ⟨y0, y1⟩ := (st.box 2 _ rfl).cell2; have yz := (st.box 2 _ rfl).2.2; have ys := (st.box 2 _ rfl).1; (try dsimp only at y0 y1 yz ys)
    have q3 := st.sl 2 ⟨o', lo', hi', .slice av' 2 cap', 2, f'⟩ rfl
    dsimp only at q3
    go_wp2_with fail
    refine (l09Norm_any x' _ q3 (by rw [EE.out.2.2.1]; omega) (by rw [EE.out.2.2.1]; omega) (by rw [EE.out.2.2.2]; omega) (by rw [EE.out.2.2.2]; omega)).mono ?_
    rw [EE.out.2.2.1, EE.out.2.2.2, HN.out]
    rintro e w4 ⟨rfl, b4⟩
    replace st := st.keep b4
    have z4 := b4.size
    simp only [World.size_alloc] at z4
    clear b4 q3 y0 y1 yz ys
    have hE : ∃ E : Nat, (N - 1) / 3 = E := ⟨_, rfl⟩
    obtain ⟨E, hE⟩ := hE
    have HE := Lib.hid (show ((N : Int) - 1) / 3 = (E : Int) by omega)
    have hEb : E ≤ 1000000000 := by omega
    rw [hE] at C0 HK
    clear hE
    obtain ⟨X, hX⟩ : ∃ X, Es.pw ⟨a, b⟩ E = X := ⟨_, rfl⟩
    rw [hX] at C0 HK
    clear hX
    have hEt : ((N : Int) - 1).tdiv 3 = (E : Int) := by rw [Int.tdiv_eq_ediv_of_nonneg (by omega)]; exact HE.out
    go_wp2_with fail
    go_loopg [8] E (fun k s8 wr => ∃ (m : Nat) (p q s t : Int) (gp gb : Option Addr) (kp kb lp hp lb hb : Nat), m ≤ k ∧ m ≤ 1000000000 ∧ s8 = .int .i64 (m : Int) ∧ nrm p q ≤ 300000000 ∧ nrm s t ≤ 300000000 ∧ Hid (Es.cg ⟨c, d⟩ (Es.mul ⟨p, q⟩ (Es.pw ⟨s, t⟩ m)) X) ∧ Hid (lp ≤ hp ∧ lb ≤ hb) ∧ (hp ≤ w1.heap.size + 1 ∨ w3.heap.size + 1 ≤ lp ∨ (w1.heap.size + 1 + 1 ≤ lp ∧ hp ≤ w3.heap.size)) ∧ (hb ≤ w1.heap.size + 1 ∨ w3.heap.size + 1 ≤ lb ∨ (w1.heap.size + 1 + 1 ≤ lb ∧ hb ≤ w3.heap.size)) ∧ St w wr [(w3.heap.size, [.int .i64 3, .slice gp 2 kp]), (w1.heap.size + 1, [.int .i64 3, .slice gb 2 kb]), (w.heap.size + 1, [.int .i64 x', .slice av' 2 cap'])] [⟨true, lp, hp, .slice gp 2 kp, 2, two p q⟩, ⟨true, lb, hb, .slice gb 2 kb, 2, two s t⟩, ⟨o', lo', hi', .slice av' 2 cap', 2, f'⟩])
    case atStart => exact ⟨E, 1, 0, A, B, gp, gb, kp, kb, w2.heap.size, w3.heap.size, lb, w1.heap.size, Nat.le_refl _, hEb, by first | rfl | (rw [HE.out]) | go_num, by decide, by rw [HM.out]; omega, C0, Lib.hid ⟨by omega, by omega⟩, by omega, by omega, st⟩
    case round =>
      clear st C0
      obtain ⟨m, p, q, s, t, gp, gb, kp, kb, lp, hp, lb, hb, hmk, hm, rfl, hpq, hst, HC, HL, hd1, hd2, st⟩ := hrel
      obtain ⟨p0, p1⟩ := (st.box 0 _ rfl).cell2; have pz := (st.box 0 _ rfl).2.2; have ps := (st.box 0 _ rfl).1; (try dsimp only at p0 p1 pz ps); obtain ⟨b0, b1⟩ := (st.box 1 _ rfl).cell2; have bz := (st.box 1 _ rfl).2.2; have bs := (st.box 1 _ rfl).1; (try dsimp only at b0 b1 bz bs); obtain ⟨y0, y1⟩ := (st.box 2 _ rfl).cell2; have yz := (st.box 2 _ rfl).2.2; have ys := (st.box 2 _ rfl).1; (try dsimp only at y0 y1 yz ys)
      by_cases h0 : m = 0
      · subst h0
        have e0 : Es.mul (⟨p, q⟩ : Es) (Es.pw ⟨s, t⟩ 0) = ⟨p, q⟩ := Es.mul_one _
        have e1 := HC.out
        rw [e0] at e1
        have ZZ := Lib.hid (fun i hi => isSy_rest HNN.out e1 HK.out i hi)
        clear e0 e1 HC
        have bp := nrm_small hpq
        have bc : -20000 ≤ c ∧ c ≤ 20000 ∧ -20000 ≤ d ∧ d ≤ 20000 := by omega
        have stx := st.sub (bs' := [(w3.heap.size, [.int .i64 3, .slice gp 2 kp]), (w.heap.size + 1, [.int .i64 x', .slice av' 2 cap'])]) (ss' := [⟨true, lp, hp, .slice gp 2 kp, 2, two p q⟩, ⟨o', lo', hi', .slice av' 2 cap', 2, f'⟩]) (by intro b hb; simp only [List.mem_cons, List.not_mem_nil, or_false] at hb; rcases hb with rfl | rfl <;> simp) (by intro b hb; simp only [List.mem_cons, List.not_mem_nil, or_false] at hb; rcases hb with rfl | rfl <;> simp)
        clear st p0 p1 pz b0 b1 bz y0 y1 yz hd2
        go_wp2_with fail
        go_loopg [9] 2 (fun k s9 wr2 => ∃ i : Nat, i + k = 2 ∧ s9 = .int .i64 (i : Int) ∧ Hid (∀ j : Nat, j < i → ¬ K = (j : Int)) ∧ St w wr2 [(w3.heap.size, [.int .i64 3, .slice gp 2 kp]), (w.heap.size + 1, [.int .i64 x', .slice av' 2 cap'])] [⟨true, lp, hp, .slice gp 2 kp, 2, two p q⟩, ⟨o', lo', hi', .slice av' 2 cap', 2, f'⟩])
        case atStart => exact ⟨0, rfl, rfl, Lib.hid (fun j hj => absurd hj (Nat.not_lt_zero _)), stx⟩
        case round =>
          clear stx
          obtain ⟨i, hik, rfl, HJ, st⟩ := hrel
          by_cases hi2 : i < 2
          · have hlt : decide ((i : Int) < 2) = true := decide_eq_true (by omega)
            have zz := ZZ.out i (by omega)
            go_wp2_with fail
            refine (l01Unit3_any i _ hi2).mono ?_
            obtain ⟨ra, hra⟩ : ∃ ra, (Es.rt i).a = ra := ⟨_, rfl⟩
            obtain ⟨rb, hrb⟩ : ∃ rb, (Es.rt i).b = rb := ⟨_, rfl⟩
            have hrr : (-1 ≤ ra ∧ ra ≤ 1) ∧ (-1 ≤ rb ∧ rb ≤ 1) := by
              subst hra hrb
              have hi3 : i = 0 ∨ i = 1 := by omega
              rcases hi3 with rfl | rfl <;> decide
            rw [hra, hrb] at zz ⊢
            clear hra hrb
            rintro r w5 ⟨gu, ku, rfl, su, b5⟩
            have z5 := b5.size
            replace st := (st.keep b5).addSl ⟨true, wr.heap.size, w5.heap.size, .slice gu 2 ku, 2, two ra rb⟩ su
            replace st := (st.alloc (.cells #[.int .i64 3, .slice gu 2 ku] 27)).addBox _ [.int .i64 3, .slice gu 2 ku] (Box.made _ _ _ _ (fun j v h => by simpa using h))
            clear b5 su
            obtain ⟨P1, hP1⟩ : ∃ P1, p - ra = P1 := ⟨_, rfl⟩
            obtain ⟨Q1, hQ1⟩ : ∃ Q1, q - rb = Q1 := ⟨_, rfl⟩
            rw [hP1, hQ1] at zz
            have OM := Lib.hid (show ∀ (w' : World) (P Q : Int), P = p - ra → Q = q - rb → Calls Try.prog 91 #[.int .i64 P, .int .i64 Q] w' fun e w'' => ∃ g k l, e = .returned (.agg #[.int .i64 3, .slice g 2 k]) ∧ w'.heap.size ≤ l ∧ l ≤ w''.heap.size ∧ Sl true w'' l w''.heap.size (.slice g 2 k) 2 (two P1 Q1) ∧ Below w'.heap.size w' w'' from fun w' P Q h1 h2 => by
              subst h1 h2
              refine (l09Of_any (p - ra) (q - rb) w' (by unfold inR; omega) (by unfold inR; omega)).mono ?_
              rintro e w'' ⟨g, k, rfl, s1, b1⟩
              exact ⟨g, k, _, rfl, Nat.le_refl _, b1.size, by rw [← hP1, ← hQ1]; exact s1, b1⟩)
            have DM := Lib.hid (show ∀ (D : Bool), D = decide (rA P1 Q1 c d = 0 ∧ rB P1 Q1 c d = 0) → ∀ (w' : World) (l h : Nat) (g : Option Addr) (k : Nat), Sl true w' l h (.slice g 2 k) 2 (two P1 Q1) → Sl o' w' lo' hi' (.slice av' 2 cap') 2 f' → Calls Try.prog 99 #[.agg #[.int .i64 3, .slice g 2 k], .agg #[.int .i64 x', .slice av' 2 cap']] w' fun e w'' => e = .returned (.bool D) ∧ Below w'.heap.size w' w'' from fun D hD w' l h g k s1 s2 => l09Divided_any 3 x' w' s1 s2 (by show _ ≤ P1; omega) (by show P1 ≤ _; omega) (by show _ ≤ Q1; omega) (by show Q1 ≤ _; omega) (by rw [EE.out.2.2.1]; omega) (by rw [EE.out.2.2.1]; omega) (by rw [EE.out.2.2.2]; omega) (by rw [EE.out.2.2.2]; omega) (by rw [EE.out.2.2.1, EE.out.2.2.2]; exact HNN.out) D (by rw [EE.out.2.2.1, EE.out.2.2.2]; exact hD))
            clear hP1 hQ1
            have hqp := (st.sl 1 ⟨true, lp, hp, .slice gp 2 kp, 2, two p q⟩ rfl).two
            dsimp only at hqp
            obtain ⟨gp2, op2, rfl, _, hps, _, _, _, _, _⟩ := hqp
            have hqu := (st.sl 0 ⟨true, wr.heap.size, w5.heap.size, .slice gu 2 ku, 2, two ra rb⟩ rfl).two
            dsimp only at hqu
            obtain ⟨gu2, ou2, rfl, _, hus, _, _, _, _, _⟩ := hqu
            obtain ⟨D, hD⟩ : ∃ D : Bool, D = decide (rA P1 Q1 c d = 0 ∧ rB P1 Q1 c d = 0) := ⟨_, rfl⟩
            have DM2 := Lib.hid (DM.out D hD)
            have hDK : D = true ↔ K = (i : Int) := by rw [hD, decide_eq_true_iff]; exact zz
            clear DM zz hD
            obtain ⟨u0, u1⟩ := (st.box 0 _ rfl).cell2; have uz := (st.box 0 _ rfl).2.2; have us := (st.box 0 _ rfl).1; (try dsimp only at u0 u1 uz us); obtain ⟨p0, p1⟩ := (st.box 1 _ rfl).cell2; have pz := (st.box 1 _ rfl).2.2; have ps := (st.box 1 _ rfl).1; (try dsimp only at p0 p1 pz ps); obtain ⟨y0, y1⟩ := (st.box 2 _ rfl).cell2; have yz := (st.box 2 _ rfl).2.2; have ys := (st.box 2 _ rfl).1; (try dsimp only at y0 y1 yz ys); have hqn := (st.sl 0 ⟨true, wr.heap.size, w5.heap.size, .slice (some ⟨gu2, ou2, none⟩) 2 ku, 2, two ra rb⟩ rfl).two; (try dsimp only at hqn); obtain ⟨gz, oz, hgz, _, _, _, m0, m1, _, _⟩ := hqn; cases hgz; replace m0 := (show _ = some (Value.int IntKind.i64 ra) from m0); replace m1 := (show _ = some (Value.int IntKind.i64 rb) from m1); have hqn := (st.sl 1 ⟨true, lp, hp, .slice (some ⟨gp2, op2, none⟩) 2 kp, 2, two p q⟩ rfl).two; (try dsimp only at hqn); obtain ⟨gz, oz, hgz, _, _, _, n0, n1, _, _⟩ := hqn; cases hgz; replace n0 := (show _ = some (Value.int IntKind.i64 p) from n0); replace n1 := (show _ = some (Value.int IntKind.i64 q) from n1)
            by_cases hki : K = (i : Int)
            · have hDt : D = true := hDK.2 hki
              subst hDt
              clear hDK
              go_wp2_with fail
              go_region_held3 (fun w' => w'.cell? ⟨w3.heap.size, 1, none⟩ = some (.slice (some ⟨gp2, op2, none⟩) 2 kp) ∧ w'.cell? ⟨w5.heap.size, 1, none⟩ = some (.slice (some ⟨gu2, ou2, none⟩) 2 ku) ∧ w'.cell? ⟨gp2, op2, none⟩ = some (.int .i64 p) ∧ w'.cell? ⟨gp2, op2 + 1, none⟩ = some (.int .i64 q) ∧ w'.cell? ⟨gu2, ou2, none⟩ = some (.int .i64 ra) ∧ w'.cell? ⟨gu2, ou2 + 1, none⟩ = some (.int .i64 rb) ∧ w'.cell? ⟨w.heap.size + 1, 0, none⟩ = some (.int .i64 x') ∧ w'.cell? ⟨w.heap.size + 1, 1, none⟩ = some (.slice av' 2 cap'))
                (first | exact ⟨p1, u1, n0, n1, m0, m1, y0, y1⟩ | go_keep)
                (first
                  | (go_at_call 91; refine (OM.out _ _ _ (by first | rfl | (simp only [IntKind.wrap_i64]; omega)) (by first | rfl | (simp only [IntKind.wrap_i64]; omega))).mono ?_; rintro r wq0 ⟨g6, k6, l6, rfl, hl61, hl62, s6, bq0⟩; (first | (replace st := (st.keep bq0).addSl ⟨true, l6, wq0.heap.size, .slice g6 2 k6, 2, two P1 Q1⟩ s6) | (replace st := (st.drew.keep bq0).addSl ⟨true, l6, wq0.heap.size, .slice g6 2 k6, 2, two P1 Q1⟩ s6)); obtain ⟨u0, u1⟩ := (st.box 0 _ rfl).cell2; have uz := (st.box 0 _ rfl).2.2; have us := (st.box 0 _ rfl).1; (try dsimp only at u0 u1 uz us); obtain ⟨p0, p1⟩ := (st.box 1 _ rfl).cell2; have pz := (st.box 1 _ rfl).2.2; have ps := (st.box 1 _ rfl).1; (try dsimp only at p0 p1 pz ps); obtain ⟨y0, y1⟩ := (st.box 2 _ rfl).cell2; have yz := (st.box 2 _ rfl).2.2; have ys := (st.box 2 _ rfl).1; (try dsimp only at y0 y1 yz ys); have hqn := (st.sl 1 ⟨true, wr.heap.size, w5.heap.size, .slice (some ⟨gu2, ou2, none⟩) 2 ku, 2, two ra rb⟩ rfl).two; (try dsimp only at hqn); obtain ⟨gz, oz, hgz, _, _, _, m0, m1, _, _⟩ := hqn; cases hgz; replace m0 := (show _ = some (Value.int IntKind.i64 ra) from m0); replace m1 := (show _ = some (Value.int IntKind.i64 rb) from m1); have hqn := (st.sl 2 ⟨true, lp, hp, .slice (some ⟨gp2, op2, none⟩) 2 kp, 2, two p q⟩ rfl).two; (try dsimp only at hqn); obtain ⟨gz, oz, hgz, _, _, _, n0, n1, _, _⟩ := hqn; cases hgz; replace n0 := (show _ = some (Value.int IntKind.i64 p) from n0); replace n1 := (show _ = some (Value.int IntKind.i64 q) from n1))
                  | (go_at_call 99; refine (DM2.out _ l6 wq0.heap.size g6 k6 (by first | (have qz := st.sl 0 ⟨true, l6, wq0.heap.size, .slice g6 2 k6, 2, two P1 Q1⟩ rfl; dsimp only at qz; with_reducible exact qz) | (have qz := st.drew.sl 0 ⟨true, l6, wq0.heap.size, .slice g6 2 k6, 2, two P1 Q1⟩ rfl; dsimp only at qz; with_reducible exact qz)) (by first | (have qz := st.sl 3 ⟨o', lo', hi', .slice av' 2 cap', 2, f'⟩ rfl; dsimp only at qz; with_reducible exact qz) | (have qz := st.drew.sl 3 ⟨o', lo', hi', .slice av' 2 cap', 2, f'⟩ rfl; dsimp only at qz; with_reducible exact qz))).mono ?_; rintro r wq1 ⟨rfl, bq1⟩; (first | (replace st := st.keep bq1) | (replace st := st.drew.keep bq1)); obtain ⟨u0, u1⟩ := (st.box 0 _ rfl).cell2; have uz := (st.box 0 _ rfl).2.2; have us := (st.box 0 _ rfl).1; (try dsimp only at u0 u1 uz us); obtain ⟨p0, p1⟩ := (st.box 1 _ rfl).cell2; have pz := (st.box 1 _ rfl).2.2; have ps := (st.box 1 _ rfl).1; (try dsimp only at p0 p1 pz ps); obtain ⟨y0, y1⟩ := (st.box 2 _ rfl).cell2; have yz := (st.box 2 _ rfl).2.2; have ys := (st.box 2 _ rfl).1; (try dsimp only at y0 y1 yz ys); have hqn := (st.sl 1 ⟨true, wr.heap.size, w5.heap.size, .slice (some ⟨gu2, ou2, none⟩) 2 ku, 2, two ra rb⟩ rfl).two; (try dsimp only at hqn); obtain ⟨gz, oz, hgz, _, _, _, m0, m1, _, _⟩ := hqn; cases hgz; replace m0 := (show _ = some (Value.int IntKind.i64 ra) from m0); replace m1 := (show _ = some (Value.int IntKind.i64 rb) from m1); have hqn := (st.sl 2 ⟨true, lp, hp, .slice (some ⟨gp2, op2, none⟩) 2 kp, 2, two p q⟩ rfl).two; (try dsimp only at hqn); obtain ⟨gz, oz, hgz, _, _, _, n0, n1, _, _⟩ := hqn; cases hgz; replace n0 := (show _ = some (Value.int IntKind.i64 p) from n0); replace n1 := (show _ = some (Value.int IntKind.i64 q) from n1)))
              all_goals
                have BB := st.1
                go_wp2
                refine bodyPost_ret (v := .int .i64 (i : Int)) (by simp [results, Try.results77, go_sem]) rfl ?_
                exact ⟨by rw [hki], by go_grown⟩
            · have hDt : D = false := by cases D with | false => rfl | true => exact absurd (hDK.1 rfl) hki
              subst hDt
              clear hDK
              go_wp2_with fail
              go_region_held3 (fun w' => w'.cell? ⟨w3.heap.size, 1, none⟩ = some (.slice (some ⟨gp2, op2, none⟩) 2 kp) ∧ w'.cell? ⟨w5.heap.size, 1, none⟩ = some (.slice (some ⟨gu2, ou2, none⟩) 2 ku) ∧ w'.cell? ⟨gp2, op2, none⟩ = some (.int .i64 p) ∧ w'.cell? ⟨gp2, op2 + 1, none⟩ = some (.int .i64 q) ∧ w'.cell? ⟨gu2, ou2, none⟩ = some (.int .i64 ra) ∧ w'.cell? ⟨gu2, ou2 + 1, none⟩ = some (.int .i64 rb) ∧ w'.cell? ⟨w.heap.size + 1, 0, none⟩ = some (.int .i64 x') ∧ w'.cell? ⟨w.heap.size + 1, 1, none⟩ = some (.slice av' 2 cap'))
                (first | exact ⟨p1, u1, n0, n1, m0, m1, y0, y1⟩ | go_keep)
                (first
                  | (go_at_call 91; refine (OM.out _ _ _ (by first | rfl | (simp only [IntKind.wrap_i64]; omega)) (by first | rfl | (simp only [IntKind.wrap_i64]; omega))).mono ?_; rintro r wq0 ⟨g6, k6, l6, rfl, hl61, hl62, s6, bq0⟩; (first | (replace st := (st.keep bq0).addSl ⟨true, l6, wq0.heap.size, .slice g6 2 k6, 2, two P1 Q1⟩ s6) | (replace st := (st.drew.keep bq0).addSl ⟨true, l6, wq0.heap.size, .slice g6 2 k6, 2, two P1 Q1⟩ s6)); obtain ⟨u0, u1⟩ := (st.box 0 _ rfl).cell2; have uz := (st.box 0 _ rfl).2.2; have us := (st.box 0 _ rfl).1; (try dsimp only at u0 u1 uz us); obtain ⟨p0, p1⟩ := (st.box 1 _ rfl).cell2; have pz := (st.box 1 _ rfl).2.2; have ps := (st.box 1 _ rfl).1; (try dsimp only at p0 p1 pz ps); obtain ⟨y0, y1⟩ := (st.box 2 _ rfl).cell2; have yz := (st.box 2 _ rfl).2.2; have ys := (st.box 2 _ rfl).1; (try dsimp only at y0 y1 yz ys); have hqn := (st.sl 1 ⟨true, wr.heap.size, w5.heap.size, .slice (some ⟨gu2, ou2, none⟩) 2 ku, 2, two ra rb⟩ rfl).two; (try dsimp only at hqn); obtain ⟨gz, oz, hgz, _, _, _, m0, m1, _, _⟩ := hqn; cases hgz; replace m0 := (show _ = some (Value.int IntKind.i64 ra) from m0); replace m1 := (show _ = some (Value.int IntKind.i64 rb) from m1); have hqn := (st.sl 2 ⟨true, lp, hp, .slice (some ⟨gp2, op2, none⟩) 2 kp, 2, two p q⟩ rfl).two; (try dsimp only at hqn); obtain ⟨gz, oz, hgz, _, _, _, n0, n1, _, _⟩ := hqn; cases hgz; replace n0 := (show _ = some (Value.int IntKind.i64 p) from n0); replace n1 := (show _ = some (Value.int IntKind.i64 q) from n1))
                  | (go_at_call 99; refine (DM2.out _ l6 wq0.heap.size g6 k6 (by first | (have qz := st.sl 0 ⟨true, l6, wq0.heap.size, .slice g6 2 k6, 2, two P1 Q1⟩ rfl; dsimp only at qz; with_reducible exact qz) | (have qz := st.drew.sl 0 ⟨true, l6, wq0.heap.size, .slice g6 2 k6, 2, two P1 Q1⟩ rfl; dsimp only at qz; with_reducible exact qz)) (by first | (have qz := st.sl 3 ⟨o', lo', hi', .slice av' 2 cap', 2, f'⟩ rfl; dsimp only at qz; with_reducible exact qz) | (have qz := st.drew.sl 3 ⟨o', lo', hi', .slice av' 2 cap', 2, f'⟩ rfl; dsimp only at qz; with_reducible exact qz))).mono ?_; rintro r wq1 ⟨rfl, bq1⟩; (first | (replace st := st.keep bq1) | (replace st := st.drew.keep bq1)); obtain ⟨u0, u1⟩ := (st.box 0 _ rfl).cell2; have uz := (st.box 0 _ rfl).2.2; have us := (st.box 0 _ rfl).1; (try dsimp only at u0 u1 uz us); obtain ⟨p0, p1⟩ := (st.box 1 _ rfl).cell2; have pz := (st.box 1 _ rfl).2.2; have ps := (st.box 1 _ rfl).1; (try dsimp only at p0 p1 pz ps); obtain ⟨y0, y1⟩ := (st.box 2 _ rfl).cell2; have yz := (st.box 2 _ rfl).2.2; have ys := (st.box 2 _ rfl).1; (try dsimp only at y0 y1 yz ys); have hqn := (st.sl 1 ⟨true, wr.heap.size, w5.heap.size, .slice (some ⟨gu2, ou2, none⟩) 2 ku, 2, two ra rb⟩ rfl).two; (try dsimp only at hqn); obtain ⟨gz, oz, hgz, _, _, _, m0, m1, _, _⟩ := hqn; cases hgz; replace m0 := (show _ = some (Value.int IntKind.i64 ra) from m0); replace m1 := (show _ = some (Value.int IntKind.i64 rb) from m1); have hqn := (st.sl 2 ⟨true, lp, hp, .slice (some ⟨gp2, op2, none⟩) 2 kp, 2, two p q⟩ rfl).two; (try dsimp only at hqn); obtain ⟨gz, oz, hgz, _, _, _, n0, n1, _, _⟩ := hqn; cases hgz; replace n0 := (show _ = some (Value.int IntKind.i64 p) from n0); replace n1 := (show _ = some (Value.int IntKind.i64 q) from n1)))
              all_goals
                have st2 := st.sub (bs' := [(w3.heap.size, [.int .i64 3, .slice (some ⟨gp2, op2, none⟩) 2 kp]), (w.heap.size + 1, [.int .i64 x', .slice av' 2 cap'])]) (ss' := [⟨true, lp, hp, .slice (some ⟨gp2, op2, none⟩) 2 kp, 2, two p q⟩, ⟨o', lo', hi', .slice av' 2 cap', 2, f'⟩]) (by intro b hb; simp only [List.mem_cons, List.not_mem_nil, or_false] at hb; rcases hb with rfl | rfl <;> simp) (by intro b hb; simp only [List.mem_cons, List.not_mem_nil, or_false] at hb; rcases hb with rfl | rfl <;> simp)
                go_wp2
                go_roundg (gk - 1)
                case rel => exact ⟨i + 1, by omega, by first | rfl | go_num, Lib.hid (fun j hj => by
                  rcases Nat.lt_or_ge j i with g | g
                  · exact HJ.out j g
                  · obtain rfl : j = i := by omega
                    exact hki), st2⟩
                case measure => omega
          · obtain rfl : i = 2 := by omega
            have hlt : decide (((2 : Nat) : Int) < 2) = false := by decide
            have j0 := HJ.out 0 (by omega)
            have j1 := HJ.out 1 (by omega)
            obtain rfl : K = 2 := by omega
            have BB := st.1
            go_wp2
            refine bodyPost_ret (v := .int .i64 2) (by simp [results, Try.results77, go_sem]) rfl ?_
            exact ⟨rfl, by go_grown⟩
      · have h0b : decide ((0 : Int) < (m : Int)) = true := decide_eq_true (by omega)
        have hdv : (m : Int).tdiv 2 = ((m / 2 : Nat) : Int) := by rw [Int.tdiv_eq_ediv_of_nonneg (by omega)]; omega
        have bc : -20000 ≤ c ∧ c ≤ 20000 ∧ -20000 ≤ d ∧ d ≤ 20000 := by omega
        have tb2 := t_bd hst hst
        have rb2 := rt_bd (p := s) (q := t) (s := s) (t := t) HNN.out (by rw [HN.out]; omega)
        have TS := Lib.hid (show ∀ w' : World, Sl true w' lb hb (.slice gb 2 kb) 2 (two s t) → Calls Try.prog 90 #[.agg #[.int .i64 3, .slice gb 2 kb], .agg #[.int .i64 3, .slice gb 2 kb]] w' fun e w'' => ∃ g k l, e = .returned (.agg #[.int .i64 3, .slice g 2 k]) ∧ w'.heap.size ≤ l ∧ l ≤ w''.heap.size ∧ Sl true w'' l w''.heap.size (.slice g 2 k) 2 (two (tA s t s t) (tB s t s t)) ∧ Below w'.heap.size w' w'' from fun w' h0 => (l09Times_two 3 3 w' h0 h0 hst hst).mono (by rintro e w'' ⟨g, k, rfl, s1, b1⟩; exact ⟨g, k, _, rfl, Nat.le_refl _, b1.size, s1, b1⟩))
        have RS := Lib.hid (show ∀ (w' : World) (l h : Nat) (g : Option Addr) (k : Nat), Sl true w' l h (.slice g 2 k) 2 (two (tA s t s t) (tB s t s t)) → Sl o' w' lo' hi' (.slice av' 2 cap') 2 f' → Calls Try.prog 67 #[.agg #[.int .i64 3, .slice g 2 k], .agg #[.int .i64 x', .slice av' 2 cap']] w' fun e w'' => ∃ g1 k1 g2 k2 m, e = .returned (.tuple #[.agg #[.int .i64 3, .slice g1 2 k1], .agg #[.int .i64 3, .slice g2 2 k2]]) ∧ w'.heap.size ≤ m ∧ m ≤ w''.heap.size ∧ Sl true w'' m w''.heap.size (.slice g2 2 k2) 2 (two (rtA s t s t c d) (rtB s t s t c d)) ∧ Below w'.heap.size w' w'' from fun w' l h g k h1 h2 => l09Rest_any 3 x' w' h1 h2 rfl rfl EE.out.2.2.1 EE.out.2.2.2 tb2 bc HNN.out)
        obtain ⟨U, hU⟩ : ∃ U, rtA s t s t c d = U := ⟨_, rfl⟩
        obtain ⟨V, hV⟩ : ∃ V, rtB s t s t c d = V := ⟨_, rfl⟩
        obtain ⟨u, hu⟩ : ∃ u, tA s t s t = u := ⟨_, rfl⟩
        obtain ⟨v, hv⟩ : ∃ v, tB s t s t = v := ⟨_, rfl⟩
        by_cases h1 : m % 2 = 1
        · have hmo : (m : Int).tmod 2 = 1 := by rw [Int.tmod_eq_emod_of_nonneg (by omega)]; omega
          have D := Lib.hid (rt_odd HC.out h1)
          have tb1 := t_bd hpq hst
          have rb1 := rt_bd (p := p) (q := q) (s := s) (t := t) HNN.out (by rw [HN.out]; omega)
          have TP := Lib.hid (show ∀ w' : World, Sl true w' lp hp (.slice gp 2 kp) 2 (two p q) → Sl true w' lb hb (.slice gb 2 kb) 2 (two s t) → Calls Try.prog 90 #[.agg #[.int .i64 3, .slice gp 2 kp], .agg #[.int .i64 3, .slice gb 2 kb]] w' fun e w'' => ∃ g k l, e = .returned (.agg #[.int .i64 3, .slice g 2 k]) ∧ w'.heap.size ≤ l ∧ l ≤ w''.heap.size ∧ Sl true w'' l w''.heap.size (.slice g 2 k) 2 (two (tA p q s t) (tB p q s t)) ∧ Below w'.heap.size w' w'' from fun w' h0 h1 => (l09Times_two 3 3 w' h0 h1 hpq hst).mono (by rintro e w'' ⟨g, k, rfl, s1, b1⟩; exact ⟨g, k, _, rfl, Nat.le_refl _, b1.size, s1, b1⟩))
          have RP := Lib.hid (show ∀ (w' : World) (l h : Nat) (g : Option Addr) (k : Nat), Sl true w' l h (.slice g 2 k) 2 (two (tA p q s t) (tB p q s t)) → Sl o' w' lo' hi' (.slice av' 2 cap') 2 f' → Calls Try.prog 67 #[.agg #[.int .i64 3, .slice g 2 k], .agg #[.int .i64 x', .slice av' 2 cap']] w' fun e w'' => ∃ g1 k1 g2 k2 m, e = .returned (.tuple #[.agg #[.int .i64 3, .slice g1 2 k1], .agg #[.int .i64 3, .slice g2 2 k2]]) ∧ w'.heap.size ≤ m ∧ m ≤ w''.heap.size ∧ Sl true w'' m w''.heap.size (.slice g2 2 k2) 2 (two (rtA p q s t c d) (rtB p q s t c d)) ∧ Below w'.heap.size w' w'' from fun w' l h g k h1 h2 => l09Rest_any 3 x' w' h1 h2 rfl rfl EE.out.2.2.1 EE.out.2.2.2 tb1 bc HNN.out)
          obtain ⟨G, hG⟩ : ∃ G, rtA p q s t c d = G := ⟨_, rfl⟩
          obtain ⟨H, hH⟩ : ∃ H, rtB p q s t c d = H := ⟨_, rfl⟩
          obtain ⟨Y1, hY1⟩ : ∃ Y1, tA p q s t = Y1 := ⟨_, rfl⟩
          obtain ⟨Y2, hY2⟩ : ∃ Y2, tB p q s t = Y2 := ⟨_, rfl⟩
          rw [hG, hH] at D rb1 RP
          rw [hY1, hY2] at TP RP
          rw [hU, hV] at D rb2 RS
          rw [hu, hv] at TS RS
          clear hG hH hY1 hY2 hU hV hu hv tb1 tb2 HC h1
          go_wp2_with fail
          go_region_law (first
              | (go_simp; go_at_call 90; refine (TP.out _ (by first | (have qz := st.sl 0 ⟨true, lp, hp, .slice gp 2 kp, 2, two p q⟩ rfl; dsimp only at qz; with_reducible exact qz) | (have qz := st.drew.sl 0 ⟨true, lp, hp, .slice gp 2 kp, 2, two p q⟩ rfl; dsimp only at qz; with_reducible exact qz)) (by first | (have qz := st.sl 1 ⟨true, lb, hb, .slice gb 2 kb, 2, two s t⟩ rfl; dsimp only at qz; with_reducible exact qz) | (have qz := st.drew.sl 1 ⟨true, lb, hb, .slice gb 2 kb, 2, two s t⟩ rfl; dsimp only at qz; with_reducible exact qz))).mono ?_; rintro r wq09 ⟨gt9, kt9, lt9, rfl, hlt19, hlt29, stt9, bq09⟩; (first | (replace st := (st.keep bq09).addSl ⟨true, lt9, wq09.heap.size, .slice gt9 2 kt9, 2, two Y1 Y2⟩ stt9) | (replace st := (st.drew.keep bq09).addSl ⟨true, lt9, wq09.heap.size, .slice gt9 2 kt9, 2, two Y1 Y2⟩ stt9)); obtain ⟨p0, p1⟩ := (st.box 0 _ rfl).cell2; have pz := (st.box 0 _ rfl).2.2; have ps := (st.box 0 _ rfl).1; (try dsimp only at p0 p1 pz ps); obtain ⟨b0, b1⟩ := (st.box 1 _ rfl).cell2; have bz := (st.box 1 _ rfl).2.2; have bs := (st.box 1 _ rfl).1; (try dsimp only at b0 b1 bz bs); obtain ⟨y0, y1⟩ := (st.box 2 _ rfl).cell2; have yz := (st.box 2 _ rfl).2.2; have ys := (st.box 2 _ rfl).1; (try dsimp only at y0 y1 yz ys))
              | (go_simp; go_at_call 67; refine (RP.out _ lt9 wq09.heap.size gt9 kt9 (by first | (have qz := st.sl 0 ⟨true, lt9, wq09.heap.size, .slice gt9 2 kt9, 2, two Y1 Y2⟩ rfl; dsimp only at qz; with_reducible exact qz) | (have qz := st.drew.sl 0 ⟨true, lt9, wq09.heap.size, .slice gt9 2 kt9, 2, two Y1 Y2⟩ rfl; dsimp only at qz; with_reducible exact qz)) (by first | (have qz := st.sl 3 ⟨o', lo', hi', .slice av' 2 cap', 2, f'⟩ rfl; dsimp only at qz; with_reducible exact qz) | (have qz := st.drew.sl 3 ⟨o', lo', hi', .slice av' 2 cap', 2, f'⟩ rfl; dsimp only at qz; with_reducible exact qz))).mono ?_; rintro r wq19 ⟨g19, k19, gr9, kr9, lr9, rfl, hlr19, hlr29, srr9, bq19⟩; (first | (replace st := (st.keep bq19).addSl ⟨true, lr9, wq19.heap.size, .slice gr9 2 kr9, 2, two G H⟩ srr9) | (replace st := (st.drew.keep bq19).addSl ⟨true, lr9, wq19.heap.size, .slice gr9 2 kr9, 2, two G H⟩ srr9)); obtain ⟨p0, p1⟩ := (st.box 0 _ rfl).cell2; have pz := (st.box 0 _ rfl).2.2; have ps := (st.box 0 _ rfl).1; (try dsimp only at p0 p1 pz ps); obtain ⟨b0, b1⟩ := (st.box 1 _ rfl).cell2; have bz := (st.box 1 _ rfl).2.2; have bs := (st.box 1 _ rfl).1; (try dsimp only at b0 b1 bz bs); obtain ⟨y0, y1⟩ := (st.box 2 _ rfl).cell2; have yz := (st.box 2 _ rfl).2.2; have ys := (st.box 2 _ rfl).1; (try dsimp only at y0 y1 yz ys)))
          all_goals
            have st2 := st.sub (bs' := [(w3.heap.size, [.int .i64 3, .slice gp 2 kp]), (w1.heap.size + 1, [.int .i64 3, .slice gb 2 kb]), (w.heap.size + 1, [.int .i64 x', .slice av' 2 cap'])]) (ss' := [⟨true, lr9, wq19.heap.size, .slice gr9 2 kr9, 2, two G H⟩, ⟨true, lb, hb, .slice gb 2 kb, 2, two s t⟩, ⟨o', lo', hi', .slice av' 2 cap', 2, f'⟩]) (by intro b hb; simp only [List.mem_cons, List.not_mem_nil, or_false] at hb; rcases hb with rfl | rfl | rfl <;> simp) (by intro b hb; simp only [List.mem_cons, List.not_mem_nil, or_false] at hb; rcases hb with rfl | rfl | rfl <;> simp)
            clear st
            have st := st2.setHead (u0 := .int .i64 3) (u1 := .slice gr9 2 kr9) (by omega) (by intro q hq; simp only [List.mem_cons, List.not_mem_nil, or_false] at hq; rcases hq with rfl | rfl <;> dsimp only <;> omega) (by intro q hq; simp only [List.mem_cons, List.not_mem_nil, or_false] at hq; rcases hq with rfl | rfl | rfl <;> dsimp only <;> omega)
            clear st2 p0 p1 pz b0 b1 bz y0 y1 yz
            obtain ⟨p0, p1⟩ := (st.box 0 _ rfl).cell2; have pz := (st.box 0 _ rfl).2.2; have ps := (st.box 0 _ rfl).1; (try dsimp only at p0 p1 pz ps); obtain ⟨b0, b1⟩ := (st.box 1 _ rfl).cell2; have bz := (st.box 1 _ rfl).2.2; have bs := (st.box 1 _ rfl).1; (try dsimp only at b0 b1 bz bs); obtain ⟨y0, y1⟩ := (st.box 2 _ rfl).cell2; have yz := (st.box 2 _ rfl).2.2; have ys := (st.box 2 _ rfl).1; (try dsimp only at y0 y1 yz ys)
            go_wp2_with fail
            go_region_law (first
                | (go_simp; go_at_call 90; refine (TS.out _ (by first | (have qz := st.sl 1 ⟨true, lb, hb, .slice gb 2 kb, 2, two s t⟩ rfl; dsimp only at qz; with_reducible exact qz) | (have qz := st.drew.sl 1 ⟨true, lb, hb, .slice gb 2 kb, 2, two s t⟩ rfl; dsimp only at qz; with_reducible exact qz))).mono ?_; rintro r wq0 ⟨gt, kt, lt, rfl, hlt1, hlt2, stt, bq0⟩; (first | (replace st := (st.keep bq0).addSl ⟨true, lt, wq0.heap.size, .slice gt 2 kt, 2, two u v⟩ stt) | (replace st := (st.drew.keep bq0).addSl ⟨true, lt, wq0.heap.size, .slice gt 2 kt, 2, two u v⟩ stt)); obtain ⟨p0, p1⟩ := (st.box 0 _ rfl).cell2; have pz := (st.box 0 _ rfl).2.2; have ps := (st.box 0 _ rfl).1; (try dsimp only at p0 p1 pz ps); obtain ⟨b0, b1⟩ := (st.box 1 _ rfl).cell2; have bz := (st.box 1 _ rfl).2.2; have bs := (st.box 1 _ rfl).1; (try dsimp only at b0 b1 bz bs); obtain ⟨y0, y1⟩ := (st.box 2 _ rfl).cell2; have yz := (st.box 2 _ rfl).2.2; have ys := (st.box 2 _ rfl).1; (try dsimp only at y0 y1 yz ys))
                | (go_simp; go_at_call 67; refine (RS.out _ lt wq0.heap.size gt kt (by first | (have qz := st.sl 0 ⟨true, lt, wq0.heap.size, .slice gt 2 kt, 2, two u v⟩ rfl; dsimp only at qz; with_reducible exact qz) | (have qz := st.drew.sl 0 ⟨true, lt, wq0.heap.size, .slice gt 2 kt, 2, two u v⟩ rfl; dsimp only at qz; with_reducible exact qz)) (by first | (have qz := st.sl 3 ⟨o', lo', hi', .slice av' 2 cap', 2, f'⟩ rfl; dsimp only at qz; with_reducible exact qz) | (have qz := st.drew.sl 3 ⟨o', lo', hi', .slice av' 2 cap', 2, f'⟩ rfl; dsimp only at qz; with_reducible exact qz))).mono ?_; rintro r wq1 ⟨g1, k1, gr, kr, lr, rfl, hlr1, hlr2, srr, bq1⟩; (first | (replace st := (st.keep bq1).addSl ⟨true, lr, wq1.heap.size, .slice gr 2 kr, 2, two U V⟩ srr) | (replace st := (st.drew.keep bq1).addSl ⟨true, lr, wq1.heap.size, .slice gr 2 kr, 2, two U V⟩ srr)); obtain ⟨p0, p1⟩ := (st.box 0 _ rfl).cell2; have pz := (st.box 0 _ rfl).2.2; have ps := (st.box 0 _ rfl).1; (try dsimp only at p0 p1 pz ps); obtain ⟨b0, b1⟩ := (st.box 1 _ rfl).cell2; have bz := (st.box 1 _ rfl).2.2; have bs := (st.box 1 _ rfl).1; (try dsimp only at b0 b1 bz bs); obtain ⟨y0, y1⟩ := (st.box 2 _ rfl).cell2; have yz := (st.box 2 _ rfl).2.2; have ys := (st.box 2 _ rfl).1; (try dsimp only at y0 y1 yz ys)))
            all_goals
              have st2 := st.sub (bs' := [(w1.heap.size + 1, [.int .i64 3, .slice gb 2 kb]), (w3.heap.size, [.int .i64 3, .slice gr9 2 kr9]), (w.heap.size + 1, [.int .i64 x', .slice av' 2 cap'])]) (ss' := [⟨true, lr9, wq19.heap.size, .slice gr9 2 kr9, 2, two G H⟩, ⟨true, lr, wq1.heap.size, .slice gr 2 kr, 2, two U V⟩, ⟨o', lo', hi', .slice av' 2 cap', 2, f'⟩]) (by intro b hb; simp only [List.mem_cons, List.not_mem_nil, or_false] at hb; rcases hb with rfl | rfl | rfl <;> simp) (by intro b hb; simp only [List.mem_cons, List.not_mem_nil, or_false] at hb; rcases hb with rfl | rfl | rfl <;> simp)
              clear st
              replace st2 := st2.setHead (u0 := .int .i64 3) (u1 := .slice gr 2 kr) (by omega) (by intro q hq; simp only [List.mem_cons, List.not_mem_nil, or_false] at hq; rcases hq with rfl | rfl <;> dsimp only <;> omega) (by intro q hq; simp only [List.mem_cons, List.not_mem_nil, or_false] at hq; rcases hq with rfl | rfl | rfl <;> dsimp only <;> omega)
              have st := st2.swp
              clear st2 p0 p1 pz b0 b1 bz y0 y1 yz
              go_wp2
              go_roundg (m / 2)
              case rel => exact ⟨m / 2, _, _, _, _, gr9, gr, kr9, kr, lr9, wq19.heap.size, lr, wq1.heap.size, Nat.le_refl _, by omega, by first | rfl | (rw [hdv]) | go_num, rb1, rb2, D, Lib.hid ⟨by first | exact HL.out.1 | omega, by omega⟩, by omega, by omega, st⟩
              case measure => omega
        · have hmo : (m : Int).tmod 2 = 0 := by rw [Int.tmod_eq_emod_of_nonneg (by omega)]; omega
          have D := Lib.hid (rt_even HC.out h1)
          rw [hU, hV] at D rb2 RS
          rw [hu, hv] at TS RS
          clear hU hV hu hv tb2 HC h1
          go_wp2_with fail
          go_region_law (first
              | (go_simp; go_at_call 90; refine (TS.out _ (by first | (have qz := st.sl 1 ⟨true, lb, hb, .slice gb 2 kb, 2, two s t⟩ rfl; dsimp only at qz; with_reducible exact qz) | (have qz := st.drew.sl 1 ⟨true, lb, hb, .slice gb 2 kb, 2, two s t⟩ rfl; dsimp only at qz; with_reducible exact qz))).mono ?_; rintro r wq0 ⟨gt, kt, lt, rfl, hlt1, hlt2, stt, bq0⟩; (first | (replace st := (st.keep bq0).addSl ⟨true, lt, wq0.heap.size, .slice gt 2 kt, 2, two u v⟩ stt) | (replace st := (st.drew.keep bq0).addSl ⟨true, lt, wq0.heap.size, .slice gt 2 kt, 2, two u v⟩ stt)); obtain ⟨p0, p1⟩ := (st.box 0 _ rfl).cell2; have pz := (st.box 0 _ rfl).2.2; have ps := (st.box 0 _ rfl).1; (try dsimp only at p0 p1 pz ps); obtain ⟨b0, b1⟩ := (st.box 1 _ rfl).cell2; have bz := (st.box 1 _ rfl).2.2; have bs := (st.box 1 _ rfl).1; (try dsimp only at b0 b1 bz bs); obtain ⟨y0, y1⟩ := (st.box 2 _ rfl).cell2; have yz := (st.box 2 _ rfl).2.2; have ys := (st.box 2 _ rfl).1; (try dsimp only at y0 y1 yz ys))
              | (go_simp; go_at_call 67; refine (RS.out _ lt wq0.heap.size gt kt (by first | (have qz := st.sl 0 ⟨true, lt, wq0.heap.size, .slice gt 2 kt, 2, two u v⟩ rfl; dsimp only at qz; with_reducible exact qz) | (have qz := st.drew.sl 0 ⟨true, lt, wq0.heap.size, .slice gt 2 kt, 2, two u v⟩ rfl; dsimp only at qz; with_reducible exact qz)) (by first | (have qz := st.sl 3 ⟨o', lo', hi', .slice av' 2 cap', 2, f'⟩ rfl; dsimp only at qz; with_reducible exact qz) | (have qz := st.drew.sl 3 ⟨o', lo', hi', .slice av' 2 cap', 2, f'⟩ rfl; dsimp only at qz; with_reducible exact qz))).mono ?_; rintro r wq1 ⟨g1, k1, gr, kr, lr, rfl, hlr1, hlr2, srr, bq1⟩; (first | (replace st := (st.keep bq1).addSl ⟨true, lr, wq1.heap.size, .slice gr 2 kr, 2, two U V⟩ srr) | (replace st := (st.drew.keep bq1).addSl ⟨true, lr, wq1.heap.size, .slice gr 2 kr, 2, two U V⟩ srr)); obtain ⟨p0, p1⟩ := (st.box 0 _ rfl).cell2; have pz := (st.box 0 _ rfl).2.2; have ps := (st.box 0 _ rfl).1; (try dsimp only at p0 p1 pz ps); obtain ⟨b0, b1⟩ := (st.box 1 _ rfl).cell2; have bz := (st.box 1 _ rfl).2.2; have bs := (st.box 1 _ rfl).1; (try dsimp only at b0 b1 bz bs); obtain ⟨y0, y1⟩ := (st.box 2 _ rfl).cell2; have yz := (st.box 2 _ rfl).2.2; have ys := (st.box 2 _ rfl).1; (try dsimp only at y0 y1 yz ys)))
          all_goals
            have st2 := st.sub (bs' := [(w1.heap.size + 1, [.int .i64 3, .slice gb 2 kb]), (w3.heap.size, [.int .i64 3, .slice gp 2 kp]), (w.heap.size + 1, [.int .i64 x', .slice av' 2 cap'])]) (ss' := [⟨true, lp, hp, .slice gp 2 kp, 2, two p q⟩, ⟨true, lr, wq1.heap.size, .slice gr 2 kr, 2, two U V⟩, ⟨o', lo', hi', .slice av' 2 cap', 2, f'⟩]) (by intro b hb; simp only [List.mem_cons, List.not_mem_nil, or_false] at hb; rcases hb with rfl | rfl | rfl <;> simp) (by intro b hb; simp only [List.mem_cons, List.not_mem_nil, or_false] at hb; rcases hb with rfl | rfl | rfl <;> simp)
            clear st
            replace st2 := st2.setHead (u0 := .int .i64 3) (u1 := .slice gr 2 kr) (by omega) (by intro q hq; simp only [List.mem_cons, List.not_mem_nil, or_false] at hq; rcases hq with rfl | rfl <;> dsimp only <;> omega) (by intro q hq; simp only [List.mem_cons, List.not_mem_nil, or_false] at hq; rcases hq with rfl | rfl | rfl <;> dsimp only <;> omega)
            have st := st2.swp
            clear st2 p0 p1 pz b0 b1 bz y0 y1 yz
            go_wp2
            go_roundg (m / 2)
            case rel => exact ⟨m / 2, _, _, _, _, gp, gr, kp, kr, lp, hp, lr, wq1.heap.size, Nat.le_refl _, by omega, by first | rfl | (rw [hdv]) | go_num, hpq, rb2, D, Lib.hid ⟨by first | exact HL.out.1 | omega, by omega⟩, by omega, by omega, st⟩
            case measure => omega
end
end Go.Proofs.Ytfadlnbmpgbeaaa
