/- Two drawn characters; drawn arguments of chapter 3 that are characters. -/
import Derived.Test.YtdalahgfpbdilaaDr3
import Derived.Deep.RegionHeld3
namespace Go.Proofs.Ytdalahgfpbdilaa
open Go.RowKit Go.ChangeShapes Go.Sort
set_option linter.unusedVariables false
set_option linter.unusedSimpArgs false
/-- Two characters, or what is none. -/
def DrHH (w : World) (e : Ending) (w' : World) : Prop :=
  ∃ x y z x' y' z' : Int, e = .returned (.tuple #[.agg #[.int .i64 x, .int .i64 y, .int .i64 z], .agg #[.int .i64 x', .int .i64 y', .int .i64 z']]) ∧ inR x ∧ inR y ∧ inR z ∧ inR x' ∧ inR y' ∧ inR z' ∧ Below w.heap.size w w'
section
variable {B : Nat} {p : Option Addr} {n q : Nat}
set_option maxRecDepth 100000 in
set_option maxHeartbeats 8000000 in
theorem l03Two_any (w : World) (hb : Bytes w B p n) (hB : B ≤ w.heap.size) :
    Calls Try.prog 129 #[.slice p n q] w (DrHH w) := by
  have B0 := Below.refl w.heap.size w
  replace B0 := B0.alloc (Nat.le_refl _) (.cells #[.int .i64 0, .int .i64 0, .int .i64 0] 38)
  replace B0 := B0.alloc (by simp only [World.size_alloc]; omega) (.cells #[.int .i64 0, .int .i64 0, .int .i64 0] 38)
  have bx0 := Box.made (w) #[.int .i64 0, .int .i64 0, .int .i64 0] 38 [.int .i64 0, .int .i64 0, .int .i64 0] (fun j v h => by simpa using h)
  have bx1 := Box.made ((w).alloc (.cells #[.int .i64 0, .int .i64 0, .int .i64 0] 38)) #[.int .i64 0, .int .i64 0, .int .i64 0] 38 [.int .i64 0, .int .i64 0, .int .i64 0] (fun j v h => by simpa using h)
  replace bx0 := bx0.alloc2 (.cells #[.int .i64 0, .int .i64 0, .int .i64 0] 38)
  have hb0 := hb.below B0
  clear hb
  go_enter Try.func129, Try.ntmps129
  go_wp2_with fail
  refine (l01From_any B p n q _ hb0 (by simp only [World.size_alloc]; omega)).mono ?_
  rintro e w1 ⟨rfl, hs1, hb1, b1⟩
  have hz_w1 := b1.size
  simp only [World.size_alloc] at hz_w1 hs1 bx0 bx1
  have st1 := Ds.at hB (B0.trans (b1.mono (by simp only [World.size_alloc]; omega))) hs1 hb1 (by omega)
  have hbz := hs1.lt
  replace st1 := st1.addBox (w.heap.size) [.int .i64 0, .int .i64 0, .int .i64 0] (bx0.keep (by simpa only [World.size_alloc] using b1)) (by omega)
  replace st1 := st1.addBox (w.heap.size + 1) [.int .i64 0, .int .i64 0, .int .i64 0] (bx1.keep (by simpa only [World.size_alloc] using b1)) (by omega)
  clear hb0 B0 b1 hs1 hb1 bx0 bx1
  go_wp2_with fail
  refine (l03Draw_any _ st1.src st1.bytes st1.low).mono ?_
  rintro e w2 ⟨P_w2, N_w2, K_w2, rfl, hP1_w2, hP2_w2, hN1_w2, hN2_w2, hK1_w2, hK2_w2, hs_w2, f_w2⟩
  have hz_w2 := f_w2.size
  try simp only [World.size_alloc] at hz_w2
  have st2 := st1.draw hs_w2 f_w2
  clear st1 hs_w2 f_w2
  replace st2 := st2.newBox [.int .i64 P_w2, .int .i64 N_w2, .int .i64 K_w2] 38
  obtain ⟨c_c_0, c_c_1, c_c_2⟩ := (st2.box 0 (w2.heap.size, [.int .i64 P_w2, .int .i64 N_w2, .int .i64 K_w2]) rfl).cell3
  have z_c := (st2.box 0 (w2.heap.size, [.int .i64 P_w2, .int .i64 N_w2, .int .i64 K_w2]) rfl).2.2
  dsimp only at c_c_0 c_c_1 c_c_2 z_c
  go_wp2_with fail
  refine (l03DrawOf_any P_w2 N_w2 _ st2.src st2.bytes st2.low hP1_w2 hP2_w2 hN1_w2 hN2_w2).mono ?_
  rintro e w3 ⟨P_w3, N_w3, K_w3, rfl, hP1_w3, hP2_w3, hN1_w3, hN2_w3, hK1_w3, hK2_w3, hs_w3, f_w3⟩
  have hz_w3 := f_w3.size
  try simp only [World.size_alloc] at hz_w3
  have st3 := st2.draw hs_w3 f_w3
  clear c_c_0 c_c_1 c_c_2 z_c st2 hs_w3 f_w3
  replace st3 := st3.newBox [.int .i64 P_w3, .int .i64 N_w3, .int .i64 K_w3] 38
  go_wp2_with fail
  refine (l01Next_any _ _ _ _ _ 16 _ st3.src st3.bytes st3.low (by omega) (by omega)).mono ?_
  rintro e w4 ⟨r, rfl, hr1, hr2, hs_w4, f_w4⟩
  have hz_w4 := f_w4.size
  try simp only [World.size_alloc] at hz_w4
  have st4 := st3.draw hs_w4 f_w4
  clear st3 hs_w4 f_w4
  by_cases h0 : r = 0
  · subst h0
    go_wp2_with fail
    refine (l03Draw_any _ st4.src st4.bytes st4.low).mono ?_
    rintro e w5 ⟨P_w5, N_w5, K_w5, rfl, hP1_w5, hP2_w5, hN1_w5, hN2_w5, hK1_w5, hK2_w5, hs_w5, f_w5⟩
    have hz_w5 := f_w5.size
    try simp only [World.size_alloc] at hz_w5
    have st5 := st4.draw hs_w5 f_w5
    clear st4 hs_w5 f_w5
    obtain ⟨c_d_0, c_d_1, c_d_2⟩ := (st5.box 0 (w3.heap.size, [.int .i64 P_w3, .int .i64 N_w3, .int .i64 K_w3]) rfl).cell3
    have z_d := (st5.box 0 (w3.heap.size, [.int .i64 P_w3, .int .i64 N_w3, .int .i64 K_w3]) rfl).2.2
    dsimp only at c_d_0 c_d_1 c_d_2 z_d
    go_upto_region 10 with fail
    have st6 := (st5.write (lo := w3.heap.size) (hi := w3.heap.size + 1) ((Frame.refl _ _ w5).set (o := 0) (Nat.le_refl _) (Nat.lt_succ_self _) (.int .i64 P_w5)) (by omega) (by omega) [(w2.heap.size, [.int .i64 P_w2, .int .i64 N_w2, .int .i64 K_w2]), (w.heap.size + 1, [.int .i64 0, .int .i64 0, .int .i64 0]), (w.heap.size, [.int .i64 0, .int .i64 0, .int .i64 0])] [] (fun x hx => ⟨by first | exact List.mem_cons_of_mem _ hx | (simp only [List.mem_cons, List.not_mem_nil, or_false] at hx ⊢; rcases hx with h | h | h <;> simp [h]), by simp only [List.mem_cons, List.not_mem_nil, or_false] at hx; rcases hx with rfl | rfl | rfl <;> first | exact .inl (by dsimp only; omega) | exact .inr (by dsimp only; omega)⟩) (fun s hs => by cases hs)).addBox _ _ ((st5.box 0 (w3.heap.size, [.int .i64 P_w3, .int .i64 N_w3, .int .i64 K_w3]) rfl).set (i := 0) (u := .int .i64 P_w5) (by simp)) (by dsimp only; omega)
    simp only [List.set_cons_succ, List.set_cons_zero, World.size_setCell] at st6
    clear st5
    have st7 := (st6.write (lo := w3.heap.size) (hi := w3.heap.size + 1) ((Frame.refl _ _ (w5.setCell ⟨w3.heap.size, 0, none⟩ (.int .i64 P_w5))).set (o := 1) (Nat.le_refl _) (Nat.lt_succ_self _) (.int .i64 N_w5)) (by omega) (by omega) [(w2.heap.size, [.int .i64 P_w2, .int .i64 N_w2, .int .i64 K_w2]), (w.heap.size + 1, [.int .i64 0, .int .i64 0, .int .i64 0]), (w.heap.size, [.int .i64 0, .int .i64 0, .int .i64 0])] [] (fun x hx => ⟨by first | exact List.mem_cons_of_mem _ hx | (simp only [List.mem_cons, List.not_mem_nil, or_false] at hx ⊢; rcases hx with h | h | h <;> simp [h]), by simp only [List.mem_cons, List.not_mem_nil, or_false] at hx; rcases hx with rfl | rfl | rfl <;> first | exact .inl (by dsimp only; omega) | exact .inr (by dsimp only; omega)⟩) (fun s hs => by cases hs)).addBox _ _ ((st6.box 0 (w3.heap.size, [.int .i64 P_w5, .int .i64 N_w3, .int .i64 K_w3]) rfl).set (i := 1) (u := .int .i64 N_w5) (by simp)) (by dsimp only; omega)
    simp only [List.set_cons_succ, List.set_cons_zero, World.size_setCell] at st7
    clear st6
    have st8 := (st7.write (lo := w3.heap.size) (hi := w3.heap.size + 1) ((Frame.refl _ _ ((w5.setCell ⟨w3.heap.size, 0, none⟩ (.int .i64 P_w5)).setCell ⟨w3.heap.size, 1, none⟩ (.int .i64 N_w5))).set (o := 2) (Nat.le_refl _) (Nat.lt_succ_self _) (.int .i64 K_w5)) (by omega) (by omega) [(w2.heap.size, [.int .i64 P_w2, .int .i64 N_w2, .int .i64 K_w2]), (w.heap.size + 1, [.int .i64 0, .int .i64 0, .int .i64 0]), (w.heap.size, [.int .i64 0, .int .i64 0, .int .i64 0])] [] (fun x hx => ⟨by first | exact List.mem_cons_of_mem _ hx | (simp only [List.mem_cons, List.not_mem_nil, or_false] at hx ⊢; rcases hx with h | h | h <;> simp [h]), by simp only [List.mem_cons, List.not_mem_nil, or_false] at hx; rcases hx with rfl | rfl | rfl <;> first | exact .inl (by dsimp only; omega) | exact .inr (by dsimp only; omega)⟩) (fun s hs => by cases hs)).addBox _ _ ((st7.box 0 (w3.heap.size, [.int .i64 P_w5, .int .i64 N_w5, .int .i64 K_w3]) rfl).set (i := 2) (u := .int .i64 K_w5) (by simp)) (by dsimp only; omega)
    simp only [List.set_cons_succ, List.set_cons_zero, World.size_setCell] at st8
    clear st7
    clear c_d_0 c_d_1 c_d_2 z_d
    obtain ⟨c_c_0, c_c_1, c_c_2⟩ := (st8.box 1 (w2.heap.size, [.int .i64 P_w2, .int .i64 N_w2, .int .i64 K_w2]) rfl).cell3
    have z_c := (st8.box 1 (w2.heap.size, [.int .i64 P_w2, .int .i64 N_w2, .int .i64 K_w2]) rfl).2.2
    dsimp only at c_c_0 c_c_1 c_c_2 z_c
    obtain ⟨c_d_0, c_d_1, c_d_2⟩ := (st8.box 0 (w3.heap.size, [.int .i64 P_w5, .int .i64 N_w5, .int .i64 K_w5]) rfl).cell3
    dsimp only at c_d_0 c_d_1 c_d_2
    have ST := Lib.hid st8.drew
    clear st8
    have e0 : ((((w5.setCell ⟨w3.heap.size, 0, none⟩ (.int .i64 P_w5)).setCell ⟨w3.heap.size, 1, none⟩ (.int .i64 N_w5)).setCell ⟨w3.heap.size, 2, none⟩ (.int .i64 K_w5)).drew).cell? ⟨w2.heap.size, 0, none⟩ = some (.int .i64 P_w2) := c_c_0
    have e1 : ((((w5.setCell ⟨w3.heap.size, 0, none⟩ (.int .i64 P_w5)).setCell ⟨w3.heap.size, 1, none⟩ (.int .i64 N_w5)).setCell ⟨w3.heap.size, 2, none⟩ (.int .i64 K_w5)).drew).cell? ⟨w2.heap.size, 1, none⟩ = some (.int .i64 N_w2) := c_c_1
    have e2 : ((((w5.setCell ⟨w3.heap.size, 0, none⟩ (.int .i64 P_w5)).setCell ⟨w3.heap.size, 1, none⟩ (.int .i64 N_w5)).setCell ⟨w3.heap.size, 2, none⟩ (.int .i64 K_w5)).drew).cell? ⟨w2.heap.size, 2, none⟩ = some (.int .i64 K_w2) := c_c_2
    have e3 : ((((w5.setCell ⟨w3.heap.size, 0, none⟩ (.int .i64 P_w5)).setCell ⟨w3.heap.size, 1, none⟩ (.int .i64 N_w5)).setCell ⟨w3.heap.size, 2, none⟩ (.int .i64 K_w5)).drew).cell? ⟨w3.heap.size, 0, none⟩ = some (.int .i64 P_w5) := c_d_0
    have e4 : ((((w5.setCell ⟨w3.heap.size, 0, none⟩ (.int .i64 P_w5)).setCell ⟨w3.heap.size, 1, none⟩ (.int .i64 N_w5)).setCell ⟨w3.heap.size, 2, none⟩ (.int .i64 K_w5)).drew).cell? ⟨w3.heap.size, 1, none⟩ = some (.int .i64 N_w5) := c_d_1
    have e5 : ((((w5.setCell ⟨w3.heap.size, 0, none⟩ (.int .i64 P_w5)).setCell ⟨w3.heap.size, 1, none⟩ (.int .i64 N_w5)).setCell ⟨w3.heap.size, 2, none⟩ (.int .i64 K_w5)).drew).cell? ⟨w3.heap.size, 2, none⟩ = some (.int .i64 K_w5) := c_d_2
    go_wp2_with fail
    go_region_held3 (fun w' => w'.cell? ⟨w2.heap.size, 0, none⟩ = some (.int .i64 P_w2) ∧ w'.cell? ⟨w2.heap.size, 1, none⟩ = some (.int .i64 N_w2) ∧ w'.cell? ⟨w2.heap.size, 2, none⟩ = some (.int .i64 K_w2) ∧ w'.cell? ⟨w3.heap.size, 0, none⟩ = some (.int .i64 P_w5) ∧ w'.cell? ⟨w3.heap.size, 1, none⟩ = some (.int .i64 N_w5) ∧ w'.cell? ⟨w3.heap.size, 2, none⟩ = some (.int .i64 K_w5))
      (first | with_reducible exact ⟨g0, g1, g2, g3, g4, g5⟩ | with_reducible exact ⟨d0, d1, d2, d3, d4, d5⟩ | with_reducible exact ⟨c_c_0, c_c_1, c_c_2, c_d_0, c_d_1, c_d_2⟩ | with_reducible exact ⟨e0, e1, e2, e3, e4, e5⟩ | (refine ⟨?_, ?_, ?_, ?_, ?_, ?_⟩ <;> (repeat (with_reducible refine cell_set1 ?_ (by omega))) <;> first | exact g0 | exact g1 | exact g2 | exact g3 | exact g4 | exact g5))
      (first
        | (have _t := st6; go_at_call 169; (with_reducible refine (l03Bad_any P_w5 N_w5 K_w5 _ st6.src st6.bytes st6.low (by unfold inR; omega) (by unfold inR; omega) (by unfold inR; omega)).mono ?_); rintro e w7 ⟨x7, y7, z7, rfl, hx7, hy7, hz7, hs7, f7⟩
           have hzz7 := f7.size
           have st7 := st6.draw hs7 f7
           obtain ⟨g0, g1, g2⟩ := (st7.box 1 (w2.heap.size, [.int .i64 P_w2, .int .i64 N_w2, .int .i64 K_w2]) rfl).cell3
           obtain ⟨g3, g4, g5⟩ := (st7.box 0 (w3.heap.size, [.int .i64 P_w5, .int .i64 N_w5, .int .i64 K_w5]) rfl).cell3
           obtain ⟨k0, k1, k2⟩ := (st7.box 3 (w.heap.size, [.int .i64 0, .int .i64 0, .int .i64 0]) rfl).cell3
           obtain ⟨k3, k4, k5⟩ := (st7.box 2 (w.heap.size + 1, [.int .i64 0, .int .i64 0, .int .i64 0]) rfl).cell3
           have zk1 := (st7.box 3 (w.heap.size, [.int .i64 0, .int .i64 0, .int .i64 0]) rfl).2.2
           have zk2 := (st7.box 2 (w.heap.size + 1, [.int .i64 0, .int .i64 0, .int .i64 0]) rfl).2.2
           dsimp only at g0 g1 g2 g3 g4 g5 k0 k1 k2 k3 k4 k5 zk1 zk2
           have ST7 := Lib.hid st7
           clear st6 st7 hs7 f7)
        | (go_at_call 169; (with_reducible refine (l03Bad_any P_w2 N_w2 K_w2 _ ST.out.src ST.out.bytes ST.out.low (by unfold inR; omega) (by unfold inR; omega) (by unfold inR; omega)).mono ?_); rintro e w6 ⟨x6, y6, z6, rfl, hx6, hy6, hz6, hs6, f6⟩
           have hzz6 := f6.size
           try simp only [World.size_drew, World.size_alloc, World.size_setCell] at hzz6
           have st6 := ST.out.draw hs6 f6
           obtain ⟨d0, d1, d2⟩ := (st6.box 1 (w2.heap.size, [.int .i64 P_w2, .int .i64 N_w2, .int .i64 K_w2]) rfl).cell3
           obtain ⟨d3, d4, d5⟩ := (st6.box 0 (w3.heap.size, [.int .i64 P_w5, .int .i64 N_w5, .int .i64 K_w5]) rfl).cell3
           dsimp only at d0 d1 d2 d3 d4 d5))
    all_goals
      go_wp2
      refine bodyPost_ret (v := .tuple #[.agg #[.int .i64 x6, .int .i64 y6, .int .i64 z6], .agg #[.int .i64 x7, .int .i64 y7, .int .i64 z7]]) (by simp [results, Try.results129, go_sem, k0, k1, k2, k3, k4, k5]) rfl ?_
      refine ⟨x6, y6, z6, x7, y7, z7, rfl, hx6, hy6, hz6, hx7, hy7, hz7, ?_⟩
      refine (ST7.out.write (lo := w.heap.size) (hi := w.heap.size + 1 + 1) ?_ (by omega) (by omega) [] [] (fun x hx => by cases hx) (fun s hs => by cases hs)).below (by omega)
      repeat (first | exact Frame.refl _ _ _ | refine Frame.set ?_ (by omega) (by omega) _)
  · have q0 : (r == 0) = false := by simpa using h0
    by_cases h1 : r = 1 ∨ r = 2
    · have e1 : ((r == 1) = true) ∨ ((r == 1) = false ∧ (r == 2) = true) := by rcases h1 with rfl | rfl <;> simp
      obtain ⟨c_c_0, c_c_1, c_c_2⟩ := (st4.box 1 (w2.heap.size, [.int .i64 P_w2, .int .i64 N_w2, .int .i64 K_w2]) rfl).cell3
      have z_c := (st4.box 1 (w2.heap.size, [.int .i64 P_w2, .int .i64 N_w2, .int .i64 K_w2]) rfl).2.2
      dsimp only at c_c_0 c_c_1 c_c_2 z_c
      obtain ⟨c_d_0, c_d_1, c_d_2⟩ := (st4.box 0 (w3.heap.size, [.int .i64 P_w3, .int .i64 N_w3, .int .i64 K_w3]) rfl).cell3
      have z_d := (st4.box 0 (w3.heap.size, [.int .i64 P_w3, .int .i64 N_w3, .int .i64 K_w3]) rfl).2.2
      dsimp only at c_d_0 c_d_1 c_d_2 z_d
      rcases e1 with e1 | ⟨e1, e2⟩
      · skip
        go_upto_region 10 with fail
        have st5 := (st4.write (lo := w3.heap.size) (hi := w3.heap.size + 1) ((Frame.refl _ _ w4).set (o := 0) (Nat.le_refl _) (Nat.lt_succ_self _) (.int .i64 P_w2)) (by omega) (by omega) [(w2.heap.size, [.int .i64 P_w2, .int .i64 N_w2, .int .i64 K_w2]), (w.heap.size + 1, [.int .i64 0, .int .i64 0, .int .i64 0]), (w.heap.size, [.int .i64 0, .int .i64 0, .int .i64 0])] [] (fun x hx => ⟨by first | exact List.mem_cons_of_mem _ hx | (simp only [List.mem_cons, List.not_mem_nil, or_false] at hx ⊢; rcases hx with h | h | h <;> simp [h]), by simp only [List.mem_cons, List.not_mem_nil, or_false] at hx; rcases hx with rfl | rfl | rfl <;> first | exact .inl (by dsimp only; omega) | exact .inr (by dsimp only; omega)⟩) (fun s hs => by cases hs)).addBox _ _ ((st4.box 0 (w3.heap.size, [.int .i64 P_w3, .int .i64 N_w3, .int .i64 K_w3]) rfl).set (i := 0) (u := .int .i64 P_w2) (by simp)) (by dsimp only; omega)
        simp only [List.set_cons_succ, List.set_cons_zero, World.size_setCell] at st5
        clear st4
        have st6 := (st5.write (lo := w3.heap.size) (hi := w3.heap.size + 1) ((Frame.refl _ _ (w4.setCell ⟨w3.heap.size, 0, none⟩ (.int .i64 P_w2))).set (o := 1) (Nat.le_refl _) (Nat.lt_succ_self _) (.int .i64 N_w2)) (by omega) (by omega) [(w2.heap.size, [.int .i64 P_w2, .int .i64 N_w2, .int .i64 K_w2]), (w.heap.size + 1, [.int .i64 0, .int .i64 0, .int .i64 0]), (w.heap.size, [.int .i64 0, .int .i64 0, .int .i64 0])] [] (fun x hx => ⟨by first | exact List.mem_cons_of_mem _ hx | (simp only [List.mem_cons, List.not_mem_nil, or_false] at hx ⊢; rcases hx with h | h | h <;> simp [h]), by simp only [List.mem_cons, List.not_mem_nil, or_false] at hx; rcases hx with rfl | rfl | rfl <;> first | exact .inl (by dsimp only; omega) | exact .inr (by dsimp only; omega)⟩) (fun s hs => by cases hs)).addBox _ _ ((st5.box 0 (w3.heap.size, [.int .i64 P_w2, .int .i64 N_w3, .int .i64 K_w3]) rfl).set (i := 1) (u := .int .i64 N_w2) (by simp)) (by dsimp only; omega)
        simp only [List.set_cons_succ, List.set_cons_zero, World.size_setCell] at st6
        clear st5
        have st7 := (st6.write (lo := w3.heap.size) (hi := w3.heap.size + 1) ((Frame.refl _ _ ((w4.setCell ⟨w3.heap.size, 0, none⟩ (.int .i64 P_w2)).setCell ⟨w3.heap.size, 1, none⟩ (.int .i64 N_w2))).set (o := 2) (Nat.le_refl _) (Nat.lt_succ_self _) (.int .i64 K_w2)) (by omega) (by omega) [(w2.heap.size, [.int .i64 P_w2, .int .i64 N_w2, .int .i64 K_w2]), (w.heap.size + 1, [.int .i64 0, .int .i64 0, .int .i64 0]), (w.heap.size, [.int .i64 0, .int .i64 0, .int .i64 0])] [] (fun x hx => ⟨by first | exact List.mem_cons_of_mem _ hx | (simp only [List.mem_cons, List.not_mem_nil, or_false] at hx ⊢; rcases hx with h | h | h <;> simp [h]), by simp only [List.mem_cons, List.not_mem_nil, or_false] at hx; rcases hx with rfl | rfl | rfl <;> first | exact .inl (by dsimp only; omega) | exact .inr (by dsimp only; omega)⟩) (fun s hs => by cases hs)).addBox _ _ ((st6.box 0 (w3.heap.size, [.int .i64 P_w2, .int .i64 N_w2, .int .i64 K_w3]) rfl).set (i := 2) (u := .int .i64 K_w2) (by simp)) (by dsimp only; omega)
        simp only [List.set_cons_succ, List.set_cons_zero, World.size_setCell] at st7
        clear st6
        clear c_c_0 c_c_1 c_c_2 z_c c_d_0 c_d_1 c_d_2 z_d
        obtain ⟨c_c_0, c_c_1, c_c_2⟩ := (st7.box 1 (w2.heap.size, [.int .i64 P_w2, .int .i64 N_w2, .int .i64 K_w2]) rfl).cell3
        have z_c := (st7.box 1 (w2.heap.size, [.int .i64 P_w2, .int .i64 N_w2, .int .i64 K_w2]) rfl).2.2
        dsimp only at c_c_0 c_c_1 c_c_2 z_c
        obtain ⟨c_d_0, c_d_1, c_d_2⟩ := (st7.box 0 (w3.heap.size, [.int .i64 P_w2, .int .i64 N_w2, .int .i64 K_w2]) rfl).cell3
        dsimp only at c_d_0 c_d_1 c_d_2
        have ST := Lib.hid st7.drew
        clear st7
        have e0 : ((((w4.setCell ⟨w3.heap.size, 0, none⟩ (.int .i64 P_w2)).setCell ⟨w3.heap.size, 1, none⟩ (.int .i64 N_w2)).setCell ⟨w3.heap.size, 2, none⟩ (.int .i64 K_w2)).drew).cell? ⟨w2.heap.size, 0, none⟩ = some (.int .i64 P_w2) := c_c_0
        have e1 : ((((w4.setCell ⟨w3.heap.size, 0, none⟩ (.int .i64 P_w2)).setCell ⟨w3.heap.size, 1, none⟩ (.int .i64 N_w2)).setCell ⟨w3.heap.size, 2, none⟩ (.int .i64 K_w2)).drew).cell? ⟨w2.heap.size, 1, none⟩ = some (.int .i64 N_w2) := c_c_1
        have e2 : ((((w4.setCell ⟨w3.heap.size, 0, none⟩ (.int .i64 P_w2)).setCell ⟨w3.heap.size, 1, none⟩ (.int .i64 N_w2)).setCell ⟨w3.heap.size, 2, none⟩ (.int .i64 K_w2)).drew).cell? ⟨w2.heap.size, 2, none⟩ = some (.int .i64 K_w2) := c_c_2
        have e3 : ((((w4.setCell ⟨w3.heap.size, 0, none⟩ (.int .i64 P_w2)).setCell ⟨w3.heap.size, 1, none⟩ (.int .i64 N_w2)).setCell ⟨w3.heap.size, 2, none⟩ (.int .i64 K_w2)).drew).cell? ⟨w3.heap.size, 0, none⟩ = some (.int .i64 P_w2) := c_d_0
        have e4 : ((((w4.setCell ⟨w3.heap.size, 0, none⟩ (.int .i64 P_w2)).setCell ⟨w3.heap.size, 1, none⟩ (.int .i64 N_w2)).setCell ⟨w3.heap.size, 2, none⟩ (.int .i64 K_w2)).drew).cell? ⟨w3.heap.size, 1, none⟩ = some (.int .i64 N_w2) := c_d_1
        have e5 : ((((w4.setCell ⟨w3.heap.size, 0, none⟩ (.int .i64 P_w2)).setCell ⟨w3.heap.size, 1, none⟩ (.int .i64 N_w2)).setCell ⟨w3.heap.size, 2, none⟩ (.int .i64 K_w2)).drew).cell? ⟨w3.heap.size, 2, none⟩ = some (.int .i64 K_w2) := c_d_2
        go_wp2_with fail
        go_region_held3 (fun w' => w'.cell? ⟨w2.heap.size, 0, none⟩ = some (.int .i64 P_w2) ∧ w'.cell? ⟨w2.heap.size, 1, none⟩ = some (.int .i64 N_w2) ∧ w'.cell? ⟨w2.heap.size, 2, none⟩ = some (.int .i64 K_w2) ∧ w'.cell? ⟨w3.heap.size, 0, none⟩ = some (.int .i64 P_w2) ∧ w'.cell? ⟨w3.heap.size, 1, none⟩ = some (.int .i64 N_w2) ∧ w'.cell? ⟨w3.heap.size, 2, none⟩ = some (.int .i64 K_w2))
          (first | with_reducible exact ⟨g0, g1, g2, g3, g4, g5⟩ | with_reducible exact ⟨d0, d1, d2, d3, d4, d5⟩ | with_reducible exact ⟨c_c_0, c_c_1, c_c_2, c_d_0, c_d_1, c_d_2⟩ | with_reducible exact ⟨e0, e1, e2, e3, e4, e5⟩ | (refine ⟨?_, ?_, ?_, ?_, ?_, ?_⟩ <;> (repeat (with_reducible refine cell_set1 ?_ (by omega))) <;> first | exact g0 | exact g1 | exact g2 | exact g3 | exact g4 | exact g5))
          (first
            | (have _t := st6; go_at_call 169; (with_reducible refine (l03Bad_any P_w2 N_w2 K_w2 _ st6.src st6.bytes st6.low (by unfold inR; omega) (by unfold inR; omega) (by unfold inR; omega)).mono ?_); rintro e w7 ⟨x7, y7, z7, rfl, hx7, hy7, hz7, hs7, f7⟩
               have hzz7 := f7.size
               have st7 := st6.draw hs7 f7
               obtain ⟨g0, g1, g2⟩ := (st7.box 1 (w2.heap.size, [.int .i64 P_w2, .int .i64 N_w2, .int .i64 K_w2]) rfl).cell3
               obtain ⟨g3, g4, g5⟩ := (st7.box 0 (w3.heap.size, [.int .i64 P_w2, .int .i64 N_w2, .int .i64 K_w2]) rfl).cell3
               obtain ⟨k0, k1, k2⟩ := (st7.box 3 (w.heap.size, [.int .i64 0, .int .i64 0, .int .i64 0]) rfl).cell3
               obtain ⟨k3, k4, k5⟩ := (st7.box 2 (w.heap.size + 1, [.int .i64 0, .int .i64 0, .int .i64 0]) rfl).cell3
               have zk1 := (st7.box 3 (w.heap.size, [.int .i64 0, .int .i64 0, .int .i64 0]) rfl).2.2
               have zk2 := (st7.box 2 (w.heap.size + 1, [.int .i64 0, .int .i64 0, .int .i64 0]) rfl).2.2
               dsimp only at g0 g1 g2 g3 g4 g5 k0 k1 k2 k3 k4 k5 zk1 zk2
               have ST7 := Lib.hid st7
               clear st6 st7 hs7 f7)
            | (go_at_call 169; (with_reducible refine (l03Bad_any P_w2 N_w2 K_w2 _ ST.out.src ST.out.bytes ST.out.low (by unfold inR; omega) (by unfold inR; omega) (by unfold inR; omega)).mono ?_); rintro e w6 ⟨x6, y6, z6, rfl, hx6, hy6, hz6, hs6, f6⟩
               have hzz6 := f6.size
               try simp only [World.size_drew, World.size_alloc, World.size_setCell] at hzz6
               have st6 := ST.out.draw hs6 f6
               obtain ⟨d0, d1, d2⟩ := (st6.box 1 (w2.heap.size, [.int .i64 P_w2, .int .i64 N_w2, .int .i64 K_w2]) rfl).cell3
               obtain ⟨d3, d4, d5⟩ := (st6.box 0 (w3.heap.size, [.int .i64 P_w2, .int .i64 N_w2, .int .i64 K_w2]) rfl).cell3
               dsimp only at d0 d1 d2 d3 d4 d5))
        all_goals
          go_wp2
          refine bodyPost_ret (v := .tuple #[.agg #[.int .i64 x6, .int .i64 y6, .int .i64 z6], .agg #[.int .i64 x7, .int .i64 y7, .int .i64 z7]]) (by simp [results, Try.results129, go_sem, k0, k1, k2, k3, k4, k5]) rfl ?_
          refine ⟨x6, y6, z6, x7, y7, z7, rfl, hx6, hy6, hz6, hx7, hy7, hz7, ?_⟩
          refine (ST7.out.write (lo := w.heap.size) (hi := w.heap.size + 1 + 1) ?_ (by omega) (by omega) [] [] (fun x hx => by cases hx) (fun s hs => by cases hs)).below (by omega)
          repeat (first | exact Frame.refl _ _ _ | refine Frame.set ?_ (by omega) (by omega) _)
      · skip
        go_upto_region 10 with fail
        have st5 := (st4.write (lo := w3.heap.size) (hi := w3.heap.size + 1) ((Frame.refl _ _ w4).set (o := 0) (Nat.le_refl _) (Nat.lt_succ_self _) (.int .i64 P_w2)) (by omega) (by omega) [(w2.heap.size, [.int .i64 P_w2, .int .i64 N_w2, .int .i64 K_w2]), (w.heap.size + 1, [.int .i64 0, .int .i64 0, .int .i64 0]), (w.heap.size, [.int .i64 0, .int .i64 0, .int .i64 0])] [] (fun x hx => ⟨by first | exact List.mem_cons_of_mem _ hx | (simp only [List.mem_cons, List.not_mem_nil, or_false] at hx ⊢; rcases hx with h | h | h <;> simp [h]), by simp only [List.mem_cons, List.not_mem_nil, or_false] at hx; rcases hx with rfl | rfl | rfl <;> first | exact .inl (by dsimp only; omega) | exact .inr (by dsimp only; omega)⟩) (fun s hs => by cases hs)).addBox _ _ ((st4.box 0 (w3.heap.size, [.int .i64 P_w3, .int .i64 N_w3, .int .i64 K_w3]) rfl).set (i := 0) (u := .int .i64 P_w2) (by simp)) (by dsimp only; omega)
        simp only [List.set_cons_succ, List.set_cons_zero, World.size_setCell] at st5
        clear st4
        have st6 := (st5.write (lo := w3.heap.size) (hi := w3.heap.size + 1) ((Frame.refl _ _ (w4.setCell ⟨w3.heap.size, 0, none⟩ (.int .i64 P_w2))).set (o := 1) (Nat.le_refl _) (Nat.lt_succ_self _) (.int .i64 N_w2)) (by omega) (by omega) [(w2.heap.size, [.int .i64 P_w2, .int .i64 N_w2, .int .i64 K_w2]), (w.heap.size + 1, [.int .i64 0, .int .i64 0, .int .i64 0]), (w.heap.size, [.int .i64 0, .int .i64 0, .int .i64 0])] [] (fun x hx => ⟨by first | exact List.mem_cons_of_mem _ hx | (simp only [List.mem_cons, List.not_mem_nil, or_false] at hx ⊢; rcases hx with h | h | h <;> simp [h]), by simp only [List.mem_cons, List.not_mem_nil, or_false] at hx; rcases hx with rfl | rfl | rfl <;> first | exact .inl (by dsimp only; omega) | exact .inr (by dsimp only; omega)⟩) (fun s hs => by cases hs)).addBox _ _ ((st5.box 0 (w3.heap.size, [.int .i64 P_w2, .int .i64 N_w3, .int .i64 K_w3]) rfl).set (i := 1) (u := .int .i64 N_w2) (by simp)) (by dsimp only; omega)
        simp only [List.set_cons_succ, List.set_cons_zero, World.size_setCell] at st6
        clear st5
        have st7 := (st6.write (lo := w3.heap.size) (hi := w3.heap.size + 1) ((Frame.refl _ _ ((w4.setCell ⟨w3.heap.size, 0, none⟩ (.int .i64 P_w2)).setCell ⟨w3.heap.size, 1, none⟩ (.int .i64 N_w2))).set (o := 2) (Nat.le_refl _) (Nat.lt_succ_self _) (.int .i64 K_w2)) (by omega) (by omega) [(w2.heap.size, [.int .i64 P_w2, .int .i64 N_w2, .int .i64 K_w2]), (w.heap.size + 1, [.int .i64 0, .int .i64 0, .int .i64 0]), (w.heap.size, [.int .i64 0, .int .i64 0, .int .i64 0])] [] (fun x hx => ⟨by first | exact List.mem_cons_of_mem _ hx | (simp only [List.mem_cons, List.not_mem_nil, or_false] at hx ⊢; rcases hx with h | h | h <;> simp [h]), by simp only [List.mem_cons, List.not_mem_nil, or_false] at hx; rcases hx with rfl | rfl | rfl <;> first | exact .inl (by dsimp only; omega) | exact .inr (by dsimp only; omega)⟩) (fun s hs => by cases hs)).addBox _ _ ((st6.box 0 (w3.heap.size, [.int .i64 P_w2, .int .i64 N_w2, .int .i64 K_w3]) rfl).set (i := 2) (u := .int .i64 K_w2) (by simp)) (by dsimp only; omega)
        simp only [List.set_cons_succ, List.set_cons_zero, World.size_setCell] at st7
        clear st6
        clear c_c_0 c_c_1 c_c_2 z_c c_d_0 c_d_1 c_d_2 z_d
        obtain ⟨c_c_0, c_c_1, c_c_2⟩ := (st7.box 1 (w2.heap.size, [.int .i64 P_w2, .int .i64 N_w2, .int .i64 K_w2]) rfl).cell3
        have z_c := (st7.box 1 (w2.heap.size, [.int .i64 P_w2, .int .i64 N_w2, .int .i64 K_w2]) rfl).2.2
        dsimp only at c_c_0 c_c_1 c_c_2 z_c
        obtain ⟨c_d_0, c_d_1, c_d_2⟩ := (st7.box 0 (w3.heap.size, [.int .i64 P_w2, .int .i64 N_w2, .int .i64 K_w2]) rfl).cell3
        dsimp only at c_d_0 c_d_1 c_d_2
        have ST := Lib.hid st7.drew
        clear st7
        have e0 : ((((w4.setCell ⟨w3.heap.size, 0, none⟩ (.int .i64 P_w2)).setCell ⟨w3.heap.size, 1, none⟩ (.int .i64 N_w2)).setCell ⟨w3.heap.size, 2, none⟩ (.int .i64 K_w2)).drew).cell? ⟨w2.heap.size, 0, none⟩ = some (.int .i64 P_w2) := c_c_0
        have e1 : ((((w4.setCell ⟨w3.heap.size, 0, none⟩ (.int .i64 P_w2)).setCell ⟨w3.heap.size, 1, none⟩ (.int .i64 N_w2)).setCell ⟨w3.heap.size, 2, none⟩ (.int .i64 K_w2)).drew).cell? ⟨w2.heap.size, 1, none⟩ = some (.int .i64 N_w2) := c_c_1
        have e2 : ((((w4.setCell ⟨w3.heap.size, 0, none⟩ (.int .i64 P_w2)).setCell ⟨w3.heap.size, 1, none⟩ (.int .i64 N_w2)).setCell ⟨w3.heap.size, 2, none⟩ (.int .i64 K_w2)).drew).cell? ⟨w2.heap.size, 2, none⟩ = some (.int .i64 K_w2) := c_c_2
        have e3 : ((((w4.setCell ⟨w3.heap.size, 0, none⟩ (.int .i64 P_w2)).setCell ⟨w3.heap.size, 1, none⟩ (.int .i64 N_w2)).setCell ⟨w3.heap.size, 2, none⟩ (.int .i64 K_w2)).drew).cell? ⟨w3.heap.size, 0, none⟩ = some (.int .i64 P_w2) := c_d_0
        have e4 : ((((w4.setCell ⟨w3.heap.size, 0, none⟩ (.int .i64 P_w2)).setCell ⟨w3.heap.size, 1, none⟩ (.int .i64 N_w2)).setCell ⟨w3.heap.size, 2, none⟩ (.int .i64 K_w2)).drew).cell? ⟨w3.heap.size, 1, none⟩ = some (.int .i64 N_w2) := c_d_1
        have e5 : ((((w4.setCell ⟨w3.heap.size, 0, none⟩ (.int .i64 P_w2)).setCell ⟨w3.heap.size, 1, none⟩ (.int .i64 N_w2)).setCell ⟨w3.heap.size, 2, none⟩ (.int .i64 K_w2)).drew).cell? ⟨w3.heap.size, 2, none⟩ = some (.int .i64 K_w2) := c_d_2
        go_wp2_with fail
        go_region_held3 (fun w' => w'.cell? ⟨w2.heap.size, 0, none⟩ = some (.int .i64 P_w2) ∧ w'.cell? ⟨w2.heap.size, 1, none⟩ = some (.int .i64 N_w2) ∧ w'.cell? ⟨w2.heap.size, 2, none⟩ = some (.int .i64 K_w2) ∧ w'.cell? ⟨w3.heap.size, 0, none⟩ = some (.int .i64 P_w2) ∧ w'.cell? ⟨w3.heap.size, 1, none⟩ = some (.int .i64 N_w2) ∧ w'.cell? ⟨w3.heap.size, 2, none⟩ = some (.int .i64 K_w2))
          (first | with_reducible exact ⟨g0, g1, g2, g3, g4, g5⟩ | with_reducible exact ⟨d0, d1, d2, d3, d4, d5⟩ | with_reducible exact ⟨c_c_0, c_c_1, c_c_2, c_d_0, c_d_1, c_d_2⟩ | with_reducible exact ⟨e0, e1, e2, e3, e4, e5⟩ | (refine ⟨?_, ?_, ?_, ?_, ?_, ?_⟩ <;> (repeat (with_reducible refine cell_set1 ?_ (by omega))) <;> first | exact g0 | exact g1 | exact g2 | exact g3 | exact g4 | exact g5))
          (first
            | (have _t := st6; go_at_call 169; (with_reducible refine (l03Bad_any P_w2 N_w2 K_w2 _ st6.src st6.bytes st6.low (by unfold inR; omega) (by unfold inR; omega) (by unfold inR; omega)).mono ?_); rintro e w7 ⟨x7, y7, z7, rfl, hx7, hy7, hz7, hs7, f7⟩
               have hzz7 := f7.size
               have st7 := st6.draw hs7 f7
               obtain ⟨g0, g1, g2⟩ := (st7.box 1 (w2.heap.size, [.int .i64 P_w2, .int .i64 N_w2, .int .i64 K_w2]) rfl).cell3
               obtain ⟨g3, g4, g5⟩ := (st7.box 0 (w3.heap.size, [.int .i64 P_w2, .int .i64 N_w2, .int .i64 K_w2]) rfl).cell3
               obtain ⟨k0, k1, k2⟩ := (st7.box 3 (w.heap.size, [.int .i64 0, .int .i64 0, .int .i64 0]) rfl).cell3
               obtain ⟨k3, k4, k5⟩ := (st7.box 2 (w.heap.size + 1, [.int .i64 0, .int .i64 0, .int .i64 0]) rfl).cell3
               have zk1 := (st7.box 3 (w.heap.size, [.int .i64 0, .int .i64 0, .int .i64 0]) rfl).2.2
               have zk2 := (st7.box 2 (w.heap.size + 1, [.int .i64 0, .int .i64 0, .int .i64 0]) rfl).2.2
               dsimp only at g0 g1 g2 g3 g4 g5 k0 k1 k2 k3 k4 k5 zk1 zk2
               have ST7 := Lib.hid st7
               clear st6 st7 hs7 f7)
            | (go_at_call 169; (with_reducible refine (l03Bad_any P_w2 N_w2 K_w2 _ ST.out.src ST.out.bytes ST.out.low (by unfold inR; omega) (by unfold inR; omega) (by unfold inR; omega)).mono ?_); rintro e w6 ⟨x6, y6, z6, rfl, hx6, hy6, hz6, hs6, f6⟩
               have hzz6 := f6.size
               try simp only [World.size_drew, World.size_alloc, World.size_setCell] at hzz6
               have st6 := ST.out.draw hs6 f6
               obtain ⟨d0, d1, d2⟩ := (st6.box 1 (w2.heap.size, [.int .i64 P_w2, .int .i64 N_w2, .int .i64 K_w2]) rfl).cell3
               obtain ⟨d3, d4, d5⟩ := (st6.box 0 (w3.heap.size, [.int .i64 P_w2, .int .i64 N_w2, .int .i64 K_w2]) rfl).cell3
               dsimp only at d0 d1 d2 d3 d4 d5))
        all_goals
          go_wp2
          refine bodyPost_ret (v := .tuple #[.agg #[.int .i64 x6, .int .i64 y6, .int .i64 z6], .agg #[.int .i64 x7, .int .i64 y7, .int .i64 z7]]) (by simp [results, Try.results129, go_sem, k0, k1, k2, k3, k4, k5]) rfl ?_
          refine ⟨x6, y6, z6, x7, y7, z7, rfl, hx6, hy6, hz6, hx7, hy7, hz7, ?_⟩
          refine (ST7.out.write (lo := w.heap.size) (hi := w.heap.size + 1 + 1) ?_ (by omega) (by omega) [] [] (fun x hx => by cases hx) (fun s hs => by cases hs)).below (by omega)
          repeat (first | exact Frame.refl _ _ _ | refine Frame.set ?_ (by omega) (by omega) _)
    · have q1 : (r == 1) = false := by simp; omega
      have q2 : (r == 2) = false := by simp; omega
      obtain ⟨c_c_0, c_c_1, c_c_2⟩ := (st4.box 1 (w2.heap.size, [.int .i64 P_w2, .int .i64 N_w2, .int .i64 K_w2]) rfl).cell3
      have z_c := (st4.box 1 (w2.heap.size, [.int .i64 P_w2, .int .i64 N_w2, .int .i64 K_w2]) rfl).2.2
      dsimp only at c_c_0 c_c_1 c_c_2 z_c
      obtain ⟨c_d_0, c_d_1, c_d_2⟩ := (st4.box 0 (w3.heap.size, [.int .i64 P_w3, .int .i64 N_w3, .int .i64 K_w3]) rfl).cell3
      have z_d := (st4.box 0 (w3.heap.size, [.int .i64 P_w3, .int .i64 N_w3, .int .i64 K_w3]) rfl).2.2
      dsimp only at c_d_0 c_d_1 c_d_2 z_d
      go_upto_region 10 with fail
      clear c_c_0 c_c_1 c_c_2 z_c c_d_0 c_d_1 c_d_2 z_d
      obtain ⟨c_c_0, c_c_1, c_c_2⟩ := (st4.box 1 (w2.heap.size, [.int .i64 P_w2, .int .i64 N_w2, .int .i64 K_w2]) rfl).cell3
      have z_c := (st4.box 1 (w2.heap.size, [.int .i64 P_w2, .int .i64 N_w2, .int .i64 K_w2]) rfl).2.2
      dsimp only at c_c_0 c_c_1 c_c_2 z_c
      obtain ⟨c_d_0, c_d_1, c_d_2⟩ := (st4.box 0 (w3.heap.size, [.int .i64 P_w3, .int .i64 N_w3, .int .i64 K_w3]) rfl).cell3
      have z_d := (st4.box 0 (w3.heap.size, [.int .i64 P_w3, .int .i64 N_w3, .int .i64 K_w3]) rfl).2.2
      dsimp only at c_d_0 c_d_1 c_d_2 z_d
      have ST := Lib.hid st4.drew
      clear st4
      have e0 : (w4.drew).cell? ⟨w2.heap.size, 0, none⟩ = some (.int .i64 P_w2) := c_c_0
      have e1 : (w4.drew).cell? ⟨w2.heap.size, 1, none⟩ = some (.int .i64 N_w2) := c_c_1
      have e2 : (w4.drew).cell? ⟨w2.heap.size, 2, none⟩ = some (.int .i64 K_w2) := c_c_2
      have e3 : (w4.drew).cell? ⟨w3.heap.size, 0, none⟩ = some (.int .i64 P_w3) := c_d_0
      have e4 : (w4.drew).cell? ⟨w3.heap.size, 1, none⟩ = some (.int .i64 N_w3) := c_d_1
      have e5 : (w4.drew).cell? ⟨w3.heap.size, 2, none⟩ = some (.int .i64 K_w3) := c_d_2
      go_wp2_with fail
      go_region_held3 (fun w' => w'.cell? ⟨w2.heap.size, 0, none⟩ = some (.int .i64 P_w2) ∧ w'.cell? ⟨w2.heap.size, 1, none⟩ = some (.int .i64 N_w2) ∧ w'.cell? ⟨w2.heap.size, 2, none⟩ = some (.int .i64 K_w2) ∧ w'.cell? ⟨w3.heap.size, 0, none⟩ = some (.int .i64 P_w3) ∧ w'.cell? ⟨w3.heap.size, 1, none⟩ = some (.int .i64 N_w3) ∧ w'.cell? ⟨w3.heap.size, 2, none⟩ = some (.int .i64 K_w3))
        (first | with_reducible exact ⟨g0, g1, g2, g3, g4, g5⟩ | with_reducible exact ⟨d0, d1, d2, d3, d4, d5⟩ | with_reducible exact ⟨c_c_0, c_c_1, c_c_2, c_d_0, c_d_1, c_d_2⟩ | with_reducible exact ⟨e0, e1, e2, e3, e4, e5⟩ | (refine ⟨?_, ?_, ?_, ?_, ?_, ?_⟩ <;> (repeat (with_reducible refine cell_set1 ?_ (by omega))) <;> first | exact g0 | exact g1 | exact g2 | exact g3 | exact g4 | exact g5))
        (first
          | (have _t := st6; go_at_call 169; (with_reducible refine (l03Bad_any P_w3 N_w3 K_w3 _ st6.src st6.bytes st6.low (by unfold inR; omega) (by unfold inR; omega) (by unfold inR; omega)).mono ?_); rintro e w7 ⟨x7, y7, z7, rfl, hx7, hy7, hz7, hs7, f7⟩
             have hzz7 := f7.size
             have st7 := st6.draw hs7 f7
             obtain ⟨g0, g1, g2⟩ := (st7.box 1 (w2.heap.size, [.int .i64 P_w2, .int .i64 N_w2, .int .i64 K_w2]) rfl).cell3
             obtain ⟨g3, g4, g5⟩ := (st7.box 0 (w3.heap.size, [.int .i64 P_w3, .int .i64 N_w3, .int .i64 K_w3]) rfl).cell3
             obtain ⟨k0, k1, k2⟩ := (st7.box 3 (w.heap.size, [.int .i64 0, .int .i64 0, .int .i64 0]) rfl).cell3
             obtain ⟨k3, k4, k5⟩ := (st7.box 2 (w.heap.size + 1, [.int .i64 0, .int .i64 0, .int .i64 0]) rfl).cell3
             have zk1 := (st7.box 3 (w.heap.size, [.int .i64 0, .int .i64 0, .int .i64 0]) rfl).2.2
             have zk2 := (st7.box 2 (w.heap.size + 1, [.int .i64 0, .int .i64 0, .int .i64 0]) rfl).2.2
             dsimp only at g0 g1 g2 g3 g4 g5 k0 k1 k2 k3 k4 k5 zk1 zk2
             have ST7 := Lib.hid st7
             clear st6 st7 hs7 f7)
          | (go_at_call 169; (with_reducible refine (l03Bad_any P_w2 N_w2 K_w2 _ ST.out.src ST.out.bytes ST.out.low (by unfold inR; omega) (by unfold inR; omega) (by unfold inR; omega)).mono ?_); rintro e w6 ⟨x6, y6, z6, rfl, hx6, hy6, hz6, hs6, f6⟩
             have hzz6 := f6.size
             try simp only [World.size_drew, World.size_alloc, World.size_setCell] at hzz6
             have st6 := ST.out.draw hs6 f6
             obtain ⟨d0, d1, d2⟩ := (st6.box 1 (w2.heap.size, [.int .i64 P_w2, .int .i64 N_w2, .int .i64 K_w2]) rfl).cell3
             obtain ⟨d3, d4, d5⟩ := (st6.box 0 (w3.heap.size, [.int .i64 P_w3, .int .i64 N_w3, .int .i64 K_w3]) rfl).cell3
             dsimp only at d0 d1 d2 d3 d4 d5))
      all_goals
        go_wp2
        refine bodyPost_ret (v := .tuple #[.agg #[.int .i64 x6, .int .i64 y6, .int .i64 z6], .agg #[.int .i64 x7, .int .i64 y7, .int .i64 z7]]) (by simp [results, Try.results129, go_sem, k0, k1, k2, k3, k4, k5]) rfl ?_
        refine ⟨x6, y6, z6, x7, y7, z7, rfl, hx6, hy6, hz6, hx7, hy7, hz7, ?_⟩
        refine (ST7.out.write (lo := w.heap.size) (hi := w.heap.size + 1 + 1) ?_ (by omega) (by omega) [] [] (fun x hx => by cases hx) (fun s hs => by cases hs)).below (by omega)
        repeat (first | exact Frame.refl _ _ _ | refine Frame.set ?_ (by omega) (by omega) _)
end
end Go.Proofs.Ytdalahgfpbdilaa
