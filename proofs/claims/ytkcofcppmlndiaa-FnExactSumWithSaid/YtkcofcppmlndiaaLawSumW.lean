/- SumWith answers as its model, for every argument. No condition. -/
import Derived.Test.YtkcofcppmlndiaaSumW
import Derived.Test.YtkcofcppmlndiaaFail
import Derived.Test.YtkcofcppmlndiaaBox3
import Derived.Test.YtkcofcppmlndiaaCopy
import Derived.Deep.RegionHeld3
import Derived.Deep.DeepCutAuto
import Derived.ShutString
import Derived.ChangeOld
import Derived.Lib.SmallJoins
import Derived.Test.YtkcofcppmlndiaaInit
namespace Go.Proofs.Ytkcofcppmlndiaa
open Go.RowKit Go.ChangeShapes Go.Sort Go.WideShapes Go.ChangeAt
set_option linter.unusedVariables false
set_option linter.unusedSimpArgs false
namespace fnExactSumWith
set_option maxRecDepth 100000 in
set_option maxHeartbeats 4000000 in
theorem walk_of (w : World) (n0 : Nat) (f0 : Nat → Int) (x1 y1 z1 : Int) {lo0 hi0 : Nat} {u0 : Value} (hs0 : Sl false w lo0 hi0 u0 n0 f0) (R0 : Int) (N0 : Nat) (G0 : Nat → Int) (C1 : Int) (hn0 : n0 ≤ 1048576) (hN0 : N0 ≤ 1048576)
    (hS : ∀ (w : World) (o0 : Bool) (l0 h0 : Nat) (v0 : Value) (_ : Sl o0 w l0 h0 v0 n0 f0), Calls Try.prog 61 #[v0, .agg #[.int .i64 x1, .int .i64 y1, .int .i64 z1]] w fun e w' => ∃ a0' k0', e = .returned (.tuple #[.agg #[.int .i64 R0, .slice a0' N0 k0'], .int .i64 C1]) ∧ Sl true w' w.heap.size w'.heap.size (.slice a0' N0 k0') N0 G0 ∧ Below w.heap.size w w')
    (hI : ∀ (w : World) (o0 : Bool) (l0 h0 : Nat) (v0 : Value) (_ : Sl o0 w l0 h0 v0 n0 f0), Calls Try.prog 60 #[v0, .agg #[.int .i64 x1, .int .i64 y1, .int .i64 z1]] w fun e w' => ∃ a0' k0', e = .returned (.tuple #[.agg #[.int .i64 R0, .slice a0' N0 k0'], .int .i64 C1]) ∧ Sl true w' w.heap.size w'.heap.size (.slice a0' N0 k0') N0 G0 ∧ Below w.heap.size w w') :
    Calls Try.prog 17 #[u0, .agg #[.int .i64 x1, .int .i64 y1, .int .i64 z1]] w fun e w' => e = .returned (.bool true) ∧ Below w.heap.size w w' := by
  obtain ⟨p0, q0, rfl⟩ := hs0.shape
  have HS := Lib.hid hS; clear hS
  have HI := Lib.hid hI; clear hI
  have st0 := St.start w
  have hh0 := hs0.size
  replace st0 := st0.addSl ⟨false, lo0, hi0, .slice p0 n0 q0, n0, f0⟩ hs0
  replace st0 := (st0.alloc (.cells #[.int .i64 x1, .int .i64 y1, .int .i64 z1] 64)).addBox _ [.int .i64 x1, .int .i64 y1, .int .i64 z1] (Box.made _ _ _ _ (fun j v h => by simpa using h))
  clear hs0
  go_enter Try.func17, Try.ntmps17
  have c_a1_0 := (st0.box 0 (w.heap.size, [.int .i64 x1, .int .i64 y1, .int .i64 z1]) rfl).2.1 0 _ rfl
  have c_a1_1 := (st0.box 0 (w.heap.size, [.int .i64 x1, .int .i64 y1, .int .i64 z1]) rfl).2.1 1 _ rfl
  have c_a1_2 := (st0.box 0 (w.heap.size, [.int .i64 x1, .int .i64 y1, .int .i64 z1]) rfl).2.1 2 _ rfl
  go_wp2_with fail
  go_cut [5, 6] (fun s0 s1 wx => ∃ bq loq hiq aq kq, s0 = .pointer (some ⟨bq, 0, none⟩) ∧ s1 = .int .i64 C1 ∧ Sl true wx loq hiq (.slice aq N0 kq) N0 G0 ∧ (bq < loq ∨ hiq ≤ bq) ∧ w.heap.size + 1 ≤ loq ∧ w.heap.size + 1 ≤ bq ∧ bq < wx.heap.size ∧ hiq ≤ wx.heap.size ∧ St w wx ((bq, [.int .i64 R0, .slice aq N0 kq]) :: [(w.heap.size, [.int .i64 x1, .int .i64 y1, .int .i64 z1])]) [⟨false, lo0, hi0, .slice p0 n0 q0, n0, f0⟩])
  case first =>
    go_region_held3 (fun w' => w'.cell? ⟨w.heap.size, 0, none⟩ = some (.int .i64 x1) ∧ w'.cell? ⟨w.heap.size, 1, none⟩ = some (.int .i64 y1) ∧ w'.cell? ⟨w.heap.size, 2, none⟩ = some (.int .i64 z1))
      (first | exact ⟨c_a1_0, c_a1_1, c_a1_2⟩ | (have q0 := (st8.box 0 (w.heap.size, [.int .i64 x1, .int .i64 y1, .int .i64 z1]) rfl).cell3; with_reducible exact ⟨q0.1, q0.2.1, q0.2.2⟩) | (have q0 := (st8.box 1 (w.heap.size, [.int .i64 x1, .int .i64 y1, .int .i64 z1]) rfl).cell3; with_reducible exact ⟨q0.1, q0.2.1, q0.2.2⟩) | (have q0 := ((st8.boxNew (.int .i64 0) (.slice none 0 0) 40).box 1 (w.heap.size, [.int .i64 x1, .int .i64 y1, .int .i64 z1]) rfl).cell3; with_reducible exact ⟨q0.1, q0.2.1, q0.2.2⟩) | (have q0 := (st7.box 0 (w.heap.size, [.int .i64 x1, .int .i64 y1, .int .i64 z1]) rfl).cell3; with_reducible exact ⟨q0.1, q0.2.1, q0.2.2⟩) | (have q0 := (st7.box 1 (w.heap.size, [.int .i64 x1, .int .i64 y1, .int .i64 z1]) rfl).cell3; with_reducible exact ⟨q0.1, q0.2.1, q0.2.2⟩) | (have q0 := ((st7.boxNew (.int .i64 0) (.slice none 0 0) 40).box 1 (w.heap.size, [.int .i64 x1, .int .i64 y1, .int .i64 z1]) rfl).cell3; with_reducible exact ⟨q0.1, q0.2.1, q0.2.2⟩) | (have q0 := (st6.box 0 (w.heap.size, [.int .i64 x1, .int .i64 y1, .int .i64 z1]) rfl).cell3; with_reducible exact ⟨q0.1, q0.2.1, q0.2.2⟩) | (have q0 := (st6.box 1 (w.heap.size, [.int .i64 x1, .int .i64 y1, .int .i64 z1]) rfl).cell3; with_reducible exact ⟨q0.1, q0.2.1, q0.2.2⟩) | (have q0 := ((st6.boxNew (.int .i64 0) (.slice none 0 0) 40).box 1 (w.heap.size, [.int .i64 x1, .int .i64 y1, .int .i64 z1]) rfl).cell3; with_reducible exact ⟨q0.1, q0.2.1, q0.2.2⟩) | (have q0 := ((st8.boxNew (.int .i64 R0) (.slice a8 N0 k8) 40).box 1 (w.heap.size, [.int .i64 x1, .int .i64 y1, .int .i64 z1]) rfl).cell3; with_reducible exact ⟨q0.1, q0.2.1, q0.2.2⟩) | (have q0 := ((st0.boxNew (.int .i64 0) (.slice none 0 0) 40).box 1 (w.heap.size, [.int .i64 x1, .int .i64 y1, .int .i64 z1]) rfl).cell3; with_reducible exact ⟨q0.1, q0.2.1, q0.2.2⟩) | (have q0 := ((st0.boxNew (.int .i64 0) (.slice none 0 0) 40).drew.box 1 (w.heap.size, [.int .i64 x1, .int .i64 y1, .int .i64 z1]) rfl).cell3; with_reducible exact ⟨q0.1, q0.2.1, q0.2.2⟩) | (have q0 := (st0.drew.box 0 (w.heap.size, [.int .i64 x1, .int .i64 y1, .int .i64 z1]) rfl).cell3; with_reducible exact ⟨q0.1, q0.2.1, q0.2.2⟩) | exact ⟨cell_set2 (st8.box 1 (w.heap.size, [.int .i64 x1, .int .i64 y1, .int .i64 z1]) rfl).cell3.1 (by omega), cell_set2 (st8.box 1 (w.heap.size, [.int .i64 x1, .int .i64 y1, .int .i64 z1]) rfl).cell3.2.1 (by omega), cell_set2 (st8.box 1 (w.heap.size, [.int .i64 x1, .int .i64 y1, .int .i64 z1]) rfl).cell3.2.2 (by omega)⟩)
      (first
        | (go_at_call 72; have _g := b6; refine (toCharacter_any _ _ _ _).mono ?_; rintro e w7 ⟨rfl, b7⟩
           have hz7 := b7.size
           try simp only [World.size_drew, World.size_alloc] at hz7
           first | have t6 := s6.keep b7 s6.size | have t6 := (s6.alloc _).keep b7 (s6.alloc _).size
           first | have st7 := st6.keep b7 | have st7 := (st6.boxNew (.int .i64 0) (.slice none 0 0) 40).keep b7)
        | (go_at_call 83; skip; refine (toInt64S_any _ (by first | (have q := st0.drew.sl 0 ⟨false, lo0, hi0, .slice p0 n0 q0, n0, f0⟩ rfl; dsimp only at q; with_reducible exact q) | (have q := (st0.boxNew (.int .i64 0) (.slice none 0 0) 40).drew.sl 0 ⟨false, lo0, hi0, .slice p0 n0 q0, n0, f0⟩ rfl; dsimp only at q; with_reducible exact q)) hn0).mono ?_; rintro e w6 ⟨a6, k6, rfl, s6, b6⟩
           have hz6 := b6.size
           try simp only [World.size_drew, World.size_alloc] at hz6
           first | have st6 := st0.drew.keep b6 | have st6 := (st0.boxNew (.int .i64 0) (.slice none 0 0) 40).drew.keep b6)
        | (go_at_call 61; have _h := b7; refine (HS.out _ _ _ _ _ (by first | with_reducible exact t6 | with_reducible exact (t6.alloc _))).mono ?_; rintro e w8 ⟨a8, k8, rfl, s8, b8⟩
           have hz8 := b8.size
           try simp only [World.size_drew, World.size_alloc] at hz8
           first | have st8 := st7.keep b8 | have st8 := (st7.boxNew (.int .i64 0) (.slice none 0 0) 40).keep b8
           try (obtain ⟨o0, o1⟩ := (st8.box 0 (_, [.int .i64 0, .slice none 0 0]) rfl).cell2
                have oz := (st8.box 0 (_, [.int .i64 0, .slice none 0 0]) rfl).2.2
                dsimp only at oz
                try simp only [World.size_alloc, World.size_drew] at o0 o1 oz)))
    all_goals
      go_wp2_with fail
      go_meet
      try simp only [World.size_drew, World.size_alloc] at s8
      first
        | exact ⟨w8.heap.size, _, _, a8, k8, rfl, rfl, s8.alloc _, .inr (Nat.le_refl _), by omega, by omega, by simp, by simp, st8.boxNew _ _ _⟩
        | (have stb := st8.boxSet (u0 := .int .i64 R0) (u1 := .slice a8 N0 k8) (by (try simp only [World.size_alloc, World.size_drew]); omega)
               (by (try simp only [World.size_alloc, World.size_drew]); intro b hb; simp only [List.mem_cons, List.not_mem_nil, or_false] at hb; rcases hb with rfl <;> dsimp only <;> omega)
               (by (try simp only [World.size_alloc, World.size_drew]); intro s hs'; simp only [List.mem_cons, List.not_mem_nil, or_false] at hs'; rcases hs' with rfl <;> dsimp only <;> omega)
           try simp only [World.size_alloc, World.size_drew] at stb
           exact ⟨_, _, _, a8, k8, rfl, rfl, (s8.setOther (.inl (by dsimp only; omega)) _).setOther (.inl (by dsimp only; omega)) _, .inl (by omega), by omega, by omega, by simp only [World.size_setCell]; omega, by simp, stb⟩)
  case rest =>
    obtain ⟨bq1, loq1, hiq1, aq1, kq1, rfl, rfl, hs_w1, hd_w1, hl_w1, hb_w1, hz_w1, hh_w1, st1⟩ := hcut
    try clear st0
    try clear c_a1_0
    try clear c_a1_1
    try clear c_a1_2
    obtain ⟨w1, hw_w1⟩ : ∃ x : World, x = wc := ⟨_, rfl⟩
    subst hw_w1
    replace st1 := st1.addSl ⟨true, loq1, hiq1, .slice aq1 N0 kq1, N0, G0⟩ hs_w1
    have c_a1_0 := (st1.box 1 (w.heap.size, [.int .i64 x1, .int .i64 y1, .int .i64 z1]) rfl).2.1 0 _ rfl
    have c_a1_1 := (st1.box 1 (w.heap.size, [.int .i64 x1, .int .i64 y1, .int .i64 z1]) rfl).2.1 1 _ rfl
    have c_a1_2 := (st1.box 1 (w.heap.size, [.int .i64 x1, .int .i64 y1, .int .i64 z1]) rfl).2.1 2 _ rfl
    have q_0 := st1.sl 1 ⟨false, lo0, hi0, .slice p0 n0 q0, n0, f0⟩ rfl
    dsimp only at q_0
    go_wp2_with fail
    refine (toInt64S_any _ q_0 hn0).mono ?_
    rintro e w2 ⟨aw2, kw2, rfl, sw2, bw2⟩
    have st2 := st1.keep bw2
    have hz_w2 := bw2.size
    try simp only [World.size_alloc] at hz_w2
    try simp only [World.size_alloc] at sw2
    replace st2 := st2.addSl ⟨true, w1.heap.size, w2.heap.size, .slice aw2 n0 kw2, n0, f0⟩ sw2
    clear st1 bw2 sw2
    clear c_a1_0 c_a1_1 c_a1_2 q_0
    have c_a1_0 := (st2.box 1 (w.heap.size, [.int .i64 x1, .int .i64 y1, .int .i64 z1]) rfl).2.1 0 _ rfl
    have c_a1_1 := (st2.box 1 (w.heap.size, [.int .i64 x1, .int .i64 y1, .int .i64 z1]) rfl).2.1 1 _ rfl
    have c_a1_2 := (st2.box 1 (w.heap.size, [.int .i64 x1, .int .i64 y1, .int .i64 z1]) rfl).2.1 2 _ rfl
    go_wp2_with fail
    refine (toCharacter_any _ _ _ _).mono ?_
    rintro e w3 ⟨rfl, bw3⟩
    have st3 := st2.keep bw3
    have hz_w3 := bw3.size
    try simp only [World.size_alloc] at hz_w3
    clear st2 bw3 
    clear c_a1_0 c_a1_1 c_a1_2
    have q_0 := st3.sl 0 ⟨true, w1.heap.size, w2.heap.size, .slice aw2 n0 kw2, n0, f0⟩ rfl
    dsimp only at q_0
    go_wp2_with fail
    refine (HI.out _ _ _ _ _ q_0).mono ?_
    rintro e w4 ⟨aw4, kw4, rfl, sw4, bw4⟩
    have st4 := st3.keep bw4
    have hz_w4 := bw4.size
    try simp only [World.size_alloc] at hz_w4
    try simp only [World.size_alloc] at sw4
    replace st4 := st4.addSl ⟨true, w3.heap.size, w4.heap.size, .slice aw4 N0 kw4, N0, G0⟩ sw4
    replace st4 := (st4.alloc (.cells #[.int .i64 R0, .slice aw4 N0 kw4] 40)).addBox w4.heap.size [.int .i64 R0, .slice aw4 N0 kw4] (Box.made _ _ _ _ (fun j v h => by simpa using h))
    clear st3 bw4 sw4
    clear q_0
    obtain ⟨c_g0_0, c_g0_1⟩ := (st4.box 0 (w4.heap.size, [.int .i64 R0, .slice aw4 N0 kw4]) rfl).cell2
    obtain ⟨c_w0_0, c_w0_1⟩ := (st4.box 1 (bq1, [.int .i64 R0, .slice aq1 N0 kq1]) rfl).cell2
    have q_x := st4.sl 0 ⟨true, w3.heap.size, w4.heap.size, .slice aw4 N0 kw4, N0, G0⟩ rfl
    dsimp only at q_x
    have q_y := st4.sl 2 ⟨true, loq1, hiq1, .slice aq1 N0 kq1, N0, G0⟩ rfl
    dsimp only at q_y
    go_wp2_with fail
    refine (eqCyclo_yes _ _ q_x q_y (fun _ _ => rfl)).mono ?_
    rintro e w5 ⟨rfl, bw5⟩
    have st5 := st4.keep bw5
    have hz_w5 := bw5.size
    try simp only [World.size_alloc] at hz_w5
    clear st4 bw5 
    clear c_g0_0 c_g0_1 c_w0_0 c_w0_1 q_x q_y
    have q_0 := st5.sl 3 ⟨false, lo0, hi0, .slice p0 n0 q0, n0, f0⟩ rfl
    dsimp only at q_0
    go_wp2_with fail
    refine (toInt64S_any _ q_0 hn0).mono ?_
    rintro e w6 ⟨aw6, kw6, rfl, sw6, bw6⟩
    have st6 := st5.keep bw6
    have hz_w6 := bw6.size
    try simp only [World.size_alloc] at hz_w6
    try simp only [World.size_alloc] at sw6
    replace st6 := st6.addSl ⟨true, w5.heap.size, w6.heap.size, .slice aw6 n0 kw6, n0, f0⟩ sw6
    clear st5 bw6 sw6
    clear q_0
    have q_x := st6.sl 2 ⟨true, w1.heap.size, w2.heap.size, .slice aw2 n0 kw2, n0, f0⟩ rfl
    dsimp only at q_x
    have q_y := st6.sl 0 ⟨true, w5.heap.size, w6.heap.size, .slice aw6 n0 kw6, n0, f0⟩ rfl
    dsimp only at q_y
    go_wp2_with fail
    refine (eqInt64S_yes _ q_x q_y (fun _ _ => rfl)).mono ?_
    rintro e w7 ⟨rfl, bw7⟩
    have st7 := st6.keep bw7
    have hz_w7 := bw7.size
    try simp only [World.size_alloc] at hz_w7
    clear st6 bw7 
    clear q_x q_y
    have q_x := st7.sl 2 ⟨true, w1.heap.size, w2.heap.size, .slice aw2 n0 kw2, n0, f0⟩ rfl
    dsimp only at q_x
    go_wp2_with fail
    refine (markInt64S_any _ _ q_x (by omega) (by omega) (by omega)).mono ?_
    rintro e w8 ⟨rfl, sw8, fw8⟩
    have st8 := st7.writeTo fw8 (by omega) (by intro b hb; simp only [List.mem_cons, List.not_mem_nil, or_false] at hb; rcases hb with rfl | rfl | rfl <;> dsimp only <;> omega)
      [⟨true, w5.heap.size, w6.heap.size, .slice aw6 n0 kw6, n0, f0⟩, ⟨true, w3.heap.size, w4.heap.size, .slice aw4 N0 kw4, N0, G0⟩, ⟨true, loq1, hiq1, .slice aq1 N0 kq1, N0, G0⟩, ⟨false, lo0, hi0, .slice p0 n0 q0, n0, f0⟩] (by intro s hs; simp only [List.mem_cons, List.not_mem_nil, or_false] at hs; rcases hs with rfl | rfl | rfl | rfl <;> refine ⟨by simp, ?_⟩ <;> dsimp only <;> omega)
    replace st8 := st8.addSl ⟨true, w1.heap.size, w2.heap.size, .slice aw2 n0 kw2, n0, (fun j : Nat => 1 + (j : Int))⟩ sw8
    have hz_w8 := fw8.size
    try simp only [World.size_alloc] at hz_w8
    clear st7 sw8 fw8
    clear q_x
    obtain ⟨c_g0_0, c_g0_1⟩ := (st8.box 0 (w4.heap.size, [.int .i64 R0, .slice aw4 N0 kw4]) rfl).cell2
    obtain ⟨c_w0_0, c_w0_1⟩ := (st8.box 1 (bq1, [.int .i64 R0, .slice aq1 N0 kq1]) rfl).cell2
    have q_x := st8.sl 2 ⟨true, w3.heap.size, w4.heap.size, .slice aw4 N0 kw4, N0, G0⟩ rfl
    dsimp only at q_x
    have q_y := st8.sl 3 ⟨true, loq1, hiq1, .slice aq1 N0 kq1, N0, G0⟩ rfl
    dsimp only at q_y
    go_wp2_with fail
    refine (eqCyclo_yes _ _ q_x q_y (fun _ _ => rfl)).mono ?_
    rintro e w9 ⟨rfl, bw9⟩
    have st9 := st8.keep bw9
    have hz_w9 := bw9.size
    try simp only [World.size_alloc] at hz_w9
    clear st8 bw9 
    clear c_g0_0 c_g0_1 c_w0_0 c_w0_1 q_x q_y
    obtain ⟨c_g0_0, c_g0_1⟩ := (st9.box 0 (w4.heap.size, [.int .i64 R0, .slice aw4 N0 kw4]) rfl).cell2
    have q_x := st9.sl 2 ⟨true, w3.heap.size, w4.heap.size, .slice aw4 N0 kw4, N0, G0⟩ rfl
    dsimp only at q_x
    go_wp2_with fail
    refine (markCyclo_any _ _ _ q_x (by omega) (by omega) (by omega)).mono ?_
    rintro e w10 ⟨rfl, sw10, fw10⟩
    have st10 := st9.writeTo fw10 (by omega) (by intro b hb; simp only [List.mem_cons, List.not_mem_nil, or_false] at hb; rcases hb with rfl | rfl | rfl <;> dsimp only <;> omega)
      [⟨true, w1.heap.size, w2.heap.size, .slice aw2 n0 kw2, n0, (fun j : Nat => 1 + (j : Int))⟩, ⟨true, w5.heap.size, w6.heap.size, .slice aw6 n0 kw6, n0, f0⟩, ⟨true, loq1, hiq1, .slice aq1 N0 kq1, N0, G0⟩, ⟨false, lo0, hi0, .slice p0 n0 q0, n0, f0⟩] (by intro s hs; simp only [List.mem_cons, List.not_mem_nil, or_false] at hs; rcases hs with rfl | rfl | rfl | rfl <;> refine ⟨by simp, ?_⟩ <;> dsimp only <;> omega)
    replace st10 := st10.addSl ⟨true, w3.heap.size, w4.heap.size, .slice aw4 N0 kw4, N0, (fun j : Nat => 1 + (j : Int))⟩ sw10
    have hz_w10 := fw10.size
    try simp only [World.size_alloc] at hz_w10
    clear st9 sw10 fw10
    clear c_g0_0 c_g0_1 q_x
    obtain ⟨c_g0_0, c_g0_1⟩ := (st10.box 0 (w4.heap.size, [.int .i64 R0, .slice aw4 N0 kw4]) rfl).cell2
    have q_x := st10.sl 0 ⟨true, w3.heap.size, w4.heap.size, .slice aw4 N0 kw4, N0, (fun j : Nat => 1 + (j : Int))⟩ rfl
    dsimp only at q_x
    go_wp2_with fail
    refine (heldCyclo_any _ _ _ q_x (by omega) (by omega) (by omega)).mono ?_
    rintro e w11 ⟨rfl, bw11⟩
    have st11 := st10.keep bw11
    have hz_w11 := bw11.size
    try simp only [World.size_alloc] at hz_w11
    clear st10 bw11 
    clear c_g0_0 c_g0_1 q_x
    have c_a1_0 := (st11.box 2 (w.heap.size, [.int .i64 x1, .int .i64 y1, .int .i64 z1]) rfl).2.1 0 _ rfl
    have c_a1_1 := (st11.box 2 (w.heap.size, [.int .i64 x1, .int .i64 y1, .int .i64 z1]) rfl).2.1 1 _ rfl
    have c_a1_2 := (st11.box 2 (w.heap.size, [.int .i64 x1, .int .i64 y1, .int .i64 z1]) rfl).2.1 2 _ rfl
    go_wp2_with fail
    go_cut [13, 14] (fun s0 s1 wx => ∃ bq loq hiq aq kq, s0 = .pointer (some ⟨bq, 0, none⟩) ∧ s1 = .int .i64 C1 ∧ Sl true wx loq hiq (.slice aq N0 kq) N0 G0 ∧ (bq < loq ∨ hiq ≤ bq) ∧ w11.heap.size ≤ loq ∧ w11.heap.size ≤ bq ∧ bq < wx.heap.size ∧ hiq ≤ wx.heap.size ∧ St w wx ((bq, [.int .i64 R0, .slice aq N0 kq]) :: [(w4.heap.size, [.int .i64 R0, .slice aw4 N0 kw4]), (bq1, [.int .i64 R0, .slice aq1 N0 kq1]), (w.heap.size, [.int .i64 x1, .int .i64 y1, .int .i64 z1])]) [⟨true, w3.heap.size, w4.heap.size, .slice aw4 N0 kw4, N0, (fun j : Nat => 1 + (j : Int))⟩, ⟨true, w1.heap.size, w2.heap.size, .slice aw2 n0 kw2, n0, (fun j : Nat => 1 + (j : Int))⟩, ⟨true, w5.heap.size, w6.heap.size, .slice aw6 n0 kw6, n0, f0⟩, ⟨true, loq1, hiq1, .slice aq1 N0 kq1, N0, G0⟩, ⟨false, lo0, hi0, .slice p0 n0 q0, n0, f0⟩])
    case first =>
      go_region_held3 (fun w' => w'.cell? ⟨w.heap.size, 0, none⟩ = some (.int .i64 x1) ∧ w'.cell? ⟨w.heap.size, 1, none⟩ = some (.int .i64 y1) ∧ w'.cell? ⟨w.heap.size, 2, none⟩ = some (.int .i64 z1))
        (first | exact ⟨c_a1_0, c_a1_1, c_a1_2⟩ | (have q0 := (st8.box 2 (w.heap.size, [.int .i64 x1, .int .i64 y1, .int .i64 z1]) rfl).cell3; with_reducible exact ⟨q0.1, q0.2.1, q0.2.2⟩) | (have q0 := (st8.box 3 (w.heap.size, [.int .i64 x1, .int .i64 y1, .int .i64 z1]) rfl).cell3; with_reducible exact ⟨q0.1, q0.2.1, q0.2.2⟩) | (have q0 := ((st8.boxNew (.int .i64 0) (.slice none 0 0) 40).box 3 (w.heap.size, [.int .i64 x1, .int .i64 y1, .int .i64 z1]) rfl).cell3; with_reducible exact ⟨q0.1, q0.2.1, q0.2.2⟩) | (have q0 := (st7.box 2 (w.heap.size, [.int .i64 x1, .int .i64 y1, .int .i64 z1]) rfl).cell3; with_reducible exact ⟨q0.1, q0.2.1, q0.2.2⟩) | (have q0 := (st7.box 3 (w.heap.size, [.int .i64 x1, .int .i64 y1, .int .i64 z1]) rfl).cell3; with_reducible exact ⟨q0.1, q0.2.1, q0.2.2⟩) | (have q0 := ((st7.boxNew (.int .i64 0) (.slice none 0 0) 40).box 3 (w.heap.size, [.int .i64 x1, .int .i64 y1, .int .i64 z1]) rfl).cell3; with_reducible exact ⟨q0.1, q0.2.1, q0.2.2⟩) | (have q0 := (st6.box 2 (w.heap.size, [.int .i64 x1, .int .i64 y1, .int .i64 z1]) rfl).cell3; with_reducible exact ⟨q0.1, q0.2.1, q0.2.2⟩) | (have q0 := (st6.box 3 (w.heap.size, [.int .i64 x1, .int .i64 y1, .int .i64 z1]) rfl).cell3; with_reducible exact ⟨q0.1, q0.2.1, q0.2.2⟩) | (have q0 := ((st6.boxNew (.int .i64 0) (.slice none 0 0) 40).box 3 (w.heap.size, [.int .i64 x1, .int .i64 y1, .int .i64 z1]) rfl).cell3; with_reducible exact ⟨q0.1, q0.2.1, q0.2.2⟩) | (have q0 := ((st8.boxNew (.int .i64 R0) (.slice a8 N0 k8) 40).box 3 (w.heap.size, [.int .i64 x1, .int .i64 y1, .int .i64 z1]) rfl).cell3; with_reducible exact ⟨q0.1, q0.2.1, q0.2.2⟩) | (have q0 := ((st11.boxNew (.int .i64 0) (.slice none 0 0) 40).box 3 (w.heap.size, [.int .i64 x1, .int .i64 y1, .int .i64 z1]) rfl).cell3; with_reducible exact ⟨q0.1, q0.2.1, q0.2.2⟩) | (have q0 := ((st11.boxNew (.int .i64 0) (.slice none 0 0) 40).drew.box 3 (w.heap.size, [.int .i64 x1, .int .i64 y1, .int .i64 z1]) rfl).cell3; with_reducible exact ⟨q0.1, q0.2.1, q0.2.2⟩) | (have q0 := (st11.drew.box 2 (w.heap.size, [.int .i64 x1, .int .i64 y1, .int .i64 z1]) rfl).cell3; with_reducible exact ⟨q0.1, q0.2.1, q0.2.2⟩) | exact ⟨cell_set2 (st8.box 3 (w.heap.size, [.int .i64 x1, .int .i64 y1, .int .i64 z1]) rfl).cell3.1 (by omega), cell_set2 (st8.box 3 (w.heap.size, [.int .i64 x1, .int .i64 y1, .int .i64 z1]) rfl).cell3.2.1 (by omega), cell_set2 (st8.box 3 (w.heap.size, [.int .i64 x1, .int .i64 y1, .int .i64 z1]) rfl).cell3.2.2 (by omega)⟩)
        (first
          | (go_at_call 72; have _g := b6; refine (toCharacter_any _ _ _ _).mono ?_; rintro e w7 ⟨rfl, b7⟩
             have hz7 := b7.size
             try simp only [World.size_drew, World.size_alloc] at hz7
             first | have t6 := s6.keep b7 s6.size | have t6 := (s6.alloc _).keep b7 (s6.alloc _).size
             first | have st7 := st6.keep b7 | have st7 := (st6.boxNew (.int .i64 0) (.slice none 0 0) 40).keep b7)
          | (go_at_call 83; skip; refine (toInt64S_any _ (by first | (have q := st11.drew.sl 4 ⟨false, lo0, hi0, .slice p0 n0 q0, n0, f0⟩ rfl; dsimp only at q; with_reducible exact q) | (have q := (st11.boxNew (.int .i64 0) (.slice none 0 0) 40).drew.sl 4 ⟨false, lo0, hi0, .slice p0 n0 q0, n0, f0⟩ rfl; dsimp only at q; with_reducible exact q)) hn0).mono ?_; rintro e w6 ⟨a6, k6, rfl, s6, b6⟩
             have hz6 := b6.size
             try simp only [World.size_drew, World.size_alloc] at hz6
             first | have st6 := st11.drew.keep b6 | have st6 := (st11.boxNew (.int .i64 0) (.slice none 0 0) 40).drew.keep b6)
          | (go_at_call 60; have _h := b7; refine (HI.out _ _ _ _ _ (by first | with_reducible exact t6 | with_reducible exact (t6.alloc _))).mono ?_; rintro e w8 ⟨a8, k8, rfl, s8, b8⟩
             have hz8 := b8.size
             try simp only [World.size_drew, World.size_alloc] at hz8
             first | have st8 := st7.keep b8 | have st8 := (st7.boxNew (.int .i64 0) (.slice none 0 0) 40).keep b8
             try (obtain ⟨o0, o1⟩ := (st8.box 0 (_, [.int .i64 0, .slice none 0 0]) rfl).cell2
                  have oz := (st8.box 0 (_, [.int .i64 0, .slice none 0 0]) rfl).2.2
                  dsimp only at oz
                  try simp only [World.size_alloc, World.size_drew] at o0 o1 oz)))
      all_goals
        go_wp2_with fail
        go_meet
        try simp only [World.size_drew, World.size_alloc] at s8
        first
          | exact ⟨w8.heap.size, _, _, a8, k8, rfl, rfl, s8.alloc _, .inr (Nat.le_refl _), by omega, by omega, by simp, by simp, st8.boxNew _ _ _⟩
          | (have stb := st8.boxSet (u0 := .int .i64 R0) (u1 := .slice a8 N0 k8) (by (try simp only [World.size_alloc, World.size_drew]); omega)
                 (by (try simp only [World.size_alloc, World.size_drew]); intro b hb; simp only [List.mem_cons, List.not_mem_nil, or_false] at hb; rcases hb with rfl | rfl | rfl <;> dsimp only <;> omega)
                 (by (try simp only [World.size_alloc, World.size_drew]); intro s hs'; simp only [List.mem_cons, List.not_mem_nil, or_false] at hs'; rcases hs' with rfl | rfl | rfl | rfl | rfl <;> dsimp only <;> omega)
             try simp only [World.size_alloc, World.size_drew] at stb
             exact ⟨_, _, _, a8, k8, rfl, rfl, (s8.setOther (.inl (by dsimp only; omega)) _).setOther (.inl (by dsimp only; omega)) _, .inl (by omega), by omega, by omega, by simp only [World.size_setCell]; omega, by simp, stb⟩)
    case rest =>
      obtain ⟨bq2, loq2, hiq2, aq2, kq2, rfl, rfl, hs_w12, hd_w12, hl_w12, hb_w12, hz_w12, hh_w12, st12⟩ := hcut
      try clear st11
      try clear c_a1_0
      try clear c_a1_1
      try clear c_a1_2
      obtain ⟨w12, hw_w12⟩ : ∃ x : World, x = wc := ⟨_, rfl⟩
      subst hw_w12
      replace st12 := st12.addSl ⟨true, loq2, hiq2, .slice aq2 N0 kq2, N0, G0⟩ hs_w12
      obtain ⟨c_h0_0, c_h0_1⟩ := (st12.box 0 (bq2, [.int .i64 R0, .slice aq2 N0 kq2]) rfl).cell2
      obtain ⟨c_w0_0, c_w0_1⟩ := (st12.box 2 (bq1, [.int .i64 R0, .slice aq1 N0 kq1]) rfl).cell2
      have q_x := st12.sl 0 ⟨true, loq2, hiq2, .slice aq2 N0 kq2, N0, G0⟩ rfl
      dsimp only at q_x
      have q_y := st12.sl 4 ⟨true, loq1, hiq1, .slice aq1 N0 kq1, N0, G0⟩ rfl
      dsimp only at q_y
      go_wp2_with fail
      refine (eqCyclo_yes _ _ q_x q_y (fun _ _ => rfl)).mono ?_
      rintro e w13 ⟨rfl, bw13⟩
      have st13 := st12.keep bw13
      have hz_w13 := bw13.size
      try simp only [World.size_alloc] at hz_w13
      clear st12 bw13 
      clear c_h0_0 c_h0_1 c_w0_0 c_w0_1 q_x q_y
      obtain ⟨c_g0_0, c_g0_1⟩ := (st13.box 1 (w4.heap.size, [.int .i64 R0, .slice aw4 N0 kw4]) rfl).cell2
      have q_x := st13.sl 1 ⟨true, w3.heap.size, w4.heap.size, .slice aw4 N0 kw4, N0, (fun j : Nat => 1 + (j : Int))⟩ rfl
      dsimp only at q_x
      go_wp2_with fail
      refine (heldCyclo_any _ _ _ q_x (by omega) (by omega) (by omega)).mono ?_
      rintro e w14 ⟨rfl, bw14⟩
      have st14 := st13.keep bw14
      have hz_w14 := bw14.size
      try simp only [World.size_alloc] at hz_w14
      clear st13 bw14 
      clear c_g0_0 c_g0_1 q_x
      go_wp2_with fail
      go_ret
      exact ⟨rfl, st14.1⟩

theorem walk_big0 (w : World) {lo0 hi0 n0 : Nat} {v0 : Value} {f0 : Nat → Int} (hs0 : Sl false w lo0 hi0 v0 n0 f0) (x1 y1 z1 : Int)  (hn0 : 1048576 < n0) :
    Calls Try.prog 17 #[v0, .agg #[.int .i64 x1, .int .i64 y1, .int .i64 z1]] w fun e w' => e = .returned (.bool true) ∧ Below w.heap.size w w' := by
  obtain ⟨p0, c0, rfl⟩ := hs0.shape
  have hm0 := hs0.len
  have hm0' := hm0
  unfold maxLen at hm0'
  clear hs0
  go_enter Try.func17, Try.ntmps17
  go_wp2
  go_ret
  exact ⟨rfl, by go_grown⟩

theorem walk (w : World) {lo0 hi0 n0 : Nat} {v0 : Value} {f0 : Nat → Int} (hs0 : Sl false w lo0 hi0 v0 n0 f0) (x1 y1 z1 : Int) (_hx1 : inR x1) (_hy1 : inR y1) (_hz1 : inR z1) :
    Calls Try.prog 17 #[v0, .agg #[.int .i64 x1, .int .i64 y1, .int .i64 z1]] w fun e w' => e = .returned (.bool true) ∧ Below w.heap.size w w' := by
  by_cases hL : n0 ≤ 1048576
  · by_cases h : ChP x1 y1 z1
    · obtain ⟨P, N, K, rfl, rfl, rfl, h1, h2, h3, h4, h5⟩ := h.nat
      have hp := phi_le12 N (by omega) (by omega)
      by_cases ht : n0 = P ∧ Within f0 n0 1000000
      · obtain ⟨rfl, ht⟩ := ht
        exact walk_of w n0 f0 n0 N K hs0 N (phiN N) (sumZ n0 N K f0 n0) 0 (by omega) (by omega) (fun w _ _ _ _ hs => SumWith_spec_ok n0 N K h1 h2 h3 h4 h5 w hs ht) (fun w _ _ _ _ hs => SumWith_impl_ok n0 N K h1 h2 h3 h4 h5 w hs ht)
      · exact walk_of w n0 f0 P N K hs0 0 0 (fun _ => 0) 2 (by omega) (by omega) (fun w _ _ _ _ hs => fail_form (SumWith_spec_out P N K h1 h2 h3 h4 h5 w hs ht)) (fun w _ _ _ _ hs => fail_form (SumWith_impl_out P N K h1 h2 h3 h4 h5 w hs ht))
    · exact walk_of w n0 f0 x1 y1 z1 hs0 0 0 (fun _ => 0) 1 (by omega) (by omega) (fun w _ _ _ _ hs => fail_form (SumWith_spec_bad x1 y1 z1 h w hs)) (fun w _ _ _ _ hs => fail_form (SumWith_impl_bad x1 y1 z1 h w hs))
  · exact walk_big0 w hs0 x1 y1 z1 (by omega)

theorem own : ownKnob Try.prog.godebug = none := by kernel_rfl
theorem laidOut : laidOutB Try.prog = true := by kernel_rfl
set_option maxRecDepth 100000 in
theorem lifted (os : Os) (started : os.Started) (H : Type) (enc : TypeId × Value → H) :
    ReturnsInHanded {} Try.checked os 17 .any (Rows.fnExactSumWithSpec.pre6 enc Try.prog Try.f17 Rows.fnExactSumWithRow.domain false) (Rows.fnExactSumWithSpec.post enc Try.prog Try.f17 false true false false) := by
  refine returnsInHanded_of_change (C := Try.checked) own started (by kernel_rfl) Try.func17
    (ChangeSpec.witness6 (enc := enc) (C := Try.checked) false ⟨#[], #[.slice none 0 0, .agg #[.int .i64 0, .int .i64 0, .int .i64 0]], []⟩ 8 (by kernel_rfl) (by kernel_rfl) (by kernel_rfl) (by kernel_rfl)) ?_
  intro W base args ds gs before hval0 hW hcnd _
  have hval : ∀ (j : Nat) t v, Try.f17.params[j]? = some t → args[j]? = some v → Value.okWide Try.prog W .any base t v := hval0
  have hW' := hW
  obtain ⟨p, q, hA0, hV, rfl, hfz, hnd⟩ := hW
  have hA : DataW.TrodAll enc Try.prog W 0 (fun _ => true) true Try.f17.params.toList args.toList ds p := hA0
  rw [Try.params17] at hA hval
  obtain ⟨v0, vs0, d0, ds0, p0, q0, hargs, rfl, rfl, h0, r0⟩ := trodAll_cons hA
  obtain ⟨v1, vs1, d1, ds1, p1, q1, rfl, rfl, rfl, h1, r1⟩ := trodAll_cons r0
  obtain ⟨rfl, rfl, rfl⟩ := trodAll_nil r1
  obtain rfl : args = #[v0, v1] := by cases args; simp_all
  obtain ⟨rfl, rfl⟩ := trodVars_none hV
  have k0 := h0
  have lt0 : ∀ x ∈ p0, x.block < W.heap.size := by obtain ⟨m, hm⟩ := k0; exact DataW.trod_lt m _ _ _ hm
  obtain ⟨n0, f0, s0⟩ : ∃ n f, Sl false W 0 W.heap.size v0 n f := by
    obtain ⟨a, len, cap, rfl⟩ := okWide_slice Try.underlying32 (hval 0 32 v0 rfl rfl)
    obtain ⟨fuel, hf⟩ := h0
    exact Sl.came Try.underlying32 Try.underlying2 (by kernel_rfl) (by simpa [Value.cells] using hf)
  have k1 := h1
  have lt1 : ∀ x ∈ p1, x.block < W.heap.size := by obtain ⟨m, hm⟩ := k1; exact DataW.trod_lt m _ _ _ hm
  obtain ⟨x1, y1, z1, rfl, wx1, wy1, wz1⟩ : ∃ x y z, v1 = .agg #[.int .i64 x, .int .i64 y, .int .i64 z] ∧ inR x ∧ inR y ∧ inR z := by
    obtain ⟨c0, c1, c2, y0, y1, y2, m, rfl, _, _, hy0, hy1, hy2⟩ := Joins.open_agg3 Try.underlying64 (by kernel_rfl) (by kernel_rfl) (hval 1 64 v1 rfl rfl) h1
    obtain ⟨x, e0, _, wx⟩ := DataW.trod_int Try.underlying2 hy0
    obtain ⟨y, e1, _, wy⟩ := DataW.trod_int Try.underlying2 hy1
    obtain ⟨z, e2, _, wz⟩ := DataW.trod_int Try.underlying2 hy2
    simp at e0 e1 e2
    exact ⟨x, y, z, by rw [e0, e1, e2], inR_wf wx, inR_wf wy, inR_wf wz⟩
  clear hA0 hval0
  refine (walk W s0 x1 y1 z1 wx1 wy1 wz1).mono fun e W' ⟨he, bel⟩ => ?_
  subst he
  exact ⟨_, rfl, _, _, _, [], _, [], hW', trodAll_mk1 (shut_bool Try.underlying4 _), (trodAll_cons_mk (Below.trod laidOut (by kernel_rfl) (of_decide_eq_true (by kernel_rfl)) k0 bel lt0) (trodAll_cons_mk (Below.trod laidOut (by kernel_rfl) (of_decide_eq_true (by kernel_rfl)) k1 bel lt1) trodAll_mk0)), rfl, bel.frame _, fun h => by cases h⟩

theorem over : Rows.fnExactSumWithRow.holds Try.pinned (OpenSpec.ofChange Rows.fnExactSumWithSpec) :=
  OpenClaim.holds_of_wide 17 Try.f17 rfl rfl rfl rfl rfl rfl rfl ⟨rfl, rfl, rfl, rfl, rfl⟩ rfl rfl rfl rfl rfl (by kernel_rfl) Try.func17 (by unfold joinedFacts; exact (and_tt (and_tt (and_tt (and_tt (and_tt (and_tt (and_tt (and_tt (and_tt (and_tt (and_tt (and_tt (and_tt (and_tt (and_tt (and_tt (and_tt (and_tt (and_tt (and_tt (and_tt (and_tt (and_tt (and_tt (and_tt (and_tt (and_tt (and_tt (and_tt (and_tt (and_tt (by kernel_rfl) (by kernel_rfl)) (by kernel_rfl)) (by kernel_rfl)) (by kernel_rfl)) (by kernel_rfl)) (by kernel_rfl)) (by kernel_rfl)) (by kernel_rfl)) (by kernel_rfl)) (by kernel_rfl)) (by kernel_rfl)) (by kernel_rfl)) (by kernel_rfl)) (by kernel_rfl)) (by kernel_rfl)) (by kernel_rfl)) (by kernel_rfl)) (by kernel_rfl)) (by kernel_rfl)) (by kernel_rfl)) (by kernel_rfl)) (by kernel_rfl)) (by kernel_rfl)) (by kernel_rfl)) init_enter) (tt_lifts init_lifts rfl)) (tt_make init_make rfl)) (by kernel_rfl)) (by kernel_rfl)) (by kernel_rfl)) (by kernel_rfl)))
    (of_decide_eq_true (by kernel_rfl)) (by unfold Func.isWrapper; first | (rw [if_pos (by decide +kernel)]; kernel_rfl) | (rw [if_neg (by decide +kernel)]; exact ⟨rfl, rfl⟩))
    (fun os started H enc _ => lifted os started H enc)

theorem proved : Rows.FnExactSumWithSaid := over
#print axioms proved
end fnExactSumWith
end Go.Proofs.Ytkcofcppmlndiaa
