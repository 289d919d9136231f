/- MultiplyRings answers as its model, for every argument. No condition. -/
import Derived.Test.YtonopjbccdpbhaaRgMs
import Derived.Test.YtonopjbccdpbhaaCopyR
import Derived.Test.YtonopjbccdpbhaaFail
import Derived.Test.YtonopjbccdpbhaaSet2
import Derived.Test.YtonopjbccdpbhaaCopy
import Derived.Deep.RegionHeld3
import Derived.Deep.DeepCutAuto
import Derived.ShutString
import Derived.ChangeOld
import Derived.Lib.SmallJoins
import Derived.Test.YtonopjbccdpbhaaInit
namespace Go.Proofs.Ytonopjbccdpbhaa
open Go.RowKit Go.ChangeShapes Go.Sort Go.WideShapes Go.ChangeAt
set_option linter.unusedVariables false
set_option linter.unusedSimpArgs false
namespace fnExactMultiplyRings
set_option maxRecDepth 100000 in
set_option maxHeartbeats 4000000 in
theorem walk_of (w : World) (x0 : Int) (n0 : Nat) (f0 : Nat → Int) (x1 : Int) (n1 : Nat) (f1 : Nat → Int) {lo0 hi0 : Nat} {u0 : Value} (hs0 : Sl false w lo0 hi0 u0 n0 f0) {lo1 hi1 : Nat} {u1 : Value} (hs1 : Sl false w lo1 hi1 u1 n1 f1) (R0 : Int) (N0 : Nat) (G0 : Nat → Int) (C1 : Int) (hn0 : n0 ≤ 1048576) (hn1 : n1 ≤ 1048576) (hnn : n0 + n1 ≤ 1048576) (hN0 : N0 ≤ 1048576)
    (hS : ∀ (w : World) (o0 : Bool) (l0 h0 : Nat) (v0 : Value) (_ : Sl o0 w l0 h0 v0 n0 f0) (o1 : Bool) (l1 h1 : Nat) (v1 : Value) (_ : Sl o1 w l1 h1 v1 n1 f1), Calls Try.prog 26 #[.agg #[.int .i64 x0, v0], .agg #[.int .i64 x1, v1]] w fun e w' => ∃ a0' k0', e = .returned (.tuple #[.agg #[.int .i64 R0, .slice a0' N0 k0'], .int .i64 C1]) ∧ Sl true w' w.heap.size w'.heap.size (.slice a0' N0 k0') N0 G0 ∧ Below w.heap.size w w')
    (hI : ∀ (w : World) (o0 : Bool) (l0 h0 : Nat) (v0 : Value) (_ : Sl o0 w l0 h0 v0 n0 f0) (o1 : Bool) (l1 h1 : Nat) (v1 : Value) (_ : Sl o1 w l1 h1 v1 n1 f1), Calls Try.prog 25 #[.agg #[.int .i64 x0, v0], .agg #[.int .i64 x1, v1]] w fun e w' => ∃ a0' k0', e = .returned (.tuple #[.agg #[.int .i64 R0, .slice a0' N0 k0'], .int .i64 C1]) ∧ Sl true w' w.heap.size w'.heap.size (.slice a0' N0 k0') N0 G0 ∧ Below w.heap.size w w') :
    Calls Try.prog 13 #[.agg #[.int .i64 x0, u0], .agg #[.int .i64 x1, u1]] w fun e w' => e = .returned (.bool true) ∧ Below w.heap.size w w' := by
  obtain ⟨p0, q0, rfl⟩ := hs0.shape
  obtain ⟨p1, q1, rfl⟩ := hs1.shape
  have HS := Lib.hid hS; clear hS
  have HI := Lib.hid hI; clear hI
  have st0 := St.start w
  have hh0 := hs0.size
  replace st0 := st0.addSl ⟨false, lo0, hi0, .slice p0 n0 q0, n0, f0⟩ hs0
  have hh1 := hs1.size
  replace st0 := st0.addSl ⟨false, lo1, hi1, .slice p1 n1 q1, n1, f1⟩ hs1
  replace st0 := (st0.alloc (.cells #[.int .i64 x0, .slice p0 n0 q0] 80)).addBox _ [.int .i64 x0, .slice p0 n0 q0] (Box.made _ _ _ _ (fun j v h => by simpa using h))
  replace st0 := (st0.alloc (.cells #[.int .i64 x1, .slice p1 n1 q1] 80)).addBox _ [.int .i64 x1, .slice p1 n1 q1] (Box.made _ _ _ _ (fun j v h => by simpa using h))
  simp only [World.size_alloc] at st0
  clear hs0 hs1
  go_enter Try.func13, Try.ntmps13
  go_wp2_with fail
  refine (szRing_yes _ _ _ _ _ (by omega) (by omega)).mono ?_
  rintro e w1 ⟨rfl, bw1⟩
  have st1 := st0.keep bw1
  have hz_w1 := bw1.size
  try simp only [World.size_alloc] at hz_w1
  clear st0 bw1 
  obtain ⟨c_a0_0, c_a0_1⟩ := (st1.box 1 (w.heap.size, [.int .i64 x0, .slice p0 n0 q0]) rfl).cell2
  obtain ⟨c_a1_0, c_a1_1⟩ := (st1.box 0 (w.heap.size + 1, [.int .i64 x1, .slice p1 n1 q1]) rfl).cell2
  go_wp2_with fail
  refine (szRing_yes _ _ _ _ _ (by omega) (by omega)).mono ?_
  rintro e w2 ⟨rfl, bw2⟩
  have st2 := st1.keep bw2
  have hz_w2 := bw2.size
  try simp only [World.size_alloc] at hz_w2
  clear st1 bw2 
  clear c_a0_0 c_a0_1 c_a1_0 c_a1_1
  obtain ⟨c_a0_0, c_a0_1⟩ := (st2.box 1 (w.heap.size, [.int .i64 x0, .slice p0 n0 q0]) rfl).cell2
  obtain ⟨c_a1_0, c_a1_1⟩ := (st2.box 0 (w.heap.size + 1, [.int .i64 x1, .slice p1 n1 q1]) rfl).cell2
  go_wp2_with fail
  go_cut [6, 7] (fun s0 s1 wx => ∃ bq loq hiq aq kq, s0 = .pointer (some ⟨bq, 0, none⟩) ∧ s1 = .int .i64 C1 ∧ Sl true wx loq hiq (.slice aq N0 kq) N0 G0 ∧ (bq < loq ∨ hiq ≤ bq) ∧ w2.heap.size ≤ loq ∧ w2.heap.size ≤ bq ∧ bq < wx.heap.size ∧ hiq ≤ wx.heap.size ∧ St w wx ((bq, [.int .i64 R0, .slice aq N0 kq]) :: [(w.heap.size + 1, [.int .i64 x1, .slice p1 n1 q1]), (w.heap.size, [.int .i64 x0, .slice p0 n0 q0])]) [⟨false, lo1, hi1, .slice p1 n1 q1, n1, f1⟩, ⟨false, lo0, hi0, .slice p0 n0 q0, n0, f0⟩])
  case first =>
    go_region_held3 (fun w' => w'.cell? ⟨w.heap.size, 0, none⟩ = some (.int .i64 x0) ∧ w'.cell? ⟨w.heap.size, 1, none⟩ = some (.slice p0 n0 q0) ∧ w'.cell? ⟨w.heap.size + 1, 0, none⟩ = some (.int .i64 x1) ∧ w'.cell? ⟨w.heap.size + 1, 1, none⟩ = some (.slice p1 n1 q1))
      (first | exact ⟨c_a0_0, c_a0_1, c_a1_0, c_a1_1⟩ | (have q0 := (st8.box 1 (w.heap.size, [.int .i64 x0, .slice p0 n0 q0]) rfl).cell2; have q1 := (st8.box 0 (w.heap.size + 1, [.int .i64 x1, .slice p1 n1 q1]) rfl).cell2; with_reducible exact ⟨q0.1, q0.2, q1.1, q1.2⟩) | (have q0 := (st8.box 2 (w.heap.size, [.int .i64 x0, .slice p0 n0 q0]) rfl).cell2; have q1 := (st8.box 1 (w.heap.size + 1, [.int .i64 x1, .slice p1 n1 q1]) rfl).cell2; with_reducible exact ⟨q0.1, q0.2, q1.1, q1.2⟩) | (have q0 := ((st8.boxNew (.int .i64 0) (.slice none 0 0) 26).box 2 (w.heap.size, [.int .i64 x0, .slice p0 n0 q0]) rfl).cell2; have q1 := ((st8.boxNew (.int .i64 0) (.slice none 0 0) 26).box 1 (w.heap.size + 1, [.int .i64 x1, .slice p1 n1 q1]) rfl).cell2; with_reducible exact ⟨q0.1, q0.2, q1.1, q1.2⟩) | (have q0 := (st7.box 1 (w.heap.size, [.int .i64 x0, .slice p0 n0 q0]) rfl).cell2; have q1 := (st7.box 0 (w.heap.size + 1, [.int .i64 x1, .slice p1 n1 q1]) rfl).cell2; with_reducible exact ⟨q0.1, q0.2, q1.1, q1.2⟩) | (have q0 := (st7.box 2 (w.heap.size, [.int .i64 x0, .slice p0 n0 q0]) rfl).cell2; have q1 := (st7.box 1 (w.heap.size + 1, [.int .i64 x1, .slice p1 n1 q1]) rfl).cell2; with_reducible exact ⟨q0.1, q0.2, q1.1, q1.2⟩) | (have q0 := ((st7.boxNew (.int .i64 0) (.slice none 0 0) 26).box 2 (w.heap.size, [.int .i64 x0, .slice p0 n0 q0]) rfl).cell2; have q1 := ((st7.boxNew (.int .i64 0) (.slice none 0 0) 26).box 1 (w.heap.size + 1, [.int .i64 x1, .slice p1 n1 q1]) rfl).cell2; with_reducible exact ⟨q0.1, q0.2, q1.1, q1.2⟩) | (have q0 := (st6.box 1 (w.heap.size, [.int .i64 x0, .slice p0 n0 q0]) rfl).cell2; have q1 := (st6.box 0 (w.heap.size + 1, [.int .i64 x1, .slice p1 n1 q1]) rfl).cell2; with_reducible exact ⟨q0.1, q0.2, q1.1, q1.2⟩) | (have q0 := (st6.box 2 (w.heap.size, [.int .i64 x0, .slice p0 n0 q0]) rfl).cell2; have q1 := (st6.box 1 (w.heap.size + 1, [.int .i64 x1, .slice p1 n1 q1]) rfl).cell2; with_reducible exact ⟨q0.1, q0.2, q1.1, q1.2⟩) | (have q0 := ((st6.boxNew (.int .i64 0) (.slice none 0 0) 26).box 2 (w.heap.size, [.int .i64 x0, .slice p0 n0 q0]) rfl).cell2; have q1 := ((st6.boxNew (.int .i64 0) (.slice none 0 0) 26).box 1 (w.heap.size + 1, [.int .i64 x1, .slice p1 n1 q1]) rfl).cell2; with_reducible exact ⟨q0.1, q0.2, q1.1, q1.2⟩) | (have q0 := ((st8.boxNew (.int .i64 R0) (.slice a8 N0 k8) 26).box 2 (w.heap.size, [.int .i64 x0, .slice p0 n0 q0]) rfl).cell2; have q1 := ((st8.boxNew (.int .i64 R0) (.slice a8 N0 k8) 26).box 1 (w.heap.size + 1, [.int .i64 x1, .slice p1 n1 q1]) rfl).cell2; with_reducible exact ⟨q0.1, q0.2, q1.1, q1.2⟩) | (have q0 := ((st2.boxNew (.int .i64 0) (.slice none 0 0) 26).box 2 (w.heap.size, [.int .i64 x0, .slice p0 n0 q0]) rfl).cell2; have q1 := ((st2.boxNew (.int .i64 0) (.slice none 0 0) 26).box 1 (w.heap.size + 1, [.int .i64 x1, .slice p1 n1 q1]) rfl).cell2; with_reducible exact ⟨q0.1, q0.2, q1.1, q1.2⟩) | (have q0 := ((st2.boxNew (.int .i64 0) (.slice none 0 0) 26).drew.box 2 (w.heap.size, [.int .i64 x0, .slice p0 n0 q0]) rfl).cell2; have q1 := ((st2.boxNew (.int .i64 0) (.slice none 0 0) 26).drew.box 1 (w.heap.size + 1, [.int .i64 x1, .slice p1 n1 q1]) rfl).cell2; with_reducible exact ⟨q0.1, q0.2, q1.1, q1.2⟩) | (have q0 := (st2.drew.box 1 (w.heap.size, [.int .i64 x0, .slice p0 n0 q0]) rfl).cell2; have q1 := (st2.drew.box 0 (w.heap.size + 1, [.int .i64 x1, .slice p1 n1 q1]) rfl).cell2; with_reducible exact ⟨q0.1, q0.2, q1.1, q1.2⟩) | exact ⟨cell_set2 (st8.box 2 (w.heap.size, [.int .i64 x0, .slice p0 n0 q0]) rfl).cell2.1 (by omega), cell_set2 (st8.box 2 (w.heap.size, [.int .i64 x0, .slice p0 n0 q0]) rfl).cell2.2 (by omega), cell_set2 (st8.box 1 (w.heap.size + 1, [.int .i64 x1, .slice p1 n1 q1]) rfl).cell2.1 (by omega), cell_set2 (st8.box 1 (w.heap.size + 1, [.int .i64 x1, .slice p1 n1 q1]) rfl).cell2.2 (by omega)⟩)
      (first
        | (go_at_call 89; have _g := b6; refine (toRing_any _ _ (by first | (have q := st6.sl 0 ⟨false, lo1, hi1, .slice p1 n1 q1, n1, f1⟩ rfl; dsimp only at q; with_reducible exact q) | (have q := (st6.boxNew (.int .i64 0) (.slice none 0 0) 26).sl 0 ⟨false, lo1, hi1, .slice p1 n1 q1, n1, f1⟩ rfl; dsimp only at q; with_reducible exact q)) hn1).mono ?_; rintro e w7 ⟨a7, k7, rfl, s7, b7⟩
           have hz7 := b7.size
           try simp only [World.size_drew, World.size_alloc] at hz7
           first | have t6 := s6.keep b7 s6.size | have t6 := (s6.alloc _).keep b7 (s6.alloc _).size
           first | have st7 := st6.keep b7 | have st7 := (st6.boxNew (.int .i64 0) (.slice none 0 0) 26).keep b7)
        | (go_at_call 89; skip; refine (toRing_any _ _ (by first | (have q := st2.drew.sl 1 ⟨false, lo0, hi0, .slice p0 n0 q0, n0, f0⟩ rfl; dsimp only at q; with_reducible exact q) | (have q := (st2.boxNew (.int .i64 0) (.slice none 0 0) 26).drew.sl 1 ⟨false, lo0, hi0, .slice p0 n0 q0, n0, f0⟩ rfl; dsimp only at q; with_reducible exact q)) hn0).mono ?_; rintro e w6 ⟨a6, k6, rfl, s6, b6⟩
           have hz6 := b6.size
           try simp only [World.size_drew, World.size_alloc] at hz6
           first | have st6 := st2.drew.keep b6 | have st6 := (st2.boxNew (.int .i64 0) (.slice none 0 0) 26).drew.keep b6)
        | (go_at_call 26; refine (HS.out _ _ _ _ _ (by first | with_reducible exact t6 | with_reducible exact (t6.alloc _)) _ _ _ _ (by first | with_reducible exact s7 | with_reducible exact (s7.alloc _))).mono ?_; rintro e w8 ⟨a8, k8, rfl, s8, b8⟩
           have hz8 := b8.size
           try simp only [World.size_drew, World.size_alloc] at hz8
           first | have st8 := st7.keep b8 | have st8 := (st7.boxNew (.int .i64 0) (.slice none 0 0) 26).keep b8
           try (obtain ⟨o0, o1⟩ := (st8.box 0 (_, [.int .i64 0, .slice none 0 0]) rfl).cell2
                have oz := (st8.box 0 (_, [.int .i64 0, .slice none 0 0]) rfl).2.2
                dsimp only at oz
                try simp only [World.size_alloc, World.size_drew] at o0 o1 oz)))
    all_goals
      go_wp2_with fail
      go_meet
      try simp only [World.size_drew, World.size_alloc] at s8
      first
        | exact ⟨w8.heap.size, _, _, a8, k8, rfl, rfl, s8.alloc _, .inr (Nat.le_refl _), by omega, by omega, by simp, by simp, st8.boxNew _ _ _⟩
        | (have stb := st8.boxSet (u0 := .int .i64 R0) (u1 := .slice a8 N0 k8) (by (try simp only [World.size_alloc, World.size_drew]); omega)
               (by (try simp only [World.size_alloc, World.size_drew]); intro b hb; simp only [List.mem_cons, List.not_mem_nil, or_false] at hb; rcases hb with rfl | rfl <;> dsimp only <;> omega)
               (by (try simp only [World.size_alloc, World.size_drew]); intro s hs'; simp only [List.mem_cons, List.not_mem_nil, or_false] at hs'; rcases hs' with rfl | rfl <;> dsimp only <;> omega)
           try simp only [World.size_alloc, World.size_drew] at stb
           exact ⟨_, _, _, a8, k8, rfl, rfl, (s8.setOther (.inl (by dsimp only; omega)) _).setOther (.inl (by dsimp only; omega)) _, .inl (by omega), by omega, by omega, by simp only [World.size_setCell]; omega, by simp, stb⟩)
  case rest =>
    obtain ⟨bq1, loq1, hiq1, aq1, kq1, rfl, rfl, hs_w3, hd_w3, hl_w3, hb_w3, hz_w3, hh_w3, st3⟩ := hcut
    try clear st2
    try clear c_a0_0
    try clear c_a0_1
    try clear c_a1_0
    try clear c_a1_1
    obtain ⟨w3, hw_w3⟩ : ∃ x : World, x = wc := ⟨_, rfl⟩
    subst hw_w3
    replace st3 := st3.addSl ⟨true, loq1, hiq1, .slice aq1 N0 kq1, N0, G0⟩ hs_w3
    obtain ⟨c_a0_0, c_a0_1⟩ := (st3.box 2 (w.heap.size, [.int .i64 x0, .slice p0 n0 q0]) rfl).cell2
    obtain ⟨c_a1_0, c_a1_1⟩ := (st3.box 1 (w.heap.size + 1, [.int .i64 x1, .slice p1 n1 q1]) rfl).cell2
    have q_0 := st3.sl 2 ⟨false, lo0, hi0, .slice p0 n0 q0, n0, f0⟩ rfl
    dsimp only at q_0
    go_wp2_with fail
    refine (toRing_any _ _ q_0 hn0).mono ?_
    rintro e w4 ⟨aw4, kw4, rfl, sw4, bw4⟩
    have st4 := st3.keep bw4
    have hz_w4 := bw4.size
    try simp only [World.size_alloc] at hz_w4
    try simp only [World.size_alloc] at sw4
    replace st4 := st4.addSl ⟨true, w3.heap.size, w4.heap.size, .slice aw4 n0 kw4, n0, f0⟩ sw4
    replace st4 := (st4.alloc (.cells #[.int .i64 x0, .slice aw4 n0 kw4] 26)).addBox w4.heap.size [.int .i64 x0, .slice aw4 n0 kw4] (Box.made _ _ _ _ (fun j v h => by simpa using h))
    clear st3 bw4 sw4
    clear c_a0_0 c_a0_1 c_a1_0 c_a1_1 q_0
    obtain ⟨c_a0_0, c_a0_1⟩ := (st4.box 3 (w.heap.size, [.int .i64 x0, .slice p0 n0 q0]) rfl).cell2
    obtain ⟨c_a1_0, c_a1_1⟩ := (st4.box 2 (w.heap.size + 1, [.int .i64 x1, .slice p1 n1 q1]) rfl).cell2
    have q_1 := st4.sl 2 ⟨false, lo1, hi1, .slice p1 n1 q1, n1, f1⟩ rfl
    dsimp only at q_1
    go_wp2_with fail
    refine (toRing_any _ _ q_1 hn1).mono ?_
    rintro e w5 ⟨aw5, kw5, rfl, sw5, bw5⟩
    have st5 := st4.keep bw5
    have hz_w5 := bw5.size
    try simp only [World.size_alloc] at hz_w5
    try simp only [World.size_alloc] at sw5
    replace st5 := st5.addSl ⟨true, w4.heap.size + 1, w5.heap.size, .slice aw5 n1 kw5, n1, f1⟩ sw5
    replace st5 := (st5.alloc (.cells #[.int .i64 x1, .slice aw5 n1 kw5] 26)).addBox w5.heap.size [.int .i64 x1, .slice aw5 n1 kw5] (Box.made _ _ _ _ (fun j v h => by simpa using h))
    clear st4 bw5 sw5
    clear c_a0_0 c_a0_1 c_a1_0 c_a1_1 q_1
    obtain ⟨c_x0_0, c_x0_1⟩ := (st5.box 1 (w4.heap.size, [.int .i64 x0, .slice aw4 n0 kw4]) rfl).cell2
    obtain ⟨c_x1_0, c_x1_1⟩ := (st5.box 0 (w5.heap.size, [.int .i64 x1, .slice aw5 n1 kw5]) rfl).cell2
    have q_0 := st5.sl 1 ⟨true, w3.heap.size, w4.heap.size, .slice aw4 n0 kw4, n0, f0⟩ rfl
    dsimp only at q_0
    have q_1 := st5.sl 0 ⟨true, w4.heap.size + 1, w5.heap.size, .slice aw5 n1 kw5, n1, f1⟩ rfl
    dsimp only at q_1
    go_wp2_with fail
    refine (HI.out _ _ _ _ _ q_0 _ _ _ _ q_1).mono ?_
    rintro e w6 ⟨aw6, kw6, rfl, sw6, bw6⟩
    have st6 := st5.keep bw6
    have hz_w6 := bw6.size
    try simp only [World.size_alloc] at hz_w6
    try simp only [World.size_alloc] at sw6
    replace st6 := st6.addSl ⟨true, w5.heap.size + 1, w6.heap.size, .slice aw6 N0 kw6, N0, G0⟩ sw6
    replace st6 := (st6.alloc (.cells #[.int .i64 R0, .slice aw6 N0 kw6] 26)).addBox w6.heap.size [.int .i64 R0, .slice aw6 N0 kw6] (Box.made _ _ _ _ (fun j v h => by simpa using h))
    clear st5 bw6 sw6
    clear c_x0_0 c_x0_1 c_x1_0 c_x1_1 q_0 q_1
    obtain ⟨c_g0_0, c_g0_1⟩ := (st6.box 0 (w6.heap.size, [.int .i64 R0, .slice aw6 N0 kw6]) rfl).cell2
    obtain ⟨c_w0_0, c_w0_1⟩ := (st6.box 3 (bq1, [.int .i64 R0, .slice aq1 N0 kq1]) rfl).cell2
    have q_x := st6.sl 0 ⟨true, w5.heap.size + 1, w6.heap.size, .slice aw6 N0 kw6, N0, G0⟩ rfl
    dsimp only at q_x
    have q_y := st6.sl 3 ⟨true, loq1, hiq1, .slice aq1 N0 kq1, N0, G0⟩ rfl
    dsimp only at q_y
    go_wp2_with fail
    refine (eqRing_yes _ _ q_x q_y (fun _ _ => rfl)).mono ?_
    rintro e w7 ⟨rfl, bw7⟩
    have st7 := st6.keep bw7
    have hz_w7 := bw7.size
    try simp only [World.size_alloc] at hz_w7
    clear st6 bw7 
    clear c_g0_0 c_g0_1 c_w0_0 c_w0_1 q_x q_y
    obtain ⟨c_x0_0, c_x0_1⟩ := (st7.box 2 (w4.heap.size, [.int .i64 x0, .slice aw4 n0 kw4]) rfl).cell2
    obtain ⟨c_a0_0, c_a0_1⟩ := (st7.box 5 (w.heap.size, [.int .i64 x0, .slice p0 n0 q0]) rfl).cell2
    go_wp2_with fail
    go_cut [58] (fun sx wx => sx = .bool false ∧ w7.heap.size ≤ wx.heap.size ∧ St w wx [(w6.heap.size, [.int .i64 R0, .slice aw6 N0 kw6]), (w5.heap.size, [.int .i64 x1, .slice aw5 n1 kw5]), (w4.heap.size, [.int .i64 x0, .slice aw4 n0 kw4]), (bq1, [.int .i64 R0, .slice aq1 N0 kq1]), (w.heap.size + 1, [.int .i64 x1, .slice p1 n1 q1]), (w.heap.size, [.int .i64 x0, .slice p0 n0 q0])] [⟨true, w5.heap.size + 1, w6.heap.size, .slice aw6 N0 kw6, N0, G0⟩, ⟨true, w4.heap.size + 1, w5.heap.size, .slice aw5 n1 kw5, n1, f1⟩, ⟨true, w3.heap.size, w4.heap.size, .slice aw4 n0 kw4, n0, f0⟩, ⟨true, loq1, hiq1, .slice aq1 N0 kq1, N0, G0⟩, ⟨false, lo1, hi1, .slice p1 n1 q1, n1, f1⟩, ⟨false, lo0, hi0, .slice p0 n0 q0, n0, f0⟩])
    case first =>
      go_region_held3 (fun w' => w'.cell? ⟨w4.heap.size, 0, none⟩ = some (.int .i64 x0) ∧ w'.cell? ⟨w4.heap.size, 1, none⟩ = some (.slice aw4 n0 kw4) ∧ w'.cell? ⟨w.heap.size, 0, none⟩ = some (.int .i64 x0) ∧ w'.cell? ⟨w.heap.size, 1, none⟩ = some (.slice p0 n0 q0))
        (first | exact ⟨c_x0_0, c_x0_1, c_a0_0, c_a0_1⟩ | exact ⟨cell_later b6 c_x0_0, cell_later b6 c_x0_1, cell_later b6 c_a0_0, cell_later b6 c_a0_1⟩ | exact ⟨cell_later b7 (cell_later b6 c_x0_0), cell_later b7 (cell_later b6 c_x0_1), cell_later b7 (cell_later b6 c_a0_0), cell_later b7 (cell_later b6 c_a0_1)⟩)
        (first
          | (go_at_call 89; refine (toRing_any _ _ (st7.drew.sl 5 ⟨false, lo0, hi0, .slice p0 n0 q0, n0, f0⟩ rfl) hn0).mono ?_; rintro e w6 ⟨a6, k6, rfl, s6, b6⟩)
          | (go_at_call 90; refine (eqRing_yes _ _ ((st7.drew.keep b6).sl 2 ⟨true, w3.heap.size, w4.heap.size, .slice aw4 n0 kw4, n0, f0⟩ rfl) s6 (fun _ _ => rfl)).mono ?_; rintro e w7 ⟨rfl, b7⟩))
      all_goals (go_wp2_with fail; go_meet; exact ⟨rfl, (by have z6 := b6.size; have z7 := b7.size; simp only [World.size_drew, World.size_alloc] at z6 z7 ⊢; omega), (st7.drew.keep b6).keep b7⟩)
    case rest =>
      obtain ⟨rfl, hz_w8, st8⟩ := hcut
      try clear st7
      try clear c_x0_0
      try clear c_x0_1
      try clear c_a0_0
      try clear c_a0_1
      obtain ⟨w8, hw_w8⟩ : ∃ x : World, x = wc := ⟨_, rfl⟩
      subst hw_w8
      obtain ⟨c_x1_0, c_x1_1⟩ := (st8.box 1 (w5.heap.size, [.int .i64 x1, .slice aw5 n1 kw5]) rfl).cell2
      obtain ⟨c_a1_0, c_a1_1⟩ := (st8.box 4 (w.heap.size + 1, [.int .i64 x1, .slice p1 n1 q1]) rfl).cell2
      go_wp2_with fail
      go_cut [63] (fun sx wx => sx = .bool false ∧ w8.heap.size ≤ wx.heap.size ∧ St w wx [(w6.heap.size, [.int .i64 R0, .slice aw6 N0 kw6]), (w5.heap.size, [.int .i64 x1, .slice aw5 n1 kw5]), (w4.heap.size, [.int .i64 x0, .slice aw4 n0 kw4]), (bq1, [.int .i64 R0, .slice aq1 N0 kq1]), (w.heap.size + 1, [.int .i64 x1, .slice p1 n1 q1]), (w.heap.size, [.int .i64 x0, .slice p0 n0 q0])] [⟨true, w5.heap.size + 1, w6.heap.size, .slice aw6 N0 kw6, N0, G0⟩, ⟨true, w4.heap.size + 1, w5.heap.size, .slice aw5 n1 kw5, n1, f1⟩, ⟨true, w3.heap.size, w4.heap.size, .slice aw4 n0 kw4, n0, f0⟩, ⟨true, loq1, hiq1, .slice aq1 N0 kq1, N0, G0⟩, ⟨false, lo1, hi1, .slice p1 n1 q1, n1, f1⟩, ⟨false, lo0, hi0, .slice p0 n0 q0, n0, f0⟩])
      case first =>
        go_region_held3 (fun w' => w'.cell? ⟨w5.heap.size, 0, none⟩ = some (.int .i64 x1) ∧ w'.cell? ⟨w5.heap.size, 1, none⟩ = some (.slice aw5 n1 kw5) ∧ w'.cell? ⟨w.heap.size + 1, 0, none⟩ = some (.int .i64 x1) ∧ w'.cell? ⟨w.heap.size + 1, 1, none⟩ = some (.slice p1 n1 q1))
          (first | exact ⟨c_x1_0, c_x1_1, c_a1_0, c_a1_1⟩ | exact ⟨cell_later b6 c_x1_0, cell_later b6 c_x1_1, cell_later b6 c_a1_0, cell_later b6 c_a1_1⟩ | exact ⟨cell_later b7 (cell_later b6 c_x1_0), cell_later b7 (cell_later b6 c_x1_1), cell_later b7 (cell_later b6 c_a1_0), cell_later b7 (cell_later b6 c_a1_1)⟩)
          (first
            | (go_at_call 89; refine (toRing_any _ _ (st8.drew.sl 4 ⟨false, lo1, hi1, .slice p1 n1 q1, n1, f1⟩ rfl) hn1).mono ?_; rintro e w6 ⟨a6, k6, rfl, s6, b6⟩)
            | (go_at_call 90; refine (eqRing_yes _ _ ((st8.drew.keep b6).sl 1 ⟨true, w4.heap.size + 1, w5.heap.size, .slice aw5 n1 kw5, n1, f1⟩ rfl) s6 (fun _ _ => rfl)).mono ?_; rintro e w7 ⟨rfl, b7⟩))
        all_goals (go_wp2_with fail; go_meet; exact ⟨rfl, (by have z6 := b6.size; have z7 := b7.size; simp only [World.size_drew, World.size_alloc] at z6 z7 ⊢; omega), (st8.drew.keep b6).keep b7⟩)
      case rest =>
        obtain ⟨rfl, hz_w9, st9⟩ := hcut
        try clear st8
        try clear c_x1_0
        try clear c_x1_1
        try clear c_a1_0
        try clear c_a1_1
        obtain ⟨w9, hw_w9⟩ : ∃ x : World, x = wc := ⟨_, rfl⟩
        subst hw_w9
        obtain ⟨c_x0_0, c_x0_1⟩ := (st9.box 2 (w4.heap.size, [.int .i64 x0, .slice aw4 n0 kw4]) rfl).cell2
        have q_x := st9.sl 2 ⟨true, w3.heap.size, w4.heap.size, .slice aw4 n0 kw4, n0, f0⟩ rfl
        dsimp only at q_x
        go_wp2_with fail
        refine (markRing_any _ _ _ q_x (by omega) (by omega) (by omega)).mono ?_
        rintro e w10 ⟨rfl, sw10, fw10⟩
        have st10 := st9.writeTo fw10 (by omega) (by intro b hb; simp only [List.mem_cons, List.not_mem_nil, or_false] at hb; rcases hb with rfl | rfl | rfl | rfl | rfl | rfl <;> dsimp only <;> omega)
          [⟨true, w5.heap.size + 1, w6.heap.size, .slice aw6 N0 kw6, N0, G0⟩, ⟨true, w4.heap.size + 1, w5.heap.size, .slice aw5 n1 kw5, n1, f1⟩, ⟨true, loq1, hiq1, .slice aq1 N0 kq1, N0, G0⟩, ⟨false, lo1, hi1, .slice p1 n1 q1, n1, f1⟩, ⟨false, lo0, hi0, .slice p0 n0 q0, n0, f0⟩] (by intro s hs; simp only [List.mem_cons, List.not_mem_nil, or_false] at hs; rcases hs with rfl | rfl | rfl | rfl | rfl <;> refine ⟨by simp, ?_⟩ <;> dsimp only <;> omega)
        replace st10 := st10.addSl ⟨true, w3.heap.size, w4.heap.size, .slice aw4 n0 kw4, n0, (fun j : Nat => 1 + (j : Int))⟩ sw10
        have hz_w10 := fw10.size
        try simp only [World.size_alloc] at hz_w10
        clear st9 sw10 fw10
        clear c_x0_0 c_x0_1 q_x
        obtain ⟨c_x1_0, c_x1_1⟩ := (st10.box 1 (w5.heap.size, [.int .i64 x1, .slice aw5 n1 kw5]) rfl).cell2
        have q_x := st10.sl 2 ⟨true, w4.heap.size + 1, w5.heap.size, .slice aw5 n1 kw5, n1, f1⟩ rfl
        dsimp only at q_x
        go_wp2_with fail
        refine (markRing_any _ _ _ q_x (by omega) (by omega) (by omega)).mono ?_
        rintro e w11 ⟨rfl, sw11, fw11⟩
        have st11 := st10.writeTo fw11 (by omega) (by intro b hb; simp only [List.mem_cons, List.not_mem_nil, or_false] at hb; rcases hb with rfl | rfl | rfl | rfl | rfl | rfl <;> dsimp only <;> omega)
          [⟨true, w3.heap.size, w4.heap.size, .slice aw4 n0 kw4, n0, (fun j : Nat => 1 + (j : Int))⟩, ⟨true, w5.heap.size + 1, w6.heap.size, .slice aw6 N0 kw6, N0, G0⟩, ⟨true, loq1, hiq1, .slice aq1 N0 kq1, N0, G0⟩, ⟨false, lo1, hi1, .slice p1 n1 q1, n1, f1⟩, ⟨false, lo0, hi0, .slice p0 n0 q0, n0, f0⟩] (by intro s hs; simp only [List.mem_cons, List.not_mem_nil, or_false] at hs; rcases hs with rfl | rfl | rfl | rfl | rfl <;> refine ⟨by simp, ?_⟩ <;> dsimp only <;> omega)
        replace st11 := st11.addSl ⟨true, w4.heap.size + 1, w5.heap.size, .slice aw5 n1 kw5, n1, (fun j : Nat => (1 + (n0 : Int)) + (j : Int))⟩ sw11
        have hz_w11 := fw11.size
        try simp only [World.size_alloc] at hz_w11
        clear st10 sw11 fw11
        clear c_x1_0 c_x1_1 q_x
        obtain ⟨c_g0_0, c_g0_1⟩ := (st11.box 0 (w6.heap.size, [.int .i64 R0, .slice aw6 N0 kw6]) rfl).cell2
        obtain ⟨c_w0_0, c_w0_1⟩ := (st11.box 3 (bq1, [.int .i64 R0, .slice aq1 N0 kq1]) rfl).cell2
        have q_x := st11.sl 2 ⟨true, w5.heap.size + 1, w6.heap.size, .slice aw6 N0 kw6, N0, G0⟩ rfl
        dsimp only at q_x
        have q_y := st11.sl 3 ⟨true, loq1, hiq1, .slice aq1 N0 kq1, N0, G0⟩ rfl
        dsimp only at q_y
        go_wp2_with fail
        refine (eqRing_yes _ _ q_x q_y (fun _ _ => rfl)).mono ?_
        rintro e w12 ⟨rfl, bw12⟩
        have st12 := st11.keep bw12
        have hz_w12 := bw12.size
        try simp only [World.size_alloc] at hz_w12
        clear st11 bw12 
        clear c_g0_0 c_g0_1 c_w0_0 c_w0_1 q_x q_y
        obtain ⟨c_g0_0, c_g0_1⟩ := (st12.box 0 (w6.heap.size, [.int .i64 R0, .slice aw6 N0 kw6]) rfl).cell2
        have q_x := st12.sl 2 ⟨true, w5.heap.size + 1, w6.heap.size, .slice aw6 N0 kw6, N0, G0⟩ rfl
        dsimp only at q_x
        go_wp2_with fail
        refine (markRing_any _ _ _ q_x (by omega) (by omega) (by omega)).mono ?_
        rintro e w13 ⟨rfl, sw13, fw13⟩
        have st13 := st12.writeTo fw13 (by omega) (by intro b hb; simp only [List.mem_cons, List.not_mem_nil, or_false] at hb; rcases hb with rfl | rfl | rfl | rfl | rfl | rfl <;> dsimp only <;> omega)
          [⟨true, w4.heap.size + 1, w5.heap.size, .slice aw5 n1 kw5, n1, (fun j : Nat => (1 + (n0 : Int)) + (j : Int))⟩, ⟨true, w3.heap.size, w4.heap.size, .slice aw4 n0 kw4, n0, (fun j : Nat => 1 + (j : Int))⟩, ⟨true, loq1, hiq1, .slice aq1 N0 kq1, N0, G0⟩, ⟨false, lo1, hi1, .slice p1 n1 q1, n1, f1⟩, ⟨false, lo0, hi0, .slice p0 n0 q0, n0, f0⟩] (by intro s hs; simp only [List.mem_cons, List.not_mem_nil, or_false] at hs; rcases hs with rfl | rfl | rfl | rfl | rfl <;> refine ⟨by simp, ?_⟩ <;> dsimp only <;> omega)
        replace st13 := st13.addSl ⟨true, w5.heap.size + 1, w6.heap.size, .slice aw6 N0 kw6, N0, (fun j : Nat => 1 + (j : Int))⟩ sw13
        have hz_w13 := fw13.size
        try simp only [World.size_alloc] at hz_w13
        clear st12 sw13 fw13
        clear c_g0_0 c_g0_1 q_x
        obtain ⟨c_g0_0, c_g0_1⟩ := (st13.box 0 (w6.heap.size, [.int .i64 R0, .slice aw6 N0 kw6]) rfl).cell2
        have q_x := st13.sl 0 ⟨true, w5.heap.size + 1, w6.heap.size, .slice aw6 N0 kw6, N0, (fun j : Nat => 1 + (j : Int))⟩ rfl
        dsimp only at q_x
        go_wp2_with fail
        refine (heldRing_any _ _ _ q_x (by omega) (by omega) (by omega)).mono ?_
        rintro e w14 ⟨rfl, bw14⟩
        have st14 := st13.keep bw14
        have hz_w14 := bw14.size
        try simp only [World.size_alloc] at hz_w14
        clear st13 bw14 
        clear c_g0_0 c_g0_1 q_x
        obtain ⟨c_a0_0, c_a0_1⟩ := (st14.box 5 (w.heap.size, [.int .i64 x0, .slice p0 n0 q0]) rfl).cell2
        obtain ⟨c_a1_0, c_a1_1⟩ := (st14.box 4 (w.heap.size + 1, [.int .i64 x1, .slice p1 n1 q1]) rfl).cell2
        go_wp2_with fail
        go_cut [15, 16] (fun s0 s1 wx => ∃ bq loq hiq aq kq, s0 = .pointer (some ⟨bq, 0, none⟩) ∧ s1 = .int .i64 C1 ∧ Sl true wx loq hiq (.slice aq N0 kq) N0 G0 ∧ (bq < loq ∨ hiq ≤ bq) ∧ w14.heap.size ≤ loq ∧ w14.heap.size ≤ bq ∧ bq < wx.heap.size ∧ hiq ≤ wx.heap.size ∧ St w wx ((bq, [.int .i64 R0, .slice aq N0 kq]) :: [(w6.heap.size, [.int .i64 R0, .slice aw6 N0 kw6]), (w5.heap.size, [.int .i64 x1, .slice aw5 n1 kw5]), (w4.heap.size, [.int .i64 x0, .slice aw4 n0 kw4]), (bq1, [.int .i64 R0, .slice aq1 N0 kq1]), (w.heap.size + 1, [.int .i64 x1, .slice p1 n1 q1]), (w.heap.size, [.int .i64 x0, .slice p0 n0 q0])]) [⟨true, w5.heap.size + 1, w6.heap.size, .slice aw6 N0 kw6, N0, (fun j : Nat => 1 + (j : Int))⟩, ⟨true, w4.heap.size + 1, w5.heap.size, .slice aw5 n1 kw5, n1, (fun j : Nat => (1 + (n0 : Int)) + (j : Int))⟩, ⟨true, w3.heap.size, w4.heap.size, .slice aw4 n0 kw4, n0, (fun j : Nat => 1 + (j : Int))⟩, ⟨true, loq1, hiq1, .slice aq1 N0 kq1, N0, G0⟩, ⟨false, lo1, hi1, .slice p1 n1 q1, n1, f1⟩, ⟨false, lo0, hi0, .slice p0 n0 q0, n0, f0⟩])
        case first =>
          go_region_held3 (fun w' => w'.cell? ⟨w.heap.size, 0, none⟩ = some (.int .i64 x0) ∧ w'.cell? ⟨w.heap.size, 1, none⟩ = some (.slice p0 n0 q0) ∧ w'.cell? ⟨w.heap.size + 1, 0, none⟩ = some (.int .i64 x1) ∧ w'.cell? ⟨w.heap.size + 1, 1, none⟩ = some (.slice p1 n1 q1))
            (first | exact ⟨c_a0_0, c_a0_1, c_a1_0, c_a1_1⟩ | (have q0 := (st8.box 5 (w.heap.size, [.int .i64 x0, .slice p0 n0 q0]) rfl).cell2; have q1 := (st8.box 4 (w.heap.size + 1, [.int .i64 x1, .slice p1 n1 q1]) rfl).cell2; with_reducible exact ⟨q0.1, q0.2, q1.1, q1.2⟩) | (have q0 := (st8.box 6 (w.heap.size, [.int .i64 x0, .slice p0 n0 q0]) rfl).cell2; have q1 := (st8.box 5 (w.heap.size + 1, [.int .i64 x1, .slice p1 n1 q1]) rfl).cell2; with_reducible exact ⟨q0.1, q0.2, q1.1, q1.2⟩) | (have q0 := ((st8.boxNew (.int .i64 0) (.slice none 0 0) 26).box 6 (w.heap.size, [.int .i64 x0, .slice p0 n0 q0]) rfl).cell2; have q1 := ((st8.boxNew (.int .i64 0) (.slice none 0 0) 26).box 5 (w.heap.size + 1, [.int .i64 x1, .slice p1 n1 q1]) rfl).cell2; with_reducible exact ⟨q0.1, q0.2, q1.1, q1.2⟩) | (have q0 := (st7.box 5 (w.heap.size, [.int .i64 x0, .slice p0 n0 q0]) rfl).cell2; have q1 := (st7.box 4 (w.heap.size + 1, [.int .i64 x1, .slice p1 n1 q1]) rfl).cell2; with_reducible exact ⟨q0.1, q0.2, q1.1, q1.2⟩) | (have q0 := (st7.box 6 (w.heap.size, [.int .i64 x0, .slice p0 n0 q0]) rfl).cell2; have q1 := (st7.box 5 (w.heap.size + 1, [.int .i64 x1, .slice p1 n1 q1]) rfl).cell2; with_reducible exact ⟨q0.1, q0.2, q1.1, q1.2⟩) | (have q0 := ((st7.boxNew (.int .i64 0) (.slice none 0 0) 26).box 6 (w.heap.size, [.int .i64 x0, .slice p0 n0 q0]) rfl).cell2; have q1 := ((st7.boxNew (.int .i64 0) (.slice none 0 0) 26).box 5 (w.heap.size + 1, [.int .i64 x1, .slice p1 n1 q1]) rfl).cell2; with_reducible exact ⟨q0.1, q0.2, q1.1, q1.2⟩) | (have q0 := (st6.box 5 (w.heap.size, [.int .i64 x0, .slice p0 n0 q0]) rfl).cell2; have q1 := (st6.box 4 (w.heap.size + 1, [.int .i64 x1, .slice p1 n1 q1]) rfl).cell2; with_reducible exact ⟨q0.1, q0.2, q1.1, q1.2⟩) | (have q0 := (st6.box 6 (w.heap.size, [.int .i64 x0, .slice p0 n0 q0]) rfl).cell2; have q1 := (st6.box 5 (w.heap.size + 1, [.int .i64 x1, .slice p1 n1 q1]) rfl).cell2; with_reducible exact ⟨q0.1, q0.2, q1.1, q1.2⟩) | (have q0 := ((st6.boxNew (.int .i64 0) (.slice none 0 0) 26).box 6 (w.heap.size, [.int .i64 x0, .slice p0 n0 q0]) rfl).cell2; have q1 := ((st6.boxNew (.int .i64 0) (.slice none 0 0) 26).box 5 (w.heap.size + 1, [.int .i64 x1, .slice p1 n1 q1]) rfl).cell2; with_reducible exact ⟨q0.1, q0.2, q1.1, q1.2⟩) | (have q0 := ((st8.boxNew (.int .i64 R0) (.slice a8 N0 k8) 26).box 6 (w.heap.size, [.int .i64 x0, .slice p0 n0 q0]) rfl).cell2; have q1 := ((st8.boxNew (.int .i64 R0) (.slice a8 N0 k8) 26).box 5 (w.heap.size + 1, [.int .i64 x1, .slice p1 n1 q1]) rfl).cell2; with_reducible exact ⟨q0.1, q0.2, q1.1, q1.2⟩) | (have q0 := ((st14.boxNew (.int .i64 0) (.slice none 0 0) 26).box 6 (w.heap.size, [.int .i64 x0, .slice p0 n0 q0]) rfl).cell2; have q1 := ((st14.boxNew (.int .i64 0) (.slice none 0 0) 26).box 5 (w.heap.size + 1, [.int .i64 x1, .slice p1 n1 q1]) rfl).cell2; with_reducible exact ⟨q0.1, q0.2, q1.1, q1.2⟩) | (have q0 := ((st14.boxNew (.int .i64 0) (.slice none 0 0) 26).drew.box 6 (w.heap.size, [.int .i64 x0, .slice p0 n0 q0]) rfl).cell2; have q1 := ((st14.boxNew (.int .i64 0) (.slice none 0 0) 26).drew.box 5 (w.heap.size + 1, [.int .i64 x1, .slice p1 n1 q1]) rfl).cell2; with_reducible exact ⟨q0.1, q0.2, q1.1, q1.2⟩) | (have q0 := (st14.drew.box 5 (w.heap.size, [.int .i64 x0, .slice p0 n0 q0]) rfl).cell2; have q1 := (st14.drew.box 4 (w.heap.size + 1, [.int .i64 x1, .slice p1 n1 q1]) rfl).cell2; with_reducible exact ⟨q0.1, q0.2, q1.1, q1.2⟩) | exact ⟨cell_set2 (st8.box 6 (w.heap.size, [.int .i64 x0, .slice p0 n0 q0]) rfl).cell2.1 (by omega), cell_set2 (st8.box 6 (w.heap.size, [.int .i64 x0, .slice p0 n0 q0]) rfl).cell2.2 (by omega), cell_set2 (st8.box 5 (w.heap.size + 1, [.int .i64 x1, .slice p1 n1 q1]) rfl).cell2.1 (by omega), cell_set2 (st8.box 5 (w.heap.size + 1, [.int .i64 x1, .slice p1 n1 q1]) rfl).cell2.2 (by omega)⟩)
            (first
              | (go_at_call 89; have _g := b6; refine (toRing_any _ _ (by first | (have q := st6.sl 4 ⟨false, lo1, hi1, .slice p1 n1 q1, n1, f1⟩ rfl; dsimp only at q; with_reducible exact q) | (have q := (st6.boxNew (.int .i64 0) (.slice none 0 0) 26).sl 4 ⟨false, lo1, hi1, .slice p1 n1 q1, n1, f1⟩ rfl; dsimp only at q; with_reducible exact q)) hn1).mono ?_; rintro e w7 ⟨a7, k7, rfl, s7, b7⟩
                 have hz7 := b7.size
                 try simp only [World.size_drew, World.size_alloc] at hz7
                 first | have t6 := s6.keep b7 s6.size | have t6 := (s6.alloc _).keep b7 (s6.alloc _).size
                 first | have st7 := st6.keep b7 | have st7 := (st6.boxNew (.int .i64 0) (.slice none 0 0) 26).keep b7)
              | (go_at_call 89; skip; refine (toRing_any _ _ (by first | (have q := st14.drew.sl 5 ⟨false, lo0, hi0, .slice p0 n0 q0, n0, f0⟩ rfl; dsimp only at q; with_reducible exact q) | (have q := (st14.boxNew (.int .i64 0) (.slice none 0 0) 26).drew.sl 5 ⟨false, lo0, hi0, .slice p0 n0 q0, n0, f0⟩ rfl; dsimp only at q; with_reducible exact q)) hn0).mono ?_; rintro e w6 ⟨a6, k6, rfl, s6, b6⟩
                 have hz6 := b6.size
                 try simp only [World.size_drew, World.size_alloc] at hz6
                 first | have st6 := st14.drew.keep b6 | have st6 := (st14.boxNew (.int .i64 0) (.slice none 0 0) 26).drew.keep b6)
              | (go_at_call 25; refine (HI.out _ _ _ _ _ (by first | with_reducible exact t6 | with_reducible exact (t6.alloc _)) _ _ _ _ (by first | with_reducible exact s7 | with_reducible exact (s7.alloc _))).mono ?_; rintro e w8 ⟨a8, k8, rfl, s8, b8⟩
                 have hz8 := b8.size
                 try simp only [World.size_drew, World.size_alloc] at hz8
                 first | have st8 := st7.keep b8 | have st8 := (st7.boxNew (.int .i64 0) (.slice none 0 0) 26).keep b8
                 try (obtain ⟨o0, o1⟩ := (st8.box 0 (_, [.int .i64 0, .slice none 0 0]) rfl).cell2
                      have oz := (st8.box 0 (_, [.int .i64 0, .slice none 0 0]) rfl).2.2
                      dsimp only at oz
                      try simp only [World.size_alloc, World.size_drew] at o0 o1 oz)))
          all_goals
            go_wp2_with fail
            go_meet
            try simp only [World.size_drew, World.size_alloc] at s8
            first
              | exact ⟨w8.heap.size, _, _, a8, k8, rfl, rfl, s8.alloc _, .inr (Nat.le_refl _), by omega, by omega, by simp, by simp, st8.boxNew _ _ _⟩
              | (have stb := st8.boxSet (u0 := .int .i64 R0) (u1 := .slice a8 N0 k8) (by (try simp only [World.size_alloc, World.size_drew]); omega)
                     (by (try simp only [World.size_alloc, World.size_drew]); intro b hb; simp only [List.mem_cons, List.not_mem_nil, or_false] at hb; rcases hb with rfl | rfl | rfl | rfl | rfl | rfl <;> dsimp only <;> omega)
                     (by (try simp only [World.size_alloc, World.size_drew]); intro s hs'; simp only [List.mem_cons, List.not_mem_nil, or_false] at hs'; rcases hs' with rfl | rfl | rfl | rfl | rfl | rfl <;> dsimp only <;> omega)
                 try simp only [World.size_alloc, World.size_drew] at stb
                 exact ⟨_, _, _, a8, k8, rfl, rfl, (s8.setOther (.inl (by dsimp only; omega)) _).setOther (.inl (by dsimp only; omega)) _, .inl (by omega), by omega, by omega, by simp only [World.size_setCell]; omega, by simp, stb⟩)
        case rest =>
          obtain ⟨bq2, loq2, hiq2, aq2, kq2, rfl, rfl, hs_w15, hd_w15, hl_w15, hb_w15, hz_w15, hh_w15, st15⟩ := hcut
          try clear st14
          try clear c_a0_0
          try clear c_a0_1
          try clear c_a1_0
          try clear c_a1_1
          obtain ⟨w15, hw_w15⟩ : ∃ x : World, x = wc := ⟨_, rfl⟩
          subst hw_w15
          replace st15 := st15.addSl ⟨true, loq2, hiq2, .slice aq2 N0 kq2, N0, G0⟩ hs_w15
          obtain ⟨c_h0_0, c_h0_1⟩ := (st15.box 0 (bq2, [.int .i64 R0, .slice aq2 N0 kq2]) rfl).cell2
          obtain ⟨c_w0_0, c_w0_1⟩ := (st15.box 4 (bq1, [.int .i64 R0, .slice aq1 N0 kq1]) rfl).cell2
          have q_x := st15.sl 0 ⟨true, loq2, hiq2, .slice aq2 N0 kq2, N0, G0⟩ rfl
          dsimp only at q_x
          have q_y := st15.sl 4 ⟨true, loq1, hiq1, .slice aq1 N0 kq1, N0, G0⟩ rfl
          dsimp only at q_y
          go_wp2_with fail
          refine (eqRing_yes _ _ q_x q_y (fun _ _ => rfl)).mono ?_
          rintro e w16 ⟨rfl, bw16⟩
          have st16 := st15.keep bw16
          have hz_w16 := bw16.size
          try simp only [World.size_alloc] at hz_w16
          clear st15 bw16 
          clear c_h0_0 c_h0_1 c_w0_0 c_w0_1 q_x q_y
          obtain ⟨c_g0_0, c_g0_1⟩ := (st16.box 1 (w6.heap.size, [.int .i64 R0, .slice aw6 N0 kw6]) rfl).cell2
          have q_x := st16.sl 1 ⟨true, w5.heap.size + 1, w6.heap.size, .slice aw6 N0 kw6, N0, (fun j : Nat => 1 + (j : Int))⟩ rfl
          dsimp only at q_x
          go_wp2_with fail
          refine (heldRing_any _ _ _ q_x (by omega) (by omega) (by omega)).mono ?_
          rintro e w17 ⟨rfl, bw17⟩
          have st17 := st16.keep bw17
          have hz_w17 := bw17.size
          try simp only [World.size_alloc] at hz_w17
          clear st16 bw17 
          clear c_g0_0 c_g0_1 q_x
          go_wp2_with fail
          go_ret
          exact ⟨rfl, st17.1⟩

set_option maxRecDepth 100000 in
theorem walk_big0 (w : World) (x0 : Int) {lo0 hi0 n0 : Nat} {v0 : Value} {f0 : Nat → Int} (hs0 : Sl false w lo0 hi0 v0 n0 f0) (x1 : Int) {lo1 hi1 n1 : Nat} {v1 : Value} {f1 : Nat → Int} (hs1 : Sl false w lo1 hi1 v1 n1 f1)  (hn0 : 1048576 < n0) :
    Calls Try.prog 13 #[.agg #[.int .i64 x0, v0], .agg #[.int .i64 x1, v1]] w fun e w' => e = .returned (.bool true) ∧ Below w.heap.size w w' := by
  obtain ⟨p0, c0, rfl⟩ := hs0.shape
  have hm0 := hs0.len
  have hm0' := hm0
  unfold maxLen at hm0'
  clear hs0
  obtain ⟨p1, c1, rfl⟩ := hs1.shape
  have hm1 := hs1.len
  have hm1' := hm1
  unfold maxLen at hm1'
  clear hs1
  have st0 := St.start w
  replace st0 := (st0.alloc (.cells #[.int .i64 x0, .slice p0 n0 c0] 80)).addBox _ [.int .i64 x0, .slice p0 n0 c0] (Box.made _ _ _ _ (fun j v h => by simpa using h))
  replace st0 := (st0.alloc (.cells #[.int .i64 x1, .slice p1 n1 c1] 80)).addBox _ [.int .i64 x1, .slice p1 n1 c1] (Box.made _ _ _ _ (fun j v h => by simpa using h))
  simp only [World.size_alloc] at st0
  go_enter Try.func13, Try.ntmps13
  go_wp2_with fail
  refine (szRing_no _ _ _ _ _ hm0 (by omega) (by omega) (by omega)).mono ?_
  rintro e w1 ⟨rfl, b1⟩
  have st1 := st0.keep b1
  clear st0 b1 
  have BB := st1.1
  go_wp2
  go_ret
  exact ⟨rfl, BB⟩

set_option maxRecDepth 100000 in
theorem walk_big1 (w : World) (x0 : Int) {lo0 hi0 n0 : Nat} {v0 : Value} {f0 : Nat → Int} (hs0 : Sl false w lo0 hi0 v0 n0 f0) (x1 : Int) {lo1 hi1 n1 : Nat} {v1 : Value} {f1 : Nat → Int} (hs1 : Sl false w lo1 hi1 v1 n1 f1) (hn0 : n0 ≤ 1048576) (hn1 : 1048576 < n0 + n1) :
    Calls Try.prog 13 #[.agg #[.int .i64 x0, v0], .agg #[.int .i64 x1, v1]] w fun e w' => e = .returned (.bool true) ∧ Below w.heap.size w w' := by
  obtain ⟨p0, c0, rfl⟩ := hs0.shape
  have hm0 := hs0.len
  have hm0' := hm0
  unfold maxLen at hm0'
  clear hs0
  obtain ⟨p1, c1, rfl⟩ := hs1.shape
  have hm1 := hs1.len
  have hm1' := hm1
  unfold maxLen at hm1'
  clear hs1
  have st0 := St.start w
  replace st0 := (st0.alloc (.cells #[.int .i64 x0, .slice p0 n0 c0] 80)).addBox _ [.int .i64 x0, .slice p0 n0 c0] (Box.made _ _ _ _ (fun j v h => by simpa using h))
  replace st0 := (st0.alloc (.cells #[.int .i64 x1, .slice p1 n1 c1] 80)).addBox _ [.int .i64 x1, .slice p1 n1 c1] (Box.made _ _ _ _ (fun j v h => by simpa using h))
  simp only [World.size_alloc] at st0
  go_enter Try.func13, Try.ntmps13
  go_wp2_with fail
  refine (szRing_yes _ _ _ _ _ (by omega) (by omega)).mono ?_
  rintro e w1 ⟨rfl, b1⟩
  have st1 := st0.keep b1
  clear st0 b1 
  obtain ⟨e00, e01⟩ := (st1.box 1 (w.heap.size, [.int .i64 x0, .slice p0 n0 c0]) rfl).cell2
  obtain ⟨e10, e11⟩ := (st1.box 0 (w.heap.size + 1, [.int .i64 x1, .slice p1 n1 c1]) rfl).cell2
  go_wp2_with fail
  refine (szRing_no _ _ _ _ _ hm1 (by omega) (by omega) (by omega)).mono ?_
  rintro e w2 ⟨rfl, b2⟩
  have st2 := st1.keep b2
  clear st1 b2 e00 e01 e10 e11
  have BB := st2.1
  go_wp2
  go_ret
  exact ⟨rfl, BB⟩

theorem walk (w : World) (x0 : Int) (_hx0 : inR x0) {lo0 hi0 n0 : Nat} {v0 : Value} {f0 : Nat → Int} (hs0 : Sl false w lo0 hi0 v0 n0 f0) (x1 : Int) (_hx1 : inR x1) {lo1 hi1 n1 : Nat} {v1 : Value} {f1 : Nat → Int} (hs1 : Sl false w lo1 hi1 v1 n1 f1) :
    Calls Try.prog 13 #[.agg #[.int .i64 x0, v0], .agg #[.int .i64 x1, v1]] w fun e w' => e = .returned (.bool true) ∧ Below w.heap.size w w' := by
  by_cases hL0 : n0 ≤ 1048576
  · by_cases hL : n0 + n1 ≤ 1048576
    · by_cases h : ringC x0 x1 n0 n1 f0 f1 = 0
      · obtain ⟨h0, h1, e⟩ := ringC_zero h
        subst e
        obtain ⟨m, rfl⟩ := Int.eq_ofNat_of_zero_le (show 0 ≤ x0 by have := h0.1; omega)
        have hp := phi_le40 m (by have := h0.2.1; omega)
        obtain rfl : n0 = n1 := h0.2.2.1.trans h1.2.2.1.symm
        have e : n0 = phiN m := h0.2.2.1
        by_cases hf : Within f0 n0 100000 ∧ Within f1 n0 100000
        · have hf0 : Within f0 (phiN m) 100000 := by rw [← e]; exact hf.1
          have hf1 : Within f1 (phiN m) 100000 := by rw [← e]; exact hf.2
          by_cases hw : Within (fun j => prR m f0 f1 (phiN m) j) (phiN m) 1000000000
          · exact walk_of w m n0 f0 m n0 f1 hs0 hs1 m (phiN m) (fun j => prR m f0 f1 (phiN m) j) 0 (by omega) (by omega) hL (by omega) (fun w _ _ _ _ hs _ _ _ _ ht => MultiplyRings_spec_ok m w hs ht h0 h1 hf0 hf1 hw) (fun w _ _ _ _ hs _ _ _ _ ht => MultiplyRings_impl_ok m w hs ht h0 h1 hf0 hf1 hw)
          · exact walk_of w m n0 f0 m n0 f1 hs0 hs1 0 0 (fun _ => 0) 3 (by omega) (by omega) hL (by omega) (fun w _ _ _ _ hs _ _ _ _ ht => fail_form (MultiplyRings_spec_big m w hs ht h0 h1 hf0 hf1 hw)) (fun w _ _ _ _ hs _ _ _ _ ht => fail_form (MultiplyRings_impl_big m w hs ht h0 h1 hf0 hf1 hw))
        · obtain ⟨M, hM, hbad, hgood⟩ := first_out hf
          refine walk_of w m n0 f0 m n0 f1 hs0 hs1 0 0 (fun _ => 0) 2 (by omega) (by omega) hL (by omega) (fun w _ _ _ _ hs _ _ _ _ ht => fail_form (MultiplyRings_spec_out m w hs ht h0 h1 hM hbad hgood)) (fun w _ _ _ _ hs _ _ _ _ ht => fail_form ?_)
          by_cases h3 : Within f0 (phiN m) 100000
          · exact MultiplyRings_impl_out2 m w hs ht h0 h1 h3 (fun q => hf ⟨by rw [e]; exact h3, by rw [e]; exact q⟩)
          · exact MultiplyRings_impl_out1 m w hs ht h0 h1 h3
      · exact walk_of w x0 n0 f0 x1 n1 f1 hs0 hs1 0 0 (fun _ => 0) (ringC x0 x1 n0 n1 f0 f1) (by omega) (by omega) hL (by omega) (fun w _ _ _ _ hs _ _ _ _ ht => fail_form (MultiplyRings_spec_bad x0 x1 _ w hs ht rfl h)) (fun w _ _ _ _ hs _ _ _ _ ht => fail_form (MultiplyRings_impl_bad x0 x1 _ w hs ht rfl h))
    · exact walk_big1 w x0 hs0 x1 hs1 hL0 (by omega)
  · exact walk_big0 w x0 hs0 x1 hs1 (by omega)

theorem own : ownKnob Try.prog.godebug = none := by kernel_rfl
theorem laidOut : laidOutB Try.prog = true := by kernel_rfl
set_option maxRecDepth 100000 in
theorem lifted (os : Os) (started : os.Started) (H : Type) (enc : TypeId × Value → H) :
    ReturnsInHanded {} Try.checked os 13 .any (Rows.fnExactMultiplyRingsSpec.pre6 enc Try.prog Try.f13 Rows.fnExactMultiplyRingsRow.domain false) (Rows.fnExactMultiplyRingsSpec.post enc Try.prog Try.f13 false true false false) := by
  refine returnsInHanded_of_change (C := Try.checked) own started (by kernel_rfl) Try.func13
    (ChangeSpec.witness6 (enc := enc) (C := Try.checked) false ⟨#[], #[.agg #[.int .i64 0, .slice none 0 0], .agg #[.int .i64 0, .slice none 0 0]], []⟩ 8 (by kernel_rfl) (by kernel_rfl) (by kernel_rfl) (by kernel_rfl)) ?_
  intro W base args ds gs before hval0 hW hcnd _
  have hval : ∀ (j : Nat) t v, Try.f13.params[j]? = some t → args[j]? = some v → Value.okWide Try.prog W .any base t v := hval0
  have hW' := hW
  obtain ⟨p, q, hA0, hV, rfl, hfz, hnd⟩ := hW
  have hA : DataW.TrodAll enc Try.prog W 0 (fun _ => true) true Try.f13.params.toList args.toList ds p := hA0
  rw [Try.params13] at hA hval
  obtain ⟨v0, vs0, d0, ds0, p0, q0, hargs, rfl, rfl, h0, r0⟩ := trodAll_cons hA
  obtain ⟨v1, vs1, d1, ds1, p1, q1, rfl, rfl, rfl, h1, r1⟩ := trodAll_cons r0
  obtain ⟨rfl, rfl, rfl⟩ := trodAll_nil r1
  obtain rfl : args = #[v0, v1] := by cases args; simp_all
  obtain ⟨rfl, rfl⟩ := trodVars_none hV
  have k0 := h0
  have lt0 : ∀ x ∈ p0, x.block < W.heap.size := by obtain ⟨m, hm⟩ := k0; exact DataW.trod_lt m _ _ _ hm
  obtain ⟨x0, c0, n0, f0, rfl, w0, s0⟩ : ∃ x c n f, v0 = .agg #[.int .i64 x, c] ∧ inR x ∧ Sl false W 0 W.heap.size c n f := by
    obtain ⟨c0, c1, y0, y1, m, rfl, _, _, hy0, hy1⟩ := Joins.open_agg2 Try.underlying80 (by kernel_rfl) (by kernel_rfl) (hval 0 80 v0 rfl rfl) h0
    obtain ⟨x, e0, _, wx⟩ := DataW.trod_int Try.underlying2 hy0
    obtain ⟨n, f, hs⟩ := Sl.came Try.underlying24 Try.underlying2 (by kernel_rfl) hy1
    simp at e0
    exact ⟨x, c1, n, f, by rw [e0], inR_wf wx, hs⟩
  have k1 := h1
  have lt1 : ∀ x ∈ p1, x.block < W.heap.size := by obtain ⟨m, hm⟩ := k1; exact DataW.trod_lt m _ _ _ hm
  obtain ⟨x1, c1, n1, f1, rfl, w1, s1⟩ : ∃ x c n f, v1 = .agg #[.int .i64 x, c] ∧ inR x ∧ Sl false W 0 W.heap.size c n f := by
    obtain ⟨c0, c1, y0, y1, m, rfl, _, _, hy0, hy1⟩ := Joins.open_agg2 Try.underlying80 (by kernel_rfl) (by kernel_rfl) (hval 1 80 v1 rfl rfl) h1
    obtain ⟨x, e0, _, wx⟩ := DataW.trod_int Try.underlying2 hy0
    obtain ⟨n, f, hs⟩ := Sl.came Try.underlying24 Try.underlying2 (by kernel_rfl) hy1
    simp at e0
    exact ⟨x, c1, n, f, by rw [e0], inR_wf wx, hs⟩
  clear hA0 hval0
  refine (walk W x0 (by assumption) s0 x1 (by assumption) s1).mono fun e W' ⟨he, bel⟩ => ?_
  subst he
  exact ⟨_, rfl, _, _, _, [], _, [], hW', trodAll_mk1 (shut_bool Try.underlying4 _), (trodAll_cons_mk (Below.trod laidOut (by kernel_rfl) (of_decide_eq_true (by kernel_rfl)) k0 bel lt0) (trodAll_cons_mk (Below.trod laidOut (by kernel_rfl) (of_decide_eq_true (by kernel_rfl)) k1 bel lt1) trodAll_mk0)), rfl, bel.frame _, fun h => by cases h⟩

theorem over : Rows.fnExactMultiplyRingsRow.holds Try.pinned (OpenSpec.ofChange Rows.fnExactMultiplyRingsSpec) :=
  OpenClaim.holds_of_wide 13 Try.f13 rfl rfl rfl rfl rfl rfl rfl ⟨rfl, rfl, rfl, rfl, rfl⟩ rfl rfl rfl rfl rfl (by kernel_rfl) Try.func13 (by unfold joinedFacts; exact (and_tt (and_tt (and_tt (and_tt (and_tt (and_tt (and_tt (and_tt (and_tt (and_tt (and_tt (and_tt (and_tt (and_tt (and_tt (and_tt (and_tt (and_tt (and_tt (and_tt (and_tt (and_tt (and_tt (and_tt (and_tt (and_tt (and_tt (and_tt (and_tt (and_tt (and_tt (by kernel_rfl) (by kernel_rfl)) (by kernel_rfl)) (by kernel_rfl)) (by kernel_rfl)) (by kernel_rfl)) (by kernel_rfl)) (by kernel_rfl)) (by kernel_rfl)) (by kernel_rfl)) (by kernel_rfl)) (by kernel_rfl)) (by kernel_rfl)) (by kernel_rfl)) (by kernel_rfl)) (by kernel_rfl)) (by kernel_rfl)) (by kernel_rfl)) (by kernel_rfl)) (by kernel_rfl)) (by kernel_rfl)) (by kernel_rfl)) (by kernel_rfl)) (by kernel_rfl)) (by kernel_rfl)) init_enter) (tt_lifts init_lifts rfl)) (tt_make init_make rfl)) (by kernel_rfl)) (by kernel_rfl)) (by kernel_rfl)) (by kernel_rfl)))
    (of_decide_eq_true (by kernel_rfl)) (by unfold Func.isWrapper; first | (rw [if_pos (by decide +kernel)]; kernel_rfl) | (rw [if_neg (by decide +kernel)]; exact ⟨rfl, rfl⟩))
    (fun os started H enc _ => lifted os started H enc)

theorem proved : Rows.FnExactMultiplyRingsSaid := over
#print axioms proved
end fnExactMultiplyRings
end Go.Proofs.Ytonopjbccdpbhaa
