/- ConstantGauss answers as its model, for every argument. -/
import Derived.Test.YthmhjnholhiohaaGCon
import Derived.Test.YthmhjnholhiohaaGCopy
import Derived.Deep.RegionHeld3
import Derived.Deep.DeepCutAuto
import Derived.ShutString
import Derived.ChangeOld
import Derived.Lib.SmallJoins
import Derived.Test.YthmhjnholhiohaaInit
namespace Go.Proofs.Ythmhjnholhiohaa
open Go.RowKit Go.ChangeShapes Go.Sort Go.WideShapes Go.ChangeAt
set_option linter.unusedVariables false
set_option linter.unusedSimpArgs false
namespace fnExactConstantGauss
set_option maxRecDepth 100000 in
set_option maxHeartbeats 4000000 in
theorem walk_of (w : World) (a0 : Int) (x1 : Int) (n1 : Nat) (f1 : Nat → Int) {lo1 hi1 : Nat} {u1 : Value} (hs1 : Sl false w lo1 hi1 u1 n1 f1) (R0 S0 : Int) (N0 : Nat) (M0 : Nat → Nat) (G0 : Nat → Nat → Int) (C1 : Int) (hn1 : n1 ≤ 1048576) (hN0 : N0 + pre M0 N0 ≤ 1048576)
    (hS : ∀ (w : World) (o1 : Bool) (l1 h1 : Nat) (v1 : Value) (_ : Sl o1 w l1 h1 v1 n1 f1), Calls Try.prog 23 #[.int .i64 a0, .agg #[.int .i64 x1, v1]] w fun e w' => ∃ a0' k0', e = .returned (.tuple #[.agg #[.int .i64 R0, .int .i64 S0, .slice a0' N0 k0'], .int .i64 C1]) ∧ Rw true w' w.heap.size w'.heap.size (.slice a0' N0 k0') N0 M0 G0 ∧ Below w.heap.size w w')
    (hI : ∀ (w : World) (o1 : Bool) (l1 h1 : Nat) (v1 : Value) (_ : Sl o1 w l1 h1 v1 n1 f1), Calls Try.prog 25 #[.int .i64 a0, .agg #[.int .i64 x1, v1]] w fun e w' => ∃ a0' k0', e = .returned (.tuple #[.agg #[.int .i64 R0, .int .i64 S0, .slice a0' N0 k0'], .int .i64 C1]) ∧ Rw true w' w.heap.size w'.heap.size (.slice a0' N0 k0') N0 M0 G0 ∧ Below w.heap.size w w') :
    Calls Try.prog 4 #[.int .i64 a0, .agg #[.int .i64 x1, u1]] w fun e w' => e = .returned (.bool true) ∧ Below w.heap.size w w' := by
  obtain ⟨p1, q1, rfl⟩ := hs1.shape
  have HS := Lib.hid hS; clear hS
  have HI := Lib.hid hI; clear hI
  have st0 := StR.start w
  have hh1 := hs1.size
  replace st0 := st0.addSl ⟨false, lo1, hi1, .slice p1 n1 q1, n1, f1⟩ hs1
  replace st0 := (st0.alloc (.cells #[.int .i64 x1, .slice p1 n1 q1] 33)).addBox _ [.int .i64 x1, .slice p1 n1 q1] (Box.made _ _ _ _ (fun j v h => by simpa using h))
  clear hs1
  go_enter Try.func4, Try.ntmps4
  obtain ⟨c_a1_0, c_a1_1⟩ := (st0.box 0 (w.heap.size, [.int .i64 x1, .slice p1 n1 q1]) rfl).cell2
  go_wp2_with fail
  refine (szCyclo_yes _ _ _ _ _ (by omega) (by omega)).mono ?_
  rintro e w1 ⟨rfl, bw1⟩
  have st1 := st0.keep bw1
  have hz_w1 := bw1.size
  try simp only [World.size_alloc] at hz_w1
  clear st0 bw1 
  clear c_a1_0 c_a1_1
  obtain ⟨c_a1_0, c_a1_1⟩ := (st1.box 0 (w.heap.size, [.int .i64 x1, .slice p1 n1 q1]) rfl).cell2
  have q_1 := st1.sl 0 ⟨false, lo1, hi1, .slice p1 n1 q1, n1, f1⟩ rfl
  dsimp only at q_1
  go_wp2_with fail
  refine (toCyclo_any _ _ q_1 (by omega)).mono ?_
  rintro e w2 ⟨aw2, kw2, rfl, sw2, bw2⟩
  have st2 := st1.keep bw2
  have hz_w2 := bw2.size
  try simp only [World.size_alloc] at hz_w2
  try simp only [World.size_alloc] at sw2
  replace st2 := st2.addSl ⟨true, w1.heap.size, w2.heap.size, .slice aw2 n1 kw2, n1, f1⟩ sw2
  clear st1 bw2 sw2
  clear c_a1_0 c_a1_1 q_1
  have q_1 := st2.sl 0 ⟨true, w1.heap.size, w2.heap.size, .slice aw2 n1 kw2, n1, f1⟩ rfl
  dsimp only at q_1
  go_wp2_with fail
  refine (HS.out _ _ _ _ _ q_1).mono ?_
  rintro e w3 ⟨aw3, kw3, rfl, sw3, bw3⟩
  have st3 := st2.keep bw3
  have hz_w3 := bw3.size
  try simp only [World.size_alloc] at hz_w3
  try simp only [World.size_alloc] at sw3
  replace st3 := st3.addRw ⟨true, w2.heap.size, w3.heap.size, .slice aw3 N0 kw3, N0, M0, G0⟩ sw3
  replace st3 := (st3.alloc (.cells #[.int .i64 R0, .int .i64 S0, .slice aw3 N0 kw3] 27)).addBox w3.heap.size [.int .i64 R0, .int .i64 S0, .slice aw3 N0 kw3] (Box.made _ _ _ _ (fun j v h => by simpa using h))
  clear st2 bw3 sw3
  clear q_1
  obtain ⟨c_a1_0, c_a1_1⟩ := (st3.box 1 (w.heap.size, [.int .i64 x1, .slice p1 n1 q1]) rfl).cell2
  have q_1 := st3.sl 1 ⟨false, lo1, hi1, .slice p1 n1 q1, n1, f1⟩ rfl
  dsimp only at q_1
  go_wp2_with fail
  refine (toCyclo_any _ _ q_1 (by omega)).mono ?_
  rintro e w4 ⟨aw4, kw4, rfl, sw4, bw4⟩
  have st4 := st3.keep bw4
  have hz_w4 := bw4.size
  try simp only [World.size_alloc] at hz_w4
  try simp only [World.size_alloc] at sw4
  replace st4 := st4.addSl ⟨true, w3.heap.size + 1, w4.heap.size, .slice aw4 n1 kw4, n1, f1⟩ sw4
  replace st4 := (st4.alloc (.cells #[.int .i64 x1, .slice aw4 n1 kw4] 37)).addBox w4.heap.size [.int .i64 x1, .slice aw4 n1 kw4] (Box.made _ _ _ _ (fun j v h => by simpa using h))
  clear st3 bw4 sw4
  clear c_a1_0 c_a1_1 q_1
  obtain ⟨c_x1_0, c_x1_1⟩ := (st4.box 0 (w4.heap.size, [.int .i64 x1, .slice aw4 n1 kw4]) rfl).cell2
  have q_1 := st4.sl 0 ⟨true, w3.heap.size + 1, w4.heap.size, .slice aw4 n1 kw4, n1, f1⟩ rfl
  dsimp only at q_1
  go_wp2_with fail
  refine (HI.out _ _ _ _ _ q_1).mono ?_
  rintro e w5 ⟨aw5, kw5, rfl, sw5, bw5⟩
  have st5 := st4.keep bw5
  have hz_w5 := bw5.size
  try simp only [World.size_alloc] at hz_w5
  try simp only [World.size_alloc] at sw5
  replace st5 := st5.addRw ⟨true, w4.heap.size + 1, w5.heap.size, .slice aw5 N0 kw5, N0, M0, G0⟩ sw5
  replace st5 := (st5.alloc (.cells #[.int .i64 R0, .int .i64 S0, .slice aw5 N0 kw5] 27)).addBox w5.heap.size [.int .i64 R0, .int .i64 S0, .slice aw5 N0 kw5] (Box.made _ _ _ _ (fun j v h => by simpa using h))
  clear st4 bw5 sw5
  clear c_x1_0 c_x1_1 q_1
  obtain ⟨c_g0_0, c_g0_1, c_g0_2⟩ := (st5.box 0 (w5.heap.size, [.int .i64 R0, .int .i64 S0, .slice aw5 N0 kw5]) rfl).c3
  obtain ⟨c_w0_0, c_w0_1, c_w0_2⟩ := (st5.box 2 (w3.heap.size, [.int .i64 R0, .int .i64 S0, .slice aw3 N0 kw3]) rfl).c3
  have q_x := st5.rw 0 ⟨true, w4.heap.size + 1, w5.heap.size, .slice aw5 N0 kw5, N0, M0, G0⟩ rfl
  dsimp only at q_x
  have q_y := st5.rw 1 ⟨true, w2.heap.size, w3.heap.size, .slice aw3 N0 kw3, N0, M0, G0⟩ rfl
  dsimp only at q_y
  go_wp2_with fail
  refine (eqGauss_yes _ _ _ q_x q_y (fun _ _ => rfl) (fun _ _ _ _ => rfl)).mono ?_
  rintro e w6 ⟨rfl, bw6⟩
  have st6 := st5.keep bw6
  have hz_w6 := bw6.size
  try simp only [World.size_alloc] at hz_w6
  clear st5 bw6 
  clear c_g0_0 c_g0_1 c_g0_2 c_w0_0 c_w0_1 c_w0_2 q_x q_y
  obtain ⟨c_x1_0, c_x1_1⟩ := (st6.box 1 (w4.heap.size, [.int .i64 x1, .slice aw4 n1 kw4]) rfl).cell2
  obtain ⟨c_a1_0, c_a1_1⟩ := (st6.box 3 (w.heap.size, [.int .i64 x1, .slice p1 n1 q1]) rfl).cell2
  go_wp2_with fail
  go_cut [49] (fun sx wx => sx = .bool false ∧ w6.heap.size ≤ wx.heap.size ∧ StR w wx [(w5.heap.size, [.int .i64 R0, .int .i64 S0, .slice aw5 N0 kw5]), (w4.heap.size, [.int .i64 x1, .slice aw4 n1 kw4]), (w3.heap.size, [.int .i64 R0, .int .i64 S0, .slice aw3 N0 kw3]), (w.heap.size, [.int .i64 x1, .slice p1 n1 q1])] [⟨true, w3.heap.size + 1, w4.heap.size, .slice aw4 n1 kw4, n1, f1⟩, ⟨true, w1.heap.size, w2.heap.size, .slice aw2 n1 kw2, n1, f1⟩, ⟨false, lo1, hi1, .slice p1 n1 q1, n1, f1⟩] [⟨true, w4.heap.size + 1, w5.heap.size, .slice aw5 N0 kw5, N0, M0, G0⟩, ⟨true, w2.heap.size, w3.heap.size, .slice aw3 N0 kw3, N0, M0, G0⟩])
  case first =>
    go_region_held3 (fun w' => w'.cell? ⟨w4.heap.size, 0, none⟩ = some (.int .i64 x1) ∧ w'.cell? ⟨w4.heap.size, 1, none⟩ = some (.slice aw4 n1 kw4) ∧ w'.cell? ⟨w.heap.size, 0, none⟩ = some (.int .i64 x1) ∧ w'.cell? ⟨w.heap.size, 1, none⟩ = some (.slice p1 n1 q1))
      (first | exact ⟨c_x1_0, c_x1_1, c_a1_0, c_a1_1⟩ | exact ⟨cell_later b6 c_x1_0, cell_later b6 c_x1_1, cell_later b6 c_a1_0, cell_later b6 c_a1_1⟩ | exact ⟨cell_later b7 (cell_later b6 c_x1_0), cell_later b7 (cell_later b6 c_x1_1), cell_later b7 (cell_later b6 c_a1_0), cell_later b7 (cell_later b6 c_a1_1)⟩)
      (first
        | (go_at_call 24; refine (toCyclo_any _ _ (st6.drew.sl 2 ⟨false, lo1, hi1, .slice p1 n1 q1, n1, f1⟩ rfl) (by omega)).mono ?_; rintro e w6 ⟨a6, k6, rfl, s6, b6⟩)
        | (go_at_call 26; refine (eqCyclo_yes _ _ ((st6.drew.keep b6).sl 0 ⟨true, w3.heap.size + 1, w4.heap.size, .slice aw4 n1 kw4, n1, f1⟩ rfl) s6 (fun _ _ => rfl)).mono ?_; rintro e w7 ⟨rfl, b7⟩))
    all_goals (go_wp2_with fail; go_meet; exact ⟨rfl, (by have z6 := b6.size; have z7 := b7.size; simp only [World.size_drew, World.size_alloc] at z6 z7 ⊢; omega), (st6.drew.keep b6).keep b7⟩)
  case rest =>
    obtain ⟨rfl, hz_w7, st7⟩ := hcut
    try clear st6
    try clear c_x1_0
    try clear c_x1_1
    try clear c_a1_0
    try clear c_a1_1
    obtain ⟨w7, hw_w7⟩ : ∃ x : World, x = wc := ⟨_, rfl⟩
    subst hw_w7
    obtain ⟨c_x1_0, c_x1_1⟩ := (st7.box 1 (w4.heap.size, [.int .i64 x1, .slice aw4 n1 kw4]) rfl).cell2
    have q_x := st7.sl 0 ⟨true, w3.heap.size + 1, w4.heap.size, .slice aw4 n1 kw4, n1, f1⟩ rfl
    dsimp only at q_x
    go_wp2_with fail
    refine (markCyclo_any _ _ _ q_x (by omega) (by omega) (by omega)).mono ?_
    rintro e w8 ⟨rfl, sw8, fw8⟩
    have st8 := st7.writeTo fw8 (by omega) (by (try simp only [World.size_alloc, World.size_drew]); intro b hb; simp only [List.mem_cons, List.not_mem_nil, or_false] at hb; rcases hb with rfl | rfl | rfl | rfl <;> dsimp only <;> omega)
      [⟨true, w1.heap.size, w2.heap.size, .slice aw2 n1 kw2, n1, f1⟩, ⟨false, lo1, hi1, .slice p1 n1 q1, n1, f1⟩] [⟨true, w4.heap.size + 1, w5.heap.size, .slice aw5 N0 kw5, N0, M0, G0⟩, ⟨true, w2.heap.size, w3.heap.size, .slice aw3 N0 kw3, N0, M0, G0⟩] (by intro s hs; simp only [List.mem_cons, List.not_mem_nil, or_false] at hs; rcases hs with rfl | rfl <;> refine ⟨by simp, ?_⟩ <;> dsimp only <;> omega) (by intro s hs; simp only [List.mem_cons, List.not_mem_nil, or_false] at hs; rcases hs with rfl | rfl <;> refine ⟨by simp, ?_⟩ <;> dsimp only <;> omega)
    replace st8 := st8.addSl ⟨true, w3.heap.size + 1, w4.heap.size, .slice aw4 n1 kw4, n1, (fun j : Nat => 1 + (j : Int))⟩ sw8
    have hz_w8 := fw8.size
    try simp only [World.size_alloc] at hz_w8
    clear st7 sw8 fw8
    clear c_x1_0 c_x1_1 q_x
    obtain ⟨c_g0_0, c_g0_1, c_g0_2⟩ := (st8.box 0 (w5.heap.size, [.int .i64 R0, .int .i64 S0, .slice aw5 N0 kw5]) rfl).c3
    obtain ⟨c_w0_0, c_w0_1, c_w0_2⟩ := (st8.box 2 (w3.heap.size, [.int .i64 R0, .int .i64 S0, .slice aw3 N0 kw3]) rfl).c3
    have q_x := st8.rw 0 ⟨true, w4.heap.size + 1, w5.heap.size, .slice aw5 N0 kw5, N0, M0, G0⟩ rfl
    dsimp only at q_x
    have q_y := st8.rw 1 ⟨true, w2.heap.size, w3.heap.size, .slice aw3 N0 kw3, N0, M0, G0⟩ rfl
    dsimp only at q_y
    go_wp2_with fail
    refine (eqGauss_yes _ _ _ q_x q_y (fun _ _ => rfl) (fun _ _ _ _ => rfl)).mono ?_
    rintro e w9 ⟨rfl, bw9⟩
    have st9 := st8.keep bw9
    have hz_w9 := bw9.size
    try simp only [World.size_alloc] at hz_w9
    clear st8 bw9 
    clear c_g0_0 c_g0_1 c_g0_2 c_w0_0 c_w0_1 c_w0_2 q_x q_y
    obtain ⟨c_g0_0, c_g0_1, c_g0_2⟩ := (st9.box 0 (w5.heap.size, [.int .i64 R0, .int .i64 S0, .slice aw5 N0 kw5]) rfl).c3
    have q_x := st9.rw 0 ⟨true, w4.heap.size + 1, w5.heap.size, .slice aw5 N0 kw5, N0, M0, G0⟩ rfl
    dsimp only at q_x
    go_wp2_with fail
    refine (markGauss_any _ _ _ _ q_x (by omega) (by omega) (by omega)).mono ?_
    rintro e w10 ⟨rfl, sw10, fw10⟩
    have st10 := st9.writeTo fw10 (by omega) (by (try simp only [World.size_alloc, World.size_drew]); intro b hb; simp only [List.mem_cons, List.not_mem_nil, or_false] at hb; rcases hb with rfl | rfl | rfl | rfl <;> dsimp only <;> omega)
      [⟨true, w3.heap.size + 1, w4.heap.size, .slice aw4 n1 kw4, n1, (fun j : Nat => 1 + (j : Int))⟩, ⟨true, w1.heap.size, w2.heap.size, .slice aw2 n1 kw2, n1, f1⟩, ⟨false, lo1, hi1, .slice p1 n1 q1, n1, f1⟩] [⟨true, w2.heap.size, w3.heap.size, .slice aw3 N0 kw3, N0, M0, G0⟩] (by intro s hs; simp only [List.mem_cons, List.not_mem_nil, or_false] at hs; rcases hs with rfl | rfl | rfl <;> refine ⟨by simp, ?_⟩ <;> dsimp only <;> omega) (by intro s hs; simp only [List.mem_cons, List.not_mem_nil, or_false] at hs; rcases hs with rfl <;> refine ⟨by simp, ?_⟩ <;> dsimp only <;> omega)
    replace st10 := st10.addRw ⟨true, w4.heap.size + 1, w5.heap.size, .slice aw5 N0 kw5, N0, M0, (fun (i j : Nat) => (1 : Int) + (pre M0 i : Int) + (j : Int))⟩ sw10
    have hz_w10 := fw10.size
    try simp only [World.size_alloc] at hz_w10
    clear st9 sw10 fw10
    clear c_g0_0 c_g0_1 c_g0_2 q_x
    obtain ⟨c_g0_0, c_g0_1, c_g0_2⟩ := (st10.box 0 (w5.heap.size, [.int .i64 R0, .int .i64 S0, .slice aw5 N0 kw5]) rfl).c3
    have q_x := st10.rw 0 ⟨true, w4.heap.size + 1, w5.heap.size, .slice aw5 N0 kw5, N0, M0, (fun (i j : Nat) => (1 : Int) + (pre M0 i : Int) + (j : Int))⟩ rfl
    dsimp only at q_x
    go_wp2_with fail
    refine (heldGauss_any _ _ _ _ q_x (by omega) (by omega) (by omega)).mono ?_
    rintro e w11 ⟨rfl, bw11⟩
    have st11 := st10.keep bw11
    have hz_w11 := bw11.size
    try simp only [World.size_alloc] at hz_w11
    clear st10 bw11 
    clear c_g0_0 c_g0_1 c_g0_2 q_x
    obtain ⟨c_a1_0, c_a1_1⟩ := (st11.box 3 (w.heap.size, [.int .i64 x1, .slice p1 n1 q1]) rfl).cell2
    have q_1 := st11.sl 2 ⟨false, lo1, hi1, .slice p1 n1 q1, n1, f1⟩ rfl
    dsimp only at q_1
    go_wp2_with fail
    refine (toCyclo_any _ _ q_1 (by omega)).mono ?_
    rintro e w12 ⟨aw12, kw12, rfl, sw12, bw12⟩
    have st12 := st11.keep bw12
    have hz_w12 := bw12.size
    try simp only [World.size_alloc] at hz_w12
    try simp only [World.size_alloc] at sw12
    replace st12 := st12.addSl ⟨true, w11.heap.size, w12.heap.size, .slice aw12 n1 kw12, n1, f1⟩ sw12
    clear st11 bw12 sw12
    clear c_a1_0 c_a1_1 q_1
    have q_1 := st12.sl 0 ⟨true, w11.heap.size, w12.heap.size, .slice aw12 n1 kw12, n1, f1⟩ rfl
    dsimp only at q_1
    go_wp2_with fail
    refine (HI.out _ _ _ _ _ q_1).mono ?_
    rintro e w13 ⟨aw13, kw13, rfl, sw13, bw13⟩
    have st13 := st12.keep bw13
    have hz_w13 := bw13.size
    try simp only [World.size_alloc] at hz_w13
    try simp only [World.size_alloc] at sw13
    replace st13 := st13.addRw ⟨true, w12.heap.size, w13.heap.size, .slice aw13 N0 kw13, N0, M0, G0⟩ sw13
    replace st13 := (st13.alloc (.cells #[.int .i64 R0, .int .i64 S0, .slice aw13 N0 kw13] 27)).addBox w13.heap.size [.int .i64 R0, .int .i64 S0, .slice aw13 N0 kw13] (Box.made _ _ _ _ (fun j v h => by simpa using h))
    clear st12 bw13 sw13
    clear q_1
    obtain ⟨c_h0_0, c_h0_1, c_h0_2⟩ := (st13.box 0 (w13.heap.size, [.int .i64 R0, .int .i64 S0, .slice aw13 N0 kw13]) rfl).c3
    obtain ⟨c_w0_0, c_w0_1, c_w0_2⟩ := (st13.box 3 (w3.heap.size, [.int .i64 R0, .int .i64 S0, .slice aw3 N0 kw3]) rfl).c3
    have q_x := st13.rw 0 ⟨true, w12.heap.size, w13.heap.size, .slice aw13 N0 kw13, N0, M0, G0⟩ rfl
    dsimp only at q_x
    have q_y := st13.rw 2 ⟨true, w2.heap.size, w3.heap.size, .slice aw3 N0 kw3, N0, M0, G0⟩ rfl
    dsimp only at q_y
    go_wp2_with fail
    refine (eqGauss_yes _ _ _ q_x q_y (fun _ _ => rfl) (fun _ _ _ _ => rfl)).mono ?_
    rintro e w14 ⟨rfl, bw14⟩
    have st14 := st13.keep bw14
    have hz_w14 := bw14.size
    try simp only [World.size_alloc] at hz_w14
    clear st13 bw14 
    clear c_h0_0 c_h0_1 c_h0_2 c_w0_0 c_w0_1 c_w0_2 q_x q_y
    obtain ⟨c_g0_0, c_g0_1, c_g0_2⟩ := (st14.box 1 (w5.heap.size, [.int .i64 R0, .int .i64 S0, .slice aw5 N0 kw5]) rfl).c3
    have q_x := st14.rw 1 ⟨true, w4.heap.size + 1, w5.heap.size, .slice aw5 N0 kw5, N0, M0, (fun (i j : Nat) => (1 : Int) + (pre M0 i : Int) + (j : Int))⟩ rfl
    dsimp only at q_x
    go_wp2_with fail
    refine (heldGauss_any _ _ _ _ q_x (by omega) (by omega) (by omega)).mono ?_
    rintro e w15 ⟨rfl, bw15⟩
    have st15 := st14.keep bw15
    have hz_w15 := bw15.size
    try simp only [World.size_alloc] at hz_w15
    clear st14 bw15 
    clear c_g0_0 c_g0_1 c_g0_2 q_x
    go_wp2_with fail
    go_ret
    exact ⟨rfl, st15.1⟩

set_option maxRecDepth 100000 in
theorem walk_big1 (w : World) (a0 : Int) (x1 : Int) {lo1 hi1 n1 : Nat} {v1 : Value} {f1 : Nat → Int} (hs1 : Sl false w lo1 hi1 v1 n1 f1)  (hn1 : 1048576 < n1) :
    Calls Try.prog 4 #[.int .i64 a0, .agg #[.int .i64 x1, v1]] w fun e w' => e = .returned (.bool true) ∧ Below w.heap.size w w' := by
  have st0 := StR.start w
  obtain ⟨p1, c1, rfl⟩ := hs1.shape
  have hm1 := hs1.len
  have hm1' := hm1
  unfold maxLen at hm1'
  have hh1 := hs1.size
  clear hs1
  replace st0 := (st0.alloc (.cells #[.int .i64 x1, .slice p1 n1 c1] 33)).addBox _ [.int .i64 x1, .slice p1 n1 c1] (Box.made _ _ _ _ (fun j v h => by simpa using h))
  go_enter Try.func4, Try.ntmps4
  obtain ⟨e10, e11⟩ := (st0.box 0 (w.heap.size, [.int .i64 x1, .slice p1 n1 c1]) rfl).cell2
  go_wp2_with fail
  refine (szCyclo_no _ _ _ _ _ hm1 (by omega) (by omega) (by omega)).mono ?_
  rintro e w1 ⟨rfl, b1⟩
  have st1 := st0.keep b1
  clear st0 b1 e10 e11
  have BB := st1.1
  go_wp2
  go_ret
  exact ⟨rfl, BB⟩

theorem walk (w : World) (a0 : Int) (_ha0 : inR a0) (x1 : Int) (_hx1 : inR x1) {lo1 hi1 n1 : Nat} {v1 : Value} {f1 : Nat → Int} (hs1 : Sl false w lo1 hi1 v1 n1 f1) :
    Calls Try.prog 4 #[.int .i64 a0, .agg #[.int .i64 x1, v1]] w fun e w' => e = .returned (.bool true) ∧ Below w.heap.size w w' := by
  by_cases hL : n1 ≤ 1048576
  · by_cases h : CyP x1 n1 f1
    · obtain ⟨N, rfl⟩ := Int.eq_ofNat_of_zero_le (show 0 ≤ x1 by have := h.1; omega)
      by_cases hp : PrP a0
      · obtain ⟨m, rfl⟩ := Int.eq_ofNat_of_zero_le hp.1
        have hpr : primeN m = true := by have := hp.2; rwa [Int.toNat_natCast] at this
        have hb := primeN_bd hpr
        have hphi := phi_le12 N (by have := h.2.1; omega) (by have := h.1; omega)
        have hn : n1 ≤ 12 := by have : n1 = phiN N := h.2.2.1; omega
        have hpre : pre (fun _ => n1) m ≤ 1000 := by
          rw [pre_const]; exact Nat.le_trans (Nat.mul_le_mul hb.2 hn) (by decide)
        exact walk_of w m N n1 f1 hs1 m N m (fun _ => n1) (cnF f1) 0 hL (by omega) (fun w _ _ _ _ hs => ConstantGauss_spec_ok m N w hs h hpr) (fun w _ _ _ _ hs => ConstantGauss_impl_ok m N w hs h hpr)
      · exact walk_of w a0 N n1 f1 hs1 0 0 0 (fun _ => 0) (fun _ _ => 0) 2 hL (by decide) (fun w _ _ _ _ hs => failG_form (ConstantGauss_spec_out a0 _ w hs h hp)) (fun w _ _ _ _ hs => failG_form (ConstantGauss_impl_out a0 _ w hs h hp))
    · exact walk_of w a0 x1 n1 f1 hs1 0 0 0 (fun _ => 0) (fun _ _ => 0) 1 hL (by decide) (fun w _ _ _ _ hs => failG_form (ConstantGauss_spec_bad a0 x1 w hs h)) (fun w _ _ _ _ hs => failG_form (ConstantGauss_impl_bad a0 x1 w hs h))
  · exact walk_big1 w a0 x1 hs1 (by omega)

theorem own : ownKnob Try.prog.godebug = none := by kernel_rfl
theorem laidOut : laidOutB Try.prog = true := by kernel_rfl
set_option maxRecDepth 100000 in
theorem lifted (os : Os) (started : os.Started) (H : Type) (enc : TypeId × Value → H) :
    ReturnsInHanded {} Try.checked os 4 .any (Rows.fnExactConstantGaussSpec.pre6 enc Try.prog Try.f4 Rows.fnExactConstantGaussRow.domain false) (Rows.fnExactConstantGaussSpec.post enc Try.prog Try.f4 false true false false) := by
  refine returnsInHanded_of_change (C := Try.checked) own started (by kernel_rfl) Try.func4
    (ChangeSpec.witness6 (enc := enc) (C := Try.checked) false ⟨#[], #[.int .i64 0, .agg #[.int .i64 0, .slice none 0 0]], []⟩ 8 (by kernel_rfl) (by kernel_rfl) (by kernel_rfl) (by kernel_rfl)) ?_
  intro W base args ds gs before hval0 hW hcnd _
  have hval : ∀ (j : Nat) t v, Try.f4.params[j]? = some t → args[j]? = some v → Value.okWide Try.prog W .any base t v := hval0
  have hW' := hW
  obtain ⟨p, q, hA0, hV, rfl, hfz, hnd⟩ := hW
  have hA : DataW.TrodAll enc Try.prog W 0 (fun _ => true) true Try.f4.params.toList args.toList ds p := hA0
  rw [Try.params4] at hA hval
  obtain ⟨v0, vs0, d0, ds0, p0, q0, hargs, rfl, rfl, h0, r0⟩ := trodAll_cons hA
  obtain ⟨v1, vs1, d1, ds1, p1, q1, rfl, rfl, rfl, h1, r1⟩ := trodAll_cons r0
  obtain ⟨rfl, rfl, rfl⟩ := trodAll_nil r1
  obtain rfl : args = #[v0, v1] := by cases args; simp_all
  obtain ⟨rfl, rfl⟩ := trodVars_none hV
  have k0 := h0
  have lt0 : ∀ x ∈ p0, x.block < W.heap.size := by obtain ⟨m, hm⟩ := k0; exact DataW.trod_lt m _ _ _ hm
  obtain ⟨a0, rfl, hd0, hp0, w0⟩ := open_int Try.underlying2 (hval 0 2 v0 rfl rfl) h0
  have k1 := h1
  have lt1 : ∀ x ∈ p1, x.block < W.heap.size := by obtain ⟨m, hm⟩ := k1; exact DataW.trod_lt m _ _ _ hm
  obtain ⟨x1, c1, n1, f1, rfl, w1, s1⟩ : ∃ x c n f, v1 = .agg #[.int .i64 x, c] ∧ inR x ∧ Sl false W 0 W.heap.size c n f := by
    obtain ⟨c0, c1, y0, y1, m, rfl, _, _, hy0, hy1⟩ := Joins.open_agg2 Try.underlying33 (by kernel_rfl) (by kernel_rfl) (hval 1 33 v1 rfl rfl) h1
    obtain ⟨x, e0, _, wx⟩ := DataW.trod_int Try.underlying2 hy0
    obtain ⟨n, f, hs⟩ := Sl.came Try.underlying31 Try.underlying2 (by kernel_rfl) hy1
    simp at e0
    exact ⟨x, c1, n, f, by rw [e0], inR_wf wx, hs⟩
  clear hA0 hval0
  refine (walk W a0 (inR_wf w0) x1 (by assumption) s1).mono fun e W' ⟨he, bel⟩ => ?_
  subst he
  exact ⟨_, rfl, _, _, _, [], _, [], hW', trodAll_mk1 (shut_bool Try.underlying4 _), (trodAll_cons_mk (Below.trod laidOut (by kernel_rfl) (of_decide_eq_true (by kernel_rfl)) k0 bel lt0) (trodAll_cons_mk (Below.trod laidOut (by kernel_rfl) (of_decide_eq_true (by kernel_rfl)) k1 bel lt1) trodAll_mk0)), rfl, bel.frame _, fun h => by cases h⟩

theorem over : Rows.fnExactConstantGaussRow.holds Try.pinned (OpenSpec.ofChange Rows.fnExactConstantGaussSpec) :=
  OpenClaim.holds_of_wide 4 Try.f4 rfl rfl rfl rfl rfl rfl rfl ⟨rfl, rfl, rfl, rfl, rfl⟩ rfl rfl rfl rfl rfl (by kernel_rfl) Try.func4 (by unfold joinedFacts; exact (and_tt (and_tt (and_tt (and_tt (and_tt (and_tt (and_tt (and_tt (and_tt (and_tt (and_tt (and_tt (and_tt (and_tt (and_tt (and_tt (and_tt (and_tt (and_tt (and_tt (and_tt (and_tt (and_tt (and_tt (and_tt (and_tt (and_tt (and_tt (and_tt (and_tt (and_tt (by kernel_rfl) (by kernel_rfl)) (by kernel_rfl)) (by kernel_rfl)) (by kernel_rfl)) (by kernel_rfl)) (by kernel_rfl)) (by kernel_rfl)) (by kernel_rfl)) (by kernel_rfl)) (by kernel_rfl)) (by kernel_rfl)) (by kernel_rfl)) (by kernel_rfl)) (by kernel_rfl)) (by kernel_rfl)) (by kernel_rfl)) (by kernel_rfl)) (by kernel_rfl)) (by kernel_rfl)) (by kernel_rfl)) (by kernel_rfl)) (by kernel_rfl)) (by kernel_rfl)) (by kernel_rfl)) init_enter) (tt_lifts init_lifts rfl)) (tt_make init_make rfl)) (by kernel_rfl)) (by kernel_rfl)) (by kernel_rfl)) (by kernel_rfl)))
    (of_decide_eq_true (by kernel_rfl)) (by unfold Func.isWrapper; first | (rw [if_pos (by decide +kernel)]; kernel_rfl) | (rw [if_neg (by decide +kernel)]; exact ⟨rfl, rfl⟩))
    (fun os started H enc _ => lifted os started H enc)

theorem proved : Rows.FnExactConstantGaussSaid := over
#print axioms proved
end fnExactConstantGauss
end Go.Proofs.Ythmhjnholhiohaa
