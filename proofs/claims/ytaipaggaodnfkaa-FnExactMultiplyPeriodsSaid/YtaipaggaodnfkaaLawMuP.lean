/- MultiplyPeriods answers as its model, for every argument. No condition. -/
import Derived.Test.YtaipaggaodnfkaaPerK
import Derived.Test.YtaipaggaodnfkaaCopy
import Derived.Deep.RegionHeld3
import Derived.Deep.DeepCutAuto
import Derived.ShutString
import Derived.ChangeOld
import Derived.Lib.SmallJoins
import Derived.Test.YtaipaggaodnfkaaInit
namespace Go.Proofs.Ytaipaggaodnfkaa
open Go.RowKit Go.ChangeShapes Go.Sort Go.WideShapes Go.ChangeAt
set_option linter.unusedVariables false
set_option linter.unusedSimpArgs false
namespace fnExactMultiplyPeriods
set_option maxRecDepth 100000 in
set_option maxHeartbeats 4000000 in
theorem walk_of (w : World) (a0 : Int) (a1 : Int) (n2 : Nat) (f2 : Nat → Int) (n3 : Nat) (f3 : Nat → Int) {lo2 hi2 : Nat} {u2 : Value} (hs2 : Sl false w lo2 hi2 u2 n2 f2) {lo3 hi3 : Nat} {u3 : Value} (hs3 : Sl false w lo3 hi3 u3 n3 f3) (N0 : Nat) (G0 : Nat → Int) (C1 : Int) (hn2 : n2 ≤ 1048576) (hn3 : n3 ≤ 1048576) (hN0 : N0 ≤ 1048576)
    (hS : ∀ (w : World) (o2 : Bool) (l2 h2 : Nat) (v2 : Value) (_ : Sl o2 w l2 h2 v2 n2 f2) (o3 : Bool) (l3 h3 : Nat) (v3 : Value) (_ : Sl o3 w l3 h3 v3 n3 f3), Calls Try.prog 39 #[.int .i64 a0, .int .i64 a1, v2, v3] w fun e w' => ∃ a0' k0', e = .returned (.tuple #[.slice a0' N0 k0', .int .i64 C1]) ∧ Sl true w' w.heap.size w'.heap.size (.slice a0' N0 k0') N0 G0 ∧ Below w.heap.size w w')
    (hI : ∀ (w : World) (o2 : Bool) (l2 h2 : Nat) (v2 : Value) (_ : Sl o2 w l2 h2 v2 n2 f2) (o3 : Bool) (l3 h3 : Nat) (v3 : Value) (_ : Sl o3 w l3 h3 v3 n3 f3), Calls Try.prog 38 #[.int .i64 a0, .int .i64 a1, v2, v3] w fun e w' => ∃ a0' k0', e = .returned (.tuple #[.slice a0' N0 k0', .int .i64 C1]) ∧ Sl true w' w.heap.size w'.heap.size (.slice a0' N0 k0') N0 G0 ∧ Below w.heap.size w w') :
    Calls Try.prog 9 #[.int .i64 a0, .int .i64 a1, u2, u3] w fun e w' => e = .returned (.bool true) ∧ Below w.heap.size w w' := by
  obtain ⟨p2, q2, rfl⟩ := hs2.shape
  obtain ⟨p3, q3, rfl⟩ := hs3.shape
  have HS := Lib.hid hS; clear hS
  have HI := Lib.hid hI; clear hI
  have st0 := St.start w
  have hh2 := hs2.size
  replace st0 := st0.addSl ⟨false, lo2, hi2, .slice p2 n2 q2, n2, f2⟩ hs2
  have hh3 := hs3.size
  replace st0 := st0.addSl ⟨false, lo3, hi3, .slice p3 n3 q3, n3, f3⟩ hs3
  clear hs2 hs3
  go_enter Try.func9, Try.ntmps9
  have q_2 := st0.sl 1 ⟨false, lo2, hi2, .slice p2 n2 q2, n2, f2⟩ rfl
  dsimp only at q_2
  go_wp2_with fail
  refine (toInt64S_any _ q_2 hn2).mono ?_
  rintro e w1 ⟨aw1, kw1, rfl, sw1, bw1⟩
  have st1 := st0.keep bw1
  have hz_w1 := bw1.size
  try simp only [World.size_alloc] at hz_w1
  try simp only [World.size_alloc] at sw1
  replace st1 := st1.addSl ⟨true, w.heap.size, w1.heap.size, .slice aw1 n2 kw1, n2, f2⟩ sw1
  clear st0 bw1 sw1
  clear q_2
  have q_3 := st1.sl 1 ⟨false, lo3, hi3, .slice p3 n3 q3, n3, f3⟩ rfl
  dsimp only at q_3
  go_wp2_with fail
  refine (toInt64S_any _ q_3 hn3).mono ?_
  rintro e w2 ⟨aw2, kw2, rfl, sw2, bw2⟩
  have st2 := st1.keep bw2
  have hz_w2 := bw2.size
  try simp only [World.size_alloc] at hz_w2
  try simp only [World.size_alloc] at sw2
  replace st2 := st2.addSl ⟨true, w1.heap.size, w2.heap.size, .slice aw2 n3 kw2, n3, f3⟩ sw2
  clear st1 bw2 sw2
  clear q_3
  have q_2 := st2.sl 1 ⟨true, w.heap.size, w1.heap.size, .slice aw1 n2 kw1, n2, f2⟩ rfl
  dsimp only at q_2
  have q_3 := st2.sl 0 ⟨true, w1.heap.size, w2.heap.size, .slice aw2 n3 kw2, n3, f3⟩ rfl
  dsimp only at q_3
  go_wp2_with fail
  refine (HS.out _ _ _ _ _ q_2 _ _ _ _ q_3).mono ?_
  rintro e w3 ⟨aw3, kw3, rfl, sw3, bw3⟩
  have st3 := st2.keep bw3
  have hz_w3 := bw3.size
  try simp only [World.size_alloc] at hz_w3
  try simp only [World.size_alloc] at sw3
  replace st3 := st3.addSl ⟨true, w2.heap.size, w3.heap.size, .slice aw3 N0 kw3, N0, G0⟩ sw3
  clear st2 bw3 sw3
  clear q_2 q_3
  have q_2 := st3.sl 4 ⟨false, lo2, hi2, .slice p2 n2 q2, n2, f2⟩ rfl
  dsimp only at q_2
  go_wp2_with fail
  refine (toInt64S_any _ q_2 hn2).mono ?_
  rintro e w4 ⟨aw4, kw4, rfl, sw4, bw4⟩
  have st4 := st3.keep bw4
  have hz_w4 := bw4.size
  try simp only [World.size_alloc] at hz_w4
  try simp only [World.size_alloc] at sw4
  replace st4 := st4.addSl ⟨true, w3.heap.size, w4.heap.size, .slice aw4 n2 kw4, n2, f2⟩ sw4
  clear st3 bw4 sw4
  clear q_2
  have q_3 := st4.sl 4 ⟨false, lo3, hi3, .slice p3 n3 q3, n3, f3⟩ rfl
  dsimp only at q_3
  go_wp2_with fail
  refine (toInt64S_any _ q_3 hn3).mono ?_
  rintro e w5 ⟨aw5, kw5, rfl, sw5, bw5⟩
  have st5 := st4.keep bw5
  have hz_w5 := bw5.size
  try simp only [World.size_alloc] at hz_w5
  try simp only [World.size_alloc] at sw5
  replace st5 := st5.addSl ⟨true, w4.heap.size, w5.heap.size, .slice aw5 n3 kw5, n3, f3⟩ sw5
  clear st4 bw5 sw5
  clear q_3
  have q_2 := st5.sl 1 ⟨true, w3.heap.size, w4.heap.size, .slice aw4 n2 kw4, n2, f2⟩ rfl
  dsimp only at q_2
  have q_3 := st5.sl 0 ⟨true, w4.heap.size, w5.heap.size, .slice aw5 n3 kw5, n3, f3⟩ rfl
  dsimp only at q_3
  go_wp2_with fail
  refine (HI.out _ _ _ _ _ q_2 _ _ _ _ q_3).mono ?_
  rintro e w6 ⟨aw6, kw6, rfl, sw6, bw6⟩
  have st6 := st5.keep bw6
  have hz_w6 := bw6.size
  try simp only [World.size_alloc] at hz_w6
  try simp only [World.size_alloc] at sw6
  replace st6 := st6.addSl ⟨true, w5.heap.size, w6.heap.size, .slice aw6 N0 kw6, N0, G0⟩ sw6
  clear st5 bw6 sw6
  clear q_2 q_3
  have q_x := st6.sl 0 ⟨true, w5.heap.size, w6.heap.size, .slice aw6 N0 kw6, N0, G0⟩ rfl
  dsimp only at q_x
  have q_y := st6.sl 3 ⟨true, w2.heap.size, w3.heap.size, .slice aw3 N0 kw3, N0, G0⟩ rfl
  dsimp only at q_y
  go_wp2_with fail
  refine (eqInt64S_yes _ q_x q_y (fun _ _ => rfl)).mono ?_
  rintro e w7 ⟨rfl, bw7⟩
  have st7 := st6.keep bw7
  have hz_w7 := bw7.size
  try simp only [World.size_alloc] at hz_w7
  clear st6 bw7 
  clear q_x q_y
  have q_2 := st7.sl 7 ⟨false, lo2, hi2, .slice p2 n2 q2, n2, f2⟩ rfl
  dsimp only at q_2
  go_wp2_with fail
  refine (toInt64S_any _ q_2 hn2).mono ?_
  rintro e w8 ⟨aw8, kw8, rfl, sw8, bw8⟩
  have st8 := st7.keep bw8
  have hz_w8 := bw8.size
  try simp only [World.size_alloc] at hz_w8
  try simp only [World.size_alloc] at sw8
  replace st8 := st8.addSl ⟨true, w7.heap.size, w8.heap.size, .slice aw8 n2 kw8, n2, f2⟩ sw8
  clear st7 bw8 sw8
  clear q_2
  have q_x := st8.sl 3 ⟨true, w3.heap.size, w4.heap.size, .slice aw4 n2 kw4, n2, f2⟩ rfl
  dsimp only at q_x
  have q_y := st8.sl 0 ⟨true, w7.heap.size, w8.heap.size, .slice aw8 n2 kw8, n2, f2⟩ rfl
  dsimp only at q_y
  go_wp2_with fail
  refine (eqInt64S_yes _ q_x q_y (fun _ _ => rfl)).mono ?_
  rintro e w9 ⟨rfl, bw9⟩
  have st9 := st8.keep bw9
  have hz_w9 := bw9.size
  try simp only [World.size_alloc] at hz_w9
  clear st8 bw9 
  clear q_x q_y
  have q_3 := st9.sl 7 ⟨false, lo3, hi3, .slice p3 n3 q3, n3, f3⟩ rfl
  dsimp only at q_3
  go_wp2_with fail
  refine (toInt64S_any _ q_3 hn3).mono ?_
  rintro e w10 ⟨aw10, kw10, rfl, sw10, bw10⟩
  have st10 := st9.keep bw10
  have hz_w10 := bw10.size
  try simp only [World.size_alloc] at hz_w10
  try simp only [World.size_alloc] at sw10
  replace st10 := st10.addSl ⟨true, w9.heap.size, w10.heap.size, .slice aw10 n3 kw10, n3, f3⟩ sw10
  clear st9 bw10 sw10
  clear q_3
  have q_x := st10.sl 3 ⟨true, w4.heap.size, w5.heap.size, .slice aw5 n3 kw5, n3, f3⟩ rfl
  dsimp only at q_x
  have q_y := st10.sl 0 ⟨true, w9.heap.size, w10.heap.size, .slice aw10 n3 kw10, n3, f3⟩ rfl
  dsimp only at q_y
  go_wp2_with fail
  refine (eqInt64S_yes _ q_x q_y (fun _ _ => rfl)).mono ?_
  rintro e w11 ⟨rfl, bw11⟩
  have st11 := st10.keep bw11
  have hz_w11 := bw11.size
  try simp only [World.size_alloc] at hz_w11
  clear st10 bw11 
  clear q_x q_y
  have q_x := st11.sl 4 ⟨true, w3.heap.size, w4.heap.size, .slice aw4 n2 kw4, n2, f2⟩ rfl
  dsimp only at q_x
  go_wp2_with fail
  refine (markInt64S_any _ _ q_x (by omega) (by omega) (by omega)).mono ?_
  rintro e w12 ⟨rfl, sw12, fw12⟩
  have st12 := st11.writeTo fw12 (by omega) (by intro b hb; cases hb)
    [⟨true, w9.heap.size, w10.heap.size, .slice aw10 n3 kw10, n3, f3⟩, ⟨true, w7.heap.size, w8.heap.size, .slice aw8 n2 kw8, n2, f2⟩, ⟨true, w5.heap.size, w6.heap.size, .slice aw6 N0 kw6, N0, G0⟩, ⟨true, w4.heap.size, w5.heap.size, .slice aw5 n3 kw5, n3, f3⟩, ⟨true, w2.heap.size, w3.heap.size, .slice aw3 N0 kw3, N0, G0⟩, ⟨true, w1.heap.size, w2.heap.size, .slice aw2 n3 kw2, n3, f3⟩, ⟨true, w.heap.size, w1.heap.size, .slice aw1 n2 kw1, n2, f2⟩, ⟨false, lo3, hi3, .slice p3 n3 q3, n3, f3⟩, ⟨false, lo2, hi2, .slice p2 n2 q2, n2, f2⟩] (by intro s hs; simp only [List.mem_cons, List.not_mem_nil, or_false] at hs; rcases hs with rfl | rfl | rfl | rfl | rfl | rfl | rfl | rfl | rfl <;> refine ⟨by simp, ?_⟩ <;> dsimp only <;> omega)
  replace st12 := st12.addSl ⟨true, w3.heap.size, w4.heap.size, .slice aw4 n2 kw4, n2, (fun j : Nat => 1 + (j : Int))⟩ sw12
  have hz_w12 := fw12.size
  try simp only [World.size_alloc] at hz_w12
  clear st11 sw12 fw12
  clear q_x
  have q_x := st12.sl 4 ⟨true, w4.heap.size, w5.heap.size, .slice aw5 n3 kw5, n3, f3⟩ rfl
  dsimp only at q_x
  go_wp2_with fail
  refine (markInt64S_any _ _ q_x (by omega) (by omega) (by omega)).mono ?_
  rintro e w13 ⟨rfl, sw13, fw13⟩
  have st13 := st12.writeTo fw13 (by omega) (by intro b hb; cases hb)
    [⟨true, w3.heap.size, w4.heap.size, .slice aw4 n2 kw4, n2, (fun j : Nat => 1 + (j : Int))⟩, ⟨true, w9.heap.size, w10.heap.size, .slice aw10 n3 kw10, n3, f3⟩, ⟨true, w7.heap.size, w8.heap.size, .slice aw8 n2 kw8, n2, f2⟩, ⟨true, w5.heap.size, w6.heap.size, .slice aw6 N0 kw6, N0, G0⟩, ⟨true, w2.heap.size, w3.heap.size, .slice aw3 N0 kw3, N0, G0⟩, ⟨true, w1.heap.size, w2.heap.size, .slice aw2 n3 kw2, n3, f3⟩, ⟨true, w.heap.size, w1.heap.size, .slice aw1 n2 kw1, n2, f2⟩, ⟨false, lo3, hi3, .slice p3 n3 q3, n3, f3⟩, ⟨false, lo2, hi2, .slice p2 n2 q2, n2, f2⟩] (by intro s hs; simp only [List.mem_cons, List.not_mem_nil, or_false] at hs; rcases hs with rfl | rfl | rfl | rfl | rfl | rfl | rfl | rfl | rfl <;> refine ⟨by simp, ?_⟩ <;> dsimp only <;> omega)
  replace st13 := st13.addSl ⟨true, w4.heap.size, w5.heap.size, .slice aw5 n3 kw5, n3, (fun j : Nat => (1 + (n2 : Int)) + (j : Int))⟩ sw13
  have hz_w13 := fw13.size
  try simp only [World.size_alloc] at hz_w13
  clear st12 sw13 fw13
  clear q_x
  have q_x := st13.sl 4 ⟨true, w5.heap.size, w6.heap.size, .slice aw6 N0 kw6, N0, G0⟩ rfl
  dsimp only at q_x
  have q_y := st13.sl 5 ⟨true, w2.heap.size, w3.heap.size, .slice aw3 N0 kw3, N0, G0⟩ rfl
  dsimp only at q_y
  go_wp2_with fail
  refine (eqInt64S_yes _ q_x q_y (fun _ _ => rfl)).mono ?_
  rintro e w14 ⟨rfl, bw14⟩
  have st14 := st13.keep bw14
  have hz_w14 := bw14.size
  try simp only [World.size_alloc] at hz_w14
  clear st13 bw14 
  clear q_x q_y
  have q_x := st14.sl 4 ⟨true, w5.heap.size, w6.heap.size, .slice aw6 N0 kw6, N0, G0⟩ rfl
  dsimp only at q_x
  go_wp2_with fail
  refine (markInt64S_any _ _ q_x (by omega) (by omega) (by omega)).mono ?_
  rintro e w15 ⟨rfl, sw15, fw15⟩
  have st15 := st14.writeTo fw15 (by omega) (by intro b hb; cases hb)
    [⟨true, w4.heap.size, w5.heap.size, .slice aw5 n3 kw5, n3, (fun j : Nat => (1 + (n2 : Int)) + (j : Int))⟩, ⟨true, w3.heap.size, w4.heap.size, .slice aw4 n2 kw4, n2, (fun j : Nat => 1 + (j : Int))⟩, ⟨true, w9.heap.size, w10.heap.size, .slice aw10 n3 kw10, n3, f3⟩, ⟨true, w7.heap.size, w8.heap.size, .slice aw8 n2 kw8, n2, f2⟩, ⟨true, w2.heap.size, w3.heap.size, .slice aw3 N0 kw3, N0, G0⟩, ⟨true, w1.heap.size, w2.heap.size, .slice aw2 n3 kw2, n3, f3⟩, ⟨true, w.heap.size, w1.heap.size, .slice aw1 n2 kw1, n2, f2⟩, ⟨false, lo3, hi3, .slice p3 n3 q3, n3, f3⟩, ⟨false, lo2, hi2, .slice p2 n2 q2, n2, f2⟩] (by intro s hs; simp only [List.mem_cons, List.not_mem_nil, or_false] at hs; rcases hs with rfl | rfl | rfl | rfl | rfl | rfl | rfl | rfl | rfl <;> refine ⟨by simp, ?_⟩ <;> dsimp only <;> omega)
  replace st15 := st15.addSl ⟨true, w5.heap.size, w6.heap.size, .slice aw6 N0 kw6, N0, (fun j : Nat => 1 + (j : Int))⟩ sw15
  have hz_w15 := fw15.size
  try simp only [World.size_alloc] at hz_w15
  clear st14 sw15 fw15
  clear q_x
  have q_x := st15.sl 0 ⟨true, w5.heap.size, w6.heap.size, .slice aw6 N0 kw6, N0, (fun j : Nat => 1 + (j : Int))⟩ rfl
  dsimp only at q_x
  go_wp2_with fail
  refine (heldInt64S_any _ _ q_x (by omega) (by omega) (by omega)).mono ?_
  rintro e w16 ⟨rfl, bw16⟩
  have st16 := st15.keep bw16
  have hz_w16 := bw16.size
  try simp only [World.size_alloc] at hz_w16
  clear st15 bw16 
  clear q_x
  have q_2 := st16.sl 9 ⟨false, lo2, hi2, .slice p2 n2 q2, n2, f2⟩ rfl
  dsimp only at q_2
  go_wp2_with fail
  refine (toInt64S_any _ q_2 hn2).mono ?_
  rintro e w17 ⟨aw17, kw17, rfl, sw17, bw17⟩
  have st17 := st16.keep bw17
  have hz_w17 := bw17.size
  try simp only [World.size_alloc] at hz_w17
  try simp only [World.size_alloc] at sw17
  replace st17 := st17.addSl ⟨true, w16.heap.size, w17.heap.size, .slice aw17 n2 kw17, n2, f2⟩ sw17
  clear st16 bw17 sw17
  clear q_2
  have q_3 := st17.sl 9 ⟨false, lo3, hi3, .slice p3 n3 q3, n3, f3⟩ rfl
  dsimp only at q_3
  go_wp2_with fail
  refine (toInt64S_any _ q_3 hn3).mono ?_
  rintro e w18 ⟨aw18, kw18, rfl, sw18, bw18⟩
  have st18 := st17.keep bw18
  have hz_w18 := bw18.size
  try simp only [World.size_alloc] at hz_w18
  try simp only [World.size_alloc] at sw18
  replace st18 := st18.addSl ⟨true, w17.heap.size, w18.heap.size, .slice aw18 n3 kw18, n3, f3⟩ sw18
  clear st17 bw18 sw18
  clear q_3
  have q_2 := st18.sl 1 ⟨true, w16.heap.size, w17.heap.size, .slice aw17 n2 kw17, n2, f2⟩ rfl
  dsimp only at q_2
  have q_3 := st18.sl 0 ⟨true, w17.heap.size, w18.heap.size, .slice aw18 n3 kw18, n3, f3⟩ rfl
  dsimp only at q_3
  go_wp2_with fail
  refine (HI.out _ _ _ _ _ q_2 _ _ _ _ q_3).mono ?_
  rintro e w19 ⟨aw19, kw19, rfl, sw19, bw19⟩
  have st19 := st18.keep bw19
  have hz_w19 := bw19.size
  try simp only [World.size_alloc] at hz_w19
  try simp only [World.size_alloc] at sw19
  replace st19 := st19.addSl ⟨true, w18.heap.size, w19.heap.size, .slice aw19 N0 kw19, N0, G0⟩ sw19
  clear st18 bw19 sw19
  clear q_2 q_3
  have q_x := st19.sl 0 ⟨true, w18.heap.size, w19.heap.size, .slice aw19 N0 kw19, N0, G0⟩ rfl
  dsimp only at q_x
  have q_y := st19.sl 8 ⟨true, w2.heap.size, w3.heap.size, .slice aw3 N0 kw3, N0, G0⟩ rfl
  dsimp only at q_y
  go_wp2_with fail
  refine (eqInt64S_yes _ q_x q_y (fun _ _ => rfl)).mono ?_
  rintro e w20 ⟨rfl, bw20⟩
  have st20 := st19.keep bw20
  have hz_w20 := bw20.size
  try simp only [World.size_alloc] at hz_w20
  clear st19 bw20 
  clear q_x q_y
  have q_x := st20.sl 3 ⟨true, w5.heap.size, w6.heap.size, .slice aw6 N0 kw6, N0, (fun j : Nat => 1 + (j : Int))⟩ rfl
  dsimp only at q_x
  go_wp2_with fail
  refine (heldInt64S_any _ _ q_x (by omega) (by omega) (by omega)).mono ?_
  rintro e w21 ⟨rfl, bw21⟩
  have st21 := st20.keep bw21
  have hz_w21 := bw21.size
  try simp only [World.size_alloc] at hz_w21
  clear st20 bw21 
  clear q_x
  go_wp2_with fail
  go_ret
  exact ⟨rfl, st21.1⟩

theorem walk_big2 (w : World) (a0 : Int) (a1 : Int) {lo2 hi2 n2 : Nat} {v2 : Value} {f2 : Nat → Int} (hs2 : Sl false w lo2 hi2 v2 n2 f2) {lo3 hi3 n3 : Nat} {v3 : Value} {f3 : Nat → Int} (hs3 : Sl false w lo3 hi3 v3 n3 f3) (hn2 : 1048576 < n2) :
    Calls Try.prog 9 #[.int .i64 a0, .int .i64 a1, v2, v3] w fun e w' => e = .returned (.bool true) ∧ Below w.heap.size w w' := by
  obtain ⟨p2, c2, rfl⟩ := hs2.shape
  have hm2 := hs2.len
  unfold maxLen at hm2
  obtain ⟨p3, c3, rfl⟩ := hs3.shape
  have hm3 := hs3.len
  unfold maxLen at hm3
  clear hs2 hs3
  go_enter Try.func9, Try.ntmps9
  go_wp2
  go_ret
  exact ⟨rfl, by go_grown⟩

theorem walk_big3 (w : World) (a0 : Int) (a1 : Int) {lo2 hi2 n2 : Nat} {v2 : Value} {f2 : Nat → Int} (hs2 : Sl false w lo2 hi2 v2 n2 f2) {lo3 hi3 n3 : Nat} {v3 : Value} {f3 : Nat → Int} (hs3 : Sl false w lo3 hi3 v3 n3 f3) (hn2 : n2 ≤ 1048576) (hn3 : 1048576 < n3) :
    Calls Try.prog 9 #[.int .i64 a0, .int .i64 a1, v2, v3] w fun e w' => e = .returned (.bool true) ∧ Below w.heap.size w w' := by
  obtain ⟨p2, c2, rfl⟩ := hs2.shape
  have hm2 := hs2.len
  unfold maxLen at hm2
  obtain ⟨p3, c3, rfl⟩ := hs3.shape
  have hm3 := hs3.len
  unfold maxLen at hm3
  clear hs2 hs3
  go_enter Try.func9, Try.ntmps9
  go_wp2
  go_ret
  exact ⟨rfl, by go_grown⟩

theorem walk (w : World) (a0 : Int) (_ha0 : inR a0) (a1 : Int) (_ha1 : inR a1) {lo2 hi2 n2 : Nat} {v2 : Value} {f2 : Nat → Int} (hs2 : Sl false w lo2 hi2 v2 n2 f2) {lo3 hi3 n3 : Nat} {v3 : Value} {f3 : Nat → Int} (hs3 : Sl false w lo3 hi3 v3 n3 f3) :
    Calls Try.prog 9 #[.int .i64 a0, .int .i64 a1, v2, v3] w fun e w' => e = .returned (.bool true) ∧ Below w.heap.size w w' := by
  by_cases hL : n2 ≤ 1048576
  · by_cases hL3 : n3 ≤ 1048576
    · by_cases h : SumP a0 a1 n2 f2 ∧ SumP a0 a1 n3 f3
      · obtain ⟨hs, ht⟩ := h
        obtain ⟨P, rfl, rfl, h1, h2, h3, h4, h5⟩ := hs.nat
        obtain ⟨P', hP', hn', _, _, _, _, k5⟩ := ht.nat
        obtain rfl : n2 = n3 := by omega
        exact walk_of w P n2 n2 f2 n2 f3 hs2 hs3 n2 (prT n2 (prodR P n2) f2 f3) 0 hL hL3 (by omega) (fun w _ _ _ _ ha _ _ _ _ hb => MultiplyPeriods_spec_ok P h1 h2 h3 h4 w ha hb h5 k5) (fun w _ _ _ _ ha _ _ _ _ hb => MultiplyPeriods_impl_ok P h1 h2 h3 h4 w ha hb h5 k5)
      · exact walk_of w a0 a1 n2 f2 n3 f3 hs2 hs3 0 (fun _ => 0) 2 hL hL3 (by omega) (fun w _ _ _ _ ha _ _ _ _ hb => MultiplyPeriods_spec_bad a0 a1 w ha hb h) (fun w _ _ _ _ ha _ _ _ _ hb => MultiplyPeriods_impl_bad a0 a1 w ha hb h)
    · exact walk_big3 w a0 a1 hs2 hs3 hL (by omega)
  · exact walk_big2 w a0 a1 hs2 hs3 (by omega)

theorem own : ownKnob Try.prog.godebug = none := by kernel_rfl
theorem laidOut : laidOutB Try.prog = true := by kernel_rfl
set_option maxRecDepth 100000 in
theorem lifted (os : Os) (started : os.Started) (H : Type) (enc : TypeId × Value → H) :
    ReturnsInHanded {} Try.checked os 9 .any (Rows.fnExactMultiplyPeriodsSpec.pre6 enc Try.prog Try.f9 Rows.fnExactMultiplyPeriodsRow.domain false) (Rows.fnExactMultiplyPeriodsSpec.post enc Try.prog Try.f9 false true false false) := by
  refine returnsInHanded_of_change (C := Try.checked) own started (by kernel_rfl) Try.func9
    (ChangeSpec.witness6 (enc := enc) (C := Try.checked) false ⟨#[], #[.int .i64 0, .int .i64 0, .slice none 0 0, .slice none 0 0], []⟩ 8 (by kernel_rfl) (by kernel_rfl) (by kernel_rfl) (by kernel_rfl)) ?_
  intro W base args ds gs before hval0 hW hcnd _
  have hval : ∀ (j : Nat) t v, Try.f9.params[j]? = some t → args[j]? = some v → Value.okWide Try.prog W .any base t v := hval0
  have hW' := hW
  obtain ⟨p, q, hA0, hV, rfl, hfz, hnd⟩ := hW
  have hA : DataW.TrodAll enc Try.prog W 0 (fun _ => true) true Try.f9.params.toList args.toList ds p := hA0
  rw [Try.params9] at hA hval
  obtain ⟨v0, vs0, d0, ds0, p0, q0, hargs, rfl, rfl, h0, r0⟩ := trodAll_cons hA
  obtain ⟨v1, vs1, d1, ds1, p1, q1, rfl, rfl, rfl, h1, r1⟩ := trodAll_cons r0
  obtain ⟨v2, vs2, d2, ds2, p2, q2, rfl, rfl, rfl, h2, r2⟩ := trodAll_cons r1
  obtain ⟨v3, vs3, d3, ds3, p3, q3, rfl, rfl, rfl, h3, r3⟩ := trodAll_cons r2
  obtain ⟨rfl, rfl, rfl⟩ := trodAll_nil r3
  obtain rfl : args = #[v0, v1, v2, v3] := by cases args; simp_all
  obtain ⟨rfl, rfl⟩ := trodVars_none hV
  have k0 := h0
  have lt0 : ∀ x ∈ p0, x.block < W.heap.size := by obtain ⟨m, hm⟩ := k0; exact DataW.trod_lt m _ _ _ hm
  obtain ⟨a0, rfl, hd0, hp0, w0⟩ := open_int Try.underlying2 (hval 0 2 v0 rfl rfl) h0
  have k1 := h1
  have lt1 : ∀ x ∈ p1, x.block < W.heap.size := by obtain ⟨m, hm⟩ := k1; exact DataW.trod_lt m _ _ _ hm
  obtain ⟨a1, rfl, hd1, hp1, w1⟩ := open_int Try.underlying2 (hval 1 2 v1 rfl rfl) h1
  have k2 := h2
  have lt2 : ∀ x ∈ p2, x.block < W.heap.size := by obtain ⟨m, hm⟩ := k2; exact DataW.trod_lt m _ _ _ hm
  obtain ⟨n2, f2, s2⟩ : ∃ n f, Sl false W 0 W.heap.size v2 n f := by
    obtain ⟨a, len, cap, rfl⟩ := okWide_slice Try.underlying33 (hval 2 33 v2 rfl rfl)
    obtain ⟨fuel, hf⟩ := h2
    exact Sl.came Try.underlying33 Try.underlying2 (by kernel_rfl) (by simpa [Value.cells] using hf)
  have k3 := h3
  have lt3 : ∀ x ∈ p3, x.block < W.heap.size := by obtain ⟨m, hm⟩ := k3; exact DataW.trod_lt m _ _ _ hm
  obtain ⟨n3, f3, s3⟩ : ∃ n f, Sl false W 0 W.heap.size v3 n f := by
    obtain ⟨a, len, cap, rfl⟩ := okWide_slice Try.underlying33 (hval 3 33 v3 rfl rfl)
    obtain ⟨fuel, hf⟩ := h3
    exact Sl.came Try.underlying33 Try.underlying2 (by kernel_rfl) (by simpa [Value.cells] using hf)
  clear hA0 hval0
  refine (walk W a0 (inR_wf w0) a1 (inR_wf w1) s2 s3).mono fun e W' ⟨he, bel⟩ => ?_
  subst he
  exact ⟨_, rfl, _, _, _, [], _, [], hW', trodAll_mk1 (shut_bool Try.underlying4 _), (trodAll_cons_mk (Below.trod laidOut (by kernel_rfl) (of_decide_eq_true (by kernel_rfl)) k0 bel lt0) (trodAll_cons_mk (Below.trod laidOut (by kernel_rfl) (of_decide_eq_true (by kernel_rfl)) k1 bel lt1) (trodAll_cons_mk (Below.trod laidOut (by kernel_rfl) (of_decide_eq_true (by kernel_rfl)) k2 bel lt2) (trodAll_cons_mk (Below.trod laidOut (by kernel_rfl) (of_decide_eq_true (by kernel_rfl)) k3 bel lt3) trodAll_mk0)))), rfl, bel.frame _, fun h => by cases h⟩

theorem over : Rows.fnExactMultiplyPeriodsRow.holds Try.pinned (OpenSpec.ofChange Rows.fnExactMultiplyPeriodsSpec) :=
  OpenClaim.holds_of_wide 9 Try.f9 rfl rfl rfl rfl rfl rfl rfl ⟨rfl, rfl, rfl, rfl, rfl⟩ rfl rfl rfl rfl rfl (by kernel_rfl) Try.func9 (by unfold joinedFacts; exact (and_tt (and_tt (and_tt (and_tt (and_tt (and_tt (and_tt (and_tt (and_tt (and_tt (and_tt (and_tt (and_tt (and_tt (and_tt (and_tt (and_tt (and_tt (and_tt (and_tt (and_tt (and_tt (and_tt (and_tt (and_tt (and_tt (and_tt (and_tt (and_tt (and_tt (and_tt (by kernel_rfl) (by kernel_rfl)) (by kernel_rfl)) (by kernel_rfl)) (by kernel_rfl)) (by kernel_rfl)) (by kernel_rfl)) (by kernel_rfl)) (by kernel_rfl)) (by kernel_rfl)) (by kernel_rfl)) (by kernel_rfl)) (by kernel_rfl)) (by kernel_rfl)) (by kernel_rfl)) (by kernel_rfl)) (by kernel_rfl)) (by kernel_rfl)) (by kernel_rfl)) (by kernel_rfl)) (by kernel_rfl)) (by kernel_rfl)) (by kernel_rfl)) (by kernel_rfl)) (by kernel_rfl)) init_enter) (tt_lifts init_lifts rfl)) (tt_make init_make rfl)) (by kernel_rfl)) (by kernel_rfl)) (by kernel_rfl)) (by kernel_rfl)))
    (of_decide_eq_true (by kernel_rfl)) (by unfold Func.isWrapper; first | (rw [if_pos (by decide +kernel)]; kernel_rfl) | (rw [if_neg (by decide +kernel)]; exact ⟨rfl, rfl⟩))
    (fun os started H enc _ => lifted os started H enc)

theorem proved : Rows.FnExactMultiplyPeriodsSaid := over
#print axioms proved
end fnExactMultiplyPeriods
end Go.Proofs.Ytaipaggaodnfkaa
