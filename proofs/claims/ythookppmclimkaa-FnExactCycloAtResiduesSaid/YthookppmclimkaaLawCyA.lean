/- CycloAtResidues answers as its model, for every argument. No condition. -/
import Derived.Test.YthookppmclimkaaPlcL
import Derived.Test.YthookppmclimkaaPlcO
import Derived.Test.YthookppmclimkaaCopy
import Derived.Deep.RegionHeld3
import Derived.Deep.DeepCutAuto
import Derived.ShutString
import Derived.ChangeOld
import Derived.Lib.SmallJoins
import Derived.Test.YthookppmclimkaaInit
namespace Go.Proofs.Ythookppmclimkaa
open Go.RowKit Go.ChangeShapes Go.Sort Go.WideShapes Go.ChangeAt
set_option linter.unusedVariables false
set_option linter.unusedSimpArgs false
namespace fnExactCycloAtResidues
set_option maxRecDepth 100000 in
set_option maxHeartbeats 4000000 in
theorem walk_of (w : World) (a0 : Int) (a1 : Int) (n2 : Nat) (f2 : Nat → Int) {lo2 hi2 : Nat} {u2 : Value} (hs2 : Sl false w lo2 hi2 u2 n2 f2) (R0 : Int) (N0 : Nat) (G0 : Nat → Int) (C1 : Int) (hn2 : n2 ≤ 1048576) (hN0 : N0 ≤ 1048576)
    (hS : ∀ (w : World) (o2 : Bool) (l2 h2 : Nat) (v2 : Value) (_ : Sl o2 w l2 h2 v2 n2 f2), Calls Try.prog 17 #[.int .i64 a0, .int .i64 a1, v2] w fun e w' => ∃ a0' k0', e = .returned (.tuple #[.agg #[.int .i64 R0, .slice a0' N0 k0'], .int .i64 C1]) ∧ Sl true w' w.heap.size w'.heap.size (.slice a0' N0 k0') N0 G0 ∧ Below w.heap.size w w')
    (hI : ∀ (w : World) (o2 : Bool) (l2 h2 : Nat) (v2 : Value) (_ : Sl o2 w l2 h2 v2 n2 f2), Calls Try.prog 19 #[.int .i64 a0, .int .i64 a1, v2] w fun e w' => ∃ a0' k0', e = .returned (.tuple #[.agg #[.int .i64 R0, .slice a0' N0 k0'], .int .i64 C1]) ∧ Sl true w' w.heap.size w'.heap.size (.slice a0' N0 k0') N0 G0 ∧ Below w.heap.size w w') :
    Calls Try.prog 6 #[.int .i64 a0, .int .i64 a1, u2] w fun e w' => e = .returned (.bool true) ∧ Below w.heap.size w w' := by
  obtain ⟨p2, q2, rfl⟩ := hs2.shape
  have HS := Lib.hid hS; clear hS
  have HI := Lib.hid hI; clear hI
  have st0 := St.start w
  have hh2 := hs2.size
  replace st0 := st0.addSl ⟨false, lo2, hi2, .slice p2 n2 q2, n2, f2⟩ hs2
  clear hs2
  go_enter Try.func6, Try.ntmps6
  have q_2 := st0.sl 0 ⟨false, lo2, hi2, .slice p2 n2 q2, n2, f2⟩ rfl
  dsimp only at q_2
  go_wp2_with fail
  refine (toInt64S_any _ q_2 hn2).mono ?_
  rintro e w1 ⟨aw1, kw1, rfl, sw1, bw1⟩
  have st1 := st0.keep bw1
  have hz_w1 := bw1.size
  try simp only [World.size_alloc] at hz_w1
  try simp only [World.size_alloc] at sw1
  replace st1 := st1.addSl ⟨true, w.heap.size, w1.heap.size, .slice aw1 n2 kw1, n2, f2⟩ sw1
  clear st0 bw1 sw1
  clear q_2
  have q_2 := st1.sl 0 ⟨true, w.heap.size, w1.heap.size, .slice aw1 n2 kw1, n2, f2⟩ rfl
  dsimp only at q_2
  go_wp2_with fail
  refine (HS.out _ _ _ _ _ q_2).mono ?_
  rintro e w2 ⟨aw2, kw2, rfl, sw2, bw2⟩
  have st2 := st1.keep bw2
  have hz_w2 := bw2.size
  try simp only [World.size_alloc] at hz_w2
  try simp only [World.size_alloc] at sw2
  replace st2 := st2.addSl ⟨true, w1.heap.size, w2.heap.size, .slice aw2 N0 kw2, N0, G0⟩ sw2
  replace st2 := (st2.alloc (.cells #[.int .i64 R0, .slice aw2 N0 kw2] 31)).addBox w2.heap.size [.int .i64 R0, .slice aw2 N0 kw2] (Box.made _ _ _ _ (fun j v h => by simpa using h))
  clear st1 bw2 sw2
  clear q_2
  have q_2 := st2.sl 2 ⟨false, lo2, hi2, .slice p2 n2 q2, n2, f2⟩ rfl
  dsimp only at q_2
  go_wp2_with fail
  refine (toInt64S_any _ q_2 hn2).mono ?_
  rintro e w3 ⟨aw3, kw3, rfl, sw3, bw3⟩
  have st3 := st2.keep bw3
  have hz_w3 := bw3.size
  try simp only [World.size_alloc] at hz_w3
  try simp only [World.size_alloc] at sw3
  replace st3 := st3.addSl ⟨true, w2.heap.size + 1, w3.heap.size, .slice aw3 n2 kw3, n2, f2⟩ sw3
  clear st2 bw3 sw3
  clear q_2
  have q_2 := st3.sl 0 ⟨true, w2.heap.size + 1, w3.heap.size, .slice aw3 n2 kw3, n2, f2⟩ rfl
  dsimp only at q_2
  go_wp2_with fail
  refine (HI.out _ _ _ _ _ q_2).mono ?_
  rintro e w4 ⟨aw4, kw4, rfl, sw4, bw4⟩
  have st4 := st3.keep bw4
  have hz_w4 := bw4.size
  try simp only [World.size_alloc] at hz_w4
  try simp only [World.size_alloc] at sw4
  replace st4 := st4.addSl ⟨true, w3.heap.size, w4.heap.size, .slice aw4 N0 kw4, N0, G0⟩ sw4
  replace st4 := (st4.alloc (.cells #[.int .i64 R0, .slice aw4 N0 kw4] 31)).addBox w4.heap.size [.int .i64 R0, .slice aw4 N0 kw4] (Box.made _ _ _ _ (fun j v h => by simpa using h))
  clear st3 bw4 sw4
  clear q_2
  obtain ⟨c_g0_0, c_g0_1⟩ := (st4.box 0 (w4.heap.size, [.int .i64 R0, .slice aw4 N0 kw4]) rfl).cell2
  obtain ⟨c_w0_0, c_w0_1⟩ := (st4.box 1 (w2.heap.size, [.int .i64 R0, .slice aw2 N0 kw2]) rfl).cell2
  have q_x := st4.sl 0 ⟨true, w3.heap.size, w4.heap.size, .slice aw4 N0 kw4, N0, G0⟩ rfl
  dsimp only at q_x
  have q_y := st4.sl 2 ⟨true, w1.heap.size, w2.heap.size, .slice aw2 N0 kw2, N0, G0⟩ rfl
  dsimp only at q_y
  go_wp2_with fail
  refine (eqCyclo_yes _ _ q_x q_y (fun _ _ => rfl)).mono ?_
  rintro e w5 ⟨rfl, bw5⟩
  have st5 := st4.keep bw5
  have hz_w5 := bw5.size
  try simp only [World.size_alloc] at hz_w5
  clear st4 bw5 
  clear c_g0_0 c_g0_1 c_w0_0 c_w0_1 q_x q_y
  have q_2 := st5.sl 4 ⟨false, lo2, hi2, .slice p2 n2 q2, n2, f2⟩ rfl
  dsimp only at q_2
  go_wp2_with fail
  refine (toInt64S_any _ q_2 hn2).mono ?_
  rintro e w6 ⟨aw6, kw6, rfl, sw6, bw6⟩
  have st6 := st5.keep bw6
  have hz_w6 := bw6.size
  try simp only [World.size_alloc] at hz_w6
  try simp only [World.size_alloc] at sw6
  replace st6 := st6.addSl ⟨true, w5.heap.size, w6.heap.size, .slice aw6 n2 kw6, n2, f2⟩ sw6
  clear st5 bw6 sw6
  clear q_2
  have q_x := st6.sl 2 ⟨true, w2.heap.size + 1, w3.heap.size, .slice aw3 n2 kw3, n2, f2⟩ rfl
  dsimp only at q_x
  have q_y := st6.sl 0 ⟨true, w5.heap.size, w6.heap.size, .slice aw6 n2 kw6, n2, f2⟩ rfl
  dsimp only at q_y
  go_wp2_with fail
  refine (eqInt64S_yes _ q_x q_y (fun _ _ => rfl)).mono ?_
  rintro e w7 ⟨rfl, bw7⟩
  have st7 := st6.keep bw7
  have hz_w7 := bw7.size
  try simp only [World.size_alloc] at hz_w7
  clear st6 bw7 
  clear q_x q_y
  have q_x := st7.sl 2 ⟨true, w2.heap.size + 1, w3.heap.size, .slice aw3 n2 kw3, n2, f2⟩ rfl
  dsimp only at q_x
  go_wp2_with fail
  refine (markInt64S_any _ _ q_x (by omega) (by omega) (by omega)).mono ?_
  rintro e w8 ⟨rfl, sw8, fw8⟩
  have st8 := st7.writeTo fw8 (by omega) (by intro b hb; simp only [List.mem_cons, List.not_mem_nil, or_false] at hb; rcases hb with rfl | rfl <;> dsimp only <;> omega)
    [⟨true, w5.heap.size, w6.heap.size, .slice aw6 n2 kw6, n2, f2⟩, ⟨true, w3.heap.size, w4.heap.size, .slice aw4 N0 kw4, N0, G0⟩, ⟨true, w1.heap.size, w2.heap.size, .slice aw2 N0 kw2, N0, G0⟩, ⟨true, w.heap.size, w1.heap.size, .slice aw1 n2 kw1, n2, f2⟩, ⟨false, lo2, hi2, .slice p2 n2 q2, n2, f2⟩] (by intro s hs; simp only [List.mem_cons, List.not_mem_nil, or_false] at hs; rcases hs with rfl | rfl | rfl | rfl | rfl <;> refine ⟨by simp, ?_⟩ <;> dsimp only <;> omega)
  replace st8 := st8.addSl ⟨true, w2.heap.size + 1, w3.heap.size, .slice aw3 n2 kw3, n2, (fun j : Nat => 1 + (j : Int))⟩ sw8
  have hz_w8 := fw8.size
  try simp only [World.size_alloc] at hz_w8
  clear st7 sw8 fw8
  clear q_x
  obtain ⟨c_g0_0, c_g0_1⟩ := (st8.box 0 (w4.heap.size, [.int .i64 R0, .slice aw4 N0 kw4]) rfl).cell2
  obtain ⟨c_w0_0, c_w0_1⟩ := (st8.box 1 (w2.heap.size, [.int .i64 R0, .slice aw2 N0 kw2]) rfl).cell2
  have q_x := st8.sl 2 ⟨true, w3.heap.size, w4.heap.size, .slice aw4 N0 kw4, N0, G0⟩ rfl
  dsimp only at q_x
  have q_y := st8.sl 3 ⟨true, w1.heap.size, w2.heap.size, .slice aw2 N0 kw2, N0, G0⟩ rfl
  dsimp only at q_y
  go_wp2_with fail
  refine (eqCyclo_yes _ _ q_x q_y (fun _ _ => rfl)).mono ?_
  rintro e w9 ⟨rfl, bw9⟩
  have st9 := st8.keep bw9
  have hz_w9 := bw9.size
  try simp only [World.size_alloc] at hz_w9
  clear st8 bw9 
  clear c_g0_0 c_g0_1 c_w0_0 c_w0_1 q_x q_y
  obtain ⟨c_g0_0, c_g0_1⟩ := (st9.box 0 (w4.heap.size, [.int .i64 R0, .slice aw4 N0 kw4]) rfl).cell2
  have q_x := st9.sl 2 ⟨true, w3.heap.size, w4.heap.size, .slice aw4 N0 kw4, N0, G0⟩ rfl
  dsimp only at q_x
  go_wp2_with fail
  refine (markCyclo_any _ _ _ q_x (by omega) (by omega) (by omega)).mono ?_
  rintro e w10 ⟨rfl, sw10, fw10⟩
  have st10 := st9.writeTo fw10 (by omega) (by intro b hb; simp only [List.mem_cons, List.not_mem_nil, or_false] at hb; rcases hb with rfl | rfl <;> dsimp only <;> omega)
    [⟨true, w2.heap.size + 1, w3.heap.size, .slice aw3 n2 kw3, n2, (fun j : Nat => 1 + (j : Int))⟩, ⟨true, w5.heap.size, w6.heap.size, .slice aw6 n2 kw6, n2, f2⟩, ⟨true, w1.heap.size, w2.heap.size, .slice aw2 N0 kw2, N0, G0⟩, ⟨true, w.heap.size, w1.heap.size, .slice aw1 n2 kw1, n2, f2⟩, ⟨false, lo2, hi2, .slice p2 n2 q2, n2, f2⟩] (by intro s hs; simp only [List.mem_cons, List.not_mem_nil, or_false] at hs; rcases hs with rfl | rfl | rfl | rfl | rfl <;> refine ⟨by simp, ?_⟩ <;> dsimp only <;> omega)
  replace st10 := st10.addSl ⟨true, w3.heap.size, w4.heap.size, .slice aw4 N0 kw4, N0, (fun j : Nat => 1 + (j : Int))⟩ sw10
  have hz_w10 := fw10.size
  try simp only [World.size_alloc] at hz_w10
  clear st9 sw10 fw10
  clear c_g0_0 c_g0_1 q_x
  obtain ⟨c_g0_0, c_g0_1⟩ := (st10.box 0 (w4.heap.size, [.int .i64 R0, .slice aw4 N0 kw4]) rfl).cell2
  have q_x := st10.sl 0 ⟨true, w3.heap.size, w4.heap.size, .slice aw4 N0 kw4, N0, (fun j : Nat => 1 + (j : Int))⟩ rfl
  dsimp only at q_x
  go_wp2_with fail
  refine (heldCyclo_any _ _ _ q_x (by omega) (by omega) (by omega)).mono ?_
  rintro e w11 ⟨rfl, bw11⟩
  have st11 := st10.keep bw11
  have hz_w11 := bw11.size
  try simp only [World.size_alloc] at hz_w11
  clear st10 bw11 
  clear c_g0_0 c_g0_1 q_x
  have q_2 := st11.sl 5 ⟨false, lo2, hi2, .slice p2 n2 q2, n2, f2⟩ rfl
  dsimp only at q_2
  go_wp2_with fail
  refine (toInt64S_any _ q_2 hn2).mono ?_
  rintro e w12 ⟨aw12, kw12, rfl, sw12, bw12⟩
  have st12 := st11.keep bw12
  have hz_w12 := bw12.size
  try simp only [World.size_alloc] at hz_w12
  try simp only [World.size_alloc] at sw12
  replace st12 := st12.addSl ⟨true, w11.heap.size, w12.heap.size, .slice aw12 n2 kw12, n2, f2⟩ sw12
  clear st11 bw12 sw12
  clear q_2
  have q_2 := st12.sl 0 ⟨true, w11.heap.size, w12.heap.size, .slice aw12 n2 kw12, n2, f2⟩ rfl
  dsimp only at q_2
  go_wp2_with fail
  refine (HI.out _ _ _ _ _ q_2).mono ?_
  rintro e w13 ⟨aw13, kw13, rfl, sw13, bw13⟩
  have st13 := st12.keep bw13
  have hz_w13 := bw13.size
  try simp only [World.size_alloc] at hz_w13
  try simp only [World.size_alloc] at sw13
  replace st13 := st13.addSl ⟨true, w12.heap.size, w13.heap.size, .slice aw13 N0 kw13, N0, G0⟩ sw13
  replace st13 := (st13.alloc (.cells #[.int .i64 R0, .slice aw13 N0 kw13] 31)).addBox w13.heap.size [.int .i64 R0, .slice aw13 N0 kw13] (Box.made _ _ _ _ (fun j v h => by simpa using h))
  clear st12 bw13 sw13
  clear q_2
  obtain ⟨c_h0_0, c_h0_1⟩ := (st13.box 0 (w13.heap.size, [.int .i64 R0, .slice aw13 N0 kw13]) rfl).cell2
  obtain ⟨c_w0_0, c_w0_1⟩ := (st13.box 2 (w2.heap.size, [.int .i64 R0, .slice aw2 N0 kw2]) rfl).cell2
  have q_x := st13.sl 0 ⟨true, w12.heap.size, w13.heap.size, .slice aw13 N0 kw13, N0, G0⟩ rfl
  dsimp only at q_x
  have q_y := st13.sl 5 ⟨true, w1.heap.size, w2.heap.size, .slice aw2 N0 kw2, N0, G0⟩ rfl
  dsimp only at q_y
  go_wp2_with fail
  refine (eqCyclo_yes _ _ q_x q_y (fun _ _ => rfl)).mono ?_
  rintro e w14 ⟨rfl, bw14⟩
  have st14 := st13.keep bw14
  have hz_w14 := bw14.size
  try simp only [World.size_alloc] at hz_w14
  clear st13 bw14 
  clear c_h0_0 c_h0_1 c_w0_0 c_w0_1 q_x q_y
  obtain ⟨c_g0_0, c_g0_1⟩ := (st14.box 1 (w4.heap.size, [.int .i64 R0, .slice aw4 N0 kw4]) rfl).cell2
  have q_x := st14.sl 2 ⟨true, w3.heap.size, w4.heap.size, .slice aw4 N0 kw4, N0, (fun j : Nat => 1 + (j : Int))⟩ rfl
  dsimp only at q_x
  go_wp2_with fail
  refine (heldCyclo_any _ _ _ q_x (by omega) (by omega) (by omega)).mono ?_
  rintro e w15 ⟨rfl, bw15⟩
  have st15 := st14.keep bw15
  have hz_w15 := bw15.size
  try simp only [World.size_alloc] at hz_w15
  clear st14 bw15 
  clear c_g0_0 c_g0_1 q_x
  go_wp2_with fail
  go_ret
  exact ⟨rfl, st15.1⟩

theorem walk_big2 (w : World) (a0 : Int) (a1 : Int) {lo2 hi2 n2 : Nat} {v2 : Value} {f2 : Nat → Int} (hs2 : Sl false w lo2 hi2 v2 n2 f2)  (hn2 : 1048576 < n2) :
    Calls Try.prog 6 #[.int .i64 a0, .int .i64 a1, v2] w fun e w' => e = .returned (.bool true) ∧ Below w.heap.size w w' := by
  obtain ⟨p2, c2, rfl⟩ := hs2.shape
  have hm2 := hs2.len
  have hm2' := hm2
  unfold maxLen at hm2'
  clear hs2
  go_enter Try.func6, Try.ntmps6
  go_wp2
  go_ret
  exact ⟨rfl, by go_grown⟩

theorem walk (w : World) (a0 : Int) (_ha0 : inR a0) (a1 : Int) (_ha1 : inR a1) {lo2 hi2 n2 : Nat} {v2 : Value} {f2 : Nat → Int} (hs2 : Sl false w lo2 hi2 v2 n2 f2) :
    Calls Try.prog 6 #[.int .i64 a0, .int .i64 a1, v2] w fun e w' => e = .returned (.bool true) ∧ Below w.heap.size w w' := by
  by_cases hL : n2 ≤ 1048576
  · by_cases h : RsP a0 a1 n2 f2
    · obtain ⟨hf, hm, hr⟩ := h
      obtain ⟨N, L, rfl, rfl, h1, h2, hl, hfn⟩ := hf.nat
      have hrl := rt_len hl h1 h2 hfn
      have hm' : n2 = (roots N L).length := by rw [hrl, hm, Int.toNat_natCast]
      subst hm'
      exact walk_of w N L _ f2 hs2 N (roots N L).length (nwF L (roots N L).length (roots N L) f2 (roots N L).length) 0 hL hL
        (fun w _ _ _ _ hs => (CycloAtResidues_spec_ou N L h1 h2 hl hfn w hs rfl hr).mono fun e w' ⟨a, k, he, s, b⟩ => ⟨a, k, he, s.congr (fun j hj => nw_ou hl h1 h2 hfn f2 (fun i hi => hr i hi) j hj), b⟩)
        (fun w _ _ _ _ hs => CycloAtResidues_impl_nw N L h1 h2 hl hfn w hs rfl hr)
    · exact walk_of w a0 a1 n2 f2 hs2 0 0 (fun _ => 0) 2 hL (by omega) (fun w _ _ _ _ hs => CycloAtResidues_spec_bad a0 a1 w hs h) (fun w _ _ _ _ hs => CycloAtResidues_impl_bad a0 a1 w hs h)
  · exact walk_big2 w a0 a1 hs2 (by omega)

theorem own : ownKnob Try.prog.godebug = none := by kernel_rfl
theorem laidOut : laidOutB Try.prog = true := by kernel_rfl
set_option maxRecDepth 100000 in
theorem lifted (os : Os) (started : os.Started) (H : Type) (enc : TypeId × Value → H) :
    ReturnsInHanded {} Try.checked os 6 .any (Rows.fnExactCycloAtResiduesSpec.pre6 enc Try.prog Try.f6 Rows.fnExactCycloAtResiduesRow.domain false) (Rows.fnExactCycloAtResiduesSpec.post enc Try.prog Try.f6 false true false false) := by
  refine returnsInHanded_of_change (C := Try.checked) own started (by kernel_rfl) Try.func6
    (ChangeSpec.witness6 (enc := enc) (C := Try.checked) false ⟨#[], #[.int .i64 0, .int .i64 0, .slice none 0 0], []⟩ 8 (by kernel_rfl) (by kernel_rfl) (by kernel_rfl) (by kernel_rfl)) ?_
  intro W base args ds gs before hval0 hW hcnd _
  have hval : ∀ (j : Nat) t v, Try.f6.params[j]? = some t → args[j]? = some v → Value.okWide Try.prog W .any base t v := hval0
  have hW' := hW
  obtain ⟨p, q, hA0, hV, rfl, hfz, hnd⟩ := hW
  have hA : DataW.TrodAll enc Try.prog W 0 (fun _ => true) true Try.f6.params.toList args.toList ds p := hA0
  rw [Try.params6] at hA hval
  obtain ⟨v0, vs0, d0, ds0, p0, q0, hargs, rfl, rfl, h0, r0⟩ := trodAll_cons hA
  obtain ⟨v1, vs1, d1, ds1, p1, q1, rfl, rfl, rfl, h1, r1⟩ := trodAll_cons r0
  obtain ⟨v2, vs2, d2, ds2, p2, q2, rfl, rfl, rfl, h2, r2⟩ := trodAll_cons r1
  obtain ⟨rfl, rfl, rfl⟩ := trodAll_nil r2
  obtain rfl : args = #[v0, v1, v2] := by cases args; simp_all
  obtain ⟨rfl, rfl⟩ := trodVars_none hV
  have k0 := h0
  have lt0 : ∀ x ∈ p0, x.block < W.heap.size := by obtain ⟨m, hm⟩ := k0; exact DataW.trod_lt m _ _ _ hm
  obtain ⟨a0, rfl, hd0, hp0, w0⟩ := open_int Try.underlying2 (hval 0 2 v0 rfl rfl) h0
  have k1 := h1
  have lt1 : ∀ x ∈ p1, x.block < W.heap.size := by obtain ⟨m, hm⟩ := k1; exact DataW.trod_lt m _ _ _ hm
  obtain ⟨a1, rfl, hd1, hp1, w1⟩ := open_int Try.underlying2 (hval 1 2 v1 rfl rfl) h1
  have k2 := h2
  have lt2 : ∀ x ∈ p2, x.block < W.heap.size := by obtain ⟨m, hm⟩ := k2; exact DataW.trod_lt m _ _ _ hm
  obtain ⟨n2, f2, s2⟩ : ∃ n f, Sl false W 0 W.heap.size v2 n f := by
    obtain ⟨a, len, cap, rfl⟩ := okWide_slice Try.underlying22 (hval 2 22 v2 rfl rfl)
    obtain ⟨fuel, hf⟩ := h2
    exact Sl.came Try.underlying22 Try.underlying2 (by kernel_rfl) (by simpa [Value.cells] using hf)
  clear hA0 hval0
  refine (walk W a0 (inR_wf w0) a1 (inR_wf w1) s2).mono fun e W' ⟨he, bel⟩ => ?_
  subst he
  exact ⟨_, rfl, _, _, _, [], _, [], hW', trodAll_mk1 (shut_bool Try.underlying4 _), (trodAll_cons_mk (Below.trod laidOut (by kernel_rfl) (of_decide_eq_true (by kernel_rfl)) k0 bel lt0) (trodAll_cons_mk (Below.trod laidOut (by kernel_rfl) (of_decide_eq_true (by kernel_rfl)) k1 bel lt1) (trodAll_cons_mk (Below.trod laidOut (by kernel_rfl) (of_decide_eq_true (by kernel_rfl)) k2 bel lt2) trodAll_mk0))), rfl, bel.frame _, fun h => by cases h⟩

theorem over : Rows.fnExactCycloAtResiduesRow.holds Try.pinned (OpenSpec.ofChange Rows.fnExactCycloAtResiduesSpec) :=
  OpenClaim.holds_of_wide 6 Try.f6 rfl rfl rfl rfl rfl rfl rfl ⟨rfl, rfl, rfl, rfl, rfl⟩ rfl rfl rfl rfl rfl (by kernel_rfl) Try.func6 (by unfold joinedFacts; exact (and_tt (and_tt (and_tt (and_tt (and_tt (and_tt (and_tt (and_tt (and_tt (and_tt (and_tt (and_tt (and_tt (and_tt (and_tt (and_tt (and_tt (and_tt (and_tt (and_tt (and_tt (and_tt (and_tt (and_tt (and_tt (and_tt (and_tt (and_tt (and_tt (and_tt (and_tt (by kernel_rfl) (by kernel_rfl)) (by kernel_rfl)) (by kernel_rfl)) (by kernel_rfl)) (by kernel_rfl)) (by kernel_rfl)) (by kernel_rfl)) (by kernel_rfl)) (by kernel_rfl)) (by kernel_rfl)) (by kernel_rfl)) (by kernel_rfl)) (by kernel_rfl)) (by kernel_rfl)) (by kernel_rfl)) (by kernel_rfl)) (by kernel_rfl)) (by kernel_rfl)) (by kernel_rfl)) (by kernel_rfl)) (by kernel_rfl)) (by kernel_rfl)) (by kernel_rfl)) (by kernel_rfl)) init_enter) (tt_lifts init_lifts rfl)) (tt_make init_make rfl)) (by kernel_rfl)) (by kernel_rfl)) (by kernel_rfl)) (by kernel_rfl)))
    (of_decide_eq_true (by kernel_rfl)) (by unfold Func.isWrapper; first | (rw [if_pos (by decide +kernel)]; kernel_rfl) | (rw [if_neg (by decide +kernel)]; exact ⟨rfl, rfl⟩))
    (fun os started H enc _ => lifted os started H enc)

theorem proved : Rows.FnExactCycloAtResiduesSaid := over
#print axioms proved
end fnExactCycloAtResidues
end Go.Proofs.Ythookppmclimkaa
