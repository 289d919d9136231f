/- SumOfCharacter answers as its model, for every argument. No condition. -/
import Derived.Test.YtkcofcppmlndiaaSumC
import Derived.Test.YtkcofcppmlndiaaFail
import Derived.Test.YtkcofcppmlndiaaCopy
import Derived.Deep.RegionHeld3
import Derived.Deep.DeepCutAuto
import Derived.ShutString
import Derived.ChangeOld
import Derived.Lib.SmallJoins
import Derived.Test.YtkcofcppmlndiaaInit
namespace Go.Proofs.Ytkcofcppmlndiaa
open Go.RowKit Go.ChangeShapes Go.Sort Go.WideShapes Go.ChangeAt
set_option linter.unusedVariables false
set_option linter.unusedSimpArgs false
namespace fnExactSumOfCharacter
set_option maxRecDepth 100000 in
set_option maxHeartbeats 4000000 in
theorem walk_of (w : World) (x0 y0 z0 : Int) (R0 : Int) (N0 : Nat) (G0 : Nat → Int) (C1 : Int) (hN0 : N0 ≤ 1048576)
    (hS : ∀ (w : World), Calls Try.prog 67 #[.agg #[.int .i64 x0, .int .i64 y0, .int .i64 z0]] w fun e w' => ∃ a0' k0', e = .returned (.tuple #[.agg #[.int .i64 R0, .slice a0' N0 k0'], .int .i64 C1]) ∧ Sl true w' w.heap.size w'.heap.size (.slice a0' N0 k0') N0 G0 ∧ Below w.heap.size w w')
    (hI : ∀ (w : World), Calls Try.prog 62 #[.agg #[.int .i64 x0, .int .i64 y0, .int .i64 z0]] w fun e w' => ∃ a0' k0', e = .returned (.tuple #[.agg #[.int .i64 R0, .slice a0' N0 k0'], .int .i64 C1]) ∧ Sl true w' w.heap.size w'.heap.size (.slice a0' N0 k0') N0 G0 ∧ Below w.heap.size w w') :
    Calls Try.prog 13 #[.agg #[.int .i64 x0, .int .i64 y0, .int .i64 z0]] w fun e w' => e = .returned (.bool true) ∧ Below w.heap.size w w' := by
  have HS := Lib.hid hS; clear hS
  have HI := Lib.hid hI; clear hI
  have st0 := St.start w
  replace st0 := (st0.alloc (.cells #[.int .i64 x0, .int .i64 y0, .int .i64 z0] 64)).addBox _ [.int .i64 x0, .int .i64 y0, .int .i64 z0] (Box.made _ _ _ _ (fun j v h => by simpa using h))
  go_enter Try.func13, Try.ntmps13
  have c_a0_0 := (st0.box 0 (w.heap.size, [.int .i64 x0, .int .i64 y0, .int .i64 z0]) rfl).2.1 0 _ rfl
  have c_a0_1 := (st0.box 0 (w.heap.size, [.int .i64 x0, .int .i64 y0, .int .i64 z0]) rfl).2.1 1 _ rfl
  have c_a0_2 := (st0.box 0 (w.heap.size, [.int .i64 x0, .int .i64 y0, .int .i64 z0]) rfl).2.1 2 _ rfl
  go_wp2_with fail
  refine (toCharacter_any _ _ _ _).mono ?_
  rintro e w1 ⟨rfl, bw1⟩
  have st1 := st0.keep bw1
  have hz_w1 := bw1.size
  try simp only [World.size_alloc] at hz_w1
  clear st0 bw1 
  clear c_a0_0 c_a0_1 c_a0_2
  go_wp2_with fail
  refine (HS.out _ ).mono ?_
  rintro e w2 ⟨aw2, kw2, rfl, sw2, bw2⟩
  have st2 := st1.keep bw2
  have hz_w2 := bw2.size
  try simp only [World.size_alloc] at hz_w2
  try simp only [World.size_alloc] at sw2
  replace st2 := st2.addSl ⟨true, w1.heap.size, w2.heap.size, .slice aw2 N0 kw2, N0, G0⟩ sw2
  replace st2 := (st2.alloc (.cells #[.int .i64 R0, .slice aw2 N0 kw2] 40)).addBox w2.heap.size [.int .i64 R0, .slice aw2 N0 kw2] (Box.made _ _ _ _ (fun j v h => by simpa using h))
  clear st1 bw2 sw2
  have c_a0_0 := (st2.box 1 (w.heap.size, [.int .i64 x0, .int .i64 y0, .int .i64 z0]) rfl).2.1 0 _ rfl
  have c_a0_1 := (st2.box 1 (w.heap.size, [.int .i64 x0, .int .i64 y0, .int .i64 z0]) rfl).2.1 1 _ rfl
  have c_a0_2 := (st2.box 1 (w.heap.size, [.int .i64 x0, .int .i64 y0, .int .i64 z0]) rfl).2.1 2 _ rfl
  go_wp2_with fail
  refine (toCharacter_any _ _ _ _).mono ?_
  rintro e w3 ⟨rfl, bw3⟩
  have st3 := st2.keep bw3
  have hz_w3 := bw3.size
  try simp only [World.size_alloc] at hz_w3
  clear st2 bw3 
  clear c_a0_0 c_a0_1 c_a0_2
  go_wp2_with fail
  refine (HI.out _ ).mono ?_
  rintro e w4 ⟨aw4, kw4, rfl, sw4, bw4⟩
  have st4 := st3.keep bw4
  have hz_w4 := bw4.size
  try simp only [World.size_alloc] at hz_w4
  try simp only [World.size_alloc] at sw4
  replace st4 := st4.addSl ⟨true, w3.heap.size, w4.heap.size, .slice aw4 N0 kw4, N0, G0⟩ sw4
  replace st4 := (st4.alloc (.cells #[.int .i64 R0, .slice aw4 N0 kw4] 40)).addBox w4.heap.size [.int .i64 R0, .slice aw4 N0 kw4] (Box.made _ _ _ _ (fun j v h => by simpa using h))
  clear st3 bw4 sw4
  obtain ⟨c_g0_0, c_g0_1⟩ := (st4.box 0 (w4.heap.size, [.int .i64 R0, .slice aw4 N0 kw4]) rfl).cell2
  obtain ⟨c_w0_0, c_w0_1⟩ := (st4.box 1 (w2.heap.size, [.int .i64 R0, .slice aw2 N0 kw2]) rfl).cell2
  have q_x := st4.sl 0 ⟨true, w3.heap.size, w4.heap.size, .slice aw4 N0 kw4, N0, G0⟩ rfl
  dsimp only at q_x
  have q_y := st4.sl 1 ⟨true, w1.heap.size, w2.heap.size, .slice aw2 N0 kw2, N0, G0⟩ rfl
  dsimp only at q_y
  go_wp2_with fail
  refine (eqCyclo_yes _ _ q_x q_y (fun _ _ => rfl)).mono ?_
  rintro e w5 ⟨rfl, bw5⟩
  have st5 := st4.keep bw5
  have hz_w5 := bw5.size
  try simp only [World.size_alloc] at hz_w5
  clear st4 bw5 
  clear c_g0_0 c_g0_1 c_w0_0 c_w0_1 q_x q_y
  obtain ⟨c_g0_0, c_g0_1⟩ := (st5.box 0 (w4.heap.size, [.int .i64 R0, .slice aw4 N0 kw4]) rfl).cell2
  have q_x := st5.sl 0 ⟨true, w3.heap.size, w4.heap.size, .slice aw4 N0 kw4, N0, G0⟩ rfl
  dsimp only at q_x
  go_wp2_with fail
  refine (markCyclo_any _ _ _ q_x (by omega) (by omega) (by omega)).mono ?_
  rintro e w6 ⟨rfl, sw6, fw6⟩
  have st6 := st5.writeTo fw6 (by omega) (by intro b hb; simp only [List.mem_cons, List.not_mem_nil, or_false] at hb; rcases hb with rfl | rfl | rfl <;> dsimp only <;> omega)
    [⟨true, w1.heap.size, w2.heap.size, .slice aw2 N0 kw2, N0, G0⟩] (by intro s hs; simp only [List.mem_cons, List.not_mem_nil, or_false] at hs; rcases hs with rfl <;> refine ⟨by simp, ?_⟩ <;> dsimp only <;> omega)
  replace st6 := st6.addSl ⟨true, w3.heap.size, w4.heap.size, .slice aw4 N0 kw4, N0, (fun j : Nat => 1 + (j : Int))⟩ sw6
  have hz_w6 := fw6.size
  try simp only [World.size_alloc] at hz_w6
  clear st5 sw6 fw6
  clear c_g0_0 c_g0_1 q_x
  obtain ⟨c_g0_0, c_g0_1⟩ := (st6.box 0 (w4.heap.size, [.int .i64 R0, .slice aw4 N0 kw4]) rfl).cell2
  have q_x := st6.sl 0 ⟨true, w3.heap.size, w4.heap.size, .slice aw4 N0 kw4, N0, (fun j : Nat => 1 + (j : Int))⟩ rfl
  dsimp only at q_x
  go_wp2_with fail
  refine (heldCyclo_any _ _ _ q_x (by omega) (by omega) (by omega)).mono ?_
  rintro e w7 ⟨rfl, bw7⟩
  have st7 := st6.keep bw7
  have hz_w7 := bw7.size
  try simp only [World.size_alloc] at hz_w7
  clear st6 bw7 
  clear c_g0_0 c_g0_1 q_x
  have c_a0_0 := (st7.box 2 (w.heap.size, [.int .i64 x0, .int .i64 y0, .int .i64 z0]) rfl).2.1 0 _ rfl
  have c_a0_1 := (st7.box 2 (w.heap.size, [.int .i64 x0, .int .i64 y0, .int .i64 z0]) rfl).2.1 1 _ rfl
  have c_a0_2 := (st7.box 2 (w.heap.size, [.int .i64 x0, .int .i64 y0, .int .i64 z0]) rfl).2.1 2 _ rfl
  go_wp2_with fail
  refine (toCharacter_any _ _ _ _).mono ?_
  rintro e w8 ⟨rfl, bw8⟩
  have st8 := st7.keep bw8
  have hz_w8 := bw8.size
  try simp only [World.size_alloc] at hz_w8
  clear st7 bw8 
  clear c_a0_0 c_a0_1 c_a0_2
  go_wp2_with fail
  refine (HI.out _ ).mono ?_
  rintro e w9 ⟨aw9, kw9, rfl, sw9, bw9⟩
  have st9 := st8.keep bw9
  have hz_w9 := bw9.size
  try simp only [World.size_alloc] at hz_w9
  try simp only [World.size_alloc] at sw9
  replace st9 := st9.addSl ⟨true, w8.heap.size, w9.heap.size, .slice aw9 N0 kw9, N0, G0⟩ sw9
  replace st9 := (st9.alloc (.cells #[.int .i64 R0, .slice aw9 N0 kw9] 40)).addBox w9.heap.size [.int .i64 R0, .slice aw9 N0 kw9] (Box.made _ _ _ _ (fun j v h => by simpa using h))
  clear st8 bw9 sw9
  obtain ⟨c_h0_0, c_h0_1⟩ := (st9.box 0 (w9.heap.size, [.int .i64 R0, .slice aw9 N0 kw9]) rfl).cell2
  obtain ⟨c_w0_0, c_w0_1⟩ := (st9.box 2 (w2.heap.size, [.int .i64 R0, .slice aw2 N0 kw2]) rfl).cell2
  have q_x := st9.sl 0 ⟨true, w8.heap.size, w9.heap.size, .slice aw9 N0 kw9, N0, G0⟩ rfl
  dsimp only at q_x
  have q_y := st9.sl 2 ⟨true, w1.heap.size, w2.heap.size, .slice aw2 N0 kw2, N0, G0⟩ rfl
  dsimp only at q_y
  go_wp2_with fail
  refine (eqCyclo_yes _ _ q_x q_y (fun _ _ => rfl)).mono ?_
  rintro e w10 ⟨rfl, bw10⟩
  have st10 := st9.keep bw10
  have hz_w10 := bw10.size
  try simp only [World.size_alloc] at hz_w10
  clear st9 bw10 
  clear c_h0_0 c_h0_1 c_w0_0 c_w0_1 q_x q_y
  obtain ⟨c_g0_0, c_g0_1⟩ := (st10.box 1 (w4.heap.size, [.int .i64 R0, .slice aw4 N0 kw4]) rfl).cell2
  have q_x := st10.sl 1 ⟨true, w3.heap.size, w4.heap.size, .slice aw4 N0 kw4, N0, (fun j : Nat => 1 + (j : Int))⟩ rfl
  dsimp only at q_x
  go_wp2_with fail
  refine (heldCyclo_any _ _ _ q_x (by omega) (by omega) (by omega)).mono ?_
  rintro e w11 ⟨rfl, bw11⟩
  have st11 := st10.keep bw11
  have hz_w11 := bw11.size
  try simp only [World.size_alloc] at hz_w11
  clear st10 bw11 
  clear c_g0_0 c_g0_1 q_x
  go_wp2_with fail
  go_ret
  exact ⟨rfl, st11.1⟩


theorem walk (w : World) (x0 y0 z0 : Int) (_hx0 : inR x0) (_hy0 : inR y0) (_hz0 : inR z0) :
    Calls Try.prog 13 #[.agg #[.int .i64 x0, .int .i64 y0, .int .i64 z0]] w fun e w' => e = .returned (.bool true) ∧ Below w.heap.size w w' := by
  by_cases h : ChP x0 y0 z0
  · obtain ⟨P, N, K, rfl, rfl, rfl, h1, h2, h3, h4, h5⟩ := h.nat
    have hp := phi_le12 N (by omega) (by omega)
    exact walk_of w P N K N (phiN N) (sumZ P N K (fun _ => 1) P) 0 (by omega) (fun w => SumOfCharacter_spec_ok P N K h1 h2 h3 h4 h5 w) (fun w => SumOfCharacter_impl_ok P N K h1 h2 h3 h4 h5 w)
  · exact walk_of w x0 y0 z0 0 0 (fun _ => 0) 1 (by omega) (fun w => fail_form (SumOfCharacter_spec_bad x0 y0 z0 h w)) (fun w => fail_form (SumOfCharacter_impl_bad x0 y0 z0 h w))

theorem own : ownKnob Try.prog.godebug = none := by kernel_rfl
theorem laidOut : laidOutB Try.prog = true := by kernel_rfl
set_option maxRecDepth 100000 in
theorem lifted (os : Os) (started : os.Started) (H : Type) (enc : TypeId × Value → H) :
    ReturnsInHanded {} Try.checked os 13 .any (Rows.fnExactSumOfCharacterSpec.pre6 enc Try.prog Try.f13 Rows.fnExactSumOfCharacterRow.domain false) (Rows.fnExactSumOfCharacterSpec.post enc Try.prog Try.f13 false true false false) := by
  refine returnsInHanded_of_change (C := Try.checked) own started (by kernel_rfl) Try.func13
    (ChangeSpec.witness6 (enc := enc) (C := Try.checked) false ⟨#[], #[.agg #[.int .i64 0, .int .i64 0, .int .i64 0]], []⟩ 8 (by kernel_rfl) (by kernel_rfl) (by kernel_rfl) (by kernel_rfl)) ?_
  intro W base args ds gs before hval0 hW hcnd _
  have hval : ∀ (j : Nat) t v, Try.f13.params[j]? = some t → args[j]? = some v → Value.okWide Try.prog W .any base t v := hval0
  have hW' := hW
  obtain ⟨p, q, hA0, hV, rfl, hfz, hnd⟩ := hW
  have hA : DataW.TrodAll enc Try.prog W 0 (fun _ => true) true Try.f13.params.toList args.toList ds p := hA0
  rw [Try.params13] at hA hval
  obtain ⟨v0, vs0, d0, ds0, p0, q0, hargs, rfl, rfl, h0, r0⟩ := trodAll_cons hA
  obtain ⟨rfl, rfl, rfl⟩ := trodAll_nil r0
  obtain rfl : args = #[v0] := by cases args; simp_all
  obtain ⟨rfl, rfl⟩ := trodVars_none hV
  have k0 := h0
  have lt0 : ∀ x ∈ p0, x.block < W.heap.size := by obtain ⟨m, hm⟩ := k0; exact DataW.trod_lt m _ _ _ hm
  obtain ⟨x0, y0, z0, rfl, wx0, wy0, wz0⟩ : ∃ x y z, v0 = .agg #[.int .i64 x, .int .i64 y, .int .i64 z] ∧ inR x ∧ inR y ∧ inR z := by
    obtain ⟨c0, c1, c2, y0, y1, y2, m, rfl, _, _, hy0, hy1, hy2⟩ := Joins.open_agg3 Try.underlying64 (by kernel_rfl) (by kernel_rfl) (hval 0 64 v0 rfl rfl) h0
    obtain ⟨x, e0, _, wx⟩ := DataW.trod_int Try.underlying2 hy0
    obtain ⟨y, e1, _, wy⟩ := DataW.trod_int Try.underlying2 hy1
    obtain ⟨z, e2, _, wz⟩ := DataW.trod_int Try.underlying2 hy2
    simp at e0 e1 e2
    exact ⟨x, y, z, by rw [e0, e1, e2], inR_wf wx, inR_wf wy, inR_wf wz⟩
  clear hA0 hval0
  refine (walk W x0 y0 z0 wx0 wy0 wz0).mono fun e W' ⟨he, bel⟩ => ?_
  subst he
  exact ⟨_, rfl, _, _, _, [], _, [], hW', trodAll_mk1 (shut_bool Try.underlying4 _), (trodAll_cons_mk (Below.trod laidOut (by kernel_rfl) (of_decide_eq_true (by kernel_rfl)) k0 bel lt0) trodAll_mk0), rfl, bel.frame _, fun h => by cases h⟩

theorem over : Rows.fnExactSumOfCharacterRow.holds Try.pinned (OpenSpec.ofChange Rows.fnExactSumOfCharacterSpec) :=
  OpenClaim.holds_of_wide 13 Try.f13 rfl rfl rfl rfl rfl rfl rfl ⟨rfl, rfl, rfl, rfl, rfl⟩ rfl rfl rfl rfl rfl (by kernel_rfl) Try.func13 (by unfold joinedFacts; exact (and_tt (and_tt (and_tt (and_tt (and_tt (and_tt (and_tt (and_tt (and_tt (and_tt (and_tt (and_tt (and_tt (and_tt (and_tt (and_tt (and_tt (and_tt (and_tt (and_tt (and_tt (and_tt (and_tt (and_tt (and_tt (and_tt (and_tt (and_tt (and_tt (and_tt (and_tt (by kernel_rfl) (by kernel_rfl)) (by kernel_rfl)) (by kernel_rfl)) (by kernel_rfl)) (by kernel_rfl)) (by kernel_rfl)) (by kernel_rfl)) (by kernel_rfl)) (by kernel_rfl)) (by kernel_rfl)) (by kernel_rfl)) (by kernel_rfl)) (by kernel_rfl)) (by kernel_rfl)) (by kernel_rfl)) (by kernel_rfl)) (by kernel_rfl)) (by kernel_rfl)) (by kernel_rfl)) (by kernel_rfl)) (by kernel_rfl)) (by kernel_rfl)) (by kernel_rfl)) (by kernel_rfl)) init_enter) (tt_lifts init_lifts rfl)) (tt_make init_make rfl)) (by kernel_rfl)) (by kernel_rfl)) (by kernel_rfl)) (by kernel_rfl)))
    (of_decide_eq_true (by kernel_rfl)) (by unfold Func.isWrapper; first | (rw [if_pos (by decide +kernel)]; kernel_rfl) | (rw [if_neg (by decide +kernel)]; exact ⟨rfl, rfl⟩))
    (fun os started H enc _ => lifted os started H enc)

theorem proved : Rows.FnExactSumOfCharacterSaid := over
#print axioms proved
end fnExactSumOfCharacter
end Go.Proofs.Ytkcofcppmlndiaa
