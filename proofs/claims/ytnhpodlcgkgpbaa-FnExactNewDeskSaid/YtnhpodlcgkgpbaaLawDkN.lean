/- NewDesk answers as its model. No condition. -/
import Derived.Test.YtnhpodlcgkgpbaaDkN
import Derived.Test.YtnhpodlcgkgpbaaInit
import Derived.Deep.RegionHeld3
import Derived.Deep.DeepCutAuto
import Derived.ShutString
import Derived.ChangeOld
import Derived.Lib.SmallJoins
namespace Go.Proofs.Ytnhpodlcgkgpbaa
open Go.RowKit Go.ChangeShapes Go.Sort Go.WideShapes Go.ChangeAt
set_option linter.unusedVariables false
set_option linter.unusedSimpArgs false
namespace fnExactNewDesk
set_option maxRecDepth 100000 in
set_option maxHeartbeats 4000000 in
theorem walk (w : World) :
    Calls Try.prog 3 #[] w fun e w' => e = .returned (.bool true) ∧ Below w.heap.size w w' := by
  go_enter Try.func3, Try.ntmps3
  go_wp2_with fail
  refine (NewDesk_spec _).mono ?_
  rintro e w1 ⟨a1, c1, b1, d1, K1, rfl, s1, t1, h1, i1, B1⟩
  have hz1 := B1.size
  try simp only [World.size_alloc] at hz1 h1
  have st := ((((St.start w).keep B1).addSl ⟨true, K1, K1 + 1, .slice a1 4 c1, 4, nwA⟩ s1).addSl ⟨true, K1 + 1, K1 + 2, .slice b1 4 d1, 4, (fun _ => 1)⟩ t1).alloc (.cells #[.int .i64 5, .slice a1 4 c1, .int .i64 5, .int .i64 4, .int .i64 1, .int .i64 5, .slice b1 4 d1] 30) |>.addBox w1.heap.size [.int .i64 5, .slice a1 4 c1, .int .i64 5, .int .i64 4, .int .i64 1, .int .i64 5, .slice b1 4 d1] (Box.made _ _ _ _ (fun j v h => by simpa using h))
  clear s1 t1 B1
  go_wp2_with fail
  refine (NewDesk_impl _).mono ?_
  rintro e w2 ⟨a2, c2, b2, d2, K2, rfl, s2, t2, h2, i2, B2⟩
  have hz2 := B2.size
  try simp only [World.size_alloc] at hz2 h2
  replace st := (((st.keep B2).addSl ⟨true, K2, K2 + 1, .slice a2 4 c2, 4, nwA⟩ s2).addSl ⟨true, K2 + 1, K2 + 2, .slice b2 4 d2, 4, (fun _ => 1)⟩ t2).alloc (.cells #[.int .i64 5, .slice a2 4 c2, .int .i64 5, .int .i64 4, .int .i64 1, .int .i64 5, .slice b2 4 d2] 30) |>.addBox w2.heap.size [.int .i64 5, .slice a2 4 c2, .int .i64 5, .int .i64 4, .int .i64 1, .int .i64 5, .slice b2 4 d2] (Box.made _ _ _ _ (fun j v h => by simpa using h))
  clear s2 t2 B2
  obtain ⟨y0, y1, y2, y3, y4, y5, y6⟩ := (st.box 0 (w2.heap.size, [.int .i64 5, .slice a2 4 c2, .int .i64 5, .int .i64 4, .int .i64 1, .int .i64 5, .slice b2 4 d2]) rfl).cell7
  dsimp only at y0 y1 y2 y3 y4 y5 y6
  obtain ⟨z0, z1, z2, z3, z4, z5, z6⟩ := (st.box 1 (w1.heap.size, [.int .i64 5, .slice a1 4 c1, .int .i64 5, .int .i64 4, .int .i64 1, .int .i64 5, .slice b1 4 d1]) rfl).cell7
  dsimp only at z0 z1 z2 z3 z4 z5 z6
  have q1 := st.sl 1 ⟨true, K2, K2 + 1, .slice a2 4 c2, 4, nwA⟩ rfl
  have q2 := st.sl 0 ⟨true, K2 + 1, K2 + 2, .slice b2 4 d2, 4, (fun _ => 1)⟩ rfl
  have q3 := st.sl 3 ⟨true, K1, K1 + 1, .slice a1 4 c1, 4, nwA⟩ rfl
  have q4 := st.sl 2 ⟨true, K1 + 1, K1 + 2, .slice b1 4 d1, 4, (fun _ => 1)⟩ rfl
  dsimp only at q1 q2 q3 q4
  go_wp2_with fail
  refine (eqDesk_yes _ _ _ _ _ _ q1 q2 q3 q4 (fun _ _ => rfl) (fun _ _ => rfl)).mono ?_
  rintro e w3 ⟨rfl, B3⟩
  have hz3 := B3.size
  try simp only [World.size_alloc] at hz3
  replace st := st.keep B3
  clear B3 q1 q2 q3 q4 y0 y1 y2 y3 y4 y5 y6 z0 z1 z2 z3 z4 z5 z6
  obtain ⟨y0, y1, y2, y3, y4, y5, y6⟩ := (st.box 0 (w2.heap.size, [.int .i64 5, .slice a2 4 c2, .int .i64 5, .int .i64 4, .int .i64 1, .int .i64 5, .slice b2 4 d2]) rfl).cell7
  dsimp only at y0 y1 y2 y3 y4 y5 y6
  have q1 := st.sl 1 ⟨true, K2, K2 + 1, .slice a2 4 c2, 4, nwA⟩ rfl
  have q2 := st.sl 0 ⟨true, K2 + 1, K2 + 2, .slice b2 4 d2, 4, (fun _ => 1)⟩ rfl
  dsimp only at q1 q2
  go_wp2_with fail
  refine (markDesk_any 5 5 4 1 5 1 _ q1 q2 (Nat.le_refl _) (by omega) (by omega) (by omega) (by omega) (by omega) (by omega)).mono ?_
  rintro e w4 ⟨rfl, s4, t4, f4⟩
  have hz4 := f4.size
  replace st := ((st.writeTo f4 (by omega) (by intro b hb; simp only [List.mem_cons, List.not_mem_nil, or_false] at hb; rcases hb with rfl | rfl <;> dsimp only <;> omega) [⟨true, K1 + 1, K1 + 2, .slice b1 4 d1, 4, (fun _ => 1)⟩, ⟨true, K1, K1 + 1, .slice a1 4 c1, 4, nwA⟩] (by intro s hs; simp only [List.mem_cons, List.not_mem_nil, or_false] at hs; rcases hs with rfl | rfl <;> refine ⟨by simp, ?_⟩ <;> dsimp only <;> omega)).addSl ⟨true, K2, K2 + 1, .slice a2 4 c2, 4, (fun j : Nat => 1 + (j : Int))⟩ s4).addSl ⟨true, K2 + 1, K2 + 2, .slice b2 4 d2, 4, (fun j : Nat => 1 + (4 : Nat) + (j : Int))⟩ t4
  clear s4 t4 f4 q1 q2 y0 y1 y2 y3 y4 y5 y6
  obtain ⟨y0, y1, y2, y3, y4, y5, y6⟩ := (st.box 0 (w2.heap.size, [.int .i64 5, .slice a2 4 c2, .int .i64 5, .int .i64 4, .int .i64 1, .int .i64 5, .slice b2 4 d2]) rfl).cell7
  dsimp only at y0 y1 y2 y3 y4 y5 y6
  have q1 := st.sl 1 ⟨true, K2, K2 + 1, .slice a2 4 c2, 4, (fun j : Nat => 1 + (j : Int))⟩ rfl
  have q2 := st.sl 0 ⟨true, K2 + 1, K2 + 2, .slice b2 4 d2, 4, (fun j : Nat => 1 + (4 : Nat) + (j : Int))⟩ rfl
  dsimp only at q1 q2
  go_wp2_with fail
  refine (heldDesk_any 5 5 4 1 5 1 _ q1 q2 (by omega) (by omega) (by omega) (by omega)).mono ?_
  rintro e w5 ⟨rfl, B5⟩
  have hz5 := B5.size
  replace st := st.keep B5
  clear B5 q1 q2 y0 y1 y2 y3 y4 y5 y6
  go_wp2_with fail
  refine (NewDesk_impl _).mono ?_
  rintro e w6 ⟨a6, c6, b6, d6, K6, rfl, s6, t6, h6, i6, B6⟩
  have hz6 := B6.size
  try simp only [World.size_alloc] at hz6 h6
  replace st := (((st.keep B6).addSl ⟨true, K6, K6 + 1, .slice a6 4 c6, 4, nwA⟩ s6).addSl ⟨true, K6 + 1, K6 + 2, .slice b6 4 d6, 4, (fun _ => 1)⟩ t6).alloc (.cells #[.int .i64 5, .slice a6 4 c6, .int .i64 5, .int .i64 4, .int .i64 1, .int .i64 5, .slice b6 4 d6] 30) |>.addBox w6.heap.size [.int .i64 5, .slice a6 4 c6, .int .i64 5, .int .i64 4, .int .i64 1, .int .i64 5, .slice b6 4 d6] (Box.made _ _ _ _ (fun j v h => by simpa using h))
  clear s6 t6 B6
  obtain ⟨y0, y1, y2, y3, y4, y5, y6⟩ := (st.box 0 (w6.heap.size, [.int .i64 5, .slice a6 4 c6, .int .i64 5, .int .i64 4, .int .i64 1, .int .i64 5, .slice b6 4 d6]) rfl).cell7
  dsimp only at y0 y1 y2 y3 y4 y5 y6
  obtain ⟨z0, z1, z2, z3, z4, z5, z6⟩ := (st.box 2 (w1.heap.size, [.int .i64 5, .slice a1 4 c1, .int .i64 5, .int .i64 4, .int .i64 1, .int .i64 5, .slice b1 4 d1]) rfl).cell7
  dsimp only at z0 z1 z2 z3 z4 z5 z6
  have q1 := st.sl 1 ⟨true, K6, K6 + 1, .slice a6 4 c6, 4, nwA⟩ rfl
  have q2 := st.sl 0 ⟨true, K6 + 1, K6 + 2, .slice b6 4 d6, 4, (fun _ => 1)⟩ rfl
  have q3 := st.sl 5 ⟨true, K1, K1 + 1, .slice a1 4 c1, 4, nwA⟩ rfl
  have q4 := st.sl 4 ⟨true, K1 + 1, K1 + 2, .slice b1 4 d1, 4, (fun _ => 1)⟩ rfl
  dsimp only at q1 q2 q3 q4
  go_wp2_with fail
  refine (eqDesk_yes _ _ _ _ _ _ q1 q2 q3 q4 (fun _ _ => rfl) (fun _ _ => rfl)).mono ?_
  rintro e w7 ⟨rfl, B7⟩
  have hz7 := B7.size
  try simp only [World.size_alloc] at hz7
  replace st := st.keep B7
  clear B7 q1 q2 q3 q4 y0 y1 y2 y3 y4 y5 y6 z0 z1 z2 z3 z4 z5 z6
  obtain ⟨y0, y1, y2, y3, y4, y5, y6⟩ := (st.box 1 (w2.heap.size, [.int .i64 5, .slice a2 4 c2, .int .i64 5, .int .i64 4, .int .i64 1, .int .i64 5, .slice b2 4 d2]) rfl).cell7
  dsimp only at y0 y1 y2 y3 y4 y5 y6
  have q1 := st.sl 3 ⟨true, K2, K2 + 1, .slice a2 4 c2, 4, (fun j : Nat => 1 + (j : Int))⟩ rfl
  have q2 := st.sl 2 ⟨true, K2 + 1, K2 + 2, .slice b2 4 d2, 4, (fun j : Nat => 1 + (4 : Nat) + (j : Int))⟩ rfl
  dsimp only at q1 q2
  go_wp2_with fail
  refine (heldDesk_any 5 5 4 1 5 1 _ q1 q2 (by omega) (by omega) (by omega) (by omega)).mono ?_
  rintro e w8 ⟨rfl, B8⟩
  have hz8 := B8.size
  replace st := st.keep B8
  clear B8 q1 q2 y0 y1 y2 y3 y4 y5 y6
  have BB := st.1
  go_wp2
  go_ret
  exact ⟨rfl, BB⟩
theorem own : ownKnob Try.prog.godebug = none := by kernel_rfl
theorem laidOut : laidOutB Try.prog = true := by kernel_rfl
set_option maxRecDepth 100000 in
theorem lifted (os : Os) (started : os.Started) (H : Type) (enc : TypeId × Value → H) :
    ReturnsInHanded {} Try.checked os 3 .any (Rows.fnExactNewDeskSpec.pre6 enc Try.prog Try.f3 Rows.fnExactNewDeskRow.domain false) (Rows.fnExactNewDeskSpec.post enc Try.prog Try.f3 false true false false) := by
  refine returnsInHanded_of_change (C := Try.checked) own started (by kernel_rfl) Try.func3
    (ChangeSpec.witness6 (enc := enc) (C := Try.checked) false ⟨#[], #[], []⟩ 8 (by kernel_rfl) (by kernel_rfl) (by kernel_rfl) (by kernel_rfl)) ?_
  intro W base args ds gs before hval0 hW hcnd _
  have hval : ∀ (j : Nat) t v, Try.f3.params[j]? = some t → args[j]? = some v → Value.okWide Try.prog W .any base t v := hval0
  have hW' := hW
  obtain ⟨p, q, hA0, hV, rfl, hfz, hnd⟩ := hW
  have hA : DataW.TrodAll enc Try.prog W 0 (fun _ => true) true Try.f3.params.toList args.toList ds p := hA0
  rw [Try.params3] at hA hval
  obtain ⟨hargs, rfl, rfl⟩ := trodAll_nil hA
  obtain rfl : args = #[] := by cases args; simp_all
  obtain ⟨rfl, rfl⟩ := trodVars_none hV
  clear hA0 hval0
  refine (walk W ).mono fun e W' ⟨he, bel⟩ => ?_
  subst he
  exact ⟨_, rfl, _, _, _, [], _, [], hW', trodAll_mk1 (shut_bool Try.underlying4 _), trodAll_mk0, rfl, bel.frame _, fun h => by cases h⟩

theorem over : Rows.fnExactNewDeskRow.holds Try.pinned (OpenSpec.ofChange Rows.fnExactNewDeskSpec) :=
  OpenClaim.holds_of_wide 3 Try.f3 rfl rfl rfl rfl rfl rfl rfl ⟨rfl, rfl, rfl, rfl, rfl⟩ rfl rfl rfl rfl rfl (by kernel_rfl) Try.func3 (by unfold joinedFacts; exact (and_tt (and_tt (and_tt (and_tt (and_tt (and_tt (and_tt (and_tt (and_tt (and_tt (and_tt (and_tt (and_tt (and_tt (and_tt (and_tt (and_tt (and_tt (and_tt (and_tt (and_tt (and_tt (and_tt (and_tt (and_tt (and_tt (and_tt (and_tt (and_tt (and_tt (and_tt (by kernel_rfl) (by kernel_rfl)) (by kernel_rfl)) (by kernel_rfl)) (by kernel_rfl)) (by kernel_rfl)) (by kernel_rfl)) (by kernel_rfl)) (by kernel_rfl)) (by kernel_rfl)) (by kernel_rfl)) (by kernel_rfl)) (by kernel_rfl)) (by kernel_rfl)) (by kernel_rfl)) (by kernel_rfl)) (by kernel_rfl)) (by kernel_rfl)) (by kernel_rfl)) (by kernel_rfl)) (by kernel_rfl)) (by kernel_rfl)) (by kernel_rfl)) (by kernel_rfl)) (by kernel_rfl)) init_enter) (tt_lifts init_lifts rfl)) (tt_make init_make rfl)) (by kernel_rfl)) (by kernel_rfl)) (by kernel_rfl)) (by kernel_rfl)))
    (of_decide_eq_true (by kernel_rfl)) (by unfold Func.isWrapper; first | (rw [if_pos (by decide +kernel)]; kernel_rfl) | (rw [if_neg (by decide +kernel)]; exact ⟨rfl, rfl⟩))
    (fun os started H enc _ => lifted os started H enc)

theorem proved : Rows.FnExactNewDeskSaid := over
#print axioms proved
end fnExactNewDesk
end Go.Proofs.Ytnhpodlcgkgpbaa
