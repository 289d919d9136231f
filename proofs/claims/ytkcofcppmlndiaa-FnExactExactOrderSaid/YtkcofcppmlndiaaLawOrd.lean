/- ExactOrder answers as its model, for every argument. No condition. -/
import Derived.Test.YtkcofcppmlndiaaOrd
import Derived.Test.YtkcofcppmlndiaaCopy
import Derived.Deep.RegionHeld3
import Derived.Deep.DeepCutAuto
import Derived.ShutString
import Derived.ChangeOld
import Derived.Lib.SmallJoins
import Derived.Test.YtkcofcppmlndiaaInit
namespace Go.Proofs.Ytkcofcppmlndiaa
open Go.RowKit Go.ChangeShapes Go.Sort Go.WideShapes Go.ChangeAt
set_option linter.unusedVariables false
set_option linter.unusedSimpArgs false
namespace fnExactExactOrder
set_option maxRecDepth 100000 in
set_option maxHeartbeats 4000000 in
theorem walk_of (w : World) (x0 y0 z0 : Int) (C0 : Int) (C1 : Int) 
    (hS : ∀ (w : World), Calls Try.prog 53 #[.agg #[.int .i64 x0, .int .i64 y0, .int .i64 z0]] w fun e w' => e = .returned (.tuple #[.int .i64 C0, .int .i64 C1]) ∧ Below w.heap.size w w')
    (hI : ∀ (w : World), Calls Try.prog 30 #[.agg #[.int .i64 x0, .int .i64 y0, .int .i64 z0]] w fun e w' => e = .returned (.tuple #[.int .i64 C0, .int .i64 C1]) ∧ Below w.heap.size w w') :
    Calls Try.prog 12 #[.agg #[.int .i64 x0, .int .i64 y0, .int .i64 z0]] w fun e w' => e = .returned (.bool true) ∧ Below w.heap.size w w' := by
  have HS := Lib.hid hS; clear hS
  have HI := Lib.hid hI; clear hI
  have st0 := St.start w
  replace st0 := (st0.alloc (.cells #[.int .i64 x0, .int .i64 y0, .int .i64 z0] 64)).addBox _ [.int .i64 x0, .int .i64 y0, .int .i64 z0] (Box.made _ _ _ _ (fun j v h => by simpa using h))
  go_enter Try.func12, Try.ntmps12
  have c_a0_0 := (st0.box 0 (w.heap.size, [.int .i64 x0, .int .i64 y0, .int .i64 z0]) rfl).2.1 0 _ rfl
  have c_a0_1 := (st0.box 0 (w.heap.size, [.int .i64 x0, .int .i64 y0, .int .i64 z0]) rfl).2.1 1 _ rfl
  have c_a0_2 := (st0.box 0 (w.heap.size, [.int .i64 x0, .int .i64 y0, .int .i64 z0]) rfl).2.1 2 _ rfl
  go_wp2_with fail
  refine (toCharacter_any _ _ _ _).mono ?_
  rintro e w1 ⟨rfl, bw1⟩
  have st1 := st0.keep bw1
  have hz_w1 := bw1.size
  try simp only [World.size_alloc] at hz_w1
  clear st0 bw1 
  clear c_a0_0 c_a0_1 c_a0_2
  go_wp2_with fail
  refine (HS.out _ ).mono ?_
  rintro e w2 ⟨rfl, bw2⟩
  have st2 := st1.keep bw2
  have hz_w2 := bw2.size
  try simp only [World.size_alloc] at hz_w2
  clear st1 bw2 
  have c_a0_0 := (st2.box 0 (w.heap.size, [.int .i64 x0, .int .i64 y0, .int .i64 z0]) rfl).2.1 0 _ rfl
  have c_a0_1 := (st2.box 0 (w.heap.size, [.int .i64 x0, .int .i64 y0, .int .i64 z0]) rfl).2.1 1 _ rfl
  have c_a0_2 := (st2.box 0 (w.heap.size, [.int .i64 x0, .int .i64 y0, .int .i64 z0]) rfl).2.1 2 _ rfl
  go_wp2_with fail
  refine (toCharacter_any _ _ _ _).mono ?_
  rintro e w3 ⟨rfl, bw3⟩
  have st3 := st2.keep bw3
  have hz_w3 := bw3.size
  try simp only [World.size_alloc] at hz_w3
  clear st2 bw3 
  clear c_a0_0 c_a0_1 c_a0_2
  go_wp2_with fail
  refine (HI.out _ ).mono ?_
  rintro e w4 ⟨rfl, bw4⟩
  have st4 := st3.keep bw4
  have hz_w4 := bw4.size
  try simp only [World.size_alloc] at hz_w4
  clear st3 bw4 
  go_wp2_with fail
  go_ret
  exact ⟨rfl, st4.1⟩


theorem walk (w : World) (x0 y0 z0 : Int) (_hx0 : inR x0) (_hy0 : inR y0) (_hz0 : inR z0) :
    Calls Try.prog 12 #[.agg #[.int .i64 x0, .int .i64 y0, .int .i64 z0]] w fun e w' => e = .returned (.bool true) ∧ Below w.heap.size w w' := by
  by_cases h : ChP x0 y0 z0
  · obtain ⟨P, N, K, rfl, rfl, rfl, h1, h2, h3, h4, h5⟩ := h.nat
    exact walk_of w P N K ((N / Nat.gcd N K : Nat) : Int) 0 (fun w => ExactOrder_spec_ok P N K h1 h2 h3 h4 h5 w) (fun w => ExactOrder_impl_ok P N K h1 h2 h3 h4 h5 w)
  · exact walk_of w x0 y0 z0 0 1 (fun w => ExactOrder_spec_bad x0 y0 z0 h w) (fun w => ExactOrder_impl_bad x0 y0 z0 h w)

theorem own : ownKnob Try.prog.godebug = none := by kernel_rfl
theorem laidOut : laidOutB Try.prog = true := by kernel_rfl
set_option maxRecDepth 100000 in
theorem lifted (os : Os) (started : os.Started) (H : Type) (enc : TypeId × Value → H) :
    ReturnsInHanded {} Try.checked os 12 .any (Rows.fnExactExactOrderSpec.pre6 enc Try.prog Try.f12 Rows.fnExactExactOrderRow.domain false) (Rows.fnExactExactOrderSpec.post enc Try.prog Try.f12 false true false false) := by
  refine returnsInHanded_of_change (C := Try.checked) own started (by kernel_rfl) Try.func12
    (ChangeSpec.witness6 (enc := enc) (C := Try.checked) false ⟨#[], #[.agg #[.int .i64 0, .int .i64 0, .int .i64 0]], []⟩ 8 (by kernel_rfl) (by kernel_rfl) (by kernel_rfl) (by kernel_rfl)) ?_
  intro W base args ds gs before hval0 hW hcnd _
  have hval : ∀ (j : Nat) t v, Try.f12.params[j]? = some t → args[j]? = some v → Value.okWide Try.prog W .any base t v := hval0
  have hW' := hW
  obtain ⟨p, q, hA0, hV, rfl, hfz, hnd⟩ := hW
  have hA : DataW.TrodAll enc Try.prog W 0 (fun _ => true) true Try.f12.params.toList args.toList ds p := hA0
  rw [Try.params12] at hA hval
  obtain ⟨v0, vs0, d0, ds0, p0, q0, hargs, rfl, rfl, h0, r0⟩ := trodAll_cons hA
  obtain ⟨rfl, rfl, rfl⟩ := trodAll_nil r0
  obtain rfl : args = #[v0] := by cases args; simp_all
  obtain ⟨rfl, rfl⟩ := trodVars_none hV
  have k0 := h0
  have lt0 : ∀ x ∈ p0, x.block < W.heap.size := by obtain ⟨m, hm⟩ := k0; exact DataW.trod_lt m _ _ _ hm
  obtain ⟨x0, y0, z0, rfl, wx0, wy0, wz0⟩ : ∃ x y z, v0 = .agg #[.int .i64 x, .int .i64 y, .int .i64 z] ∧ inR x ∧ inR y ∧ inR z := by
    obtain ⟨c0, c1, c2, y0, y1, y2, m, rfl, _, _, hy0, hy1, hy2⟩ := Joins.open_agg3 Try.underlying64 (by kernel_rfl) (by kernel_rfl) (hval 0 64 v0 rfl rfl) h0
    obtain ⟨x, e0, _, wx⟩ := DataW.trod_int Try.underlying2 hy0
    obtain ⟨y, e1, _, wy⟩ := DataW.trod_int Try.underlying2 hy1
    obtain ⟨z, e2, _, wz⟩ := DataW.trod_int Try.underlying2 hy2
    simp at e0 e1 e2
    exact ⟨x, y, z, by rw [e0, e1, e2], inR_wf wx, inR_wf wy, inR_wf wz⟩
  clear hA0 hval0
  refine (walk W x0 y0 z0 wx0 wy0 wz0).mono fun e W' ⟨he, bel⟩ => ?_
  subst he
  exact ⟨_, rfl, _, _, _, [], _, [], hW', trodAll_mk1 (shut_bool Try.underlying4 _), (trodAll_cons_mk (Below.trod laidOut (by kernel_rfl) (of_decide_eq_true (by kernel_rfl)) k0 bel lt0) trodAll_mk0), rfl, bel.frame _, fun h => by cases h⟩

theorem over : Rows.fnExactExactOrderRow.holds Try.pinned (OpenSpec.ofChange Rows.fnExactExactOrderSpec) :=
  OpenClaim.holds_of_wide 12 Try.f12 rfl rfl rfl rfl rfl rfl rfl ⟨rfl, rfl, rfl, rfl, rfl⟩ rfl rfl rfl rfl rfl (by kernel_rfl) Try.func12 (by unfold joinedFacts; exact (and_tt (and_tt (and_tt (and_tt (and_tt (and_tt (and_tt (and_tt (and_tt (and_tt (and_tt (and_tt (and_tt (and_tt (and_tt (and_tt (and_tt (and_tt (and_tt (and_tt (and_tt (and_tt (and_tt (and_tt (and_tt (and_tt (and_tt (and_tt (and_tt (and_tt (and_tt (by kernel_rfl) (by kernel_rfl)) (by kernel_rfl)) (by kernel_rfl)) (by kernel_rfl)) (by kernel_rfl)) (by kernel_rfl)) (by kernel_rfl)) (by kernel_rfl)) (by kernel_rfl)) (by kernel_rfl)) (by kernel_rfl)) (by kernel_rfl)) (by kernel_rfl)) (by kernel_rfl)) (by kernel_rfl)) (by kernel_rfl)) (by kernel_rfl)) (by kernel_rfl)) (by kernel_rfl)) (by kernel_rfl)) (by kernel_rfl)) (by kernel_rfl)) (by kernel_rfl)) (by kernel_rfl)) init_enter) (tt_lifts init_lifts rfl)) (tt_make init_make rfl)) (by kernel_rfl)) (by kernel_rfl)) (by kernel_rfl)) (by kernel_rfl)))
    (of_decide_eq_true (by kernel_rfl)) (by unfold Func.isWrapper; first | (rw [if_pos (by decide +kernel)]; kernel_rfl) | (rw [if_neg (by decide +kernel)]; exact ⟨rfl, rfl⟩))
    (fun os started H enc _ => lifted os started H enc)

theorem proved : Rows.FnExactExactOrderSaid := over
#print axioms proved
end fnExactExactOrder
end Go.Proofs.Ytkcofcppmlndiaa
