/- IsPlainPair answers as its model, for every argument. No condition. -/
import Derived.Test.YtloalhcloifgjaaPlain
import Derived.Test.YtloalhcloifgjaaBox3
import Derived.Test.YtloalhcloifgjaaCopy
import Derived.Deep.RegionHeld3
import Derived.Deep.DeepCutAuto
import Derived.ShutString
import Derived.ChangeOld
import Derived.Lib.SmallJoins
import Derived.Test.YtloalhcloifgjaaInit
namespace Go.Proofs.Ytloalhcloifgjaa
open Go.RowKit Go.ChangeShapes Go.Sort Go.WideShapes Go.ChangeAt
set_option linter.unusedVariables false
set_option linter.unusedSimpArgs false
namespace fnExactIsPlainPair
set_option maxRecDepth 100000 in
set_option maxHeartbeats 4000000 in
theorem walk_of (w : World) (x0 y0 z0 : Int) (x1 y1 z1 : Int) (C0 : Bool) (C1 : Int) 
    (hS : ∀ (w : World), Calls Try.prog 46 #[.agg #[.int .i64 x0, .int .i64 y0, .int .i64 z0], .agg #[.int .i64 x1, .int .i64 y1, .int .i64 z1]] w fun e w' => e = .returned (.tuple #[.bool C0, .int .i64 C1]) ∧ Below w.heap.size w w')
    (hI : ∀ (w : World), Calls Try.prog 47 #[.agg #[.int .i64 x0, .int .i64 y0, .int .i64 z0], .agg #[.int .i64 x1, .int .i64 y1, .int .i64 z1]] w fun e w' => e = .returned (.tuple #[.bool C0, .int .i64 C1]) ∧ Below w.heap.size w w') :
    Calls Try.prog 11 #[.agg #[.int .i64 x0, .int .i64 y0, .int .i64 z0], .agg #[.int .i64 x1, .int .i64 y1, .int .i64 z1]] w fun e w' => e = .returned (.bool true) ∧ Below w.heap.size w w' := by
  have HS := Lib.hid hS; clear hS
  have HI := Lib.hid hI; clear hI
  have st0 := St.start w
  replace st0 := (st0.alloc (.cells #[.int .i64 x0, .int .i64 y0, .int .i64 z0] 23)).addBox _ [.int .i64 x0, .int .i64 y0, .int .i64 z0] (Box.made _ _ _ _ (fun j v h => by simpa using h))
  replace st0 := (st0.alloc (.cells #[.int .i64 x1, .int .i64 y1, .int .i64 z1] 23)).addBox _ [.int .i64 x1, .int .i64 y1, .int .i64 z1] (Box.made _ _ _ _ (fun j v h => by simpa using h))
  simp only [World.size_alloc] at st0
  go_enter Try.func11, Try.ntmps11
  have c_a0_0 := (st0.box 1 (w.heap.size, [.int .i64 x0, .int .i64 y0, .int .i64 z0]) rfl).2.1 0 _ rfl
  have c_a0_1 := (st0.box 1 (w.heap.size, [.int .i64 x0, .int .i64 y0, .int .i64 z0]) rfl).2.1 1 _ rfl
  have c_a0_2 := (st0.box 1 (w.heap.size, [.int .i64 x0, .int .i64 y0, .int .i64 z0]) rfl).2.1 2 _ rfl
  have c_a1_0 := (st0.box 0 (w.heap.size + 1, [.int .i64 x1, .int .i64 y1, .int .i64 z1]) rfl).2.1 0 _ rfl
  have c_a1_1 := (st0.box 0 (w.heap.size + 1, [.int .i64 x1, .int .i64 y1, .int .i64 z1]) rfl).2.1 1 _ rfl
  have c_a1_2 := (st0.box 0 (w.heap.size + 1, [.int .i64 x1, .int .i64 y1, .int .i64 z1]) rfl).2.1 2 _ rfl
  go_wp2_with fail
  go_cut [5, 6] (fun s0 s1 wx => s0 = .bool C0 ∧ s1 = .int .i64 C1 ∧ w.heap.size + 1 + 1 ≤ wx.heap.size ∧ St w wx [(w.heap.size + 1, [.int .i64 x1, .int .i64 y1, .int .i64 z1]), (w.heap.size, [.int .i64 x0, .int .i64 y0, .int .i64 z0])] [])
  case first =>
    go_region_held3 (fun w' => w'.cell? ⟨w.heap.size, 0, none⟩ = some (.int .i64 x0) ∧ w'.cell? ⟨w.heap.size, 1, none⟩ = some (.int .i64 y0) ∧ w'.cell? ⟨w.heap.size, 2, none⟩ = some (.int .i64 z0) ∧ w'.cell? ⟨w.heap.size + 1, 0, none⟩ = some (.int .i64 x1) ∧ w'.cell? ⟨w.heap.size + 1, 1, none⟩ = some (.int .i64 y1) ∧ w'.cell? ⟨w.heap.size + 1, 2, none⟩ = some (.int .i64 z1))
      (first | exact ⟨c_a0_0, c_a0_1, c_a0_2, c_a1_0, c_a1_1, c_a1_2⟩ | (have q0 := (st8.box 1 (w.heap.size, [.int .i64 x0, .int .i64 y0, .int .i64 z0]) rfl).cell3; have q1 := (st8.box 0 (w.heap.size + 1, [.int .i64 x1, .int .i64 y1, .int .i64 z1]) rfl).cell3; with_reducible exact ⟨q0.1, q0.2.1, q0.2.2, q1.1, q1.2.1, q1.2.2⟩) | (have q0 := (st7.box 1 (w.heap.size, [.int .i64 x0, .int .i64 y0, .int .i64 z0]) rfl).cell3; have q1 := (st7.box 0 (w.heap.size + 1, [.int .i64 x1, .int .i64 y1, .int .i64 z1]) rfl).cell3; with_reducible exact ⟨q0.1, q0.2.1, q0.2.2, q1.1, q1.2.1, q1.2.2⟩) | (have q0 := (st6.box 1 (w.heap.size, [.int .i64 x0, .int .i64 y0, .int .i64 z0]) rfl).cell3; have q1 := (st6.box 0 (w.heap.size + 1, [.int .i64 x1, .int .i64 y1, .int .i64 z1]) rfl).cell3; with_reducible exact ⟨q0.1, q0.2.1, q0.2.2, q1.1, q1.2.1, q1.2.2⟩) | (have q0 := (st0.drew.box 1 (w.heap.size, [.int .i64 x0, .int .i64 y0, .int .i64 z0]) rfl).cell3; have q1 := (st0.drew.box 0 (w.heap.size + 1, [.int .i64 x1, .int .i64 y1, .int .i64 z1]) rfl).cell3; with_reducible exact ⟨q0.1, q0.2.1, q0.2.2, q1.1, q1.2.1, q1.2.2⟩))
      (first
        | (go_at_call 46; have _h := b7; refine (HS.out _).mono ?_; rintro e w8 ⟨rfl, b8⟩
           have hz8 := b8.size
           have st8 := st7.keep b8)
        | (go_at_call 17; have _g := b6; refine (toCharacter_any _ _ _ _).mono ?_; rintro e w7 ⟨rfl, b7⟩
           have hz7 := b7.size
           have st7 := st6.keep b7)
        | (go_at_call 17; refine (toCharacter_any _ _ _ _).mono ?_; rintro e w6 ⟨rfl, b6⟩
           have hz6 := b6.size
           try simp only [World.size_drew, World.size_alloc] at hz6
           have st6 := st0.drew.keep b6))
    all_goals
      go_wp2_with fail
      go_meet
      exact ⟨rfl, rfl, by omega, st8⟩
  case rest =>
    obtain ⟨rfl, rfl, hz_w1, st1⟩ := hcut
    try clear st0
    try clear c_a0_0
    try clear c_a0_1
    try clear c_a0_2
    try clear c_a1_0
    try clear c_a1_1
    try clear c_a1_2
    obtain ⟨w1, hw_w1⟩ : ∃ x : World, x = wc := ⟨_, rfl⟩
    subst hw_w1
    have c_a0_0 := (st1.box 1 (w.heap.size, [.int .i64 x0, .int .i64 y0, .int .i64 z0]) rfl).2.1 0 _ rfl
    have c_a0_1 := (st1.box 1 (w.heap.size, [.int .i64 x0, .int .i64 y0, .int .i64 z0]) rfl).2.1 1 _ rfl
    have c_a0_2 := (st1.box 1 (w.heap.size, [.int .i64 x0, .int .i64 y0, .int .i64 z0]) rfl).2.1 2 _ rfl
    have c_a1_0 := (st1.box 0 (w.heap.size + 1, [.int .i64 x1, .int .i64 y1, .int .i64 z1]) rfl).2.1 0 _ rfl
    have c_a1_1 := (st1.box 0 (w.heap.size + 1, [.int .i64 x1, .int .i64 y1, .int .i64 z1]) rfl).2.1 1 _ rfl
    have c_a1_2 := (st1.box 0 (w.heap.size + 1, [.int .i64 x1, .int .i64 y1, .int .i64 z1]) rfl).2.1 2 _ rfl
    go_wp2_with fail
    go_cut [7, 8] (fun s0 s1 wx => s0 = .bool C0 ∧ s1 = .int .i64 C1 ∧ w1.heap.size ≤ wx.heap.size ∧ St w wx [(w.heap.size + 1, [.int .i64 x1, .int .i64 y1, .int .i64 z1]), (w.heap.size, [.int .i64 x0, .int .i64 y0, .int .i64 z0])] [])
    case first =>
      go_region_held3 (fun w' => w'.cell? ⟨w.heap.size, 0, none⟩ = some (.int .i64 x0) ∧ w'.cell? ⟨w.heap.size, 1, none⟩ = some (.int .i64 y0) ∧ w'.cell? ⟨w.heap.size, 2, none⟩ = some (.int .i64 z0) ∧ w'.cell? ⟨w.heap.size + 1, 0, none⟩ = some (.int .i64 x1) ∧ w'.cell? ⟨w.heap.size + 1, 1, none⟩ = some (.int .i64 y1) ∧ w'.cell? ⟨w.heap.size + 1, 2, none⟩ = some (.int .i64 z1))
        (first | exact ⟨c_a0_0, c_a0_1, c_a0_2, c_a1_0, c_a1_1, c_a1_2⟩ | (have q0 := (st8.box 1 (w.heap.size, [.int .i64 x0, .int .i64 y0, .int .i64 z0]) rfl).cell3; have q1 := (st8.box 0 (w.heap.size + 1, [.int .i64 x1, .int .i64 y1, .int .i64 z1]) rfl).cell3; with_reducible exact ⟨q0.1, q0.2.1, q0.2.2, q1.1, q1.2.1, q1.2.2⟩) | (have q0 := (st7.box 1 (w.heap.size, [.int .i64 x0, .int .i64 y0, .int .i64 z0]) rfl).cell3; have q1 := (st7.box 0 (w.heap.size + 1, [.int .i64 x1, .int .i64 y1, .int .i64 z1]) rfl).cell3; with_reducible exact ⟨q0.1, q0.2.1, q0.2.2, q1.1, q1.2.1, q1.2.2⟩) | (have q0 := (st6.box 1 (w.heap.size, [.int .i64 x0, .int .i64 y0, .int .i64 z0]) rfl).cell3; have q1 := (st6.box 0 (w.heap.size + 1, [.int .i64 x1, .int .i64 y1, .int .i64 z1]) rfl).cell3; with_reducible exact ⟨q0.1, q0.2.1, q0.2.2, q1.1, q1.2.1, q1.2.2⟩) | (have q0 := (st1.drew.box 1 (w.heap.size, [.int .i64 x0, .int .i64 y0, .int .i64 z0]) rfl).cell3; have q1 := (st1.drew.box 0 (w.heap.size + 1, [.int .i64 x1, .int .i64 y1, .int .i64 z1]) rfl).cell3; with_reducible exact ⟨q0.1, q0.2.1, q0.2.2, q1.1, q1.2.1, q1.2.2⟩))
        (first
          | (go_at_call 47; have _h := b7; refine (HI.out _).mono ?_; rintro e w8 ⟨rfl, b8⟩
             have hz8 := b8.size
             have st8 := st7.keep b8)
          | (go_at_call 17; have _g := b6; refine (toCharacter_any _ _ _ _).mono ?_; rintro e w7 ⟨rfl, b7⟩
             have hz7 := b7.size
             have st7 := st6.keep b7)
          | (go_at_call 17; refine (toCharacter_any _ _ _ _).mono ?_; rintro e w6 ⟨rfl, b6⟩
             have hz6 := b6.size
             try simp only [World.size_drew, World.size_alloc] at hz6
             have st6 := st1.drew.keep b6))
      all_goals
        go_wp2_with fail
        go_meet
        exact ⟨rfl, rfl, by omega, st8⟩
    case rest =>
      obtain ⟨rfl, rfl, hz_w2, st2⟩ := hcut
      try clear st1
      try clear c_a0_0
      try clear c_a0_1
      try clear c_a0_2
      try clear c_a1_0
      try clear c_a1_1
      try clear c_a1_2
      obtain ⟨w2, hw_w2⟩ : ∃ x : World, x = wc := ⟨_, rfl⟩
      subst hw_w2
      go_wp2_with fail
      go_ret
      exact ⟨rfl, st2.1⟩


theorem walk (w : World) (x0 y0 z0 : Int) (_hx0 : inR x0) (_hy0 : inR y0) (_hz0 : inR z0) (x1 y1 z1 : Int) (_hx1 : inR x1) (_hy1 : inR y1) (_hz1 : inR z1) :
    Calls Try.prog 11 #[.agg #[.int .i64 x0, .int .i64 y0, .int .i64 z0], .agg #[.int .i64 x1, .int .i64 y1, .int .i64 z1]] w fun e w' => e = .returned (.bool true) ∧ Below w.heap.size w w' := by
  obtain ⟨c, hc⟩ := pcC_ex x0 y0 z0 x1 y1 z1
  by_cases h0 : c ≠ 0
  · exact walk_of w x0 y0 z0 x1 y1 z1 false c (fun w => IsPlainPair_spec_bad _ _ _ _ _ _ c hc h0 w) (fun w => IsPlainPair_impl_bad _ _ _ _ _ _ c hc h0 w)
  · have h0' : c = 0 := by omega
    rcases hc with ⟨e, _⟩ | ⟨e, _⟩ | ⟨_, ha, hb, rfl, rfl⟩
    · omega
    · omega
    · obtain ⟨P, N, K, rfl, rfl, rfl, h1, h2, h3, h4, h5⟩ := ha.nat
      obtain ⟨L, rfl⟩ := Int.eq_ofNat_of_zero_le hb.2.2.1
      have hl : L < N := by have := hb.2.2.2; omega
      exact walk_of w P N K P N L (plainB N K L) 0 (fun w => IsPlainPair_spec_ok P N K L h1 h2 h3 h4 h5 hl w) (fun w => IsPlainPair_impl_ok P N K L h1 h2 h3 h4 h5 hl w)

theorem own : ownKnob Try.prog.godebug = none := by kernel_rfl
theorem laidOut : laidOutB Try.prog = true := by kernel_rfl
set_option maxRecDepth 100000 in
theorem lifted (os : Os) (started : os.Started) (H : Type) (enc : TypeId × Value → H) :
    ReturnsInHanded {} Try.checked os 11 .any (Rows.fnExactIsPlainPairSpec.pre6 enc Try.prog Try.f11 Rows.fnExactIsPlainPairRow.domain false) (Rows.fnExactIsPlainPairSpec.post enc Try.prog Try.f11 false true false false) := by
  refine returnsInHanded_of_change (C := Try.checked) own started (by kernel_rfl) Try.func11
    (ChangeSpec.witness6 (enc := enc) (C := Try.checked) false ⟨#[], #[.agg #[.int .i64 0, .int .i64 0, .int .i64 0], .agg #[.int .i64 0, .int .i64 0, .int .i64 0]], []⟩ 8 (by kernel_rfl) (by kernel_rfl) (by kernel_rfl) (by kernel_rfl)) ?_
  intro W base args ds gs before hval0 hW hcnd _
  have hval : ∀ (j : Nat) t v, Try.f11.params[j]? = some t → args[j]? = some v → Value.okWide Try.prog W .any base t v := hval0
  have hW' := hW
  obtain ⟨p, q, hA0, hV, rfl, hfz, hnd⟩ := hW
  have hA : DataW.TrodAll enc Try.prog W 0 (fun _ => true) true Try.f11.params.toList args.toList ds p := hA0
  rw [Try.params11] at hA hval
  obtain ⟨v0, vs0, d0, ds0, p0, q0, hargs, rfl, rfl, h0, r0⟩ := trodAll_cons hA
  obtain ⟨v1, vs1, d1, ds1, p1, q1, rfl, rfl, rfl, h1, r1⟩ := trodAll_cons r0
  obtain ⟨rfl, rfl, rfl⟩ := trodAll_nil r1
  obtain rfl : args = #[v0, v1] := by cases args; simp_all
  obtain ⟨rfl, rfl⟩ := trodVars_none hV
  have k0 := h0
  have lt0 : ∀ x ∈ p0, x.block < W.heap.size := by obtain ⟨m, hm⟩ := k0; exact DataW.trod_lt m _ _ _ hm
  obtain ⟨x0, y0, z0, rfl, wx0, wy0, wz0⟩ : ∃ x y z, v0 = .agg #[.int .i64 x, .int .i64 y, .int .i64 z] ∧ inR x ∧ inR y ∧ inR z := by
    obtain ⟨c0, c1, c2, y0, y1, y2, m, rfl, _, _, hy0, hy1, hy2⟩ := Joins.open_agg3 Try.underlying23 (by kernel_rfl) (by kernel_rfl) (hval 0 23 v0 rfl rfl) h0
    obtain ⟨x, e0, _, wx⟩ := DataW.trod_int Try.underlying2 hy0
    obtain ⟨y, e1, _, wy⟩ := DataW.trod_int Try.underlying2 hy1
    obtain ⟨z, e2, _, wz⟩ := DataW.trod_int Try.underlying2 hy2
    simp at e0 e1 e2
    exact ⟨x, y, z, by rw [e0, e1, e2], inR_wf wx, inR_wf wy, inR_wf wz⟩
  have k1 := h1
  have lt1 : ∀ x ∈ p1, x.block < W.heap.size := by obtain ⟨m, hm⟩ := k1; exact DataW.trod_lt m _ _ _ hm
  obtain ⟨x1, y1, z1, rfl, wx1, wy1, wz1⟩ : ∃ x y z, v1 = .agg #[.int .i64 x, .int .i64 y, .int .i64 z] ∧ inR x ∧ inR y ∧ inR z := by
    obtain ⟨c0, c1, c2, y0, y1, y2, m, rfl, _, _, hy0, hy1, hy2⟩ := Joins.open_agg3 Try.underlying23 (by kernel_rfl) (by kernel_rfl) (hval 1 23 v1 rfl rfl) h1
    obtain ⟨x, e0, _, wx⟩ := DataW.trod_int Try.underlying2 hy0
    obtain ⟨y, e1, _, wy⟩ := DataW.trod_int Try.underlying2 hy1
    obtain ⟨z, e2, _, wz⟩ := DataW.trod_int Try.underlying2 hy2
    simp at e0 e1 e2
    exact ⟨x, y, z, by rw [e0, e1, e2], inR_wf wx, inR_wf wy, inR_wf wz⟩
  clear hA0 hval0
  refine (walk W x0 y0 z0 wx0 wy0 wz0 x1 y1 z1 wx1 wy1 wz1).mono fun e W' ⟨he, bel⟩ => ?_
  subst he
  exact ⟨_, rfl, _, _, _, [], _, [], hW', trodAll_mk1 (shut_bool Try.underlying4 _), (trodAll_cons_mk (Below.trod laidOut (by kernel_rfl) (of_decide_eq_true (by kernel_rfl)) k0 bel lt0) (trodAll_cons_mk (Below.trod laidOut (by kernel_rfl) (of_decide_eq_true (by kernel_rfl)) k1 bel lt1) trodAll_mk0)), rfl, bel.frame _, fun h => by cases h⟩

theorem over : Rows.fnExactIsPlainPairRow.holds Try.pinned (OpenSpec.ofChange Rows.fnExactIsPlainPairSpec) :=
  OpenClaim.holds_of_wide 11 Try.f11 rfl rfl rfl rfl rfl rfl rfl ⟨rfl, rfl, rfl, rfl, rfl⟩ rfl rfl rfl rfl rfl (by kernel_rfl) Try.func11 (by unfold joinedFacts; exact (and_tt (and_tt (and_tt (and_tt (and_tt (and_tt (and_tt (and_tt (and_tt (and_tt (and_tt (and_tt (and_tt (and_tt (and_tt (and_tt (and_tt (and_tt (and_tt (and_tt (and_tt (and_tt (and_tt (and_tt (and_tt (and_tt (and_tt (and_tt (and_tt (and_tt (and_tt (by kernel_rfl) (by kernel_rfl)) (by kernel_rfl)) (by kernel_rfl)) (by kernel_rfl)) (by kernel_rfl)) (by kernel_rfl)) (by kernel_rfl)) (by kernel_rfl)) (by kernel_rfl)) (by kernel_rfl)) (by kernel_rfl)) (by kernel_rfl)) (by kernel_rfl)) (by kernel_rfl)) (by kernel_rfl)) (by kernel_rfl)) (by kernel_rfl)) (by kernel_rfl)) (by kernel_rfl)) (by kernel_rfl)) (by kernel_rfl)) (by kernel_rfl)) (by kernel_rfl)) (by kernel_rfl)) init_enter) (tt_lifts init_lifts rfl)) (tt_make init_make rfl)) (by kernel_rfl)) (by kernel_rfl)) (by kernel_rfl)) (by kernel_rfl)))
    (of_decide_eq_true (by kernel_rfl)) (by unfold Func.isWrapper; first | (rw [if_pos (by decide +kernel)]; kernel_rfl) | (rw [if_neg (by decide +kernel)]; exact ⟨rfl, rfl⟩))
    (fun os started H enc _ => lifted os started H enc)

theorem proved : Rows.FnExactIsPlainPairSaid := over
#print axioms proved
end fnExactIsPlainPair
end Go.Proofs.Ytloalhcloifgjaa
