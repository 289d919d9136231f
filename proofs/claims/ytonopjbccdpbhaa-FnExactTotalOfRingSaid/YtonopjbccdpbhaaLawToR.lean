/- TotalOfRing answers as its model, for every argument. No condition. -/
import Derived.Test.YtonopjbccdpbhaaRgI
import Derived.Test.YtonopjbccdpbhaaCopyR
import Derived.Test.YtonopjbccdpbhaaCopy
import Derived.Deep.RegionHeld3
import Derived.Deep.DeepCutAuto
import Derived.ShutString
import Derived.ChangeOld
import Derived.Lib.SmallJoins
import Derived.Test.YtonopjbccdpbhaaInit
namespace Go.Proofs.Ytonopjbccdpbhaa
open Go.RowKit Go.ChangeShapes Go.Sort Go.WideShapes Go.ChangeAt
set_option linter.unusedVariables false
set_option linter.unusedSimpArgs false
namespace fnExactTotalOfRing
set_option maxRecDepth 100000 in
set_option maxHeartbeats 4000000 in
theorem walk_of (w : World) (x0 : Int) (n0 : Nat) (f0 : Nat → Int) {lo0 hi0 : Nat} {u0 : Value} (hs0 : Sl false w lo0 hi0 u0 n0 f0) (C0 : Int) (C1 : Int) (hn0 : n0 ≤ 1048576)
    (hS : ∀ (w : World) (o0 : Bool) (l0 h0 : Nat) (v0 : Value) (_ : Sl o0 w l0 h0 v0 n0 f0), Calls Try.prog 38 #[.agg #[.int .i64 x0, v0]] w fun e w' => e = .returned (.tuple #[.int .i64 C0, .int .i64 C1]) ∧ Below w.heap.size w w')
    (hI : ∀ (w : World) (o0 : Bool) (l0 h0 : Nat) (v0 : Value) (_ : Sl o0 w l0 h0 v0 n0 f0), Calls Try.prog 37 #[.agg #[.int .i64 x0, v0]] w fun e w' => e = .returned (.tuple #[.int .i64 C0, .int .i64 C1]) ∧ Below w.heap.size w w') :
    Calls Try.prog 15 #[.agg #[.int .i64 x0, u0]] w fun e w' => e = .returned (.bool true) ∧ Below w.heap.size w w' := by
  obtain ⟨p0, q0, rfl⟩ := hs0.shape
  have HS := Lib.hid hS; clear hS
  have HI := Lib.hid hI; clear hI
  have st0 := St.start w
  have hh0 := hs0.size
  replace st0 := st0.addSl ⟨false, lo0, hi0, .slice p0 n0 q0, n0, f0⟩ hs0
  replace st0 := (st0.alloc (.cells #[.int .i64 x0, .slice p0 n0 q0] 80)).addBox _ [.int .i64 x0, .slice p0 n0 q0] (Box.made _ _ _ _ (fun j v h => by simpa using h))
  clear hs0
  go_enter Try.func15, Try.ntmps15
  go_wp2_with fail
  refine (szRing_yes _ _ _ _ _ (by omega) (by omega)).mono ?_
  rintro e w1 ⟨rfl, bw1⟩
  have st1 := st0.keep bw1
  have hz_w1 := bw1.size
  try simp only [World.size_alloc] at hz_w1
  clear st0 bw1 
  obtain ⟨c_a0_0, c_a0_1⟩ := (st1.box 0 (w.heap.size, [.int .i64 x0, .slice p0 n0 q0]) rfl).cell2
  have q_0 := st1.sl 0 ⟨false, lo0, hi0, .slice p0 n0 q0, n0, f0⟩ rfl
  dsimp only at q_0
  go_wp2_with fail
  refine (toRing_any _ _ q_0 hn0).mono ?_
  rintro e w2 ⟨aw2, kw2, rfl, sw2, bw2⟩
  have st2 := st1.keep bw2
  have hz_w2 := bw2.size
  try simp only [World.size_alloc] at hz_w2
  try simp only [World.size_alloc] at sw2
  replace st2 := st2.addSl ⟨true, w1.heap.size, w2.heap.size, .slice aw2 n0 kw2, n0, f0⟩ sw2
  clear st1 bw2 sw2
  clear c_a0_0 c_a0_1 q_0
  have q_0 := st2.sl 0 ⟨true, w1.heap.size, w2.heap.size, .slice aw2 n0 kw2, n0, f0⟩ rfl
  dsimp only at q_0
  go_wp2_with fail
  refine (HS.out _ _ _ _ _ q_0).mono ?_
  rintro e w3 ⟨rfl, bw3⟩
  have st3 := st2.keep bw3
  have hz_w3 := bw3.size
  try simp only [World.size_alloc] at hz_w3
  clear st2 bw3 
  clear q_0
  obtain ⟨c_a0_0, c_a0_1⟩ := (st3.box 0 (w.heap.size, [.int .i64 x0, .slice p0 n0 q0]) rfl).cell2
  have q_0 := st3.sl 1 ⟨false, lo0, hi0, .slice p0 n0 q0, n0, f0⟩ rfl
  dsimp only at q_0
  go_wp2_with fail
  refine (toRing_any _ _ q_0 hn0).mono ?_
  rintro e w4 ⟨aw4, kw4, rfl, sw4, bw4⟩
  have st4 := st3.keep bw4
  have hz_w4 := bw4.size
  try simp only [World.size_alloc] at hz_w4
  try simp only [World.size_alloc] at sw4
  replace st4 := st4.addSl ⟨true, w3.heap.size, w4.heap.size, .slice aw4 n0 kw4, n0, f0⟩ sw4
  replace st4 := (st4.alloc (.cells #[.int .i64 x0, .slice aw4 n0 kw4] 26)).addBox w4.heap.size [.int .i64 x0, .slice aw4 n0 kw4] (Box.made _ _ _ _ (fun j v h => by simpa using h))
  clear st3 bw4 sw4
  clear c_a0_0 c_a0_1 q_0
  obtain ⟨c_x0_0, c_x0_1⟩ := (st4.box 0 (w4.heap.size, [.int .i64 x0, .slice aw4 n0 kw4]) rfl).cell2
  have q_0 := st4.sl 0 ⟨true, w3.heap.size, w4.heap.size, .slice aw4 n0 kw4, n0, f0⟩ rfl
  dsimp only at q_0
  go_wp2_with fail
  refine (HI.out _ _ _ _ _ q_0).mono ?_
  rintro e w5 ⟨rfl, bw5⟩
  have st5 := st4.keep bw5
  have hz_w5 := bw5.size
  try simp only [World.size_alloc] at hz_w5
  clear st4 bw5 
  clear c_x0_0 c_x0_1 q_0
  obtain ⟨c_x0_0, c_x0_1⟩ := (st5.box 0 (w4.heap.size, [.int .i64 x0, .slice aw4 n0 kw4]) rfl).cell2
  obtain ⟨c_a0_0, c_a0_1⟩ := (st5.box 1 (w.heap.size, [.int .i64 x0, .slice p0 n0 q0]) rfl).cell2
  go_wp2_with fail
  go_cut [39] (fun sx wx => sx = .bool false ∧ w5.heap.size ≤ wx.heap.size ∧ St w wx [(w4.heap.size, [.int .i64 x0, .slice aw4 n0 kw4]), (w.heap.size, [.int .i64 x0, .slice p0 n0 q0])] [⟨true, w3.heap.size, w4.heap.size, .slice aw4 n0 kw4, n0, f0⟩, ⟨true, w1.heap.size, w2.heap.size, .slice aw2 n0 kw2, n0, f0⟩, ⟨false, lo0, hi0, .slice p0 n0 q0, n0, f0⟩])
  case first =>
    go_region_held3 (fun w' => w'.cell? ⟨w4.heap.size, 0, none⟩ = some (.int .i64 x0) ∧ w'.cell? ⟨w4.heap.size, 1, none⟩ = some (.slice aw4 n0 kw4) ∧ w'.cell? ⟨w.heap.size, 0, none⟩ = some (.int .i64 x0) ∧ w'.cell? ⟨w.heap.size, 1, none⟩ = some (.slice p0 n0 q0))
      (first | exact ⟨c_x0_0, c_x0_1, c_a0_0, c_a0_1⟩ | exact ⟨cell_later b6 c_x0_0, cell_later b6 c_x0_1, cell_later b6 c_a0_0, cell_later b6 c_a0_1⟩ | exact ⟨cell_later b7 (cell_later b6 c_x0_0), cell_later b7 (cell_later b6 c_x0_1), cell_later b7 (cell_later b6 c_a0_0), cell_later b7 (cell_later b6 c_a0_1)⟩)
      (first
        | (go_at_call 89; refine (toRing_any _ _ (st5.drew.sl 2 ⟨false, lo0, hi0, .slice p0 n0 q0, n0, f0⟩ rfl) hn0).mono ?_; rintro e w6 ⟨a6, k6, rfl, s6, b6⟩)
        | (go_at_call 90; refine (eqRing_yes _ _ ((st5.drew.keep b6).sl 0 ⟨true, w3.heap.size, w4.heap.size, .slice aw4 n0 kw4, n0, f0⟩ rfl) s6 (fun _ _ => rfl)).mono ?_; rintro e w7 ⟨rfl, b7⟩))
    all_goals (go_wp2_with fail; go_meet; exact ⟨rfl, (by have z6 := b6.size; have z7 := b7.size; simp only [World.size_drew, World.size_alloc] at z6 z7 ⊢; omega), (st5.drew.keep b6).keep b7⟩)
  case rest =>
    obtain ⟨rfl, hz_w6, st6⟩ := hcut
    try clear st5
    try clear c_x0_0
    try clear c_x0_1
    try clear c_a0_0
    try clear c_a0_1
    obtain ⟨w6, hw_w6⟩ : ∃ x : World, x = wc := ⟨_, rfl⟩
    subst hw_w6
    go_wp2_with fail
    go_ret
    exact ⟨rfl, st6.1⟩

theorem walk_big0 (w : World) (x0 : Int) {lo0 hi0 n0 : Nat} {v0 : Value} {f0 : Nat → Int} (hs0 : Sl false w lo0 hi0 v0 n0 f0)  (hn0 : 1048576 < n0) :
    Calls Try.prog 15 #[.agg #[.int .i64 x0, v0]] w fun e w' => e = .returned (.bool true) ∧ Below w.heap.size w w' := by
  obtain ⟨p0, c0, rfl⟩ := hs0.shape
  have hm0 := hs0.len
  have hm0' := hm0
  unfold maxLen at hm0'
  clear hs0
  go_enter Try.func15, Try.ntmps15
  go_wp2_with fail
  refine (szRing_no _ _ _ _ _ hm0 (by omega) (by omega) (by omega)).mono ?_
  rintro e w1 ⟨rfl, b1⟩
  have z1 := b1.size
  try simp only [World.size_alloc] at z1
  go_wp2
  go_ret
  exact ⟨rfl, ((Below.refl w.heap.size w).alloc (Nat.le_refl _) _).trans (b1.mono (by simp))⟩

theorem walk (w : World) (x0 : Int) (_hx0 : inR x0) {lo0 hi0 n0 : Nat} {v0 : Value} {f0 : Nat → Int} (hs0 : Sl false w lo0 hi0 v0 n0 f0) :
    Calls Try.prog 15 #[.agg #[.int .i64 x0, v0]] w fun e w' => e = .returned (.bool true) ∧ Below w.heap.size w w' := by
  by_cases hL : n0 ≤ 1048576
  · by_cases h : RgP x0 n0 f0
    · obtain ⟨N, rfl⟩ := Int.eq_ofNat_of_zero_le (show 0 ≤ x0 by have := h.1; omega)
      exact walk_of w N n0 f0 hs0 (sumN n0 f0) 0 hL (fun w _ _ _ _ hs => TotalOfRing_spec_ok N w hs h) (fun w _ _ _ _ hs => TotalOfRing_impl_ok N w hs h)
    · exact walk_of w x0 n0 f0 hs0 0 1 hL (fun w _ _ _ _ hs => TotalOfRing_spec_bad x0 w hs h) (fun w _ _ _ _ hs => TotalOfRing_impl_bad x0 w hs h)
  · exact walk_big0 w x0 hs0 (by omega)

theorem own : ownKnob Try.prog.godebug = none := by kernel_rfl
theorem laidOut : laidOutB Try.prog = true := by kernel_rfl
set_option maxRecDepth 100000 in
theorem lifted (os : Os) (started : os.Started) (H : Type) (enc : TypeId × Value → H) :
    ReturnsInHanded {} Try.checked os 15 .any (Rows.fnExactTotalOfRingSpec.pre6 enc Try.prog Try.f15 Rows.fnExactTotalOfRingRow.domain false) (Rows.fnExactTotalOfRingSpec.post enc Try.prog Try.f15 false true false false) := by
  refine returnsInHanded_of_change (C := Try.checked) own started (by kernel_rfl) Try.func15
    (ChangeSpec.witness6 (enc := enc) (C := Try.checked) false ⟨#[], #[.agg #[.int .i64 0, .slice none 0 0]], []⟩ 8 (by kernel_rfl) (by kernel_rfl) (by kernel_rfl) (by kernel_rfl)) ?_
  intro W base args ds gs before hval0 hW hcnd _
  have hval : ∀ (j : Nat) t v, Try.f15.params[j]? = some t → args[j]? = some v → Value.okWide Try.prog W .any base t v := hval0
  have hW' := hW
  obtain ⟨p, q, hA0, hV, rfl, hfz, hnd⟩ := hW
  have hA : DataW.TrodAll enc Try.prog W 0 (fun _ => true) true Try.f15.params.toList args.toList ds p := hA0
  rw [Try.params15] at hA hval
  obtain ⟨v0, vs0, d0, ds0, p0, q0, hargs, rfl, rfl, h0, r0⟩ := trodAll_cons hA
  obtain ⟨rfl, rfl, rfl⟩ := trodAll_nil r0
  obtain rfl : args = #[v0] := by cases args; simp_all
  obtain ⟨rfl, rfl⟩ := trodVars_none hV
  have k0 := h0
  have lt0 : ∀ x ∈ p0, x.block < W.heap.size := by obtain ⟨m, hm⟩ := k0; exact DataW.trod_lt m _ _ _ hm
  obtain ⟨x0, c0, n0, f0, rfl, w0, s0⟩ : ∃ x c n f, v0 = .agg #[.int .i64 x, c] ∧ inR x ∧ Sl false W 0 W.heap.size c n f := by
    obtain ⟨c0, c1, y0, y1, m, rfl, _, _, hy0, hy1⟩ := Joins.open_agg2 Try.underlying80 (by kernel_rfl) (by kernel_rfl) (hval 0 80 v0 rfl rfl) h0
    obtain ⟨x, e0, _, wx⟩ := DataW.trod_int Try.underlying2 hy0
    obtain ⟨n, f, hs⟩ := Sl.came Try.underlying24 Try.underlying2 (by kernel_rfl) hy1
    simp at e0
    exact ⟨x, c1, n, f, by rw [e0], inR_wf wx, hs⟩
  clear hA0 hval0
  refine (walk W x0 (by assumption) s0).mono fun e W' ⟨he, bel⟩ => ?_
  subst he
  exact ⟨_, rfl, _, _, _, [], _, [], hW', trodAll_mk1 (shut_bool Try.underlying4 _), (trodAll_cons_mk (Below.trod laidOut (by kernel_rfl) (of_decide_eq_true (by kernel_rfl)) k0 bel lt0) trodAll_mk0), rfl, bel.frame _, fun h => by cases h⟩

theorem over : Rows.fnExactTotalOfRingRow.holds Try.pinned (OpenSpec.ofChange Rows.fnExactTotalOfRingSpec) :=
  OpenClaim.holds_of_wide 15 Try.f15 rfl rfl rfl rfl rfl rfl rfl ⟨rfl, rfl, rfl, rfl, rfl⟩ rfl rfl rfl rfl rfl (by kernel_rfl) Try.func15 (by unfold joinedFacts; exact (and_tt (and_tt (and_tt (and_tt (and_tt (and_tt (and_tt (and_tt (and_tt (and_tt (and_tt (and_tt (and_tt (and_tt (and_tt (and_tt (and_tt (and_tt (and_tt (and_tt (and_tt (and_tt (and_tt (and_tt (and_tt (and_tt (and_tt (and_tt (and_tt (and_tt (and_tt (by kernel_rfl) (by kernel_rfl)) (by kernel_rfl)) (by kernel_rfl)) (by kernel_rfl)) (by kernel_rfl)) (by kernel_rfl)) (by kernel_rfl)) (by kernel_rfl)) (by kernel_rfl)) (by kernel_rfl)) (by kernel_rfl)) (by kernel_rfl)) (by kernel_rfl)) (by kernel_rfl)) (by kernel_rfl)) (by kernel_rfl)) (by kernel_rfl)) (by kernel_rfl)) (by kernel_rfl)) (by kernel_rfl)) (by kernel_rfl)) (by kernel_rfl)) (by kernel_rfl)) (by kernel_rfl)) init_enter) (tt_lifts init_lifts rfl)) (tt_make init_make rfl)) (by kernel_rfl)) (by kernel_rfl)) (by kernel_rfl)) (by kernel_rfl)))
    (of_decide_eq_true (by kernel_rfl)) (by unfold Func.isWrapper; first | (rw [if_pos (by decide +kernel)]; kernel_rfl) | (rw [if_neg (by decide +kernel)]; exact ⟨rfl, rfl⟩))
    (fun os started H enc _ => lifted os started H enc)

theorem proved : Rows.FnExactTotalOfRingSaid := over
#print axioms proved
end fnExactTotalOfRing
end Go.Proofs.Ytonopjbccdpbhaa
