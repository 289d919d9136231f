/- ReducedStickelberger answers as its model, for every argument. No condition. -/
import Derived.Test.YtnhpodlcgkgpbaaRgRs
import Derived.Test.YtnhpodlcgkgpbaaRgRt
import Derived.Test.YtnhpodlcgkgpbaaFail
import Derived.Test.YtnhpodlcgkgpbaaCopyR
import Derived.Test.YtnhpodlcgkgpbaaCopy
import Derived.Deep.RegionHeld3
import Derived.Deep.DeepCutAuto
import Derived.ShutString
import Derived.ChangeOld
import Derived.Lib.SmallJoins
import Derived.Test.YtnhpodlcgkgpbaaInit
namespace Go.Proofs.Ytnhpodlcgkgpbaa
open Go.RowKit Go.ChangeShapes Go.Sort Go.WideShapes Go.ChangeAt
set_option linter.unusedVariables false
set_option linter.unusedSimpArgs false
namespace fnExactReducedStickelberger
set_option maxRecDepth 100000 in
set_option maxHeartbeats 4000000 in
theorem walk_of (w : World) (a0 : Int) (a1 : Int) (R0 : Int) (N0 : Nat) (G0 : Nat → Int) (C1 : Int) (hN0 : N0 ≤ 1048576)
    (hS : ∀ (w : World), Calls Try.prog 47 #[.int .i64 a0, .int .i64 a1] w fun e w' => ∃ a0' k0', e = .returned (.tuple #[.agg #[.int .i64 R0, .slice a0' N0 k0'], .int .i64 C1]) ∧ Sl true w' w.heap.size w'.heap.size (.slice a0' N0 k0') N0 G0 ∧ Below w.heap.size w w')
    (hI : ∀ (w : World), Calls Try.prog 46 #[.int .i64 a0, .int .i64 a1] w fun e w' => ∃ a0' k0', e = .returned (.tuple #[.agg #[.int .i64 R0, .slice a0' N0 k0'], .int .i64 C1]) ∧ Sl true w' w.heap.size w'.heap.size (.slice a0' N0 k0') N0 G0 ∧ Below w.heap.size w w') :
    Calls Try.prog 10 #[.int .i64 a0, .int .i64 a1] w fun e w' => e = .returned (.bool true) ∧ Below w.heap.size w w' := by
  have HS := Lib.hid hS; clear hS
  have HI := Lib.hid hI; clear hI
  have st0 := St.start w
  go_enter Try.func10, Try.ntmps10
  go_wp2_with fail
  refine (HS.out _ ).mono ?_
  rintro e w1 ⟨aw1, kw1, rfl, sw1, bw1⟩
  have st1 := st0.keep bw1
  have hz_w1 := bw1.size
  try simp only [World.size_alloc] at hz_w1
  try simp only [World.size_alloc] at sw1
  replace st1 := st1.addSl ⟨true, w.heap.size, w1.heap.size, .slice aw1 N0 kw1, N0, G0⟩ sw1
  replace st1 := (st1.alloc (.cells #[.int .i64 R0, .slice aw1 N0 kw1] 28)).addBox w1.heap.size [.int .i64 R0, .slice aw1 N0 kw1] (Box.made _ _ _ _ (fun j v h => by simpa using h))
  clear st0 bw1 sw1
  go_wp2_with fail
  refine (HI.out _ ).mono ?_
  rintro e w2 ⟨aw2, kw2, rfl, sw2, bw2⟩
  have st2 := st1.keep bw2
  have hz_w2 := bw2.size
  try simp only [World.size_alloc] at hz_w2
  try simp only [World.size_alloc] at sw2
  replace st2 := st2.addSl ⟨true, w1.heap.size + 1, w2.heap.size, .slice aw2 N0 kw2, N0, G0⟩ sw2
  replace st2 := (st2.alloc (.cells #[.int .i64 R0, .slice aw2 N0 kw2] 28)).addBox w2.heap.size [.int .i64 R0, .slice aw2 N0 kw2] (Box.made _ _ _ _ (fun j v h => by simpa using h))
  clear st1 bw2 sw2
  obtain ⟨c_g0_0, c_g0_1⟩ := (st2.box 0 (w2.heap.size, [.int .i64 R0, .slice aw2 N0 kw2]) rfl).cell2
  obtain ⟨c_w0_0, c_w0_1⟩ := (st2.box 1 (w1.heap.size, [.int .i64 R0, .slice aw1 N0 kw1]) rfl).cell2
  have q_x := st2.sl 0 ⟨true, w1.heap.size + 1, w2.heap.size, .slice aw2 N0 kw2, N0, G0⟩ rfl
  dsimp only at q_x
  have q_y := st2.sl 1 ⟨true, w.heap.size, w1.heap.size, .slice aw1 N0 kw1, N0, G0⟩ rfl
  dsimp only at q_y
  go_wp2_with fail
  refine (eqRing_yes _ _ q_x q_y (fun _ _ => rfl)).mono ?_
  rintro e w3 ⟨rfl, bw3⟩
  have st3 := st2.keep bw3
  have hz_w3 := bw3.size
  try simp only [World.size_alloc] at hz_w3
  clear st2 bw3 
  clear c_g0_0 c_g0_1 c_w0_0 c_w0_1 q_x q_y
  obtain ⟨c_g0_0, c_g0_1⟩ := (st3.box 0 (w2.heap.size, [.int .i64 R0, .slice aw2 N0 kw2]) rfl).cell2
  have q_x := st3.sl 0 ⟨true, w1.heap.size + 1, w2.heap.size, .slice aw2 N0 kw2, N0, G0⟩ rfl
  dsimp only at q_x
  go_wp2_with fail
  refine (markRing_any _ _ _ q_x (by omega) (by omega) (by omega)).mono ?_
  rintro e w4 ⟨rfl, sw4, fw4⟩
  have st4 := st3.writeTo fw4 (by omega) (by intro b hb; simp only [List.mem_cons, List.not_mem_nil, or_false] at hb; rcases hb with rfl | rfl <;> dsimp only <;> omega)
    [⟨true, w.heap.size, w1.heap.size, .slice aw1 N0 kw1, N0, G0⟩] (by intro s hs; simp only [List.mem_cons, List.not_mem_nil, or_false] at hs; rcases hs with rfl <;> refine ⟨by simp, ?_⟩ <;> dsimp only <;> omega)
  replace st4 := st4.addSl ⟨true, w1.heap.size + 1, w2.heap.size, .slice aw2 N0 kw2, N0, (fun j : Nat => 1 + (j : Int))⟩ sw4
  have hz_w4 := fw4.size
  try simp only [World.size_alloc] at hz_w4
  clear st3 sw4 fw4
  clear c_g0_0 c_g0_1 q_x
  obtain ⟨c_g0_0, c_g0_1⟩ := (st4.box 0 (w2.heap.size, [.int .i64 R0, .slice aw2 N0 kw2]) rfl).cell2
  have q_x := st4.sl 0 ⟨true, w1.heap.size + 1, w2.heap.size, .slice aw2 N0 kw2, N0, (fun j : Nat => 1 + (j : Int))⟩ rfl
  dsimp only at q_x
  go_wp2_with fail
  refine (heldRing_any _ _ _ q_x (by omega) (by omega) (by omega)).mono ?_
  rintro e w5 ⟨rfl, bw5⟩
  have st5 := st4.keep bw5
  have hz_w5 := bw5.size
  try simp only [World.size_alloc] at hz_w5
  clear st4 bw5 
  clear c_g0_0 c_g0_1 q_x
  go_wp2_with fail
  refine (HI.out _ ).mono ?_
  rintro e w6 ⟨aw6, kw6, rfl, sw6, bw6⟩
  have st6 := st5.keep bw6
  have hz_w6 := bw6.size
  try simp only [World.size_alloc] at hz_w6
  try simp only [World.size_alloc] at sw6
  replace st6 := st6.addSl ⟨true, w5.heap.size, w6.heap.size, .slice aw6 N0 kw6, N0, G0⟩ sw6
  replace st6 := (st6.alloc (.cells #[.int .i64 R0, .slice aw6 N0 kw6] 28)).addBox w6.heap.size [.int .i64 R0, .slice aw6 N0 kw6] (Box.made _ _ _ _ (fun j v h => by simpa using h))
  clear st5 bw6 sw6
  obtain ⟨c_h0_0, c_h0_1⟩ := (st6.box 0 (w6.heap.size, [.int .i64 R0, .slice aw6 N0 kw6]) rfl).cell2
  obtain ⟨c_w0_0, c_w0_1⟩ := (st6.box 2 (w1.heap.size, [.int .i64 R0, .slice aw1 N0 kw1]) rfl).cell2
  have q_x := st6.sl 0 ⟨true, w5.heap.size, w6.heap.size, .slice aw6 N0 kw6, N0, G0⟩ rfl
  dsimp only at q_x
  have q_y := st6.sl 2 ⟨true, w.heap.size, w1.heap.size, .slice aw1 N0 kw1, N0, G0⟩ rfl
  dsimp only at q_y
  go_wp2_with fail
  refine (eqRing_yes _ _ q_x q_y (fun _ _ => rfl)).mono ?_
  rintro e w7 ⟨rfl, bw7⟩
  have st7 := st6.keep bw7
  have hz_w7 := bw7.size
  try simp only [World.size_alloc] at hz_w7
  clear st6 bw7 
  clear c_h0_0 c_h0_1 c_w0_0 c_w0_1 q_x q_y
  obtain ⟨c_g0_0, c_g0_1⟩ := (st7.box 1 (w2.heap.size, [.int .i64 R0, .slice aw2 N0 kw2]) rfl).cell2
  have q_x := st7.sl 1 ⟨true, w1.heap.size + 1, w2.heap.size, .slice aw2 N0 kw2, N0, (fun j : Nat => 1 + (j : Int))⟩ rfl
  dsimp only at q_x
  go_wp2_with fail
  refine (heldRing_any _ _ _ q_x (by omega) (by omega) (by omega)).mono ?_
  rintro e w8 ⟨rfl, bw8⟩
  have st8 := st7.keep bw8
  have hz_w8 := bw8.size
  try simp only [World.size_alloc] at hz_w8
  clear st7 bw8 
  clear c_g0_0 c_g0_1 q_x
  go_wp2_with fail
  go_ret
  exact ⟨rfl, st8.1⟩


theorem walk (w : World) (a0 : Int) (_ha0 : inR a0) (a1 : Int) (_ha1 : inR a1) :
    Calls Try.prog 10 #[.int .i64 a0, .int .i64 a1] w fun e w' => e = .returned (.bool true) ∧ Below w.heap.size w w' := by
  by_cases h : 2 ≤ a0 ∧ a0 ≤ 40 ∧ 1 ≤ a1 ∧ a1 ≤ a0 ∧ gcdI a1 a0 = 1
  · obtain ⟨h2, h40, h1, ha, hg⟩ := h
    obtain ⟨n, rfl⟩ := Int.eq_ofNat_of_zero_le (show 0 ≤ a0 by omega)
    obtain ⟨m, rfl⟩ := Int.eq_ofNat_of_zero_le (show 0 ≤ a1 by omega)
    have hp := phi_le40 n (by omega)
    have hg' : Nat.gcd m n = 1 := by unfold gcdI at hg; rw [Int.toNat_natCast, Int.toNat_natCast] at hg; omega
    have hmn : m < n := by
      by_cases e : m = n
      · subst e; rw [Nat.gcd_self] at hg'; omega
      · omega
    obtain ⟨hpl, hre⟩ := plR_ok (n := n) (by omega) (by omega) (show 1 ≤ m by omega) hmn hg'
    exact walk_of w n m n (phiN n) (fun j => (m : Int) * (res n (ivR n j) : Int) / (n : Int)) 0 (by omega) (fun w => ReducedStickelberger_spec_ok n m (by omega) (by omega) (by omega) (by omega) hg w) (fun w => by
      have := ReducedStickelberger_impl_ok n (plR n m) (by omega) (by omega) hpl w
      rw [hre] at this
      exact this)
  · exact walk_of w a0 a1 0 0 (fun _ => 0) 2 (by omega) (fun w => ReducedStickelberger_spec_no a0 a1 h w) (fun w => ReducedStickelberger_impl_no a0 a1 h w)

theorem own : ownKnob Try.prog.godebug = none := by kernel_rfl
theorem laidOut : laidOutB Try.prog = true := by kernel_rfl
set_option maxRecDepth 100000 in
theorem lifted (os : Os) (started : os.Started) (H : Type) (enc : TypeId × Value → H) :
    ReturnsInHanded {} Try.checked os 10 .any (Rows.fnExactReducedStickelbergerSpec.pre6 enc Try.prog Try.f10 Rows.fnExactReducedStickelbergerRow.domain false) (Rows.fnExactReducedStickelbergerSpec.post enc Try.prog Try.f10 false true false false) := by
  refine returnsInHanded_of_change (C := Try.checked) own started (by kernel_rfl) Try.func10
    (ChangeSpec.witness6 (enc := enc) (C := Try.checked) false ⟨#[], #[.int .i64 0, .int .i64 0], []⟩ 8 (by kernel_rfl) (by kernel_rfl) (by kernel_rfl) (by kernel_rfl)) ?_
  intro W base args ds gs before hval0 hW hcnd _
  have hval : ∀ (j : Nat) t v, Try.f10.params[j]? = some t → args[j]? = some v → Value.okWide Try.prog W .any base t v := hval0
  have hW' := hW
  obtain ⟨p, q, hA0, hV, rfl, hfz, hnd⟩ := hW
  have hA : DataW.TrodAll enc Try.prog W 0 (fun _ => true) true Try.f10.params.toList args.toList ds p := hA0
  rw [Try.params10] at hA hval
  obtain ⟨v0, vs0, d0, ds0, p0, q0, hargs, rfl, rfl, h0, r0⟩ := trodAll_cons hA
  obtain ⟨v1, vs1, d1, ds1, p1, q1, rfl, rfl, rfl, h1, r1⟩ := trodAll_cons r0
  obtain ⟨rfl, rfl, rfl⟩ := trodAll_nil r1
  obtain rfl : args = #[v0, v1] := by cases args; simp_all
  obtain ⟨rfl, rfl⟩ := trodVars_none hV
  have k0 := h0
  have lt0 : ∀ x ∈ p0, x.block < W.heap.size := by obtain ⟨m, hm⟩ := k0; exact DataW.trod_lt m _ _ _ hm
  obtain ⟨a0, rfl, hd0, hp0, w0⟩ := open_int Try.underlying2 (hval 0 2 v0 rfl rfl) h0
  have k1 := h1
  have lt1 : ∀ x ∈ p1, x.block < W.heap.size := by obtain ⟨m, hm⟩ := k1; exact DataW.trod_lt m _ _ _ hm
  obtain ⟨a1, rfl, hd1, hp1, w1⟩ := open_int Try.underlying2 (hval 1 2 v1 rfl rfl) h1
  clear hA0 hval0
  refine (walk W a0 (inR_wf w0) a1 (inR_wf w1)).mono fun e W' ⟨he, bel⟩ => ?_
  subst he
  exact ⟨_, rfl, _, _, _, [], _, [], hW', trodAll_mk1 (shut_bool Try.underlying4 _), (trodAll_cons_mk (Below.trod laidOut (by kernel_rfl) (of_decide_eq_true (by kernel_rfl)) k0 bel lt0) (trodAll_cons_mk (Below.trod laidOut (by kernel_rfl) (of_decide_eq_true (by kernel_rfl)) k1 bel lt1) trodAll_mk0)), rfl, bel.frame _, fun h => by cases h⟩

theorem over : Rows.fnExactReducedStickelbergerRow.holds Try.pinned (OpenSpec.ofChange Rows.fnExactReducedStickelbergerSpec) :=
  OpenClaim.holds_of_wide 10 Try.f10 rfl rfl rfl rfl rfl rfl rfl ⟨rfl, rfl, rfl, rfl, rfl⟩ rfl rfl rfl rfl rfl (by kernel_rfl) Try.func10 (by unfold joinedFacts; exact (and_tt (and_tt (and_tt (and_tt (and_tt (and_tt (and_tt (and_tt (and_tt (and_tt (and_tt (and_tt (and_tt (and_tt (and_tt (and_tt (and_tt (and_tt (and_tt (and_tt (and_tt (and_tt (and_tt (and_tt (and_tt (and_tt (and_tt (and_tt (and_tt (and_tt (and_tt (by kernel_rfl) (by kernel_rfl)) (by kernel_rfl)) (by kernel_rfl)) (by kernel_rfl)) (by kernel_rfl)) (by kernel_rfl)) (by kernel_rfl)) (by kernel_rfl)) (by kernel_rfl)) (by kernel_rfl)) (by kernel_rfl)) (by kernel_rfl)) (by kernel_rfl)) (by kernel_rfl)) (by kernel_rfl)) (by kernel_rfl)) (by kernel_rfl)) (by kernel_rfl)) (by kernel_rfl)) (by kernel_rfl)) (by kernel_rfl)) (by kernel_rfl)) (by kernel_rfl)) (by kernel_rfl)) init_enter) (tt_lifts init_lifts rfl)) (tt_make init_make rfl)) (by kernel_rfl)) (by kernel_rfl)) (by kernel_rfl)) (by kernel_rfl)))
    (of_decide_eq_true (by kernel_rfl)) (by unfold Func.isWrapper; first | (rw [if_pos (by decide +kernel)]; kernel_rfl) | (rw [if_neg (by decide +kernel)]; exact ⟨rfl, rfl⟩))
    (fun os started H enc _ => lifted os started H enc)

theorem proved : Rows.FnExactReducedStickelbergerSaid := over
#print axioms proved
end fnExactReducedStickelberger
end Go.Proofs.Ytnhpodlcgkgpbaa
