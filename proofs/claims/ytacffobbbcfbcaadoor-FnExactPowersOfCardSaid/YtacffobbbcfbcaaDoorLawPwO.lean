/- PowersOf answers as its model, for every argument. No condition. -/
import Derived.Test.YtacffobbbcfbcaaDoorEqP
import Derived.Test.YtacffobbbcfbcaaDoorCopy
import Derived.Deep.RegionHeld3
import Derived.Deep.DeepCutAuto
import Derived.ShutString
import Derived.ChangeOld
import Derived.Lib.SmallJoins
import Derived.Test.YtacffobbbcfbcaaDoorInit
import Derived.Test.YtacffobbbcfbcaaDoorLaq
namespace Go.Proofs.YtacffobbbcfbcaaDoor
open Go.RowKit Go.ChangeShapes Go.Sort Go.WideShapes Go.ChangeAt
set_option linter.unusedVariables false
set_option linter.unusedSimpArgs false
namespace fnExactPowersOfCard
set_option maxRecDepth 100000 in
set_option maxHeartbeats 4000000 in
theorem walk_of (w : World) (a0 : Int) (a1 : Int) (N0 : Nat) (G0 : Nat → Int) (C1 : Int) (hN0 : N0 ≤ 1048576)
    (hS : ∀ (w : World), Calls Tryd.prog 31 #[.int .i64 a0, .int .i64 a1] w fun e w' => ∃ a0' k0', e = .returned (.tuple #[.slice a0' N0 k0', .int .i64 C1]) ∧ Sl true w' w.heap.size w'.heap.size (.slice a0' N0 k0') N0 G0 ∧ Below w.heap.size w w')
    (hG : Gv w)
    (hI : ∀ (w : World), Gv w → Calls Tryd.prog 30 #[.int .i64 a0, .int .i64 a1] w fun e w' => ∃ a0' k0', e = .returned (.tuple #[.slice a0' N0 k0', .int .i64 C1]) ∧ Sl true w' w.heap.size w'.heap.size (.slice a0' N0 k0') N0 G0 ∧ Below w.heap.size w w') :
    Calls Tryd.prog 5 #[.int .i64 a0, .int .i64 a1] w fun e w' => e = .returned (.bool true) ∧ Below w.heap.size w w' := by
  have HS := Lib.hid hS; clear hS
  have HI := Lib.hid hI; clear hI
  have st0 := St.start w
  go_enter Tryd.func5, Tryd.ntmps5
  go_wp2_with fail
  refine (HS.out _ ).mono ?_
  rintro e w1 ⟨aw1, kw1, rfl, sw1, bw1⟩
  have st1 := st0.keep bw1
  have hz_w1 := bw1.size
  try simp only [World.size_alloc] at hz_w1
  try simp only [World.size_alloc] at sw1
  replace st1 := st1.addSl ⟨true, w.heap.size, w1.heap.size, .slice aw1 N0 kw1, N0, G0⟩ sw1
  clear st0 bw1 sw1
  go_wp2_with fail
  refine (HI.out _  (hG.keep st1.1)).mono ?_
  rintro e w2 ⟨aw2, kw2, rfl, sw2, bw2⟩
  have st2 := st1.keep bw2
  have hz_w2 := bw2.size
  try simp only [World.size_alloc] at hz_w2
  try simp only [World.size_alloc] at sw2
  replace st2 := st2.addSl ⟨true, w1.heap.size, w2.heap.size, .slice aw2 N0 kw2, N0, G0⟩ sw2
  clear st1 bw2 sw2
  have q_x := st2.sl 0 ⟨true, w1.heap.size, w2.heap.size, .slice aw2 N0 kw2, N0, G0⟩ rfl
  dsimp only at q_x
  have q_y := st2.sl 1 ⟨true, w.heap.size, w1.heap.size, .slice aw1 N0 kw1, N0, G0⟩ rfl
  dsimp only at q_y
  go_wp2_with fail
  refine (eqInt64S_yes _ q_x q_y (fun _ _ => rfl)).mono ?_
  rintro e w3 ⟨rfl, bw3⟩
  have st3 := st2.keep bw3
  have hz_w3 := bw3.size
  try simp only [World.size_alloc] at hz_w3
  clear st2 bw3 
  clear q_x q_y
  have q_x := st3.sl 0 ⟨true, w1.heap.size, w2.heap.size, .slice aw2 N0 kw2, N0, G0⟩ rfl
  dsimp only at q_x
  go_wp2_with fail
  refine (markInt64S_any _ _ q_x (by omega) (by omega) (by omega)).mono ?_
  rintro e w4 ⟨rfl, sw4, fw4⟩
  have st4 := st3.writeTo fw4 (by omega) (by intro b hb; cases hb)
    [⟨true, w.heap.size, w1.heap.size, .slice aw1 N0 kw1, N0, G0⟩] (by intro s hs; simp only [List.mem_cons, List.not_mem_nil, or_false] at hs; rcases hs with rfl <;> refine ⟨by simp, ?_⟩ <;> dsimp only <;> omega)
  replace st4 := st4.addSl ⟨true, w1.heap.size, w2.heap.size, .slice aw2 N0 kw2, N0, (fun j : Nat => 1 + (j : Int))⟩ sw4
  have hz_w4 := fw4.size
  try simp only [World.size_alloc] at hz_w4
  clear st3 sw4 fw4
  clear q_x
  have q_x := st4.sl 0 ⟨true, w1.heap.size, w2.heap.size, .slice aw2 N0 kw2, N0, (fun j : Nat => 1 + (j : Int))⟩ rfl
  dsimp only at q_x
  go_wp2_with fail
  refine (heldInt64S_any _ _ q_x (by omega) (by omega) (by omega)).mono ?_
  rintro e w5 ⟨rfl, bw5⟩
  have st5 := st4.keep bw5
  have hz_w5 := bw5.size
  try simp only [World.size_alloc] at hz_w5
  clear st4 bw5 
  clear q_x
  go_wp2_with fail
  refine (HI.out _  (hG.keep st5.1)).mono ?_
  rintro e w6 ⟨aw6, kw6, rfl, sw6, bw6⟩
  have st6 := st5.keep bw6
  have hz_w6 := bw6.size
  try simp only [World.size_alloc] at hz_w6
  try simp only [World.size_alloc] at sw6
  replace st6 := st6.addSl ⟨true, w5.heap.size, w6.heap.size, .slice aw6 N0 kw6, N0, G0⟩ sw6
  clear st5 bw6 sw6
  have q_x := st6.sl 0 ⟨true, w5.heap.size, w6.heap.size, .slice aw6 N0 kw6, N0, G0⟩ rfl
  dsimp only at q_x
  have q_y := st6.sl 2 ⟨true, w.heap.size, w1.heap.size, .slice aw1 N0 kw1, N0, G0⟩ rfl
  dsimp only at q_y
  go_wp2_with fail
  refine (eqInt64S_yes _ q_x q_y (fun _ _ => rfl)).mono ?_
  rintro e w7 ⟨rfl, bw7⟩
  have st7 := st6.keep bw7
  have hz_w7 := bw7.size
  try simp only [World.size_alloc] at hz_w7
  clear st6 bw7 
  clear q_x q_y
  have q_x := st7.sl 1 ⟨true, w1.heap.size, w2.heap.size, .slice aw2 N0 kw2, N0, (fun j : Nat => 1 + (j : Int))⟩ rfl
  dsimp only at q_x
  go_wp2_with fail
  refine (heldInt64S_any _ _ q_x (by omega) (by omega) (by omega)).mono ?_
  rintro e w8 ⟨rfl, bw8⟩
  have st8 := st7.keep bw8
  have hz_w8 := bw8.size
  try simp only [World.size_alloc] at hz_w8
  clear st7 bw8 
  clear q_x
  go_wp2_with fail
  go_ret
  exact ⟨rfl, st8.1⟩


theorem walk (w : World) (hG : Gv w) (a0 : Int) (_ha0 : inR a0) (a1 : Int) (_ha1 : inR a1) :
    Calls Tryd.prog 5 #[.int .i64 a0, .int .i64 a1] w fun e w' => e = .returned (.bool true) ∧ Below w.heap.size w w' := by
  by_cases h : PkP a0 a1
  · obtain ⟨P, K, rfl, rfl, hP, h1, h2⟩ := h.nat
    have hbd := primeN_bd hP
    have hl := pwL_len P K P
    exact walk_of w P K (pwL P K P).length (rtF (pwL P K P)) 0 (by omega) (fun w => PowersOf_spec_ok P K hP h1 h2 w) hG (fun w _ => PowersOf_impl_ok P K hP h1 h2 w)
  · exact walk_of w a0 a1 0 (fun _ => 0) 2 (by omega) (fun w => (PowersOf_spec_no a0 a1 _ha1 h w).mono fun e w' ⟨he, hb⟩ => ⟨none, 0, he, Sl.nil _ _ _ (Nat.le_refl _) _, hb⟩) hG (fun w hG => by obtain ⟨ad, hA⟩ := hG; exact (PowersOf_impl_no a0 a1 _ha1 h w ad hA).mono fun e w' ⟨he, hb⟩ => ⟨none, 0, he, Sl.nil _ _ _ (Nat.le_refl _) _, hb⟩)

theorem own : ownKnob Tryd.prog.godebug = none := by kernel_rfl
theorem laidOut : laidOutB Tryd.prog = true := by kernel_rfl
set_option maxRecDepth 100000 in
theorem lifted (os : Os) (started : os.Started) (H : Type) (enc : TypeId × Value → H) :
    ReturnsInHanded {} Tryd.checked os 5 .any (fun w args => (Rows.fnExactPowersOfSpec.pre enc Tryd.prog Tryd.f5 [] false w args ∧ laidMetH Tryd.prog LD w) ∧ sizedMet enc Tryd.prog Tryd.f5 (OpenSpec.ofChange Rows.fnExactPowersOfSpec) false w args) (Rows.fnExactPowersOfSpec.post enc Tryd.prog Tryd.f5 false true false false) := by
  refine returnsInHanded_of_change_and (C := Tryd.checked) (X := fun w _ => laidMetH Tryd.prog LD w) (fun _ _ _ hh h => h.of_heap hh) own started (by kernel_rfl) Tryd.func5
    (ChangeSpec.witness_shaped (enc := enc) (C := Tryd.checked) (os := os) (X := fun w _ => laidMetH Tryd.prog LD w) false (World.doorLaid Tryd.prog 400 os) #[.int .i64 0, .int .i64 0] 8 rfl (World.shaped_of_RefB (by kernel_rfl) (by kernel_rfl)) (by kernel_rfl) (by kernel_rfl) (by kernel_rfl) (door_met os _)) ?_
  intro W base args ds gs before hval0 hW _ _ hL _
  have hval : ∀ (j : Nat) t v, Tryd.f5.params[j]? = some t → args[j]? = some v → Value.okWide Tryd.prog W .any base t v := hval0
  have hW' := hW
  obtain ⟨p, q, hA0, hV0, rfl, hfz, hnd⟩ := hW
  have hV : DataW.TrodVars enc Tryd.prog W (fun _ => true) ["loop.example/g01313/impl.errNoEquation"] gs q := hV0
  have hA : DataW.TrodAll enc Tryd.prog W 0 (fun _ => true) true Tryd.f5.params.toList args.toList ds p := hA0
  rw [Tryd.params5] at hA hval
  obtain ⟨v0, vs0, d0, ds0, p0, q0, hargs, rfl, rfl, h0, r0⟩ := trodAll_cons hA
  obtain ⟨v1, vs1, d1, ds1, p1, q1, rfl, rfl, rfl, h1, r1⟩ := trodAll_cons r0
  obtain ⟨rfl, rfl, rfl⟩ := trodAll_nil r1
  obtain rfl : args = #[v0, v1] := by cases args; simp_all
  obtain ⟨ad, hvar⟩ := var_of_laid hL
  obtain ⟨rfl, rfl⟩ := hV.unique (vars_read1 enc gE gT Tryd.underlying90 hvar trivial _)
  have hG := gv_of_var hvar
  have k0 := h0
  have lt0 : ∀ x ∈ p0, x.block < W.heap.size := by obtain ⟨m, hm⟩ := k0; exact DataW.trod_lt m _ _ _ hm
  obtain ⟨a0, rfl, hd0, hp0, w0⟩ := open_int Tryd.underlying2 (hval 0 2 v0 rfl rfl) h0
  have k1 := h1
  have lt1 : ∀ x ∈ p1, x.block < W.heap.size := by obtain ⟨m, hm⟩ := k1; exact DataW.trod_lt m _ _ _ hm
  obtain ⟨a1, rfl, hd1, hp1, w1⟩ := open_int Tryd.underlying2 (hval 1 2 v1 rfl rfl) h1
  clear hA0 hval0 hV0
  refine (walk W hG a0 (inR_wf w0) a1 (inR_wf w1)).mono fun e W' ⟨he, bel⟩ => ?_
  subst he
  exact ⟨_, rfl, _, _, _, [], _, [.cell 0 0], hW', trodAll_mk1 (shut_bool Tryd.underlying4 _), (trodAll_cons_mk (Below.trod laidOut (by kernel_rfl) (of_decide_eq_true (by kernel_rfl)) k0 bel lt0) (trodAll_cons_mk (Below.trod laidOut (by kernel_rfl) (of_decide_eq_true (by kernel_rfl)) k1 bel lt1) trodAll_mk0)), vars_read1 enc gE gT Tryd.underlying90 (var_below hvar bel) trivial _, bel.frame _, fun h => by cases h⟩

theorem over : Rows.fnExactPowersOfRow.holds Tryd.pinned (OpenSpec.ofChange Rows.fnExactPowersOfSpec) :=
  OpenClaim.holds_of_wide 5 Tryd.f5 rfl rfl rfl rfl rfl rfl rfl ⟨rfl, rfl, rfl, rfl, rfl⟩ rfl rfl rfl rfl rfl (by kernel_rfl) Tryd.func5 (by unfold joinedFacts; exact (and_tt (and_tt (and_tt (and_tt (and_tt (and_tt (and_tt (and_tt (and_tt (and_tt (and_tt (and_tt (and_tt (and_tt (and_tt (and_tt (and_tt (and_tt (and_tt (and_tt (and_tt (and_tt (and_tt (and_tt (and_tt (and_tt (and_tt (and_tt (and_tt (and_tt (and_tt (by kernel_rfl) (by kernel_rfl)) (by kernel_rfl)) (by kernel_rfl)) (by kernel_rfl)) (by kernel_rfl)) (by kernel_rfl)) (by kernel_rfl)) (by kernel_rfl)) (by kernel_rfl)) (by kernel_rfl)) (by kernel_rfl)) (by kernel_rfl)) (by kernel_rfl)) (by kernel_rfl)) (by kernel_rfl)) (by kernel_rfl)) (by kernel_rfl)) (by kernel_rfl)) (by kernel_rfl)) (by kernel_rfl)) (by kernel_rfl)) (by kernel_rfl)) (by kernel_rfl)) (by kernel_rfl)) init_enter) (tt_lifts init_lifts rfl)) (tt_make init_make rfl)) (by kernel_rfl)) (by kernel_rfl)) (by kernel_rfl)) (by kernel_rfl)))
    (of_decide_eq_true (by kernel_rfl)) (by unfold Func.isWrapper; first | (rw [if_pos (by decide +kernel)]; kernel_rfl) | (rw [if_neg (by decide +kernel)]; exact ⟨rfl, rfl⟩))
    (fun os started H enc _ => lifted os started H enc)

set_option maxRecDepth 100000 in
theorem proved : Rows.FnExactPowersOfCardSaid :=
  Claim7.holds_tied_plain_at .later [] [.sentinel] true (true, "fa76a6e2ef66c83e0bdf1c3bfa5cd93c6510d72aa3bda016c1012d12131d2f52") true over (fun D hD => by cases hD) (by kernel_rfl) (fun D hD => by cases hD) fnExactPowersOf_row_tie rfl ⟨rfl, rfl⟩ (by kernel_rfl) rfl
    (fun f fn hf hfn => by
      obtain rfl : f = 5 := Option.some.inj ((show Tryd.prog.funcNamed "loop.example/g01313/laws.FnExactPowersOf" = some 5 by kernel_rfl).symm.trans hf) |>.symm
      obtain rfl : fn = Tryd.f5 := (Option.some.inj (Tryd.func5.symm.trans hfn)).symm
      exact ⟨by kernel_rfl, fun j t ht => by
        rw [Tryd.params5] at ht
        have hm : t ∈ [2, 2] := by simpa using Array.mem_of_getElem? ht
        have hall : ([2, 2].all fun u => !Tryd.prog.wantsStandIn u) = true := by kernel_rfl
        exact (show Tryd.prog.wantsStandIn t = false by simpa using List.all_eq_true.1 hall t hm)⟩)
    (by kernel_rfl)
#print axioms proved
end fnExactPowersOfCard
end Go.Proofs.YtacffobbbcfbcaaDoor
