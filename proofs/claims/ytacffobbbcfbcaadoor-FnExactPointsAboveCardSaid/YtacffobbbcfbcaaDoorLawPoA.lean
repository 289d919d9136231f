/- PointsAbove answers as its model, for every argument. No condition. -/
import Derived.Test.YtacffobbbcfbcaaDoorEqR2
import Derived.Test.YtacffobbbcfbcaaDoorCopy
import Derived.Deep.RegionHeld3
import Derived.Deep.DeepCutAuto
import Derived.ShutString
import Derived.ChangeOld
import Derived.Lib.SmallJoins
import Derived.Test.YtacffobbbcfbcaaDoorInit
import Derived.Test.YtacffobbbcfbcaaDoorLaq
namespace Go.Proofs.YtacffobbbcfbcaaDoor
open Go.RowKit Go.ChangeShapes Go.Sort Go.WideShapes Go.ChangeAt
set_option linter.unusedVariables false
set_option linter.unusedSimpArgs false
namespace fnExactPointsAboveCard
set_option maxRecDepth 100000 in
set_option maxHeartbeats 4000000 in
theorem walk_of (w : World) (a0 : Int) (a1 : Int) (n2 : Nat) (f2 : Nat → Int) {lo2 hi2 : Nat} {u2 : Value} (hs2 : Sl false w lo2 hi2 u2 n2 f2) (C0 : Int) (C1 : Int) (hn2 : n2 ≤ 1048576)
    (hS : ∀ (w : World) (o2 : Bool) (l2 h2 : Nat) (v2 : Value) (_ : Sl o2 w l2 h2 v2 n2 f2), Calls Tryd.prog 43 #[.int .i64 a0, .int .i64 a1, v2] w fun e w' => e = .returned (.tuple #[.int .i64 C0, .int .i64 C1]) ∧ Below w.heap.size w w')
    (hG : Gv w)
    (hI : ∀ (w : World) (o2 : Bool) (l2 h2 : Nat) (v2 : Value) (_ : Sl o2 w l2 h2 v2 n2 f2), Gv w → Calls Tryd.prog 42 #[.int .i64 a0, .int .i64 a1, v2] w fun e w' => e = .returned (.tuple #[.int .i64 C0, .int .i64 C1]) ∧ Below w.heap.size w w') :
    Calls Tryd.prog 13 #[.int .i64 a0, .int .i64 a1, u2] w fun e w' => e = .returned (.bool true) ∧ Below w.heap.size w w' := by
  obtain ⟨p2, q2, rfl⟩ := hs2.shape
  have HS := Lib.hid hS; clear hS
  have HI := Lib.hid hI; clear hI
  have st0 := St.start w
  have hh2 := hs2.size
  replace st0 := st0.addSl ⟨false, lo2, hi2, .slice p2 n2 q2, n2, f2⟩ hs2
  clear hs2
  go_enter Tryd.func13, Tryd.ntmps13
  have q_2 := st0.sl 0 ⟨false, lo2, hi2, .slice p2 n2 q2, n2, f2⟩ rfl
  dsimp only at q_2
  go_wp2_with fail
  refine (toInt64S_any _ q_2 hn2).mono ?_
  rintro e w1 ⟨aw1, kw1, rfl, sw1, bw1⟩
  have st1 := st0.keep bw1
  have hz_w1 := bw1.size
  try simp only [World.size_alloc] at hz_w1
  try simp only [World.size_alloc] at sw1
  replace st1 := st1.addSl ⟨true, w.heap.size, w1.heap.size, .slice aw1 n2 kw1, n2, f2⟩ sw1
  clear st0 bw1 sw1
  clear q_2
  have q_2 := st1.sl 0 ⟨true, w.heap.size, w1.heap.size, .slice aw1 n2 kw1, n2, f2⟩ rfl
  dsimp only at q_2
  go_wp2_with fail
  refine (HS.out _ _ _ _ _ q_2).mono ?_
  rintro e w2 ⟨rfl, bw2⟩
  have st2 := st1.keep bw2
  have hz_w2 := bw2.size
  try simp only [World.size_alloc] at hz_w2
  clear st1 bw2 
  clear q_2
  have q_2 := st2.sl 1 ⟨false, lo2, hi2, .slice p2 n2 q2, n2, f2⟩ rfl
  dsimp only at q_2
  go_wp2_with fail
  refine (toInt64S_any _ q_2 hn2).mono ?_
  rintro e w3 ⟨aw3, kw3, rfl, sw3, bw3⟩
  have st3 := st2.keep bw3
  have hz_w3 := bw3.size
  try simp only [World.size_alloc] at hz_w3
  try simp only [World.size_alloc] at sw3
  replace st3 := st3.addSl ⟨true, w2.heap.size, w3.heap.size, .slice aw3 n2 kw3, n2, f2⟩ sw3
  clear st2 bw3 sw3
  clear q_2
  have q_2 := st3.sl 0 ⟨true, w2.heap.size, w3.heap.size, .slice aw3 n2 kw3, n2, f2⟩ rfl
  dsimp only at q_2
  go_wp2_with fail
  refine (HI.out _ _ _ _ _ q_2 (hG.keep st3.1)).mono ?_
  rintro e w4 ⟨rfl, bw4⟩
  have st4 := st3.keep bw4
  have hz_w4 := bw4.size
  try simp only [World.size_alloc] at hz_w4
  clear st3 bw4 
  clear q_2
  have q_2 := st4.sl 2 ⟨false, lo2, hi2, .slice p2 n2 q2, n2, f2⟩ rfl
  dsimp only at q_2
  go_wp2_with fail
  refine (toInt64S_any _ q_2 hn2).mono ?_
  rintro e w5 ⟨aw5, kw5, rfl, sw5, bw5⟩
  have st5 := st4.keep bw5
  have hz_w5 := bw5.size
  try simp only [World.size_alloc] at hz_w5
  try simp only [World.size_alloc] at sw5
  replace st5 := st5.addSl ⟨true, w4.heap.size, w5.heap.size, .slice aw5 n2 kw5, n2, f2⟩ sw5
  clear st4 bw5 sw5
  clear q_2
  have q_x := st5.sl 1 ⟨true, w2.heap.size, w3.heap.size, .slice aw3 n2 kw3, n2, f2⟩ rfl
  dsimp only at q_x
  have q_y := st5.sl 0 ⟨true, w4.heap.size, w5.heap.size, .slice aw5 n2 kw5, n2, f2⟩ rfl
  dsimp only at q_y
  go_wp2_with fail
  refine (eqInt64S_yes _ q_x q_y (fun _ _ => rfl)).mono ?_
  rintro e w6 ⟨rfl, bw6⟩
  have st6 := st5.keep bw6
  have hz_w6 := bw6.size
  try simp only [World.size_alloc] at hz_w6
  clear st5 bw6 
  clear q_x q_y
  go_wp2_with fail
  go_ret
  exact ⟨rfl, st6.1⟩

theorem walk_big2 (w : World) (a0 : Int) (a1 : Int) {lo2 hi2 n2 : Nat} {v2 : Value} {f2 : Nat → Int} (hs2 : Sl false w lo2 hi2 v2 n2 f2)  (hn2 : 1048576 < n2) :
    Calls Tryd.prog 13 #[.int .i64 a0, .int .i64 a1, v2] w fun e w' => e = .returned (.bool true) ∧ Below w.heap.size w w' := by
  obtain ⟨p2, c2, rfl⟩ := hs2.shape
  have hm2 := hs2.len
  have hm2' := hm2
  unfold maxLen at hm2'
  clear hs2
  go_enter Tryd.func13, Tryd.ntmps13
  go_wp2
  go_ret
  exact ⟨rfl, by go_grown⟩

theorem walk (w : World) (hG : Gv w) (a0 : Int) (_ha0 : inR a0) (a1 : Int) (_ha1 : inR a1) {lo2 hi2 n2 : Nat} {v2 : Value} {f2 : Nat → Int} (hs2 : Sl false w lo2 hi2 v2 n2 f2) :
    Calls Tryd.prog 13 #[.int .i64 a0, .int .i64 a1, v2] w fun e w' => e = .returned (.bool true) ∧ Below w.heap.size w w' := by
  by_cases hL2 : n2 ≤ 1048576
  · by_cases h : PaP a0 a1 n2 f2
    · obtain ⟨hk, g1, g2, g3⟩ := h
      obtain ⟨P, K, rfl, rfl, hP, h1, h2⟩ := hk.nat
      exact walk_of w P K _ f2 hs2 (paN P K f2 _) 0 hL2 (fun w _ _ _ _ hs => PointsAbove_spec_ok P K hP h1 h2 g1 g2 g3 w hs) hG (fun w _ _ _ _ hs _ => PointsAbove_impl_ok P K hP h1 h2 g1 g2 g3 w hs)
    · exact walk_of w a0 a1 n2 f2 hs2 0 2 hL2 (fun w _ _ _ _ hs => PointsAbove_spec_no a0 a1 _ha1 h w hs) hG (fun w _ _ _ _ hs hG => by obtain ⟨ad, hA⟩ := hG; exact PointsAbove_impl_no a0 a1 _ha1 h w ad hA hs)
  · exact walk_big2 w a0 a1 hs2 (by omega)

theorem own : ownKnob Tryd.prog.godebug = none := by kernel_rfl
theorem laidOut : laidOutB Tryd.prog = true := by kernel_rfl
set_option maxRecDepth 100000 in
theorem lifted (os : Os) (started : os.Started) (H : Type) (enc : TypeId × Value → H) :
    ReturnsInHanded {} Tryd.checked os 13 .any (fun w args => (Rows.fnExactPointsAboveSpec.pre enc Tryd.prog Tryd.f13 [] false w args ∧ laidMetH Tryd.prog LD w) ∧ sizedMet enc Tryd.prog Tryd.f13 (OpenSpec.ofChange Rows.fnExactPointsAboveSpec) false w args) (Rows.fnExactPointsAboveSpec.post enc Tryd.prog Tryd.f13 false true false false) := by
  refine returnsInHanded_of_change_and (C := Tryd.checked) (X := fun w _ => laidMetH Tryd.prog LD w) (fun _ _ _ hh h => h.of_heap hh) own started (by kernel_rfl) Tryd.func13
    (ChangeSpec.witness_shaped (enc := enc) (C := Tryd.checked) (os := os) (X := fun w _ => laidMetH Tryd.prog LD w) false (World.doorLaid Tryd.prog 400 os) #[.int .i64 0, .int .i64 0, .slice none 0 0] 8 rfl (World.shaped_of_RefB (by kernel_rfl) (by kernel_rfl)) (by kernel_rfl) (by kernel_rfl) (by kernel_rfl) (door_met os _)) ?_
  intro W base args ds gs before hval0 hW _ _ hL _
  have hval : ∀ (j : Nat) t v, Tryd.f13.params[j]? = some t → args[j]? = some v → Value.okWide Tryd.prog W .any base t v := hval0
  have hW' := hW
  obtain ⟨p, q, hA0, hV0, rfl, hfz, hnd⟩ := hW
  have hV : DataW.TrodVars enc Tryd.prog W (fun _ => true) ["loop.example/g01313/impl.errNoEquation"] gs q := hV0
  have hA : DataW.TrodAll enc Tryd.prog W 0 (fun _ => true) true Tryd.f13.params.toList args.toList ds p := hA0
  rw [Tryd.params13] at hA hval
  obtain ⟨v0, vs0, d0, ds0, p0, q0, hargs, rfl, rfl, h0, r0⟩ := trodAll_cons hA
  obtain ⟨v1, vs1, d1, ds1, p1, q1, rfl, rfl, rfl, h1, r1⟩ := trodAll_cons r0
  obtain ⟨v2, vs2, d2, ds2, p2, q2, rfl, rfl, rfl, h2, r2⟩ := trodAll_cons r1
  obtain ⟨rfl, rfl, rfl⟩ := trodAll_nil r2
  obtain rfl : args = #[v0, v1, v2] := by cases args; simp_all
  obtain ⟨ad, hvar⟩ := var_of_laid hL
  obtain ⟨rfl, rfl⟩ := hV.unique (vars_read1 enc gE gT Tryd.underlying90 hvar trivial _)
  have hG := gv_of_var hvar
  have k0 := h0
  have lt0 : ∀ x ∈ p0, x.block < W.heap.size := by obtain ⟨m, hm⟩ := k0; exact DataW.trod_lt m _ _ _ hm
  obtain ⟨a0, rfl, hd0, hp0, w0⟩ := open_int Tryd.underlying2 (hval 0 2 v0 rfl rfl) h0
  have k1 := h1
  have lt1 : ∀ x ∈ p1, x.block < W.heap.size := by obtain ⟨m, hm⟩ := k1; exact DataW.trod_lt m _ _ _ hm
  obtain ⟨a1, rfl, hd1, hp1, w1⟩ := open_int Tryd.underlying2 (hval 1 2 v1 rfl rfl) h1
  have k2 := h2
  have lt2 : ∀ x ∈ p2, x.block < W.heap.size := by obtain ⟨m, hm⟩ := k2; exact DataW.trod_lt m _ _ _ hm
  obtain ⟨n2, f2, s2⟩ : ∃ n f, Sl false W 0 W.heap.size v2 n f := by
    obtain ⟨a, len, cap, rfl⟩ := okWide_slice Tryd.underlying24 (hval 2 24 v2 rfl rfl)
    obtain ⟨fuel, hf⟩ := h2
    exact Sl.came Tryd.underlying24 Tryd.underlying2 (by kernel_rfl) (by simpa [Value.cells] using hf)
  clear hA0 hval0 hV0
  refine (walk W hG a0 (inR_wf w0) a1 (inR_wf w1) s2).mono fun e W' ⟨he, bel⟩ => ?_
  subst he
  exact ⟨_, rfl, _, _, _, [], _, [.cell 0 0], hW', trodAll_mk1 (shut_bool Tryd.underlying4 _), (trodAll_cons_mk (Below.trod laidOut (by kernel_rfl) (of_decide_eq_true (by kernel_rfl)) k0 bel lt0) (trodAll_cons_mk (Below.trod laidOut (by kernel_rfl) (of_decide_eq_true (by kernel_rfl)) k1 bel lt1) (trodAll_cons_mk (Below.trod laidOut (by kernel_rfl) (of_decide_eq_true (by kernel_rfl)) k2 bel lt2) trodAll_mk0))), vars_read1 enc gE gT Tryd.underlying90 (var_below hvar bel) trivial _, bel.frame _, fun h => by cases h⟩

theorem over : Rows.fnExactPointsAboveRow.holds Tryd.pinned (OpenSpec.ofChange Rows.fnExactPointsAboveSpec) :=
  OpenClaim.holds_of_wide 13 Tryd.f13 rfl rfl rfl rfl rfl rfl rfl ⟨rfl, rfl, rfl, rfl, rfl⟩ rfl rfl rfl rfl rfl (by kernel_rfl) Tryd.func13 (by unfold joinedFacts; exact (and_tt (and_tt (and_tt (and_tt (and_tt (and_tt (and_tt (and_tt (and_tt (and_tt (and_tt (and_tt (and_tt (and_tt (and_tt (and_tt (and_tt (and_tt (and_tt (and_tt (and_tt (and_tt (and_tt (and_tt (and_tt (and_tt (and_tt (and_tt (and_tt (and_tt (and_tt (by kernel_rfl) (by kernel_rfl)) (by kernel_rfl)) (by kernel_rfl)) (by kernel_rfl)) (by kernel_rfl)) (by kernel_rfl)) (by kernel_rfl)) (by kernel_rfl)) (by kernel_rfl)) (by kernel_rfl)) (by kernel_rfl)) (by kernel_rfl)) (by kernel_rfl)) (by kernel_rfl)) (by kernel_rfl)) (by kernel_rfl)) (by kernel_rfl)) (by kernel_rfl)) (by kernel_rfl)) (by kernel_rfl)) (by kernel_rfl)) (by kernel_rfl)) (by kernel_rfl)) (by kernel_rfl)) init_enter) (tt_lifts init_lifts rfl)) (tt_make init_make rfl)) (by kernel_rfl)) (by kernel_rfl)) (by kernel_rfl)) (by kernel_rfl)))
    (of_decide_eq_true (by kernel_rfl)) (by unfold Func.isWrapper; first | (rw [if_pos (by decide +kernel)]; kernel_rfl) | (rw [if_neg (by decide +kernel)]; exact ⟨rfl, rfl⟩))
    (fun os started H enc _ => lifted os started H enc)

set_option maxRecDepth 100000 in
theorem proved : Rows.FnExactPointsAboveCardSaid :=
  Claim7.holds_tied_plain_at .later [] [.sentinel] true (true, "fa76a6e2ef66c83e0bdf1c3bfa5cd93c6510d72aa3bda016c1012d12131d2f52") true over (fun D hD => by cases hD) (by kernel_rfl) (fun D hD => by cases hD) fnExactPointsAbove_row_tie rfl ⟨rfl, rfl⟩ (by kernel_rfl) rfl
    (fun f fn hf hfn => by
      obtain rfl : f = 13 := Option.some.inj ((show Tryd.prog.funcNamed "loop.example/g01313/laws.FnExactPointsAbove" = some 13 by kernel_rfl).symm.trans hf) |>.symm
      obtain rfl : fn = Tryd.f13 := (Option.some.inj (Tryd.func13.symm.trans hfn)).symm
      exact ⟨by kernel_rfl, fun j t ht => by
        rw [Tryd.params13] at ht
        have hm : t ∈ [2, 2, 24] := by simpa using Array.mem_of_getElem? ht
        have hall : ([2, 2, 24].all fun u => !Tryd.prog.wantsStandIn u) = true := by kernel_rfl
        exact (show Tryd.prog.wantsStandIn t = false by simpa using List.all_eq_true.1 hall t hm)⟩)
    (by kernel_rfl)
#print axioms proved
end fnExactPointsAboveCard
end Go.Proofs.YtacffobbbcfbcaaDoor
