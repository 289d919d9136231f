/- TraceOfPeriods answers as its model, for every argument. No condition. -/
import Derived.Test.YtaipaggaodnfkaaPerA
import Derived.Test.YtaipaggaodnfkaaCopy
import Derived.Deep.RegionHeld3
import Derived.Deep.DeepCutAuto
import Derived.ShutString
import Derived.ChangeOld
import Derived.Lib.SmallJoins
import Derived.Test.YtaipaggaodnfkaaInit
namespace Go.Proofs.Ytaipaggaodnfkaa
open Go.RowKit Go.ChangeShapes Go.Sort Go.WideShapes Go.ChangeAt
set_option linter.unusedVariables false
set_option linter.unusedSimpArgs false
namespace fnExactTraceOfPeriods
set_option maxRecDepth 100000 in
set_option maxHeartbeats 4000000 in
theorem walk_of (w : World) (a0 : Int) (a1 : Int) (n2 : Nat) (f2 : Nat → Int) {lo2 hi2 : Nat} {u2 : Value} (hs2 : Sl false w lo2 hi2 u2 n2 f2) (C0 : Int) (C1 : Int) (hn2 : n2 ≤ 1048576)
    (hS : ∀ (w : World) (o2 : Bool) (l2 h2 : Nat) (v2 : Value) (_ : Sl o2 w l2 h2 v2 n2 f2), Calls Try.prog 45 #[.int .i64 a0, .int .i64 a1, v2] w fun e w' => e = .returned (.tuple #[.int .i64 C0, .int .i64 C1]) ∧ Below w.heap.size w w')
    (hI : ∀ (w : World) (o2 : Bool) (l2 h2 : Nat) (v2 : Value) (_ : Sl o2 w l2 h2 v2 n2 f2), Calls Try.prog 44 #[.int .i64 a0, .int .i64 a1, v2] w fun e w' => e = .returned (.tuple #[.int .i64 C0, .int .i64 C1]) ∧ Below w.heap.size w w') :
    Calls Try.prog 11 #[.int .i64 a0, .int .i64 a1, u2] w fun e w' => e = .returned (.bool true) ∧ Below w.heap.size w w' := by
  obtain ⟨p2, q2, rfl⟩ := hs2.shape
  have HS := Lib.hid hS; clear hS
  have HI := Lib.hid hI; clear hI
  have st0 := St.start w
  have hh2 := hs2.size
  replace st0 := st0.addSl ⟨false, lo2, hi2, .slice p2 n2 q2, n2, f2⟩ hs2
  clear hs2
  go_enter Try.func11, Try.ntmps11
  have q_2 := st0.sl 0 ⟨false, lo2, hi2, .slice p2 n2 q2, n2, f2⟩ rfl
  dsimp only at q_2
  go_wp2_with fail
  refine (toInt64S_any _ q_2 hn2).mono ?_
  rintro e w1 ⟨aw1, kw1, rfl, sw1, bw1⟩
  have st1 := st0.keep bw1
  have hz_w1 := bw1.size
  try simp only [World.size_alloc] at hz_w1
  try simp only [World.size_alloc] at sw1
  replace st1 := st1.addSl ⟨true, w.heap.size, w1.heap.size, .slice aw1 n2 kw1, n2, f2⟩ sw1
  clear st0 bw1 sw1
  clear q_2
  have q_2 := st1.sl 0 ⟨true, w.heap.size, w1.heap.size, .slice aw1 n2 kw1, n2, f2⟩ rfl
  dsimp only at q_2
  go_wp2_with fail
  refine (HS.out _ _ _ _ _ q_2).mono ?_
  rintro e w2 ⟨rfl, bw2⟩
  have st2 := st1.keep bw2
  have hz_w2 := bw2.size
  try simp only [World.size_alloc] at hz_w2
  clear st1 bw2 
  clear q_2
  have q_2 := st2.sl 1 ⟨false, lo2, hi2, .slice p2 n2 q2, n2, f2⟩ rfl
  dsimp only at q_2
  go_wp2_with fail
  refine (toInt64S_any _ q_2 hn2).mono ?_
  rintro e w3 ⟨aw3, kw3, rfl, sw3, bw3⟩
  have st3 := st2.keep bw3
  have hz_w3 := bw3.size
  try simp only [World.size_alloc] at hz_w3
  try simp only [World.size_alloc] at sw3
  replace st3 := st3.addSl ⟨true, w2.heap.size, w3.heap.size, .slice aw3 n2 kw3, n2, f2⟩ sw3
  clear st2 bw3 sw3
  clear q_2
  have q_2 := st3.sl 0 ⟨true, w2.heap.size, w3.heap.size, .slice aw3 n2 kw3, n2, f2⟩ rfl
  dsimp only at q_2
  go_wp2_with fail
  refine (HI.out _ _ _ _ _ q_2).mono ?_
  rintro e w4 ⟨rfl, bw4⟩
  have st4 := st3.keep bw4
  have hz_w4 := bw4.size
  try simp only [World.size_alloc] at hz_w4
  clear st3 bw4 
  clear q_2
  have q_2 := st4.sl 2 ⟨false, lo2, hi2, .slice p2 n2 q2, n2, f2⟩ rfl
  dsimp only at q_2
  go_wp2_with fail
  refine (toInt64S_any _ q_2 hn2).mono ?_
  rintro e w5 ⟨aw5, kw5, rfl, sw5, bw5⟩
  have st5 := st4.keep bw5
  have hz_w5 := bw5.size
  try simp only [World.size_alloc] at hz_w5
  try simp only [World.size_alloc] at sw5
  replace st5 := st5.addSl ⟨true, w4.heap.size, w5.heap.size, .slice aw5 n2 kw5, n2, f2⟩ sw5
  clear st4 bw5 sw5
  clear q_2
  have q_x := st5.sl 1 ⟨true, w2.heap.size, w3.heap.size, .slice aw3 n2 kw3, n2, f2⟩ rfl
  dsimp only at q_x
  have q_y := st5.sl 0 ⟨true, w4.heap.size, w5.heap.size, .slice aw5 n2 kw5, n2, f2⟩ rfl
  dsimp only at q_y
  go_wp2_with fail
  refine (eqInt64S_yes _ q_x q_y (fun _ _ => rfl)).mono ?_
  rintro e w6 ⟨rfl, bw6⟩
  have st6 := st5.keep bw6
  have hz_w6 := bw6.size
  try simp only [World.size_alloc] at hz_w6
  clear st5 bw6 
  clear q_x q_y
  go_wp2_with fail
  go_ret
  exact ⟨rfl, st6.1⟩

theorem walk_big2 (w : World) (a0 : Int) (a1 : Int) {lo2 hi2 n2 : Nat} {v2 : Value} {f2 : Nat → Int} (hs2 : Sl false w lo2 hi2 v2 n2 f2)  (hn2 : 1048576 < n2) :
    Calls Try.prog 11 #[.int .i64 a0, .int .i64 a1, v2] w fun e w' => e = .returned (.bool true) ∧ Below w.heap.size w w' := by
  obtain ⟨p2, c2, rfl⟩ := hs2.shape
  have hm2 := hs2.len
  have hm2' := hm2
  unfold maxLen at hm2'
  clear hs2
  go_enter Try.func11, Try.ntmps11
  go_wp2
  go_ret
  exact ⟨rfl, by go_grown⟩

theorem walk (w : World) (a0 : Int) (_ha0 : inR a0) (a1 : Int) (_ha1 : inR a1) {lo2 hi2 n2 : Nat} {v2 : Value} {f2 : Nat → Int} (hs2 : Sl false w lo2 hi2 v2 n2 f2) :
    Calls Try.prog 11 #[.int .i64 a0, .int .i64 a1, v2] w fun e w' => e = .returned (.bool true) ∧ Below w.heap.size w w' := by
  by_cases hL : n2 ≤ 1048576
  · by_cases h : SumP a0 a1 n2 f2
    · obtain ⟨P, rfl, rfl, h1, h2, h3, h4, h5⟩ := h.nat
      exact walk_of w P n2 n2 f2 hs2 (trN f2 n2) 0 hL (fun w _ _ _ _ hs => TraceOfPeriods_spec_ok P h1 h2 h3 h4 w hs h5) (fun w _ _ _ _ hs => TraceOfPeriods_impl_ok P h1 h2 h3 h4 w hs h5)
    · exact walk_of w a0 a1 n2 f2 hs2 0 2 hL (fun w _ _ _ _ hs => TraceOfPeriods_spec_bad a0 a1 w hs h) (fun w _ _ _ _ hs => TraceOfPeriods_impl_bad a0 a1 w hs h)
  · exact walk_big2 w a0 a1 hs2 (by omega)

theorem own : ownKnob Try.prog.godebug = none := by kernel_rfl
theorem laidOut : laidOutB Try.prog = true := by kernel_rfl
set_option maxRecDepth 100000 in
theorem lifted (os : Os) (started : os.Started) (H : Type) (enc : TypeId × Value → H) :
    ReturnsInHanded {} Try.checked os 11 .any (Rows.fnExactTraceOfPeriodsSpec.pre6 enc Try.prog Try.f11 Rows.fnExactTraceOfPeriodsRow.domain false) (Rows.fnExactTraceOfPeriodsSpec.post enc Try.prog Try.f11 false true false false) := by
  refine returnsInHanded_of_change (C := Try.checked) own started (by kernel_rfl) Try.func11
    (ChangeSpec.witness6 (enc := enc) (C := Try.checked) false ⟨#[], #[.int .i64 0, .int .i64 0, .slice none 0 0], []⟩ 8 (by kernel_rfl) (by kernel_rfl) (by kernel_rfl) (by kernel_rfl)) ?_
  intro W base args ds gs before hval0 hW hcnd _
  have hval : ∀ (j : Nat) t v, Try.f11.params[j]? = some t → args[j]? = some v → Value.okWide Try.prog W .any base t v := hval0
  have hW' := hW
  obtain ⟨p, q, hA0, hV, rfl, hfz, hnd⟩ := hW
  have hA : DataW.TrodAll enc Try.prog W 0 (fun _ => true) true Try.f11.params.toList args.toList ds p := hA0
  rw [Try.params11] at hA hval
  obtain ⟨v0, vs0, d0, ds0, p0, q0, hargs, rfl, rfl, h0, r0⟩ := trodAll_cons hA
  obtain ⟨v1, vs1, d1, ds1, p1, q1, rfl, rfl, rfl, h1, r1⟩ := trodAll_cons r0
  obtain ⟨v2, vs2, d2, ds2, p2, q2, rfl, rfl, rfl, h2, r2⟩ := trodAll_cons r1
  obtain ⟨rfl, rfl, rfl⟩ := trodAll_nil r2
  obtain rfl : args = #[v0, v1, v2] := by cases args; simp_all
  obtain ⟨rfl, rfl⟩ := trodVars_none hV
  have k0 := h0
  have lt0 : ∀ x ∈ p0, x.block < W.heap.size := by obtain ⟨m, hm⟩ := k0; exact DataW.trod_lt m _ _ _ hm
  obtain ⟨a0, rfl, hd0, hp0, w0⟩ := open_int Try.underlying2 (hval 0 2 v0 rfl rfl) h0
  have k1 := h1
  have lt1 : ∀ x ∈ p1, x.block < W.heap.size := by obtain ⟨m, hm⟩ := k1; exact DataW.trod_lt m _ _ _ hm
  obtain ⟨a1, rfl, hd1, hp1, w1⟩ := open_int Try.underlying2 (hval 1 2 v1 rfl rfl) h1
  have k2 := h2
  have lt2 : ∀ x ∈ p2, x.block < W.heap.size := by obtain ⟨m, hm⟩ := k2; exact DataW.trod_lt m _ _ _ hm
  obtain ⟨n2, f2, s2⟩ : ∃ n f, Sl false W 0 W.heap.size v2 n f := by
    obtain ⟨a, len, cap, rfl⟩ := okWide_slice Try.underlying33 (hval 2 33 v2 rfl rfl)
    obtain ⟨fuel, hf⟩ := h2
    exact Sl.came Try.underlying33 Try.underlying2 (by kernel_rfl) (by simpa [Value.cells] using hf)
  clear hA0 hval0
  refine (walk W a0 (inR_wf w0) a1 (inR_wf w1) s2).mono fun e W' ⟨he, bel⟩ => ?_
  subst he
  exact ⟨_, rfl, _, _, _, [], _, [], hW', trodAll_mk1 (shut_bool Try.underlying4 _), (trodAll_cons_mk (Below.trod laidOut (by kernel_rfl) (of_decide_eq_true (by kernel_rfl)) k0 bel lt0) (trodAll_cons_mk (Below.trod laidOut (by kernel_rfl) (of_decide_eq_true (by kernel_rfl)) k1 bel lt1) (trodAll_cons_mk (Below.trod laidOut (by kernel_rfl) (of_decide_eq_true (by kernel_rfl)) k2 bel lt2) trodAll_mk0))), rfl, bel.frame _, fun h => by cases h⟩

theorem over : Rows.fnExactTraceOfPeriodsRow.holds Try.pinned (OpenSpec.ofChange Rows.fnExactTraceOfPeriodsSpec) :=
  OpenClaim.holds_of_wide 11 Try.f11 rfl rfl rfl rfl rfl rfl rfl ⟨rfl, rfl, rfl, rfl, rfl⟩ rfl rfl rfl rfl rfl (by kernel_rfl) Try.func11 (by unfold joinedFacts; exact (and_tt (and_tt (and_tt (and_tt (and_tt (and_tt (and_tt (and_tt (and_tt (and_tt (and_tt (and_tt (and_tt (and_tt (and_tt (and_tt (and_tt (and_tt (and_tt (and_tt (and_tt (and_tt (and_tt (and_tt (and_tt (and_tt (and_tt (and_tt (and_tt (and_tt (and_tt (by kernel_rfl) (by kernel_rfl)) (by kernel_rfl)) (by kernel_rfl)) (by kernel_rfl)) (by kernel_rfl)) (by kernel_rfl)) (by kernel_rfl)) (by kernel_rfl)) (by kernel_rfl)) (by kernel_rfl)) (by kernel_rfl)) (by kernel_rfl)) (by kernel_rfl)) (by kernel_rfl)) (by kernel_rfl)) (by kernel_rfl)) (by kernel_rfl)) (by kernel_rfl)) (by kernel_rfl)) (by kernel_rfl)) (by kernel_rfl)) (by kernel_rfl)) (by kernel_rfl)) (by kernel_rfl)) init_enter) (tt_lifts init_lifts rfl)) (tt_make init_make rfl)) (by kernel_rfl)) (by kernel_rfl)) (by kernel_rfl)) (by kernel_rfl)))
    (of_decide_eq_true (by kernel_rfl)) (by unfold Func.isWrapper; first | (rw [if_pos (by decide +kernel)]; kernel_rfl) | (rw [if_neg (by decide +kernel)]; exact ⟨rfl, rfl⟩))
    (fun os started H enc _ => lifted os started H enc)

theorem proved : Rows.FnExactTraceOfPeriodsSaid := over
#print axioms proved
end fnExactTraceOfPeriods
end Go.Proofs.Ytaipaggaodnfkaa
