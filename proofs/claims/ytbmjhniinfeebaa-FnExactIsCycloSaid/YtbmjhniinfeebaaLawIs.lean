/- IsCyclo answers as its model, for every argument. -/
import Derived.Test.YtbmjhniinfeebaaCopy
import Derived.Test.YtbmjhniinfeebaaIs
import Derived.Test.YtbmjhniinfeebaaState
import Derived.Deep.RegionHeld3
import Derived.Deep.DeepCutAuto
import Derived.ShutString
import Derived.ChangeOld
import Derived.Lib.SmallJoins
namespace Go.Proofs.Ytbmjhniinfeebaa
open Go.RowKit Go.ChangeShapes Go.Sort Go.WideShapes Go.ChangeAt
set_option linter.unusedVariables false

theorem IsCyclo_spec (b : Bool) {o : Bool} {lo hi : Nat} {v : Value} {n : Nat} {f : Nat → Int} (x : Int) (w : World) (hs : Sl o w lo hi v n f) (h : (CyP x n f ∧ b = true) ∨ (¬ CyP x n f ∧ b = false)) :
    Calls Try.prog 44 #[.agg #[.int .i64 x, v]] w fun e w' => e = .returned (.bool b) ∧ Below w.heap.size w w' := by
  have hs' := hs.alloc (.cells #[.int .i64 x, v] 26)
  rcases h with ⟨h, rfl⟩ | ⟨h, rfl⟩
  · have HS := Lib.hid hs'
    have H := Lib.hid h
    obtain ⟨a, cap, rfl⟩ := hs.shape
    clear h hs hs'
    go_enter Try.func44, Try.ntmps44
    go_wp2_with (go_at_call 66; refine (l01Is_yes _ _ HS.out H.out).mono ?_; rintro e w1 ⟨rfl, b1⟩)
    go_ret
    exact ⟨rfl, ((Below.refl w.heap.size w).alloc (Nat.le_refl _) _).trans (b1.mono (by simp))⟩
  · have HS := Lib.hid hs'
    have H := Lib.hid h
    obtain ⟨a, cap, rfl⟩ := hs.shape
    clear h hs hs'
    go_enter Try.func44, Try.ntmps44
    go_wp2_with (go_at_call 66; refine (l01Is_no _ _ HS.out H.out).mono ?_; rintro e w1 ⟨rfl, b1⟩)
    go_ret
    exact ⟨rfl, ((Below.refl w.heap.size w).alloc (Nat.le_refl _) _).trans (b1.mono (by simp))⟩

theorem IsCyclo_impl (b : Bool) {o : Bool} {lo hi : Nat} {v : Value} {n : Nat} {f : Nat → Int} (x : Int) (w : World) (hs : Sl o w lo hi v n f) (h : (CyP x n f ∧ b = true) ∨ (¬ CyP x n f ∧ b = false)) :
    Calls Try.prog 46 #[.agg #[.int .i64 x, v]] w fun e w' => e = .returned (.bool b) ∧ Below w.heap.size w w' := by
  rcases h with ⟨h, rfl⟩ | ⟨h, rfl⟩
  · exact IsCyclo_yes x w hs h
  · exact IsCyclo_no x w hs h

namespace fnExactIsCyclo
set_option maxHeartbeats 1000000 in
theorem walk_small {lo hi : Nat} {v : Value} {n : Nat} {f : Nat → Int} (x : Int) (w : World) (hs : Sl false w lo hi v n f) (hn : n ≤ 1048576) :
    Calls Try.prog 6 #[.agg #[.int .i64 x, v]] w fun e w' => e = .returned (.bool true) ∧ Below w.heap.size w w' := by
  obtain ⟨b, hb⟩ : ∃ b : Bool, (CyP x n f ∧ b = true) ∨ (¬ CyP x n f ∧ b = false) := by
    by_cases h : CyP x n f
    · exact ⟨true, .inl ⟨h, rfl⟩⟩
    · exact ⟨false, .inr ⟨h, rfl⟩⟩
  have HB := Lib.hid hb; clear hb
  obtain ⟨a, cap, rfl⟩ := hs.shape
  have st0 := ((St.start w).addSl ⟨false, lo, hi, .slice a n cap, n, f⟩ hs).alloc (.cells #[.int .i64 x, .slice a n cap] 45)
  replace st0 := st0.addBox w.heap.size [.int .i64 x, .slice a n cap] (Box.made _ _ _ _ (fun j v h => by simpa using h))
  clear hs
  go_enter Try.func6, Try.ntmps6
  go_wp2_with fail
  refine (szCyclo_yes _ _ _ _ _ (by omega) (by omega)).mono ?_
  rintro e w1 ⟨rfl, b1⟩
  have st1 := st0.keep b1
  clear b1 st0
  obtain ⟨c0, c1⟩ := (st1.box 0 _ rfl).cell2
  go_wp2_with fail
  refine (toCyclo_any _ _ (st1.sl 0 _ rfl) hn).mono ?_
  rintro e w2 ⟨a2, k2, rfl, s2, b2⟩
  have st2 := (st1.keep b2).addSl ⟨true, _, _, _, _, _⟩ s2
  have hz2 := b2.size
  clear b2 st1 s2 c0 c1
  obtain ⟨c0, c1⟩ := (st2.box 0 _ rfl).cell2
  go_wp2_with fail
  refine (IsCyclo_spec b _ _ (st2.sl 0 _ rfl) HB.out).mono ?_
  rintro e w3 ⟨rfl, b3⟩
  have st3 := st2.keep b3
  have hz3 := b3.size
  clear b3 st2 c0 c1
  obtain ⟨c0, c1⟩ := (st3.box 0 _ rfl).cell2
  go_wp2_with fail
  refine (toCyclo_any _ _ (st3.sl 1 _ rfl) hn).mono ?_
  rintro e w4 ⟨a4, k4, rfl, s4, b4⟩
  have hz4 := b4.size
  have st4 := (((st3.keep b4).addSl ⟨true, _, _, _, _, _⟩ s4).alloc (.cells #[.int .i64 x, .slice a4 n k4] 26)).addBox w4.heap.size [.int .i64 x, .slice a4 n k4] (Box.made _ _ _ _ (fun j v h => by simpa using h))
  clear b4 st3 s4 c0 c1
  go_wp2_with fail
  refine (IsCyclo_impl b _ _ (st4.sl 0 _ rfl) HB.out).mono ?_
  rintro e w5 ⟨rfl, b5⟩
  have hz5 := b5.size
  have st5 := st4.keep b5
  clear b5 st4
  obtain ⟨c0, c1⟩ := (st5.box 0 _ rfl).cell2
  obtain ⟨d0, d1⟩ := (st5.box 1 _ rfl).cell2
  go_wp2_with fail
  go_cut [26] (fun s26 wx => s26 = .bool false ∧ St w wx [] [])
  case first =>
    go_region_held3 (fun w' => w'.cell? ⟨w4.heap.size, 0, none⟩ = some (.int .i64 x) ∧ w'.cell? ⟨w4.heap.size, 1, none⟩ = some (.slice a4 n k4) ∧ w'.cell? ⟨w.heap.size, 0, none⟩ = some (.int .i64 x) ∧ w'.cell? ⟨w.heap.size, 1, none⟩ = some (.slice a n cap))
      (first | exact ⟨c0, c1, d0, d1⟩ | exact ⟨cell_later b6 c0, cell_later b6 c1, cell_later b6 d0, cell_later b6 d1⟩ | exact ⟨cell_later b7 (cell_later b6 c0), cell_later b7 (cell_later b6 c1), cell_later b7 (cell_later b6 d0), cell_later b7 (cell_later b6 d1)⟩)
      (first
        | (go_at_call 45; refine (toCyclo_any _ _ (st5.drew.sl 2 _ rfl) hn).mono ?_; rintro e w6 ⟨a6, k6, rfl, s6, b6⟩)
        | (go_at_call 47; refine (eqCyclo_yes _ _ ((st5.drew.keep b6).sl 0 _ rfl) s6 (fun _ _ => rfl)).mono ?_; rintro e w7 ⟨rfl, b7⟩))
    all_goals (go_wp2_with fail; go_meet; exact ⟨rfl, ((st5.drew.keep b6).keep b7).1, (fun _ h => absurd h List.not_mem_nil), (fun _ h => absurd h List.not_mem_nil)⟩)
  case rest =>
    obtain ⟨rfl, st6⟩ := hcut
    go_wp2
    go_ret
    exact ⟨rfl, st6.1⟩

theorem walk_big {lo hi : Nat} {v : Value} {n : Nat} {f : Nat → Int} (x : Int) (w : World) (hs : Sl false w lo hi v n f) (hn : 1048576 < n) :
    Calls Try.prog 6 #[.agg #[.int .i64 x, v]] w fun e w' => e = .returned (.bool true) ∧ Below w.heap.size w w' := by
  obtain ⟨a, cap, rfl⟩ := hs.shape
  have hm := hs.len
  have hm' := hm
  unfold maxLen at hm'
  clear hs
  go_enter Try.func6, Try.ntmps6
  go_wp2_with (go_at_call 43; refine (szCyclo_no _ _ _ _ _ hm (by omega) (by omega) (by omega)).mono ?_; rintro e w1 ⟨rfl, b1⟩)
  go_ret
  exact ⟨rfl, ((Below.refl w.heap.size w).alloc (Nat.le_refl _) _).trans (b1.mono (by simp))⟩

theorem walk (w : World) (x : Int) (_hx : inR x) {lo hi : Nat} {v : Value} {n : Nat} {f : Nat → Int} (hs : Sl false w lo hi v n f) :
    Calls Try.prog 6 #[.agg #[.int .i64 x, v]] w fun e w' => e = .returned (.bool true) ∧ Below w.heap.size w w' := by
  by_cases hn : n ≤ 1048576
  · exact walk_small x w hs hn
  · exact walk_big x w hs (by omega)

theorem own : ownKnob Try.prog.godebug = none := by kernel_rfl
theorem laidOut : laidOutB Try.prog = true := by kernel_rfl
set_option maxRecDepth 100000 in
theorem lifted (os : Os) (started : os.Started) (H : Type) (enc : TypeId × Value → H) :
    ReturnsInHanded {} Try.checked os 6 .any (Rows.fnExactIsCycloSpec.pre6 enc Try.prog Try.f6 Rows.fnExactIsCycloRow.domain false) (Rows.fnExactIsCycloSpec.post enc Try.prog Try.f6 false true false false) := by
  refine returnsInHanded_of_change (C := Try.checked) own started (by kernel_rfl) Try.func6
    (ChangeSpec.witness6 (enc := enc) (C := Try.checked) false ⟨#[], #[.agg #[.int .i64 0, .slice none 0 0]], []⟩ 8 (by kernel_rfl) (by kernel_rfl) (by kernel_rfl) (by kernel_rfl)) ?_
  intro W base args ds gs before hval0 hW hcnd _
  have hval : ∀ (j : Nat) t v, Try.f6.params[j]? = some t → args[j]? = some v → Value.okWide Try.prog W .any base t v := hval0
  have hW' := hW
  obtain ⟨p, q, hA0, hV, rfl, hfz, hnd⟩ := hW
  have hA : DataW.TrodAll enc Try.prog W 0 (fun _ => true) true Try.f6.params.toList args.toList ds p := hA0
  rw [Try.params6] at hA hval
  obtain ⟨v0, vs0, d0, ds0, p0, q0, hargs, rfl, rfl, h0, r0⟩ := trodAll_cons hA
  obtain ⟨rfl, rfl, rfl⟩ := trodAll_nil r0
  obtain rfl : args = #[v0] := by cases args; simp_all
  obtain ⟨rfl, rfl⟩ := trodVars_none hV
  have k0 := h0
  have lt0 : ∀ x ∈ p0, x.block < W.heap.size := by obtain ⟨m, hm⟩ := k0; exact DataW.trod_lt m _ _ _ hm
  obtain ⟨x0, c0, n0, f0, rfl, w0, s0⟩ : ∃ x c n f, v0 = .agg #[.int .i64 x, c] ∧ inR x ∧ Sl false W 0 W.heap.size c n f := by
    obtain ⟨c0, c1, y0, y1, m, rfl, _, _, hy0, hy1⟩ := Joins.open_agg2 Try.underlying45 (by kernel_rfl) (by kernel_rfl) (hval 0 45 v0 rfl rfl) h0
    obtain ⟨x, e0, _, wx⟩ := DataW.trod_int Try.underlying2 hy0
    obtain ⟨n, f, hs⟩ := Sl.came Try.underlying24 Try.underlying2 (by kernel_rfl) hy1
    simp at e0
    exact ⟨x, c1, n, f, by rw [e0], inR_wf wx, hs⟩
  clear hA0 hval0
  refine (walk W x0 (by assumption) s0).mono fun e W' ⟨he, bel⟩ => ?_
  subst he
  exact ⟨_, rfl, _, _, _, [], _, [], hW', trodAll_mk1 (shut_bool Try.underlying4 _), (trodAll_cons_mk (Below.trod laidOut (by kernel_rfl) (of_decide_eq_true (by kernel_rfl)) k0 bel lt0) trodAll_mk0), rfl, bel.frame _, fun h => by cases h⟩

theorem over : Rows.fnExactIsCycloRow.holds Try.pinned (OpenSpec.ofChange Rows.fnExactIsCycloSpec) :=
  OpenClaim.holds_of_wide 6 Try.f6 rfl rfl rfl rfl rfl rfl rfl ⟨rfl, rfl, rfl, rfl, rfl⟩ rfl rfl rfl rfl rfl (by kernel_rfl) Try.func6 (by kernel_rfl)
    (of_decide_eq_true (by kernel_rfl)) (by unfold Func.isWrapper; first | (rw [if_pos (by decide +kernel)]; kernel_rfl) | (rw [if_neg (by decide +kernel)]; exact ⟨rfl, rfl⟩))
    (fun os started H enc _ => lifted os started H enc)

theorem proved : Rows.FnExactIsCycloSaid := over
#print axioms proved
end fnExactIsCyclo
end Go.Proofs.Ytbmjhniinfeebaa
