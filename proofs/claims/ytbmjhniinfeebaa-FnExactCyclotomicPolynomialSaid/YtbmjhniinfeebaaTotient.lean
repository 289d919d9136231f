/- TotientOf answers as its model, for every number. No condition. -/
import Derived.Test.YtbmjhniinfeebaaGcd
import Derived.OpenShut
import Derived.ShutString
namespace Go.Proofs.Ytbmjhniinfeebaa
open Go.ChangeShapes Go.WideShapes Go.ChangeAt Go.RowKit
set_option linter.unusedVariables false

/-- What TotientOf answers. -/
def totR (n : Int) : Int × Int := if 1 ≤ n ∧ n ≤ 1000 then (((phiI n : Nat) : Int), 0) else (0, 2)
theorem totR_in (n : Int) (h : 1 ≤ n) (h' : n ≤ 1000) : totR n = (((phiI n : Nat) : Int), 0) := if_pos ⟨h, h'⟩
theorem totR_out (n : Int) (h : ¬ (1 ≤ n ∧ n ≤ 1000)) : totR n = (0, 2) := if_neg h
theorem ret_pair {a b : Int} {c d : Int} (h : a = c) (h' : b = d) : Ending.returned (.tuple #[.int .i64 a, .int .i64 b]) = .returned (.tuple #[.int .i64 c, .int .i64 d]) := by rw [h, h']

theorem TotientOf_any (n : Int) (w : World) :
    Calls Try.prog 37 #[.int .i64 n] w fun e w' => e = .returned (.tuple #[.int .i64 (totR n).1, .int .i64 (totR n).2]) ∧ ∃ m, w' = w.drewN m := by
  by_cases h : 1 ≤ n ∧ n ≤ 1000
  · obtain ⟨h0, h1⟩ := h
    have H := Lib.hid (totR_in n h0 h1)
    go_enter Try.func37, Try.ntmps37
    go_wp2_with (go_at_call 90; refine (totient_any _ _ (by omega)).mono ?_; rintro e w' ⟨rfl, m', rfl⟩)
    go_ret2
    exact ⟨by rw [H.out]; rfl, _, rfl⟩
  · have H := Lib.hid (totR_out n h)
    by_cases h1 : n < 1
    · clear h
      go_enter Try.func37, Try.ntmps37
      go_wp2
      go_ret2
      exact ⟨by rw [H.out]; rfl, 0, rfl⟩
    · have h2 : 1000 < n := by omega
      clear h
      go_enter Try.func37, Try.ntmps37
      go_wp2
      go_ret2
      exact ⟨by rw [H.out]; rfl, 0, rfl⟩

theorem TotientOf_spec (n : Int) (w : World) :
    Calls Try.prog 36 #[.int .i64 n] w fun e w' => e = .returned (.tuple #[.int .i64 (totR n).1, .int .i64 (totR n).2]) ∧ w = w' := by
  by_cases h : 1 ≤ n ∧ n ≤ 1000
  · obtain ⟨h0, h1⟩ := h
    have H := Lib.hid (totR_in n h0 h1)
    go_enter Try.func36, Try.ntmps36
    go_wp2_with (first | ((go_at_call 67; first | refine (l01In_yes _ _ _ _ (by omega) (by omega)).mono ?_ | refine (l01In_no _ _ _ _ (by omega)).mono ?_); rintro e w' ⟨rfl, rfl⟩) | (go_at_call 89; refine (l01Phi_any _ _ (by omega)).mono ?_; rintro e w' ⟨rfl, rfl⟩))
    go_ret2
    exact ⟨by rw [H.out]; rfl, rfl⟩
  · have H := Lib.hid (totR_out n h)
    by_cases h1 : n < 1
    · clear h
      go_enter Try.func36, Try.ntmps36
      go_wp2_with ((go_at_call 67; first | refine (l01In_yes _ _ _ _ (by omega) (by omega)).mono ?_ | refine (l01In_no _ _ _ _ (by omega)).mono ?_); rintro e w' ⟨rfl, rfl⟩)
      go_ret2
      exact ⟨by rw [H.out]; rfl, rfl⟩
    · have h2 : 1000 < n := by omega
      clear h
      go_enter Try.func36, Try.ntmps36
      go_wp2_with ((go_at_call 67; first | refine (l01In_yes _ _ _ _ (by omega) (by omega)).mono ?_ | refine (l01In_no _ _ _ _ (by omega)).mono ?_); rintro e w' ⟨rfl, rfl⟩)
      go_ret2
      exact ⟨by rw [H.out]; rfl, rfl⟩

theorem _root_.Go.RowKit.Grown.drewN {W w' : World} (h : Grown W w') (n : Nat) : Grown W (w'.drewN n) := h

namespace fnExactTotientOf
theorem own : ownKnob Try.prog.godebug = none := by kernel_rfl

theorem walk (a0 : Int) (w0 : (Lit.int .i64 a0).wf = true) (w : World) :
    Calls Try.prog 4 #[.int .i64 a0] w fun e w' => e = .returned (.bool true) ∧ Grown w w' := by
  go_enter Try.func4, Try.ntmps4
  go_wp2_with (first | (go_at_call 36; refine (TotientOf_spec _ _).mono ?_; rintro e w' ⟨rfl, rfl⟩) | (go_at_call 37; refine (TotientOf_any _ _).mono ?_; rintro e w' ⟨rfl, m', rfl⟩))
  go_ret
  exact ⟨rfl, by repeat (first | exact Grown.refl _ | apply Grown.drewN | apply Grown.drew | apply Grown.alloc)⟩

set_option maxRecDepth 100000 in
theorem lifted (os : Os) (started : os.Started) (H : Type) (enc : TypeId × Value → H) :
    ReturnsInHanded {} Try.checked os 4 .any (Rows.fnExactTotientOfSpec.pre6 enc Try.prog Try.f4 Rows.fnExactTotientOfRow.domain false) (Rows.fnExactTotientOfSpec.post enc Try.prog Try.f4 false true false false) := by
  refine returnsInHanded_of_change (C := Try.checked) own started (by kernel_rfl) Try.func4
    (ChangeSpec.witness6 (enc := enc) (C := Try.checked) false ⟨#[], #[.int .i64 0], []⟩ 8 (by kernel_rfl) (by kernel_rfl) (by kernel_rfl) (by kernel_rfl)) ?_
  intro W base args ds gs before hval0 hW hcnd _
  have hval : ∀ (j : Nat) t v, Try.f4.params[j]? = some t → args[j]? = some v → Value.okWide Try.prog W .any base t v := hval0
  have hW' := hW
  obtain ⟨p, q, hA0, hV, rfl, hfz, hnd⟩ := hW
  have hA : DataW.TrodAll enc Try.prog W 0 (fun _ => true) true Try.f4.params.toList args.toList ds p := hA0
  rw [Try.params4] at hA hval
  obtain ⟨v0, vs0, d0, ds0, p0, q0, hargs, rfl, rfl, h0, r0⟩ := trodAll_cons hA
  obtain ⟨rfl, rfl, rfl⟩ := trodAll_nil r0
  obtain rfl : args = #[v0] := by cases args; simp_all
  obtain ⟨rfl, rfl⟩ := trodVars_none hV
  obtain ⟨a0, rfl, rfl, rfl, w0⟩ := open_int Try.underlying2 (hval 0 2 v0 rfl rfl) h0
  clear hA0 hval0
  simp only [List.append_nil] at hW'
  refine (walk a0 w0 W).mono fun e W' ⟨he, hg⟩ => ?_
  subst he
  exact ⟨_, rfl, post_of_same (pa := []) (pv := []) hW' (fun _ _ _ => (trodAll_cons_mk (shut_bool Try.underlying4 _) trodAll_mk0)) (fun sp _ => (trodAll_cons_mk (shut_int Try.underlying2 w0) trodAll_mk0)) (fun _ _ => rfl) rfl
    (hg.frame _) hg.2.1 (ok_one (by kernel_rfl) rfl (okWide_bool_mk Try.underlying4 _))⟩

theorem over : Rows.fnExactTotientOfRow.holds Try.pinned (OpenSpec.ofChange Rows.fnExactTotientOfSpec) :=
  OpenClaim.holds_of_wide 4 Try.f4 rfl rfl rfl rfl rfl rfl rfl ⟨rfl, rfl, rfl, rfl, rfl⟩ rfl rfl rfl rfl rfl (by kernel_rfl) Try.func4 (by kernel_rfl)
    (of_decide_eq_true (by kernel_rfl)) (by unfold Func.isWrapper; first | (rw [if_pos (by decide +kernel)]; kernel_rfl) | (rw [if_neg (by decide +kernel)]; exact ⟨rfl, rfl⟩))
    (fun os started H enc _ => lifted os started H enc)

theorem proved : Rows.FnExactTotientOfSaid := over
#print axioms proved
end fnExactTotientOf
end Go.Proofs.Ytbmjhniinfeebaa
