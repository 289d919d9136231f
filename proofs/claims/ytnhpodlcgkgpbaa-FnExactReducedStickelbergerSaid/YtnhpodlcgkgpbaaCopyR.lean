/- The laws' functions on rings: sizes, copies, equality, marks. -/
import Derived.Test.YtnhpodlcgkgpbaaCopy
namespace Go.Proofs.Ytnhpodlcgkgpbaa
open Go.RowKit Go.ChangeShapes Go.Sort
set_option linter.unusedVariables false
section
variable {o : Bool} {lo hi n : Nat} {v : Value} {f : Nat → Int}
theorem szRing_yes (x : Int) (a : Option Addr) (cap : Nat) (left : Int) (w : World) (hl : left ≤ 1048576) (hn : (n : Int) ≤ left) :
    Calls Try.prog 84 #[.agg #[.int .i64 x, .slice a n cap], .int .i64 left] w fun e w' => e = .returned (.int .i64 (left - n)) ∧ Below w.heap.size w w' := by
  go_enter Try.func84, Try.ntmps84
  go_wp2_with (go_at_call 147; refine (szInt64S_yes _ _ _ _ hl hn).mono ?_; rintro e w' ⟨rfl, rfl⟩)
  go_ret
  exact ⟨rfl, by go_grown⟩
theorem szRing_no (x : Int) (a : Option Addr) (cap : Nat) (left : Int) (w : World) (hm : n ≤ maxLen) (h0 : 0 ≤ left) (hl : left ≤ 1048576) (hn : left < (n : Int)) :
    Calls Try.prog 84 #[.agg #[.int .i64 x, .slice a n cap], .int .i64 left] w fun e w' => e = .returned (.int .i64 (-1)) ∧ Below w.heap.size w w' := by
  go_enter Try.func84, Try.ntmps84
  go_wp2_with (go_at_call 147; refine (szInt64S_no _ _ _ _ hm h0 hl hn).mono ?_; rintro e w' ⟨rfl, rfl⟩)
  go_ret
  exact ⟨rfl, by go_grown⟩

set_option maxHeartbeats 400000 in
theorem toRing_any (x : Int) (w : World) (hs : Sl o w lo hi v n f) (hn : n ≤ 1048576) :
    Calls Try.prog 85 #[.agg #[.int .i64 x, v]] w fun e w' => ∃ a' cap', e = .returned (.agg #[.int .i64 x, .slice a' n cap']) ∧ Sl true w' w.heap.size w'.heap.size (.slice a' n cap') n f ∧ Below w.heap.size w w' := by
  obtain ⟨a, cap, rfl⟩ := hs.shape
  have HS := Lib.hid hs; clear hs
  go_enter Try.func85, Try.ntmps85
  go_wp2_with fail
  refine (toInt64S_any _ (HS.out.keep ((((Below.refl w.heap.size w).alloc (by simp) _).alloc (by simp) _).alloc (by simp; omega) _) HS.out.size) hn).mono ?_
  rintro e w1 ⟨a', cap', rfl, hv, hb⟩
  obtain ⟨hc1, hf1⟩ := bcell hb
  have hz := hb.size
  simp only [World.size_alloc] at hc1 hf1 hz hv
  have hz1 : w.heap.size + 1 < w1.heap.size := by omega
  have hz2 : w.heap.size + 1 + 1 < w1.heap.size := by omega
  have HV := Lib.hid hv; clear hv
  have HB : Below w.heap.size w w1 := ((((Below.refl w.heap.size w).alloc (Nat.le_refl _) _).alloc (by simp) _).alloc (by simp; omega) _).trans (hb.mono (by simp; omega))
  go_wp2
  refine bodyPost_ret (v := .agg #[.int .i64 x, .slice a' n cap']) (by simp [results, Try.results85, go_sem, hc1]) rfl ?_
  refine ⟨_, _, rfl, ?_, by go_grown⟩
  exact (((HV.out.setOther (.inl (by simp)) _).setOther (.inl (by simp)) _).setOther (.inl (by simp)) _).wide (by omega) (by simp) (Nat.le_refl _)

theorem eqRing_yes {o' : Bool} {lo' hi' : Nat} {v' : Value} {f' : Nat → Int} (x : Int) (w : World) (hs : Sl o w lo hi v n f) (hs' : Sl o' w lo' hi' v' n f') (he : ∀ j, j < n → f j = f' j) :
    Calls Try.prog 81 #[.agg #[.int .i64 x, v], .agg #[.int .i64 x, v']] w fun e w' => e = .returned (.bool true) ∧ Below w.heap.size w w' := by
  obtain ⟨a, cap, rfl⟩ := hs.shape
  obtain ⟨a', cap', rfl⟩ := hs'.shape
  have HS := Lib.hid hs; clear hs
  have HS' := Lib.hid hs'; clear hs'
  have HE := Lib.hid he; clear he
  go_enter Try.func81, Try.ntmps81
  go_wp2_with (go_at_call 157; refine (eqInt64S_yes _ ((HS.out.alloc _).alloc _) ((HS'.out.alloc _).alloc _) HE.out).mono ?_; rintro e w1 ⟨rfl, hb⟩)
  go_ret
  exact ⟨rfl, (((Below.refl w.heap.size w).alloc (Nat.le_refl _) _).alloc (by simp) _).trans (hb.mono (by simp; omega))⟩

theorem markRing_any (x k : Int) (w : World) (hs : Sl true w lo hi v n f) (hk : 0 ≤ k) (hk' : k ≤ 4611686018427387904) (hn : n ≤ 1048576) :
    Calls Try.prog 82 #[.agg #[.int .i64 x, v], .int .i64 k] w fun e w' => e = .returned (.int .i64 (k + n)) ∧ Sl true w' lo hi v n (fun j => k + j) ∧ Frame lo hi w w' := by
  obtain ⟨a, cap, rfl⟩ := hs.shape
  have HS := Lib.hid hs; clear hs
  go_enter Try.func82, Try.ntmps82
  go_wp2_with (go_at_call 158; refine (markInt64S_any _ _ (HS.out.alloc _) hk hk' hn).mono ?_; rintro e w1 ⟨rfl, s1, f1⟩)
  go_ret
  exact ⟨rfl, s1, ((Frame.refl lo hi w).alloc _).trans f1⟩

theorem heldRing_any (x k : Int) (w : World) (hs : Sl o w lo hi v n (fun j => k + j)) (hk : 0 ≤ k) (hk' : k ≤ 4611686018427387904) (hn : n ≤ 1048576) :
    Calls Try.prog 83 #[.agg #[.int .i64 x, v], .int .i64 k] w fun e w' => e = .returned (.int .i64 (k + n)) ∧ Below w.heap.size w w' := by
  obtain ⟨a, cap, rfl⟩ := hs.shape
  have HS := Lib.hid hs; clear hs
  go_enter Try.func83, Try.ntmps83
  go_wp2_with (go_at_call 159; refine (heldInt64S_any _ _ (HS.out.alloc _) hk hk' hn).mono ?_; rintro e w1 ⟨rfl, b1⟩)
  go_ret
  exact ⟨rfl, ((Below.refl w.heap.size w).alloc (Nat.le_refl _) _).trans (b1.mono (by simp))⟩
end
end Go.Proofs.Ytnhpodlcgkgpbaa
