/- slices.Index and slices.Contains over rows of whole numbers. -/
import Derived.Test.YtnhpodlcgkgpbaaRgA
namespace Go.Proofs.Ytnhpodlcgkgpbaa
open Go.RowKit Go.ChangeShapes Go.Sort
set_option linter.unusedVariables false
set_option linter.unusedSimpArgs false
set_option maxRecDepth 100000

section
variable {o : Bool} {lo hi : Nat} {v : Value} {n : Nat} {f : Nat → Int}
set_option maxHeartbeats 1000000 in
theorem IndexX_first (x : Int) (w : World) (i : Nat) (hn : n ≤ 1000) (hs : Sl o w lo hi v n f) (hi' : i < n) (hx : f i = x) (hl : ∀ j, j < i → f j ≠ x) :
    Calls Try.prog 174 #[v, .int .i64 x] w fun r w' => r = .returned (.int .i64 (i : Int)) ∧ w = w' := by
  obtain ⟨a, cap, rfl⟩ := hs.shape
  have HS := Lib.hid hs
  have HL := Lib.hid hl
  have HX := Lib.hid hx
  clear hs hl hx
  go_enter Try.func174, Try.ntmps174
  go_wp2
  go_loopw [8] (fun s8 wr => ∃ k : Nat, k ≤ i ∧ s8 = .int .i64 (k : Int) ∧ wr = w) (fun s8 _ => n - (intOf s8).toNat)
  case atStart => exact ⟨0, Nat.zero_le _, rfl, rfl⟩
  case round =>
    obtain ⟨k, hk, rfl, hwr⟩ := hrel
    subst hwr
    obtain ⟨g, off, cap', hv, _, _, _, _, hc, _⟩ := HS.out.at (by omega)
    obtain ⟨rfl, rfl⟩ : a = some ⟨g, off, none⟩ ∧ cap = cap' := by cases hv; exact ⟨rfl, rfl⟩
    clear hv
    have hkn : k < n := by omega
    have hck := hc k hkn
    clear hc
    by_cases hki : k < i
    · have hxb : (x == f k) = false := beq_eq_false_iff_ne.2 (fun e => HL.out k hki e.symm)
      go_wp2
      go_roundw
      case rel => exact ⟨k + 1, by omega, by go_num, by first | rfl | trivial⟩
      case measure => simp [intOf] <;> omega
    · obtain rfl : k = i := by omega
      have hxb : (x == f k) = true := by rw [HX.out]; simp
      go_wp2
      go_ret
      exact ⟨rfl, rfl⟩
set_option maxHeartbeats 1000000 in
theorem IndexX_none (x : Int) (w : World) (hn : n ≤ 1000) (hs : Sl o w lo hi v n f) (hl : ∀ j, j < n → f j ≠ x) :
    Calls Try.prog 174 #[v, .int .i64 x] w fun r w' => r = .returned (.int .i64 (-1)) ∧ w = w' := by
  obtain ⟨a, cap, rfl⟩ := hs.shape
  have HS := Lib.hid hs
  have HL := Lib.hid hl
  clear hs hl
  go_enter Try.func174, Try.ntmps174
  go_wp2
  go_loopw [8] (fun s8 wr => ∃ k : Nat, k ≤ n ∧ s8 = .int .i64 (k : Int) ∧ wr = w) (fun s8 _ => n - (intOf s8).toNat)
  case atStart => exact ⟨0, Nat.zero_le _, rfl, rfl⟩
  case round =>
    obtain ⟨k, hk, rfl, hwr⟩ := hrel
    subst hwr
    by_cases hlt : k < n
    · obtain ⟨g, off, cap', hv, _, _, _, _, hc, _⟩ := HS.out.at (by omega)
      obtain ⟨rfl, rfl⟩ : a = some ⟨g, off, none⟩ ∧ cap = cap' := by cases hv; exact ⟨rfl, rfl⟩
      clear hv
      have hck := hc k hlt
      clear hc
      have hxb : (x == f k) = false := beq_eq_false_iff_ne.2 (fun e => HL.out k hlt e.symm)
      go_wp2
      go_roundw
      case rel => exact ⟨k + 1, by omega, by go_num, by first | rfl | trivial⟩
      case measure => simp [intOf] <;> omega
    · obtain rfl : k = n := by omega
      go_wp2
      go_ret
      exact ⟨rfl, rfl⟩
theorem Contains_yes (x : Int) (w : World) (i : Nat) (hn : n ≤ 1000) (hs : Sl o w lo hi v n f) (hi' : i < n) (hx : f i = x) (hl : ∀ j, j < i → f j ≠ x) :
    Calls Try.prog 120 #[v, .int .i64 x] w fun r w' => r = .returned (.bool true) ∧ w = w' := by
  obtain ⟨a, cap, rfl⟩ := hs.shape
  have H := Lib.hid (IndexX_first x w i hn hs hi' hx hl)
  have hge : (0 : Int) ≤ (i : Int) := by omega
  clear hs hx hl
  go_enter Try.func120, Try.ntmps120
  go_wp2_with (go_at_call 174; refine H.out.mono ?_; rintro e w' ⟨rfl, rfl⟩)
  go_ret
  exact ⟨rfl, rfl⟩
theorem Contains_no (x : Int) (w : World) (hn : n ≤ 1000) (hs : Sl o w lo hi v n f) (hl : ∀ j, j < n → f j ≠ x) :
    Calls Try.prog 120 #[v, .int .i64 x] w fun r w' => r = .returned (.bool false) ∧ w = w' := by
  obtain ⟨a, cap, rfl⟩ := hs.shape
  have H := Lib.hid (IndexX_none x w hn hs hl)
  clear hs hl
  go_enter Try.func120, Try.ntmps120
  go_wp2_with (go_at_call 174; refine H.out.mono ?_; rintro e w' ⟨rfl, rfl⟩)
  go_ret
  exact ⟨rfl, rfl⟩
end
end Go.Proofs.Ytnhpodlcgkgpbaa
