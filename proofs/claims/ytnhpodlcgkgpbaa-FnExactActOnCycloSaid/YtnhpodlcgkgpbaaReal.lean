/- IsReal of the program and of the model. -/
import Derived.Test.YtnhpodlcgkgpbaaConj
import Derived.Laws.StructEq
import Derived.Lib.QuietBelow
import Derived.KernelRfl
namespace Go.Proofs.Ytnhpodlcgkgpbaa
open Go.RowKit Go.ChangeShapes Go.Sort
set_option linter.unusedVariables false
set_option linter.unusedSimpArgs false

/-- What == says of two arrays of int64. -/
theorem run_equalIn_ints {P : Program} (w : World) (d n : Nat) (t e : TypeId) (xs ys : Array Value) (f g : Nat → Int) (ht : P.underlying t = some (.array n e)) (he : P.underlying e = some (.int .i64)) (hsz : ∀ w, (sizeOf e).run P w = .ok 1 w)
    (hx : ∀ i, i < n → xs[i]? = some (.int .i64 (f i))) (hy : ∀ i, i < n → ys[i]? = some (.int .i64 (g i))) :
    (Op.equalIn (d + 2) t (.agg xs) (.agg ys)).run P w = .ok ((List.range' 0 n 1).all fun i => f i == g i) w := by
  rw [Op.equalIn]
  simp only [Sem.run_bind, run_underlying ht, Result.andThen_ok, hsz, Std.Legacy.Range.forIn_eq_forIn_range', Std.Legacy.Range.size, Nat.sub_zero, Nat.add_sub_cancel, Nat.div_one]
  have hl : ∀ i ∈ List.range' 0 n 1, i < n := fun i hi => by simpa using (List.mem_range'_1.1 hi).2
  generalize List.range' 0 n 1 = l at hl ⊢
  induction l with
  | nil => simp
  | cons i l ih =>
    have hi : i < n := hl i (by simp)
    have px : (part e xs (i * 1)).run P w = .ok (.int .i64 (f i)) w := by
      simp [part, isAgg, run_underlying he, hx i hi]
    have py : (part e ys (i * 1)).run P w = .ok (.int .i64 (g i)) w := by
      simp [part, isAgg, run_underlying he, hy i hi]
    have pe : (Op.equalIn (d + 1) e (.int .i64 (f i)) (.int .i64 (g i))).run P w = .ok (f i == g i) w := run_equalIn_int w d e .i64 .i64 _ _ he
    simp only [List.forIn_cons, Sem.run_bind, px, py, pe, Result.andThen_ok, List.all_cons]
    cases hb : (f i == g i)
    · simp
    · simp only [Bool.not_true, Bool.false_eq_true, if_false, Sem.run_pure, Result.andThen_ok, Bool.true_and]
      exact ih fun j hj => hl j (by simp [hj])
/-- Whether two lists agree on their first m places. -/
def eqB (m : Nat) (f g : Nat → Int) : Bool := decide (∀ j, j < m → f j = g j)
theorem eqB_iff {m : Nat} {f g : Nat → Int} : eqB m f g = true ↔ ∀ j, j < m → f j = g j := by unfold eqB; exact decide_eq_true_iff
theorem arr_eq (F G : Nat → Int) : ∃ A1 A2, arrV F = .agg A1 ∧ arrV G = .agg A2 ∧ ∀ w, (Op.equalIn 10000 136 (.agg A1) (.agg A2)).run Try.prog w = .ok (eqB 12 F G) w := by
  refine ⟨arrC F, arrC G, rfl, rfl, fun w => ?_⟩
  rw [show (10000 : Nat) = 9998 + 2 from rfl, run_equalIn_ints w 9998 12 136 2 _ _ F G Try.underlying136 Try.underlying2 (fun w => Try.sizeOf2 w) (arrC_get F) (arrC_get G)]
  congr 1
  rw [Bool.eq_iff_iff]
  rw [eqB_iff]
  simp only [List.all_eq_true, List.mem_range'_1, beq_iff_eq]
  exact ⟨fun h j hj => h j ⟨Nat.zero_le _, by omega⟩, fun h j hj => h j (by omega)⟩
theorem parr_guard : Try.prog.eqGuardType Try.prog.depth 136 = false := by kernel_rfl
/-- Whether a number is real. -/
def realB (n L : Nat) (f : Nat → Int) : Bool := eqB L (imgP n (n - 1) L f) f
theorem realB_arr (n L : Nat) (f : Nat → Int) (hL : L = phiN n) (h12 : L ≤ 12) : eqB 12 (cut (phiN n) (imgP n (n - 1) L f)) (cut L f) = realB n L f := by
  unfold realB
  rw [← hL, Bool.eq_iff_iff, eqB_iff, eqB_iff]
  constructor
  · intro h j hj
    have := h j (by omega)
    unfold cut at this
    rwa [if_pos hj, if_pos hj] at this
  · intro h j hj
    unfold cut
    by_cases e : j < L
    · rw [if_pos e, if_pos e]; exact h j e
    · rw [if_neg e, if_neg e]
/-- A failure of a function that answers yes or no. -/
def noV (c : Int) : Value := .tuple #[.bool false, .int .i64 c]

section
variable {o : Bool} {lo hi L : Nat} {v : Value} {f : Nat → Int}
variable {o' : Bool} {lo' hi' : Nat} {v' : Value} {f' : Nat → Int}
end
end Go.Proofs.Ytnhpodlcgkgpbaa
