/- Whether a number is 0: isZero of the program, l02Null of the model. -/
import Derived.Test.YthmhjnholhiohaaReal
import Derived.Deep.RegionLaw
namespace Go.Proofs.Ythmhjnholhiohaa
open Go.RowKit Go.ChangeShapes Go.Sort
set_option linter.unusedVariables false
set_option linter.unusedSimpArgs false

def zeroB (L : Nat) (f : Nat → Int) : Bool := eqB L f (fun _ => 0)
theorem zero_arr (L : Nat) (f : Nat → Int) (h12 : L ≤ 12) : eqB 12 (cut L f) (fun _ => 0) = zeroB L f := by
  unfold zeroB
  rw [Bool.eq_iff_iff, eqB_iff, eqB_iff]
  constructor
  · intro h j hj
    have := h j (by omega)
    unfold cut at this
    rwa [if_pos hj] at this
  · intro h j hj
    unfold cut
    split
    · exact h j (by assumption)
    · rfl
theorem zeroB_false {L : Nat} {f : Nat → Int} (h : zeroB L f = false) : ∃ j, j < L ∧ f j ≠ 0 := by
  refine Classical.byContradiction fun hc => ?_
  have : zeroB L f = true := eqB_iff.2 fun j hj => Classical.byContradiction fun h => hc ⟨j, hj, h⟩
  rw [this] at h
  cases h

section
variable {o : Bool} {lo hi L : Nat} {v : Value} {f : Nat → Int}
set_option maxRecDepth 100000 in
set_option maxHeartbeats 1000000 in
theorem isZero_any (x : Int) (w : World) (hs : Sl o w lo hi v L f) (hL0 : 0 < L) (hL : L ≤ 12) :
    Calls Try.prog 69 #[.agg #[.int .i64 x, v]] w fun e w' => e = .returned (.bool (zeroB L f)) ∧ Below w.heap.size w w' := by
  obtain ⟨av, cap, rfl⟩ := hs.shape
  obtain ⟨A1, A2, hA1, hA2, hEq⟩ := arr_eq (cut L f) (fun _ => 0)
  rw [zero_arr L f hL] at hEq
  unfold arrV at hA2
  injection hA2 with hA2
  subst hA2
  have HA1 := Lib.hid hA1
  clear hA1
  have hgd := parr_guard
  generalize zeroB L f = B at *
  have st0 := ((((St.start w).addSl ⟨o, lo, hi, .slice av L cap, L, f⟩ hs).alloc (.cells #[.int .i64 x, .slice av L cap] 37)).addBox w.heap.size [.int .i64 x, .slice av L cap] (Box.made _ _ _ _ (fun j v h => by simpa using h)))
  have q0 := st0.sl 0 ⟨o, lo, hi, .slice av L cap, L, f⟩ rfl
  dsimp only at q0
  clear hs
  go_enter Try.func69, Try.ntmps69
  go_wp2_with fail
  refine (arrayOf_any _ q0 hL0 hL).mono ?_
  rw [HA1.out]
  rintro e w1 ⟨rfl, b1⟩
  have BB := (st0.keep b1).1
  clear st0 b1 q0
  go_wp2
  go_ret
  exact ⟨rfl, BB⟩

end
end Go.Proofs.Ythmhjnholhiohaa
