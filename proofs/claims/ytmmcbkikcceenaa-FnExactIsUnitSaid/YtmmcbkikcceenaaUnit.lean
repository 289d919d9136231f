/- IsUnit of the program and of the model. -/
import Derived.Test.YtmmcbkikcceenaaNorm
namespace Go.Proofs.Ytmmcbkikcceenaa
open Go.RowKit Go.ChangeShapes Go.Sort
set_option linter.unusedVariables false
set_option linter.unusedSimpArgs false

theorem unit_dec (y : Int) : decide (y = 1 ∨ y = -1) = (if y = 1 then true else (y == -1)) := by
  by_cases h : y = 1
  · rw [if_pos h]; exact decide_eq_true (.inl h)
  · rw [if_neg h]
    by_cases h2 : y = -1
    · rw [decide_eq_true (.inr h2)]; exact (beq_iff_eq.2 h2).symm
    · rw [decide_eq_false (fun h3 => h3.elim h h2)]; exact (beq_eq_false_iff_ne.2 h2).symm
section
variable {o : Bool} {lo hi L : Nat} {v : Value} {f : Nat → Int}
set_option maxHeartbeats 1000000 in
theorem IsUnit_impl_bad (x : Int) (w : World) (hs : Sl o w lo hi v L f) (h : ¬ CyP x L f) :
    Calls Try.prog 70 #[.agg #[.int .i64 x, v]] w fun e w' => e = .returned (.tuple #[.bool false, .int .i64 1]) ∧ Below w.heap.size w w' := by
  obtain ⟨av, cap, rfl⟩ := hs.shape
  have st0 := ((((St.start w).addSl ⟨o, lo, hi, .slice av L cap, L, f⟩ hs).alloc (.cells #[.int .i64 x, .slice av L cap] 26)).addBox w.heap.size [.int .i64 x, .slice av L cap] (Box.made _ _ _ _ (fun j v h => by simpa using h)))
  have q0 := st0.sl 0 ⟨o, lo, hi, .slice av L cap, L, f⟩ rfl
  dsimp only at q0
  have HC := Lib.hid h
  clear h hs
  go_enter Try.func70, Try.ntmps70
  go_wp2_with fail
  refine (NormOf_impl_bad x _ q0 HC.out).mono ?_
  rintro e w1 ⟨rfl, b1⟩
  have BB := (st0.keep b1).1
  clear st0 b1 q0
  go_wp2
  go_ret2
  exact ⟨rfl, BB⟩

set_option maxHeartbeats 1000000 in
theorem IsUnit_impl_ok (n : Nat) (w : World) (hs : Sl o w lo hi v L f) (h : CyP n L f) (hk : prOk n L f 0 (phiN n)) :
    Calls Try.prog 70 #[.agg #[.int .i64 (n : Int), v]] w fun e w' => e = .returned (.tuple #[.bool (decide (prI n L f 0 (phiN n) 0 = 1 ∨ prI n L f 0 (phiN n) 0 = -1)), .int .i64 0]) ∧ Below w.heap.size w w' := by
  obtain ⟨av, cap, rfl⟩ := hs.shape
  have st0 := ((((St.start w).addSl ⟨o, lo, hi, .slice av L cap, L, f⟩ hs).alloc (.cells #[.int .i64 (n : Int), .slice av L cap] 26)).addBox w.heap.size [.int .i64 (n : Int), .slice av L cap] (Box.made _ _ _ _ (fun j v h => by simpa using h)))
  have q0 := st0.sl 0 ⟨o, lo, hi, .slice av L cap, L, f⟩ rfl
  dsimp only at q0
  have HC := Lib.hid h
  have HK := Lib.hid hk
  clear h hs hk
  go_enter Try.func70, Try.ntmps70
  go_wp2_with fail
  refine (NormOf_impl_ok n _ q0 HC.out HK.out).mono ?_
  rintro e w1 ⟨rfl, b1⟩
  have BB := (st0.keep b1).1
  clear st0 b1 q0
  have HU := Lib.hid (unit_dec (prI n L f 0 (phiN n) 0))
  by_cases hy : prI n L f 0 (phiN n) 0 = 1
  · have hb : (prI n L f 0 (phiN n) 0 == 1) = true := beq_iff_eq.2 hy
    have HY := Lib.hid hy
    clear hy
    go_wp2
    go_ret2
    exact ⟨by rw [HU.out, if_pos HY.out]; try rfl, BB⟩
  · have hb : (prI n L f 0 (phiN n) 0 == 1) = false := beq_eq_false_iff_ne.2 hy
    have HY := Lib.hid hy
    clear hy
    by_cases hy2 : prI n L f 0 (phiN n) 0 = -1
    · have hb2 : (prI n L f 0 (phiN n) 0 == -1) = true := beq_iff_eq.2 hy2
      clear hy2
      have HB := Lib.hid hb2
      go_wp2
      go_ret2
      exact ⟨by rw [HU.out, if_neg HY.out, HB.out]; try rfl, BB⟩
    · have hb2 : (prI n L f 0 (phiN n) 0 == -1) = false := beq_eq_false_iff_ne.2 hy2
      clear hy2
      have HB := Lib.hid hb2
      go_wp2
      go_ret2
      exact ⟨by rw [HU.out, if_neg HY.out, HB.out]; try rfl, BB⟩

set_option maxHeartbeats 1000000 in
theorem IsUnit_impl_big (n : Nat) (w : World) (hs : Sl o w lo hi v L f) (h : CyP n L f) (hk : ¬ prOk n L f 0 (phiN n)) :
    Calls Try.prog 70 #[.agg #[.int .i64 (n : Int), v]] w fun e w' => e = .returned (.tuple #[.bool false, .int .i64 3]) ∧ Below w.heap.size w w' := by
  obtain ⟨av, cap, rfl⟩ := hs.shape
  have st0 := ((((St.start w).addSl ⟨o, lo, hi, .slice av L cap, L, f⟩ hs).alloc (.cells #[.int .i64 (n : Int), .slice av L cap] 26)).addBox w.heap.size [.int .i64 (n : Int), .slice av L cap] (Box.made _ _ _ _ (fun j v h => by simpa using h)))
  have q0 := st0.sl 0 ⟨o, lo, hi, .slice av L cap, L, f⟩ rfl
  dsimp only at q0
  have HC := Lib.hid h
  have HK := Lib.hid hk
  clear h hs hk
  go_enter Try.func70, Try.ntmps70
  go_wp2_with fail
  refine (NormOf_impl_big n _ q0 HC.out HK.out).mono ?_
  rintro e w1 ⟨rfl, b1⟩
  have BB := (st0.keep b1).1
  clear st0 b1 q0
  go_wp2
  go_ret2
  exact ⟨rfl, BB⟩

set_option maxHeartbeats 1000000 in
theorem IsUnit_spec_bad (x : Int) (w : World) (hs : Sl o w lo hi v L f) (h : ¬ CyP x L f) :
    Calls Try.prog 71 #[.agg #[.int .i64 x, v]] w fun e w' => e = .returned (.tuple #[.bool false, .int .i64 1]) ∧ Below w.heap.size w w' := by
  obtain ⟨av, cap, rfl⟩ := hs.shape
  have st0 := ((((St.start w).addSl ⟨o, lo, hi, .slice av L cap, L, f⟩ hs).alloc (.cells #[.int .i64 x, .slice av L cap] 26)).addBox w.heap.size [.int .i64 x, .slice av L cap] (Box.made _ _ _ _ (fun j v h => by simpa using h)))
  have q0 := st0.sl 0 ⟨o, lo, hi, .slice av L cap, L, f⟩ rfl
  dsimp only at q0
  have HC := Lib.hid h
  clear h hs
  go_enter Try.func71, Try.ntmps71
  go_wp2_with fail
  refine (NormOf_spec_bad x _ q0 HC.out).mono ?_
  rintro e w1 ⟨rfl, b1⟩
  have BB := (st0.keep b1).1
  clear st0 b1 q0
  go_wp2
  go_ret2
  exact ⟨rfl, BB⟩

set_option maxHeartbeats 1000000 in
theorem IsUnit_spec_ok (n : Nat) (w : World) (hs : Sl o w lo hi v L f) (h : CyP n L f) (hk : prOk n L f 0 (phiN n)) :
    Calls Try.prog 71 #[.agg #[.int .i64 (n : Int), v]] w fun e w' => e = .returned (.tuple #[.bool (decide (prI n L f 0 (phiN n) 0 = 1 ∨ prI n L f 0 (phiN n) 0 = -1)), .int .i64 0]) ∧ Below w.heap.size w w' := by
  obtain ⟨av, cap, rfl⟩ := hs.shape
  have st0 := ((((St.start w).addSl ⟨o, lo, hi, .slice av L cap, L, f⟩ hs).alloc (.cells #[.int .i64 (n : Int), .slice av L cap] 26)).addBox w.heap.size [.int .i64 (n : Int), .slice av L cap] (Box.made _ _ _ _ (fun j v h => by simpa using h)))
  have q0 := st0.sl 0 ⟨o, lo, hi, .slice av L cap, L, f⟩ rfl
  dsimp only at q0
  have HC := Lib.hid h
  have HK := Lib.hid hk
  clear h hs hk
  go_enter Try.func71, Try.ntmps71
  go_wp2_with fail
  refine (NormOf_spec_ok n _ q0 HC.out HK.out).mono ?_
  rintro e w1 ⟨rfl, b1⟩
  have BB := (st0.keep b1).1
  clear st0 b1 q0
  have HU := Lib.hid (unit_dec (prI n L f 0 (phiN n) 0))
  by_cases hy : prI n L f 0 (phiN n) 0 = 1
  · have hb : (prI n L f 0 (phiN n) 0 == 1) = true := beq_iff_eq.2 hy
    have HY := Lib.hid hy
    clear hy
    go_wp2
    go_ret2
    exact ⟨by rw [HU.out, if_pos HY.out]; try rfl, BB⟩
  · have hb : (prI n L f 0 (phiN n) 0 == 1) = false := beq_eq_false_iff_ne.2 hy
    have HY := Lib.hid hy
    clear hy
    by_cases hy2 : prI n L f 0 (phiN n) 0 = -1
    · have hb2 : (prI n L f 0 (phiN n) 0 == -1) = true := beq_iff_eq.2 hy2
      clear hy2
      have HB := Lib.hid hb2
      go_wp2
      go_ret2
      exact ⟨by rw [HU.out, if_neg HY.out, HB.out]; try rfl, BB⟩
    · have hb2 : (prI n L f 0 (phiN n) 0 == -1) = false := beq_eq_false_iff_ne.2 hy2
      clear hy2
      have HB := Lib.hid hb2
      go_wp2
      go_ret2
      exact ⟨by rw [HU.out, if_neg HY.out, HB.out]; try rfl, BB⟩

set_option maxHeartbeats 1000000 in
theorem IsUnit_spec_big (n : Nat) (w : World) (hs : Sl o w lo hi v L f) (h : CyP n L f) (hk : ¬ prOk n L f 0 (phiN n)) :
    Calls Try.prog 71 #[.agg #[.int .i64 (n : Int), v]] w fun e w' => e = .returned (.tuple #[.bool false, .int .i64 3]) ∧ Below w.heap.size w w' := by
  obtain ⟨av, cap, rfl⟩ := hs.shape
  have st0 := ((((St.start w).addSl ⟨o, lo, hi, .slice av L cap, L, f⟩ hs).alloc (.cells #[.int .i64 (n : Int), .slice av L cap] 26)).addBox w.heap.size [.int .i64 (n : Int), .slice av L cap] (Box.made _ _ _ _ (fun j v h => by simpa using h)))
  have q0 := st0.sl 0 ⟨o, lo, hi, .slice av L cap, L, f⟩ rfl
  dsimp only at q0
  have HC := Lib.hid h
  have HK := Lib.hid hk
  clear h hs hk
  go_enter Try.func71, Try.ntmps71
  go_wp2_with fail
  refine (NormOf_spec_big n _ q0 HC.out HK.out).mono ?_
  rintro e w1 ⟨rfl, b1⟩
  have BB := (st0.keep b1).1
  clear st0 b1 q0
  go_wp2
  go_ret2
  exact ⟨rfl, BB⟩

end
end Go.Proofs.Ytmmcbkikcceenaa
