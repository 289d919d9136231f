/- The model's exponents; IsEvenCharacter and LegendreSymbol of the program and of the model. -/
import Derived.Test.YtloalhcloifgjaaVal1
import Derived.Test.YtloalhcloifgjaaSumZ
namespace Go.Proofs.Ytloalhcloifgjaa
open Go.RowKit Go.ChangeShapes Go.Sort
set_option linter.unusedVariables false
set_option linter.unusedSimpArgs false

/-- The exponent at x as the model tells it: -1 at multiples of the prime. -/
def exM (p n k : Nat) (x : Int) : Int := if restN p x = 0 then -1 else (expN p n k (restN p x) : Nat)
set_option maxHeartbeats 1000000 in
theorem l03Exponent_any (p n k : Nat) (x : Int) (hp : primeN p = true) (h1 : 1 ≤ n) (h2 : n ≤ 16) (hk : k ≤ 16) (hr1 : -9223372036854775808 ≤ x) (hr2 : x ≤ 9223372036854775807) (w : World) :
    Calls Try.prog 175 #[.agg #[.int .i64 (p : Int), .int .i64 (n : Int), .int .i64 (k : Int)], .int .i64 x] w fun e w' => e = .returned (.int .i64 (exM p n k x)) ∧ Below w.heap.size w w' := by
  have hb := primeN_bd hp
  have hp0 : ¬ p = 0 := by omega
  have HE := Lib.hid (show exM p n k x = if restN p x = 0 then -1 else ((expN p n k (restN p x) : Nat) : Int) from rfl)
  have hz := restN_zero (show 1 ≤ p by omega) x
  by_cases hx : x.tmod p = 0
  · have hr : restN p x = 0 := hz.2 hx
    rw [if_pos hr] at HE
    rw [HE.out]
    clear HE hz hr hp
    go_enter Try.func175, Try.ntmps175
    go_wp2
    go_ret
    exact ⟨rfl, by go_grown⟩
  · have hr : ¬ restN p x = 0 := fun e => hx (hz.1 e)
    rw [if_neg hr] at HE
    rw [HE.out]
    have hi := (idx_ok hp (show 1 ≤ restN p x by omega) (restN_eq p (by omega) x).2.1).1
    have HP := Lib.hid hp
    have HX := Lib.hid hx
    have HI := Lib.hid (show idxN p (restN p x) = idxN p (restN p x) from rfl)
    have HQ := Lib.hid (show expN p n k (restN p x) = k * idxN p (restN p x) % n from rfl)
    have hxb : (x.tmod (p : Int) == 0) = false := beq_eq_false_iff_ne.2 hx
    generalize hix : idxN p (restN p x) = i at hi HQ
    have HIX := Lib.hid hix
    have hki0 : 0 ≤ (i : Int) * (k : Int) := Int.mul_nonneg (by omega) (by omega)
    have hki1 : (i : Int) * (k : Int) ≤ 60 * 16 := Int.mul_le_mul (by omega) (by omega) (by omega) (by omega)
    have hn0 : ¬ n = 0 := by omega
    clear hz hr hx hp hix HI HE
    go_enter Try.func175, Try.ntmps175
    go_wp2
    have k0 := cell_regrown (w := w.alloc (Obj.cells #[.int .i64 (p : Int), .int .i64 (n : Int), .int .i64 (k : Int)] 29)) (a := ⟨w.heap.size, 0, none⟩) (v := .int .i64 (p : Int)) (by go_simp)
    have k1 := cell_regrown (w := w.alloc (Obj.cells #[.int .i64 (p : Int), .int .i64 (n : Int), .int .i64 (k : Int)] 29)) (a := ⟨w.heap.size, 1, none⟩) (v := .int .i64 (n : Int)) (by go_simp)
    have k2 := cell_regrown (w := w.alloc (Obj.cells #[.int .i64 (p : Int), .int .i64 (n : Int), .int .i64 (k : Int)] 29)) (a := ⟨w.heap.size, 2, none⟩) (v := .int .i64 (k : Int)) (by go_simp)
    refine wp_region_quiet_below (by kernel_rfl) (by kernel_rfl) ?_
    repeat (go_big_quiet_step (first
      | (go_at_call 166; exact regrown_drewN ((l03Index_any p x HP.out HX.out hr1 hr2 _).mono (fun e w' h => by rw [HIX.out] at h; exact h)))))
    refine wpQuiet_nil ?_
    intro _ hw'
    obtain ⟨⟨dq, osq⟩, hw''⟩ := hw'
    subst hw''
    go_wp2
    go_ret
    exact ⟨by rw [HQ.out]; simp [Int.mul_comm], below_boxed _ _ _ _⟩

theorem exV_exp {p n k x : Nat} (h : x ≠ 0) : exV p n k x = ((expN p n k x : Nat) : Int) := by unfold exV expN; rw [if_neg h]
/-- The value at -1 is 1. -/
def evenB (p n k : Nat) : Bool := exV p n k (restN p (-1)) == 0
theorem rest_m1 {p : Nat} (h : 3 ≤ p) : restN p (-1) = p - 1 := by
  unfold restN
  rw [show Int.tmod (-1) (p : Int) = -1 from by rw [show (-1 : Int) = -(1 : Int) from rfl, Int.neg_tmod, Int.tmod_eq_emod_of_nonneg (by omega), Int.emod_eq_of_lt (by omega) (by omega)]]
  rw [Int.emod_eq_of_lt (by omega) (by omega)]
  omega
theorem even_m {p n k : Nat} (h : 3 ≤ p) : (exM p n k (-1) == 0) = evenB p n k := by
  unfold exM evenB exV
  rw [rest_m1 h, if_neg (by omega), if_neg (by omega)]
  rfl

theorem IsEvenCharacter_impl_bad (p n k : Int) (h : ¬ ChP p n k) (w : World) :
    Calls Try.prog 58 #[.agg #[.int .i64 p, .int .i64 n, .int .i64 k]] w fun e w' => e = .returned (.tuple #[.bool false, .int .i64 1]) ∧ Below w.heap.size w w' := by
  have H := Lib.hid h; clear h
  go_enter Try.func58, Try.ntmps58
  go_wp2_with (go_at_call 52; refine (IsCharacter_no p n k H.out _).mono ?_; rintro e w1 ⟨rfl, b1⟩)
  go_ret2
  exact ⟨rfl, ((Below.refl w.heap.size w).alloc (Nat.le_refl _) _).trans (b1.mono (by simp))⟩
theorem IsEvenCharacter_impl_ok (p n k : Nat) (hp : primeN p = true) (h1 : 1 ≤ n) (h2 : n ≤ 16) (hd : (p - 1) % n = 0) (hk : k < n) (w : World) :
    Calls Try.prog 58 #[.agg #[.int .i64 (p : Int), .int .i64 (n : Int), .int .i64 (k : Int)]] w fun e w' => e = .returned (.tuple #[.bool (evenB p n k), .int .i64 0]) ∧ Below w.heap.size w w' := by
  have hb := primeN_bd hp
  have HP := Lib.hid hp
  have HD := Lib.hid hd
  have HE := Lib.hid (show evenB p n k = (exV p n k (restN p (-1)) == 0) from rfl)
  clear hp hd
  rw [HE.out]
  generalize hev : exV p n k (restN p (-1)) = ev at HE
  have HEV := Lib.hid hev
  clear hev
  have st0 := (((St.start w).alloc (.cells #[.int .i64 (p : Int), .int .i64 (n : Int), .int .i64 (k : Int)] 29)).addBox w.heap.size [.int .i64 (p : Int), .int .i64 (n : Int), .int .i64 (k : Int)] (Box.made _ _ _ _ (fun j v h => by simpa using h)))
  go_enter Try.func58, Try.ntmps58
  go_wp2_with fail
  refine (IsCharacter_yes p n k HP.out h1 h2 HD.out hk _).mono ?_
  rintro e w1 ⟨rfl, b1⟩
  have st1 := st0.keep b1
  obtain ⟨e0, e1, e2⟩ := (st1.box 0 (w.heap.size, [.int .i64 (p : Int), .int .i64 (n : Int), .int .i64 (k : Int)]) rfl).cell3
  go_wp2_with fail
  refine (valuesOf_any p n k HP.out h1 h2 (by omega) _).mono ?_
  rintro e w2 ⟨rfl, b2, hz2, bx, by_, sl⟩
  have st2 := st1.keep b2
  clear st0 st1 b1 e0 e1 e2
  go_wp2_with fail
  refine (value_any p n k (-1) _ _ _ (by omega) hb.2 (by omega) (by omega) bx by_ sl).mono ?_
  rintro e w3 ⟨rfl, b3⟩
  have BB := (st2.keep b3).1
  clear bx by_ sl st2 b3 b2
  rw [HEV.out]
  go_wp2
  go_ret2
  exact ⟨by simp, BB⟩
/-- The Legendre symbol. -/
def legN (p : Nat) (x : Int) : Int := if restN p x = 0 then 0 else if sqN p (restN p x) = true then 1 else -1
theorem legN_idx {p : Nat} {x : Int} (hp : primeN p = true) (h : ¬ restN p x = 0) : legN p x = 1 - 2 * exV p 2 1 (restN p x) := by
  have hb := primeN_bd hp
  unfold legN exV
  rw [if_neg h, if_neg h, sq_ok hp (by omega) (restN_eq p (by omega) x).2.1, Nat.one_mul]
  rcases Nat.mod_two_eq_zero_or_one (idxN p (restN p x)) with e | e <;> rw [e] <;> simp
end Go.Proofs.Ytloalhcloifgjaa
