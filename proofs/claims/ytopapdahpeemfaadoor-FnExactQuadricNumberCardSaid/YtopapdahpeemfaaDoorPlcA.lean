/- Rests, powers and values of polynomials modulo a number, of the program and of the model. -/
import Derived.Test.YtopapdahpeemfaaDoorPlcF
import Derived.Test.YtopapdahpeemfaaDoorSeqG
import Derived.Test.YtopapdahpeemfaaDoorPrm
namespace Go.Proofs.YtopapdahpeemfaaDoor
open Go.RowKit Go.ChangeShapes Go.Shelf
set_option linter.unusedVariables false
set_option linter.unusedSimpArgs false
set_option maxRecDepth 100000
attribute [local go_sem] Oper.semAt_some

theorem pwr_lt {p g : Nat} (h : 2 ≤ p) : ∀ k, pwr p g k < p
  | 0 => by show 1 < p; omega
  | k + 1 => Nat.mod_lt _ (by omega)
theorem powerModulo_any (l x k : Nat) (hl : 2 ≤ l) (hl2 : l ≤ 61) (hx : x < l) (hk : k ≤ 100) (w : World) :
    Calls Tryd.prog 25 #[.int .i64 (x : Int), .int .i64 (k : Int), .int .i64 (l : Int)] w fun r w' => r = .returned (.int .i64 (pwr l x k : Nat)) ∧ ∃ m, w' = w.drewN m := by
  go_enter Tryd.func25, Tryd.ntmps25
  go_wp2
  go_loopw [7, 9] (fun s7 s9 wr => ∃ i : Nat, i ≤ k ∧ s7 = .int .i64 (pwr l x i : Nat) ∧ s9 = .int .i64 (i : Int) ∧ ∃ m, wr = w.drewN m) (fun _ s9 _ => k - (intOf s9).toNat)
  case atStart => exact ⟨0, by omega, rfl, rfl, 0, rfl⟩
  case round =>
    obtain ⟨i, hi, rfl, rfl, m, rfl⟩ := hrel
    by_cases hlt : i < k
    · have hb := pwr_lt (p := l) (g := x) (by omega) i
      have hp0 : 0 ≤ ((pwr l x i : Nat) : Int) * (x : Int) := Int.mul_nonneg (by omega) (by omega)
      have hp1 : ((pwr l x i : Nat) : Int) * (x : Int) ≤ 61 * 61 := Int.mul_le_mul (by omega) (by omega) (by omega) (by omega)
      have hl0 : ¬ l = 0 := by omega
      have HS := Lib.hid (show ((pwr l x i : Nat) : Int) * (x : Int) % (l : Int) = ((pwr l x (i + 1) : Nat) : Int) by rw [pwr_succ, ← Int.natCast_mul, ← Int.natCast_emod])
      go_wp2
      go_roundw
      case rel => exact ⟨i + 1, by omega, by rw [← HS.out], by go_num, _, rfl⟩
      case measure => simp [intOf]; omega
    · obtain rfl : i = k := by omega
      go_wp2
      go_ret
      exact ⟨rfl, m, rfl⟩
/-! ### Values -/
theorem step_mod {v h x c q : Int} (e : v % q = h % q) : (v * x + c) % q = (h * x + c) % q := by
  rw [Int.add_emod, Int.mul_emod, e, ← Int.mul_emod, ← Int.add_emod]
theorem tmod_mod (a q : Int) : a.tmod q % q = a % q := by
  rw [Int.tmod_def, Int.sub_emod, Int.mul_emod_right, Int.sub_zero, Int.emod_emod]
section
variable {o : Bool} {lo hi : Nat} {v : Value} {n : Nat} {f : Nat → Int}
end

theorem mul_in {a b A B : Int} (ha : -A ≤ a) (ha' : a ≤ A) (hb : 0 ≤ b) (hb' : b ≤ B) : -(A * B) ≤ a * b ∧ a * b ≤ A * B := by
  have hA : 0 ≤ A := by omega
  constructor
  · have h1 : (-A) * B ≤ (-A) * b := Int.mul_le_mul_of_nonpos_left (by omega) hb'
    have h2 : (-A) * b ≤ a * b := Int.mul_le_mul_of_nonneg_right ha hb
    have h3 : (-A) * B = -(A * B) := Int.neg_mul A B
    omega
  · have h1 : a * b ≤ A * b := Int.mul_le_mul_of_nonneg_right ha' hb
    have h2 : A * b ≤ A * B := Int.mul_le_mul_of_nonneg_left hb' hA
    omega
/-! ### slices.Backward -/
/-- The pair that comes at the place i: from the last number to the first. -/
abbrev encB (n : Nat) (f : Nat → Int) (i : Fin n) : Array Value := #[.int .i64 ((n - 1 - i.1 : Nat) : Int), .int .i64 (f (n - 1 - i.1))]

end Go.Proofs.YtopapdahpeemfaaDoor
