/- The closure of valuesOf: the value at a number. -/
import Derived.Test.YtopapdahpeemfaaDoorVals
namespace Go.Proofs.YtopapdahpeemfaaDoor
open Go.RowKit Go.ChangeShapes
set_option linter.unusedVariables false
set_option linter.unusedSimpArgs false
section
variable {o : Bool} {lo hi : Nat} {v : Value}
set_option maxHeartbeats 1000000 in
theorem value_any (p n k : Nat) (x : Int) (bc be : Nat) (w : World) (hp1 : 1 ≤ p) (hp2 : p ≤ 61) (hr1 : -9223372036854775808 ≤ x) (hr2 : x ≤ 9223372036854775807)
    (hc : Box w bc [.int .i64 (p : Int), .int .i64 (n : Int), .int .i64 (k : Int)]) (he : Box w be [v]) (hs : Sl o w lo hi v p (exV p n k)) :
    Calls Tryd.prog 34 #[.int .i64 x, .pointer (some ⟨bc, 0, none⟩), .pointer (some ⟨be, 0, none⟩)] w fun e w' => e = .returned (.tuple #[.int .i64 (exV p n k (restN p x)), .bool (((restN p x : Nat) : Int) != 0)]) ∧ Below w.heap.size w w' := by
  obtain ⟨r1, r2, r3, r4⟩ := restN_eq p hp1 x
  generalize restN p x = y at *
  obtain ⟨c0, c1, c2⟩ := hc.cell3
  have e0 := he.2.1 0 _ rfl
  obtain ⟨g, off, cap, rfl, _, _, _, _, hcl, _⟩ := hs.at (by omega)
  have hcy := hcl y r2
  have hp0 : ¬ p = 0 := by omega
  clear hcl hs hc he
  go_enter Tryd.func34, Tryd.ntmps34
  go_wp2
  go_region
  all_goals
    go_wp2
    go_ret2
    exact ⟨by simp, (Below.refl _ _).drew⟩
end
end Go.Proofs.YtopapdahpeemfaaDoor
