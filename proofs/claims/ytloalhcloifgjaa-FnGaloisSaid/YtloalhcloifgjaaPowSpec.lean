/- PowerCyclo of the model. -/
import Derived.Test.YtloalhcloifgjaaPow
import Derived.Test.YtloalhcloifgjaaMulSpec
namespace Go.Proofs.Ytloalhcloifgjaa
open Go.RowKit Go.ChangeShapes Go.Sort
set_option linter.unusedVariables false
set_option linter.unusedSimpArgs false

section
variable {o : Bool} {lo hi L : Nat} {v : Value} {f : Nat → Int}
theorem l01One_any (n : Nat) (w : World) (h1 : 1 ≤ n) (h2 : n ≤ 16) :
    Calls Try.prog 141 #[.int .i64 (n : Int)] w fun e w' => ∃ a cap, e = .returned (.agg #[.int .i64 (n : Int), .slice a (phiN n) cap]) ∧ Sl true w' w.heap.size w'.heap.size (.slice a (phiN n) cap) (phiN n) (redP n (unit (powIx n 0))) ∧ Below w.heap.size w w' := by
  have st0 := (St.start w).boxNew (.int .i64 0) (.slice none 0 0) 26
  go_enter Try.func141, Try.ntmps141
  go_wp2_with fail
  refine (l01Unit_any n 0 _ h1 h2).mono ?_
  rintro e w1 ⟨a1, k1, rfl, s1, b1⟩
  have st1 := st0.keep b1
  have hz1 := b1.size
  simp only [World.size_alloc] at hz1
  have S1 := Lib.hid s1
  clear st0 b1 s1
  obtain ⟨d0, d1⟩ := (st1.box 0 _ rfl).cell2
  have dz := (st1.box 0 _ rfl).2.2
  have BB := st1.1
  dsimp only at dz
  go_wp2
  refine bodyPost_ret (v := .agg #[.int .i64 (n : Int), .slice a1 (phiN n) k1]) (by simp [results, Try.results141, go_sem, d0, d1]) rfl ?_
  refine ⟨_, _, rfl, ?_, by go_grown⟩
  exact ((S1.out.setOther (.inl (by show w.heap.size < _; simp)) _).setOther (.inl (by show w.heap.size < _; simp)) _).wide (by simp) (by simp) (Nat.le_refl _)

end
end Go.Proofs.Ytloalhcloifgjaa
