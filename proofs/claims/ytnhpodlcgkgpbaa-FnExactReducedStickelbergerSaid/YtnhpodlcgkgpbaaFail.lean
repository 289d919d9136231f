/- The form in which a law's walk takes an answer that is a zero value and an error. -/
import Derived.Test.YtnhpodlcgkgpbaaCycloOf
namespace Go.Proofs.Ytnhpodlcgkgpbaa
open Go.RowKit Go.ChangeShapes
theorem fail_form {P : Program} {fn : FuncId} {args : Array Value} {w : World} {c : Int} (h : Calls P fn args w fun e w' => e = .returned (failV c) ∧ Below w.heap.size w w') :
    Calls P fn args w fun e w' => ∃ a k, e = .returned (.tuple #[.agg #[.int .i64 0, .slice a 0 k], .int .i64 c]) ∧ Sl true w' w.heap.size w'.heap.size (.slice a 0 k) 0 (fun _ => 0) ∧ Below w.heap.size w w' :=
  h.mono fun _ _ ⟨he, hb⟩ => ⟨none, 0, he, Sl.nil _ _ _ (Nat.le_refl _) _, hb⟩

end Go.Proofs.Ytnhpodlcgkgpbaa
