/- The methods of the numbers a + b z of the program: less, times, conjugate, turned, norm. -/
import Derived.Test.YtfadlnbmpgbeaaaEsI
import Derived.Test.YtfadlnbmpgbeaaaState
import Derived.Test.YtfadlnbmpgbeaaaCopy
import Derived.IntWalk
namespace Go.Proofs.Ytfadlnbmpgbeaaa
open Go.RowKit Go.ChangeShapes Go.Sort
set_option linter.unusedVariables false
set_option linter.unusedSimpArgs false
set_option maxRecDepth 100000

theorem norm_impl (a b : Int) (w : World) (ha : -40000 ≤ a) (ha' : a ≤ 40000) (hb : -40000 ≤ b) (hb' : b ≤ 40000) :
    Calls Try.prog 58 #[.agg #[.int .i64 a, .int .i64 b]] w fun e w' => e = .returned (.int .i64 (nrm a b)) ∧ Below w.heap.size w w' := by
  have h1 := mul_bd ha ha' ha ha'
  have h2 := mul_bd ha ha' hb hb'
  have h3 := mul_bd hb hb' hb hb'
  have HN := Lib.hid (show a * a - a * b + b * b = nrm a b from rfl)
  go_enter Try.func58, Try.ntmps58
  go_wp2
  go_ret
  exact ⟨by rw [HN.out]; rfl, by go_grown⟩
theorem less_impl (a b c d : Int) (w : World) (ha : -2000000000 ≤ a) (ha' : a ≤ 2000000000) (hb : -2000000000 ≤ b) (hb' : b ≤ 2000000000) (hc : -2000000000000000 ≤ c) (hc' : c ≤ 2000000000000000) (hd : -2000000000000000 ≤ d) (hd' : d ≤ 2000000000000000) :
    Calls Try.prog 79 #[.agg #[.int .i64 a, .int .i64 b], .agg #[.int .i64 c, .int .i64 d]] w fun e w' => e = .returned (.agg #[.int .i64 (a - c), .int .i64 (b - d)]) ∧ Below w.heap.size w w' := by
  go_enter Try.func79, Try.ntmps79
  go_wp2
  refine bodyPost_ret (v := .agg #[.int .i64 (a - c), .int .i64 (b - d)]) (by simp [results, Try.results79, go_sem]) rfl ?_
  exact ⟨rfl, by go_grown⟩
theorem times_impl (a b c d : Int) (w : World) (ha : -100000000000 ≤ a) (ha' : a ≤ 100000000000) (hb : -100000000000 ≤ b) (hb' : b ≤ 100000000000) (hc : -40000 ≤ c) (hc' : c ≤ 40000) (hd : -40000 ≤ d) (hd' : d ≤ 40000) :
    Calls Try.prog 94 #[.agg #[.int .i64 a, .int .i64 b], .agg #[.int .i64 c, .int .i64 d]] w fun e w' => e = .returned (.agg #[.int .i64 (tA a b c d), .int .i64 (tB a b c d)]) ∧ Below w.heap.size w w' := by
  have h1 := mul_bd ha ha' hc hc'
  have h2 := mul_bd ha ha' hd hd'
  have h3 := mul_bd hb hb' hc hc'
  have h4 := mul_bd hb hb' hd hd'
  have HA := Lib.hid (show a * c - b * d = tA a b c d from rfl)
  have HB := Lib.hid (show a * d + b * c - b * d = tB a b c d from rfl)
  go_enter Try.func94, Try.ntmps94
  go_wp2
  refine bodyPost_ret (v := .agg #[.int .i64 (tA a b c d), .int .i64 (tB a b c d)]) (by simp [results, Try.results94, go_sem]; exact ⟨HA.out, HB.out⟩) rfl ?_
  exact ⟨rfl, by go_grown⟩
theorem conjugate_impl (c d : Int) (w : World) (hc : -40000 ≤ c) (hc' : c ≤ 40000) (hd : -40000 ≤ d) (hd' : d ≤ 40000) :
    Calls Try.prog 95 #[.agg #[.int .i64 c, .int .i64 d]] w fun e w' => e = .returned (.agg #[.int .i64 (c - d), .int .i64 (-d)]) ∧ Below w.heap.size w w' := by
  go_enter Try.func95, Try.ntmps95
  go_wp2
  refine bodyPost_ret (v := .agg #[.int .i64 (c - d), .int .i64 (-d)]) (by simp [results, Try.results95, go_sem]) rfl ?_
  exact ⟨rfl, by go_grown⟩
theorem turned_impl (c d : Int) (w : World) (hc : -1000000000 ≤ c) (hc' : c ≤ 1000000000) (hd : -1000000000 ≤ d) (hd' : d ≤ 1000000000) :
    Calls Try.prog 82 #[.agg #[.int .i64 c, .int .i64 d]] w fun e w' => e = .returned (.agg #[.int .i64 (c - d), .int .i64 c]) ∧ Below w.heap.size w w' := by
  go_enter Try.func82, Try.ntmps82
  go_wp2
  refine bodyPost_ret (v := .agg #[.int .i64 (c - d), .int .i64 c]) (by simp [results, Try.results82, go_sem]) rfl ?_
  exact ⟨rfl, by go_grown⟩
end Go.Proofs.Ytfadlnbmpgbeaaa
