/- Lists of arrays and lists of numbers that grow by append. -/
import Derived.Test.YtnhpodlcgkgpbaaRes
import Derived.Test.YtnhpodlcgkgpbaaRow
namespace Go.Proofs.Ytnhpodlcgkgpbaa
open Go.RowKit Go.ChangeShapes Go.Sort
set_option linter.unusedVariables false
set_option linter.unusedSimpArgs false

theorem Try.info136 : (Try.prog.info? 136).map (fun i => (i.zero, i.size, i.bytes)) = some (some (arrV (fun _ => 0)), 12, 96) := by kernel_rfl
theorem Try.info24 : (Try.prog.info? 24).map (fun i => (i.zero, i.size, i.bytes)) = some (some (.agg #[.int .i64 0, .slice none 0 0]), 2, 32) := by kernel_rfl
def arrL (G : Nat → Int) : List Value := (arrC G).toList
theorem arrL_len (G : Nat → Int) : (arrL G).length = 12 := rfl
theorem wpList_pushA {w : World} {ops : Array Oper} {rest : List Oper} {o : Oper} {a : Act} {Q : Exit → Act → World → Prop} (hgd : o.guard = none) (s x : Operand)
    (ho : o.op = .call { callee := .builtin .append, args := #[s, x], argTypes := #[134, 134] })
    (hty : o.type = 134) (base g cap n : Nat) (G : Nat → Nat → Int) (hs : a.eval s = .slice (some ⟨g, 0, none⟩) n cap) (hown : RowE w base 136 12 g cap n (fun i => arrL (G i))) (B : Nat) (y : Nat → Int) (hx : a.eval x = .slice (some ⟨B, 0, none⟩) 1 1)
    (hb : w.heap[B]? = some (.cells (arrC y) 136 (0, 0))) (hn : n + 1 ≤ 1048576)
    (h : ∀ g' cap' w', RowE w' base 136 12 g' cap' (n + 1) (fun i => if i < n then arrL (G i) else arrL y) → w.grownBy w' (some g) → (g' = g ∨ g' = w.heap.size) → g' < w'.heap.size → wpList Try.prog ops Q rest (a.put o.dst (.slice (some ⟨g', 0, none⟩) (n + 1) cap')) w') : wpList Try.prog ops Q (o :: rest) a w := by
  obtain ⟨i0, hi, hz0, hz1, hz2⟩ := info_parts Try.info136
  refine wpList_append_lies w hgd s x 134 ho base 136 i0 (arrV (fun _ => 0)) 12 96 Try.underlying134 hi hz0 hz1 hz2 rfl (by decide) _ n _ hs hown ⟨B, 0, none⟩ 1 1 (arrL y) hx rfl (World.news_of_block hb) (by simp [arrL, arrC, Value.oneCell']) (by decide) (by unfold maxLen; omega) (by omega) (Nat.le_trans hown.lt.1 (Nat.le_of_lt hown.lt.2)) _ rfl ?_
  intro g' cap' w' h1 h2 h3 h4
  refine h g' cap' w' ?_ h2 (h3.imp (fun e => (Option.some.inj e).symm) id) h4
  unfold RowE
  rw [List.range_succ, List.flatMap_append]
  have e1 : (List.range n).flatMap (fun i => if i < n then arrL (G i) else arrL y) = (List.range n).flatMap (fun i => arrL (G i)) := by
    rw [List.flatMap_def, List.flatMap_def]
    exact congrArg List.flatten (List.map_congr_left (fun j hj => by rw [if_pos (List.mem_range.1 hj)]))
  rw [e1]
  simpa using h1
theorem wpList_pushC {w : World} {ops : Array Oper} {rest : List Oper} {o : Oper} {a : Act} {Q : Exit → Act → World → Prop} (hgd : o.guard = none) (s x : Operand)
    (ho : o.op = .call { callee := .builtin .append, args := #[s, x], argTypes := #[86, 86] })
    (hty : o.type = 86) (base g cap n : Nat) (N : Nat → Int) (V : Nat → Value) (hs : a.eval s = .slice (some ⟨g, 0, none⟩) n cap) (hown : RowE w base 24 2 g cap n (fun i => [.int .i64 (N i), V i])) (B : Nat) (y : Int) (u : Value) (hu : u.oneCell' = true) (hx : a.eval x = .slice (some ⟨B, 0, none⟩) 1 1)
    (hb : w.heap[B]? = some (.cells #[.int .i64 y, u] 24 (0, 0))) (hn : n + 1 ≤ 1048576)
    (h : ∀ g' cap' w', RowE w' base 24 2 g' cap' (n + 1) (fun i => if i < n then [.int .i64 (N i), V i] else [.int .i64 y, u]) → w.grownBy w' (some g) → (g' = g ∨ g' = w.heap.size) → g' < w'.heap.size → wpList Try.prog ops Q rest (a.put o.dst (.slice (some ⟨g', 0, none⟩) (n + 1) cap')) w') : wpList Try.prog ops Q (o :: rest) a w := by
  obtain ⟨i0, hi, hz0, hz1, hz2⟩ := info_parts Try.info24
  refine wpList_append_lies w hgd s x 86 ho base 24 i0 (.agg #[.int .i64 0, .slice none 0 0]) 2 32 Try.underlying86 hi hz0 hz1 hz2 rfl (by decide) _ n _ hs hown ⟨B, 0, none⟩ 1 1 [.int .i64 y, u] hx rfl (World.news_of_block hb) (by intro v hv; simp only [List.mem_cons, List.not_mem_nil, or_false] at hv; rcases hv with rfl | rfl; rfl; exact hu) (by decide) (by unfold maxLen; omega) (by omega) (Nat.le_trans hown.lt.1 (Nat.le_of_lt hown.lt.2)) _ rfl ?_
  intro g' cap' w' h1 h2 h3 h4
  refine h g' cap' w' ?_ h2 (h3.imp (fun e => (Option.some.inj e).symm) id) h4
  unfold RowE
  rw [List.range_succ, List.flatMap_append]
  have e1 : (List.range n).flatMap (fun i => if i < n then [.int .i64 (N i), V i] else [.int .i64 y, u]) = (List.range n).flatMap (fun i => [.int .i64 (N i), V i]) := by
    rw [List.flatMap_def, List.flatMap_def]
    exact congrArg List.flatten (List.map_congr_left (fun j hj => by rw [if_pos (List.mem_range.1 hj)]))
  rw [e1]
  simpa using h1
end Go.Proofs.Ytnhpodlcgkgpbaa
