/- A list of numbers that grows by append. -/
import Derived.Test.YtnhpodlcgkgpbaaState
import Derived.Test.YtnhpodlcgkgpbaaSet
import Derived.Deep.AppendLies
import Derived.Laws.OwnMore
import Derived.OwnWalk
namespace Go.Proofs.Ytnhpodlcgkgpbaa
open Go.RowKit Go.ChangeShapes Go.Sort
set_option linter.unusedVariables false
set_option linter.unusedSimpArgs false

/-- A list that grows by append: its numbers, in a block that is the call's own. -/
def Row (w : World) (base g cap n : Nat) (f : Nat → Int) : Prop := w.ownsRow base 2 1 (.slice (some ⟨g, 0, none⟩) n cap) n ((List.range n).map (fun j => Value.int .i64 (f j)))
theorem Row.made (w : World) (base : Nat) (f : Nat → Int) (hb : base ≤ w.heap.size) : Row (w.alloc (.cells #[] 2)) base w.heap.size 0 0 f := by
  have h := World.ownsRow_made (e := 2) (size := 1) (base := base) w #[] 0 hb (Nat.zero_le _) rfl
  exact h
theorem Row.alloc {w : World} {base g cap n : Nat} {f : Nat → Int} (h : Row w base g cap n f) (ob : Obj) : Row (w.alloc ob) base g cap n f := World.ownsRow.alloc h ob
theorem Row.kept {w w' : World} {base g cap n : Nat} {f : Nat → Int} {row : Nat} (h : Row w base g cap n f) (hg : w.grownBy w' (some row)) (hne : g ≠ row) : Row w' base g cap n f :=
  World.ownsRow.kept h hg (.inr (fun e => hne (Option.some.inj e)))
theorem Row.lt {w : World} {base g cap n : Nat} {f : Nat → Int} (h : Row w base g cap n f) : base ≤ g ∧ g < w.heap.size := World.ownsRow.lt h g rfl
theorem Row.congr {w : World} {base g cap n : Nat} {f f' : Nat → Int} (h : Row w base g cap n f) (e : ∀ j, j < n → f j = f' j) : Row w base g cap n f' := by
  unfold Row at h ⊢
  rwa [show (List.range n).map (fun j => Value.int .i64 (f' j)) = (List.range n).map (fun j => Value.int .i64 (f j)) from List.map_congr_left (fun j hj => by rw [e j (List.mem_range.1 hj)])]
theorem wpList_push {w : World} {ops : Array Oper} {rest : List Oper} {o : Oper} {a : Act} {Q : Exit → Act → World → Prop} (hgd : o.guard = none) (s x : Operand)
    (ho : o.op = .call { callee := .builtin .append, args := #[s, x], argTypes := #[22, 22] })
    (hty : o.type = 22) (base g cap n : Nat) (f : Nat → Int) (hs : a.eval s = .slice (some ⟨g, 0, none⟩) n cap) (hown : Row w base g cap n f) (B : Nat) (y : Int) (hx : a.eval x = .slice (some ⟨B, 0, none⟩) 1 1)
    (hb : w.heap[B]? = some (.cells #[.int .i64 y] 2 (0, 0))) (hn : n + 1 ≤ 1048576)
    (h : ∀ g' cap' w', Row w' base g' cap' (n + 1) (fun j => if j < n then f j else y) → w.grownBy w' (some g) → (g' = g ∨ g' = w.heap.size) → g' < w'.heap.size → wpList Try.prog ops Q rest (a.put o.dst (.slice (some ⟨g', 0, none⟩) (n + 1) cap')) w') : wpList Try.prog ops Q (o :: rest) a w := by
  obtain ⟨i0, hi, hz0, hz1, hz2⟩ := info_parts Try.info2
  refine wpList_append_lies w hgd s x 22 ho base 2 i0 (.int .i64 0) 1 8 Try.underlying22 hi hz0 hz1 hz2 rfl (by decide) _ n _ hs hown ⟨B, 0, none⟩ 1 1 [.int .i64 y] hx rfl (World.news_of_block hb) (by simp [Value.oneCell']) (by decide) (by unfold maxLen; omega) (by omega) (Nat.le_trans hown.lt.1 (Nat.le_of_lt hown.lt.2)) _ rfl ?_
  intro g' cap' w' h1 h2 h3 h4
  refine h g' cap' w' ?_ h2 (h3.imp (fun e => (Option.some.inj e).symm) id) h4
  unfold Row
  rw [List.range_succ, List.map_append]
  have e1 : (List.range n).map (fun j => Value.int .i64 (if j < n then f j else y)) = (List.range n).map (fun j => Value.int .i64 (f j)) := List.map_congr_left (fun j hj => by rw [if_pos (List.mem_range.1 hj)])
  rw [e1]
  simpa using h1
theorem Frame.ofGrown {w w' : World} {row : Nat} (hg : w.grownBy w' (some row)) : Frame row (row + 1) w w' :=
  ⟨hg.os, hg.tape, hg.output, hg.size, fun k hk hne => hg.block k hk (fun e => by have := Option.some.inj e; omega)⟩
theorem len_flat {F : Nat → List Value} {sz : Nat} (h : ∀ i, (F i).length = sz) : ∀ m, ((List.range m).flatMap F).length = m * sz
  | 0 => by simp
  | m + 1 => by rw [List.range_succ, List.flatMap_append, List.length_append, len_flat h m]; simp [h]; rw [Nat.add_mul, Nat.one_mul]
theorem get_flat {F : Nat → List Value} {sz : Nat} (h : ∀ i, (F i).length = sz) : ∀ m i j, i < m → j < sz → ((List.range m).flatMap F)[i * sz + j]? = (F i)[j]?
  | 0, _, _, hi, _ => by omega
  | m + 1, i, j, hi, hj => by
    rw [List.range_succ, List.flatMap_append]
    by_cases e : i < m
    · have h2 : (i + 1) * sz ≤ m * sz := Nat.mul_le_mul_right _ (by omega)
      rw [Nat.add_mul, Nat.one_mul] at h2
      rw [List.getElem?_append_left (by rw [len_flat h]; omega)]
      exact get_flat h m i j e hj
    · obtain rfl : i = m := by omega
      rw [List.getElem?_append_right (by rw [len_flat h]; omega), len_flat h, Nat.add_sub_cancel_left]
      simp
/-- A list that grows by append: element i holds the cells F i; the block is the call's own. -/
def RowE (w : World) (base : Nat) (e : TypeId) (sz g cap m : Nat) (F : Nat → List Value) : Prop := w.ownsRow base e sz (.slice (some ⟨g, 0, none⟩) m cap) m ((List.range m).flatMap F)
section
variable {w w' : World} {base sz g cap m : Nat} {e : TypeId} {F F' : Nat → List Value}
theorem RowE.made (w : World) (base : Nat) (e : TypeId) (sz : Nat) (F : Nat → List Value) (hb : base ≤ w.heap.size) : RowE (w.alloc (.cells #[] e)) base e sz w.heap.size 0 0 F :=
  World.ownsRow_made (e := e) (size := sz) (base := base) w #[] 0 hb (Nat.zero_le _) (by simp)
theorem RowE.alloc (h : RowE w base e sz g cap m F) (ob : Obj) : RowE (w.alloc ob) base e sz g cap m F := World.ownsRow.alloc h ob
theorem RowE.drewN (h : RowE w base e sz g cap m F) (k : Nat) : RowE (w.drewN k) base e sz g cap m F := h
theorem RowE.kept {row : Nat} (h : RowE w base e sz g cap m F) (hg : w.grownBy w' (some row)) (hne : g ≠ row) : RowE w' base e sz g cap m F :=
  World.ownsRow.kept h hg (.inr (fun e => hne (Option.some.inj e)))
theorem RowE.lt (h : RowE w base e sz g cap m F) : base ≤ g ∧ g < w.heap.size := World.ownsRow.lt h g rfl
theorem RowE.congr (h : RowE w base e sz g cap m F) (he : ∀ j, j < m → F j = F' j) : RowE w base e sz g cap m F' := by
  unfold RowE at h ⊢
  rwa [show (List.range m).flatMap F' = (List.range m).flatMap F from by
    rw [List.flatMap_def, List.flatMap_def]
    exact congrArg List.flatten (List.map_congr_left (fun j hj => (he j (List.mem_range.1 hj)).symm))]
theorem RowE.keepF {lo hi : Nat} (h : RowE w base e sz g cap m F) (hf : Frame lo hi w w') (hd : g < lo ∨ hi ≤ g) : RowE w' base e sz g cap m F := by
  have hl := h.lt
  refine ⟨h.1, ?_⟩
  rcases h.2 with h2 | ⟨g', cap', cur, hv, hb, hh, r⟩
  · exact .inl h2
  · refine .inr ⟨g', cap', cur, hv, hb, ?_, r⟩
    cases hv
    rw [hf.block g hl.2 hd]; exact hh
theorem RowE.keep {B : Nat} (h : RowE w base e sz g cap m F) (hb : Below B w w') (hB : w.heap.size ≤ B) : RowE w' base e sz g cap m F :=
  h.keepF (Frame.of_below (lo := w'.heap.size + g + 1) (hi := 0) hb hB) (by omega)
theorem RowE.cell (h : RowE w base e sz g cap m F) (hF : ∀ i, (F i).length = sz) {i j : Nat} (hi : i < m) (hj : j < sz) : w.cell? ⟨g, i * sz + j, none⟩ = (F i)[j]? := by
  rcases h.2 with ⟨h2, _⟩ | ⟨g', cap', cur, hv, hb, hh, hn, hc, hs, ht⟩
  · cases h2
  · cases hv
    have h2 : (i + 1) * sz ≤ m * sz := Nat.mul_le_mul_right _ (by omega)
    rw [Nat.add_mul, Nat.one_mul] at h2
    rw [cell_of_row _ _ _ _ _ _ hh, ← get_flat hF m i j hi hj, ← ht, List.getElem?_take, if_pos (by omega)]
    simp
theorem RowE.frozen (h : RowE w base e sz g cap m F) (k : Nat) : w.frozen? ⟨g, k, none⟩ = false := by
  rcases h.2 with ⟨h2, _⟩ | ⟨g', cap', cur, hv, hb, hh, hn, hc, hs, ht⟩
  · cases h2
  · cases hv
    unfold World.frozen?
    rw [hh]
    simp
end

theorem cell_set3 {w : World} {b g i j l k : Nat} {u v t x : Value} (h : w.cell? ⟨g, k, none⟩ = some x) (hb : g ≠ b) : (((w.setCell ⟨b, i, none⟩ u).setCell ⟨b, j, none⟩ v).setCell ⟨b, l, none⟩ t).cell? ⟨g, k, none⟩ = some x :=
  (World.cell?_setCell_other _ _ _ _ (fun e => hb (by injection e with e1; exact e1.symm))).trans ((World.cell?_setCell_other _ _ _ _ (fun e => hb (by injection e with e1; exact e1.symm))).trans ((World.cell?_setCell_other _ _ _ _ (fun e => hb (by injection e with e1; exact e1.symm))).trans h))
theorem Box.set3 {w : World} {b : Nat} {v0 v1 v2 u0 u1 u2 : Value} (h : Box w b [v0, v1, v2]) : Box (((w.setCell ⟨b, 0, none⟩ u0).setCell ⟨b, 1, none⟩ u1).setCell ⟨b, 2, none⟩ u2) b [u0, u1, u2] := by
  obtain ⟨h1, h2, h3⟩ := h
  have c0 := h2 0 _ rfl
  have c1 := h2 1 _ rfl
  have c2 := h2 2 _ rfl
  refine ⟨by simpa using h1, ?_, ?_⟩
  · intro j v hj
    rcases j with _ | _ | _ | j
    · simp only [List.getElem?_cons_zero, Option.some.injEq] at hj
      subst hj
      rw [setCell_ne _ _ _ _ _ (by decide), setCell_ne _ _ _ _ _ (by decide)]
      exact World.cell?_setCell_same _ _ _ c0
    · simp only [List.getElem?_cons_succ, List.getElem?_cons_zero, Option.some.injEq] at hj
      subst hj
      rw [setCell_ne _ _ _ _ _ (by decide)]
      exact World.cell?_setCell_same _ _ _ (by rw [setCell_ne _ _ _ _ _ (by decide)]; exact c1)
    · simp only [List.getElem?_cons_succ, List.getElem?_cons_zero, Option.some.injEq] at hj
      subst hj
      exact World.cell?_setCell_same _ _ _ (by rw [setCell_ne _ _ _ _ _ (by decide), setCell_ne _ _ _ _ _ (by decide)]; exact c2)
    · simp at hj
  · intro j
    simpa using h3 j
end Go.Proofs.Ytnhpodlcgkgpbaa
