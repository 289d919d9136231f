/- Lists of arrays and lists of numbers that grow by append. -/
import Derived.Test.YtloalhcloifgjaaRes
namespace Go.Proofs.Ytloalhcloifgjaa
open Go.RowKit Go.ChangeShapes Go.Sort
set_option linter.unusedVariables false
set_option linter.unusedSimpArgs false

theorem len_flat {F : Nat → List Value} {sz : Nat} (h : ∀ i, (F i).length = sz) : ∀ m, ((List.range m).flatMap F).length = m * sz
  | 0 => by simp
  | m + 1 => by rw [List.range_succ, List.flatMap_append, List.length_append, len_flat h m]; simp [h]; rw [Nat.add_mul, Nat.one_mul]
theorem get_flat {F : Nat → List Value} {sz : Nat} (h : ∀ i, (F i).length = sz) : ∀ m i j, i < m → j < sz → ((List.range m).flatMap F)[i * sz + j]? = (F i)[j]?
  | 0, _, _, hi, _ => by omega
  | m + 1, i, j, hi, hj => by
    rw [List.range_succ, List.flatMap_append]
    by_cases e : i < m
    · have h2 : (i + 1) * sz ≤ m * sz := Nat.mul_le_mul_right _ (by omega)
      rw [Nat.add_mul, Nat.one_mul] at h2
      rw [List.getElem?_append_left (by rw [len_flat h]; omega)]
      exact get_flat h m i j e hj
    · obtain rfl : i = m := by omega
      rw [List.getElem?_append_right (by rw [len_flat h]; omega), len_flat h, Nat.add_sub_cancel_left]
      simp
/-- A list that grows by append: element i holds the cells F i; the block is the call's own. -/
def RowE (w : World) (base : Nat) (e : TypeId) (sz g cap m : Nat) (F : Nat → List Value) : Prop := w.ownsRow base e sz (.slice (some ⟨g, 0, none⟩) m cap) m ((List.range m).flatMap F)
section
variable {w w' : World} {base sz g cap m : Nat} {e : TypeId} {F F' : Nat → List Value}
theorem RowE.made (w : World) (base : Nat) (e : TypeId) (sz : Nat) (F : Nat → List Value) (hb : base ≤ w.heap.size) : RowE (w.alloc (.cells #[] e)) base e sz w.heap.size 0 0 F :=
  World.ownsRow_made (e := e) (size := sz) (base := base) w #[] 0 hb (Nat.zero_le _) (by simp)
theorem RowE.alloc (h : RowE w base e sz g cap m F) (ob : Obj) : RowE (w.alloc ob) base e sz g cap m F := World.ownsRow.alloc h ob
theorem RowE.drewN (h : RowE w base e sz g cap m F) (k : Nat) : RowE (w.drewN k) base e sz g cap m F := h
theorem RowE.kept {row : Nat} (h : RowE w base e sz g cap m F) (hg : w.grownBy w' (some row)) (hne : g ≠ row) : RowE w' base e sz g cap m F :=
  World.ownsRow.kept h hg (.inr (fun e => hne (Option.some.inj e)))
theorem RowE.lt (h : RowE w base e sz g cap m F) : base ≤ g ∧ g < w.heap.size := World.ownsRow.lt h g rfl
theorem RowE.congr (h : RowE w base e sz g cap m F) (he : ∀ j, j < m → F j = F' j) : RowE w base e sz g cap m F' := by
  unfold RowE at h ⊢
  rwa [show (List.range m).flatMap F' = (List.range m).flatMap F from by
    rw [List.flatMap_def, List.flatMap_def]
    exact congrArg List.flatten (List.map_congr_left (fun j hj => (he j (List.mem_range.1 hj)).symm))]
theorem RowE.keepF {lo hi : Nat} (h : RowE w base e sz g cap m F) (hf : Frame lo hi w w') (hd : g < lo ∨ hi ≤ g) : RowE w' base e sz g cap m F := by
  have hl := h.lt
  refine ⟨h.1, ?_⟩
  rcases h.2 with h2 | ⟨g', cap', cur, hv, hb, hh, r⟩
  · exact .inl h2
  · refine .inr ⟨g', cap', cur, hv, hb, ?_, r⟩
    cases hv
    rw [hf.block g hl.2 hd]; exact hh
theorem RowE.keep {B : Nat} (h : RowE w base e sz g cap m F) (hb : Below B w w') (hB : w.heap.size ≤ B) : RowE w' base e sz g cap m F :=
  h.keepF (Frame.of_below (lo := w'.heap.size + g + 1) (hi := 0) hb hB) (by omega)
theorem RowE.cell (h : RowE w base e sz g cap m F) (hF : ∀ i, (F i).length = sz) {i j : Nat} (hi : i < m) (hj : j < sz) : w.cell? ⟨g, i * sz + j, none⟩ = (F i)[j]? := by
  rcases h.2 with ⟨h2, _⟩ | ⟨g', cap', cur, hv, hb, hh, hn, hc, hs, ht⟩
  · cases h2
  · cases hv
    have h2 : (i + 1) * sz ≤ m * sz := Nat.mul_le_mul_right _ (by omega)
    rw [Nat.add_mul, Nat.one_mul] at h2
    rw [cell_of_row _ _ _ _ _ _ hh, ← get_flat hF m i j hi hj, ← ht, List.getElem?_take, if_pos (by omega)]
    simp
theorem RowE.frozen (h : RowE w base e sz g cap m F) (k : Nat) : w.frozen? ⟨g, k, none⟩ = false := by
  rcases h.2 with ⟨h2, _⟩ | ⟨g', cap', cur, hv, hb, hh, hn, hc, hs, ht⟩
  · cases h2
  · cases hv
    unfold World.frozen?
    rw [hh]
    simp
end

theorem Try.info128 : (Try.prog.info? 128).map (fun i => (i.zero, i.size, i.bytes)) = some (some (arrV (fun _ => 0)), 12, 96) := by kernel_rfl
theorem Try.info26 : (Try.prog.info? 26).map (fun i => (i.zero, i.size, i.bytes)) = some (some (.agg #[.int .i64 0, .slice none 0 0]), 2, 32) := by kernel_rfl
def arrL (G : Nat → Int) : List Value := (arrC G).toList
theorem arrL_len (G : Nat → Int) : (arrL G).length = 12 := rfl
theorem wpList_pushA {w : World} {ops : Array Oper} {rest : List Oper} {o : Oper} {a : Act} {Q : Exit → Act → World → Prop} (hgd : o.guard = none) (s x : Operand)
    (ho : o.op = .call { callee := .builtin .append, args := #[s, x], argTypes := #[144, 144] })
    (hty : o.type = 144) (base g cap n : Nat) (G : Nat → Nat → Int) (hs : a.eval s = .slice (some ⟨g, 0, none⟩) n cap) (hown : RowE w base 128 12 g cap n (fun i => arrL (G i))) (B : Nat) (y : Nat → Int) (hx : a.eval x = .slice (some ⟨B, 0, none⟩) 1 1)
    (hb : w.heap[B]? = some (.cells (arrC y) 128 (0, 0))) (hn : n + 1 ≤ 1048576)
    (h : ∀ g' cap' w', RowE w' base 128 12 g' cap' (n + 1) (fun i => if i < n then arrL (G i) else arrL y) → w.grownBy w' (some g) → (g' = g ∨ g' = w.heap.size) → g' < w'.heap.size → wpList Try.prog ops Q rest (a.put o.dst (.slice (some ⟨g', 0, none⟩) (n + 1) cap')) w') : wpList Try.prog ops Q (o :: rest) a w := by
  obtain ⟨i0, hi, hz0, hz1, hz2⟩ := info_parts Try.info128
  refine wpList_append_lies w hgd s x 144 ho base 128 i0 (arrV (fun _ => 0)) 12 96 Try.underlying144 hi hz0 hz1 hz2 rfl (by decide) _ n _ hs hown ⟨B, 0, none⟩ 1 1 (arrL y) hx rfl (World.news_of_block hb) (by simp [arrL, arrC, Value.oneCell']) (by decide) (by unfold maxLen; omega) (by omega) (Nat.le_trans hown.lt.1 (Nat.le_of_lt hown.lt.2)) _ rfl ?_
  intro g' cap' w' h1 h2 h3 h4
  refine h g' cap' w' ?_ h2 (h3.imp (fun e => (Option.some.inj e).symm) id) h4
  unfold RowE
  rw [List.range_succ, List.flatMap_append]
  have e1 : (List.range n).flatMap (fun i => if i < n then arrL (G i) else arrL y) = (List.range n).flatMap (fun i => arrL (G i)) := by
    rw [List.flatMap_def, List.flatMap_def]
    exact congrArg List.flatten (List.map_congr_left (fun j hj => by rw [if_pos (List.mem_range.1 hj)]))
  rw [e1]
  simpa using h1
theorem wpList_pushC {w : World} {ops : Array Oper} {rest : List Oper} {o : Oper} {a : Act} {Q : Exit → Act → World → Prop} (hgd : o.guard = none) (s x : Operand)
    (ho : o.op = .call { callee := .builtin .append, args := #[s, x], argTypes := #[42, 42] })
    (hty : o.type = 42) (base g cap n : Nat) (N : Nat → Int) (V : Nat → Value) (hs : a.eval s = .slice (some ⟨g, 0, none⟩) n cap) (hown : RowE w base 26 2 g cap n (fun i => [.int .i64 (N i), V i])) (B : Nat) (y : Int) (u : Value) (hu : u.oneCell' = true) (hx : a.eval x = .slice (some ⟨B, 0, none⟩) 1 1)
    (hb : w.heap[B]? = some (.cells #[.int .i64 y, u] 26 (0, 0))) (hn : n + 1 ≤ 1048576)
    (h : ∀ g' cap' w', RowE w' base 26 2 g' cap' (n + 1) (fun i => if i < n then [.int .i64 (N i), V i] else [.int .i64 y, u]) → w.grownBy w' (some g) → (g' = g ∨ g' = w.heap.size) → g' < w'.heap.size → wpList Try.prog ops Q rest (a.put o.dst (.slice (some ⟨g', 0, none⟩) (n + 1) cap')) w') : wpList Try.prog ops Q (o :: rest) a w := by
  obtain ⟨i0, hi, hz0, hz1, hz2⟩ := info_parts Try.info26
  refine wpList_append_lies w hgd s x 42 ho base 26 i0 (.agg #[.int .i64 0, .slice none 0 0]) 2 32 Try.underlying42 hi hz0 hz1 hz2 rfl (by decide) _ n _ hs hown ⟨B, 0, none⟩ 1 1 [.int .i64 y, u] hx rfl (World.news_of_block hb) (by intro v hv; simp only [List.mem_cons, List.not_mem_nil, or_false] at hv; rcases hv with rfl | rfl; rfl; exact hu) (by decide) (by unfold maxLen; omega) (by omega) (Nat.le_trans hown.lt.1 (Nat.le_of_lt hown.lt.2)) _ rfl ?_
  intro g' cap' w' h1 h2 h3 h4
  refine h g' cap' w' ?_ h2 (h3.imp (fun e => (Option.some.inj e).symm) id) h4
  unfold RowE
  rw [List.range_succ, List.flatMap_append]
  have e1 : (List.range n).flatMap (fun i => if i < n then [.int .i64 (N i), V i] else [.int .i64 y, u]) = (List.range n).flatMap (fun i => [.int .i64 (N i), V i]) := by
    rw [List.flatMap_def, List.flatMap_def]
    exact congrArg List.flatten (List.map_congr_left (fun j hj => by rw [if_pos (List.mem_range.1 hj)]))
  rw [e1]
  simpa using h1
end Go.Proofs.Ytloalhcloifgjaa
