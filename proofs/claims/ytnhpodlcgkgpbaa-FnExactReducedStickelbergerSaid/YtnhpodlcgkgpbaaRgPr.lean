/- Two elements of group rings in one block. -/
import Derived.Test.YtnhpodlcgkgpbaaRgE
namespace Go.Proofs.Ytnhpodlcgkgpbaa
open Go.RowKit Go.ChangeShapes Go.Sort
set_option linter.unusedVariables false
set_option linter.unusedSimpArgs false
set_option maxRecDepth 100000
def prL (m : Int) (F : Nat → Int) (m' : Int) (G : Nat → Int) : List Value := elL m F ++ elL m' G
theorem prL_len {m m' : Int} {F G : Nat → Int} : (prL m F m' G).length = 82 := by simp [prL, elL_len]
theorem pr_zero (w : World) : (zeroValue 131).run Try.prog w = .ok (.agg (prL 0 (fun _ => 0) 0 (fun _ => 0)).toArray) w := by kernel_rfl
theorem ne_pr {m m' : Int} {F G : Nat → Int} : ¬ (prL m F m' G).toArray = #[] := fun e => by
  have h : (prL m F m' G).toArray.size = 82 := by simp [prL_len]
  rw [e] at h; cases h
theorem Box.rangeA {w : World} {b : Nat} {xs ys : List Value} (h : Box w b (xs ++ ys)) : w.rangeAt b 0 xs := fun j v hv => by
  rw [Nat.zero_add]; exact h.2.1 j v (by rw [List.getElem?_append_left (by have := (List.getElem?_eq_some_iff.1 hv).1; omega)]; exact hv)
theorem Box.rangeB {w : World} {b : Nat} {xs ys : List Value} (h : Box w b (xs ++ ys)) : w.rangeAt b xs.length ys := fun j v hv =>
  h.2.1 (xs.length + j) v (by rw [List.getElem?_append_right (by omega)]; rw [Nat.add_sub_cancel_left]; exact hv)
theorem Box.thereA {w : World} {b n : Nat} {vs : List Value} (h : Box w b vs) (o : Nat) (hn : o + n ≤ vs.length) : w.there b o n := fun j hj =>
  ⟨by rw [h.2.1 (o + j) _ (List.getElem?_eq_getElem (by omega))]; rfl, h.2.2 (o + j)⟩
theorem Box.setA {w : World} {b : Nat} {xs ys us : List Value} (h : Box w b (xs ++ ys)) (hn : us.length = xs.length) : Box (w.setCells b 0 us) b (us ++ ys) := by
  refine ⟨by rw [size_setCells]; exact h.1, fun j v hv => ?_, fun k => (World.frozen?_setCells _ _ _ _ _).trans (h.2.2 k)⟩
  by_cases hj : j < us.length
  · rw [List.getElem?_append_left hj] at hv
    have := World.rangeAt_setCells_same w b 0 us (h.thereA 0 (by simp; omega)) j v hv
    rwa [Nat.zero_add] at this
  · rw [List.getElem?_append_right (by omega)] at hv
    have := World.rangeAt_setCells_apart h.rangeB b 0 us (.inr (.inr (by omega))) (j - us.length) v hv
    rwa [show xs.length + (j - us.length) = j by omega] at this
theorem Box.setB {w : World} {b : Nat} {xs ys us : List Value} (h : Box w b (xs ++ ys)) (hn : us.length = ys.length) : Box (w.setCells b xs.length us) b (xs ++ us) := by
  refine ⟨by rw [size_setCells]; exact h.1, fun j v hv => ?_, fun k => (World.frozen?_setCells _ _ _ _ _).trans (h.2.2 k)⟩
  by_cases hj : j < xs.length
  · rw [List.getElem?_append_left hj] at hv
    have := World.rangeAt_setCells_apart h.rangeA b xs.length us (.inr (.inl (by omega))) j v hv
    rwa [Nat.zero_add] at this
  · rw [List.getElem?_append_right (by omega)] at hv
    have := World.rangeAt_setCells_same w b xs.length us (h.thereA xs.length (by simp; omega)) (j - xs.length) v hv
    rwa [show xs.length + (j - xs.length) = j by omega] at this
section
variable {ops : Array Oper} {rest : List Oper} {op : Oper} {a : Act} {w : World} {Q : Exit → Act → World → Prop}
theorem wpList_allocPr (hgd : op.guard = none) (ho : op.op = .alloc 131)
    (h : ∀ w', Box w' w.heap.size (prL 0 (fun _ => 0) 0 (fun _ => 0)) → Below w.heap.size w w' → w'.heap.size = w.heap.size + 1 → wpList Try.prog ops Q rest (a.put op.dst (.pointer (some ⟨w.heap.size, 0, none⟩))) w') : wpList Try.prog ops Q (op :: rest) a w := by
  refine wpList_plain hgd fun K hK => ?_
  unfold Oper.wp execOp
  have := hK _ _ (h _ (Box.boxed w 131 _) ((Below.refl _ _).alloc (Nat.le_refl _) _) (by simp))
  simp only [ho, Instr.alloc, Sem.run_bind, Sem.run_pure, Result.andThen_ok, pr_zero, run_newVar _ _ _ ne_pr]
  exact this
theorem wpList_loadPr0 (hgd : op.guard = none) (x : Operand) (ho : op.op = .load 107 x) (b : Nat) (hx : a.eval x = .pointer (some ⟨b, 0, none⟩)) {m m' : Int} {F G : Nat → Int} (hb : Box w b (prL m F m' G))
    (h : wpList Try.prog ops Q rest (a.put op.dst (.agg (elC m F))) w) : wpList Try.prog ops Q (op :: rest) a w :=
  wpList_load_mid hgd _ x ho b 0 hx (elL m F) _ hb.rangeA Try.underlying107 rfl (by rw [elL_len]; kernel_rfl) h
theorem wpList_loadPr1 (hgd : op.guard = none) (x : Operand) (ho : op.op = .load 107 x) (b : Nat) (hx : a.eval x = .pointer (some ⟨b, 41, none⟩)) {m m' : Int} {F G : Nat → Int} (hb : Box w b (prL m F m' G))
    (h : wpList Try.prog ops Q rest (a.put op.dst (.agg (elC m' G))) w) : wpList Try.prog ops Q (op :: rest) a w :=
  wpList_load_mid hgd _ x ho b 41 hx (elL m' G) _ (by have := hb.rangeB; rwa [elL_len] at this) Try.underlying107 rfl (by rw [elL_len]; kernel_rfl) h
theorem wpList_storePr0 (hgd : op.guard = none) (x y : Operand) (ho : op.op = .store 107 x y) (b : Nat) (hx : a.eval x = .pointer (some ⟨b, 0, none⟩)) {k : Int} {H : Nat → Int} (hy : a.eval y = .agg (elC k H)) {m m' : Int} {F G : Nat → Int} (hb : Box w b (prL m F m' G))
    (h : ∀ w', Box w' b (prL k H m' G) → Frame b (b + 1) w w' → wpList Try.prog ops Q rest (a.put op.dst undef) w') : wpList Try.prog ops Q (op :: rest) a w := by
  refine wpList_store_mid hgd _ x y ho b 0 (elC k H) hx hy (by rw [elC_size]; exact hb.thereA 0 (by rw [prL_len]; decide)) (by rw [elC_size]; kernel_rfl) (all_oneCell_toArray elL_one) ?_
  rw [elC_list]
  exact h _ (hb.setA (by rw [elL_len, elL_len])) (Frame.setCells (Nat.le_refl _) (Nat.lt_succ_self _) _ 0 _ _ (Frame.refl _ _ _))
theorem wpList_storePr1 (hgd : op.guard = none) (x y : Operand) (ho : op.op = .store 107 x y) (b : Nat) (hx : a.eval x = .pointer (some ⟨b, 41, none⟩)) {k : Int} {H : Nat → Int} (hy : a.eval y = .agg (elC k H)) {m m' : Int} {F G : Nat → Int} (hb : Box w b (prL m F m' G))
    (h : ∀ w', Box w' b (prL m F k H) → Frame b (b + 1) w w' → wpList Try.prog ops Q rest (a.put op.dst undef) w') : wpList Try.prog ops Q (op :: rest) a w := by
  refine wpList_store_mid hgd _ x y ho b 41 (elC k H) hx hy (by rw [elC_size]; exact hb.thereA 41 (by rw [prL_len]; decide)) (by rw [elC_size]; kernel_rfl) (all_oneCell_toArray elL_one) ?_
  rw [elC_list]
  have hB : Box (w.setCells b 41 (elL k H)) b (prL m F k H) := by have := hb.setB (us := elL k H) (by rw [elL_len, elL_len]); rwa [elL_len] at this
  exact h _ hB (Frame.setCells (Nat.le_refl _) (Nat.lt_succ_self _) _ 41 _ _ (Frame.refl _ _ _))
end
end Go.Proofs.Ytnhpodlcgkgpbaa
