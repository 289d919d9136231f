/- Elements of group rings in memory: a Modulus and forty Parts. -/
import Derived.Test.YtnhpodlcgkgpbaaRow
import Derived.Test.YtnhpodlcgkgpbaaLeaf
import Derived.Test.YtnhpodlcgkgpbaaRgF
import Derived.Deep.MidRow
import Derived.Lib.QuietBelow
import Derived.BigQuiet
namespace Go.Proofs.Ytnhpodlcgkgpbaa
open Go.RowKit Go.ChangeShapes Go.Sort
set_option linter.unusedVariables false
set_option linter.unusedSimpArgs false
set_option maxRecDepth 100000

def ptL (F : Nat → Int) : List Value := (List.range 40).map (fun j => .int .i64 (F j))
def elL (m : Int) (F : Nat → Int) : List Value := .int .i64 m :: ptL F
def ptC (F : Nat → Int) : Array Value := (ptL F).toArray
def elC (m : Int) (F : Nat → Int) : Array Value := (elL m F).toArray
section
variable {F G : Nat → Int} {m : Int} {j : Nat}
theorem ptL_len : (ptL F).length = 40 := by simp [ptL]
theorem ptL_get (h : j < 40) : (ptL F)[j]? = some (.int .i64 (F j)) := by simp [ptL, h]
theorem elL_len : (elL m F).length = 41 := by simp [elL, ptL_len]
theorem elL_get (h : j < 40) : (elL m F)[j + 1]? = some (.int .i64 (F j)) := by simp [elL, ptL_get h]
theorem ptC_size : (ptC F).size = 40 := by simp [ptC, ptL_len]
theorem elC_size : (elC m F).size = 41 := by simp [elC, elL_len]
theorem ptC_get (h : j < 40) : (ptC F)[j]? = some (.int .i64 (F j)) := by simp [ptC, ptL_get h]
theorem elC_get (h : j < 40) : (elC m F)[j + 1]? = some (.int .i64 (F j)) := by simp [elC, elL_get h]
theorem ptL_one : ∀ v ∈ ptL F, v.oneCell' = true := fun v hv => by
  obtain ⟨j, _, rfl⟩ := List.mem_map.1 hv; rfl
theorem elL_one : ∀ v ∈ elL m F, v.oneCell' = true := fun v hv => by
  rcases List.mem_cons.1 hv with rfl | hv
  · rfl
  · exact ptL_one v hv
theorem ptL_congr (h : ∀ j, j < 40 → F j = G j) : ptL F = ptL G := List.map_congr_left (fun j hj => by rw [h j (List.mem_range.1 hj)])
theorem ptC_congr (h : ∀ j, j < 40 → F j = G j) : ptC F = ptC G := by unfold ptC; rw [ptL_congr h]
theorem elC_congr (h : ∀ j, j < 40 → F j = G j) : elC m F = elC m G := by unfold elC elL; rw [ptL_congr h]
theorem elL_congr (h : ∀ j, j < 40 → F j = G j) : elL m F = elL m G := by unfold elL; rw [ptL_congr h]
end
theorem run_index_ints {P : Program} (w : World) {T e : TypeId} {n k : Nat} {cs : Array Value} {v : Value} (hT : P.underlying T = some (.array n e)) (he : P.underlying e = some (.int .i64)) (hs : ∀ w, (sizeOf e).run P w = .ok 1 w) (hk : k < n) (hc : cs[k]? = some v) :
    (Instr.index T (.agg cs) (.int .i64 (k : Int))).run P w = .ok v w := by
  have hk' : (0 : Int) ≤ (k : Int) ∧ (k : Int) < (n : Int) := by omega
  simp [Instr.index, asIntOf, run_underlying hT, hs, hk, part, isAgg, run_underlying he, hc]
theorem elC_list {m : Int} {F : Nat → Int} : (elC m F).toList = elL m F := by simp [elC]
theorem ptC_list {F : Nat → Int} : (ptC F).toList = ptL F := by simp [ptC]
theorem Box.part {w : World} {b : Nat} {m : Int} {F : Nat → Int} (h : Box w b (elL m F)) {j : Nat} (hj : j < 40) : w.cell? ⟨b, 1 + j, none⟩ = some (.int .i64 (F j)) := by
  rw [Nat.add_comm]; exact h.2.1 (j + 1) _ (elL_get hj)
theorem Box.mod {w : World} {b : Nat} {m : Int} {F : Nat → Int} (h : Box w b (elL m F)) : w.cell? ⟨b, 0, none⟩ = some (.int .i64 m) := h.2.1 0 _ rfl
theorem Box.ppart {w : World} {b : Nat} {F : Nat → Int} (h : Box w b (ptL F)) {j : Nat} (hj : j < 40) : w.cell? ⟨b, j, none⟩ = some (.int .i64 (F j)) := h.2.1 j _ (ptL_get hj)
theorem Box.setPart {w : World} {b : Nat} {m : Int} {F : Nat → Int} {x : Int} {j : Nat} (h : Box w b (elL m F)) (hj : j < 40) : Box (w.setCell ⟨b, 1 + j, none⟩ (.int .i64 x)) b (elL m (fun i => if i = j then x else F i)) := by
  have hp := h.part hj
  obtain ⟨h1, h2, h3⟩ := h
  refine ⟨by simpa using h1, ?_, fun k => (World.frozen?_setCell _ _ _ _).trans (h3 k)⟩
  intro i v hv
  rcases i with _ | i
  · rw [setCell_ne _ _ _ _ _ (by omega)]; exact h2 0 v hv
  · by_cases hi : i < 40
    · rw [elL_get hi] at hv
      cases hv
      by_cases e : i = j
      · subst e
        rw [if_pos rfl, Nat.add_comm i 1]
        exact World.cell?_setCell_same _ _ _ hp
      · rw [if_neg e, setCell_ne _ _ _ _ _ (by omega)]
        exact h2 (i + 1) _ (elL_get hi)
    · rw [List.getElem?_eq_none (by rw [elL_len]; omega)] at hv; cases hv
theorem Box.psetPart {w : World} {b : Nat} {F : Nat → Int} {x : Int} {j : Nat} (h : Box w b (ptL F)) (hj : j < 40) : Box (w.setCell ⟨b, j, none⟩ (.int .i64 x)) b (ptL (fun i => if i = j then x else F i)) := by
  have hp := h.ppart hj
  obtain ⟨h1, h2, h3⟩ := h
  refine ⟨by simpa using h1, ?_, fun k => (World.frozen?_setCell _ _ _ _).trans (h3 k)⟩
  intro i v hv
  by_cases hi : i < 40
  · rw [ptL_get hi] at hv
    cases hv
    by_cases e : i = j
    · subst e
      rw [if_pos rfl]
      exact World.cell?_setCell_same _ _ _ hp
    · rw [if_neg e, setCell_ne _ _ _ _ _ e]
      exact h2 i _ (ptL_get hi)
  · rw [List.getElem?_eq_none (by rw [ptL_len]; omega)] at hv; cases hv
theorem Box.there {w : World} {b n : Nat} {vs : List Value} (h : Box w b vs) (hn : vs.length = n) : w.there b 0 n := fun j hj => by
  rw [Nat.zero_add]
  exact ⟨by rw [h.2.1 j _ (List.getElem?_eq_getElem (by omega))]; rfl, h.2.2 j⟩
theorem Box.setAll {w : World} {b : Nat} {vs us : List Value} (h : Box w b vs) (hn : vs.length = us.length) : Box (w.setCells b 0 us) b us := by
  refine ⟨by rw [size_setCells]; exact h.1, fun j v hv => ?_, fun k => (World.frozen?_setCells _ _ _ _ _).trans (h.2.2 k)⟩
  have := World.rangeAt_setCells_same w b 0 us (h.there hn) j v hv
  rwa [Nat.zero_add] at this
theorem Box.boxed (w : World) (t : TypeId) (vs : List Value) : Box (w.alloc (.cells vs.toArray t)) w.heap.size vs := Box.made _ _ _ _ (fun j v h => by simpa using h)
theorem el_zero (w : World) : (zeroValue 107).run Try.prog w = .ok (.agg (elC 0 (fun _ => 0))) w := by kernel_rfl
theorem pt_zero (w : World) : (zeroValue 105).run Try.prog w = .ok (.agg (ptC (fun _ => 0))) w := by kernel_rfl
theorem run_newVar {P : Program} (t : TypeId) (cs : Array Value) (w : World) (h : ¬ cs = #[]) : (newVar t (.agg cs)).run P w = .ok ⟨w.heap.size, 0, none⟩ (w.alloc (.cells cs t)) := by
  simp [newVar, newRow, Value.cells, h]
theorem ne_el {m : Int} {F : Nat → Int} : ¬ elC m F = #[] := fun e => by have := @elC_size F m; rw [e] at this; cases this
theorem ne_pt {F : Nat → Int} : ¬ ptC F = #[] := fun e => by have := @ptC_size F; rw [e] at this; cases this
theorem el_built (m : Int) : Try.prog.built 107 [(0, .int .i64 m)] = some (elC m (fun _ => 0)) := by kernel_rfl
theorem el_built0 : Try.prog.built 107 [] = some (elC 0 (fun _ => 0)) := by kernel_rfl
theorem ne_agg {C : Array Value} (h : C.size = 41) : ¬ C = #[] := fun e => by rw [e] at h; cases h
section
variable {W w w' : World} {b j : Nat} {bs bs' : List (Nat × List Value)} {ss ss' : List SlF} {vs us : List Value} {m x : Int} {F : Nat → Int}
theorem St.subR (h : St W w bs ss) (hb : ∀ b ∈ bs', b ∈ bs) (hs : ∀ s ∈ ss', s ∈ ss) : St W w bs' ss' := ⟨h.1, fun b hm => h.2.1 b (hb b hm), fun s hm => h.2.2 s (hs s hm)⟩
theorem St.headR (h : St W w ((b, vs) :: bs) ss) (hx : Box w' b us) (hf : Frame b (b + 1) w w') (hb : W.heap.size ≤ b) (hbs : ∀ x ∈ bs, x.1 < b ∨ b + 1 ≤ x.1) (hss : ∀ s ∈ ss, s.hi ≤ b ∨ b + 1 ≤ s.lo) : St W w' ((b, us) :: bs) ss :=
  ((h.subR (bs' := bs) (fun _ hm => List.mem_cons_of_mem _ hm) (fun _ hm => hm)).write hf hb hbs hss).addBox _ _ hx
theorem St.partR (h : St W w ((b, elL m F) :: bs) ss) (hj : j < 40) (hb : W.heap.size ≤ b) (hbs : ∀ x ∈ bs, x.1 < b ∨ b + 1 ≤ x.1) (hss : ∀ s ∈ ss, s.hi ≤ b ∨ b + 1 ≤ s.lo) :
    St W (w.setCell ⟨b, 1 + j, none⟩ (.int .i64 x)) ((b, elL m (fun i => if i = j then x else F i)) :: bs) ss :=
  h.headR ((h.box 0 (b, elL m F) rfl).setPart hj) ((Frame.refl _ _ _).setCell (p := ⟨b, 1 + j, none⟩) (Nat.le_refl _) (Nat.lt_succ_self _) _) hb hbs hss
theorem St.ppartR (h : St W w ((b, ptL F) :: bs) ss) (hj : j < 40) (hb : W.heap.size ≤ b) (hbs : ∀ x ∈ bs, x.1 < b ∨ b + 1 ≤ x.1) (hss : ∀ s ∈ ss, s.hi ≤ b ∨ b + 1 ≤ s.lo) :
    St W (w.setCell ⟨b, j, none⟩ (.int .i64 x)) ((b, ptL (fun i => if i = j then x else F i)) :: bs) ss :=
  h.headR ((h.box 0 (b, ptL F) rfl).psetPart hj) ((Frame.refl _ _ _).setCell (p := ⟨b, j, none⟩) (Nat.le_refl _) (Nat.lt_succ_self _) _) hb hbs hss
theorem St.elCongr {F' : Nat → Int} (h : St W w ((b, elL m F) :: bs) ss) (e : ∀ j, j < 40 → F j = F' j) : St W w ((b, elL m F') :: bs) ss := by rwa [← elL_congr e]
theorem St.ptCongr {F' : Nat → Int} (h : St W w ((b, ptL F) :: bs) ss) (e : ∀ j, j < 40 → F j = F' j) : St W w ((b, ptL F') :: bs) ss := by rwa [← ptL_congr e]
end
section
variable {ops : Array Oper} {rest : List Oper} {op : Oper} {a : Act} {w : World} {Q : Exit → Act → World → Prop}
theorem wpList_loadE (hgd : op.guard = none) (x : Operand) (ho : op.op = .load 107 x) (b : Nat) (hx : a.eval x = .pointer (some ⟨b, 0, none⟩)) {m : Int} {F : Nat → Int} (hb : Box w b (elL m F))
    (h : wpList Try.prog ops Q rest (a.put op.dst (.agg (elC m F))) w) : wpList Try.prog ops Q (op :: rest) a w :=
  wpList_load_mid hgd _ x ho b 0 hx (elL m F) _ (fun j v hv => by rw [Nat.zero_add]; exact hb.2.1 j v hv) Try.underlying107 rfl (by rw [elL_len]; kernel_rfl) h
theorem wpList_loadP (hgd : op.guard = none) (x : Operand) (ho : op.op = .load 105 x) (b : Nat) (hx : a.eval x = .pointer (some ⟨b, 1, none⟩)) {m : Int} {F : Nat → Int} (hb : Box w b (elL m F))
    (h : wpList Try.prog ops Q rest (a.put op.dst (.agg (ptC F))) w) : wpList Try.prog ops Q (op :: rest) a w :=
  wpList_load_mid hgd _ x ho b 1 hx (ptL F) _ (fun j v hv => by rw [Nat.add_comm]; exact hb.2.1 (j + 1) v hv) Try.underlying105 rfl (by rw [ptL_len]; kernel_rfl) h
theorem wpList_loadPP (hgd : op.guard = none) (x : Operand) (ho : op.op = .load 105 x) (b : Nat) (hx : a.eval x = .pointer (some ⟨b, 0, none⟩)) {F : Nat → Int} (hb : Box w b (ptL F))
    (h : wpList Try.prog ops Q rest (a.put op.dst (.agg (ptC F))) w) : wpList Try.prog ops Q (op :: rest) a w :=
  wpList_load_mid hgd _ x ho b 0 hx (ptL F) _ (fun j v hv => by rw [Nat.zero_add]; exact hb.2.1 j v hv) Try.underlying105 rfl (by rw [ptL_len]; kernel_rfl) h
theorem wpList_storeE (hgd : op.guard = none) (x y : Operand) (ho : op.op = .store 107 x y) (b : Nat) (hx : a.eval x = .pointer (some ⟨b, 0, none⟩)) {m : Int} {F : Nat → Int} (hy : a.eval y = .agg (elC m F)) {vs : List Value} (hb : Box w b vs) (hl : vs.length = 41)
    (h : ∀ w', Box w' b (elL m F) → Frame b (b + 1) w w' → wpList Try.prog ops Q rest (a.put op.dst undef) w') : wpList Try.prog ops Q (op :: rest) a w := by
  refine wpList_store_mid hgd _ x y ho b 0 (elC m F) hx hy (by rw [elC_size]; exact hb.there hl) (by rw [elC_size]; kernel_rfl) (all_oneCell_toArray elL_one) ?_
  rw [elC_list]
  exact h _ (hb.setAll (by rw [hl, elL_len])) (Frame.setCells (Nat.le_refl _) (Nat.lt_succ_self _) _ 0 _ _ (Frame.refl _ _ _))
theorem wpList_storePP (hgd : op.guard = none) (x y : Operand) (ho : op.op = .store 105 x y) (b : Nat) (hx : a.eval x = .pointer (some ⟨b, 0, none⟩)) {F : Nat → Int} (hy : a.eval y = .agg (ptC F)) {vs : List Value} (hb : Box w b vs) (hl : vs.length = 40)
    (h : ∀ w', Box w' b (ptL F) → Frame b (b + 1) w w' → wpList Try.prog ops Q rest (a.put op.dst undef) w') : wpList Try.prog ops Q (op :: rest) a w := by
  refine wpList_store_mid hgd _ x y ho b 0 (ptC F) hx hy (by rw [ptC_size]; exact hb.there hl) (by rw [ptC_size]; kernel_rfl) (all_oneCell_toArray ptL_one) ?_
  rw [ptC_list]
  exact h _ (hb.setAll (by rw [hl, ptL_len])) (Frame.setCells (Nat.le_refl _) (Nat.lt_succ_self _) _ 0 _ _ (Frame.refl _ _ _))
theorem wpList_allocE (hgd : op.guard = none) (ho : op.op = .alloc 107)
    (h : ∀ w', Box w' w.heap.size (elL 0 (fun _ => 0)) → Below w.heap.size w w' → w'.heap.size = w.heap.size + 1 → wpList Try.prog ops Q rest (a.put op.dst (.pointer (some ⟨w.heap.size, 0, none⟩))) w') : wpList Try.prog ops Q (op :: rest) a w := by
  refine wpList_plain hgd fun K hK => ?_
  unfold Oper.wp execOp
  have := hK _ _ (h _ (Box.boxed w 107 _) ((Below.refl _ _).alloc (Nat.le_refl _) _) (by simp))
  simp only [ho, Instr.alloc, Sem.run_bind, Sem.run_pure, Result.andThen_ok, el_zero, run_newVar _ _ _ ne_el]
  exact this
theorem wpList_allocPP (hgd : op.guard = none) (ho : op.op = .alloc 105)
    (h : ∀ w', Box w' w.heap.size (ptL (fun _ => 0)) → Below w.heap.size w w' → w'.heap.size = w.heap.size + 1 → wpList Try.prog ops Q rest (a.put op.dst (.pointer (some ⟨w.heap.size, 0, none⟩))) w') : wpList Try.prog ops Q (op :: rest) a w := by
  refine wpList_plain hgd fun K hK => ?_
  unfold Oper.wp execOp
  have := hK _ _ (h _ (Box.boxed w 105 _) ((Below.refl _ _).alloc (Nat.le_refl _) _) (by simp))
  simp only [ho, Instr.alloc, Sem.run_bind, Sem.run_pure, Result.andThen_ok, pt_zero, run_newVar _ _ _ ne_pt]
  exact this
theorem wpList_boxE (hgd : op.guard = none) (x : Operand) (ho : op.op = .box 107 x) {m : Int} {F : Nat → Int} (hx : a.eval x = .agg (elC m F))
    (h : ∀ w', Box w' w.heap.size (elL m F) → Below w.heap.size w w' → w'.heap.size = w.heap.size + 1 → wpList Try.prog ops Q rest (a.put op.dst (.pointer (some ⟨w.heap.size, 0, none⟩))) w') : wpList Try.prog ops Q (op :: rest) a w := by
  refine wpList_plain hgd fun K hK => ?_
  unfold Oper.wp execOp
  have := hK _ _ (h _ (Box.boxed w 107 _) ((Below.refl _ _).alloc (Nat.le_refl _) _) (by simp))
  simp only [ho, hx, Instr.box, Sem.run_bind, Sem.run_pure, Result.andThen_ok, run_newVar _ _ _ ne_el]
  exact this
theorem wpList_boxPP (hgd : op.guard = none) (x : Operand) (ho : op.op = .box 105 x) {F : Nat → Int} (hx : a.eval x = .agg (ptC F))
    (h : ∀ w', Box w' w.heap.size (ptL F) → Below w.heap.size w w' → w'.heap.size = w.heap.size + 1 → wpList Try.prog ops Q rest (a.put op.dst (.pointer (some ⟨w.heap.size, 0, none⟩))) w') : wpList Try.prog ops Q (op :: rest) a w := by
  refine wpList_plain hgd fun K hK => ?_
  unfold Oper.wp execOp
  have := hK _ _ (h _ (Box.boxed w 105 _) ((Below.refl _ _).alloc (Nat.le_refl _) _) (by simp))
  simp only [ho, hx, Instr.box, Sem.run_bind, Sem.run_pure, Result.andThen_ok, run_newVar _ _ _ ne_pt]
  exact this
theorem wpList_buildE (hgd : op.guard = none) (x : Operand) (ho : op.op = .build 107 #[(0, x)]) {m : Int} (hx : a.eval x = .int .i64 m)
    (h : wpList Try.prog ops Q rest (a.put op.dst (.agg (elC m (fun _ => 0)))) w) : wpList Try.prog ops Q (op :: rest) a w := by
  have e : Try.prog.built 107 ((#[(0, x)] : Array (Nat × Operand)).map fun (i, x) => (i, a.eval x)).toList = some (elC m (fun _ => 0)) := by
    have e1 : ((#[(0, x)] : Array (Nat × Operand)).map fun (i, x) => (i, a.eval x)).toList = [(0, a.eval x)] := by simp
    rw [e1, hx, el_built]
  refine wpList_build hgd _ _ ho (by rw [e]; rfl) ?_
  rw [e]
  exact h
theorem wpList_buildE0 (hgd : op.guard = none) (ho : op.op = .build 107 #[])
    (h : wpList Try.prog ops Q rest (a.put op.dst (.agg (elC 0 (fun _ => 0)))) w) : wpList Try.prog ops Q (op :: rest) a w := by
  have e : Try.prog.built 107 ((#[] : Array (Nat × Operand)).map fun (i, x) => (i, a.eval x)).toList = some (elC 0 (fun _ => 0)) := by
    have e1 : ((#[] : Array (Nat × Operand)).map fun (i, x) => (i, a.eval x)).toList = [] := by simp
    rw [e1, el_built0]
  refine wpList_build hgd _ _ ho (by rw [e]; rfl) ?_
  rw [e]
  exact h
end
section
variable {o : Oper} {a : Act} {w : World} {K : Act → World → Prop} {Q : Exit → Act → World → Prop} {m : Int} {F : Nat → Int} {b : Nat}
theorem wp_loadE (x : Operand) (ho : o.op = .load 107 x) (b : Nat) (hx : a.eval x = .pointer (some ⟨b, 0, none⟩)) (hb : Box w b (elL m F)) (h : K (a.put o.dst (.agg (elC m F))) w) : o.wp Try.prog a w K Q :=
  wp_load_mid _ x ho b 0 hx (elL m F) _ (fun j v hv => by rw [Nat.zero_add]; exact hb.2.1 j v hv) Try.underlying107 rfl (by rw [elL_len]; kernel_rfl) h
theorem wp_storeE (x y : Operand) (ho : o.op = .store 107 x y) (b : Nat) (hx : a.eval x = .pointer (some ⟨b, 0, none⟩)) (hy : a.eval y = .agg (elC m F)) {vs : List Value} (hb : Box w b vs) (hl : vs.length = 41)
    (h : ∀ w', Box w' b (elL m F) → Frame b (b + 1) w w' → K (a.put o.dst undef) w') : o.wp Try.prog a w K Q := by
  refine wp_store_mid _ x y ho b 0 (elC m F) hx hy (by rw [elC_size]; exact hb.there hl) (by rw [elC_size]; kernel_rfl) (all_oneCell_toArray elL_one) ?_
  rw [elC_list]
  exact h _ (hb.setAll (by rw [hl, elL_len])) (Frame.setCells (Nat.le_refl _) (Nat.lt_succ_self _) _ 0 _ _ (Frame.refl _ _ _))
end
/-- A long load in a region that only reads. -/
theorem wpQuiet_loadP {ops : Array Oper} {C : World → Prop} {Q : Act → Prop} {rest : List Oper} {o : Oper} {a : Act} (hw : Region.wanted o (yielded ops a.tmps) = true) (x : Operand) (ho : o.op = .load 105 x) (b : Nat) (hx : a.eval x = .pointer (some ⟨b, 1, none⟩)) {m : Int} {F : Nat → Int} (hb : ∀ w, C w → Box w b (elL m F))
    (h : wpQuiet Try.prog ops C Q rest (a.put o.dst (.agg (ptC F)))) : wpQuiet Try.prog ops C Q (o :: rest) a :=
  BigFrame.wpQuiet_want hw fun K hK => ⟨.agg (ptC F), fun w hw' => by
    unfold Oper.quietAt execOp
    have hl := run_loadVar_mid (P := Try.prog) w b 1 105 (ptL F) _ (fun j v hv => by rw [Nat.add_comm]; exact (hb w hw').2.1 (j + 1) v hv) Try.underlying105 rfl (by rw [ptL_len]; kernel_rfl)
    simp only [ho, hx, Instr.loadAt, Instr.sureAddr, Sem.run_bind, Sem.run_pure, Result.andThen_ok, hl]
    exact ⟨rfl, rfl⟩, hK _ h⟩
theorem ldE {w : World} {b : Nat} {m : Int} {F : Nat → Int} (hb : Box w b (elL m F)) : (loadVar 107 ⟨b, 0, none⟩).run Try.prog w = .ok (.agg (elC m F)) w :=
  run_loadVar_mid w b 0 _ (elL m F) _ (fun j v hv => by rw [Nat.zero_add]; exact hb.2.1 j v hv) Try.underlying107 rfl (by rw [elL_len]; kernel_rfl)
theorem ldPP {w : World} {b : Nat} {F : Nat → Int} (hb : Box w b (ptL F)) : (loadVar 105 ⟨b, 0, none⟩).run Try.prog w = .ok (.agg (ptC F)) w :=
  run_loadVar_mid w b 0 _ (ptL F) _ (fun j v hv => by rw [Nat.zero_add]; exact hb.2.1 j v hv) Try.underlying105 rfl (by rw [ptL_len]; kernel_rfl)
section
variable {fn : Func} {tmps : Array Value} {w : World} {p q p2 b b2 : Nat} {m m2 : Int} {F F2 : Nat → Int} {v : Value}
theorem resE (h : fn.results = #[.cell p 107]) (hp : tmps.getD p undef = .pointer (some ⟨b, 0, none⟩)) (hb : Box w b (elL m F)) : (results fn tmps).run Try.prog w = .ok (.agg (elC m F)) w := by
  have hp' : tmps[p]?.getD undef = .pointer (some ⟨b, 0, none⟩) := by simpa using hp
  simp [results, h, hp', asAddr, ldE hb]
theorem resPP (h : fn.results = #[.cell p 105]) (hp : tmps.getD p undef = .pointer (some ⟨b, 0, none⟩)) (hb : Box w b (ptL F)) : (results fn tmps).run Try.prog w = .ok (.agg (ptC F)) w := by
  have hp' : tmps[p]?.getD undef = .pointer (some ⟨b, 0, none⟩) := by simpa using hp
  simp [results, h, hp', asAddr, ldPP hb]
theorem resE1 (h : fn.results = #[.cell p 107, .tmp q]) (hp : tmps.getD p undef = .pointer (some ⟨b, 0, none⟩)) (hq : tmps.getD q undef = v) (hb : Box w b (elL m F)) : (results fn tmps).run Try.prog w = .ok (.tuple #[.agg (elC m F), v]) w := by
  have hp' : tmps[p]?.getD undef = .pointer (some ⟨b, 0, none⟩) := by simpa using hp
  have hq' : tmps[q]?.getD undef = v := by simpa using hq
  simp [results, h, hp', hq', asAddr, ldE hb]
theorem resE2 (h : fn.results = #[.cell p 107, .cell p2 107, .tmp q]) (hp : tmps.getD p undef = .pointer (some ⟨b, 0, none⟩)) (hp2 : tmps.getD p2 undef = .pointer (some ⟨b2, 0, none⟩)) (hq : tmps.getD q undef = v) (hb : Box w b (elL m F)) (hb2 : Box w b2 (elL m2 F2)) : (results fn tmps).run Try.prog w = .ok (.tuple #[.agg (elC m F), .agg (elC m2 F2), v]) w := by
  have hp' : tmps[p]?.getD undef = .pointer (some ⟨b, 0, none⟩) := by simpa using hp
  have hp2' : tmps[p2]?.getD undef = .pointer (some ⟨b2, 0, none⟩) := by simpa using hp2
  have hq' : tmps[q]?.getD undef = v := by simpa using hq
  simp [results, h, hp', hp2', hq', asAddr, ldE hb, ldE hb2]
end
end Go.Proofs.Ytnhpodlcgkgpbaa
