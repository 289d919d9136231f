/- States whose boxes are written (the same as in XPlus: import one of the two). -/
import Derived.Test.YtonopjbccdpbhaaOwn
import Derived.Test.YtonopjbccdpbhaaState
import Derived.Deep.DeepCutAuto
namespace Go.Proofs.Ytonopjbccdpbhaa
open Go.RowKit Go.ChangeShapes Go.Sort
set_option linter.unusedVariables false
theorem cell_set2 {w : World} {b g i j k : Nat} {u v x : Value} (h : w.cell? ⟨g, k, none⟩ = some x) (hb : g ≠ b) : ((w.setCell ⟨b, i, none⟩ u).setCell ⟨b, j, none⟩ v).cell? ⟨g, k, none⟩ = some x :=
  (World.cell?_setCell_other _ _ _ _ (fun e => hb (by injection e with e1; exact e1.symm))).trans ((World.cell?_setCell_other _ _ _ _ (fun e => hb (by injection e with e1; exact e1.symm))).trans h)
theorem Box.set2 {w : World} {b : Nat} {v0 v1 u0 u1 : Value} (h : Box w b [v0, v1]) : Box ((w.setCell ⟨b, 0, none⟩ u0).setCell ⟨b, 1, none⟩ u1) b [u0, u1] := by
  obtain ⟨h1, h2, h3⟩ := h
  have c0 := h2 0 _ rfl
  have c1 := h2 1 _ rfl
  refine ⟨by simpa using h1, ?_, ?_⟩
  · intro j v hj
    rcases j with _ | _ | j
    · simp only [List.getElem?_cons_zero, Option.some.injEq] at hj
      subst hj
      rw [setCell_ne _ _ _ _ _ (by decide)]
      exact World.cell?_setCell_same _ _ _ c0
    · simp only [List.getElem?_cons_succ, List.getElem?_cons_zero, Option.some.injEq] at hj
      subst hj
      exact World.cell?_setCell_same _ _ _ (by rw [setCell_ne _ _ _ _ _ (by decide)]; exact c1)
    · simp at hj
  · intro j
    simpa using h3 j

theorem St.tail {W w : World} {bs : List (Nat × List Value)} {ss : List SlF} {s : SlF} (h : St W w bs (s :: ss)) : St W w bs ss := ⟨h.1, h.2.1, fun x hx => h.2.2 x (List.mem_cons_of_mem _ hx)⟩
theorem St.boxNew {W w : World} {bs : List (Nat × List Value)} {ss : List SlF} (h : St W w bs ss) (v0 v1 : Value) (t : TypeId) : St W (w.alloc (.cells #[v0, v1] t)) ((w.heap.size, [v0, v1]) :: bs) ss :=
  (h.alloc _).addBox _ _ (Box.made _ _ _ _ (fun j v h => by simpa using h))
theorem St.boxSet {W w : World} {bs : List (Nat × List Value)} {ss : List SlF} {b : Nat} {v0 v1 u0 u1 : Value} (h : St W w ((b, [v0, v1]) :: bs) ss) (hb : W.heap.size ≤ b) (hbs : ∀ x ∈ bs, x.1 < b ∨ b + 1 ≤ x.1) (hss : ∀ s ∈ ss, s.hi ≤ b ∨ b + 1 ≤ s.lo) :
    St W ((w.setCell ⟨b, 0, none⟩ u0).setCell ⟨b, 1, none⟩ u1) ((b, [u0, u1]) :: bs) ss := by
  have hbx := (h.box 0 _ rfl).set2 (u0 := u0) (u1 := u1)
  have h2 : St W w bs ss := ⟨h.1, fun x hx => h.2.1 x (List.mem_cons_of_mem _ hx), h.2.2⟩
  exact (h2.write (lo := b) (hi := b + 1) (((Frame.refl b (b + 1) w).setCell (Nat.le_refl _) (Nat.lt_succ_self _) _).setCell (Nat.le_refl _) (Nat.lt_succ_self _) _) hb hbs hss).addBox _ _ hbx

end Go.Proofs.Ytonopjbccdpbhaa
