/- The images of a number, all of them: l02Images of the model. -/
import Derived.Test.YtnhpodlcgkgpbaaImages
namespace Go.Proofs.Ytnhpodlcgkgpbaa
open Go.RowKit Go.ChangeShapes Go.Sort
set_option linter.unusedVariables false
set_option linter.unusedSimpArgs false

/-- Slices of the call's own, one for each element of a list, that lie apart from two blocks. -/
def Sls (w : World) (base g g2 m N : Nat) (vs : Nat → Value) (F : Nat → Nat → Int) : Prop :=
  ∀ i, i < m → ∃ lo hi, base ≤ lo ∧ (g < lo ∨ hi ≤ g) ∧ (g2 < lo ∨ hi ≤ g2) ∧ Sl true w lo hi (vs i) N (F i)
section
variable {w w' : World} {base g g2 m N : Nat} {vs : Nat → Value} {F : Nat → Nat → Int}
theorem Sls.keep {B : Nat} (h : Sls w base g g2 m N vs F) (hb : Below B w w') (hB : w.heap.size ≤ B) : Sls w' base g g2 m N vs F := fun i hi => by
  obtain ⟨lo, hi', h1, h2, h3, h4⟩ := h i hi
  exact ⟨lo, hi', h1, h2, h3, h4.keep hb (Nat.le_trans h4.size hB)⟩
theorem Sls.alloc (h : Sls w base g g2 m N vs F) (ob : Obj) : Sls (w.alloc ob) base g g2 m N vs F := h.keep ((Below.refl _ _).alloc (Nat.le_refl _) _) (Nat.le_refl _)
/-- The first list's block is written or moves. -/
theorem Sls.grown1 {g' : Nat} (h : Sls w base g g2 m N vs F) (hg : w.grownBy w' (some g)) (ho : g' = g ∨ g' = w.heap.size) : Sls w' base g' g2 m N vs F := fun i hi => by
  obtain ⟨lo, hi', h1, h2, h3, h4⟩ := h i hi
  have := h4.size
  exact ⟨lo, hi', h1, by omega, h3, h4.keepF (Frame.ofGrown hg) (by omega)⟩
theorem Sls.grown2 {g' : Nat} (h : Sls w base g g2 m N vs F) (hg : w.grownBy w' (some g2)) (ho : g' = g2 ∨ g' = w.heap.size) : Sls w' base g g' m N vs F := fun i hi => by
  obtain ⟨lo, hi', h1, h2, h3, h4⟩ := h i hi
  have := h4.size
  exact ⟨lo, hi', h1, h2, by omega, h4.keepF (Frame.ofGrown hg) (by omega)⟩
theorem Sls.push {lo hi : Nat} {u : Value} (h : Sls w base g g2 m N vs F) (hs : Sl true w lo hi u N (F m)) (h1 : base ≤ lo) (h2 : g < lo ∨ hi ≤ g) (h3 : g2 < lo ∨ hi ≤ g2) : Sls w base g g2 (m + 1) N (fun i => if i < m then vs i else u) F := fun i hi' => by
  by_cases e : i < m
  · obtain ⟨l, h, q⟩ := h i e
    exact ⟨l, h, by dsimp only; rw [if_pos e]; exact q⟩
  · obtain rfl : i = m := by omega
    exact ⟨lo, hi, h1, h2, h3, by dsimp only; rw [if_neg e]; exact hs⟩
end
theorem Row.keepF {w w' : World} {base g cap n lo hi : Nat} {f : Nat → Int} (h : Row w base g cap n f) (hf : Frame lo hi w w') (hd : g < lo ∨ hi ≤ g) : Row w' base g cap n f := by
  have hl := h.lt
  refine ⟨h.1, ?_⟩
  rcases h.2 with h2 | ⟨g', cap', cur, hv, hb, hh, r⟩
  · exact .inl h2
  · refine .inr ⟨g', cap', cur, hv, hb, ?_, r⟩
    cases hv
    rw [hf.block g hl.2 hd]; exact hh
theorem Row.keep {w w' : World} {base g cap n B : Nat} {f : Nat → Int} (h : Row w base g cap n f) (hb : Below B w w') (hB : w.heap.size ≤ B) : Row w' base g cap n f :=
  h.keepF (Frame.of_below (lo := w'.heap.size + g + 1) (hi := 0) hb hB) (by omega)
theorem Row.low {w : World} {base base' g cap n : Nat} {f : Nat → Int} (h : Row w base g cap n f) (hb : base' ≤ base) : Row w base' g cap n f := by
  refine ⟨h.1, ?_⟩
  rcases h.2 with h2 | ⟨g', cap', cur, hv, hb', r⟩
  · exact .inl h2
  · exact .inr ⟨g', cap', cur, hv, by omega, r⟩
theorem RowE.low {w : World} {base base' : Nat} {e : TypeId} {sz g cap m : Nat} {F : Nat → List Value} (h : RowE w base e sz g cap m F) (hb : base' ≤ base) : RowE w base' e sz g cap m F := by
  refine ⟨h.1, ?_⟩
  rcases h.2 with h2 | ⟨g', cap', cur, hv, hb', r⟩
  · exact .inl h2
  · exact .inr ⟨g', cap', cur, hv, by omega, r⟩
section
variable {o : Bool} {lo hi L : Nat} {v : Value} {f : Nat → Int}
theorem fold_nat {n a L : Nat} {f : Nat → Int} (h1 : 1 ≤ n) : redP n (foldP (ixG n (a : Int)) f L) = imgP n a L f := by
  unfold imgP
  rw [foldP_congr (ix' := ixI n a) (f' := f) (fun i _ => ⟨ixG_nat n a i h1, rfl⟩)]
end
end Go.Proofs.Ytnhpodlcgkgpbaa
