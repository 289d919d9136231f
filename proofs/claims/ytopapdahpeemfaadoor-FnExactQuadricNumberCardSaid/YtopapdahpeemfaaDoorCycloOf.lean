/- l01Told; CycloOf of the program and of the model. -/
import Derived.Test.YtopapdahpeemfaaDoorSpecRed
import Derived.Test.YtopapdahpeemfaaDoorArr
import Derived.Test.YtopapdahpeemfaaDoorIs
namespace Go.Proofs.YtopapdahpeemfaaDoor
open Go.RowKit Go.ChangeShapes Go.Sort

/-- What a failing function of chapter 1 hands back. -/
def failV (c : Int) : Value := .tuple #[.agg #[.int .i64 0, .slice none 0 0], .int .i64 c]

section
variable {o : Bool} {lo hi L : Nat} {v : Value} {f : Nat → Int}
/-- The conditions of CycloOf. -/
def cycloOfOk (n : Int) (L : Nat) (f : Nat → Int) : Prop := 1 ≤ n ∧ n ≤ 16 ∧ (L : Int) ≤ n ∧ Within f L 1000000000

theorem make24 (w : World) : (Instr.makeSlice 22 (.int .i64 24) (.int .i64 24)).run Tryd.prog w = .ok (.slice (some ⟨w.heap.size, 0, none⟩) 24 24) (w.alloc (.cells (madeCells #[.int .i64 0] 24) 2)) :=
  run_make_row' (P := Tryd.prog) 22 2 (.int .i64 0) 8 Tryd.underlying22 Tryd.info2 rfl .i64 .i64 24 (by omega) (by omega) w
theorem Sl.made24 (w : World) : Sl true (w.alloc (.cells (madeCells #[.int .i64 0] 24) 2)) w.heap.size (w.heap.size + 1) (.slice (some ⟨w.heap.size, 0, none⟩) 24 24) 24 (fun _ => 0) :=
  Sl.made w _ _ 24 24 _ (Nat.le_refl _) (by unfold maxLen; omega) (fun _ _ => by simp [inR]) (fun j hj => madeCells_at _ _ _ hj)

theorem Within.inR {f : Nat → Int} {n : Nat} (h : Within f n 1000000000) : ∀ j, j < n → Go.Proofs.YtopapdahpeemfaaDoor.inR (f j) := fun j hj => by have := h j hj; unfold Go.Proofs.YtopapdahpeemfaaDoor.inR; omega

/-- The 24 places of the program's list, with a list in front: what copy leaves. -/
theorem copied24 {w : World} {lo hi lo' hi' L cap : Nat} {o : Bool} {a : Option Addr} {f : Nat → Int} {g : Nat} (h : Sl true w lo hi (.slice (some ⟨g, 0, none⟩) 24 24) 24 (fun _ => 0)) (h' : Sl o w lo' hi' (.slice a L cap) L f) (hL : L ≤ 24) (hl : lo ≤ g) (hh : g < hi) :
    ∃ w', (∀ ty, (Builtin.copy_ #[22, 22] ty #[.slice (some ⟨g, 0, none⟩) 24 24, .slice a L cap]).run Tryd.prog w = .ok (goInt L) w') ∧ Sl true w' lo hi (.slice (some ⟨g, 0, none⟩) 24 24) 24 (pad L f) ∧ Frame lo hi w w' := by
  refine ⟨w.setCells g 0 (ints L f), fun ty => ?_, ?_, Frame.setCells hl hh _ _ _ _ (Frame.refl _ _ _)⟩
  · have := run_copy_sl (P := Tryd.prog) h 0 L (by omega) 24 24 cap h' (by show L = min L 24; omega) 22 2 ty Tryd.underlying22 Tryd.size1_2
    simpa using this
  · have := h.setInts 0 L (by omega) f (fun j hj => h'.bd j hj)
    exact this.congr (fun j hj => by unfold pad; by_cases e : j < L <;> simp [e])

/-- reducedParts, cycloWithin: how the functions of chapter 1 end. -/
theorem cut_within {n : Nat} {g : Nat → Int} (hn : phiN n ≤ 12) : Within (cut (phiN n) g) 12 1000000000 ↔ Within g (phiN n) 1000000000 := by
  constructor
  · intro h j hj
    have := h j (by omega)
    unfold cut at this
    rwa [if_pos hj] at this
  · intro h j _
    unfold cut
    by_cases e : j < phiN n
    · rw [if_pos e]; exact h j e
    · rw [if_neg e]; omega

theorem pad_inR {L : Nat} {f : Nat → Int} (h : ∀ j, j < L → inR (f j)) (j : Nat) : inR (pad L f j) := by
  unfold pad; split
  · exact h j ‹_›
  · unfold inR; omega
theorem redP_inR (n : Nat) (P : Nat → Int) (h : ∀ j, j < 24 → inR (P j)) : ∀ j, j < 24 → inR (redP n P j) := divL_inR _ h
theorem cut_inR (n : Nat) (g : Nat → Int) (m : Nat) (h : ∀ j, j < m → inR (g j)) : ∀ j, j < m → inR (cut n g j) := fun j hj => by
  unfold cut; split
  · exact h j hj
  · unfold inR; omega

end
end Go.Proofs.YtopapdahpeemfaaDoor
