/- PowerOfZ of the program and of the model. -/
import Derived.Test.YtopapdahpeemfaaDoorCycloOf
import Derived.Test.YtopapdahpeemfaaDoorZ
namespace Go.Proofs.YtopapdahpeemfaaDoor
open Go.RowKit Go.ChangeShapes Go.Sort

/-- Which power of z it is. -/
def powIx (n : Nat) (k : Int) : Nat := ((k.tmod n + n) % n).toNat
theorem powIx_eq (n : Nat) (h1 : 1 ≤ n) (k : Int) : (k.tmod n + n) % n = (powIx n k : Int) ∧ powIx n k < n ∧ -(n : Int) < k.tmod n ∧ k.tmod n < n := by
  have h2 := Int.emod_nonneg (k.tmod n + n) (b := (n : Int)) (by omega)
  have h3 := Int.emod_lt_of_pos (k.tmod n + n) (b := (n : Int)) (by omega)
  have h4 := Int.tmod_lt_of_pos k (b := (n : Int)) (by omega)
  have h5 := Int.lt_tmod_of_pos k (b := (n : Int)) (by omega)
  unfold powIx
  omega
theorem pad_unit (k : Nat) : pad (k + 1) (fun j => if j = k then (1 : Int) else 0) = unit k := by
  funext j; unfold pad unit
  by_cases h : j = k
  · subst h; simp
  · by_cases h2 : j < k + 1 <;> simp [h, h2]
/-- Powers of z have small Parts. -/
theorem redP_unit {n : Nat} (hn : n < 17) (h1 : 1 ≤ n) {k : Nat} (hk : k < 24) : Within (redP n (unit k)) (phiN n) 1000000000 := by
  intro j hj
  have hp := phi_le12 n (by omega) h1
  have hs := redZ_unit_small hn h1 hk hj
  have e : redP n (unit k) j = redZ n (unit k) j := redP_exact hn h1 (fun i _ => (wrap_inR (by unfold unit inR; split <;> omega)).symm) (by omega) (by unfold inR; omega)
  rw [e]; omega

/-- The block that l01Unit lays. -/
theorem Sl.unitMade (w : World) (i : Nat) (hi : i < 24) : Sl true (w.alloc (.cells ((madeCells #[.int .i64 0] (i + 1)).setIfInBounds i (.int .i64 1)) 2)) w.heap.size (w.heap.size + 1) (.slice (some ⟨w.heap.size, 0, none⟩) (i + 1) (i + 1)) (i + 1) (fun j => if j = i then (1 : Int) else 0) :=
  Sl.made w _ _ (i + 1) (i + 1) _ (Nat.le_refl _) (by unfold maxLen; omega) (fun j _ => by unfold inR; split <;> omega) (fun j hj => by
    rw [Array.getElem?_setIfInBounds]
    by_cases e : i = j
    · subst e; rw [if_pos rfl, if_pos (by simp [madeCells])]; simp
    · rw [if_neg e, madeCells_at _ (i + 1) j hj]; simp [show ¬ j = i from fun h => e h.symm])

end Go.Proofs.YtopapdahpeemfaaDoor
