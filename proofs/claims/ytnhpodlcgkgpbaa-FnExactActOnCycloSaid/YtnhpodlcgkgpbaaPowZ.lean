/- PowerOfZ of the program and of the model. -/
import Derived.Test.YtnhpodlcgkgpbaaCycloOf
import Derived.Test.YtnhpodlcgkgpbaaZ
namespace Go.Proofs.Ytnhpodlcgkgpbaa
open Go.RowKit Go.ChangeShapes Go.Sort

/-- Which power of z it is. -/
def powIx (n : Nat) (k : Int) : Nat := ((k.tmod n + n) % n).toNat
theorem powIx_eq (n : Nat) (h1 : 1 ≤ n) (k : Int) : (k.tmod n + n) % n = (powIx n k : Int) ∧ powIx n k < n ∧ -(n : Int) < k.tmod n ∧ k.tmod n < n := by
  have h2 := Int.emod_nonneg (k.tmod n + n) (b := (n : Int)) (by omega)
  have h3 := Int.emod_lt_of_pos (k.tmod n + n) (b := (n : Int)) (by omega)
  have h4 := Int.tmod_lt_of_pos k (b := (n : Int)) (by omega)
  have h5 := Int.lt_tmod_of_pos k (b := (n : Int)) (by omega)
  unfold powIx
  omega
theorem pad_unit (k : Nat) : pad (k + 1) (fun j => if j = k then (1 : Int) else 0) = unit k := by
  funext j; unfold pad unit
  by_cases h : j = k
  · subst h; simp
  · by_cases h2 : j < k + 1 <;> simp [h, h2]
/-- Powers of z have small Parts. -/
theorem redP_unit {n : Nat} (hn : n < 17) (h1 : 1 ≤ n) {k : Nat} (hk : k < 24) : Within (redP n (unit k)) (phiN n) 1000000000 := by
  intro j hj
  have hp := phi_le12 n (by omega) h1
  have hs := redZ_unit_small hn h1 hk hj
  have e : redP n (unit k) j = redZ n (unit k) j := redP_exact hn h1 (fun i _ => (wrap_inR (by unfold unit inR; split <;> omega)).symm) (by omega) (by unfold inR; omega)
  rw [e]; omega

/-- The block that l01Unit lays. -/
theorem Sl.unitMade (w : World) (i : Nat) (hi : i < 24) : Sl true (w.alloc (.cells ((madeCells #[.int .i64 0] (i + 1)).setIfInBounds i (.int .i64 1)) 2)) w.heap.size (w.heap.size + 1) (.slice (some ⟨w.heap.size, 0, none⟩) (i + 1) (i + 1)) (i + 1) (fun j => if j = i then (1 : Int) else 0) :=
  Sl.made w _ _ (i + 1) (i + 1) _ (Nat.le_refl _) (by unfold maxLen; omega) (fun j _ => by unfold inR; split <;> omega) (fun j hj => by
    rw [Array.getElem?_setIfInBounds]
    by_cases e : i = j
    · subst e; rw [if_pos rfl, if_pos (by simp [madeCells])]; simp
    · rw [if_neg e, madeCells_at _ (i + 1) j hj]; simp [show ¬ j = i from fun h => e h.symm])

set_option maxRecDepth 100000 in
set_option maxHeartbeats 1000000 in
theorem l01Unit_any (n : Nat) (k : Int) (w : World) (h1 : 1 ≤ n) (h2 : n ≤ 16) :
    Calls Try.prog 146 #[.int .i64 (n : Int), .int .i64 k] w fun e w' => ∃ a cap, e = .returned (.agg #[.int .i64 (n : Int), .slice a (phiN n) cap]) ∧ Sl true w' w.heap.size w'.heap.size (.slice a (phiN n) cap) (phiN n) (redP n (unit (powIx n k))) ∧ Below w.heap.size w w' := by
  obtain ⟨hi1, hi2, hi3, hi4⟩ := powIx_eq n h1 k
  generalize powIx n k = i at *
  have hmk := run_make_row' (P := Try.prog) 22 2 (.int .i64 0) 8 Try.underlying22 Try.info2 rfl .i64 .i64 (i + 1) (by omega) (by omega)
  have ec : ((i + 1 : Nat) : Int) = (i : Int) + 1 := by omega
  rw [ec] at hmk
  clear ec
  obtain ⟨v3, hq1⟩ : ∃ v3, (madeCells #[.int .i64 0] (i + 1))[i]? = some v3 := ⟨_, madeCells_at _ (i + 1) i (by omega)⟩
  have hs := Sl.unitMade (w.alloc (.cells #[.int .i64 0, .slice none 0 0] 24)) i (by omega)
  simp only [World.size_alloc] at hs
  have st0 := ((((St.start w).alloc (.cells #[.int .i64 0, .slice none 0 0] 24)).addBox w.heap.size [.int .i64 0, .slice none 0 0] (Box.made _ _ _ _ (fun j v h => by simpa using h))).alloc (.cells ((madeCells #[.int .i64 0] (i + 1)).setIfInBounds i (.int .i64 1)) 2))
  go_enter Try.func146, Try.ntmps146
  go_wp2_with fail
  refine (l01Reduce_any n (by omega) (by omega) _ hs (by omega)).mono ?_
  rintro e w1 ⟨a1, k1, rfl, s1, b1⟩
  have hz1 := b1.size
  simp only [World.size_alloc] at hz1 s1
  rw [pad_unit] at s1
  have S1 := Lib.hid s1
  have st1 := st0.keep b1
  clear s1 hmk hq1 hs st0 b1
  obtain ⟨d0, d1⟩ := (st1.box 0 _ rfl).cell2
  have dz := (st1.box 0 _ rfl).2.2
  have B1 := st1.1
  dsimp only at dz
  go_wp2
  refine bodyPost_ret (v := .agg #[.int .i64 (n : Int), .slice a1 (phiN n) k1]) (by simp [results, Try.results146, go_sem, d0, d1]) rfl ?_
  refine ⟨_, _, rfl, ?_, by go_grown⟩
  exact ((S1.out.setOther (.inl (by show w.heap.size < _; omega)) _).setOther (.inl (by show w.heap.size < _; omega)) _).wide (by omega) (by simp) (Nat.le_refl _)

end Go.Proofs.Ytnhpodlcgkgpbaa
