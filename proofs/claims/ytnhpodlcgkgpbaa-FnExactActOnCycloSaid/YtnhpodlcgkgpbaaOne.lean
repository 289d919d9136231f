/- The number 1: oneOf of the program. -/
import Derived.Test.YtnhpodlcgkgpbaaImages2
import Derived.Test.YtnhpodlcgkgpbaaNormZ
namespace Go.Proofs.Ytnhpodlcgkgpbaa
open Go.RowKit Go.ChangeShapes Go.Sort
set_option linter.unusedVariables false
set_option linter.unusedSimpArgs false

set_option maxRecDepth 100000 in
set_option maxHeartbeats 1000000 in
theorem oneOf_any (n : Nat) (h1 : 1 ≤ n) (hn : n ≤ 16) (w : World) :
    Calls Try.prog 178 #[.int .i64 (n : Int)] w fun e w' => ∃ a cap, e = .returned (.agg #[.int .i64 (n : Int), .slice a (phiN n) cap]) ∧ Sl true w' w.heap.size w'.heap.size (.slice a (phiN n) cap) (phiN n) one0 ∧ Below w.heap.size w w' := by
  have hp := phi_le12 n hn h1
  have hp1 := phiN_pos n (by omega) h1
  have HT := Lib.hid (fun w => totient_below n w (by omega))
  generalize phiN n = N at *
  have hmk := run_make_row' (P := Try.prog) 22 2 (.int .i64 0) 8 Try.underlying22 Try.info2 rfl .i64 .i64 N (by omega) (by omega)
  have st0 := (St.start w).boxNew (.int .i64 0) (.slice none 0 0) 24
  go_enter Try.func178, Try.ntmps178
  go_wp2_with fail
  refine (HT.out _).mono ?_
  rintro e w4 ⟨rfl, b4⟩
  have st4 := st0.keep b4
  have hz4 := b4.size
  simp only [World.size_alloc] at hz4
  clear st0 b4
  have hml : (madeCells #[Value.int .i64 0] N).size = N := by simp [madeCells]
  have hsl := Sl.made w4 ((madeCells #[.int .i64 0] N).setIfInBounds 0 (.int .i64 1)) 2 N N one0 (Nat.le_refl _) (by unfold maxLen; omega) (fun j _ => by unfold one0 inR; split <;> decide) (fun j hj => by
    rw [Array.getElem?_setIfInBounds]
    unfold one0
    by_cases e : j = 0
    · subst e; rw [if_pos rfl, if_pos rfl, if_pos (by omega)]
    · rw [if_neg (fun h => e h.symm), if_neg e]; exact madeCells_at _ _ _ hj)
  have st5 := ((st4.alloc (.cells ((madeCells #[.int .i64 0] N).setIfInBounds 0 (.int .i64 1)) 2)).addSl ⟨true, w4.heap.size, w4.heap.size + 1, .slice (some ⟨w4.heap.size, 0, none⟩) N N, N, one0⟩ hsl).boxNew (.int .i64 (n : Int)) (.slice (some ⟨w4.heap.size, 0, none⟩) N N) 24
  simp only [World.size_alloc] at st5
  obtain ⟨c0, c1⟩ := (st5.box 0 _ rfl).cell2
  obtain ⟨d0, d1⟩ := (st5.box 1 _ rfl).cell2
  have dz := (st5.box 1 _ rfl).2.2
  have BB := st5.1
  have q0 := st5.sl 0 _ rfl
  dsimp only at c0 c1 d0 d1 dz q0
  have HQ := Lib.hid q0
  have p0 := (Sl.made w4 (madeCells #[.int .i64 0] N) 2 N N (fun _ => 0) (Nat.le_refl _) (by unfold maxLen; omega) (fun _ _ => by simp [inR]) (fun j hj => madeCells_at _ _ _ hj)).alloc (.cells #[.int .i64 (n : Int), .slice (some ⟨w4.heap.size, 0, none⟩) N N] 24)
  have k0 := (p0.known (by omega)).2.2.2.1 0 (by omega)
  have z0 := (p0.known (by omega)).2.2.2.2 rfl 0
  try rw [Nat.zero_add] at k0
  clear st4 st5 hsl q0 hml p0
  go_wp2
  refine bodyPost_ret (v := .agg #[.int .i64 (n : Int), .slice (some ⟨w4.heap.size, 0, none⟩) N N]) (by simp [results, Try.results178, go_sem, d0, d1]) rfl ?_
  refine ⟨_, _, rfl, ?_, by go_grown⟩
  exact ((HQ.out.setOther (.inl (by show w.heap.size < _; omega)) _).setOther (.inl (by show w.heap.size < _; omega)) _).wide (by omega) (by simp) (Nat.le_refl _)
end Go.Proofs.Ytnhpodlcgkgpbaa
