/- Arrays of twelve: arrayOf, cycloWithin. -/
import Derived.Test.YtnhpodlcgkgpbaaRed
namespace Go.Proofs.Ytnhpodlcgkgpbaa
open Go.RowKit Go.ChangeShapes Go.Sort

def arrC (f : Nat → Int) : Array Value := #[.int .i64 (f 0), .int .i64 (f 1), .int .i64 (f 2), .int .i64 (f 3), .int .i64 (f 4), .int .i64 (f 5), .int .i64 (f 6), .int .i64 (f 7), .int .i64 (f 8), .int .i64 (f 9), .int .i64 (f 10), .int .i64 (f 11)]
theorem arrC_get (f : Nat → Int) (j : Nat) (h : j < 12) : (arrC f)[j]? = some (.int .i64 (f j)) := by
  match j, h with
  | 0, _ => rfl
  | 1, _ => rfl
  | 2, _ => rfl
  | 3, _ => rfl
  | 4, _ => rfl
  | 5, _ => rfl
  | 6, _ => rfl
  | 7, _ => rfl
  | 8, _ => rfl
  | 9, _ => rfl
  | 10, _ => rfl
  | 11, _ => rfl
/-- An array just laid, as a slice. -/
theorem Sl.arr (w : World) (f : Nat → Int) (t : TypeId) (hf : ∀ j, j < 12 → inR (f j)) : Sl true (w.alloc (.cells (arrC f) t)) w.heap.size (w.heap.size + 1) (.slice (some ⟨w.heap.size, 0, none⟩) 12 12) 12 f :=
  Sl.made w _ _ 12 12 f (Nat.le_refl _) (by unfold maxLen; omega) hf (fun j hj => arrC_get f j hj)

theorem Try.size1_2 : (Try.prog.info? 2).map (·.size) = some 1 := by kernel_rfl

section
variable {o : Bool} {lo hi n : Nat} {v : Value} {f : Nat → Int}
set_option maxRecDepth 100000 in
set_option maxHeartbeats 1000000 in
theorem cycloWithin_no (n : Int) (w : World) (hr : ∀ j, j < 12 → inR (f j)) (hw : ¬ Within f 12 1000000000) :
    Calls Try.prog 185 #[.int .i64 n, arrV f] w fun e w' => e = .returned (.tuple #[.agg #[.int .i64 0, .slice none 0 0], .int .i64 3]) ∧ Below w.heap.size w w' := by
  have ha := (Sl.arr w f 136 hr).alloc (.cells #[.int .i64 0, .slice none 0 0] 24)
  have HW := Lib.hid hw; clear hw hr
  have HA := Lib.hid ha; clear ha
  unfold arrV
  go_enter Try.func185, Try.ntmps185
  go_wp2_with (go_at_call 168; refine (areWithin_no _ _ (by omega) (by omega) HA.out HW.out).mono ?_; rintro e w' ⟨rfl, rfl⟩)
  go_returns
  refine ⟨rfl, by go_grown⟩

theorem totient_below (n : Nat) (w : World) (hn : n ≤ 1000) :
    Calls Try.prog 119 #[.int .i64 (n : Int)] w fun e w' => e = .returned (.int .i64 (phiN n : Nat)) ∧ Below w.heap.size w w' :=
  (totient_any (n : Int) w (by omega)).mono fun _ _ ⟨he, m, hw⟩ => ⟨he, hw ▸ below_drewN (Below.refl _ _) m⟩

set_option maxRecDepth 100000 in
set_option maxHeartbeats 1000000 in
theorem cycloWithin_yes (n : Nat) (h1 : 1 ≤ n) (hn : n ≤ 16) (w : World) (hw : Within f 12 1000000000) :
    Calls Try.prog 185 #[.int .i64 (n : Int), arrV f] w fun e w' => ∃ a cap, e = .returned (.tuple #[.agg #[.int .i64 (n : Int), .slice a (phiN n) cap], .int .i64 0]) ∧ Sl true w' w.heap.size w'.heap.size (.slice a (phiN n) cap) (phiN n) f ∧ Below w.heap.size w w' := by
  have hr : ∀ j, j < 12 → inR (f j) := fun j hj => by have := hw j hj; unfold inR; omega
  have hp := phi_le12 n hn h1
  have hp1 := phiN_pos n (by omega) h1
  have HW := Lib.hid hw; clear hw
  have HT := Lib.hid (fun w => totient_below n w (by omega))
  generalize phiN n = N at *
  have hmk := run_make_row' (P := Try.prog) 22 2 (.int .i64 0) 8 Try.underlying22 Try.info2 rfl .i64 .i64 N (by omega) (by omega)
  have st0 := (((((St.start w).alloc (.cells (arrC f) 136)).addSl ⟨true, w.heap.size, w.heap.size + 1, .slice (some ⟨w.heap.size, 0, none⟩) 12 12, 12, f⟩ (Sl.arr w f _ hr)).alloc
    (.cells #[.int .i64 0, .slice none 0 0] 24)).addBox _ [.int .i64 0, .slice none 0 0] (Box.made _ _ _ _ (fun j v h => by simpa using h)))
  simp only [World.size_alloc] at st0
  unfold arrV
  go_enter Try.func185, Try.ntmps185
  go_wp2_with fail
  refine (areWithin_yes _ _ (by omega) (by omega) (st0.sl 0 ⟨true, w.heap.size, w.heap.size + 1, .slice (some ⟨w.heap.size, 0, none⟩) 12 12, 12, f⟩ rfl) HW.out).mono ?_
  rintro e w' ⟨rfl, rfl⟩
  go_wp2_with fail
  refine (HT.out _).mono ?_
  rintro e w4 ⟨rfl, b4⟩
  have st4 := st0.keep b4
  have hz4 := b4.size
  simp only [World.size_alloc] at hz4
  clear st0 b4
  have st5 := (st4.alloc (.cells (madeCells #[.int .i64 0] N) 2)).addSl ⟨true, w4.heap.size, w4.heap.size + 1, .slice (some ⟨w4.heap.size, 0, none⟩) N N, N, fun _ => 0⟩
    (Sl.made w4 (madeCells #[.int .i64 0] N) 2 N N (fun _ => 0) (Nat.le_refl _) (by unfold maxLen; omega) (fun _ _ => by simp [inR]) (fun j hj => madeCells_at _ _ _ hj))
  have q0 := st5.sl 0 _ rfl
  have q1 := st5.sl 1 _ rfl
  dsimp only at q0 q1
  have hcp := run_copy_ints (P := Try.prog) q0 0 N (by omega) N N 12 q1 (by show N = min 12 N; omega) (by
      rcases q1.parts with ⟨h, _⟩ | ⟨ad, cap, h, hh⟩
      · cases h
      · cases h; exact hh) 22 2 3 Try.underlying22 Try.size1_2
  have q2 := (q0.setInts 0 N (by omega) f (fun j hj => hr j (by omega))).congr (f' := f) (fun j hj => by simp [hj])
  have F6 := Frame.setCells (lo := w4.heap.size) (hi := w4.heap.size + 1) (Nat.le_refl _) (Nat.lt_succ_self _) (ints N f) 0 _ _ (Frame.refl _ _ (w4.alloc (.cells (madeCells #[.int .i64 0] N) 2)))
  have bx := (st5.box 0 _ rfl).keepF F6 (.inl (by show w.heap.size + 1 < w4.heap.size; omega))
  have B6 := st5.1.trans (F6.below (by omega) st5.1.size)
  simp only [Nat.add_zero] at hcp q2
  have hz6 := F6.size
  simp only [World.size_alloc] at hz6
  generalize (w4.alloc (.cells (madeCells #[.int .i64 0] N) 2)).setCells w4.heap.size 0 (ints N f) = w6 at *
  obtain ⟨c0, c1⟩ := bx.cell2
  have hfz := bx.2.2
  dsimp only at c0 c1 hfz
  have Q2 := Lib.hid q2
  clear q0 q1 q2 bx st5 st4 F6
  go_wp2
  refine bodyPost_ret (v := .tuple #[.agg #[.int .i64 (n : Int), .slice (some ⟨w4.heap.size, 0, none⟩) N N], .int .i64 0]) (by simp [results, Try.results185, go_sem, c0, c1]) rfl ?_
  refine ⟨_, _, rfl, ?_, by go_grown⟩
  exact ((Q2.out.setOther (.inl (by show w.heap.size + 1 < _; omega)) _).setOther (.inl (by show w.heap.size + 1 < _; omega)) _).wide (by omega) (by simp; omega) (Nat.le_refl _)
end
end Go.Proofs.Ytnhpodlcgkgpbaa
