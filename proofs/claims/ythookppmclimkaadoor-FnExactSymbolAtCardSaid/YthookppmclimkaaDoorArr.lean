/- Arrays of twelve: arrayOf, cycloWithin. -/
import Derived.Test.YthookppmclimkaaDoorRed
namespace Go.Proofs.YthookppmclimkaaDoor
open Go.RowKit Go.ChangeShapes Go.Sort

def arrC (f : Nat → Int) : Array Value := #[.int .i64 (f 0), .int .i64 (f 1), .int .i64 (f 2), .int .i64 (f 3), .int .i64 (f 4), .int .i64 (f 5), .int .i64 (f 6), .int .i64 (f 7), .int .i64 (f 8), .int .i64 (f 9), .int .i64 (f 10), .int .i64 (f 11)]
theorem arrC_get (f : Nat → Int) (j : Nat) (h : j < 12) : (arrC f)[j]? = some (.int .i64 (f j)) := by
  match j, h with
  | 0, _ => rfl
  | 1, _ => rfl
  | 2, _ => rfl
  | 3, _ => rfl
  | 4, _ => rfl
  | 5, _ => rfl
  | 6, _ => rfl
  | 7, _ => rfl
  | 8, _ => rfl
  | 9, _ => rfl
  | 10, _ => rfl
  | 11, _ => rfl
/-- An array just laid, as a slice. -/
theorem Sl.arr (w : World) (f : Nat → Int) (t : TypeId) (hf : ∀ j, j < 12 → inR (f j)) : Sl true (w.alloc (.cells (arrC f) t)) w.heap.size (w.heap.size + 1) (.slice (some ⟨w.heap.size, 0, none⟩) 12 12) 12 f :=
  Sl.made w _ _ 12 12 f (Nat.le_refl _) (by unfold maxLen; omega) hf (fun j hj => arrC_get f j hj)

theorem Tryd.size1_2 : (Tryd.prog.info? 2).map (·.size) = some 1 := by kernel_rfl

section
variable {o : Bool} {lo hi n : Nat} {v : Value} {f : Nat → Int}
set_option maxRecDepth 100000 in
set_option maxHeartbeats 1000000 in
theorem arrayOf_any (w : World) (hs : Sl o w lo hi v n f) (h0 : 0 < n) (hn : n ≤ 12) :
    Calls Tryd.prog 89 #[v] w fun e w' => e = .returned (arrV (cut n f)) ∧ Below w.heap.size w w' := by
  obtain ⟨g1, off1, c1, rfl, _, hg1', _⟩ := hs.at h0
  have hz1 := hs.size
  have hs1 := (hs.alloc (.cells (arrC (fun _ => 0)) 70)).alloc (.cells (arrC (fun _ => 0)) 70)
  have ha := Sl.arr (w.alloc (.cells (arrC (fun _ => 0)) 70)) (fun _ => 0) 70 (fun _ _ => by simp [inR])
  have hcp := run_copy_ints (P := Tryd.prog) ha 0 n (by omega) 12 12 c1 hs1 (by show n = min n 12; omega) (by
    rcases hs1.parts with ⟨h, _⟩ | ⟨ad, cap, h, hh⟩
    · cases h
    · cases h; exact hh) 24 2 3 Tryd.underlying24 Tryd.size1_2
  have hw3 := (ha.setInts 0 n (by omega) f (fun j hj => hs.bd j hj)).congr (f' := cut n f) (fun j hj => by unfold cut; by_cases e : j < n <;> simp [e])
  have hbx := ((Box.made w (arrC (fun _ => 0)) 70 [.int .i64 0, .int .i64 0, .int .i64 0, .int .i64 0, .int .i64 0, .int .i64 0, .int .i64 0, .int .i64 0, .int .i64 0, .int .i64 0, .int .i64 0, .int .i64 0] (fun j v h => by simpa [arrC] using h)).keep ((Below.refl _ _).alloc (Nat.le_refl _) (.cells (arrC (fun _ => 0)) 70))).keepF
    (Frame.setCells (lo := w.heap.size + 1) (hi := w.heap.size + 2) (Nat.le_refl _) (by omega) (ints n f) 0 _ _ (Frame.refl _ _ _)) (.inl (by omega))
  have hb3 : Below w.heap.size w (((w.alloc (.cells (arrC (fun _ => 0)) 70)).alloc (.cells (arrC (fun _ => 0)) 70)).setCells (w.heap.size + 1) 0 (ints n f)) :=
    (((Below.refl _ _).alloc (Nat.le_refl _) _).alloc (by simp) _).trans ((Frame.setCells (lo := w.heap.size + 1) (hi := w.heap.size + 2) (Nat.le_refl _) (by omega) (ints n f) 0 _ _ (Frame.refl _ _ _)).below (by omega) (by simp; omega))
  simp only [Nat.add_zero, World.size_alloc] at hcp hw3
  generalize hw : ((w.alloc (.cells (arrC (fun _ => 0)) 70)).alloc (.cells (arrC (fun _ => 0)) 70)).setCells (w.heap.size + 1) 0 (ints n f) = w3 at *
  clear hw
  unfold arrC at hcp
  have hcell := (hw3.known (by omega)).2.2.2.1
  have d0 := hcell 0 (by omega)
  have d1 := hcell 1 (by omega)
  have d2 := hcell 2 (by omega)
  have d3 := hcell 3 (by omega)
  have d4 := hcell 4 (by omega)
  have d5 := hcell 5 (by omega)
  have d6 := hcell 6 (by omega)
  have d7 := hcell 7 (by omega)
  have d8 := hcell 8 (by omega)
  have d9 := hcell 9 (by omega)
  have d10 := hcell 10 (by omega)
  have d11 := hcell 11 (by omega)
  simp only [Nat.zero_add] at d0 d1 d2 d3 d4 d5 d6 d7 d8 d9 d10 d11
  have e0 := hbx.2.1 0 _ rfl
  have e1 := hbx.2.1 1 _ rfl
  have e2 := hbx.2.1 2 _ rfl
  have e3 := hbx.2.1 3 _ rfl
  have e4 := hbx.2.1 4 _ rfl
  have e5 := hbx.2.1 5 _ rfl
  have e6 := hbx.2.1 6 _ rfl
  have e7 := hbx.2.1 7 _ rfl
  have e8 := hbx.2.1 8 _ rfl
  have e9 := hbx.2.1 9 _ rfl
  have e10 := hbx.2.1 10 _ rfl
  have e11 := hbx.2.1 11 _ rfl
  have hfz := hbx.2.2
  have hlt := hbx.1
  clear hcell hbx ha hs1 hw3
  generalize cut n f = cc at *
  go_enter Tryd.func89, Tryd.ntmps89
  go_wp2
  refine bodyPost_ret (v := arrV cc) (by simp [results, Tryd.results89, go_sem, arrV, e0, e1, e2, e3, e4, e5, e6, e7, e8, e9, e10, e11]) rfl ?_
  refine ⟨rfl, ?_⟩
  go_grown

set_option maxRecDepth 100000 in
set_option maxHeartbeats 1000000 in
theorem cycloWithin_no (n : Int) (w : World) (hr : ∀ j, j < 12 → inR (f j)) (hw : ¬ Within f 12 1000000000) :
    Calls Tryd.prog 50 #[.int .i64 n, arrV f] w fun e w' => e = .returned (.tuple #[.agg #[.int .i64 0, .slice none 0 0], .int .i64 3]) ∧ Below w.heap.size w w' := by
  have ha := (Sl.arr w f 70 hr).alloc (.cells #[.int .i64 0, .slice none 0 0] 26)
  have HW := Lib.hid hw; clear hw hr
  have HA := Lib.hid ha; clear ha
  unfold arrV
  go_enter Tryd.func50, Tryd.ntmps50
  go_wp2_with (go_at_call 49; refine (areWithin_no _ _ (by omega) (by omega) HA.out HW.out).mono ?_; rintro e w' ⟨rfl, rfl⟩)
  go_returns
  refine ⟨rfl, by go_grown⟩

theorem totient_below (n : Nat) (w : World) (hn : n ≤ 1000) :
    Calls Tryd.prog 72 #[.int .i64 (n : Int)] w fun e w' => e = .returned (.int .i64 (phiN n : Nat)) ∧ Below w.heap.size w w' :=
  (totient_any (n : Int) w (by omega)).mono fun _ _ ⟨he, m, hw⟩ => ⟨he, hw ▸ below_drewN (Below.refl _ _) m⟩

set_option maxRecDepth 100000 in
set_option maxHeartbeats 1000000 in
theorem cycloWithin_yes (n : Nat) (h1 : 1 ≤ n) (hn : n ≤ 16) (w : World) (hw : Within f 12 1000000000) :
    Calls Tryd.prog 50 #[.int .i64 (n : Int), arrV f] w fun e w' => ∃ a cap, e = .returned (.tuple #[.agg #[.int .i64 (n : Int), .slice a (phiN n) cap], .int .i64 0]) ∧ Sl true w' w.heap.size w'.heap.size (.slice a (phiN n) cap) (phiN n) f ∧ Below w.heap.size w w' := by
  have hr : ∀ j, j < 12 → inR (f j) := fun j hj => by have := hw j hj; unfold inR; omega
  have hp := phi_le12 n hn h1
  have hp1 := phiN_pos n (by omega) h1
  have HW := Lib.hid hw; clear hw
  have HT := Lib.hid (fun w => totient_below n w (by omega))
  generalize phiN n = N at *
  have hmk := run_make_row' (P := Tryd.prog) 24 2 (.int .i64 0) 8 Tryd.underlying24 Tryd.info2 rfl .i64 .i64 N (by omega) (by omega)
  have st0 := (((((St.start w).alloc (.cells (arrC f) 70)).addSl ⟨true, w.heap.size, w.heap.size + 1, .slice (some ⟨w.heap.size, 0, none⟩) 12 12, 12, f⟩ (Sl.arr w f _ hr)).alloc
    (.cells #[.int .i64 0, .slice none 0 0] 26)).addBox _ [.int .i64 0, .slice none 0 0] (Box.made _ _ _ _ (fun j v h => by simpa using h)))
  simp only [World.size_alloc] at st0
  unfold arrV
  go_enter Tryd.func50, Tryd.ntmps50
  go_wp2_with fail
  refine (areWithin_yes _ _ (by omega) (by omega) (st0.sl 0 ⟨true, w.heap.size, w.heap.size + 1, .slice (some ⟨w.heap.size, 0, none⟩) 12 12, 12, f⟩ rfl) HW.out).mono ?_
  rintro e w' ⟨rfl, rfl⟩
  go_wp2_with fail
  refine (HT.out _).mono ?_
  rintro e w4 ⟨rfl, b4⟩
  have st4 := st0.keep b4
  have hz4 := b4.size
  simp only [World.size_alloc] at hz4
  clear st0 b4
  have st5 := (st4.alloc (.cells (madeCells #[.int .i64 0] N) 2)).addSl ⟨true, w4.heap.size, w4.heap.size + 1, .slice (some ⟨w4.heap.size, 0, none⟩) N N, N, fun _ => 0⟩
    (Sl.made w4 (madeCells #[.int .i64 0] N) 2 N N (fun _ => 0) (Nat.le_refl _) (by unfold maxLen; omega) (fun _ _ => by simp [inR]) (fun j hj => madeCells_at _ _ _ hj))
  have q0 := st5.sl 0 _ rfl
  have q1 := st5.sl 1 _ rfl
  dsimp only at q0 q1
  have hcp := run_copy_ints (P := Tryd.prog) q0 0 N (by omega) N N 12 q1 (by show N = min 12 N; omega) (by
      rcases q1.parts with ⟨h, _⟩ | ⟨ad, cap, h, hh⟩
      · cases h
      · cases h; exact hh) 24 2 3 Tryd.underlying24 Tryd.size1_2
  have q2 := (q0.setInts 0 N (by omega) f (fun j hj => hr j (by omega))).congr (f' := f) (fun j hj => by simp [hj])
  have F6 := Frame.setCells (lo := w4.heap.size) (hi := w4.heap.size + 1) (Nat.le_refl _) (Nat.lt_succ_self _) (ints N f) 0 _ _ (Frame.refl _ _ (w4.alloc (.cells (madeCells #[.int .i64 0] N) 2)))
  have bx := (st5.box 0 _ rfl).keepF F6 (.inl (by show w.heap.size + 1 < w4.heap.size; omega))
  have B6 := st5.1.trans (F6.below (by omega) st5.1.size)
  simp only [Nat.add_zero] at hcp q2
  have hz6 := F6.size
  simp only [World.size_alloc] at hz6
  generalize (w4.alloc (.cells (madeCells #[.int .i64 0] N) 2)).setCells w4.heap.size 0 (ints N f) = w6 at *
  obtain ⟨c0, c1⟩ := bx.cell2
  have hfz := bx.2.2
  dsimp only at c0 c1 hfz
  have Q2 := Lib.hid q2
  clear q0 q1 q2 bx st5 st4 F6
  go_wp2
  refine bodyPost_ret (v := .tuple #[.agg #[.int .i64 (n : Int), .slice (some ⟨w4.heap.size, 0, none⟩) N N], .int .i64 0]) (by simp [results, Tryd.results50, go_sem, c0, c1]) rfl ?_
  refine ⟨_, _, rfl, ?_, by go_grown⟩
  exact ((Q2.out.setOther (.inl (by show w.heap.size + 1 < _; omega)) _).setOther (.inl (by show w.heap.size + 1 < _; omega)) _).wide (by omega) (by simp; omega) (Nat.le_refl _)
end
end Go.Proofs.YthookppmclimkaaDoor
