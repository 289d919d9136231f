/- l01Told; CycloOf of the program and of the model. -/
import Derived.Test.YtnhpodlcgkgpbaaSpecRed
import Derived.Test.YtnhpodlcgkgpbaaArr
import Derived.Test.YtnhpodlcgkgpbaaIs
namespace Go.Proofs.Ytnhpodlcgkgpbaa
open Go.RowKit Go.ChangeShapes Go.Sort

/-- What a failing function of chapter 1 hands back. -/
def failV (c : Int) : Value := .tuple #[.agg #[.int .i64 0, .slice none 0 0], .int .i64 c]

section
variable {o : Bool} {lo hi L : Nat} {v : Value} {f : Nat → Int}
/-- The conditions of CycloOf. -/
def cycloOfOk (n : Int) (L : Nat) (f : Nat → Int) : Prop := 1 ≤ n ∧ n ≤ 16 ∧ (L : Int) ≤ n ∧ Within f L 1000000000

theorem CycloOf_impl_bad (n : Int) (w : World) (hs : Sl o w lo hi v L f) (h : ¬ cycloOfOk n L f) :
    Calls Try.prog 142 #[.int .i64 n, v] w fun e w' => e = .returned (failV 2) ∧ Below w.heap.size w w' := by
  obtain ⟨a, cap, rfl⟩ := hs.shape
  have hm := hs.len
  unfold maxLen at hm
  have HS := Lib.hid (hs.alloc (.cells #[.int .i64 0, .slice none 0 0] 24)); clear hs
  by_cases h1 : 1 ≤ n ∧ n ≤ 16
  · obtain ⟨h1, h2⟩ := h1
    by_cases h3 : (L : Int) ≤ n
    · have H := Lib.hid (show ¬ Within f L 1000000000 from fun h4 => h ⟨h1, h2, h3, h4⟩)
      clear h
      go_enter Try.func142, Try.ntmps142
      go_wp2_with (first | (go_at_call 141; refine (isOrder_yes _ _ (by omega) (by omega)).mono ?_; rintro e w' ⟨rfl, rfl⟩) | (go_at_call 168; refine (areWithin_no _ _ (by omega) (by omega) HS.out H.out).mono ?_; rintro e w' ⟨rfl, rfl⟩))
      refine bodyPost_ret (v := failV 2) (by simp [results, Try.results142, go_sem, failV]) rfl ?_
      exact ⟨rfl, by go_grown⟩
    · have h4 : n < (L : Int) := by omega
      clear h h3
      go_enter Try.func142, Try.ntmps142
      go_wp2_with (go_at_call 141; refine (isOrder_yes _ _ (by omega) (by omega)).mono ?_; rintro e w' ⟨rfl, rfl⟩)
      refine bodyPost_ret (v := failV 2) (by simp [results, Try.results142, go_sem, failV]) rfl ?_
      exact ⟨rfl, by go_grown⟩
  · have H := Lib.hid (show n < 1 ∨ 16 < n by omega)
    clear h h1
    go_enter Try.func142, Try.ntmps142
    go_wp2_with (go_at_call 141; refine (isOrder_no _ _ H.out).mono ?_; rintro e w' ⟨rfl, rfl⟩)
    refine bodyPost_ret (v := failV 2) (by simp [results, Try.results142, go_sem, failV]) rfl ?_
    exact ⟨rfl, by go_grown⟩

theorem make24 (w : World) : (Instr.makeSlice 22 (.int .i64 24) (.int .i64 24)).run Try.prog w = .ok (.slice (some ⟨w.heap.size, 0, none⟩) 24 24) (w.alloc (.cells (madeCells #[.int .i64 0] 24) 2)) :=
  run_make_row' (P := Try.prog) 22 2 (.int .i64 0) 8 Try.underlying22 Try.info2 rfl .i64 .i64 24 (by omega) (by omega) w
theorem Sl.made24 (w : World) : Sl true (w.alloc (.cells (madeCells #[.int .i64 0] 24) 2)) w.heap.size (w.heap.size + 1) (.slice (some ⟨w.heap.size, 0, none⟩) 24 24) 24 (fun _ => 0) :=
  Sl.made w _ _ 24 24 _ (Nat.le_refl _) (by unfold maxLen; omega) (fun _ _ => by simp [inR]) (fun j hj => madeCells_at _ _ _ hj)

theorem Within.inR {f : Nat → Int} {n : Nat} (h : Within f n 1000000000) : ∀ j, j < n → Go.Proofs.Ytnhpodlcgkgpbaa.inR (f j) := fun j hj => by have := h j hj; unfold Go.Proofs.Ytnhpodlcgkgpbaa.inR; omega

/-- The 24 places of the program's list, with a list in front: what copy leaves. -/
theorem copied24 {w : World} {lo hi lo' hi' L cap : Nat} {o : Bool} {a : Option Addr} {f : Nat → Int} {g : Nat} (h : Sl true w lo hi (.slice (some ⟨g, 0, none⟩) 24 24) 24 (fun _ => 0)) (h' : Sl o w lo' hi' (.slice a L cap) L f) (hL : L ≤ 24) (hl : lo ≤ g) (hh : g < hi) :
    ∃ w', (∀ ty, (Builtin.copy_ #[22, 22] ty #[.slice (some ⟨g, 0, none⟩) 24 24, .slice a L cap]).run Try.prog w = .ok (goInt L) w') ∧ Sl true w' lo hi (.slice (some ⟨g, 0, none⟩) 24 24) 24 (pad L f) ∧ Frame lo hi w w' := by
  refine ⟨w.setCells g 0 (ints L f), fun ty => ?_, ?_, Frame.setCells hl hh _ _ _ _ (Frame.refl _ _ _)⟩
  · have := run_copy_sl (P := Try.prog) h 0 L (by omega) 24 24 cap h' (by show L = min L 24; omega) 22 2 ty Try.underlying22 Try.size1_2
    simpa using this
  · have := h.setInts 0 L (by omega) f (fun j hj => h'.bd j hj)
    exact this.congr (fun j hj => by unfold pad; by_cases e : j < L <;> simp [e])

/-- reducedParts, cycloWithin: how the functions of chapter 1 end. -/
theorem cut_within {n : Nat} {g : Nat → Int} (hn : phiN n ≤ 12) : Within (cut (phiN n) g) 12 1000000000 ↔ Within g (phiN n) 1000000000 := by
  constructor
  · intro h j hj
    have := h j (by omega)
    unfold cut at this
    rwa [if_pos hj] at this
  · intro h j _
    unfold cut
    by_cases e : j < phiN n
    · rw [if_pos e]; exact h j e
    · rw [if_neg e]; omega

theorem pad_inR {L : Nat} {f : Nat → Int} (h : ∀ j, j < L → inR (f j)) (j : Nat) : inR (pad L f j) := by
  unfold pad; split
  · exact h j ‹_›
  · unfold inR; omega
theorem redP_inR (n : Nat) (P : Nat → Int) (h : ∀ j, j < 24 → inR (P j)) : ∀ j, j < 24 → inR (redP n P j) := divL_inR _ h
theorem cut_inR (n : Nat) (g : Nat → Int) (m : Nat) (h : ∀ j, j < m → inR (g j)) : ∀ j, j < m → inR (cut n g j) := fun j hj => by
  unfold cut; split
  · exact h j hj
  · unfold inR; omega

set_option maxRecDepth 100000 in
set_option maxHeartbeats 1000000 in
theorem CycloOf_impl_ok (n : Nat) (w : World) (hs : Sl o w lo hi v L f) (h : cycloOfOk n L f) (hw : Within (redP n (pad L f)) (phiN n) 1000000000) :
    Calls Try.prog 142 #[.int .i64 (n : Int), v] w fun e w' => ∃ a cap, e = .returned (.tuple #[.agg #[.int .i64 (n : Int), .slice a (phiN n) cap], .int .i64 0]) ∧ Sl true w' w.heap.size w'.heap.size (.slice a (phiN n) cap) (phiN n) (redP n (pad L f)) ∧ Below w.heap.size w w' := by
  obtain ⟨a, cap, rfl⟩ := hs.shape
  obtain ⟨h1, h2, h3, h4⟩ := h
  have hsz := hs.size
  have hp := phi_le12 n (by omega) (by omega)
  have HW := Lib.hid ((cut_within hp).2 hw); clear hw
  have st0 := (((((St.start w).addSl ⟨o, lo, hi, .slice a L cap, L, f⟩ hs).alloc (.cells #[.int .i64 0, .slice none 0 0] 24)).addBox w.heap.size [.int .i64 0, .slice none 0 0] (Box.made _ _ _ _ (fun j v h => by simpa using h))).alloc (.cells (madeCells #[.int .i64 0] 24) 2))
  have hs24 := Sl.made24 (w.alloc (.cells #[.int .i64 0, .slice none 0 0] 24))
  have q0 := st0.sl 0 _ rfl
  dsimp only at q0
  obtain ⟨w1, hcp, s1, f1⟩ := copied24 hs24 q0 (by omega) (Nat.le_refl _) (Nat.lt_succ_self _)
  simp only [World.size_alloc] at hcp s1 f1
  have st1 := st0.write f1 (by omega) (by intro b hb; simp only [List.mem_cons, List.not_mem_nil, or_false] at hb; rcases hb with rfl; left; show w.heap.size < _; omega) (by intro s hs'; simp only [List.mem_cons, List.not_mem_nil, or_false] at hs'; rcases hs' with rfl; left; exact Nat.le_trans hs.size (Nat.le_succ _))
  have HS := Lib.hid (hs.alloc (.cells #[.int .i64 0, .slice none 0 0] 24)); clear hs
  have H := Lib.hid h4; clear h4
  have S1 := Lib.hid s1
  have hz1 := f1.size
  simp only [World.size_alloc] at hz1
  clear hs24 q0 st0 f1 s1
  have hmk := make24
  go_enter Try.func142, Try.ntmps142
  go_wp2_with (first | (go_at_call 141; refine (isOrder_yes _ _ (by omega) (by omega)).mono ?_; rintro e w' ⟨rfl, rfl⟩) | (go_at_call 168; refine (areWithin_yes _ _ (by omega) (by omega) HS.out H.out).mono ?_; rintro e w' ⟨rfl, rfl⟩))
  refine (reducedParts_any n (by omega) (by omega) _ S1.out).mono ?_
  rintro e w2 ⟨rfl, f2⟩
  have st2 := st1.write f2 (by omega) (by intro b hb; simp only [List.mem_cons, List.not_mem_nil, or_false] at hb; rcases hb with rfl <;> dsimp only <;> omega) (by intro s hs'; simp only [List.mem_cons, List.not_mem_nil, or_false] at hs'; rcases hs' with rfl <;> dsimp only <;> omega)
  have hz2 := f2.size
  clear st1 f2
  go_wp2_with fail
  refine (cycloWithin_yes n (by omega) (by omega) _ HW.out).mono ?_
  rintro e w3 ⟨a3, k3, rfl, s3, b3⟩
  have st3 := st2.keep b3
  have hz3 := b3.size
  have S3 := Lib.hid s3
  clear st2 b3 s3
  obtain ⟨d0, d1⟩ := (st3.box 0 _ rfl).cell2
  have dz := (st3.box 0 _ rfl).2.2
  have B3 := st3.1
  dsimp only at dz
  go_wp2
  refine bodyPost_ret (v := .tuple #[.agg #[.int .i64 (n : Int), .slice a3 (phiN n) k3], .int .i64 0]) (by simp [results, Try.results142, go_sem, d0, d1]) rfl ?_
  refine ⟨_, _, rfl, ?_, by go_grown⟩
  exact (((S3.out.setOther (.inl (by show w.heap.size < _; omega)) _).setOther (.inl (by show w.heap.size < _; omega)) _).wide (by omega) (by simp) (Nat.le_refl _)).congr (fun j hj => by unfold cut; rw [if_pos hj])

set_option maxRecDepth 100000 in
set_option maxHeartbeats 1000000 in
theorem CycloOf_impl_big (n : Nat) (w : World) (hs : Sl o w lo hi v L f) (h : cycloOfOk n L f) (hw : ¬ Within (redP n (pad L f)) (phiN n) 1000000000) :
    Calls Try.prog 142 #[.int .i64 (n : Int), v] w fun e w' => e = .returned (failV 3) ∧ Below w.heap.size w w' := by
  obtain ⟨a, cap, rfl⟩ := hs.shape
  obtain ⟨h1, h2, h3, h4⟩ := h
  have hsz := hs.size
  have hp := phi_le12 n (by omega) (by omega)
  have HW := Lib.hid (fun h' => hw ((cut_within hp).1 h')); clear hw
  have HR := Lib.hid (cut_inR (phiN n) (redP n (pad L f)) 12 (fun j hj => redP_inR n (pad L f) (fun j _ => pad_inR hs.bd j) j (by omega)))
  have st0 := (((((St.start w).addSl ⟨o, lo, hi, .slice a L cap, L, f⟩ hs).alloc (.cells #[.int .i64 0, .slice none 0 0] 24)).addBox w.heap.size [.int .i64 0, .slice none 0 0] (Box.made _ _ _ _ (fun j v h => by simpa using h))).alloc (.cells (madeCells #[.int .i64 0] 24) 2))
  have hs24 := Sl.made24 (w.alloc (.cells #[.int .i64 0, .slice none 0 0] 24))
  have q0 := st0.sl 0 _ rfl
  dsimp only at q0
  obtain ⟨w1, hcp, s1, f1⟩ := copied24 hs24 q0 (by omega) (Nat.le_refl _) (Nat.lt_succ_self _)
  simp only [World.size_alloc] at hcp s1 f1
  have st1 := st0.write f1 (by omega) (by intro b hb; simp only [List.mem_cons, List.not_mem_nil, or_false] at hb; rcases hb with rfl; left; show w.heap.size < _; omega) (by intro s hs'; simp only [List.mem_cons, List.not_mem_nil, or_false] at hs'; rcases hs' with rfl; left; exact Nat.le_trans hs.size (Nat.le_succ _))
  have HS := Lib.hid (hs.alloc (.cells #[.int .i64 0, .slice none 0 0] 24)); clear hs
  have H := Lib.hid h4; clear h4
  have S1 := Lib.hid s1
  have hz1 := f1.size
  simp only [World.size_alloc] at hz1
  clear hs24 q0 st0 f1 s1
  have hmk := make24
  go_enter Try.func142, Try.ntmps142
  go_wp2_with (first | (go_at_call 141; refine (isOrder_yes _ _ (by omega) (by omega)).mono ?_; rintro e w' ⟨rfl, rfl⟩) | (go_at_call 168; refine (areWithin_yes _ _ (by omega) (by omega) HS.out H.out).mono ?_; rintro e w' ⟨rfl, rfl⟩))
  refine (reducedParts_any n (by omega) (by omega) _ S1.out).mono ?_
  rintro e w2 ⟨rfl, f2⟩
  have st2 := st1.write f2 (by omega) (by intro b hb; simp only [List.mem_cons, List.not_mem_nil, or_false] at hb; rcases hb with rfl <;> dsimp only <;> omega) (by intro s hs'; simp only [List.mem_cons, List.not_mem_nil, or_false] at hs'; rcases hs' with rfl <;> dsimp only <;> omega)
  have hz2 := f2.size
  clear st1 f2
  go_wp2_with fail
  refine (cycloWithin_no _ _ HR.out HW.out).mono ?_
  rintro e w3 ⟨rfl, b3⟩
  have st3 := st2.keep b3
  have hz3 := b3.size
  clear st2 b3
  obtain ⟨d0, d1⟩ := (st3.box 0 _ rfl).cell2
  have dz := (st3.box 0 _ rfl).2.2
  have B3 := st3.1
  dsimp only at dz
  go_wp2
  refine bodyPost_ret (v := failV 3) (by simp [results, Try.results142, go_sem, failV, d0, d1]) rfl ?_
  exact ⟨rfl, by go_grown⟩
end
end Go.Proofs.Ytnhpodlcgkgpbaa
