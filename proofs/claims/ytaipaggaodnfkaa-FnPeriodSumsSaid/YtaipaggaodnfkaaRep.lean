/- slices.Repeat of a list of one number. -/
import Derived.Test.YtaipaggaodnfkaaStR
import Derived.Deep.RegionLaw
namespace Go.Proofs.Ytaipaggaodnfkaa
open Go.RowKit Go.ChangeShapes Go.Sort
set_option linter.unusedVariables false
set_option linter.unusedSimpArgs false
set_option maxHeartbeats 1000000 in
theorem mul64_1 (w : World) :
    Calls Try.prog 100 #[.int .u64 1, .int .u64 1] w fun r w' => r = .returned (.tuple #[.int .u64 0, .int .u64 1]) ∧ w = w' := by
  go_enter Try.func100, Try.ntmps100
  go_wp2
  go_ret2
  exact ⟨by first | rfl | decide | simp, by first | rfl | trivial⟩
theorem mul_1 (w : World) :
    Calls Try.prog 91 #[.int .u64 1, .int .u64 1] w fun r w' => r = .returned (.tuple #[.int .u64 0, .int .u64 1]) ∧ w = w' := by
  go_enter Try.func91, Try.ntmps91
  go_wp2_with (go_at_call 100; refine (mul64_1 _).mono ?_; rintro r w1 ⟨rfl, rfl⟩)
  go_ret2
  exact ⟨by first | rfl | decide | simp, by first | rfl | trivial⟩
set_option maxHeartbeats 1000000 in
theorem mul64_2 (w : World) :
    Calls Try.prog 100 #[.int .u64 1, .int .u64 2] w fun r w' => r = .returned (.tuple #[.int .u64 0, .int .u64 2]) ∧ w = w' := by
  go_enter Try.func100, Try.ntmps100
  go_wp2
  go_ret2
  exact ⟨by first | rfl | decide | simp, by first | rfl | trivial⟩
theorem mul_2 (w : World) :
    Calls Try.prog 91 #[.int .u64 1, .int .u64 2] w fun r w' => r = .returned (.tuple #[.int .u64 0, .int .u64 2]) ∧ w = w' := by
  go_enter Try.func91, Try.ntmps91
  go_wp2_with (go_at_call 100; refine (mul64_2 _).mono ?_; rintro r w1 ⟨rfl, rfl⟩)
  go_ret2
  exact ⟨by first | rfl | decide | simp, by first | rfl | trivial⟩
set_option maxHeartbeats 1000000 in
theorem mul64_3 (w : World) :
    Calls Try.prog 100 #[.int .u64 1, .int .u64 3] w fun r w' => r = .returned (.tuple #[.int .u64 0, .int .u64 3]) ∧ w = w' := by
  go_enter Try.func100, Try.ntmps100
  go_wp2
  go_ret2
  exact ⟨by first | rfl | decide | simp, by first | rfl | trivial⟩
theorem mul_3 (w : World) :
    Calls Try.prog 91 #[.int .u64 1, .int .u64 3] w fun r w' => r = .returned (.tuple #[.int .u64 0, .int .u64 3]) ∧ w = w' := by
  go_enter Try.func91, Try.ntmps91
  go_wp2_with (go_at_call 100; refine (mul64_3 _).mono ?_; rintro r w1 ⟨rfl, rfl⟩)
  go_ret2
  exact ⟨by first | rfl | decide | simp, by first | rfl | trivial⟩
set_option maxHeartbeats 1000000 in
theorem mul64_4 (w : World) :
    Calls Try.prog 100 #[.int .u64 1, .int .u64 4] w fun r w' => r = .returned (.tuple #[.int .u64 0, .int .u64 4]) ∧ w = w' := by
  go_enter Try.func100, Try.ntmps100
  go_wp2
  go_ret2
  exact ⟨by first | rfl | decide | simp, by first | rfl | trivial⟩
theorem mul_4 (w : World) :
    Calls Try.prog 91 #[.int .u64 1, .int .u64 4] w fun r w' => r = .returned (.tuple #[.int .u64 0, .int .u64 4]) ∧ w = w' := by
  go_enter Try.func91, Try.ntmps91
  go_wp2_with (go_at_call 100; refine (mul64_4 _).mono ?_; rintro r w1 ⟨rfl, rfl⟩)
  go_ret2
  exact ⟨by first | rfl | decide | simp, by first | rfl | trivial⟩
set_option maxHeartbeats 1000000 in
theorem mul64_5 (w : World) :
    Calls Try.prog 100 #[.int .u64 1, .int .u64 5] w fun r w' => r = .returned (.tuple #[.int .u64 0, .int .u64 5]) ∧ w = w' := by
  go_enter Try.func100, Try.ntmps100
  go_wp2
  go_ret2
  exact ⟨by first | rfl | decide | simp, by first | rfl | trivial⟩
theorem mul_5 (w : World) :
    Calls Try.prog 91 #[.int .u64 1, .int .u64 5] w fun r w' => r = .returned (.tuple #[.int .u64 0, .int .u64 5]) ∧ w = w' := by
  go_enter Try.func91, Try.ntmps91
  go_wp2_with (go_at_call 100; refine (mul64_5 _).mono ?_; rintro r w1 ⟨rfl, rfl⟩)
  go_ret2
  exact ⟨by first | rfl | decide | simp, by first | rfl | trivial⟩
set_option maxHeartbeats 1000000 in
theorem mul64_6 (w : World) :
    Calls Try.prog 100 #[.int .u64 1, .int .u64 6] w fun r w' => r = .returned (.tuple #[.int .u64 0, .int .u64 6]) ∧ w = w' := by
  go_enter Try.func100, Try.ntmps100
  go_wp2
  go_ret2
  exact ⟨by first | rfl | decide | simp, by first | rfl | trivial⟩
theorem mul_6 (w : World) :
    Calls Try.prog 91 #[.int .u64 1, .int .u64 6] w fun r w' => r = .returned (.tuple #[.int .u64 0, .int .u64 6]) ∧ w = w' := by
  go_enter Try.func91, Try.ntmps91
  go_wp2_with (go_at_call 100; refine (mul64_6 _).mono ?_; rintro r w1 ⟨rfl, rfl⟩)
  go_ret2
  exact ⟨by first | rfl | decide | simp, by first | rfl | trivial⟩
set_option maxHeartbeats 1000000 in
theorem mul64_7 (w : World) :
    Calls Try.prog 100 #[.int .u64 1, .int .u64 7] w fun r w' => r = .returned (.tuple #[.int .u64 0, .int .u64 7]) ∧ w = w' := by
  go_enter Try.func100, Try.ntmps100
  go_wp2
  go_ret2
  exact ⟨by first | rfl | decide | simp, by first | rfl | trivial⟩
theorem mul_7 (w : World) :
    Calls Try.prog 91 #[.int .u64 1, .int .u64 7] w fun r w' => r = .returned (.tuple #[.int .u64 0, .int .u64 7]) ∧ w = w' := by
  go_enter Try.func91, Try.ntmps91
  go_wp2_with (go_at_call 100; refine (mul64_7 _).mono ?_; rintro r w1 ⟨rfl, rfl⟩)
  go_ret2
  exact ⟨by first | rfl | decide | simp, by first | rfl | trivial⟩
set_option maxHeartbeats 1000000 in
theorem mul64_8 (w : World) :
    Calls Try.prog 100 #[.int .u64 1, .int .u64 8] w fun r w' => r = .returned (.tuple #[.int .u64 0, .int .u64 8]) ∧ w = w' := by
  go_enter Try.func100, Try.ntmps100
  go_wp2
  go_ret2
  exact ⟨by first | rfl | decide | simp, by first | rfl | trivial⟩
theorem mul_8 (w : World) :
    Calls Try.prog 91 #[.int .u64 1, .int .u64 8] w fun r w' => r = .returned (.tuple #[.int .u64 0, .int .u64 8]) ∧ w = w' := by
  go_enter Try.func91, Try.ntmps91
  go_wp2_with (go_at_call 100; refine (mul64_8 _).mono ?_; rintro r w1 ⟨rfl, rfl⟩)
  go_ret2
  exact ⟨by first | rfl | decide | simp, by first | rfl | trivial⟩
set_option maxHeartbeats 1000000 in
theorem mul64_9 (w : World) :
    Calls Try.prog 100 #[.int .u64 1, .int .u64 9] w fun r w' => r = .returned (.tuple #[.int .u64 0, .int .u64 9]) ∧ w = w' := by
  go_enter Try.func100, Try.ntmps100
  go_wp2
  go_ret2
  exact ⟨by first | rfl | decide | simp, by first | rfl | trivial⟩
theorem mul_9 (w : World) :
    Calls Try.prog 91 #[.int .u64 1, .int .u64 9] w fun r w' => r = .returned (.tuple #[.int .u64 0, .int .u64 9]) ∧ w = w' := by
  go_enter Try.func91, Try.ntmps91
  go_wp2_with (go_at_call 100; refine (mul64_9 _).mono ?_; rintro r w1 ⟨rfl, rfl⟩)
  go_ret2
  exact ⟨by first | rfl | decide | simp, by first | rfl | trivial⟩
set_option maxHeartbeats 1000000 in
theorem mul64_10 (w : World) :
    Calls Try.prog 100 #[.int .u64 1, .int .u64 10] w fun r w' => r = .returned (.tuple #[.int .u64 0, .int .u64 10]) ∧ w = w' := by
  go_enter Try.func100, Try.ntmps100
  go_wp2
  go_ret2
  exact ⟨by first | rfl | decide | simp, by first | rfl | trivial⟩
theorem mul_10 (w : World) :
    Calls Try.prog 91 #[.int .u64 1, .int .u64 10] w fun r w' => r = .returned (.tuple #[.int .u64 0, .int .u64 10]) ∧ w = w' := by
  go_enter Try.func91, Try.ntmps91
  go_wp2_with (go_at_call 100; refine (mul64_10 _).mono ?_; rintro r w1 ⟨rfl, rfl⟩)
  go_ret2
  exact ⟨by first | rfl | decide | simp, by first | rfl | trivial⟩
set_option maxHeartbeats 1000000 in
theorem mul64_11 (w : World) :
    Calls Try.prog 100 #[.int .u64 1, .int .u64 11] w fun r w' => r = .returned (.tuple #[.int .u64 0, .int .u64 11]) ∧ w = w' := by
  go_enter Try.func100, Try.ntmps100
  go_wp2
  go_ret2
  exact ⟨by first | rfl | decide | simp, by first | rfl | trivial⟩
theorem mul_11 (w : World) :
    Calls Try.prog 91 #[.int .u64 1, .int .u64 11] w fun r w' => r = .returned (.tuple #[.int .u64 0, .int .u64 11]) ∧ w = w' := by
  go_enter Try.func91, Try.ntmps91
  go_wp2_with (go_at_call 100; refine (mul64_11 _).mono ?_; rintro r w1 ⟨rfl, rfl⟩)
  go_ret2
  exact ⟨by first | rfl | decide | simp, by first | rfl | trivial⟩
set_option maxHeartbeats 1000000 in
theorem mul64_12 (w : World) :
    Calls Try.prog 100 #[.int .u64 1, .int .u64 12] w fun r w' => r = .returned (.tuple #[.int .u64 0, .int .u64 12]) ∧ w = w' := by
  go_enter Try.func100, Try.ntmps100
  go_wp2
  go_ret2
  exact ⟨by first | rfl | decide | simp, by first | rfl | trivial⟩
theorem mul_12 (w : World) :
    Calls Try.prog 91 #[.int .u64 1, .int .u64 12] w fun r w' => r = .returned (.tuple #[.int .u64 0, .int .u64 12]) ∧ w = w' := by
  go_enter Try.func91, Try.ntmps91
  go_wp2_with (go_at_call 100; refine (mul64_12 _).mono ?_; rintro r w1 ⟨rfl, rfl⟩)
  go_ret2
  exact ⟨by first | rfl | decide | simp, by first | rfl | trivial⟩
theorem Mul_one (e : Nat) (h1 : 1 ≤ e) (h2 : e ≤ 12) (w : World) :
    Calls Try.prog 91 #[.int .u64 1, .int .u64 (e : Int)] w fun r w' => r = .returned (.tuple #[.int .u64 0, .int .u64 (e : Int)]) ∧ w = w' := by
  have h : e = 1 ∨ e = 2 ∨ e = 3 ∨ e = 4 ∨ e = 5 ∨ e = 6 ∨ e = 7 ∨ e = 8 ∨ e = 9 ∨ e = 10 ∨ e = 11 ∨ e = 12 := by omega
  rcases h with rfl | rfl | rfl | rfl | rfl | rfl | rfl | rfl | rfl | rfl | rfl | rfl
  · exact mul_1 w
  · exact mul_2 w
  · exact mul_3 w
  · exact mul_4 w
  · exact mul_5 w
  · exact mul_6 w
  · exact mul_7 w
  · exact mul_8 w
  · exact mul_9 w
  · exact mul_10 w
  · exact mul_11 w
  · exact mul_12 w
/-- The first numbers of a slice. -/
theorem Sl.firsts {o : Bool} {w : World} {lo hi g off n cap : Nat} {f : Nat → Int} (h : Sl o w lo hi (.slice (some ⟨g, off, none⟩) n cap) n f) {k : Nat} (hk : k ≤ n) (h0 : 0 < k) : Sl o w lo hi (.slice (some ⟨g, off, none⟩) k cap) k f := by
  obtain ⟨h1, h2, h3, h4⟩ := h
  refine ⟨h1, by omega, fun j hj => h3 j (by omega), ?_⟩
  rcases h4 with ⟨h4, _⟩ | ⟨g', off', cap', hv, a1, a2, a3, a4, a5, a6⟩
  · omega
  · cases hv
    exact .inr ⟨g, off, cap, rfl, a1, a2, by omega, a4, fun j hj => a5 j (by omega), a6⟩
set_option maxRecDepth 100000 in
set_option maxHeartbeats 4000000 in
theorem Repeat_one (e : Nat) (h1 : 1 ≤ e) (h2 : e ≤ 12) (w : World) {o : Bool} {lo hi : Nat} {v : Value} (hs : Sl o w lo hi v 1 (fun _ => -1)) :
    Calls Try.prog 80 #[v, .int .i64 (e : Int)] w fun r w' => ∃ G, r = .returned (.slice (some ⟨G, 0, none⟩) e e) ∧ Sl true w' w.heap.size w'.heap.size (.slice (some ⟨G, 0, none⟩) e e) e (fun _ => -1) ∧ Below w.heap.size w w' := by
  obtain ⟨g, off, cap, rfl, _⟩ := hs.at (by omega)
  have HS := Lib.hid hs
  have hss := hs.size
  have hmk := run_make_row' (P := Try.prog) 33 2 (.int .i64 0) 8 Try.underlying33 Try.info2 rfl .i64 .i64 e (by omega) (by omega)
  have q0 := Sl.made w (madeCells #[.int .i64 0] e) 2 e e (fun _ => 0) (Nat.le_refl _) (by unfold maxLen; omega) (fun j hj => by simp [inR]) (fun j hj => by simp [madeCells_at _ _ _ hj])
  have hcp := run_copy_sl (P := Try.prog) q0 0 1 (by omega) e e cap (hs.alloc _) (by simp [Nat.min_def]; omega) 33 2 3 Try.underlying33 Try.size1_2
  rw [Nat.add_zero] at hcp
  clear hs
  go_enter Try.func80, Try.ntmps80
  go_wp2_with (go_at_call 91; refine (Mul_one e h1 h2 _).mono ?_; rintro r w1 ⟨rfl, rfl⟩)
  have q1 := (q0.setInts 0 1 (by omega) (fun _ => -1) (fun j hj => by unfold inR; omega)).congr (f' := fun j => if j < 1 then -1 else 0) (fun j hj => by simp)
  have bl1 := (Frame.setCells (Nat.le_refl _) (Nat.lt_succ_self _) (ints 1 (fun _ => -1)) 0 _ _ (Frame.refl w.heap.size (w.heap.size + 1) (w.alloc (.cells (madeCells #[.int .i64 0] e) 2)))).below (Nat.le_refl _) (by simp)
  have Q1 := Lib.hid q1
  have B1 := Lib.hid (((Below.refl w.heap.size w).alloc (Nat.le_refl _) (.cells (madeCells #[.int .i64 0] e) 2)).trans bl1)
  clear q0 hcp q1 bl1 hmk
  go_loopw [8] (fun s8 wr => ∃ n : Nat, 1 ≤ n ∧ n ≤ e ∧ s8 = .int .i64 (n : Int) ∧ Sl true wr w.heap.size (w.heap.size + 1) (.slice (some ⟨w.heap.size, 0, none⟩) e e) e (fun j => if j < n then -1 else 0) ∧ Below w.heap.size w wr) (fun s8 _ => e - (intOf s8).toNat)
  case atStart => exact ⟨1, by omega, h1, rfl, Q1.out, B1.out⟩
  case round =>
    clear Q1 B1
    obtain ⟨n, hn1, hne, rfl, hq, hbl⟩ := hrel
    have HQ := Lib.hid hq
    have HB := Lib.hid hbl
    clear hq hbl
    by_cases hlt : n < e
    · obtain ⟨m, hm⟩ : ∃ m, Nat.min n (e - n) = m := ⟨_, rfl⟩
      have hm1 : m ≤ n ∧ m ≤ e - n ∧ 1 ≤ m := by rw [← hm]; simp only [Nat.min_def]; split <;> omega
      have src := (HQ.out.drew.firsts hne (by omega)).congr (f' := fun _ => -1) (fun j hj => by rw [if_pos hj])
      have hcp := run_copy_sl (P := Try.prog) HQ.out.drew n m (by omega) (e - n) (e - n) e src hm.symm 33 2 3 Try.underlying33 Try.size1_2
      rw [Nat.zero_add] at hcp
      have q2 := (HQ.out.drew.setInts n m (by omega) (fun _ => -1) (fun j hj => by unfold inR; omega)).congr (f' := fun j => if j < n + m then -1 else 0) (fun j hj => by
        by_cases e1 : j < n
        · simp [e1] <;> omega
        · by_cases e2 : j < n + m
          · simp [e2] <;> omega
          · simp [e2]; omega)
      have bl2 := (Frame.setCells (Nat.le_refl _) (Nat.lt_succ_self _) (ints m (fun _ => -1)) n _ _ (Frame.refl w.heap.size (w.heap.size + 1) wr.drew)).below (B := w.heap.size) (Nat.le_refl _) HB.out.drew.size
      rw [Nat.zero_add] at q2
      have Q2 := Lib.hid q2
      have B2 := Lib.hid (HB.out.drew.trans bl2)
      have hne2 : ¬ n = e := by omega
      have hsub : ((e : Int) - (n : Int)) = ((e - n : Nat) : Int) := by omega
      clear hm src q2 bl2
      go_wp2
      go_region
      go_wp2
      go_roundw
      case rel => exact ⟨n + m, by omega, by omega, by go_num, Q2.out, B2.out⟩
      case measure => simp [intOf]; omega
    · obtain rfl : n = e := by omega
      have hqs := HQ.out.size
      go_wp2
      go_ret
      exact ⟨_, rfl, (HQ.out.congr (fun j hj => by rw [if_pos hj])).wide (Nat.le_refl _) hqs (Nat.le_refl _), HB.out⟩
end Go.Proofs.Ytaipaggaodnfkaa
