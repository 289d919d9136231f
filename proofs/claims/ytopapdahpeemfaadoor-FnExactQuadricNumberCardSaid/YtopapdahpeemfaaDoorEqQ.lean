/- slices.Repeat of a list of one number, however often. -/
import Derived.Test.YtopapdahpeemfaaDoorStR
import Derived.Laws.Bits64b
import Derived.Deep.RegionLaw
namespace Go.Proofs.YtopapdahpeemfaaDoor
open Go.RowKit Go.ChangeShapes Go.Sort
set_option linter.unusedVariables false
set_option linter.unusedSimpArgs false
set_option maxRecDepth 100000
set_option maxHeartbeats 1000000 in
theorem mul64_gen (n : Nat) (hn : n ≤ 1048576) (w : World) :
    Calls Tryd.prog 30 #[.int .u64 1, .int .u64 (n : Int)] w fun r w' => r = .returned (.tuple #[.int .u64 0, .int .u64 (n : Int)]) ∧ w = w' := by
  have e1 : bits BinOp.and IntKind.u64 1 4294967295 = 1 := by decide
  have e0 : bits BinOp.and IntKind.u64 0 4294967295 = 0 := by decide
  have e2 : bits BinOp.and IntKind.u64 (n : Int) 4294967295 = (n : Int) := by
    have h := bits_and_u64_nat n 4294967295 (by omega) (by omega)
    have h2 := Nat.and_two_pow_sub_one_eq_mod n 32
    rw [show 2 ^ 32 - 1 = 4294967295 by decide, Nat.mod_eq_of_lt (by omega)] at h2
    rw [h2] at h
    exact h
  have e3 : (n : Int) / 4294967296 = 0 := by omega
  have e4 : IntKind.u64.wrap (n : Int) = (n : Int) := by rw [IntKind.wrap_u64]; omega
  go_enter Tryd.func30, Tryd.ntmps30
  go_wp2
  go_ret2
  exact ⟨by first | rfl | simp, by first | rfl | trivial⟩
theorem Mul_gen (n : Nat) (hn : n ≤ 1048576) (w : World) :
    Calls Tryd.prog 23 #[.int .u64 1, .int .u64 (n : Int)] w fun r w' => r = .returned (.tuple #[.int .u64 0, .int .u64 (n : Int)]) ∧ w = w' := by
  go_enter Tryd.func23, Tryd.ntmps23
  go_wp2_with (go_at_call 30; refine (mul64_gen n hn _).mono ?_; rintro r w1 ⟨rfl, rfl⟩)
  go_ret2
  exact ⟨by first | rfl | simp, by first | rfl | trivial⟩
/-- The first numbers of a slice. -/
theorem Sl.firstsQ {o : Bool} {w : World} {lo hi g off n cap : Nat} {f : Nat → Int} (h : Sl o w lo hi (.slice (some ⟨g, off, none⟩) n cap) n f) {k : Nat} (hk : k ≤ n) (h0 : 0 < k) : Sl o w lo hi (.slice (some ⟨g, off, none⟩) k cap) k f := by
  obtain ⟨h1, h2, h3, h4⟩ := h
  refine ⟨h1, by omega, fun j hj => h3 j (by omega), ?_⟩
  rcases h4 with ⟨h4, _⟩ | ⟨g', off', cap', hv, a1, a2, a3, a4, a5, a6⟩
  · omega
  · cases hv
    exact .inr ⟨g, off, cap, rfl, a1, a2, by omega, a4, fun j hj => a5 j (by omega), a6⟩
set_option maxRecDepth 100000 in
set_option maxHeartbeats 4000000 in
theorem Repeat_two (e : Nat) (h1 : 1 ≤ e) (h2 : e ≤ 1048576) (w : World) {o : Bool} {lo hi : Nat} {v : Value} (hs : Sl o w lo hi v 1 (fun _ => 2)) :
    Calls Tryd.prog 13 #[v, .int .i64 (e : Int)] w fun r w' => ∃ G, r = .returned (.slice (some ⟨G, 0, none⟩) e e) ∧ Sl true w' w.heap.size w'.heap.size (.slice (some ⟨G, 0, none⟩) e e) e (fun _ => 2) ∧ Below w.heap.size w w' := by
  obtain ⟨g, off, cap, rfl, _⟩ := hs.at (by omega)
  have HS := Lib.hid hs
  have hss := hs.size
  have hmk := run_make_row' (P := Tryd.prog) 22 2 (.int .i64 0) 8 Tryd.underlying22 Tryd.info2 rfl .i64 .i64 e (by omega) (by omega)
  have q0 := Sl.made w (madeCells #[.int .i64 0] e) 2 e e (fun _ => 0) (Nat.le_refl _) (by unfold maxLen; omega) (fun j hj => by simp [inR]) (fun j hj => by simp [madeCells_at _ _ _ hj])
  have hcp := run_copy_sl (P := Tryd.prog) q0 0 1 (by omega) e e cap (hs.alloc _) (by simp [Nat.min_def]; omega) 22 2 3 Tryd.underlying22 Tryd.size1_2
  rw [Nat.add_zero] at hcp
  clear hs
  go_enter Tryd.func13, Tryd.ntmps13
  go_wp2_with (go_at_call 23; refine (Mul_gen e h2 _).mono ?_; rintro r w1 ⟨rfl, rfl⟩)
  have q1 := (q0.setInts 0 1 (by omega) (fun _ => 2) (fun j hj => by unfold inR; omega)).congr (f' := fun j => if j < 1 then 2 else 0) (fun j hj => by simp)
  have bl1 := (Frame.setCells (Nat.le_refl _) (Nat.lt_succ_self _) (ints 1 (fun _ => 2)) 0 _ _ (Frame.refl w.heap.size (w.heap.size + 1) (w.alloc (.cells (madeCells #[.int .i64 0] e) 2)))).below (Nat.le_refl _) (by simp)
  have Q1 := Lib.hid q1
  have B1 := Lib.hid (((Below.refl w.heap.size w).alloc (Nat.le_refl _) (.cells (madeCells #[.int .i64 0] e) 2)).trans bl1)
  clear q0 hcp q1 bl1 hmk
  go_loopw [8] (fun s8 wr => ∃ n : Nat, 1 ≤ n ∧ n ≤ e ∧ s8 = .int .i64 (n : Int) ∧ Sl true wr w.heap.size (w.heap.size + 1) (.slice (some ⟨w.heap.size, 0, none⟩) e e) e (fun j => if j < n then 2 else 0) ∧ Below w.heap.size w wr) (fun s8 _ => e - (intOf s8).toNat)
  case atStart => exact ⟨1, by omega, h1, rfl, Q1.out, B1.out⟩
  case round =>
    clear Q1 B1
    obtain ⟨n, hn1, hne, rfl, hq, hbl⟩ := hrel
    have HQ := Lib.hid hq
    have HB := Lib.hid hbl
    clear hq hbl
    by_cases hlt : n < e
    · obtain ⟨m, hm⟩ : ∃ m, Nat.min n (e - n) = m := ⟨_, rfl⟩
      have hm1 : m ≤ n ∧ m ≤ e - n ∧ 1 ≤ m := by rw [← hm]; simp only [Nat.min_def]; split <;> omega
      have src := (HQ.out.drew.firstsQ hne (by omega)).congr (f' := fun _ => 2) (fun j hj => by rw [if_pos hj])
      have hcp := run_copy_sl (P := Tryd.prog) HQ.out.drew n m (by omega) (e - n) (e - n) e src hm.symm 22 2 3 Tryd.underlying22 Tryd.size1_2
      rw [Nat.zero_add] at hcp
      have q2 := (HQ.out.drew.setInts n m (by omega) (fun _ => 2) (fun j hj => by unfold inR; omega)).congr (f' := fun j => if j < n + m then 2 else 0) (fun j hj => by
        by_cases e1 : j < n
        · simp [e1] <;> omega
        · by_cases e2 : j < n + m
          · simp [e2] <;> omega
          · simp [e2]; omega)
      have bl2 := (Frame.setCells (Nat.le_refl _) (Nat.lt_succ_self _) (ints m (fun _ => 2)) n _ _ (Frame.refl w.heap.size (w.heap.size + 1) wr.drew)).below (B := w.heap.size) (Nat.le_refl _) HB.out.drew.size
      rw [Nat.zero_add] at q2
      have Q2 := Lib.hid q2
      have B2 := Lib.hid (HB.out.drew.trans bl2)
      have hne2 : ¬ n = e := by omega
      have hsub : ((e : Int) - (n : Int)) = ((e - n : Nat) : Int) := by omega
      clear hm src q2 bl2
      go_wp2
      go_region
      go_wp2
      go_roundw
      case rel => exact ⟨n + m, by omega, by omega, by go_num, Q2.out, B2.out⟩
      case measure => simp [intOf]; omega
    · obtain rfl : n = e := by omega
      have hqs := HQ.out.size
      go_wp2
      go_ret
      exact ⟨_, rfl, (HQ.out.congr (fun j hj => by rw [if_pos hj])).wide (Nat.le_refl _) hqs (Nat.le_refl _), HB.out⟩
end Go.Proofs.YtopapdahpeemfaaDoor
