/- IsPlainPair of both. -/
import Derived.Test.YtloalhcloifgjaaMulC
import Derived.Test.YtloalhcloifgjaaBox3
namespace Go.Proofs.Ytloalhcloifgjaa
open Go.RowKit Go.ChangeShapes Go.Sort
set_option linter.unusedVariables false
set_option linter.unusedSimpArgs false

/-- None of both and of their product has the Power 0. -/
def plainB (n k l : Nat) : Bool := decide (k ≠ 0) && decide (l ≠ 0) && decide ((k + l) % n ≠ 0)
theorem IsPlainPair_impl_bad (p n k q m l c : Int) (h : pcC p n k q m l c) (hc : c ≠ 0) (w : World) :
    Calls Try.prog 47 #[.agg #[.int .i64 p, .int .i64 n, .int .i64 k], .agg #[.int .i64 q, .int .i64 m, .int .i64 l]] w fun e w' => e = .returned (.tuple #[.bool false, .int .i64 c]) ∧ Below w.heap.size w w' := by
  have H := Lib.hid (MultiplyCharacters_impl_bad p n k q m l c h hc); clear h
  have hcb : (c != 0) = true := by rw [bne_iff_ne]; exact hc
  have st0 := ((St.start w).boxNew3 (.int .i64 p) (.int .i64 n) (.int .i64 k) 29).boxNew3 (.int .i64 q) (.int .i64 m) (.int .i64 l) 29
  simp only [World.size_alloc] at st0
  go_enter Try.func47, Try.ntmps47
  go_wp2_with fail
  refine (H.out _).mono ?_
  unfold noC
  rintro e w1 ⟨rfl, b1⟩
  have st1 := st0.keep b1
  have hz1 := b1.size
  simp only [World.size_alloc] at hz1
  clear st0 b1
  have BB := st1.1
  go_wp2
  go_ret2
  exact ⟨rfl, by go_grown⟩
theorem IsPlainPair_spec_bad (p n k q m l c : Int) (h : pcC p n k q m l c) (hc : c ≠ 0) (w : World) :
    Calls Try.prog 46 #[.agg #[.int .i64 p, .int .i64 n, .int .i64 k], .agg #[.int .i64 q, .int .i64 m, .int .i64 l]] w fun e w' => e = .returned (.tuple #[.bool false, .int .i64 c]) ∧ Below w.heap.size w w' := by
  have H := Lib.hid (l03Like_any p n k q m l c h); clear h
  have hcb : (c != 0) = true := by rw [bne_iff_ne]; exact hc
  have st0 := ((St.start w).boxNew3 (.int .i64 p) (.int .i64 n) (.int .i64 k) 29).boxNew3 (.int .i64 q) (.int .i64 m) (.int .i64 l) 29
  simp only [World.size_alloc] at st0
  go_enter Try.func46, Try.ntmps46
  go_wp2_with fail
  refine (H.out _).mono ?_
  rintro e w1 ⟨rfl, b1⟩
  have st1 := st0.keep b1
  have hz1 := b1.size
  simp only [World.size_alloc] at hz1
  clear st0 b1
  have BB := st1.1
  go_wp2
  go_ret2
  exact ⟨rfl, by go_grown⟩
section
variable (p n k l : Nat) (hp : primeN p = true) (h1 : 1 ≤ n) (h2 : n ≤ 16) (hd : (p - 1) % n = 0) (hk : k < n) (hl : l < n)
set_option maxHeartbeats 1000000 in
include hp h1 h2 hd hk hl in
theorem IsPlainPair_impl_ok (w : World) :
    Calls Try.prog 47 #[.agg #[.int .i64 (p : Int), .int .i64 (n : Int), .int .i64 (k : Int)], .agg #[.int .i64 (p : Int), .int .i64 (n : Int), .int .i64 (l : Int)]] w fun e w' => e = .returned (.tuple #[.bool (plainB n k l), .int .i64 0]) ∧ Below w.heap.size w w' := by
  have H := Lib.hid (MultiplyCharacters_impl_ok p n k l hp h1 h2 hd hk hl); clear hp hd
  unfold plainB
  generalize hr : (k + l) % n = r at H
  clear hr
  have st0 := ((St.start w).boxNew3 (.int .i64 (p : Int)) (.int .i64 (n : Int)) (.int .i64 (k : Int)) 29).boxNew3 (.int .i64 (p : Int)) (.int .i64 (n : Int)) (.int .i64 (l : Int)) 29
  simp only [World.size_alloc] at st0
  go_enter Try.func47, Try.ntmps47
  go_wp2_with fail
  refine (H.out _).mono ?_
  rintro e w1 ⟨rfl, b1⟩
  have st1 := st0.keep b1
  have hz1 := b1.size
  simp only [World.size_alloc] at hz1
  clear st0 b1
  have st2 := st1.boxNew3 (.int .i64 (p : Int)) (.int .i64 (n : Int)) (.int .i64 (r : Int)) 29
  have BB := st2.1
  obtain ⟨f0, f1, f2⟩ := (st2.box 2 (w.heap.size, [.int .i64 (p : Int), .int .i64 (n : Int), .int .i64 (k : Int)]) rfl).cell3
  obtain ⟨e0, e1, e2⟩ := (st2.box 1 (w.heap.size + 1, [.int .i64 (p : Int), .int .i64 (n : Int), .int .i64 (l : Int)]) rfl).cell3
  obtain ⟨g0, g1, g2⟩ := (st2.box 0 (w1.heap.size, [.int .i64 (p : Int), .int .i64 (n : Int), .int .i64 (r : Int)]) rfl).cell3
  clear st1 st2
  by_cases hk0 : k = 0
  · have hb : ((k : Int) != 0) = false := by simp [hk0]
    have hB := Lib.hid (show (decide (k ≠ 0) && decide (l ≠ 0) && decide (r ≠ 0)) = false by simp [hk0])
    clear hk0
    go_wp2
    go_ret2
    refine ⟨?_, by go_grown⟩
    rw [hB.out]
    rfl
  · have hb : ((k : Int) != 0) = true := by simp [hk0]
    by_cases hl0 : l = 0
    · have hbl : ((l : Int) != 0) = false := by simp [hl0]
      have hB := Lib.hid (show (decide (k ≠ 0) && decide (l ≠ 0) && decide (r ≠ 0)) = false by simp [hl0])
      clear hk0 hl0
      go_wp2
      go_ret2
      refine ⟨?_, by go_grown⟩
      rw [hB.out]
      rfl
    · have hbl : ((l : Int) != 0) = true := by simp [hl0]
      by_cases hr0 : r = 0
      · have hbr : (((r : Nat) : Int) != 0) = false := by simp [hr0]
        have hB := Lib.hid (show (decide (k ≠ 0) && decide (l ≠ 0) && decide (r ≠ 0)) = false by simp [hr0])
        clear hk0 hl0 hr0
        go_wp2
        go_ret2
        refine ⟨?_, by go_grown⟩
        rw [hB.out]
        rfl
      · have hbr : (((r : Nat) : Int) != 0) = true := by simp [hr0]
        have hB := Lib.hid (show (decide (k ≠ 0) && decide (l ≠ 0) && decide (r ≠ 0)) = true by simp [hk0, hl0, hr0])
        clear hk0 hl0 hr0
        go_wp2
        go_ret2
        refine ⟨?_, by go_grown⟩
        rw [hB.out]
        rfl

set_option maxHeartbeats 1000000 in
include hp h1 h2 hd hk hl in
theorem IsPlainPair_spec_ok (w : World) :
    Calls Try.prog 46 #[.agg #[.int .i64 (p : Int), .int .i64 (n : Int), .int .i64 (k : Int)], .agg #[.int .i64 (p : Int), .int .i64 (n : Int), .int .i64 (l : Int)]] w fun e w' => e = .returned (.tuple #[.bool (plainB n k l), .int .i64 0]) ∧ Below w.heap.size w w' := by
  have H := Lib.hid (l03Like_ok (p : Int) (n : Int) (k : Int) (l : Int) (ChP.mk hp h1 h2 hd hk) (ChP.mk hp h1 h2 hd hl)); clear hp hd
  unfold plainB
  obtain ⟨r, hr⟩ : ∃ r, (k + l) % n = r := ⟨_, rfl⟩
  have htm : ((k : Int) + (l : Int)).tmod (n : Int) = (r : Int) := by rw [Int.tmod_eq_emod_of_nonneg (by omega), ← hr, Int.natCast_emod, Int.natCast_add]
  have hem : ((k : Int) + (l : Int)) % (n : Int) = (r : Int) := by rw [← hr, Int.natCast_emod, Int.natCast_add]
  rw [hr]
  clear hr
  have hn0 : ¬ n = 0 := by omega
  have st0 := ((St.start w).boxNew3 (.int .i64 (p : Int)) (.int .i64 (n : Int)) (.int .i64 (k : Int)) 29).boxNew3 (.int .i64 (p : Int)) (.int .i64 (n : Int)) (.int .i64 (l : Int)) 29
  simp only [World.size_alloc] at st0
  go_enter Try.func46, Try.ntmps46
  go_wp2_with fail
  refine (H.out _).mono ?_
  rintro e w1 ⟨rfl, b1⟩
  have st1 := st0.keep b1
  have hz1 := b1.size
  simp only [World.size_alloc] at hz1
  clear st0 b1
  have BB := st1.1
  obtain ⟨f0, f1, f2⟩ := (st1.box 1 (w.heap.size, [.int .i64 (p : Int), .int .i64 (n : Int), .int .i64 (k : Int)]) rfl).cell3
  obtain ⟨e0, e1, e2⟩ := (st1.box 0 (w.heap.size + 1, [.int .i64 (p : Int), .int .i64 (n : Int), .int .i64 (l : Int)]) rfl).cell3
  clear st1
  by_cases hk0 : k = 0
  · have hb : ((k : Int) != 0) = false := by simp [hk0]
    have hB := Lib.hid (show (decide (k ≠ 0) && decide (l ≠ 0) && decide (r ≠ 0)) = false by simp [hk0])
    clear hk0
    go_wp2
    go_ret2
    refine ⟨?_, by go_grown⟩
    rw [hB.out]
    rfl
  · have hb : ((k : Int) != 0) = true := by simp [hk0]
    by_cases hl0 : l = 0
    · have hbl : ((l : Int) != 0) = false := by simp [hl0]
      have hB := Lib.hid (show (decide (k ≠ 0) && decide (l ≠ 0) && decide (r ≠ 0)) = false by simp [hl0])
      clear hk0 hl0
      go_wp2
      go_ret2
      refine ⟨?_, by go_grown⟩
      rw [hB.out]
      rfl
    · have hbl : ((l : Int) != 0) = true := by simp [hl0]
      by_cases hr0 : r = 0
      · have hbr : (((r : Nat) : Int) != 0) = false := by simp [hr0]
        have hB := Lib.hid (show (decide (k ≠ 0) && decide (l ≠ 0) && decide (r ≠ 0)) = false by simp [hr0])
        clear hk0 hl0 hr0
        go_wp2
        go_ret2
        refine ⟨?_, by go_grown⟩
        rw [hB.out]
        rfl
      · have hbr : (((r : Nat) : Int) != 0) = true := by simp [hr0]
        have hB := Lib.hid (show (decide (k ≠ 0) && decide (l ≠ 0) && decide (r ≠ 0)) = true by simp [hk0, hl0, hr0])
        clear hk0 hl0 hr0
        go_wp2
        go_ret2
        refine ⟨?_, by go_grown⟩
        rw [hB.out]
        rfl
end
end Go.Proofs.Ytloalhcloifgjaa
