/- AddCyclos of the model. -/
import Derived.Test.YtbmjhniinfeebaaPlus
namespace Go.Proofs.Ytbmjhniinfeebaa
open Go.RowKit Go.ChangeShapes Go.Sort
set_option linter.unusedVariables false
set_option linter.unusedSimpArgs false

section
variable {o o' : Bool} {lo hi lo' hi' n m : Nat} {v v' : Value} {f g : Nat → Int}
theorem AddCyclos_spec_bad (x y k c : Int) (w : World) (hs : Sl o w lo hi v n f) (ht : Sl o' w lo' hi' v' m g) (hc : pairC x y n m f g = c) (hc0 : c ≠ 0) :
    Calls Try.prog 55 #[.agg #[.int .i64 x, v], .agg #[.int .i64 y, v'], .int .i64 k] w fun e w' => e = .returned (failV c) ∧ Below w.heap.size w w' := by
  have HC := Lib.hid hc
  clear hc
  have hb : (c != 0) = true := by simpa using hc0
  have hb' : (c == 0) = false := by simpa using hc0
  obtain ⟨a, cap, rfl⟩ := hs.shape
  obtain ⟨a', cap', rfl⟩ := ht.shape
  have st0 := (((((St.start w).addSl ⟨o, lo, hi, .slice a n cap, n, f⟩ hs).addSl ⟨o', lo', hi', .slice a' m cap', m, g⟩ ht).alloc (.cells #[.int .i64 x, .slice a n cap] 26)).addBox w.heap.size [.int .i64 x, .slice a n cap] (Box.made _ _ _ _ (fun j v h => by simpa using h)))
  replace st0 := (st0.alloc (.cells #[.int .i64 y, .slice a' m cap'] 26)).addBox _ [.int .i64 y, .slice a' m cap'] (Box.made _ _ _ _ (fun j v h => by simpa using h))
  replace st0 := (st0.alloc (.cells #[.int .i64 0, .slice none 0 0] 26)).addBox _ [.int .i64 0, .slice none 0 0] (Box.made _ _ _ _ (fun j v h => by simpa using h))
  simp only [World.size_alloc] at st0
  clear hs ht
  have q0 := st0.sl 1 ⟨o, lo, hi, .slice a n cap, n, f⟩ rfl
  have q1 := st0.sl 0 ⟨o', lo', hi', .slice a' m cap', m, g⟩ rfl
  dsimp only at q0 q1
  obtain ⟨x0, x1⟩ := (st0.box 2 (w.heap.size, [.int .i64 x, .slice a n cap]) rfl).cell2
  obtain ⟨y0, y1⟩ := (st0.box 1 (w.heap.size + 1, [.int .i64 y, .slice a' m cap']) rfl).cell2
  go_enter Try.func55, Try.ntmps55
  go_wp2_with fail
  refine (l01Like_any _ _ _ q0 q1).mono ?_
  rw [HC.out]
  rintro e w1 ⟨rfl, b1⟩
  clear q0 q1 x0 x1 y0 y1
  have st1 := st0.keep b1
  have hz_w1 := b1.size
  try simp only [World.size_alloc] at hz_w1
  clear st0 b1
  obtain ⟨d0, d1⟩ := (st1.box 0 _ rfl).cell2
  have dz := (st1.box 0 _ rfl).2.2
  have BB := st1.1
  dsimp only at dz
  go_wp2
  refine bodyPost_ret (v := failV c) (by simp [results, Try.results55, go_sem, failV, d0, d1]) rfl ?_
  exact ⟨rfl, by go_grown⟩

theorem AddCyclos_spec_out (x k : Int) (w : World) (hs : Sl o w lo hi v n f) (ht : Sl o' w lo' hi' v' m g) (hc : pairC x x n m f g = 0) (hk : k < -1000 ∨ 1000 < k) :
    Calls Try.prog 55 #[.agg #[.int .i64 x, v], .agg #[.int .i64 x, v'], .int .i64 k] w fun e w' => e = .returned (failV 2) ∧ Below w.heap.size w w' := by
  have HC := Lib.hid hc
  have HK := Lib.hid hk
  clear hc hk
  obtain ⟨a, cap, rfl⟩ := hs.shape
  obtain ⟨a', cap', rfl⟩ := ht.shape
  have st0 := (((((St.start w).addSl ⟨o, lo, hi, .slice a n cap, n, f⟩ hs).addSl ⟨o', lo', hi', .slice a' m cap', m, g⟩ ht).alloc (.cells #[.int .i64 x, .slice a n cap] 26)).addBox w.heap.size [.int .i64 x, .slice a n cap] (Box.made _ _ _ _ (fun j v h => by simpa using h)))
  replace st0 := (st0.alloc (.cells #[.int .i64 x, .slice a' m cap'] 26)).addBox _ [.int .i64 x, .slice a' m cap'] (Box.made _ _ _ _ (fun j v h => by simpa using h))
  replace st0 := (st0.alloc (.cells #[.int .i64 0, .slice none 0 0] 26)).addBox _ [.int .i64 0, .slice none 0 0] (Box.made _ _ _ _ (fun j v h => by simpa using h))
  simp only [World.size_alloc] at st0
  clear hs ht
  have q0 := st0.sl 1 ⟨o, lo, hi, .slice a n cap, n, f⟩ rfl
  have q1 := st0.sl 0 ⟨o', lo', hi', .slice a' m cap', m, g⟩ rfl
  dsimp only at q0 q1
  obtain ⟨x0, x1⟩ := (st0.box 2 (w.heap.size, [.int .i64 x, .slice a n cap]) rfl).cell2
  obtain ⟨y0, y1⟩ := (st0.box 1 (w.heap.size + 1, [.int .i64 x, .slice a' m cap']) rfl).cell2
  go_enter Try.func55, Try.ntmps55
  go_wp2_with fail
  refine (l01Like_any _ _ _ q0 q1).mono ?_
  rw [HC.out]
  rintro e w1 ⟨rfl, b1⟩
  clear q0 q1 x0 x1 y0 y1
  have st1 := st0.keep b1
  have hz_w1 := b1.size
  try simp only [World.size_alloc] at hz_w1
  clear st0 b1
  obtain ⟨d0, d1⟩ := (st1.box 0 _ rfl).cell2
  have dz := (st1.box 0 _ rfl).2.2
  have BB := st1.1
  dsimp only at dz
  go_wp2_with (go_at_call 67; refine (l01In_no _ _ _ _ HK.out).mono ?_; rintro e w' ⟨rfl, rfl⟩)
  refine bodyPost_ret (v := failV 2) (by simp [results, Try.results55, go_sem, failV, d0, d1]) rfl ?_
  exact ⟨rfl, by go_grown⟩

set_option maxRecDepth 100000 in
set_option maxHeartbeats 1000000 in
theorem AddCyclos_spec_ok (n : Nat) {L : Nat} (k : Int) (w : World) (hs : Sl o w lo hi v L f) (ht : Sl o' w lo' hi' v' L g) (h : CyP n L f) (h' : CyP n L g) (hk1 : -1000 ≤ k) (hk2 : k ≤ 1000) (hw : Within (addF k f g) L 1000000000) :
    Calls Try.prog 55 #[.agg #[.int .i64 (n : Int), v], .agg #[.int .i64 (n : Int), v'], .int .i64 k] w fun e w' => ∃ a' cap', e = .returned (.tuple #[.agg #[.int .i64 (n : Int), .slice a' (L) cap'], .int .i64 0]) ∧ Sl true w' w.heap.size w'.heap.size (.slice a' (L) cap') (L) (addF k f g) ∧ Below w.heap.size w w' := by
  have hn1 : 1 ≤ n := by have := h.1; omega
  have hn2 : n ≤ 16 := by have := h.2.1; omega
  have hp := phi_le12 n hn2 hn1
  have hL : L ≤ 12 := by have e : L = phiN n := h.2.2.1; omega
  have HC := Lib.hid (pairC_ok h h' rfl)
  have HW := Lib.hid hw
  have HF := Lib.hid h.2.2.2
  have HG := Lib.hid h'.2.2.2
  clear h h' hw hp
  have hhs := hs.size
  have hht := ht.size
  obtain ⟨a, cap, rfl⟩ := hs.shape
  obtain ⟨a', cap', rfl⟩ := ht.shape
  have st0 := (((((St.start w).addSl ⟨o, lo, hi, .slice a L cap, L, f⟩ hs).addSl ⟨o', lo', hi', .slice a' L cap', L, g⟩ ht).alloc (.cells #[.int .i64 (n : Int), .slice a L cap] 26)).addBox w.heap.size [.int .i64 (n : Int), .slice a L cap] (Box.made _ _ _ _ (fun j v h => by simpa using h)))
  replace st0 := (st0.alloc (.cells #[.int .i64 (n : Int), .slice a' L cap'] 26)).addBox _ [.int .i64 (n : Int), .slice a' L cap'] (Box.made _ _ _ _ (fun j v h => by simpa using h))
  replace st0 := (st0.alloc (.cells #[.int .i64 0, .slice none 0 0] 26)).addBox _ [.int .i64 0, .slice none 0 0] (Box.made _ _ _ _ (fun j v h => by simpa using h))
  simp only [World.size_alloc] at st0
  clear hs ht
  have q0 := st0.sl 1 ⟨o, lo, hi, .slice a L cap, L, f⟩ rfl
  have q1 := st0.sl 0 ⟨o', lo', hi', .slice a' L cap', L, g⟩ rfl
  dsimp only at q0 q1
  obtain ⟨x0, x1⟩ := (st0.box 2 (w.heap.size, [.int .i64 (n : Int), .slice a L cap]) rfl).cell2
  obtain ⟨y0, y1⟩ := (st0.box 1 (w.heap.size + 1, [.int .i64 (n : Int), .slice a' L cap']) rfl).cell2
  go_enter Try.func55, Try.ntmps55
  go_wp2_with fail
  refine (l01Like_any _ _ _ q0 q1).mono ?_
  rw [HC.out]
  rintro e w1 ⟨rfl, b1⟩
  clear q0 q1 x0 x1 y0 y1
  have st1 := st0.keep b1
  have hz_w1 := b1.size
  try simp only [World.size_alloc] at hz_w1
  clear st0 b1
  obtain ⟨x0, x1⟩ := (st1.box 2 (w.heap.size, [.int .i64 (n : Int), .slice a L cap]) rfl).cell2
  obtain ⟨y0, y1⟩ := (st1.box 1 (w.heap.size + 1, [.int .i64 (n : Int), .slice a' L cap']) rfl).cell2
  have q0 := st1.sl 1 ⟨o, lo, hi, .slice a L cap, L, f⟩ rfl
  have q1 := st1.sl 0 ⟨o', lo', hi', .slice a' L cap', L, g⟩ rfl
  dsimp only at q0 q1
  go_wp2_with (go_at_call 67; refine (l01In_yes _ _ _ _ (by omega) (by omega)).mono ?_; rintro e w' ⟨rfl, rfl⟩)
  refine (l01Plus_any _ _ _ q0 q1 hk1 hk2 HF.out HG.out (Nat.le_trans hL (by decide))).mono ?_
  rintro e w2 ⟨a2, k2, rfl, s2, b2⟩
  clear q0 q1 x0 x1 y0 y1
  have st2 := (st1.keep b2).addSl ⟨true, w1.heap.size, w2.heap.size, .slice a2 L k2, L, addF k f g⟩ s2
  have hz2 := b2.size
  clear st1 b2 s2
  have q2 := st2.sl 0 ⟨true, w1.heap.size, w2.heap.size, .slice a2 L k2, L, addF k f g⟩ rfl
  dsimp only at q2
  go_wp2_with fail
  refine (l01Told_yes _ _ q2 HW.out).mono ?_
  rintro e w3 ⟨rfl, b3⟩
  have S3 := Lib.hid ((q2.keep b3 q2.size).alloc (.cells #[.int .i64 (n : Int), .slice a2 L k2] 26))
  have st3 := (st2.keep b3).alloc (.cells #[.int .i64 (n : Int), .slice a2 L k2] 26)
  have hz3 := b3.size
  clear st2 b3 q2
  obtain ⟨d0, d1⟩ := (st3.box 0 _ rfl).cell2
  have dz := (st3.box 0 _ rfl).2.2
  have BB := st3.1
  dsimp only at dz
  clear st3
  go_wp2
  refine bodyPost_ret (v := .tuple #[.agg #[.int .i64 (n : Int), .slice a2 L k2], .int .i64 0]) (by simp [results, Try.results55, go_sem, d0, d1]) rfl ?_
  refine ⟨_, _, rfl, ?_, by go_grown⟩
  exact ((S3.out.setOther (.inl (by show w.heap.size + 1 + 1 < _; omega)) _).setOther (.inl (by show w.heap.size + 1 + 1 < _; omega)) _).wide (by omega) (by simp; omega) (Nat.le_refl _)

set_option maxRecDepth 100000 in
set_option maxHeartbeats 1000000 in
theorem AddCyclos_spec_big (n : Nat) {L : Nat} (k : Int) (w : World) (hs : Sl o w lo hi v L f) (ht : Sl o' w lo' hi' v' L g) (h : CyP n L f) (h' : CyP n L g) (hk1 : -1000 ≤ k) (hk2 : k ≤ 1000) (hw : ¬ Within (addF k f g) L 1000000000) :
    Calls Try.prog 55 #[.agg #[.int .i64 (n : Int), v], .agg #[.int .i64 (n : Int), v'], .int .i64 k] w fun e w' => e = .returned (failV 3) ∧ Below w.heap.size w w' := by
  have hn1 : 1 ≤ n := by have := h.1; omega
  have hn2 : n ≤ 16 := by have := h.2.1; omega
  have hp := phi_le12 n hn2 hn1
  have hL : L ≤ 12 := by have e : L = phiN n := h.2.2.1; omega
  have HC := Lib.hid (pairC_ok h h' rfl)
  have HW := Lib.hid hw
  have HF := Lib.hid h.2.2.2
  have HG := Lib.hid h'.2.2.2
  clear h h' hw hp
  have hhs := hs.size
  have hht := ht.size
  obtain ⟨a, cap, rfl⟩ := hs.shape
  obtain ⟨a', cap', rfl⟩ := ht.shape
  have st0 := (((((St.start w).addSl ⟨o, lo, hi, .slice a L cap, L, f⟩ hs).addSl ⟨o', lo', hi', .slice a' L cap', L, g⟩ ht).alloc (.cells #[.int .i64 (n : Int), .slice a L cap] 26)).addBox w.heap.size [.int .i64 (n : Int), .slice a L cap] (Box.made _ _ _ _ (fun j v h => by simpa using h)))
  replace st0 := (st0.alloc (.cells #[.int .i64 (n : Int), .slice a' L cap'] 26)).addBox _ [.int .i64 (n : Int), .slice a' L cap'] (Box.made _ _ _ _ (fun j v h => by simpa using h))
  replace st0 := (st0.alloc (.cells #[.int .i64 0, .slice none 0 0] 26)).addBox _ [.int .i64 0, .slice none 0 0] (Box.made _ _ _ _ (fun j v h => by simpa using h))
  simp only [World.size_alloc] at st0
  clear hs ht
  have q0 := st0.sl 1 ⟨o, lo, hi, .slice a L cap, L, f⟩ rfl
  have q1 := st0.sl 0 ⟨o', lo', hi', .slice a' L cap', L, g⟩ rfl
  dsimp only at q0 q1
  obtain ⟨x0, x1⟩ := (st0.box 2 (w.heap.size, [.int .i64 (n : Int), .slice a L cap]) rfl).cell2
  obtain ⟨y0, y1⟩ := (st0.box 1 (w.heap.size + 1, [.int .i64 (n : Int), .slice a' L cap']) rfl).cell2
  go_enter Try.func55, Try.ntmps55
  go_wp2_with fail
  refine (l01Like_any _ _ _ q0 q1).mono ?_
  rw [HC.out]
  rintro e w1 ⟨rfl, b1⟩
  clear q0 q1 x0 x1 y0 y1
  have st1 := st0.keep b1
  have hz_w1 := b1.size
  try simp only [World.size_alloc] at hz_w1
  clear st0 b1
  obtain ⟨x0, x1⟩ := (st1.box 2 (w.heap.size, [.int .i64 (n : Int), .slice a L cap]) rfl).cell2
  obtain ⟨y0, y1⟩ := (st1.box 1 (w.heap.size + 1, [.int .i64 (n : Int), .slice a' L cap']) rfl).cell2
  have q0 := st1.sl 1 ⟨o, lo, hi, .slice a L cap, L, f⟩ rfl
  have q1 := st1.sl 0 ⟨o', lo', hi', .slice a' L cap', L, g⟩ rfl
  dsimp only at q0 q1
  go_wp2_with (go_at_call 67; refine (l01In_yes _ _ _ _ (by omega) (by omega)).mono ?_; rintro e w' ⟨rfl, rfl⟩)
  refine (l01Plus_any _ _ _ q0 q1 hk1 hk2 HF.out HG.out (Nat.le_trans hL (by decide))).mono ?_
  rintro e w2 ⟨a2, k2, rfl, s2, b2⟩
  clear q0 q1 x0 x1 y0 y1
  have st2 := (st1.keep b2).addSl ⟨true, w1.heap.size, w2.heap.size, .slice a2 L k2, L, addF k f g⟩ s2
  have hz2 := b2.size
  clear st1 b2 s2
  have q2 := st2.sl 0 ⟨true, w1.heap.size, w2.heap.size, .slice a2 L k2, L, addF k f g⟩ rfl
  dsimp only at q2
  go_wp2_with fail
  refine (l01Told_no _ _ q2 HW.out).mono ?_
  rintro e w3 ⟨rfl, b3⟩
  unfold failV
  have st3 := (st2.keep b3).alloc (.cells #[.int .i64 0, .slice none 0 0] 26)
  have hz3 := b3.size
  clear st2 b3 q2
  obtain ⟨d0, d1⟩ := (st3.box 0 _ rfl).cell2
  have dz := (st3.box 0 _ rfl).2.2
  have BB := st3.1
  dsimp only at dz
  clear st3
  go_wp2
  refine bodyPost_ret (v := failV 3) (by simp [results, Try.results55, go_sem, failV, d0, d1]) rfl ?_
  exact ⟨rfl, by go_grown⟩

end
end Go.Proofs.Ytbmjhniinfeebaa
