/- DivideCyclos of the model. -/
import Derived.Test.YtmmcbkikcceenaaDivS
namespace Go.Proofs.Ytmmcbkikcceenaa
open Go.RowKit Go.ChangeShapes Go.Sort
set_option linter.unusedVariables false
set_option linter.unusedSimpArgs false

section
variable {o o' : Bool} {lo hi lo' hi' n m : Nat} {v v' : Value} {f g : Nat → Int}
theorem DivideCyclos_spec_bad (x y c : Int) (w : World) (hs : Sl o w lo hi v n f) (ht : Sl o' w lo' hi' v' m g) (hc : pairC x y n m f g = c) (hc0 : c ≠ 0) :
    Calls Try.prog 68 #[.agg #[.int .i64 x, v], .agg #[.int .i64 y, v']] w fun e w' => e = .returned (failV c) ∧ Below w.heap.size w w' := by
  have HC := Lib.hid hc
  clear hc
  have hb : (c != 0) = true := by simpa using hc0
  have hb' : (c == 0) = false := by simpa using hc0
  obtain ⟨a, cap, rfl⟩ := hs.shape
  obtain ⟨a', cap', rfl⟩ := ht.shape
  have st0 := (((((St.start w).addSl ⟨o, lo, hi, .slice a n cap, n, f⟩ hs).addSl ⟨o', lo', hi', .slice a' m cap', m, g⟩ ht).alloc (.cells #[.int .i64 x, .slice a n cap] 26)).addBox w.heap.size [.int .i64 x, .slice a n cap] (Box.made _ _ _ _ (fun j v h => by simpa using h)))
  replace st0 := (st0.alloc (.cells #[.int .i64 y, .slice a' m cap'] 26)).addBox _ [.int .i64 y, .slice a' m cap'] (Box.made _ _ _ _ (fun j v h => by simpa using h))
  replace st0 := (st0.alloc (.cells #[.int .i64 0, .slice none 0 0] 26)).addBox _ [.int .i64 0, .slice none 0 0] (Box.made _ _ _ _ (fun j v h => by simpa using h))
  simp only [World.size_alloc] at st0
  clear hs ht
  have q0 := st0.sl 1 ⟨o, lo, hi, .slice a n cap, n, f⟩ rfl
  have q1 := st0.sl 0 ⟨o', lo', hi', .slice a' m cap', m, g⟩ rfl
  dsimp only at q0 q1
  obtain ⟨x0, x1⟩ := (st0.box 2 (w.heap.size, [.int .i64 x, .slice a n cap]) rfl).cell2
  obtain ⟨y0, y1⟩ := (st0.box 1 (w.heap.size + 1, [.int .i64 y, .slice a' m cap']) rfl).cell2
  go_enter Try.func68, Try.ntmps68
  go_wp2_with fail
  refine (l01Like_any _ _ _ q0 q1).mono ?_
  rw [HC.out]
  rintro e w1 ⟨rfl, b1⟩
  clear q0 q1 x0 x1 y0 y1
  have st1 := st0.keep b1
  have hz_w1 := b1.size
  try simp only [World.size_alloc] at hz_w1
  clear st0 b1
  obtain ⟨d0, d1⟩ := (st1.box 0 _ rfl).cell2
  have dz := (st1.box 0 _ rfl).2.2
  have BB := st1.1
  dsimp only at dz
  go_wp2
  refine bodyPost_ret (v := failV c) (by simp [results, Try.results68, go_sem, failV, d0, d1]) rfl ?_
  exact ⟨rfl, by go_grown⟩

set_option maxRecDepth 100000 in
set_option maxHeartbeats 4000000 in
theorem DivideCyclos_spec_zero (n : Nat) (w : World) (hs : Sl o w lo hi v (phiN n) f) (ht : Sl o' w lo' hi' v' (phiN n) g) (h : CyP n (phiN n) f) (h' : CyP n (phiN n) g) (hz : zeroB (phiN n) g = true) :
    Calls Try.prog 68 #[.agg #[.int .i64 (n : Int), v], .agg #[.int .i64 (n : Int), v']] w fun e w' => e = .returned (failV 5) ∧ Below w.heap.size w w' := by
  have hn1 : 1 ≤ n := by have := h.1; omega
  have hn2 : n ≤ 16 := by have := h.2.1; omega
  have HC := Lib.hid (pairC_ok h h' rfl)
  have HCX := Lib.hid h
  have HCY := Lib.hid h'
  have HZ := Lib.hid hz
  clear h h' hz
  have hhs := hs.size
  have hht := ht.size
  obtain ⟨a, cap, rfl⟩ := hs.shape
  obtain ⟨a', cap', rfl⟩ := ht.shape
  have st0 := (((((St.start w).addSl ⟨o, lo, hi, .slice a (phiN n) cap, phiN n, f⟩ hs).addSl ⟨o', lo', hi', .slice a' (phiN n) cap', phiN n, g⟩ ht).alloc (.cells #[.int .i64 (n : Int), .slice a (phiN n) cap] 26)).addBox w.heap.size [.int .i64 (n : Int), .slice a (phiN n) cap] (Box.made _ _ _ _ (fun j v h => by simpa using h)))
  replace st0 := (st0.alloc (.cells #[.int .i64 (n : Int), .slice a' (phiN n) cap'] 26)).addBox _ [.int .i64 (n : Int), .slice a' (phiN n) cap'] (Box.made _ _ _ _ (fun j v h => by simpa using h))
  replace st0 := (st0.alloc (.cells #[.int .i64 0, .slice none 0 0] 26)).addBox _ [.int .i64 0, .slice none 0 0] (Box.made _ _ _ _ (fun j v h => by simpa using h))
  simp only [World.size_alloc] at st0
  clear hs ht
  have q0 := st0.sl 1 ⟨o, lo, hi, .slice a (phiN n) cap, phiN n, f⟩ rfl
  have q1 := st0.sl 0 ⟨o', lo', hi', .slice a' (phiN n) cap', phiN n, g⟩ rfl
  dsimp only at q0 q1
  obtain ⟨x0, x1⟩ := (st0.box 2 (w.heap.size, [.int .i64 (n : Int), .slice a (phiN n) cap]) rfl).cell2
  obtain ⟨y0, y1⟩ := (st0.box 1 (w.heap.size + 1, [.int .i64 (n : Int), .slice a' (phiN n) cap']) rfl).cell2
  go_enter Try.func68, Try.ntmps68
  go_wp2_with fail
  refine (l01Like_any _ _ _ q0 q1).mono ?_
  rw [HC.out]
  rintro e w1 ⟨rfl, b1⟩
  clear q0 q1 x0 x1 y0 y1
  have st1 := st0.keep b1
  have hz_w1 := b1.size
  try simp only [World.size_alloc] at hz_w1
  clear st0 b1
  obtain ⟨y0, y1⟩ := (st1.box 1 (w.heap.size + 1, [.int .i64 (n : Int), .slice a' (phiN n) cap']) rfl).cell2
  have q1 := st1.sl 0 ⟨o', lo', hi', .slice a' (phiN n) cap', phiN n, g⟩ rfl
  dsimp only at q1
  go_wp2_with fail
  refine (l02Null_any n _ q1 hn1 hn2).mono ?_
  rw [HZ.out]
  rintro e w2 ⟨rfl, b2⟩
  clear q1 y0 y1
  have st2 := st1.keep b2
  have hz_w2 := b2.size
  clear st1 b2
  obtain ⟨d0, d1⟩ := (st2.box 0 _ rfl).cell2
  have dz := (st2.box 0 _ rfl).2.2
  have BB := st2.1
  dsimp only at dz
  go_wp2
  refine bodyPost_ret (v := failV 5) (by simp [results, Try.results68, go_sem, failV, d0, d1]) rfl ?_
  exact ⟨rfl, by go_grown⟩

set_option maxRecDepth 100000 in
set_option maxHeartbeats 4000000 in
theorem DivideCyclos_spec_any (n : Nat) (w : World) (hs : Sl o w lo hi v (phiN n) f) (ht : Sl o' w lo' hi' v' (phiN n) g) (h : CyP n (phiN n) f) (h' : CyP n (phiN n) g) (hz : zeroB (phiN n) g = false) :
    Calls Try.prog 68 #[.agg #[.int .i64 (n : Int), v], .agg #[.int .i64 (n : Int), v']] w fun e w' => ((dvOk n f g ∧ divTo (dvZ n f g) (dvN n g) (phiN n) ∧ ∃ a9 k9, e = .returned (.tuple #[.agg #[.int .i64 (n : Int), .slice a9 (phiN n) k9], .int .i64 0]) ∧ Sl true w' w.heap.size w'.heap.size (.slice a9 (phiN n) k9) (phiN n) (quoZ (dvZ n f g) (dvN n g))) ∨ (dvOk n f g ∧ ¬ divTo (dvZ n f g) (dvN n g) (phiN n) ∧ e = .returned (failV 4)) ∨ (¬ dvOk n f g ∧ e = .returned (failV 3))) ∧ Below w.heap.size w w' := by
  have hn1 : 1 ≤ n := by have := h.1; omega
  have hn2 : n ≤ 16 := by have := h.2.1; omega
  have HC := Lib.hid (pairC_ok h h' rfl)
  have HCX := Lib.hid h
  have HCY := Lib.hid h'
  have HZ := Lib.hid hz
  clear h h' hz
  have hhs := hs.size
  have hht := ht.size
  obtain ⟨a, cap, rfl⟩ := hs.shape
  obtain ⟨a', cap', rfl⟩ := ht.shape
  have st0 := (((((St.start w).addSl ⟨o, lo, hi, .slice a (phiN n) cap, phiN n, f⟩ hs).addSl ⟨o', lo', hi', .slice a' (phiN n) cap', phiN n, g⟩ ht).alloc (.cells #[.int .i64 (n : Int), .slice a (phiN n) cap] 26)).addBox w.heap.size [.int .i64 (n : Int), .slice a (phiN n) cap] (Box.made _ _ _ _ (fun j v h => by simpa using h)))
  replace st0 := (st0.alloc (.cells #[.int .i64 (n : Int), .slice a' (phiN n) cap'] 26)).addBox _ [.int .i64 (n : Int), .slice a' (phiN n) cap'] (Box.made _ _ _ _ (fun j v h => by simpa using h))
  replace st0 := (st0.alloc (.cells #[.int .i64 0, .slice none 0 0] 26)).addBox _ [.int .i64 0, .slice none 0 0] (Box.made _ _ _ _ (fun j v h => by simpa using h))
  simp only [World.size_alloc] at st0
  clear hs ht
  have q0 := st0.sl 1 ⟨o, lo, hi, .slice a (phiN n) cap, phiN n, f⟩ rfl
  have q1 := st0.sl 0 ⟨o', lo', hi', .slice a' (phiN n) cap', phiN n, g⟩ rfl
  dsimp only at q0 q1
  obtain ⟨x0, x1⟩ := (st0.box 2 (w.heap.size, [.int .i64 (n : Int), .slice a (phiN n) cap]) rfl).cell2
  obtain ⟨y0, y1⟩ := (st0.box 1 (w.heap.size + 1, [.int .i64 (n : Int), .slice a' (phiN n) cap']) rfl).cell2
  go_enter Try.func68, Try.ntmps68
  go_wp2_with fail
  refine (l01Like_any _ _ _ q0 q1).mono ?_
  rw [HC.out]
  rintro e w1 ⟨rfl, b1⟩
  clear q0 q1 x0 x1 y0 y1
  have st1 := st0.keep b1
  have hz_w1 := b1.size
  try simp only [World.size_alloc] at hz_w1
  clear st0 b1
  obtain ⟨y0, y1⟩ := (st1.box 1 (w.heap.size + 1, [.int .i64 (n : Int), .slice a' (phiN n) cap']) rfl).cell2
  have q1 := st1.sl 0 ⟨o', lo', hi', .slice a' (phiN n) cap', phiN n, g⟩ rfl
  dsimp only at q1
  go_wp2_with fail
  refine (l02Null_any n _ q1 hn1 hn2).mono ?_
  rw [HZ.out]
  rintro e w2 ⟨rfl, b2⟩
  clear q1 y0 y1
  have st2 := st1.keep b2
  have hz_w2 := b2.size
  clear st1 b2
  obtain ⟨x0, x1⟩ := (st2.box 2 (w.heap.size, [.int .i64 (n : Int), .slice a (phiN n) cap]) rfl).cell2
  obtain ⟨y0, y1⟩ := (st2.box 1 (w.heap.size + 1, [.int .i64 (n : Int), .slice a' (phiN n) cap']) rfl).cell2
  have qx := st2.sl 1 ⟨o, lo, hi, .slice a (phiN n) cap, phiN n, f⟩ rfl
  have qy := st2.sl 0 ⟨o', lo', hi', .slice a' (phiN n) cap', phiN n, g⟩ rfl
  dsimp only at qx qy
  go_wp2_with fail
  refine (l02Divide_any n _ qx qy HCX.out HCY.out HZ.out).mono ?_
  rintro e w3 ⟨hd, b3⟩
  clear qx qy x0 x1 y0 y1
  rcases hd with ⟨hok, hd, a9, k9, rfl, s9⟩ | ⟨hok, hd, rfl⟩ | ⟨hok, rfl⟩
  · have HOK := Lib.hid hok
    have HD := Lib.hid hd
    clear hok hd
    have ST4 := (st2.keep b3).boxNew (.int .i64 (n : Int)) (.slice a9 (phiN n) k9) 26
    obtain ⟨u0, u1⟩ := (ST4.box 0 (w3.heap.size, [.int .i64 (n : Int), .slice a9 (phiN n) k9]) rfl).cell2
    obtain ⟨d0, d1⟩ := (ST4.box 1 (w.heap.size + 1 + 1, [.int .i64 0, .slice none 0 0]) rfl).cell2
    have dz := (ST4.box 1 (w.heap.size + 1 + 1, [.int .i64 0, .slice none 0 0]) rfl).2.2
    have dl := (ST4.box 1 (w.heap.size + 1 + 1, [.int .i64 0, .slice none 0 0]) rfl).1
    have BB := ST4.1
    dsimp only at dz dl
    have S9 := Lib.hid (s9.alloc (.cells #[.int .i64 (n : Int), .slice a9 (phiN n) k9] 26))
    have hz9 := b3.size
    clear ST4 st2 b3 s9

    go_wp2
    refine bodyPost_ret (v := .tuple #[.agg #[.int .i64 (n : Int), .slice a9 (phiN n) k9], .int .i64 0]) (by simp [results, Try.results68, go_sem, d0, d1]) rfl ?_
    refine ⟨.inl ⟨HOK.out, HD.out, _, _, rfl, ?_⟩, by go_grown⟩
    exact ((S9.out.setOther (.inl (by show w.heap.size + 1 + 1 < w2.heap.size; omega)) _).setOther (.inl (by show w.heap.size + 1 + 1 < w2.heap.size; omega)) _).wide (by omega) (by simp) (Nat.le_refl _)
  · have HOK := Lib.hid hok
    have HD := Lib.hid hd
    clear hok hd
    have ST4 := (st2.keep b3).boxNew (.int .i64 0) (.slice none 0 0) 26
    obtain ⟨u0, u1⟩ := (ST4.box 0 (w3.heap.size, [.int .i64 0, .slice none 0 0]) rfl).cell2
    obtain ⟨d0, d1⟩ := (ST4.box 1 (w.heap.size + 1 + 1, [.int .i64 0, .slice none 0 0]) rfl).cell2
    have dz := (ST4.box 1 (w.heap.size + 1 + 1, [.int .i64 0, .slice none 0 0]) rfl).2.2
    have dl := (ST4.box 1 (w.heap.size + 1 + 1, [.int .i64 0, .slice none 0 0]) rfl).1
    have BB := ST4.1
    dsimp only at dz dl
    clear ST4 st2 b3
    unfold failV
    go_wp2
    refine bodyPost_ret (v := failV 4) (by simp [results, Try.results68, go_sem, failV, d0, d1]) rfl ?_
    exact ⟨.inr (.inl ⟨HOK.out, HD.out, rfl⟩), by go_grown⟩
  · have HOK := Lib.hid hok
    clear hok
    have ST4 := (st2.keep b3).boxNew (.int .i64 0) (.slice none 0 0) 26
    obtain ⟨u0, u1⟩ := (ST4.box 0 (w3.heap.size, [.int .i64 0, .slice none 0 0]) rfl).cell2
    obtain ⟨d0, d1⟩ := (ST4.box 1 (w.heap.size + 1 + 1, [.int .i64 0, .slice none 0 0]) rfl).cell2
    have dz := (ST4.box 1 (w.heap.size + 1 + 1, [.int .i64 0, .slice none 0 0]) rfl).2.2
    have dl := (ST4.box 1 (w.heap.size + 1 + 1, [.int .i64 0, .slice none 0 0]) rfl).1
    have BB := ST4.1
    dsimp only at dz dl
    clear ST4 st2 b3
    unfold failV
    go_wp2
    refine bodyPost_ret (v := failV 3) (by simp [results, Try.results68, go_sem, failV, d0, d1]) rfl ?_
    exact ⟨.inr (.inr ⟨HOK.out, rfl⟩), by go_grown⟩
end
end Go.Proofs.Ytmmcbkikcceenaa
