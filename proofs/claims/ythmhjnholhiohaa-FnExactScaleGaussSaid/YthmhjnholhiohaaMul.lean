/- MultiplyCyclos of the program. -/
import Derived.Test.YthmhjnholhiohaaProdW
namespace Go.Proofs.Ythmhjnholhiohaa
open Go.RowKit Go.ChangeShapes Go.Sort
set_option linter.unusedVariables false
set_option linter.unusedSimpArgs false

section
variable {o o' : Bool} {lo hi lo' hi' n m : Nat} {v v' : Value} {f g : Nat → Int}
theorem MultiplyCyclos_impl_bad (x y c : Int) (w : World) (hs : Sl o w lo hi v n f) (ht : Sl o' w lo' hi' v' m g) (hc : pairC x y n m f g = c) (hc0 : c ≠ 0) :
    Calls Try.prog 100 #[.agg #[.int .i64 x, v], .agg #[.int .i64 y, v']] w fun e w' => e = .returned (failV c) ∧ Below w.heap.size w w' := by
  have HC := Lib.hid hc
  clear hc
  have hb : (c != 0) = true := by simpa using hc0
  have hb' : (c == 0) = false := by simpa using hc0
  obtain ⟨a, cap, rfl⟩ := hs.shape
  obtain ⟨a', cap', rfl⟩ := ht.shape
  have st0 := (((((St.start w).addSl ⟨o, lo, hi, .slice a n cap, n, f⟩ hs).addSl ⟨o', lo', hi', .slice a' m cap', m, g⟩ ht).alloc (.cells #[.int .i64 x, .slice a n cap] 37)).addBox w.heap.size [.int .i64 x, .slice a n cap] (Box.made _ _ _ _ (fun j v h => by simpa using h)))
  replace st0 := (st0.alloc (.cells #[.int .i64 y, .slice a' m cap'] 37)).addBox _ [.int .i64 y, .slice a' m cap'] (Box.made _ _ _ _ (fun j v h => by simpa using h))
  replace st0 := (st0.alloc (.cells #[.int .i64 0, .slice none 0 0] 37)).addBox _ [.int .i64 0, .slice none 0 0] (Box.made _ _ _ _ (fun j v h => by simpa using h))
  simp only [World.size_alloc] at st0
  clear hs ht
  have q0 := st0.sl 1 ⟨o, lo, hi, .slice a n cap, n, f⟩ rfl
  have q1 := st0.sl 0 ⟨o', lo', hi', .slice a' m cap', m, g⟩ rfl
  dsimp only at q0 q1
  obtain ⟨x0, x1⟩ := (st0.box 2 (w.heap.size, [.int .i64 x, .slice a n cap]) rfl).cell2
  obtain ⟨y0, y1⟩ := (st0.box 1 (w.heap.size + 1, [.int .i64 y, .slice a' m cap']) rfl).cell2
  go_enter Try.func100, Try.ntmps100
  go_wp2_with fail
  refine (pairCode_any _ _ _ q0 q1).mono ?_
  rw [HC.out]
  rintro e w1 ⟨rfl, b1⟩
  clear q0 q1 x0 x1 y0 y1
  have st1 := st0.keep b1
  have hz_w1 := b1.size
  try simp only [World.size_alloc] at hz_w1
  clear st0 b1
  obtain ⟨d0, d1⟩ := (st1.box 0 _ rfl).cell2
  have dz := (st1.box 0 _ rfl).2.2
  have BB := st1.1
  dsimp only at dz
  go_wp2
  refine bodyPost_ret (v := failV c) (by simp [results, Try.results100, go_sem, failV, d0, d1]) rfl ?_
  exact ⟨rfl, by go_grown⟩

set_option maxRecDepth 100000 in
set_option maxHeartbeats 1000000 in
theorem MultiplyCyclos_impl_ok (n : Nat) {L : Nat} (w : World) (hs : Sl o w lo hi v L f) (ht : Sl o' w lo' hi' v' L g) (h : CyP n L f) (h' : CyP n L g) (hw : Within (prodZ n L f g) (phiN n) 1000000000) :
    Calls Try.prog 100 #[.agg #[.int .i64 (n : Int), v], .agg #[.int .i64 (n : Int), v']] w fun e w' => ∃ a' cap', e = .returned (.tuple #[.agg #[.int .i64 (n : Int), .slice a' (phiN n) cap'], .int .i64 0]) ∧ Sl true w' w.heap.size w'.heap.size (.slice a' (phiN n) cap') (phiN n) (prodZ n L f g) ∧ Below w.heap.size w w' := by
  have hn1 : 1 ≤ n := by have := h.1; omega
  have hn2 : n ≤ 16 := by have := h.2.1; omega
  have hp := phi_le12 n hn2 hn1
  have hL : L ≤ 12 := by have e : L = phiN n := h.2.2.1; omega
  have hL0 : 0 < L := by have e : L = phiN n := h.2.2.1; have := phiN_pos n (by omega) hn1; omega
  have HC := Lib.hid (pairC_ok h h' rfl)
  have HF := Lib.hid (Within.big h.2.2.2)
  have HG := Lib.hid (Within.big h'.2.2.2)
  have HW := Lib.hid hw
  clear h h' hw
  have hhs := hs.size
  have hht := ht.size
  obtain ⟨a, cap, rfl⟩ := hs.shape
  obtain ⟨a', cap', rfl⟩ := ht.shape
  have st0 := (((((St.start w).addSl ⟨o, lo, hi, .slice a L cap, L, f⟩ hs).addSl ⟨o', lo', hi', .slice a' L cap', L, g⟩ ht).alloc (.cells #[.int .i64 (n : Int), .slice a L cap] 37)).addBox w.heap.size [.int .i64 (n : Int), .slice a L cap] (Box.made _ _ _ _ (fun j v h => by simpa using h)))
  replace st0 := (st0.alloc (.cells #[.int .i64 (n : Int), .slice a' L cap'] 37)).addBox _ [.int .i64 (n : Int), .slice a' L cap'] (Box.made _ _ _ _ (fun j v h => by simpa using h))
  replace st0 := (st0.alloc (.cells #[.int .i64 0, .slice none 0 0] 37)).addBox _ [.int .i64 0, .slice none 0 0] (Box.made _ _ _ _ (fun j v h => by simpa using h))
  simp only [World.size_alloc] at st0
  clear hs ht
  have q0 := st0.sl 1 ⟨o, lo, hi, .slice a L cap, L, f⟩ rfl
  have q1 := st0.sl 0 ⟨o', lo', hi', .slice a' L cap', L, g⟩ rfl
  dsimp only at q0 q1
  obtain ⟨x0, x1⟩ := (st0.box 2 (w.heap.size, [.int .i64 (n : Int), .slice a L cap]) rfl).cell2
  obtain ⟨y0, y1⟩ := (st0.box 1 (w.heap.size + 1, [.int .i64 (n : Int), .slice a' L cap']) rfl).cell2
  go_enter Try.func100, Try.ntmps100
  go_wp2_with fail
  refine (pairCode_any _ _ _ q0 q1).mono ?_
  rw [HC.out]
  rintro e w1 ⟨rfl, b1⟩
  clear q0 q1 x0 x1 y0 y1
  have st1 := st0.keep b1
  have hz_w1 := b1.size
  try simp only [World.size_alloc] at hz_w1
  clear st0 b1
  obtain ⟨x0, x1⟩ := (st1.box 2 (w.heap.size, [.int .i64 (n : Int), .slice a L cap]) rfl).cell2
  obtain ⟨y0, y1⟩ := (st1.box 1 (w.heap.size + 1, [.int .i64 (n : Int), .slice a' L cap']) rfl).cell2
  have q0 := st1.sl 1 ⟨o, lo, hi, .slice a L cap, L, f⟩ rfl
  have q1 := st1.sl 0 ⟨o', lo', hi', .slice a' L cap', L, g⟩ rfl
  dsimp only at q0 q1
  go_wp2_with fail
  refine (productWithin_ok n hn1 hn2 _ q0 q1 HF.out HG.out hL0 (Nat.le_refl _) hL (fun j h1 h2 => absurd h2 (by omega)) HW.out).mono ?_
  rintro e w7 ⟨a7, k7, rfl, s7, b7⟩
  clear q0 q1 x0 x1 y0 y1
  have st7 := st1.keep b7
  have hz7 := b7.size
  have S7 := Lib.hid s7
  clear s7
  clear st1 b7
  obtain ⟨d0, d1⟩ := (st7.box 0 _ rfl).cell2
  have dz := (st7.box 0 _ rfl).2.2
  have B7 := st7.1
  dsimp only at dz
  clear st7
  go_wp2
  refine bodyPost_ret (v := .tuple #[.agg #[.int .i64 (n : Int), .slice a7 (phiN n) k7], .int .i64 0]) (by simp [results, Try.results100, go_sem, d0, d1]) rfl ?_
  refine ⟨_, _, rfl, ?_, by go_grown⟩
  exact ((S7.out.setOther (.inl (by show w.heap.size + 1 + 1 < _; omega)) _).setOther (.inl (by show w.heap.size + 1 + 1 < _; omega)) _).wide (by omega) (by simp) (Nat.le_refl _)

set_option maxRecDepth 100000 in
set_option maxHeartbeats 1000000 in
theorem MultiplyCyclos_impl_big (n : Nat) {L : Nat} (w : World) (hs : Sl o w lo hi v L f) (ht : Sl o' w lo' hi' v' L g) (h : CyP n L f) (h' : CyP n L g) (hw : ¬ Within (prodZ n L f g) (phiN n) 1000000000) :
    Calls Try.prog 100 #[.agg #[.int .i64 (n : Int), v], .agg #[.int .i64 (n : Int), v']] w fun e w' => e = .returned (failV 3) ∧ Below w.heap.size w w' := by
  have hn1 : 1 ≤ n := by have := h.1; omega
  have hn2 : n ≤ 16 := by have := h.2.1; omega
  have hp := phi_le12 n hn2 hn1
  have hL : L ≤ 12 := by have e : L = phiN n := h.2.2.1; omega
  have hL0 : 0 < L := by have e : L = phiN n := h.2.2.1; have := phiN_pos n (by omega) hn1; omega
  have HC := Lib.hid (pairC_ok h h' rfl)
  have HF := Lib.hid (Within.big h.2.2.2)
  have HG := Lib.hid (Within.big h'.2.2.2)
  have HW := Lib.hid hw
  clear h h' hw
  have hhs := hs.size
  have hht := ht.size
  obtain ⟨a, cap, rfl⟩ := hs.shape
  obtain ⟨a', cap', rfl⟩ := ht.shape
  have st0 := (((((St.start w).addSl ⟨o, lo, hi, .slice a L cap, L, f⟩ hs).addSl ⟨o', lo', hi', .slice a' L cap', L, g⟩ ht).alloc (.cells #[.int .i64 (n : Int), .slice a L cap] 37)).addBox w.heap.size [.int .i64 (n : Int), .slice a L cap] (Box.made _ _ _ _ (fun j v h => by simpa using h)))
  replace st0 := (st0.alloc (.cells #[.int .i64 (n : Int), .slice a' L cap'] 37)).addBox _ [.int .i64 (n : Int), .slice a' L cap'] (Box.made _ _ _ _ (fun j v h => by simpa using h))
  replace st0 := (st0.alloc (.cells #[.int .i64 0, .slice none 0 0] 37)).addBox _ [.int .i64 0, .slice none 0 0] (Box.made _ _ _ _ (fun j v h => by simpa using h))
  simp only [World.size_alloc] at st0
  clear hs ht
  have q0 := st0.sl 1 ⟨o, lo, hi, .slice a L cap, L, f⟩ rfl
  have q1 := st0.sl 0 ⟨o', lo', hi', .slice a' L cap', L, g⟩ rfl
  dsimp only at q0 q1
  obtain ⟨x0, x1⟩ := (st0.box 2 (w.heap.size, [.int .i64 (n : Int), .slice a L cap]) rfl).cell2
  obtain ⟨y0, y1⟩ := (st0.box 1 (w.heap.size + 1, [.int .i64 (n : Int), .slice a' L cap']) rfl).cell2
  go_enter Try.func100, Try.ntmps100
  go_wp2_with fail
  refine (pairCode_any _ _ _ q0 q1).mono ?_
  rw [HC.out]
  rintro e w1 ⟨rfl, b1⟩
  clear q0 q1 x0 x1 y0 y1
  have st1 := st0.keep b1
  have hz_w1 := b1.size
  try simp only [World.size_alloc] at hz_w1
  clear st0 b1
  obtain ⟨x0, x1⟩ := (st1.box 2 (w.heap.size, [.int .i64 (n : Int), .slice a L cap]) rfl).cell2
  obtain ⟨y0, y1⟩ := (st1.box 1 (w.heap.size + 1, [.int .i64 (n : Int), .slice a' L cap']) rfl).cell2
  have q0 := st1.sl 1 ⟨o, lo, hi, .slice a L cap, L, f⟩ rfl
  have q1 := st1.sl 0 ⟨o', lo', hi', .slice a' L cap', L, g⟩ rfl
  dsimp only at q0 q1
  go_wp2_with fail
  refine (productWithin_big n hn1 hn2 _ q0 q1 HF.out HG.out hL0 (Nat.le_refl _) hL (fun j h1 h2 => absurd h2 (by omega)) HW.out).mono ?_
  rintro e w7 ⟨rfl, b7⟩
  clear q0 q1 x0 x1 y0 y1
  have st7 := st1.keep b7
  have hz7 := b7.size
  clear st1 b7
  obtain ⟨d0, d1⟩ := (st7.box 0 _ rfl).cell2
  have dz := (st7.box 0 _ rfl).2.2
  have B7 := st7.1
  dsimp only at dz
  clear st7
  unfold failV
  go_wp2
  refine bodyPost_ret (v := failV 3) (by simp [results, Try.results100, go_sem, failV, d0, d1]) rfl ?_
  exact ⟨rfl, by go_grown⟩

end
end Go.Proofs.Ythmhjnholhiohaa
