/- AreAssociated of the program and of the model. -/
import Derived.Test.YtmmcbkikcceenaaDiv
import Derived.Test.YtmmcbkikcceenaaDivS
import Derived.Test.YtmmcbkikcceenaaDivBase
import Derived.Test.YtmmcbkikcceenaaFail
namespace Go.Proofs.Ytmmcbkikcceenaa
open Go.RowKit Go.ChangeShapes
section
variable {P : Program} {fn : FuncId} {args : Array Value} {w : World} {n : Nat} {f g : Nat → Int}
theorem div_ok (h : Calls P fn args w fun e w' => ((dvOk n f g ∧ divTo (dvZ n f g) (dvN n g) (phiN n) ∧ ∃ a9 k9, e = .returned (.tuple #[.agg #[.int .i64 (n : Int), .slice a9 (phiN n) k9], .int .i64 0]) ∧ Sl true w' w.heap.size w'.heap.size (.slice a9 (phiN n) k9) (phiN n) (quoZ (dvZ n f g) (dvN n g))) ∨ (dvOk n f g ∧ ¬ divTo (dvZ n f g) (dvN n g) (phiN n) ∧ e = .returned (failV 4)) ∨ (¬ dvOk n f g ∧ e = .returned (failV 3))) ∧ Below w.heap.size w w') (h1 : dvOk n f g) (h2 : divTo (dvZ n f g) (dvN n g) (phiN n)) :
    Calls P fn args w fun e w' => ∃ a9 k9, e = .returned (.tuple #[.agg #[.int .i64 (n : Int), .slice a9 (phiN n) k9], .int .i64 0]) ∧ Sl true w' w.heap.size w'.heap.size (.slice a9 (phiN n) k9) (phiN n) (quoZ (dvZ n f g) (dvN n g)) ∧ Below w.heap.size w w' :=
  h.mono fun e w' ⟨h, b⟩ => by
    rcases h with ⟨_, _, a, k, he, hs⟩ | ⟨_, h, _⟩ | ⟨h, _⟩
    · exact ⟨a, k, he, hs, b⟩
    · exact absurd h2 h
    · exact absurd h1 h
theorem div_no (h : Calls P fn args w fun e w' => ((dvOk n f g ∧ divTo (dvZ n f g) (dvN n g) (phiN n) ∧ ∃ a9 k9, e = .returned (.tuple #[.agg #[.int .i64 (n : Int), .slice a9 (phiN n) k9], .int .i64 0]) ∧ Sl true w' w.heap.size w'.heap.size (.slice a9 (phiN n) k9) (phiN n) (quoZ (dvZ n f g) (dvN n g))) ∨ (dvOk n f g ∧ ¬ divTo (dvZ n f g) (dvN n g) (phiN n) ∧ e = .returned (failV 4)) ∨ (¬ dvOk n f g ∧ e = .returned (failV 3))) ∧ Below w.heap.size w w') (h1 : dvOk n f g) (h2 : ¬ divTo (dvZ n f g) (dvN n g) (phiN n)) :
    Calls P fn args w fun e w' => e = .returned (failV 4) ∧ Below w.heap.size w w' :=
  h.mono fun e w' ⟨h, b⟩ => by
    rcases h with ⟨_, h, _⟩ | ⟨_, _, he⟩ | ⟨h, _⟩
    · exact absurd h h2
    · exact ⟨he, b⟩
    · exact absurd h1 h
theorem div_big (h : Calls P fn args w fun e w' => ((dvOk n f g ∧ divTo (dvZ n f g) (dvN n g) (phiN n) ∧ ∃ a9 k9, e = .returned (.tuple #[.agg #[.int .i64 (n : Int), .slice a9 (phiN n) k9], .int .i64 0]) ∧ Sl true w' w.heap.size w'.heap.size (.slice a9 (phiN n) k9) (phiN n) (quoZ (dvZ n f g) (dvN n g))) ∨ (dvOk n f g ∧ ¬ divTo (dvZ n f g) (dvN n g) (phiN n) ∧ e = .returned (failV 4)) ∨ (¬ dvOk n f g ∧ e = .returned (failV 3))) ∧ Below w.heap.size w w') (h1 : ¬ dvOk n f g) :
    Calls P fn args w fun e w' => e = .returned (failV 3) ∧ Below w.heap.size w w' :=
  h.mono fun e w' ⟨h, b⟩ => by
    rcases h with ⟨h, _⟩ | ⟨h, _⟩ | ⟨_, he⟩
    · exact absurd h h1
    · exact absurd h h1
    · exact ⟨he, b⟩
end

open Go.RowKit Go.ChangeShapes Go.Sort
set_option linter.unusedVariables false
set_option linter.unusedSimpArgs false

open Classical in
/-- The code of a division. -/
noncomputable def dvCode (n : Nat) (f g : Nat → Int) : Int := if dvOk n f g then (if divTo (dvZ n f g) (dvN n g) (phiN n) then 0 else 4) else 3
theorem dvCode_cases (n : Nat) (f g : Nat → Int) : dvCode n f g = 0 ∨ dvCode n f g = 3 ∨ dvCode n f g = 4 := by
  unfold dvCode
  split
  · split
    · exact .inl rfl
    · exact .inr (.inr rfl)
  · exact .inr (.inl rfl)
def assoB (c d : Int) : Bool := if c = 3 ∨ d = 3 then false else decide (c = 0 ∧ d = 0)
def assoC (c d : Int) : Int := if c = 3 ∨ d = 3 then 3 else 0
section
variable {P : Program} {fn : FuncId} {args : Array Value} {w : World} {n : Nat} {f g : Nat → Int}
theorem div_code (h : Calls P fn args w fun e w' => ((dvOk n f g ∧ divTo (dvZ n f g) (dvN n g) (phiN n) ∧ ∃ a9 k9, e = .returned (.tuple #[.agg #[.int .i64 (n : Int), .slice a9 (phiN n) k9], .int .i64 0]) ∧ Sl true w' w.heap.size w'.heap.size (.slice a9 (phiN n) k9) (phiN n) (quoZ (dvZ n f g) (dvN n g))) ∨ (dvOk n f g ∧ ¬ divTo (dvZ n f g) (dvN n g) (phiN n) ∧ e = .returned (failV 4)) ∨ (¬ dvOk n f g ∧ e = .returned (failV 3))) ∧ Below w.heap.size w w') :
    Calls P fn args w fun e w' => ∃ (x : Int) (a9 : Option Addr) (k9 c9 : Nat), e = .returned (.tuple #[.agg #[.int .i64 x, .slice a9 k9 c9], .int .i64 (dvCode n f g)]) ∧ Below w.heap.size w w' :=
  h.mono fun e w' ⟨h, b⟩ => by
    unfold dvCode
    rcases h with ⟨h1, h2, a, k, he, hs⟩ | ⟨h1, h2, he⟩ | ⟨h1, he⟩
    · rw [if_pos h1, if_pos h2]; exact ⟨_, _, _, _, he, b⟩
    · rw [if_pos h1, if_neg h2]; exact ⟨_, _, _, _, he, b⟩
    · rw [if_neg h1]; exact ⟨_, _, _, _, he, b⟩
end
section
variable {o o' : Bool} {lo hi lo' hi' : Nat} {v v' : Value} {f g : Nat → Int}
theorem AreAssociated_impl_bad {n m : Nat} (x y c : Int) (w : World) (hs : Sl o w lo hi v n f) (ht : Sl o' w lo' hi' v' m g) (hc : pairC x y n m f g = c) (hc0 : c ≠ 0) :
    Calls Try.prog 76 #[.agg #[.int .i64 x, v], .agg #[.int .i64 y, v']] w fun e w' => e = .returned (.tuple #[.bool false, .int .i64 c]) ∧ Below w.heap.size w w' := by
  have HC := Lib.hid hc
  clear hc
  have hb : (c != 0) = true := by simpa using hc0
  have hb' : (c == 0) = false := by simpa using hc0
  obtain ⟨a, cap, rfl⟩ := hs.shape
  obtain ⟨a', cap', rfl⟩ := ht.shape
  have hhs := hs.size
  have hht := ht.size
  have st0 := (((((St.start w).addSl ⟨o, lo, hi, .slice a n cap, n, f⟩ hs).addSl ⟨o', lo', hi', .slice a' m cap', m, g⟩ ht).alloc (.cells #[.int .i64 x, .slice a n cap] 26)).addBox w.heap.size [.int .i64 x, .slice a n cap] (Box.made _ _ _ _ (fun j v h => by simpa using h)))
  replace st0 := (st0.alloc (.cells #[.int .i64 y, .slice a' m cap'] 26)).addBox _ [.int .i64 y, .slice a' m cap'] (Box.made _ _ _ _ (fun j v h => by simpa using h))
  simp only [World.size_alloc] at st0
  have q0 := st0.sl 1 ⟨o, lo, hi, .slice a n cap, n, f⟩ rfl
  have q1 := st0.sl 0 ⟨o', lo', hi', .slice a' m cap', m, g⟩ rfl
  dsimp only at q0 q1
  obtain ⟨x0, x1⟩ := (st0.box 1 (w.heap.size, [.int .i64 x, .slice a n cap]) rfl).cell2
  obtain ⟨y0, y1⟩ := (st0.box 0 (w.heap.size + 1, [.int .i64 y, .slice a' m cap']) rfl).cell2
  clear hs ht
  go_enter Try.func76, Try.ntmps76
  go_wp2_with fail
  refine (pairCode_any _ _ _ q0 q1).mono ?_
  rw [HC.out]
  rintro e w1 ⟨rfl, b1⟩
  clear q0 q1 x0 x1 y0 y1
  have st1 := st0.keep b1
  clear st0 b1
  have BB := st1.1
  clear st1
  go_wp2
  go_ret2
  exact ⟨rfl, BB⟩

set_option maxHeartbeats 4000000 in
theorem AreAssociated_impl_zero_tt (n : Nat) (w : World) (hs : Sl o w lo hi v (phiN n) f) (ht : Sl o' w lo' hi' v' (phiN n) g) (h : CyP n (phiN n) f) (h' : CyP n (phiN n) g) (hx : zeroB (phiN n) f = true) (hy : zeroB (phiN n) g = true) :
    Calls Try.prog 76 #[.agg #[.int .i64 (n : Int), v], .agg #[.int .i64 (n : Int), v']] w fun e w' => e = .returned (.tuple #[.bool true, .int .i64 0]) ∧ Below w.heap.size w w' := by
  have hn1 : 1 ≤ n := by have := h.1; omega
  have hn2 : n ≤ 16 := by have := h.2.1; omega
  have hp := phi_le12 n hn2 hn1
  have hp0 := phiN_pos n (by omega) hn1
  have HC := Lib.hid (pairC_ok h h' rfl)
  have HCX := Lib.hid h
  have HCY := Lib.hid h'
  have HX := Lib.hid hx
  have HY := Lib.hid hy
  clear h h' hx hy
  obtain ⟨a, cap, rfl⟩ := hs.shape
  obtain ⟨a', cap', rfl⟩ := ht.shape
  have hhs := hs.size
  have hht := ht.size
  have st0 := (((((St.start w).addSl ⟨o, lo, hi, .slice a (phiN n) cap, (phiN n), f⟩ hs).addSl ⟨o', lo', hi', .slice a' (phiN n) cap', (phiN n), g⟩ ht).alloc (.cells #[.int .i64 (n : Int), .slice a (phiN n) cap] 26)).addBox w.heap.size [.int .i64 (n : Int), .slice a (phiN n) cap] (Box.made _ _ _ _ (fun j v h => by simpa using h)))
  replace st0 := (st0.alloc (.cells #[.int .i64 (n : Int), .slice a' (phiN n) cap'] 26)).addBox _ [.int .i64 (n : Int), .slice a' (phiN n) cap'] (Box.made _ _ _ _ (fun j v h => by simpa using h))
  simp only [World.size_alloc] at st0
  have q0 := st0.sl 1 ⟨o, lo, hi, .slice a (phiN n) cap, (phiN n), f⟩ rfl
  have q1 := st0.sl 0 ⟨o', lo', hi', .slice a' (phiN n) cap', (phiN n), g⟩ rfl
  dsimp only at q0 q1
  obtain ⟨x0, x1⟩ := (st0.box 1 (w.heap.size, [.int .i64 (n : Int), .slice a (phiN n) cap]) rfl).cell2
  obtain ⟨y0, y1⟩ := (st0.box 0 (w.heap.size + 1, [.int .i64 (n : Int), .slice a' (phiN n) cap']) rfl).cell2
  clear hs ht
  go_enter Try.func76, Try.ntmps76
  go_wp2_with fail
  refine (pairCode_any _ _ _ q0 q1).mono ?_
  rw [HC.out]
  rintro e w1 ⟨rfl, b1⟩
  clear q0 q1 x0 x1 y0 y1
  have st1 := st0.keep b1
  clear st0 b1
  obtain ⟨e0, e1⟩ := (st1.box 1 (w.heap.size, [.int .i64 (n : Int), .slice a (phiN n) cap]) rfl).cell2
  have qz := st1.sl 1 ⟨o, lo, hi, .slice a (phiN n) cap, phiN n, f⟩ rfl
  dsimp only at qz
  go_wp2_with fail
  refine (isZero_any _ _ qz (by omega) hp).mono ?_
  rw [HX.out]
  rintro e w2 ⟨rfl, bz⟩
  replace st1 := st1.keep bz
  clear bz qz e0 e1
  obtain ⟨e0, e1⟩ := (st1.box 1 (w.heap.size, [.int .i64 (n : Int), .slice a (phiN n) cap]) rfl).cell2
  have qz := st1.sl 1 ⟨o, lo, hi, .slice a (phiN n) cap, phiN n, f⟩ rfl
  dsimp only at qz
  go_wp2_with fail
  refine (isZero_any _ _ qz (by omega) hp).mono ?_
  rw [HX.out]
  rintro e w4 ⟨rfl, bz⟩
  replace st1 := st1.keep bz
  clear bz qz e0 e1
  obtain ⟨e0, e1⟩ := (st1.box 0 (w.heap.size + 1, [.int .i64 (n : Int), .slice a' (phiN n) cap']) rfl).cell2
  have qz := st1.sl 0 ⟨o', lo', hi', .slice a' (phiN n) cap', phiN n, g⟩ rfl
  dsimp only at qz
  go_wp2_with fail
  refine (isZero_any _ _ qz (by omega) hp).mono ?_
  rw [HY.out]
  rintro e w5 ⟨rfl, bz⟩
  replace st1 := st1.keep bz
  clear bz qz e0 e1
  have BB := st1.1
  clear st1
  go_wp2
  go_ret2
  exact ⟨rfl, BB⟩

set_option maxHeartbeats 4000000 in
theorem AreAssociated_impl_zero_tf (n : Nat) (w : World) (hs : Sl o w lo hi v (phiN n) f) (ht : Sl o' w lo' hi' v' (phiN n) g) (h : CyP n (phiN n) f) (h' : CyP n (phiN n) g) (hx : zeroB (phiN n) f = true) (hy : zeroB (phiN n) g = false) :
    Calls Try.prog 76 #[.agg #[.int .i64 (n : Int), v], .agg #[.int .i64 (n : Int), v']] w fun e w' => e = .returned (.tuple #[.bool false, .int .i64 0]) ∧ Below w.heap.size w w' := by
  have hn1 : 1 ≤ n := by have := h.1; omega
  have hn2 : n ≤ 16 := by have := h.2.1; omega
  have hp := phi_le12 n hn2 hn1
  have hp0 := phiN_pos n (by omega) hn1
  have HC := Lib.hid (pairC_ok h h' rfl)
  have HCX := Lib.hid h
  have HCY := Lib.hid h'
  have HX := Lib.hid hx
  have HY := Lib.hid hy
  clear h h' hx hy
  obtain ⟨a, cap, rfl⟩ := hs.shape
  obtain ⟨a', cap', rfl⟩ := ht.shape
  have hhs := hs.size
  have hht := ht.size
  have st0 := (((((St.start w).addSl ⟨o, lo, hi, .slice a (phiN n) cap, (phiN n), f⟩ hs).addSl ⟨o', lo', hi', .slice a' (phiN n) cap', (phiN n), g⟩ ht).alloc (.cells #[.int .i64 (n : Int), .slice a (phiN n) cap] 26)).addBox w.heap.size [.int .i64 (n : Int), .slice a (phiN n) cap] (Box.made _ _ _ _ (fun j v h => by simpa using h)))
  replace st0 := (st0.alloc (.cells #[.int .i64 (n : Int), .slice a' (phiN n) cap'] 26)).addBox _ [.int .i64 (n : Int), .slice a' (phiN n) cap'] (Box.made _ _ _ _ (fun j v h => by simpa using h))
  simp only [World.size_alloc] at st0
  have q0 := st0.sl 1 ⟨o, lo, hi, .slice a (phiN n) cap, (phiN n), f⟩ rfl
  have q1 := st0.sl 0 ⟨o', lo', hi', .slice a' (phiN n) cap', (phiN n), g⟩ rfl
  dsimp only at q0 q1
  obtain ⟨x0, x1⟩ := (st0.box 1 (w.heap.size, [.int .i64 (n : Int), .slice a (phiN n) cap]) rfl).cell2
  obtain ⟨y0, y1⟩ := (st0.box 0 (w.heap.size + 1, [.int .i64 (n : Int), .slice a' (phiN n) cap']) rfl).cell2
  clear hs ht
  go_enter Try.func76, Try.ntmps76
  go_wp2_with fail
  refine (pairCode_any _ _ _ q0 q1).mono ?_
  rw [HC.out]
  rintro e w1 ⟨rfl, b1⟩
  clear q0 q1 x0 x1 y0 y1
  have st1 := st0.keep b1
  clear st0 b1
  obtain ⟨e0, e1⟩ := (st1.box 1 (w.heap.size, [.int .i64 (n : Int), .slice a (phiN n) cap]) rfl).cell2
  have qz := st1.sl 1 ⟨o, lo, hi, .slice a (phiN n) cap, phiN n, f⟩ rfl
  dsimp only at qz
  go_wp2_with fail
  refine (isZero_any _ _ qz (by omega) hp).mono ?_
  rw [HX.out]
  rintro e w2 ⟨rfl, bz⟩
  replace st1 := st1.keep bz
  clear bz qz e0 e1
  obtain ⟨e0, e1⟩ := (st1.box 1 (w.heap.size, [.int .i64 (n : Int), .slice a (phiN n) cap]) rfl).cell2
  have qz := st1.sl 1 ⟨o, lo, hi, .slice a (phiN n) cap, phiN n, f⟩ rfl
  dsimp only at qz
  go_wp2_with fail
  refine (isZero_any _ _ qz (by omega) hp).mono ?_
  rw [HX.out]
  rintro e w4 ⟨rfl, bz⟩
  replace st1 := st1.keep bz
  clear bz qz e0 e1
  obtain ⟨e0, e1⟩ := (st1.box 0 (w.heap.size + 1, [.int .i64 (n : Int), .slice a' (phiN n) cap']) rfl).cell2
  have qz := st1.sl 0 ⟨o', lo', hi', .slice a' (phiN n) cap', phiN n, g⟩ rfl
  dsimp only at qz
  go_wp2_with fail
  refine (isZero_any _ _ qz (by omega) hp).mono ?_
  rw [HY.out]
  rintro e w5 ⟨rfl, bz⟩
  replace st1 := st1.keep bz
  clear bz qz e0 e1
  have BB := st1.1
  clear st1
  go_wp2
  go_ret2
  exact ⟨rfl, BB⟩

set_option maxHeartbeats 4000000 in
theorem AreAssociated_impl_zero_ft (n : Nat) (w : World) (hs : Sl o w lo hi v (phiN n) f) (ht : Sl o' w lo' hi' v' (phiN n) g) (h : CyP n (phiN n) f) (h' : CyP n (phiN n) g) (hx : zeroB (phiN n) f = false) (hy : zeroB (phiN n) g = true) :
    Calls Try.prog 76 #[.agg #[.int .i64 (n : Int), v], .agg #[.int .i64 (n : Int), v']] w fun e w' => e = .returned (.tuple #[.bool false, .int .i64 0]) ∧ Below w.heap.size w w' := by
  have hn1 : 1 ≤ n := by have := h.1; omega
  have hn2 : n ≤ 16 := by have := h.2.1; omega
  have hp := phi_le12 n hn2 hn1
  have hp0 := phiN_pos n (by omega) hn1
  have HC := Lib.hid (pairC_ok h h' rfl)
  have HCX := Lib.hid h
  have HCY := Lib.hid h'
  have HX := Lib.hid hx
  have HY := Lib.hid hy
  clear h h' hx hy
  obtain ⟨a, cap, rfl⟩ := hs.shape
  obtain ⟨a', cap', rfl⟩ := ht.shape
  have hhs := hs.size
  have hht := ht.size
  have st0 := (((((St.start w).addSl ⟨o, lo, hi, .slice a (phiN n) cap, (phiN n), f⟩ hs).addSl ⟨o', lo', hi', .slice a' (phiN n) cap', (phiN n), g⟩ ht).alloc (.cells #[.int .i64 (n : Int), .slice a (phiN n) cap] 26)).addBox w.heap.size [.int .i64 (n : Int), .slice a (phiN n) cap] (Box.made _ _ _ _ (fun j v h => by simpa using h)))
  replace st0 := (st0.alloc (.cells #[.int .i64 (n : Int), .slice a' (phiN n) cap'] 26)).addBox _ [.int .i64 (n : Int), .slice a' (phiN n) cap'] (Box.made _ _ _ _ (fun j v h => by simpa using h))
  simp only [World.size_alloc] at st0
  have q0 := st0.sl 1 ⟨o, lo, hi, .slice a (phiN n) cap, (phiN n), f⟩ rfl
  have q1 := st0.sl 0 ⟨o', lo', hi', .slice a' (phiN n) cap', (phiN n), g⟩ rfl
  dsimp only at q0 q1
  obtain ⟨x0, x1⟩ := (st0.box 1 (w.heap.size, [.int .i64 (n : Int), .slice a (phiN n) cap]) rfl).cell2
  obtain ⟨y0, y1⟩ := (st0.box 0 (w.heap.size + 1, [.int .i64 (n : Int), .slice a' (phiN n) cap']) rfl).cell2
  clear hs ht
  go_enter Try.func76, Try.ntmps76
  go_wp2_with fail
  refine (pairCode_any _ _ _ q0 q1).mono ?_
  rw [HC.out]
  rintro e w1 ⟨rfl, b1⟩
  clear q0 q1 x0 x1 y0 y1
  have st1 := st0.keep b1
  clear st0 b1
  obtain ⟨e0, e1⟩ := (st1.box 1 (w.heap.size, [.int .i64 (n : Int), .slice a (phiN n) cap]) rfl).cell2
  have qz := st1.sl 1 ⟨o, lo, hi, .slice a (phiN n) cap, phiN n, f⟩ rfl
  dsimp only at qz
  go_wp2_with fail
  refine (isZero_any _ _ qz (by omega) hp).mono ?_
  rw [HX.out]
  rintro e w2 ⟨rfl, bz⟩
  replace st1 := st1.keep bz
  clear bz qz e0 e1
  obtain ⟨e0, e1⟩ := (st1.box 0 (w.heap.size + 1, [.int .i64 (n : Int), .slice a' (phiN n) cap']) rfl).cell2
  have qz := st1.sl 0 ⟨o', lo', hi', .slice a' (phiN n) cap', phiN n, g⟩ rfl
  dsimp only at qz
  go_wp2_with fail
  refine (isZero_any _ _ qz (by omega) hp).mono ?_
  rw [HY.out]
  rintro e w3 ⟨rfl, bz⟩
  replace st1 := st1.keep bz
  clear bz qz e0 e1
  obtain ⟨e0, e1⟩ := (st1.box 1 (w.heap.size, [.int .i64 (n : Int), .slice a (phiN n) cap]) rfl).cell2
  have qz := st1.sl 1 ⟨o, lo, hi, .slice a (phiN n) cap, phiN n, f⟩ rfl
  dsimp only at qz
  go_wp2_with fail
  refine (isZero_any _ _ qz (by omega) hp).mono ?_
  rw [HX.out]
  rintro e w4 ⟨rfl, bz⟩
  replace st1 := st1.keep bz
  clear bz qz e0 e1
  have BB := st1.1
  clear st1
  go_wp2
  go_ret2
  exact ⟨rfl, BB⟩

set_option maxRecDepth 100000 in
set_option maxHeartbeats 4000000 in
theorem AreAssociated_impl_any (n : Nat) (w : World) (hs : Sl o w lo hi v (phiN n) f) (ht : Sl o' w lo' hi' v' (phiN n) g) (h : CyP n (phiN n) f) (h' : CyP n (phiN n) g) (hx : zeroB (phiN n) f = false) (hy : zeroB (phiN n) g = false) :
    Calls Try.prog 76 #[.agg #[.int .i64 (n : Int), v], .agg #[.int .i64 (n : Int), v']] w fun e w' => e = .returned (.tuple #[.bool (assoB (dvCode n f g) (dvCode n g f)), .int .i64 (assoC (dvCode n f g) (dvCode n g f))]) ∧ Below w.heap.size w w' := by
  have hn1 : 1 ≤ n := by have := h.1; omega
  have hn2 : n ≤ 16 := by have := h.2.1; omega
  have hp := phi_le12 n hn2 hn1
  have hp0 := phiN_pos n (by omega) hn1
  have HC := Lib.hid (pairC_ok h h' rfl)
  have HCX := Lib.hid h
  have HCY := Lib.hid h'
  have HX := Lib.hid hx
  have HY := Lib.hid hy
  clear h h' hx hy
  obtain ⟨a, cap, rfl⟩ := hs.shape
  obtain ⟨a', cap', rfl⟩ := ht.shape
  have hhs := hs.size
  have hht := ht.size
  have st0 := (((((St.start w).addSl ⟨o, lo, hi, .slice a (phiN n) cap, (phiN n), f⟩ hs).addSl ⟨o', lo', hi', .slice a' (phiN n) cap', (phiN n), g⟩ ht).alloc (.cells #[.int .i64 (n : Int), .slice a (phiN n) cap] 26)).addBox w.heap.size [.int .i64 (n : Int), .slice a (phiN n) cap] (Box.made _ _ _ _ (fun j v h => by simpa using h)))
  replace st0 := (st0.alloc (.cells #[.int .i64 (n : Int), .slice a' (phiN n) cap'] 26)).addBox _ [.int .i64 (n : Int), .slice a' (phiN n) cap'] (Box.made _ _ _ _ (fun j v h => by simpa using h))
  simp only [World.size_alloc] at st0
  have q0 := st0.sl 1 ⟨o, lo, hi, .slice a (phiN n) cap, (phiN n), f⟩ rfl
  have q1 := st0.sl 0 ⟨o', lo', hi', .slice a' (phiN n) cap', (phiN n), g⟩ rfl
  dsimp only at q0 q1
  obtain ⟨x0, x1⟩ := (st0.box 1 (w.heap.size, [.int .i64 (n : Int), .slice a (phiN n) cap]) rfl).cell2
  obtain ⟨y0, y1⟩ := (st0.box 0 (w.heap.size + 1, [.int .i64 (n : Int), .slice a' (phiN n) cap']) rfl).cell2
  clear hs ht
  go_enter Try.func76, Try.ntmps76
  go_wp2_with fail
  refine (pairCode_any _ _ _ q0 q1).mono ?_
  rw [HC.out]
  rintro e w1 ⟨rfl, b1⟩
  clear q0 q1 x0 x1 y0 y1
  have st1 := st0.keep b1
  clear st0 b1
  obtain ⟨e0, e1⟩ := (st1.box 1 (w.heap.size, [.int .i64 (n : Int), .slice a (phiN n) cap]) rfl).cell2
  have qz := st1.sl 1 ⟨o, lo, hi, .slice a (phiN n) cap, phiN n, f⟩ rfl
  dsimp only at qz
  go_wp2_with fail
  refine (isZero_any _ _ qz (by omega) hp).mono ?_
  rw [HX.out]
  rintro e w2 ⟨rfl, bz⟩
  replace st1 := st1.keep bz
  clear bz qz e0 e1
  obtain ⟨e0, e1⟩ := (st1.box 0 (w.heap.size + 1, [.int .i64 (n : Int), .slice a' (phiN n) cap']) rfl).cell2
  have qz := st1.sl 0 ⟨o', lo', hi', .slice a' (phiN n) cap', phiN n, g⟩ rfl
  dsimp only at qz
  go_wp2_with fail
  refine (isZero_any _ _ qz (by omega) hp).mono ?_
  rw [HY.out]
  rintro e w3 ⟨rfl, bz⟩
  replace st1 := st1.keep bz
  clear bz qz e0 e1
  obtain ⟨x0, x1⟩ := (st1.box 1 (w.heap.size, [.int .i64 (n : Int), .slice a (phiN n) cap]) rfl).cell2
  obtain ⟨y0, y1⟩ := (st1.box 0 (w.heap.size + 1, [.int .i64 (n : Int), .slice a' (phiN n) cap']) rfl).cell2
  have qx := st1.sl 1 ⟨o, lo, hi, .slice a (phiN n) cap, phiN n, f⟩ rfl
  have qy := st1.sl 0 ⟨o', lo', hi', .slice a' (phiN n) cap', phiN n, g⟩ rfl
  dsimp only at qx qy
  go_wp2_with fail
  refine (div_code (DivideCyclos_impl_any n _ qx qy HCX.out HCY.out HY.out)).mono ?_
  rintro e w6 ⟨r6, a6, k6, c6, rfl, b6⟩
  have st2 := (st1.keep b6).alloc (.cells #[.int .i64 r6, .slice a6 k6 c6] 26)
  clear st1 b6 x0 x1 y0 y1 qx qy
  obtain ⟨x0, x1⟩ := (st2.box 1 (w.heap.size, [.int .i64 (n : Int), .slice a (phiN n) cap]) rfl).cell2
  obtain ⟨y0, y1⟩ := (st2.box 0 (w.heap.size + 1, [.int .i64 (n : Int), .slice a' (phiN n) cap']) rfl).cell2
  have qx := st2.sl 1 ⟨o, lo, hi, .slice a (phiN n) cap, phiN n, f⟩ rfl
  have qy := st2.sl 0 ⟨o', lo', hi', .slice a' (phiN n) cap', phiN n, g⟩ rfl
  dsimp only at qx qy
  go_wp2_with fail
  refine (div_code (DivideCyclos_impl_any n _ qy qx HCY.out HCX.out HX.out)).mono ?_
  rintro e w7 ⟨r7, a7, k7, c7, rfl, b7⟩
  have BB := ((st2.keep b7).alloc (.cells #[.int .i64 r7, .slice a7 k7 c7] 26)).1
  clear st2 b7 x0 x1 y0 y1 qx qy
  rcases dvCode_cases n f g with c1 | c1 | c1 <;> rcases dvCode_cases n g f with c2 | c2 | c2 <;>
    (have C1 := Lib.hid c1
     have C2 := Lib.hid c2
     rw [C1.out, C2.out]
     clear c1 c2
     go_wp2
     go_ret2
     exact ⟨by rw [C1.out, C2.out]; rfl, BB⟩)

theorem AreAssociated_spec_bad {n m : Nat} (x y c : Int) (w : World) (hs : Sl o w lo hi v n f) (ht : Sl o' w lo' hi' v' m g) (hc : pairC x y n m f g = c) (hc0 : c ≠ 0) :
    Calls Try.prog 77 #[.agg #[.int .i64 x, v], .agg #[.int .i64 y, v']] w fun e w' => e = .returned (.tuple #[.bool false, .int .i64 c]) ∧ Below w.heap.size w w' := by
  have HC := Lib.hid hc
  clear hc
  have hb : (c != 0) = true := by simpa using hc0
  have hb' : (c == 0) = false := by simpa using hc0
  obtain ⟨a, cap, rfl⟩ := hs.shape
  obtain ⟨a', cap', rfl⟩ := ht.shape
  have hhs := hs.size
  have hht := ht.size
  have st0 := (((((St.start w).addSl ⟨o, lo, hi, .slice a n cap, n, f⟩ hs).addSl ⟨o', lo', hi', .slice a' m cap', m, g⟩ ht).alloc (.cells #[.int .i64 x, .slice a n cap] 26)).addBox w.heap.size [.int .i64 x, .slice a n cap] (Box.made _ _ _ _ (fun j v h => by simpa using h)))
  replace st0 := (st0.alloc (.cells #[.int .i64 y, .slice a' m cap'] 26)).addBox _ [.int .i64 y, .slice a' m cap'] (Box.made _ _ _ _ (fun j v h => by simpa using h))
  simp only [World.size_alloc] at st0
  have q0 := st0.sl 1 ⟨o, lo, hi, .slice a n cap, n, f⟩ rfl
  have q1 := st0.sl 0 ⟨o', lo', hi', .slice a' m cap', m, g⟩ rfl
  dsimp only at q0 q1
  obtain ⟨x0, x1⟩ := (st0.box 1 (w.heap.size, [.int .i64 x, .slice a n cap]) rfl).cell2
  obtain ⟨y0, y1⟩ := (st0.box 0 (w.heap.size + 1, [.int .i64 y, .slice a' m cap']) rfl).cell2
  clear hs ht
  go_enter Try.func77, Try.ntmps77
  go_wp2_with fail
  refine (l01Like_any _ _ _ q0 q1).mono ?_
  rw [HC.out]
  rintro e w1 ⟨rfl, b1⟩
  clear q0 q1 x0 x1 y0 y1
  have st1 := st0.keep b1
  clear st0 b1
  have BB := st1.1
  clear st1
  go_wp2
  go_ret2
  exact ⟨rfl, BB⟩

set_option maxHeartbeats 4000000 in
theorem AreAssociated_spec_zero_tt (n : Nat) (w : World) (hs : Sl o w lo hi v (phiN n) f) (ht : Sl o' w lo' hi' v' (phiN n) g) (h : CyP n (phiN n) f) (h' : CyP n (phiN n) g) (hx : zeroB (phiN n) f = true) (hy : zeroB (phiN n) g = true) :
    Calls Try.prog 77 #[.agg #[.int .i64 (n : Int), v], .agg #[.int .i64 (n : Int), v']] w fun e w' => e = .returned (.tuple #[.bool true, .int .i64 0]) ∧ Below w.heap.size w w' := by
  have hn1 : 1 ≤ n := by have := h.1; omega
  have hn2 : n ≤ 16 := by have := h.2.1; omega
  have hp := phi_le12 n hn2 hn1
  have hp0 := phiN_pos n (by omega) hn1
  have HC := Lib.hid (pairC_ok h h' rfl)
  have HCX := Lib.hid h
  have HCY := Lib.hid h'
  have HX := Lib.hid hx
  have HY := Lib.hid hy
  clear h h' hx hy
  obtain ⟨a, cap, rfl⟩ := hs.shape
  obtain ⟨a', cap', rfl⟩ := ht.shape
  have hhs := hs.size
  have hht := ht.size
  have st0 := (((((St.start w).addSl ⟨o, lo, hi, .slice a (phiN n) cap, (phiN n), f⟩ hs).addSl ⟨o', lo', hi', .slice a' (phiN n) cap', (phiN n), g⟩ ht).alloc (.cells #[.int .i64 (n : Int), .slice a (phiN n) cap] 26)).addBox w.heap.size [.int .i64 (n : Int), .slice a (phiN n) cap] (Box.made _ _ _ _ (fun j v h => by simpa using h)))
  replace st0 := (st0.alloc (.cells #[.int .i64 (n : Int), .slice a' (phiN n) cap'] 26)).addBox _ [.int .i64 (n : Int), .slice a' (phiN n) cap'] (Box.made _ _ _ _ (fun j v h => by simpa using h))
  simp only [World.size_alloc] at st0
  have q0 := st0.sl 1 ⟨o, lo, hi, .slice a (phiN n) cap, (phiN n), f⟩ rfl
  have q1 := st0.sl 0 ⟨o', lo', hi', .slice a' (phiN n) cap', (phiN n), g⟩ rfl
  dsimp only at q0 q1
  obtain ⟨x0, x1⟩ := (st0.box 1 (w.heap.size, [.int .i64 (n : Int), .slice a (phiN n) cap]) rfl).cell2
  obtain ⟨y0, y1⟩ := (st0.box 0 (w.heap.size + 1, [.int .i64 (n : Int), .slice a' (phiN n) cap']) rfl).cell2
  clear hs ht
  go_enter Try.func77, Try.ntmps77
  go_wp2_with fail
  refine (l01Like_any _ _ _ q0 q1).mono ?_
  rw [HC.out]
  rintro e w1 ⟨rfl, b1⟩
  clear q0 q1 x0 x1 y0 y1
  have st1 := st0.keep b1
  clear st0 b1
  obtain ⟨e0, e1⟩ := (st1.box 1 (w.heap.size, [.int .i64 (n : Int), .slice a (phiN n) cap]) rfl).cell2
  have qz := st1.sl 1 ⟨o, lo, hi, .slice a (phiN n) cap, phiN n, f⟩ rfl
  dsimp only at qz
  go_wp2_with fail
  refine (l02Null_any n _ qz hn1 hn2).mono ?_
  rw [HX.out]
  rintro e w2 ⟨rfl, bz⟩
  replace st1 := st1.keep bz
  clear bz qz e0 e1
  obtain ⟨e0, e1⟩ := (st1.box 1 (w.heap.size, [.int .i64 (n : Int), .slice a (phiN n) cap]) rfl).cell2
  have qz := st1.sl 1 ⟨o, lo, hi, .slice a (phiN n) cap, phiN n, f⟩ rfl
  dsimp only at qz
  go_wp2_with fail
  refine (l02Null_any n _ qz hn1 hn2).mono ?_
  rw [HX.out]
  rintro e w4 ⟨rfl, bz⟩
  replace st1 := st1.keep bz
  clear bz qz e0 e1
  obtain ⟨e0, e1⟩ := (st1.box 0 (w.heap.size + 1, [.int .i64 (n : Int), .slice a' (phiN n) cap']) rfl).cell2
  have qz := st1.sl 0 ⟨o', lo', hi', .slice a' (phiN n) cap', phiN n, g⟩ rfl
  dsimp only at qz
  go_wp2_with fail
  refine (l02Null_any n _ qz hn1 hn2).mono ?_
  rw [HY.out]
  rintro e w5 ⟨rfl, bz⟩
  replace st1 := st1.keep bz
  clear bz qz e0 e1
  have BB := st1.1
  clear st1
  go_wp2
  go_ret2
  exact ⟨rfl, BB⟩

set_option maxHeartbeats 4000000 in
theorem AreAssociated_spec_zero_tf (n : Nat) (w : World) (hs : Sl o w lo hi v (phiN n) f) (ht : Sl o' w lo' hi' v' (phiN n) g) (h : CyP n (phiN n) f) (h' : CyP n (phiN n) g) (hx : zeroB (phiN n) f = true) (hy : zeroB (phiN n) g = false) :
    Calls Try.prog 77 #[.agg #[.int .i64 (n : Int), v], .agg #[.int .i64 (n : Int), v']] w fun e w' => e = .returned (.tuple #[.bool false, .int .i64 0]) ∧ Below w.heap.size w w' := by
  have hn1 : 1 ≤ n := by have := h.1; omega
  have hn2 : n ≤ 16 := by have := h.2.1; omega
  have hp := phi_le12 n hn2 hn1
  have hp0 := phiN_pos n (by omega) hn1
  have HC := Lib.hid (pairC_ok h h' rfl)
  have HCX := Lib.hid h
  have HCY := Lib.hid h'
  have HX := Lib.hid hx
  have HY := Lib.hid hy
  clear h h' hx hy
  obtain ⟨a, cap, rfl⟩ := hs.shape
  obtain ⟨a', cap', rfl⟩ := ht.shape
  have hhs := hs.size
  have hht := ht.size
  have st0 := (((((St.start w).addSl ⟨o, lo, hi, .slice a (phiN n) cap, (phiN n), f⟩ hs).addSl ⟨o', lo', hi', .slice a' (phiN n) cap', (phiN n), g⟩ ht).alloc (.cells #[.int .i64 (n : Int), .slice a (phiN n) cap] 26)).addBox w.heap.size [.int .i64 (n : Int), .slice a (phiN n) cap] (Box.made _ _ _ _ (fun j v h => by simpa using h)))
  replace st0 := (st0.alloc (.cells #[.int .i64 (n : Int), .slice a' (phiN n) cap'] 26)).addBox _ [.int .i64 (n : Int), .slice a' (phiN n) cap'] (Box.made _ _ _ _ (fun j v h => by simpa using h))
  simp only [World.size_alloc] at st0
  have q0 := st0.sl 1 ⟨o, lo, hi, .slice a (phiN n) cap, (phiN n), f⟩ rfl
  have q1 := st0.sl 0 ⟨o', lo', hi', .slice a' (phiN n) cap', (phiN n), g⟩ rfl
  dsimp only at q0 q1
  obtain ⟨x0, x1⟩ := (st0.box 1 (w.heap.size, [.int .i64 (n : Int), .slice a (phiN n) cap]) rfl).cell2
  obtain ⟨y0, y1⟩ := (st0.box 0 (w.heap.size + 1, [.int .i64 (n : Int), .slice a' (phiN n) cap']) rfl).cell2
  clear hs ht
  go_enter Try.func77, Try.ntmps77
  go_wp2_with fail
  refine (l01Like_any _ _ _ q0 q1).mono ?_
  rw [HC.out]
  rintro e w1 ⟨rfl, b1⟩
  clear q0 q1 x0 x1 y0 y1
  have st1 := st0.keep b1
  clear st0 b1
  obtain ⟨e0, e1⟩ := (st1.box 1 (w.heap.size, [.int .i64 (n : Int), .slice a (phiN n) cap]) rfl).cell2
  have qz := st1.sl 1 ⟨o, lo, hi, .slice a (phiN n) cap, phiN n, f⟩ rfl
  dsimp only at qz
  go_wp2_with fail
  refine (l02Null_any n _ qz hn1 hn2).mono ?_
  rw [HX.out]
  rintro e w2 ⟨rfl, bz⟩
  replace st1 := st1.keep bz
  clear bz qz e0 e1
  obtain ⟨e0, e1⟩ := (st1.box 1 (w.heap.size, [.int .i64 (n : Int), .slice a (phiN n) cap]) rfl).cell2
  have qz := st1.sl 1 ⟨o, lo, hi, .slice a (phiN n) cap, phiN n, f⟩ rfl
  dsimp only at qz
  go_wp2_with fail
  refine (l02Null_any n _ qz hn1 hn2).mono ?_
  rw [HX.out]
  rintro e w4 ⟨rfl, bz⟩
  replace st1 := st1.keep bz
  clear bz qz e0 e1
  obtain ⟨e0, e1⟩ := (st1.box 0 (w.heap.size + 1, [.int .i64 (n : Int), .slice a' (phiN n) cap']) rfl).cell2
  have qz := st1.sl 0 ⟨o', lo', hi', .slice a' (phiN n) cap', phiN n, g⟩ rfl
  dsimp only at qz
  go_wp2_with fail
  refine (l02Null_any n _ qz hn1 hn2).mono ?_
  rw [HY.out]
  rintro e w5 ⟨rfl, bz⟩
  replace st1 := st1.keep bz
  clear bz qz e0 e1
  have BB := st1.1
  clear st1
  go_wp2
  go_ret2
  exact ⟨rfl, BB⟩

set_option maxHeartbeats 4000000 in
theorem AreAssociated_spec_zero_ft (n : Nat) (w : World) (hs : Sl o w lo hi v (phiN n) f) (ht : Sl o' w lo' hi' v' (phiN n) g) (h : CyP n (phiN n) f) (h' : CyP n (phiN n) g) (hx : zeroB (phiN n) f = false) (hy : zeroB (phiN n) g = true) :
    Calls Try.prog 77 #[.agg #[.int .i64 (n : Int), v], .agg #[.int .i64 (n : Int), v']] w fun e w' => e = .returned (.tuple #[.bool false, .int .i64 0]) ∧ Below w.heap.size w w' := by
  have hn1 : 1 ≤ n := by have := h.1; omega
  have hn2 : n ≤ 16 := by have := h.2.1; omega
  have hp := phi_le12 n hn2 hn1
  have hp0 := phiN_pos n (by omega) hn1
  have HC := Lib.hid (pairC_ok h h' rfl)
  have HCX := Lib.hid h
  have HCY := Lib.hid h'
  have HX := Lib.hid hx
  have HY := Lib.hid hy
  clear h h' hx hy
  obtain ⟨a, cap, rfl⟩ := hs.shape
  obtain ⟨a', cap', rfl⟩ := ht.shape
  have hhs := hs.size
  have hht := ht.size
  have st0 := (((((St.start w).addSl ⟨o, lo, hi, .slice a (phiN n) cap, (phiN n), f⟩ hs).addSl ⟨o', lo', hi', .slice a' (phiN n) cap', (phiN n), g⟩ ht).alloc (.cells #[.int .i64 (n : Int), .slice a (phiN n) cap] 26)).addBox w.heap.size [.int .i64 (n : Int), .slice a (phiN n) cap] (Box.made _ _ _ _ (fun j v h => by simpa using h)))
  replace st0 := (st0.alloc (.cells #[.int .i64 (n : Int), .slice a' (phiN n) cap'] 26)).addBox _ [.int .i64 (n : Int), .slice a' (phiN n) cap'] (Box.made _ _ _ _ (fun j v h => by simpa using h))
  simp only [World.size_alloc] at st0
  have q0 := st0.sl 1 ⟨o, lo, hi, .slice a (phiN n) cap, (phiN n), f⟩ rfl
  have q1 := st0.sl 0 ⟨o', lo', hi', .slice a' (phiN n) cap', (phiN n), g⟩ rfl
  dsimp only at q0 q1
  obtain ⟨x0, x1⟩ := (st0.box 1 (w.heap.size, [.int .i64 (n : Int), .slice a (phiN n) cap]) rfl).cell2
  obtain ⟨y0, y1⟩ := (st0.box 0 (w.heap.size + 1, [.int .i64 (n : Int), .slice a' (phiN n) cap']) rfl).cell2
  clear hs ht
  go_enter Try.func77, Try.ntmps77
  go_wp2_with fail
  refine (l01Like_any _ _ _ q0 q1).mono ?_
  rw [HC.out]
  rintro e w1 ⟨rfl, b1⟩
  clear q0 q1 x0 x1 y0 y1
  have st1 := st0.keep b1
  clear st0 b1
  obtain ⟨e0, e1⟩ := (st1.box 1 (w.heap.size, [.int .i64 (n : Int), .slice a (phiN n) cap]) rfl).cell2
  have qz := st1.sl 1 ⟨o, lo, hi, .slice a (phiN n) cap, phiN n, f⟩ rfl
  dsimp only at qz
  go_wp2_with fail
  refine (l02Null_any n _ qz hn1 hn2).mono ?_
  rw [HX.out]
  rintro e w2 ⟨rfl, bz⟩
  replace st1 := st1.keep bz
  clear bz qz e0 e1
  obtain ⟨e0, e1⟩ := (st1.box 0 (w.heap.size + 1, [.int .i64 (n : Int), .slice a' (phiN n) cap']) rfl).cell2
  have qz := st1.sl 0 ⟨o', lo', hi', .slice a' (phiN n) cap', phiN n, g⟩ rfl
  dsimp only at qz
  go_wp2_with fail
  refine (l02Null_any n _ qz hn1 hn2).mono ?_
  rw [HY.out]
  rintro e w3 ⟨rfl, bz⟩
  replace st1 := st1.keep bz
  clear bz qz e0 e1
  obtain ⟨e0, e1⟩ := (st1.box 1 (w.heap.size, [.int .i64 (n : Int), .slice a (phiN n) cap]) rfl).cell2
  have qz := st1.sl 1 ⟨o, lo, hi, .slice a (phiN n) cap, phiN n, f⟩ rfl
  dsimp only at qz
  go_wp2_with fail
  refine (l02Null_any n _ qz hn1 hn2).mono ?_
  rw [HX.out]
  rintro e w4 ⟨rfl, bz⟩
  replace st1 := st1.keep bz
  clear bz qz e0 e1
  have BB := st1.1
  clear st1
  go_wp2
  go_ret2
  exact ⟨rfl, BB⟩

set_option maxRecDepth 100000 in
set_option maxHeartbeats 4000000 in
theorem AreAssociated_spec_any (n : Nat) (w : World) (hs : Sl o w lo hi v (phiN n) f) (ht : Sl o' w lo' hi' v' (phiN n) g) (h : CyP n (phiN n) f) (h' : CyP n (phiN n) g) (hx : zeroB (phiN n) f = false) (hy : zeroB (phiN n) g = false) :
    Calls Try.prog 77 #[.agg #[.int .i64 (n : Int), v], .agg #[.int .i64 (n : Int), v']] w fun e w' => e = .returned (.tuple #[.bool (assoB (dvCode n f g) (dvCode n g f)), .int .i64 (assoC (dvCode n f g) (dvCode n g f))]) ∧ Below w.heap.size w w' := by
  have hn1 : 1 ≤ n := by have := h.1; omega
  have hn2 : n ≤ 16 := by have := h.2.1; omega
  have hp := phi_le12 n hn2 hn1
  have hp0 := phiN_pos n (by omega) hn1
  have HC := Lib.hid (pairC_ok h h' rfl)
  have HCX := Lib.hid h
  have HCY := Lib.hid h'
  have HX := Lib.hid hx
  have HY := Lib.hid hy
  clear h h' hx hy
  obtain ⟨a, cap, rfl⟩ := hs.shape
  obtain ⟨a', cap', rfl⟩ := ht.shape
  have hhs := hs.size
  have hht := ht.size
  have st0 := (((((St.start w).addSl ⟨o, lo, hi, .slice a (phiN n) cap, (phiN n), f⟩ hs).addSl ⟨o', lo', hi', .slice a' (phiN n) cap', (phiN n), g⟩ ht).alloc (.cells #[.int .i64 (n : Int), .slice a (phiN n) cap] 26)).addBox w.heap.size [.int .i64 (n : Int), .slice a (phiN n) cap] (Box.made _ _ _ _ (fun j v h => by simpa using h)))
  replace st0 := (st0.alloc (.cells #[.int .i64 (n : Int), .slice a' (phiN n) cap'] 26)).addBox _ [.int .i64 (n : Int), .slice a' (phiN n) cap'] (Box.made _ _ _ _ (fun j v h => by simpa using h))
  simp only [World.size_alloc] at st0
  have q0 := st0.sl 1 ⟨o, lo, hi, .slice a (phiN n) cap, (phiN n), f⟩ rfl
  have q1 := st0.sl 0 ⟨o', lo', hi', .slice a' (phiN n) cap', (phiN n), g⟩ rfl
  dsimp only at q0 q1
  obtain ⟨x0, x1⟩ := (st0.box 1 (w.heap.size, [.int .i64 (n : Int), .slice a (phiN n) cap]) rfl).cell2
  obtain ⟨y0, y1⟩ := (st0.box 0 (w.heap.size + 1, [.int .i64 (n : Int), .slice a' (phiN n) cap']) rfl).cell2
  clear hs ht
  go_enter Try.func77, Try.ntmps77
  go_wp2_with fail
  refine (l01Like_any _ _ _ q0 q1).mono ?_
  rw [HC.out]
  rintro e w1 ⟨rfl, b1⟩
  clear q0 q1 x0 x1 y0 y1
  have st1 := st0.keep b1
  clear st0 b1
  obtain ⟨e0, e1⟩ := (st1.box 1 (w.heap.size, [.int .i64 (n : Int), .slice a (phiN n) cap]) rfl).cell2
  have qz := st1.sl 1 ⟨o, lo, hi, .slice a (phiN n) cap, phiN n, f⟩ rfl
  dsimp only at qz
  go_wp2_with fail
  refine (l02Null_any n _ qz hn1 hn2).mono ?_
  rw [HX.out]
  rintro e w2 ⟨rfl, bz⟩
  replace st1 := st1.keep bz
  clear bz qz e0 e1
  obtain ⟨e0, e1⟩ := (st1.box 0 (w.heap.size + 1, [.int .i64 (n : Int), .slice a' (phiN n) cap']) rfl).cell2
  have qz := st1.sl 0 ⟨o', lo', hi', .slice a' (phiN n) cap', phiN n, g⟩ rfl
  dsimp only at qz
  go_wp2_with fail
  refine (l02Null_any n _ qz hn1 hn2).mono ?_
  rw [HY.out]
  rintro e w3 ⟨rfl, bz⟩
  replace st1 := st1.keep bz
  clear bz qz e0 e1
  obtain ⟨x0, x1⟩ := (st1.box 1 (w.heap.size, [.int .i64 (n : Int), .slice a (phiN n) cap]) rfl).cell2
  obtain ⟨y0, y1⟩ := (st1.box 0 (w.heap.size + 1, [.int .i64 (n : Int), .slice a' (phiN n) cap']) rfl).cell2
  have qx := st1.sl 1 ⟨o, lo, hi, .slice a (phiN n) cap, phiN n, f⟩ rfl
  have qy := st1.sl 0 ⟨o', lo', hi', .slice a' (phiN n) cap', phiN n, g⟩ rfl
  dsimp only at qx qy
  go_wp2_with fail
  refine (div_code (l02Divide_any n _ qx qy HCX.out HCY.out HY.out)).mono ?_
  rintro e w6 ⟨r6, a6, k6, c6, rfl, b6⟩
  have st2 := (st1.keep b6).alloc (.cells #[.int .i64 r6, .slice a6 k6 c6] 26)
  clear st1 b6 x0 x1 y0 y1 qx qy
  obtain ⟨x0, x1⟩ := (st2.box 1 (w.heap.size, [.int .i64 (n : Int), .slice a (phiN n) cap]) rfl).cell2
  obtain ⟨y0, y1⟩ := (st2.box 0 (w.heap.size + 1, [.int .i64 (n : Int), .slice a' (phiN n) cap']) rfl).cell2
  have qx := st2.sl 1 ⟨o, lo, hi, .slice a (phiN n) cap, phiN n, f⟩ rfl
  have qy := st2.sl 0 ⟨o', lo', hi', .slice a' (phiN n) cap', phiN n, g⟩ rfl
  dsimp only at qx qy
  go_wp2_with fail
  refine (div_code (l02Divide_any n _ qy qx HCY.out HCX.out HX.out)).mono ?_
  rintro e w7 ⟨r7, a7, k7, c7, rfl, b7⟩
  have BB := ((st2.keep b7).alloc (.cells #[.int .i64 r7, .slice a7 k7 c7] 26)).1
  clear st2 b7 x0 x1 y0 y1 qx qy
  rcases dvCode_cases n f g with c1 | c1 | c1 <;> rcases dvCode_cases n g f with c2 | c2 | c2 <;>
    (have C1 := Lib.hid c1
     have C2 := Lib.hid c2
     rw [C1.out, C2.out]
     clear c1 c2
     go_wp2
     go_ret2
     exact ⟨by rw [C1.out, C2.out]; rfl, BB⟩)

end
end Go.Proofs.Ytmmcbkikcceenaa
