/- FnDivision. -/
import Derived.Test.YtloalhcloifgjaaInv
import Derived.Test.YtloalhcloifgjaaDiv
import Derived.Test.YtloalhcloifgjaaDivS
import Derived.Test.YtloalhcloifgjaaDivBase
import Derived.Test.YtloalhcloifgjaaFail
import Derived.Test.YtloalhcloifgjaaNorm
import Derived.Test.YtloalhcloifgjaaNormZ
import Derived.Test.YtloalhcloifgjaaMul
import Derived.Test.YtloalhcloifgjaaGcd
import Derived.Test.YtloalhcloifgjaaGalZ
import Derived.Test.YtloalhcloifgjaaPowZ
import Derived.Test.YtloalhcloifgjaaCopy
import Derived.Test.YtloalhcloifgjaaState
import Derived.Deep.RegionHeld3
import Derived.BigQuiet
import Derived.Laws.BitsAllLaws
import Derived.Test.YtloalhcloifgjaaFin
import Derived.Deep.RegionLaw
import Derived.Test.YtloalhcloifgjaaPlus
import Derived.Test.YtloalhcloifgjaaTimes
import Derived.Test.YtloalhcloifgjaaMulSpec
import Derived.Test.YtloalhcloifgjaaTimesG
import Derived.Deep.DeepCutAuto
import Derived.JoinedOf
import Derived.Deep.CutRange
import Derived.ShutString
import Derived.ChangeOld
import Derived.Lib.SmallJoins
namespace Go.Proofs.Ytloalhcloifgjaa
set_option linter.unusedVariables false
set_option linter.unusedSimpArgs false
section
open Go.RowKit Go.ChangeShapes Go.Sort
set_option linter.unusedVariables false
set_option linter.unusedSimpArgs false

open Classical in
/-- The code of a division. -/
noncomputable def dvCode (n : Nat) (f g : Nat → Int) : Int := if dvOk n f g then (if divTo (dvZ n f g) (dvN n g) (phiN n) then 0 else 4) else 3
theorem dvCode_cases (n : Nat) (f g : Nat → Int) : dvCode n f g = 0 ∨ dvCode n f g = 3 ∨ dvCode n f g = 4 := by
  unfold dvCode
  split
  · split
    · exact .inl rfl
    · exact .inr (.inr rfl)
  · exact .inr (.inl rfl)
def assoB (c d : Int) : Bool := if c = 3 ∨ d = 3 then false else decide (c = 0 ∧ d = 0)
def assoC (c d : Int) : Int := if c = 3 ∨ d = 3 then 3 else 0
section
variable {P : Program} {fn : FuncId} {args : Array Value} {w : World} {n : Nat} {f g : Nat → Int}
theorem div_code (h : Calls P fn args w fun e w' => ((dvOk n f g ∧ divTo (dvZ n f g) (dvN n g) (phiN n) ∧ ∃ a9 k9, e = .returned (.tuple #[.agg #[.int .i64 (n : Int), .slice a9 (phiN n) k9], .int .i64 0]) ∧ Sl true w' w.heap.size w'.heap.size (.slice a9 (phiN n) k9) (phiN n) (quoZ (dvZ n f g) (dvN n g))) ∨ (dvOk n f g ∧ ¬ divTo (dvZ n f g) (dvN n g) (phiN n) ∧ e = .returned (failV 4)) ∨ (¬ dvOk n f g ∧ e = .returned (failV 3))) ∧ Below w.heap.size w w') :
    Calls P fn args w fun e w' => ∃ (x : Int) (a9 : Option Addr) (k9 c9 : Nat), e = .returned (.tuple #[.agg #[.int .i64 x, .slice a9 k9 c9], .int .i64 (dvCode n f g)]) ∧ Below w.heap.size w w' :=
  h.mono fun e w' ⟨h, b⟩ => by
    unfold dvCode
    rcases h with ⟨h1, h2, a, k, he, hs⟩ | ⟨h1, h2, he⟩ | ⟨h1, he⟩
    · rw [if_pos h1, if_pos h2]; exact ⟨_, _, _, _, he, b⟩
    · rw [if_pos h1, if_neg h2]; exact ⟨_, _, _, _, he, b⟩
    · rw [if_neg h1]; exact ⟨_, _, _, _, he, b⟩
end
section
variable {o o' : Bool} {lo hi lo' hi' : Nat} {v v' : Value} {f g : Nat → Int}
theorem AreAssociated_impl_bad {n m : Nat} (x y c : Int) (w : World) (hs : Sl o w lo hi v n f) (ht : Sl o' w lo' hi' v' m g) (hc : pairC x y n m f g = c) (hc0 : c ≠ 0) :
    Calls Try.prog 102 #[.agg #[.int .i64 x, v], .agg #[.int .i64 y, v']] w fun e w' => e = .returned (.tuple #[.bool false, .int .i64 c]) ∧ Below w.heap.size w w' := by
  have HC := Lib.hid hc
  clear hc
  have hb : (c != 0) = true := by simpa using hc0
  have hb' : (c == 0) = false := by simpa using hc0
  obtain ⟨a, cap, rfl⟩ := hs.shape
  obtain ⟨a', cap', rfl⟩ := ht.shape
  have hhs := hs.size
  have hht := ht.size
  have st0 := (((((St.start w).addSl ⟨o, lo, hi, .slice a n cap, n, f⟩ hs).addSl ⟨o', lo', hi', .slice a' m cap', m, g⟩ ht).alloc (.cells #[.int .i64 x, .slice a n cap] 26)).addBox w.heap.size [.int .i64 x, .slice a n cap] (Box.made _ _ _ _ (fun j v h => by simpa using h)))
  replace st0 := (st0.alloc (.cells #[.int .i64 y, .slice a' m cap'] 26)).addBox _ [.int .i64 y, .slice a' m cap'] (Box.made _ _ _ _ (fun j v h => by simpa using h))
  simp only [World.size_alloc] at st0
  have q0 := st0.sl 1 ⟨o, lo, hi, .slice a n cap, n, f⟩ rfl
  have q1 := st0.sl 0 ⟨o', lo', hi', .slice a' m cap', m, g⟩ rfl
  dsimp only at q0 q1
  obtain ⟨x0, x1⟩ := (st0.box 1 (w.heap.size, [.int .i64 x, .slice a n cap]) rfl).cell2
  obtain ⟨y0, y1⟩ := (st0.box 0 (w.heap.size + 1, [.int .i64 y, .slice a' m cap']) rfl).cell2
  clear hs ht
  go_enter Try.func102, Try.ntmps102
  go_wp2_with fail
  refine (pairCode_any _ _ _ q0 q1).mono ?_
  rw [HC.out]
  rintro e w1 ⟨rfl, b1⟩
  clear q0 q1 x0 x1 y0 y1
  have st1 := st0.keep b1
  clear st0 b1
  have BB := st1.1
  clear st1
  go_wp2
  go_ret2
  exact ⟨rfl, BB⟩

set_option maxHeartbeats 4000000 in
theorem AreAssociated_impl_zero_tt (n : Nat) (w : World) (hs : Sl o w lo hi v (phiN n) f) (ht : Sl o' w lo' hi' v' (phiN n) g) (h : CyP n (phiN n) f) (h' : CyP n (phiN n) g) (hx : zeroB (phiN n) f = true) (hy : zeroB (phiN n) g = true) :
    Calls Try.prog 102 #[.agg #[.int .i64 (n : Int), v], .agg #[.int .i64 (n : Int), v']] w fun e w' => e = .returned (.tuple #[.bool true, .int .i64 0]) ∧ Below w.heap.size w w' := by
  have hn1 : 1 ≤ n := by have := h.1; omega
  have hn2 : n ≤ 16 := by have := h.2.1; omega
  have hp := phi_le12 n hn2 hn1
  have hp0 := phiN_pos n (by omega) hn1
  have HC := Lib.hid (pairC_ok h h' rfl)
  have HCX := Lib.hid h
  have HCY := Lib.hid h'
  have HX := Lib.hid hx
  have HY := Lib.hid hy
  clear h h' hx hy
  obtain ⟨a, cap, rfl⟩ := hs.shape
  obtain ⟨a', cap', rfl⟩ := ht.shape
  have hhs := hs.size
  have hht := ht.size
  have st0 := (((((St.start w).addSl ⟨o, lo, hi, .slice a (phiN n) cap, (phiN n), f⟩ hs).addSl ⟨o', lo', hi', .slice a' (phiN n) cap', (phiN n), g⟩ ht).alloc (.cells #[.int .i64 (n : Int), .slice a (phiN n) cap] 26)).addBox w.heap.size [.int .i64 (n : Int), .slice a (phiN n) cap] (Box.made _ _ _ _ (fun j v h => by simpa using h)))
  replace st0 := (st0.alloc (.cells #[.int .i64 (n : Int), .slice a' (phiN n) cap'] 26)).addBox _ [.int .i64 (n : Int), .slice a' (phiN n) cap'] (Box.made _ _ _ _ (fun j v h => by simpa using h))
  simp only [World.size_alloc] at st0
  have q0 := st0.sl 1 ⟨o, lo, hi, .slice a (phiN n) cap, (phiN n), f⟩ rfl
  have q1 := st0.sl 0 ⟨o', lo', hi', .slice a' (phiN n) cap', (phiN n), g⟩ rfl
  dsimp only at q0 q1
  obtain ⟨x0, x1⟩ := (st0.box 1 (w.heap.size, [.int .i64 (n : Int), .slice a (phiN n) cap]) rfl).cell2
  obtain ⟨y0, y1⟩ := (st0.box 0 (w.heap.size + 1, [.int .i64 (n : Int), .slice a' (phiN n) cap']) rfl).cell2
  clear hs ht
  go_enter Try.func102, Try.ntmps102
  go_wp2_with fail
  refine (pairCode_any _ _ _ q0 q1).mono ?_
  rw [HC.out]
  rintro e w1 ⟨rfl, b1⟩
  clear q0 q1 x0 x1 y0 y1
  have st1 := st0.keep b1
  clear st0 b1
  obtain ⟨e0, e1⟩ := (st1.box 1 (w.heap.size, [.int .i64 (n : Int), .slice a (phiN n) cap]) rfl).cell2
  have qz := st1.sl 1 ⟨o, lo, hi, .slice a (phiN n) cap, phiN n, f⟩ rfl
  dsimp only at qz
  go_wp2_with fail
  refine (isZero_any _ _ qz (by omega) hp).mono ?_
  rw [HX.out]
  rintro e w2 ⟨rfl, bz⟩
  replace st1 := st1.keep bz
  clear bz qz e0 e1
  obtain ⟨e0, e1⟩ := (st1.box 1 (w.heap.size, [.int .i64 (n : Int), .slice a (phiN n) cap]) rfl).cell2
  have qz := st1.sl 1 ⟨o, lo, hi, .slice a (phiN n) cap, phiN n, f⟩ rfl
  dsimp only at qz
  go_wp2_with fail
  refine (isZero_any _ _ qz (by omega) hp).mono ?_
  rw [HX.out]
  rintro e w4 ⟨rfl, bz⟩
  replace st1 := st1.keep bz
  clear bz qz e0 e1
  obtain ⟨e0, e1⟩ := (st1.box 0 (w.heap.size + 1, [.int .i64 (n : Int), .slice a' (phiN n) cap']) rfl).cell2
  have qz := st1.sl 0 ⟨o', lo', hi', .slice a' (phiN n) cap', phiN n, g⟩ rfl
  dsimp only at qz
  go_wp2_with fail
  refine (isZero_any _ _ qz (by omega) hp).mono ?_
  rw [HY.out]
  rintro e w5 ⟨rfl, bz⟩
  replace st1 := st1.keep bz
  clear bz qz e0 e1
  have BB := st1.1
  clear st1
  go_wp2
  go_ret2
  exact ⟨rfl, BB⟩

set_option maxHeartbeats 4000000 in
theorem AreAssociated_impl_zero_tf (n : Nat) (w : World) (hs : Sl o w lo hi v (phiN n) f) (ht : Sl o' w lo' hi' v' (phiN n) g) (h : CyP n (phiN n) f) (h' : CyP n (phiN n) g) (hx : zeroB (phiN n) f = true) (hy : zeroB (phiN n) g = false) :
    Calls Try.prog 102 #[.agg #[.int .i64 (n : Int), v], .agg #[.int .i64 (n : Int), v']] w fun e w' => e = .returned (.tuple #[.bool false, .int .i64 0]) ∧ Below w.heap.size w w' := by
  have hn1 : 1 ≤ n := by have := h.1; omega
  have hn2 : n ≤ 16 := by have := h.2.1; omega
  have hp := phi_le12 n hn2 hn1
  have hp0 := phiN_pos n (by omega) hn1
  have HC := Lib.hid (pairC_ok h h' rfl)
  have HCX := Lib.hid h
  have HCY := Lib.hid h'
  have HX := Lib.hid hx
  have HY := Lib.hid hy
  clear h h' hx hy
  obtain ⟨a, cap, rfl⟩ := hs.shape
  obtain ⟨a', cap', rfl⟩ := ht.shape
  have hhs := hs.size
  have hht := ht.size
  have st0 := (((((St.start w).addSl ⟨o, lo, hi, .slice a (phiN n) cap, (phiN n), f⟩ hs).addSl ⟨o', lo', hi', .slice a' (phiN n) cap', (phiN n), g⟩ ht).alloc (.cells #[.int .i64 (n : Int), .slice a (phiN n) cap] 26)).addBox w.heap.size [.int .i64 (n : Int), .slice a (phiN n) cap] (Box.made _ _ _ _ (fun j v h => by simpa using h)))
  replace st0 := (st0.alloc (.cells #[.int .i64 (n : Int), .slice a' (phiN n) cap'] 26)).addBox _ [.int .i64 (n : Int), .slice a' (phiN n) cap'] (Box.made _ _ _ _ (fun j v h => by simpa using h))
  simp only [World.size_alloc] at st0
  have q0 := st0.sl 1 ⟨o, lo, hi, .slice a (phiN n) cap, (phiN n), f⟩ rfl
  have q1 := st0.sl 0 ⟨o', lo', hi', .slice a' (phiN n) cap', (phiN n), g⟩ rfl
  dsimp only at q0 q1
  obtain ⟨x0, x1⟩ := (st0.box 1 (w.heap.size, [.int .i64 (n : Int), .slice a (phiN n) cap]) rfl).cell2
  obtain ⟨y0, y1⟩ := (st0.box 0 (w.heap.size + 1, [.int .i64 (n : Int), .slice a' (phiN n) cap']) rfl).cell2
  clear hs ht
  go_enter Try.func102, Try.ntmps102
  go_wp2_with fail
  refine (pairCode_any _ _ _ q0 q1).mono ?_
  rw [HC.out]
  rintro e w1 ⟨rfl, b1⟩
  clear q0 q1 x0 x1 y0 y1
  have st1 := st0.keep b1
  clear st0 b1
  obtain ⟨e0, e1⟩ := (st1.box 1 (w.heap.size, [.int .i64 (n : Int), .slice a (phiN n) cap]) rfl).cell2
  have qz := st1.sl 1 ⟨o, lo, hi, .slice a (phiN n) cap, phiN n, f⟩ rfl
  dsimp only at qz
  go_wp2_with fail
  refine (isZero_any _ _ qz (by omega) hp).mono ?_
  rw [HX.out]
  rintro e w2 ⟨rfl, bz⟩
  replace st1 := st1.keep bz
  clear bz qz e0 e1
  obtain ⟨e0, e1⟩ := (st1.box 1 (w.heap.size, [.int .i64 (n : Int), .slice a (phiN n) cap]) rfl).cell2
  have qz := st1.sl 1 ⟨o, lo, hi, .slice a (phiN n) cap, phiN n, f⟩ rfl
  dsimp only at qz
  go_wp2_with fail
  refine (isZero_any _ _ qz (by omega) hp).mono ?_
  rw [HX.out]
  rintro e w4 ⟨rfl, bz⟩
  replace st1 := st1.keep bz
  clear bz qz e0 e1
  obtain ⟨e0, e1⟩ := (st1.box 0 (w.heap.size + 1, [.int .i64 (n : Int), .slice a' (phiN n) cap']) rfl).cell2
  have qz := st1.sl 0 ⟨o', lo', hi', .slice a' (phiN n) cap', phiN n, g⟩ rfl
  dsimp only at qz
  go_wp2_with fail
  refine (isZero_any _ _ qz (by omega) hp).mono ?_
  rw [HY.out]
  rintro e w5 ⟨rfl, bz⟩
  replace st1 := st1.keep bz
  clear bz qz e0 e1
  have BB := st1.1
  clear st1
  go_wp2
  go_ret2
  exact ⟨rfl, BB⟩

set_option maxHeartbeats 4000000 in
theorem AreAssociated_impl_zero_ft (n : Nat) (w : World) (hs : Sl o w lo hi v (phiN n) f) (ht : Sl o' w lo' hi' v' (phiN n) g) (h : CyP n (phiN n) f) (h' : CyP n (phiN n) g) (hx : zeroB (phiN n) f = false) (hy : zeroB (phiN n) g = true) :
    Calls Try.prog 102 #[.agg #[.int .i64 (n : Int), v], .agg #[.int .i64 (n : Int), v']] w fun e w' => e = .returned (.tuple #[.bool false, .int .i64 0]) ∧ Below w.heap.size w w' := by
  have hn1 : 1 ≤ n := by have := h.1; omega
  have hn2 : n ≤ 16 := by have := h.2.1; omega
  have hp := phi_le12 n hn2 hn1
  have hp0 := phiN_pos n (by omega) hn1
  have HC := Lib.hid (pairC_ok h h' rfl)
  have HCX := Lib.hid h
  have HCY := Lib.hid h'
  have HX := Lib.hid hx
  have HY := Lib.hid hy
  clear h h' hx hy
  obtain ⟨a, cap, rfl⟩ := hs.shape
  obtain ⟨a', cap', rfl⟩ := ht.shape
  have hhs := hs.size
  have hht := ht.size
  have st0 := (((((St.start w).addSl ⟨o, lo, hi, .slice a (phiN n) cap, (phiN n), f⟩ hs).addSl ⟨o', lo', hi', .slice a' (phiN n) cap', (phiN n), g⟩ ht).alloc (.cells #[.int .i64 (n : Int), .slice a (phiN n) cap] 26)).addBox w.heap.size [.int .i64 (n : Int), .slice a (phiN n) cap] (Box.made _ _ _ _ (fun j v h => by simpa using h)))
  replace st0 := (st0.alloc (.cells #[.int .i64 (n : Int), .slice a' (phiN n) cap'] 26)).addBox _ [.int .i64 (n : Int), .slice a' (phiN n) cap'] (Box.made _ _ _ _ (fun j v h => by simpa using h))
  simp only [World.size_alloc] at st0
  have q0 := st0.sl 1 ⟨o, lo, hi, .slice a (phiN n) cap, (phiN n), f⟩ rfl
  have q1 := st0.sl 0 ⟨o', lo', hi', .slice a' (phiN n) cap', (phiN n), g⟩ rfl
  dsimp only at q0 q1
  obtain ⟨x0, x1⟩ := (st0.box 1 (w.heap.size, [.int .i64 (n : Int), .slice a (phiN n) cap]) rfl).cell2
  obtain ⟨y0, y1⟩ := (st0.box 0 (w.heap.size + 1, [.int .i64 (n : Int), .slice a' (phiN n) cap']) rfl).cell2
  clear hs ht
  go_enter Try.func102, Try.ntmps102
  go_wp2_with fail
  refine (pairCode_any _ _ _ q0 q1).mono ?_
  rw [HC.out]
  rintro e w1 ⟨rfl, b1⟩
  clear q0 q1 x0 x1 y0 y1
  have st1 := st0.keep b1
  clear st0 b1
  obtain ⟨e0, e1⟩ := (st1.box 1 (w.heap.size, [.int .i64 (n : Int), .slice a (phiN n) cap]) rfl).cell2
  have qz := st1.sl 1 ⟨o, lo, hi, .slice a (phiN n) cap, phiN n, f⟩ rfl
  dsimp only at qz
  go_wp2_with fail
  refine (isZero_any _ _ qz (by omega) hp).mono ?_
  rw [HX.out]
  rintro e w2 ⟨rfl, bz⟩
  replace st1 := st1.keep bz
  clear bz qz e0 e1
  obtain ⟨e0, e1⟩ := (st1.box 0 (w.heap.size + 1, [.int .i64 (n : Int), .slice a' (phiN n) cap']) rfl).cell2
  have qz := st1.sl 0 ⟨o', lo', hi', .slice a' (phiN n) cap', phiN n, g⟩ rfl
  dsimp only at qz
  go_wp2_with fail
  refine (isZero_any _ _ qz (by omega) hp).mono ?_
  rw [HY.out]
  rintro e w3 ⟨rfl, bz⟩
  replace st1 := st1.keep bz
  clear bz qz e0 e1
  obtain ⟨e0, e1⟩ := (st1.box 1 (w.heap.size, [.int .i64 (n : Int), .slice a (phiN n) cap]) rfl).cell2
  have qz := st1.sl 1 ⟨o, lo, hi, .slice a (phiN n) cap, phiN n, f⟩ rfl
  dsimp only at qz
  go_wp2_with fail
  refine (isZero_any _ _ qz (by omega) hp).mono ?_
  rw [HX.out]
  rintro e w4 ⟨rfl, bz⟩
  replace st1 := st1.keep bz
  clear bz qz e0 e1
  have BB := st1.1
  clear st1
  go_wp2
  go_ret2
  exact ⟨rfl, BB⟩

set_option maxRecDepth 100000 in
set_option maxHeartbeats 4000000 in
theorem AreAssociated_impl_any (n : Nat) (w : World) (hs : Sl o w lo hi v (phiN n) f) (ht : Sl o' w lo' hi' v' (phiN n) g) (h : CyP n (phiN n) f) (h' : CyP n (phiN n) g) (hx : zeroB (phiN n) f = false) (hy : zeroB (phiN n) g = false) :
    Calls Try.prog 102 #[.agg #[.int .i64 (n : Int), v], .agg #[.int .i64 (n : Int), v']] w fun e w' => e = .returned (.tuple #[.bool (assoB (dvCode n f g) (dvCode n g f)), .int .i64 (assoC (dvCode n f g) (dvCode n g f))]) ∧ Below w.heap.size w w' := by
  have hn1 : 1 ≤ n := by have := h.1; omega
  have hn2 : n ≤ 16 := by have := h.2.1; omega
  have hp := phi_le12 n hn2 hn1
  have hp0 := phiN_pos n (by omega) hn1
  have HC := Lib.hid (pairC_ok h h' rfl)
  have HCX := Lib.hid h
  have HCY := Lib.hid h'
  have HX := Lib.hid hx
  have HY := Lib.hid hy
  clear h h' hx hy
  obtain ⟨a, cap, rfl⟩ := hs.shape
  obtain ⟨a', cap', rfl⟩ := ht.shape
  have hhs := hs.size
  have hht := ht.size
  have st0 := (((((St.start w).addSl ⟨o, lo, hi, .slice a (phiN n) cap, (phiN n), f⟩ hs).addSl ⟨o', lo', hi', .slice a' (phiN n) cap', (phiN n), g⟩ ht).alloc (.cells #[.int .i64 (n : Int), .slice a (phiN n) cap] 26)).addBox w.heap.size [.int .i64 (n : Int), .slice a (phiN n) cap] (Box.made _ _ _ _ (fun j v h => by simpa using h)))
  replace st0 := (st0.alloc (.cells #[.int .i64 (n : Int), .slice a' (phiN n) cap'] 26)).addBox _ [.int .i64 (n : Int), .slice a' (phiN n) cap'] (Box.made _ _ _ _ (fun j v h => by simpa using h))
  simp only [World.size_alloc] at st0
  have q0 := st0.sl 1 ⟨o, lo, hi, .slice a (phiN n) cap, (phiN n), f⟩ rfl
  have q1 := st0.sl 0 ⟨o', lo', hi', .slice a' (phiN n) cap', (phiN n), g⟩ rfl
  dsimp only at q0 q1
  obtain ⟨x0, x1⟩ := (st0.box 1 (w.heap.size, [.int .i64 (n : Int), .slice a (phiN n) cap]) rfl).cell2
  obtain ⟨y0, y1⟩ := (st0.box 0 (w.heap.size + 1, [.int .i64 (n : Int), .slice a' (phiN n) cap']) rfl).cell2
  clear hs ht
  go_enter Try.func102, Try.ntmps102
  go_wp2_with fail
  refine (pairCode_any _ _ _ q0 q1).mono ?_
  rw [HC.out]
  rintro e w1 ⟨rfl, b1⟩
  clear q0 q1 x0 x1 y0 y1
  have st1 := st0.keep b1
  clear st0 b1
  obtain ⟨e0, e1⟩ := (st1.box 1 (w.heap.size, [.int .i64 (n : Int), .slice a (phiN n) cap]) rfl).cell2
  have qz := st1.sl 1 ⟨o, lo, hi, .slice a (phiN n) cap, phiN n, f⟩ rfl
  dsimp only at qz
  go_wp2_with fail
  refine (isZero_any _ _ qz (by omega) hp).mono ?_
  rw [HX.out]
  rintro e w2 ⟨rfl, bz⟩
  replace st1 := st1.keep bz
  clear bz qz e0 e1
  obtain ⟨e0, e1⟩ := (st1.box 0 (w.heap.size + 1, [.int .i64 (n : Int), .slice a' (phiN n) cap']) rfl).cell2
  have qz := st1.sl 0 ⟨o', lo', hi', .slice a' (phiN n) cap', phiN n, g⟩ rfl
  dsimp only at qz
  go_wp2_with fail
  refine (isZero_any _ _ qz (by omega) hp).mono ?_
  rw [HY.out]
  rintro e w3 ⟨rfl, bz⟩
  replace st1 := st1.keep bz
  clear bz qz e0 e1
  obtain ⟨x0, x1⟩ := (st1.box 1 (w.heap.size, [.int .i64 (n : Int), .slice a (phiN n) cap]) rfl).cell2
  obtain ⟨y0, y1⟩ := (st1.box 0 (w.heap.size + 1, [.int .i64 (n : Int), .slice a' (phiN n) cap']) rfl).cell2
  have qx := st1.sl 1 ⟨o, lo, hi, .slice a (phiN n) cap, phiN n, f⟩ rfl
  have qy := st1.sl 0 ⟨o', lo', hi', .slice a' (phiN n) cap', phiN n, g⟩ rfl
  dsimp only at qx qy
  go_wp2_with fail
  refine (div_code (DivideCyclos_impl_any n _ qx qy HCX.out HCY.out HY.out)).mono ?_
  rintro e w6 ⟨r6, a6, k6, c6, rfl, b6⟩
  have st2 := (st1.keep b6).alloc (.cells #[.int .i64 r6, .slice a6 k6 c6] 26)
  clear st1 b6 x0 x1 y0 y1 qx qy
  obtain ⟨x0, x1⟩ := (st2.box 1 (w.heap.size, [.int .i64 (n : Int), .slice a (phiN n) cap]) rfl).cell2
  obtain ⟨y0, y1⟩ := (st2.box 0 (w.heap.size + 1, [.int .i64 (n : Int), .slice a' (phiN n) cap']) rfl).cell2
  have qx := st2.sl 1 ⟨o, lo, hi, .slice a (phiN n) cap, phiN n, f⟩ rfl
  have qy := st2.sl 0 ⟨o', lo', hi', .slice a' (phiN n) cap', phiN n, g⟩ rfl
  dsimp only at qx qy
  go_wp2_with fail
  refine (div_code (DivideCyclos_impl_any n _ qy qx HCY.out HCX.out HX.out)).mono ?_
  rintro e w7 ⟨r7, a7, k7, c7, rfl, b7⟩
  have BB := ((st2.keep b7).alloc (.cells #[.int .i64 r7, .slice a7 k7 c7] 26)).1
  clear st2 b7 x0 x1 y0 y1 qx qy
  rcases dvCode_cases n f g with c1 | c1 | c1 <;> rcases dvCode_cases n g f with c2 | c2 | c2 <;>
    (have C1 := Lib.hid c1
     have C2 := Lib.hid c2
     rw [C1.out, C2.out]
     clear c1 c2
     go_wp2
     go_ret2
     exact ⟨by rw [C1.out, C2.out]; rfl, BB⟩)

theorem AreAssociated_spec_bad {n m : Nat} (x y c : Int) (w : World) (hs : Sl o w lo hi v n f) (ht : Sl o' w lo' hi' v' m g) (hc : pairC x y n m f g = c) (hc0 : c ≠ 0) :
    Calls Try.prog 103 #[.agg #[.int .i64 x, v], .agg #[.int .i64 y, v']] w fun e w' => e = .returned (.tuple #[.bool false, .int .i64 c]) ∧ Below w.heap.size w w' := by
  have HC := Lib.hid hc
  clear hc
  have hb : (c != 0) = true := by simpa using hc0
  have hb' : (c == 0) = false := by simpa using hc0
  obtain ⟨a, cap, rfl⟩ := hs.shape
  obtain ⟨a', cap', rfl⟩ := ht.shape
  have hhs := hs.size
  have hht := ht.size
  have st0 := (((((St.start w).addSl ⟨o, lo, hi, .slice a n cap, n, f⟩ hs).addSl ⟨o', lo', hi', .slice a' m cap', m, g⟩ ht).alloc (.cells #[.int .i64 x, .slice a n cap] 26)).addBox w.heap.size [.int .i64 x, .slice a n cap] (Box.made _ _ _ _ (fun j v h => by simpa using h)))
  replace st0 := (st0.alloc (.cells #[.int .i64 y, .slice a' m cap'] 26)).addBox _ [.int .i64 y, .slice a' m cap'] (Box.made _ _ _ _ (fun j v h => by simpa using h))
  simp only [World.size_alloc] at st0
  have q0 := st0.sl 1 ⟨o, lo, hi, .slice a n cap, n, f⟩ rfl
  have q1 := st0.sl 0 ⟨o', lo', hi', .slice a' m cap', m, g⟩ rfl
  dsimp only at q0 q1
  obtain ⟨x0, x1⟩ := (st0.box 1 (w.heap.size, [.int .i64 x, .slice a n cap]) rfl).cell2
  obtain ⟨y0, y1⟩ := (st0.box 0 (w.heap.size + 1, [.int .i64 y, .slice a' m cap']) rfl).cell2
  clear hs ht
  go_enter Try.func103, Try.ntmps103
  go_wp2_with fail
  refine (l01Like_any _ _ _ q0 q1).mono ?_
  rw [HC.out]
  rintro e w1 ⟨rfl, b1⟩
  clear q0 q1 x0 x1 y0 y1
  have st1 := st0.keep b1
  clear st0 b1
  have BB := st1.1
  clear st1
  go_wp2
  go_ret2
  exact ⟨rfl, BB⟩

set_option maxHeartbeats 4000000 in
theorem AreAssociated_spec_zero_tt (n : Nat) (w : World) (hs : Sl o w lo hi v (phiN n) f) (ht : Sl o' w lo' hi' v' (phiN n) g) (h : CyP n (phiN n) f) (h' : CyP n (phiN n) g) (hx : zeroB (phiN n) f = true) (hy : zeroB (phiN n) g = true) :
    Calls Try.prog 103 #[.agg #[.int .i64 (n : Int), v], .agg #[.int .i64 (n : Int), v']] w fun e w' => e = .returned (.tuple #[.bool true, .int .i64 0]) ∧ Below w.heap.size w w' := by
  have hn1 : 1 ≤ n := by have := h.1; omega
  have hn2 : n ≤ 16 := by have := h.2.1; omega
  have hp := phi_le12 n hn2 hn1
  have hp0 := phiN_pos n (by omega) hn1
  have HC := Lib.hid (pairC_ok h h' rfl)
  have HCX := Lib.hid h
  have HCY := Lib.hid h'
  have HX := Lib.hid hx
  have HY := Lib.hid hy
  clear h h' hx hy
  obtain ⟨a, cap, rfl⟩ := hs.shape
  obtain ⟨a', cap', rfl⟩ := ht.shape
  have hhs := hs.size
  have hht := ht.size
  have st0 := (((((St.start w).addSl ⟨o, lo, hi, .slice a (phiN n) cap, (phiN n), f⟩ hs).addSl ⟨o', lo', hi', .slice a' (phiN n) cap', (phiN n), g⟩ ht).alloc (.cells #[.int .i64 (n : Int), .slice a (phiN n) cap] 26)).addBox w.heap.size [.int .i64 (n : Int), .slice a (phiN n) cap] (Box.made _ _ _ _ (fun j v h => by simpa using h)))
  replace st0 := (st0.alloc (.cells #[.int .i64 (n : Int), .slice a' (phiN n) cap'] 26)).addBox _ [.int .i64 (n : Int), .slice a' (phiN n) cap'] (Box.made _ _ _ _ (fun j v h => by simpa using h))
  simp only [World.size_alloc] at st0
  have q0 := st0.sl 1 ⟨o, lo, hi, .slice a (phiN n) cap, (phiN n), f⟩ rfl
  have q1 := st0.sl 0 ⟨o', lo', hi', .slice a' (phiN n) cap', (phiN n), g⟩ rfl
  dsimp only at q0 q1
  obtain ⟨x0, x1⟩ := (st0.box 1 (w.heap.size, [.int .i64 (n : Int), .slice a (phiN n) cap]) rfl).cell2
  obtain ⟨y0, y1⟩ := (st0.box 0 (w.heap.size + 1, [.int .i64 (n : Int), .slice a' (phiN n) cap']) rfl).cell2
  clear hs ht
  go_enter Try.func103, Try.ntmps103
  go_wp2_with fail
  refine (l01Like_any _ _ _ q0 q1).mono ?_
  rw [HC.out]
  rintro e w1 ⟨rfl, b1⟩
  clear q0 q1 x0 x1 y0 y1
  have st1 := st0.keep b1
  clear st0 b1
  obtain ⟨e0, e1⟩ := (st1.box 1 (w.heap.size, [.int .i64 (n : Int), .slice a (phiN n) cap]) rfl).cell2
  have qz := st1.sl 1 ⟨o, lo, hi, .slice a (phiN n) cap, phiN n, f⟩ rfl
  dsimp only at qz
  go_wp2_with fail
  refine (l02Null_any n _ qz hn1 hn2).mono ?_
  rw [HX.out]
  rintro e w2 ⟨rfl, bz⟩
  replace st1 := st1.keep bz
  clear bz qz e0 e1
  obtain ⟨e0, e1⟩ := (st1.box 1 (w.heap.size, [.int .i64 (n : Int), .slice a (phiN n) cap]) rfl).cell2
  have qz := st1.sl 1 ⟨o, lo, hi, .slice a (phiN n) cap, phiN n, f⟩ rfl
  dsimp only at qz
  go_wp2_with fail
  refine (l02Null_any n _ qz hn1 hn2).mono ?_
  rw [HX.out]
  rintro e w4 ⟨rfl, bz⟩
  replace st1 := st1.keep bz
  clear bz qz e0 e1
  obtain ⟨e0, e1⟩ := (st1.box 0 (w.heap.size + 1, [.int .i64 (n : Int), .slice a' (phiN n) cap']) rfl).cell2
  have qz := st1.sl 0 ⟨o', lo', hi', .slice a' (phiN n) cap', phiN n, g⟩ rfl
  dsimp only at qz
  go_wp2_with fail
  refine (l02Null_any n _ qz hn1 hn2).mono ?_
  rw [HY.out]
  rintro e w5 ⟨rfl, bz⟩
  replace st1 := st1.keep bz
  clear bz qz e0 e1
  have BB := st1.1
  clear st1
  go_wp2
  go_ret2
  exact ⟨rfl, BB⟩

set_option maxHeartbeats 4000000 in
theorem AreAssociated_spec_zero_tf (n : Nat) (w : World) (hs : Sl o w lo hi v (phiN n) f) (ht : Sl o' w lo' hi' v' (phiN n) g) (h : CyP n (phiN n) f) (h' : CyP n (phiN n) g) (hx : zeroB (phiN n) f = true) (hy : zeroB (phiN n) g = false) :
    Calls Try.prog 103 #[.agg #[.int .i64 (n : Int), v], .agg #[.int .i64 (n : Int), v']] w fun e w' => e = .returned (.tuple #[.bool false, .int .i64 0]) ∧ Below w.heap.size w w' := by
  have hn1 : 1 ≤ n := by have := h.1; omega
  have hn2 : n ≤ 16 := by have := h.2.1; omega
  have hp := phi_le12 n hn2 hn1
  have hp0 := phiN_pos n (by omega) hn1
  have HC := Lib.hid (pairC_ok h h' rfl)
  have HCX := Lib.hid h
  have HCY := Lib.hid h'
  have HX := Lib.hid hx
  have HY := Lib.hid hy
  clear h h' hx hy
  obtain ⟨a, cap, rfl⟩ := hs.shape
  obtain ⟨a', cap', rfl⟩ := ht.shape
  have hhs := hs.size
  have hht := ht.size
  have st0 := (((((St.start w).addSl ⟨o, lo, hi, .slice a (phiN n) cap, (phiN n), f⟩ hs).addSl ⟨o', lo', hi', .slice a' (phiN n) cap', (phiN n), g⟩ ht).alloc (.cells #[.int .i64 (n : Int), .slice a (phiN n) cap] 26)).addBox w.heap.size [.int .i64 (n : Int), .slice a (phiN n) cap] (Box.made _ _ _ _ (fun j v h => by simpa using h)))
  replace st0 := (st0.alloc (.cells #[.int .i64 (n : Int), .slice a' (phiN n) cap'] 26)).addBox _ [.int .i64 (n : Int), .slice a' (phiN n) cap'] (Box.made _ _ _ _ (fun j v h => by simpa using h))
  simp only [World.size_alloc] at st0
  have q0 := st0.sl 1 ⟨o, lo, hi, .slice a (phiN n) cap, (phiN n), f⟩ rfl
  have q1 := st0.sl 0 ⟨o', lo', hi', .slice a' (phiN n) cap', (phiN n), g⟩ rfl
  dsimp only at q0 q1
  obtain ⟨x0, x1⟩ := (st0.box 1 (w.heap.size, [.int .i64 (n : Int), .slice a (phiN n) cap]) rfl).cell2
  obtain ⟨y0, y1⟩ := (st0.box 0 (w.heap.size + 1, [.int .i64 (n : Int), .slice a' (phiN n) cap']) rfl).cell2
  clear hs ht
  go_enter Try.func103, Try.ntmps103
  go_wp2_with fail
  refine (l01Like_any _ _ _ q0 q1).mono ?_
  rw [HC.out]
  rintro e w1 ⟨rfl, b1⟩
  clear q0 q1 x0 x1 y0 y1
  have st1 := st0.keep b1
  clear st0 b1
  obtain ⟨e0, e1⟩ := (st1.box 1 (w.heap.size, [.int .i64 (n : Int), .slice a (phiN n) cap]) rfl).cell2
  have qz := st1.sl 1 ⟨o, lo, hi, .slice a (phiN n) cap, phiN n, f⟩ rfl
  dsimp only at qz
  go_wp2_with fail
  refine (l02Null_any n _ qz hn1 hn2).mono ?_
  rw [HX.out]
  rintro e w2 ⟨rfl, bz⟩
  replace st1 := st1.keep bz
  clear bz qz e0 e1
  obtain ⟨e0, e1⟩ := (st1.box 1 (w.heap.size, [.int .i64 (n : Int), .slice a (phiN n) cap]) rfl).cell2
  have qz := st1.sl 1 ⟨o, lo, hi, .slice a (phiN n) cap, phiN n, f⟩ rfl
  dsimp only at qz
  go_wp2_with fail
  refine (l02Null_any n _ qz hn1 hn2).mono ?_
  rw [HX.out]
  rintro e w4 ⟨rfl, bz⟩
  replace st1 := st1.keep bz
  clear bz qz e0 e1
  obtain ⟨e0, e1⟩ := (st1.box 0 (w.heap.size + 1, [.int .i64 (n : Int), .slice a' (phiN n) cap']) rfl).cell2
  have qz := st1.sl 0 ⟨o', lo', hi', .slice a' (phiN n) cap', phiN n, g⟩ rfl
  dsimp only at qz
  go_wp2_with fail
  refine (l02Null_any n _ qz hn1 hn2).mono ?_
  rw [HY.out]
  rintro e w5 ⟨rfl, bz⟩
  replace st1 := st1.keep bz
  clear bz qz e0 e1
  have BB := st1.1
  clear st1
  go_wp2
  go_ret2
  exact ⟨rfl, BB⟩

set_option maxHeartbeats 4000000 in
theorem AreAssociated_spec_zero_ft (n : Nat) (w : World) (hs : Sl o w lo hi v (phiN n) f) (ht : Sl o' w lo' hi' v' (phiN n) g) (h : CyP n (phiN n) f) (h' : CyP n (phiN n) g) (hx : zeroB (phiN n) f = false) (hy : zeroB (phiN n) g = true) :
    Calls Try.prog 103 #[.agg #[.int .i64 (n : Int), v], .agg #[.int .i64 (n : Int), v']] w fun e w' => e = .returned (.tuple #[.bool false, .int .i64 0]) ∧ Below w.heap.size w w' := by
  have hn1 : 1 ≤ n := by have := h.1; omega
  have hn2 : n ≤ 16 := by have := h.2.1; omega
  have hp := phi_le12 n hn2 hn1
  have hp0 := phiN_pos n (by omega) hn1
  have HC := Lib.hid (pairC_ok h h' rfl)
  have HCX := Lib.hid h
  have HCY := Lib.hid h'
  have HX := Lib.hid hx
  have HY := Lib.hid hy
  clear h h' hx hy
  obtain ⟨a, cap, rfl⟩ := hs.shape
  obtain ⟨a', cap', rfl⟩ := ht.shape
  have hhs := hs.size
  have hht := ht.size
  have st0 := (((((St.start w).addSl ⟨o, lo, hi, .slice a (phiN n) cap, (phiN n), f⟩ hs).addSl ⟨o', lo', hi', .slice a' (phiN n) cap', (phiN n), g⟩ ht).alloc (.cells #[.int .i64 (n : Int), .slice a (phiN n) cap] 26)).addBox w.heap.size [.int .i64 (n : Int), .slice a (phiN n) cap] (Box.made _ _ _ _ (fun j v h => by simpa using h)))
  replace st0 := (st0.alloc (.cells #[.int .i64 (n : Int), .slice a' (phiN n) cap'] 26)).addBox _ [.int .i64 (n : Int), .slice a' (phiN n) cap'] (Box.made _ _ _ _ (fun j v h => by simpa using h))
  simp only [World.size_alloc] at st0
  have q0 := st0.sl 1 ⟨o, lo, hi, .slice a (phiN n) cap, (phiN n), f⟩ rfl
  have q1 := st0.sl 0 ⟨o', lo', hi', .slice a' (phiN n) cap', (phiN n), g⟩ rfl
  dsimp only at q0 q1
  obtain ⟨x0, x1⟩ := (st0.box 1 (w.heap.size, [.int .i64 (n : Int), .slice a (phiN n) cap]) rfl).cell2
  obtain ⟨y0, y1⟩ := (st0.box 0 (w.heap.size + 1, [.int .i64 (n : Int), .slice a' (phiN n) cap']) rfl).cell2
  clear hs ht
  go_enter Try.func103, Try.ntmps103
  go_wp2_with fail
  refine (l01Like_any _ _ _ q0 q1).mono ?_
  rw [HC.out]
  rintro e w1 ⟨rfl, b1⟩
  clear q0 q1 x0 x1 y0 y1
  have st1 := st0.keep b1
  clear st0 b1
  obtain ⟨e0, e1⟩ := (st1.box 1 (w.heap.size, [.int .i64 (n : Int), .slice a (phiN n) cap]) rfl).cell2
  have qz := st1.sl 1 ⟨o, lo, hi, .slice a (phiN n) cap, phiN n, f⟩ rfl
  dsimp only at qz
  go_wp2_with fail
  refine (l02Null_any n _ qz hn1 hn2).mono ?_
  rw [HX.out]
  rintro e w2 ⟨rfl, bz⟩
  replace st1 := st1.keep bz
  clear bz qz e0 e1
  obtain ⟨e0, e1⟩ := (st1.box 0 (w.heap.size + 1, [.int .i64 (n : Int), .slice a' (phiN n) cap']) rfl).cell2
  have qz := st1.sl 0 ⟨o', lo', hi', .slice a' (phiN n) cap', phiN n, g⟩ rfl
  dsimp only at qz
  go_wp2_with fail
  refine (l02Null_any n _ qz hn1 hn2).mono ?_
  rw [HY.out]
  rintro e w3 ⟨rfl, bz⟩
  replace st1 := st1.keep bz
  clear bz qz e0 e1
  obtain ⟨e0, e1⟩ := (st1.box 1 (w.heap.size, [.int .i64 (n : Int), .slice a (phiN n) cap]) rfl).cell2
  have qz := st1.sl 1 ⟨o, lo, hi, .slice a (phiN n) cap, phiN n, f⟩ rfl
  dsimp only at qz
  go_wp2_with fail
  refine (l02Null_any n _ qz hn1 hn2).mono ?_
  rw [HX.out]
  rintro e w4 ⟨rfl, bz⟩
  replace st1 := st1.keep bz
  clear bz qz e0 e1
  have BB := st1.1
  clear st1
  go_wp2
  go_ret2
  exact ⟨rfl, BB⟩

set_option maxRecDepth 100000 in
set_option maxHeartbeats 4000000 in
theorem AreAssociated_spec_any (n : Nat) (w : World) (hs : Sl o w lo hi v (phiN n) f) (ht : Sl o' w lo' hi' v' (phiN n) g) (h : CyP n (phiN n) f) (h' : CyP n (phiN n) g) (hx : zeroB (phiN n) f = false) (hy : zeroB (phiN n) g = false) :
    Calls Try.prog 103 #[.agg #[.int .i64 (n : Int), v], .agg #[.int .i64 (n : Int), v']] w fun e w' => e = .returned (.tuple #[.bool (assoB (dvCode n f g) (dvCode n g f)), .int .i64 (assoC (dvCode n f g) (dvCode n g f))]) ∧ Below w.heap.size w w' := by
  have hn1 : 1 ≤ n := by have := h.1; omega
  have hn2 : n ≤ 16 := by have := h.2.1; omega
  have hp := phi_le12 n hn2 hn1
  have hp0 := phiN_pos n (by omega) hn1
  have HC := Lib.hid (pairC_ok h h' rfl)
  have HCX := Lib.hid h
  have HCY := Lib.hid h'
  have HX := Lib.hid hx
  have HY := Lib.hid hy
  clear h h' hx hy
  obtain ⟨a, cap, rfl⟩ := hs.shape
  obtain ⟨a', cap', rfl⟩ := ht.shape
  have hhs := hs.size
  have hht := ht.size
  have st0 := (((((St.start w).addSl ⟨o, lo, hi, .slice a (phiN n) cap, (phiN n), f⟩ hs).addSl ⟨o', lo', hi', .slice a' (phiN n) cap', (phiN n), g⟩ ht).alloc (.cells #[.int .i64 (n : Int), .slice a (phiN n) cap] 26)).addBox w.heap.size [.int .i64 (n : Int), .slice a (phiN n) cap] (Box.made _ _ _ _ (fun j v h => by simpa using h)))
  replace st0 := (st0.alloc (.cells #[.int .i64 (n : Int), .slice a' (phiN n) cap'] 26)).addBox _ [.int .i64 (n : Int), .slice a' (phiN n) cap'] (Box.made _ _ _ _ (fun j v h => by simpa using h))
  simp only [World.size_alloc] at st0
  have q0 := st0.sl 1 ⟨o, lo, hi, .slice a (phiN n) cap, (phiN n), f⟩ rfl
  have q1 := st0.sl 0 ⟨o', lo', hi', .slice a' (phiN n) cap', (phiN n), g⟩ rfl
  dsimp only at q0 q1
  obtain ⟨x0, x1⟩ := (st0.box 1 (w.heap.size, [.int .i64 (n : Int), .slice a (phiN n) cap]) rfl).cell2
  obtain ⟨y0, y1⟩ := (st0.box 0 (w.heap.size + 1, [.int .i64 (n : Int), .slice a' (phiN n) cap']) rfl).cell2
  clear hs ht
  go_enter Try.func103, Try.ntmps103
  go_wp2_with fail
  refine (l01Like_any _ _ _ q0 q1).mono ?_
  rw [HC.out]
  rintro e w1 ⟨rfl, b1⟩
  clear q0 q1 x0 x1 y0 y1
  have st1 := st0.keep b1
  clear st0 b1
  obtain ⟨e0, e1⟩ := (st1.box 1 (w.heap.size, [.int .i64 (n : Int), .slice a (phiN n) cap]) rfl).cell2
  have qz := st1.sl 1 ⟨o, lo, hi, .slice a (phiN n) cap, phiN n, f⟩ rfl
  dsimp only at qz
  go_wp2_with fail
  refine (l02Null_any n _ qz hn1 hn2).mono ?_
  rw [HX.out]
  rintro e w2 ⟨rfl, bz⟩
  replace st1 := st1.keep bz
  clear bz qz e0 e1
  obtain ⟨e0, e1⟩ := (st1.box 0 (w.heap.size + 1, [.int .i64 (n : Int), .slice a' (phiN n) cap']) rfl).cell2
  have qz := st1.sl 0 ⟨o', lo', hi', .slice a' (phiN n) cap', phiN n, g⟩ rfl
  dsimp only at qz
  go_wp2_with fail
  refine (l02Null_any n _ qz hn1 hn2).mono ?_
  rw [HY.out]
  rintro e w3 ⟨rfl, bz⟩
  replace st1 := st1.keep bz
  clear bz qz e0 e1
  obtain ⟨x0, x1⟩ := (st1.box 1 (w.heap.size, [.int .i64 (n : Int), .slice a (phiN n) cap]) rfl).cell2
  obtain ⟨y0, y1⟩ := (st1.box 0 (w.heap.size + 1, [.int .i64 (n : Int), .slice a' (phiN n) cap']) rfl).cell2
  have qx := st1.sl 1 ⟨o, lo, hi, .slice a (phiN n) cap, phiN n, f⟩ rfl
  have qy := st1.sl 0 ⟨o', lo', hi', .slice a' (phiN n) cap', phiN n, g⟩ rfl
  dsimp only at qx qy
  go_wp2_with fail
  refine (div_code (l02Divide_any n _ qx qy HCX.out HCY.out HY.out)).mono ?_
  rintro e w6 ⟨r6, a6, k6, c6, rfl, b6⟩
  have st2 := (st1.keep b6).alloc (.cells #[.int .i64 r6, .slice a6 k6 c6] 26)
  clear st1 b6 x0 x1 y0 y1 qx qy
  obtain ⟨x0, x1⟩ := (st2.box 1 (w.heap.size, [.int .i64 (n : Int), .slice a (phiN n) cap]) rfl).cell2
  obtain ⟨y0, y1⟩ := (st2.box 0 (w.heap.size + 1, [.int .i64 (n : Int), .slice a' (phiN n) cap']) rfl).cell2
  have qx := st2.sl 1 ⟨o, lo, hi, .slice a (phiN n) cap, phiN n, f⟩ rfl
  have qy := st2.sl 0 ⟨o', lo', hi', .slice a' (phiN n) cap', phiN n, g⟩ rfl
  dsimp only at qx qy
  go_wp2_with fail
  refine (div_code (l02Divide_any n _ qy qx HCY.out HCX.out HX.out)).mono ?_
  rintro e w7 ⟨r7, a7, k7, c7, rfl, b7⟩
  have BB := ((st2.keep b7).alloc (.cells #[.int .i64 r7, .slice a7 k7 c7] 26)).1
  clear st2 b7 x0 x1 y0 y1 qx qy
  rcases dvCode_cases n f g with c1 | c1 | c1 <;> rcases dvCode_cases n g f with c2 | c2 | c2 <;>
    (have C1 := Lib.hid c1
     have C2 := Lib.hid c2
     rw [C1.out, C2.out]
     clear c1 c2
     go_wp2
     go_ret2
     exact ⟨by rw [C1.out, C2.out]; rfl, BB⟩)

end
end

section
open Go.RowKit Go.ChangeShapes Go.Sort
set_option linter.unusedVariables false
set_option linter.unusedSimpArgs false

section
variable {o o' : Bool} {lo hi lo' hi' n m : Nat} {v v' : Value} {f g : Nat → Int}
theorem DivideCyclos_spec_bad (x y c : Int) (w : World) (hs : Sl o w lo hi v n f) (ht : Sl o' w lo' hi' v' m g) (hc : pairC x y n m f g = c) (hc0 : c ≠ 0) :
    Calls Try.prog 94 #[.agg #[.int .i64 x, v], .agg #[.int .i64 y, v']] w fun e w' => e = .returned (failV c) ∧ Below w.heap.size w w' := by
  have HC := Lib.hid hc
  clear hc
  have hb : (c != 0) = true := by simpa using hc0
  have hb' : (c == 0) = false := by simpa using hc0
  obtain ⟨a, cap, rfl⟩ := hs.shape
  obtain ⟨a', cap', rfl⟩ := ht.shape
  have st0 := (((((St.start w).addSl ⟨o, lo, hi, .slice a n cap, n, f⟩ hs).addSl ⟨o', lo', hi', .slice a' m cap', m, g⟩ ht).alloc (.cells #[.int .i64 x, .slice a n cap] 26)).addBox w.heap.size [.int .i64 x, .slice a n cap] (Box.made _ _ _ _ (fun j v h => by simpa using h)))
  replace st0 := (st0.alloc (.cells #[.int .i64 y, .slice a' m cap'] 26)).addBox _ [.int .i64 y, .slice a' m cap'] (Box.made _ _ _ _ (fun j v h => by simpa using h))
  replace st0 := (st0.alloc (.cells #[.int .i64 0, .slice none 0 0] 26)).addBox _ [.int .i64 0, .slice none 0 0] (Box.made _ _ _ _ (fun j v h => by simpa using h))
  simp only [World.size_alloc] at st0
  clear hs ht
  have q0 := st0.sl 1 ⟨o, lo, hi, .slice a n cap, n, f⟩ rfl
  have q1 := st0.sl 0 ⟨o', lo', hi', .slice a' m cap', m, g⟩ rfl
  dsimp only at q0 q1
  obtain ⟨x0, x1⟩ := (st0.box 2 (w.heap.size, [.int .i64 x, .slice a n cap]) rfl).cell2
  obtain ⟨y0, y1⟩ := (st0.box 1 (w.heap.size + 1, [.int .i64 y, .slice a' m cap']) rfl).cell2
  go_enter Try.func94, Try.ntmps94
  go_wp2_with fail
  refine (l01Like_any _ _ _ q0 q1).mono ?_
  rw [HC.out]
  rintro e w1 ⟨rfl, b1⟩
  clear q0 q1 x0 x1 y0 y1
  have st1 := st0.keep b1
  have hz_w1 := b1.size
  try simp only [World.size_alloc] at hz_w1
  clear st0 b1
  obtain ⟨d0, d1⟩ := (st1.box 0 _ rfl).cell2
  have dz := (st1.box 0 _ rfl).2.2
  have BB := st1.1
  dsimp only at dz
  go_wp2
  refine bodyPost_ret (v := failV c) (by simp [results, Try.results94, go_sem, failV, d0, d1]) rfl ?_
  exact ⟨rfl, by go_grown⟩

set_option maxRecDepth 100000 in
set_option maxHeartbeats 4000000 in
theorem DivideCyclos_spec_zero (n : Nat) (w : World) (hs : Sl o w lo hi v (phiN n) f) (ht : Sl o' w lo' hi' v' (phiN n) g) (h : CyP n (phiN n) f) (h' : CyP n (phiN n) g) (hz : zeroB (phiN n) g = true) :
    Calls Try.prog 94 #[.agg #[.int .i64 (n : Int), v], .agg #[.int .i64 (n : Int), v']] w fun e w' => e = .returned (failV 5) ∧ Below w.heap.size w w' := by
  have hn1 : 1 ≤ n := by have := h.1; omega
  have hn2 : n ≤ 16 := by have := h.2.1; omega
  have HC := Lib.hid (pairC_ok h h' rfl)
  have HCX := Lib.hid h
  have HCY := Lib.hid h'
  have HZ := Lib.hid hz
  clear h h' hz
  have hhs := hs.size
  have hht := ht.size
  obtain ⟨a, cap, rfl⟩ := hs.shape
  obtain ⟨a', cap', rfl⟩ := ht.shape
  have st0 := (((((St.start w).addSl ⟨o, lo, hi, .slice a (phiN n) cap, phiN n, f⟩ hs).addSl ⟨o', lo', hi', .slice a' (phiN n) cap', phiN n, g⟩ ht).alloc (.cells #[.int .i64 (n : Int), .slice a (phiN n) cap] 26)).addBox w.heap.size [.int .i64 (n : Int), .slice a (phiN n) cap] (Box.made _ _ _ _ (fun j v h => by simpa using h)))
  replace st0 := (st0.alloc (.cells #[.int .i64 (n : Int), .slice a' (phiN n) cap'] 26)).addBox _ [.int .i64 (n : Int), .slice a' (phiN n) cap'] (Box.made _ _ _ _ (fun j v h => by simpa using h))
  replace st0 := (st0.alloc (.cells #[.int .i64 0, .slice none 0 0] 26)).addBox _ [.int .i64 0, .slice none 0 0] (Box.made _ _ _ _ (fun j v h => by simpa using h))
  simp only [World.size_alloc] at st0
  clear hs ht
  have q0 := st0.sl 1 ⟨o, lo, hi, .slice a (phiN n) cap, phiN n, f⟩ rfl
  have q1 := st0.sl 0 ⟨o', lo', hi', .slice a' (phiN n) cap', phiN n, g⟩ rfl
  dsimp only at q0 q1
  obtain ⟨x0, x1⟩ := (st0.box 2 (w.heap.size, [.int .i64 (n : Int), .slice a (phiN n) cap]) rfl).cell2
  obtain ⟨y0, y1⟩ := (st0.box 1 (w.heap.size + 1, [.int .i64 (n : Int), .slice a' (phiN n) cap']) rfl).cell2
  go_enter Try.func94, Try.ntmps94
  go_wp2_with fail
  refine (l01Like_any _ _ _ q0 q1).mono ?_
  rw [HC.out]
  rintro e w1 ⟨rfl, b1⟩
  clear q0 q1 x0 x1 y0 y1
  have st1 := st0.keep b1
  have hz_w1 := b1.size
  try simp only [World.size_alloc] at hz_w1
  clear st0 b1
  obtain ⟨y0, y1⟩ := (st1.box 1 (w.heap.size + 1, [.int .i64 (n : Int), .slice a' (phiN n) cap']) rfl).cell2
  have q1 := st1.sl 0 ⟨o', lo', hi', .slice a' (phiN n) cap', phiN n, g⟩ rfl
  dsimp only at q1
  go_wp2_with fail
  refine (l02Null_any n _ q1 hn1 hn2).mono ?_
  rw [HZ.out]
  rintro e w2 ⟨rfl, b2⟩
  clear q1 y0 y1
  have st2 := st1.keep b2
  have hz_w2 := b2.size
  clear st1 b2
  obtain ⟨d0, d1⟩ := (st2.box 0 _ rfl).cell2
  have dz := (st2.box 0 _ rfl).2.2
  have BB := st2.1
  dsimp only at dz
  go_wp2
  refine bodyPost_ret (v := failV 5) (by simp [results, Try.results94, go_sem, failV, d0, d1]) rfl ?_
  exact ⟨rfl, by go_grown⟩

set_option maxRecDepth 100000 in
set_option maxHeartbeats 4000000 in
theorem DivideCyclos_spec_any (n : Nat) (w : World) (hs : Sl o w lo hi v (phiN n) f) (ht : Sl o' w lo' hi' v' (phiN n) g) (h : CyP n (phiN n) f) (h' : CyP n (phiN n) g) (hz : zeroB (phiN n) g = false) :
    Calls Try.prog 94 #[.agg #[.int .i64 (n : Int), v], .agg #[.int .i64 (n : Int), v']] w fun e w' => ((dvOk n f g ∧ divTo (dvZ n f g) (dvN n g) (phiN n) ∧ ∃ a9 k9, e = .returned (.tuple #[.agg #[.int .i64 (n : Int), .slice a9 (phiN n) k9], .int .i64 0]) ∧ Sl true w' w.heap.size w'.heap.size (.slice a9 (phiN n) k9) (phiN n) (quoZ (dvZ n f g) (dvN n g))) ∨ (dvOk n f g ∧ ¬ divTo (dvZ n f g) (dvN n g) (phiN n) ∧ e = .returned (failV 4)) ∨ (¬ dvOk n f g ∧ e = .returned (failV 3))) ∧ Below w.heap.size w w' := by
  have hn1 : 1 ≤ n := by have := h.1; omega
  have hn2 : n ≤ 16 := by have := h.2.1; omega
  have HC := Lib.hid (pairC_ok h h' rfl)
  have HCX := Lib.hid h
  have HCY := Lib.hid h'
  have HZ := Lib.hid hz
  clear h h' hz
  have hhs := hs.size
  have hht := ht.size
  obtain ⟨a, cap, rfl⟩ := hs.shape
  obtain ⟨a', cap', rfl⟩ := ht.shape
  have st0 := (((((St.start w).addSl ⟨o, lo, hi, .slice a (phiN n) cap, phiN n, f⟩ hs).addSl ⟨o', lo', hi', .slice a' (phiN n) cap', phiN n, g⟩ ht).alloc (.cells #[.int .i64 (n : Int), .slice a (phiN n) cap] 26)).addBox w.heap.size [.int .i64 (n : Int), .slice a (phiN n) cap] (Box.made _ _ _ _ (fun j v h => by simpa using h)))
  replace st0 := (st0.alloc (.cells #[.int .i64 (n : Int), .slice a' (phiN n) cap'] 26)).addBox _ [.int .i64 (n : Int), .slice a' (phiN n) cap'] (Box.made _ _ _ _ (fun j v h => by simpa using h))
  replace st0 := (st0.alloc (.cells #[.int .i64 0, .slice none 0 0] 26)).addBox _ [.int .i64 0, .slice none 0 0] (Box.made _ _ _ _ (fun j v h => by simpa using h))
  simp only [World.size_alloc] at st0
  clear hs ht
  have q0 := st0.sl 1 ⟨o, lo, hi, .slice a (phiN n) cap, phiN n, f⟩ rfl
  have q1 := st0.sl 0 ⟨o', lo', hi', .slice a' (phiN n) cap', phiN n, g⟩ rfl
  dsimp only at q0 q1
  obtain ⟨x0, x1⟩ := (st0.box 2 (w.heap.size, [.int .i64 (n : Int), .slice a (phiN n) cap]) rfl).cell2
  obtain ⟨y0, y1⟩ := (st0.box 1 (w.heap.size + 1, [.int .i64 (n : Int), .slice a' (phiN n) cap']) rfl).cell2
  go_enter Try.func94, Try.ntmps94
  go_wp2_with fail
  refine (l01Like_any _ _ _ q0 q1).mono ?_
  rw [HC.out]
  rintro e w1 ⟨rfl, b1⟩
  clear q0 q1 x0 x1 y0 y1
  have st1 := st0.keep b1
  have hz_w1 := b1.size
  try simp only [World.size_alloc] at hz_w1
  clear st0 b1
  obtain ⟨y0, y1⟩ := (st1.box 1 (w.heap.size + 1, [.int .i64 (n : Int), .slice a' (phiN n) cap']) rfl).cell2
  have q1 := st1.sl 0 ⟨o', lo', hi', .slice a' (phiN n) cap', phiN n, g⟩ rfl
  dsimp only at q1
  go_wp2_with fail
  refine (l02Null_any n _ q1 hn1 hn2).mono ?_
  rw [HZ.out]
  rintro e w2 ⟨rfl, b2⟩
  clear q1 y0 y1
  have st2 := st1.keep b2
  have hz_w2 := b2.size
  clear st1 b2
  obtain ⟨x0, x1⟩ := (st2.box 2 (w.heap.size, [.int .i64 (n : Int), .slice a (phiN n) cap]) rfl).cell2
  obtain ⟨y0, y1⟩ := (st2.box 1 (w.heap.size + 1, [.int .i64 (n : Int), .slice a' (phiN n) cap']) rfl).cell2
  have qx := st2.sl 1 ⟨o, lo, hi, .slice a (phiN n) cap, phiN n, f⟩ rfl
  have qy := st2.sl 0 ⟨o', lo', hi', .slice a' (phiN n) cap', phiN n, g⟩ rfl
  dsimp only at qx qy
  go_wp2_with fail
  refine (l02Divide_any n _ qx qy HCX.out HCY.out HZ.out).mono ?_
  rintro e w3 ⟨hd, b3⟩
  clear qx qy x0 x1 y0 y1
  rcases hd with ⟨hok, hd, a9, k9, rfl, s9⟩ | ⟨hok, hd, rfl⟩ | ⟨hok, rfl⟩
  · have HOK := Lib.hid hok
    have HD := Lib.hid hd
    clear hok hd
    have ST4 := (st2.keep b3).boxNew (.int .i64 (n : Int)) (.slice a9 (phiN n) k9) 26
    obtain ⟨u0, u1⟩ := (ST4.box 0 (w3.heap.size, [.int .i64 (n : Int), .slice a9 (phiN n) k9]) rfl).cell2
    obtain ⟨d0, d1⟩ := (ST4.box 1 (w.heap.size + 1 + 1, [.int .i64 0, .slice none 0 0]) rfl).cell2
    have dz := (ST4.box 1 (w.heap.size + 1 + 1, [.int .i64 0, .slice none 0 0]) rfl).2.2
    have dl := (ST4.box 1 (w.heap.size + 1 + 1, [.int .i64 0, .slice none 0 0]) rfl).1
    have BB := ST4.1
    dsimp only at dz dl
    have S9 := Lib.hid (s9.alloc (.cells #[.int .i64 (n : Int), .slice a9 (phiN n) k9] 26))
    have hz9 := b3.size
    clear ST4 st2 b3 s9

    go_wp2
    refine bodyPost_ret (v := .tuple #[.agg #[.int .i64 (n : Int), .slice a9 (phiN n) k9], .int .i64 0]) (by simp [results, Try.results94, go_sem, d0, d1]) rfl ?_
    refine ⟨.inl ⟨HOK.out, HD.out, _, _, rfl, ?_⟩, by go_grown⟩
    exact ((S9.out.setOther (.inl (by show w.heap.size + 1 + 1 < w2.heap.size; omega)) _).setOther (.inl (by show w.heap.size + 1 + 1 < w2.heap.size; omega)) _).wide (by omega) (by simp) (Nat.le_refl _)
  · have HOK := Lib.hid hok
    have HD := Lib.hid hd
    clear hok hd
    have ST4 := (st2.keep b3).boxNew (.int .i64 0) (.slice none 0 0) 26
    obtain ⟨u0, u1⟩ := (ST4.box 0 (w3.heap.size, [.int .i64 0, .slice none 0 0]) rfl).cell2
    obtain ⟨d0, d1⟩ := (ST4.box 1 (w.heap.size + 1 + 1, [.int .i64 0, .slice none 0 0]) rfl).cell2
    have dz := (ST4.box 1 (w.heap.size + 1 + 1, [.int .i64 0, .slice none 0 0]) rfl).2.2
    have dl := (ST4.box 1 (w.heap.size + 1 + 1, [.int .i64 0, .slice none 0 0]) rfl).1
    have BB := ST4.1
    dsimp only at dz dl
    clear ST4 st2 b3
    unfold failV
    go_wp2
    refine bodyPost_ret (v := failV 4) (by simp [results, Try.results94, go_sem, failV, d0, d1]) rfl ?_
    exact ⟨.inr (.inl ⟨HOK.out, HD.out, rfl⟩), by go_grown⟩
  · have HOK := Lib.hid hok
    clear hok
    have ST4 := (st2.keep b3).boxNew (.int .i64 0) (.slice none 0 0) 26
    obtain ⟨u0, u1⟩ := (ST4.box 0 (w3.heap.size, [.int .i64 0, .slice none 0 0]) rfl).cell2
    obtain ⟨d0, d1⟩ := (ST4.box 1 (w.heap.size + 1 + 1, [.int .i64 0, .slice none 0 0]) rfl).cell2
    have dz := (ST4.box 1 (w.heap.size + 1 + 1, [.int .i64 0, .slice none 0 0]) rfl).2.2
    have dl := (ST4.box 1 (w.heap.size + 1 + 1, [.int .i64 0, .slice none 0 0]) rfl).1
    have BB := ST4.1
    dsimp only at dz dl
    clear ST4 st2 b3
    unfold failV
    go_wp2
    refine bodyPost_ret (v := failV 3) (by simp [results, Try.results94, go_sem, failV, d0, d1]) rfl ?_
    exact ⟨.inr (.inr ⟨HOK.out, rfl⟩), by go_grown⟩
end
end

section
open Go.RowKit Go.ChangeShapes Go.Sort
set_option linter.unusedVariables false
set_option linter.unusedSimpArgs false

theorem unit_dec (y : Int) : decide (y = 1 ∨ y = -1) = (if y = 1 then true else (y == -1)) := by
  by_cases h : y = 1
  · rw [if_pos h]; exact decide_eq_true (.inl h)
  · rw [if_neg h]
    by_cases h2 : y = -1
    · rw [decide_eq_true (.inr h2)]; exact (beq_iff_eq.2 h2).symm
    · rw [decide_eq_false (fun h3 => h3.elim h h2)]; exact (beq_eq_false_iff_ne.2 h2).symm
section
variable {o : Bool} {lo hi L : Nat} {v : Value} {f : Nat → Int}
set_option maxHeartbeats 1000000 in
theorem IsUnit_impl_bad (x : Int) (w : World) (hs : Sl o w lo hi v L f) (h : ¬ CyP x L f) :
    Calls Try.prog 96 #[.agg #[.int .i64 x, v]] w fun e w' => e = .returned (.tuple #[.bool false, .int .i64 1]) ∧ Below w.heap.size w w' := by
  obtain ⟨av, cap, rfl⟩ := hs.shape
  have st0 := ((((St.start w).addSl ⟨o, lo, hi, .slice av L cap, L, f⟩ hs).alloc (.cells #[.int .i64 x, .slice av L cap] 26)).addBox w.heap.size [.int .i64 x, .slice av L cap] (Box.made _ _ _ _ (fun j v h => by simpa using h)))
  have q0 := st0.sl 0 ⟨o, lo, hi, .slice av L cap, L, f⟩ rfl
  dsimp only at q0
  have HC := Lib.hid h
  clear h hs
  go_enter Try.func96, Try.ntmps96
  go_wp2_with fail
  refine (NormOf_impl_bad x _ q0 HC.out).mono ?_
  rintro e w1 ⟨rfl, b1⟩
  have BB := (st0.keep b1).1
  clear st0 b1 q0
  go_wp2
  go_ret2
  exact ⟨rfl, BB⟩

set_option maxHeartbeats 1000000 in
theorem IsUnit_impl_ok (n : Nat) (w : World) (hs : Sl o w lo hi v L f) (h : CyP n L f) (hk : prOk n L f 0 (phiN n)) :
    Calls Try.prog 96 #[.agg #[.int .i64 (n : Int), v]] w fun e w' => e = .returned (.tuple #[.bool (decide (prI n L f 0 (phiN n) 0 = 1 ∨ prI n L f 0 (phiN n) 0 = -1)), .int .i64 0]) ∧ Below w.heap.size w w' := by
  obtain ⟨av, cap, rfl⟩ := hs.shape
  have st0 := ((((St.start w).addSl ⟨o, lo, hi, .slice av L cap, L, f⟩ hs).alloc (.cells #[.int .i64 (n : Int), .slice av L cap] 26)).addBox w.heap.size [.int .i64 (n : Int), .slice av L cap] (Box.made _ _ _ _ (fun j v h => by simpa using h)))
  have q0 := st0.sl 0 ⟨o, lo, hi, .slice av L cap, L, f⟩ rfl
  dsimp only at q0
  have HC := Lib.hid h
  have HK := Lib.hid hk
  clear h hs hk
  go_enter Try.func96, Try.ntmps96
  go_wp2_with fail
  refine (NormOf_impl_ok n _ q0 HC.out HK.out).mono ?_
  rintro e w1 ⟨rfl, b1⟩
  have BB := (st0.keep b1).1
  clear st0 b1 q0
  have HU := Lib.hid (unit_dec (prI n L f 0 (phiN n) 0))
  by_cases hy : prI n L f 0 (phiN n) 0 = 1
  · have hb : (prI n L f 0 (phiN n) 0 == 1) = true := beq_iff_eq.2 hy
    have HY := Lib.hid hy
    clear hy
    go_wp2
    go_ret2
    exact ⟨by rw [HU.out, if_pos HY.out]; try rfl, BB⟩
  · have hb : (prI n L f 0 (phiN n) 0 == 1) = false := beq_eq_false_iff_ne.2 hy
    have HY := Lib.hid hy
    clear hy
    by_cases hy2 : prI n L f 0 (phiN n) 0 = -1
    · have hb2 : (prI n L f 0 (phiN n) 0 == -1) = true := beq_iff_eq.2 hy2
      clear hy2
      have HB := Lib.hid hb2
      go_wp2
      go_ret2
      exact ⟨by rw [HU.out, if_neg HY.out, HB.out]; try rfl, BB⟩
    · have hb2 : (prI n L f 0 (phiN n) 0 == -1) = false := beq_eq_false_iff_ne.2 hy2
      clear hy2
      have HB := Lib.hid hb2
      go_wp2
      go_ret2
      exact ⟨by rw [HU.out, if_neg HY.out, HB.out]; try rfl, BB⟩

set_option maxHeartbeats 1000000 in
theorem IsUnit_impl_big (n : Nat) (w : World) (hs : Sl o w lo hi v L f) (h : CyP n L f) (hk : ¬ prOk n L f 0 (phiN n)) :
    Calls Try.prog 96 #[.agg #[.int .i64 (n : Int), v]] w fun e w' => e = .returned (.tuple #[.bool false, .int .i64 3]) ∧ Below w.heap.size w w' := by
  obtain ⟨av, cap, rfl⟩ := hs.shape
  have st0 := ((((St.start w).addSl ⟨o, lo, hi, .slice av L cap, L, f⟩ hs).alloc (.cells #[.int .i64 (n : Int), .slice av L cap] 26)).addBox w.heap.size [.int .i64 (n : Int), .slice av L cap] (Box.made _ _ _ _ (fun j v h => by simpa using h)))
  have q0 := st0.sl 0 ⟨o, lo, hi, .slice av L cap, L, f⟩ rfl
  dsimp only at q0
  have HC := Lib.hid h
  have HK := Lib.hid hk
  clear h hs hk
  go_enter Try.func96, Try.ntmps96
  go_wp2_with fail
  refine (NormOf_impl_big n _ q0 HC.out HK.out).mono ?_
  rintro e w1 ⟨rfl, b1⟩
  have BB := (st0.keep b1).1
  clear st0 b1 q0
  go_wp2
  go_ret2
  exact ⟨rfl, BB⟩

set_option maxHeartbeats 1000000 in
theorem IsUnit_spec_bad (x : Int) (w : World) (hs : Sl o w lo hi v L f) (h : ¬ CyP x L f) :
    Calls Try.prog 97 #[.agg #[.int .i64 x, v]] w fun e w' => e = .returned (.tuple #[.bool false, .int .i64 1]) ∧ Below w.heap.size w w' := by
  obtain ⟨av, cap, rfl⟩ := hs.shape
  have st0 := ((((St.start w).addSl ⟨o, lo, hi, .slice av L cap, L, f⟩ hs).alloc (.cells #[.int .i64 x, .slice av L cap] 26)).addBox w.heap.size [.int .i64 x, .slice av L cap] (Box.made _ _ _ _ (fun j v h => by simpa using h)))
  have q0 := st0.sl 0 ⟨o, lo, hi, .slice av L cap, L, f⟩ rfl
  dsimp only at q0
  have HC := Lib.hid h
  clear h hs
  go_enter Try.func97, Try.ntmps97
  go_wp2_with fail
  refine (NormOf_spec_bad x _ q0 HC.out).mono ?_
  rintro e w1 ⟨rfl, b1⟩
  have BB := (st0.keep b1).1
  clear st0 b1 q0
  go_wp2
  go_ret2
  exact ⟨rfl, BB⟩

set_option maxHeartbeats 1000000 in
theorem IsUnit_spec_ok (n : Nat) (w : World) (hs : Sl o w lo hi v L f) (h : CyP n L f) (hk : prOk n L f 0 (phiN n)) :
    Calls Try.prog 97 #[.agg #[.int .i64 (n : Int), v]] w fun e w' => e = .returned (.tuple #[.bool (decide (prI n L f 0 (phiN n) 0 = 1 ∨ prI n L f 0 (phiN n) 0 = -1)), .int .i64 0]) ∧ Below w.heap.size w w' := by
  obtain ⟨av, cap, rfl⟩ := hs.shape
  have st0 := ((((St.start w).addSl ⟨o, lo, hi, .slice av L cap, L, f⟩ hs).alloc (.cells #[.int .i64 (n : Int), .slice av L cap] 26)).addBox w.heap.size [.int .i64 (n : Int), .slice av L cap] (Box.made _ _ _ _ (fun j v h => by simpa using h)))
  have q0 := st0.sl 0 ⟨o, lo, hi, .slice av L cap, L, f⟩ rfl
  dsimp only at q0
  have HC := Lib.hid h
  have HK := Lib.hid hk
  clear h hs hk
  go_enter Try.func97, Try.ntmps97
  go_wp2_with fail
  refine (NormOf_spec_ok n _ q0 HC.out HK.out).mono ?_
  rintro e w1 ⟨rfl, b1⟩
  have BB := (st0.keep b1).1
  clear st0 b1 q0
  have HU := Lib.hid (unit_dec (prI n L f 0 (phiN n) 0))
  by_cases hy : prI n L f 0 (phiN n) 0 = 1
  · have hb : (prI n L f 0 (phiN n) 0 == 1) = true := beq_iff_eq.2 hy
    have HY := Lib.hid hy
    clear hy
    go_wp2
    go_ret2
    exact ⟨by rw [HU.out, if_pos HY.out]; try rfl, BB⟩
  · have hb : (prI n L f 0 (phiN n) 0 == 1) = false := beq_eq_false_iff_ne.2 hy
    have HY := Lib.hid hy
    clear hy
    by_cases hy2 : prI n L f 0 (phiN n) 0 = -1
    · have hb2 : (prI n L f 0 (phiN n) 0 == -1) = true := beq_iff_eq.2 hy2
      clear hy2
      have HB := Lib.hid hb2
      go_wp2
      go_ret2
      exact ⟨by rw [HU.out, if_neg HY.out, HB.out]; try rfl, BB⟩
    · have hb2 : (prI n L f 0 (phiN n) 0 == -1) = false := beq_eq_false_iff_ne.2 hy2
      clear hy2
      have HB := Lib.hid hb2
      go_wp2
      go_ret2
      exact ⟨by rw [HU.out, if_neg HY.out, HB.out]; try rfl, BB⟩

set_option maxHeartbeats 1000000 in
theorem IsUnit_spec_big (n : Nat) (w : World) (hs : Sl o w lo hi v L f) (h : CyP n L f) (hk : ¬ prOk n L f 0 (phiN n)) :
    Calls Try.prog 97 #[.agg #[.int .i64 (n : Int), v]] w fun e w' => e = .returned (.tuple #[.bool false, .int .i64 3]) ∧ Below w.heap.size w w' := by
  obtain ⟨av, cap, rfl⟩ := hs.shape
  have st0 := ((((St.start w).addSl ⟨o, lo, hi, .slice av L cap, L, f⟩ hs).alloc (.cells #[.int .i64 (n : Int), .slice av L cap] 26)).addBox w.heap.size [.int .i64 (n : Int), .slice av L cap] (Box.made _ _ _ _ (fun j v h => by simpa using h)))
  have q0 := st0.sl 0 ⟨o, lo, hi, .slice av L cap, L, f⟩ rfl
  dsimp only at q0
  have HC := Lib.hid h
  have HK := Lib.hid hk
  clear h hs hk
  go_enter Try.func97, Try.ntmps97
  go_wp2_with fail
  refine (NormOf_spec_big n _ q0 HC.out HK.out).mono ?_
  rintro e w1 ⟨rfl, b1⟩
  have BB := (st0.keep b1).1
  clear st0 b1 q0
  go_wp2
  go_ret2
  exact ⟨rfl, BB⟩

end
end

section
open Go.RowKit Go.ChangeShapes Go.Sort
set_option linter.unusedVariables false
set_option linter.unusedSimpArgs false

section
variable {n : Nat}
theorem pz_four (hn : n < 17) (h1 : 1 ≤ n) (a b c d : Nat → Int) {j : Nat} (hj : j < phiN n) :
    prodZ n (phiN n) (prodZ n (phiN n) a b) (prodZ n (phiN n) c d) j = prodZ n (phiN n) (prodZ n (phiN n) a c) (prodZ n (phiN n) b d) j := by
  rw [pz_assoc hn h1 a b _ hj, pz_assoc hn h1 a c _ hj]
  exact congrFun (pz_congr (fun _ _ => rfl) (fun i hi => by rw [← pz_assoc hn h1 b c d hi, ← pz_assoc hn h1 c b d hi, prodZ_comm n (phiN n) b c])) j
theorem im_congr (hn : n < 17) (h1 : 1 ≤ n) {f g : Nat → Int} (hf : Within f (phiN n) 1000000000) (hg : Within g (phiN n) 1000000000) (h : ∀ j, j < phiN n → f j = g j) (k : Nat) {j : Nat} (hj : j < phiN n) : im n (phiN n) f k j = im n (phiN n) g k j := by
  rw [im_gal hn h1 hf k hj, im_gal hn h1 hg k hj, galZ_congr h]
theorem prI_congr (hn : n < 17) (h1 : 1 ≤ n) {f g : Nat → Int} (hf : Within f (phiN n) 1000000000) (hg : Within g (phiN n) 1000000000) (h : ∀ j, j < phiN n → f j = g j) (s : Nat) : ∀ k j, j < phiN n → prI n (phiN n) f s k j = prI n (phiN n) g s k j
  | 0, _, _ => rfl
  | k + 1, j, hj => by
    show prodZ n (phiN n) (prI n (phiN n) f s k) (im n (phiN n) f (s + k)) j = prodZ n (phiN n) (prI n (phiN n) g s k) (im n (phiN n) g (s + k)) j
    rw [pz_congr (prI_congr hn h1 hf hg h s k) (fun j hj => im_congr hn h1 hf hg h (s + k) hj)]
theorem prI_mul (hn : n < 17) (h1 : 1 ≤ n) {f g : Nat → Int} (hf : Within f (phiN n) 1000000000) (hg : Within g (phiN n) 1000000000) (hh : Within (prodZ n (phiN n) f g) (phiN n) 1000000000) : ∀ k, k ≤ phiN n → ∀ j, j < phiN n →
    prI n (phiN n) (prodZ n (phiN n) f g) 0 k j = prodZ n (phiN n) (prI n (phiN n) f 0 k) (prI n (phiN n) g 0 k) j
  | 0, _, j, hj => by
    show one0 j = prodZ n (phiN n) one0 one0 j
    rw [pz_one hn h1 one0 hj]
  | k + 1, hk, j, hj => by
    have hr := res_ok n hn h1 (0 + k) (by omega)
    show prodZ n (phiN n) (prI n (phiN n) (prodZ n (phiN n) f g) 0 k) (im n (phiN n) (prodZ n (phiN n) f g) (0 + k)) j = prodZ n (phiN n) (prodZ n (phiN n) (prI n (phiN n) f 0 k) (im n (phiN n) f (0 + k))) (prodZ n (phiN n) (prI n (phiN n) g 0 k) (im n (phiN n) g (0 + k))) j
    rw [pz_congr (prI_mul hn h1 hf hg hh k (by omega)) (fun i hi => show _ = prodZ n (phiN n) (im n (phiN n) f (0 + k)) (im n (phiN n) g (0 + k)) i by
      rw [im_gal hn h1 hh _ hi, gal_prod hn h1 hr.2.1 hr.2.2 f g hi]
      rw [pz_congr (fun j hj => (im_gal hn h1 hf (0 + k) hj).symm) (fun j hj => (im_gal hn h1 hg (0 + k) hj).symm)])]
    exact pz_four hn h1 _ _ _ _ hj
theorem norm_one0 (hn : n < 17) (h1 : 1 ≤ n) {f : Nat → Int} (hf : Within f (phiN n) 1000000000) : ∀ j, j < phiN n → prI n (phiN n) f 0 (phiN n) j = prI n (phiN n) f 0 (phiN n) 0 * one0 j := fun j hj => by
  unfold one0
  by_cases h0 : j = 0
  · subst h0; rw [if_pos rfl, Int.mul_one]
  · rw [if_neg h0, Int.mul_zero, norm_flat hn h1 hf hj (by omega)]
/-- The norm of a product is the product of the norms. -/
theorem norm_mul (hn : n < 17) (h1 : 1 ≤ n) {f g : Nat → Int} (hf : Within f (phiN n) 1000000000) (hg : Within g (phiN n) 1000000000) (hh : Within (prodZ n (phiN n) f g) (phiN n) 1000000000) :
    prI n (phiN n) (prodZ n (phiN n) f g) 0 (phiN n) 0 = prI n (phiN n) f 0 (phiN n) 0 * prI n (phiN n) g 0 (phiN n) 0 := by
  have hp := phi_pos n hn h1
  rw [prI_mul hn h1 hf hg hh (phiN n) (Nat.le_refl _) 0 hp, pz_congr (norm_one0 hn h1 hf) (norm_one0 hn h1 hg), pz_smul, pz_smull, pz_one hn h1 one0 hp]
  generalize prI n (phiN n) f 0 (phiN n) 0 = A
  generalize prI n (phiN n) g 0 (phiN n) 0 = B
  show B * (A * (if 0 = 0 then 1 else 0)) = A * B
  rw [if_pos rfl, Int.mul_one, Int.mul_comm]
end
end

section
open Go.RowKit Go.ChangeShapes Go.Sort
set_option linter.unusedVariables false
set_option linter.unusedSimpArgs false

section
variable {n : Nat}
theorem im_zero (hn : n < 17) (h1 : 1 ≤ n) {f : Nat → Int} (hf : Within f (phiN n) 1000000000) {j : Nat} (hj : j < phiN n) : im n (phiN n) f 0 j = f j := by
  rw [im_gal hn h1 hf 0 hj, res_zero n hn h1, galZ_one hn h1 f hj]
/-- The norm is the number times its cofactor. -/
theorem prI_head (hn : n < 17) (h1 : 1 ≤ n) {f : Nat → Int} (hf : Within f (phiN n) 1000000000) : ∀ k, ∀ j, j < phiN n → prI n (phiN n) f 0 (k + 1) j = prodZ n (phiN n) f (prI n (phiN n) f 1 k) j
  | 0, j, hj => by
    show prodZ n (phiN n) one0 (im n (phiN n) f (0 + 0)) j = prodZ n (phiN n) f one0 j
    rw [prodZ_comm, pz_one hn h1 _ hj, pz_one hn h1 _ hj]
    exact im_zero hn h1 hf hj
  | k + 1, j, hj => by
    show prodZ n (phiN n) (prI n (phiN n) f 0 (k + 1)) (im n (phiN n) f (0 + (k + 1))) j = prodZ n (phiN n) f (prodZ n (phiN n) (prI n (phiN n) f 1 k) (im n (phiN n) f (1 + k))) j
    rw [pz_congr (prI_head hn h1 hf k) (fun _ _ => rfl), pz_assoc hn h1 _ _ _ hj, show 0 + (k + 1) = 1 + k by omega]
theorem cof_norm (hn : n < 17) (h1 : 1 ≤ n) {g : Nat → Int} (hg : Within g (phiN n) 1000000000) {j : Nat} (hj : j < phiN n) : prodZ n (phiN n) g (prI n (phiN n) g 1 (phiN n - 1)) j = dvN n g * one0 j := by
  have hp := phi_pos n hn h1
  rw [← prI_head hn h1 hg (phiN n - 1) j hj, show phiN n - 1 + 1 = phiN n by omega]
  exact norm_one0 hn h1 hg j hj
/-- A quotient leads back. -/
theorem quo_back (hn : n < 17) (h1 : 1 ≤ n) {f g : Nat → Int} (hg : Within g (phiN n) 1000000000) (h0 : dvN n g ≠ 0) (hd : divTo (dvZ n f g) (dvN n g) (phiN n)) {j : Nat} (hj : j < phiN n) :
    prodZ n (phiN n) (quoZ (dvZ n f g) (dvN n g)) g j = f j := by
  have hq : ∀ i, i < phiN n → dvN n g * quoZ (dvZ n f g) (dvN n g) i = dvZ n f g i := fun i hi => by
    unfold quoZ
    exact Int.mul_tdiv_cancel' (Int.dvd_of_tmod_eq_zero (hd i hi))
  have e1 : dvN n g * prodZ n (phiN n) (quoZ (dvZ n f g) (dvN n g)) g j = dvN n g * f j := by
    rw [← pz_smull, pz_congr hq (fun _ _ => rfl)]
    unfold dvZ
    rw [pz_assoc hn h1 f _ g hj, prodZ_comm n (phiN n) _ g, pz_congr (fun _ _ => rfl) (fun i hi => cof_norm hn h1 hg hi), pz_smul, pz_one hn h1 f hj]
  exact Int.eq_of_mul_eq_mul_left h0 e1
theorem quo_within {f g : Nat → Int} (hw : Within (dvZ n f g) (phiN n) 1000000000) (d : Int) : Within (quoZ (dvZ n f g) d) (phiN n) 1000000000 := fun j hj => quo_bd (hw j hj)
/-- Numbers that divide each other have the same norm up to the sign. -/
theorem asso_norm (hn : n < 17) (h1 : 1 ≤ n) {f g : Nat → Int} (hf : Within f (phiN n) 1000000000) (hg : Within g (phiN n) 1000000000) (hf0 : dvN n f ≠ 0) (hg0 : dvN n g ≠ 0) (h : dvOk n f g) (hd : divTo (dvZ n f g) (dvN n g) (phiN n)) (h' : dvOk n g f) (hd' : divTo (dvZ n g f) (dvN n f) (phiN n)) :
    dvN n f = dvN n g ∨ dvN n f = -dvN n g := by
  have a : dvN n f = dvN n (quoZ (dvZ n f g) (dvN n g)) * dvN n g := by
    have hw := quo_within h.2.2 (dvN n g)
    have hb : ∀ j, j < phiN n → prodZ n (phiN n) (quoZ (dvZ n f g) (dvN n g)) g j = f j := fun j hj => quo_back hn h1 hg hg0 hd hj
    have hp : Within (prodZ n (phiN n) (quoZ (dvZ n f g) (dvN n g)) g) (phiN n) 1000000000 := fun j hj => by rw [hb j hj]; exact hf j hj
    have := norm_mul hn h1 hw hg hp
    rw [prI_congr hn h1 hp hf hb 0 (phiN n) 0 (phi_pos n hn h1)] at this
    exact this
  have b : dvN n g = dvN n (quoZ (dvZ n g f) (dvN n f)) * dvN n f := by
    have hw := quo_within h'.2.2 (dvN n f)
    have hb : ∀ j, j < phiN n → prodZ n (phiN n) (quoZ (dvZ n g f) (dvN n f)) f j = g j := fun j hj => quo_back hn h1 hf hf0 hd' hj
    have hp : Within (prodZ n (phiN n) (quoZ (dvZ n g f) (dvN n f)) f) (phiN n) 1000000000 := fun j hj => by rw [hb j hj]; exact hg j hj
    have := norm_mul hn h1 hw hf hp
    rw [prI_congr hn h1 hp hg hb 0 (phiN n) 0 (phi_pos n hn h1)] at this
    exact this
  generalize dvN n (quoZ (dvZ n f g) (dvN n g)) = A at *
  generalize dvN n (quoZ (dvZ n g f) (dvN n f)) = B at *
  generalize dvN n f = F at *
  generalize dvN n g = G at *
  have e : B * A = 1 := by
    have : B * A * G = 1 * G := by rw [Int.mul_assoc, ← a, ← b, Int.one_mul]
    exact Int.eq_of_mul_eq_mul_right hg0 this
  have h : A.natAbs = 1 := Nat.dvd_one.1 ⟨B.natAbs, by rw [Nat.mul_comm, ← Int.natAbs_mul, e]; rfl⟩
  rcases (show A = 1 ∨ A = -1 by omega) with h | h
  · exact .inl (by rw [a, h, Int.one_mul])
  · exact .inr (by rw [a, h]; omega)
end
end

section
open Go.RowKit Go.ChangeShapes Go.Sort
set_option linter.unusedVariables false
set_option linter.unusedSimpArgs false

/-- A function of one number answers with these two numbers. -/
def A1 (fn : FuncId) (x : Int) (L : Nat) (f : Nat → Int) (C0 C1 : Int) : Prop :=
  ∀ (w : World) (o : Bool) (lo hi : Nat) (v : Value), Sl o w lo hi v L f → Calls Try.prog fn #[.agg #[.int .i64 x, v]] w fun e w' => e = .returned (.tuple #[.int .i64 C0, .int .i64 C1]) ∧ Below w.heap.size w w'
/-- A function of one number answers with this list and this number. -/
def A2 (fn : FuncId) (x : Int) (L : Nat) (f : Nat → Int) (N : Nat) (G : Nat → Int) (C1 : Int) : Prop :=
  ∀ (w : World) (o : Bool) (lo hi : Nat) (v : Value), Sl o w lo hi v L f → Calls Try.prog fn #[.agg #[.int .i64 x, v]] w fun e w' => ∃ a' k', e = .returned (.tuple #[.slice a' N k', .int .i64 C1]) ∧ Sl true w' w.heap.size w'.heap.size (.slice a' N k') N G ∧ Below w.heap.size w w'
/-- A function of two numbers answers with this number and this code. -/
def A3 (fn : FuncId) (x : Int) (L : Nat) (f : Nat → Int) (y : Int) (M : Nat) (g : Nat → Int) (R : Int) (N : Nat) (G : Nat → Int) (C1 : Int) : Prop :=
  ∀ (w : World) (o : Bool) (lo hi : Nat) (v : Value) (o' : Bool) (lo' hi' : Nat) (v' : Value), Sl o w lo hi v L f → Sl o' w lo' hi' v' M g → Calls Try.prog fn #[.agg #[.int .i64 x, v], .agg #[.int .i64 y, v']] w fun e w' => ∃ a' k', e = .returned (.tuple #[.agg #[.int .i64 R, .slice a' N k'], .int .i64 C1]) ∧ Sl true w' w.heap.size w'.heap.size (.slice a' N k') N G ∧ Below w.heap.size w w'
section
variable (x : Int) (L : Nat) (f : Nat → Int)
theorem cy_len {n : Nat} (h : CyP n L f) : L = phiN n := h.2.2.1
def NormR (C0 C1 : Int) : Prop := (C1 = 0 ∧ ∃ n : Nat, x = n ∧ CyP n L f ∧ C0 = prI n (phiN n) f 0 (phiN n) 0 ∧ -1000000000 ≤ C0 ∧ C0 ≤ 1000000000) ∨ (C1 ≠ 0 ∧ C0 = 0)
theorem NormOf_two : ∃ C0 C1 : Int, A1 196 x L f C0 C1 ∧ A1 104 x L f C0 C1 ∧ NormR x L f C0 C1 := by
  by_cases h : CyP x L f
  · obtain ⟨m, rfl⟩ := Int.eq_ofNat_of_zero_le (show 0 ≤ x by have := h.1; omega)
    by_cases hk : prOk m L f 0 (phiN m)
    · refine ⟨_, 0, fun w _ _ _ _ hs => NormOf_spec_ok m w hs h hk, fun w _ _ _ _ hs => NormOf_impl_ok m w hs h hk, .inl ⟨rfl, m, rfl, h, ?_, ?_⟩⟩
      · rw [cy_len L f h]
      · have := prI_within hk 0 (phi_pos m (by have := h.2.1; omega) (by have := h.1; omega)); exact this
    · exact ⟨0, 3, fun w _ _ _ _ hs => NormOf_spec_big m w hs h hk, fun w _ _ _ _ hs => NormOf_impl_big m w hs h hk, .inr ⟨by decide, rfl⟩⟩
  · exact ⟨0, 1, fun w _ _ _ _ hs => NormOf_spec_bad x w hs h, fun w _ _ _ _ hs => NormOf_impl_bad x w hs h, .inr ⟨by decide, rfl⟩⟩
end
/-- A product: what it is where there is one. -/
def MulR (x : Int) (L : Nat) (f : Nat → Int) (y : Int) (M : Nat) (g : Nat → Int) (R : Int) (N : Nat) (G : Nat → Int) (C1 : Int) : Prop :=
  (C1 = 0 ∧ ∃ n : Nat, x = n ∧ y = n ∧ R = n ∧ CyP n L f ∧ CyP n M g ∧ L = phiN n ∧ M = phiN n ∧ N = phiN n ∧ G = prodZ n (phiN n) f g ∧ Within (prodZ n (phiN n) f g) (phiN n) 1000000000) ∨ (C1 ≠ 0)
theorem MultiplyCyclos_one (x : Int) (L : Nat) (f : Nat → Int) (y : Int) (M : Nat) (g : Nat → Int) : ∃ (R : Int) (N : Nat) (G : Nat → Int) (C1 : Int), A3 60 x L f y M g R N G C1 ∧ MulR x L f y M g R N G C1 := by
  by_cases h : pairC x y L M f g = 0
  · obtain ⟨h0, h1, e⟩ := pairC_zero h
    subst e
    obtain ⟨m, rfl⟩ := Int.eq_ofNat_of_zero_le (show 0 ≤ x by have := h0.1; omega)
    have e0 := cy_len L f h0
    have e1 := cy_len M g h1
    obtain rfl : L = M := by rw [e0, e1]
    by_cases hw : Within (prodZ m L f g) (phiN m) 1000000000
    · exact ⟨m, phiN m, prodZ m L f g, 0, fun w _ _ _ _ _ _ _ _ hs ht => MultiplyCyclos_impl_ok m w hs ht h0 h1 hw, .inl ⟨rfl, m, rfl, rfl, rfl, h0, h1, e0, e0, rfl, by rw [← e0], by rw [← e0] at hw ⊢; exact hw⟩⟩
    · exact ⟨0, 0, fun _ => 0, 3, fun w _ _ _ _ _ _ _ _ hs ht => fail_form (MultiplyCyclos_impl_big m w hs ht h0 h1 hw), .inr (by decide)⟩
  · exact ⟨0, 0, fun _ => 0, _, fun w _ _ _ _ _ _ _ _ hs ht => fail_form (MultiplyCyclos_impl_bad x y _ w hs ht rfl h), .inr h⟩
end

section
set_option linter.unusedVariables false

/-- p is a prime in 3..61. -/
def primeN (p : Nat) : Bool := decide (3 ≤ p) && decide (p ≤ 61) && (List.range 6).all (fun d => decide (p < (d + 2) * (d + 2)) || decide (p % (d + 2) ≠ 0))
/-- The powers of g by p. -/
def pwr (p g : Nat) : Nat → Nat
  | 0 => 1
  | k + 1 => pwr p g k * g % p
def perGo (p g : Nat) : Nat → Nat → Nat → Nat
  | 0, _, k => k
  | f + 1, x, k => if x = 1 then k else perGo p g f (x * g % p) (k + 1)
/-- The period of g. -/
def perN (p g : Nat) : Nat := perGo p g 61 (1 * g % p) 1
/-- The primitive root. -/
def rootN (p : Nat) : Nat := if p = 7 ∨ p = 17 ∨ p = 31 ∨ p = 43 then 3 else if p = 23 ∨ p = 47 then 5 else if p = 41 then 6 else 2
def idxGo (p r x : Nat) : Nat → Nat → Nat → Nat
  | 0, _, i => i
  | f + 1, y, i => if y = x then i else idxGo p r x f (y * r % p) (i + 1)
/-- The index of x. -/
def idxN (p x : Nat) : Nat := idxGo p (rootN p) x 60 1 0

def chkPer (p g : Nat) : Bool :=
  let m := perN p g
  decide (1 ≤ m) && decide (m ≤ p - 1) && decide (pwr p g m = 1) && (List.range m).all (fun j => decide (j = 0) || decide (pwr p g j ≠ 1)) && (List.range (m + 1)).all (fun j => decide (pwr p g j < p))
def chkRoot (p : Nat) : Bool :=
  decide (1 ≤ rootN p) && decide (rootN p < p) && decide (perN p (rootN p) = p - 1) && (List.range (rootN p)).all (fun g => decide (g = 0) || decide (perN p g < p - 1))
def chkIdx (p x : Nat) : Bool :=
  let i := idxN p x
  decide (i < p - 1) && decide (pwr p (rootN p) i = x) && (List.range i).all (fun j => decide (pwr p (rootN p) j ≠ x))
def chkBack (p j : Nat) : Bool :=
  let x := pwr p (rootN p) j
  decide (1 ≤ x) && decide (x < p) && decide (idxN p x = j)

theorem all_range {n : Nat} {q : Nat → Bool} (h : (List.range n).all q = true) (j : Nat) (hj : j < n) : q j = true := List.all_eq_true.1 h j (List.mem_range.2 hj)

theorem per_all : ((List.range 62).all fun p => !primeN p || (List.range p).all fun g => decide (g = 0) || chkPer p g) = true := by decide +kernel
theorem root_all : ((List.range 62).all fun p => !primeN p || chkRoot p) = true := by decide +kernel
theorem idx_all : ((List.range 62).all fun p => !primeN p || (List.range p).all fun x => decide (x = 0) || chkIdx p x) = true := by decide +kernel
theorem back_all : ((List.range 62).all fun p => !primeN p || (List.range (p - 1)).all fun j => chkBack p j) = true := by decide +kernel

theorem primeN_bd {p : Nat} (h : primeN p = true) : 3 ≤ p ∧ p ≤ 61 := by
  unfold primeN at h
  simp only [Bool.and_eq_true, decide_eq_true_eq] at h
  exact h.1
theorem prime_of {q : Nat → Bool} (h : ((List.range 62).all fun p => !primeN p || q p) = true) {p : Nat} (hp : primeN p = true) : q p = true := by
  have := all_range h p (by have := primeN_bd hp; omega)
  simp only [hp, Bool.not_true, Bool.false_or] at this
  exact this

theorem per_ok {p g : Nat} (hp : primeN p = true) (h1 : 1 ≤ g) (h2 : g < p) :
    1 ≤ perN p g ∧ perN p g ≤ p - 1 ∧ pwr p g (perN p g) = 1 ∧ (∀ j, 1 ≤ j → j < perN p g → pwr p g j ≠ 1) ∧ ∀ j, j ≤ perN p g → pwr p g j < p := by
  have h := all_range (prime_of per_all hp) g h2
  have e : decide (g = 0) = false := decide_eq_false (by omega)
  simp only [e, Bool.false_or] at h
  unfold chkPer at h
  simp only [Bool.and_eq_true, decide_eq_true_eq] at h
  obtain ⟨⟨⟨⟨a, b⟩, c⟩, d⟩, e⟩ := h
  refine ⟨a, b, c, fun j hj hj' => ?_, fun j hj => ?_⟩
  · have := all_range d j hj'
    have e : decide (j = 0) = false := decide_eq_false (by omega)
    simpa only [e, Bool.false_or, decide_eq_true_eq] using this
  · have := all_range e j (by omega)
    simpa only [decide_eq_true_eq] using this
theorem root_ok {p : Nat} (hp : primeN p = true) : 1 ≤ rootN p ∧ rootN p < p ∧ perN p (rootN p) = p - 1 ∧ ∀ g, 1 ≤ g → g < rootN p → perN p g < p - 1 := by
  have h := prime_of root_all hp
  unfold chkRoot at h
  simp only [Bool.and_eq_true, decide_eq_true_eq] at h
  obtain ⟨⟨⟨a, b⟩, c⟩, d⟩ := h
  refine ⟨a, b, c, fun j hj hj' => ?_⟩
  have := all_range d j hj'
  have e : decide (j = 0) = false := decide_eq_false (by omega)
  simpa only [e, Bool.false_or, decide_eq_true_eq] using this
theorem idx_ok {p x : Nat} (hp : primeN p = true) (h1 : 1 ≤ x) (h2 : x < p) : idxN p x < p - 1 ∧ pwr p (rootN p) (idxN p x) = x ∧ ∀ j, j < idxN p x → pwr p (rootN p) j ≠ x := by
  have h := all_range (prime_of idx_all hp) x h2
  have e : decide (x = 0) = false := decide_eq_false (by omega)
  simp only [e, Bool.false_or] at h
  unfold chkIdx at h
  simp only [Bool.and_eq_true, decide_eq_true_eq] at h
  obtain ⟨⟨a, b⟩, c⟩ := h
  exact ⟨a, b, fun j hj => by have := all_range c j hj; simpa only [decide_eq_true_eq] using this⟩
theorem back_ok {p j : Nat} (hp : primeN p = true) (hj : j < p - 1) : 1 ≤ pwr p (rootN p) j ∧ pwr p (rootN p) j < p ∧ idxN p (pwr p (rootN p) j) = j := by
  have h := all_range (prime_of back_all hp) j hj
  unfold chkBack at h
  simp only [Bool.and_eq_true, decide_eq_true_eq] at h
  exact ⟨h.1.1, h.1.2, h.2⟩

/-! Squares by a prime are the residues with even indices. -/
def sqN (p x : Nat) : Bool := (List.range (p - 1)).any (fun y => decide ((y + 1) * (y + 1) % p = x))
theorem sq_all : ((List.range 62).all fun p => !primeN p || (List.range p).all fun x => decide (x = 0) || decide (sqN p x = decide (idxN p x % 2 = 0))) = true := by decide +kernel
theorem sq_ok {p x : Nat} (hp : primeN p = true) (h1 : 1 ≤ x) (h2 : x < p) : sqN p x = decide (idxN p x % 2 = 0) := by
  have h := all_range (prime_of sq_all hp) x h2
  have e : decide (x = 0) = false := decide_eq_false (by omega)
  simpa only [e, Bool.false_or, decide_eq_true_eq] using h

/-! The powers of a character come again. -/
def ordChk (n k : Nat) : Bool :=
  let m := n / Nat.gcd n k
  decide (1 ≤ m) && decide (m ≤ n) && decide (k * (m + 1) % n = k % n) && (List.range m).all (fun i => (List.range i).all (fun j => decide (k * (i + 1) % n ≠ k * (j + 1) % n)))
theorem ord_all : ((List.range 17).all fun n => decide (n = 0) || (List.range n).all fun k => ordChk n k) = true := by decide +kernel
theorem ord_ok {n k : Nat} (h1 : 1 ≤ n) (h2 : n ≤ 16) (hk : k < n) : 1 ≤ n / Nat.gcd n k ∧ n / Nat.gcd n k ≤ n ∧ k * (n / Nat.gcd n k + 1) % n = k % n ∧ ∀ i j, i < n / Nat.gcd n k → j < i → k * (i + 1) % n ≠ k * (j + 1) % n := by
  have h := all_range ord_all n (by omega)
  have e : decide (n = 0) = false := decide_eq_false (by omega)
  simp only [e, Bool.false_or] at h
  have h := all_range h k hk
  unfold ordChk at h
  simp only [Bool.and_eq_true, decide_eq_true_eq] at h
  obtain ⟨⟨⟨a, b⟩, c⟩, d⟩ := h
  exact ⟨a, b, c, fun i j hi hj => by have := all_range (all_range d i hi) j hj; simpa only [decide_eq_true_eq] using this⟩
end

section
set_option linter.unusedVariables false

/-- The exponent of the value at x. -/
def expN (p n k x : Nat) : Nat := k * idxN p x % n
theorem expN_lt {p n k x : Nat} (h : 1 ≤ n) : expN p n k x < n := Nat.mod_lt _ h
/-- How often each power of z comes in the sum of the values at the residues below m, each times its weight. -/
def powZ (p n k : Nat) (W : Nat → Int) : Nat → Nat → Int
  | 0 => fun _ => 0
  | x + 1 => fun i => if x ≠ 0 ∧ i = expN p n k x then powZ p n k W x i + W x else powZ p n k W x i
/-- The Parts of this sum. -/
def sumZ (p n k : Nat) (W : Nat → Int) : Nat → Nat → Int
  | 0 => fun _ => 0
  | x + 1 => fun j => if x = 0 then sumZ p n k W x j else sumZ p n k W x j + W x * tb n (expN p n k x) j

theorem powZ_zero {p n k : Nat} {W : Nat → Int} {i : Nat} : powZ p n k W (0 + 1) i = 0 := by simp [powZ]
theorem sumZ_one {p n k : Nat} {W : Nat → Int} {j : Nat} : sumZ p n k W 1 j = 0 := by simp [sumZ]
theorem sumZ_succ {p n k x : Nat} {W : Nat → Int} {j : Nat} (h : 1 ≤ x) : sumZ p n k W (x + 1) j = sumZ p n k W x j + W x * tb n (expN p n k x) j := by
  simp only [sumZ]
  rw [if_neg (by omega)]
theorem powZ_bd {p n k : Nat} {W : Nat → Int} {B : Int} (hB : 0 ≤ B) : ∀ (x : Nat), (∀ y, y < x → -B ≤ W y ∧ W y ≤ B) → ∀ i, -((x : Int) * B) ≤ powZ p n k W x i ∧ powZ p n k W x i ≤ (x : Int) * B
  | 0, _, i => by simp [powZ]
  | x + 1, h, i => by
    have ih := powZ_bd (p := p) (n := n) (k := k) hB x (fun y hy => h y (by omega)) i
    have h1 := h x (by omega)
    have e : ((x + 1 : Nat) : Int) * B = (x : Int) * B + B := by rw [Int.natCast_add, Int.add_mul]; simp
    have hx : 0 ≤ (x : Int) * B := Int.mul_nonneg (by omega) hB
    rw [e]
    simp only [powZ]
    split <;> omega
theorem sumZ_bd {p n k : Nat} {W : Nat → Int} {B : Int} (hn : n < 17) (hn1 : 1 ≤ n) (hB : 0 ≤ B) {j : Nat} (hj : j < phiN n) : ∀ (x : Nat), (∀ y, y < x → -B ≤ W y ∧ W y ≤ B) → -((x : Int) * B) ≤ sumZ p n k W x j ∧ sumZ p n k W x j ≤ (x : Int) * B
  | 0, _ => by simp [sumZ]
  | x + 1, h => by
    have ih := sumZ_bd (p := p) (k := k) hn hn1 hB hj x (fun y hy => h y (by omega))
    have h1 := h x (by omega)
    have h2 := tab_one n hn hn1 (expN p n k x) (expN_lt hn1) j hj
    have h3 := one_bd hB h1.1 h1.2 h2.1 h2.2
    have e : ((x + 1 : Nat) : Int) * B = (x : Int) * B + B := by rw [Int.natCast_add, Int.add_mul]; simp
    have hx : 0 ≤ (x : Int) * B := Int.mul_nonneg (by omega) hB
    rw [e]
    simp only [sumZ]
    split <;> omega
theorem pow_sum {p n k : Nat} {W : Nat → Int} (hn : n < 17) (hn1 : 1 ≤ n) {j : Nat} (hj : j < phiN n) : ∀ x, redZ n (powZ p n k W x) j = sumZ p n k W x j
  | 0 => redZ_zero n j
  | x + 1 => by
    have hp := phi_le12 n (by omega) hn1
    have ih := pow_sum (p := p) (k := k) (W := W) hn hn1 hj x
    by_cases h0 : x = 0
    · subst h0
      have e : powZ p n k W (0 + 1) = fun _ => 0 := funext fun i => powZ_zero
      rw [e, redZ_zero]
      exact sumZ_one.symm
    · have e : powZ p n k W (x + 1) = fun i => 1 * powZ p n k W x i + W x * unit (expN p n k x) i := funext fun i => by
        simp only [powZ, unit]
        by_cases hi : i = expN p n k x
        · rw [if_pos ⟨h0, hi⟩, if_pos hi]; omega
        · rw [if_neg (fun h => hi h.2), if_neg hi]; omega
      rw [e, redZ_lin, ih, sumZ_succ (by omega), tb_eq hn hn1 (by have := expN_lt (p := p) (k := k) (x := x) hn1; omega) hj]
      omega
/-- A power of z, told by its Parts. -/
theorem unit_tb {n k : Nat} (hn : n < 17) (h1 : 1 ≤ n) (hk : k < n) {j : Nat} (hj : j < phiN n) : redP n (unit k) j = tb n k j := by
  have hp := phi_le12 n (by omega) h1
  have h2 := tab_one n hn h1 k hk j hj
  rw [redP_exact hn h1 (P' := unit k) (fun i _ => (wrap_inR (by unfold unit inR; split <;> omega)).symm) (by omega) (by rw [tb_eq hn h1 (by omega) hj]; unfold inR; omega), tb_eq hn h1 (by omega) hj]
/-- What the program makes of the sum. -/
theorem pow_red {p n k x : Nat} {W : Nat → Int} {P : Nat → Int} {B : Int} (hn : n < 17) (hn1 : 1 ≤ n) (hB : 0 ≤ B) (hB' : B ≤ 1000000) (hx : x ≤ 61) (hW : ∀ y, y < x → -B ≤ W y ∧ W y ≤ B) (hP : ∀ i, i < 24 → P i = powZ p n k W x i) {j : Nat} (hj : j < phiN n) : redP n P j = sumZ p n k W x j := by
  have hp := phi_le12 n (by omega) hn1
  have hb := sumZ_bd (p := p) (k := k) hn hn1 hB hj x hW
  have hm : (x : Int) * B ≤ 61 * 1000000 := Int.mul_le_mul (by omega) hB' hB (by omega)
  rw [redP_exact hn hn1 (P' := powZ p n k W x) (fun i hi => ?_) (by omega) (by rw [pow_sum hn hn1 hj]; unfold inR; omega), pow_sum hn hn1 hj]
  have h3 := powZ_bd (p := p) (n := n) (k := k) hB x hW i
  rw [hP i hi, wrap_inR (by unfold inR; omega)]
theorem sum_within {p n k x : Nat} {W : Nat → Int} {B : Int} (hn : n < 17) (hn1 : 1 ≤ n) (hB : 0 ≤ B) (hB' : B ≤ 1000000) (hx : x ≤ 61) (hW : ∀ y, y < x → -B ≤ W y ∧ W y ≤ B) {j : Nat} (hj : j < phiN n) : -61000000 ≤ sumZ p n k W x j ∧ sumZ p n k W x j ≤ 61000000 := by
  have hb := sumZ_bd (p := p) (k := k) hn hn1 hB hj x hW
  have hm : (x : Int) * B ≤ 61 * 1000000 := Int.mul_le_mul (by omega) hB' hB (by omega)
  omega
theorem sumZ_congr {p n k : Nat} {W W' : Nat → Int} {j : Nat} : ∀ x, (∀ y, 1 ≤ y → y < x → W y = W' y) → sumZ p n k W x j = sumZ p n k W' x j
  | 0, _ => rfl
  | x + 1, h => by
    simp only [sumZ]
    rw [sumZ_congr x (fun y h1 hy => h y h1 (by omega))]
    by_cases h0 : x = 0
    · rw [if_pos h0, if_pos h0]
    · rw [if_neg h0, if_neg h0, h x (by omega) (by omega)]

/-! The value of c at x times the conjugate of that of d. -/
/-- The conjugate of a power of z. -/
theorem bar_tb {n b : Nat} {f : Nat → Int} (hn : n < 17) (h1 : 1 ≤ n) (hb : b < n) (hf : ∀ j, j < phiN n → f j = tb n b j) {j : Nat} (hj : j < phiN n) : imgP n (n - 1) (phiN n) f j = tb n (b * (n - 1) % n) j := by
  have hp := phi_le12 n (by omega) h1
  rw [imgP_gal hn h1 (fun i hi => by have := tab_one n hn h1 b hb i hi; rw [hf i hi]; omega) hp hj]
  unfold galZ
  rw [← tab_gal n hn h1 (n - 1) (by omega) (by
    rcases Nat.lt_or_ge n 2 with h | h
    · have : n = 1 := by omega
      subst this; rfl
    · have : Nat.gcd (n - 1) n = Nat.gcd (n - 1) 1 := by
        conv => lhs; rw [show n = 1 + (n - 1) by omega]
        simp
      rw [this, Nat.gcd_one_right]) b hb j hj]
  exact sumN_congr (fun i hi => by rw [hf i hi])
theorem orth_exp {n k k' i : Nat} (h1 : 1 ≤ n) (hk' : k' < n) : (k * i % n + k' * i % n * (n - 1) % n) % n = (k + (n - k') % n) % n * i % n := by
  have e1 : (k * i % n + k' * i % n * (n - 1) % n) % n = (k * i + k' * i * (n - 1)) % n := by
    rw [← Nat.add_mod, Nat.add_mod, Nat.mul_mod (k' * i % n), Nat.mod_mod, ← Nat.mul_mod, ← Nat.add_mod]
  have e2 : (k + (n - k') % n) % n * i % n = (k + (n - k')) * i % n := by
    rw [Nat.mul_mod, Nat.mod_mod, Nat.add_mod, Nat.mod_mod, ← Nat.add_mod, ← Nat.mul_mod]
  rw [e1, e2, Nat.add_mul]
  have e3 : k' * i * (n - 1) + k' * i = k' * i * n := by
    conv => rhs; rw [show n = (n - 1) + 1 by omega]
    rw [Nat.mul_add, Nat.mul_one]
  have e4 : (n - k') * i + k' * i = n * i := by rw [← Nat.add_mul]; congr 1; omega
  have e5 : k' * i * (n - 1) + n * i = (n - k') * i + n * (k' * i) := by
    have : k' * i * n = n * (k' * i) := Nat.mul_comm _ _
    omega
  have e6 : (k * i + k' * i * (n - 1)) % n = (k * i + k' * i * (n - 1) + n * i) % n := by simp
  rw [e6, show k * i + k' * i * (n - 1) + n * i = k * i + (n - k') * i + n * (k' * i) by omega]
  simp
theorem orth_tb {n a b : Nat} {f g : Nat → Int} (hn : n < 17) (h1 : 1 ≤ n) (ha : a < n) (hb : b < n) (hf : ∀ j, j < phiN n → f j = tb n a j) (hg : ∀ j, j < phiN n → g j = tb n b j) {j : Nat} (hj : j < phiN n) : prodZ n (phiN n) f g j = tb n ((a + b) % n) j := by
  rw [prodZ_tab hn h1 (Nat.le_refl _) f g hj, ← tab_prod hn h1 ha hb hj]
  exact sumN_congr (fun p hp => sumN_congr (fun q hq => by rw [hf p hp, hg q hq]))
end

section
open Go.RowKit Go.ChangeShapes Go.Sort
set_option linter.unusedVariables false
set_option linter.unusedSimpArgs false

theorem tb_one0 : ∀ n, n < 17 → 1 ≤ n → ∀ j, j < phiN n → tb n 0 j = one0 j := by decide +kernel
theorem zeroB_all {L : Nat} {f : Nat → Int} (h : zeroB L f = true) : ∀ j, j < L → f j = 0 := fun j hj => by
  unfold zeroB at h
  have := of_decide_eq_true h
  exact this j hj
/-- A function of one number answers with this value. -/
def AV1 (fn : FuncId) (x : Int) (L : Nat) (f : Nat → Int) (V : Value) : Prop :=
  ∀ (w : World) (o : Bool) (lo hi : Nat) (v : Value), Sl o w lo hi v L f → Calls Try.prog fn #[.agg #[.int .i64 x, v]] w fun e w' => e = .returned V ∧ Below w.heap.size w w'
/-- A function of one number answers with this number and this code. -/
def AC1 (fn : FuncId) (x : Int) (L : Nat) (f : Nat → Int) (R : Int) (N : Nat) (G : Nat → Int) (C1 : Int) : Prop :=
  ∀ (w : World) (o : Bool) (lo hi : Nat) (v : Value), Sl o w lo hi v L f → Calls Try.prog fn #[.agg #[.int .i64 x, v]] w fun e w' => ∃ a' k', e = .returned (.tuple #[.agg #[.int .i64 R, .slice a' N k'], .int .i64 C1]) ∧ Sl true w' w.heap.size w'.heap.size (.slice a' N k') N G ∧ Below w.heap.size w w'
/-- A function of two numbers answers with this value. -/
def AV2 (fn : FuncId) (x : Int) (L : Nat) (f : Nat → Int) (y : Int) (M : Nat) (g : Nat → Int) (V : Value) : Prop :=
  ∀ (w : World) (o : Bool) (lo hi : Nat) (v : Value) (o' : Bool) (lo' hi' : Nat) (v' : Value), Sl o w lo hi v L f → Sl o' w lo' hi' v' M g → Calls Try.prog fn #[.agg #[.int .i64 x, v], .agg #[.int .i64 y, v']] w fun e w' => e = .returned V ∧ Below w.heap.size w w'
def DivR (x : Int) (L : Nat) (f : Nat → Int) (y : Int) (M : Nat) (g : Nat → Int) (R : Int) (N : Nat) (G : Nat → Int) (C : Int) : Prop :=
  (C = 0 ∧ ∃ n : Nat, x = n ∧ y = n ∧ R = n ∧ 1 ≤ n ∧ n ≤ 16 ∧ L = phiN n ∧ M = phiN n ∧ N = phiN n ∧ CyP n (phiN n) G ∧ CyP n (phiN n) g ∧ Within f (phiN n) 1000000000 ∧ ∀ j, j < phiN n → prodZ n (phiN n) G g j = f j) ∨ (C ≠ 0 ∧ N = 0)
theorem DivideCyclos_two (x : Int) (L : Nat) (f : Nat → Int) (y : Int) (M : Nat) (g : Nat → Int) : ∃ (R : Int) (N : Nat) (G : Nat → Int) (C : Int), A3 94 x L f y M g R N G C ∧ A3 93 x L f y M g R N G C ∧ DivR x L f y M g R N G C := by
  by_cases h : pairC x y L M f g = 0
  · obtain ⟨h0, h1, e⟩ := pairC_zero h
    subst e
    obtain ⟨m, rfl⟩ := Int.eq_ofNat_of_zero_le (show 0 ≤ x by have := h0.1; omega)
    have e0 : L = phiN m := h0.2.2.1
    have e1 : M = phiN m := h1.2.2.1
    subst e0 e1
    have hm1 : 1 ≤ m := by have := h0.1; omega
    have hm2 : m ≤ 16 := by have := h0.2.1; omega
    cases hz : zeroB (phiN m) g with
    | true => exact ⟨0, 0, fun _ => 0, 5, fun w _ _ _ _ _ _ _ _ hs ht => fail_form (DivideCyclos_spec_zero m w hs ht h0 h1 hz), fun w _ _ _ _ _ _ _ _ hs ht => fail_form (DivideCyclos_impl_zero m w hs ht h0 h1 hz), .inr ⟨by decide, rfl⟩⟩
    | false =>
      by_cases ho : dvOk m f g
      · by_cases hd : divTo (dvZ m f g) (dvN m g) (phiN m)
        · have hq := quo_within ho.2.2 (dvN m g)
          exact ⟨m, phiN m, quoZ (dvZ m f g) (dvN m g), 0, fun w _ _ _ _ _ _ _ _ hs ht => div_ok (DivideCyclos_spec_any m w hs ht h0 h1 hz) ho hd, fun w _ _ _ _ _ _ _ _ hs ht => div_ok (DivideCyclos_impl_any m w hs ht h0 h1 hz) ho hd,
            .inl ⟨rfl, m, rfl, rfl, rfl, hm1, hm2, rfl, rfl, rfl, ⟨by omega, by omega, rfl, hq⟩, h1, h0.2.2.2, fun j hj => quo_back (by omega) hm1 h1.2.2.2 (dvN_ok h1 hz) hd hj⟩⟩
        · exact ⟨0, 0, fun _ => 0, 4, fun w _ _ _ _ _ _ _ _ hs ht => fail_form (div_no (DivideCyclos_spec_any m w hs ht h0 h1 hz) ho hd), fun w _ _ _ _ _ _ _ _ hs ht => fail_form (div_no (DivideCyclos_impl_any m w hs ht h0 h1 hz) ho hd), .inr ⟨by decide, rfl⟩⟩
      · exact ⟨0, 0, fun _ => 0, 3, fun w _ _ _ _ _ _ _ _ hs ht => fail_form (div_big (DivideCyclos_spec_any m w hs ht h0 h1 hz) ho), fun w _ _ _ _ _ _ _ _ hs ht => fail_form (div_big (DivideCyclos_impl_any m w hs ht h0 h1 hz) ho), .inr ⟨by decide, rfl⟩⟩
  · exact ⟨0, 0, fun _ => 0, _, fun w _ _ _ _ _ _ _ _ hs ht => fail_form (DivideCyclos_spec_bad x y _ w hs ht rfl h), fun w _ _ _ _ _ _ _ _ hs ht => fail_form (DivideCyclos_impl_bad x y _ w hs ht rfl h), .inr ⟨h, rfl⟩⟩
theorem IsUnit_two (x : Int) (L : Nat) (f : Nat → Int) : ∃ (a : Bool) (C : Int), AV1 97 x L f (.tuple #[.bool a, .int .i64 C]) ∧ AV1 96 x L f (.tuple #[.bool a, .int .i64 C]) := by
  by_cases h : CyP x L f
  · obtain ⟨m, rfl⟩ := Int.eq_ofNat_of_zero_le (show 0 ≤ x by have := h.1; omega)
    by_cases hk : prOk m L f 0 (phiN m)
    · exact ⟨_, 0, fun w _ _ _ _ hs => IsUnit_spec_ok m w hs h hk, fun w _ _ _ _ hs => IsUnit_impl_ok m w hs h hk⟩
    · exact ⟨false, 3, fun w _ _ _ _ hs => IsUnit_spec_big m w hs h hk, fun w _ _ _ _ hs => IsUnit_impl_big m w hs h hk⟩
  · exact ⟨false, 1, fun w _ _ _ _ hs => IsUnit_spec_bad x w hs h, fun w _ _ _ _ hs => IsUnit_impl_bad x w hs h⟩
/-- The number 1 in the Parts of order n. -/
def InvR (x : Int) (L : Nat) (f : Nat → Int) (R : Int) (N : Nat) (G : Nat → Int) (C : Int) : Prop :=
  (C = 0 ∧ ∃ n : Nat, x = n ∧ R = n ∧ 1 ≤ n ∧ n ≤ 16 ∧ L = phiN n ∧ N = phiN n ∧ CyP n (phiN n) G ∧ CyP n (phiN n) f ∧ ∀ j, j < phiN n → prodZ n (phiN n) f G j = one0 j) ∨ (C ≠ 0)
theorem InverseOf_two (x : Int) (L : Nat) (f : Nat → Int) : ∃ (R : Int) (N : Nat) (G : Nat → Int) (C : Int), AC1 100 x L f R N G C ∧ AC1 99 x L f R N G C ∧ InvR x L f R N G C := by
  by_cases h : CyP x L f
  · obtain ⟨m, rfl⟩ := Int.eq_ofNat_of_zero_le (show 0 ≤ x by have := h.1; omega)
    have e0 : L = phiN m := h.2.2.1
    subst e0
    have hm1 : 1 ≤ m := by have := h.1; omega
    have hm2 : m ≤ 16 := by have := h.2.1; omega
    cases hz : zeroB (phiN m) f with
    | true => exact ⟨0, 0, fun _ => 0, 5, fun w _ _ _ _ hs => fail_form (InverseOf_spec_zero m w hs h hz), fun w _ _ _ _ hs => fail_form (InverseOf_impl_zero m w hs h hz), .inr (by decide)⟩
    | false =>
      by_cases ho : dvOk m one0 f
      · by_cases hd : divTo (dvZ m one0 f) (dvN m f) (phiN m)
        · have hq := quo_within ho.2.2 (dvN m f)
          exact ⟨m, phiN m, quoZ (dvZ m one0 f) (dvN m f), 0, fun w _ _ _ _ hs => InverseOf_spec_ok m w hs h hz ho hd, fun w _ _ _ _ hs => InverseOf_impl_ok m w hs h hz ho hd,
            .inl ⟨rfl, m, rfl, rfl, hm1, hm2, rfl, rfl, ⟨by omega, by omega, rfl, hq⟩, h, fun j hj => by rw [prodZ_comm]; exact quo_back (by omega) hm1 h.2.2.2 (dvN_ok h hz) hd hj⟩⟩
        · exact ⟨0, 0, fun _ => 0, 4, fun w _ _ _ _ hs => fail_form (InverseOf_spec_no m w hs h hz ho hd), fun w _ _ _ _ hs => fail_form (InverseOf_impl_no m w hs h hz ho hd), .inr (by decide)⟩
      · exact ⟨0, 0, fun _ => 0, 3, fun w _ _ _ _ hs => fail_form (InverseOf_spec_big m w hs h hz ho), fun w _ _ _ _ hs => fail_form (InverseOf_impl_big m w hs h hz ho), .inr (by decide)⟩
  · exact ⟨0, 0, fun _ => 0, 1, fun w _ _ _ _ hs => fail_form (InverseOf_spec_bad x w hs h), fun w _ _ _ _ hs => fail_form (InverseOf_impl_bad x w hs h), .inr (by decide)⟩
/-- Both norms of associated numbers. -/
def AssR (x : Int) (L : Nat) (f : Nat → Int) (y : Int) (M : Nat) (g : Nat → Int) (a : Bool) (C : Int) : Prop :=
  C = 0 → a = true → ∃ n : Nat, x = n ∧ y = n ∧ L = phiN n ∧ M = phiN n ∧ (dvN n f = dvN n g ∨ dvN n f = -dvN n g)
theorem AreAssociated_two (x : Int) (L : Nat) (f : Nat → Int) (y : Int) (M : Nat) (g : Nat → Int) : ∃ (a : Bool) (C : Int), AV2 103 x L f y M g (.tuple #[.bool a, .int .i64 C]) ∧ AV2 102 x L f y M g (.tuple #[.bool a, .int .i64 C]) ∧ AssR x L f y M g a C := by
  by_cases h : pairC x y L M f g = 0
  · obtain ⟨h0, h1, e⟩ := pairC_zero h
    subst e
    obtain ⟨m, rfl⟩ := Int.eq_ofNat_of_zero_le (show 0 ≤ x by have := h0.1; omega)
    have e0 : L = phiN m := h0.2.2.1
    have e1 : M = phiN m := h1.2.2.1
    subst e0 e1
    have hm1 : 1 ≤ m := by have := h0.1; omega
    have hm2 : m ≤ 16 := by have := h0.2.1; omega
    have hp := phi_pos m (by omega) hm1
    cases hx : zeroB (phiN m) f with
    | true =>
      cases hy : zeroB (phiN m) g with
      | true =>
        refine ⟨true, 0, fun w _ _ _ _ _ _ _ _ hs ht => AreAssociated_spec_zero_tt m w hs ht h0 h1 hx hy, fun w _ _ _ _ _ _ _ _ hs ht => AreAssociated_impl_zero_tt m w hs ht h0 h1 hx hy, fun _ _ => ⟨m, rfl, rfl, rfl, rfl, .inl ?_⟩⟩
        have hf := zeroB_all hx
        have hg := zeroB_all hy
        exact prI_congr (by omega) hm1 h0.2.2.2 h1.2.2.2 (fun j hj => by rw [hf j hj, hg j hj]) 0 (phiN m) 0 hp
      | false => exact ⟨false, 0, fun w _ _ _ _ _ _ _ _ hs ht => AreAssociated_spec_zero_tf m w hs ht h0 h1 hx hy, fun w _ _ _ _ _ _ _ _ hs ht => AreAssociated_impl_zero_tf m w hs ht h0 h1 hx hy, fun _ h => by cases h⟩
    | false =>
      cases hy : zeroB (phiN m) g with
      | true => exact ⟨false, 0, fun w _ _ _ _ _ _ _ _ hs ht => AreAssociated_spec_zero_ft m w hs ht h0 h1 hx hy, fun w _ _ _ _ _ _ _ _ hs ht => AreAssociated_impl_zero_ft m w hs ht h0 h1 hx hy, fun _ h => by cases h⟩
      | false =>
        refine ⟨_, _, fun w _ _ _ _ _ _ _ _ hs ht => AreAssociated_spec_any m w hs ht h0 h1 hx hy, fun w _ _ _ _ _ _ _ _ hs ht => AreAssociated_impl_any m w hs ht h0 h1 hx hy, fun hc ha => ⟨m, rfl, rfl, rfl, rfl, ?_⟩⟩
        have hcd : dvCode m f g = 0 ∧ dvCode m g f = 0 := by
          unfold assoB at ha
          split at ha
          · cases ha
          · exact of_decide_eq_true ha
        have un : ∀ {f g : Nat → Int}, dvCode m f g = 0 → dvOk m f g ∧ divTo (dvZ m f g) (dvN m g) (phiN m) := fun {f g} e => by
          unfold dvCode at e
          split at e
          · split at e
            · exact ⟨by assumption, by assumption⟩
            · cases e
          · cases e
        obtain ⟨o1, d1⟩ := un hcd.1
        obtain ⟨o2, d2⟩ := un hcd.2
        exact asso_norm (by omega) hm1 h0.2.2.2 h1.2.2.2 (dvN_ok h0 hx) (dvN_ok h1 hy) o1 d1 o2 d2
  · exact ⟨false, _, fun w _ _ _ _ _ _ _ _ hs ht => AreAssociated_spec_bad x y _ w hs ht rfl h, fun w _ _ _ _ _ _ _ _ hs ht => AreAssociated_impl_bad x y _ w hs ht rfl h, fun _ h => by cases h⟩
/-- The power 0 of z. -/
theorem pow_zero {n : Nat} (h1 : 1 ≤ n) (h2 : n ≤ 16) {j : Nat} (hj : j < phiN n) : redP n (unit (powIx n 0)) j = one0 j := by
  have e : powIx n 0 = 0 := by unfold powIx; simp
  rw [e, unit_tb (by omega) h1 h1 hj]
  exact tb_one0 n (by omega) h1 j hj
end

section
open Go.RowKit Go.ChangeShapes
set_option linter.unusedVariables false
set_option linter.unusedSimpArgs false
/-- Bytes that are there to be read, below the block B. -/
def Bytes (w : World) (B : Nat) (p : Option Addr) (n : Nat) : Prop := n ≤ 4096 ∧ ∀ j, j < n → ∃ g off c, p = some ⟨g, off, none⟩ ∧ g < B ∧ g < w.heap.size ∧ w.cell? ⟨g, off + j, none⟩ = some (.int .u8 c) ∧ 0 ≤ c ∧ c ≤ 255
/-- A source of drawn numbers in the block b. -/
def Src (w : World) (b : Nat) (p : Option Addr) (n q : Nat) : Prop := ∃ (at_ : Nat) (h : Int), at_ ≤ n ∧ 0 ≤ h ∧ h ≤ 18446744073709551615 ∧ Box w b [.slice p n q, .int .i64 at_, .int .u64 h]
theorem Box.set {w : World} {b i : Nat} {vs : List Value} {u : Value} (h : Box w b vs) (hi : i < vs.length) : Box (w.setCell ⟨b, i, none⟩ u) b (vs.set i u) := by
  obtain ⟨h1, h2, h3⟩ := h
  refine ⟨by simpa using h1, fun j v hj => ?_, fun k => by simpa using h3 k⟩
  by_cases e : j = i
  · subst e
    rw [List.getElem?_set_self (by simpa using hi)] at hj
    obtain rfl : u = v := Option.some.inj hj
    exact World.cell?_setCell_same _ _ _ (h2 j _ (List.getElem?_eq_getElem hi))
  · rw [List.getElem?_set_ne (fun h => e h.symm)] at hj
    rw [setCell_ne _ _ _ _ _ e]
    exact h2 j v hj
theorem Box.drewN {w : World} {b : Nat} {vs : List Value} (h : Box w b vs) (m : Nat) : Box (w.drewN m) b vs := h.keep (below_drewN (Below.refl _ _) m)
theorem wrap_u64 (x : Int) : 0 ≤ IntKind.u64.wrap x ∧ IntKind.u64.wrap x ≤ 18446744073709551615 := by
  have h : IntKind.u64.wrap x = x % 18446744073709551616 := by rfl
  omega
theorem and_small (x : Int) (h : 0 ≤ x) (hx' : x < 18446744073709551616) : 0 ≤ wrap64 (bits .and .u64 x 1073741823) ∧ wrap64 (bits .and .u64 x 1073741823) ≤ 1073741823 := by
  have h1 : 0 ≤ bits .and .u64 x 1073741823 ∧ bits .and .u64 x 1073741823 ≤ 1073741823 := by
    by_cases hx : x < 18446744073709551616
    · rw [u64_and x 1073741823 h hx (by omega) (by omega)]
      have := @Nat.and_le_right x.toNat (1073741823 : Int).toNat
      have e : (1073741823 : Int).toNat = 1073741823 := rfl
      rw [e] at this ⊢
      omega
    · exact absurd hx' hx
  rw [wrap_inR (by unfold inR; omega)]
  exact h1
set_option maxRecDepth 100000 in
set_option maxHeartbeats 1000000 in
theorem l01Next_any (b B : Nat) (p : Option Addr) (n q : Nat) (m : Int) (w : World) (hs : Src w b p n q) (hb : Bytes w B p n) (hB : B ≤ b) (hm : 1 ≤ m) (hm2 : m ≤ 1000000000000) :
    Calls Try.prog 169 #[.pointer (some ⟨b, 0, none⟩), .int .i64 m] w fun e w' => ∃ r : Int, e = .returned (.int .i64 r) ∧ 0 ≤ r ∧ r < m ∧ Src w' b p n q ∧ Frame b (b + 1) w w' := by
  obtain ⟨at_, h, hat, hh1, hh2, hbx⟩ := hs
  have c0 := hbx.2.1 0 _ rfl
  have c1 := hbx.2.1 1 _ rfl
  have c2 := hbx.2.1 2 _ rfl
  have hz := hbx.2.2
  have hbz := hbx.1
  have hn := hb.1
  have HB := Lib.hid hb.2
  have HBX := Lib.hid hbx
  clear hb hbx
  go_enter Try.func169, Try.ntmps169
  go_wp2
  have hH := wrap_u64 (IntKind.u64.wrap (h * 6364136223846793005) + 1442695040888963407)
  have hX := and_small (IntKind.u64.wrap (IntKind.u64.wrap (h * 6364136223846793005) + 1442695040888963407) / 2147483648) (by omega) (by omega)
  generalize wrap64 (bits .and .u64 (IntKind.u64.wrap (IntKind.u64.wrap (h * 6364136223846793005) + 1442695040888963407) / 2147483648) 1073741823) = X at *
  generalize IntKind.u64.wrap (IntKind.u64.wrap (h * 6364136223846793005) + 1442695040888963407) = H at *
  obtain ⟨hX1, hX2⟩ := hX
  obtain ⟨hH1, hH2⟩ := hH
  by_cases hlt : at_ < n
  · obtain ⟨g, off, c, rfl, hg, hgz, hc, hc1, hc2⟩ := HB.out at_ hlt
    have hgb : ¬ (b = g) := by omega
    have hlt2 : (at_ : Int) < n := by omega
    go_quiet (fail)
    go_wp2
    go_quiet (fail)
    go_wp2
    refine bodyPost_ret (v := .int .i64 ((X + c) % m)) (by simp [results, Try.results169, go_sem]) rfl ?_
    refine ⟨_, rfl, Int.emod_nonneg _ (by omega), Int.emod_lt_of_pos _ (by omega), ⟨at_ + 1, H, by omega, hH1, hH2, ?_⟩, ?_⟩
    · have hall : ∀ k, Box (((w.setCell ⟨b, 2, none⟩ (.int .u64 H)).drewN k).setCell ⟨b, 1, none⟩ (.int .i64 ((at_ : Int) + 1))) b [.slice (some ⟨g, off, none⟩) n q, .int .i64 ((at_ + 1 : Nat) : Int), .int .u64 H] := fun k => by
        have h2 := ((HBX.out.set (i := 2) (u := .int .u64 H) (by simp)).drewN k).set (i := 1) (u := .int .i64 ((at_ : Int) + 1)) (by simp)
        simpa using h2
      exact hall _
    · exact (((Frame.refl b (b + 1) w).setCell (Nat.le_refl _) (Nat.lt_succ_self _) _).drewN _).setCell (Nat.le_refl _) (Nat.lt_succ_self _) _
  · have hlt2 : ¬ ((at_ : Int) < n) := by omega
    go_quiet (fail)
    go_wp2
    refine bodyPost_ret (v := .int .i64 (X % m)) (by simp [results, Try.results169, go_sem]) rfl ?_
    refine ⟨_, rfl, Int.emod_nonneg _ (by omega), Int.emod_lt_of_pos _ (by omega), ⟨at_, H, by omega, hH1, hH2, ?_⟩, ?_⟩
    · have h1 := (HBX.out.set (i := 2) (u := .int .u64 H) (by simp)).drewN nq
      simpa using h1
    · exact ((Frame.refl b (b + 1) w).setCell (Nat.le_refl _) (Nat.lt_succ_self _) _).drewN _

theorem Bytes.frame {w w' : World} {B b : Nat} {p : Option Addr} {n : Nat} (h : Bytes w B p n) (hf : Frame b (b + 1) w w') (hB : B ≤ b) : Bytes w' B p n :=
  ⟨h.1, fun j hj => by
    obtain ⟨g, off, c, e, h1, h2, h3, h4⟩ := h.2 j hj
    exact ⟨g, off, c, e, h1, Nat.lt_of_lt_of_le h2 hf.size, (hf.cell (p := ⟨g, off + j, none⟩) h2 (.inl (by show g < b; omega))).trans h3, h4⟩⟩
theorem Bytes.below {w w' : World} {B : Nat} {p : Option Addr} {n : Nat} (h : Bytes w B p n) (hb : Below w.heap.size w w') : Bytes w' B p n :=
  ⟨h.1, fun j hj => by
    obtain ⟨g, off, c, e, h1, h2, h3, h4⟩ := h.2 j hj
    exact ⟨g, off, c, e, h1, Nat.lt_of_lt_of_le h2 hb.size, cell_later hb h3, h4⟩⟩
section
variable {o : Bool} {lo hi k : Nat} {v : Value} {f : Nat → Int}
set_option maxRecDepth 100000 in
theorem l01Pick_any (b B : Nat) (p : Option Addr) (n q : Nat) (w : World) (hs : Src w b p n q) (hb : Bytes w B p n) (hB : B ≤ b) (hl : Sl o w lo hi v k f) (hd : hi ≤ b ∨ b + 1 ≤ lo) (hk : 1 ≤ k) (hk2 : k ≤ 1000) :
    Calls Try.prog 161 #[.pointer (some ⟨b, 0, none⟩), v] w fun e w' => ∃ i, i < k ∧ e = .returned (.int .i64 (f i)) ∧ Src w' b p n q ∧ Frame b (b + 1) w w' := by
  obtain ⟨a, cap, rfl⟩ := hl.shape
  have HL := Lib.hid hl
  clear hl
  go_enter Try.func161, Try.ntmps161
  go_wp2_with fail
  refine (l01Next_any b B p n q k w hs hb hB (by omega) (by omega)).mono ?_
  rintro e w1 ⟨r, rfl, hr1, hr2, hs1, hf1⟩
  obtain ⟨i, rfl⟩ := Int.eq_ofNat_of_zero_le hr1
  have hik : i < k := by omega
  have hl1 := HL.out.keepF hf1 hd
  obtain ⟨g, off, c1, hv, _, _, _, _, hc, _⟩ := hl1.at (by omega)
  obtain ⟨rfl, rfl⟩ : a = some ⟨g, off, none⟩ ∧ cap = c1 := by cases hv; exact ⟨rfl, rfl⟩
  have hck := hc i hik
  clear hv hc
  go_wp2
  go_ret
  exact ⟨i, hik, rfl, hs1, hf1⟩
end
set_option maxRecDepth 100000 in
set_option maxHeartbeats 1000000 in
theorem l01From_any (B : Nat) (p : Option Addr) (n q : Nat) (w : World) (hb : Bytes w B p n) (hB : B ≤ w.heap.size) :
    Calls Try.prog 160 #[.slice p n q] w fun e w' => e = .returned (.pointer (some ⟨w.heap.size, 0, none⟩)) ∧ Src w' w.heap.size p n q ∧ Bytes w' B p n ∧ Below w.heap.size w w' := by
  have hn := hb.1
  have HB := Lib.hid hb
  clear hb
  have H0 := wrap_u64 (13131 + n)
  go_enter Try.func160, Try.ntmps160
  go_wp2
  go_loopw [4] (fun s4 wr => ∃ k : Nat, k ≤ n ∧ s4 = .int .i64 k ∧ (∃ h : Int, 0 ≤ h ∧ h ≤ 18446744073709551615 ∧ Box wr w.heap.size [.slice p n q, .int .i64 0, .int .u64 h]) ∧ Bytes wr B p n ∧ Below w.heap.size w wr) (fun s4 _ => n - (intOf s4).toNat)
  case atStart => exact ⟨0, Nat.zero_le _, rfl, ⟨13131 + n, by omega, by omega, Box.made _ _ _ _ (fun j v h => by simpa using h)⟩, HB.out.below ((Below.refl _ _).alloc (Nat.le_refl _) _), (Below.refl _ _).alloc (Nat.le_refl _) _⟩
  case round =>
    obtain ⟨k, hk, rfl, ⟨h, hh1, hh2, hbx⟩, hby, hbl⟩ := hrel
    have c0 := hbx.2.1 0 _ rfl
    have c1 := hbx.2.1 1 _ rfl
    have c2 := hbx.2.1 2 _ rfl
    have hz := hbx.2.2
    have hbz := hbx.1
    have HBX := Lib.hid hbx
    have HBY := Lib.hid hby
    have HBL := Lib.hid hbl
    clear hbx hby hbl
    by_cases hlt : k < n
    · obtain ⟨g, off, c, rfl, hg, hgz, hc, hc1, hc2⟩ := HBY.out.2 k hlt
      have hgb : ¬ (w.heap.size = g) := by omega
      have hlt2 : (k : Int) < n := by omega
      have hlt3 : (k : Int) < 4096 := by omega
      go_wp2
      go_region
      go_wp2
      go_roundw
      case rel =>
        have hw := wrap_u64 (IntKind.u64.wrap (IntKind.u64.wrap (h * 1099511628211) + c) + 131)
        have hf : Frame w.heap.size (w.heap.size + 1) wr ((wr.setCell ⟨w.heap.size, 2, none⟩ (.int .u64 (IntKind.u64.wrap (IntKind.u64.wrap (IntKind.u64.wrap (h * 1099511628211) + c) + 131)))).drew) := ((Frame.refl w.heap.size (w.heap.size + 1) wr).setCell (Nat.le_refl _) (Nat.lt_succ_self _) _).drew
        refine ⟨k + 1, by omega, by go_num, ⟨_, hw.1, hw.2, ?_⟩, HBY.out.frame hf hB, HBL.out.trans (hf.below (Nat.le_refl _) HBL.out.size)⟩
        have h2 := HBX.out.set (i := 2) (u := .int .u64 (IntKind.u64.wrap (IntKind.u64.wrap (IntKind.u64.wrap (h * 1099511628211) + c) + 131))) (by simp)
        have h3 := h2.keep (Below.refl _ _).drew
        simpa using h3
      case measure => simp [intOf] <;> omega
    · obtain rfl : k = n := by omega
      go_wp2
      go_ret
      exact ⟨rfl, ⟨0, h, Nat.zero_le _, hh1, hh2, HBX.out⟩, HBY.out, HBL.out⟩
end

section
open Go.RowKit Go.ChangeShapes
set_option linter.unusedVariables false
set_option linter.unusedSimpArgs false

theorem Src.keep {w w' : World} {b : Nat} {p : Option Addr} {n q : Nat} (h : Src w b p n q) (hb : Below w.heap.size w w') : Src w' b p n q := by
  obtain ⟨a, x, h1, h2, h3, h4⟩ := h
  exact ⟨a, x, h1, h2, h3, h4.keep hb⟩
theorem Src.lt {w : World} {b : Nat} {p : Option Addr} {n q : Nat} (h : Src w b p n q) : b < w.heap.size := by
  obtain ⟨a, x, h1, h2, h3, h4⟩ := h
  exact h4.1
/-- A list just laid. -/
theorem Sl.list (w : World) (xs : List Int) (hx : ∀ x ∈ xs, inR x) (hl : xs.length ≤ maxLen) :
    Sl true (w.alloc (.cells (xs.map (Value.int .i64)).toArray 2)) w.heap.size (w.heap.size + 1) (.slice (some ⟨w.heap.size, 0, none⟩) xs.length xs.length) xs.length (fun j => xs.getD j 0) :=
  Sl.made w _ _ _ _ _ (Nat.le_refl _) hl (fun j hj => by
    rw [List.getD_eq_getElem?_getD, List.getElem?_eq_getElem hj]
    exact hx _ (List.getElem_mem hj)) (fun j hj => by simp [List.getD_eq_getElem?_getD, List.getElem?_eq_getElem hj])
section
variable {b B : Nat} {p : Option Addr} {n q : Nat}
set_option maxRecDepth 100000 in
theorem l01Near_any (m : Int) (w : World) (hs : Src w b p n q) (hb : Bytes w B p n) (hB : B ≤ b) (hm : 0 ≤ m) (hm2 : m ≤ 100000000000) :
    Calls Try.prog 163 #[.pointer (some ⟨b, 0, none⟩), .int .i64 m] w fun e w' => ∃ r, e = .returned (.int .i64 r) ∧ inR r ∧ Src w' b p n q ∧ Bytes w' B p n ∧ Frame b (b + 1) w w' := by
  go_enter Try.func163, Try.ntmps163
  go_wp2_with fail
  refine (l01Next_any b B p n q 14 w hs hb hB (by omega) (by omega)).mono ?_
  rintro e w1 ⟨r, rfl, hr1, hr2, hs1, hf1⟩
  have hb1 := hb.frame hf1 hB
  clear hs hb
  by_cases h0 : r = 0
  · subst h0
    have hl := Sl.list w1 [-1, m + 1, 1099511627776, -4611686018427387904] (by intro x hx; simp only [List.mem_cons, List.not_mem_nil, or_false] at hx; unfold inR; rcases hx with rfl | rfl | rfl | rfl <;> omega) (by simp [maxLen])
    have hlt := hs1.lt
    have hs2 := hs1.keep ((Below.refl w1.heap.size w1).alloc (Nat.le_refl _) (.cells ([-1, m + 1, 1099511627776, -4611686018427387904].map (Value.int .i64)).toArray 2))
    have hb2 := hb1.below ((Below.refl w1.heap.size w1).alloc (Nat.le_refl _) (.cells ([-1, m + 1, 1099511627776, -4611686018427387904].map (Value.int .i64)).toArray 2))
    simp only [List.map_cons, List.map_nil, List.length_cons, List.length_nil] at hl hs2 hb2
    go_wp2_with fail
    refine (l01Pick_any b B p n q _ hs2 hb2 hB hl (.inr (by omega)) (by omega) (by omega)).mono ?_
    rintro e w2 ⟨i, hi, rfl, hs3, hf3⟩
    have hr : inR ([-1, m + 1, 1099511627776, -4611686018427387904].getD i 0) := hl.bd i hi
    generalize [-1, m + 1, 1099511627776, -4611686018427387904].getD i 0 = x at *
    go_wp2
    go_ret
    exact ⟨_, rfl, hr, hs3, hb2.frame hf3 hB, hf1.trans (((Frame.refl b (b + 1) w1).alloc _).trans hf3)⟩
  · have h0' : (r == 0) = false := by simpa using h0
    go_wp2_with fail
    refine (l01Next_any b B p n q (m + 1) w1 hs1 hb1 hB (by omega) (by omega)).mono ?_
    rintro e w2 ⟨r2, rfl, hr3, hr4, hs2, hf2⟩
    go_wp2
    go_ret
    exact ⟨r2, rfl, by unfold inR; omega, hs2, hb1.frame hf2 hB, hf1.trans hf2⟩
set_option maxRecDepth 100000 in
theorem l01DrawOrder_any (w : World) (hs : Src w b p n q) (hb : Bytes w B p n) (hB : B ≤ b) :
    Calls Try.prog 206 #[.pointer (some ⟨b, 0, none⟩)] w fun e w' => ∃ k : Nat, e = .returned (.int .i64 (k : Int)) ∧ 1 ≤ k ∧ k ≤ 16 ∧ Src w' b p n q ∧ Bytes w' B p n ∧ Frame b (b + 1) w w' := by
  go_enter Try.func206, Try.ntmps206
  go_wp2_with fail
  refine (l01Next_any b B p n q 16 w hs hb hB (by omega) (by omega)).mono ?_
  rintro e w1 ⟨r, rfl, hr1, hr2, hs1, hf1⟩
  have hb1 := hb.frame hf1 hB
  clear hs hb
  have hl := Sl.list w1 [1, 2, 3, 3, 4, 4, 5, 5, 6, 7, 8, 9, 10, 12, 1 + r] (by intro x hx; simp only [List.mem_cons, List.not_mem_nil, or_false] at hx; unfold inR; rcases hx with rfl | rfl | rfl | rfl | rfl | rfl | rfl | rfl | rfl | rfl | rfl | rfl | rfl | rfl | rfl <;> omega) (by simp [maxLen])
  have hall : ∀ x ∈ [1, 2, 3, 3, 4, 4, 5, 5, 6, 7, 8, 9, 10, 12, 1 + r], 1 ≤ x ∧ x ≤ 16 := by intro x hx; simp only [List.mem_cons, List.not_mem_nil, or_false] at hx; rcases hx with rfl | rfl | rfl | rfl | rfl | rfl | rfl | rfl | rfl | rfl | rfl | rfl | rfl | rfl | rfl <;> omega
  have hlt := hs1.lt
  have hs2 := hs1.keep ((Below.refl w1.heap.size w1).alloc (Nat.le_refl _) (.cells ([1, 2, 3, 3, 4, 4, 5, 5, 6, 7, 8, 9, 10, 12, 1 + r].map (Value.int .i64)).toArray 2))
  have hb2 := hb1.below ((Below.refl w1.heap.size w1).alloc (Nat.le_refl _) (.cells ([1, 2, 3, 3, 4, 4, 5, 5, 6, 7, 8, 9, 10, 12, 1 + r].map (Value.int .i64)).toArray 2))
  simp only [List.map_cons, List.map_nil, List.length_cons, List.length_nil] at hl hs2 hb2
  have HALL := Lib.hid hall
  clear hall
  go_wp2_with fail
  refine (l01Pick_any b B p n q _ hs2 hb2 hB hl (.inr (by omega)) (by omega) (by omega)).mono ?_
  rintro e w2 ⟨i, hi, rfl, hs3, hf3⟩
  have hmem : 1 ≤ [1, 2, 3, 3, 4, 4, 5, 5, 6, 7, 8, 9, 10, 12, 1 + r].getD i 0 ∧ [1, 2, 3, 3, 4, 4, 5, 5, 6, 7, 8, 9, 10, 12, 1 + r].getD i 0 ≤ 16 := by
    rw [List.getD_eq_getElem?_getD, List.getElem?_eq_getElem (by simpa using hi)]
    exact HALL.out _ (List.getElem_mem _)
  generalize [1, 2, 3, 3, 4, 4, 5, 5, 6, 7, 8, 9, 10, 12, 1 + r].getD i 0 = x at *
  obtain ⟨k, rfl⟩ := Int.eq_ofNat_of_zero_le (show 0 ≤ x by omega)
  go_wp2
  go_ret
  exact ⟨k, rfl, by omega, by omega, hs3, hb2.frame hf3 hB, hf1.trans (((Frame.refl b (b + 1) w1).alloc _).trans hf3)⟩
set_option maxRecDepth 100000 in
theorem l01DrawPart_any (m : Int) (w : World) (hs : Src w b p n q) (hb : Bytes w B p n) (hB : B ≤ b) (hm : 0 ≤ m) (hm2 : m ≤ 1000000000) :
    Calls Try.prog 170 #[.pointer (some ⟨b, 0, none⟩), .int .i64 m] w fun e w' => ∃ r, e = .returned (.int .i64 r) ∧ -m ≤ r ∧ r ≤ m ∧ Src w' b p n q ∧ Bytes w' B p n ∧ Frame b (b + 1) w w' := by
  go_enter Try.func170, Try.ntmps170
  go_wp2_with fail
  refine (l01Next_any b B p n q (2 * m + 1) w hs hb hB (by omega) (by omega)).mono ?_
  rintro e w1 ⟨r, rfl, hr1, hr2, hs1, hf1⟩
  have hb1 := hb.frame hf1 hB
  go_wp2
  go_ret
  exact ⟨r - m, rfl, by omega, by omega, hs1, hb1, hf1⟩
end
end

section
open Go.RowKit Go.ChangeShapes Go.Sort
set_option linter.unusedVariables false
set_option linter.unusedSimpArgs false
theorem Src.keepF {w w' : World} {b lo hi : Nat} {p : Option Addr} {n q : Nat} (h : Src w b p n q) (hf : Frame lo hi w w') (hd : b < lo ∨ hi ≤ b) : Src w' b p n q := by
  obtain ⟨a, x, h1, h2, h3, h4⟩ := h
  exact ⟨a, x, h1, h2, h3, h4.keepF hf hd⟩
theorem Bytes.frameG {w w' : World} {B lo hi : Nat} {p : Option Addr} {n : Nat} (h : Bytes w B p n) (hf : Frame lo hi w w') (hB : B ≤ lo) : Bytes w' B p n :=
  ⟨h.1, fun j hj => by
    obtain ⟨g, off, c, e, h1, h2, h3, h4⟩ := h.2 j hj
    exact ⟨g, off, c, e, h1, Nat.lt_of_lt_of_le h2 hf.size, (hf.cell (p := ⟨g, off + j, none⟩) h2 (.inl (by show g < lo; omega))).trans h3, h4⟩⟩
section
variable {b B : Nat} {p : Option Addr} {n q : Nat}
set_option maxRecDepth 100000 in
set_option maxHeartbeats 2000000 in
theorem l01DrawOf_any (N : Nat) (m : Int) (w : World) (hs : Src w b p n q) (hb : Bytes w B p n) (hB : B ≤ b) (hN1 : 1 ≤ N) (hN2 : N ≤ 16) (hm : 0 ≤ m) (hm2 : m ≤ 1000000000) :
    Calls Try.prog 204 #[.pointer (some ⟨b, 0, none⟩), .int .i64 (N : Int), .int .i64 m] w fun e w' => ∃ a cap f, e = .returned (.agg #[.int .i64 (N : Int), .slice a (phiN N) cap]) ∧ Sl true w' w.heap.size w'.heap.size (.slice a (phiN N) cap) (phiN N) f ∧ Within f (phiN N) 1000000000 ∧ Src w' b p n q ∧ Bytes w' B p n ∧ Frame b (b + 1) w w' := by
  have hbz := hs.lt
  have hp := phi_le12 N hN2 hN1
  have hp1 := phiN_pos N (by omega) hN1
  have ba := (Below.refl w.heap.size w).alloc (Nat.le_refl _) (.cells #[.int .i64 0, .slice none 0 0] 26)
  have hs0 := hs.keep ba
  have hb0 := hb.below ba
  have bx0 := Box.made2 (w := w) (b := w.heap.size) (v0 := .int .i64 0) (v1 := .slice none 0 0) (t := 26) rfl
  have f0 := (Frame.refl b (b + 1) w).alloc (.cells #[.int .i64 0, .slice none 0 0] 26)
  clear hs hb ba
  go_enter Try.func204, Try.ntmps204
  go_wp2_with fail
  refine (l01Zero_any N (by omega) _).mono ?_
  rintro e w1 ⟨a1, k1, rfl, s1, b1⟩
  have hz1 := b1.size
  simp only [World.size_alloc] at hz1 s1
  have bb := (Below.refl w1.heap.size w1).alloc (Nat.le_refl _) (.cells #[.int .i64 (N : Int), .slice a1 (phiN N) k1] 26)
  have HS := Lib.hid ((hs0.keep b1).keep bb)
  have HB := Lib.hid ((hb0.below b1).below bb)
  have HX0 := Lib.hid ((bx0.keep b1).keep bb)
  have HX1 := Lib.hid (Box.made2 (w := w1) (b := w1.heap.size) (v0 := .int .i64 (N : Int)) (v1 := .slice a1 (phiN N) k1) (t := 26) rfl)
  have HL := Lib.hid (s1.alloc (.cells #[.int .i64 (N : Int), .slice a1 (phiN N) k1] 26))
  have HF := Lib.hid ((f0.trans (Frame.of_below (lo := b) (hi := b + 1) b1 (Nat.le_refl _))).trans (Frame.of_below (lo := b) (hi := b + 1) bb (Nat.le_refl _)))
  clear hs0 hb0 bx0 f0 b1 s1 bb
  go_wp2
  go_loopw [8] (fun s8 wr => ∃ (k : Nat) (f : Nat → Int), k ≤ phiN N ∧ s8 = .int .i64 k ∧ Sl true wr (w.heap.size + 1) w1.heap.size (.slice a1 (phiN N) k1) (phiN N) f ∧ Within f (phiN N) 1000000000 ∧ Box wr w.heap.size [.int .i64 0, .slice none 0 0] ∧ Box wr w1.heap.size [.int .i64 (N : Int), .slice a1 (phiN N) k1] ∧ Src wr b p n q ∧ Bytes wr B p n ∧ Frame b (b + 1) w wr) (fun s8 _ => phiN N - (intOf s8).toNat)
  case atStart => exact ⟨0, fun _ => 0, Nat.zero_le _, rfl, HL.out, fun _ _ => by dsimp only; omega, HX0.out, HX1.out, HS.out, HB.out, HF.out⟩
  case round =>
    clear HS HB HX0 HX1 HL HF
    obtain ⟨k, f, hk, rfl, hl, hw, hx0, hx1, hs, hb, hf⟩ := hrel
    obtain ⟨c0, c1⟩ := hx1.cell2
    have HL := Lib.hid hl
    have HW := Lib.hid hw
    have HX0 := Lib.hid hx0
    have HX1 := Lib.hid hx1
    have HS := Lib.hid hs
    have HB := Lib.hid hb
    have HF := Lib.hid hf
    have hzr := hx1.1
    clear hl hw hx0 hx1 hs hb hf
    by_cases hlt : k < phiN N
    · have hkI : (k : Int) < (phiN N : Int) := by omega
      obtain ⟨g, off, c9, hv, _⟩ := HL.out.at (by omega)
      obtain ⟨rfl, rfl⟩ : a1 = some ⟨g, off, none⟩ ∧ k1 = c9 := by cases hv; exact ⟨rfl, rfl⟩
      clear hv
      obtain ⟨hgl, hgh, _, _, _⟩ := HL.out.known (by omega)
      have hlr := Sl.list wr [0, 1, 1] (by intro x hx; simp only [List.mem_cons, List.not_mem_nil, or_false] at hx; unfold inR; rcases hx with rfl | rfl | rfl <;> omega) (by simp [maxLen])
      simp only [List.map_cons, List.map_nil, List.length_cons, List.length_nil] at hlr
      have HLR := Lib.hid hlr
      clear hlr
      go_wp2_with fail
      go_region_held3 (fun w' => w'.cell? ⟨w1.heap.size, 1, none⟩ = some (.slice (some ⟨g, off, none⟩) (phiN N) k1))
        (first | exact c1 | exact d7 | exact d6 | exact cell_later ((Below.refl _ _).alloc (Nat.le_refl _) _) d6 | exact cell_later (((Below.refl _ _).alloc (Nat.le_refl _) _).drew) c1 | exact cell_later ((Below.refl _ _).alloc (Nat.le_refl _) _) c1 | exact cell_set1 d7 (by omega) | go_keep)
        (first
          | (go_at_call 170; refine (l01DrawPart_any m _ (by first | exact HS.out.keep (Below.refl _ _).drew | exact HS.out.keep (((Below.refl _ _).alloc (Nat.le_refl _) _).drew)) (by first | exact HB.out.below (Below.refl _ _).drew | exact HB.out.below (((Below.refl _ _).alloc (Nat.le_refl _) _).drew)) hB hm hm2).mono ?_; rintro e w6 ⟨r6, rfl, hr61, hr62, hs6, hb6, f6⟩
             have hz6 := f6.size
             try simp only [World.size_drew, World.size_alloc] at hz6
             have d6 : w6.cell? ⟨w1.heap.size, 1, none⟩ = some (.slice (some ⟨g, off, none⟩) (phiN N) k1) := (f6.cell (p := ⟨w1.heap.size, 1, none⟩) (by show w1.heap.size < _; (try simp only [World.size_drew, World.size_alloc]); omega) (.inr (by show b + 1 ≤ w1.heap.size; omega))).trans (by first | exact c1 | exact cell_later (((Below.refl _ _).alloc (Nat.le_refl _) _).drew) c1))
          | (go_at_call 161; refine (l01Pick_any b B p n q _ (by first | exact hs6 | exact hs6.keep ((Below.refl _ _).alloc (Nat.le_refl _) _)) (by first | exact hb6 | exact hb6.below ((Below.refl _ _).alloc (Nat.le_refl _) _)) hB (f := fun j => [0, 1, 1].getD j 0) (by first | exact (HLR.out.drew).keepF f6 (.inr (by omega)) | exact Sl.list w6 [0, 1, 1] (by intro x hx; simp only [List.mem_cons, List.not_mem_nil, or_false] at hx; unfold inR; rcases hx with rfl | rfl | rfl <;> omega) (by simp [maxLen])) (k := 3) (.inr (by omega)) (by omega) (by omega)).mono ?_; rintro e w7 ⟨i7, hi7, rfl, hs7, f7⟩
             have hz7 := f7.size
             try simp only [World.size_drew, World.size_alloc] at hz7
             have d7 : w7.cell? ⟨w1.heap.size, 1, none⟩ = some (.slice (some ⟨g, off, none⟩) (phiN N) k1) := (f7.cell (p := ⟨w1.heap.size, 1, none⟩) (by show w1.heap.size < _; (try simp only [World.size_drew, World.size_alloc]); omega) (.inr (by show b + 1 ≤ w1.heap.size; omega))).trans (by first | exact d6 | exact cell_later ((Below.refl _ _).alloc (Nat.le_refl _) _) d6)
             have FT : Frame b (b + 1) wr w7 := by first | exact ((((Frame.refl b (b + 1) wr).alloc _).drew).trans f6).trans f7 | exact ((((Frame.refl b (b + 1) wr).drew).trans f6).trans ((Frame.refl b (b + 1) w6).alloc _)).trans f7
             have hl7 := HL.out.keepF FT (.inr (by omega))
             obtain ⟨_, _, _, hc7, hzz7⟩ := hl7.known (by omega)
             have hck7 := hc7 k hlt
             have hfr7 := hzz7 rfl (off + k)
             have hx7 : [0, 1, 1].getD i7 0 = (0 : Int) ∨ [0, 1, 1].getD i7 0 = (1 : Int) := by rcases i7 with _ | _ | _ | i7 <;> simp
             generalize ([0, 1, 1] : List Int).getD i7 0 = x7 at *
             have hpr : -1000000000 ≤ r6 * x7 ∧ r6 * x7 ≤ 1000000000 := by rcases hx7 with rfl | rfl <;> omega
             have hwp : IntKind.i64.wrap (r6 * x7) = r6 * x7 := IntWalk.i64_in _ (by omega)
             have HL7 := Lib.hid hl7
             clear hc7 hzz7 hl7 hx7))
      all_goals
        have FS : Frame (w.heap.size + 1) w1.heap.size w7 (w7.setCell ⟨g, off + k, none⟩ (.int .i64 (r6 * x7))) := (Frame.refl _ _ w7).setCell (lo := w.heap.size + 1) (hi := w1.heap.size) hgl hgh _
        go_wp2
        go_roundw
        case rel =>
          refine ⟨k + 1, fun j => if j = k then r6 * x7 else f j, by omega, by go_num, ?_, ?_, ?_, ?_, ?_, ?_, ?_⟩
          · exact ((HL7.out.store (i := k) (by omega) (by unfold inR; omega)).drewN 0).congr (fun j hj => by by_cases e : j = k <;> simp [e])
          · intro j hj
            dsimp only
            by_cases e : j = k
            · rw [if_pos e]; exact hpr
            · rw [if_neg e]; exact HW.out j hj
          · exact (HX0.out.keepF FT (.inr (by omega))).keepF FS (.inl (by omega))
          · exact (HX1.out.keepF FT (.inr (by omega))).keepF FS (.inr (Nat.le_refl _))
          · exact hs7.keepF FS (.inl (by omega))
          · exact (HB.out.frame FT hB).frameG FS (by omega)
          · exact (HF.out.trans FT).setNew (by show w.heap.size ≤ g; omega) _
        case measure => simp [intOf] <;> omega
    · obtain rfl : k = phiN N := by omega
      obtain ⟨d0, d1⟩ := HX0.out.cell2
      have FS : Frame w.heap.size (w.heap.size + 1) wr ((wr.setCell ⟨w.heap.size, 0, none⟩ (.int .i64 (N : Int))).setCell ⟨w.heap.size, 1, none⟩ (.slice a1 (phiN N) k1)) := ((Frame.refl w.heap.size (w.heap.size + 1) wr).setCell (Nat.le_refl _) (Nat.lt_succ_self _) _).setCell (Nat.le_refl _) (Nat.lt_succ_self _) _
      have dz := HX0.out.2.2
      go_wp2
      refine bodyPost_ret (v := .agg #[.int .i64 (N : Int), .slice a1 (phiN N) k1]) (by simp [results, Try.results204, go_sem, d0, d1]) rfl ?_
      refine ⟨_, _, f, rfl, ?_, HW.out, ?_, ?_, ?_⟩
      · exact ((HL.out.setOther (.inl (by show w.heap.size < _; omega)) _).setOther (.inl (by show w.heap.size < _; omega)) _).wide (by omega) (by simp; omega) (Nat.le_refl _)
      · exact HS.out.keepF FS (.inl (by omega))
      · exact HB.out.frameG FS (by omega)
      · exact (HF.out.setNew (Nat.le_refl _) _).setNew (Nat.le_refl _) _
end
end

section
open Go.RowKit Go.ChangeShapes Go.Sort
set_option linter.unusedVariables false
set_option linter.unusedSimpArgs false
section
variable {b B : Nat} {p : Option Addr} {n q : Nat}
set_option maxRecDepth 100000 in
set_option maxHeartbeats 2000000 in
theorem l01Draw_any (w : World) (hs : Src w b p n q) (hb : Bytes w B p n) (hB : B ≤ b) :
    Calls Try.prog 236 #[.pointer (some ⟨b, 0, none⟩)] w fun e w' => ∃ (N : Nat) (a : Option Addr) (cap : Nat) (f : Nat → Int), 1 ≤ N ∧ N ≤ 16 ∧ e = .returned (.agg #[.int .i64 (N : Int), .slice a (phiN N) cap]) ∧ Sl true w' w.heap.size w'.heap.size (.slice a (phiN N) cap) (phiN N) f ∧ Within f (phiN N) 1000000000 ∧ Src w' b p n q ∧ Bytes w' B p n ∧ Frame b (b + 1) w w' := by
  have hbz := hs.lt
  have ba := (Below.refl w.heap.size w).alloc (Nat.le_refl _) (.cells #[.int .i64 0, .slice none 0 0] 26)
  have hs0 := hs.keep ba
  have hb0 := hb.below ba
  have bx0 := Box.made2 (w := w) (b := w.heap.size) (v0 := .int .i64 0) (v1 := .slice none 0 0) (t := 26) rfl
  have f0 := (Frame.refl b (b + 1) w).alloc (.cells #[.int .i64 0, .slice none 0 0] 26)
  clear hs hb ba
  go_enter Try.func236, Try.ntmps236
  go_wp2_with fail
  refine (l01DrawOrder_any _ hs0 hb0 hB).mono ?_
  rintro e w1 ⟨N, rfl, hN1, hN2, hs1, hb1, f1⟩
  have hz1 := f1.size
  simp only [World.size_alloc] at hz1
  have bx1 := bx0.keepF f1 (.inr (by omega))
  have F1 := f0.trans f1
  clear hs0 hb0 bx0 f0 f1
  have hl := Sl.list w1 [1, 2, 3, 9, 1000, 400000000] (by intro x hx; simp only [List.mem_cons, List.not_mem_nil, or_false] at hx; unfold inR; rcases hx with rfl | rfl | rfl | rfl | rfl | rfl <;> omega) (by simp [maxLen])
  have hall : ∀ x ∈ [1, 2, 3, 9, 1000, (400000000 : Int)], 0 ≤ x ∧ x ≤ 1000000000 := by intro x hx; simp only [List.mem_cons, List.not_mem_nil, or_false] at hx; rcases hx with rfl | rfl | rfl | rfl | rfl | rfl <;> omega
  have ba := (Below.refl w1.heap.size w1).alloc (Nat.le_refl _) (.cells ([1, 2, 3, 9, 1000, 400000000].map (Value.int .i64)).toArray 2)
  have hs2 := hs1.keep ba
  have hb2 := hb1.below ba
  have bx2 := bx1.keep ba
  have F2 := F1.alloc (.cells ([1, 2, 3, 9, 1000, 400000000].map (Value.int .i64)).toArray 2)
  simp only [List.map_cons, List.map_nil, List.length_cons, List.length_nil] at hl hs2 hb2 bx2 F2
  have HALL := Lib.hid hall
  clear hall hs1 hb1 bx1 F1 ba
  go_wp2_with fail
  refine (l01Pick_any b B p n q _ hs2 hb2 hB hl (.inr (by omega)) (by omega) (by omega)).mono ?_
  rintro e w2 ⟨i, hi, rfl, hs3, f3⟩
  have hmem : 0 ≤ ([1, 2, 3, 9, 1000, 400000000] : List Int).getD i 0 ∧ ([1, 2, 3, 9, 1000, 400000000] : List Int).getD i 0 ≤ 1000000000 := by
    rw [List.getD_eq_getElem?_getD, List.getElem?_eq_getElem (by simpa using hi)]
    exact HALL.out _ (List.getElem_mem _)
  generalize ([1, 2, 3, 9, 1000, 400000000] : List Int).getD i 0 = x at *
  have hz3 := f3.size
  simp only [World.size_alloc] at hz3
  have hb3 := hb2.frame f3 hB
  have bx3 := bx2.keepF f3 (.inr (by omega))
  have F3 := F2.trans f3
  clear hb2 bx2 F2 f3 hs2 hl
  go_wp2_with fail
  refine (l01DrawOf_any N x _ hs3 hb3 hB hN1 hN2 hmem.1 hmem.2).mono ?_
  rintro e w4 ⟨a4, k4, f, rfl, s4, hw4, hs4, hb4, f4⟩
  have hz4 := f4.size
  have bx4 := bx3.keepF f4 (.inr (by omega))
  have F4 := F3.trans f4
  have S4 := Lib.hid s4
  have HS4 := Lib.hid hs4
  have HB4 := Lib.hid hb4
  have hw := Lib.hid hw4
  clear hs3 hb3 bx3 F3 f4 s4 hs4 hb4 hw4
  obtain ⟨d0, d1⟩ := bx4.cell2
  have dz := bx4.2.2
  have hbx := bx4.1
  clear bx4
  have FS : Frame w.heap.size (w.heap.size + 1) w4 ((w4.setCell ⟨w.heap.size, 0, none⟩ (.int .i64 (N : Int))).setCell ⟨w.heap.size, 1, none⟩ (.slice a4 (phiN N) k4)) := ((Frame.refl w.heap.size (w.heap.size + 1) w4).setCell (Nat.le_refl _) (Nat.lt_succ_self _) _).setCell (Nat.le_refl _) (Nat.lt_succ_self _) _
  go_wp2
  refine bodyPost_ret (v := .agg #[.int .i64 (N : Int), .slice a4 (phiN N) k4]) (by simp [results, Try.results236, go_sem, d0, d1]) rfl ?_
  refine ⟨N, _, _, f, hN1, hN2, rfl, ?_, hw.out, ?_, ?_, ?_⟩
  · exact ((S4.out.setOther (.inl (by show w.heap.size < _; omega)) _).setOther (.inl (by show w.heap.size < _; omega)) _).wide (by omega) (by simp) (Nat.le_refl _)
  · exact HS4.out.keepF FS (.inl (by omega))
  · exact HB4.out.frameG FS (by omega)
  · exact (F4.setNew (Nat.le_refl _) _).setNew (Nat.le_refl _) _
end
end

section
open Go.RowKit Go.ChangeShapes Go.Sort
set_option linter.unusedVariables false
set_option linter.unusedSimpArgs false

/-- The source lies in the block b, its bytes below B; boxes and slices lie apart from it. -/
def Ds (b B : Nat) (p : Option Addr) (n q : Nat) (W w : World) (bs : List (Nat × List Value)) (ss : List SlF) : Prop :=
  Frame b (b + 1) W w ∧ Src w b p n q ∧ Bytes w B p n ∧ (B ≤ b ∧ B ≤ W.heap.size) ∧ (∀ x ∈ bs, Box w x.1 x.2 ∧ x.1 ≠ b) ∧ (∀ s ∈ ss, Sl s.o w s.lo s.hi s.v s.n s.f ∧ (s.hi ≤ b ∨ b + 1 ≤ s.lo))
theorem Frame.set {lo hi g o : Nat} {a w : World} (h : Frame lo hi a w) (hl : lo ≤ g) (hh : g < hi) (u : Value) : Frame lo hi a (w.setCell ⟨g, o, none⟩ u) := h.setCell (p := ⟨g, o, none⟩) hl hh u
section
variable {b B : Nat} {p : Option Addr} {n q : Nat} {W w w' : World} {bs : List (Nat × List Value)} {ss : List SlF}
theorem Ds.start (hs : Src W b p n q) (hb : Bytes W B p n) (hB : B ≤ b) : Ds b B p n q W W [] [] :=
  ⟨Frame.refl _ _ _, hs, hb, ⟨hB, Nat.le_of_lt (Nat.lt_of_le_of_lt hB hs.lt)⟩, (fun _ h => absurd h List.not_mem_nil), (fun _ h => absurd h List.not_mem_nil)⟩
theorem Ds.src (h : Ds b B p n q W w bs ss) : Src w b p n q := h.2.1
theorem Ds.bytes (h : Ds b B p n q W w bs ss) : Bytes w B p n := h.2.2.1
theorem Ds.low (h : Ds b B p n q W w bs ss) : B ≤ b := h.2.2.2.1.1
theorem Ds.at (hB : B ≤ W.heap.size) (h0 : Below W.heap.size W w) (hs : Src w b p n q) (hb : Bytes w B p n) (hBb : B ≤ b) : Ds b B p n q W w [] [] :=
  ⟨Frame.of_below h0 (Nat.le_refl _), hs, hb, ⟨hBb, hB⟩, (fun _ h => absurd h List.not_mem_nil), (fun _ h => absurd h List.not_mem_nil)⟩
theorem Ds.below (h : Ds b B p n q W w bs ss) (hb : W.heap.size ≤ b) : Below W.heap.size W w := h.1.below hb (Nat.le_refl _)
theorem Ds.lt (h : Ds b B p n q W w bs ss) : b < w.heap.size := h.2.1.lt
theorem Ds.frame (h : Ds b B p n q W w bs ss) : Frame b (b + 1) W w := h.1
theorem Ds.size (h : Ds b B p n q W w bs ss) : W.heap.size ≤ w.heap.size := h.1.size
theorem Ds.box (h : Ds b B p n q W w bs ss) (i : Nat) (x : Nat × List Value) (hi : bs[i]? = some x) : Box w x.1 x.2 := (h.2.2.2.2.1 x (List.mem_of_getElem? hi)).1
theorem Ds.sl (h : Ds b B p n q W w bs ss) (i : Nat) (s : SlF) (hi : ss[i]? = some s) : Sl s.o w s.lo s.hi s.v s.n s.f := (h.2.2.2.2.2 s (List.mem_of_getElem? hi)).1
theorem Ds.apart (h : Ds b B p n q W w bs ss) (i : Nat) (s : SlF) (hi : ss[i]? = some s) : s.hi ≤ b ∨ b + 1 ≤ s.lo := (h.2.2.2.2.2 s (List.mem_of_getElem? hi)).2
theorem Ds.keep (h : Ds b B p n q W w bs ss) (hb : Below w.heap.size w w') : Ds b B p n q W w' bs ss :=
  ⟨h.1.trans (Frame.of_below hb (Nat.le_refl _)), h.2.1.keep hb, h.2.2.1.below hb, h.2.2.2.1, fun x hx => ⟨(h.2.2.2.2.1 x hx).1.keep hb, (h.2.2.2.2.1 x hx).2⟩, fun s hs => ⟨(h.2.2.2.2.2 s hs).1.keep hb (h.2.2.2.2.2 s hs).1.size, (h.2.2.2.2.2 s hs).2⟩⟩
/-- A number has been drawn. -/
theorem Ds.draw (h : Ds b B p n q W w bs ss) (hs : Src w' b p n q) (hf : Frame b (b + 1) w w') : Ds b B p n q W w' bs ss :=
  ⟨h.1.trans hf, hs, h.2.2.1.frame hf h.low, h.2.2.2.1, fun x hx => ⟨(h.2.2.2.2.1 x hx).1.keepF hf (by have := (h.2.2.2.2.1 x hx).2; omega), (h.2.2.2.2.1 x hx).2⟩, fun s hs => ⟨(h.2.2.2.2.2 s hs).1.keepF hf (h.2.2.2.2.2 s hs).2, (h.2.2.2.2.2 s hs).2⟩⟩
theorem Ds.alloc (h : Ds b B p n q W w bs ss) (o : Obj) : Ds b B p n q W (w.alloc o) bs ss := h.keep ((Below.refl _ _).alloc (Nat.le_refl _) _)
theorem Ds.drew (h : Ds b B p n q W w bs ss) : Ds b B p n q W w.drew bs ss := h.keep (Below.refl _ _).drew
theorem Ds.addSl (h : Ds b B p n q W w bs ss) (s : SlF) (hs : Sl s.o w s.lo s.hi s.v s.n s.f) (ha : s.hi ≤ b ∨ b + 1 ≤ s.lo) : Ds b B p n q W w bs (s :: ss) :=
  ⟨h.1, h.2.1, h.2.2.1, h.2.2.2.1, h.2.2.2.2.1, fun x hx => by
    rcases List.mem_cons.1 hx with rfl | hx
    · exact ⟨hs, ha⟩
    · exact h.2.2.2.2.2 x hx⟩
theorem Ds.addBox (h : Ds b B p n q W w bs ss) (c : Nat) (vs : List Value) (hb : Box w c vs) (hc : c ≠ b) : Ds b B p n q W w ((c, vs) :: bs) ss :=
  ⟨h.1, h.2.1, h.2.2.1, h.2.2.2.1, fun x hx => by
    rcases List.mem_cons.1 hx with rfl | hx
    · exact ⟨hb, hc⟩
    · exact h.2.2.2.2.1 x hx, h.2.2.2.2.2⟩
/-- A new box. -/
theorem Ds.newBox (h : Ds b B p n q W w bs ss) (vs : List Value) (t : TypeId) : Ds b B p n q W (w.alloc (.cells vs.toArray t)) ((w.heap.size, vs) :: bs) ss :=
  (h.alloc _).addBox _ _ (Box.made _ _ _ _ (fun j v h => by simpa using h)) (by have := h.lt; omega)
/-- Cells of a block of the call's own are written. -/
theorem Ds.write (h : Ds b B p n q W w bs ss) {lo hi : Nat} (hf : Frame lo hi w w') (hlo : W.heap.size ≤ lo) (hbl : b < lo ∨ hi ≤ b) (bs' : List (Nat × List Value)) (ss' : List SlF) (hbs : ∀ x ∈ bs', x ∈ bs ∧ (x.1 < lo ∨ hi ≤ x.1)) (hss : ∀ s ∈ ss', s ∈ ss ∧ (s.hi ≤ lo ∨ hi ≤ s.lo)) : Ds b B p n q W w' bs' ss' :=
  ⟨⟨hf.os.trans h.1.os, hf.tape.trans h.1.tape, hf.output.trans h.1.output, Nat.le_trans h.1.size hf.size, fun k hk hd => (hf.block k (Nat.lt_of_lt_of_le hk h.1.size) (.inl (by omega))).trans (h.1.block k hk hd)⟩, h.2.1.keepF hf hbl, h.2.2.1.frameG hf (by have := h.2.2.2.1.2; omega), h.2.2.2.1, fun x hx => ⟨(h.2.2.2.2.1 x (hbs x hx).1).1.keepF hf (hbs x hx).2, (h.2.2.2.2.1 x (hbs x hx).1).2⟩, fun s hs => ⟨(h.2.2.2.2.2 s (hss s hs).1).1.keepF hf (hss s hs).2, (h.2.2.2.2.2 s (hss s hs).1).2⟩⟩
end
end

section
open Go.RowKit Go.ChangeShapes Go.Sort
set_option linter.unusedVariables false
set_option linter.unusedSimpArgs false
set_option maxHeartbeats 400000 in
/-- A copy of a list that is not empty, as a list that grows. -/
theorem l01Own_row {o : Bool} {lo hi n : Nat} {v : Value} {f : Nat → Int} (w : World) (hs : Sl o w lo hi v n f) (h0 : 0 < n) (hn : n ≤ 1048576) :
    Calls Try.prog 220 #[v] w fun e w' => ∃ g' cap', e = .returned (.slice (some ⟨g', 0, none⟩) n cap') ∧ Row w' w.heap.size g' cap' n f ∧ Below w.heap.size w w' := by
  have hbd := hs.bd
  obtain ⟨i0, hi, hz0, hz1, hz2⟩ := info_parts Try.info2
  have hrow := World.ownsRow_made (e := 2) (size := 1) (base := w.heap.size) w #[] 0 (Nat.le_refl _) (Nat.zero_le _) rfl
  rcases hs.parts with ⟨rfl, rfl⟩ | ⟨ad, cap, rfl, hcell⟩
  · exact absurd h0 (Nat.lt_irrefl _)
  · have hm := hs.len
    have HS := Lib.hid hs; clear hs
    have HC := Lib.hid (fun j u hu => cell_later ((Below.refl w.heap.size w).alloc (Nat.le_refl _) (.cells #[] 2)) (hcell j u hu)); clear hcell
    have HB := Lib.hid hbd; clear hbd
    have HR := Lib.hid hrow; clear hrow
    go_enter Try.func220, Try.ntmps220
    go_wp2_with (at_builtin; refine wpList_append_own _ rfl (.tmp 3) (.tmp 4) 24 rfl w.heap.size 2 i0 (.int .i64 0) 1 8 Try.underlying24 hi hz0 hz1 hz2 rfl (by decide) _ 0 [] rfl HR.out ad n cap ((List.range n).map (fun j => Value.int .i64 (f j))) rfl (by simp) HC.out (fun x hx => by obtain ⟨j, _, rfl⟩ := List.mem_map.1 hx; rfl) (by omega) (by omega) (by simp) ?_; intro v' w1 hown hgrow _)
    go_ret
    simp only [Nat.zero_add, List.nil_append] at hown
    obtain ⟨g1, cap1, rfl, _, _⟩ := hown.form h0
    exact ⟨g1, cap1, rfl, hown, ((Below.refl _ _).alloc (Nat.le_refl _) _).grown hgrow (by simp) (fun k hk => by cases hk; exact Nat.le_refl _)⟩
/-- A number has been drawn, or something that is none: its Parts lie from the block lo on. -/
def DrC (b : Nat) (p : Option Addr) (n q lo M : Nat) (w : World) (e : Ending) (w' : World) : Prop :=
  ∃ (x : Int) (L : Nat) (a : Option Addr) (cap : Nat) (f : Nat → Int) (lo' hi' : Nat), e = .returned (.agg #[.int .i64 x, .slice a L cap]) ∧ inR x ∧ 0 < L ∧ L ≤ M ∧ Sl false w' lo' hi' (.slice a L cap) L f ∧ lo ≤ lo' ∧ Src w' b p n q ∧ Frame b (b + 1) w w'
theorem Row.sl {w : World} {base g cap n : Nat} {f : Nat → Int} (h : Row w base g cap n f) (hr : ∀ j, j < n → inR (f j)) (hm : n ≤ maxLen) : Sl true w base w.heap.size (.slice (some ⟨g, 0, none⟩) n cap) n f :=
  Sl.ofRowF h hr hm
section
variable {b B : Nat} {p : Option Addr} {n q : Nat} {o : Bool} {lo hi L : Nat} {v : Value} {f : Nat → Int}
set_option maxRecDepth 100000 in
set_option maxHeartbeats 4000000 in
theorem l01Bad_any (x : Int) (w : World) (hs : Src w b p n q) (hb : Bytes w B p n) (hB : B ≤ b) (hx : inR x) (hl : Sl o w lo hi v L f) (hlo : b + 1 ≤ lo) (hL0 : 0 < L) (hL : L ≤ 1000) :
    Calls Try.prog 203 #[.pointer (some ⟨b, 0, none⟩), .agg #[.int .i64 x, v]] w (DrC b p n q lo (L + 1) w) := by
  obtain ⟨av, cv, rfl⟩ := hl.shape
  have hlh : lo < hi := by obtain ⟨g, off, cap, _, h1, h2, _⟩ := hl.at hL0; omega
  have hbz := hs.lt
  have hlz := hl.size
  have st0 := (((Ds.start hs hb hB).addSl ⟨o, lo, hi, .slice av L cv, L, f⟩ hl (.inr hlo)).newBox [.int .i64 x, .slice av L cv] 26).newBox [.int .i64 0, .slice none 0 0] 26
  simp only [World.size_alloc] at st0
  clear hs hb hl
  go_enter Try.func203, Try.ntmps203
  go_wp2_with fail
  refine (l01Next_any b B p n q 50 _ st0.src st0.bytes hB (by omega) (by omega)).mono ?_
  rintro e w1 ⟨r, rfl, hr1, hr2, hs1, f1⟩
  have hz1 := f1.size
  simp only [World.size_alloc] at hz1
  have st1 := st0.draw hs1 f1
  clear st0 hs1 f1
  obtain ⟨c0, c1⟩ := (st1.box 1 (w.heap.size, [.int .i64 x, .slice av L cv]) rfl).cell2
  have cz := (st1.box 1 (w.heap.size, [.int .i64 x, .slice av L cv]) rfl).2.2
  obtain ⟨d0, d1⟩ := (st1.box 0 (w.heap.size + 1, [.int .i64 0, .slice none 0 0]) rfl).cell2
  have dz := (st1.box 0 (w.heap.size + 1, [.int .i64 0, .slice none 0 0]) rfl).2.2
  dsimp only at cz dz
  have ST := Lib.hid st1
  by_cases h0 : r = 0
  · subst h0
    have hl2 := Sl.list w1 [0, 17, -1] (by intro x hx; simp only [List.mem_cons, List.not_mem_nil, or_false] at hx; unfold inR; rcases hx with rfl | rfl | rfl <;> omega) (by simp [maxLen])
    have st2 := st1.alloc (.cells ([0, 17, -1].map (Value.int .i64)).toArray 2)
    simp only [List.map_cons, List.map_nil, List.length_cons, List.length_nil] at hl2 st2
    have hall : ∀ x ∈ [0, 17, (-1 : Int)], inR x := by intro x hx; simp only [List.mem_cons, List.not_mem_nil, or_false] at hx; unfold inR; rcases hx with rfl | rfl | rfl <;> omega
    have HALL := Lib.hid hall
    clear hall st1
    go_wp2_with fail
    refine (l01Pick_any b B p n q _ st2.src st2.bytes hB hl2 (.inr (by omega)) (by omega) (by omega)).mono ?_
    rintro e w2 ⟨i, hi', rfl, hs3, f3⟩
    have hmem : inR (([0, 17, -1] : List Int).getD i 0) := by
      rw [List.getD_eq_getElem?_getD, List.getElem?_eq_getElem (by simpa using hi')]
      exact HALL.out _ (List.getElem_mem _)
    generalize ([0, 17, -1] : List Int).getD i 0 = y at *
    have hz3 := f3.size
    simp only [World.size_alloc] at hz3
    have st3 := st2.draw hs3 f3
    have HY := Lib.hid hmem
    clear st2 hs3 f3 hl2 c0 c1 cz d0 d1 dz hmem
    obtain ⟨c0, c1⟩ := (st3.box 1 (w.heap.size, [.int .i64 x, .slice av L cv]) rfl).cell2
    have cz := (st3.box 1 (w.heap.size, [.int .i64 x, .slice av L cv]) rfl).2.2
    obtain ⟨d0, d1⟩ := (st3.box 0 (w.heap.size + 1, [.int .i64 0, .slice none 0 0]) rfl).cell2
    have dz := (st3.box 0 (w.heap.size + 1, [.int .i64 0, .slice none 0 0]) rfl).2.2
    dsimp only at cz dz
    have ST3 := Lib.hid st3
    clear st3
    go_wp2
    refine bodyPost_ret (v := .agg #[.int .i64 y, .slice av L cv]) (by simp [results, Try.results203, go_sem, d0, d1]) rfl ?_
    have FS : Frame w.heap.size (w.heap.size + 1 + 1) w2 (((w2.setCell ⟨w.heap.size, 0, none⟩ (.int .i64 y)).setCell ⟨w.heap.size + 1, 0, none⟩ (.int .i64 y)).setCell ⟨w.heap.size + 1, 1, none⟩ (.slice av L cv)) := (((Frame.refl _ _ w2).set (by omega) (by omega) _).set (by omega) (by omega) _).set (by omega) (by omega) _
    have st4 := ST3.out.write FS (Nat.le_refl _) (.inl hbz) [] [⟨o, lo, hi, .slice av L cv, L, f⟩] (fun x hx => by cases hx) (fun s hs => ⟨hs, by obtain rfl := List.mem_singleton.1 hs; exact .inl (by dsimp only; omega)⟩)
    exact ⟨y, L, av, cv, f, lo, hi, rfl, HY.out, hL0, by omega, (st4.sl 0 ⟨o, lo, hi, .slice av L cv, L, f⟩ rfl).rd, Nat.le_refl _, st4.src, st4.frame⟩
  · by_cases h1 : r = 1
    · subst h1
      have hs1 := st1.sl 0 ⟨o, lo, hi, .slice av L cv, L, f⟩ rfl
      dsimp only at hs1
      have HS1 := Lib.hid hs1
      clear st1 hs1
      go_wp2_with fail
      refine (l01Own_row _ HS1.out hL0 (by omega)).mono ?_
      rintro e w2 ⟨g2, k2, rfl, row2, b2⟩
      have hz2 := b2.size
      have st2 := ST.out.keep b2
      clear c0 c1 cz d0 d1 dz
      obtain ⟨c0, c1⟩ := (st2.box 1 (w.heap.size, [.int .i64 x, .slice av L cv]) rfl).cell2
      have cz := (st2.box 1 (w.heap.size, [.int .i64 x, .slice av L cv]) rfl).2.2
      obtain ⟨d0, d1⟩ := (st2.box 0 (w.heap.size + 1, [.int .i64 0, .slice none 0 0]) rfl).cell2
      have dz := (st2.box 0 (w.heap.size + 1, [.int .i64 0, .slice none 0 0]) rfl).2.2
      dsimp only at cz dz
      have ST2 := Lib.hid st2
      have R2 := Lib.hid row2
      have hg2 := row2.lt
      have c0' := cell_later ((Below.refl w2.heap.size w2).alloc (Nat.le_refl _) (.cells #[.int .i64 0] 2)) c0
      clear st2 row2 b2
      go_wp2_with (at_builtin; refine wpList_push rfl (.tmp 17) (.tmp 18) rfl rfl w1.heap.size g2 k2 L f rfl (R2.out.alloc _) w2.heap.size 0 rfl (heap_alloc_new w2 _) (by omega) ?_; intro gA kA wA rowA grA orA ltA
                   have st5 := (ST2.out.alloc (.cells #[.int .i64 0] 2)).write (Frame.ofGrown grA) (by omega) (by omega) [(w.heap.size + 1, [.int .i64 0, .slice none 0 0]), (w.heap.size, [.int .i64 x, .slice av L cv])] [⟨o, lo, hi, .slice av L cv, L, f⟩] (fun x hx => ⟨hx, by simp only [List.mem_cons, List.not_mem_nil, or_false] at hx; rcases hx with rfl | rfl <;> exact .inl (by dsimp only; omega)⟩) (fun s hs => ⟨hs, by obtain rfl := List.mem_singleton.1 hs; exact .inl (by dsimp only; omega)⟩)
                   clear c0 c1 cz d0 d1 dz c0'
                   obtain ⟨c0, c1⟩ := (st5.box 1 (w.heap.size, [.int .i64 x, .slice av L cv]) rfl).cell2
                   have cz := (st5.box 1 (w.heap.size, [.int .i64 x, .slice av L cv]) rfl).2.2
                   obtain ⟨d0, d1⟩ := (st5.box 0 (w.heap.size + 1, [.int .i64 0, .slice none 0 0]) rfl).cell2
                   have dz := (st5.box 0 (w.heap.size + 1, [.int .i64 0, .slice none 0 0]) rfl).2.2
                   dsimp only at cz dz
                   have ST5 := Lib.hid st5
                   have RA := Lib.hid rowA
                   have hzA := grA.size
                   simp only [World.size_alloc] at hzA
                   clear st5 rowA grA orA)
      refine bodyPost_ret (v := .agg #[.int .i64 x, .slice (some ⟨gA, 0, none⟩) (L + 1) kA]) (by simp [results, Try.results203, go_sem, d0, d1]) rfl ?_
      have hbd : ∀ j, j < L + 1 → inR (if j < L then f j else 0) := fun j hj => by
        by_cases e : j < L
        · rw [if_pos e]; exact HS1.out.bd j e
        · rw [if_neg e]; unfold inR; omega
      have sA := (RA.out.sl hbd (by unfold maxLen; omega)).rd
      have st6 := ST5.out.addSl ⟨false, w1.heap.size, wA.heap.size, .slice (some ⟨gA, 0, none⟩) (L + 1) kA, L + 1, fun j => if j < L then f j else 0⟩ sA (.inr (by dsimp only; omega))
      have FS : Frame w.heap.size (w.heap.size + 1 + 1) wA (((wA.setCell ⟨w.heap.size, 1, none⟩ (.slice (some ⟨gA, 0, none⟩) (L + 1) kA)).setCell ⟨w.heap.size + 1, 0, none⟩ (.int .i64 x)).setCell ⟨w.heap.size + 1, 1, none⟩ (.slice (some ⟨gA, 0, none⟩) (L + 1) kA)) := (((Frame.refl _ _ wA).set (by omega) (by omega) _).set (by omega) (by omega) _).set (by omega) (by omega) _
      have st7 := st6.write FS (Nat.le_refl _) (.inl hbz) [] [⟨false, w1.heap.size, wA.heap.size, .slice (some ⟨gA, 0, none⟩) (L + 1) kA, L + 1, fun j => if j < L then f j else 0⟩] (fun x hx => by cases hx) (fun s hs => ⟨List.mem_cons.2 (.inl (List.mem_singleton.1 hs)), by obtain rfl := List.mem_singleton.1 hs; exact .inr (by dsimp only; omega)⟩)
      exact ⟨x, L + 1, _, kA, _, _, _, rfl, hx, by omega, Nat.le_refl _, st7.sl 0 _ rfl, by show lo ≤ w1.heap.size; omega, st7.src, st7.frame⟩
    · by_cases h2 : r = 2
      · subst h2
        have hs1 := st1.sl 0 ⟨o, lo, hi, .slice av L cv, L, f⟩ rfl
        dsimp only at hs1
        have HS1 := Lib.hid hs1
        clear st1 hs1
        go_wp2_with fail
        refine (l01Own_row _ HS1.out hL0 (by omega)).mono ?_
        rintro e w2 ⟨g2, k2, rfl, row2, b2⟩
        have hz2 := b2.size
        have hg2 := row2.lt
        have st2 := (ST.out.keep b2).addSl ⟨true, w1.heap.size, w2.heap.size, .slice (some ⟨g2, 0, none⟩) L k2, L, f⟩ (row2.sl HS1.out.bd (by unfold maxLen; omega)) (.inr (by show b + 1 ≤ w1.heap.size; omega))
        clear c0 c1 cz d0 d1 dz row2 b2
        have bx3 := (st2.box 1 (w.heap.size, [.int .i64 x, .slice av L cv]) rfl)
        dsimp only at bx3
        obtain ⟨c0, c1⟩ := bx3.cell2
        have cz := bx3.2.2
        have bx3' := bx3.set (i := 1) (u := .slice (some ⟨g2, 0, none⟩) L k2) (by simp)
        have st3 := (st2.write (lo := w.heap.size) (hi := w.heap.size + 1) ((Frame.refl _ _ w2).set (o := 1) (Nat.le_refl _) (Nat.lt_succ_self _) (.slice (some ⟨g2, 0, none⟩) L k2)) (Nat.le_refl _) (.inl hbz) [(w.heap.size + 1, [.int .i64 0, .slice none 0 0])] [⟨true, w1.heap.size, w2.heap.size, .slice (some ⟨g2, 0, none⟩) L k2, L, f⟩] (fun x hx => ⟨by simp at hx ⊢; exact .inl hx, by obtain rfl := List.mem_singleton.1 hx; exact .inr (Nat.le_refl _)⟩) (fun s hs => ⟨by simp at hs ⊢; exact .inl hs, by obtain rfl := List.mem_singleton.1 hs; exact .inr (by dsimp only; omega)⟩)).addBox _ _ bx3' (by omega)
        have hl3 := (Sl.list (w2.setCell ⟨w.heap.size, 1, none⟩ (.slice (some ⟨g2, 0, none⟩) L k2)) [1000000001, -1000000001, 1099511627776] (by intro x hx; simp only [List.mem_cons, List.not_mem_nil, or_false] at hx; unfold inR; rcases hx with rfl | rfl | rfl <;> omega) (by simp [maxLen])).drew
        have st4 := (st3.alloc (.cells ([1000000001, -1000000001, 1099511627776].map (Value.int .i64)).toArray 2)).drew
        simp only [List.map_cons, List.map_nil, List.length_cons, List.length_nil, List.set_cons_succ, List.set_cons_zero, World.size_setCell] at hl3 st4 st3
        have hall : ∀ x ∈ [1000000001, -1000000001, (1099511627776 : Int)], inR x := by intro x hx; simp only [List.mem_cons, List.not_mem_nil, or_false] at hx; unfold inR; rcases hx with rfl | rfl | rfl <;> omega
        have HALL := Lib.hid hall
        have HL3 := Lib.hid hl3
        have ST4 := Lib.hid st4
        have c2 := (st3.box 0 (w.heap.size, [.int .i64 x, .slice (some ⟨g2, 0, none⟩) L k2]) rfl).cell2.2
        dsimp only at c2
        have C2 := Lib.hid c2
        clear hall hl3 st4 st3 st2 bx3 bx3' c2
        go_wp2_with fail
        have c1 := C2.out
        go_region_held3 (fun w' => w'.cell? ⟨w.heap.size, 1, none⟩ = some (.slice (some ⟨g2, 0, none⟩) L k2))
          (first | exact c1 | exact d6 | exact (World.cell?_setCell_other _ _ _ _ (by intro e; have := congrArg Addr.block e; dsimp only at this; omega)).trans d6 | exact cell_later ((Below.refl _ _).alloc (Nat.le_refl _) _) c1 | exact cell_later (((Below.refl _ _).alloc (Nat.le_refl _) _).drew) c1 | exact cell_later (Below.refl _ _).drew c1 | go_keep)
          (first
            | (go_at_call 161; refine (l01Pick_any b B p n q _ ST4.out.src ST4.out.bytes hB HL3.out (.inr (by omega)) (by omega) (by omega)).mono ?_; rintro e w6 ⟨i, hi', rfl, hs6, f6⟩
               have hz6 := f6.size
               try simp only [World.size_drew, World.size_alloc, World.size_setCell] at hz6
               have st6 := ST4.out.draw hs6 f6
               have d6 := (st6.box 0 (w.heap.size, [.int .i64 x, .slice (some ⟨g2, 0, none⟩) L k2]) rfl).cell2.2
               dsimp only at d6
               have hmem : inR (([1000000001, -1000000001, 1099511627776] : List Int).getD i 0) := by
                 rw [List.getD_eq_getElem?_getD, List.getElem?_eq_getElem (by simpa using hi')]
                 exact HALL.out _ (List.getElem_mem _)
               generalize ([1000000001, -1000000001, 1099511627776] : List Int).getD i 0 = y at *
               have HY := Lib.hid hmem
               obtain ⟨_, _, _, hc7, hzz7⟩ := (st6.sl 0 ⟨true, w1.heap.size, w2.heap.size, .slice (some ⟨g2, 0, none⟩) L k2, L, f⟩ rfl).known hL0
               have hck7 := hc7 0 hL0
               have hfr7 := hzz7 rfl 0
               rw [Nat.add_zero] at hck7
               dsimp only at hck7 hfr7
               have ST6 := Lib.hid st6
               clear hc7 hzz7 st6 hmem))
        all_goals
          have st6 := ST6.out
          have sA := (st6.sl 0 ⟨true, w1.heap.size, w2.heap.size, .slice (some ⟨g2, 0, none⟩) L k2, L, f⟩ rfl).store0 (i := 0) (x := y) hL0 HY.out
          have st7 := (st6.write (lo := w1.heap.size) (hi := w2.heap.size) ((Frame.refl _ _ w6).set (g := g2) (o := 0) (by omega) (by omega) (.int .i64 y)) (by omega) (by omega) [(w.heap.size, [.int .i64 x, .slice (some ⟨g2, 0, none⟩) L k2]), (w.heap.size + 1, [.int .i64 0, .slice none 0 0])] [] (fun x hx => ⟨hx, by simp only [List.mem_cons, List.not_mem_nil, or_false] at hx; rcases hx with rfl | rfl <;> exact .inl (by dsimp only; omega)⟩) (fun s hs => by cases hs)).addSl ⟨true, w1.heap.size, w2.heap.size, .slice (some ⟨g2, 0, none⟩) L k2, L, fun j => if j = 0 then y else f j⟩ sA (.inr (by show b + 1 ≤ w1.heap.size; omega))
          obtain ⟨c0, c1⟩ := (st7.box 0 (w.heap.size, [.int .i64 x, .slice (some ⟨g2, 0, none⟩) L k2]) rfl).cell2
          have cz := (st7.box 0 (w.heap.size, [.int .i64 x, .slice (some ⟨g2, 0, none⟩) L k2]) rfl).2.2
          obtain ⟨d0, d1⟩ := (st7.box 1 (w.heap.size + 1, [.int .i64 0, .slice none 0 0]) rfl).cell2
          have dz := (st7.box 1 (w.heap.size + 1, [.int .i64 0, .slice none 0 0]) rfl).2.2
          dsimp only at c0 c1 d0 d1 cz dz
          have ST7 := Lib.hid st7
          clear st6 st7 sA
          go_wp2
          refine bodyPost_ret (v := .agg #[.int .i64 x, .slice (some ⟨g2, 0, none⟩) L k2]) (by simp [results, Try.results203, go_sem, d0, d1]) rfl ?_
          have FS : Frame w.heap.size (w.heap.size + 1 + 1) (w6.setCell ⟨g2, 0, none⟩ (.int .i64 y)) (((w6.setCell ⟨g2, 0, none⟩ (.int .i64 y)).setCell ⟨w.heap.size + 1, 0, none⟩ (.int .i64 x)).setCell ⟨w.heap.size + 1, 1, none⟩ (.slice (some ⟨g2, 0, none⟩) L k2)) := ((Frame.refl _ _ _).set (by omega) (by omega) _).set (by omega) (by omega) _
          have st8 := ST7.out.write FS (Nat.le_refl _) (.inl hbz) [] [⟨true, w1.heap.size, w2.heap.size, .slice (some ⟨g2, 0, none⟩) L k2, L, fun j => if j = 0 then y else f j⟩] (fun x hx => by cases hx) (fun s hs => ⟨List.mem_cons.2 (.inl (List.mem_singleton.1 hs)), by obtain rfl := List.mem_singleton.1 hs; exact .inr (by dsimp only; omega)⟩)
          exact ⟨x, L, _, k2, _, _, _, rfl, hx, hL0, by omega, (st8.sl 0 _ rfl).rd, by show lo ≤ w1.heap.size; omega, st8.src, st8.frame⟩
      · have e0 : (r == 0) = false := by simpa using h0
        have e1 : (r == 1) = false := by simpa using h1
        have e2 : (r == 2) = false := by simpa using h2
        clear st1
        go_wp2
        refine bodyPost_ret (v := .agg #[.int .i64 x, .slice av L cv]) (by simp [results, Try.results203, go_sem, d0, d1]) rfl ?_
        have FS : Frame w.heap.size (w.heap.size + 1 + 1) w1 ((w1.setCell ⟨w.heap.size + 1, 0, none⟩ (.int .i64 x)).setCell ⟨w.heap.size + 1, 1, none⟩ (.slice av L cv)) := ((Frame.refl _ _ w1).set (by omega) (by omega) _).set (by omega) (by omega) _
        have st4 := ST.out.write FS (Nat.le_refl _) (.inl hbz) [] [⟨o, lo, hi, .slice av L cv, L, f⟩] (fun x hx => by cases hx) (fun s hs => ⟨hs, by obtain rfl := List.mem_singleton.1 hs; exact .inl (by dsimp only; omega)⟩)
        exact ⟨x, L, av, cv, f, lo, hi, rfl, hx, hL0, by omega, (st4.sl 0 ⟨o, lo, hi, .slice av L cv, L, f⟩ rfl).rd, Nat.le_refl _, st4.src, st4.frame⟩
end
end

section
open Go.RowKit Go.ChangeShapes Go.Sort
set_option linter.unusedVariables false
set_option linter.unusedSimpArgs false
/-- A drawn argument: a number, or something that is none. -/
def DrX (M : Nat) (w : World) (e : Ending) (w' : World) : Prop :=
  ∃ (x : Int) (L : Nat) (a : Option Addr) (cap : Nat) (f : Nat → Int) (lo' hi' : Nat), e = .returned (.agg #[.int .i64 x, .slice a L cap]) ∧ inR x ∧ 0 < L ∧ L ≤ M ∧ Sl false w' lo' hi' (.slice a L cap) L f ∧ w.heap.size ≤ lo' ∧ Below w.heap.size w w'
section
variable {b B : Nat} {p : Option Addr} {n q : Nat}
set_option maxRecDepth 100000 in
set_option maxHeartbeats 2000000 in
theorem l01Spoil_any (w : World) (hs : Src w b p n q) (hb : Bytes w B p n) (hB : B ≤ b) :
    Calls Try.prog 200 #[.pointer (some ⟨b, 0, none⟩)] w (DrC b p n q w.heap.size 13 w) := by
  have st0 := Ds.start hs hb hB
  have hbz := hs.lt
  replace st0 := st0.newBox [.int .i64 0, .slice none 0 0] 26
  clear hs hb
  go_enter Try.func200, Try.ntmps200
  go_wp2_with fail
  refine (l01Draw_any _ st0.src st0.bytes st0.low).mono ?_
  rintro e w1 ⟨N, a_w1, k_w1, g_w1, hN1, hN2, rfl, s_w1, hw_w1, hs_w1, _, f_w1⟩
  have hz_w1 := f_w1.size
  try simp only [World.size_alloc] at hz_w1
  have st1 := st0.draw hs_w1 f_w1
  try simp only [World.size_alloc] at s_w1
  replace st1 := st1.addSl ⟨true, w.heap.size + 1, w1.heap.size, .slice a_w1 (phiN N) k_w1, (phiN N), g_w1⟩ s_w1 (.inr (by dsimp only; omega))
  clear st0 hs_w1 f_w1 s_w1
  have hp := phi_le12 N hN2 hN1
  have hp1 := phiN_pos N (by omega) hN1
  have q_t := st1.sl 0 ⟨true, w.heap.size + 1, w1.heap.size, .slice a_w1 (phiN N) k_w1, (phiN N), g_w1⟩ rfl
  dsimp only at q_t
  go_wp2_with fail
  refine (l01Bad_any (N : Int) _ st1.src st1.bytes st1.low (by unfold inR; omega) q_t (by omega) hp1 (by omega)).mono ?_
  rintro e w2 ⟨x_w2, L_w2, a_w2, k_w2, g_w2, lo_w2, hi_w2, rfl, hx_w2, hL0_w2, hL_w2, s_w2, hlo_w2, hs_w2, f_w2⟩
  have hz_w2 := f_w2.size
  try simp only [World.size_alloc] at hz_w2
  have st2 := st1.draw hs_w2 f_w2
  try simp only [World.size_alloc] at s_w2
  replace st2 := st2.addSl ⟨false, lo_w2, hi_w2, .slice a_w2 L_w2 k_w2, L_w2, g_w2⟩ s_w2 (.inr (by dsimp only; omega))
  clear q_t st1 hs_w2 f_w2 s_w2
  obtain ⟨c_r_0, c_r_1⟩ := (st2.box 0 (w.heap.size, [.int .i64 0, .slice none 0 0]) rfl).cell2
  have z_r := (st2.box 0 (w.heap.size, [.int .i64 0, .slice none 0 0]) rfl).2.2
  dsimp only at c_r_0 c_r_1 z_r
  go_wp2
  refine bodyPost_ret (v := .agg #[.int .i64 x_w2, .slice a_w2 L_w2 k_w2]) (by simp [results, Try.results200, go_sem, c_r_0 , c_r_1]) rfl ?_
  have FS : Frame (w.heap.size) (w.heap.size + 1) w2 ((w2.setCell ⟨w.heap.size, 0, none⟩ (.int .i64 x_w2)).setCell ⟨w.heap.size, 1, none⟩ (.slice a_w2 L_w2 k_w2)) := ((Frame.refl _ _ _).set (by omega) (by omega) _).set (by omega) (by omega) _
  have stz := st2.write FS (by omega) (by omega) [] [⟨false, lo_w2, hi_w2, .slice a_w2 L_w2 k_w2, L_w2, g_w2⟩] (fun x hx => by cases hx) (fun s hs => by simp only [List.mem_cons, List.not_mem_nil, or_false] at hs; rcases hs with rfl <;> exact ⟨by simp, by first | exact .inl (by dsimp only; omega) | exact .inr (by dsimp only; omega)⟩)
  exact ⟨x_w2, L_w2, a_w2, k_w2, g_w2, lo_w2, hi_w2, rfl, hx_w2, hL0_w2, by omega, stz.sl 0 _ rfl, by show _ ≤ lo_w2; omega, stz.src, stz.frame⟩

set_option maxRecDepth 100000 in
set_option maxHeartbeats 2000000 in
theorem l02Draw_any (w : World) (hs : Src w b p n q) (hb : Bytes w B p n) (hB : B ≤ b) :
    Calls Try.prog 176 #[.pointer (some ⟨b, 0, none⟩)] w (DrC b p n q w.heap.size 13 w) := by
  have st0 := Ds.start hs hb hB
  have hbz := hs.lt
  replace st0 := st0.newBox [.int .i64 0, .slice none 0 0] 26
  clear hs hb
  go_enter Try.func176, Try.ntmps176
  go_wp2_with fail
  refine (l01Next_any b B p n q 8 _ st0.src st0.bytes st0.low (by omega) (by omega)).mono ?_
  rintro e w1 ⟨r, rfl, hr1, hr2, hs_w1, f_w1⟩
  have hz_w1 := f_w1.size
  try simp only [World.size_alloc] at hz_w1
  have st1 := st0.draw hs_w1 f_w1
  clear st0 hs_w1 f_w1
  by_cases h0 : r = 0
  · subst h0
    go_wp2_with fail
    refine (l01Spoil_any _ st1.src st1.bytes st1.low).mono ?_
    rintro e w2 ⟨x_w2, L_w2, a_w2, k_w2, g_w2, lo_w2, hi_w2, rfl, hx_w2, hL0_w2, hL_w2, s_w2, hlo_w2, hs_w2, f_w2⟩
    have hz_w2 := f_w2.size
    try simp only [World.size_alloc] at hz_w2
    have st2 := st1.draw hs_w2 f_w2
    try simp only [World.size_alloc] at s_w2
    replace st2 := st2.addSl ⟨false, lo_w2, hi_w2, .slice a_w2 L_w2 k_w2, L_w2, g_w2⟩ s_w2 (.inr (by dsimp only; omega))
    clear st1 hs_w2 f_w2 s_w2
    obtain ⟨c_r_0, c_r_1⟩ := (st2.box 0 (w.heap.size, [.int .i64 0, .slice none 0 0]) rfl).cell2
    have z_r := (st2.box 0 (w.heap.size, [.int .i64 0, .slice none 0 0]) rfl).2.2
    dsimp only at c_r_0 c_r_1 z_r
    go_wp2
    refine bodyPost_ret (v := .agg #[.int .i64 x_w2, .slice a_w2 L_w2 k_w2]) (by simp [results, Try.results176, go_sem, c_r_0 , c_r_1]) rfl ?_
    have FS : Frame (w.heap.size) (w.heap.size + 1) w2 ((w2.setCell ⟨w.heap.size, 0, none⟩ (.int .i64 x_w2)).setCell ⟨w.heap.size, 1, none⟩ (.slice a_w2 L_w2 k_w2)) := ((Frame.refl _ _ _).set (by omega) (by omega) _).set (by omega) (by omega) _
    have stz := st2.write FS (by omega) (by omega) [] [⟨false, lo_w2, hi_w2, .slice a_w2 L_w2 k_w2, L_w2, g_w2⟩] (fun x hx => by cases hx) (fun s hs => by simp only [List.mem_cons, List.not_mem_nil, or_false] at hs; rcases hs with rfl <;> exact ⟨by simp, by first | exact .inl (by dsimp only; omega) | exact .inr (by dsimp only; omega)⟩)
    exact ⟨x_w2, L_w2, a_w2, k_w2, g_w2, lo_w2, hi_w2, rfl, hx_w2, hL0_w2, by omega, stz.sl 0 _ rfl, by show _ ≤ lo_w2; omega, stz.src, stz.frame⟩
  · have e0 : (r == 0) = false := by simpa using h0
    go_wp2_with fail
    refine (l01DrawOrder_any _ st1.src st1.bytes st1.low).mono ?_
    rintro e w2 ⟨N, rfl, hN1, hN2, hs_w2, _, f_w2⟩
    have hz_w2 := f_w2.size
    try simp only [World.size_alloc] at hz_w2
    have st2 := st1.draw hs_w2 f_w2
    clear st1 hs_w2 f_w2
    have hl := Sl.list (w2) [1, 1, 2, 3] (by intro x hx; simp only [List.mem_cons, List.not_mem_nil, or_false] at hx; unfold inR; rcases hx with rfl | rfl | rfl | rfl <;> omega) (by simp [maxLen])
    replace st2 := st2.alloc (.cells ([1, 1, 2, 3].map (Value.int .i64)).toArray 2)
    simp only [List.map_cons, List.map_nil, List.length_cons, List.length_nil, World.size_alloc] at hl st2
    have hall : ∀ x ∈ ([1, 1, 2, 3] : List Int), 0 ≤ x ∧ x ≤ 1000000000 := by intro x hx; simp only [List.mem_cons, List.not_mem_nil, or_false] at hx; rcases hx with rfl | rfl | rfl | rfl <;> omega
    have HALL := Lib.hid hall
    clear hall
    go_wp2_with fail
    refine (l01Pick_any b B p n q _ st2.src st2.bytes st2.low hl (.inr (by omega)) (by omega) (by omega)).mono ?_
    rintro e w3 ⟨i_w3, hi_w3, rfl, hs_w3, f_w3⟩
    have hz_w3 := f_w3.size
    try simp only [World.size_alloc] at hz_w3
    have st3 := st2.draw hs_w3 f_w3
    clear hl st2 hs_w3 f_w3
    have h_y : (fun x : Int => 0 ≤ x ∧ x ≤ 1000000000) (([1, 1, 2, 3] : List Int).getD i_w3 0) := by
      rw [List.getD_eq_getElem?_getD, List.getElem?_eq_getElem (by simpa using hi_w3)]
      exact HALL.out _ (List.getElem_mem _)
    generalize ([1, 1, 2, 3] : List Int).getD i_w3 0 = y at *
    try dsimp only at h_y
    clear HALL hi_w3
    have hp := phi_le12 N hN2 hN1
    have hp1 := phiN_pos N (by omega) hN1
    go_wp2_with fail
    refine (l01DrawOf_any N y _ st3.src st3.bytes st3.low hN1 hN2 h_y.1 h_y.2).mono ?_
    rintro e w4 ⟨a_w4, k_w4, g_w4, rfl, s_w4, hw_w4, hs_w4, _, f_w4⟩
    have hz_w4 := f_w4.size
    try simp only [World.size_alloc] at hz_w4
    have st4 := st3.draw hs_w4 f_w4
    try simp only [World.size_alloc] at s_w4
    replace st4 := st4.addSl ⟨true, w3.heap.size, w4.heap.size, .slice a_w4 (phiN N) k_w4, (phiN N), g_w4⟩ s_w4 (.inr (by dsimp only; omega))
    clear st3 hs_w4 f_w4 s_w4
    obtain ⟨c_r_0, c_r_1⟩ := (st4.box 0 (w.heap.size, [.int .i64 0, .slice none 0 0]) rfl).cell2
    have z_r := (st4.box 0 (w.heap.size, [.int .i64 0, .slice none 0 0]) rfl).2.2
    dsimp only at c_r_0 c_r_1 z_r
    go_wp2
    refine bodyPost_ret (v := .agg #[.int .i64 (N : Int), .slice a_w4 (phiN N) k_w4]) (by simp [results, Try.results176, go_sem, c_r_0 , c_r_1]) rfl ?_
    have FS : Frame (w.heap.size) (w.heap.size + 1) w4 ((w4.setCell ⟨w.heap.size, 0, none⟩ (.int .i64 (N : Int))).setCell ⟨w.heap.size, 1, none⟩ (.slice a_w4 (phiN N) k_w4)) := ((Frame.refl _ _ _).set (by omega) (by omega) _).set (by omega) (by omega) _
    have stz := st4.write FS (by omega) (by omega) [] [⟨true, w3.heap.size, w4.heap.size, .slice a_w4 (phiN N) k_w4, (phiN N), g_w4⟩] (fun x hx => by cases hx) (fun s hs => by simp only [List.mem_cons, List.not_mem_nil, or_false] at hs; rcases hs with rfl <;> exact ⟨by simp, by first | exact .inl (by dsimp only; omega) | exact .inr (by dsimp only; omega)⟩)
    exact ⟨N, phiN N, a_w4, k_w4, g_w4, _, _, rfl, by unfold inR; omega, hp1, by omega, (stz.sl 0 _ rfl).rd, by (show _ ≤ _); dsimp only; omega, stz.src, stz.frame⟩

end
end

section
open Go.RowKit Go.ChangeShapes Go.Sort
set_option linter.unusedVariables false
set_option linter.unusedSimpArgs false
section
variable {B : Nat} {p : Option Addr} {n q : Nat}
end
end

section
open Go.RowKit Go.ChangeShapes Go.Sort
set_option linter.unusedVariables false
set_option linter.unusedSimpArgs false
/-- Two drawn numbers, or things that are none. -/
def DrP (b : Nat) (p : Option Addr) (n q lo M : Nat) (w : World) (e : Ending) (w' : World) : Prop :=
  ∃ (x : Int) (L : Nat) (a : Option Addr) (cap : Nat) (f : Nat → Int) (lo1 hi1 : Nat) (y : Int) (K : Nat) (a2 : Option Addr) (cap2 : Nat) (g : Nat → Int) (lo2 hi2 : Nat), e = .returned (.tuple #[.agg #[.int .i64 x, .slice a L cap], .agg #[.int .i64 y, .slice a2 K cap2]]) ∧
    inR x ∧ 0 < L ∧ L ≤ M ∧ Sl false w' lo1 hi1 (.slice a L cap) L f ∧ lo ≤ lo1 ∧ inR y ∧ 0 < K ∧ K ≤ M ∧ Sl false w' lo2 hi2 (.slice a2 K cap2) K g ∧ lo ≤ lo2 ∧ Src w' b p n q ∧ Frame b (b + 1) w w'
section
variable {b B : Nat} {p : Option Addr} {n q : Nat}
set_option maxRecDepth 100000 in
set_option maxHeartbeats 8000000 in
theorem l02Pair_any (w : World) (hs : Src w b p n q) (hb : Bytes w B p n) (hB : B ≤ b) :
    Calls Try.prog 183 #[.pointer (some ⟨b, 0, none⟩)] w (DrP b p n q w.heap.size 13 w) := by
  have st0 := Ds.start hs hb hB
  have hbz := hs.lt
  replace st0 := st0.newBox [.int .i64 0, .slice none 0 0] 26
  replace st0 := st0.newBox [.int .i64 0, .slice none 0 0] 26
  simp only [World.size_alloc] at st0
  clear hs hb
  go_enter Try.func183, Try.ntmps183
  go_wp2_with fail
  refine (l02Draw_any _ st0.src st0.bytes st0.low).mono ?_
  rintro e w1 ⟨x_w1, L_w1, a_w1, k_w1, g_w1, lo_w1, hi_w1, rfl, hx_w1, hL0_w1, hL_w1, s_w1, hlo_w1, hs_w1, f_w1⟩
  have hz_w1 := f_w1.size
  try simp only [World.size_alloc] at hz_w1
  have st1 := st0.draw hs_w1 f_w1
  try simp only [World.size_alloc] at s_w1
  replace st1 := st1.addSl ⟨false, lo_w1, hi_w1, .slice a_w1 L_w1 k_w1, L_w1, g_w1⟩ s_w1 (.inr (by (try simp only [World.size_alloc] at hlo_w1); dsimp only; omega))
  try simp only [World.size_alloc] at hlo_w1
  clear st0 hs_w1 f_w1 s_w1
  replace st1 := st1.newBox [.int .i64 x_w1, .slice a_w1 L_w1 k_w1] 26
  go_wp2_with fail
  refine (l01Next_any _ _ _ _ _ 24 _ st1.src st1.bytes st1.low (by omega) (by omega)).mono ?_
  rintro e w2 ⟨r, rfl, hr1, hr2, hs_w2, f_w2⟩
  have hz_w2 := f_w2.size
  try simp only [World.size_alloc] at hz_w2
  have st2 := st1.draw hs_w2 f_w2
  clear st1 hs_w2 f_w2
  by_cases h0 : r = 0
  · subst h0
    have ST := Lib.hid st2.drew
    clear st2
    obtain ⟨c0, c1⟩ := (ST.out.box 0 (w1.heap.size, [.int .i64 x_w1, .slice a_w1 L_w1 k_w1]) rfl).cell2
    dsimp only at c0 c1
    obtain ⟨g0, g1⟩ := (ST.out.box 2 (w.heap.size, [.int .i64 0, .slice none 0 0]) rfl).cell2
    have gz := (ST.out.box 2 (w.heap.size, [.int .i64 0, .slice none 0 0]) rfl).2.2
    dsimp only at g0 g1 gz
    have st2 := (ST.out.write (w' := ((w2.drew.setCell ⟨w.heap.size, 0, none⟩ (.int .i64 x_w1)).setCell ⟨w.heap.size, 1, none⟩ (.slice a_w1 L_w1 k_w1))) (lo := w.heap.size) (hi := w.heap.size + 1) (((Frame.refl _ _ w2.drew).set (o := 0) (Nat.le_refl _) (Nat.lt_succ_self _) (.int .i64 x_w1)).set (o := 1) (Nat.le_refl _) (Nat.lt_succ_self _) (.slice a_w1 L_w1 k_w1)) (by omega) (by omega) [(w1.heap.size, [.int .i64 x_w1, .slice a_w1 L_w1 k_w1]), (w.heap.size + 1, [.int .i64 0, .slice none 0 0])] [⟨false, lo_w1, hi_w1, .slice a_w1 L_w1 k_w1, L_w1, g_w1⟩] (fun x hx => ⟨by simp only [List.mem_cons, List.not_mem_nil, or_false] at hx ⊢; rcases hx with h | h <;> simp [h], by simp only [List.mem_cons, List.not_mem_nil, or_false] at hx; rcases hx with rfl | rfl <;> first | exact .inl (by dsimp only; omega) | exact .inr (by dsimp only; omega)⟩) (fun s hs => ⟨hs, by simp only [List.mem_cons, List.not_mem_nil, or_false] at hs; rcases hs with rfl <;> first | exact .inl (by dsimp only; omega) | exact .inr (by dsimp only; omega)⟩)).addBox _ _ (((ST.out.box 2 (w.heap.size, [.int .i64 0, .slice none 0 0]) rfl).set (i := 0) (u := .int .i64 x_w1) (by simp)).set (i := 1) (u := .slice a_w1 L_w1 k_w1) (by simp)) (by dsimp only; omega)
    simp only [List.set_cons_succ, List.set_cons_zero] at st2
    have ST2 := Lib.hid st2; clear st2
    go_wp2_with fail
    go_region_held3 (fun w' => w'.cell? ⟨w1.heap.size, 0, none⟩ = some (.int .i64 x_w1) ∧ w'.cell? ⟨w1.heap.size, 1, none⟩ = some (.slice a_w1 L_w1 k_w1))
      (first | exact ⟨c0, c1⟩ | (have q := (st9.box 0 (w1.heap.size, [.int .i64 x_w1, .slice a_w1 L_w1 k_w1]) rfl).cell2; with_reducible exact ⟨q.1, q.2⟩) | (have q := (st9.box 1 (w1.heap.size, [.int .i64 x_w1, .slice a_w1 L_w1 k_w1]) rfl).cell2; with_reducible exact ⟨q.1, q.2⟩) | (have q := (ST2.out.box 1 (w1.heap.size, [.int .i64 x_w1, .slice a_w1 L_w1 k_w1]) rfl).cell2; with_reducible exact ⟨q.1, q.2⟩) | exact ⟨cell_set2 c0 (by omega), cell_set2 c1 (by omega)⟩ | (have q := (st9.box 0 (w1.heap.size, [.int .i64 x_w1, .slice a_w1 L_w1 k_w1]) rfl).cell2; exact ⟨cell_set2 q.1 (by omega), cell_set2 q.2 (by omega)⟩) | (have q := (st9.box 1 (w1.heap.size, [.int .i64 x_w1, .slice a_w1 L_w1 k_w1]) rfl).cell2; exact ⟨cell_set2 q.1 (by omega), cell_set2 q.2 (by omega)⟩) | (have q := (st9.box 0 (w1.heap.size, [.int .i64 x_w1, .slice a_w1 L_w1 k_w1]) rfl).cell2; exact ⟨cell_set2 (cell_set2 q.1 (by omega)) (by omega), cell_set2 (cell_set2 q.2 (by omega)) (by omega)⟩))
      (first
        | (go_at_call 176; first | (refine (l02Draw_any _ ST.out.src ST.out.bytes ST.out.low).mono ?_; rintro e w9 ⟨y9, M9, a9, k9, g9, lo9, hi9, rfl, hy9, hM0, hM9, s9, hlo9, hs9, f9⟩; have st9 := ST.out.draw hs9 f9) | (refine (l02Draw_any _ ST2.out.src ST2.out.bytes ST2.out.low).mono ?_; rintro e w9 ⟨y9, M9, a9, k9, g9, lo9, hi9, rfl, hy9, hM0, hM9, s9, hlo9, hs9, f9⟩; have st9 := ST2.out.draw hs9 f9)
           have hz9 := f9.size
           try simp only [World.size_drew, World.size_alloc, World.size_setCell] at hz9 hlo9
           first | (obtain ⟨d0, d1⟩ := (st9.box 2 (w.heap.size, [.int .i64 0, .slice none 0 0]) rfl).cell2; have dz := (st9.box 2 (w.heap.size, [.int .i64 0, .slice none 0 0]) rfl).2.2) | (obtain ⟨d0, d1⟩ := (st9.box 0 (w.heap.size, [.int .i64 x_w1, .slice a_w1 L_w1 k_w1]) rfl).cell2; have dz := (st9.box 0 (w.heap.size, [.int .i64 x_w1, .slice a_w1 L_w1 k_w1]) rfl).2.2)
           first | (obtain ⟨e0, e1⟩ := (st9.box 1 (w.heap.size + 1, [.int .i64 0, .slice none 0 0]) rfl).cell2; have ez := (st9.box 1 (w.heap.size + 1, [.int .i64 0, .slice none 0 0]) rfl).2.2) | (obtain ⟨e0, e1⟩ := (st9.box 2 (w.heap.size + 1, [.int .i64 0, .slice none 0 0]) rfl).cell2; have ez := (st9.box 2 (w.heap.size + 1, [.int .i64 0, .slice none 0 0]) rfl).2.2)
           dsimp only at d0 d1 e0 e1 dz ez))
    all_goals
      replace st9 := st9.addSl ⟨false, lo9, hi9, .slice a9 M9 k9, M9, g9⟩ s9 (.inr (by dsimp only; omega))
      have z2 := (st9.sl 0 _ rfl).size
      dsimp only at z2
      have FIN : ∀ W', Frame w.heap.size (w.heap.size + 1 + 1) w9 W' → DrP b p n q w.heap.size 13 w (.returned (.tuple #[.agg #[.int .i64 x_w1, .slice a_w1 L_w1 k_w1], .agg #[.int .i64 y9, .slice a9 M9 k9]])) W' := fun W' FS => by
        have stz := st9.write FS (by omega) (by omega) [] [⟨false, lo_w1, hi_w1, .slice a_w1 L_w1 k_w1, L_w1, g_w1⟩, ⟨false, lo9, hi9, .slice a9 M9 k9, M9, g9⟩] (fun x hx => by cases hx) (fun s hs => by simp only [List.mem_cons, List.not_mem_nil, or_false] at hs; rcases hs with rfl | rfl <;> exact ⟨by simp, by first | exact .inr (by dsimp only; omega) | exact .inl (by dsimp only; omega)⟩)
        exact ⟨x_w1, L_w1, a_w1, k_w1, g_w1, lo_w1, hi_w1, y9, M9, a9, k9, g9, lo9, hi9, rfl, hx_w1, hL0_w1, by omega, by first | exact stz.sl 0 _ rfl | exact (stz.sl 0 _ rfl).rd, by show w.heap.size ≤ lo_w1; omega, hy9, hM0, by omega, by first | exact stz.sl 1 _ rfl | exact (stz.sl 1 _ rfl).rd, by show w.heap.size ≤ lo9; omega, stz.src, stz.frame⟩
      have HFIN := Lib.hid FIN; clear FIN
      clear st9 s9 f9
      go_wp2
      refine bodyPost_ret (v := .tuple #[.agg #[.int .i64 x_w1, .slice a_w1 L_w1 k_w1], .agg #[.int .i64 y9, .slice a9 M9 k9]]) (by simp [results, Try.results183, go_sem, d0, d1, e0, e1]) rfl ?_
      exact HFIN.out _ (by repeat' (first | exact Frame.refl _ _ _ | refine Frame.set ?_ (by omega) (by omega) _))
  · have e0 : (r == 0) = false := by simpa using h0
    by_cases hc : CyP x_w1 L_w1 g_w1
    · obtain ⟨N, rfl⟩ := Int.eq_ofNat_of_zero_le (show 0 ≤ x_w1 by have := hc.1; omega)
      have hN1 : 1 ≤ N := by have := hc.1; omega
      have hN2 : N ≤ 16 := by have := hc.2.1; omega
      have hp := phi_le12 N hN2 hN1
      have hp1 := phiN_pos N (by omega) hN1
      obtain ⟨c_x_0, c_x_1⟩ := (st2.box 0 (w1.heap.size, [.int .i64 (N : Int), .slice a_w1 L_w1 k_w1]) rfl).cell2
      have z_x := (st2.box 0 (w1.heap.size, [.int .i64 (N : Int), .slice a_w1 L_w1 k_w1]) rfl).2.2
      dsimp only at c_x_0 c_x_1 z_x
      have q_x := st2.sl 0 ⟨false, lo_w1, hi_w1, .slice a_w1 L_w1 k_w1, L_w1, g_w1⟩ rfl
      dsimp only at q_x
      have HC := Lib.hid hc
      clear hc
      go_wp2_with fail
      refine (l01Is_yes _ _ q_x HC.out).mono ?_
      rintro e w3 ⟨rfl, b_w3⟩
      have hz_w3 := b_w3.size
      try simp only [World.size_alloc] at hz_w3
      have st3 := st2.keep b_w3
      clear c_x_0 c_x_1 z_x q_x st2 b_w3
      have ST := Lib.hid st3.drew; have STA := Lib.hid (st3.alloc (.cells #[.int .i64 1, .int .i64 1, .int .i64 2] 2)).drew
      clear st3
      obtain ⟨c0, c1⟩ := (ST.out.box 0 (w1.heap.size, [.int .i64 (N : Int), .slice a_w1 L_w1 k_w1]) rfl).cell2
      dsimp only at c0 c1
      obtain ⟨g0, g1⟩ := (ST.out.box 2 (w.heap.size, [.int .i64 0, .slice none 0 0]) rfl).cell2
      have gz := (ST.out.box 2 (w.heap.size, [.int .i64 0, .slice none 0 0]) rfl).2.2
      dsimp only at g0 g1 gz
      have st2 := (ST.out.write (w' := ((w3.drew.setCell ⟨w.heap.size, 0, none⟩ (.int .i64 (N : Int))).setCell ⟨w.heap.size, 1, none⟩ (.slice a_w1 L_w1 k_w1))) (lo := w.heap.size) (hi := w.heap.size + 1) (((Frame.refl _ _ w3.drew).set (o := 0) (Nat.le_refl _) (Nat.lt_succ_self _) (.int .i64 (N : Int))).set (o := 1) (Nat.le_refl _) (Nat.lt_succ_self _) (.slice a_w1 L_w1 k_w1)) (by omega) (by omega) [(w1.heap.size, [.int .i64 (N : Int), .slice a_w1 L_w1 k_w1]), (w.heap.size + 1, [.int .i64 0, .slice none 0 0])] [⟨false, lo_w1, hi_w1, .slice a_w1 L_w1 k_w1, L_w1, g_w1⟩] (fun x hx => ⟨by simp only [List.mem_cons, List.not_mem_nil, or_false] at hx ⊢; rcases hx with h | h <;> simp [h], by simp only [List.mem_cons, List.not_mem_nil, or_false] at hx; rcases hx with rfl | rfl <;> first | exact .inl (by dsimp only; omega) | exact .inr (by dsimp only; omega)⟩) (fun s hs => ⟨hs, by simp only [List.mem_cons, List.not_mem_nil, or_false] at hs; rcases hs with rfl <;> first | exact .inl (by dsimp only; omega) | exact .inr (by dsimp only; omega)⟩)).addBox _ _ (((ST.out.box 2 (w.heap.size, [.int .i64 0, .slice none 0 0]) rfl).set (i := 0) (u := .int .i64 (N : Int)) (by simp)).set (i := 1) (u := .slice a_w1 L_w1 k_w1) (by simp)) (by dsimp only; omega)
      simp only [List.set_cons_succ, List.set_cons_zero] at st2
      have ST2 := Lib.hid st2; clear st2
      have ST2A := Lib.hid (ST2.out.alloc (.cells #[.int .i64 1, .int .i64 1, .int .i64 2] 2))
      have st3 := (STA.out.write (w' := ((((w3.alloc (.cells #[.int .i64 1, .int .i64 1, .int .i64 2] 2)).drew).setCell ⟨w.heap.size, 0, none⟩ (.int .i64 (N : Int))).setCell ⟨w.heap.size, 1, none⟩ (.slice a_w1 L_w1 k_w1))) (lo := w.heap.size) (hi := w.heap.size + 1) (((Frame.refl _ _ ((w3.alloc (.cells #[.int .i64 1, .int .i64 1, .int .i64 2] 2)).drew)).set (o := 0) (Nat.le_refl _) (Nat.lt_succ_self _) (.int .i64 (N : Int))).set (o := 1) (Nat.le_refl _) (Nat.lt_succ_self _) (.slice a_w1 L_w1 k_w1)) (by omega) (by omega) [(w1.heap.size, [.int .i64 (N : Int), .slice a_w1 L_w1 k_w1]), (w.heap.size + 1, [.int .i64 0, .slice none 0 0])] [⟨false, lo_w1, hi_w1, .slice a_w1 L_w1 k_w1, L_w1, g_w1⟩] (fun x hx => ⟨by simp only [List.mem_cons, List.not_mem_nil, or_false] at hx ⊢; rcases hx with h | h <;> simp [h], by simp only [List.mem_cons, List.not_mem_nil, or_false] at hx; rcases hx with rfl | rfl <;> first | exact .inl (by dsimp only; omega) | exact .inr (by dsimp only; omega)⟩) (fun s hs => ⟨hs, by simp only [List.mem_cons, List.not_mem_nil, or_false] at hs; rcases hs with rfl <;> first | exact .inl (by dsimp only; omega) | exact .inr (by dsimp only; omega)⟩)).addBox _ _ (((STA.out.box 2 (w.heap.size, [.int .i64 0, .slice none 0 0]) rfl).set (i := 0) (u := .int .i64 (N : Int)) (by simp)).set (i := 1) (u := .slice a_w1 L_w1 k_w1) (by simp)) (by dsimp only; omega)
      simp only [List.set_cons_succ, List.set_cons_zero] at st3
      have ST3 := Lib.hid st3; clear st3
      have l0 := Sl.list (w3) [1, 1, 2] (by intro t ht; simp only [List.mem_cons, List.not_mem_nil, or_false] at ht; unfold inR; rcases ht with rfl | rfl | rfl <;> omega) (by simp [maxLen])
      simp only [List.map_cons, List.map_nil, List.length_cons, List.length_nil, World.size_alloc, World.size_drew, World.size_setCell] at l0
      have Hl0 := Lib.hid l0; clear l0
      have l1 := Sl.list (((w3.drew).setCell ⟨w.heap.size, 0, none⟩ (.int .i64 (N : Int))).setCell ⟨w.heap.size, 1, none⟩ (.slice a_w1 L_w1 k_w1)) [1, 1, 2] (by intro t ht; simp only [List.mem_cons, List.not_mem_nil, or_false] at ht; unfold inR; rcases ht with rfl | rfl | rfl <;> omega) (by simp [maxLen])
      simp only [List.map_cons, List.map_nil, List.length_cons, List.length_nil, World.size_alloc, World.size_drew, World.size_setCell] at l1
      have Hl1 := Lib.hid l1; clear l1
      have Hl0 := Lib.hid Hl0.out.drew; have Hl2 := Lib.hid ((Hl0.out.setOther (p := ⟨w.heap.size, 0, none⟩) (.inl (by dsimp only; omega)) (.int .i64 (N : Int))).setOther (p := ⟨w.heap.size, 1, none⟩) (.inl (by dsimp only; omega)) (.slice a_w1 L_w1 k_w1))
      have hall : ∀ t ∈ ([1, 1, 2] : List Int), (fun x : Int => 0 ≤ x ∧ x ≤ 1000000000) t := by intro t ht; simp only [List.mem_cons, List.not_mem_nil, or_false] at ht; (try dsimp only); rcases ht with rfl | rfl | rfl <;> omega
      have HALL := Lib.hid hall; clear hall
      go_wp2_with fail
      go_region_held3 (fun w' => w'.cell? ⟨w1.heap.size, 0, none⟩ = some (.int .i64 (N : Int)) ∧ w'.cell? ⟨w1.heap.size, 1, none⟩ = some (.slice a_w1 L_w1 k_w1))
        (first
          | exact ⟨c0, c1⟩
          | (have q := (st9.box 0 (w1.heap.size, [.int .i64 (N : Int), .slice a_w1 L_w1 k_w1]) rfl).cell2; with_reducible exact ⟨q.1, q.2⟩)
          | (have q := (st9.box 1 (w1.heap.size, [.int .i64 (N : Int), .slice a_w1 L_w1 k_w1]) rfl).cell2; with_reducible exact ⟨q.1, q.2⟩)
          | (have q := (st8.box 0 (w1.heap.size, [.int .i64 (N : Int), .slice a_w1 L_w1 k_w1]) rfl).cell2; with_reducible exact ⟨q.1, q.2⟩)
          | (have q := (st8.box 1 (w1.heap.size, [.int .i64 (N : Int), .slice a_w1 L_w1 k_w1]) rfl).cell2; with_reducible exact ⟨q.1, q.2⟩)
          | (have q := (ST8.out.box 1 (w1.heap.size, [.int .i64 (N : Int), .slice a_w1 L_w1 k_w1]) rfl).cell2; with_reducible exact ⟨q.1, q.2⟩)
          | (have q := (STA.out.box 0 (w1.heap.size, [.int .i64 (N : Int), .slice a_w1 L_w1 k_w1]) rfl).cell2; with_reducible exact ⟨q.1, q.2⟩)
          | (have q := (ST2.out.box 1 (w1.heap.size, [.int .i64 (N : Int), .slice a_w1 L_w1 k_w1]) rfl).cell2; with_reducible exact ⟨q.1, q.2⟩)
          | (have q := (ST2A.out.box 1 (w1.heap.size, [.int .i64 (N : Int), .slice a_w1 L_w1 k_w1]) rfl).cell2; with_reducible exact ⟨q.1, q.2⟩)
          | (have q := (ST3.out.box 1 (w1.heap.size, [.int .i64 (N : Int), .slice a_w1 L_w1 k_w1]) rfl).cell2; with_reducible exact ⟨q.1, q.2⟩)
          | (have q := (st9.box 0 (w1.heap.size, [.int .i64 (N : Int), .slice a_w1 L_w1 k_w1]) rfl).cell2; exact ⟨cell_set2 (q.1) (by omega), cell_set2 (q.2) (by omega)⟩)
          | (have q := (st9.box 1 (w1.heap.size, [.int .i64 (N : Int), .slice a_w1 L_w1 k_w1]) rfl).cell2; exact ⟨cell_set2 (q.1) (by omega), cell_set2 (q.2) (by omega)⟩)
          | (have q := (st9.box 0 (w1.heap.size, [.int .i64 (N : Int), .slice a_w1 L_w1 k_w1]) rfl).cell2; exact ⟨cell_set2 (cell_set2 (q.1) (by omega)) (by omega), cell_set2 (cell_set2 (q.2) (by omega)) (by omega)⟩)
          | (have q := (st8.box 0 (w1.heap.size, [.int .i64 (N : Int), .slice a_w1 L_w1 k_w1]) rfl).cell2; exact ⟨cell_set2 (q.1) (by omega), cell_set2 (q.2) (by omega)⟩)
          | go_keep)
        (first
          | (go_at_call 204; have _g := f8; first | (refine (l01DrawOf_any N y8 _ st8.src st8.bytes st8.low hN1 hN2 hy8.1 hy8.2).mono ?_; rintro e w9 ⟨a9, k9, g9, rfl, s9, hw9, hs9, _, f9⟩; have st9 := st8.draw hs9 f9) | (refine (l01DrawOf_any N y8 _ ST8.out.src ST8.out.bytes ST8.out.low hN1 hN2 hy8.1 hy8.2).mono ?_; rintro e w9 ⟨a9, k9, g9, rfl, s9, hw9, hs9, _, f9⟩; have st9 := ST8.out.draw hs9 f9)
             have hz9 := f9.size
             try simp only [World.size_drew, World.size_alloc, World.size_setCell] at hz9 s9
             first | (obtain ⟨d0, d1⟩ := (st9.box 2 (w.heap.size, [.int .i64 0, .slice none 0 0]) rfl).cell2; have dz := (st9.box 2 (w.heap.size, [.int .i64 0, .slice none 0 0]) rfl).2.2) | (obtain ⟨d0, d1⟩ := (st9.box 0 (w.heap.size, [.int .i64 (N : Int), .slice a_w1 L_w1 k_w1]) rfl).cell2; have dz := (st9.box 0 (w.heap.size, [.int .i64 (N : Int), .slice a_w1 L_w1 k_w1]) rfl).2.2)
             first | (obtain ⟨e0, e1⟩ := (st9.box 1 (w.heap.size + 1, [.int .i64 0, .slice none 0 0]) rfl).cell2; have ez := (st9.box 1 (w.heap.size + 1, [.int .i64 0, .slice none 0 0]) rfl).2.2) | (obtain ⟨e0, e1⟩ := (st9.box 2 (w.heap.size + 1, [.int .i64 0, .slice none 0 0]) rfl).cell2; have ez := (st9.box 2 (w.heap.size + 1, [.int .i64 0, .slice none 0 0]) rfl).2.2)
             dsimp only at d0 d1 e0 e1 dz ez)
          | (go_at_call 161; first | (refine (l01Pick_any _ _ _ _ _ _ STA.out.src STA.out.bytes STA.out.low Hl0.out (.inr (by omega)) (by omega) (by omega)).mono ?_; rintro e w8 ⟨i8, hi8, rfl, hs8, f8⟩; have st8 := STA.out.draw hs8 f8) | (refine (l01Pick_any _ _ _ _ _ _ ST2A.out.src ST2A.out.bytes ST2A.out.low Hl1.out (.inr (by omega)) (by omega) (by omega)).mono ?_; rintro e w8 ⟨i8, hi8, rfl, hs8, f8⟩; have st8 := ST2A.out.draw hs8 f8) | (refine (l01Pick_any _ _ _ _ _ _ ST3.out.src ST3.out.bytes ST3.out.low Hl2.out (.inr (by omega)) (by omega) (by omega)).mono ?_; rintro e w8 ⟨i8, hi8, rfl, hs8, f8⟩; have st8 := ST3.out.draw hs8 f8)
             have hz8 := f8.size
             try simp only [World.size_drew, World.size_alloc, World.size_setCell] at hz8
             have hy8 : 0 ≤ ([1, 1, 2] : List Int).getD i8 0 ∧ ([1, 1, 2] : List Int).getD i8 0 ≤ 1000000000 := by rw [List.getD_eq_getElem?_getD, List.getElem?_eq_getElem (by simpa using hi8)]; exact HALL.out _ (List.getElem_mem _)
             generalize ([1, 1, 2] : List Int).getD i8 0 = y8 at *
             try (obtain ⟨o0, o1⟩ := (st8.box 2 (w.heap.size, [.int .i64 0, .slice none 0 0]) rfl).cell2
                  have oz := (st8.box 2 (w.heap.size, [.int .i64 0, .slice none 0 0]) rfl).2.2
                  dsimp only at o0 o1 oz
                  have st8b := (st8.write (w' := ((w8.setCell ⟨w.heap.size, 0, none⟩ (.int .i64 (N : Int))).setCell ⟨w.heap.size, 1, none⟩ (.slice a_w1 L_w1 k_w1))) (lo := w.heap.size) (hi := w.heap.size + 1) (((Frame.refl _ _ w8).set (o := 0) (Nat.le_refl _) (Nat.lt_succ_self _) (.int .i64 (N : Int))).set (o := 1) (Nat.le_refl _) (Nat.lt_succ_self _) (.slice a_w1 L_w1 k_w1)) (by omega) (by omega) [(w1.heap.size, [.int .i64 (N : Int), .slice a_w1 L_w1 k_w1]), (w.heap.size + 1, [.int .i64 0, .slice none 0 0])] [⟨false, lo_w1, hi_w1, .slice a_w1 L_w1 k_w1, L_w1, g_w1⟩] (fun x hx => ⟨by simp only [List.mem_cons, List.not_mem_nil, or_false] at hx ⊢; rcases hx with h | h <;> simp [h], by simp only [List.mem_cons, List.not_mem_nil, or_false] at hx; rcases hx with rfl | rfl <;> first | exact .inl (by dsimp only; omega) | exact .inr (by dsimp only; omega)⟩) (fun s hs => ⟨hs, by simp only [List.mem_cons, List.not_mem_nil, or_false] at hs; rcases hs with rfl <;> first | exact .inl (by dsimp only; omega) | exact .inr (by dsimp only; omega)⟩)).addBox _ _ (((st8.box 2 (w.heap.size, [.int .i64 0, .slice none 0 0]) rfl).set (i := 0) (u := .int .i64 (N : Int)) (by simp)).set (i := 1) (u := .slice a_w1 L_w1 k_w1) (by simp)) (by dsimp only; omega)
                  simp only [List.set_cons_succ, List.set_cons_zero] at st8b
                  have ST8 := Lib.hid st8b; clear st8b)))
      all_goals
        replace st9 := st9.addSl ⟨true, w8.heap.size, w9.heap.size, .slice a9 (phiN N) k9, phiN N, g9⟩ s9 (.inr (by dsimp only; omega))
        have FIN : ∀ W', Frame w.heap.size (w.heap.size + 1 + 1) w9 W' → DrP b p n q w.heap.size 13 w (.returned (.tuple #[.agg #[.int .i64 (N : Int), .slice a_w1 L_w1 k_w1], .agg #[.int .i64 (N : Int), .slice a9 (phiN N) k9]])) W' := fun W' FS => by
          have stz := st9.write FS (by omega) (by omega) [] [⟨false, lo_w1, hi_w1, .slice a_w1 L_w1 k_w1, L_w1, g_w1⟩, ⟨true, w8.heap.size, w9.heap.size, .slice a9 (phiN N) k9, phiN N, g9⟩] (fun x hx => by cases hx) (fun s hs => by simp only [List.mem_cons, List.not_mem_nil, or_false] at hs; rcases hs with rfl | rfl <;> exact ⟨by simp, by first | exact .inr (by dsimp only; omega) | exact .inl (by dsimp only; omega)⟩)
          exact ⟨(N : Int), L_w1, a_w1, k_w1, g_w1, lo_w1, hi_w1, (N : Int), (phiN N), a9, k9, g9, _, _, rfl, hx_w1, hL0_w1, by omega, by first | exact stz.sl 0 _ rfl | exact (stz.sl 0 _ rfl).rd, by show w.heap.size ≤ lo_w1; omega, by unfold inR; omega, hp1, by omega, by first | exact stz.sl 1 _ rfl | exact (stz.sl 1 _ rfl).rd, by (show _ ≤ _); dsimp only; omega, stz.src, stz.frame⟩
        have HFIN := Lib.hid FIN; clear FIN
        clear st9 s9 f9
        go_wp2
        refine bodyPost_ret (v := .tuple #[.agg #[.int .i64 (N : Int), .slice a_w1 L_w1 k_w1], .agg #[.int .i64 (N : Int), .slice a9 (phiN N) k9]]) (by simp [results, Try.results183, go_sem, d0, d1, e0, e1]) rfl ?_
        exact HFIN.out _ (by repeat' (first | exact Frame.refl _ _ _ | refine Frame.set ?_ (by omega) (by omega) _))
    · have HC := Lib.hid hc; clear hc
      obtain ⟨c_x_0, c_x_1⟩ := (st2.box 0 (w1.heap.size, [.int .i64 x_w1, .slice a_w1 L_w1 k_w1]) rfl).cell2
      have z_x := (st2.box 0 (w1.heap.size, [.int .i64 x_w1, .slice a_w1 L_w1 k_w1]) rfl).2.2
      dsimp only at c_x_0 c_x_1 z_x
      have q_x := st2.sl 0 ⟨false, lo_w1, hi_w1, .slice a_w1 L_w1 k_w1, L_w1, g_w1⟩ rfl
      dsimp only at q_x
      go_wp2_with fail
      refine (l01Is_no _ _ q_x HC.out).mono ?_
      rintro e w3 ⟨rfl, b_w3⟩
      have hz_w3 := b_w3.size
      try simp only [World.size_alloc] at hz_w3
      have st3 := st2.keep b_w3
      clear c_x_0 c_x_1 z_x q_x st2 b_w3
      have ST := Lib.hid st3.drew
      clear st3
      obtain ⟨c0, c1⟩ := (ST.out.box 0 (w1.heap.size, [.int .i64 x_w1, .slice a_w1 L_w1 k_w1]) rfl).cell2
      dsimp only at c0 c1
      obtain ⟨g0, g1⟩ := (ST.out.box 2 (w.heap.size, [.int .i64 0, .slice none 0 0]) rfl).cell2
      have gz := (ST.out.box 2 (w.heap.size, [.int .i64 0, .slice none 0 0]) rfl).2.2
      dsimp only at g0 g1 gz
      have st2 := (ST.out.write (w' := ((w3.drew.setCell ⟨w.heap.size, 0, none⟩ (.int .i64 x_w1)).setCell ⟨w.heap.size, 1, none⟩ (.slice a_w1 L_w1 k_w1))) (lo := w.heap.size) (hi := w.heap.size + 1) (((Frame.refl _ _ w3.drew).set (o := 0) (Nat.le_refl _) (Nat.lt_succ_self _) (.int .i64 x_w1)).set (o := 1) (Nat.le_refl _) (Nat.lt_succ_self _) (.slice a_w1 L_w1 k_w1)) (by omega) (by omega) [(w1.heap.size, [.int .i64 x_w1, .slice a_w1 L_w1 k_w1]), (w.heap.size + 1, [.int .i64 0, .slice none 0 0])] [⟨false, lo_w1, hi_w1, .slice a_w1 L_w1 k_w1, L_w1, g_w1⟩] (fun x hx => ⟨by simp only [List.mem_cons, List.not_mem_nil, or_false] at hx ⊢; rcases hx with h | h <;> simp [h], by simp only [List.mem_cons, List.not_mem_nil, or_false] at hx; rcases hx with rfl | rfl <;> first | exact .inl (by dsimp only; omega) | exact .inr (by dsimp only; omega)⟩) (fun s hs => ⟨hs, by simp only [List.mem_cons, List.not_mem_nil, or_false] at hs; rcases hs with rfl <;> first | exact .inl (by dsimp only; omega) | exact .inr (by dsimp only; omega)⟩)).addBox _ _ (((ST.out.box 2 (w.heap.size, [.int .i64 0, .slice none 0 0]) rfl).set (i := 0) (u := .int .i64 x_w1) (by simp)).set (i := 1) (u := .slice a_w1 L_w1 k_w1) (by simp)) (by dsimp only; omega)
      simp only [List.set_cons_succ, List.set_cons_zero] at st2
      have ST2 := Lib.hid st2; clear st2
      go_wp2_with fail
      go_region_held3 (fun w' => w'.cell? ⟨w1.heap.size, 0, none⟩ = some (.int .i64 x_w1) ∧ w'.cell? ⟨w1.heap.size, 1, none⟩ = some (.slice a_w1 L_w1 k_w1))
        (first | exact ⟨c0, c1⟩ | (have q := (st9.box 0 (w1.heap.size, [.int .i64 x_w1, .slice a_w1 L_w1 k_w1]) rfl).cell2; with_reducible exact ⟨q.1, q.2⟩) | (have q := (st9.box 1 (w1.heap.size, [.int .i64 x_w1, .slice a_w1 L_w1 k_w1]) rfl).cell2; with_reducible exact ⟨q.1, q.2⟩) | (have q := (ST2.out.box 1 (w1.heap.size, [.int .i64 x_w1, .slice a_w1 L_w1 k_w1]) rfl).cell2; with_reducible exact ⟨q.1, q.2⟩) | exact ⟨cell_set2 c0 (by omega), cell_set2 c1 (by omega)⟩ | (have q := (st9.box 0 (w1.heap.size, [.int .i64 x_w1, .slice a_w1 L_w1 k_w1]) rfl).cell2; exact ⟨cell_set2 q.1 (by omega), cell_set2 q.2 (by omega)⟩) | (have q := (st9.box 1 (w1.heap.size, [.int .i64 x_w1, .slice a_w1 L_w1 k_w1]) rfl).cell2; exact ⟨cell_set2 q.1 (by omega), cell_set2 q.2 (by omega)⟩) | (have q := (st9.box 0 (w1.heap.size, [.int .i64 x_w1, .slice a_w1 L_w1 k_w1]) rfl).cell2; exact ⟨cell_set2 (cell_set2 q.1 (by omega)) (by omega), cell_set2 (cell_set2 q.2 (by omega)) (by omega)⟩))
        (first
          | (go_at_call 176; first | (refine (l02Draw_any _ ST.out.src ST.out.bytes ST.out.low).mono ?_; rintro e w9 ⟨y9, M9, a9, k9, g9, lo9, hi9, rfl, hy9, hM0, hM9, s9, hlo9, hs9, f9⟩; have st9 := ST.out.draw hs9 f9) | (refine (l02Draw_any _ ST2.out.src ST2.out.bytes ST2.out.low).mono ?_; rintro e w9 ⟨y9, M9, a9, k9, g9, lo9, hi9, rfl, hy9, hM0, hM9, s9, hlo9, hs9, f9⟩; have st9 := ST2.out.draw hs9 f9)
             have hz9 := f9.size
             try simp only [World.size_drew, World.size_alloc, World.size_setCell] at hz9 hlo9
             first | (obtain ⟨d0, d1⟩ := (st9.box 2 (w.heap.size, [.int .i64 0, .slice none 0 0]) rfl).cell2; have dz := (st9.box 2 (w.heap.size, [.int .i64 0, .slice none 0 0]) rfl).2.2) | (obtain ⟨d0, d1⟩ := (st9.box 0 (w.heap.size, [.int .i64 x_w1, .slice a_w1 L_w1 k_w1]) rfl).cell2; have dz := (st9.box 0 (w.heap.size, [.int .i64 x_w1, .slice a_w1 L_w1 k_w1]) rfl).2.2)
             first | (obtain ⟨e0, e1⟩ := (st9.box 1 (w.heap.size + 1, [.int .i64 0, .slice none 0 0]) rfl).cell2; have ez := (st9.box 1 (w.heap.size + 1, [.int .i64 0, .slice none 0 0]) rfl).2.2) | (obtain ⟨e0, e1⟩ := (st9.box 2 (w.heap.size + 1, [.int .i64 0, .slice none 0 0]) rfl).cell2; have ez := (st9.box 2 (w.heap.size + 1, [.int .i64 0, .slice none 0 0]) rfl).2.2)
             dsimp only at d0 d1 e0 e1 dz ez))
      all_goals
        replace st9 := st9.addSl ⟨false, lo9, hi9, .slice a9 M9 k9, M9, g9⟩ s9 (.inr (by dsimp only; omega))
        have z2 := (st9.sl 0 _ rfl).size
        dsimp only at z2
        have FIN : ∀ W', Frame w.heap.size (w.heap.size + 1 + 1) w9 W' → DrP b p n q w.heap.size 13 w (.returned (.tuple #[.agg #[.int .i64 x_w1, .slice a_w1 L_w1 k_w1], .agg #[.int .i64 y9, .slice a9 M9 k9]])) W' := fun W' FS => by
          have stz := st9.write FS (by omega) (by omega) [] [⟨false, lo_w1, hi_w1, .slice a_w1 L_w1 k_w1, L_w1, g_w1⟩, ⟨false, lo9, hi9, .slice a9 M9 k9, M9, g9⟩] (fun x hx => by cases hx) (fun s hs => by simp only [List.mem_cons, List.not_mem_nil, or_false] at hs; rcases hs with rfl | rfl <;> exact ⟨by simp, by first | exact .inr (by dsimp only; omega) | exact .inl (by dsimp only; omega)⟩)
          exact ⟨x_w1, L_w1, a_w1, k_w1, g_w1, lo_w1, hi_w1, y9, M9, a9, k9, g9, lo9, hi9, rfl, hx_w1, hL0_w1, by omega, by first | exact stz.sl 0 _ rfl | exact (stz.sl 0 _ rfl).rd, by show w.heap.size ≤ lo_w1; omega, hy9, hM0, by omega, by first | exact stz.sl 1 _ rfl | exact (stz.sl 1 _ rfl).rd, by show w.heap.size ≤ lo9; omega, stz.src, stz.frame⟩
        have HFIN := Lib.hid FIN; clear FIN
        clear st9 s9 f9
        go_wp2
        refine bodyPost_ret (v := .tuple #[.agg #[.int .i64 x_w1, .slice a_w1 L_w1 k_w1], .agg #[.int .i64 y9, .slice a9 M9 k9]]) (by simp [results, Try.results183, go_sem, d0, d1, e0, e1]) rfl ?_
        exact HFIN.out _ (by repeat' (first | exact Frame.refl _ _ _ | refine Frame.set ?_ (by omega) (by omega) _))
end
end

section
open Go.RowKit Go.ChangeShapes Go.Sort
set_option linter.unusedVariables false
set_option linter.unusedSimpArgs false
/-- Two drawn numbers, or things that are none, out of a code. -/
def DrX2 (w : World) (e : Ending) (w' : World) : Prop :=
  ∃ (x : Int) (L : Nat) (a : Option Addr) (cap : Nat) (f : Nat → Int) (lo1 hi1 : Nat) (y : Int) (K : Nat) (a2 : Option Addr) (cap2 : Nat) (g : Nat → Int) (lo2 hi2 : Nat), e = .returned (.tuple #[.agg #[.int .i64 x, .slice a L cap], .agg #[.int .i64 y, .slice a2 K cap2]]) ∧
    inR x ∧ 0 < L ∧ L ≤ 13 ∧ Sl false w' lo1 hi1 (.slice a L cap) L f ∧ w.heap.size ≤ lo1 ∧ inR y ∧ 0 < K ∧ K ≤ 13 ∧ Sl false w' lo2 hi2 (.slice a2 K cap2) K g ∧ w.heap.size ≤ lo2 ∧ Below w.heap.size w w'
theorem MultiplyCyclos_some (x : Int) (L : Nat) (f : Nat → Int) (y : Int) (M : Nat) (g : Nat → Int) : ∃ (R : Int) (N : Nat) (G : Nat → Int) (C1 : Int), A3 189 x L f y M g R N G C1 ∧ (C1 = 0 → inR R ∧ 0 < N ∧ N ≤ 13) := by
  by_cases h : pairC x y L M f g = 0
  · obtain ⟨h0, h1, e⟩ := pairC_zero h
    subst e
    obtain ⟨m, rfl⟩ := Int.eq_ofNat_of_zero_le (show 0 ≤ x by have := h0.1; omega)
    have e0 := cy_len L f h0
    have e1 := cy_len M g h1
    obtain rfl : L = M := by rw [e0, e1]
    have hm1 : 1 ≤ m := by have := h0.1; omega
    have hm2 : m ≤ 16 := by have := h0.2.1; omega
    have hp := phi_le12 m hm2 hm1
    have hp1 := phiN_pos m (by omega) hm1
    by_cases hw : Within (prodZ m L f g) (phiN m) 1000000000
    · exact ⟨m, phiN m, prodZ m L f g, 0, fun w _ _ _ _ _ _ _ _ hs ht => MultiplyCyclos_spec_ok m w hs ht h0 h1 hw, fun _ => ⟨by unfold inR; omega, hp1, by omega⟩⟩
    · exact ⟨0, 0, fun _ => 0, 3, fun w _ _ _ _ _ _ _ _ hs ht => fail_form (MultiplyCyclos_spec_big m w hs ht h0 h1 hw), fun h => by cases h⟩
  · exact ⟨0, 0, fun _ => 0, _, fun w _ _ _ _ _ _ _ _ hs ht => fail_form (MultiplyCyclos_spec_bad x y _ w hs ht rfl h), fun e => absurd e h⟩
section
variable {B : Nat} {p : Option Addr} {n q : Nat}
set_option maxRecDepth 100000 in
set_option maxHeartbeats 8000000 in
theorem DrawDivideCyclos_any (w : World) (hb : Bytes w B p n) (hB : B ≤ w.heap.size) :
    Calls Try.prog 92 #[.slice p n q] w (DrX2 w) := by
  have B0 := Below.refl w.heap.size w
  replace B0 := B0.alloc (Nat.le_refl _) (.cells #[.int .i64 0, .slice none 0 0] 26)
  replace B0 := B0.alloc (by simp only [World.size_alloc]; omega) (.cells #[.int .i64 0, .slice none 0 0] 26)
  have bx0 := Box.made (w) #[.int .i64 0, .slice none 0 0] 26 [.int .i64 0, .slice none 0 0] (fun j v h => by simpa using h)
  have bx1 := Box.made ((w).alloc (.cells #[.int .i64 0, .slice none 0 0] 26)) #[.int .i64 0, .slice none 0 0] 26 [.int .i64 0, .slice none 0 0] (fun j v h => by simpa using h)
  replace bx0 := bx0.alloc2 (.cells #[.int .i64 0, .slice none 0 0] 26)
  have hb0 := hb.below B0
  clear hb
  go_enter Try.func92, Try.ntmps92
  go_wp2_with fail
  refine (l01From_any B p n q _ hb0 (by (try simp only [World.size_alloc]); omega)).mono ?_
  rintro e w1 ⟨rfl, hs1, hb1, b1⟩
  have hz_w1 := b1.size
  try simp only [World.size_alloc] at hz_w1 hs1 bx0 bx1
  have st1 := Ds.at hB (B0.trans (b1.mono (by (try simp only [World.size_alloc]); omega))) hs1 hb1 (by omega)
  have hbz := hs1.lt
  replace st1 := st1.addBox (w.heap.size) [.int .i64 0, .slice none 0 0] (bx0.keep (by simpa only [World.size_alloc] using b1)) (by omega)
  replace st1 := st1.addBox (w.heap.size + 1) [.int .i64 0, .slice none 0 0] (bx1.keep (by simpa only [World.size_alloc] using b1)) (by omega)
  clear hb0 B0 b1 hs1 hb1 bx0 bx1
  go_wp2_with fail
  refine (l02Pair_any _ st1.src st1.bytes st1.low).mono ?_
  rintro e w2 ⟨x_w2, L_w2, a_w2, k_w2, u_w2, lo_w2, hi_w2, y_w2, M_w2, a2_w2, k2_w2, g_w2, lo2_w2, hi2_w2, rfl, hx_w2, hL0_w2, hL_w2, s_w2, hlo_w2, hy_w2, hM0_w2, hM_w2, s2_w2, hlo2_w2, hs_w2, f_w2⟩
  have hz_w2 := f_w2.size
  try simp only [World.size_alloc] at hz_w2
  have st2 := st1.draw hs_w2 f_w2
  try simp only [World.size_alloc] at s_w2
  replace st2 := st2.addSl ⟨false, lo_w2, hi_w2, .slice a_w2 L_w2 k_w2, L_w2, u_w2⟩ s_w2 (.inr (by dsimp only; omega))
  try simp only [World.size_alloc] at s2_w2
  replace st2 := st2.addSl ⟨false, lo2_w2, hi2_w2, .slice a2_w2 M_w2 k2_w2, M_w2, g_w2⟩ s2_w2 (.inr (by dsimp only; omega))
  have hh_w2 := s_w2.size
  have hh2_w2 := s2_w2.size
  clear st1 hs_w2 f_w2 s_w2 s2_w2
  replace st2 := st2.newBox [.int .i64 x_w2, .slice a_w2 L_w2 k_w2] 26
  replace st2 := st2.newBox [.int .i64 y_w2, .slice a2_w2 M_w2 k2_w2] 26
  simp only [World.size_alloc] at st2
  obtain ⟨R, N, G, C, HM, HMR⟩ := MultiplyCyclos_some x_w2 L_w2 u_w2 y_w2 M_w2 g_w2
  obtain ⟨c_x_0, c_x_1⟩ := (st2.box 1 (w2.heap.size, [.int .i64 x_w2, .slice a_w2 L_w2 k_w2]) rfl).cell2
  have z_x := (st2.box 1 (w2.heap.size, [.int .i64 x_w2, .slice a_w2 L_w2 k_w2]) rfl).2.2
  dsimp only at c_x_0 c_x_1 z_x
  obtain ⟨c_y_0, c_y_1⟩ := (st2.box 0 (w2.heap.size + 1, [.int .i64 y_w2, .slice a2_w2 M_w2 k2_w2]) rfl).cell2
  have z_y := (st2.box 0 (w2.heap.size + 1, [.int .i64 y_w2, .slice a2_w2 M_w2 k2_w2]) rfl).2.2
  dsimp only at c_y_0 c_y_1 z_y
  have q_x := st2.sl 1 ⟨false, lo_w2, hi_w2, .slice a_w2 L_w2 k_w2, L_w2, u_w2⟩ rfl
  dsimp only at q_x
  have q_y := st2.sl 0 ⟨false, lo2_w2, hi2_w2, .slice a2_w2 M_w2 k2_w2, M_w2, g_w2⟩ rfl
  dsimp only at q_y
  have HM' := Lib.hid HM; clear HM
  go_wp2_with fail
  refine (HM'.out _ _ _ _ _ _ _ _ _ q_x q_y).mono ?_
  rintro e w3 ⟨a3_w3, k3_w3, rfl, s_w3, b_w3⟩
  have hz_w3 := b_w3.size
  try simp only [World.size_alloc] at hz_w3
  have st3 := st2.keep b_w3
  try simp only [World.size_alloc] at s_w3
  replace st3 := st3.addSl ⟨true, w2.heap.size + 1 + 1, w3.heap.size, .slice a3_w3 N k3_w3, N, G⟩ s_w3 (.inr (by dsimp only; omega))
  clear c_x_0 c_x_1 z_x c_y_0 c_y_1 z_y q_x q_y st2 b_w3 s_w3
  replace st3 := st3.newBox [.int .i64 R, .slice a3_w3 N k3_w3] 26
  by_cases hC : C = 0
  · subst hC
    obtain ⟨hR, hN0, hN⟩ := HMR rfl
    clear HMR
    go_wp2_with fail
    refine (l01Next_any _ _ _ _ _ 3 _ st3.src st3.bytes st3.low (by omega) (by omega)).mono ?_
    rintro e w4 ⟨r, rfl, hr1, hr2, hs_w4, f_w4⟩
    have hz_w4 := f_w4.size
    try simp only [World.size_alloc] at hz_w4
    have st4 := st3.draw hs_w4 f_w4
    clear st3 hs_w4 f_w4
    by_cases h0 : 0 < r
    · skip
      obtain ⟨c_p_0, c_p_1⟩ := (st4.box 0 (w3.heap.size, [.int .i64 R, .slice a3_w3 N k3_w3]) rfl).cell2
      have z_p := (st4.box 0 (w3.heap.size, [.int .i64 R, .slice a3_w3 N k3_w3]) rfl).2.2
      dsimp only at c_p_0 c_p_1 z_p
      obtain ⟨c_y_0, c_y_1⟩ := (st4.box 1 (w2.heap.size + 1, [.int .i64 y_w2, .slice a2_w2 M_w2 k2_w2]) rfl).cell2
      have z_y := (st4.box 1 (w2.heap.size + 1, [.int .i64 y_w2, .slice a2_w2 M_w2 k2_w2]) rfl).2.2
      dsimp only at c_y_0 c_y_1 z_y
      obtain ⟨c_r2_0, c_r2_1⟩ := (st4.box 4 (w.heap.size, [.int .i64 0, .slice none 0 0]) rfl).cell2
      have z_r2 := (st4.box 4 (w.heap.size, [.int .i64 0, .slice none 0 0]) rfl).2.2
      dsimp only at c_r2_0 c_r2_1 z_r2
      obtain ⟨c_r3_0, c_r3_1⟩ := (st4.box 3 (w.heap.size + 1, [.int .i64 0, .slice none 0 0]) rfl).cell2
      have z_r3 := (st4.box 3 (w.heap.size + 1, [.int .i64 0, .slice none 0 0]) rfl).2.2
      dsimp only at c_r3_0 c_r3_1 z_r3
      have FIN : ∀ W', Frame w.heap.size (w.heap.size + 1 + 1) w4 W' → DrX2 w (.returned (.tuple #[.agg #[.int .i64 R, .slice a3_w3 N k3_w3], .agg #[.int .i64 y_w2, .slice a2_w2 M_w2 k2_w2]])) W' := fun W' FS => by
        have stz := st4.write FS (by omega) (by omega) [] [⟨true, w2.heap.size + 1 + 1, w3.heap.size, .slice a3_w3 N k3_w3, N, G⟩, ⟨false, lo2_w2, hi2_w2, .slice a2_w2 M_w2 k2_w2, M_w2, g_w2⟩] (fun x hx => by cases hx) (fun s hs => by simp only [List.mem_cons, List.not_mem_nil, or_false] at hs; rcases hs with rfl | rfl <;> exact ⟨by simp, by first | exact .inr (by dsimp only; omega) | exact .inl (by dsimp only; omega)⟩)
        exact ⟨R, N, a3_w3, k3_w3, G, _, _, y_w2, M_w2, a2_w2, k2_w2, g_w2, lo2_w2, hi2_w2, rfl, hR, hN0, hN, by first | exact stz.sl 0 _ rfl | exact (stz.sl 0 _ rfl).rd, by (show _ ≤ _); dsimp only; omega, hy_w2, hM0_w2, by omega, by first | exact stz.sl 1 _ rfl | exact (stz.sl 1 _ rfl).rd, by show w.heap.size ≤ lo2_w2; omega, stz.below (by omega)⟩
      have HFIN := Lib.hid FIN; clear FIN st4
      go_wp2
      go_region
      all_goals
        go_wp2
        refine bodyPost_ret (v := .tuple #[.agg #[.int .i64 R, .slice a3_w3 N k3_w3], .agg #[.int .i64 y_w2, .slice a2_w2 M_w2 k2_w2]]) (by simp [results, Try.results92, go_sem, c_r2_0, c_r2_1, c_r3_0, c_r3_1]) rfl ?_
        exact HFIN.out _ (by repeat' (first | exact Frame.refl _ _ _ | refine Frame.set ?_ (by omega) (by omega) _ | refine Frame.drew ?_))
    · skip
      obtain ⟨c_x_0, c_x_1⟩ := (st4.box 2 (w2.heap.size, [.int .i64 x_w2, .slice a_w2 L_w2 k_w2]) rfl).cell2
      have z_x := (st4.box 2 (w2.heap.size, [.int .i64 x_w2, .slice a_w2 L_w2 k_w2]) rfl).2.2
      dsimp only at c_x_0 c_x_1 z_x
      obtain ⟨c_y_0, c_y_1⟩ := (st4.box 1 (w2.heap.size + 1, [.int .i64 y_w2, .slice a2_w2 M_w2 k2_w2]) rfl).cell2
      have z_y := (st4.box 1 (w2.heap.size + 1, [.int .i64 y_w2, .slice a2_w2 M_w2 k2_w2]) rfl).2.2
      dsimp only at c_y_0 c_y_1 z_y
      obtain ⟨c_r2_0, c_r2_1⟩ := (st4.box 4 (w.heap.size, [.int .i64 0, .slice none 0 0]) rfl).cell2
      have z_r2 := (st4.box 4 (w.heap.size, [.int .i64 0, .slice none 0 0]) rfl).2.2
      dsimp only at c_r2_0 c_r2_1 z_r2
      obtain ⟨c_r3_0, c_r3_1⟩ := (st4.box 3 (w.heap.size + 1, [.int .i64 0, .slice none 0 0]) rfl).cell2
      have z_r3 := (st4.box 3 (w.heap.size + 1, [.int .i64 0, .slice none 0 0]) rfl).2.2
      dsimp only at c_r3_0 c_r3_1 z_r3
      have FIN : ∀ W', Frame w.heap.size (w.heap.size + 1 + 1) w4 W' → DrX2 w (.returned (.tuple #[.agg #[.int .i64 x_w2, .slice a_w2 L_w2 k_w2], .agg #[.int .i64 y_w2, .slice a2_w2 M_w2 k2_w2]])) W' := fun W' FS => by
        have stz := st4.write FS (by omega) (by omega) [] [⟨false, lo_w2, hi_w2, .slice a_w2 L_w2 k_w2, L_w2, u_w2⟩, ⟨false, lo2_w2, hi2_w2, .slice a2_w2 M_w2 k2_w2, M_w2, g_w2⟩] (fun x hx => by cases hx) (fun s hs => by simp only [List.mem_cons, List.not_mem_nil, or_false] at hs; rcases hs with rfl | rfl <;> exact ⟨by simp, by first | exact .inr (by dsimp only; omega) | exact .inl (by dsimp only; omega)⟩)
        exact ⟨x_w2, L_w2, a_w2, k_w2, u_w2, lo_w2, hi_w2, y_w2, M_w2, a2_w2, k2_w2, g_w2, lo2_w2, hi2_w2, rfl, hx_w2, hL0_w2, by omega, by first | exact stz.sl 0 _ rfl | exact (stz.sl 0 _ rfl).rd, by show w.heap.size ≤ lo_w2; omega, hy_w2, hM0_w2, by omega, by first | exact stz.sl 1 _ rfl | exact (stz.sl 1 _ rfl).rd, by show w.heap.size ≤ lo2_w2; omega, stz.below (by omega)⟩
      have HFIN := Lib.hid FIN; clear FIN st4
      go_wp2
      go_region
      all_goals
        go_wp2
        refine bodyPost_ret (v := .tuple #[.agg #[.int .i64 x_w2, .slice a_w2 L_w2 k_w2], .agg #[.int .i64 y_w2, .slice a2_w2 M_w2 k2_w2]]) (by simp [results, Try.results92, go_sem, c_r2_0, c_r2_1, c_r3_0, c_r3_1]) rfl ?_
        exact HFIN.out _ (by repeat' (first | exact Frame.refl _ _ _ | refine Frame.set ?_ (by omega) (by omega) _ | refine Frame.drew ?_))
  · have e0 : (C == 0) = false := by simpa using hC
    clear HMR
    obtain ⟨c_x_0, c_x_1⟩ := (st3.box 2 (w2.heap.size, [.int .i64 x_w2, .slice a_w2 L_w2 k_w2]) rfl).cell2
    have z_x := (st3.box 2 (w2.heap.size, [.int .i64 x_w2, .slice a_w2 L_w2 k_w2]) rfl).2.2
    dsimp only at c_x_0 c_x_1 z_x
    obtain ⟨c_y_0, c_y_1⟩ := (st3.box 1 (w2.heap.size + 1, [.int .i64 y_w2, .slice a2_w2 M_w2 k2_w2]) rfl).cell2
    have z_y := (st3.box 1 (w2.heap.size + 1, [.int .i64 y_w2, .slice a2_w2 M_w2 k2_w2]) rfl).2.2
    dsimp only at c_y_0 c_y_1 z_y
    obtain ⟨c_r2_0, c_r2_1⟩ := (st3.box 4 (w.heap.size, [.int .i64 0, .slice none 0 0]) rfl).cell2
    have z_r2 := (st3.box 4 (w.heap.size, [.int .i64 0, .slice none 0 0]) rfl).2.2
    dsimp only at c_r2_0 c_r2_1 z_r2
    obtain ⟨c_r3_0, c_r3_1⟩ := (st3.box 3 (w.heap.size + 1, [.int .i64 0, .slice none 0 0]) rfl).cell2
    have z_r3 := (st3.box 3 (w.heap.size + 1, [.int .i64 0, .slice none 0 0]) rfl).2.2
    dsimp only at c_r3_0 c_r3_1 z_r3
    have FIN : ∀ W', Frame w.heap.size (w.heap.size + 1 + 1) (w3.alloc (.cells #[.int .i64 R, .slice a3_w3 N k3_w3] 26)) W' → DrX2 w (.returned (.tuple #[.agg #[.int .i64 x_w2, .slice a_w2 L_w2 k_w2], .agg #[.int .i64 y_w2, .slice a2_w2 M_w2 k2_w2]])) W' := fun W' FS => by
      have stz := st3.write FS (by omega) (by omega) [] [⟨false, lo_w2, hi_w2, .slice a_w2 L_w2 k_w2, L_w2, u_w2⟩, ⟨false, lo2_w2, hi2_w2, .slice a2_w2 M_w2 k2_w2, M_w2, g_w2⟩] (fun x hx => by cases hx) (fun s hs => by simp only [List.mem_cons, List.not_mem_nil, or_false] at hs; rcases hs with rfl | rfl <;> exact ⟨by simp, by first | exact .inr (by dsimp only; omega) | exact .inl (by dsimp only; omega)⟩)
      exact ⟨x_w2, L_w2, a_w2, k_w2, u_w2, lo_w2, hi_w2, y_w2, M_w2, a2_w2, k2_w2, g_w2, lo2_w2, hi2_w2, rfl, hx_w2, hL0_w2, by omega, by first | exact stz.sl 0 _ rfl | exact (stz.sl 0 _ rfl).rd, by show w.heap.size ≤ lo_w2; omega, hy_w2, hM0_w2, by omega, by first | exact stz.sl 1 _ rfl | exact (stz.sl 1 _ rfl).rd, by show w.heap.size ≤ lo2_w2; omega, stz.below (by omega)⟩
    have HFIN := Lib.hid FIN; clear FIN st3
    go_wp2
    go_region
    all_goals
      go_wp2
      refine bodyPost_ret (v := .tuple #[.agg #[.int .i64 x_w2, .slice a_w2 L_w2 k_w2], .agg #[.int .i64 y_w2, .slice a2_w2 M_w2 k2_w2]]) (by simp [results, Try.results92, go_sem, c_r2_0, c_r2_1, c_r3_0, c_r3_1]) rfl ?_
      exact HFIN.out _ (by repeat' (first | exact Frame.refl _ _ _ | refine Frame.set ?_ (by omega) (by omega) _ | refine Frame.drew ?_))
end
end

section
open Go.RowKit Go.ChangeShapes Go.Sort
set_option linter.unusedVariables false
set_option linter.unusedSimpArgs false
theorem unitF_bd (N : Nat) (k : Int) (h1 : 1 ≤ N) (h2 : N ≤ 16) : ∀ j, j < phiN N → -1 ≤ redP N (unit (powIx N k)) j ∧ redP N (unit (powIx N k)) j ≤ 1 := fun j hj => by
  have hk := (powIx_eq N h1 k).2.1
  rw [unit_tb (by omega) h1 hk hj]
  exact tab_one N (by omega) h1 _ hk j hj
section
variable {b B : Nat} {p : Option Addr} {n q : Nat}
set_option maxRecDepth 100000 in
set_option maxHeartbeats 8000000 in
theorem l02Unit_any (w : World) (hs : Src w b p n q) (hb : Bytes w B p n) (hB : B ≤ b) :
    Calls Try.prog 195 #[.pointer (some ⟨b, 0, none⟩)] w (DrC b p n q w.heap.size 13 w) := by
  have st0 := Ds.start hs hb hB
  have hbz := hs.lt
  replace st0 := st0.newBox [.int .i64 0, .slice none 0 0] 26
  clear hs hb
  go_enter Try.func195, Try.ntmps195
  go_wp2_with fail
  refine (l01DrawOrder_any _ st0.src st0.bytes st0.low).mono ?_
  rintro e w1 ⟨N, rfl, hN1, hN2, hs_w1, _, f_w1⟩
  have hz_w1 := f_w1.size
  try simp only [World.size_alloc] at hz_w1
  have st1 := st0.draw hs_w1 f_w1
  clear st0 hs_w1 f_w1
  have hp := phi_le12 N hN2 hN1
  have hp1 := phiN_pos N (by omega) hN1
  go_wp2_with fail
  refine (l01Next_any _ _ _ _ _ 40 _ st1.src st1.bytes st1.low (by omega) (by omega)).mono ?_
  rintro e w2 ⟨ra, rfl, hra1, hra2, hs_w2, f_w2⟩
  have hz_w2 := f_w2.size
  try simp only [World.size_alloc] at hz_w2
  have st2 := st1.draw hs_w2 f_w2
  clear st1 hs_w2 f_w2
  have HU := Lib.hid (unitF_bd N ra hN1 hN2)
  obtain ⟨U, hU⟩ : ∃ U, redP N (unit (powIx N ra)) = U := ⟨_, rfl⟩
  have HUA := Lib.hid (l01Unit_any N ra)
  rw [hU] at HU HUA
  clear hU
  go_wp2_with fail
  refine (HUA.out _ hN1 hN2).mono ?_
  rintro e w3 ⟨a_w3, k_w3, rfl, s_w3, b_w3⟩
  have hz_w3 := b_w3.size
  try simp only [World.size_alloc] at hz_w3
  have st3 := st2.keep b_w3
  try simp only [World.size_alloc] at s_w3
  replace st3 := st3.addSl ⟨true, w2.heap.size, w3.heap.size, .slice a_w3 (phiN N) k_w3, (phiN N), U⟩ s_w3 (.inr (by dsimp only; omega))
  clear st2 b_w3 s_w3
  clear HUA
  replace st3 := st3.newBox [.int .i64 (N : Int), .slice a_w3 (phiN N) k_w3] 26
  go_wp2_with fail
  refine (l01Next_any _ _ _ _ _ 5 _ st3.src st3.bytes st3.low (by omega) (by omega)).mono ?_
  rintro e w4 ⟨k, rfl, hk1, hk2, hs_w4, f_w4⟩
  have hz_w4 := f_w4.size
  try simp only [World.size_alloc] at hz_w4
  have st4 := st3.draw hs_w4 f_w4
  clear st3 hs_w4 f_w4
  go_wp2_with fail
  refine (l01Next_any _ _ _ _ _ 2 _ st4.src st4.bytes st4.low (by omega) (by omega)).mono ?_
  rintro e w5 ⟨rb, rfl, hrb1, hrb2, hs_w5, f_w5⟩
  have hz_w5 := f_w5.size
  try simp only [World.size_alloc] at hz_w5
  have st5 := st4.draw hs_w5 f_w5
  clear st4 hs_w5 f_w5
  by_cases h0 : rb = 0
  · subst h0
    go_wp2_with fail
    refine (l01Zero_any N (by omega) _).mono ?_
    rintro e w6 ⟨a_w6, k_w6, rfl, s_w6, b_w6⟩
    have hz_w6 := b_w6.size
    try simp only [World.size_alloc] at hz_w6
    have st6 := st5.keep b_w6
    try simp only [World.size_alloc] at s_w6
    replace st6 := st6.addSl ⟨true, w5.heap.size, w6.heap.size, .slice a_w6 (phiN N) k_w6, (phiN N), (fun _ => 0)⟩ s_w6 (.inr (by dsimp only; omega))
    clear st5 b_w6 s_w6
    replace st6 := st6.newBox [.int .i64 (N : Int), .slice a_w6 (phiN N) k_w6] 26
    have HST := Lib.hid st6; clear st6
    go_wp2
    go_loopw [7] (fun s7 wr => ∃ (i : Nat) (aS : Option Addr) (cS loS hiS : Nat) (F : Nat → Int), (i : Int) ≤ k + 1 ∧ s7 = .int .i64 (i : Int) ∧ w6.heap.size < wr.heap.size ∧ w5.heap.size ≤ loS ∧ (w6.heap.size < loS ∨ hiS ≤ w6.heap.size) ∧ hiS ≤ wr.heap.size ∧ (∀ j, j < phiN N → -(i : Int) ≤ F j ∧ F j ≤ (i : Int)) ∧ Ds b B p n q w wr [(w6.heap.size, [.int .i64 (N : Int), .slice aS (phiN N) cS]), (w3.heap.size, [.int .i64 (N : Int), .slice a_w3 (phiN N) k_w3]), (w.heap.size, [.int .i64 0, .slice none 0 0])] [⟨true, loS, hiS, .slice aS (phiN N) cS, (phiN N), F⟩, ⟨true, w2.heap.size, w3.heap.size, .slice a_w3 (phiN N) k_w3, (phiN N), U⟩]) (fun s7 _ => (k + 2).toNat - (intOf s7).toNat)
    case atStart => exact ⟨0, a_w6, k_w6, w5.heap.size, w6.heap.size, fun _ => 0, by omega, rfl, by simp, by omega, .inr (by omega), by simp, fun j _ => by simp, HST.out⟩
    case round =>
      clear HST
      obtain ⟨i, aS, cS, loS, hiS, F, hik, rfl, hzr, hlo, hdis, hhi, hF, hst⟩ := hrel
      by_cases hlt : (i : Int) ≤ k
      · have HF := Lib.hid hF; clear hF
        obtain ⟨c0, c1⟩ := (hst.box 0 (w6.heap.size, [.int .i64 (N : Int), .slice aS (phiN N) cS]) rfl).cell2
        have cz := (hst.box 0 (w6.heap.size, [.int .i64 (N : Int), .slice aS (phiN N) cS]) rfl).2.2
        dsimp only at c0 c1 cz
        have HV := Lib.hid (unitF_bd N (i : Int) hN1 hN2)
        obtain ⟨V, hV⟩ : ∃ V, redP N (unit (powIx N (i : Int))) = V := ⟨_, rfl⟩
        have HVA := Lib.hid (l01Unit_any N (i : Int))
        rw [hV] at HV HVA
        clear hV
        have HST := Lib.hid hst; clear hst
        go_wp2_with fail
        go_region_law (first
          | (go_simp; go_at_call 198; refine (HVA.out _ hN1 hN2).mono ?_; rintro e w60 ⟨a60, k60, rfl, s60, b60⟩
             have hz60 := b60.size
             try simp only [World.size_drew] at hz60 s60
             have st60 := HST.out.drew.keep b60
             obtain ⟨y0, y1⟩ := (st60.box 0 (w6.heap.size, [.int .i64 (N : Int), .slice aS (phiN N) cS]) rfl).cell2
             try dsimp only at y0 y1)
          | (go_simp; go_at_call 140; refine (l01Plus_any (N : Int) 1 _ (st60.sl 0 ⟨true, loS, hiS, .slice aS (phiN N) cS, (phiN N), F⟩ rfl) s60 (by omega) (by omega) (fun j hj => by have := HF.out j hj; (show -1000000000 ≤ F j ∧ F j ≤ 1000000000); omega) (fun j hj => by have := HV.out j hj; (show -1000000000 ≤ V j ∧ V j ≤ 1000000000); omega) (by show phiN N ≤ 24; omega)).mono ?_; rintro e w70 ⟨a70, k70, rfl, s70, b70⟩
             have hz70 := b70.size
             have st70 := st60.keep b70
             obtain ⟨r0, r1⟩ := (st70.box 0 (w6.heap.size, [.int .i64 (N : Int), .slice aS (phiN N) cS]) rfl).cell2
             have rz := (st70.box 0 (w6.heap.size, [.int .i64 (N : Int), .slice aS (phiN N) cS]) rfl).2.2
             try dsimp only at r0 r1 rz))
        all_goals
          have FS := ((Frame.refl (w6.heap.size) (w6.heap.size + 1) w70).set (o := 0) (Nat.le_refl _) (Nat.lt_succ_self _) (.int .i64 (N : Int))).set (o := 1) (Nat.le_refl _) (Nat.lt_succ_self _) (.slice a70 (phiN N) k70)
          have T70 := Lib.hid (((st70.write (w' := ((w70.setCell ⟨w6.heap.size, 0, none⟩ (.int .i64 (N : Int))).setCell ⟨w6.heap.size, 1, none⟩ (.slice a70 (phiN N) k70))) FS (by omega) (by omega) [(w3.heap.size, [.int .i64 (N : Int), .slice a_w3 (phiN N) k_w3]), (w.heap.size, [.int .i64 0, .slice none 0 0])] [⟨true, w2.heap.size, w3.heap.size, .slice a_w3 (phiN N) k_w3, (phiN N), U⟩] (fun x hx => ⟨List.mem_cons_of_mem _ hx, by simp only [List.mem_cons, List.not_mem_nil, or_false] at hx; rcases hx with rfl | rfl <;> first | exact .inl (by (try dsimp only); omega) | exact .inr (by (try dsimp only); omega)⟩) (fun s hs => ⟨List.mem_cons_of_mem _ hs, by simp only [List.mem_cons, List.not_mem_nil, or_false] at hs; rcases hs with rfl <;> first | exact .inl (by (try dsimp only); omega) | exact .inr (by (try dsimp only); omega)⟩)).addBox (w6.heap.size) [.int .i64 (N : Int), .slice a70 (phiN N) k70] (Box.set2 (st70.box 0 (w6.heap.size, [.int .i64 (N : Int), .slice aS (phiN N) cS]) rfl)) (by (try dsimp only); omega)).addSl ⟨true, w60.heap.size, w70.heap.size, .slice a70 (phiN N) k70, phiN N, addF 1 F V⟩ ((s70.setOther (.inl (by (try dsimp only); omega)) _).setOther (.inl (by (try dsimp only); omega)) _) (.inr (by (try dsimp only); omega)))
          clear st60 st70 s60 s70 b60 b70 FS
          go_wp2
          go_roundw
          case rel => exact ⟨i + 1, a70, k70, w60.heap.size, w70.heap.size, addF 1 F V, by omega, by go_num, by simp; omega, by omega, .inl (by omega), by simp, fun j hj => by have := HF.out j hj; have := HV.out j hj; unfold addF; omega, by first | exact T70.out | exact T70.out.drew⟩
          case measure => simp [intOf]; omega
      · skip
        obtain ⟨c_sum_0, c_sum_1⟩ := (hst.box 0 (w6.heap.size, [.int .i64 (N : Int), .slice aS (phiN N) cS]) rfl).cell2
        have z_sum := (hst.box 0 (w6.heap.size, [.int .i64 (N : Int), .slice aS (phiN N) cS]) rfl).2.2
        dsimp only at c_sum_0 c_sum_1 z_sum
        obtain ⟨c_r_0, c_r_1⟩ := (hst.box 2 (w.heap.size, [.int .i64 0, .slice none 0 0]) rfl).cell2
        have z_r := (hst.box 2 (w.heap.size, [.int .i64 0, .slice none 0 0]) rfl).2.2
        dsimp only at c_r_0 c_r_1 z_r
        go_wp2
        refine bodyPost_ret (v := .agg #[.int .i64 (N : Int), .slice aS (phiN N) cS]) (by simp [results, Try.results195, go_sem, c_r_0 , c_r_1]) rfl ?_
        have FS : Frame (w.heap.size) (w.heap.size + 1) wr ((wr.setCell ⟨w.heap.size, 0, none⟩ (.int .i64 (N : Int))).setCell ⟨w.heap.size, 1, none⟩ (.slice aS (phiN N) cS)) := ((Frame.refl _ _ _).set (by omega) (by omega) _).set (by omega) (by omega) _
        have stz := hst.write FS (by omega) (by omega) [] [⟨true, loS, hiS, .slice aS (phiN N) cS, (phiN N), F⟩] (fun x hx => by cases hx) (fun s hs => by simp only [List.mem_cons, List.not_mem_nil, or_false] at hs; rcases hs with rfl <;> exact ⟨by simp, by first | exact .inl (by dsimp only; omega) | exact .inr (by dsimp only; omega)⟩)
        exact ⟨N, phiN N, aS, cS, F, loS, hiS, rfl, by unfold inR; omega, hp1, by omega, (stz.sl 0 _ rfl).rd, by show _ ≤ loS; omega, stz.src, stz.frame⟩
  · have e0 : (rb == 0) = false := by simpa using h0
    go_wp2_with fail
    refine (l01Next_any _ _ _ _ _ 4 _ st5.src st5.bytes st5.low (by omega) (by omega)).mono ?_
    rintro e w6 ⟨rc, rfl, hrc1, hrc2, hs_w6, f_w6⟩
    have hz_w6 := f_w6.size
    try simp only [World.size_alloc] at hz_w6
    have st6 := st5.draw hs_w6 f_w6
    clear st5 hs_w6 f_w6
    by_cases h1 : rc = 0
    · subst h1
      go_wp2_with fail
      refine (l02Draw_any _ st6.src st6.bytes st6.low).mono ?_
      rintro e w7 ⟨x_w7, L_w7, a_w7, k_w7, g_w7, lo_w7, hi_w7, rfl, hx_w7, hL0_w7, hL_w7, s_w7, hlo_w7, hs_w7, f_w7⟩
      have hz_w7 := f_w7.size
      try simp only [World.size_alloc] at hz_w7
      have st7 := st6.draw hs_w7 f_w7
      try simp only [World.size_alloc] at s_w7
      replace st7 := st7.addSl ⟨false, lo_w7, hi_w7, .slice a_w7 L_w7 k_w7, L_w7, g_w7⟩ s_w7 (.inr (by dsimp only; omega))
      clear st6 hs_w7 f_w7 s_w7
      obtain ⟨c_r_0, c_r_1⟩ := (st7.box 1 (w.heap.size, [.int .i64 0, .slice none 0 0]) rfl).cell2
      have z_r := (st7.box 1 (w.heap.size, [.int .i64 0, .slice none 0 0]) rfl).2.2
      dsimp only at c_r_0 c_r_1 z_r
      go_wp2
      refine bodyPost_ret (v := .agg #[.int .i64 x_w7, .slice a_w7 L_w7 k_w7]) (by simp [results, Try.results195, go_sem, c_r_0 , c_r_1]) rfl ?_
      have FS : Frame (w.heap.size) (w.heap.size + 1) w7 ((w7.setCell ⟨w.heap.size, 0, none⟩ (.int .i64 x_w7)).setCell ⟨w.heap.size, 1, none⟩ (.slice a_w7 L_w7 k_w7)) := ((Frame.refl _ _ _).set (by omega) (by omega) _).set (by omega) (by omega) _
      have stz := st7.write FS (by omega) (by omega) [] [⟨false, lo_w7, hi_w7, .slice a_w7 L_w7 k_w7, L_w7, g_w7⟩] (fun x hx => by cases hx) (fun s hs => by simp only [List.mem_cons, List.not_mem_nil, or_false] at hs; rcases hs with rfl <;> exact ⟨by simp, by first | exact .inl (by dsimp only; omega) | exact .inr (by dsimp only; omega)⟩)
      exact ⟨x_w7, L_w7, a_w7, k_w7, g_w7, lo_w7, hi_w7, rfl, hx_w7, hL0_w7, by omega, stz.sl 0 _ rfl, by show _ ≤ lo_w7; omega, stz.src, stz.frame⟩
    · have e1 : (rc == 0) = false := by simpa using h1
      obtain ⟨c_out_0, c_out_1⟩ := (st6.box 0 (w3.heap.size, [.int .i64 (N : Int), .slice a_w3 (phiN N) k_w3]) rfl).cell2
      have z_out := (st6.box 0 (w3.heap.size, [.int .i64 (N : Int), .slice a_w3 (phiN N) k_w3]) rfl).2.2
      dsimp only at c_out_0 c_out_1 z_out
      obtain ⟨c_r_0, c_r_1⟩ := (st6.box 1 (w.heap.size, [.int .i64 0, .slice none 0 0]) rfl).cell2
      have z_r := (st6.box 1 (w.heap.size, [.int .i64 0, .slice none 0 0]) rfl).2.2
      dsimp only at c_r_0 c_r_1 z_r
      go_wp2
      refine bodyPost_ret (v := .agg #[.int .i64 (N : Int), .slice a_w3 (phiN N) k_w3]) (by simp [results, Try.results195, go_sem, c_r_0 , c_r_1]) rfl ?_
      have FS : Frame (w.heap.size) (w.heap.size + 1) w6 ((w6.setCell ⟨w.heap.size, 0, none⟩ (.int .i64 (N : Int))).setCell ⟨w.heap.size, 1, none⟩ (.slice a_w3 (phiN N) k_w3)) := ((Frame.refl _ _ _).set (by omega) (by omega) _).set (by omega) (by omega) _
      have stz := st6.write FS (by omega) (by omega) [] [⟨true, w2.heap.size, w3.heap.size, .slice a_w3 (phiN N) k_w3, (phiN N), U⟩] (fun x hx => by cases hx) (fun s hs => by simp only [List.mem_cons, List.not_mem_nil, or_false] at hs; rcases hs with rfl <;> exact ⟨by simp, by first | exact .inl (by dsimp only; omega) | exact .inr (by dsimp only; omega)⟩)
      exact ⟨N, phiN N, a_w3, k_w3, U, _, _, rfl, by unfold inR; omega, hp1, by omega, (stz.sl 0 _ rfl).rd, by (show _ ≤ _); dsimp only; omega, stz.src, stz.frame⟩

set_option maxRecDepth 100000 in
set_option maxHeartbeats 1000000 in
theorem DrawIsUnit_any (w : World) (hb : Bytes w B p n) (hB : B ≤ w.heap.size) :
    Calls Try.prog 95 #[.slice p n q] w (DrX 13 w) := by
  have hb0 := hb.below ((Below.refl w.heap.size w).alloc (Nat.le_refl _) (.cells #[.int .i64 0, .slice none 0 0] 26))
  have bx0 := Box.made2 (w := w) (b := w.heap.size) (v0 := .int .i64 0) (v1 := .slice none 0 0) (t := 26) rfl
  clear hb
  go_enter Try.func95, Try.ntmps95
  go_wp2_with fail
  refine (l01From_any B p n q _ hb0 (by simp; omega)).mono ?_
  rintro e w1 ⟨rfl, hs1, hb1, b1⟩
  have hz1 := b1.size
  simp only [World.size_alloc] at hz1 hs1
  have bx1 := bx0.keep b1
  have B1 := ((Below.refl w.heap.size w).alloc (Nat.le_refl _) (.cells #[.int .i64 0, .slice none 0 0] 26)).trans (b1.mono (by simp))
  clear hb0 bx0 b1
  go_wp2_with fail
  refine (l02Unit_any _ hs1 hb1 (by omega)).mono ?_
  rintro e w2 ⟨x, L, a, k, f, lo, hi, rfl, hx, hL0, hL, s2, hlo, hs2, f2⟩
  have hz2 := f2.size
  have bx2 := bx1.keepF f2 (.inl (by omega))
  have B2 := B1.trans (f2.below (B := w.heap.size) (by omega) (by omega))
  have S2 := Lib.hid s2
  clear hs1 hb1 bx1 B1 hs2 f2 s2
  obtain ⟨c0, c1⟩ := bx2.cell2
  have cz := bx2.2.2
  go_wp2
  refine bodyPost_ret (v := .agg #[.int .i64 x, .slice a L k]) (by simp [results, Try.results95, go_sem, c0, c1]) rfl ?_
  refine ⟨x, L, a, k, f, lo, hi, rfl, hx, hL0, hL, ?_, by omega, ?_⟩
  · exact (S2.out.setOther (.inl (by show w.heap.size < _; omega)) _).setOther (.inl (by show w.heap.size < _; omega)) _
  · exact (B2.setCell (Nat.le_refl _) _).setCell (Nat.le_refl _) _

set_option maxRecDepth 100000 in
set_option maxHeartbeats 1000000 in
theorem DrawInverseOf_any (w : World) (hb : Bytes w B p n) (hB : B ≤ w.heap.size) :
    Calls Try.prog 98 #[.slice p n q] w (DrX 13 w) := by
  have hb0 := hb.below ((Below.refl w.heap.size w).alloc (Nat.le_refl _) (.cells #[.int .i64 0, .slice none 0 0] 26))
  have bx0 := Box.made2 (w := w) (b := w.heap.size) (v0 := .int .i64 0) (v1 := .slice none 0 0) (t := 26) rfl
  clear hb
  go_enter Try.func98, Try.ntmps98
  go_wp2_with fail
  refine (l01From_any B p n q _ hb0 (by simp; omega)).mono ?_
  rintro e w1 ⟨rfl, hs1, hb1, b1⟩
  have hz1 := b1.size
  simp only [World.size_alloc] at hz1 hs1
  have bx1 := bx0.keep b1
  have B1 := ((Below.refl w.heap.size w).alloc (Nat.le_refl _) (.cells #[.int .i64 0, .slice none 0 0] 26)).trans (b1.mono (by simp))
  clear hb0 bx0 b1
  go_wp2_with fail
  refine (l02Unit_any _ hs1 hb1 (by omega)).mono ?_
  rintro e w2 ⟨x, L, a, k, f, lo, hi, rfl, hx, hL0, hL, s2, hlo, hs2, f2⟩
  have hz2 := f2.size
  have bx2 := bx1.keepF f2 (.inl (by omega))
  have B2 := B1.trans (f2.below (B := w.heap.size) (by omega) (by omega))
  have S2 := Lib.hid s2
  clear hs1 hb1 bx1 B1 hs2 f2 s2
  obtain ⟨c0, c1⟩ := bx2.cell2
  have cz := bx2.2.2
  go_wp2
  refine bodyPost_ret (v := .agg #[.int .i64 x, .slice a L k]) (by simp [results, Try.results98, go_sem, c0, c1]) rfl ?_
  refine ⟨x, L, a, k, f, lo, hi, rfl, hx, hL0, hL, ?_, by omega, ?_⟩
  · exact (S2.out.setOther (.inl (by show w.heap.size < _; omega)) _).setOther (.inl (by show w.heap.size < _; omega)) _
  · exact (B2.setCell (Nat.le_refl _) _).setCell (Nat.le_refl _) _

end
end

section
open Go.RowKit Go.ChangeShapes Go.Sort
set_option linter.unusedVariables false
set_option linter.unusedSimpArgs false
section
variable {B : Nat} {p : Option Addr} {n q : Nat}
set_option maxRecDepth 100000 in
set_option maxHeartbeats 8000000 in
theorem DrawAreAssociated_any (w : World) (hb : Bytes w B p n) (hB : B ≤ w.heap.size) :
    Calls Try.prog 101 #[.slice p n q] w (DrX2 w) := by
  have B0 := Below.refl w.heap.size w
  replace B0 := B0.alloc (Nat.le_refl _) (.cells #[.int .i64 0, .slice none 0 0] 26)
  replace B0 := B0.alloc (by simp only [World.size_alloc]; omega) (.cells #[.int .i64 0, .slice none 0 0] 26)
  have bx0 := Box.made (w) #[.int .i64 0, .slice none 0 0] 26 [.int .i64 0, .slice none 0 0] (fun j v h => by simpa using h)
  have bx1 := Box.made ((w).alloc (.cells #[.int .i64 0, .slice none 0 0] 26)) #[.int .i64 0, .slice none 0 0] 26 [.int .i64 0, .slice none 0 0] (fun j v h => by simpa using h)
  replace bx0 := bx0.alloc2 (.cells #[.int .i64 0, .slice none 0 0] 26)
  have hb0 := hb.below B0
  clear hb
  go_enter Try.func101, Try.ntmps101
  go_wp2_with fail
  refine (l01From_any B p n q _ hb0 (by (try simp only [World.size_alloc]); omega)).mono ?_
  rintro e w1 ⟨rfl, hs1, hb1, b1⟩
  have hz_w1 := b1.size
  try simp only [World.size_alloc] at hz_w1 hs1 bx0 bx1
  have st1 := Ds.at hB (B0.trans (b1.mono (by (try simp only [World.size_alloc]); omega))) hs1 hb1 (by omega)
  have hbz := hs1.lt
  replace st1 := st1.addBox (w.heap.size) [.int .i64 0, .slice none 0 0] (bx0.keep (by simpa only [World.size_alloc] using b1)) (by omega)
  replace st1 := st1.addBox (w.heap.size + 1) [.int .i64 0, .slice none 0 0] (bx1.keep (by simpa only [World.size_alloc] using b1)) (by omega)
  clear hb0 B0 b1 hs1 hb1 bx0 bx1
  go_wp2_with fail
  refine (l02Pair_any _ st1.src st1.bytes st1.low).mono ?_
  rintro e w2 ⟨x_w2, L_w2, a_w2, k_w2, u_w2, lo_w2, hi_w2, y_w2, M_w2, a2_w2, k2_w2, g_w2, lo2_w2, hi2_w2, rfl, hx_w2, hL0_w2, hL_w2, s_w2, hlo_w2, hy_w2, hM0_w2, hM_w2, s2_w2, hlo2_w2, hs_w2, f_w2⟩
  have hz_w2 := f_w2.size
  try simp only [World.size_alloc] at hz_w2
  have st2 := st1.draw hs_w2 f_w2
  try simp only [World.size_alloc] at s_w2
  replace st2 := st2.addSl ⟨false, lo_w2, hi_w2, .slice a_w2 L_w2 k_w2, L_w2, u_w2⟩ s_w2 (.inr (by dsimp only; omega))
  try simp only [World.size_alloc] at s2_w2
  replace st2 := st2.addSl ⟨false, lo2_w2, hi2_w2, .slice a2_w2 M_w2 k2_w2, M_w2, g_w2⟩ s2_w2 (.inr (by dsimp only; omega))
  have hh_w2 := s_w2.size
  have hh2_w2 := s2_w2.size
  clear st1 hs_w2 f_w2 s_w2 s2_w2
  replace st2 := st2.newBox [.int .i64 x_w2, .slice a_w2 L_w2 k_w2] 26
  replace st2 := st2.newBox [.int .i64 y_w2, .slice a2_w2 M_w2 k2_w2] 26
  simp only [World.size_alloc] at st2
  by_cases hc : CyP x_w2 L_w2 u_w2
  · obtain ⟨N, rfl⟩ := Int.eq_ofNat_of_zero_le (show 0 ≤ x_w2 by have := hc.1; omega)
    have hN1 : 1 ≤ N := by have := hc.1; omega
    have hN2 : N ≤ 16 := by have := hc.2.1; omega
    have hp := phi_le12 N hN2 hN1
    have hp1 := phiN_pos N (by omega) hN1
    obtain rfl : L_w2 = phiN N := hc.2.2.1
    obtain ⟨c_x_0, c_x_1⟩ := (st2.box 1 (w2.heap.size, [.int .i64 (N : Int), .slice a_w2 (phiN N) k_w2]) rfl).cell2
    have z_x := (st2.box 1 (w2.heap.size, [.int .i64 (N : Int), .slice a_w2 (phiN N) k_w2]) rfl).2.2
    dsimp only at c_x_0 c_x_1 z_x
    have q_x := st2.sl 1 ⟨false, lo_w2, hi_w2, .slice a_w2 (phiN N) k_w2, (phiN N), u_w2⟩ rfl
    dsimp only at q_x
    have HC := Lib.hid hc
    clear hc
    go_wp2_with fail
    refine (l01Is_yes _ _ q_x HC.out).mono ?_
    rintro e w3 ⟨rfl, b_w3⟩
    have hz_w3 := b_w3.size
    try simp only [World.size_alloc] at hz_w3
    have st3 := st2.keep b_w3
    clear c_x_0 c_x_1 z_x q_x st2 b_w3
    go_wp2_with fail
    refine (l01Next_any _ _ _ _ _ 2 _ st3.src st3.bytes st3.low (by omega) (by omega)).mono ?_
    rintro e w4 ⟨r, rfl, hr1, hr2, hs_w4, f_w4⟩
    have hz_w4 := f_w4.size
    try simp only [World.size_alloc] at hz_w4
    have st4 := st3.draw hs_w4 f_w4
    clear st3 hs_w4 f_w4
    by_cases h0 : r = 0
    · subst h0
      obtain ⟨c_x_0, c_x_1⟩ := (st4.box 1 (w2.heap.size, [.int .i64 (N : Int), .slice a_w2 (phiN N) k_w2]) rfl).cell2
      have z_x := (st4.box 1 (w2.heap.size, [.int .i64 (N : Int), .slice a_w2 (phiN N) k_w2]) rfl).2.2
      dsimp only at c_x_0 c_x_1 z_x
      have ST := Lib.hid st4; clear st4
      have HWX := Lib.hid (show Within u_w2 (phiN N) 12000000000 from fun j hj => by have := HC.out.2.2.2 j hj; omega)
      go_wp2_with fail
      go_cut [7, 8] (fun s7 s8 wx => ∃ bq loq hiq aq kq G cb, s7 = .pointer (some ⟨bq, 0, none⟩) ∧ s8 = .bool cb ∧ Sl true wx loq hiq (.slice aq (phiN N) kq) (phiN N) G ∧ (bq < loq ∨ hiq ≤ bq) ∧ w4.heap.size ≤ loq ∧ w4.heap.size ≤ bq ∧ bq < wx.heap.size ∧ hiq ≤ wx.heap.size ∧ Ds (w.heap.size + 1 + 1) B p n q w wx ((bq, [.int .i64 (N : Int), .slice aq (phiN N) kq]) :: [(w2.heap.size + 1, [.int .i64 y_w2, .slice a2_w2 M_w2 k2_w2]), (w2.heap.size, [.int .i64 (N : Int), .slice a_w2 (phiN N) k_w2]), (w.heap.size + 1, [.int .i64 0, .slice none 0 0]), (w.heap.size, [.int .i64 0, .slice none 0 0])]) [⟨false, lo2_w2, hi2_w2, .slice a2_w2 M_w2 k2_w2, M_w2, g_w2⟩, ⟨false, lo_w2, hi_w2, .slice a_w2 (phiN N) k_w2, (phiN N), u_w2⟩])
      case first =>
        go_region_held3 (fun w' => w'.cell? ⟨w2.heap.size, 0, none⟩ = some (.int .i64 (N : Int)) ∧ w'.cell? ⟨w2.heap.size, 1, none⟩ = some (.slice a_w2 (phiN N) k_w2))
          (first
            | exact ⟨c_x_0, c_x_1⟩
            | (have q := (st90.box 1 (w2.heap.size, [.int .i64 (N : Int), .slice a_w2 (phiN N) k_w2]) rfl).cell2; with_reducible exact ⟨q.1, q.2⟩)
            | (have q := (st90.box 2 (w2.heap.size, [.int .i64 (N : Int), .slice a_w2 (phiN N) k_w2]) rfl).cell2; with_reducible exact ⟨q.1, q.2⟩)
            | (have q := ((st90.newBox [.int .i64 0, .slice none 0 0] 26).box 2 (w2.heap.size, [.int .i64 (N : Int), .slice a_w2 (phiN N) k_w2]) rfl).cell2; with_reducible exact ⟨q.1, q.2⟩)
            | (have q := (st80.box 1 (w2.heap.size, [.int .i64 (N : Int), .slice a_w2 (phiN N) k_w2]) rfl).cell2; with_reducible exact ⟨q.1, q.2⟩)
            | (have q := (st80.box 2 (w2.heap.size, [.int .i64 (N : Int), .slice a_w2 (phiN N) k_w2]) rfl).cell2; with_reducible exact ⟨q.1, q.2⟩)
            | (have q := ((st80.newBox [.int .i64 0, .slice none 0 0] 26).box 2 (w2.heap.size, [.int .i64 (N : Int), .slice a_w2 (phiN N) k_w2]) rfl).cell2; with_reducible exact ⟨q.1, q.2⟩)
            | (have q := (st70.box 1 (w2.heap.size, [.int .i64 (N : Int), .slice a_w2 (phiN N) k_w2]) rfl).cell2; with_reducible exact ⟨q.1, q.2⟩)
            | (have q := (st70.box 2 (w2.heap.size, [.int .i64 (N : Int), .slice a_w2 (phiN N) k_w2]) rfl).cell2; with_reducible exact ⟨q.1, q.2⟩)
            | (have q := ((st70.newBox [.int .i64 0, .slice none 0 0] 26).box 2 (w2.heap.size, [.int .i64 (N : Int), .slice a_w2 (phiN N) k_w2]) rfl).cell2; with_reducible exact ⟨q.1, q.2⟩)
            | (have q := ((ST.out.newBox [.int .i64 0, .slice none 0 0] 26).drew.box 2 (w2.heap.size, [.int .i64 (N : Int), .slice a_w2 (phiN N) k_w2]) rfl).cell2; with_reducible exact ⟨q.1, q.2⟩)
            | (have q := (ST.out.drew.box 1 (w2.heap.size, [.int .i64 (N : Int), .slice a_w2 (phiN N) k_w2]) rfl).cell2; with_reducible exact ⟨q.1, q.2⟩)
            | (have q := ((ST.out.newBox [.int .i64 0, .slice none 0 0] 26).box 2 (w2.heap.size, [.int .i64 (N : Int), .slice a_w2 (phiN N) k_w2]) rfl).cell2; with_reducible exact ⟨q.1, q.2⟩)
            | (have q := ((st90.newBox [.int .i64 (N : Int), .slice a90 (phiN N) k90] 26).box 2 (w2.heap.size, [.int .i64 (N : Int), .slice a_w2 (phiN N) k_w2]) rfl).cell2; with_reducible exact ⟨q.1, q.2⟩)
            | (have q := (st90.box 2 (w2.heap.size, [.int .i64 (N : Int), .slice a_w2 (phiN N) k_w2]) rfl).cell2; exact ⟨cell_set2 q.1 (by omega), cell_set2 q.2 (by omega)⟩)
            | go_keep)
          (first
            | (go_at_call 131; have _g := b80; refine (l01Times_gen N hN1 hN2 (L := phiN N) _ (by first | (have q := st80.sl 1 ⟨false, lo_w2, hi_w2, .slice a_w2 (phiN N) k_w2, (phiN N), u_w2⟩ rfl; dsimp only at q; with_reducible exact q) | (have q := (st80.newBox [.int .i64 0, .slice none 0 0] 26).sl 1 ⟨false, lo_w2, hi_w2, .slice a_w2 (phiN N) k_w2, (phiN N), u_w2⟩ rfl; dsimp only at q; with_reducible exact q)) (by first | with_reducible exact s80 | with_reducible exact (s80.alloc _)) HWX.out (fun j hj => by have := HU.out j hj; omega) hp1 (by omega)).mono ?_; rintro e w90 ⟨a90, k90, bb, rfl, _, ⟨G9, s90⟩, b90⟩
               have hz90 := b90.size
               try simp only [World.size_drew, World.size_alloc] at hz90
               first | have st90 := st80.keep b90 | have st90 := (st80.newBox [.int .i64 0, .slice none 0 0] 26).keep b90
               try (obtain ⟨o0, o1⟩ := (st90.box 0 (_, [.int .i64 0, .slice none 0 0]) rfl).cell2
                    have oz := (st90.box 0 (_, [.int .i64 0, .slice none 0 0]) rfl).2.2
                    dsimp only at oz
                    try simp only [World.size_alloc, World.size_drew] at o0 o1 oz))
            | (go_at_call 198; have _g := f70; refine (l01Unit_any N r9 _ hN1 hN2).mono ?_; rintro e w80 ⟨a80, k80, rfl, s80, b80⟩
               have hz80 := b80.size
               try simp only [World.size_drew, World.size_alloc] at hz80
               have HU := Lib.hid (unitF_bd N r9 hN1 hN2)
               first | have st80 := st70.keep b80 | have st80 := (st70.newBox [.int .i64 0, .slice none 0 0] 26).keep b80)
            | (go_at_call 169; first | (refine (l01Next_any _ _ _ _ _ 20 _ ST.out.drew.src ST.out.drew.bytes ST.out.drew.low (by omega) (by omega)).mono ?_; rintro e w70 ⟨r9, rfl, hr91, hr92, hs70, f70⟩; have st70 := ST.out.drew.draw hs70 f70) | (refine (l01Next_any _ _ _ _ _ 20 _ (ST.out.newBox [.int .i64 0, .slice none 0 0] 26).drew.src (ST.out.newBox [.int .i64 0, .slice none 0 0] 26).drew.bytes (ST.out.newBox [.int .i64 0, .slice none 0 0] 26).drew.low (by omega) (by omega)).mono ?_; rintro e w70 ⟨r9, rfl, hr91, hr92, hs70, f70⟩; have st70 := (ST.out.newBox [.int .i64 0, .slice none 0 0] 26).drew.draw hs70 f70)
               have hz70 := f70.size
               try simp only [World.size_drew, World.size_alloc] at hz70))
        all_goals
          go_wp2_with fail
          go_meet
          try simp only [World.size_drew, World.size_alloc] at s90
          first
            | exact ⟨w90.heap.size, _, _, a90, k90, G9, bb, rfl, rfl, s90.alloc _, .inr (Nat.le_refl _), by omega, by omega, by simp, by simp, st90.newBox _ _⟩
            | (have FS := fun bq => ((Frame.refl bq (bq + 1) w90).set (g := bq) (o := 0) (Nat.le_refl _) (Nat.lt_succ_self _) (.int .i64 (N : Int))).set (g := bq) (o := 1) (Nat.le_refl _) (Nat.lt_succ_self _) (.slice a90 (phiN N) k90)
               have stb := (st90.write (FS _) (by (try simp only [World.size_alloc, World.size_drew]); omega) (by (try simp only [World.size_alloc, World.size_drew]); omega) [(w2.heap.size + 1, [.int .i64 y_w2, .slice a2_w2 M_w2 k2_w2]), (w2.heap.size, [.int .i64 (N : Int), .slice a_w2 (phiN N) k_w2]), (w.heap.size + 1, [.int .i64 0, .slice none 0 0]), (w.heap.size, [.int .i64 0, .slice none 0 0])] [⟨false, lo2_w2, hi2_w2, .slice a2_w2 M_w2 k2_w2, M_w2, g_w2⟩, ⟨false, lo_w2, hi_w2, .slice a_w2 (phiN N) k_w2, (phiN N), u_w2⟩] (fun x hx => ⟨List.mem_cons_of_mem _ hx, by (try simp only [World.size_alloc, World.size_drew]); simp only [List.mem_cons, List.not_mem_nil, or_false] at hx; rcases hx with rfl | rfl | rfl | rfl <;> first | exact .inl (by (try dsimp only); omega) | exact .inr (by (try dsimp only); omega)⟩) (fun s hs => ⟨hs, by (try simp only [World.size_alloc, World.size_drew]); simp only [List.mem_cons, List.not_mem_nil, or_false] at hs; rcases hs with rfl | rfl <;> first | exact .inl (by (try dsimp only); omega) | exact .inr (by (try dsimp only); omega)⟩)).addBox _ [.int .i64 (N : Int), .slice a90 (phiN N) k90] (Box.set2 (st90.box 0 (_, [.int .i64 0, .slice none 0 0]) rfl)) (by (try dsimp only); (try simp only [World.size_alloc, World.size_drew]); omega)
               try simp only [World.size_alloc, World.size_drew] at stb
               exact ⟨_, _, _, a90, k90, G9, bb, rfl, rfl, (s90.setOther (.inl (by dsimp only; omega)) _).setOther (.inl (by dsimp only; omega)) _, .inl (by omega), by omega, by omega, by simp only [World.size_setCell]; omega, by simp, stb⟩)
      case rest =>
        obtain ⟨bq, loq, hiq, aq, kq, G, cb, rfl, rfl, sq, hdq, hlq, hbq, hzq, hhq, stq⟩ := hcut
        clear ST c_x_0 c_x_1 z_x
        obtain ⟨w5, hw5⟩ : ∃ y : World, y = wc := ⟨_, rfl⟩
        subst hw5
        replace stq := stq.addSl ⟨true, loq, hiq, .slice aq (phiN N) kq, phiN N, G⟩ sq (.inr (by dsimp only; omega))
        obtain ⟨c_x_0, c_x_1⟩ := (stq.box 2 (w2.heap.size, [.int .i64 (N : Int), .slice a_w2 (phiN N) k_w2]) rfl).cell2
        have z_x := (stq.box 2 (w2.heap.size, [.int .i64 (N : Int), .slice a_w2 (phiN N) k_w2]) rfl).2.2
        dsimp only at c_x_0 c_x_1 z_x
        obtain ⟨c_p_0, c_p_1⟩ := (stq.box 0 (bq, [.int .i64 (N : Int), .slice aq (phiN N) kq]) rfl).cell2
        have z_p := (stq.box 0 (bq, [.int .i64 (N : Int), .slice aq (phiN N) kq]) rfl).2.2
        dsimp only at c_p_0 c_p_1 z_p
        obtain ⟨c_r2_0, c_r2_1⟩ := (stq.box 4 (w.heap.size, [.int .i64 0, .slice none 0 0]) rfl).cell2
        have z_r2 := (stq.box 4 (w.heap.size, [.int .i64 0, .slice none 0 0]) rfl).2.2
        dsimp only at c_r2_0 c_r2_1 z_r2
        obtain ⟨c_r3_0, c_r3_1⟩ := (stq.box 3 (w.heap.size + 1, [.int .i64 0, .slice none 0 0]) rfl).cell2
        have z_r3 := (stq.box 3 (w.heap.size + 1, [.int .i64 0, .slice none 0 0]) rfl).2.2
        dsimp only at c_r3_0 c_r3_1 z_r3
        have FIN : ∀ W', Frame w.heap.size (w.heap.size + 1 + 1) w5 W' → DrX2 w (.returned (.tuple #[.agg #[.int .i64 (N : Int), .slice a_w2 (phiN N) k_w2], .agg #[.int .i64 (N : Int), .slice aq (phiN N) kq]])) W' := fun W' FS => by
          have stz := stq.write FS (by omega) (by omega) [] [⟨false, lo_w2, hi_w2, .slice a_w2 (phiN N) k_w2, (phiN N), u_w2⟩, ⟨true, loq, hiq, .slice aq (phiN N) kq, phiN N, G⟩] (fun x hx => by cases hx) (fun s hs => by simp only [List.mem_cons, List.not_mem_nil, or_false] at hs; rcases hs with rfl | rfl <;> exact ⟨by simp, by first | exact .inr (by dsimp only; omega) | exact .inl (by dsimp only; omega)⟩)
          exact ⟨(N : Int), (phiN N), a_w2, k_w2, u_w2, lo_w2, hi_w2, (N : Int), (phiN N), aq, kq, G, loq, hiq, rfl, by unfold inR; omega, hp1, by omega, by first | exact stz.sl 0 _ rfl | exact (stz.sl 0 _ rfl).rd, by show w.heap.size ≤ lo_w2; omega, by unfold inR; omega, hp1, by omega, by first | exact stz.sl 1 _ rfl | exact (stz.sl 1 _ rfl).rd, by show w.heap.size ≤ loq; omega, stz.below (by omega)⟩
        have HFIN := Lib.hid FIN; clear FIN stq
        go_wp2
        go_region
        all_goals
          go_wp2
          refine bodyPost_ret (v := .tuple #[.agg #[.int .i64 (N : Int), .slice a_w2 (phiN N) k_w2], .agg #[.int .i64 (N : Int), .slice aq (phiN N) kq]]) (by simp [results, Try.results101, go_sem, c_r2_0, c_r2_1, c_r3_0, c_r3_1]) rfl ?_
          exact HFIN.out _ (by repeat' (first | exact Frame.refl _ _ _ | refine Frame.set ?_ (by omega) (by omega) _ | refine Frame.drew ?_))
    · have e0 : (r == 0) = false := by simpa using h0
      obtain ⟨c_x_0, c_x_1⟩ := (st4.box 1 (w2.heap.size, [.int .i64 (N : Int), .slice a_w2 (phiN N) k_w2]) rfl).cell2
      have z_x := (st4.box 1 (w2.heap.size, [.int .i64 (N : Int), .slice a_w2 (phiN N) k_w2]) rfl).2.2
      dsimp only at c_x_0 c_x_1 z_x
      obtain ⟨c_y_0, c_y_1⟩ := (st4.box 0 (w2.heap.size + 1, [.int .i64 y_w2, .slice a2_w2 M_w2 k2_w2]) rfl).cell2
      have z_y := (st4.box 0 (w2.heap.size + 1, [.int .i64 y_w2, .slice a2_w2 M_w2 k2_w2]) rfl).2.2
      dsimp only at c_y_0 c_y_1 z_y
      obtain ⟨c_r2_0, c_r2_1⟩ := (st4.box 3 (w.heap.size, [.int .i64 0, .slice none 0 0]) rfl).cell2
      have z_r2 := (st4.box 3 (w.heap.size, [.int .i64 0, .slice none 0 0]) rfl).2.2
      dsimp only at c_r2_0 c_r2_1 z_r2
      obtain ⟨c_r3_0, c_r3_1⟩ := (st4.box 2 (w.heap.size + 1, [.int .i64 0, .slice none 0 0]) rfl).cell2
      have z_r3 := (st4.box 2 (w.heap.size + 1, [.int .i64 0, .slice none 0 0]) rfl).2.2
      dsimp only at c_r3_0 c_r3_1 z_r3
      have FIN : ∀ W', Frame w.heap.size (w.heap.size + 1 + 1) w4 W' → DrX2 w (.returned (.tuple #[.agg #[.int .i64 (N : Int), .slice a_w2 (phiN N) k_w2], .agg #[.int .i64 y_w2, .slice a2_w2 M_w2 k2_w2]])) W' := fun W' FS => by
        have stz := st4.write FS (by omega) (by omega) [] [⟨false, lo_w2, hi_w2, .slice a_w2 (phiN N) k_w2, (phiN N), u_w2⟩, ⟨false, lo2_w2, hi2_w2, .slice a2_w2 M_w2 k2_w2, M_w2, g_w2⟩] (fun x hx => by cases hx) (fun s hs => by simp only [List.mem_cons, List.not_mem_nil, or_false] at hs; rcases hs with rfl | rfl <;> exact ⟨by simp, by first | exact .inr (by dsimp only; omega) | exact .inl (by dsimp only; omega)⟩)
        exact ⟨(N : Int), (phiN N), a_w2, k_w2, u_w2, lo_w2, hi_w2, y_w2, M_w2, a2_w2, k2_w2, g_w2, lo2_w2, hi2_w2, rfl, by unfold inR; omega, hp1, by omega, by first | exact stz.sl 0 _ rfl | exact (stz.sl 0 _ rfl).rd, by show w.heap.size ≤ lo_w2; omega, hy_w2, hM0_w2, by omega, by first | exact stz.sl 1 _ rfl | exact (stz.sl 1 _ rfl).rd, by show w.heap.size ≤ lo2_w2; omega, stz.below (by omega)⟩
      have HFIN := Lib.hid FIN; clear FIN st4
      go_wp2
      go_region
      all_goals
        go_wp2
        refine bodyPost_ret (v := .tuple #[.agg #[.int .i64 (N : Int), .slice a_w2 (phiN N) k_w2], .agg #[.int .i64 y_w2, .slice a2_w2 M_w2 k2_w2]]) (by simp [results, Try.results101, go_sem, c_r2_0, c_r2_1, c_r3_0, c_r3_1]) rfl ?_
        exact HFIN.out _ (by repeat' (first | exact Frame.refl _ _ _ | refine Frame.set ?_ (by omega) (by omega) _ | refine Frame.drew ?_))
  · have HC := Lib.hid hc; clear hc
    obtain ⟨c_x_0, c_x_1⟩ := (st2.box 1 (w2.heap.size, [.int .i64 x_w2, .slice a_w2 L_w2 k_w2]) rfl).cell2
    have z_x := (st2.box 1 (w2.heap.size, [.int .i64 x_w2, .slice a_w2 L_w2 k_w2]) rfl).2.2
    dsimp only at c_x_0 c_x_1 z_x
    have q_x := st2.sl 1 ⟨false, lo_w2, hi_w2, .slice a_w2 L_w2 k_w2, L_w2, u_w2⟩ rfl
    dsimp only at q_x
    go_wp2_with fail
    refine (l01Is_no _ _ q_x HC.out).mono ?_
    rintro e w3 ⟨rfl, b_w3⟩
    have hz_w3 := b_w3.size
    try simp only [World.size_alloc] at hz_w3
    have st3 := st2.keep b_w3
    clear c_x_0 c_x_1 z_x q_x st2 b_w3
    obtain ⟨c_x_0, c_x_1⟩ := (st3.box 1 (w2.heap.size, [.int .i64 x_w2, .slice a_w2 L_w2 k_w2]) rfl).cell2
    have z_x := (st3.box 1 (w2.heap.size, [.int .i64 x_w2, .slice a_w2 L_w2 k_w2]) rfl).2.2
    dsimp only at c_x_0 c_x_1 z_x
    obtain ⟨c_y_0, c_y_1⟩ := (st3.box 0 (w2.heap.size + 1, [.int .i64 y_w2, .slice a2_w2 M_w2 k2_w2]) rfl).cell2
    have z_y := (st3.box 0 (w2.heap.size + 1, [.int .i64 y_w2, .slice a2_w2 M_w2 k2_w2]) rfl).2.2
    dsimp only at c_y_0 c_y_1 z_y
    obtain ⟨c_r2_0, c_r2_1⟩ := (st3.box 3 (w.heap.size, [.int .i64 0, .slice none 0 0]) rfl).cell2
    have z_r2 := (st3.box 3 (w.heap.size, [.int .i64 0, .slice none 0 0]) rfl).2.2
    dsimp only at c_r2_0 c_r2_1 z_r2
    obtain ⟨c_r3_0, c_r3_1⟩ := (st3.box 2 (w.heap.size + 1, [.int .i64 0, .slice none 0 0]) rfl).cell2
    have z_r3 := (st3.box 2 (w.heap.size + 1, [.int .i64 0, .slice none 0 0]) rfl).2.2
    dsimp only at c_r3_0 c_r3_1 z_r3
    have FIN : ∀ W', Frame w.heap.size (w.heap.size + 1 + 1) w3 W' → DrX2 w (.returned (.tuple #[.agg #[.int .i64 x_w2, .slice a_w2 L_w2 k_w2], .agg #[.int .i64 y_w2, .slice a2_w2 M_w2 k2_w2]])) W' := fun W' FS => by
      have stz := st3.write FS (by omega) (by omega) [] [⟨false, lo_w2, hi_w2, .slice a_w2 L_w2 k_w2, L_w2, u_w2⟩, ⟨false, lo2_w2, hi2_w2, .slice a2_w2 M_w2 k2_w2, M_w2, g_w2⟩] (fun x hx => by cases hx) (fun s hs => by simp only [List.mem_cons, List.not_mem_nil, or_false] at hs; rcases hs with rfl | rfl <;> exact ⟨by simp, by first | exact .inr (by dsimp only; omega) | exact .inl (by dsimp only; omega)⟩)
      exact ⟨x_w2, L_w2, a_w2, k_w2, u_w2, lo_w2, hi_w2, y_w2, M_w2, a2_w2, k2_w2, g_w2, lo2_w2, hi2_w2, rfl, hx_w2, hL0_w2, by omega, by first | exact stz.sl 0 _ rfl | exact (stz.sl 0 _ rfl).rd, by show w.heap.size ≤ lo_w2; omega, hy_w2, hM0_w2, by omega, by first | exact stz.sl 1 _ rfl | exact (stz.sl 1 _ rfl).rd, by show w.heap.size ≤ lo2_w2; omega, stz.below (by omega)⟩
    have HFIN := Lib.hid FIN; clear FIN st3
    go_wp2
    go_region
    all_goals
      go_wp2
      refine bodyPost_ret (v := .tuple #[.agg #[.int .i64 x_w2, .slice a_w2 L_w2 k_w2], .agg #[.int .i64 y_w2, .slice a2_w2 M_w2 k2_w2]]) (by simp [results, Try.results101, go_sem, c_r2_0, c_r2_1, c_r3_0, c_r3_1]) rfl ?_
      exact HFIN.out _ (by repeat' (first | exact Frame.refl _ _ _ | refine Frame.set ?_ (by omega) (by omega) _ | refine Frame.drew ?_))
end
end

section
open Go.RowKit Go.ChangeShapes Go.Sort
set_option linter.unusedVariables false
set_option linter.unusedSimpArgs false

section
variable {o : Bool} {lo hi n : Nat} {v : Value} {f : Nat → Int}
set_option maxHeartbeats 800000 in
theorem likeInts_yes {o' : Bool} {lo' hi' : Nat} {v' : Value} {f' : Nat → Int} (w : World) (hs : Sl o w lo hi v n f) (hs' : Sl o' w lo' hi' v' n f') (he : ∀ j, j < n → f j = f' j) :
    Calls Try.prog 80 #[v, v'] w fun e w' => e = .returned (.bool true) ∧ Below w.heap.size w w' := by
  obtain ⟨a, cap, rfl⟩ := hs.shape
  obtain ⟨a', cap', rfl⟩ := hs'.shape
  have hm := hs.len
  unfold maxLen at hm
  have HS := Lib.hid hs; clear hs
  have HS' := Lib.hid hs'; clear hs'
  have HE := Lib.hid he; clear he
  go_enter Try.func80, Try.ntmps80
  go_wp2
  go_loopw [5] (fun i wr => ∃ k : Nat, k ≤ n ∧ i = .int .i64 k ∧ Below w.heap.size w wr) (fun i _ => n - (intOf i).toNat)
  case atStart => exact ⟨0, Nat.zero_le _, rfl, Below.refl _ _⟩
  case round =>
    obtain ⟨k, hk, rfl, hb⟩ := hrel
    by_cases hlt : k < n
    · obtain ⟨g, off, c1, hv, _, hg, _, _, hc, _⟩ := HS.out.at (by omega)
      have hgs : g < w.heap.size := Nat.lt_of_lt_of_le hg HS.out.size
      obtain ⟨rfl, rfl⟩ : a = some ⟨g, off, none⟩ ∧ cap = c1 := by cases hv; exact ⟨rfl, rfl⟩
      obtain ⟨g', off', c1', hv', _, hg', _, _, hc', _⟩ := HS'.out.at (by omega)
      have hgs' : g' < w.heap.size := Nat.lt_of_lt_of_le hg' HS'.out.size
      obtain ⟨rfl, rfl⟩ : a' = some ⟨g', off', none⟩ ∧ cap' = c1' := by cases hv'; exact ⟨rfl, rfl⟩
      clear hv hg hv' hg'
      have hck : wr.cell? ⟨g, off + k, none⟩ = some (.int .i64 (f k)) := by rw [hb.cell (p := ⟨g, off + k, none⟩) hgs]; exact hc k hlt
      have hck' : wr.cell? ⟨g', off' + k, none⟩ = some (.int .i64 (f k)) := by rw [hb.cell (p := ⟨g', off' + k, none⟩) hgs', HE.out k hlt]; exact hc' k hlt
      clear hc hc'
      go_wp2
      go_quiet (fail)
      go_wp2
      go_roundw
      case rel => exact ⟨k + 1, by omega, by go_num, below_drewN hb _⟩
      case measure => simp [intOf]; omega
    · go_wp2
      go_ret
      exact ⟨rfl, hb⟩

set_option maxHeartbeats 800000 in
theorem cyclos5_yes {o' : Bool} {lo' hi' : Nat} {v' : Value} {f' : Nat → Int} (x : Int) (w : World) (hs : Sl o w lo hi v n f) (hs' : Sl o' w lo' hi' v' n f') (he : ∀ j, j < n → f j = f' j) :
    Calls Try.prog 62 #[.agg #[.int .i64 x, v], .agg #[.int .i64 x, v']] w fun e w' => e = .returned (.bool true) ∧ Below w.heap.size w w' := by
  obtain ⟨a, cap, rfl⟩ := hs.shape
  obtain ⟨a', cap', rfl⟩ := hs'.shape
  have HS := Lib.hid hs; clear hs
  have HS' := Lib.hid hs'; clear hs'
  have HE := Lib.hid he; clear he
  go_enter Try.func62, Try.ntmps62
  go_wp2_with (go_at_call 80; refine (likeInts_yes _ ((HS.out.alloc _).alloc _) ((HS'.out.alloc _).alloc _) HE.out).mono ?_; rintro e w1 ⟨rfl, hb⟩)
  go_ret
  exact ⟨rfl, (((Below.refl w.heap.size w).alloc (Nat.le_refl _) _).alloc (by simp) _).trans (hb.mono (by simp; omega))⟩

set_option maxHeartbeats 800000 in
theorem cyclo9_yes {o' : Bool} {lo' hi' : Nat} {v' : Value} {f' : Nat → Int} (x : Int) (w : World) (hs : Sl o w lo hi v n f) (hs' : Sl o' w lo' hi' v' n f') (he : ∀ j, j < n → f j = f' j) :
    Calls Try.prog 91 #[.agg #[.int .i64 x, v], .agg #[.int .i64 x, v']] w fun e w' => e = .returned (.bool true) ∧ Below w.heap.size w w' := by
  obtain ⟨a, cap, rfl⟩ := hs.shape
  obtain ⟨a', cap', rfl⟩ := hs'.shape
  have HS := Lib.hid hs; clear hs
  have HS' := Lib.hid hs'; clear hs'
  have HE := Lib.hid he; clear he
  go_enter Try.func91, Try.ntmps91
  go_wp2_with (go_at_call 80; refine (likeInts_yes _ ((HS.out.alloc _).alloc _) ((HS'.out.alloc _).alloc _) HE.out).mono ?_; rintro e w1 ⟨rfl, hb⟩)
  go_ret
  exact ⟨rfl, (((Below.refl w.heap.size w).alloc (Nat.le_refl _) _).alloc (by simp) _).trans (hb.mono (by simp; omega))⟩

end
theorem big_no (p : Option Addr) (n q : Nat) (w : World) (h : n ≤ 4096) : Calls Try.prog 48 #[.slice p n q] w fun e w' => e = .returned (.bool false) ∧ Below w.heap.size w w' := by
  have hh : ¬ (4096 < (n : Int)) := by omega
  go_enter Try.func48, Try.ntmps48
  go_wp2
  go_ret
  exact ⟨rfl, Below.refl _ _⟩
theorem big_yes (p : Option Addr) (n q : Nat) (w : World) (h : 4096 < n) : Calls Try.prog 48 #[.slice p n q] w fun e w' => e = .returned (.bool true) ∧ Below w.heap.size w w' := by
  have hd : decide ((4096 : Int) < (n : Int)) = true := decide_eq_true (by omega)
  go_enter Try.func48, Try.ntmps48
  go_wp2
  go_ret
  exact ⟨by first | rfl | (show Ending.returned (.bool (decide ((4096 : Int) < (n : Int)))) = _; rw [hd]), Below.refl _ _⟩
/-- A code that came in. -/
theorem Bytes.came {H : Type} {enc : TypeId × Value → H} {P : Program} {W : World} {t e : TypeId} {fuel : Nat} {c : Value} {y : DataW H × List MemPlace}
    (ht : P.underlying t = some (.slice e)) (he : P.underlying e = some (.int .u8)) (hc : P.cellsOf e = 1)
    (h : DataW.trod enc P W 0 (fun _ => true) true fuel t [c] = some y) : ∃ p n q, c = .slice p n q ∧ (n ≤ 4096 → Bytes W W.heap.size p n) := by
  rcases open_ints ht he hc h with ⟨hcs, _⟩ | ⟨a, len, cap, zs, hcs, _, hl, hm, hz, _, hcell, hwz⟩
  · cases hcs
    exact ⟨none, 0, 0, rfl, fun _ => ⟨by omega, fun j hj => absurd hj (Nat.not_lt_zero _)⟩⟩
  · cases hcs
    refine ⟨some a, len, cap, rfl, fun hn => ⟨hn, fun j hj => ?_⟩⟩
    simp only [if_true] at hz
    obtain ⟨b, off, rfl, hcells⟩ := ints_at hcell (by omega)
    have hj' : j < zs.length := by omega
    have hwf : (Lit.int .u8 (zs.getD j 0)).wf = true := hwz _ (by
      rw [List.getD_eq_getElem?_getD, List.getElem?_eq_getElem hj']
      exact List.getElem_mem hj')
    have hb : 0 ≤ zs.getD j 0 ∧ zs.getD j 0 ≤ 255 := by simpa [Lit.wf, IntKind.min, IntKind.max, IntKind.signed, IntKind.bits] using hwf
    exact ⟨b, off, zs.getD j 0, rfl, World.block_lt_of_cell? _ _ (hcells 0 (by omega)), World.block_lt_of_cell? _ _ (hcells 0 (by omega)), hcells j hj', hb.1, hb.2⟩
end

section
open Go
theorem and_tt {a b : Bool} (h : a = true) (h' : b = true) : (a && b) = true := by rw [h, h']; rfl
def initChars : List Char := [Char.ofNat 104, Char.ofNat 97, Char.ofNat 114, Char.ofNat 110, Char.ofNat 101, Char.ofNat 115, Char.ofNat 115, Char.ofNat 32, Char.ofNat 57, Char.ofNat 49, Char.ofNat 54, Char.ofNat 49, Char.ofNat 57, Char.ofNat 51, Char.ofNat 101, Char.ofNat 102, Char.ofNat 97, Char.ofNat 53, Char.ofNat 57, Char.ofNat 101, Char.ofNat 98, Char.ofNat 57, Char.ofNat 51, Char.ofNat 100, Char.ofNat 102, Char.ofNat 55, Char.ofNat 100, Char.ofNat 49, Char.ofNat 51, Char.ofNat 51, Char.ofNat 98, Char.ofNat 101, Char.ofNat 53, Char.ofNat 101, Char.ofNat 97, Char.ofNat 54, Char.ofNat 55, Char.ofNat 102, Char.ofNat 52, Char.ofNat 99, Char.ofNat 98, Char.ofNat 98, Char.ofNat 48, Char.ofNat 55, Char.ofNat 97, Char.ofNat 101, Char.ofNat 54, Char.ofNat 98, Char.ofNat 54, Char.ofNat 56, Char.ofNat 99, Char.ofNat 99, Char.ofNat 99, Char.ofNat 97, Char.ofNat 100, Char.ofNat 57, Char.ofNat 54, Char.ofNat 56, Char.ofNat 100, Char.ofNat 53, Char.ofNat 57, Char.ofNat 102, Char.ofNat 56, Char.ofNat 101, Char.ofNat 55, Char.ofNat 56, Char.ofNat 57, Char.ofNat 51, Char.ofNat 49, Char.ofNat 50, Char.ofNat 50, Char.ofNat 53, Char.ofNat 32, Char.ofNat 99, Char.ofNat 117, Char.ofNat 116, Char.ofNat 32, Char.ofNat 97, Char.ofNat 116, Char.ofNat 32, Char.ofNat 108, Char.ofNat 111, Char.ofNat 111, Char.ofNat 112, Char.ofNat 46, Char.ofNat 101, Char.ofNat 120, Char.ofNat 97, Char.ofNat 109, Char.ofNat 112, Char.ofNat 108, Char.ofNat 101, Char.ofNat 47, Char.ofNat 103, Char.ofNat 48, Char.ofNat 49, Char.ofNat 51, Char.ofNat 49, Char.ofNat 51, Char.ofNat 47, Char.ofNat 108, Char.ofNat 97, Char.ofNat 119, Char.ofNat 115, Char.ofNat 46, Char.ofNat 70, Char.ofNat 110, Char.ofNat 69, Char.ofNat 120, Char.ofNat 97, Char.ofNat 99, Char.ofNat 116, Char.ofNat 74, Char.ofNat 97, Char.ofNat 99, Char.ofNat 111, Char.ofNat 98, Char.ofNat 105, Char.ofNat 83, Char.ofNat 117, Char.ofNat 109, Char.ofNat 32, Char.ofNat 108, Char.ofNat 111, Char.ofNat 111, Char.ofNat 112, Char.ofNat 46, Char.ofNat 101, Char.ofNat 120, Char.ofNat 97, Char.ofNat 109, Char.ofNat 112, Char.ofNat 108, Char.ofNat 101, Char.ofNat 47, Char.ofNat 103, Char.ofNat 48, Char.ofNat 49, Char.ofNat 51, Char.ofNat 49, Char.ofNat 51, Char.ofNat 47, Char.ofNat 108, Char.ofNat 97, Char.ofNat 119, Char.ofNat 115, Char.ofNat 46, Char.ofNat 70, Char.ofNat 110, Char.ofNat 69, Char.ofNat 120, Char.ofNat 97, Char.ofNat 99, Char.ofNat 116, Char.ofNat 74, Char.ofNat 97, Char.ofNat 99, Char.ofNat 111, Char.ofNat 98, Char.ofNat 105, Char.ofNat 79, Char.ofNat 102, Char.ofNat 32, Char.ofNat 108, Char.ofNat 111, Char.ofNat 111, Char.ofNat 112, Char.ofNat 46, Char.ofNat 101, Char.ofNat 120, Char.ofNat 97, Char.ofNat 109, Char.ofNat 112, Char.ofNat 108, Char.ofNat 101, Char.ofNat 47, Char.ofNat 103, Char.ofNat 48, Char.ofNat 49, Char.ofNat 51, Char.ofNat 49, Char.ofNat 51, Char.ofNat 47, Char.ofNat 108, Char.ofNat 97, Char.ofNat 119, Char.ofNat 115, Char.ofNat 46, Char.ofNat 70, Char.ofNat 110, Char.ofNat 69, Char.ofNat 120, Char.ofNat 97, Char.ofNat 99, Char.ofNat 116, Char.ofNat 90, Char.ofNat 101, Char.ofNat 114, Char.ofNat 111, Char.ofNat 83, Char.ofNat 117, Char.ofNat 109, Char.ofNat 79, Char.ofNat 102, Char.ofNat 32, Char.ofNat 108, Char.ofNat 111, Char.ofNat 111, Char.ofNat 112, Char.ofNat 46, Char.ofNat 101, Char.ofNat 120, Char.ofNat 97, Char.ofNat 109, Char.ofNat 112, Char.ofNat 108, Char.ofNat 101, Char.ofNat 47, Char.ofNat 103, Char.ofNat 48, Char.ofNat 49, Char.ofNat 51, Char.ofNat 49, Char.ofNat 51, Char.ofNat 47, Char.ofNat 108, Char.ofNat 97, Char.ofNat 119, Char.ofNat 115, Char.ofNat 46, Char.ofNat 70, Char.ofNat 110, Char.ofNat 69, Char.ofNat 120, Char.ofNat 97, Char.ofNat 99, Char.ofNat 116, Char.ofNat 83, Char.ofNat 113, Char.ofNat 117, Char.ofNat 97, Char.ofNat 114, Char.ofNat 101, Char.ofNat 79, Char.ofNat 102, Char.ofNat 74, Char.ofNat 97, Char.ofNat 99, Char.ofNat 111, Char.ofNat 98, Char.ofNat 105, Char.ofNat 32, Char.ofNat 108, Char.ofNat 111, Char.ofNat 111, Char.ofNat 112, Char.ofNat 46, Char.ofNat 101, Char.ofNat 120, Char.ofNat 97, Char.ofNat 109, Char.ofNat 112, Char.ofNat 108, Char.ofNat 101, Char.ofNat 47, Char.ofNat 103, Char.ofNat 48, Char.ofNat 49, Char.ofNat 51, Char.ofNat 49, Char.ofNat 51, Char.ofNat 47, Char.ofNat 108, Char.ofNat 97, Char.ofNat 119, Char.ofNat 115, Char.ofNat 46, Char.ofNat 70, Char.ofNat 110, Char.ofNat 69, Char.ofNat 120, Char.ofNat 97, Char.ofNat 99, Char.ofNat 116, Char.ofNat 74, Char.ofNat 97, Char.ofNat 99, Char.ofNat 111, Char.ofNat 98, Char.ofNat 105, Char.ofNat 82, Char.ofNat 111, Char.ofNat 119, Char.ofNat 32, Char.ofNat 108, Char.ofNat 111, Char.ofNat 111, Char.ofNat 112, Char.ofNat 46, Char.ofNat 101, Char.ofNat 120, Char.ofNat 97, Char.ofNat 109, Char.ofNat 112, Char.ofNat 108, Char.ofNat 101, Char.ofNat 47, Char.ofNat 103, Char.ofNat 48, Char.ofNat 49, Char.ofNat 51, Char.ofNat 49, Char.ofNat 51, Char.ofNat 47, Char.ofNat 108, Char.ofNat 97, Char.ofNat 119, Char.ofNat 115, Char.ofNat 46, Char.ofNat 70, Char.ofNat 110, Char.ofNat 69, Char.ofNat 120, Char.ofNat 97, Char.ofNat 99, Char.ofNat 116, Char.ofNat 67, Char.ofNat 111, Char.ofNat 117, Char.ofNat 110, Char.ofNat 116, Char.ofNat 66, Char.ofNat 121, Char.ofNat 74, Char.ofNat 97, Char.ofNat 99, Char.ofNat 111, Char.ofNat 98, Char.ofNat 105, Char.ofNat 32, Char.ofNat 108, Char.ofNat 111, Char.ofNat 111, Char.ofNat 112, Char.ofNat 46, Char.ofNat 101, Char.ofNat 120, Char.ofNat 97, Char.ofNat 109, Char.ofNat 112, Char.ofNat 108, Char.ofNat 101, Char.ofNat 47, Char.ofNat 103, Char.ofNat 48, Char.ofNat 49, Char.ofNat 51, Char.ofNat 49, Char.ofNat 51, Char.ofNat 47, Char.ofNat 108, Char.ofNat 97, Char.ofNat 119, Char.ofNat 115, Char.ofNat 46, Char.ofNat 70, Char.ofNat 110, Char.ofNat 69, Char.ofNat 120, Char.ofNat 97, Char.ofNat 99, Char.ofNat 116, Char.ofNat 83, Char.ofNat 113, Char.ofNat 117, Char.ofNat 97, Char.ofNat 114, Char.ofNat 101, Char.ofNat 80, Char.ofNat 97, Char.ofNat 105, Char.ofNat 114, Char.ofNat 32, Char.ofNat 108, Char.ofNat 111, Char.ofNat 111, Char.ofNat 112, Char.ofNat 46, Char.ofNat 101, Char.ofNat 120, Char.ofNat 97, Char.ofNat 109, Char.ofNat 112, Char.ofNat 108, Char.ofNat 101, Char.ofNat 47, Char.ofNat 103, Char.ofNat 48, Char.ofNat 49, Char.ofNat 51, Char.ofNat 49, Char.ofNat 51, Char.ofNat 47, Char.ofNat 108, Char.ofNat 97, Char.ofNat 119, Char.ofNat 115, Char.ofNat 46, Char.ofNat 70, Char.ofNat 110, Char.ofNat 69, Char.ofNat 120, Char.ofNat 97, Char.ofNat 99, Char.ofNat 116, Char.ofNat 67, Char.ofNat 117, Char.ofNat 98, Char.ofNat 105, Char.ofNat 99, Char.ofNat 80, Char.ofNat 97, Char.ofNat 105, Char.ofNat 114, Char.ofNat 32, Char.ofNat 108, Char.ofNat 111, Char.ofNat 111, Char.ofNat 112, Char.ofNat 46, Char.ofNat 101, Char.ofNat 120, Char.ofNat 97, Char.ofNat 109, Char.ofNat 112, Char.ofNat 108, Char.ofNat 101, Char.ofNat 47, Char.ofNat 103, Char.ofNat 48, Char.ofNat 49, Char.ofNat 51, Char.ofNat 49, Char.ofNat 51, Char.ofNat 47, Char.ofNat 108, Char.ofNat 97, Char.ofNat 119, Char.ofNat 115, Char.ofNat 46, Char.ofNat 70, Char.ofNat 110, Char.ofNat 69, Char.ofNat 120, Char.ofNat 97, Char.ofNat 99, Char.ofNat 116, Char.ofNat 73, Char.ofNat 115, Char.ofNat 80, Char.ofNat 108, Char.ofNat 97, Char.ofNat 105, Char.ofNat 110, Char.ofNat 80, Char.ofNat 97, Char.ofNat 105, Char.ofNat 114, Char.ofNat 32, Char.ofNat 108, Char.ofNat 111, Char.ofNat 111, Char.ofNat 112, Char.ofNat 46, Char.ofNat 101, Char.ofNat 120, Char.ofNat 97, Char.ofNat 109, Char.ofNat 112, Char.ofNat 108, Char.ofNat 101, Char.ofNat 47, Char.ofNat 103, Char.ofNat 48, Char.ofNat 49, Char.ofNat 51, Char.ofNat 49, Char.ofNat 51, Char.ofNat 47, Char.ofNat 108, Char.ofNat 97, Char.ofNat 119, Char.ofNat 115, Char.ofNat 46, Char.ofNat 70, Char.ofNat 110, Char.ofNat 67, Char.ofNat 104, Char.ofNat 97, Char.ofNat 114, Char.ofNat 97, Char.ofNat 99, Char.ofNat 116, Char.ofNat 101, Char.ofNat 114, Char.ofNat 115, Char.ofNat 32, Char.ofNat 108, Char.ofNat 111, Char.ofNat 111, Char.ofNat 112, Char.ofNat 46, Char.ofNat 101, Char.ofNat 120, Char.ofNat 97, Char.ofNat 109, Char.ofNat 112, Char.ofNat 108, Char.ofNat 101, Char.ofNat 47, Char.ofNat 103, Char.ofNat 48, Char.ofNat 49, Char.ofNat 51, Char.ofNat 49, Char.ofNat 51, Char.ofNat 47, Char.ofNat 108, Char.ofNat 97, Char.ofNat 119, Char.ofNat 115, Char.ofNat 46, Char.ofNat 70, Char.ofNat 110, Char.ofNat 77, Char.ofNat 105, Char.ofNat 110, Char.ofNat 105, Char.ofNat 109, Char.ofNat 97, Char.ofNat 108, Char.ofNat 32, Char.ofNat 108, Char.ofNat 111, Char.ofNat 111, Char.ofNat 112, Char.ofNat 46, Char.ofNat 101, Char.ofNat 120, Char.ofNat 97, Char.ofNat 109, Char.ofNat 112, Char.ofNat 108, Char.ofNat 101, Char.ofNat 47, Char.ofNat 103, Char.ofNat 48, Char.ofNat 49, Char.ofNat 51, Char.ofNat 49, Char.ofNat 51, Char.ofNat 47, Char.ofNat 108, Char.ofNat 97, Char.ofNat 119, Char.ofNat 115, Char.ofNat 46, Char.ofNat 70, Char.ofNat 110, Char.ofNat 68, Char.ofNat 105, Char.ofNat 118, Char.ofNat 105, Char.ofNat 115, Char.ofNat 105, Char.ofNat 111, Char.ofNat 110, Char.ofNat 32, Char.ofNat 108, Char.ofNat 111, Char.ofNat 111, Char.ofNat 112, Char.ofNat 46, Char.ofNat 101, Char.ofNat 120, Char.ofNat 97, Char.ofNat 109, Char.ofNat 112, Char.ofNat 108, Char.ofNat 101, Char.ofNat 47, Char.ofNat 103, Char.ofNat 48, Char.ofNat 49, Char.ofNat 51, Char.ofNat 49, Char.ofNat 51, Char.ofNat 47, Char.ofNat 108, Char.ofNat 97, Char.ofNat 119, Char.ofNat 115, Char.ofNat 46, Char.ofNat 70, Char.ofNat 110, Char.ofNat 71, Char.ofNat 97, Char.ofNat 108, Char.ofNat 111, Char.ofNat 105, Char.ofNat 115]
set_option maxRecDepth 100000 in
theorem init_word : Try.prog.initOrder = String.ofList initChars := by kernel_rfl
theorem init_list : Try.prog.initOrder.toList = initChars := by rw [init_word, String.toList_ofList]
set_option maxRecDepth 100000
theorem init_head : (behindMainWord (wordsSigns initChars)).head? = some [Char.ofNat 99, Char.ofNat 117, Char.ofNat 116] := by kernel_rfl
theorem init_r1 : (stripLifts liftWords (behindMainWord (wordsSigns initChars))).1 = [] := by kernel_rfl
theorem init_r2 : ((stripLifts liftWords (behindMainWord (wordsSigns initChars))).2.head? == some "cut".toList) = true := by kernel_rfl
theorem init_r3 : Try.prog.laysLater = false := by kernel_rfl
theorem init_r4 : Try.prog.bearsReflect = false := by kernel_rfl
theorem init_r5 : Try.prog.doorFits [] = true := by kernel_rfl
theorem init_lifts : Try.prog.liftsFinal = false := by unfold Program.liftsFinal Program.headLifts; rw [init_list]; kernel_rfl
theorem init_cons : ∃ rest, behindMainWord (wordsSigns initChars) = [Char.ofNat 99, Char.ofNat 117, Char.ofNat 116] :: rest := by
  have h := init_head
  cases hb : behindMainWord (wordsSigns initChars) with
  | nil => rw [hb] at h; cases h
  | cons c rest => rw [hb] at h; injection h with h; subst h; exact ⟨rest, rfl⟩
theorem init_g : ([Char.ofNat 99, Char.ofNat 117, Char.ofNat 116] == "gc".toList) = false := by kernel_rfl
theorem init_s : ([Char.ofNat 99, Char.ofNat 117, Char.ofNat 116] == "spec".toList) = false := by kernel_rfl
theorem init_c : ([Char.ofNat 99, Char.ofNat 117, Char.ofNat 116] == "cut".toList) = true := by kernel_rfl
theorem make_of {P : Program} {rest : List (List Char)} (h : behindMainWord (wordsSigns P.initOrder.toList) = [Char.ofNat 99, Char.ofNat 117, Char.ofNat 116] :: rest) : P.make = some .cut := by
  unfold Program.make
  rw [h]
  simp only [init_g, init_s, init_c, Bool.or_self, Bool.true_or, Bool.false_eq_true, if_false, if_true]
theorem enter_of {P : Program} {rest : List (List Char)} (h : behindMainWord (wordsSigns P.initOrder.toList) = [Char.ofNat 99, Char.ofNat 117, Char.ofNat 116] :: rest)
    (h1 : (stripLifts liftWords ([Char.ofNat 99, Char.ofNat 117, Char.ofNat 116] :: rest)).1 = []) (h2 : ((stripLifts liftWords ([Char.ofNat 99, Char.ofNat 117, Char.ofNat 116] :: rest)).2.head? == some "cut".toList) = true)
    (h3 : P.laysLater = false) (h4 : P.bearsReflect = false) (h5 : P.doorFits [] = true) : P.mayEnter = true := by
  unfold Program.mayEnter
  rw [h]
  simp only [h1, h2, h3, h4, h5, List.contains_nil, Bool.not_false, Bool.or_true, Bool.and_true]
theorem init_make : Try.prog.make = some .cut := by
  obtain ⟨rest, hr⟩ := init_cons
  exact make_of (rest := rest) (by rw [init_list]; exact hr)
theorem init_enter : Try.prog.mayEnter = true := by
  have h1 := init_r1
  have h2 := init_r2
  obtain ⟨rest, hr⟩ := init_cons
  rw [hr] at h1 h2
  exact enter_of (rest := rest) (by rw [init_list]; exact hr) h1 h2 init_r3 init_r4 init_r5
theorem tt_lifts {P : Program} {c : Bool} (h : P.liftsFinal = false) (hc : c = false) : (c == P.liftsFinal) = true := by rw [h, hc]; rfl
theorem tt_make {P : Program} {c : Make} (h : P.make = some .cut) (hc : c = .cut) : (P.make == some c) = true := by rw [h, hc]; rfl
end

open Go.RowKit Go.ChangeShapes Go.Sort Go.WideShapes Go.ChangeAt
set_option linter.unusedVariables false
set_option linter.unusedSimpArgs false
namespace fnDivision
set_option maxRecDepth 100000 in
set_option maxHeartbeats 8000000 in
theorem walk (w : World) (p : Option Addr) (n q : Nat) (hb : n ≤ 4096 → Bytes w w.heap.size p n) :
    Calls Try.prog 14 #[.slice p n q] w fun e w' => e = .returned (.bool true) ∧ Below w.heap.size w w' := by
  by_cases hn : n ≤ 4096
  case neg =>
    go_enter Try.func14, Try.ntmps14
    go_wp2_with fail
    refine (big_yes _ _ _ _ (by omega)).mono ?_
    rintro e w1 ⟨rfl, b1⟩
    go_wp2
    go_ret
    exact ⟨rfl, b1⟩
  have by0 := hb hn
  clear hb
  have st0 := St.start w
  go_enter Try.func14, Try.ntmps14
  go_wp2_with fail
  refine (big_no _ _ _ _ hn).mono ?_
  rintro e w1 ⟨rfl, b_w1⟩
  have hz_w1 := b_w1.size
  try simp only [World.size_alloc] at hz_w1
  have st1 := st0.keep b_w1
  have by1 := by0.below b_w1
  clear st0 by0 b_w1
  go_wp2_with fail
  refine (DrawDivideCyclos_any _ by1 (by (try simp only [World.size_alloc]); omega)).mono ?_
  rintro e w2 ⟨x_w2, L_w2, a_w2, k_w2, g_w2, lo_w2, hi_w2, y_w2, M_w2, aa_w2, kk_w2, h_w2, lo2_w2, hi2_w2, rfl, hx_w2, hL0_w2, hL_w2, s_w2, hlo_w2, hy_w2, hM0_w2, hM_w2, s2_w2, hlo2_w2, b_w2⟩
  have hz_w2 := b_w2.size
  try simp only [World.size_alloc] at hz_w2
  have st2 := st1.keep b_w2
  have by2 := by1.below b_w2
  try simp only [World.size_alloc] at s_w2
  have hsz_x := s_w2.size
  replace st2 := st2.addSl ⟨false, lo_w2, hi_w2, .slice a_w2 L_w2 k_w2, L_w2, g_w2⟩ s_w2
  try simp only [World.size_alloc] at s2_w2
  have hsz_y := s2_w2.size
  replace st2 := st2.addSl ⟨false, lo2_w2, hi2_w2, .slice aa_w2 M_w2 kk_w2, M_w2, h_w2⟩ s2_w2
  replace st2 := (st2.alloc (.cells #[.int .i64 x_w2, .slice a_w2 L_w2 k_w2] 26)).addBox _ [.int .i64 x_w2, .slice a_w2 L_w2 k_w2] (Box.made _ _ _ _ (fun j v h => by simpa using h))
  replace by2 := by2.below ((Below.refl _ _).alloc (Nat.le_refl _) (.cells #[.int .i64 x_w2, .slice a_w2 L_w2 k_w2] 26))
  replace st2 := (st2.alloc (.cells #[.int .i64 y_w2, .slice aa_w2 M_w2 kk_w2] 26)).addBox _ [.int .i64 y_w2, .slice aa_w2 M_w2 kk_w2] (Box.made _ _ _ _ (fun j v h => by simpa using h))
  simp only [World.size_alloc] at st2
  replace by2 := by2.below ((Below.refl _ _).alloc (Nat.le_refl _) (.cells #[.int .i64 y_w2, .slice aa_w2 M_w2 kk_w2] 26))
  clear st1 by1 b_w2 s_w2 s2_w2
  obtain ⟨Rd, Nd, Gd, Cd, hS, hI, hR⟩ := DivideCyclos_two x_w2 L_w2 g_w2 y_w2 M_w2 h_w2
  have HS := Lib.hid hS; have HI := Lib.hid hI; clear hS hI
  have HR_d := Lib.hid hR; clear hR
  obtain ⟨c_x_0, c_x_1⟩ := (st2.box 1 (w2.heap.size, [.int .i64 x_w2, .slice a_w2 L_w2 k_w2]) rfl).cell2
  try dsimp only at c_x_0 c_x_1
  obtain ⟨c_y_0, c_y_1⟩ := (st2.box 0 (w2.heap.size + 1, [.int .i64 y_w2, .slice aa_w2 M_w2 kk_w2]) rfl).cell2
  try dsimp only at c_y_0 c_y_1
  have q_x := st2.sl 1 ⟨false, lo_w2, hi_w2, .slice a_w2 L_w2 k_w2, L_w2, g_w2⟩ rfl
  try dsimp only at q_x
  have q_y := st2.sl 0 ⟨false, lo2_w2, hi2_w2, .slice aa_w2 M_w2 kk_w2, M_w2, h_w2⟩ rfl
  try dsimp only at q_y
  go_wp2_with fail
  refine (HI.out _ _ _ _ _ _ _ _ _ q_x q_y).mono ?_
  rintro e w3 ⟨a_w3, k_w3, rfl, s_w3, b_w3⟩
  have hz_w3 := b_w3.size
  try simp only [World.size_alloc] at hz_w3
  have st3 := st2.keep b_w3
  have by3 := by2.below b_w3
  try simp only [World.size_alloc] at s_w3
  replace st3 := st3.addSl ⟨true, w2.heap.size + 1 + 1, w3.heap.size, .slice a_w3 Nd k_w3, Nd, Gd⟩ s_w3
  replace st3 := (st3.alloc (.cells #[.int .i64 Rd, .slice a_w3 Nd k_w3] 26)).addBox _ [.int .i64 Rd, .slice a_w3 Nd k_w3] (Box.made _ _ _ _ (fun j v h => by simpa using h))
  replace by3 := by3.below ((Below.refl _ _).alloc (Nat.le_refl _) (.cells #[.int .i64 Rd, .slice a_w3 Nd k_w3] 26))
  clear c_x_0 c_x_1 c_y_0 c_y_1 q_x q_y st2 by2 b_w3 s_w3
  obtain ⟨c_x_0, c_x_1⟩ := (st3.box 2 (w2.heap.size, [.int .i64 x_w2, .slice a_w2 L_w2 k_w2]) rfl).cell2
  try dsimp only at c_x_0 c_x_1
  obtain ⟨c_y_0, c_y_1⟩ := (st3.box 1 (w2.heap.size + 1, [.int .i64 y_w2, .slice aa_w2 M_w2 kk_w2]) rfl).cell2
  try dsimp only at c_y_0 c_y_1
  have q_x := st3.sl 2 ⟨false, lo_w2, hi_w2, .slice a_w2 L_w2 k_w2, L_w2, g_w2⟩ rfl
  try dsimp only at q_x
  have q_y := st3.sl 1 ⟨false, lo2_w2, hi2_w2, .slice aa_w2 M_w2 kk_w2, M_w2, h_w2⟩ rfl
  try dsimp only at q_y
  go_wp2_with fail
  refine (HS.out _ _ _ _ _ _ _ _ _ q_x q_y).mono ?_
  rintro e w4 ⟨a_w4, k_w4, rfl, s_w4, b_w4⟩
  have hz_w4 := b_w4.size
  try simp only [World.size_alloc] at hz_w4
  have st4 := st3.keep b_w4
  have by4 := by3.below b_w4
  try simp only [World.size_alloc] at s_w4
  replace st4 := st4.addSl ⟨true, w3.heap.size + 1, w4.heap.size, .slice a_w4 Nd k_w4, Nd, Gd⟩ s_w4
  replace st4 := (st4.alloc (.cells #[.int .i64 Rd, .slice a_w4 Nd k_w4] 26)).addBox _ [.int .i64 Rd, .slice a_w4 Nd k_w4] (Box.made _ _ _ _ (fun j v h => by simpa using h))
  replace by4 := by4.below ((Below.refl _ _).alloc (Nat.le_refl _) (.cells #[.int .i64 Rd, .slice a_w4 Nd k_w4] 26))
  clear c_x_0 c_x_1 c_y_0 c_y_1 q_x q_y st3 by3 b_w4 s_w4
  clear HS HI
  obtain ⟨c_quo_0, c_quo_1⟩ := (st4.box 1 (w3.heap.size, [.int .i64 Rd, .slice a_w3 Nd k_w3]) rfl).cell2
  try dsimp only at c_quo_0 c_quo_1
  obtain ⟨c_due_0, c_due_1⟩ := (st4.box 0 (w4.heap.size, [.int .i64 Rd, .slice a_w4 Nd k_w4]) rfl).cell2
  try dsimp only at c_due_0 c_due_1
  have q_quo := st4.sl 1 ⟨true, w2.heap.size + 1 + 1, w3.heap.size, .slice a_w3 Nd k_w3, Nd, Gd⟩ rfl
  try dsimp only at q_quo
  have q_due := st4.sl 0 ⟨true, w3.heap.size + 1, w4.heap.size, .slice a_w4 Nd k_w4, Nd, Gd⟩ rfl
  try dsimp only at q_due
  go_wp2_with fail
  refine (cyclo9_yes _ _ q_quo q_due (fun _ _ => rfl)).mono ?_
  rintro e w5 ⟨rfl, b_w5⟩
  have hz_w5 := b_w5.size
  try simp only [World.size_alloc] at hz_w5
  have st5 := st4.keep b_w5
  have by5 := by4.below b_w5
  clear c_quo_0 c_quo_1 c_due_0 c_due_1 q_quo q_due st4 by4 b_w5
  go_wp2_with fail
  refine (DrawIsUnit_any _ by5 (by omega)).mono ?_
  rintro e w6 ⟨x_w6, L_w6, a_w6, k_w6, g_w6, lo_w6, hi_w6, rfl, hx_w6, hL0_w6, hL_w6, s_w6, hlo_w6, b_w6⟩
  have hz_w6 := b_w6.size
  try simp only [World.size_alloc] at hz_w6
  have st6 := st5.keep b_w6
  have by6 := by5.below b_w6
  try simp only [World.size_alloc] at s_w6
  have hsz_u := s_w6.size
  replace st6 := st6.addSl ⟨false, lo_w6, hi_w6, .slice a_w6 L_w6 k_w6, L_w6, g_w6⟩ s_w6
  replace st6 := (st6.alloc (.cells #[.int .i64 x_w6, .slice a_w6 L_w6 k_w6] 26)).addBox _ [.int .i64 x_w6, .slice a_w6 L_w6 k_w6] (Box.made _ _ _ _ (fun j v h => by simpa using h))
  replace by6 := by6.below ((Below.refl _ _).alloc (Nat.le_refl _) (.cells #[.int .i64 x_w6, .slice a_w6 L_w6 k_w6] 26))
  clear st5 by5 b_w6 s_w6
  obtain ⟨Au, Cu, hS, hI⟩ := IsUnit_two x_w6 L_w6 g_w6
  have HS := Lib.hid hS; have HI := Lib.hid hI; clear hS hI
  obtain ⟨c_u_0, c_u_1⟩ := (st6.box 0 (w6.heap.size, [.int .i64 x_w6, .slice a_w6 L_w6 k_w6]) rfl).cell2
  try dsimp only at c_u_0 c_u_1
  have q_u := st6.sl 0 ⟨false, lo_w6, hi_w6, .slice a_w6 L_w6 k_w6, L_w6, g_w6⟩ rfl
  try dsimp only at q_u
  go_wp2_with fail
  refine (HI.out _ _ _ _ _ q_u).mono ?_
  rintro e w7 ⟨rfl, b_w7⟩
  have hz_w7 := b_w7.size
  try simp only [World.size_alloc] at hz_w7
  have st7 := st6.keep b_w7
  have by7 := by6.below b_w7
  clear c_u_0 c_u_1 q_u st6 by6 b_w7
  obtain ⟨c_u_0, c_u_1⟩ := (st7.box 0 (w6.heap.size, [.int .i64 x_w6, .slice a_w6 L_w6 k_w6]) rfl).cell2
  try dsimp only at c_u_0 c_u_1
  have q_u := st7.sl 0 ⟨false, lo_w6, hi_w6, .slice a_w6 L_w6 k_w6, L_w6, g_w6⟩ rfl
  try dsimp only at q_u
  go_wp2_with fail
  refine (HS.out _ _ _ _ _ q_u).mono ?_
  rintro e w8 ⟨rfl, b_w8⟩
  have hz_w8 := b_w8.size
  try simp only [World.size_alloc] at hz_w8
  have st8 := st7.keep b_w8
  have by8 := by7.below b_w8
  clear c_u_0 c_u_1 q_u st7 by7 b_w8
  clear HS HI
  go_wp2_with fail
  refine (DrawInverseOf_any _ by8 (by omega)).mono ?_
  rintro e w9 ⟨x_w9, L_w9, a_w9, k_w9, g_w9, lo_w9, hi_w9, rfl, hx_w9, hL0_w9, hL_w9, s_w9, hlo_w9, b_w9⟩
  have hz_w9 := b_w9.size
  try simp only [World.size_alloc] at hz_w9
  have st9 := st8.keep b_w9
  have by9 := by8.below b_w9
  try simp only [World.size_alloc] at s_w9
  have hsz_v := s_w9.size
  replace st9 := st9.addSl ⟨false, lo_w9, hi_w9, .slice a_w9 L_w9 k_w9, L_w9, g_w9⟩ s_w9
  replace st9 := (st9.alloc (.cells #[.int .i64 x_w9, .slice a_w9 L_w9 k_w9] 26)).addBox _ [.int .i64 x_w9, .slice a_w9 L_w9 k_w9] (Box.made _ _ _ _ (fun j v h => by simpa using h))
  replace by9 := by9.below ((Below.refl _ _).alloc (Nat.le_refl _) (.cells #[.int .i64 x_w9, .slice a_w9 L_w9 k_w9] 26))
  clear st8 by8 b_w9 s_w9
  obtain ⟨Ri, Ni, Gi, Ci, hS, hI, hR⟩ := InverseOf_two x_w9 L_w9 g_w9
  have HS := Lib.hid hS; have HI := Lib.hid hI; clear hS hI
  have HR_i := Lib.hid hR; clear hR
  obtain ⟨c_v_0, c_v_1⟩ := (st9.box 0 (w9.heap.size, [.int .i64 x_w9, .slice a_w9 L_w9 k_w9]) rfl).cell2
  try dsimp only at c_v_0 c_v_1
  have q_v := st9.sl 0 ⟨false, lo_w9, hi_w9, .slice a_w9 L_w9 k_w9, L_w9, g_w9⟩ rfl
  try dsimp only at q_v
  go_wp2_with fail
  refine (HI.out _ _ _ _ _ q_v).mono ?_
  rintro e w10 ⟨a_w10, k_w10, rfl, s_w10, b_w10⟩
  have hz_w10 := b_w10.size
  try simp only [World.size_alloc] at hz_w10
  have st10 := st9.keep b_w10
  have by10 := by9.below b_w10
  try simp only [World.size_alloc] at s_w10
  replace st10 := st10.addSl ⟨true, w9.heap.size + 1, w10.heap.size, .slice a_w10 Ni k_w10, Ni, Gi⟩ s_w10
  replace st10 := (st10.alloc (.cells #[.int .i64 Ri, .slice a_w10 Ni k_w10] 26)).addBox _ [.int .i64 Ri, .slice a_w10 Ni k_w10] (Box.made _ _ _ _ (fun j v h => by simpa using h))
  replace by10 := by10.below ((Below.refl _ _).alloc (Nat.le_refl _) (.cells #[.int .i64 Ri, .slice a_w10 Ni k_w10] 26))
  clear c_v_0 c_v_1 q_v st9 by9 b_w10 s_w10
  obtain ⟨c_v_0, c_v_1⟩ := (st10.box 1 (w9.heap.size, [.int .i64 x_w9, .slice a_w9 L_w9 k_w9]) rfl).cell2
  try dsimp only at c_v_0 c_v_1
  have q_v := st10.sl 1 ⟨false, lo_w9, hi_w9, .slice a_w9 L_w9 k_w9, L_w9, g_w9⟩ rfl
  try dsimp only at q_v
  go_wp2_with fail
  refine (HS.out _ _ _ _ _ q_v).mono ?_
  rintro e w11 ⟨a_w11, k_w11, rfl, s_w11, b_w11⟩
  have hz_w11 := b_w11.size
  try simp only [World.size_alloc] at hz_w11
  have st11 := st10.keep b_w11
  have by11 := by10.below b_w11
  try simp only [World.size_alloc] at s_w11
  replace st11 := st11.addSl ⟨true, w10.heap.size + 1, w11.heap.size, .slice a_w11 Ni k_w11, Ni, Gi⟩ s_w11
  replace st11 := (st11.alloc (.cells #[.int .i64 Ri, .slice a_w11 Ni k_w11] 26)).addBox _ [.int .i64 Ri, .slice a_w11 Ni k_w11] (Box.made _ _ _ _ (fun j v h => by simpa using h))
  replace by11 := by11.below ((Below.refl _ _).alloc (Nat.le_refl _) (.cells #[.int .i64 Ri, .slice a_w11 Ni k_w11] 26))
  clear c_v_0 c_v_1 q_v st10 by10 b_w11 s_w11
  clear HS HI
  obtain ⟨c_inv_0, c_inv_1⟩ := (st11.box 1 (w10.heap.size, [.int .i64 Ri, .slice a_w10 Ni k_w10]) rfl).cell2
  try dsimp only at c_inv_0 c_inv_1
  obtain ⟨c_idue_0, c_idue_1⟩ := (st11.box 0 (w11.heap.size, [.int .i64 Ri, .slice a_w11 Ni k_w11]) rfl).cell2
  try dsimp only at c_idue_0 c_idue_1
  have q_inv := st11.sl 1 ⟨true, w9.heap.size + 1, w10.heap.size, .slice a_w10 Ni k_w10, Ni, Gi⟩ rfl
  try dsimp only at q_inv
  have q_idue := st11.sl 0 ⟨true, w10.heap.size + 1, w11.heap.size, .slice a_w11 Ni k_w11, Ni, Gi⟩ rfl
  try dsimp only at q_idue
  go_wp2_with fail
  refine (cyclo9_yes _ _ q_inv q_idue (fun _ _ => rfl)).mono ?_
  rintro e w12 ⟨rfl, b_w12⟩
  have hz_w12 := b_w12.size
  try simp only [World.size_alloc] at hz_w12
  have st12 := st11.keep b_w12
  have by12 := by11.below b_w12
  clear c_inv_0 c_inv_1 c_idue_0 c_idue_1 q_inv q_idue st11 by11 b_w12
  go_wp2_with fail
  refine (DrawAreAssociated_any _ by12 (by (try simp only [World.size_alloc]); omega)).mono ?_
  rintro e w13 ⟨x_w13, L_w13, a_w13, k_w13, g_w13, lo_w13, hi_w13, y_w13, M_w13, aa_w13, kk_w13, h_w13, lo2_w13, hi2_w13, rfl, hx_w13, hL0_w13, hL_w13, s_w13, hlo_w13, hy_w13, hM0_w13, hM_w13, s2_w13, hlo2_w13, b_w13⟩
  have hz_w13 := b_w13.size
  try simp only [World.size_alloc] at hz_w13
  have st13 := st12.keep b_w13
  have by13 := by12.below b_w13
  try simp only [World.size_alloc] at s_w13
  have hsz_a := s_w13.size
  replace st13 := st13.addSl ⟨false, lo_w13, hi_w13, .slice a_w13 L_w13 k_w13, L_w13, g_w13⟩ s_w13
  try simp only [World.size_alloc] at s2_w13
  have hsz_b := s2_w13.size
  replace st13 := st13.addSl ⟨false, lo2_w13, hi2_w13, .slice aa_w13 M_w13 kk_w13, M_w13, h_w13⟩ s2_w13
  replace st13 := (st13.alloc (.cells #[.int .i64 x_w13, .slice a_w13 L_w13 k_w13] 26)).addBox _ [.int .i64 x_w13, .slice a_w13 L_w13 k_w13] (Box.made _ _ _ _ (fun j v h => by simpa using h))
  replace by13 := by13.below ((Below.refl _ _).alloc (Nat.le_refl _) (.cells #[.int .i64 x_w13, .slice a_w13 L_w13 k_w13] 26))
  replace st13 := (st13.alloc (.cells #[.int .i64 y_w13, .slice aa_w13 M_w13 kk_w13] 26)).addBox _ [.int .i64 y_w13, .slice aa_w13 M_w13 kk_w13] (Box.made _ _ _ _ (fun j v h => by simpa using h))
  simp only [World.size_alloc] at st13
  replace by13 := by13.below ((Below.refl _ _).alloc (Nat.le_refl _) (.cells #[.int .i64 y_w13, .slice aa_w13 M_w13 kk_w13] 26))
  clear st12 by12 b_w13 s_w13 s2_w13
  obtain ⟨Aa, Ca, hS, hI, hR⟩ := AreAssociated_two x_w13 L_w13 g_w13 y_w13 M_w13 h_w13
  have HS := Lib.hid hS; have HI := Lib.hid hI; clear hS hI
  have HR_a := Lib.hid hR; clear hR
  obtain ⟨c_a_0, c_a_1⟩ := (st13.box 1 (w13.heap.size, [.int .i64 x_w13, .slice a_w13 L_w13 k_w13]) rfl).cell2
  try dsimp only at c_a_0 c_a_1
  obtain ⟨c_b_0, c_b_1⟩ := (st13.box 0 (w13.heap.size + 1, [.int .i64 y_w13, .slice aa_w13 M_w13 kk_w13]) rfl).cell2
  try dsimp only at c_b_0 c_b_1
  have q_a := st13.sl 1 ⟨false, lo_w13, hi_w13, .slice a_w13 L_w13 k_w13, L_w13, g_w13⟩ rfl
  try dsimp only at q_a
  have q_b := st13.sl 0 ⟨false, lo2_w13, hi2_w13, .slice aa_w13 M_w13 kk_w13, M_w13, h_w13⟩ rfl
  try dsimp only at q_b
  go_wp2_with fail
  refine (HI.out _ _ _ _ _ _ _ _ _ q_a q_b).mono ?_
  rintro e w14 ⟨rfl, b_w14⟩
  have hz_w14 := b_w14.size
  try simp only [World.size_alloc] at hz_w14
  have st14 := st13.keep b_w14
  have by14 := by13.below b_w14
  clear c_a_0 c_a_1 c_b_0 c_b_1 q_a q_b st13 by13 b_w14
  obtain ⟨c_a_0, c_a_1⟩ := (st14.box 1 (w13.heap.size, [.int .i64 x_w13, .slice a_w13 L_w13 k_w13]) rfl).cell2
  try dsimp only at c_a_0 c_a_1
  obtain ⟨c_b_0, c_b_1⟩ := (st14.box 0 (w13.heap.size + 1, [.int .i64 y_w13, .slice aa_w13 M_w13 kk_w13]) rfl).cell2
  try dsimp only at c_b_0 c_b_1
  have q_a := st14.sl 1 ⟨false, lo_w13, hi_w13, .slice a_w13 L_w13 k_w13, L_w13, g_w13⟩ rfl
  try dsimp only at q_a
  have q_b := st14.sl 0 ⟨false, lo2_w13, hi2_w13, .slice aa_w13 M_w13 kk_w13, M_w13, h_w13⟩ rfl
  try dsimp only at q_b
  go_wp2_with fail
  refine (HS.out _ _ _ _ _ _ _ _ _ q_a q_b).mono ?_
  rintro e w15 ⟨rfl, b_w15⟩
  have hz_w15 := b_w15.size
  try simp only [World.size_alloc] at hz_w15
  have st15 := st14.keep b_w15
  have by15 := by14.below b_w15
  clear c_a_0 c_a_1 c_b_0 c_b_1 q_a q_b st14 by14 b_w15
  clear HS HI
  obtain ⟨Bq, hBq⟩ : ∃ b, b = (decide (Ca = 0) && Aa) := ⟨_, rfl⟩
  have HBQ := Lib.hid hBq; clear hBq
  go_upto_region 23 with fail
  go_cut [133] (fun s wx => s = .bool Bq ∧ wx = w15)
  case first => as_aux_lemma =>
    by_cases h4 : Ca = 0
    · subst h4; go_wp2_with fail; go_meet; exact ⟨by rw [HBQ.out]; simp, rfl⟩
    · have e4 : (Ca == 0) = false := by simpa using h4
      go_wp2_with fail; go_meet; exact ⟨by rw [HBQ.out]; simp [h4], rfl⟩
  case rest => as_aux_lemma =>
    obtain ⟨rfl, rfl⟩ := hcut
    obtain ⟨w90, hw90⟩ : ∃ z : World, z = wc := ⟨_, rfl⟩
    subst hw90
    go_upto_if 133 with fail
    go_cut [] (fun wx => St w wx [(w13.heap.size + 1, [.int .i64 y_w13, .slice aa_w13 M_w13 kk_w13]), (w13.heap.size, [.int .i64 x_w13, .slice a_w13 L_w13 k_w13]), (w11.heap.size, [.int .i64 Ri, .slice a_w11 Ni k_w11]), (w10.heap.size, [.int .i64 Ri, .slice a_w10 Ni k_w10]), (w9.heap.size, [.int .i64 x_w9, .slice a_w9 L_w9 k_w9]), (w6.heap.size, [.int .i64 x_w6, .slice a_w6 L_w6 k_w6]), (w4.heap.size, [.int .i64 Rd, .slice a_w4 Nd k_w4]), (w3.heap.size, [.int .i64 Rd, .slice a_w3 Nd k_w3]), (w2.heap.size + 1, [.int .i64 y_w2, .slice aa_w2 M_w2 kk_w2]), (w2.heap.size, [.int .i64 x_w2, .slice a_w2 L_w2 k_w2])] [⟨false, lo2_w13, hi2_w13, .slice aa_w13 M_w13 kk_w13, M_w13, h_w13⟩, ⟨false, lo_w13, hi_w13, .slice a_w13 L_w13 k_w13, L_w13, g_w13⟩, ⟨true, w10.heap.size + 1, w11.heap.size, .slice a_w11 Ni k_w11, Ni, Gi⟩, ⟨true, w9.heap.size + 1, w10.heap.size, .slice a_w10 Ni k_w10, Ni, Gi⟩, ⟨false, lo_w9, hi_w9, .slice a_w9 L_w9 k_w9, L_w9, g_w9⟩, ⟨false, lo_w6, hi_w6, .slice a_w6 L_w6 k_w6, L_w6, g_w6⟩, ⟨true, w3.heap.size + 1, w4.heap.size, .slice a_w4 Nd k_w4, Nd, Gd⟩, ⟨true, w2.heap.size + 1 + 1, w3.heap.size, .slice a_w3 Nd k_w3, Nd, Gd⟩, ⟨false, lo2_w2, hi2_w2, .slice aa_w2 M_w2 kk_w2, M_w2, h_w2⟩, ⟨false, lo_w2, hi_w2, .slice a_w2 L_w2 k_w2, L_w2, g_w2⟩] ∧ w90.heap.size ≤ wx.heap.size ∧ Bytes wx w.heap.size p n)
    case first => as_aux_lemma =>
      cases Bq with
      | false =>
        go_wp2_with fail; go_meet; exact ⟨st15, Nat.le_refl _, by15⟩
      | true =>
        have hh : Ca = 0 ∧ Aa = true := by have := HBQ.out; simpa using this.symm
        have h1 := hh.1; have h2 := hh.2; clear hh HBQ
        subst h1 h2
        obtain ⟨m, eX, eY, eL, eM, hdv⟩ := HR_a.out rfl rfl
        obtain ⟨K0, K1, _, hIa, hRa⟩ := NormOf_two x_w13 L_w13 g_w13
        obtain ⟨J0, J1, _, hIb, hRb⟩ := NormOf_two y_w13 M_w13 h_w13
        have HIa := Lib.hid hIa; have HIb := Lib.hid hIb; clear hIa hIb
        have HV := Lib.hid (show K1 = 0 → J1 = 0 → -1000000000 ≤ J0 ∧ J0 ≤ 1000000000 ∧ (K0 = J0 ∨ K0 = -J0) from fun h1 h2 => by
          rcases hRa with ⟨_, n1, e1, _, c1, _, _⟩ | ⟨h, _⟩
          · rcases hRb with ⟨_, n2, e2, _, c2, b1, b2⟩ | ⟨h, _⟩
            · obtain rfl : n1 = m := by omega
              obtain rfl : n2 = n1 := by omega
              exact ⟨b1, b2, by rw [c1, c2]; exact hdv⟩
            · exact absurd h2 h
          · exact absurd h1 h)
        clear hRa hRb hdv eX eY eL eM
        obtain ⟨c_a_0, c_a_1⟩ := (st15.box 1 (w13.heap.size, [.int .i64 x_w13, .slice a_w13 L_w13 k_w13]) rfl).cell2
        try dsimp only at c_a_0 c_a_1
        have q_a := st15.sl 1 ⟨false, lo_w13, hi_w13, .slice a_w13 L_w13 k_w13, L_w13, g_w13⟩ rfl
        try dsimp only at q_a
        go_wp2_with fail
        refine (HIa.out _ _ _ _ _ q_a).mono ?_
        rintro e w16 ⟨rfl, b_w16⟩
        have hz_w16 := b_w16.size
        try simp only [World.size_alloc] at hz_w16
        have st16 := st15.keep b_w16
        have by16 := by15.below b_w16
        clear c_a_0 c_a_1 q_a st15 by15 b_w16
        obtain ⟨c_b_0, c_b_1⟩ := (st16.box 0 (w13.heap.size + 1, [.int .i64 y_w13, .slice aa_w13 M_w13 kk_w13]) rfl).cell2
        try dsimp only at c_b_0 c_b_1
        have q_b := st16.sl 0 ⟨false, lo2_w13, hi2_w13, .slice aa_w13 M_w13 kk_w13, M_w13, h_w13⟩ rfl
        try dsimp only at q_b
        go_wp2_with fail
        refine (HIb.out _ _ _ _ _ q_b).mono ?_
        rintro e w17 ⟨rfl, b_w17⟩
        have hz_w17 := b_w17.size
        try simp only [World.size_alloc] at hz_w17
        have st17 := st16.keep b_w17
        have by17 := by16.below b_w17
        clear c_b_0 c_b_1 q_b st16 by16 b_w17
        clear HIa HIb
        by_cases h2 : K1 = 0
        case neg =>
          have e2 : (K1 == 0) = false := by simpa using h2
          go_wp2_with fail; go_meet; exact ⟨st17, by omega, by17⟩
        case pos =>
          by_cases h3 : J1 = 0
          case neg =>
            have e3 : (J1 == 0) = false := by simpa using h3
            subst h2
            go_wp2_with fail; go_meet; exact ⟨st17, by omega, by17⟩
          case pos =>
            obtain ⟨hj1, hj2, hk⟩ := HV.out h2 h3
            subst h2 h3
            clear HV
            by_cases h4 : K0 = J0
            case pos =>
              have e4 : (K0 != J0) = false := by rw [h4]; simp
              clear h4 hk
              go_wp2_with fail; go_meet; exact ⟨st17, by omega, by17⟩
            case neg =>
              have e4 : (K0 != J0) = true := by simpa using h4
              have h5 : K0 = -J0 := by omega
              have e5 : (K0 != -J0) = false := by rw [h5]; simp
              clear h4 hk h5
              go_wp2_with fail; go_meet; exact ⟨st17, by omega, by17⟩
    case rest => as_aux_lemma =>
      obtain ⟨st100, hz100, by100⟩ := hcut
      obtain ⟨w100, hw100⟩ : ∃ z : World, z = wc := ⟨_, rfl⟩
      subst hw100
      go_upto_if 162 with fail
      go_cut [] (fun wx => St w wx [(w13.heap.size + 1, [.int .i64 y_w13, .slice aa_w13 M_w13 kk_w13]), (w13.heap.size, [.int .i64 x_w13, .slice a_w13 L_w13 k_w13]), (w11.heap.size, [.int .i64 Ri, .slice a_w11 Ni k_w11]), (w10.heap.size, [.int .i64 Ri, .slice a_w10 Ni k_w10]), (w9.heap.size, [.int .i64 x_w9, .slice a_w9 L_w9 k_w9]), (w6.heap.size, [.int .i64 x_w6, .slice a_w6 L_w6 k_w6]), (w4.heap.size, [.int .i64 Rd, .slice a_w4 Nd k_w4]), (w3.heap.size, [.int .i64 Rd, .slice a_w3 Nd k_w3]), (w2.heap.size + 1, [.int .i64 y_w2, .slice aa_w2 M_w2 kk_w2]), (w2.heap.size, [.int .i64 x_w2, .slice a_w2 L_w2 k_w2])] [⟨false, lo2_w13, hi2_w13, .slice aa_w13 M_w13 kk_w13, M_w13, h_w13⟩, ⟨false, lo_w13, hi_w13, .slice a_w13 L_w13 k_w13, L_w13, g_w13⟩, ⟨true, w10.heap.size + 1, w11.heap.size, .slice a_w11 Ni k_w11, Ni, Gi⟩, ⟨true, w9.heap.size + 1, w10.heap.size, .slice a_w10 Ni k_w10, Ni, Gi⟩, ⟨false, lo_w9, hi_w9, .slice a_w9 L_w9 k_w9, L_w9, g_w9⟩, ⟨false, lo_w6, hi_w6, .slice a_w6 L_w6 k_w6, L_w6, g_w6⟩, ⟨true, w3.heap.size + 1, w4.heap.size, .slice a_w4 Nd k_w4, Nd, Gd⟩, ⟨true, w2.heap.size + 1 + 1, w3.heap.size, .slice a_w3 Nd k_w3, Nd, Gd⟩, ⟨false, lo2_w2, hi2_w2, .slice aa_w2 M_w2 kk_w2, M_w2, h_w2⟩, ⟨false, lo_w2, hi_w2, .slice a_w2 L_w2 k_w2, L_w2, g_w2⟩] ∧ w100.heap.size ≤ wx.heap.size ∧ Bytes wx w.heap.size p n)
      case first => as_aux_lemma =>
        by_cases h1 : Ci = 0
        case neg =>
          have e1 : (Ci == 0) = false := by simpa using h1
          go_wp2_with fail; go_meet; exact ⟨st100, Nat.le_refl _, by100⟩
        case pos =>
          rcases HR_i.out with ⟨_, m, eX, eR, hm1, hm2, eL, eN, hci, hcv, hone⟩ | h
          case inr => exact absurd h1 h
          subst h1
          have hM : A3 60 x_w9 L_w9 g_w9 Ri Ni Gi x_w9 L_w9 (prodZ m (phiN m) g_w9 Gi) 0 := by
            have hw : Within (prodZ m (phiN m) g_w9 Gi) (phiN m) 1000000000 := fun j hj => by rw [hone j hj]; unfold one0; split <;> omega
            rw [eX, eR, eL, eN]; exact fun w _ _ _ _ _ _ _ _ hs ht => MultiplyCyclos_impl_ok m w hs ht hcv hci hw
          have hZ : ∀ w : World, Calls Try.prog 105 #[.int .i64 x_w9, .int .i64 0] w fun e w' => ∃ a cap, e = .returned (.tuple #[.agg #[.int .i64 x_w9, .slice a L_w9 cap], .int .i64 0]) ∧ Sl true w' w.heap.size w'.heap.size (.slice a L_w9 cap) L_w9 (redP m (unit (powIx m 0))) ∧ Below w.heap.size w w' := by
            rw [eX, eL]; exact fun w => PowerOfZ_impl_ok m 0 w hm1 hm2 (by omega) (by omega)
          have HE := Lib.hid (show ∀ j, j < L_w9 → prodZ m (phiN m) g_w9 Gi j = redP m (unit (powIx m 0)) j from fun j hj => by rw [eL] at hj; rw [hone j hj, pow_zero hm1 hm2 hj])
          have HM := Lib.hid hM; have HZ := Lib.hid hZ; clear hM hZ eX eR eL eN hci hcv hone
          generalize redP m (unit (powIx m 0)) = ONE at *
          generalize prodZ m (phiN m) g_w9 Gi = PR at *
          obtain ⟨c_v_0, c_v_1⟩ := (st100.box 4 (w9.heap.size, [.int .i64 x_w9, .slice a_w9 L_w9 k_w9]) rfl).cell2
          try dsimp only at c_v_0 c_v_1
          obtain ⟨c_inv_0, c_inv_1⟩ := (st100.box 3 (w10.heap.size, [.int .i64 Ri, .slice a_w10 Ni k_w10]) rfl).cell2
          try dsimp only at c_inv_0 c_inv_1
          have q_v := st100.sl 4 ⟨false, lo_w9, hi_w9, .slice a_w9 L_w9 k_w9, L_w9, g_w9⟩ rfl
          try dsimp only at q_v
          have q_inv := st100.sl 3 ⟨true, w9.heap.size + 1, w10.heap.size, .slice a_w10 Ni k_w10, Ni, Gi⟩ rfl
          try dsimp only at q_inv
          go_wp2_with fail
          refine (HM.out _ _ _ _ _ _ _ _ _ q_v q_inv).mono ?_
          rintro e w16 ⟨a_w16, k_w16, rfl, s_w16, b_w16⟩
          have hz_w16 := b_w16.size
          try simp only [World.size_alloc] at hz_w16
          have st116 := st100.keep b_w16
          have by116 := by100.below b_w16
          try simp only [World.size_alloc] at s_w16
          replace st116 := st116.addSl ⟨true, w100.heap.size, w16.heap.size, .slice a_w16 L_w9 k_w16, L_w9, PR⟩ s_w16
          replace st116 := (st116.alloc (.cells #[.int .i64 x_w9, .slice a_w16 L_w9 k_w16] 26)).addBox _ [.int .i64 x_w9, .slice a_w16 L_w9 k_w16] (Box.made _ _ _ _ (fun j v h => by simpa using h))
          replace by116 := by116.below ((Below.refl _ _).alloc (Nat.le_refl _) (.cells #[.int .i64 x_w9, .slice a_w16 L_w9 k_w16] 26))
          clear c_v_0 c_v_1 c_inv_0 c_inv_1 q_v q_inv st100 by100 b_w16 s_w16
          obtain ⟨c_v_0, c_v_1⟩ := (st116.box 5 (w9.heap.size, [.int .i64 x_w9, .slice a_w9 L_w9 k_w9]) rfl).cell2
          try dsimp only at c_v_0 c_v_1
          go_wp2_with fail
          refine (HZ.out _).mono ?_
          rintro e w17 ⟨a_w17, k_w17, rfl, s_w17, b_w17⟩
          have hz_w17 := b_w17.size
          try simp only [World.size_alloc] at hz_w17
          have st117 := st116.keep b_w17
          have by117 := by116.below b_w17
          try simp only [World.size_alloc] at s_w17
          replace st117 := st117.addSl ⟨true, w16.heap.size + 1, w17.heap.size, .slice a_w17 L_w9 k_w17, L_w9, ONE⟩ s_w17
          replace st117 := (st117.alloc (.cells #[.int .i64 x_w9, .slice a_w17 L_w9 k_w17] 26)).addBox _ [.int .i64 x_w9, .slice a_w17 L_w9 k_w17] (Box.made _ _ _ _ (fun j v h => by simpa using h))
          replace by117 := by117.below ((Below.refl _ _).alloc (Nat.le_refl _) (.cells #[.int .i64 x_w9, .slice a_w17 L_w9 k_w17] 26))
          clear c_v_0 c_v_1 st116 by116 b_w17 s_w17
          obtain ⟨c_prod_0, c_prod_1⟩ := (st117.box 1 (w16.heap.size, [.int .i64 x_w9, .slice a_w16 L_w9 k_w16]) rfl).cell2
          try dsimp only at c_prod_0 c_prod_1
          obtain ⟨c_one_0, c_one_1⟩ := (st117.box 0 (w17.heap.size, [.int .i64 x_w9, .slice a_w17 L_w9 k_w17]) rfl).cell2
          try dsimp only at c_one_0 c_one_1
          have q_prod := st117.sl 1 ⟨true, w100.heap.size, w16.heap.size, .slice a_w16 L_w9 k_w16, L_w9, PR⟩ rfl
          try dsimp only at q_prod
          have q_one := st117.sl 0 ⟨true, w16.heap.size + 1, w17.heap.size, .slice a_w17 L_w9 k_w17, L_w9, ONE⟩ rfl
          try dsimp only at q_one
          go_wp2_with fail
          refine (cyclo9_yes _ _ q_prod q_one (fun j hj => HE.out j hj)).mono ?_
          rintro e w18 ⟨rfl, b_w18⟩
          have hz_w18 := b_w18.size
          try simp only [World.size_alloc] at hz_w18
          have st118 := st117.keep b_w18
          have by118 := by117.below b_w18
          clear c_prod_0 c_prod_1 c_one_0 c_one_1 q_prod q_one st117 by117 b_w18
          have stz : St w w18 [(w13.heap.size + 1, [.int .i64 y_w13, .slice aa_w13 M_w13 kk_w13]), (w13.heap.size, [.int .i64 x_w13, .slice a_w13 L_w13 k_w13]), (w11.heap.size, [.int .i64 Ri, .slice a_w11 Ni k_w11]), (w10.heap.size, [.int .i64 Ri, .slice a_w10 Ni k_w10]), (w9.heap.size, [.int .i64 x_w9, .slice a_w9 L_w9 k_w9]), (w6.heap.size, [.int .i64 x_w6, .slice a_w6 L_w6 k_w6]), (w4.heap.size, [.int .i64 Rd, .slice a_w4 Nd k_w4]), (w3.heap.size, [.int .i64 Rd, .slice a_w3 Nd k_w3]), (w2.heap.size + 1, [.int .i64 y_w2, .slice aa_w2 M_w2 kk_w2]), (w2.heap.size, [.int .i64 x_w2, .slice a_w2 L_w2 k_w2])] [⟨false, lo2_w13, hi2_w13, .slice aa_w13 M_w13 kk_w13, M_w13, h_w13⟩, ⟨false, lo_w13, hi_w13, .slice a_w13 L_w13 k_w13, L_w13, g_w13⟩, ⟨true, w10.heap.size + 1, w11.heap.size, .slice a_w11 Ni k_w11, Ni, Gi⟩, ⟨true, w9.heap.size + 1, w10.heap.size, .slice a_w10 Ni k_w10, Ni, Gi⟩, ⟨false, lo_w9, hi_w9, .slice a_w9 L_w9 k_w9, L_w9, g_w9⟩, ⟨false, lo_w6, hi_w6, .slice a_w6 L_w6 k_w6, L_w6, g_w6⟩, ⟨true, w3.heap.size + 1, w4.heap.size, .slice a_w4 Nd k_w4, Nd, Gd⟩, ⟨true, w2.heap.size + 1 + 1, w3.heap.size, .slice a_w3 Nd k_w3, Nd, Gd⟩, ⟨false, lo2_w2, hi2_w2, .slice aa_w2 M_w2 kk_w2, M_w2, h_w2⟩, ⟨false, lo_w2, hi_w2, .slice a_w2 L_w2 k_w2, L_w2, g_w2⟩] := ⟨st118.1, fun b hb => st118.2.1 b (List.mem_cons_of_mem _ (List.mem_cons_of_mem _ hb)), fun s hs => st118.2.2 s (List.mem_cons_of_mem _ (List.mem_cons_of_mem _ hs))⟩
          go_wp2_with fail; go_meet; exact ⟨stz, by omega, by118⟩
      case rest => as_aux_lemma =>
        obtain ⟨st200, hz200, by200⟩ := hcut
        obtain ⟨w200, hw200⟩ : ∃ z : World, z = wc := ⟨_, rfl⟩
        subst hw200
        by_cases h1 : Cd = 0
        case neg =>
          have e1 : (Cd != 0) = true := by simpa using h1
          rcases HR_d.out with ⟨h, _⟩ | ⟨_, hN⟩
          case inl => exact absurd h h1
          subst hN
          obtain ⟨c_quo_0, c_quo_1⟩ := (st200.box 7 (w3.heap.size, [.int .i64 Rd, .slice a_w3 0 k_w3]) rfl).cell2
          try dsimp only at c_quo_0 c_quo_1
          have BBz := st200.1
          go_wp2
          go_ret
          exact ⟨rfl, BBz⟩
        case pos =>
          rcases HR_d.out with ⟨_, m, eX, eY, eR, hm1, hm2, eL, eM, eN, hcq, hcy, hwx, hback⟩ | ⟨h, _⟩
          case inr => exact absurd h1 h
          subst h1
          have hM : A3 60 Rd Nd Gd y_w2 M_w2 h_w2 x_w2 L_w2 (prodZ m (phiN m) Gd h_w2) 0 := by
            have hw : Within (prodZ m (phiN m) Gd h_w2) (phiN m) 1000000000 := fun j hj => by rw [hback j hj]; exact hwx j hj
            rw [eX, eY, eR, eL, eM, eN]; exact fun w _ _ _ _ _ _ _ _ hs ht => MultiplyCyclos_impl_ok m w hs ht hcq hcy hw
          have HE := Lib.hid (show ∀ j, j < L_w2 → prodZ m (phiN m) Gd h_w2 j = g_w2 j from fun j hj => by rw [eL] at hj; exact hback j hj)
          have HM := Lib.hid hM; clear hM eX eY eR eL eM eN hcq hcy hwx hback
          generalize prodZ m (phiN m) Gd h_w2 = PR at *
          obtain ⟨c_quo_0, c_quo_1⟩ := (st200.box 7 (w3.heap.size, [.int .i64 Rd, .slice a_w3 Nd k_w3]) rfl).cell2
          try dsimp only at c_quo_0 c_quo_1
          obtain ⟨c_y_0, c_y_1⟩ := (st200.box 8 (w2.heap.size + 1, [.int .i64 y_w2, .slice aa_w2 M_w2 kk_w2]) rfl).cell2
          try dsimp only at c_y_0 c_y_1
          have q_quo := st200.sl 7 ⟨true, w2.heap.size + 1 + 1, w3.heap.size, .slice a_w3 Nd k_w3, Nd, Gd⟩ rfl
          try dsimp only at q_quo
          have q_y := st200.sl 8 ⟨false, lo2_w2, hi2_w2, .slice aa_w2 M_w2 kk_w2, M_w2, h_w2⟩ rfl
          try dsimp only at q_y
          go_wp2_with fail
          refine (HM.out _ _ _ _ _ _ _ _ _ q_quo q_y).mono ?_
          rintro e w16 ⟨a_w16, k_w16, rfl, s_w16, b_w16⟩
          have hz_w16 := b_w16.size
          try simp only [World.size_alloc] at hz_w16
          have st216 := st200.keep b_w16
          have by216 := by200.below b_w16
          try simp only [World.size_alloc] at s_w16
          replace st216 := st216.addSl ⟨true, w200.heap.size, w16.heap.size, .slice a_w16 L_w2 k_w16, L_w2, PR⟩ s_w16
          replace st216 := (st216.alloc (.cells #[.int .i64 x_w2, .slice a_w16 L_w2 k_w16] 26)).addBox _ [.int .i64 x_w2, .slice a_w16 L_w2 k_w16] (Box.made _ _ _ _ (fun j v h => by simpa using h))
          replace by216 := by216.below ((Below.refl _ _).alloc (Nat.le_refl _) (.cells #[.int .i64 x_w2, .slice a_w16 L_w2 k_w16] 26))
          clear c_quo_0 c_quo_1 c_y_0 c_y_1 q_quo q_y st200 by200 b_w16 s_w16
          obtain ⟨c_back_0, c_back_1⟩ := (st216.box 0 (w16.heap.size, [.int .i64 x_w2, .slice a_w16 L_w2 k_w16]) rfl).cell2
          try dsimp only at c_back_0 c_back_1
          obtain ⟨c_x_0, c_x_1⟩ := (st216.box 10 (w2.heap.size, [.int .i64 x_w2, .slice a_w2 L_w2 k_w2]) rfl).cell2
          try dsimp only at c_x_0 c_x_1
          have q_back := st216.sl 0 ⟨true, w200.heap.size, w16.heap.size, .slice a_w16 L_w2 k_w16, L_w2, PR⟩ rfl
          try dsimp only at q_back
          have q_x := st216.sl 10 ⟨false, lo_w2, hi_w2, .slice a_w2 L_w2 k_w2, L_w2, g_w2⟩ rfl
          try dsimp only at q_x
          go_wp2_with fail
          refine (cyclo9_yes _ _ q_back q_x (fun j hj => HE.out j hj)).mono ?_
          rintro e w17 ⟨rfl, b_w17⟩
          have hz_w17 := b_w17.size
          try simp only [World.size_alloc] at hz_w17
          have st217 := st216.keep b_w17
          have by217 := by216.below b_w17
          clear c_back_0 c_back_1 c_x_0 c_x_1 q_back q_x st216 by216 b_w17
          have BBz := st217.1
          go_wp2
          go_ret
          exact ⟨rfl, BBz⟩

theorem own : ownKnob Try.prog.godebug = none := by kernel_rfl
theorem laidOut : laidOutB Try.prog = true := by kernel_rfl
set_option maxRecDepth 100000 in
theorem lifted (os : Os) (started : os.Started) (H : Type) (enc : TypeId × Value → H) :
    ReturnsInHanded {} Try.checked os 14 .any (Rows.fnDivisionSpec.pre6 enc Try.prog Try.f14 Rows.fnDivisionRow.domain false) (Rows.fnDivisionSpec.post enc Try.prog Try.f14 false true false false) := by
  refine returnsInHanded_of_change (C := Try.checked) own started (by kernel_rfl) Try.func14
    (ChangeSpec.witness6 (enc := enc) (C := Try.checked) false ⟨#[], #[.slice none 0 0], []⟩ 8 (by kernel_rfl) (by kernel_rfl) (by kernel_rfl) (by kernel_rfl)) ?_
  intro W base args ds gs before hval0 hW hcnd _
  have hval : ∀ (j : Nat) t v, Try.f14.params[j]? = some t → args[j]? = some v → Value.okWide Try.prog W .any base t v := hval0
  have hW' := hW
  obtain ⟨p, q, hA0, hV, rfl, hfz, hnd⟩ := hW
  have hA : DataW.TrodAll enc Try.prog W 0 (fun _ => true) true Try.f14.params.toList args.toList ds p := hA0
  rw [Try.params14] at hA hval
  obtain ⟨v0, vs0, d0, ds0, p0, q0, hargs, rfl, rfl, h0, r0⟩ := trodAll_cons hA
  obtain ⟨rfl, rfl, rfl⟩ := trodAll_nil r0
  obtain rfl : args = #[v0] := by cases args; simp_all
  obtain ⟨rfl, rfl⟩ := trodVars_none hV
  have k0 := h0
  have lt0 : ∀ x ∈ p0, x.block < W.heap.size := by obtain ⟨m, hm⟩ := k0; exact DataW.trod_lt m _ _ _ hm
  obtain ⟨p_0, n_0, q_0, rfl, s0⟩ : ∃ p n q, v0 = .slice p n q ∧ (n ≤ 4096 → Bytes W W.heap.size p n) := by
    obtain ⟨a, len, cap, rfl⟩ := okWide_slice Try.underlying58 (hval 0 58 v0 rfl rfl)
    obtain ⟨fuel, hf⟩ := h0
    exact Bytes.came Try.underlying58 Try.underlying5 (by kernel_rfl) (by simpa [Value.cells] using hf)
  clear hA0 hval0
  refine (walk W p_0 n_0 q_0 s0).mono fun e W' ⟨he, bel⟩ => ?_
  subst he
  exact ⟨_, rfl, _, _, _, [], _, [], hW', trodAll_mk1 (shut_bool Try.underlying4 _), (trodAll_cons_mk (Below.trod laidOut (by kernel_rfl) (of_decide_eq_true (by kernel_rfl)) k0 bel lt0) trodAll_mk0), rfl, bel.frame _, fun h => by cases h⟩

theorem over : Rows.fnDivisionRow.holds Try.pinned (OpenSpec.ofChange Rows.fnDivisionSpec) :=
  OpenClaim.holds_of_wide 14 Try.f14 rfl rfl rfl rfl rfl rfl rfl ⟨rfl, rfl, rfl, rfl, rfl⟩ rfl rfl rfl rfl rfl (by kernel_rfl) Try.func14 (by unfold joinedFacts; exact (and_tt (and_tt (and_tt (and_tt (and_tt (and_tt (and_tt (and_tt (and_tt (and_tt (and_tt (and_tt (and_tt (and_tt (and_tt (and_tt (and_tt (and_tt (and_tt (and_tt (and_tt (and_tt (and_tt (and_tt (and_tt (and_tt (and_tt (and_tt (and_tt (and_tt (and_tt (by kernel_rfl) (by kernel_rfl)) (by kernel_rfl)) (by kernel_rfl)) (by kernel_rfl)) (by kernel_rfl)) (by kernel_rfl)) (by kernel_rfl)) (by kernel_rfl)) (by kernel_rfl)) (by kernel_rfl)) (by kernel_rfl)) (by kernel_rfl)) (by kernel_rfl)) (by kernel_rfl)) (by kernel_rfl)) (by kernel_rfl)) (by kernel_rfl)) (by kernel_rfl)) (by kernel_rfl)) (by kernel_rfl)) (by kernel_rfl)) (by kernel_rfl)) (by kernel_rfl)) (by kernel_rfl)) init_enter) (tt_lifts init_lifts rfl)) (tt_make init_make rfl)) (by kernel_rfl)) (by kernel_rfl)) (by kernel_rfl)) (by kernel_rfl)))
    (of_decide_eq_true (by kernel_rfl)) (by unfold Func.isWrapper; first | (rw [if_pos (by decide +kernel)]; kernel_rfl) | (rw [if_neg (by decide +kernel)]; exact ⟨rfl, rfl⟩))
    (fun os started H enc _ => lifted os started H enc)

theorem proved : Rows.FnDivisionSaid := over
#print axioms proved
end fnDivision
end Go.Proofs.Ytloalhcloifgjaa
