/- Two numbers: pairCode of the program, l01Like of the model. -/
import Derived.Test.YthookppmclimkaaDoorReal
namespace Go.Proofs.YthookppmclimkaaDoor
open Go.RowKit Go.ChangeShapes Go.Sort
set_option linter.unusedVariables false
set_option linter.unusedSimpArgs false

open Classical in
/-- The code of two numbers that have to have the same order. -/
noncomputable def pairC (x y : Int) (n m : Nat) (f g : Nat → Int) : Int := if ¬ CyP x n f ∨ ¬ CyP y m g then 1 else if x = y then 0 else 2
theorem pairC_ok {x y : Int} {n m : Nat} {f g : Nat → Int} (h : CyP x n f) (h' : CyP y m g) (e : x = y) : pairC x y n m f g = 0 := by
  unfold pairC
  rw [if_neg (by rintro (q | q) <;> contradiction), if_pos e]
theorem pairC_diff {x y : Int} {n m : Nat} {f g : Nat → Int} (h : CyP x n f) (h' : CyP y m g) (e : x ≠ y) : pairC x y n m f g = 2 := by
  unfold pairC
  rw [if_neg (by rintro (q | q) <;> contradiction), if_neg e]
theorem pairC_bad {x y : Int} {n m : Nat} {f g : Nat → Int} (h : ¬ CyP x n f ∨ ¬ CyP y m g) : pairC x y n m f g = 1 := by
  unfold pairC
  rw [if_pos h]
theorem pairC_zero {x y : Int} {n m : Nat} {f g : Nat → Int} (h : pairC x y n m f g = 0) : CyP x n f ∧ CyP y m g ∧ x = y := by
  by_cases h1 : CyP x n f
  · by_cases h2 : CyP y m g
    · by_cases e : x = y
      · exact ⟨h1, h2, e⟩
      · rw [pairC_diff h1 h2 e] at h; omega
    · rw [pairC_bad (.inr h2)] at h; omega
  · rw [pairC_bad (.inl h1)] at h; omega

section
variable {o o' : Bool} {lo hi lo' hi' n m : Nat} {v v' : Value} {f g : Nat → Int}
theorem pairCode_bad1 (x y : Int) (w : World) (hs : Sl o w lo hi v n f) (ht : Sl o' w lo' hi' v' m g) (h : ¬ CyP x n f) :
    Calls Tryd.prog 36 #[.agg #[.int .i64 x, v], .agg #[.int .i64 y, v']] w fun e w' => e = .returned (.int .i64 1) ∧ Below w.heap.size w w' := by
  obtain ⟨a, cap, rfl⟩ := hs.shape
  obtain ⟨a', cap', rfl⟩ := ht.shape
  have st0 := (((((St.start w).addSl ⟨o, lo, hi, .slice a n cap, n, f⟩ hs).addSl ⟨o', lo', hi', .slice a' m cap', m, g⟩ ht).alloc (.cells #[.int .i64 x, .slice a n cap] 26)).addBox w.heap.size [.int .i64 x, .slice a n cap] (Box.made _ _ _ _ (fun j v h => by simpa using h)))
  replace st0 := (st0.alloc (.cells #[.int .i64 y, .slice a' m cap'] 26)).addBox _ [.int .i64 y, .slice a' m cap'] (Box.made _ _ _ _ (fun j v h => by simpa using h))
  simp only [World.size_alloc] at st0
  clear hs ht
  have q0 := st0.sl 1 ⟨o, lo, hi, .slice a n cap, n, f⟩ rfl
  dsimp only at q0
  have HC := Lib.hid h
  clear h
  go_enter Tryd.func36, Tryd.ntmps36
  go_wp2_with fail
  refine (IsCyclo_no _ _ q0 HC.out).mono ?_
  rintro e w1 ⟨rfl, b1⟩
  clear q0
  have st1 := st0.keep b1
  have hz_w1 := b1.size
  try simp only [World.size_alloc] at hz_w1
  clear st0 b1
  have BB := st1.1
  go_wp2
  go_ret
  exact ⟨rfl, BB⟩

theorem pairCode_bad2 (x y : Int) (w : World) (hs : Sl o w lo hi v n f) (ht : Sl o' w lo' hi' v' m g) (h : CyP x n f) (h' : ¬ CyP y m g) :
    Calls Tryd.prog 36 #[.agg #[.int .i64 x, v], .agg #[.int .i64 y, v']] w fun e w' => e = .returned (.int .i64 1) ∧ Below w.heap.size w w' := by
  obtain ⟨a, cap, rfl⟩ := hs.shape
  obtain ⟨a', cap', rfl⟩ := ht.shape
  have st0 := (((((St.start w).addSl ⟨o, lo, hi, .slice a n cap, n, f⟩ hs).addSl ⟨o', lo', hi', .slice a' m cap', m, g⟩ ht).alloc (.cells #[.int .i64 x, .slice a n cap] 26)).addBox w.heap.size [.int .i64 x, .slice a n cap] (Box.made _ _ _ _ (fun j v h => by simpa using h)))
  replace st0 := (st0.alloc (.cells #[.int .i64 y, .slice a' m cap'] 26)).addBox _ [.int .i64 y, .slice a' m cap'] (Box.made _ _ _ _ (fun j v h => by simpa using h))
  simp only [World.size_alloc] at st0
  clear hs ht
  have q0 := st0.sl 1 ⟨o, lo, hi, .slice a n cap, n, f⟩ rfl
  dsimp only at q0
  have HC := Lib.hid h
  clear h
  have HC' := Lib.hid h'
  clear h'
  obtain ⟨d0, d1⟩ := (st0.box 0 (w.heap.size + 1, [.int .i64 y, .slice a' m cap']) rfl).cell2
  go_enter Tryd.func36, Tryd.ntmps36
  go_wp2_with fail
  refine (IsCyclo_yes _ _ q0 HC.out).mono ?_
  rintro e w1 ⟨rfl, b1⟩
  clear q0 d0 d1
  have st1 := st0.keep b1
  have hz_w1 := b1.size
  try simp only [World.size_alloc] at hz_w1
  clear st0 b1
  have q1 := st1.sl 0 ⟨o', lo', hi', .slice a' m cap', m, g⟩ rfl
  dsimp only at q1
  obtain ⟨d0, d1⟩ := (st1.box 0 (w.heap.size + 1, [.int .i64 y, .slice a' m cap']) rfl).cell2
  go_wp2_with fail
  refine (IsCyclo_no _ _ q1 HC'.out).mono ?_
  rintro e w2 ⟨rfl, b2⟩
  clear q1 d0 d1
  have st2 := st1.keep b2
  have hz_w2 := b2.size
  try simp only [World.size_alloc] at hz_w2
  clear st1 b2
  have BB := st2.1
  go_wp2
  go_ret
  exact ⟨rfl, BB⟩

theorem pairCode_diff (x y : Int) (w : World) (hs : Sl o w lo hi v n f) (ht : Sl o' w lo' hi' v' m g) (h : CyP x n f) (h' : CyP y m g) (hxy : x ≠ y) :
    Calls Tryd.prog 36 #[.agg #[.int .i64 x, v], .agg #[.int .i64 y, v']] w fun e w' => e = .returned (.int .i64 2) ∧ Below w.heap.size w w' := by
  obtain ⟨a, cap, rfl⟩ := hs.shape
  obtain ⟨a', cap', rfl⟩ := ht.shape
  have st0 := (((((St.start w).addSl ⟨o, lo, hi, .slice a n cap, n, f⟩ hs).addSl ⟨o', lo', hi', .slice a' m cap', m, g⟩ ht).alloc (.cells #[.int .i64 x, .slice a n cap] 26)).addBox w.heap.size [.int .i64 x, .slice a n cap] (Box.made _ _ _ _ (fun j v h => by simpa using h)))
  replace st0 := (st0.alloc (.cells #[.int .i64 y, .slice a' m cap'] 26)).addBox _ [.int .i64 y, .slice a' m cap'] (Box.made _ _ _ _ (fun j v h => by simpa using h))
  simp only [World.size_alloc] at st0
  clear hs ht
  have q0 := st0.sl 1 ⟨o, lo, hi, .slice a n cap, n, f⟩ rfl
  dsimp only at q0
  have HC := Lib.hid h
  clear h
  have HC' := Lib.hid h'
  clear h'
  go_enter Tryd.func36, Tryd.ntmps36
  go_wp2_with fail
  refine (IsCyclo_yes _ _ q0 HC.out).mono ?_
  rintro e w1 ⟨rfl, b1⟩
  clear q0
  have st1 := st0.keep b1
  have hz_w1 := b1.size
  try simp only [World.size_alloc] at hz_w1
  clear st0 b1
  have q1 := st1.sl 0 ⟨o', lo', hi', .slice a' m cap', m, g⟩ rfl
  dsimp only at q1
  obtain ⟨d0, d1⟩ := (st1.box 0 (w.heap.size + 1, [.int .i64 y, .slice a' m cap']) rfl).cell2
  go_wp2_with fail
  refine (IsCyclo_yes _ _ q1 HC'.out).mono ?_
  rintro e w2 ⟨rfl, b2⟩
  clear q1 d0 d1
  have st2 := st1.keep b2
  have hz_w2 := b2.size
  try simp only [World.size_alloc] at hz_w2
  clear st1 b2
  obtain ⟨c0, c1⟩ := (st2.box 1 (w.heap.size, [.int .i64 x, .slice a n cap]) rfl).cell2
  obtain ⟨d0, d1⟩ := (st2.box 0 (w.heap.size + 1, [.int .i64 y, .slice a' m cap']) rfl).cell2
  have BB := st2.1
  go_wp2
  go_ret
  exact ⟨rfl, BB⟩

theorem pairCode_ok (x : Int) (w : World) (hs : Sl o w lo hi v n f) (ht : Sl o' w lo' hi' v' m g) (h : CyP x n f) (h' : CyP x m g) :
    Calls Tryd.prog 36 #[.agg #[.int .i64 x, v], .agg #[.int .i64 x, v']] w fun e w' => e = .returned (.int .i64 0) ∧ Below w.heap.size w w' := by
  obtain ⟨a, cap, rfl⟩ := hs.shape
  obtain ⟨a', cap', rfl⟩ := ht.shape
  have st0 := (((((St.start w).addSl ⟨o, lo, hi, .slice a n cap, n, f⟩ hs).addSl ⟨o', lo', hi', .slice a' m cap', m, g⟩ ht).alloc (.cells #[.int .i64 x, .slice a n cap] 26)).addBox w.heap.size [.int .i64 x, .slice a n cap] (Box.made _ _ _ _ (fun j v h => by simpa using h)))
  replace st0 := (st0.alloc (.cells #[.int .i64 x, .slice a' m cap'] 26)).addBox _ [.int .i64 x, .slice a' m cap'] (Box.made _ _ _ _ (fun j v h => by simpa using h))
  simp only [World.size_alloc] at st0
  clear hs ht
  have q0 := st0.sl 1 ⟨o, lo, hi, .slice a n cap, n, f⟩ rfl
  dsimp only at q0
  have HC := Lib.hid h
  clear h
  have HC' := Lib.hid h'
  clear h'
  go_enter Tryd.func36, Tryd.ntmps36
  go_wp2_with fail
  refine (IsCyclo_yes _ _ q0 HC.out).mono ?_
  rintro e w1 ⟨rfl, b1⟩
  clear q0
  have st1 := st0.keep b1
  have hz_w1 := b1.size
  try simp only [World.size_alloc] at hz_w1
  clear st0 b1
  have q1 := st1.sl 0 ⟨o', lo', hi', .slice a' m cap', m, g⟩ rfl
  dsimp only at q1
  obtain ⟨d0, d1⟩ := (st1.box 0 (w.heap.size + 1, [.int .i64 x, .slice a' m cap']) rfl).cell2
  go_wp2_with fail
  refine (IsCyclo_yes _ _ q1 HC'.out).mono ?_
  rintro e w2 ⟨rfl, b2⟩
  clear q1 d0 d1
  have st2 := st1.keep b2
  have hz_w2 := b2.size
  try simp only [World.size_alloc] at hz_w2
  clear st1 b2
  obtain ⟨c0, c1⟩ := (st2.box 1 (w.heap.size, [.int .i64 x, .slice a n cap]) rfl).cell2
  obtain ⟨d0, d1⟩ := (st2.box 0 (w.heap.size + 1, [.int .i64 x, .slice a' m cap']) rfl).cell2
  have BB := st2.1
  go_wp2
  go_ret
  exact ⟨rfl, BB⟩

theorem pairCode_any (x y : Int) (w : World) (hs : Sl o w lo hi v n f) (ht : Sl o' w lo' hi' v' m g) :
    Calls Tryd.prog 36 #[.agg #[.int .i64 x, v], .agg #[.int .i64 y, v']] w fun e w' => e = .returned (.int .i64 (pairC x y n m f g)) ∧ Below w.heap.size w w' := by
  by_cases h : CyP x n f
  · by_cases h' : CyP y m g
    · by_cases e : x = y
      · subst e
        rw [pairC_ok h h' rfl]; exact pairCode_ok x w hs ht h h'
      · rw [pairC_diff h h' e]; exact pairCode_diff x y w hs ht h h' e
    · rw [pairC_bad (.inr h')]; exact pairCode_bad2 x y w hs ht h h'
  · rw [pairC_bad (.inl h)]; exact pairCode_bad1 x y w hs ht h

end
end Go.Proofs.YthookppmclimkaaDoor
