/- Two elements: l10Like and l10Told of the model. -/
import Derived.Test.YtonopjbccdpbhaaRgV
namespace Go.Proofs.Ytonopjbccdpbhaa
open Go.RowKit Go.ChangeShapes Go.Sort
set_option linter.unusedVariables false
set_option linter.unusedSimpArgs false

set_option maxRecDepth 100000
set_option maxHeartbeats 2000000
theorem l10Is_yesI {o : Bool} {lo hi n : Nat} {v : Value} {f : Nat → Int} (x : Int) (w : World) (hs : Sl o w lo hi v n f) (h : RgP x n f) :
    Calls Try.prog 104 #[.agg #[.int .i64 x, v]] w fun e w' => e = .returned (.bool true) ∧ Below w.heap.size w w' := by
  obtain ⟨N, rfl⟩ := Int.eq_ofNat_of_zero_le (show 0 ≤ x by have := h.1; omega)
  exact l10Is_yes N w hs h
open Classical in
/-- The code of two numbers that have to have the same order. -/
noncomputable def ringC (x y : Int) (n m : Nat) (f g : Nat → Int) : Int := if ¬ RgP x n f ∨ ¬ RgP y m g then 1 else if x = y then 0 else 2
theorem ringC_ok {x y : Int} {n m : Nat} {f g : Nat → Int} (h : RgP x n f) (h' : RgP y m g) (e : x = y) : ringC x y n m f g = 0 := by
  unfold ringC
  rw [if_neg (by rintro (q | q) <;> contradiction), if_pos e]
theorem ringC_diff {x y : Int} {n m : Nat} {f g : Nat → Int} (h : RgP x n f) (h' : RgP y m g) (e : x ≠ y) : ringC x y n m f g = 2 := by
  unfold ringC
  rw [if_neg (by rintro (q | q) <;> contradiction), if_neg e]
theorem ringC_bad {x y : Int} {n m : Nat} {f g : Nat → Int} (h : ¬ RgP x n f ∨ ¬ RgP y m g) : ringC x y n m f g = 1 := by
  unfold ringC
  rw [if_pos h]
theorem ringC_zero {x y : Int} {n m : Nat} {f g : Nat → Int} (h : ringC x y n m f g = 0) : RgP x n f ∧ RgP y m g ∧ x = y := by
  by_cases h1 : RgP x n f
  · by_cases h2 : RgP y m g
    · by_cases e : x = y
      · exact ⟨h1, h2, e⟩
      · rw [ringC_diff h1 h2 e] at h; omega
    · rw [ringC_bad (.inr h2)] at h; omega
  · rw [ringC_bad (.inl h1)] at h; omega

section
variable {o o' : Bool} {lo hi lo' hi' n m : Nat} {v v' : Value} {f g : Nat → Int}
theorem l10Like_bad1 (x y : Int) (w : World) (hs : Sl o w lo hi v n f) (ht : Sl o' w lo' hi' v' m g) (h : ¬ RgP x n f) :
    Calls Try.prog 99 #[.agg #[.int .i64 x, v], .agg #[.int .i64 y, v']] w fun e w' => e = .returned (.int .i64 1) ∧ Below w.heap.size w w' := by
  obtain ⟨a, cap, rfl⟩ := hs.shape
  obtain ⟨a', cap', rfl⟩ := ht.shape
  have st0 := (((((St.start w).addSl ⟨o, lo, hi, .slice a n cap, n, f⟩ hs).addSl ⟨o', lo', hi', .slice a' m cap', m, g⟩ ht).alloc (.cells #[.int .i64 x, .slice a n cap] 26)).addBox w.heap.size [.int .i64 x, .slice a n cap] (Box.made _ _ _ _ (fun j v h => by simpa using h)))
  replace st0 := (st0.alloc (.cells #[.int .i64 y, .slice a' m cap'] 26)).addBox _ [.int .i64 y, .slice a' m cap'] (Box.made _ _ _ _ (fun j v h => by simpa using h))
  simp only [World.size_alloc] at st0
  clear hs ht
  have q0 := st0.sl 1 ⟨o, lo, hi, .slice a n cap, n, f⟩ rfl
  dsimp only at q0
  have HC := Lib.hid h
  clear h
  go_enter Try.func99, Try.ntmps99
  go_wp2_with fail
  refine (l10Is_no _ _ q0 HC.out).mono ?_
  rintro e w1 ⟨rfl, b1⟩
  clear q0
  have st1 := st0.keep b1
  have hz_w1 := b1.size
  try simp only [World.size_alloc] at hz_w1
  clear st0 b1
  have BB := st1.1
  go_wp2
  go_ret
  exact ⟨rfl, BB⟩

theorem l10Like_bad2 (x y : Int) (w : World) (hs : Sl o w lo hi v n f) (ht : Sl o' w lo' hi' v' m g) (h : RgP x n f) (h' : ¬ RgP y m g) :
    Calls Try.prog 99 #[.agg #[.int .i64 x, v], .agg #[.int .i64 y, v']] w fun e w' => e = .returned (.int .i64 1) ∧ Below w.heap.size w w' := by
  obtain ⟨a, cap, rfl⟩ := hs.shape
  obtain ⟨a', cap', rfl⟩ := ht.shape
  have st0 := (((((St.start w).addSl ⟨o, lo, hi, .slice a n cap, n, f⟩ hs).addSl ⟨o', lo', hi', .slice a' m cap', m, g⟩ ht).alloc (.cells #[.int .i64 x, .slice a n cap] 26)).addBox w.heap.size [.int .i64 x, .slice a n cap] (Box.made _ _ _ _ (fun j v h => by simpa using h)))
  replace st0 := (st0.alloc (.cells #[.int .i64 y, .slice a' m cap'] 26)).addBox _ [.int .i64 y, .slice a' m cap'] (Box.made _ _ _ _ (fun j v h => by simpa using h))
  simp only [World.size_alloc] at st0
  clear hs ht
  have q0 := st0.sl 1 ⟨o, lo, hi, .slice a n cap, n, f⟩ rfl
  dsimp only at q0
  have HC := Lib.hid h
  clear h
  have HC' := Lib.hid h'
  clear h'
  obtain ⟨d0, d1⟩ := (st0.box 0 (w.heap.size + 1, [.int .i64 y, .slice a' m cap']) rfl).cell2
  go_enter Try.func99, Try.ntmps99
  go_wp2_with fail
  refine (l10Is_yesI _ _ q0 HC.out).mono ?_
  rintro e w1 ⟨rfl, b1⟩
  clear q0 d0 d1
  have st1 := st0.keep b1
  have hz_w1 := b1.size
  try simp only [World.size_alloc] at hz_w1
  clear st0 b1
  have q1 := st1.sl 0 ⟨o', lo', hi', .slice a' m cap', m, g⟩ rfl
  dsimp only at q1
  obtain ⟨d0, d1⟩ := (st1.box 0 (w.heap.size + 1, [.int .i64 y, .slice a' m cap']) rfl).cell2
  go_wp2_with fail
  refine (l10Is_no _ _ q1 HC'.out).mono ?_
  rintro e w2 ⟨rfl, b2⟩
  clear q1 d0 d1
  have st2 := st1.keep b2
  have hz_w2 := b2.size
  try simp only [World.size_alloc] at hz_w2
  clear st1 b2
  have BB := st2.1
  go_wp2
  go_ret
  exact ⟨rfl, BB⟩

theorem l10Like_diff (x y : Int) (w : World) (hs : Sl o w lo hi v n f) (ht : Sl o' w lo' hi' v' m g) (h : RgP x n f) (h' : RgP y m g) (hxy : x ≠ y) :
    Calls Try.prog 99 #[.agg #[.int .i64 x, v], .agg #[.int .i64 y, v']] w fun e w' => e = .returned (.int .i64 2) ∧ Below w.heap.size w w' := by
  obtain ⟨a, cap, rfl⟩ := hs.shape
  obtain ⟨a', cap', rfl⟩ := ht.shape
  have st0 := (((((St.start w).addSl ⟨o, lo, hi, .slice a n cap, n, f⟩ hs).addSl ⟨o', lo', hi', .slice a' m cap', m, g⟩ ht).alloc (.cells #[.int .i64 x, .slice a n cap] 26)).addBox w.heap.size [.int .i64 x, .slice a n cap] (Box.made _ _ _ _ (fun j v h => by simpa using h)))
  replace st0 := (st0.alloc (.cells #[.int .i64 y, .slice a' m cap'] 26)).addBox _ [.int .i64 y, .slice a' m cap'] (Box.made _ _ _ _ (fun j v h => by simpa using h))
  simp only [World.size_alloc] at st0
  clear hs ht
  have q0 := st0.sl 1 ⟨o, lo, hi, .slice a n cap, n, f⟩ rfl
  dsimp only at q0
  have HC := Lib.hid h
  clear h
  have HC' := Lib.hid h'
  clear h'
  go_enter Try.func99, Try.ntmps99
  go_wp2_with fail
  refine (l10Is_yesI _ _ q0 HC.out).mono ?_
  rintro e w1 ⟨rfl, b1⟩
  clear q0
  have st1 := st0.keep b1
  have hz_w1 := b1.size
  try simp only [World.size_alloc] at hz_w1
  clear st0 b1
  have q1 := st1.sl 0 ⟨o', lo', hi', .slice a' m cap', m, g⟩ rfl
  dsimp only at q1
  obtain ⟨d0, d1⟩ := (st1.box 0 (w.heap.size + 1, [.int .i64 y, .slice a' m cap']) rfl).cell2
  go_wp2_with fail
  refine (l10Is_yesI _ _ q1 HC'.out).mono ?_
  rintro e w2 ⟨rfl, b2⟩
  clear q1 d0 d1
  have st2 := st1.keep b2
  have hz_w2 := b2.size
  try simp only [World.size_alloc] at hz_w2
  clear st1 b2
  obtain ⟨c0, c1⟩ := (st2.box 1 (w.heap.size, [.int .i64 x, .slice a n cap]) rfl).cell2
  obtain ⟨d0, d1⟩ := (st2.box 0 (w.heap.size + 1, [.int .i64 y, .slice a' m cap']) rfl).cell2
  have BB := st2.1
  go_wp2
  go_ret
  exact ⟨rfl, BB⟩

theorem l10Like_ok (x : Int) (w : World) (hs : Sl o w lo hi v n f) (ht : Sl o' w lo' hi' v' m g) (h : RgP x n f) (h' : RgP x m g) :
    Calls Try.prog 99 #[.agg #[.int .i64 x, v], .agg #[.int .i64 x, v']] w fun e w' => e = .returned (.int .i64 0) ∧ Below w.heap.size w w' := by
  obtain ⟨a, cap, rfl⟩ := hs.shape
  obtain ⟨a', cap', rfl⟩ := ht.shape
  have st0 := (((((St.start w).addSl ⟨o, lo, hi, .slice a n cap, n, f⟩ hs).addSl ⟨o', lo', hi', .slice a' m cap', m, g⟩ ht).alloc (.cells #[.int .i64 x, .slice a n cap] 26)).addBox w.heap.size [.int .i64 x, .slice a n cap] (Box.made _ _ _ _ (fun j v h => by simpa using h)))
  replace st0 := (st0.alloc (.cells #[.int .i64 x, .slice a' m cap'] 26)).addBox _ [.int .i64 x, .slice a' m cap'] (Box.made _ _ _ _ (fun j v h => by simpa using h))
  simp only [World.size_alloc] at st0
  clear hs ht
  have q0 := st0.sl 1 ⟨o, lo, hi, .slice a n cap, n, f⟩ rfl
  dsimp only at q0
  have HC := Lib.hid h
  clear h
  have HC' := Lib.hid h'
  clear h'
  go_enter Try.func99, Try.ntmps99
  go_wp2_with fail
  refine (l10Is_yesI _ _ q0 HC.out).mono ?_
  rintro e w1 ⟨rfl, b1⟩
  clear q0
  have st1 := st0.keep b1
  have hz_w1 := b1.size
  try simp only [World.size_alloc] at hz_w1
  clear st0 b1
  have q1 := st1.sl 0 ⟨o', lo', hi', .slice a' m cap', m, g⟩ rfl
  dsimp only at q1
  obtain ⟨d0, d1⟩ := (st1.box 0 (w.heap.size + 1, [.int .i64 x, .slice a' m cap']) rfl).cell2
  go_wp2_with fail
  refine (l10Is_yesI _ _ q1 HC'.out).mono ?_
  rintro e w2 ⟨rfl, b2⟩
  clear q1 d0 d1
  have st2 := st1.keep b2
  have hz_w2 := b2.size
  try simp only [World.size_alloc] at hz_w2
  clear st1 b2
  obtain ⟨c0, c1⟩ := (st2.box 1 (w.heap.size, [.int .i64 x, .slice a n cap]) rfl).cell2
  obtain ⟨d0, d1⟩ := (st2.box 0 (w.heap.size + 1, [.int .i64 x, .slice a' m cap']) rfl).cell2
  have BB := st2.1
  go_wp2
  go_ret
  exact ⟨rfl, BB⟩

theorem l10Like_any (x y : Int) (w : World) (hs : Sl o w lo hi v n f) (ht : Sl o' w lo' hi' v' m g) :
    Calls Try.prog 99 #[.agg #[.int .i64 x, v], .agg #[.int .i64 y, v']] w fun e w' => e = .returned (.int .i64 (ringC x y n m f g)) ∧ Below w.heap.size w w' := by
  by_cases h : RgP x n f
  · by_cases h' : RgP y m g
    · by_cases e : x = y
      · subst e
        rw [ringC_ok h h' rfl]; exact l10Like_ok x w hs ht h h'
      · rw [ringC_diff h h' e]; exact l10Like_diff x y w hs ht h h' e
    · rw [ringC_bad (.inr h')]; exact l10Like_bad2 x y w hs ht h h'
  · rw [ringC_bad (.inl h)]; exact l10Like_bad1 x y w hs ht h

theorem l10Told_ok (x : Int) (w : World) (hs : Sl o w lo hi v n f) (h : Within f n 1000000000) :
    Calls Try.prog 101 #[.agg #[.int .i64 x, v]] w fun e w' => e = .returned (.tuple #[.agg #[.int .i64 x, v], .int .i64 0]) ∧ Below w.heap.size w w' := by
  have hm := hs.len
  unfold maxLen at hm
  obtain ⟨a, cap, rfl⟩ := hs.shape
  have hhs := hs.size
  have st := (St.start w).addSl ⟨o, lo, hi, .slice a n cap, n, f⟩ hs
  have H := Lib.hid h
  clear h hs
  go_enter Try.func101, Try.ntmps101
  go_wp2_with (first
    | (refine wpList_boxR rfl _ rfl (v0 := .int .i64 x) (v1 := .slice a n cap) rfl ?_; intro w1 x1 b1 z1
       replace st := (st.keep b1).addBox _ _ x1
       have Z1 := Lib.hid z1
       clear x1 b1 z1)
    | ((fail_if_success (have _g := Z2)); refine wpList_allocR rfl rfl ?_; intro w2 x2 b2 z2
       replace st := (st.keep b2).addBox _ _ x2
       have Z2 := Lib.hid z2
       obtain ⟨c0, c1⟩ := (st.box 1 (w.heap.size, [.int .i64 x, .slice a n cap]) rfl).cell2
       clear x2 b2 z2)
    | (go_at_call 168; refine (l10Fits_yes x _ (st.sl 0 ⟨o, lo, hi, .slice a n cap, n, f⟩ rfl) H.out).mono ?_; rintro e w3 ⟨rfl, b3⟩
       replace st := st.keep b3
       have BR := st.box 0 (w1.heap.size, [.int .i64 0, .slice none 0 0]) rfl
       dsimp only at BR
       clear b3 c0 c1
       obtain ⟨c0, c1⟩ := (st.box 1 (w.heap.size, [.int .i64 x, .slice a n cap]) rfl).cell2)
    | (refine wpList_storeR rfl _ _ rfl w1.heap.size rfl (v0 := .int .i64 x) (v1 := .slice a n cap) rfl rfl rfl BR ?_; intro w9 x9 f9
       obtain ⟨d0, d1⟩ := x9.cell2))
  refine bodyPost_ret (v := .tuple #[.agg #[.int .i64 x, .slice a n cap], .int .i64 0]) (by simp [results, Try.results101, go_sem, d0, d1]) rfl ⟨rfl, ?_⟩
  exact st.1.trans (f9.below (by have := Z1.out; omega) st.1.size)
theorem l10Told_big (x : Int) (w : World) (hs : Sl o w lo hi v n f) (h : ¬ Within f n 1000000000) :
    Calls Try.prog 101 #[.agg #[.int .i64 x, v]] w fun e w' => e = .returned (.tuple #[.agg #[.int .i64 0, .slice none 0 0], .int .i64 3]) ∧ Below w.heap.size w w' := by
  have hm := hs.len
  unfold maxLen at hm
  obtain ⟨a, cap, rfl⟩ := hs.shape
  have hhs := hs.size
  have st := (St.start w).addSl ⟨o, lo, hi, .slice a n cap, n, f⟩ hs
  have H := Lib.hid h
  clear h hs
  go_enter Try.func101, Try.ntmps101
  go_wp2_with (first
    | (refine wpList_boxR rfl _ rfl (v0 := .int .i64 x) (v1 := .slice a n cap) rfl ?_; intro w1 x1 b1 z1
       replace st := (st.keep b1).addBox _ _ x1
       have Z1 := Lib.hid z1
       clear x1 b1 z1)
    | ((fail_if_success (have _g := Z2)); refine wpList_allocR rfl rfl ?_; intro w2 x2 b2 z2
       replace st := (st.keep b2).addBox _ _ x2
       have Z2 := Lib.hid z2
       obtain ⟨c0, c1⟩ := (st.box 1 (w.heap.size, [.int .i64 x, .slice a n cap]) rfl).cell2
       clear x2 b2 z2)
    | (go_at_call 168; refine (l10Fits_no x _ (st.sl 0 ⟨o, lo, hi, .slice a n cap, n, f⟩ rfl) H.out).mono ?_; rintro e w3 ⟨rfl, b3⟩
       replace st := st.keep b3
       have BR := st.box 0 (w1.heap.size, [.int .i64 0, .slice none 0 0]) rfl
       dsimp only at BR
       clear b3 c0 c1
       obtain ⟨c0, c1⟩ := (st.box 1 (w.heap.size, [.int .i64 x, .slice a n cap]) rfl).cell2)
    | (refine wpList_storeR rfl _ _ rfl w1.heap.size rfl (v0 := .int .i64 0) (v1 := .slice none 0 0) rfl rfl rfl BR ?_; intro w9 x9 f9
       obtain ⟨d0, d1⟩ := x9.cell2))
  refine bodyPost_ret (v := .tuple #[.agg #[.int .i64 0, .slice none 0 0], .int .i64 3]) (by simp [results, Try.results101, go_sem, d0, d1]) rfl ⟨rfl, ?_⟩
  exact st.1.trans (f9.below (by have := Z1.out; omega) st.1.size)
end
end Go.Proofs.Ytonopjbccdpbhaa
