/- FindImage of the program and of the model. -/
import Derived.Test.YtmmcbkikcceenaaIndex
import Derived.Deep.RegionLaw
namespace Go.Proofs.Ytmmcbkikcceenaa
open Go.RowKit Go.ChangeShapes Go.Sort
set_option linter.unusedVariables false
set_option linter.unusedSimpArgs false

/-- Whether the image at the place k is y. -/
def sameI (n : Nat) (f g : Nat → Int) (k : Nat) : Bool := eqB (phiN n) (im n (phiN n) f k) g
theorem sameI_arr (n : Nat) (f g : Nat → Int) (k : Nat) (hp : phiN n ≤ 12) : eqB 12 (cut (phiN n) g) (imA n (phiN n) f k) = sameI n f g k := by
  unfold sameI imA
  rw [Bool.eq_iff_iff, eqB_iff, eqB_iff]
  constructor
  · intro h j hj
    have := h j (by omega)
    unfold cut at this
    rw [if_pos hj, if_pos hj] at this
    exact this.symm
  · intro h j hj
    unfold cut
    split
    · exact (h j (by assumption)).symm
    · rfl
theorem index_yes (w : World) {base g cap m : Nat} (G : Nat → Nat → Int) (V : Nat → Int) (hR : RowE w base 65 12 g cap m (fun k => arrL (G k))) (hm : m ≤ 12) (k : Nat) (hk : k < m) (h1 : eqB 12 V (G k) = true) (h2 : ∀ i, i < k → eqB 12 V (G i) = false) :
    Calls Try.prog 130 #[.slice (some ⟨g, 0, none⟩) m cap, arrV V] w fun e w' => e = .returned (.int .i64 (k : Int)) ∧ Below w.heap.size w w' :=
  (index_any w G V hR hm).mono fun e w' ⟨h, b⟩ => by
    rcases h with ⟨i, hi, he, hy, hn⟩ | ⟨he, hn⟩
    · have : i = k := by
        rcases Nat.lt_trichotomy i k with h | h | h
        · rw [h2 i h] at hy; cases hy
        · exact h
        · rw [hn k h] at h1; cases h1
      subst this
      exact ⟨he, b⟩
    · rw [hn k hk] at h1; cases h1
theorem index_no (w : World) {base g cap m : Nat} (G : Nat → Nat → Int) (V : Nat → Int) (hR : RowE w base 65 12 g cap m (fun k => arrL (G k))) (hm : m ≤ 12) (h2 : ∀ i, i < m → eqB 12 V (G i) = false) :
    Calls Try.prog 130 #[.slice (some ⟨g, 0, none⟩) m cap, arrV V] w fun e w' => e = .returned (.int .i64 (-1)) ∧ Below w.heap.size w w' :=
  (index_any w G V hR hm).mono fun e w' ⟨h, b⟩ => by
    rcases h with ⟨i, hi, he, hy, hn⟩ | ⟨he, hn⟩
    · rw [h2 i hi] at hy; cases hy
    · exact ⟨he, b⟩
section
variable {o o' : Bool} {lo hi lo' hi' : Nat} {v v' : Value} {f g : Nat → Int}
theorem FindImage_impl_bad {n m : Nat} (x y c : Int) (w : World) (hs : Sl o w lo hi v n f) (ht : Sl o' w lo' hi' v' m g) (hc : pairC x y n m f g = c) (hc0 : c ≠ 0) :
    Calls Try.prog 63 #[.agg #[.int .i64 x, v], .agg #[.int .i64 y, v']] w fun e w' => e = .returned (.tuple #[.int .i64 0, .int .i64 c]) ∧ Below w.heap.size w w' := by
  have HC := Lib.hid hc
  clear hc
  have hb : (c != 0) = true := by simpa using hc0
  have hb' : (c == 0) = false := by simpa using hc0
  obtain ⟨a, cap, rfl⟩ := hs.shape
  obtain ⟨a', cap', rfl⟩ := ht.shape
  have hhs := hs.size
  have hht := ht.size
  have st0 := (((((St.start w).addSl ⟨o, lo, hi, .slice a n cap, n, f⟩ hs).addSl ⟨o', lo', hi', .slice a' m cap', m, g⟩ ht).alloc (.cells #[.int .i64 x, .slice a n cap] 26)).addBox w.heap.size [.int .i64 x, .slice a n cap] (Box.made _ _ _ _ (fun j v h => by simpa using h)))
  replace st0 := (st0.alloc (.cells #[.int .i64 y, .slice a' m cap'] 26)).addBox _ [.int .i64 y, .slice a' m cap'] (Box.made _ _ _ _ (fun j v h => by simpa using h))
  simp only [World.size_alloc] at st0
  have q0 := st0.sl 1 ⟨o, lo, hi, .slice a n cap, n, f⟩ rfl
  have q1 := st0.sl 0 ⟨o', lo', hi', .slice a' m cap', m, g⟩ rfl
  dsimp only at q0 q1
  obtain ⟨x0, x1⟩ := (st0.box 1 (w.heap.size, [.int .i64 x, .slice a n cap]) rfl).cell2
  obtain ⟨y0, y1⟩ := (st0.box 0 (w.heap.size + 1, [.int .i64 y, .slice a' m cap']) rfl).cell2
  clear hs ht
  go_enter Try.func63, Try.ntmps63
  go_wp2_with fail
  refine (pairCode_any _ _ _ q0 q1).mono ?_
  rw [HC.out]
  rintro e w1 ⟨rfl, b1⟩
  clear q0 q1 x0 x1 y0 y1
  have st1 := st0.keep b1
  clear st0 b1
  have BB := st1.1
  clear st1
  go_wp2
  go_ret2
  exact ⟨rfl, BB⟩

set_option maxRecDepth 100000 in
set_option maxHeartbeats 4000000 in
theorem FindImage_impl_yes (n : Nat) (w : World) (hs : Sl o w lo hi v (phiN n) f) (ht : Sl o' w lo' hi' v' (phiN n) g) (h : CyP n (phiN n) f) (h' : CyP n (phiN n) g) (k : Nat) (hk : k < phiN n) (hy : sameI n f g k = true) (hno : ∀ i, i < k → sameI n f g i = false) :
    Calls Try.prog 63 #[.agg #[.int .i64 (n : Int), v], .agg #[.int .i64 (n : Int), v']] w fun e w' => e = .returned (.tuple #[.int .i64 (res n k : Int), .int .i64 0]) ∧ Below w.heap.size w w' := by
  have hn1 : 1 ≤ n := by have := h.1; omega
  have hn2 : n ≤ 16 := by have := h.2.1; omega
  have hp := phi_le12 n hn2 hn1
  have hp0 := phiN_pos n (by omega) hn1
  have HC := Lib.hid (pairC_ok h h' rfl)
  have HNO := Lib.hid hno
  have HY := Lib.hid hy
  clear hy
  clear h h' hno
  obtain ⟨a, cap, rfl⟩ := hs.shape
  obtain ⟨a', cap', rfl⟩ := ht.shape
  have hhs := hs.size
  have hht := ht.size
  have st0 := (((((St.start w).addSl ⟨o, lo, hi, .slice a (phiN n) cap, (phiN n), f⟩ hs).addSl ⟨o', lo', hi', .slice a' (phiN n) cap', (phiN n), g⟩ ht).alloc (.cells #[.int .i64 (n : Int), .slice a (phiN n) cap] 26)).addBox w.heap.size [.int .i64 (n : Int), .slice a (phiN n) cap] (Box.made _ _ _ _ (fun j v h => by simpa using h)))
  replace st0 := (st0.alloc (.cells #[.int .i64 (n : Int), .slice a' (phiN n) cap'] 26)).addBox _ [.int .i64 (n : Int), .slice a' (phiN n) cap'] (Box.made _ _ _ _ (fun j v h => by simpa using h))
  simp only [World.size_alloc] at st0
  have q0 := st0.sl 1 ⟨o, lo, hi, .slice a (phiN n) cap, (phiN n), f⟩ rfl
  have q1 := st0.sl 0 ⟨o', lo', hi', .slice a' (phiN n) cap', (phiN n), g⟩ rfl
  dsimp only at q0 q1
  obtain ⟨x0, x1⟩ := (st0.box 1 (w.heap.size, [.int .i64 (n : Int), .slice a (phiN n) cap]) rfl).cell2
  obtain ⟨y0, y1⟩ := (st0.box 0 (w.heap.size + 1, [.int .i64 (n : Int), .slice a' (phiN n) cap']) rfl).cell2
  clear hs ht
  go_enter Try.func63, Try.ntmps63
  go_wp2_with fail
  refine (pairCode_any _ _ _ q0 q1).mono ?_
  rw [HC.out]
  rintro e w1 ⟨rfl, b1⟩
  clear q0 q1 x0 x1 y0 y1
  have st1 := st0.keep b1
  clear st0 b1
  obtain ⟨x0, x1⟩ := (st1.box 1 (w.heap.size, [.int .i64 (n : Int), .slice a (phiN n) cap]) rfl).cell2
  obtain ⟨y0, y1⟩ := (st1.box 0 (w.heap.size + 1, [.int .i64 (n : Int), .slice a' (phiN n) cap']) rfl).cell2
  have qx := st1.sl 1 ⟨o, lo, hi, .slice a (phiN n) cap, phiN n, f⟩ rfl
  have qy := st1.sl 0 ⟨o', lo', hi', .slice a' (phiN n) cap', phiN n, g⟩ rfl
  dsimp only at qx qy
  go_wp2_with fail
  go_region_law (first
    | (go_simp; go_at_call 120; first
         | (have _g := bA; refine (imagesOf_any n hn1 hn2 _ qxA (by omega)).mono ?_; rintro e w6 ⟨g6, c6, rfl, r9, b6⟩
            have st9 := stA.keep b6)
         | (refine (imagesOf_any n hn1 hn2 _ qx.drew (by omega)).mono ?_; rintro e w6 ⟨g6, c6, rfl, r6, b6⟩
            have st6 := st1.drew.keep b6
            obtain ⟨z0, z1⟩ := (st6.box 0 (w.heap.size + 1, [.int .i64 (n : Int), .slice a' (phiN n) cap']) rfl).cell2
            have qy6 := st6.sl 0 ⟨o', lo', hi', .slice a' (phiN n) cap', phiN n, g⟩ rfl
            dsimp only at qy6))
    | (go_simp; go_at_call 107; first
         | (have _g := b6; refine (arrayOf_any _ qy6 (by omega) hp).mono ?_; rintro e wA ⟨rfl, bA⟩
            have st9 := st6.keep bA
            have r9 := r6.keep bA (Nat.le_refl _))
         | (refine (arrayOf_any _ qy.drew (by omega) hp).mono ?_; rintro e wA ⟨rfl, bA⟩
            have stA := st1.drew.keep bA
            obtain ⟨z0, z1⟩ := (stA.box 1 (w.heap.size, [.int .i64 (n : Int), .slice a (phiN n) cap]) rfl).cell2
            have qxA := stA.sl 1 ⟨o, lo, hi, .slice a (phiN n) cap, phiN n, f⟩ rfl
            dsimp only at qxA))
    | (go_simp; go_at_call 130; refine (index_yes _ (imA n (phiN n) f) (cut (phiN n) g) r9 hp k hk (by rw [sameI_arr n f g k hp]; exact HY.out) (fun i hi => by rw [sameI_arr n f g i hp]; exact HNO.out i hi)).mono ?_; rintro e w7 ⟨rfl, b7⟩
       have st7 := st9.keep b7))
  all_goals
    obtain ⟨v0, v1⟩ := (st7.box 1 (w.heap.size, [.int .i64 (n : Int), .slice a (phiN n) cap]) rfl).cell2
    have BB := st7.1
    clear st9 b7 r9 b6 bA st1 x0 x1 y0 y1 z0 z1 qx qy
    have hk0 : ¬ ((k : Int) < 0) := by omega
    have hkp : (k : Int) < (phiN n : Int) := by omega
    go_wp2_with fail
    refine (residuesOf_any n hn1 hn2 _).mono ?_
    rintro e w8 ⟨g8, c8, rfl, s8, b8⟩
    have BB8 := BB.trans (b8.mono BB.size)
    have hc8 := (s8.known (by omega)).2.2.2.1 k hk
    rw [Nat.zero_add] at hc8
    clear s8 b8 st7 v0 v1 BB
    go_wp2
    go_ret2
    exact ⟨rfl, BB8⟩

set_option maxRecDepth 100000 in
set_option maxHeartbeats 4000000 in
theorem FindImage_impl_no (n : Nat) (w : World) (hs : Sl o w lo hi v (phiN n) f) (ht : Sl o' w lo' hi' v' (phiN n) g) (h : CyP n (phiN n) f) (h' : CyP n (phiN n) g) (hno : ∀ i, i < phiN n → sameI n f g i = false) :
    Calls Try.prog 63 #[.agg #[.int .i64 (n : Int), v], .agg #[.int .i64 (n : Int), v']] w fun e w' => e = .returned (.tuple #[.int .i64 0, .int .i64 4]) ∧ Below w.heap.size w w' := by
  have hn1 : 1 ≤ n := by have := h.1; omega
  have hn2 : n ≤ 16 := by have := h.2.1; omega
  have hp := phi_le12 n hn2 hn1
  have hp0 := phiN_pos n (by omega) hn1
  have HC := Lib.hid (pairC_ok h h' rfl)
  have HNO := Lib.hid hno
  clear h h' hno
  obtain ⟨a, cap, rfl⟩ := hs.shape
  obtain ⟨a', cap', rfl⟩ := ht.shape
  have hhs := hs.size
  have hht := ht.size
  have st0 := (((((St.start w).addSl ⟨o, lo, hi, .slice a (phiN n) cap, (phiN n), f⟩ hs).addSl ⟨o', lo', hi', .slice a' (phiN n) cap', (phiN n), g⟩ ht).alloc (.cells #[.int .i64 (n : Int), .slice a (phiN n) cap] 26)).addBox w.heap.size [.int .i64 (n : Int), .slice a (phiN n) cap] (Box.made _ _ _ _ (fun j v h => by simpa using h)))
  replace st0 := (st0.alloc (.cells #[.int .i64 (n : Int), .slice a' (phiN n) cap'] 26)).addBox _ [.int .i64 (n : Int), .slice a' (phiN n) cap'] (Box.made _ _ _ _ (fun j v h => by simpa using h))
  simp only [World.size_alloc] at st0
  have q0 := st0.sl 1 ⟨o, lo, hi, .slice a (phiN n) cap, (phiN n), f⟩ rfl
  have q1 := st0.sl 0 ⟨o', lo', hi', .slice a' (phiN n) cap', (phiN n), g⟩ rfl
  dsimp only at q0 q1
  obtain ⟨x0, x1⟩ := (st0.box 1 (w.heap.size, [.int .i64 (n : Int), .slice a (phiN n) cap]) rfl).cell2
  obtain ⟨y0, y1⟩ := (st0.box 0 (w.heap.size + 1, [.int .i64 (n : Int), .slice a' (phiN n) cap']) rfl).cell2
  clear hs ht
  go_enter Try.func63, Try.ntmps63
  go_wp2_with fail
  refine (pairCode_any _ _ _ q0 q1).mono ?_
  rw [HC.out]
  rintro e w1 ⟨rfl, b1⟩
  clear q0 q1 x0 x1 y0 y1
  have st1 := st0.keep b1
  clear st0 b1
  obtain ⟨x0, x1⟩ := (st1.box 1 (w.heap.size, [.int .i64 (n : Int), .slice a (phiN n) cap]) rfl).cell2
  obtain ⟨y0, y1⟩ := (st1.box 0 (w.heap.size + 1, [.int .i64 (n : Int), .slice a' (phiN n) cap']) rfl).cell2
  have qx := st1.sl 1 ⟨o, lo, hi, .slice a (phiN n) cap, phiN n, f⟩ rfl
  have qy := st1.sl 0 ⟨o', lo', hi', .slice a' (phiN n) cap', phiN n, g⟩ rfl
  dsimp only at qx qy
  go_wp2_with fail
  go_region_law (first
    | (go_simp; go_at_call 120; first
         | (have _g := bA; refine (imagesOf_any n hn1 hn2 _ qxA (by omega)).mono ?_; rintro e w6 ⟨g6, c6, rfl, r9, b6⟩
            have st9 := stA.keep b6)
         | (refine (imagesOf_any n hn1 hn2 _ qx.drew (by omega)).mono ?_; rintro e w6 ⟨g6, c6, rfl, r6, b6⟩
            have st6 := st1.drew.keep b6
            obtain ⟨z0, z1⟩ := (st6.box 0 (w.heap.size + 1, [.int .i64 (n : Int), .slice a' (phiN n) cap']) rfl).cell2
            have qy6 := st6.sl 0 ⟨o', lo', hi', .slice a' (phiN n) cap', phiN n, g⟩ rfl
            dsimp only at qy6))
    | (go_simp; go_at_call 107; first
         | (have _g := b6; refine (arrayOf_any _ qy6 (by omega) hp).mono ?_; rintro e wA ⟨rfl, bA⟩
            have st9 := st6.keep bA
            have r9 := r6.keep bA (Nat.le_refl _))
         | (refine (arrayOf_any _ qy.drew (by omega) hp).mono ?_; rintro e wA ⟨rfl, bA⟩
            have stA := st1.drew.keep bA
            obtain ⟨z0, z1⟩ := (stA.box 1 (w.heap.size, [.int .i64 (n : Int), .slice a (phiN n) cap]) rfl).cell2
            have qxA := stA.sl 1 ⟨o, lo, hi, .slice a (phiN n) cap, phiN n, f⟩ rfl
            dsimp only at qxA))
    | (go_simp; go_at_call 130; refine (index_no _ (imA n (phiN n) f) (cut (phiN n) g) r9 hp (fun i hi => by rw [sameI_arr n f g i hp]; exact HNO.out i hi)).mono ?_; rintro e w7 ⟨rfl, b7⟩
       have st7 := st9.keep b7))
  all_goals
    obtain ⟨v0, v1⟩ := (st7.box 1 (w.heap.size, [.int .i64 (n : Int), .slice a (phiN n) cap]) rfl).cell2
    have BB := st7.1
    clear st9 b7 r9 b6 bA st1 x0 x1 y0 y1 z0 z1 qx qy
    clear st7
    go_wp2
    go_ret2
    exact ⟨rfl, BB⟩

theorem FindImage_spec_bad {n m : Nat} (x y c : Int) (w : World) (hs : Sl o w lo hi v n f) (ht : Sl o' w lo' hi' v' m g) (hc : pairC x y n m f g = c) (hc0 : c ≠ 0) :
    Calls Try.prog 64 #[.agg #[.int .i64 x, v], .agg #[.int .i64 y, v']] w fun e w' => e = .returned (.tuple #[.int .i64 0, .int .i64 c]) ∧ Below w.heap.size w w' := by
  have HC := Lib.hid hc
  clear hc
  have hb : (c != 0) = true := by simpa using hc0
  have hb' : (c == 0) = false := by simpa using hc0
  obtain ⟨a, cap, rfl⟩ := hs.shape
  obtain ⟨a', cap', rfl⟩ := ht.shape
  have hhs := hs.size
  have hht := ht.size
  have st0 := (((((St.start w).addSl ⟨o, lo, hi, .slice a n cap, n, f⟩ hs).addSl ⟨o', lo', hi', .slice a' m cap', m, g⟩ ht).alloc (.cells #[.int .i64 x, .slice a n cap] 26)).addBox w.heap.size [.int .i64 x, .slice a n cap] (Box.made _ _ _ _ (fun j v h => by simpa using h)))
  replace st0 := (st0.alloc (.cells #[.int .i64 y, .slice a' m cap'] 26)).addBox _ [.int .i64 y, .slice a' m cap'] (Box.made _ _ _ _ (fun j v h => by simpa using h))
  simp only [World.size_alloc] at st0
  have q0 := st0.sl 1 ⟨o, lo, hi, .slice a n cap, n, f⟩ rfl
  have q1 := st0.sl 0 ⟨o', lo', hi', .slice a' m cap', m, g⟩ rfl
  dsimp only at q0 q1
  obtain ⟨x0, x1⟩ := (st0.box 1 (w.heap.size, [.int .i64 x, .slice a n cap]) rfl).cell2
  obtain ⟨y0, y1⟩ := (st0.box 0 (w.heap.size + 1, [.int .i64 y, .slice a' m cap']) rfl).cell2
  clear hs ht
  go_enter Try.func64, Try.ntmps64
  go_wp2_with fail
  refine (l01Like_any _ _ _ q0 q1).mono ?_
  rw [HC.out]
  rintro e w1 ⟨rfl, b1⟩
  clear q0 q1 x0 x1 y0 y1
  have st1 := st0.keep b1
  clear st0 b1
  have BB := st1.1
  clear st1
  go_wp2
  go_ret2
  exact ⟨rfl, BB⟩

set_option maxRecDepth 100000 in
set_option maxHeartbeats 4000000 in
theorem FindImage_spec_yes (n : Nat) (w : World) (hs : Sl o w lo hi v (phiN n) f) (ht : Sl o' w lo' hi' v' (phiN n) g) (h : CyP n (phiN n) f) (h' : CyP n (phiN n) g) (k : Nat) (hk : k < phiN n) (hy : sameI n f g k = true) (hno : ∀ i, i < k → sameI n f g i = false) :
    Calls Try.prog 64 #[.agg #[.int .i64 (n : Int), v], .agg #[.int .i64 (n : Int), v']] w fun e w' => e = .returned (.tuple #[.int .i64 (res n k : Int), .int .i64 0]) ∧ Below w.heap.size w w' := by
  have hn1 : 1 ≤ n := by have := h.1; omega
  have hn2 : n ≤ 16 := by have := h.2.1; omega
  have hp := phi_le12 n hn2 hn1
  have hp0 := phiN_pos n (by omega) hn1
  have HC := Lib.hid (pairC_ok h h' rfl)
  have HNO := Lib.hid hno
  have HY := Lib.hid hy
  clear hy
  clear h h' hno
  obtain ⟨a, cap, rfl⟩ := hs.shape
  obtain ⟨a', cap', rfl⟩ := ht.shape
  have hhs := hs.size
  have hht := ht.size
  have st0 := (((((St.start w).addSl ⟨o, lo, hi, .slice a (phiN n) cap, (phiN n), f⟩ hs).addSl ⟨o', lo', hi', .slice a' (phiN n) cap', (phiN n), g⟩ ht).alloc (.cells #[.int .i64 (n : Int), .slice a (phiN n) cap] 26)).addBox w.heap.size [.int .i64 (n : Int), .slice a (phiN n) cap] (Box.made _ _ _ _ (fun j v h => by simpa using h)))
  replace st0 := (st0.alloc (.cells #[.int .i64 (n : Int), .slice a' (phiN n) cap'] 26)).addBox _ [.int .i64 (n : Int), .slice a' (phiN n) cap'] (Box.made _ _ _ _ (fun j v h => by simpa using h))
  simp only [World.size_alloc] at st0
  have q0 := st0.sl 1 ⟨o, lo, hi, .slice a (phiN n) cap, (phiN n), f⟩ rfl
  have q1 := st0.sl 0 ⟨o', lo', hi', .slice a' (phiN n) cap', (phiN n), g⟩ rfl
  dsimp only at q0 q1
  obtain ⟨x0, x1⟩ := (st0.box 1 (w.heap.size, [.int .i64 (n : Int), .slice a (phiN n) cap]) rfl).cell2
  obtain ⟨y0, y1⟩ := (st0.box 0 (w.heap.size + 1, [.int .i64 (n : Int), .slice a' (phiN n) cap']) rfl).cell2
  clear hs ht
  go_enter Try.func64, Try.ntmps64
  go_wp2_with fail
  refine (l01Like_any _ _ _ q0 q1).mono ?_
  rw [HC.out]
  rintro e w1 ⟨rfl, b1⟩
  clear q0 q1 x0 x1 y0 y1
  have st1 := st0.keep b1
  clear st0 b1
  obtain ⟨x0, x1⟩ := (st1.box 1 (w.heap.size, [.int .i64 (n : Int), .slice a (phiN n) cap]) rfl).cell2
  have qx := st1.sl 1 ⟨o, lo, hi, .slice a (phiN n) cap, phiN n, f⟩ rfl
  dsimp only at qx
  go_wp2_with fail
  refine (l02Images_any n hn1 hn2 _ qx (by omega)).mono ?_
  rintro e w6 ⟨g6, c6, g7, c7, vs, rfl, r6, s6, n6, hne, b6⟩
  have HR := Lib.hid r6
  have HS := Lib.hid s6
  have HNN := Lib.hid n6
  have HST := Lib.hid (st1.keep b6)
  clear r6 s6 n6 st1 b6 qx x0 x1
  go_wp2
  go_loopw [9] (fun s9 wr => ∃ i : Nat, i ≤ phiN n ∧ i ≤ k ∧ s9 = .int .i64 i ∧ RowE wr w1.heap.size 26 2 g6 c6 (phiN n) (fun k => [.int .i64 (n : Int), vs k]) ∧ Sls wr w1.heap.size g6 g7 (phiN n) (phiN n) vs (im n (phiN n) f) ∧ Row wr w1.heap.size g7 c7 (phiN n) (fun k => (res n k : Int)) ∧ St w wr [(w.heap.size + 1, [.int .i64 (n : Int), .slice a' (phiN n) cap']), (w.heap.size, [.int .i64 (n : Int), .slice a (phiN n) cap])] [⟨o', lo', hi', .slice a' (phiN n) cap', phiN n, g⟩, ⟨o, lo, hi, .slice a (phiN n) cap, phiN n, f⟩]) (fun s9 _ => phiN n - (intOf s9).toNat)
  case atStart => exact ⟨0, Nat.zero_le _, Nat.zero_le _, rfl, HR.out, HS.out, HNN.out, HST.out⟩
  case round =>
    clear HR HS HNN HST
    obtain ⟨i, hi9, hik, rfl, hrow, hsl, hnn, hst⟩ := hrel
    have HT := Lib.hid hst; clear hst
    have R1 := Lib.hid hrow; clear hrow
    have SS := Lib.hid hsl; clear hsl
    have NN := Lib.hid hnn; clear hnn
    have BB := HT.out.1
    by_cases hlt : i < phiN n
    · have hi2 : (i : Int) < (phiN n : Int) := by omega
      obtain ⟨y0, y1⟩ := (HT.out.box 0 (w.heap.size + 1, [.int .i64 (n : Int), .slice a' (phiN n) cap']) rfl).cell2
      have qy := HT.out.sl 0 ⟨o', lo', hi', .slice a' (phiN n) cap', phiN n, g⟩ rfl
      dsimp only at qy
      have e0 := R1.out.cell (fun _ => rfl) (i := i) (j := 0) hlt (by omega)
      have e1 := R1.out.cell (fun _ => rfl) (i := i) (j := 1) hlt (by omega)
      simp only [Nat.add_zero, List.getElem?_cons_zero, List.getElem?_cons_succ] at e0 e1
      obtain ⟨lo1, hi1, _, _, _, hv⟩ := SS.out i hlt
      have HSM := Lib.hid (l01Same_any (n : Int) wr.drew hv.drew qy.drew)
      have hnc := Sl.ofRowF NN.out (fun j hj => by have := res_ok n (by omega) hn1 j hj; unfold inR; omega) (by unfold maxLen; omega)
      have hn9 := (hnc.known (by omega)).2.2.2.1 i hlt
      rw [Nat.zero_add] at hn9
      clear hv hnc
      by_cases hik2 : i < k
      · have HB := Lib.hid (show eqB (phiN n) (im n (phiN n) f i) g = false from HNO.out i hik2)
        rw [HB.out] at HSM
        go_wp2_with fail
        go_region_law (first
          | (go_simp; go_at_call 116; refine HSM.out.mono ?_; rintro e w8 ⟨rfl, b8⟩))
        all_goals
          have hz8 := b8.size
          have R8 := Lib.hid ((R1.out.drewN 1).keep b8 (Nat.le_refl _))
          have S8 := Lib.hid (SS.out.keep ((Below.refl wr.heap.size wr).drew.trans b8) (Nat.le_refl _))
          have N8 := Lib.hid (Row.keep (B := wr.heap.size) (show Row wr.drew _ _ _ _ _ from NN.out) b8 (Nat.le_refl _))
          have T8 := Lib.hid (HT.out.drew.keep b8)
          clear b8 R1 SS NN HT BB y0 y1 qy e0 e1 hn9
          go_wp2
          go_roundw
          case rel => exact ⟨i + 1, by omega, by omega, by go_num, R8.out, S8.out, N8.out, T8.out⟩
          case measure => simp [intOf] <;> omega
      · obtain rfl : i = k := by omega
        have HB := Lib.hid (show eqB (phiN n) (im n (phiN n) f i) g = true from HY.out)
        rw [HB.out] at HSM
        go_wp2_with fail
        go_region_law (first
          | (go_simp; go_at_call 116; refine HSM.out.mono ?_; rintro e w8 ⟨rfl, b8⟩))
        all_goals
          have N8 := Row.keep (B := wr.heap.size) (show Row wr.drew _ _ _ _ _ from NN.out) b8 (Nat.le_refl _)
          have hnc := Sl.ofRowF N8 (fun j hj => by have := res_ok n (by omega) hn1 j hj; unfold inR; omega) (by unfold maxLen; omega)
          have hn8 := (hnc.known (by omega)).2.2.2.1 i hlt
          rw [Nat.zero_add] at hn8
          have B8 := (HT.out.drew.keep b8).1
          clear b8 R1 SS NN HT BB y0 y1 qy e0 e1 hn9 N8 hnc
          go_wp2
          go_ret2
          exact ⟨rfl, B8⟩
    · exact absurd hk (by omega)

set_option maxRecDepth 100000 in
set_option maxHeartbeats 4000000 in
theorem FindImage_spec_no (n : Nat) (w : World) (hs : Sl o w lo hi v (phiN n) f) (ht : Sl o' w lo' hi' v' (phiN n) g) (h : CyP n (phiN n) f) (h' : CyP n (phiN n) g) (hno : ∀ i, i < phiN n → sameI n f g i = false) :
    Calls Try.prog 64 #[.agg #[.int .i64 (n : Int), v], .agg #[.int .i64 (n : Int), v']] w fun e w' => e = .returned (.tuple #[.int .i64 0, .int .i64 4]) ∧ Below w.heap.size w w' := by
  have hn1 : 1 ≤ n := by have := h.1; omega
  have hn2 : n ≤ 16 := by have := h.2.1; omega
  have hp := phi_le12 n hn2 hn1
  have hp0 := phiN_pos n (by omega) hn1
  have HC := Lib.hid (pairC_ok h h' rfl)
  have HNO := Lib.hid hno
  clear h h' hno
  obtain ⟨a, cap, rfl⟩ := hs.shape
  obtain ⟨a', cap', rfl⟩ := ht.shape
  have hhs := hs.size
  have hht := ht.size
  have st0 := (((((St.start w).addSl ⟨o, lo, hi, .slice a (phiN n) cap, (phiN n), f⟩ hs).addSl ⟨o', lo', hi', .slice a' (phiN n) cap', (phiN n), g⟩ ht).alloc (.cells #[.int .i64 (n : Int), .slice a (phiN n) cap] 26)).addBox w.heap.size [.int .i64 (n : Int), .slice a (phiN n) cap] (Box.made _ _ _ _ (fun j v h => by simpa using h)))
  replace st0 := (st0.alloc (.cells #[.int .i64 (n : Int), .slice a' (phiN n) cap'] 26)).addBox _ [.int .i64 (n : Int), .slice a' (phiN n) cap'] (Box.made _ _ _ _ (fun j v h => by simpa using h))
  simp only [World.size_alloc] at st0
  have q0 := st0.sl 1 ⟨o, lo, hi, .slice a (phiN n) cap, (phiN n), f⟩ rfl
  have q1 := st0.sl 0 ⟨o', lo', hi', .slice a' (phiN n) cap', (phiN n), g⟩ rfl
  dsimp only at q0 q1
  obtain ⟨x0, x1⟩ := (st0.box 1 (w.heap.size, [.int .i64 (n : Int), .slice a (phiN n) cap]) rfl).cell2
  obtain ⟨y0, y1⟩ := (st0.box 0 (w.heap.size + 1, [.int .i64 (n : Int), .slice a' (phiN n) cap']) rfl).cell2
  clear hs ht
  go_enter Try.func64, Try.ntmps64
  go_wp2_with fail
  refine (l01Like_any _ _ _ q0 q1).mono ?_
  rw [HC.out]
  rintro e w1 ⟨rfl, b1⟩
  clear q0 q1 x0 x1 y0 y1
  have st1 := st0.keep b1
  clear st0 b1
  obtain ⟨x0, x1⟩ := (st1.box 1 (w.heap.size, [.int .i64 (n : Int), .slice a (phiN n) cap]) rfl).cell2
  have qx := st1.sl 1 ⟨o, lo, hi, .slice a (phiN n) cap, phiN n, f⟩ rfl
  dsimp only at qx
  go_wp2_with fail
  refine (l02Images_any n hn1 hn2 _ qx (by omega)).mono ?_
  rintro e w6 ⟨g6, c6, g7, c7, vs, rfl, r6, s6, n6, hne, b6⟩
  have HR := Lib.hid r6
  have HS := Lib.hid s6
  have HNN := Lib.hid n6
  have HST := Lib.hid (st1.keep b6)
  clear r6 s6 n6 st1 b6 qx x0 x1
  go_wp2
  go_loopw [9] (fun s9 wr => ∃ i : Nat, i ≤ phiN n ∧ s9 = .int .i64 i ∧ RowE wr w1.heap.size 26 2 g6 c6 (phiN n) (fun k => [.int .i64 (n : Int), vs k]) ∧ Sls wr w1.heap.size g6 g7 (phiN n) (phiN n) vs (im n (phiN n) f) ∧ Row wr w1.heap.size g7 c7 (phiN n) (fun k => (res n k : Int)) ∧ St w wr [(w.heap.size + 1, [.int .i64 (n : Int), .slice a' (phiN n) cap']), (w.heap.size, [.int .i64 (n : Int), .slice a (phiN n) cap])] [⟨o', lo', hi', .slice a' (phiN n) cap', phiN n, g⟩, ⟨o, lo, hi, .slice a (phiN n) cap, phiN n, f⟩]) (fun s9 _ => phiN n - (intOf s9).toNat)
  case atStart => exact ⟨0, Nat.zero_le _, rfl, HR.out, HS.out, HNN.out, HST.out⟩
  case round =>
    clear HR HS HNN HST
    obtain ⟨i, hi9, rfl, hrow, hsl, hnn, hst⟩ := hrel
    have HT := Lib.hid hst; clear hst
    have R1 := Lib.hid hrow; clear hrow
    have SS := Lib.hid hsl; clear hsl
    have NN := Lib.hid hnn; clear hnn
    have BB := HT.out.1
    by_cases hlt : i < phiN n
    · have hi2 : (i : Int) < (phiN n : Int) := by omega
      obtain ⟨y0, y1⟩ := (HT.out.box 0 (w.heap.size + 1, [.int .i64 (n : Int), .slice a' (phiN n) cap']) rfl).cell2
      have qy := HT.out.sl 0 ⟨o', lo', hi', .slice a' (phiN n) cap', phiN n, g⟩ rfl
      dsimp only at qy
      have e0 := R1.out.cell (fun _ => rfl) (i := i) (j := 0) hlt (by omega)
      have e1 := R1.out.cell (fun _ => rfl) (i := i) (j := 1) hlt (by omega)
      simp only [Nat.add_zero, List.getElem?_cons_zero, List.getElem?_cons_succ] at e0 e1
      obtain ⟨lo1, hi1, _, _, _, hv⟩ := SS.out i hlt
      have HSM := Lib.hid (l01Same_any (n : Int) wr.drew hv.drew qy.drew)
      have hnc := Sl.ofRowF NN.out (fun j hj => by have := res_ok n (by omega) hn1 j hj; unfold inR; omega) (by unfold maxLen; omega)
      have hn9 := (hnc.known (by omega)).2.2.2.1 i hlt
      rw [Nat.zero_add] at hn9
      clear hv hnc
      have HB := Lib.hid (show eqB (phiN n) (im n (phiN n) f i) g = false from HNO.out i hlt)
      rw [HB.out] at HSM
      go_wp2_with fail
      go_region_law (first
        | (go_simp; go_at_call 116; refine HSM.out.mono ?_; rintro e w8 ⟨rfl, b8⟩))
      all_goals
        have hz8 := b8.size
        have R8 := Lib.hid ((R1.out.drewN 1).keep b8 (Nat.le_refl _))
        have S8 := Lib.hid (SS.out.keep ((Below.refl wr.heap.size wr).drew.trans b8) (Nat.le_refl _))
        have N8 := Lib.hid (Row.keep (B := wr.heap.size) (show Row wr.drew _ _ _ _ _ from NN.out) b8 (Nat.le_refl _))
        have T8 := Lib.hid (HT.out.drew.keep b8)
        clear b8 R1 SS NN HT BB y0 y1 qy e0 e1 hn9
        go_wp2
        go_roundw
        case rel => exact ⟨i + 1, by omega, by go_num, R8.out, S8.out, N8.out, T8.out⟩
        case measure => simp [intOf] <;> omega
    · obtain rfl : i = phiN n := by omega
      go_wp2
      go_ret2
      exact ⟨rfl, BB⟩

end
end Go.Proofs.Ytmmcbkikcceenaa
