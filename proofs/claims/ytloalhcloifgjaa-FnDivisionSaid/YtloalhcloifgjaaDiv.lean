/- DivideCyclos of the program. -/
import Derived.Test.YtloalhcloifgjaaDivBase
namespace Go.Proofs.Ytloalhcloifgjaa
open Go.RowKit Go.ChangeShapes Go.Sort
set_option linter.unusedVariables false
set_option linter.unusedSimpArgs false

section
variable {o o' : Bool} {lo hi lo' hi' n m : Nat} {v v' : Value} {f g : Nat → Int}
theorem DivideCyclos_impl_bad (x y c : Int) (w : World) (hs : Sl o w lo hi v n f) (ht : Sl o' w lo' hi' v' m g) (hc : pairC x y n m f g = c) (hc0 : c ≠ 0) :
    Calls Try.prog 93 #[.agg #[.int .i64 x, v], .agg #[.int .i64 y, v']] w fun e w' => e = .returned (failV c) ∧ Below w.heap.size w w' := by
  have HC := Lib.hid hc
  clear hc
  have hb : (c != 0) = true := by simpa using hc0
  have hb' : (c == 0) = false := by simpa using hc0
  obtain ⟨a, cap, rfl⟩ := hs.shape
  obtain ⟨a', cap', rfl⟩ := ht.shape
  have st0 := (((((St.start w).addSl ⟨o, lo, hi, .slice a n cap, n, f⟩ hs).addSl ⟨o', lo', hi', .slice a' m cap', m, g⟩ ht).alloc (.cells #[.int .i64 x, .slice a n cap] 26)).addBox w.heap.size [.int .i64 x, .slice a n cap] (Box.made _ _ _ _ (fun j v h => by simpa using h)))
  replace st0 := (st0.alloc (.cells #[.int .i64 y, .slice a' m cap'] 26)).addBox _ [.int .i64 y, .slice a' m cap'] (Box.made _ _ _ _ (fun j v h => by simpa using h))
  replace st0 := (st0.alloc (.cells #[.int .i64 0, .slice none 0 0] 26)).addBox _ [.int .i64 0, .slice none 0 0] (Box.made _ _ _ _ (fun j v h => by simpa using h))
  simp only [World.size_alloc] at st0
  clear hs ht
  have q0 := st0.sl 1 ⟨o, lo, hi, .slice a n cap, n, f⟩ rfl
  have q1 := st0.sl 0 ⟨o', lo', hi', .slice a' m cap', m, g⟩ rfl
  dsimp only at q0 q1
  obtain ⟨x0, x1⟩ := (st0.box 2 (w.heap.size, [.int .i64 x, .slice a n cap]) rfl).cell2
  obtain ⟨y0, y1⟩ := (st0.box 1 (w.heap.size + 1, [.int .i64 y, .slice a' m cap']) rfl).cell2
  go_enter Try.func93, Try.ntmps93
  go_wp2_with fail
  refine (pairCode_any _ _ _ q0 q1).mono ?_
  rw [HC.out]
  rintro e w1 ⟨rfl, b1⟩
  clear q0 q1 x0 x1 y0 y1
  have st1 := st0.keep b1
  have hz_w1 := b1.size
  try simp only [World.size_alloc] at hz_w1
  clear st0 b1
  obtain ⟨d0, d1⟩ := (st1.box 0 _ rfl).cell2
  have dz := (st1.box 0 _ rfl).2.2
  have BB := st1.1
  dsimp only at dz
  go_wp2
  refine bodyPost_ret (v := failV c) (by simp [results, Try.results93, go_sem, failV, d0, d1]) rfl ?_
  exact ⟨rfl, by go_grown⟩

set_option maxRecDepth 100000 in
set_option maxHeartbeats 8000000 in
theorem DivideCyclos_impl_zero (n : Nat) (w : World) (hs : Sl o w lo hi v (phiN n) f) (ht : Sl o' w lo' hi' v' (phiN n) g) (h : CyP n (phiN n) f) (h' : CyP n (phiN n) g) (hz : zeroB (phiN n) g = true) :
    Calls Try.prog 93 #[.agg #[.int .i64 (n : Int), v], .agg #[.int .i64 (n : Int), v']] w fun e w' => e = .returned (failV 5) ∧ Below w.heap.size w w' := by
  have hn1 : 1 ≤ n := by have := h.1; omega
  have hn2 : n ≤ 16 := by have := h.2.1; omega
  have hp := phi_le12 n hn2 hn1
  have hp0 := phiN_pos n (by omega) hn1
  have HC := Lib.hid (pairC_ok h h' rfl)
  have HCX := Lib.hid h
  have HCY := Lib.hid h'
  have HZ := Lib.hid hz
  clear h h' hz
  have hhs := hs.size
  have hht := ht.size
  obtain ⟨a, cap, rfl⟩ := hs.shape
  obtain ⟨a', cap', rfl⟩ := ht.shape
  have st0 := (((((St.start w).addSl ⟨o, lo, hi, .slice a (phiN n) cap, phiN n, f⟩ hs).addSl ⟨o', lo', hi', .slice a' (phiN n) cap', phiN n, g⟩ ht).alloc (.cells #[.int .i64 (n : Int), .slice a (phiN n) cap] 26)).addBox w.heap.size [.int .i64 (n : Int), .slice a (phiN n) cap] (Box.made _ _ _ _ (fun j v h => by simpa using h)))
  replace st0 := (st0.alloc (.cells #[.int .i64 (n : Int), .slice a' (phiN n) cap'] 26)).addBox _ [.int .i64 (n : Int), .slice a' (phiN n) cap'] (Box.made _ _ _ _ (fun j v h => by simpa using h))
  replace st0 := (st0.alloc (.cells #[.int .i64 0, .slice none 0 0] 26)).addBox _ [.int .i64 0, .slice none 0 0] (Box.made _ _ _ _ (fun j v h => by simpa using h))
  simp only [World.size_alloc] at st0
  clear hs ht
  have q0 := st0.sl 1 ⟨o, lo, hi, .slice a (phiN n) cap, phiN n, f⟩ rfl
  have q1 := st0.sl 0 ⟨o', lo', hi', .slice a' (phiN n) cap', phiN n, g⟩ rfl
  dsimp only at q0 q1
  obtain ⟨x0, x1⟩ := (st0.box 2 (w.heap.size, [.int .i64 (n : Int), .slice a (phiN n) cap]) rfl).cell2
  obtain ⟨y0, y1⟩ := (st0.box 1 (w.heap.size + 1, [.int .i64 (n : Int), .slice a' (phiN n) cap']) rfl).cell2
  go_enter Try.func93, Try.ntmps93
  go_wp2_with fail
  refine (pairCode_any _ _ _ q0 q1).mono ?_
  rw [HC.out]
  rintro e w1 ⟨rfl, b1⟩
  clear q0 q1 x0 x1 y0 y1
  have st1 := st0.keep b1
  have hz_w1 := b1.size
  try simp only [World.size_alloc] at hz_w1
  clear st0 b1
  obtain ⟨y0, y1⟩ := (st1.box 1 (w.heap.size + 1, [.int .i64 (n : Int), .slice a' (phiN n) cap']) rfl).cell2
  have q1 := st1.sl 0 ⟨o', lo', hi', .slice a' (phiN n) cap', phiN n, g⟩ rfl
  dsimp only at q1
  go_wp2_with fail
  refine (isZero_any _ _ q1 (by omega) hp).mono ?_
  rw [HZ.out]
  rintro e w2 ⟨rfl, b2⟩
  clear q1 y0 y1
  have st2 := st1.keep b2
  have hz_w2 := b2.size
  clear st1 b2
  obtain ⟨d0, d1⟩ := (st2.box 0 _ rfl).cell2
  have dz := (st2.box 0 _ rfl).2.2
  have BB := st2.1
  dsimp only at dz
  go_wp2
  refine bodyPost_ret (v := failV 5) (by simp [results, Try.results93, go_sem, failV, d0, d1]) rfl ?_
  exact ⟨rfl, by go_grown⟩

set_option maxRecDepth 100000 in
set_option maxHeartbeats 8000000 in
theorem DivideCyclos_impl_any (n : Nat) (w : World) (hs : Sl o w lo hi v (phiN n) f) (ht : Sl o' w lo' hi' v' (phiN n) g) (h : CyP n (phiN n) f) (h' : CyP n (phiN n) g) (hz : zeroB (phiN n) g = false) :
    Calls Try.prog 93 #[.agg #[.int .i64 (n : Int), v], .agg #[.int .i64 (n : Int), v']] w fun e w' => ((dvOk n f g ∧ divTo (dvZ n f g) (dvN n g) (phiN n) ∧ ∃ a9 k9, e = .returned (.tuple #[.agg #[.int .i64 (n : Int), .slice a9 (phiN n) k9], .int .i64 0]) ∧ Sl true w' w.heap.size w'.heap.size (.slice a9 (phiN n) k9) (phiN n) (quoZ (dvZ n f g) (dvN n g))) ∨ (dvOk n f g ∧ ¬ divTo (dvZ n f g) (dvN n g) (phiN n) ∧ e = .returned (failV 4)) ∨ (¬ dvOk n f g ∧ e = .returned (failV 3))) ∧ Below w.heap.size w w' := by
  have hn1 : 1 ≤ n := by have := h.1; omega
  have hn2 : n ≤ 16 := by have := h.2.1; omega
  have hp := phi_le12 n hn2 hn1
  have hp0 := phiN_pos n (by omega) hn1
  have HC := Lib.hid (pairC_ok h h' rfl)
  have HCX := Lib.hid h
  have HCY := Lib.hid h'
  have HZ := Lib.hid hz
  have HN0 := Lib.hid (dvN_ok h' hz)
  clear h h' hz
  have hhs := hs.size
  have hht := ht.size
  obtain ⟨a, cap, rfl⟩ := hs.shape
  obtain ⟨a', cap', rfl⟩ := ht.shape
  have st0 := (((((St.start w).addSl ⟨o, lo, hi, .slice a (phiN n) cap, phiN n, f⟩ hs).addSl ⟨o', lo', hi', .slice a' (phiN n) cap', phiN n, g⟩ ht).alloc (.cells #[.int .i64 (n : Int), .slice a (phiN n) cap] 26)).addBox w.heap.size [.int .i64 (n : Int), .slice a (phiN n) cap] (Box.made _ _ _ _ (fun j v h => by simpa using h)))
  replace st0 := (st0.alloc (.cells #[.int .i64 (n : Int), .slice a' (phiN n) cap'] 26)).addBox _ [.int .i64 (n : Int), .slice a' (phiN n) cap'] (Box.made _ _ _ _ (fun j v h => by simpa using h))
  replace st0 := (st0.alloc (.cells #[.int .i64 0, .slice none 0 0] 26)).addBox _ [.int .i64 0, .slice none 0 0] (Box.made _ _ _ _ (fun j v h => by simpa using h))
  simp only [World.size_alloc] at st0
  clear hs ht
  have q0 := st0.sl 1 ⟨o, lo, hi, .slice a (phiN n) cap, phiN n, f⟩ rfl
  have q1 := st0.sl 0 ⟨o', lo', hi', .slice a' (phiN n) cap', phiN n, g⟩ rfl
  dsimp only at q0 q1
  obtain ⟨x0, x1⟩ := (st0.box 2 (w.heap.size, [.int .i64 (n : Int), .slice a (phiN n) cap]) rfl).cell2
  obtain ⟨y0, y1⟩ := (st0.box 1 (w.heap.size + 1, [.int .i64 (n : Int), .slice a' (phiN n) cap']) rfl).cell2
  go_enter Try.func93, Try.ntmps93
  go_wp2_with fail
  refine (pairCode_any _ _ _ q0 q1).mono ?_
  rw [HC.out]
  rintro e w1 ⟨rfl, b1⟩
  clear q0 q1 x0 x1 y0 y1
  have st1 := st0.keep b1
  have hz_w1 := b1.size
  try simp only [World.size_alloc] at hz_w1
  clear st0 b1
  obtain ⟨y0, y1⟩ := (st1.box 1 (w.heap.size + 1, [.int .i64 (n : Int), .slice a' (phiN n) cap']) rfl).cell2
  have q1 := st1.sl 0 ⟨o', lo', hi', .slice a' (phiN n) cap', phiN n, g⟩ rfl
  dsimp only at q1
  go_wp2_with fail
  refine (isZero_any _ _ q1 (by omega) hp).mono ?_
  rw [HZ.out]
  rintro e w2 ⟨rfl, b2⟩
  clear q1 y0 y1
  have st2 := st1.keep b2
  have hz_w2 := b2.size
  clear st1 b2
  have q0 := st2.sl 0 ⟨o', lo', hi', .slice a' (phiN n) cap', phiN n, g⟩ rfl
  dsimp only at q0
  obtain ⟨y0, y1⟩ := (st2.box 1 (w.heap.size + 1, [.int .i64 (n : Int), .slice a' (phiN n) cap']) rfl).cell2
  by_cases hk : prOk n (phiN n) g 1 (phiN n - 1)
  · have HK := Lib.hid hk
    clear hk
    have hl1 : w.heap.size + 1 < w2.heap.size := by omega
    have hl2 : w.heap.size + 1 + 1 < w2.heap.size := by omega
    have hpI : (1 : Int) ≤ (phiN n : Int) := by omega
    go_wp2_with fail
    go_region_law (first
        | (go_simp; go_at_call 185; refine (imagesOf_any n hn1 hn2 _ q0.drew (by omega)).mono ?_; rintro e w6 ⟨g6, c6, rfl, r6, b6⟩
           have hz6 := b6.size
           obtain ⟨off6, hoff6, hif6⟩ := off_one r6
           have st6 := st2.drew.keep b6
           obtain ⟨x6, x6'⟩ := (st6.box 1 (w.heap.size + 1, [.int .i64 (n : Int), .slice a' (phiN n) cap']) rfl).cell2
           have hl6 : w.heap.size + 1 < w6.heap.size := by simp only [World.size_drew, World.size_alloc] at hz6; omega
           have hl7 : w.heap.size + 1 + 1 < w6.heap.size := by simp only [World.size_drew, World.size_alloc] at hz6; omega)
        | (go_simp; go_at_call 185; refine (imagesOf_any n hn1 hn2 _ (q0.alloc (.cells #[.int .i64 0, .slice none 0 0] 26)).drew (by omega)).mono ?_; rintro e w6 ⟨g6, c6, rfl, r6, b6⟩
           have hz6 := b6.size
           obtain ⟨off6, hoff6, hif6⟩ := off_one r6
           have st6 := (st2.boxNew (.int .i64 0) (.slice none 0 0) 26).drew.keep b6
           have bx6 := st6.box 0 _ rfl
           obtain ⟨x6, x6'⟩ := (st6.box 2 (w.heap.size + 1, [.int .i64 (n : Int), .slice a' (phiN n) cap']) rfl).cell2
           have hl6 : w.heap.size + 1 < w6.heap.size := by simp only [World.size_drew, World.size_alloc] at hz6; omega
           have hl7 : w.heap.size + 1 + 1 < w6.heap.size := by simp only [World.size_drew, World.size_alloc] at hz6; omega)
        | (go_simp; go_at_call 191; have _g := bx6; refine (productOfImages_ok n hn1 hn2 _ (s := 1) (m := phiN n - 1) (off := off6) (by exact r6) hoff6 (by omega) hp HCY.out.2.2.2 hp HK.out).mono ?_; rintro e w7 ⟨a7, k7, rfl, s7, b7⟩
           have hz7 := b7.size
           have st7 := st6.keep b7
           have bx7 := bx6.keep b7
           obtain ⟨q0', q1'⟩ := bx7.cell2
           have qz' := bx7.2.2)
        | (go_simp; go_at_call 191; have _g := b6; refine (productOfImages_ok n hn1 hn2 _ (s := 1) (m := phiN n - 1) (off := off6) (by exact r6) hoff6 (by omega) hp HCY.out.2.2.2 hp HK.out).mono ?_; rintro e w7 ⟨a7, k7, rfl, s7, b7⟩
           have hz7 := b7.size
           have st7 := st6.keep b7)
        | (go_simp; go_at_call 191; have _g := b6; refine (productOfImages_ok n hn1 hn2 _ (s := 1) (m := phiN n - 1) (off := off6) (by exact r6.alloc (.cells #[.int .i64 0, .slice none 0 0] 26)) hoff6 (by omega) hp HCY.out.2.2.2 hp HK.out).mono ?_; rintro e w7 ⟨a7, k7, rfl, s7, b7⟩
           have hz7 := b7.size
           have st7 := (st6.boxNew (.int .i64 0) (.slice none 0 0) 26).keep b7
           have bx7 := st7.box 0 _ rfl
           obtain ⟨q0', q1'⟩ := bx7.cell2
           have qz' := bx7.2.2))
    all_goals first
      | (
         have _g : Box w7 w6.heap.size [.int .i64 0, .slice none 0 0] := bx7
         have STF := (st7.tailB.set2 (b := w6.heap.size) (i := 0) (j := 1) (u := .int .i64 (n : Int)) (v := .slice a7 (phiN n) k7) (by omega) (by intro b hb; simp only [List.mem_cons, List.not_mem_nil, or_false] at hb; rcases hb with rfl | rfl | rfl <;> dsimp only <;> omega) (by intro s hs'; simp only [List.mem_cons, List.not_mem_nil, or_false] at hs'; rcases hs' with rfl | rfl <;> dsimp only <;> omega)).addBox w6.heap.size [.int .i64 (n : Int), .slice a7 (phiN n) k7] (bx7.set2)
         have q8 := (s7.setOther (p := ⟨w6.heap.size, 0, none⟩) (.inl (by show w6.heap.size < (w6.alloc _).heap.size; rw [World.size_alloc]; omega)) (.int .i64 (n : Int))).setOther (p := ⟨w6.heap.size, 1, none⟩) (.inl (by show w6.heap.size < (w6.alloc _).heap.size; rw [World.size_alloc]; omega)) (.slice a7 (phiN n) k7)
         replace STF := STF.addSl ⟨true, 0, w7.heap.size, .slice a7 (phiN n) k7, phiN n, prI n (phiN n) g 1 (phiN n - 1)⟩ (q8.wide (Nat.zero_le _) (Nat.le_refl _) q8.size)
         clear q8
         clear _g bx7 q0' q1' qz'
         clear st7 b7 st6 b6 r6 st2 q0 y0 y1 x6 x6' s7
         obtain ⟨y0', y1'⟩ := (STF.box 2 (w.heap.size + 1, [.int .i64 (n : Int), .slice a' (phiN n) cap']) rfl).cell2
         have qy := STF.sl 1 ⟨o', lo', hi', .slice a' (phiN n) cap', phiN n, g⟩ rfl
         dsimp only at qy
         go_wp2_with fail
         by_cases hk0 : prOk n (phiN n) g 0 (phiN n)
         · have HK0 := Lib.hid hk0
           clear hk0
           refine (NormOf_impl_ok n _ qy HCY.out HK0.out).mono ?_
           rintro e w8 ⟨rfl, b8⟩
           have ST8 := STF.keep b8
           clear STF b8 y0' y1' qy
           have t01 := (ST8.box 0 _ rfl).cell2
           obtain ⟨t0, t1⟩ := t01
           dsimp only at t0 t1
           obtain ⟨x0, x1⟩ := (ST8.box 3 (w.heap.size, [.int .i64 (n : Int), .slice a (phiN n) cap]) rfl).cell2
           have qx := ST8.sl 2 ⟨o, lo, hi, .slice a (phiN n) cap, phiN n, f⟩ rfl
           have qc := ST8.sl 0 _ rfl
           dsimp only at qx qc
           have HCC := Lib.hid (show CyP n (phiN n) (prI n (phiN n) g 1 (phiN n - 1)) from ⟨HCY.out.1, HCY.out.2.1, rfl, prI_within HK.out⟩)
           go_wp2_with fail
           by_cases hw : Within (dvZ n f g) (phiN n) 1000000000
           · have HW := Lib.hid hw
             clear hw
             have HDV := Lib.hid (show dvOk n f g from ⟨HK.out, HK0.out, HW.out⟩)
             refine (MultiplyCyclos_impl_ok n _ qx qc HCX.out HCC.out HW.out).mono ?_
             rintro e w9 ⟨a9, k9, rfl, s9, b9⟩
             have hz9 : w.heap.size + 1 + 1 < w9.heap.size := by have := ((ST8.keep b9).box 1 (w.heap.size + 1 + 1, [.int .i64 0, .slice none 0 0]) rfl).1; exact this
             have ST9 := (ST8.keep b9).boxNew (.int .i64 (n : Int)) (.slice a9 (phiN n) k9) 26
             have q9 := s9.alloc (.cells #[.int .i64 (n : Int), .slice a9 (phiN n) k9] 26)
             obtain ⟨u0, u1⟩ := (ST9.box 0 (w9.heap.size, [.int .i64 (n : Int), .slice a9 (phiN n) k9]) rfl).cell2
             clear ST8 b9 s9 t0 t1 x0 x1 qx qc
             go_wp2_with fail
             refine (partsDivided_any (n : Int) (dvN n g) _ q9 HW.out HN0.out (dvN_bd HCY.out HK0.out) hp0 hp).mono ?_
             rintro e w10 ⟨hd, b10⟩
             have hz10 := b10.size
             have ST10 := ST9.keep b10
             clear ST9 b10 q9 u0 u1
             obtain ⟨d0, d1⟩ := (ST10.box 2 (w.heap.size + 1 + 1, [.int .i64 0, .slice none 0 0]) rfl).cell2
             have dz := (ST10.box 2 (w.heap.size + 1 + 1, [.int .i64 0, .slice none 0 0]) rfl).2.2
             have BB := ST10.1
             dsimp only at dz
             clear ST10
             rcases hd with ⟨hd, a10, k10, rfl, s10⟩ | ⟨hd, rfl⟩
             · have HD := Lib.hid hd
               have S10 := Lib.hid s10
               clear hd s10
               go_wp2
               refine bodyPost_ret (v := .tuple #[.agg #[.int .i64 (n : Int), .slice a10 (phiN n) k10], .int .i64 0]) (by simp [results, Try.results93, go_sem, d0, d1]) rfl ?_
               refine ⟨.inl ⟨HDV.out, HD.out, _, _, rfl, ?_⟩, by go_grown⟩
               exact ((S10.out.setOther (.inl (by simp only [World.size_alloc]; omega)) _).setOther (.inl (by simp only [World.size_alloc]; omega)) _).wide (by simp only [World.size_alloc]; omega) (by simp) (Nat.le_refl _)
             · have HD := Lib.hid hd
               clear hd
               unfold failV
               go_wp2
               refine bodyPost_ret (v := failV 4) (by simp [results, Try.results93, go_sem, failV, d0, d1]) rfl ?_
               exact ⟨.inr (.inl ⟨HDV.out, HD.out, rfl⟩), by go_grown⟩
           · have HDV := Lib.hid (show ¬ dvOk n f g from fun h => hw h.2.2)
             refine (MultiplyCyclos_impl_big n _ qx qc HCX.out HCC.out hw).mono ?_
             rintro e w9 ⟨rfl, b9⟩
             have ST9 := (ST8.keep b9).alloc (.cells #[.int .i64 0, .slice none 0 0] 26)
             clear ST8 b9 hw t0 t1 x0 x1 qx qc
             unfold failV
             obtain ⟨d0, d1⟩ := (ST9.box 1 (w.heap.size + 1 + 1, [.int .i64 0, .slice none 0 0]) rfl).cell2
             have dz := (ST9.box 1 (w.heap.size + 1 + 1, [.int .i64 0, .slice none 0 0]) rfl).2.2
             have BB := ST9.1
             dsimp only at dz
             clear ST9
             go_wp2
             refine bodyPost_ret (v := failV 3) (by simp [results, Try.results93, go_sem, failV, d0, d1]) rfl ?_
             exact ⟨.inr (.inr ⟨HDV.out, rfl⟩), by go_grown⟩
         · have HDV := Lib.hid (show ¬ dvOk n f g from fun h => hk0 h.2.1)
           refine (NormOf_impl_big n _ qy HCY.out hk0).mono ?_
           rintro e w8 ⟨rfl, b8⟩
           have ST8 := STF.keep b8
           clear STF b8 y0' y1' qy hk0
           obtain ⟨d0, d1⟩ := (ST8.box 1 (w.heap.size + 1 + 1, [.int .i64 0, .slice none 0 0]) rfl).cell2
           have dz := (ST8.box 1 (w.heap.size + 1 + 1, [.int .i64 0, .slice none 0 0]) rfl).2.2
           have BB := ST8.1
           dsimp only at dz
           clear ST8
           go_wp2
           refine bodyPost_ret (v := failV 3) (by simp [results, Try.results93, go_sem, failV, d0, d1]) rfl ?_
           exact ⟨.inr (.inr ⟨HDV.out, rfl⟩), by go_grown⟩)
      | (
         have _g : Box w7 w2.heap.size [.int .i64 0, .slice none 0 0] := bx7
         have STF := (st7.tailB.set2 (b := w2.heap.size) (i := 0) (j := 1) (u := .int .i64 (n : Int)) (v := .slice a7 (phiN n) k7) (by omega) (by intro b hb; simp only [List.mem_cons, List.not_mem_nil, or_false] at hb; rcases hb with rfl | rfl | rfl <;> dsimp only <;> omega) (by intro s hs'; simp only [List.mem_cons, List.not_mem_nil, or_false] at hs'; rcases hs' with rfl | rfl <;> dsimp only <;> omega)).addBox w2.heap.size [.int .i64 (n : Int), .slice a7 (phiN n) k7] (bx7.set2)
         have q8 := (s7.setOther (p := ⟨w2.heap.size, 0, none⟩) (.inl (by show w2.heap.size < w6.heap.size; simp only [World.size_drew, World.size_alloc] at hz6; omega)) (.int .i64 (n : Int))).setOther (p := ⟨w2.heap.size, 1, none⟩) (.inl (by show w2.heap.size < w6.heap.size; simp only [World.size_drew, World.size_alloc] at hz6; omega)) (.slice a7 (phiN n) k7)
         replace STF := STF.addSl ⟨true, 0, w7.heap.size, .slice a7 (phiN n) k7, phiN n, prI n (phiN n) g 1 (phiN n - 1)⟩ (q8.wide (Nat.zero_le _) (Nat.le_refl _) q8.size)
         clear q8
         clear _g bx7 q0' q1' qz'
         clear st7 b7 st6 b6 r6 st2 q0 y0 y1 x6 x6' s7
         obtain ⟨y0', y1'⟩ := (STF.box 2 (w.heap.size + 1, [.int .i64 (n : Int), .slice a' (phiN n) cap']) rfl).cell2
         have qy := STF.sl 1 ⟨o', lo', hi', .slice a' (phiN n) cap', phiN n, g⟩ rfl
         dsimp only at qy
         go_wp2_with fail
         by_cases hk0 : prOk n (phiN n) g 0 (phiN n)
         · have HK0 := Lib.hid hk0
           clear hk0
           refine (NormOf_impl_ok n _ qy HCY.out HK0.out).mono ?_
           rintro e w8 ⟨rfl, b8⟩
           have ST8 := STF.keep b8
           clear STF b8 y0' y1' qy
           have t01 := (ST8.box 0 _ rfl).cell2
           obtain ⟨t0, t1⟩ := t01
           dsimp only at t0 t1
           obtain ⟨x0, x1⟩ := (ST8.box 3 (w.heap.size, [.int .i64 (n : Int), .slice a (phiN n) cap]) rfl).cell2
           have qx := ST8.sl 2 ⟨o, lo, hi, .slice a (phiN n) cap, phiN n, f⟩ rfl
           have qc := ST8.sl 0 _ rfl
           dsimp only at qx qc
           have HCC := Lib.hid (show CyP n (phiN n) (prI n (phiN n) g 1 (phiN n - 1)) from ⟨HCY.out.1, HCY.out.2.1, rfl, prI_within HK.out⟩)
           go_wp2_with fail
           by_cases hw : Within (dvZ n f g) (phiN n) 1000000000
           · have HW := Lib.hid hw
             clear hw
             have HDV := Lib.hid (show dvOk n f g from ⟨HK.out, HK0.out, HW.out⟩)
             refine (MultiplyCyclos_impl_ok n _ qx qc HCX.out HCC.out HW.out).mono ?_
             rintro e w9 ⟨a9, k9, rfl, s9, b9⟩
             have hz9 : w.heap.size + 1 + 1 < w9.heap.size := by have := ((ST8.keep b9).box 1 (w.heap.size + 1 + 1, [.int .i64 0, .slice none 0 0]) rfl).1; exact this
             have ST9 := (ST8.keep b9).boxNew (.int .i64 (n : Int)) (.slice a9 (phiN n) k9) 26
             have q9 := s9.alloc (.cells #[.int .i64 (n : Int), .slice a9 (phiN n) k9] 26)
             obtain ⟨u0, u1⟩ := (ST9.box 0 (w9.heap.size, [.int .i64 (n : Int), .slice a9 (phiN n) k9]) rfl).cell2
             clear ST8 b9 s9 t0 t1 x0 x1 qx qc
             go_wp2_with fail
             refine (partsDivided_any (n : Int) (dvN n g) _ q9 HW.out HN0.out (dvN_bd HCY.out HK0.out) hp0 hp).mono ?_
             rintro e w10 ⟨hd, b10⟩
             have hz10 := b10.size
             have ST10 := ST9.keep b10
             clear ST9 b10 q9 u0 u1
             obtain ⟨d0, d1⟩ := (ST10.box 2 (w.heap.size + 1 + 1, [.int .i64 0, .slice none 0 0]) rfl).cell2
             have dz := (ST10.box 2 (w.heap.size + 1 + 1, [.int .i64 0, .slice none 0 0]) rfl).2.2
             have BB := ST10.1
             dsimp only at dz
             clear ST10
             rcases hd with ⟨hd, a10, k10, rfl, s10⟩ | ⟨hd, rfl⟩
             · have HD := Lib.hid hd
               have S10 := Lib.hid s10
               clear hd s10
               go_wp2
               refine bodyPost_ret (v := .tuple #[.agg #[.int .i64 (n : Int), .slice a10 (phiN n) k10], .int .i64 0]) (by simp [results, Try.results93, go_sem, d0, d1]) rfl ?_
               refine ⟨.inl ⟨HDV.out, HD.out, _, _, rfl, ?_⟩, by go_grown⟩
               exact ((S10.out.setOther (.inl (by simp only [World.size_alloc]; omega)) _).setOther (.inl (by simp only [World.size_alloc]; omega)) _).wide (by simp only [World.size_alloc]; omega) (by simp) (Nat.le_refl _)
             · have HD := Lib.hid hd
               clear hd
               unfold failV
               go_wp2
               refine bodyPost_ret (v := failV 4) (by simp [results, Try.results93, go_sem, failV, d0, d1]) rfl ?_
               exact ⟨.inr (.inl ⟨HDV.out, HD.out, rfl⟩), by go_grown⟩
           · have HDV := Lib.hid (show ¬ dvOk n f g from fun h => hw h.2.2)
             refine (MultiplyCyclos_impl_big n _ qx qc HCX.out HCC.out hw).mono ?_
             rintro e w9 ⟨rfl, b9⟩
             have ST9 := (ST8.keep b9).alloc (.cells #[.int .i64 0, .slice none 0 0] 26)
             clear ST8 b9 hw t0 t1 x0 x1 qx qc
             unfold failV
             obtain ⟨d0, d1⟩ := (ST9.box 1 (w.heap.size + 1 + 1, [.int .i64 0, .slice none 0 0]) rfl).cell2
             have dz := (ST9.box 1 (w.heap.size + 1 + 1, [.int .i64 0, .slice none 0 0]) rfl).2.2
             have BB := ST9.1
             dsimp only at dz
             clear ST9
             go_wp2
             refine bodyPost_ret (v := failV 3) (by simp [results, Try.results93, go_sem, failV, d0, d1]) rfl ?_
             exact ⟨.inr (.inr ⟨HDV.out, rfl⟩), by go_grown⟩
         · have HDV := Lib.hid (show ¬ dvOk n f g from fun h => hk0 h.2.1)
           refine (NormOf_impl_big n _ qy HCY.out hk0).mono ?_
           rintro e w8 ⟨rfl, b8⟩
           have ST8 := STF.keep b8
           clear STF b8 y0' y1' qy hk0
           obtain ⟨d0, d1⟩ := (ST8.box 1 (w.heap.size + 1 + 1, [.int .i64 0, .slice none 0 0]) rfl).cell2
           have dz := (ST8.box 1 (w.heap.size + 1 + 1, [.int .i64 0, .slice none 0 0]) rfl).2.2
           have BB := ST8.1
           dsimp only at dz
           clear ST8
           go_wp2
           refine bodyPost_ret (v := failV 3) (by simp [results, Try.results93, go_sem, failV, d0, d1]) rfl ?_
           exact ⟨.inr (.inr ⟨HDV.out, rfl⟩), by go_grown⟩)
      | (
         have STF := st7.boxNew (.int .i64 (n : Int)) (.slice a7 (phiN n) k7) 26
         have q8 := s7.alloc (.cells #[.int .i64 (n : Int), .slice a7 (phiN n) k7] 26)
         replace STF := STF.addSl ⟨true, 0, w7.heap.size, .slice a7 (phiN n) k7, phiN n, prI n (phiN n) g 1 (phiN n - 1)⟩ (q8.wide (Nat.zero_le _) (Nat.le_refl _) q8.size)
         clear q8
         clear st7 b7 st6 b6 r6 st2 q0 y0 y1 x6 x6' s7
         obtain ⟨y0', y1'⟩ := (STF.box 2 (w.heap.size + 1, [.int .i64 (n : Int), .slice a' (phiN n) cap']) rfl).cell2
         have qy := STF.sl 1 ⟨o', lo', hi', .slice a' (phiN n) cap', phiN n, g⟩ rfl
         dsimp only at qy
         go_wp2_with fail
         by_cases hk0 : prOk n (phiN n) g 0 (phiN n)
         · have HK0 := Lib.hid hk0
           clear hk0
           refine (NormOf_impl_ok n _ qy HCY.out HK0.out).mono ?_
           rintro e w8 ⟨rfl, b8⟩
           have ST8 := STF.keep b8
           clear STF b8 y0' y1' qy
           have t01 := (ST8.box 0 _ rfl).cell2
           obtain ⟨t0, t1⟩ := t01
           dsimp only at t0 t1
           obtain ⟨x0, x1⟩ := (ST8.box 3 (w.heap.size, [.int .i64 (n : Int), .slice a (phiN n) cap]) rfl).cell2
           have qx := ST8.sl 2 ⟨o, lo, hi, .slice a (phiN n) cap, phiN n, f⟩ rfl
           have qc := ST8.sl 0 _ rfl
           dsimp only at qx qc
           have HCC := Lib.hid (show CyP n (phiN n) (prI n (phiN n) g 1 (phiN n - 1)) from ⟨HCY.out.1, HCY.out.2.1, rfl, prI_within HK.out⟩)
           go_wp2_with fail
           by_cases hw : Within (dvZ n f g) (phiN n) 1000000000
           · have HW := Lib.hid hw
             clear hw
             have HDV := Lib.hid (show dvOk n f g from ⟨HK.out, HK0.out, HW.out⟩)
             refine (MultiplyCyclos_impl_ok n _ qx qc HCX.out HCC.out HW.out).mono ?_
             rintro e w9 ⟨a9, k9, rfl, s9, b9⟩
             have hz9 : w.heap.size + 1 + 1 < w9.heap.size := by have := ((ST8.keep b9).box 1 (w.heap.size + 1 + 1, [.int .i64 0, .slice none 0 0]) rfl).1; exact this
             have ST9 := (ST8.keep b9).boxNew (.int .i64 (n : Int)) (.slice a9 (phiN n) k9) 26
             have q9 := s9.alloc (.cells #[.int .i64 (n : Int), .slice a9 (phiN n) k9] 26)
             obtain ⟨u0, u1⟩ := (ST9.box 0 (w9.heap.size, [.int .i64 (n : Int), .slice a9 (phiN n) k9]) rfl).cell2
             clear ST8 b9 s9 t0 t1 x0 x1 qx qc
             go_wp2_with fail
             refine (partsDivided_any (n : Int) (dvN n g) _ q9 HW.out HN0.out (dvN_bd HCY.out HK0.out) hp0 hp).mono ?_
             rintro e w10 ⟨hd, b10⟩
             have hz10 := b10.size
             have ST10 := ST9.keep b10
             clear ST9 b10 q9 u0 u1
             obtain ⟨d0, d1⟩ := (ST10.box 2 (w.heap.size + 1 + 1, [.int .i64 0, .slice none 0 0]) rfl).cell2
             have dz := (ST10.box 2 (w.heap.size + 1 + 1, [.int .i64 0, .slice none 0 0]) rfl).2.2
             have BB := ST10.1
             dsimp only at dz
             clear ST10
             rcases hd with ⟨hd, a10, k10, rfl, s10⟩ | ⟨hd, rfl⟩
             · have HD := Lib.hid hd
               have S10 := Lib.hid s10
               clear hd s10
               go_wp2
               refine bodyPost_ret (v := .tuple #[.agg #[.int .i64 (n : Int), .slice a10 (phiN n) k10], .int .i64 0]) (by simp [results, Try.results93, go_sem, d0, d1]) rfl ?_
               refine ⟨.inl ⟨HDV.out, HD.out, _, _, rfl, ?_⟩, by go_grown⟩
               exact ((S10.out.setOther (.inl (by simp only [World.size_alloc]; omega)) _).setOther (.inl (by simp only [World.size_alloc]; omega)) _).wide (by simp only [World.size_alloc]; omega) (by simp) (Nat.le_refl _)
             · have HD := Lib.hid hd
               clear hd
               unfold failV
               go_wp2
               refine bodyPost_ret (v := failV 4) (by simp [results, Try.results93, go_sem, failV, d0, d1]) rfl ?_
               exact ⟨.inr (.inl ⟨HDV.out, HD.out, rfl⟩), by go_grown⟩
           · have HDV := Lib.hid (show ¬ dvOk n f g from fun h => hw h.2.2)
             refine (MultiplyCyclos_impl_big n _ qx qc HCX.out HCC.out hw).mono ?_
             rintro e w9 ⟨rfl, b9⟩
             have ST9 := (ST8.keep b9).alloc (.cells #[.int .i64 0, .slice none 0 0] 26)
             clear ST8 b9 hw t0 t1 x0 x1 qx qc
             unfold failV
             obtain ⟨d0, d1⟩ := (ST9.box 1 (w.heap.size + 1 + 1, [.int .i64 0, .slice none 0 0]) rfl).cell2
             have dz := (ST9.box 1 (w.heap.size + 1 + 1, [.int .i64 0, .slice none 0 0]) rfl).2.2
             have BB := ST9.1
             dsimp only at dz
             clear ST9
             go_wp2
             refine bodyPost_ret (v := failV 3) (by simp [results, Try.results93, go_sem, failV, d0, d1]) rfl ?_
             exact ⟨.inr (.inr ⟨HDV.out, rfl⟩), by go_grown⟩
         · have HDV := Lib.hid (show ¬ dvOk n f g from fun h => hk0 h.2.1)
           refine (NormOf_impl_big n _ qy HCY.out hk0).mono ?_
           rintro e w8 ⟨rfl, b8⟩
           have ST8 := STF.keep b8
           clear STF b8 y0' y1' qy hk0
           obtain ⟨d0, d1⟩ := (ST8.box 1 (w.heap.size + 1 + 1, [.int .i64 0, .slice none 0 0]) rfl).cell2
           have dz := (ST8.box 1 (w.heap.size + 1 + 1, [.int .i64 0, .slice none 0 0]) rfl).2.2
           have BB := ST8.1
           dsimp only at dz
           clear ST8
           go_wp2
           refine bodyPost_ret (v := failV 3) (by simp [results, Try.results93, go_sem, failV, d0, d1]) rfl ?_
           exact ⟨.inr (.inr ⟨HDV.out, rfl⟩), by go_grown⟩)
  · have HK := Lib.hid hk
    clear hk
    have hl1 : w.heap.size + 1 < w2.heap.size := by omega
    have hl2 : w.heap.size + 1 + 1 < w2.heap.size := by omega
    have hpI : (1 : Int) ≤ (phiN n : Int) := by omega
    go_wp2_with fail
    go_region_law (first
        | (go_simp; go_at_call 185; refine (imagesOf_any n hn1 hn2 _ q0.drew (by omega)).mono ?_; rintro e w6 ⟨g6, c6, rfl, r6, b6⟩
           have hz6 := b6.size
           obtain ⟨off6, hoff6, hif6⟩ := off_one r6
           have st6 := st2.drew.keep b6
           obtain ⟨x6, x6'⟩ := (st6.box 1 (w.heap.size + 1, [.int .i64 (n : Int), .slice a' (phiN n) cap']) rfl).cell2
           have hl6 : w.heap.size + 1 < w6.heap.size := by simp only [World.size_drew, World.size_alloc] at hz6; omega
           have hl7 : w.heap.size + 1 + 1 < w6.heap.size := by simp only [World.size_drew, World.size_alloc] at hz6; omega)
        | (go_simp; go_at_call 185; refine (imagesOf_any n hn1 hn2 _ (q0.alloc (.cells #[.int .i64 0, .slice none 0 0] 26)).drew (by omega)).mono ?_; rintro e w6 ⟨g6, c6, rfl, r6, b6⟩
           have hz6 := b6.size
           obtain ⟨off6, hoff6, hif6⟩ := off_one r6
           have st6 := (st2.boxNew (.int .i64 0) (.slice none 0 0) 26).drew.keep b6
           have bx6 := st6.box 0 _ rfl
           obtain ⟨x6, x6'⟩ := (st6.box 2 (w.heap.size + 1, [.int .i64 (n : Int), .slice a' (phiN n) cap']) rfl).cell2
           have hl6 : w.heap.size + 1 < w6.heap.size := by simp only [World.size_drew, World.size_alloc] at hz6; omega
           have hl7 : w.heap.size + 1 + 1 < w6.heap.size := by simp only [World.size_drew, World.size_alloc] at hz6; omega)
        | (go_simp; go_at_call 191; have _g := bx6; refine (productOfImages_big n hn1 hn2 _ (s := 1) (m := phiN n - 1) (off := off6) (by exact r6) hoff6 (by omega) hp HCY.out.2.2.2 hp HK.out).mono ?_; rintro e w7 ⟨rfl, b7⟩
           unfold failV
           have hz7 := b7.size
           have st7 := st6.keep b7
           have bx7 := bx6.keep b7
           obtain ⟨q0', q1'⟩ := bx7.cell2
           have qz' := bx7.2.2)
        | (go_simp; go_at_call 191; have _g := b6; refine (productOfImages_big n hn1 hn2 _ (s := 1) (m := phiN n - 1) (off := off6) (by exact r6) hoff6 (by omega) hp HCY.out.2.2.2 hp HK.out).mono ?_; rintro e w7 ⟨rfl, b7⟩
           unfold failV
           have hz7 := b7.size
           have st7 := st6.keep b7)
        | (go_simp; go_at_call 191; have _g := b6; refine (productOfImages_big n hn1 hn2 _ (s := 1) (m := phiN n - 1) (off := off6) (by exact r6.alloc (.cells #[.int .i64 0, .slice none 0 0] 26)) hoff6 (by omega) hp HCY.out.2.2.2 hp HK.out).mono ?_; rintro e w7 ⟨rfl, b7⟩
           unfold failV
           have hz7 := b7.size
           have st7 := (st6.boxNew (.int .i64 0) (.slice none 0 0) 26).keep b7
           have bx7 := st7.box 0 _ rfl
           obtain ⟨q0', q1'⟩ := bx7.cell2
           have qz' := bx7.2.2))
    all_goals first
      | (
         have _g : Box w7 w6.heap.size [.int .i64 0, .slice none 0 0] := bx7
         have STF := (st7.tailB.set2 (b := w6.heap.size) (i := 0) (j := 1) (u := .int .i64 0) (v := .slice none 0 0) (by omega) (by intro b hb; simp only [List.mem_cons, List.not_mem_nil, or_false] at hb; rcases hb with rfl | rfl | rfl <;> dsimp only <;> omega) (by intro s hs'; simp only [List.mem_cons, List.not_mem_nil, or_false] at hs'; rcases hs' with rfl | rfl <;> dsimp only <;> omega)).addBox w6.heap.size [.int .i64 0, .slice none 0 0] (bx7.set2)
         clear _g bx7 q0' q1' qz'
         clear st7 b7 st6 b6 r6 st2 q0 y0 y1 x6 x6'
         have HDV := Lib.hid (show ¬ dvOk n f g from fun h => HK.out h.1)
         obtain ⟨d0, d1⟩ := (STF.box 1 (w.heap.size + 1 + 1, [.int .i64 0, .slice none 0 0]) rfl).cell2
         have dz := (STF.box 1 (w.heap.size + 1 + 1, [.int .i64 0, .slice none 0 0]) rfl).2.2
         have BB := STF.1
         dsimp only at dz
         clear STF
         go_wp2
         refine bodyPost_ret (v := failV 3) (by simp [results, Try.results93, go_sem, failV, d0, d1]) rfl ?_
         exact ⟨.inr (.inr ⟨HDV.out, rfl⟩), by go_grown⟩)
      | (
         have _g : Box w7 w2.heap.size [.int .i64 0, .slice none 0 0] := bx7
         have STF := (st7.tailB.set2 (b := w2.heap.size) (i := 0) (j := 1) (u := .int .i64 0) (v := .slice none 0 0) (by omega) (by intro b hb; simp only [List.mem_cons, List.not_mem_nil, or_false] at hb; rcases hb with rfl | rfl | rfl <;> dsimp only <;> omega) (by intro s hs'; simp only [List.mem_cons, List.not_mem_nil, or_false] at hs'; rcases hs' with rfl | rfl <;> dsimp only <;> omega)).addBox w2.heap.size [.int .i64 0, .slice none 0 0] (bx7.set2)
         clear _g bx7 q0' q1' qz'
         clear st7 b7 st6 b6 r6 st2 q0 y0 y1 x6 x6'
         have HDV := Lib.hid (show ¬ dvOk n f g from fun h => HK.out h.1)
         obtain ⟨d0, d1⟩ := (STF.box 1 (w.heap.size + 1 + 1, [.int .i64 0, .slice none 0 0]) rfl).cell2
         have dz := (STF.box 1 (w.heap.size + 1 + 1, [.int .i64 0, .slice none 0 0]) rfl).2.2
         have BB := STF.1
         dsimp only at dz
         clear STF
         go_wp2
         refine bodyPost_ret (v := failV 3) (by simp [results, Try.results93, go_sem, failV, d0, d1]) rfl ?_
         exact ⟨.inr (.inr ⟨HDV.out, rfl⟩), by go_grown⟩)
      | (
         have STF := st7.boxNew (.int .i64 0) (.slice none 0 0) 26
         clear st7 b7 st6 b6 r6 st2 q0 y0 y1 x6 x6'
         have HDV := Lib.hid (show ¬ dvOk n f g from fun h => HK.out h.1)
         obtain ⟨d0, d1⟩ := (STF.box 1 (w.heap.size + 1 + 1, [.int .i64 0, .slice none 0 0]) rfl).cell2
         have dz := (STF.box 1 (w.heap.size + 1 + 1, [.int .i64 0, .slice none 0 0]) rfl).2.2
         have BB := STF.1
         dsimp only at dz
         clear STF
         go_wp2
         refine bodyPost_ret (v := failV 3) (by simp [results, Try.results93, go_sem, failV, d0, d1]) rfl ?_
         exact ⟨.inr (.inr ⟨HDV.out, rfl⟩), by go_grown⟩)
end
end Go.Proofs.Ytloalhcloifgjaa
