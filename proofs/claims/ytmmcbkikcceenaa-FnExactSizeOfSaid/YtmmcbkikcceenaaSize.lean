/- SizeOf of the program and of the model. -/
import Derived.Test.YtmmcbkikcceenaaTrace
import Derived.Test.YtmmcbkikcceenaaProdW
import Derived.Test.YtmmcbkikcceenaaTimes
import Derived.Test.YtmmcbkikcceenaaConj
import Derived.Test.YtmmcbkikcceenaaNormZ
import Derived.Deep.RegionLaw
namespace Go.Proofs.Ytmmcbkikcceenaa
open Go.RowKit Go.ChangeShapes Go.Sort
set_option linter.unusedVariables false
set_option linter.unusedSimpArgs false

/-- The product of a number and its conjugate, and its trace. -/
def szP (n L : Nat) (f : Nat → Int) : Nat → Int := prodZ n L f (imgP n (n - 1) L f)
def szZ (n L : Nat) (f : Nat → Int) : Int := trZ n (phiN n) (szP n L f) (phiN n)
def szOk (n L : Nat) (f : Nat → Int) : Prop := Within (szP n L f) (phiN n) 1000000000
theorem sz_cut {n L : Nat} {f : Nat → Int} (hL : L = phiN n) : prodZ n L f (cut (phiN n) (imgP n (n - 1) L f)) = szP n L f := by
  subst hL
  exact pz_congr (fun _ _ => rfl) (fun j hj => by unfold cut; rw [if_pos hj])
theorem sz_cy {n L : Nat} {f : Nat → Int} (h : CyP n L f) (hk : szOk n L f) : CyP n (phiN n) (szP n L f) := ⟨h.1, h.2.1, rfl, hk⟩

section
variable {o : Bool} {lo hi L : Nat} {v : Value} {f : Nat → Int}
theorem SizeOf_impl_bad (x : Int) (w : World) (hs : Sl o w lo hi v L f) (h : ¬ CyP x L f) :
    Calls Try.prog 51 #[.agg #[.int .i64 x, v]] w fun e w' => e = .returned (.tuple #[.int .i64 0, .int .i64 1]) ∧ Below w.heap.size w w' := by
  obtain ⟨av, cap, rfl⟩ := hs.shape
  have st0 := ((((St.start w).addSl ⟨o, lo, hi, .slice av L cap, L, f⟩ hs).alloc (.cells #[.int .i64 x, .slice av L cap] 26)).addBox w.heap.size [.int .i64 x, .slice av L cap] (Box.made _ _ _ _ (fun j v h => by simpa using h)))
  have q0 := st0.sl 0 ⟨o, lo, hi, .slice av L cap, L, f⟩ rfl
  dsimp only at q0
  have HC := Lib.hid h
  clear h hs
  go_enter Try.func51, Try.ntmps51
  go_wp2_with fail
  refine (IsCyclo_no _ _ q0 HC.out).mono ?_
  rintro e w1 ⟨rfl, b1⟩
  clear q0
  have st1 := st0.keep b1
  have hz_w1 := b1.size
  try simp only [World.size_alloc] at hz_w1
  clear st0 b1
  have BB := st1.1
  go_wp2
  refine bodyPost_ret (v := .tuple #[.int .i64 0, .int .i64 1]) (by simp [results, Try.results51, go_sem]) rfl ?_
  exact ⟨rfl, BB⟩

theorem SizeOf_spec_bad (x : Int) (w : World) (hs : Sl o w lo hi v L f) (h : ¬ CyP x L f) :
    Calls Try.prog 52 #[.agg #[.int .i64 x, v]] w fun e w' => e = .returned (.tuple #[.int .i64 0, .int .i64 1]) ∧ Below w.heap.size w w' := by
  obtain ⟨av, cap, rfl⟩ := hs.shape
  have st0 := ((((St.start w).addSl ⟨o, lo, hi, .slice av L cap, L, f⟩ hs).alloc (.cells #[.int .i64 x, .slice av L cap] 26)).addBox w.heap.size [.int .i64 x, .slice av L cap] (Box.made _ _ _ _ (fun j v h => by simpa using h)))
  have q0 := st0.sl 0 ⟨o, lo, hi, .slice av L cap, L, f⟩ rfl
  dsimp only at q0
  have HC := Lib.hid h
  clear h hs
  go_enter Try.func52, Try.ntmps52
  go_wp2_with fail
  refine (l01Is_no _ _ q0 HC.out).mono ?_
  rintro e w1 ⟨rfl, b1⟩
  clear q0
  have st1 := st0.keep b1
  have hz_w1 := b1.size
  try simp only [World.size_alloc] at hz_w1
  clear st0 b1
  have BB := st1.1
  go_wp2
  refine bodyPost_ret (v := .tuple #[.int .i64 0, .int .i64 1]) (by simp [results, Try.results52, go_sem]) rfl ?_
  exact ⟨rfl, BB⟩

set_option maxRecDepth 100000 in
set_option maxHeartbeats 4000000 in
theorem SizeOf_impl_ok (n : Nat) (w : World) (hs : Sl o w lo hi v L f) (h : CyP n L f) (hk : szOk n L f) :
    Calls Try.prog 51 #[.agg #[.int .i64 (n : Int), v]] w fun e w' => e = .returned (.tuple #[.int .i64 (szZ n L f), .int .i64 0]) ∧ Below w.heap.size w w' := by
  have HK := Lib.hid hk
  have HF := Lib.hid h.2.2.2
  have HLP := Lib.hid (show L = phiN n from h.2.2.1)
  have HCP := Lib.hid (sz_cy h hk)
  clear hk
  obtain ⟨av, cap, rfl⟩ := hs.shape
  have hn1 : 1 ≤ n := by have := h.1; omega
  have hn2 : n ≤ 16 := by have := h.2.1; omega
  have hp := phi_le12 n hn2 hn1
  have hL : L ≤ 12 := by have e : L = phiN n := h.2.2.1; omega
  have hpos : 0 < L := by have e : L = phiN n := h.2.2.1; have := phiN_pos n (by omega) hn1; omega
  have hhs := hs.size
  have st0 := ((((St.start w).addSl ⟨o, lo, hi, .slice av L cap, L, f⟩ hs).alloc (.cells #[.int .i64 (n : Int), .slice av L cap] 26)).addBox w.heap.size [.int .i64 (n : Int), .slice av L cap] (Box.made _ _ _ _ (fun j v h => by simpa using h)))
  have q0 := st0.sl 0 ⟨o, lo, hi, .slice av L cap, L, f⟩ rfl
  dsimp only at q0
  have HC := Lib.hid h
  clear h hs
  go_enter Try.func51, Try.ntmps51
  go_wp2_with fail
  refine (IsCyclo_yes _ _ q0 HC.out).mono ?_
  rintro e w1 ⟨rfl, b1⟩
  clear q0
  have st1 := st0.keep b1
  have hz_w1 := b1.size
  try simp only [World.size_alloc] at hz_w1
  clear st0 b1
  obtain ⟨c0, c1⟩ := (st1.box 0 (w.heap.size, [.int .i64 (n : Int), .slice av L cap]) rfl).cell2
  have hp0 := phiN_pos n (by omega) hn1
  have hl0 : w.heap.size < w1.heap.size := by omega
  have HSUB := Lib.hid (show IntKind.i64.wrap ((n : Int) - 1) = ((n - 1 : Nat) : Int) from by rw [IntWalk.i64_in _ (by omega)]; omega)
  have HSUB2 := Lib.hid (show ((n : Int) - 1) = ((n - 1 : Nat) : Int) from by omega)
  have HBI := Lib.hid (img_big (n := n) (a := n - 1) (L := L) (f := f) (by omega) hn1 HF.out hL)
  have q0 := st1.sl 0 ⟨o, lo, hi, .slice av L cap, L, f⟩ rfl
  dsimp only at q0
  have HIM := Lib.hid (imageParts_any n (n - 1) hn1 hn2 (by omega) w1 q0 (by omega))
  have HCB := Lib.hid (show Within (cut (phiN n) (imgP n (n - 1) L f)) 12 12000000000 from fun j _ => by unfold cut; split; exact HBI.out j (by assumption); omega)
  have HCZ := Lib.hid (show ∀ j, L ≤ j → j < 12 → (cut (phiN n) (imgP n (n - 1) L f)) j = 0 from fun j h1 _ => by have := HLP.out; unfold cut; rw [if_neg (by omega)])
  have HSZ := Lib.hid (sz_cut (f := f) HLP.out)
  generalize cut (phiN n) (imgP n (n - 1) L f) = CJ at *
  unfold arrV at HIM
  go_wp2_with (go_at_call 97; first | rw [HSUB.out] | rw [HSUB2.out]; refine HIM.out.mono ?_; rintro e w6 ⟨rfl, b6⟩)
  have hz6 := b6.size
  have S6 := Lib.hid (Sl.arr w6 CJ 65 (fun j hj => by have := HCB.out j hj; unfold inR; omega))
  have st6 := (st1.keep b6).alloc (.cells (arrC CJ) 65)
  have hl6 : w.heap.size < w6.heap.size := by omega
  clear st1 b6 q0 c0 c1 HIM
  unfold arrC at st6 S6
  obtain ⟨c0, c1⟩ := (st6.box 0 (w.heap.size, [.int .i64 (n : Int), .slice av L cap]) rfl).cell2
  have q6 := st6.sl 0 ⟨o, lo, hi, .slice av L cap, L, f⟩ rfl
  dsimp only at q6
  go_wp2_with fail
  go_region_law (first
      | (go_simp; go_at_call 104; refine (productWithin_ok n hn1 hn2 _ q6.drew S6.out.drew (Within.big HF.out) HCB.out (by omega) hL (by omega) HCZ.out (by rw [HSZ.out]; exact HK.out)).mono ?_; try rw [HSZ.out]
         rintro e w7 ⟨a7, k7, rfl, s7, b7⟩
         have hz7 := b7.size
         have st7 := st6.drew.keep b7)
      | (go_simp; go_at_call 104; refine (productWithin_ok n hn1 hn2 _ (q6.alloc (.cells #[.int .i64 0, .slice none 0 0] 26)).drew (S6.out.alloc (.cells #[.int .i64 0, .slice none 0 0] 26)).drew (Within.big HF.out) HCB.out (by omega) hL (by omega) HCZ.out (by rw [HSZ.out]; exact HK.out)).mono ?_; try rw [HSZ.out]
         rintro e w7 ⟨a7, k7, rfl, s7, b7⟩
         have hz7 := b7.size
         have st7 := (st6.boxNew (.int .i64 0) (.slice none 0 0) 26).drew.keep b7
         have bx7 := st7.box 0 _ rfl
         dsimp only at bx7
         simp only [World.size_alloc] at bx7
         obtain ⟨q0', q1'⟩ := bx7.cell2
         have qz' := bx7.2.2))
  all_goals first
    | (have _g := bx7
       simp only [World.size_drew, World.size_alloc] at hz7
       have hb7 : w6.heap.size + 1 < w7.heap.size := by omega
       have W8 := bx7.set2 (u0 := .int .i64 (n : Int)) (u1 := .slice a7 (phiN n) k7)
       have BB := (st7.tailB.set2 (b := w6.heap.size + 1) (i := 0) (j := 1) (u := .int .i64 (n : Int)) (v := .slice a7 (phiN n) k7) (by omega) (by intro b hb; simp only [List.mem_cons, List.not_mem_nil, or_false] at hb; rcases hb with rfl <;> dsimp only <;> omega) (by intro s hs'; simp only [List.mem_cons, List.not_mem_nil, or_false] at hs'; rcases hs' with rfl <;> dsimp only <;> omega)).1
       have c8 := W8.cell2
       have q8 := (s7.setOther (p := ⟨w6.heap.size + 1, 0, none⟩) (.inl (by show w6.heap.size + 1 < ((w6.alloc _).alloc _).heap.size; simp only [World.size_alloc]; omega)) (.int .i64 (n : Int))).setOther (p := ⟨w6.heap.size + 1, 1, none⟩) (.inl (by show w6.heap.size + 1 < ((w6.alloc _).alloc _).heap.size; simp only [World.size_alloc]; omega)) (.slice a7 (phiN n) k7)
       have c8a := c8.1
       have c8b := c8.2
       clear st7 b7 st6 S6 c8
       go_wp2_with fail
       refine (TraceOf_impl_ok n _ q8 HCP.out).mono ?_
       rintro e w9 ⟨rfl, b9⟩
       have BB9 := BB.trans (b9.mono BB.size)
       clear q8 c8a c8b b9 BB
       go_wp2
       go_ret2
       exact ⟨rfl, BB9⟩)
    | (have st8 := st7.boxNew (.int .i64 (n : Int)) (.slice a7 (phiN n) k7) 26
       have c8 := (st8.box 0 (w7.heap.size, [.int .i64 (n : Int), .slice a7 (phiN n) k7]) rfl).cell2
       have BB := st8.1
       have q8 := s7.alloc (.cells #[.int .i64 (n : Int), .slice a7 (phiN n) k7] 26)
       clear st8
       have c8a := c8.1
       have c8b := c8.2
       clear st7 b7 st6 S6 c8
       go_wp2_with fail
       refine (TraceOf_impl_ok n _ q8 HCP.out).mono ?_
       rintro e w9 ⟨rfl, b9⟩
       have BB9 := BB.trans (b9.mono BB.size)
       clear q8 c8a c8b b9 BB
       go_wp2
       go_ret2
       exact ⟨rfl, BB9⟩)

set_option maxRecDepth 100000 in
set_option maxHeartbeats 4000000 in
theorem SizeOf_impl_big (n : Nat) (w : World) (hs : Sl o w lo hi v L f) (h : CyP n L f) (hk : ¬ szOk n L f) :
    Calls Try.prog 51 #[.agg #[.int .i64 (n : Int), v]] w fun e w' => e = .returned (.tuple #[.int .i64 0, .int .i64 3]) ∧ Below w.heap.size w w' := by
  have HK := Lib.hid hk
  have HF := Lib.hid h.2.2.2
  have HLP := Lib.hid (show L = phiN n from h.2.2.1)
  clear hk
  obtain ⟨av, cap, rfl⟩ := hs.shape
  have hn1 : 1 ≤ n := by have := h.1; omega
  have hn2 : n ≤ 16 := by have := h.2.1; omega
  have hp := phi_le12 n hn2 hn1
  have hL : L ≤ 12 := by have e : L = phiN n := h.2.2.1; omega
  have hpos : 0 < L := by have e : L = phiN n := h.2.2.1; have := phiN_pos n (by omega) hn1; omega
  have hhs := hs.size
  have st0 := ((((St.start w).addSl ⟨o, lo, hi, .slice av L cap, L, f⟩ hs).alloc (.cells #[.int .i64 (n : Int), .slice av L cap] 26)).addBox w.heap.size [.int .i64 (n : Int), .slice av L cap] (Box.made _ _ _ _ (fun j v h => by simpa using h)))
  have q0 := st0.sl 0 ⟨o, lo, hi, .slice av L cap, L, f⟩ rfl
  dsimp only at q0
  have HC := Lib.hid h
  clear h hs
  go_enter Try.func51, Try.ntmps51
  go_wp2_with fail
  refine (IsCyclo_yes _ _ q0 HC.out).mono ?_
  rintro e w1 ⟨rfl, b1⟩
  clear q0
  have st1 := st0.keep b1
  have hz_w1 := b1.size
  try simp only [World.size_alloc] at hz_w1
  clear st0 b1
  obtain ⟨c0, c1⟩ := (st1.box 0 (w.heap.size, [.int .i64 (n : Int), .slice av L cap]) rfl).cell2
  have hp0 := phiN_pos n (by omega) hn1
  have hl0 : w.heap.size < w1.heap.size := by omega
  have HSUB := Lib.hid (show IntKind.i64.wrap ((n : Int) - 1) = ((n - 1 : Nat) : Int) from by rw [IntWalk.i64_in _ (by omega)]; omega)
  have HSUB2 := Lib.hid (show ((n : Int) - 1) = ((n - 1 : Nat) : Int) from by omega)
  have HBI := Lib.hid (img_big (n := n) (a := n - 1) (L := L) (f := f) (by omega) hn1 HF.out hL)
  have q0 := st1.sl 0 ⟨o, lo, hi, .slice av L cap, L, f⟩ rfl
  dsimp only at q0
  have HIM := Lib.hid (imageParts_any n (n - 1) hn1 hn2 (by omega) w1 q0 (by omega))
  have HCB := Lib.hid (show Within (cut (phiN n) (imgP n (n - 1) L f)) 12 12000000000 from fun j _ => by unfold cut; split; exact HBI.out j (by assumption); omega)
  have HCZ := Lib.hid (show ∀ j, L ≤ j → j < 12 → (cut (phiN n) (imgP n (n - 1) L f)) j = 0 from fun j h1 _ => by have := HLP.out; unfold cut; rw [if_neg (by omega)])
  have HSZ := Lib.hid (sz_cut (f := f) HLP.out)
  generalize cut (phiN n) (imgP n (n - 1) L f) = CJ at *
  unfold arrV at HIM
  go_wp2_with (go_at_call 97; first | rw [HSUB.out] | rw [HSUB2.out]; refine HIM.out.mono ?_; rintro e w6 ⟨rfl, b6⟩)
  have hz6 := b6.size
  have S6 := Lib.hid (Sl.arr w6 CJ 65 (fun j hj => by have := HCB.out j hj; unfold inR; omega))
  have st6 := (st1.keep b6).alloc (.cells (arrC CJ) 65)
  have hl6 : w.heap.size < w6.heap.size := by omega
  clear st1 b6 q0 c0 c1 HIM
  unfold arrC at st6 S6
  obtain ⟨c0, c1⟩ := (st6.box 0 (w.heap.size, [.int .i64 (n : Int), .slice av L cap]) rfl).cell2
  have q6 := st6.sl 0 ⟨o, lo, hi, .slice av L cap, L, f⟩ rfl
  dsimp only at q6
  go_wp2_with fail
  go_region_law (first
      | (go_simp; go_at_call 104; refine (productWithin_big n hn1 hn2 _ q6.drew S6.out.drew (Within.big HF.out) HCB.out (by omega) hL (by omega) HCZ.out (by rw [HSZ.out]; exact HK.out)).mono ?_; try rw [HSZ.out]
         rintro e w7 ⟨rfl, b7⟩
         unfold failV
         have hz7 := b7.size
         have st7 := st6.drew.keep b7)
      | (go_simp; go_at_call 104; refine (productWithin_big n hn1 hn2 _ (q6.alloc (.cells #[.int .i64 0, .slice none 0 0] 26)).drew (S6.out.alloc (.cells #[.int .i64 0, .slice none 0 0] 26)).drew (Within.big HF.out) HCB.out (by omega) hL (by omega) HCZ.out (by rw [HSZ.out]; exact HK.out)).mono ?_; try rw [HSZ.out]
         rintro e w7 ⟨rfl, b7⟩
         unfold failV
         have hz7 := b7.size
         have st7 := (st6.boxNew (.int .i64 0) (.slice none 0 0) 26).drew.keep b7
         have bx7 := st7.box 0 _ rfl
         dsimp only at bx7
         simp only [World.size_alloc] at bx7
         obtain ⟨q0', q1'⟩ := bx7.cell2
         have qz' := bx7.2.2))
  all_goals first
    | (have _g := bx7
       simp only [World.size_drew, World.size_alloc] at hz7
       have hb7 : w6.heap.size + 1 < w7.heap.size := by omega
       have W8 := bx7.set2 (u0 := .int .i64 0) (u1 := .slice none 0 0)
       have BB := (st7.tailB.set2 (b := w6.heap.size + 1) (i := 0) (j := 1) (u := .int .i64 0) (v := .slice none 0 0) (by omega) (by intro b hb; simp only [List.mem_cons, List.not_mem_nil, or_false] at hb; rcases hb with rfl <;> dsimp only <;> omega) (by intro s hs'; simp only [List.mem_cons, List.not_mem_nil, or_false] at hs'; rcases hs' with rfl <;> dsimp only <;> omega)).1
       have c8 := W8.cell2
       clear st7 b7 st6 S6 c8
       go_wp2
       go_ret2
       exact ⟨rfl, BB⟩)
    | (have st8 := st7.boxNew (.int .i64 0) (.slice none 0 0) 26
       have c8 := (st8.box 0 (w7.heap.size, [.int .i64 0, .slice none 0 0]) rfl).cell2
       have BB := st8.1
       clear st8
       clear st7 b7 st6 S6 c8
       go_wp2
       go_ret2
       exact ⟨rfl, BB⟩)

set_option maxRecDepth 100000 in
set_option maxHeartbeats 4000000 in
theorem SizeOf_spec_ok (n : Nat) (w : World) (hs : Sl o w lo hi v L f) (h : CyP n L f) (hk : szOk n L f) :
    Calls Try.prog 52 #[.agg #[.int .i64 (n : Int), v]] w fun e w' => e = .returned (.tuple #[.int .i64 (szZ n L f), .int .i64 0]) ∧ Below w.heap.size w w' := by
  have HK := Lib.hid hk
  have HF := Lib.hid h.2.2.2
  have hLP : L = phiN n := h.2.2.1
  have HCP := Lib.hid (sz_cy h hk)
  clear hk
  subst hLP
  obtain ⟨av, cap, rfl⟩ := hs.shape
  have hn1 : 1 ≤ n := by have := h.1; omega
  have hn2 : n ≤ 16 := by have := h.2.1; omega
  have hp := phi_le12 n hn2 hn1
  have hL : phiN n ≤ 12 := by have e : phiN n = phiN n := h.2.2.1; omega
  have hpos : 0 < phiN n := by have e : phiN n = phiN n := h.2.2.1; have := phiN_pos n (by omega) hn1; omega
  have hhs := hs.size
  have st0 := ((((St.start w).addSl ⟨o, lo, hi, .slice av (phiN n) cap, phiN n, f⟩ hs).alloc (.cells #[.int .i64 (n : Int), .slice av (phiN n) cap] 26)).addBox w.heap.size [.int .i64 (n : Int), .slice av (phiN n) cap] (Box.made _ _ _ _ (fun j v h => by simpa using h)))
  have q0 := st0.sl 0 ⟨o, lo, hi, .slice av (phiN n) cap, phiN n, f⟩ rfl
  dsimp only at q0
  have HC := Lib.hid h
  clear h hs
  go_enter Try.func52, Try.ntmps52
  go_wp2_with fail
  refine (l01Is_yes _ _ q0 HC.out).mono ?_
  rintro e w1 ⟨rfl, b1⟩
  clear q0
  have st1 := st0.keep b1
  have hz_w1 := b1.size
  try simp only [World.size_alloc] at hz_w1
  clear st0 b1
  obtain ⟨c0, c1⟩ := (st1.box 0 (w.heap.size, [.int .i64 (n : Int), .slice av (phiN n) cap]) rfl).cell2
  have hp0 := phiN_pos n (by omega) hn1
  have hle := phi_le_n (n := n)
  have hl0 : w.heap.size < w1.heap.size := by omega
  have HBI := Lib.hid (img_big (n := n) (a := n - 1) (L := phiN n) (f := f) (by omega) hn1 HF.out hL)
  have q0 := st1.sl 0 ⟨o, lo, hi, .slice av (phiN n) cap, phiN n, f⟩ rfl
  dsimp only at q0
  go_wp2_with fail
  go_region_law (first
      | (go_simp; go_at_call 105; refine (l01Bar_any n hn1 hn2 _ q0.drew hle).mono ?_; rintro e w6 ⟨a6, k6, rfl, s6, b6⟩
         have hz6 := b6.size
         have st6 := st1.drew.keep b6
         obtain ⟨x6, x6'⟩ := (st6.box 0 (w.heap.size, [.int .i64 (n : Int), .slice av (phiN n) cap]) rfl).cell2
         have hl6 : w.heap.size < w6.heap.size := by simp only [World.size_drew, World.size_alloc] at hz6; omega)
      | (go_simp; go_at_call 105; refine (l01Bar_any n hn1 hn2 _ (q0.alloc (.cells #[.int .i64 0, .slice none 0 0] 26)).drew hle).mono ?_; rintro e w6 ⟨a6, k6, rfl, s6, b6⟩
         have hz6 := b6.size
         have st6 := (st1.boxNew (.int .i64 0) (.slice none 0 0) 26).drew.keep b6
         have bx6 := st6.box 0 _ rfl
         obtain ⟨x6, x6'⟩ := (st6.box 1 (w.heap.size, [.int .i64 (n : Int), .slice av (phiN n) cap]) rfl).cell2
         have hl6 : w.heap.size < w6.heap.size := by simp only [World.size_drew, World.size_alloc] at hz6; omega)
      | (go_simp; go_at_call 125; have _g := bx6; refine (l01Times_any n hn1 hn2 (L := phiN n) _ (st6.sl 0 _ rfl) s6 (Within.big HF.out) HBI.out (by omega) hL).mono ?_; rintro e w7 ⟨a7, k7, bb, rfl, hbb, s7, b7⟩
         obtain rfl : bb = true := hbb.2 HK.out
         clear hbb
         have hz7 := b7.size
         have st7 := st6.keep b7
         have bx7 := bx6.keep b7
         try dsimp only at bx7
         try simp only [World.size_alloc] at bx7
         obtain ⟨q0', q1'⟩ := bx7.cell2
         have qz' := bx7.2.2)
      | (go_simp; go_at_call 125; have _g := b6; refine (l01Times_any n hn1 hn2 (L := phiN n) _ (st6.sl 0 _ rfl) s6 (Within.big HF.out) HBI.out (by omega) hL).mono ?_; rintro e w7 ⟨a7, k7, bb, rfl, hbb, s7, b7⟩
         obtain rfl : bb = true := hbb.2 HK.out
         clear hbb
         have hz7 := b7.size
         have st7 := st6.keep b7)
      | (go_simp; go_at_call 125; have _g := b6; refine (l01Times_any n hn1 hn2 (L := phiN n) _ ((st6.sl 0 _ rfl).alloc (.cells #[.int .i64 0, .slice none 0 0] 26)) (s6.alloc (.cells #[.int .i64 0, .slice none 0 0] 26)) (Within.big HF.out) HBI.out (by omega) hL).mono ?_; rintro e w7 ⟨a7, k7, bb, rfl, hbb, s7, b7⟩
         obtain rfl : bb = true := hbb.2 HK.out
         clear hbb
         have hz7 := b7.size
         have st7 := (st6.boxNew (.int .i64 0) (.slice none 0 0) 26).keep b7
         have bx7 := st7.box 0 _ rfl
         try dsimp only at bx7
         try simp only [World.size_alloc] at bx7
         obtain ⟨q0', q1'⟩ := bx7.cell2
         have qz' := bx7.2.2))
  all_goals first
    | (have _g : Box w7 w6.heap.size [.int .i64 0, .slice none 0 0] := bx7
       have W8 := bx7.set2 (u0 := .int .i64 (n : Int)) (u1 := .slice a7 (phiN n) k7)
       have c8 := W8.cell2
       have BB := (st7.tailB.set2 (b := w6.heap.size) (i := 0) (j := 1) (u := .int .i64 (n : Int)) (v := .slice a7 (phiN n) k7) (by omega) (by intro b hb; simp only [List.mem_cons, List.not_mem_nil, or_false] at hb; rcases hb with rfl <;> dsimp only <;> omega) (by intro s hs'; simp only [List.mem_cons, List.not_mem_nil, or_false] at hs'; rcases hs' with rfl <;> dsimp only <;> omega)).1
       have q8 := ((s7 rfl).setOther (p := ⟨w6.heap.size, 0, none⟩) (.inl (by show w6.heap.size < (w6.alloc _).heap.size; rw [World.size_alloc]; omega)) (.int .i64 (n : Int))).setOther (p := ⟨w6.heap.size, 1, none⟩) (.inl (by show w6.heap.size < (w6.alloc _).heap.size; rw [World.size_alloc]; omega)) (.slice a7 (phiN n) k7)
       have c8a := c8.1
       have c8b := c8.2
       clear st7 b7 st6 b6 s6 st1 q0 c8
       go_wp2_with fail
       refine (l02Trace_any n _ q8 HCP.out).mono ?_
       rintro e w9 ⟨rfl, b9⟩
       have BB9 := BB.trans (b9.mono BB.size)
       clear q8 c8a c8b b9 BB
       go_wp2
       go_ret2
       exact ⟨rfl, BB9⟩)
    | (have _g : Box w7 w1.heap.size [.int .i64 0, .slice none 0 0] := bx7
       have W8 := bx7.set2 (u0 := .int .i64 (n : Int)) (u1 := .slice a7 (phiN n) k7)
       have c8 := W8.cell2
       have BB := (st7.tailB.set2 (b := w1.heap.size) (i := 0) (j := 1) (u := .int .i64 (n : Int)) (v := .slice a7 (phiN n) k7) (by omega) (by intro b hb; simp only [List.mem_cons, List.not_mem_nil, or_false] at hb; rcases hb with rfl <;> dsimp only <;> omega) (by intro s hs'; simp only [List.mem_cons, List.not_mem_nil, or_false] at hs'; rcases hs' with rfl <;> dsimp only <;> omega)).1
       have q8 := ((s7 rfl).setOther (p := ⟨w1.heap.size, 0, none⟩) (.inl (by show w1.heap.size < w6.heap.size; simp only [World.size_drew, World.size_alloc] at hz6; omega)) (.int .i64 (n : Int))).setOther (p := ⟨w1.heap.size, 1, none⟩) (.inl (by show w1.heap.size < w6.heap.size; simp only [World.size_drew, World.size_alloc] at hz6; omega)) (.slice a7 (phiN n) k7)
       have c8a := c8.1
       have c8b := c8.2
       clear st7 b7 st6 b6 s6 st1 q0 c8
       go_wp2_with fail
       refine (l02Trace_any n _ q8 HCP.out).mono ?_
       rintro e w9 ⟨rfl, b9⟩
       have BB9 := BB.trans (b9.mono BB.size)
       clear q8 c8a c8b b9 BB
       go_wp2
       go_ret2
       exact ⟨rfl, BB9⟩)
    | (have st8 := st7.boxNew (.int .i64 (n : Int)) (.slice a7 (phiN n) k7) 26
       have c8 := (st8.box 0 (w7.heap.size, [.int .i64 (n : Int), .slice a7 (phiN n) k7]) rfl).cell2
       have BB := st8.1
       have q8 := (s7 rfl).alloc (.cells #[.int .i64 (n : Int), .slice a7 (phiN n) k7] 26)
       have c8a := c8.1
       have c8b := c8.2
       clear st8 st7 b7 st6 b6 s6 st1 q0 c8
       go_wp2_with fail
       refine (l02Trace_any n _ q8 HCP.out).mono ?_
       rintro e w9 ⟨rfl, b9⟩
       have BB9 := BB.trans (b9.mono BB.size)
       clear q8 c8a c8b b9 BB
       go_wp2
       go_ret2
       exact ⟨rfl, BB9⟩)

set_option maxRecDepth 100000 in
set_option maxHeartbeats 4000000 in
theorem SizeOf_spec_big (n : Nat) (w : World) (hs : Sl o w lo hi v L f) (h : CyP n L f) (hk : ¬ szOk n L f) :
    Calls Try.prog 52 #[.agg #[.int .i64 (n : Int), v]] w fun e w' => e = .returned (.tuple #[.int .i64 0, .int .i64 3]) ∧ Below w.heap.size w w' := by
  have HK := Lib.hid hk
  have HF := Lib.hid h.2.2.2
  have hLP : L = phiN n := h.2.2.1
  clear hk
  subst hLP
  obtain ⟨av, cap, rfl⟩ := hs.shape
  have hn1 : 1 ≤ n := by have := h.1; omega
  have hn2 : n ≤ 16 := by have := h.2.1; omega
  have hp := phi_le12 n hn2 hn1
  have hL : phiN n ≤ 12 := by have e : phiN n = phiN n := h.2.2.1; omega
  have hpos : 0 < phiN n := by have e : phiN n = phiN n := h.2.2.1; have := phiN_pos n (by omega) hn1; omega
  have hhs := hs.size
  have st0 := ((((St.start w).addSl ⟨o, lo, hi, .slice av (phiN n) cap, phiN n, f⟩ hs).alloc (.cells #[.int .i64 (n : Int), .slice av (phiN n) cap] 26)).addBox w.heap.size [.int .i64 (n : Int), .slice av (phiN n) cap] (Box.made _ _ _ _ (fun j v h => by simpa using h)))
  have q0 := st0.sl 0 ⟨o, lo, hi, .slice av (phiN n) cap, phiN n, f⟩ rfl
  dsimp only at q0
  have HC := Lib.hid h
  clear h hs
  go_enter Try.func52, Try.ntmps52
  go_wp2_with fail
  refine (l01Is_yes _ _ q0 HC.out).mono ?_
  rintro e w1 ⟨rfl, b1⟩
  clear q0
  have st1 := st0.keep b1
  have hz_w1 := b1.size
  try simp only [World.size_alloc] at hz_w1
  clear st0 b1
  obtain ⟨c0, c1⟩ := (st1.box 0 (w.heap.size, [.int .i64 (n : Int), .slice av (phiN n) cap]) rfl).cell2
  have hp0 := phiN_pos n (by omega) hn1
  have hle := phi_le_n (n := n)
  have hl0 : w.heap.size < w1.heap.size := by omega
  have HBI := Lib.hid (img_big (n := n) (a := n - 1) (L := phiN n) (f := f) (by omega) hn1 HF.out hL)
  have q0 := st1.sl 0 ⟨o, lo, hi, .slice av (phiN n) cap, phiN n, f⟩ rfl
  dsimp only at q0
  go_wp2_with fail
  go_region_law (first
      | (go_simp; go_at_call 105; refine (l01Bar_any n hn1 hn2 _ q0.drew hle).mono ?_; rintro e w6 ⟨a6, k6, rfl, s6, b6⟩
         have hz6 := b6.size
         have st6 := st1.drew.keep b6
         obtain ⟨x6, x6'⟩ := (st6.box 0 (w.heap.size, [.int .i64 (n : Int), .slice av (phiN n) cap]) rfl).cell2
         have hl6 : w.heap.size < w6.heap.size := by simp only [World.size_drew, World.size_alloc] at hz6; omega)
      | (go_simp; go_at_call 105; refine (l01Bar_any n hn1 hn2 _ (q0.alloc (.cells #[.int .i64 0, .slice none 0 0] 26)).drew hle).mono ?_; rintro e w6 ⟨a6, k6, rfl, s6, b6⟩
         have hz6 := b6.size
         have st6 := (st1.boxNew (.int .i64 0) (.slice none 0 0) 26).drew.keep b6
         have bx6 := st6.box 0 _ rfl
         obtain ⟨x6, x6'⟩ := (st6.box 1 (w.heap.size, [.int .i64 (n : Int), .slice av (phiN n) cap]) rfl).cell2
         have hl6 : w.heap.size < w6.heap.size := by simp only [World.size_drew, World.size_alloc] at hz6; omega)
      | (go_simp; go_at_call 125; have _g := bx6; refine (l01Times_any n hn1 hn2 (L := phiN n) _ (st6.sl 0 _ rfl) s6 (Within.big HF.out) HBI.out (by omega) hL).mono ?_; rintro e w7 ⟨a7, k7, bb, rfl, hbb, s7, b7⟩
         obtain rfl : bb = false := by cases bb with | false => rfl | true => exact absurd (hbb.1 rfl) HK.out
         clear hbb s7
         have hz7 := b7.size
         have st7 := st6.keep b7
         have bx7 := bx6.keep b7
         try dsimp only at bx7
         try simp only [World.size_alloc] at bx7
         obtain ⟨q0', q1'⟩ := bx7.cell2
         have qz' := bx7.2.2)
      | (go_simp; go_at_call 125; have _g := b6; refine (l01Times_any n hn1 hn2 (L := phiN n) _ (st6.sl 0 _ rfl) s6 (Within.big HF.out) HBI.out (by omega) hL).mono ?_; rintro e w7 ⟨a7, k7, bb, rfl, hbb, s7, b7⟩
         obtain rfl : bb = false := by cases bb with | false => rfl | true => exact absurd (hbb.1 rfl) HK.out
         clear hbb s7
         have hz7 := b7.size
         have st7 := st6.keep b7)
      | (go_simp; go_at_call 125; have _g := b6; refine (l01Times_any n hn1 hn2 (L := phiN n) _ ((st6.sl 0 _ rfl).alloc (.cells #[.int .i64 0, .slice none 0 0] 26)) (s6.alloc (.cells #[.int .i64 0, .slice none 0 0] 26)) (Within.big HF.out) HBI.out (by omega) hL).mono ?_; rintro e w7 ⟨a7, k7, bb, rfl, hbb, s7, b7⟩
         obtain rfl : bb = false := by cases bb with | false => rfl | true => exact absurd (hbb.1 rfl) HK.out
         clear hbb s7
         have hz7 := b7.size
         have st7 := (st6.boxNew (.int .i64 0) (.slice none 0 0) 26).keep b7
         have bx7 := st7.box 0 _ rfl
         try dsimp only at bx7
         try simp only [World.size_alloc] at bx7
         obtain ⟨q0', q1'⟩ := bx7.cell2
         have qz' := bx7.2.2))
  all_goals first
    | (have _g : Box w7 w6.heap.size [.int .i64 0, .slice none 0 0] := bx7
       have W8 := bx7.set2 (u0 := .int .i64 (n : Int)) (u1 := .slice a7 (phiN n) k7)
       have c8 := W8.cell2
       have BB := (st7.tailB.set2 (b := w6.heap.size) (i := 0) (j := 1) (u := .int .i64 (n : Int)) (v := .slice a7 (phiN n) k7) (by omega) (by intro b hb; simp only [List.mem_cons, List.not_mem_nil, or_false] at hb; rcases hb with rfl <;> dsimp only <;> omega) (by intro s hs'; simp only [List.mem_cons, List.not_mem_nil, or_false] at hs'; rcases hs' with rfl <;> dsimp only <;> omega)).1
       clear st7 b7 st6 b6 s6 st1 q0 c8
       go_wp2
       go_ret2
       exact ⟨rfl, BB⟩)
    | (have _g : Box w7 w1.heap.size [.int .i64 0, .slice none 0 0] := bx7
       have W8 := bx7.set2 (u0 := .int .i64 (n : Int)) (u1 := .slice a7 (phiN n) k7)
       have c8 := W8.cell2
       have BB := (st7.tailB.set2 (b := w1.heap.size) (i := 0) (j := 1) (u := .int .i64 (n : Int)) (v := .slice a7 (phiN n) k7) (by omega) (by intro b hb; simp only [List.mem_cons, List.not_mem_nil, or_false] at hb; rcases hb with rfl <;> dsimp only <;> omega) (by intro s hs'; simp only [List.mem_cons, List.not_mem_nil, or_false] at hs'; rcases hs' with rfl <;> dsimp only <;> omega)).1
       clear st7 b7 st6 b6 s6 st1 q0 c8
       go_wp2
       go_ret2
       exact ⟨rfl, BB⟩)
    | (have st8 := st7.boxNew (.int .i64 (n : Int)) (.slice a7 (phiN n) k7) 26
       have c8 := (st8.box 0 (w7.heap.size, [.int .i64 (n : Int), .slice a7 (phiN n) k7]) rfl).cell2
       have BB := st8.1
       clear st8 st7 b7 st6 b6 s6 st1 q0 c8
       go_wp2
       go_ret2
       exact ⟨rfl, BB⟩)

end
end Go.Proofs.Ytmmcbkikcceenaa
