/- IsRing and TotalOfRing of the program and of the model. -/
import Derived.Test.YtnhpodlcgkgpbaaRgX
namespace Go.Proofs.Ytnhpodlcgkgpbaa
open Go.RowKit Go.ChangeShapes Go.Sort
set_option linter.unusedVariables false
set_option linter.unusedSimpArgs false
set_option maxRecDepth 100000
set_option maxHeartbeats 2000000
section
variable {o : Bool} {lo hi n : Nat} {v : Value} {f : Nat → Int}
theorem IsRing_impl_yes (N : Nat) (w : World) (hs : Sl o w lo hi v n f) (h : RgP N n f) :
    Calls Try.prog 28 #[.agg #[.int .i64 (N : Int), v]] w fun e w' => e = .returned (.bool true) ∧ Below w.heap.size w w' := by
  have hm := hs.len
  unfold maxLen at hm
  obtain ⟨a, cap, rfl⟩ := hs.shape
  have st := ((St.start w).addSl ⟨o, lo, hi, .slice a n cap, n, f⟩ hs)
  have hhs := hs.size
  replace st := (st.alloc (.cells #[.int .i64 (N : Int), .slice a n cap] 28)).addBox w.heap.size [.int .i64 (N : Int), .slice a n cap] (Box.made _ _ _ _ (fun j v h => by simpa using h))
  have H := Lib.hid h
  clear h hs
  obtain ⟨c0, c1⟩ := (st.box 0 (w.heap.size, [.int .i64 (N : Int), .slice a n cap]) rfl).cell2
  go_enter Try.func28, Try.ntmps28
  go_wp2_with (first
    | (go_at_call 104; refine (openRing_ok N _ (st.sl 0 ⟨o, lo, hi, .slice a n cap, n, f⟩ rfl) H.out).mono ?_; rintro e w1 ⟨rfl, b1⟩
       have hz1 := Lib.hid (show w.heap.size ≤ w1.heap.size from by have := b1.size; simp only [World.size_alloc] at this; omega)
       replace st := st.keep b1
       clear b1)
    | (refine wpList_allocE rfl rfl ?_; intro w2 x2 b2 z2
       replace st := (st.keep b2).addBox _ _ x2
       have B2 := st.box 0 (w1.heap.size, elL 0 (fun _ => 0)) rfl
       have hz := Lib.hid st.1.size
       dsimp only at B2
       clear x2 b2 z2)
    | (refine wpList_storeE rfl _ _ rfl w1.heap.size rfl (m := N) (F := (opR N f (phiN N))) rfl B2 elL_len ?_; intro w3 x3 f3
       have sz3 := Lib.hid f3.size
       have B3 := x3
       have bb := st.1.trans (f3.below hz1.out st.1.size)
       clear x3 f3))
  go_ret
  exact ⟨rfl, bb⟩
theorem IsRing_spec_yes (N : Nat) (w : World) (hs : Sl o w lo hi v n f) (h : RgP N n f) :
    Calls Try.prog 29 #[.agg #[.int .i64 (N : Int), v]] w fun e w' => e = .returned (.bool true) ∧ Below w.heap.size w w' := by
  have hm := hs.len
  unfold maxLen at hm
  obtain ⟨a, cap, rfl⟩ := hs.shape
  have st := ((St.start w).addSl ⟨o, lo, hi, .slice a n cap, n, f⟩ hs)
  have hhs := hs.size
  replace st := (st.alloc (.cells #[.int .i64 (N : Int), .slice a n cap] 28)).addBox w.heap.size [.int .i64 (N : Int), .slice a n cap] (Box.made _ _ _ _ (fun j v h => by simpa using h))
  have H := Lib.hid h
  clear h hs
  obtain ⟨c0, c1⟩ := (st.box 0 (w.heap.size, [.int .i64 (N : Int), .slice a n cap]) rfl).cell2
  go_enter Try.func29, Try.ntmps29
  go_wp2_with (first
    | (go_at_call 90; refine (l10Is_yes N _ (st.sl 0 ⟨o, lo, hi, .slice a n cap, n, f⟩ rfl) H.out).mono ?_; rintro e w1 ⟨rfl, b1⟩
       replace st := st.keep b1))
  have BB := st.1
  go_ret
  exact ⟨rfl, BB⟩
theorem IsRing_impl_no (x : Int) (w : World) (hs : Sl o w lo hi v n f) (h : ¬ RgP x n f) :
    Calls Try.prog 28 #[.agg #[.int .i64 x, v]] w fun e w' => e = .returned (.bool false) ∧ Below w.heap.size w w' := by
  have hm := hs.len
  unfold maxLen at hm
  obtain ⟨a, cap, rfl⟩ := hs.shape
  have st := ((St.start w).addSl ⟨o, lo, hi, .slice a n cap, n, f⟩ hs)
  have hhs := hs.size
  replace st := (st.alloc (.cells #[.int .i64 x, .slice a n cap] 28)).addBox w.heap.size [.int .i64 x, .slice a n cap] (Box.made _ _ _ _ (fun j v h => by simpa using h))
  have H := Lib.hid h
  clear h hs
  obtain ⟨c0, c1⟩ := (st.box 0 (w.heap.size, [.int .i64 x, .slice a n cap]) rfl).cell2
  go_enter Try.func28, Try.ntmps28
  go_wp2_with (first
    | (go_at_call 104; refine (openRing_bad x _ (st.sl 0 ⟨o, lo, hi, .slice a n cap, n, f⟩ rfl) H.out).mono ?_; rintro e w1 ⟨rfl, b1⟩
       have hz1 := Lib.hid (show w.heap.size ≤ w1.heap.size from by have := b1.size; simp only [World.size_alloc] at this; omega)
       replace st := st.keep b1
       clear b1)
    | (refine wpList_allocE rfl rfl ?_; intro w2 x2 b2 z2
       replace st := (st.keep b2).addBox _ _ x2
       have B2 := st.box 0 (w1.heap.size, elL 0 (fun _ => 0)) rfl
       have hz := Lib.hid st.1.size
       dsimp only at B2
       clear x2 b2 z2)
    | (refine wpList_storeE rfl _ _ rfl w1.heap.size rfl (m := 0) (F := (fun _ => 0)) rfl B2 elL_len ?_; intro w3 x3 f3
       have sz3 := Lib.hid f3.size
       have B3 := x3
       have bb := st.1.trans (f3.below hz1.out st.1.size)
       clear x3 f3))
  go_ret
  exact ⟨rfl, bb⟩
theorem IsRing_spec_no (x : Int) (w : World) (hs : Sl o w lo hi v n f) (h : ¬ RgP x n f) :
    Calls Try.prog 29 #[.agg #[.int .i64 x, v]] w fun e w' => e = .returned (.bool false) ∧ Below w.heap.size w w' := by
  have hm := hs.len
  unfold maxLen at hm
  obtain ⟨a, cap, rfl⟩ := hs.shape
  have st := ((St.start w).addSl ⟨o, lo, hi, .slice a n cap, n, f⟩ hs)
  have hhs := hs.size
  replace st := (st.alloc (.cells #[.int .i64 x, .slice a n cap] 28)).addBox w.heap.size [.int .i64 x, .slice a n cap] (Box.made _ _ _ _ (fun j v h => by simpa using h))
  have H := Lib.hid h
  clear h hs
  obtain ⟨c0, c1⟩ := (st.box 0 (w.heap.size, [.int .i64 x, .slice a n cap]) rfl).cell2
  go_enter Try.func29, Try.ntmps29
  go_wp2_with (first
    | (go_at_call 90; refine (l10Is_no x _ (st.sl 0 ⟨o, lo, hi, .slice a n cap, n, f⟩ rfl) H.out).mono ?_; rintro e w1 ⟨rfl, b1⟩
       replace st := st.keep b1))
  have BB := st.1
  go_ret
  exact ⟨rfl, BB⟩
theorem TotalOfRing_impl_ok (N : Nat) (w : World) (hs : Sl o w lo hi v n f) (h : RgP N n f) :
    Calls Try.prog 37 #[.agg #[.int .i64 (N : Int), v]] w fun e w' => e = .returned (.tuple #[.int .i64 (sumN n f), .int .i64 0]) ∧ Below w.heap.size w w' := by
  have hm := hs.len
  unfold maxLen at hm
  obtain ⟨a, cap, rfl⟩ := hs.shape
  have st := ((St.start w).addSl ⟨o, lo, hi, .slice a n cap, n, f⟩ hs)
  have hhs := hs.size
  replace st := (st.alloc (.cells #[.int .i64 (N : Int), .slice a n cap] 28)).addBox w.heap.size [.int .i64 (N : Int), .slice a n cap] (Box.made _ _ _ _ (fun j v h => by simpa using h))
  have HSUM := Lib.hid (show sumN 40 (opR N f (phiN N)) = sumN n f by
    have e : n = phiN N := h.2.2.1
    rw [opR_sum (n := N) (by have := h.2.1; omega) (by have := h.1; omega) (Nat.le_refl _), ← e])
  have HT := Lib.hid (fun w' => total_any (N : Int) (opR N f (phiN N)) w' (fun j _ => opR_bd (by omega) (by have e : n = phiN N := h.2.2.1; rw [← e]; exact h.2.2.2) j))
  rw [HSUM.out] at HT
  have H := Lib.hid h
  clear h hs
  obtain ⟨c0, c1⟩ := (st.box 0 (w.heap.size, [.int .i64 (N : Int), .slice a n cap]) rfl).cell2
  go_enter Try.func37, Try.ntmps37
  go_wp2_with (first
    | (go_at_call 104; refine (openRing_ok N _ (st.sl 0 ⟨o, lo, hi, .slice a n cap, n, f⟩ rfl) H.out).mono ?_; rintro e w1 ⟨rfl, b1⟩
       have hz1 := Lib.hid (show w.heap.size ≤ w1.heap.size from by have := b1.size; simp only [World.size_alloc] at this; omega)
       replace st := st.keep b1
       clear b1)
    | (refine wpList_allocE rfl rfl ?_; intro w2 x2 b2 z2
       replace st := (st.keep b2).addBox _ _ x2
       have B2 := st.box 0 (w1.heap.size, elL 0 (fun _ => 0)) rfl
       have hz := Lib.hid st.1.size
       dsimp only at B2
       clear x2 b2 z2)
    | (refine wpList_storeE rfl _ _ rfl w1.heap.size rfl (m := N) (F := (opR N f (phiN N))) rfl B2 elL_len ?_; intro w3 x3 f3
       have sz3 := Lib.hid f3.size
       have B3 := x3
       have bb := st.1.trans (f3.below hz1.out st.1.size)
       clear x3 f3)
    | (refine wpList_loadE rfl _ rfl w1.heap.size rfl B3 ?_)
    | (go_at_call 115; refine (HT.out _).mono ?_; rintro e w4 ⟨rfl, b4⟩
       have bc := bb.trans (b4.mono bb.size)))
  go_returns
  exact ⟨rfl, bc⟩
theorem TotalOfRing_spec_ok (N : Nat) (w : World) (hs : Sl o w lo hi v n f) (h : RgP N n f) :
    Calls Try.prog 38 #[.agg #[.int .i64 (N : Int), v]] w fun e w' => e = .returned (.tuple #[.int .i64 (sumN n f), .int .i64 0]) ∧ Below w.heap.size w w' := by
  have hm := hs.len
  unfold maxLen at hm
  obtain ⟨a, cap, rfl⟩ := hs.shape
  have st := ((St.start w).addSl ⟨o, lo, hi, .slice a n cap, n, f⟩ hs)
  have hhs := hs.size
  replace st := (st.alloc (.cells #[.int .i64 (N : Int), .slice a n cap] 28)).addBox w.heap.size [.int .i64 (N : Int), .slice a n cap] (Box.made _ _ _ _ (fun j v h => by simpa using h))
  have H := Lib.hid h
  have hn40 : n ≤ 39 := by have e : n = phiN N := h.2.2.1; have := phi_le40 N (by have := h.2.1; omega); omega
  have HW := Lib.hid h.2.2.2
  clear h hs
  obtain ⟨c0, c1⟩ := (st.box 0 (w.heap.size, [.int .i64 (N : Int), .slice a n cap]) rfl).cell2
  go_enter Try.func38, Try.ntmps38
  go_wp2_with (first
    | (go_at_call 90; refine (l10Is_yes N _ (st.sl 0 ⟨o, lo, hi, .slice a n cap, n, f⟩ rfl) H.out).mono ?_; rintro e w1 ⟨rfl, b1⟩
       replace st := st.keep b1
       clear b1 c0 c1))
  obtain ⟨c0, c1⟩ := (st.box 0 (w.heap.size, [.int .i64 (N : Int), .slice a n cap]) rfl).cell2
  dsimp only at c0 c1
  go_loop [4, 5] (fun s4 s5 => ∃ k : Nat, k ≤ n ∧ s5 = .int .i64 (k : Int) ∧ s4 = .int .i64 (sumN k f)) (fun _ s5 => n - (intOf s5).toNat)
  case atStart => exact ⟨0, by omega, rfl, rfl⟩
  case round =>
    obtain ⟨k, hk, rfl, rfl⟩ := hrel
    by_cases hlt : k < n
    · have hki : (k : Int) < (n : Int) := by omega
      have qa := st.sl 0 ⟨o, lo, hi, .slice a n cap, n, f⟩ rfl
      dsimp only at qa
      obtain ⟨b, off, c1', hv, _, _, _, _, hc, _⟩ := qa.at (by omega)
      obtain ⟨rfl, rfl⟩ : a = some ⟨b, off, none⟩ ∧ cap = c1' := by cases hv; exact ⟨rfl, rfl⟩
      have hck := hc k hlt
      clear hv hc qa
      have hFk := HW.out k hlt
      have hs := sumR_bd (F := f) (M := 1000000000) (m := k) (fun i hi => HW.out i (by omega))
      have hs1 : -40000000000 ≤ sumN k f := by omega
      have hs2 : sumN k f ≤ 40000000000 := by omega
      have HS := Lib.hid (show sumN (k + 1) f = sumN k f + f k from rfl)
      clear hs
      go_wp2
      go_round
      case rel => exact ⟨k + 1, by omega, by go_num, by rw [HS.out]⟩
      case measure => simp [intOf] <;> omega
    · obtain rfl : k = n := by omega
      have BB := st.1
      go_wp2
      go_returns
      exact ⟨rfl, BB⟩
theorem TotalOfRing_impl_bad (x : Int) (w : World) (hs : Sl o w lo hi v n f) (h : ¬ RgP x n f) :
    Calls Try.prog 37 #[.agg #[.int .i64 x, v]] w fun e w' => e = .returned (.tuple #[.int .i64 0, .int .i64 1]) ∧ Below w.heap.size w w' := by
  have hm := hs.len
  unfold maxLen at hm
  obtain ⟨a, cap, rfl⟩ := hs.shape
  have st := ((St.start w).addSl ⟨o, lo, hi, .slice a n cap, n, f⟩ hs)
  have hhs := hs.size
  replace st := (st.alloc (.cells #[.int .i64 x, .slice a n cap] 28)).addBox w.heap.size [.int .i64 x, .slice a n cap] (Box.made _ _ _ _ (fun j v h => by simpa using h))
  have HT := Lib.hid (fun w' => total_any 0 (fun _ => 0) w' (fun j _ => by omega))
  have hsum : sumN 40 (fun _ => (0 : Int)) = 0 := sumN_zero 40
  rw [hsum] at HT
  clear hsum
  have H := Lib.hid h
  clear h hs
  obtain ⟨c0, c1⟩ := (st.box 0 (w.heap.size, [.int .i64 x, .slice a n cap]) rfl).cell2
  go_enter Try.func37, Try.ntmps37
  go_wp2_with (first
    | (go_at_call 104; refine (openRing_bad x _ (st.sl 0 ⟨o, lo, hi, .slice a n cap, n, f⟩ rfl) H.out).mono ?_; rintro e w1 ⟨rfl, b1⟩
       have hz1 := Lib.hid (show w.heap.size ≤ w1.heap.size from by have := b1.size; simp only [World.size_alloc] at this; omega)
       replace st := st.keep b1
       clear b1)
    | (refine wpList_allocE rfl rfl ?_; intro w2 x2 b2 z2
       replace st := (st.keep b2).addBox _ _ x2
       have B2 := st.box 0 (w1.heap.size, elL 0 (fun _ => 0)) rfl
       have hz := Lib.hid st.1.size
       dsimp only at B2
       clear x2 b2 z2)
    | (refine wpList_storeE rfl _ _ rfl w1.heap.size rfl (m := 0) (F := (fun _ => 0)) rfl B2 elL_len ?_; intro w3 x3 f3
       have sz3 := Lib.hid f3.size
       have B3 := x3
       have bb := st.1.trans (f3.below hz1.out st.1.size)
       clear x3 f3)
    | (refine wpList_loadE rfl _ rfl w1.heap.size rfl B3 ?_)
    | (go_at_call 115; refine (HT.out _).mono ?_; rintro e w4 ⟨rfl, b4⟩
       have bc := bb.trans (b4.mono bb.size)))
  go_returns
  exact ⟨rfl, bc⟩
theorem TotalOfRing_spec_bad (x : Int) (w : World) (hs : Sl o w lo hi v n f) (h : ¬ RgP x n f) :
    Calls Try.prog 38 #[.agg #[.int .i64 x, v]] w fun e w' => e = .returned (.tuple #[.int .i64 0, .int .i64 1]) ∧ Below w.heap.size w w' := by
  have hm := hs.len
  unfold maxLen at hm
  obtain ⟨a, cap, rfl⟩ := hs.shape
  have st := ((St.start w).addSl ⟨o, lo, hi, .slice a n cap, n, f⟩ hs)
  have hhs := hs.size
  replace st := (st.alloc (.cells #[.int .i64 x, .slice a n cap] 28)).addBox w.heap.size [.int .i64 x, .slice a n cap] (Box.made _ _ _ _ (fun j v h => by simpa using h))
  have H := Lib.hid h
  clear h hs
  obtain ⟨c0, c1⟩ := (st.box 0 (w.heap.size, [.int .i64 x, .slice a n cap]) rfl).cell2
  go_enter Try.func38, Try.ntmps38
  go_wp2_with (first
    | (go_at_call 90; refine (l10Is_no x _ (st.sl 0 ⟨o, lo, hi, .slice a n cap, n, f⟩ rfl) H.out).mono ?_; rintro e w1 ⟨rfl, b1⟩
       replace st := st.keep b1))
  have BB := st.1
  go_returns
  exact ⟨rfl, BB⟩
end
end Go.Proofs.Ytnhpodlcgkgpbaa
