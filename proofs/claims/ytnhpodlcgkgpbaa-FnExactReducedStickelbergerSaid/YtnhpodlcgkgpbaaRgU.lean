/- TurnRing and StickelbergerOf of the program. -/
import Derived.Test.YtnhpodlcgkgpbaaRgW
namespace Go.Proofs.Ytnhpodlcgkgpbaa
open Go.RowKit Go.ChangeShapes Go.Sort
set_option linter.unusedVariables false
set_option linter.unusedSimpArgs false
set_option maxRecDepth 100000
set_option maxHeartbeats 2000000
section
variable {o : Bool} {lo hi n : Nat} {v : Value} {f : Nat → Int}
theorem TurnRing_impl_bad (x : Int) (w : World) (hs : Sl o w lo hi v n f) (h : ¬ RgP x n f) :
    Calls Try.prog 34 #[.agg #[.int .i64 x, v]] w fun e w' => e = .returned (.tuple #[.agg #[.int .i64 0, .slice none 0 0], .int .i64 1]) ∧ Below w.heap.size w w' := by
  have hm := hs.len
  unfold maxLen at hm
  obtain ⟨a, cap, rfl⟩ := hs.shape
  have hhs := hs.size
  have st := (St.start w).addSl ⟨o, lo, hi, .slice a n cap, n, f⟩ hs
  have H := Lib.hid h
  clear h hs
  go_enter Try.func34, Try.ntmps34
  go_wp2_with (first
    | (refine wpList_boxR rfl _ rfl (v0 := .int .i64 x) (v1 := .slice a n cap) rfl ?_; intro w1 x1 b1 z1
       replace st := (st.keep b1).addBox _ _ x1
       have Z1 := Lib.hid z1
       clear x1 b1 z1)
    | ((fail_if_success (have _g := Z2)); refine wpList_allocR rfl rfl ?_; intro w2 x2 b2 z2
       replace st := (st.keep b2).addBox _ _ x2
       have Z2 := Lib.hid z2
       obtain ⟨c0, c1⟩ := (st.box 1 (w.heap.size, [.int .i64 x, .slice a n cap]) rfl).cell2
       clear x2 b2 z2)
    | (go_at_call 104; refine (openRing_bad x _ (st.sl 0 ⟨o, lo, hi, .slice a n cap, n, f⟩ rfl) H.out).mono ?_; rintro e w3 ⟨rfl, b3⟩
       have Z3 := Lib.hid b3.size
       replace st := st.keep b3
       clear b3 c0 c1)
    | (refine wpList_allocE rfl rfl ?_; intro w4 x4 b4 z4
       replace st := (st.keep b4).addBox _ _ x4
       have Z4 := Lib.hid z4
       have B4 := st.box 0 (w3.heap.size, elL 0 (fun _ => 0)) rfl
       dsimp only at B4
       clear x4 b4 z4)
    | (refine wpList_storeE rfl _ _ rfl w3.heap.size rfl (m := 0) (F := (fun _ => 0)) rfl B4 elL_len ?_; intro w5 x5 f5
       have sz := Lib.hid (show w.heap.size < w1.heap.size ∧ w1.heap.size < w3.heap.size ∧ w3.heap.size < w5.heap.size ∧ hi ≤ w.heap.size from by have := Z1.out; have := Z2.out; have := Z3.out; have := Z4.out; have := f5.size; omega)
       replace st := st.headR x5 f5 (by have := sz.out; omega) (by have := sz.out; intro q hq; simp only [List.mem_cons, List.not_mem_nil, or_false] at hq; rcases hq with rfl | rfl <;> dsimp only <;> omega) (by have := sz.out; intro q hq; simp only [List.mem_cons, List.not_mem_nil, or_false] at hq; rcases hq with rfl <;> dsimp only <;> omega)
       have B5 := st.box 0 (w3.heap.size, elL 0 (fun _ => 0)) rfl
       have BR := st.box 1 (w1.heap.size, [.int .i64 0, .slice none 0 0]) rfl
       dsimp only at B5 BR
       clear B4 x5 f5)
    | (refine wpList_storeR rfl _ _ rfl w1.heap.size rfl (v0 := .int .i64 0) (v1 := .slice none 0 0) rfl rfl rfl BR ?_; intro w9 x9 f9
       obtain ⟨d0, d1⟩ := x9.cell2))
  refine bodyPost_ret (v := .tuple #[.agg #[.int .i64 0, .slice none 0 0], .int .i64 1]) (by simp [results, Try.results34, go_sem, d0, d1]) rfl ⟨rfl, ?_⟩
  exact st.1.trans (f9.below (by have := sz.out; omega) st.1.size)
theorem TurnRing_impl_ok (N : Nat) (w : World) (hs : Sl o w lo hi v n f) (h : RgP N n f) :
    Calls Try.prog 34 #[.agg #[.int .i64 (N : Int), v]] w fun e w' => ∃ a' k', e = .returned (.tuple #[.agg #[.int .i64 (N : Int), .slice a' n k'], .int .i64 0]) ∧ Sl true w' w.heap.size w'.heap.size (.slice a' n k') n (fun j => f (ivR N j)) ∧ Below w.heap.size w w' := by
  have h2 : 2 ≤ N := by have := h.1; omega
  have h40 : N ≤ 40 := by have := h.2.1; omega
  have hn : n = phiN N := h.2.2.1
  have HW := Lib.hid (show Within (fun j => f (ivR N j)) (phiN N) 1000000000 from fun j hj => by
    have := h.2.2.2 (ivR N j) (by rw [hn]; exact (iv_ok (n := N) (by omega) h2 hj).1)
    exact this)
  have HT := Lib.hid (fun w' => turned_any N f h2 h40 w')
  have HRW := Lib.hid (fun w' => ringWithin_ok N h2 h40 HW.out w')
  have hm := hs.len
  unfold maxLen at hm
  obtain ⟨a, cap, rfl⟩ := hs.shape
  have hhs := hs.size
  have st := (St.start w).addSl ⟨o, lo, hi, .slice a n cap, n, f⟩ hs
  have H := Lib.hid h
  have HN := Lib.hid hn
  clear h hs hn
  go_enter Try.func34, Try.ntmps34
  go_wp2_with (first
    | (refine wpList_boxR rfl _ rfl (v0 := .int .i64 (N : Int)) (v1 := .slice a n cap) rfl ?_; intro w1 x1 b1 z1
       replace st := (st.keep b1).addBox _ _ x1
       have Z1 := Lib.hid z1
       clear x1 b1 z1)
    | ((fail_if_success (have _g := Z2)); refine wpList_allocR rfl rfl ?_; intro w2 x2 b2 z2
       replace st := (st.keep b2).addBox _ _ x2
       have Z2 := Lib.hid z2
       obtain ⟨c0, c1⟩ := (st.box 1 (w.heap.size, [.int .i64 (N : Int), .slice a n cap]) rfl).cell2
       clear x2 b2 z2)
    | (go_at_call 104; refine (openRing_ok N _ (st.sl 0 ⟨o, lo, hi, .slice a n cap, n, f⟩ rfl) H.out).mono ?_; rintro e w3 ⟨rfl, b3⟩
       have Z3 := Lib.hid b3.size
       replace st := st.keep b3
       clear b3 c0 c1)
    | (refine wpList_allocE rfl rfl ?_; intro w4 x4 b4 z4
       replace st := (st.keep b4).addBox _ _ x4
       have Z4 := Lib.hid z4
       have B4 := st.box 0 (w3.heap.size, elL 0 (fun _ => 0)) rfl
       dsimp only at B4
       clear x4 b4 z4)
    | (refine wpList_storeE rfl _ _ rfl w3.heap.size rfl (m := N) (F := (opR N f (phiN N))) rfl B4 elL_len ?_; intro w5 x5 f5
       have sz := Lib.hid (show w.heap.size < w1.heap.size ∧ w1.heap.size < w3.heap.size ∧ w3.heap.size < w5.heap.size ∧ hi ≤ w.heap.size from by have := Z1.out; have := Z2.out; have := Z3.out; have := Z4.out; have := f5.size; omega)
       replace st := st.headR x5 f5 (by have := sz.out; omega) (by have := sz.out; intro q hq; simp only [List.mem_cons, List.not_mem_nil, or_false] at hq; rcases hq with rfl | rfl <;> dsimp only <;> omega) (by have := sz.out; intro q hq; simp only [List.mem_cons, List.not_mem_nil, or_false] at hq; rcases hq with rfl <;> dsimp only <;> omega)
       have B5 := st.box 0 (w3.heap.size, elL N (opR N f (phiN N))) rfl
       have BR := st.box 1 (w1.heap.size, [.int .i64 0, .slice none 0 0]) rfl
       dsimp only at B5 BR
       clear B4 x5 f5)
    | (refine wpList_loadE rfl _ rfl w3.heap.size rfl B5 ?_)
    | (go_at_call 111; refine (HT.out _).mono ?_; rintro e w6 ⟨rfl, b6⟩
       have Z6 := Lib.hid b6.size
       replace st := st.keep b6
       clear b6)
    | (go_at_call 98; refine (HRW.out _).mono ?_; rintro e w7 ⟨aq, kq, rfl, s7, b7⟩
       replace st := st.keep b7
       have Z7 := Lib.hid b7.size
       have BR := st.box 1 (w1.heap.size, [.int .i64 0, .slice none 0 0]) rfl
       dsimp only at BR
       clear b7)
    | (refine wpList_storeR rfl _ _ rfl w1.heap.size rfl (v0 := .int .i64 (N : Int)) (v1 := .slice aq (phiN N) kq) rfl rfl rfl BR ?_; intro w9 x9 f9
       obtain ⟨d0, d1⟩ := x9.cell2))
  refine bodyPost_ret (v := .tuple #[.agg #[.int .i64 (N : Int), .slice aq (phiN N) kq], .int .i64 0]) (by simp [results, Try.results34, go_sem, d0, d1]) rfl ?_
  rw [HN.out]
  refine ⟨aq, kq, rfl, ?_, ?_⟩
  · exact (s7.keepF f9 (.inr (by have := sz.out; have := Z6.out; omega))).wide (by have := sz.out; have := Z6.out; omega) f9.size (Nat.le_refl _)
  · exact st.1.trans (f9.below (by have := sz.out; omega) st.1.size)
end
theorem StickelbergerOf_impl_no (x : Int) (h : x < 2 ∨ 40 < x) (w : World) :
    Calls Try.prog 49 #[.int .i64 x] w fun e w' => ∃ a' k', e = .returned (.tuple #[.agg #[.int .i64 0, .slice a' 0 k'], .int .i64 2]) ∧ Sl true w' w.heap.size w'.heap.size (.slice a' 0 k') 0 (fun _ => 0) ∧ Below w.heap.size w w' := by
  have H := Lib.hid h
  clear h
  go_enter Try.func49, Try.ntmps49
  go_wp2_with (first
    | (refine wpList_allocR rfl rfl ?_; intro w2 x2 b2 z2
       have st := ((St.start w).keep b2).addBox _ _ x2
       have Z2 := Lib.hid z2
       have BR := st.box 0 (w.heap.size, [.int .i64 0, .slice none 0 0]) rfl
       dsimp only at BR
       clear x2 b2 z2)
    | (go_at_call 117; refine (isModulus_no _ _ H.out).mono ?_; rintro e w' ⟨rfl, rfl⟩)
    | (refine wpList_storeR rfl _ _ rfl w.heap.size rfl (v0 := .int .i64 0) (v1 := .slice none 0 0) rfl rfl rfl BR ?_; intro w9 x9 f9
       obtain ⟨d0, d1⟩ := x9.cell2))
  refine bodyPost_ret (v := .tuple #[.agg #[.int .i64 0, .slice none 0 0], .int .i64 2]) (by simp [results, Try.results49, go_sem, d0, d1]) rfl ⟨none, 0, rfl, Sl.nil _ _ _ (Nat.le_refl _) _, ?_⟩
  exact st.1.trans (f9.below (Nat.le_refl _) st.1.size)
theorem StickelbergerOf_impl_ok (N : Nat) (h2 : 2 ≤ N) (h40 : N ≤ 40) (w : World) :
    Calls Try.prog 49 #[.int .i64 (N : Int)] w fun e w' => ∃ a' k', e = .returned (.tuple #[.agg #[.int .i64 (N : Int), .slice a' (phiN N) k'], .int .i64 0]) ∧ Sl true w' w.heap.size w'.heap.size (.slice a' (phiN N) k') (phiN N) (fun j => (res N (ivR N j) : Int)) ∧ Below w.heap.size w w' := by
  have HW := Lib.hid (show Within (fun j => (res N (ivR N j) : Int)) (phiN N) 1000000000 from fun j hj => by
    have := (res_lt40 (n := N) (by omega) h2 (iv_ok (n := N) (by omega) h2 hj).1).2.1
    show -1000000000 ≤ (res N (ivR N j) : Int) ∧ (res N (ivR N j) : Int) ≤ 1000000000
    omega)
  have HT := Lib.hid (fun w' => stick_any N h2 h40 w')
  have HRW := Lib.hid (fun w' => ringWithin_ok N h2 h40 HW.out w')
  go_enter Try.func49, Try.ntmps49
  go_wp2_with (first
    | (refine wpList_allocR rfl rfl ?_; intro w2 x2 b2 z2
       have st := ((St.start w).keep b2).addBox _ _ x2
       have Z2 := Lib.hid z2
       have BR := st.box 0 (w.heap.size, [.int .i64 0, .slice none 0 0]) rfl
       dsimp only at BR
       clear x2 b2 z2)
    | (go_at_call 117; refine (isModulus_yes _ _ (by omega) (by omega)).mono ?_; rintro e w' ⟨rfl, rfl⟩)
    | (go_at_call 123; refine (HT.out _).mono ?_; rintro e w6 ⟨rfl, b6⟩
       have Z6 := Lib.hid b6.size
       replace st := st.keep b6
       clear b6)
    | (go_at_call 98; refine (HRW.out _).mono ?_; rintro e w7 ⟨aq, kq, rfl, s7, b7⟩
       replace st := st.keep b7
       have BR := st.box 0 (w.heap.size, [.int .i64 0, .slice none 0 0]) rfl
       dsimp only at BR
       clear b7)
    | (refine wpList_storeR rfl _ _ rfl w.heap.size rfl (v0 := .int .i64 (N : Int)) (v1 := .slice aq (phiN N) kq) rfl rfl rfl BR ?_; intro w9 x9 f9
       obtain ⟨d0, d1⟩ := x9.cell2))
  refine bodyPost_ret (v := .tuple #[.agg #[.int .i64 (N : Int), .slice aq (phiN N) kq], .int .i64 0]) (by simp [results, Try.results49, go_sem, d0, d1]) rfl ⟨aq, kq, rfl, ?_, ?_⟩
  · exact (s7.keepF f9 (.inr (by have := Z2.out; have := Z6.out; omega))).wide (by have := Z2.out; have := Z6.out; omega) f9.size (Nat.le_refl _)
  · exact st.1.trans (f9.below (Nat.le_refl _) st.1.size)
end Go.Proofs.Ytnhpodlcgkgpbaa
