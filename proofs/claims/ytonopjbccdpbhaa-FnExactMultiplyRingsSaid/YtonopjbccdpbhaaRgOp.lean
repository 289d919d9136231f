/- openRings of the program. -/
import Derived.Test.YtonopjbccdpbhaaRgU
import Derived.Test.YtonopjbccdpbhaaRgT
namespace Go.Proofs.Ytonopjbccdpbhaa
open Go.RowKit Go.ChangeShapes Go.Sort
set_option linter.unusedVariables false
set_option linter.unusedSimpArgs false
set_option maxRecDepth 100000
set_option maxHeartbeats 2000000
section
variable {o o' : Bool} {lo hi lo' hi' n m cap cap' : Nat} {a a' : Option Addr} {f g : Nat → Int}
theorem openRings_bad1 (x y m1 m2 c2 : Int) (F1 F2 : Nat → Int) (w : World) (hs : Sl o w lo hi (.slice a n cap) n f) (ht : Sl o' w lo' hi' (.slice a' m cap') m g)
    (h1 : ∀ w', Sl o w' lo hi (.slice a n cap) n f → Calls Try.prog 103 #[.agg #[.int .i64 x, .slice a n cap]] w' fun e w'' => e = .returned (.tuple #[.agg (elC m1 F1), .int .i64 1]) ∧ Below w'.heap.size w' w'')
    (h2 : ∀ w', Sl o' w' lo' hi' (.slice a' m cap') m g → Calls Try.prog 103 #[.agg #[.int .i64 y, .slice a' m cap']] w' fun e w'' => e = .returned (.tuple #[.agg (elC m2 F2), .int .i64 c2]) ∧ Below w'.heap.size w' w'') :
    Calls Try.prog 95 #[.agg #[.int .i64 x, .slice a n cap], .agg #[.int .i64 y, .slice a' m cap']] w fun e w' => e = .returned (.tuple #[.agg (elC 0 (fun _ => 0)), .agg (elC 0 (fun _ => 0)), .int .i64 1]) ∧ Below w.heap.size w w' := by
  have hm := hs.len
  have hm' := ht.len
  unfold maxLen at hm hm'
  have hhs := hs.size
  have hht := ht.size
  have H1 := Lib.hid h1
  have H2 := Lib.hid h2
  have st := ((St.start w).addSl ⟨o, lo, hi, .slice a n cap, n, f⟩ hs).addSl ⟨o', lo', hi', .slice a' m cap', m, g⟩ ht
  clear h1 h2 hs ht
  go_enter Try.func95, Try.ntmps95
  go_wp2_with (first
    | ((fail_if_success (have _g := Z1)); refine wpList_boxR rfl _ rfl (v0 := .int .i64 x) (v1 := .slice a n cap) rfl ?_; intro w1 x1 b1 z1
       replace st := (st.keep b1).addBox _ _ x1
       have Z1 := Lib.hid z1
       clear x1 b1 z1)
    | (refine wpList_boxR rfl _ rfl (v0 := .int .i64 y) (v1 := .slice a' m cap') rfl ?_; intro w2 x2 b2 z2
       replace st := (st.keep b2).addBox _ _ x2
       have Z2 := Lib.hid z2
       clear x2 b2 z2)
    | ((fail_if_success (have _g := Z3)); refine wpList_allocE rfl rfl ?_; intro w3 x3 b3 z3
       replace st := (st.keep b3).addBox _ _ x3
       have Z3 := Lib.hid z3
       clear x3 b3 z3)
    | ((fail_if_success (have _g := Z4)); refine wpList_allocE rfl rfl ?_; intro w4 x4 b4 z4
       replace st := (st.keep b4).addBox _ _ x4
       have Z4 := Lib.hid z4
       obtain ⟨c0, c1⟩ := (st.box 3 (w.heap.size, [.int .i64 x, .slice a n cap]) rfl).cell2
       clear x4 b4 z4)
    | ((fail_if_success (have _g := Z5)); go_at_call 103; refine (H1.out _ (st.sl 1 ⟨o, lo, hi, .slice a n cap, n, f⟩ rfl)).mono ?_; rintro e w5 ⟨rfl, b5⟩
       have Z5 := Lib.hid b5.size
       replace st := st.keep b5
       clear b5 c0 c1)
    | ((fail_if_success (have _g := Z6)); refine wpList_allocE rfl rfl ?_; intro w6 x6 b6 z6
       replace st := (st.keep b6).addBox _ _ x6
       have Z6 := Lib.hid z6
       have B6 := st.box 0 (w5.heap.size, elL 0 (fun _ => 0)) rfl
       dsimp only at B6
       clear x6 b6 z6)
    | ((fail_if_success (have _g := Z7)); refine wpList_storeE rfl _ _ rfl w5.heap.size rfl (m := m1) (F := F1) rfl B6 elL_len ?_; intro w7 x7 f7
       have Z7 := Lib.hid (show w1.heap.size = w.heap.size + 1 ∧ w2.heap.size = w1.heap.size + 1 ∧ w3.heap.size = w2.heap.size + 1 ∧ w4.heap.size = w3.heap.size + 1 ∧ w4.heap.size ≤ w5.heap.size ∧ w5.heap.size < w7.heap.size from by have := Z1.out; have := Z2.out; have := Z3.out; have := Z4.out; have := Z5.out; have := Z6.out; have := f7.size; omega)
       replace st := st.headR x7 f7 (by have := Z7.out; omega) (by have := Z7.out; intro q hq; simp only [List.mem_cons, List.not_mem_nil, or_false] at hq; rcases hq with rfl | rfl | rfl | rfl <;> dsimp only <;> omega) (by have := Z7.out; intro q hq; simp only [List.mem_cons, List.not_mem_nil, or_false] at hq; rcases hq with rfl | rfl <;> dsimp only <;> omega)
       obtain ⟨d0, d1⟩ := (st.box 3 (w1.heap.size, [.int .i64 y, .slice a' m cap']) rfl).cell2
       clear x7 f7 B6)
    | ((fail_if_success (have _g := Z8)); go_at_call 103; refine (H2.out _ (st.sl 0 ⟨o', lo', hi', .slice a' m cap', m, g⟩ rfl)).mono ?_; rintro e w8 ⟨rfl, b8⟩
       have Z8 := Lib.hid b8.size
       replace st := st.keep b8
       clear b8 d0 d1)
    | ((fail_if_success (have _g := Z9)); refine wpList_allocE rfl rfl ?_; intro w9 x9 b9 z9
       replace st := (st.keep b9).addBox _ _ x9
       have Z9 := Lib.hid z9
       have B9 := st.box 0 (w8.heap.size, elL 0 (fun _ => 0)) rfl
       dsimp only at B9
       clear x9 b9 z9)
    | ((fail_if_success (have _g := Z10)); refine wpList_storeE rfl _ _ rfl w8.heap.size rfl (m := m2) (F := F2) rfl B9 elL_len ?_; intro w10 x10 f10
       have Z10 := Lib.hid (show w7.heap.size ≤ w8.heap.size ∧ w8.heap.size < w10.heap.size from by have := Z8.out; have := Z9.out; have := f10.size; omega)
       replace st := st.headR x10 f10 (by have := Z7.out; have := Z10.out; omega) (by have := Z7.out; have := Z10.out; intro q hq; simp only [List.mem_cons, List.not_mem_nil, or_false] at hq; rcases hq with rfl | rfl | rfl | rfl | rfl <;> dsimp only <;> omega) (by have := Z7.out; have := Z10.out; intro q hq; simp only [List.mem_cons, List.not_mem_nil, or_false] at hq; rcases hq with rfl | rfl <;> dsimp only <;> omega)
       have e0 := (st.box 0 (w8.heap.size, elL m2 F2) rfl).2.1 0 (.int .i64 m2) rfl
       have e1 := (st.box 1 (w5.heap.size, elL m1 F1) rfl).2.1 0 (.int .i64 m1) rfl
       have B4 := st.box 3 (w2.heap.size, elL 0 (fun _ => 0)) rfl
       dsimp only at e0 e1 B4
       clear x10 f10 B9)
    | (refine wpList_buildE0 rfl rfl ?_)
    | ((fail_if_success (have _g := F11)); refine wpList_storeE rfl _ _ rfl w2.heap.size rfl (m := 0) (F := (fun _ => 0)) rfl B4 elL_len ?_; intro w11 X11 F11
       have B5 := (st.box 2 (w3.heap.size, elL 0 (fun _ => 0)) rfl).keepF F11 (by have := Z7.out; dsimp only; omega))
    | (refine wpList_storeE rfl _ _ rfl w3.heap.size rfl (m := 0) (F := (fun _ => 0)) rfl B5 elL_len ?_; intro w12 X12 F12))
  refine bodyPost_ret (v := .tuple #[.agg (elC 0 (fun _ => 0)), .agg (elC 0 (fun _ => 0)), .int .i64 1]) (resE2 (b := w2.heap.size) (b2 := w3.heap.size) rfl rfl rfl rfl (X11.keepF F12 (by have := Z7.out; omega)) X12) rfl ⟨rfl, ?_⟩
  exact (st.1.trans (F11.below (by have := Z7.out; omega) st.1.size)).trans (F12.below (by have := Z7.out; omega) (by have := st.1.size; have := F11.size; omega))
theorem openRings_bad2 (x y m1 m2 : Int) (F1 F2 : Nat → Int) (w : World) (hs : Sl o w lo hi (.slice a n cap) n f) (ht : Sl o' w lo' hi' (.slice a' m cap') m g)
    (h1 : ∀ w', Sl o w' lo hi (.slice a n cap) n f → Calls Try.prog 103 #[.agg #[.int .i64 x, .slice a n cap]] w' fun e w'' => e = .returned (.tuple #[.agg (elC m1 F1), .int .i64 0]) ∧ Below w'.heap.size w' w'')
    (h2 : ∀ w', Sl o' w' lo' hi' (.slice a' m cap') m g → Calls Try.prog 103 #[.agg #[.int .i64 y, .slice a' m cap']] w' fun e w'' => e = .returned (.tuple #[.agg (elC m2 F2), .int .i64 1]) ∧ Below w'.heap.size w' w'') :
    Calls Try.prog 95 #[.agg #[.int .i64 x, .slice a n cap], .agg #[.int .i64 y, .slice a' m cap']] w fun e w' => e = .returned (.tuple #[.agg (elC 0 (fun _ => 0)), .agg (elC 0 (fun _ => 0)), .int .i64 1]) ∧ Below w.heap.size w w' := by
  have hm := hs.len
  have hm' := ht.len
  unfold maxLen at hm hm'
  have hhs := hs.size
  have hht := ht.size
  have H1 := Lib.hid h1
  have H2 := Lib.hid h2
  have st := ((St.start w).addSl ⟨o, lo, hi, .slice a n cap, n, f⟩ hs).addSl ⟨o', lo', hi', .slice a' m cap', m, g⟩ ht
  clear h1 h2 hs ht
  go_enter Try.func95, Try.ntmps95
  go_wp2_with (first
    | ((fail_if_success (have _g := Z1)); refine wpList_boxR rfl _ rfl (v0 := .int .i64 x) (v1 := .slice a n cap) rfl ?_; intro w1 x1 b1 z1
       replace st := (st.keep b1).addBox _ _ x1
       have Z1 := Lib.hid z1
       clear x1 b1 z1)
    | (refine wpList_boxR rfl _ rfl (v0 := .int .i64 y) (v1 := .slice a' m cap') rfl ?_; intro w2 x2 b2 z2
       replace st := (st.keep b2).addBox _ _ x2
       have Z2 := Lib.hid z2
       clear x2 b2 z2)
    | ((fail_if_success (have _g := Z3)); refine wpList_allocE rfl rfl ?_; intro w3 x3 b3 z3
       replace st := (st.keep b3).addBox _ _ x3
       have Z3 := Lib.hid z3
       clear x3 b3 z3)
    | ((fail_if_success (have _g := Z4)); refine wpList_allocE rfl rfl ?_; intro w4 x4 b4 z4
       replace st := (st.keep b4).addBox _ _ x4
       have Z4 := Lib.hid z4
       obtain ⟨c0, c1⟩ := (st.box 3 (w.heap.size, [.int .i64 x, .slice a n cap]) rfl).cell2
       clear x4 b4 z4)
    | ((fail_if_success (have _g := Z5)); go_at_call 103; refine (H1.out _ (st.sl 1 ⟨o, lo, hi, .slice a n cap, n, f⟩ rfl)).mono ?_; rintro e w5 ⟨rfl, b5⟩
       have Z5 := Lib.hid b5.size
       replace st := st.keep b5
       clear b5 c0 c1)
    | ((fail_if_success (have _g := Z6)); refine wpList_allocE rfl rfl ?_; intro w6 x6 b6 z6
       replace st := (st.keep b6).addBox _ _ x6
       have Z6 := Lib.hid z6
       have B6 := st.box 0 (w5.heap.size, elL 0 (fun _ => 0)) rfl
       dsimp only at B6
       clear x6 b6 z6)
    | ((fail_if_success (have _g := Z7)); refine wpList_storeE rfl _ _ rfl w5.heap.size rfl (m := m1) (F := F1) rfl B6 elL_len ?_; intro w7 x7 f7
       have Z7 := Lib.hid (show w1.heap.size = w.heap.size + 1 ∧ w2.heap.size = w1.heap.size + 1 ∧ w3.heap.size = w2.heap.size + 1 ∧ w4.heap.size = w3.heap.size + 1 ∧ w4.heap.size ≤ w5.heap.size ∧ w5.heap.size < w7.heap.size from by have := Z1.out; have := Z2.out; have := Z3.out; have := Z4.out; have := Z5.out; have := Z6.out; have := f7.size; omega)
       replace st := st.headR x7 f7 (by have := Z7.out; omega) (by have := Z7.out; intro q hq; simp only [List.mem_cons, List.not_mem_nil, or_false] at hq; rcases hq with rfl | rfl | rfl | rfl <;> dsimp only <;> omega) (by have := Z7.out; intro q hq; simp only [List.mem_cons, List.not_mem_nil, or_false] at hq; rcases hq with rfl | rfl <;> dsimp only <;> omega)
       obtain ⟨d0, d1⟩ := (st.box 3 (w1.heap.size, [.int .i64 y, .slice a' m cap']) rfl).cell2
       clear x7 f7 B6)
    | ((fail_if_success (have _g := Z8)); go_at_call 103; refine (H2.out _ (st.sl 0 ⟨o', lo', hi', .slice a' m cap', m, g⟩ rfl)).mono ?_; rintro e w8 ⟨rfl, b8⟩
       have Z8 := Lib.hid b8.size
       replace st := st.keep b8
       clear b8 d0 d1)
    | ((fail_if_success (have _g := Z9)); refine wpList_allocE rfl rfl ?_; intro w9 x9 b9 z9
       replace st := (st.keep b9).addBox _ _ x9
       have Z9 := Lib.hid z9
       have B9 := st.box 0 (w8.heap.size, elL 0 (fun _ => 0)) rfl
       dsimp only at B9
       clear x9 b9 z9)
    | ((fail_if_success (have _g := Z10)); refine wpList_storeE rfl _ _ rfl w8.heap.size rfl (m := m2) (F := F2) rfl B9 elL_len ?_; intro w10 x10 f10
       have Z10 := Lib.hid (show w7.heap.size ≤ w8.heap.size ∧ w8.heap.size < w10.heap.size from by have := Z8.out; have := Z9.out; have := f10.size; omega)
       replace st := st.headR x10 f10 (by have := Z7.out; have := Z10.out; omega) (by have := Z7.out; have := Z10.out; intro q hq; simp only [List.mem_cons, List.not_mem_nil, or_false] at hq; rcases hq with rfl | rfl | rfl | rfl | rfl <;> dsimp only <;> omega) (by have := Z7.out; have := Z10.out; intro q hq; simp only [List.mem_cons, List.not_mem_nil, or_false] at hq; rcases hq with rfl | rfl <;> dsimp only <;> omega)
       have e0 := (st.box 0 (w8.heap.size, elL m2 F2) rfl).2.1 0 (.int .i64 m2) rfl
       have e1 := (st.box 1 (w5.heap.size, elL m1 F1) rfl).2.1 0 (.int .i64 m1) rfl
       have B4 := st.box 3 (w2.heap.size, elL 0 (fun _ => 0)) rfl
       dsimp only at e0 e1 B4
       clear x10 f10 B9)
    | (refine wpList_buildE0 rfl rfl ?_)
    | ((fail_if_success (have _g := F11)); refine wpList_storeE rfl _ _ rfl w2.heap.size rfl (m := 0) (F := (fun _ => 0)) rfl B4 elL_len ?_; intro w11 X11 F11
       have B5 := (st.box 2 (w3.heap.size, elL 0 (fun _ => 0)) rfl).keepF F11 (by have := Z7.out; dsimp only; omega))
    | (refine wpList_storeE rfl _ _ rfl w3.heap.size rfl (m := 0) (F := (fun _ => 0)) rfl B5 elL_len ?_; intro w12 X12 F12))
  refine bodyPost_ret (v := .tuple #[.agg (elC 0 (fun _ => 0)), .agg (elC 0 (fun _ => 0)), .int .i64 1]) (resE2 (b := w2.heap.size) (b2 := w3.heap.size) rfl rfl rfl rfl (X11.keepF F12 (by have := Z7.out; omega)) X12) rfl ⟨rfl, ?_⟩
  exact (st.1.trans (F11.below (by have := Z7.out; omega) st.1.size)).trans (F12.below (by have := Z7.out; omega) (by have := st.1.size; have := F11.size; omega))
theorem openRings_diff (x y m1 m2 : Int) (F1 F2 : Nat → Int) (w : World) (hs : Sl o w lo hi (.slice a n cap) n f) (ht : Sl o' w lo' hi' (.slice a' m cap') m g)
    (h1 : ∀ w', Sl o w' lo hi (.slice a n cap) n f → Calls Try.prog 103 #[.agg #[.int .i64 x, .slice a n cap]] w' fun e w'' => e = .returned (.tuple #[.agg (elC m1 F1), .int .i64 0]) ∧ Below w'.heap.size w' w'')
    (h2 : ∀ w', Sl o' w' lo' hi' (.slice a' m cap') m g → Calls Try.prog 103 #[.agg #[.int .i64 y, .slice a' m cap']] w' fun e w'' => e = .returned (.tuple #[.agg (elC m2 F2), .int .i64 0]) ∧ Below w'.heap.size w' w'') (hne : m1 ≠ m2) :
    Calls Try.prog 95 #[.agg #[.int .i64 x, .slice a n cap], .agg #[.int .i64 y, .slice a' m cap']] w fun e w' => e = .returned (.tuple #[.agg (elC 0 (fun _ => 0)), .agg (elC 0 (fun _ => 0)), .int .i64 2]) ∧ Below w.heap.size w w' := by
  have hm := hs.len
  have hm' := ht.len
  unfold maxLen at hm hm'
  have hhs := hs.size
  have hht := ht.size
  have H1 := Lib.hid h1
  have H2 := Lib.hid h2
  have st := ((St.start w).addSl ⟨o, lo, hi, .slice a n cap, n, f⟩ hs).addSl ⟨o', lo', hi', .slice a' m cap', m, g⟩ ht
  clear h1 h2 hs ht
  have hb : (m1 != m2) = true := by rw [bne_iff_ne]; exact hne
  have hb' : (m1 == m2) = false := by rw [beq_eq_false_iff_ne]; exact hne
  go_enter Try.func95, Try.ntmps95
  go_wp2_with (first
    | ((fail_if_success (have _g := Z1)); refine wpList_boxR rfl _ rfl (v0 := .int .i64 x) (v1 := .slice a n cap) rfl ?_; intro w1 x1 b1 z1
       replace st := (st.keep b1).addBox _ _ x1
       have Z1 := Lib.hid z1
       clear x1 b1 z1)
    | (refine wpList_boxR rfl _ rfl (v0 := .int .i64 y) (v1 := .slice a' m cap') rfl ?_; intro w2 x2 b2 z2
       replace st := (st.keep b2).addBox _ _ x2
       have Z2 := Lib.hid z2
       clear x2 b2 z2)
    | ((fail_if_success (have _g := Z3)); refine wpList_allocE rfl rfl ?_; intro w3 x3 b3 z3
       replace st := (st.keep b3).addBox _ _ x3
       have Z3 := Lib.hid z3
       clear x3 b3 z3)
    | ((fail_if_success (have _g := Z4)); refine wpList_allocE rfl rfl ?_; intro w4 x4 b4 z4
       replace st := (st.keep b4).addBox _ _ x4
       have Z4 := Lib.hid z4
       obtain ⟨c0, c1⟩ := (st.box 3 (w.heap.size, [.int .i64 x, .slice a n cap]) rfl).cell2
       clear x4 b4 z4)
    | ((fail_if_success (have _g := Z5)); go_at_call 103; refine (H1.out _ (st.sl 1 ⟨o, lo, hi, .slice a n cap, n, f⟩ rfl)).mono ?_; rintro e w5 ⟨rfl, b5⟩
       have Z5 := Lib.hid b5.size
       replace st := st.keep b5
       clear b5 c0 c1)
    | ((fail_if_success (have _g := Z6)); refine wpList_allocE rfl rfl ?_; intro w6 x6 b6 z6
       replace st := (st.keep b6).addBox _ _ x6
       have Z6 := Lib.hid z6
       have B6 := st.box 0 (w5.heap.size, elL 0 (fun _ => 0)) rfl
       dsimp only at B6
       clear x6 b6 z6)
    | ((fail_if_success (have _g := Z7)); refine wpList_storeE rfl _ _ rfl w5.heap.size rfl (m := m1) (F := F1) rfl B6 elL_len ?_; intro w7 x7 f7
       have Z7 := Lib.hid (show w1.heap.size = w.heap.size + 1 ∧ w2.heap.size = w1.heap.size + 1 ∧ w3.heap.size = w2.heap.size + 1 ∧ w4.heap.size = w3.heap.size + 1 ∧ w4.heap.size ≤ w5.heap.size ∧ w5.heap.size < w7.heap.size from by have := Z1.out; have := Z2.out; have := Z3.out; have := Z4.out; have := Z5.out; have := Z6.out; have := f7.size; omega)
       replace st := st.headR x7 f7 (by have := Z7.out; omega) (by have := Z7.out; intro q hq; simp only [List.mem_cons, List.not_mem_nil, or_false] at hq; rcases hq with rfl | rfl | rfl | rfl <;> dsimp only <;> omega) (by have := Z7.out; intro q hq; simp only [List.mem_cons, List.not_mem_nil, or_false] at hq; rcases hq with rfl | rfl <;> dsimp only <;> omega)
       obtain ⟨d0, d1⟩ := (st.box 3 (w1.heap.size, [.int .i64 y, .slice a' m cap']) rfl).cell2
       clear x7 f7 B6)
    | ((fail_if_success (have _g := Z8)); go_at_call 103; refine (H2.out _ (st.sl 0 ⟨o', lo', hi', .slice a' m cap', m, g⟩ rfl)).mono ?_; rintro e w8 ⟨rfl, b8⟩
       have Z8 := Lib.hid b8.size
       replace st := st.keep b8
       clear b8 d0 d1)
    | ((fail_if_success (have _g := Z9)); refine wpList_allocE rfl rfl ?_; intro w9 x9 b9 z9
       replace st := (st.keep b9).addBox _ _ x9
       have Z9 := Lib.hid z9
       have B9 := st.box 0 (w8.heap.size, elL 0 (fun _ => 0)) rfl
       dsimp only at B9
       clear x9 b9 z9)
    | ((fail_if_success (have _g := Z10)); refine wpList_storeE rfl _ _ rfl w8.heap.size rfl (m := m2) (F := F2) rfl B9 elL_len ?_; intro w10 x10 f10
       have Z10 := Lib.hid (show w7.heap.size ≤ w8.heap.size ∧ w8.heap.size < w10.heap.size from by have := Z8.out; have := Z9.out; have := f10.size; omega)
       replace st := st.headR x10 f10 (by have := Z7.out; have := Z10.out; omega) (by have := Z7.out; have := Z10.out; intro q hq; simp only [List.mem_cons, List.not_mem_nil, or_false] at hq; rcases hq with rfl | rfl | rfl | rfl | rfl <;> dsimp only <;> omega) (by have := Z7.out; have := Z10.out; intro q hq; simp only [List.mem_cons, List.not_mem_nil, or_false] at hq; rcases hq with rfl | rfl <;> dsimp only <;> omega)
       have e0 := (st.box 0 (w8.heap.size, elL m2 F2) rfl).2.1 0 (.int .i64 m2) rfl
       have e1 := (st.box 1 (w5.heap.size, elL m1 F1) rfl).2.1 0 (.int .i64 m1) rfl
       have B4 := st.box 3 (w2.heap.size, elL 0 (fun _ => 0)) rfl
       dsimp only at e0 e1 B4
       clear x10 f10 B9)
    | (refine wpList_buildE0 rfl rfl ?_)
    | ((fail_if_success (have _g := F11)); refine wpList_storeE rfl _ _ rfl w2.heap.size rfl (m := 0) (F := (fun _ => 0)) rfl B4 elL_len ?_; intro w11 X11 F11
       have B5 := (st.box 2 (w3.heap.size, elL 0 (fun _ => 0)) rfl).keepF F11 (by have := Z7.out; dsimp only; omega))
    | (refine wpList_storeE rfl _ _ rfl w3.heap.size rfl (m := 0) (F := (fun _ => 0)) rfl B5 elL_len ?_; intro w12 X12 F12))
  refine bodyPost_ret (v := .tuple #[.agg (elC 0 (fun _ => 0)), .agg (elC 0 (fun _ => 0)), .int .i64 2]) (resE2 (b := w2.heap.size) (b2 := w3.heap.size) rfl rfl rfl rfl (X11.keepF F12 (by have := Z7.out; omega)) X12) rfl ⟨rfl, ?_⟩
  exact (st.1.trans (F11.below (by have := Z7.out; omega) st.1.size)).trans (F12.below (by have := Z7.out; omega) (by have := st.1.size; have := F11.size; omega))
theorem openRings_ok (x y m1 : Int) (F1 F2 : Nat → Int) (w : World) (hs : Sl o w lo hi (.slice a n cap) n f) (ht : Sl o' w lo' hi' (.slice a' m cap') m g)
    (h1 : ∀ w', Sl o w' lo hi (.slice a n cap) n f → Calls Try.prog 103 #[.agg #[.int .i64 x, .slice a n cap]] w' fun e w'' => e = .returned (.tuple #[.agg (elC m1 F1), .int .i64 0]) ∧ Below w'.heap.size w' w'')
    (h2 : ∀ w', Sl o' w' lo' hi' (.slice a' m cap') m g → Calls Try.prog 103 #[.agg #[.int .i64 y, .slice a' m cap']] w' fun e w'' => e = .returned (.tuple #[.agg (elC m1 F2), .int .i64 0]) ∧ Below w'.heap.size w' w'') :
    Calls Try.prog 95 #[.agg #[.int .i64 x, .slice a n cap], .agg #[.int .i64 y, .slice a' m cap']] w fun e w' => e = .returned (.tuple #[.agg (elC m1 F1), .agg (elC m1 F2), .int .i64 0]) ∧ Below w.heap.size w w' := by
  have hm := hs.len
  have hm' := ht.len
  unfold maxLen at hm hm'
  have hhs := hs.size
  have hht := ht.size
  have H1 := Lib.hid h1
  have H2 := Lib.hid h2
  have st := ((St.start w).addSl ⟨o, lo, hi, .slice a n cap, n, f⟩ hs).addSl ⟨o', lo', hi', .slice a' m cap', m, g⟩ ht
  clear h1 h2 hs ht
  go_enter Try.func95, Try.ntmps95
  go_wp2_with (first
    | ((fail_if_success (have _g := Z1)); refine wpList_boxR rfl _ rfl (v0 := .int .i64 x) (v1 := .slice a n cap) rfl ?_; intro w1 x1 b1 z1
       replace st := (st.keep b1).addBox _ _ x1
       have Z1 := Lib.hid z1
       clear x1 b1 z1)
    | (refine wpList_boxR rfl _ rfl (v0 := .int .i64 y) (v1 := .slice a' m cap') rfl ?_; intro w2 x2 b2 z2
       replace st := (st.keep b2).addBox _ _ x2
       have Z2 := Lib.hid z2
       clear x2 b2 z2)
    | ((fail_if_success (have _g := Z3)); refine wpList_allocE rfl rfl ?_; intro w3 x3 b3 z3
       replace st := (st.keep b3).addBox _ _ x3
       have Z3 := Lib.hid z3
       clear x3 b3 z3)
    | ((fail_if_success (have _g := Z4)); refine wpList_allocE rfl rfl ?_; intro w4 x4 b4 z4
       replace st := (st.keep b4).addBox _ _ x4
       have Z4 := Lib.hid z4
       obtain ⟨c0, c1⟩ := (st.box 3 (w.heap.size, [.int .i64 x, .slice a n cap]) rfl).cell2
       clear x4 b4 z4)
    | ((fail_if_success (have _g := Z5)); go_at_call 103; refine (H1.out _ (st.sl 1 ⟨o, lo, hi, .slice a n cap, n, f⟩ rfl)).mono ?_; rintro e w5 ⟨rfl, b5⟩
       have Z5 := Lib.hid b5.size
       replace st := st.keep b5
       clear b5 c0 c1)
    | ((fail_if_success (have _g := Z6)); refine wpList_allocE rfl rfl ?_; intro w6 x6 b6 z6
       replace st := (st.keep b6).addBox _ _ x6
       have Z6 := Lib.hid z6
       have B6 := st.box 0 (w5.heap.size, elL 0 (fun _ => 0)) rfl
       dsimp only at B6
       clear x6 b6 z6)
    | ((fail_if_success (have _g := Z7)); refine wpList_storeE rfl _ _ rfl w5.heap.size rfl (m := m1) (F := F1) rfl B6 elL_len ?_; intro w7 x7 f7
       have Z7 := Lib.hid (show w1.heap.size = w.heap.size + 1 ∧ w2.heap.size = w1.heap.size + 1 ∧ w3.heap.size = w2.heap.size + 1 ∧ w4.heap.size = w3.heap.size + 1 ∧ w4.heap.size ≤ w5.heap.size ∧ w5.heap.size < w7.heap.size from by have := Z1.out; have := Z2.out; have := Z3.out; have := Z4.out; have := Z5.out; have := Z6.out; have := f7.size; omega)
       replace st := st.headR x7 f7 (by have := Z7.out; omega) (by have := Z7.out; intro q hq; simp only [List.mem_cons, List.not_mem_nil, or_false] at hq; rcases hq with rfl | rfl | rfl | rfl <;> dsimp only <;> omega) (by have := Z7.out; intro q hq; simp only [List.mem_cons, List.not_mem_nil, or_false] at hq; rcases hq with rfl | rfl <;> dsimp only <;> omega)
       obtain ⟨d0, d1⟩ := (st.box 3 (w1.heap.size, [.int .i64 y, .slice a' m cap']) rfl).cell2
       clear x7 f7 B6)
    | ((fail_if_success (have _g := Z8)); go_at_call 103; refine (H2.out _ (st.sl 0 ⟨o', lo', hi', .slice a' m cap', m, g⟩ rfl)).mono ?_; rintro e w8 ⟨rfl, b8⟩
       have Z8 := Lib.hid b8.size
       replace st := st.keep b8
       clear b8 d0 d1)
    | ((fail_if_success (have _g := Z9)); refine wpList_allocE rfl rfl ?_; intro w9 x9 b9 z9
       replace st := (st.keep b9).addBox _ _ x9
       have Z9 := Lib.hid z9
       have B9 := st.box 0 (w8.heap.size, elL 0 (fun _ => 0)) rfl
       dsimp only at B9
       clear x9 b9 z9)
    | ((fail_if_success (have _g := Z10)); refine wpList_storeE rfl _ _ rfl w8.heap.size rfl (m := m1) (F := F2) rfl B9 elL_len ?_; intro w10 x10 f10
       have Z10 := Lib.hid (show w7.heap.size ≤ w8.heap.size ∧ w8.heap.size < w10.heap.size from by have := Z8.out; have := Z9.out; have := f10.size; omega)
       replace st := st.headR x10 f10 (by have := Z7.out; have := Z10.out; omega) (by have := Z7.out; have := Z10.out; intro q hq; simp only [List.mem_cons, List.not_mem_nil, or_false] at hq; rcases hq with rfl | rfl | rfl | rfl | rfl <;> dsimp only <;> omega) (by have := Z7.out; have := Z10.out; intro q hq; simp only [List.mem_cons, List.not_mem_nil, or_false] at hq; rcases hq with rfl | rfl <;> dsimp only <;> omega)
       have e0 := (st.box 0 (w8.heap.size, elL m1 F2) rfl).2.1 0 (.int .i64 m1) rfl
       have e1 := (st.box 1 (w5.heap.size, elL m1 F1) rfl).2.1 0 (.int .i64 m1) rfl
       have B4 := st.box 3 (w2.heap.size, elL 0 (fun _ => 0)) rfl
       dsimp only at e0 e1 B4
       clear x10 f10 B9)
    | fail)
  replace st := st.drew
  have BS := st.box 0 (w8.heap.size, elL m1 F2) rfl
  have BT := st.box 1 (w5.heap.size, elL m1 F1) rfl
  have B5 := st.box 2 (w3.heap.size, elL 0 (fun _ => 0)) rfl
  have B4 := st.box 3 (w2.heap.size, elL 0 (fun _ => 0)) rfl
  dsimp only at BS BT B5 B4
  refine wp_region_held_drew (S := fun wy => Box wy w8.heap.size (elL m1 F2) ∧ Box wy w5.heap.size (elL m1 F1)) (by kernel_rfl) (⟨BS, BT⟩) (fun hHeld => ?_)
  refine takeE (i := 0) rfl (by kernel_rfl) (by kernel_rfl) (by kernel_rfl) (fun _ _ _ h => h) (by rfl) _ rfl w5.heap.size rfl (fun wy hy => hy.2) hHeld ?_
  (try simp only [Act.put, List.getElem_toArray, List.getElem_cons_zero, List.getElem_cons_succ, List.setIfInBounds_toArray, List.set_cons_zero, List.set_cons_succ])
  refine takeE (i := 1) rfl (by kernel_rfl) (by kernel_rfl) (by kernel_rfl) (fun _ _ _ h => h) (by rfl) _ rfl w8.heap.size rfl (fun wy hy => hy.1) hHeld ?_
  (try simp only [Act.put, List.getElem_toArray, List.getElem_cons_zero, List.getElem_cons_succ, List.setIfInBounds_toArray, List.set_cons_zero, List.set_cons_succ])
  refine wpAnyH_ready (rs := [2]) (by kernel_rfl) (by simp) ?_
  refine AllReadyH.cons rfl (fun K hK => ?_) AllReadyH.nil
  rw [if_pos (by rfl)]
  (try simp only [List.getElem_toArray, List.getElem_cons_zero, List.getElem_cons_succ])
  refine wp_storeE _ _ rfl w2.heap.size rfl (m := m1) (F := F1) rfl B4 elL_len ?_
  intro wz2 X2 FR2
  have B5 := B5.keepF FR2 (by have := Z7.out; omega)
  refine hK.out _ _ ⟨hHeld.1.keepF FR2 (by have := Z7.out; have := Z10.out; omega), hHeld.2.keepF FR2 (by have := Z7.out; have := Z10.out; omega)⟩ (fun hHeld => ?_)
  clear hK K
  (try simp only [Act.put, List.getElem_toArray, List.getElem_cons_zero, List.getElem_cons_succ, List.setIfInBounds_toArray, List.set_cons_zero, List.set_cons_succ])
  refine wpAnyH_ready (rs := [3]) (by kernel_rfl) (by simp) ?_
  refine AllReadyH.cons rfl (fun K hK => ?_) AllReadyH.nil
  rw [if_pos (by rfl)]
  (try simp only [List.getElem_toArray, List.getElem_cons_zero, List.getElem_cons_succ])
  refine wp_storeE _ _ rfl w3.heap.size rfl (m := m1) (F := F2) rfl B5 elL_len ?_
  intro wz3 X3 FR3
  refine hK.out _ _ ⟨hHeld.1.keepF FR3 (by have := Z7.out; have := Z10.out; omega), hHeld.2.keepF FR3 (by have := Z7.out; have := Z10.out; omega)⟩ (fun hHeld => ?_)
  clear hK K
  (try simp only [Act.put, List.getElem_toArray, List.getElem_cons_zero, List.getElem_cons_succ, List.setIfInBounds_toArray, List.set_cons_zero, List.set_cons_succ])
  refine wpAnyH_take (i := 4) (v := .int .i64 0) rfl (by kernel_rfl) (by kernel_rfl) (by kernel_rfl) (fun _ _ _ h => h) (Or.inl ⟨by rfl, ?_⟩) hHeld ?_
  · intro wy hy; go_simp
  (try simp only [Act.put, List.getElem_toArray, List.getElem_cons_zero, List.getElem_cons_succ, List.setIfInBounds_toArray, List.set_cons_zero, List.set_cons_succ])
  refine wpAnyH_done (by kernel_rfl) ?_ _
  go_wp2
  refine bodyPost_ret (v := .tuple #[.agg (elC m1 F1), .agg (elC m1 F2), .int .i64 0]) (resE2 (b := w2.heap.size) (b2 := w3.heap.size) rfl rfl rfl rfl (X2.keepF FR3 (by have := Z7.out; omega)) X3) rfl ⟨rfl, ?_⟩
  exact (st.1.trans (FR2.below (by have := Z7.out; omega) st.1.size)).trans (FR3.below (by have := Z7.out; omega) (by have := st.1.size; have := FR2.size; omega))
end
end Go.Proofs.Ytonopjbccdpbhaa
