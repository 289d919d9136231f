/- AddRings of the model. -/
import Derived.Test.YtonopjbccdpbhaaRgY
import Derived.Test.YtonopjbccdpbhaaRgD
namespace Go.Proofs.Ytonopjbccdpbhaa
open Go.RowKit Go.ChangeShapes Go.Sort
set_option linter.unusedVariables false
set_option linter.unusedSimpArgs false
set_option maxRecDepth 100000
set_option maxHeartbeats 2000000
/-- The Parts of the sum. -/
def sumR' (k : Int) (f g : Nat → Int) : Nat → Int := fun j => f j + k * g j
theorem mulRk {k p : Int} (hk1 : -1000 ≤ k) (hk2 : k ≤ 1000) (hp1 : -1000000000 ≤ p) (hp2 : p ≤ 1000000000) : -1000000000000 ≤ k * p ∧ k * p ≤ 1000000000000 := by
  have h1 : (k * p).natAbs ≤ 1000 * 1000000000 := by
    rw [Int.natAbs_mul]
    exact Nat.mul_le_mul (by omega) (by omega)
  omega
section
variable {o o' : Bool} {lo hi lo' hi' n m : Nat} {v v' : Value} {f g : Nat → Int}
theorem AddRings_spec_bad (x y k c : Int) (w : World) (hs : Sl o w lo hi v n f) (ht : Sl o' w lo' hi' v' m g) (hc : ringC x y n m f g = c) (hc0 : c ≠ 0) :
    Calls Try.prog 32 #[.agg #[.int .i64 x, v], .agg #[.int .i64 y, v'], .int .i64 k] w fun e w' => e = .returned (.tuple #[.agg #[.int .i64 0, .slice none 0 0], .int .i64 c]) ∧ Below w.heap.size w w' := by
  have HC := Lib.hid hc
  clear hc
  have hb : (c != 0) = true := by simpa using hc0
  have hb' : (c == 0) = false := by simpa using hc0
  have hm := hs.len
  have hm' := ht.len
  unfold maxLen at hm hm'
  obtain ⟨a, cap, rfl⟩ := hs.shape
  obtain ⟨a', cap', rfl⟩ := ht.shape
  have hhs := hs.size
  have hht := ht.size
  have st := (((((St.start w).addSl ⟨o, lo, hi, .slice a n cap, n, f⟩ hs).addSl ⟨o', lo', hi', .slice a' m cap', m, g⟩ ht).alloc (.cells #[.int .i64 x, .slice a n cap] 26)).addBox w.heap.size [.int .i64 x, .slice a n cap] (Box.made _ _ _ _ (fun j v h => by simpa using h)))
  replace st := (st.alloc (.cells #[.int .i64 y, .slice a' m cap'] 26)).addBox _ [.int .i64 y, .slice a' m cap'] (Box.made _ _ _ _ (fun j v h => by simpa using h))
  replace st := (st.alloc (.cells #[.int .i64 0, .slice none 0 0] 26)).addBox _ [.int .i64 0, .slice none 0 0] (Box.made _ _ _ _ (fun j v h => by simpa using h))
  simp only [World.size_alloc] at st
  clear hs ht
  have q0 := st.sl 1 ⟨o, lo, hi, .slice a n cap, n, f⟩ rfl
  have q1 := st.sl 0 ⟨o', lo', hi', .slice a' m cap', m, g⟩ rfl
  dsimp only at q0 q1
  obtain ⟨x0, x1⟩ := (st.box 2 (w.heap.size, [.int .i64 x, .slice a n cap]) rfl).cell2
  obtain ⟨y0, y1⟩ := (st.box 1 (w.heap.size + 1, [.int .i64 y, .slice a' m cap']) rfl).cell2
  go_enter Try.func32, Try.ntmps32
  go_wp2_with fail
  refine (l10Like_any _ _ _ q0 q1).mono ?_
  rw [HC.out]
  rintro e w1 ⟨rfl, b1⟩
  clear q0 q1 x0 x1 y0 y1
  have Z1 := Lib.hid (show w.heap.size + 3 ≤ w1.heap.size from by have := b1.size; simp only [World.size_alloc] at this; omega)
  replace st := st.keep b1
  clear b1
  have BR := st.box 0 (w.heap.size + 1 + 1, [.int .i64 0, .slice none 0 0]) rfl
  dsimp only at BR
  go_wp2_with (first
    | (refine wpList_storeR rfl _ _ rfl (w.heap.size + 1 + 1) rfl (v0 := .int .i64 0) (v1 := .slice none 0 0) rfl rfl rfl BR ?_; intro w9 x9 f9
       obtain ⟨d0, d1⟩ := x9.cell2))
  refine bodyPost_ret (v := .tuple #[.agg #[.int .i64 0, .slice none 0 0], .int .i64 c]) (by simp [results, Try.results32, go_sem, d0, d1]) rfl ⟨rfl, ?_⟩
  exact st.1.trans (f9.below (by omega) st.1.size)
theorem AddRings_spec_out (x k : Int) (w : World) (hs : Sl o w lo hi v n f) (ht : Sl o' w lo' hi' v' m g) (hc : ringC x x n m f g = 0) (hk : k < -1000 ∨ 1000 < k) :
    Calls Try.prog 32 #[.agg #[.int .i64 x, v], .agg #[.int .i64 x, v'], .int .i64 k] w fun e w' => e = .returned (.tuple #[.agg #[.int .i64 0, .slice none 0 0], .int .i64 2]) ∧ Below w.heap.size w w' := by
  have HC := Lib.hid hc
  have HK := Lib.hid hk
  clear hc hk
  have hm := hs.len
  have hm' := ht.len
  unfold maxLen at hm hm'
  obtain ⟨a, cap, rfl⟩ := hs.shape
  obtain ⟨a', cap', rfl⟩ := ht.shape
  have hhs := hs.size
  have hht := ht.size
  have st := (((((St.start w).addSl ⟨o, lo, hi, .slice a n cap, n, f⟩ hs).addSl ⟨o', lo', hi', .slice a' m cap', m, g⟩ ht).alloc (.cells #[.int .i64 x, .slice a n cap] 26)).addBox w.heap.size [.int .i64 x, .slice a n cap] (Box.made _ _ _ _ (fun j v h => by simpa using h)))
  replace st := (st.alloc (.cells #[.int .i64 x, .slice a' m cap'] 26)).addBox _ [.int .i64 x, .slice a' m cap'] (Box.made _ _ _ _ (fun j v h => by simpa using h))
  replace st := (st.alloc (.cells #[.int .i64 0, .slice none 0 0] 26)).addBox _ [.int .i64 0, .slice none 0 0] (Box.made _ _ _ _ (fun j v h => by simpa using h))
  simp only [World.size_alloc] at st
  clear hs ht
  have q0 := st.sl 1 ⟨o, lo, hi, .slice a n cap, n, f⟩ rfl
  have q1 := st.sl 0 ⟨o', lo', hi', .slice a' m cap', m, g⟩ rfl
  dsimp only at q0 q1
  obtain ⟨x0, x1⟩ := (st.box 2 (w.heap.size, [.int .i64 x, .slice a n cap]) rfl).cell2
  obtain ⟨y0, y1⟩ := (st.box 1 (w.heap.size + 1, [.int .i64 x, .slice a' m cap']) rfl).cell2
  go_enter Try.func32, Try.ntmps32
  go_wp2_with fail
  refine (l10Like_any _ _ _ q0 q1).mono ?_
  rw [HC.out]
  rintro e w1 ⟨rfl, b1⟩
  clear q0 q1 x0 x1 y0 y1
  have Z1 := Lib.hid (show w.heap.size + 3 ≤ w1.heap.size from by have := b1.size; simp only [World.size_alloc] at this; omega)
  replace st := st.keep b1
  clear b1
  have BR := st.box 0 (w.heap.size + 1 + 1, [.int .i64 0, .slice none 0 0]) rfl
  dsimp only at BR
  go_wp2_with (first
    | (go_at_call 100; refine (l01In_no _ _ _ _ HK.out).mono ?_; rintro e w' ⟨rfl, rfl⟩)
    | (refine wpList_storeR rfl _ _ rfl (w.heap.size + 1 + 1) rfl (v0 := .int .i64 0) (v1 := .slice none 0 0) rfl rfl rfl BR ?_; intro w9 x9 f9
       obtain ⟨d0, d1⟩ := x9.cell2))
  refine bodyPost_ret (v := .tuple #[.agg #[.int .i64 0, .slice none 0 0], .int .i64 2]) (by simp [results, Try.results32, go_sem, d0, d1]) rfl ⟨rfl, ?_⟩
  exact st.1.trans (f9.below (by omega) st.1.size)
theorem AddRings_spec_ok (N : Nat) {L : Nat} (k : Int) (w : World) (hs : Sl o w lo hi v L f) (ht : Sl o' w lo' hi' v' L g) (h : RgP N L f) (h' : RgP N L g) (hk1 : -1000 ≤ k) (hk2 : k ≤ 1000) (hw : Within (sumR' k f g) L 1000000000) :
    Calls Try.prog 32 #[.agg #[.int .i64 (N : Int), v], .agg #[.int .i64 (N : Int), v'], .int .i64 k] w fun e w' => ∃ a' cap', e = .returned (.tuple #[.agg #[.int .i64 (N : Int), .slice a' L cap'], .int .i64 0]) ∧ Sl true w' w.heap.size w'.heap.size (.slice a' L cap') L (sumR' k f g) ∧ Below w.heap.size w w' := by
  have h2 : 2 ≤ N := by have := h.1; omega
  have h40 : N ≤ 40 := by have := h.2.1; omega
  have hp := phi_le40 N (by omega)
  have hp0 := phi_pos40 N (by omega) (by omega)
  have hn : L = phiN N := h.2.2.1
  have HC := Lib.hid (ringC_ok h h' rfl)
  have HW := Lib.hid hw
  have HF := Lib.hid h.2.2.2
  have HG := Lib.hid h'.2.2.2
  have HLN := Lib.hid hn
  have hL0 : 0 < L := by omega
  have hL40 : L ≤ 40 := by omega
  clear h h' hw hn
  have hm := hs.len
  have hm' := ht.len
  unfold maxLen at hm hm'
  obtain ⟨a, cap, rfl⟩ := hs.shape
  obtain ⟨a', cap', rfl⟩ := ht.shape
  have hhs := hs.size
  have hht := ht.size
  have st := (((((St.start w).addSl ⟨o, lo, hi, .slice a L cap, L, f⟩ hs).addSl ⟨o', lo', hi', .slice a' L cap', L, g⟩ ht).alloc (.cells #[.int .i64 (N : Int), .slice a L cap] 26)).addBox w.heap.size [.int .i64 (N : Int), .slice a L cap] (Box.made _ _ _ _ (fun j v h => by simpa using h)))
  replace st := (st.alloc (.cells #[.int .i64 (N : Int), .slice a' L cap'] 26)).addBox _ [.int .i64 (N : Int), .slice a' L cap'] (Box.made _ _ _ _ (fun j v h => by simpa using h))
  replace st := (st.alloc (.cells #[.int .i64 0, .slice none 0 0] 26)).addBox _ [.int .i64 0, .slice none 0 0] (Box.made _ _ _ _ (fun j v h => by simpa using h))
  simp only [World.size_alloc] at st
  clear hs ht
  have q0 := st.sl 1 ⟨o, lo, hi, .slice a L cap, L, f⟩ rfl
  have q1 := st.sl 0 ⟨o', lo', hi', .slice a' L cap', L, g⟩ rfl
  dsimp only at q0 q1
  obtain ⟨x0, x1⟩ := (st.box 2 (w.heap.size, [.int .i64 (N : Int), .slice a L cap]) rfl).cell2
  obtain ⟨y0, y1⟩ := (st.box 1 (w.heap.size + 1, [.int .i64 (N : Int), .slice a' L cap']) rfl).cell2
  go_enter Try.func32, Try.ntmps32
  go_wp2_with fail
  refine (l10Like_any _ _ _ q0 q1).mono ?_
  rw [HC.out]
  rintro e w1 ⟨rfl, b1⟩
  clear q0 q1 x0 x1 y0 y1
  have Z1 := Lib.hid (show w.heap.size + 3 ≤ w1.heap.size from by have := b1.size; simp only [World.size_alloc] at this; omega)
  replace st := st.keep b1
  clear b1
  obtain ⟨x0, x1⟩ := (st.box 2 (w.heap.size, [.int .i64 (N : Int), .slice a L cap]) rfl).cell2
  go_wp2_with (first
    | (go_at_call 100; refine (l01In_yes _ _ _ _ (by omega) (by omega)).mono ?_; rintro e w' ⟨rfl, rfl⟩)
    | (go_at_call 109; refine (l10Zero_any N (by omega) h40 _).mono ?_; rintro e w3 ⟨a3, k3, rfl, s3, b3⟩
       rw [← HLN.out] at s3
       have Z3 := Lib.hid b3.size
       replace st := (st.keep b3).addSl ⟨true, w1.heap.size, w3.heap.size, .slice a3 L k3, L, fun _ => 0⟩ s3
       clear b3 s3)
    | (refine wpList_allocR rfl rfl ?_; intro w4 x4 b4 z4
       have Z4 := Lib.hid z4
       have BR := x4
       replace st := (st.keep b4).addBox _ _ x4
       clear x4 b4 z4)
    | (refine wpList_storeR rfl _ _ rfl w3.heap.size rfl (v0 := .int .i64 (N : Int)) (v1 := .slice a3 (phiN N) k3) rfl rfl rfl BR ?_; intro w5 x5 f5
       rw [← HLN.out] at x5
       have Z5 := Lib.hid f5.size
       replace st := st.headR x5 f5 (by have := Z1.out; have := Z3.out; omega) (by have := Z1.out; have := Z3.out; intro q hq; simp only [List.mem_cons, List.not_mem_nil, or_false] at hq; rcases hq with rfl | rfl | rfl <;> dsimp only <;> omega) (by have := Z1.out; have := Z3.out; intro q hq; simp only [List.mem_cons, List.not_mem_nil, or_false] at hq; rcases hq with rfl | rfl | rfl <;> dsimp only <;> omega)
       clear x5 f5))
  have Z13 := Z3.out
  obtain ⟨b, off, cap9, hv9, hbl, hbh, -⟩ := (st.sl 2 ⟨o, lo, hi, .slice a L cap, L, f⟩ rfl).at hL0
  obtain ⟨rfl, rfl⟩ : a = some ⟨b, off, none⟩ ∧ cap = cap9 := by cases hv9; exact ⟨rfl, rfl⟩
  obtain ⟨b', off', cap8, hv8, hbl', hbh', -⟩ := (st.sl 1 ⟨o', lo', hi', .slice a' L cap', L, g⟩ rfl).at hL0
  obtain ⟨rfl, rfl⟩ : a' = some ⟨b', off', none⟩ ∧ cap' = cap8 := by cases hv8; exact ⟨rfl, rfl⟩
  obtain ⟨g1, o1, cap7, hv7, hg1, hg1', -⟩ := (st.sl 0 ⟨true, w1.heap.size, w3.heap.size, .slice a3 L k3, L, fun _ => 0⟩ rfl).at hL0
  obtain ⟨rfl, rfl⟩ : a3 = some ⟨g1, o1, none⟩ ∧ k3 = cap7 := by cases hv7; exact ⟨rfl, rfl⟩
  dsimp only at hg1 hg1'
  clear hv9 hv8 hv7 BR x0 x1
  go_loopw [10] (fun s6 wr => ∃ i : Nat, i ≤ L ∧ s6 = .int .i64 (i : Int) ∧ St w wr [(w3.heap.size, [.int .i64 (N : Int), .slice (some ⟨g1, o1, none⟩) L k3]), (w.heap.size + 1 + 1, [.int .i64 0, .slice none 0 0]), (w.heap.size + 1, [.int .i64 (N : Int), .slice (some ⟨b', off', none⟩) L cap']), (w.heap.size, [.int .i64 (N : Int), .slice (some ⟨b, off, none⟩) L cap])] [⟨true, w1.heap.size, w3.heap.size, .slice (some ⟨g1, o1, none⟩) L k3, L, fun j => if j < i then f j + k * g j else 0⟩, ⟨o', lo', hi', .slice (some ⟨b', off', none⟩) L cap', L, g⟩, ⟨o, lo, hi, .slice (some ⟨b, off, none⟩) L cap, L, f⟩]) (fun s6 _ => L - (intOf s6).toNat)
  case atStart =>
    refine ⟨0, by omega, rfl, ?_⟩
    refine (st.subR (bs' := [(w3.heap.size, [.int .i64 (N : Int), .slice (some ⟨g1, o1, none⟩) L k3]), (w.heap.size + 1 + 1, [.int .i64 0, .slice none 0 0]), (w.heap.size + 1, [.int .i64 (N : Int), .slice (some ⟨b', off', none⟩) L cap']), (w.heap.size, [.int .i64 (N : Int), .slice (some ⟨b, off, none⟩) L cap])]) (ss' := [⟨o', lo', hi', .slice (some ⟨b', off', none⟩) L cap', L, g⟩, ⟨o, lo, hi, .slice (some ⟨b, off, none⟩) L cap, L, f⟩]) (fun _ h => h) (fun _ h => List.mem_cons_of_mem _ h)).addSl ⟨true, w1.heap.size, w3.heap.size, .slice (some ⟨g1, o1, none⟩) L k3, L, fun j => if j < 0 then f j + k * g j else 0⟩ ((st.sl 0 ⟨true, w1.heap.size, w3.heap.size, .slice (some ⟨g1, o1, none⟩) L k3, L, fun _ => 0⟩ rfl).congr (fun j hj => by dsimp only; rw [if_neg (by omega)]))
  case round =>
    clear st
    obtain ⟨i, hk, rfl, st⟩ := hrel
    obtain ⟨c0, c1⟩ := (st.box 0 (w3.heap.size, [.int .i64 (N : Int), .slice (some ⟨g1, o1, none⟩) L k3]) rfl).cell2
    by_cases hlt : i < L
    · have hki : (i : Int) < (L : Int) := by omega
      have hfi := HF.out i hlt
      have hgi := HG.out i hlt
      have hmi := mulRk hk1 hk2 hgi.1 hgi.2
      have wk1 : IntKind.i64.wrap (k * g i) = k * g i := by rw [IntKind.wrap_i64]; omega
      have wk2 : IntKind.i64.wrap (f i + k * g i) = f i + k * g i := by rw [IntKind.wrap_i64]; omega
      go_wp2_with fail
      replace st := st.drew
      refine wp_region_held_drew (S := fun wy => St w wy [(w3.heap.size, [.int .i64 (N : Int), .slice (some ⟨g1, o1, none⟩) L k3]), (w.heap.size + 1 + 1, [.int .i64 0, .slice none 0 0]), (w.heap.size + 1, [.int .i64 (N : Int), .slice (some ⟨b', off', none⟩) L cap']), (w.heap.size, [.int .i64 (N : Int), .slice (some ⟨b, off, none⟩) L cap])] [⟨o', lo', hi', .slice (some ⟨b', off', none⟩) L cap', L, g⟩, ⟨o, lo, hi, .slice (some ⟨b, off, none⟩) L cap, L, f⟩]) (by kernel_rfl) (st.subR (fun _ h => h) (fun _ h => List.mem_cons_of_mem _ h)) (fun hHeld => ?_)
      refine wpAnyH_take (i := 0) (v := .pointer (some ⟨w3.heap.size, 1, none⟩)) rfl (by kernel_rfl) (by kernel_rfl) (by kernel_rfl) (fun _ _ _ h => h) (Or.inl ⟨by rfl, ?_⟩) hHeld ?_
      · intro wy hy; go_simp
      (try simp only [Act.put, List.getElem_toArray, List.getElem_cons_zero, List.getElem_cons_succ, List.setIfInBounds_toArray, List.set_cons_zero, List.set_cons_succ])
      refine wpAnyH_take (i := 1) (v := .slice (some ⟨g1, o1, none⟩) L k3) rfl (by kernel_rfl) (by kernel_rfl) (by kernel_rfl) (fun _ _ _ h => h) (Or.inl ⟨by rfl, ?_⟩) hHeld ?_
      · intro wy hy; obtain ⟨c0, c1⟩ := (hy.box 0 (w3.heap.size, [.int .i64 (N : Int), .slice (some ⟨g1, o1, none⟩) L k3]) rfl).cell2; go_simp
      (try simp only [Act.put, List.getElem_toArray, List.getElem_cons_zero, List.getElem_cons_succ, List.setIfInBounds_toArray, List.set_cons_zero, List.set_cons_succ])
      refine wpAnyH_take (i := 2) (v := .int .i64 (i : Int)) rfl (by kernel_rfl) (by kernel_rfl) (by kernel_rfl) (fun _ _ _ h => h) (Or.inl ⟨by rfl, ?_⟩) hHeld ?_
      · intro wy hy; go_simp
      (try simp only [Act.put, List.getElem_toArray, List.getElem_cons_zero, List.getElem_cons_succ, List.setIfInBounds_toArray, List.set_cons_zero, List.set_cons_succ])
      refine wpAnyH_take (i := 3) (v := .pointer (some ⟨w.heap.size, 1, none⟩)) rfl (by kernel_rfl) (by kernel_rfl) (by kernel_rfl) (fun _ _ _ h => h) (Or.inl ⟨by rfl, ?_⟩) hHeld ?_
      · intro wy hy; go_simp
      (try simp only [Act.put, List.getElem_toArray, List.getElem_cons_zero, List.getElem_cons_succ, List.setIfInBounds_toArray, List.set_cons_zero, List.set_cons_succ])
      refine wpAnyH_take (i := 4) (v := .slice (some ⟨b, off, none⟩) L cap) rfl (by kernel_rfl) (by kernel_rfl) (by kernel_rfl) (fun _ _ _ h => h) (Or.inl ⟨by rfl, ?_⟩) hHeld ?_
      · intro wy hy; obtain ⟨c0, c1⟩ := (hy.box 3 (w.heap.size, [.int .i64 (N : Int), .slice (some ⟨b, off, none⟩) L cap]) rfl).cell2; go_simp
      (try simp only [Act.put, List.getElem_toArray, List.getElem_cons_zero, List.getElem_cons_succ, List.setIfInBounds_toArray, List.set_cons_zero, List.set_cons_succ])
      refine wpAnyH_take (i := 5) (v := .int .i64 (i : Int)) rfl (by kernel_rfl) (by kernel_rfl) (by kernel_rfl) (fun _ _ _ h => h) (Or.inl ⟨by rfl, ?_⟩) hHeld ?_
      · intro wy hy; go_simp
      (try simp only [Act.put, List.getElem_toArray, List.getElem_cons_zero, List.getElem_cons_succ, List.setIfInBounds_toArray, List.set_cons_zero, List.set_cons_succ])
      refine wpAnyH_take (i := 6) (v := .pointer (some ⟨b, off + i, none⟩)) rfl (by kernel_rfl) (by kernel_rfl) (by kernel_rfl) (fun _ _ _ h => h) (Or.inl ⟨by rfl, ?_⟩) hHeld ?_
      · intro wy hy; go_simp
      (try simp only [Act.put, List.getElem_toArray, List.getElem_cons_zero, List.getElem_cons_succ, List.setIfInBounds_toArray, List.set_cons_zero, List.set_cons_succ])
      refine wpAnyH_take (i := 7) (v := .int .i64 (f i)) rfl (by kernel_rfl) (by kernel_rfl) (by kernel_rfl) (fun _ _ _ h => h) (Or.inl ⟨by rfl, ?_⟩) hHeld ?_
      · intro wy hy; have hc := (hy.sl 1 ⟨o, lo, hi, .slice (some ⟨b, off, none⟩) L cap, L, f⟩ rfl).known (by show 0 < L; omega); replace hc := hc.2.2.2.1 i hlt; (try dsimp only at hc); go_simp
      (try simp only [Act.put, List.getElem_toArray, List.getElem_cons_zero, List.getElem_cons_succ, List.setIfInBounds_toArray, List.set_cons_zero, List.set_cons_succ])
      refine wpAnyH_take (i := 8) (v := .int .i64 k) rfl (by kernel_rfl) (by kernel_rfl) (by kernel_rfl) (fun _ _ _ h => h) (Or.inl ⟨by rfl, ?_⟩) hHeld ?_
      · intro wy hy; go_simp
      (try simp only [Act.put, List.getElem_toArray, List.getElem_cons_zero, List.getElem_cons_succ, List.setIfInBounds_toArray, List.set_cons_zero, List.set_cons_succ])
      refine wpAnyH_take (i := 9) (v := .pointer (some ⟨w.heap.size + 1, 1, none⟩)) rfl (by kernel_rfl) (by kernel_rfl) (by kernel_rfl) (fun _ _ _ h => h) (Or.inl ⟨by rfl, ?_⟩) hHeld ?_
      · intro wy hy; go_simp
      (try simp only [Act.put, List.getElem_toArray, List.getElem_cons_zero, List.getElem_cons_succ, List.setIfInBounds_toArray, List.set_cons_zero, List.set_cons_succ])
      refine wpAnyH_take (i := 10) (v := .slice (some ⟨b', off', none⟩) L cap') rfl (by kernel_rfl) (by kernel_rfl) (by kernel_rfl) (fun _ _ _ h => h) (Or.inl ⟨by rfl, ?_⟩) hHeld ?_
      · intro wy hy; obtain ⟨c0, c1⟩ := (hy.box 2 (w.heap.size + 1, [.int .i64 (N : Int), .slice (some ⟨b', off', none⟩) L cap']) rfl).cell2; go_simp
      (try simp only [Act.put, List.getElem_toArray, List.getElem_cons_zero, List.getElem_cons_succ, List.setIfInBounds_toArray, List.set_cons_zero, List.set_cons_succ])
      refine wpAnyH_take (i := 11) (v := .int .i64 (i : Int)) rfl (by kernel_rfl) (by kernel_rfl) (by kernel_rfl) (fun _ _ _ h => h) (Or.inl ⟨by rfl, ?_⟩) hHeld ?_
      · intro wy hy; go_simp
      (try simp only [Act.put, List.getElem_toArray, List.getElem_cons_zero, List.getElem_cons_succ, List.setIfInBounds_toArray, List.set_cons_zero, List.set_cons_succ])
      refine wpAnyH_take (i := 12) (v := .pointer (some ⟨b', off' + i, none⟩)) rfl (by kernel_rfl) (by kernel_rfl) (by kernel_rfl) (fun _ _ _ h => h) (Or.inl ⟨by rfl, ?_⟩) hHeld ?_
      · intro wy hy; go_simp
      (try simp only [Act.put, List.getElem_toArray, List.getElem_cons_zero, List.getElem_cons_succ, List.setIfInBounds_toArray, List.set_cons_zero, List.set_cons_succ])
      refine wpAnyH_take (i := 13) (v := .int .i64 (g i)) rfl (by kernel_rfl) (by kernel_rfl) (by kernel_rfl) (fun _ _ _ h => h) (Or.inl ⟨by rfl, ?_⟩) hHeld ?_
      · intro wy hy; have hc := (hy.sl 0 ⟨o', lo', hi', .slice (some ⟨b', off', none⟩) L cap', L, g⟩ rfl).known (by show 0 < L; omega); replace hc := hc.2.2.2.1 i hlt; (try dsimp only at hc); go_simp
      (try simp only [Act.put, List.getElem_toArray, List.getElem_cons_zero, List.getElem_cons_succ, List.setIfInBounds_toArray, List.set_cons_zero, List.set_cons_succ])
      refine wpAnyH_take (i := 14) (v := .int .i64 (k * g i)) rfl (by kernel_rfl) (by kernel_rfl) (by kernel_rfl) (fun _ _ _ h => h) (Or.inl ⟨by rfl, ?_⟩) hHeld ?_
      · intro wy hy; go_simp
      (try simp only [Act.put, List.getElem_toArray, List.getElem_cons_zero, List.getElem_cons_succ, List.setIfInBounds_toArray, List.set_cons_zero, List.set_cons_succ])
      refine wpAnyH_take (i := 15) (v := .int .i64 (f i + k * g i)) rfl (by kernel_rfl) (by kernel_rfl) (by kernel_rfl) (fun _ _ _ h => h) (Or.inl ⟨by rfl, ?_⟩) hHeld ?_
      · intro wy hy; go_simp
      (try simp only [Act.put, List.getElem_toArray, List.getElem_cons_zero, List.getElem_cons_succ, List.setIfInBounds_toArray, List.set_cons_zero, List.set_cons_succ])
      refine wpAnyH_take (i := 16) (v := .pointer (some ⟨g1, o1 + i, none⟩)) rfl (by kernel_rfl) (by kernel_rfl) (by kernel_rfl) (fun _ _ _ h => h) (Or.inl ⟨by rfl, ?_⟩) hHeld ?_
      · intro wy hy; go_simp
      (try simp only [Act.put, List.getElem_toArray, List.getElem_cons_zero, List.getElem_cons_succ, List.setIfInBounds_toArray, List.set_cons_zero, List.set_cons_succ])
      refine wpAnyH_ready (rs := [17]) (by kernel_rfl) (by simp) ?_
      refine AllReadyH.cons rfl (fun K hK => ?_) AllReadyH.nil
      rw [if_pos (by rfl)]
      (try simp only [List.getElem_toArray, List.getElem_cons_zero, List.getElem_cons_succ])
      have hc := (st.sl 0 ⟨true, w1.heap.size, w3.heap.size, .slice (some ⟨g1, o1, none⟩) L k3, L, fun j => if j < i then f j + k * g j else 0⟩ rfl).known (by show 0 < L; omega)
      have hfz := hc.2.2.2.2 rfl
      replace hc := hc.2.2.2.1 i hlt
      dsimp only at hc hfz
      go_simp
      refine hK.out _ _ ?_ (fun hHeld => ?_)
      · exact hHeld.write ((Frame.refl w1.heap.size w3.heap.size _).setCell (p := ⟨g1, o1 + i, none⟩) hg1 hg1' (.int .i64 (f i + k * g i))) (by have := Z1.out; omega) (by have := Z1.out; intro q hq; simp only [List.mem_cons, List.not_mem_nil, or_false] at hq; rcases hq with rfl | rfl | rfl | rfl <;> dsimp only <;> omega) (by have := Z1.out; intro q hq; simp only [List.mem_cons, List.not_mem_nil, or_false] at hq; rcases hq with rfl | rfl <;> dsimp only <;> omega)
      clear hK K
      (try simp only [Act.put, List.getElem_toArray, List.getElem_cons_zero, List.getElem_cons_succ, List.setIfInBounds_toArray, List.set_cons_zero, List.set_cons_succ])
      refine wpAnyH_done (by kernel_rfl) ?_ _
      go_wp2
      go_roundw
      case rel =>
        refine ⟨i + 1, by omega, by go_num, ?_⟩
        have q := st.sl 0 ⟨true, w1.heap.size, w3.heap.size, .slice (some ⟨g1, o1, none⟩) L k3, L, fun j => if j < i then f j + k * g j else 0⟩ rfl
        dsimp only at q
        have qs := q.store (i := i) (x := f i + k * g i) (by omega) (by unfold inR; omega)
        refine (((st.subR (bs' := [(w3.heap.size, [.int .i64 (N : Int), .slice (some ⟨g1, o1, none⟩) L k3]), (w.heap.size + 1 + 1, [.int .i64 0, .slice none 0 0]), (w.heap.size + 1, [.int .i64 (N : Int), .slice (some ⟨b', off', none⟩) L cap']), (w.heap.size, [.int .i64 (N : Int), .slice (some ⟨b, off, none⟩) L cap])]) (ss' := [⟨o', lo', hi', .slice (some ⟨b', off', none⟩) L cap', L, g⟩, ⟨o, lo, hi, .slice (some ⟨b, off, none⟩) L cap, L, f⟩]) (fun _ h => h) (fun _ h => List.mem_cons_of_mem _ h)).write ((Frame.refl w1.heap.size w3.heap.size _).setCell (p := ⟨g1, o1 + i, none⟩) hg1 hg1' (.int .i64 (f i + k * g i))) (by have := Z1.out; omega) (by have := Z1.out; intro q hq; simp only [List.mem_cons, List.not_mem_nil, or_false] at hq; rcases hq with rfl | rfl | rfl | rfl <;> dsimp only <;> omega) (by have := Z1.out; intro q hq; simp only [List.mem_cons, List.not_mem_nil, or_false] at hq; rcases hq with rfl | rfl <;> dsimp only <;> omega))).addSl ⟨true, w1.heap.size, w3.heap.size, .slice (some ⟨g1, o1, none⟩) L k3, L, fun j => if j < (i + 1) then f j + k * g j else 0⟩ (qs.congr (fun j hj => by
            dsimp only
            by_cases e : j = i
            · subst e; rw [if_pos rfl, if_pos (by omega)]
            · rw [if_neg e]; by_cases e2 : j < i
              · rw [if_pos e2, if_pos (by omega)]
              · rw [if_neg e2, if_neg (by omega)]))
      case measure => simp [intOf] <;> omega
    · obtain rfl : L = i := by omega
      have q := (st.sl 0 ⟨true, w1.heap.size, w3.heap.size, .slice (some ⟨g1, o1, none⟩) L k3, L, fun j => if j < L then f j + k * g j else 0⟩ rfl).congr (f' := sumR' k f g) (fun j hj => by dsimp only; rw [if_pos hj]; rfl)
      dsimp only at q
      have HQ := Lib.hid q
      have ZR := Lib.hid (show w3.heap.size < wr.heap.size from (st.box 0 (w3.heap.size, [.int .i64 (N : Int), .slice (some ⟨g1, o1, none⟩) L k3]) rfl).1)
      go_wp2_with (first
        | (go_at_call 101; refine (l10Told_ok _ _ HQ.out HW.out).mono ?_; rintro e w6 ⟨rfl, b6⟩
           have Z6 := Lib.hid b6.size
           have q6 := Lib.hid (HQ.out.keep b6 HQ.out.size)
           replace st := st.keep b6
           clear b6)
        | ((fail_if_success (have _g := Z7)); refine wpList_allocR rfl rfl ?_; intro w7 x7 b7 z7
           have Z7 := Lib.hid z7
           have BR := x7
           have q7 := Lib.hid (q6.out.keep b7 q6.out.size)
           replace st := (st.keep b7).addBox _ _ x7
           clear x7 b7 z7)
        | ((fail_if_success (have _g := Z8)); refine wpList_storeR rfl _ _ rfl w6.heap.size rfl (v0 := .int .i64 (N : Int)) (v1 := .slice (some ⟨g1, o1, none⟩) L k3) rfl rfl rfl BR ?_; intro w8 x8 f8
           have Z8 := Lib.hid f8.size
           have q8 := Lib.hid (q7.out.keepF f8 (.inl (by have := Z6.out; have := ZR.out; omega)))
           replace st := st.headR x8 f8 (by have := Z6.out; have := Z1.out; have := ZR.out; omega) (by have := Z6.out; have := Z1.out; have := ZR.out; intro q hq; simp only [List.mem_cons, List.not_mem_nil, or_false] at hq; rcases hq with rfl | rfl | rfl | rfl <;> dsimp only <;> omega) (by have := Z6.out; have := Z1.out; have := ZR.out; intro q hq; simp only [List.mem_cons, List.not_mem_nil, or_false] at hq; rcases hq with rfl | rfl | rfl <;> dsimp only <;> omega)
           have BR := st.box 2 (w.heap.size + 1 + 1, [.int .i64 0, .slice none 0 0]) rfl
           dsimp only at BR
           obtain ⟨c0, c1⟩ := (st.box 0 (w6.heap.size, [.int .i64 (N : Int), .slice (some ⟨g1, o1, none⟩) L k3]) rfl).cell2
           clear x8 f8)
        | (refine wpList_storeR rfl _ _ rfl (w.heap.size + 1 + 1) rfl (v0 := .int .i64 (N : Int)) (v1 := .slice (some ⟨g1, o1, none⟩) L k3) rfl rfl rfl BR ?_; intro w9 x9 f9
           obtain ⟨d0, d1⟩ := x9.cell2))
      refine bodyPost_ret (v := .tuple #[.agg #[.int .i64 (N : Int), .slice (some ⟨g1, o1, none⟩) L k3], .int .i64 0]) (by simp [results, Try.results32, go_sem, d0, d1]) rfl ?_
      refine ⟨_, _, rfl, ?_, ?_⟩
      · refine ((q8.out.keepF f9 (.inr (by have := Z1.out; omega))).wide (by have := Z1.out; omega) ?_ (Nat.le_refl _))
        have := q8.out.size
        have := f9.size
        omega
      · exact st.1.trans (f9.below (by omega) st.1.size)
theorem AddRings_spec_big (N : Nat) {L : Nat} (k : Int) (w : World) (hs : Sl o w lo hi v L f) (ht : Sl o' w lo' hi' v' L g) (h : RgP N L f) (h' : RgP N L g) (hk1 : -1000 ≤ k) (hk2 : k ≤ 1000) (hw : ¬ Within (sumR' k f g) L 1000000000) :
    Calls Try.prog 32 #[.agg #[.int .i64 (N : Int), v], .agg #[.int .i64 (N : Int), v'], .int .i64 k] w fun e w' => e = .returned (.tuple #[.agg #[.int .i64 0, .slice none 0 0], .int .i64 3]) ∧ Below w.heap.size w w' := by
  have h2 : 2 ≤ N := by have := h.1; omega
  have h40 : N ≤ 40 := by have := h.2.1; omega
  have hp := phi_le40 N (by omega)
  have hp0 := phi_pos40 N (by omega) (by omega)
  have hn : L = phiN N := h.2.2.1
  have HC := Lib.hid (ringC_ok h h' rfl)
  have HW := Lib.hid hw
  have HF := Lib.hid h.2.2.2
  have HG := Lib.hid h'.2.2.2
  have HLN := Lib.hid hn
  have hL0 : 0 < L := by omega
  have hL40 : L ≤ 40 := by omega
  clear h h' hw hn
  have hm := hs.len
  have hm' := ht.len
  unfold maxLen at hm hm'
  obtain ⟨a, cap, rfl⟩ := hs.shape
  obtain ⟨a', cap', rfl⟩ := ht.shape
  have hhs := hs.size
  have hht := ht.size
  have st := (((((St.start w).addSl ⟨o, lo, hi, .slice a L cap, L, f⟩ hs).addSl ⟨o', lo', hi', .slice a' L cap', L, g⟩ ht).alloc (.cells #[.int .i64 (N : Int), .slice a L cap] 26)).addBox w.heap.size [.int .i64 (N : Int), .slice a L cap] (Box.made _ _ _ _ (fun j v h => by simpa using h)))
  replace st := (st.alloc (.cells #[.int .i64 (N : Int), .slice a' L cap'] 26)).addBox _ [.int .i64 (N : Int), .slice a' L cap'] (Box.made _ _ _ _ (fun j v h => by simpa using h))
  replace st := (st.alloc (.cells #[.int .i64 0, .slice none 0 0] 26)).addBox _ [.int .i64 0, .slice none 0 0] (Box.made _ _ _ _ (fun j v h => by simpa using h))
  simp only [World.size_alloc] at st
  clear hs ht
  have q0 := st.sl 1 ⟨o, lo, hi, .slice a L cap, L, f⟩ rfl
  have q1 := st.sl 0 ⟨o', lo', hi', .slice a' L cap', L, g⟩ rfl
  dsimp only at q0 q1
  obtain ⟨x0, x1⟩ := (st.box 2 (w.heap.size, [.int .i64 (N : Int), .slice a L cap]) rfl).cell2
  obtain ⟨y0, y1⟩ := (st.box 1 (w.heap.size + 1, [.int .i64 (N : Int), .slice a' L cap']) rfl).cell2
  go_enter Try.func32, Try.ntmps32
  go_wp2_with fail
  refine (l10Like_any _ _ _ q0 q1).mono ?_
  rw [HC.out]
  rintro e w1 ⟨rfl, b1⟩
  clear q0 q1 x0 x1 y0 y1
  have Z1 := Lib.hid (show w.heap.size + 3 ≤ w1.heap.size from by have := b1.size; simp only [World.size_alloc] at this; omega)
  replace st := st.keep b1
  clear b1
  obtain ⟨x0, x1⟩ := (st.box 2 (w.heap.size, [.int .i64 (N : Int), .slice a L cap]) rfl).cell2
  go_wp2_with (first
    | (go_at_call 100; refine (l01In_yes _ _ _ _ (by omega) (by omega)).mono ?_; rintro e w' ⟨rfl, rfl⟩)
    | (go_at_call 109; refine (l10Zero_any N (by omega) h40 _).mono ?_; rintro e w3 ⟨a3, k3, rfl, s3, b3⟩
       rw [← HLN.out] at s3
       have Z3 := Lib.hid b3.size
       replace st := (st.keep b3).addSl ⟨true, w1.heap.size, w3.heap.size, .slice a3 L k3, L, fun _ => 0⟩ s3
       clear b3 s3)
    | (refine wpList_allocR rfl rfl ?_; intro w4 x4 b4 z4
       have Z4 := Lib.hid z4
       have BR := x4
       replace st := (st.keep b4).addBox _ _ x4
       clear x4 b4 z4)
    | (refine wpList_storeR rfl _ _ rfl w3.heap.size rfl (v0 := .int .i64 (N : Int)) (v1 := .slice a3 (phiN N) k3) rfl rfl rfl BR ?_; intro w5 x5 f5
       rw [← HLN.out] at x5
       have Z5 := Lib.hid f5.size
       replace st := st.headR x5 f5 (by have := Z1.out; have := Z3.out; omega) (by have := Z1.out; have := Z3.out; intro q hq; simp only [List.mem_cons, List.not_mem_nil, or_false] at hq; rcases hq with rfl | rfl | rfl <;> dsimp only <;> omega) (by have := Z1.out; have := Z3.out; intro q hq; simp only [List.mem_cons, List.not_mem_nil, or_false] at hq; rcases hq with rfl | rfl | rfl <;> dsimp only <;> omega)
       clear x5 f5))
  have Z13 := Z3.out
  obtain ⟨b, off, cap9, hv9, hbl, hbh, -⟩ := (st.sl 2 ⟨o, lo, hi, .slice a L cap, L, f⟩ rfl).at hL0
  obtain ⟨rfl, rfl⟩ : a = some ⟨b, off, none⟩ ∧ cap = cap9 := by cases hv9; exact ⟨rfl, rfl⟩
  obtain ⟨b', off', cap8, hv8, hbl', hbh', -⟩ := (st.sl 1 ⟨o', lo', hi', .slice a' L cap', L, g⟩ rfl).at hL0
  obtain ⟨rfl, rfl⟩ : a' = some ⟨b', off', none⟩ ∧ cap' = cap8 := by cases hv8; exact ⟨rfl, rfl⟩
  obtain ⟨g1, o1, cap7, hv7, hg1, hg1', -⟩ := (st.sl 0 ⟨true, w1.heap.size, w3.heap.size, .slice a3 L k3, L, fun _ => 0⟩ rfl).at hL0
  obtain ⟨rfl, rfl⟩ : a3 = some ⟨g1, o1, none⟩ ∧ k3 = cap7 := by cases hv7; exact ⟨rfl, rfl⟩
  dsimp only at hg1 hg1'
  clear hv9 hv8 hv7 BR x0 x1
  go_loopw [10] (fun s6 wr => ∃ i : Nat, i ≤ L ∧ s6 = .int .i64 (i : Int) ∧ St w wr [(w3.heap.size, [.int .i64 (N : Int), .slice (some ⟨g1, o1, none⟩) L k3]), (w.heap.size + 1 + 1, [.int .i64 0, .slice none 0 0]), (w.heap.size + 1, [.int .i64 (N : Int), .slice (some ⟨b', off', none⟩) L cap']), (w.heap.size, [.int .i64 (N : Int), .slice (some ⟨b, off, none⟩) L cap])] [⟨true, w1.heap.size, w3.heap.size, .slice (some ⟨g1, o1, none⟩) L k3, L, fun j => if j < i then f j + k * g j else 0⟩, ⟨o', lo', hi', .slice (some ⟨b', off', none⟩) L cap', L, g⟩, ⟨o, lo, hi, .slice (some ⟨b, off, none⟩) L cap, L, f⟩]) (fun s6 _ => L - (intOf s6).toNat)
  case atStart =>
    refine ⟨0, by omega, rfl, ?_⟩
    refine (st.subR (bs' := [(w3.heap.size, [.int .i64 (N : Int), .slice (some ⟨g1, o1, none⟩) L k3]), (w.heap.size + 1 + 1, [.int .i64 0, .slice none 0 0]), (w.heap.size + 1, [.int .i64 (N : Int), .slice (some ⟨b', off', none⟩) L cap']), (w.heap.size, [.int .i64 (N : Int), .slice (some ⟨b, off, none⟩) L cap])]) (ss' := [⟨o', lo', hi', .slice (some ⟨b', off', none⟩) L cap', L, g⟩, ⟨o, lo, hi, .slice (some ⟨b, off, none⟩) L cap, L, f⟩]) (fun _ h => h) (fun _ h => List.mem_cons_of_mem _ h)).addSl ⟨true, w1.heap.size, w3.heap.size, .slice (some ⟨g1, o1, none⟩) L k3, L, fun j => if j < 0 then f j + k * g j else 0⟩ ((st.sl 0 ⟨true, w1.heap.size, w3.heap.size, .slice (some ⟨g1, o1, none⟩) L k3, L, fun _ => 0⟩ rfl).congr (fun j hj => by dsimp only; rw [if_neg (by omega)]))
  case round =>
    clear st
    obtain ⟨i, hk, rfl, st⟩ := hrel
    obtain ⟨c0, c1⟩ := (st.box 0 (w3.heap.size, [.int .i64 (N : Int), .slice (some ⟨g1, o1, none⟩) L k3]) rfl).cell2
    by_cases hlt : i < L
    · have hki : (i : Int) < (L : Int) := by omega
      have hfi := HF.out i hlt
      have hgi := HG.out i hlt
      have hmi := mulRk hk1 hk2 hgi.1 hgi.2
      have wk1 : IntKind.i64.wrap (k * g i) = k * g i := by rw [IntKind.wrap_i64]; omega
      have wk2 : IntKind.i64.wrap (f i + k * g i) = f i + k * g i := by rw [IntKind.wrap_i64]; omega
      go_wp2_with fail
      replace st := st.drew
      refine wp_region_held_drew (S := fun wy => St w wy [(w3.heap.size, [.int .i64 (N : Int), .slice (some ⟨g1, o1, none⟩) L k3]), (w.heap.size + 1 + 1, [.int .i64 0, .slice none 0 0]), (w.heap.size + 1, [.int .i64 (N : Int), .slice (some ⟨b', off', none⟩) L cap']), (w.heap.size, [.int .i64 (N : Int), .slice (some ⟨b, off, none⟩) L cap])] [⟨o', lo', hi', .slice (some ⟨b', off', none⟩) L cap', L, g⟩, ⟨o, lo, hi, .slice (some ⟨b, off, none⟩) L cap, L, f⟩]) (by kernel_rfl) (st.subR (fun _ h => h) (fun _ h => List.mem_cons_of_mem _ h)) (fun hHeld => ?_)
      refine wpAnyH_take (i := 0) (v := .pointer (some ⟨w3.heap.size, 1, none⟩)) rfl (by kernel_rfl) (by kernel_rfl) (by kernel_rfl) (fun _ _ _ h => h) (Or.inl ⟨by rfl, ?_⟩) hHeld ?_
      · intro wy hy; go_simp
      (try simp only [Act.put, List.getElem_toArray, List.getElem_cons_zero, List.getElem_cons_succ, List.setIfInBounds_toArray, List.set_cons_zero, List.set_cons_succ])
      refine wpAnyH_take (i := 1) (v := .slice (some ⟨g1, o1, none⟩) L k3) rfl (by kernel_rfl) (by kernel_rfl) (by kernel_rfl) (fun _ _ _ h => h) (Or.inl ⟨by rfl, ?_⟩) hHeld ?_
      · intro wy hy; obtain ⟨c0, c1⟩ := (hy.box 0 (w3.heap.size, [.int .i64 (N : Int), .slice (some ⟨g1, o1, none⟩) L k3]) rfl).cell2; go_simp
      (try simp only [Act.put, List.getElem_toArray, List.getElem_cons_zero, List.getElem_cons_succ, List.setIfInBounds_toArray, List.set_cons_zero, List.set_cons_succ])
      refine wpAnyH_take (i := 2) (v := .int .i64 (i : Int)) rfl (by kernel_rfl) (by kernel_rfl) (by kernel_rfl) (fun _ _ _ h => h) (Or.inl ⟨by rfl, ?_⟩) hHeld ?_
      · intro wy hy; go_simp
      (try simp only [Act.put, List.getElem_toArray, List.getElem_cons_zero, List.getElem_cons_succ, List.setIfInBounds_toArray, List.set_cons_zero, List.set_cons_succ])
      refine wpAnyH_take (i := 3) (v := .pointer (some ⟨w.heap.size, 1, none⟩)) rfl (by kernel_rfl) (by kernel_rfl) (by kernel_rfl) (fun _ _ _ h => h) (Or.inl ⟨by rfl, ?_⟩) hHeld ?_
      · intro wy hy; go_simp
      (try simp only [Act.put, List.getElem_toArray, List.getElem_cons_zero, List.getElem_cons_succ, List.setIfInBounds_toArray, List.set_cons_zero, List.set_cons_succ])
      refine wpAnyH_take (i := 4) (v := .slice (some ⟨b, off, none⟩) L cap) rfl (by kernel_rfl) (by kernel_rfl) (by kernel_rfl) (fun _ _ _ h => h) (Or.inl ⟨by rfl, ?_⟩) hHeld ?_
      · intro wy hy; obtain ⟨c0, c1⟩ := (hy.box 3 (w.heap.size, [.int .i64 (N : Int), .slice (some ⟨b, off, none⟩) L cap]) rfl).cell2; go_simp
      (try simp only [Act.put, List.getElem_toArray, List.getElem_cons_zero, List.getElem_cons_succ, List.setIfInBounds_toArray, List.set_cons_zero, List.set_cons_succ])
      refine wpAnyH_take (i := 5) (v := .int .i64 (i : Int)) rfl (by kernel_rfl) (by kernel_rfl) (by kernel_rfl) (fun _ _ _ h => h) (Or.inl ⟨by rfl, ?_⟩) hHeld ?_
      · intro wy hy; go_simp
      (try simp only [Act.put, List.getElem_toArray, List.getElem_cons_zero, List.getElem_cons_succ, List.setIfInBounds_toArray, List.set_cons_zero, List.set_cons_succ])
      refine wpAnyH_take (i := 6) (v := .pointer (some ⟨b, off + i, none⟩)) rfl (by kernel_rfl) (by kernel_rfl) (by kernel_rfl) (fun _ _ _ h => h) (Or.inl ⟨by rfl, ?_⟩) hHeld ?_
      · intro wy hy; go_simp
      (try simp only [Act.put, List.getElem_toArray, List.getElem_cons_zero, List.getElem_cons_succ, List.setIfInBounds_toArray, List.set_cons_zero, List.set_cons_succ])
      refine wpAnyH_take (i := 7) (v := .int .i64 (f i)) rfl (by kernel_rfl) (by kernel_rfl) (by kernel_rfl) (fun _ _ _ h => h) (Or.inl ⟨by rfl, ?_⟩) hHeld ?_
      · intro wy hy; have hc := (hy.sl 1 ⟨o, lo, hi, .slice (some ⟨b, off, none⟩) L cap, L, f⟩ rfl).known (by show 0 < L; omega); replace hc := hc.2.2.2.1 i hlt; (try dsimp only at hc); go_simp
      (try simp only [Act.put, List.getElem_toArray, List.getElem_cons_zero, List.getElem_cons_succ, List.setIfInBounds_toArray, List.set_cons_zero, List.set_cons_succ])
      refine wpAnyH_take (i := 8) (v := .int .i64 k) rfl (by kernel_rfl) (by kernel_rfl) (by kernel_rfl) (fun _ _ _ h => h) (Or.inl ⟨by rfl, ?_⟩) hHeld ?_
      · intro wy hy; go_simp
      (try simp only [Act.put, List.getElem_toArray, List.getElem_cons_zero, List.getElem_cons_succ, List.setIfInBounds_toArray, List.set_cons_zero, List.set_cons_succ])
      refine wpAnyH_take (i := 9) (v := .pointer (some ⟨w.heap.size + 1, 1, none⟩)) rfl (by kernel_rfl) (by kernel_rfl) (by kernel_rfl) (fun _ _ _ h => h) (Or.inl ⟨by rfl, ?_⟩) hHeld ?_
      · intro wy hy; go_simp
      (try simp only [Act.put, List.getElem_toArray, List.getElem_cons_zero, List.getElem_cons_succ, List.setIfInBounds_toArray, List.set_cons_zero, List.set_cons_succ])
      refine wpAnyH_take (i := 10) (v := .slice (some ⟨b', off', none⟩) L cap') rfl (by kernel_rfl) (by kernel_rfl) (by kernel_rfl) (fun _ _ _ h => h) (Or.inl ⟨by rfl, ?_⟩) hHeld ?_
      · intro wy hy; obtain ⟨c0, c1⟩ := (hy.box 2 (w.heap.size + 1, [.int .i64 (N : Int), .slice (some ⟨b', off', none⟩) L cap']) rfl).cell2; go_simp
      (try simp only [Act.put, List.getElem_toArray, List.getElem_cons_zero, List.getElem_cons_succ, List.setIfInBounds_toArray, List.set_cons_zero, List.set_cons_succ])
      refine wpAnyH_take (i := 11) (v := .int .i64 (i : Int)) rfl (by kernel_rfl) (by kernel_rfl) (by kernel_rfl) (fun _ _ _ h => h) (Or.inl ⟨by rfl, ?_⟩) hHeld ?_
      · intro wy hy; go_simp
      (try simp only [Act.put, List.getElem_toArray, List.getElem_cons_zero, List.getElem_cons_succ, List.setIfInBounds_toArray, List.set_cons_zero, List.set_cons_succ])
      refine wpAnyH_take (i := 12) (v := .pointer (some ⟨b', off' + i, none⟩)) rfl (by kernel_rfl) (by kernel_rfl) (by kernel_rfl) (fun _ _ _ h => h) (Or.inl ⟨by rfl, ?_⟩) hHeld ?_
      · intro wy hy; go_simp
      (try simp only [Act.put, List.getElem_toArray, List.getElem_cons_zero, List.getElem_cons_succ, List.setIfInBounds_toArray, List.set_cons_zero, List.set_cons_succ])
      refine wpAnyH_take (i := 13) (v := .int .i64 (g i)) rfl (by kernel_rfl) (by kernel_rfl) (by kernel_rfl) (fun _ _ _ h => h) (Or.inl ⟨by rfl, ?_⟩) hHeld ?_
      · intro wy hy; have hc := (hy.sl 0 ⟨o', lo', hi', .slice (some ⟨b', off', none⟩) L cap', L, g⟩ rfl).known (by show 0 < L; omega); replace hc := hc.2.2.2.1 i hlt; (try dsimp only at hc); go_simp
      (try simp only [Act.put, List.getElem_toArray, List.getElem_cons_zero, List.getElem_cons_succ, List.setIfInBounds_toArray, List.set_cons_zero, List.set_cons_succ])
      refine wpAnyH_take (i := 14) (v := .int .i64 (k * g i)) rfl (by kernel_rfl) (by kernel_rfl) (by kernel_rfl) (fun _ _ _ h => h) (Or.inl ⟨by rfl, ?_⟩) hHeld ?_
      · intro wy hy; go_simp
      (try simp only [Act.put, List.getElem_toArray, List.getElem_cons_zero, List.getElem_cons_succ, List.setIfInBounds_toArray, List.set_cons_zero, List.set_cons_succ])
      refine wpAnyH_take (i := 15) (v := .int .i64 (f i + k * g i)) rfl (by kernel_rfl) (by kernel_rfl) (by kernel_rfl) (fun _ _ _ h => h) (Or.inl ⟨by rfl, ?_⟩) hHeld ?_
      · intro wy hy; go_simp
      (try simp only [Act.put, List.getElem_toArray, List.getElem_cons_zero, List.getElem_cons_succ, List.setIfInBounds_toArray, List.set_cons_zero, List.set_cons_succ])
      refine wpAnyH_take (i := 16) (v := .pointer (some ⟨g1, o1 + i, none⟩)) rfl (by kernel_rfl) (by kernel_rfl) (by kernel_rfl) (fun _ _ _ h => h) (Or.inl ⟨by rfl, ?_⟩) hHeld ?_
      · intro wy hy; go_simp
      (try simp only [Act.put, List.getElem_toArray, List.getElem_cons_zero, List.getElem_cons_succ, List.setIfInBounds_toArray, List.set_cons_zero, List.set_cons_succ])
      refine wpAnyH_ready (rs := [17]) (by kernel_rfl) (by simp) ?_
      refine AllReadyH.cons rfl (fun K hK => ?_) AllReadyH.nil
      rw [if_pos (by rfl)]
      (try simp only [List.getElem_toArray, List.getElem_cons_zero, List.getElem_cons_succ])
      have hc := (st.sl 0 ⟨true, w1.heap.size, w3.heap.size, .slice (some ⟨g1, o1, none⟩) L k3, L, fun j => if j < i then f j + k * g j else 0⟩ rfl).known (by show 0 < L; omega)
      have hfz := hc.2.2.2.2 rfl
      replace hc := hc.2.2.2.1 i hlt
      dsimp only at hc hfz
      go_simp
      refine hK.out _ _ ?_ (fun hHeld => ?_)
      · exact hHeld.write ((Frame.refl w1.heap.size w3.heap.size _).setCell (p := ⟨g1, o1 + i, none⟩) hg1 hg1' (.int .i64 (f i + k * g i))) (by have := Z1.out; omega) (by have := Z1.out; intro q hq; simp only [List.mem_cons, List.not_mem_nil, or_false] at hq; rcases hq with rfl | rfl | rfl | rfl <;> dsimp only <;> omega) (by have := Z1.out; intro q hq; simp only [List.mem_cons, List.not_mem_nil, or_false] at hq; rcases hq with rfl | rfl <;> dsimp only <;> omega)
      clear hK K
      (try simp only [Act.put, List.getElem_toArray, List.getElem_cons_zero, List.getElem_cons_succ, List.setIfInBounds_toArray, List.set_cons_zero, List.set_cons_succ])
      refine wpAnyH_done (by kernel_rfl) ?_ _
      go_wp2
      go_roundw
      case rel =>
        refine ⟨i + 1, by omega, by go_num, ?_⟩
        have q := st.sl 0 ⟨true, w1.heap.size, w3.heap.size, .slice (some ⟨g1, o1, none⟩) L k3, L, fun j => if j < i then f j + k * g j else 0⟩ rfl
        dsimp only at q
        have qs := q.store (i := i) (x := f i + k * g i) (by omega) (by unfold inR; omega)
        refine (((st.subR (bs' := [(w3.heap.size, [.int .i64 (N : Int), .slice (some ⟨g1, o1, none⟩) L k3]), (w.heap.size + 1 + 1, [.int .i64 0, .slice none 0 0]), (w.heap.size + 1, [.int .i64 (N : Int), .slice (some ⟨b', off', none⟩) L cap']), (w.heap.size, [.int .i64 (N : Int), .slice (some ⟨b, off, none⟩) L cap])]) (ss' := [⟨o', lo', hi', .slice (some ⟨b', off', none⟩) L cap', L, g⟩, ⟨o, lo, hi, .slice (some ⟨b, off, none⟩) L cap, L, f⟩]) (fun _ h => h) (fun _ h => List.mem_cons_of_mem _ h)).write ((Frame.refl w1.heap.size w3.heap.size _).setCell (p := ⟨g1, o1 + i, none⟩) hg1 hg1' (.int .i64 (f i + k * g i))) (by have := Z1.out; omega) (by have := Z1.out; intro q hq; simp only [List.mem_cons, List.not_mem_nil, or_false] at hq; rcases hq with rfl | rfl | rfl | rfl <;> dsimp only <;> omega) (by have := Z1.out; intro q hq; simp only [List.mem_cons, List.not_mem_nil, or_false] at hq; rcases hq with rfl | rfl <;> dsimp only <;> omega))).addSl ⟨true, w1.heap.size, w3.heap.size, .slice (some ⟨g1, o1, none⟩) L k3, L, fun j => if j < (i + 1) then f j + k * g j else 0⟩ (qs.congr (fun j hj => by
            dsimp only
            by_cases e : j = i
            · subst e; rw [if_pos rfl, if_pos (by omega)]
            · rw [if_neg e]; by_cases e2 : j < i
              · rw [if_pos e2, if_pos (by omega)]
              · rw [if_neg e2, if_neg (by omega)]))
      case measure => simp [intOf] <;> omega
    · obtain rfl : L = i := by omega
      have q := (st.sl 0 ⟨true, w1.heap.size, w3.heap.size, .slice (some ⟨g1, o1, none⟩) L k3, L, fun j => if j < L then f j + k * g j else 0⟩ rfl).congr (f' := sumR' k f g) (fun j hj => by dsimp only; rw [if_pos hj]; rfl)
      dsimp only at q
      have HQ := Lib.hid q
      have ZR := Lib.hid (show w3.heap.size < wr.heap.size from (st.box 0 (w3.heap.size, [.int .i64 (N : Int), .slice (some ⟨g1, o1, none⟩) L k3]) rfl).1)
      go_wp2_with (first
        | (go_at_call 101; refine (l10Told_big _ _ HQ.out HW.out).mono ?_; rintro e w6 ⟨rfl, b6⟩
           have Z6 := Lib.hid b6.size
           have q6 := Lib.hid (HQ.out.keep b6 HQ.out.size)
           replace st := st.keep b6
           clear b6)
        | ((fail_if_success (have _g := Z7)); refine wpList_allocR rfl rfl ?_; intro w7 x7 b7 z7
           have Z7 := Lib.hid z7
           have BR := x7
           have q7 := Lib.hid (q6.out.keep b7 q6.out.size)
           replace st := (st.keep b7).addBox _ _ x7
           clear x7 b7 z7)
        | ((fail_if_success (have _g := Z8)); refine wpList_storeR rfl _ _ rfl w6.heap.size rfl (v0 := .int .i64 0) (v1 := .slice none 0 0) rfl rfl rfl BR ?_; intro w8 x8 f8
           have Z8 := Lib.hid f8.size
           have q8 := Lib.hid (q7.out.keepF f8 (.inl (by have := Z6.out; have := ZR.out; omega)))
           replace st := st.headR x8 f8 (by have := Z6.out; have := Z1.out; have := ZR.out; omega) (by have := Z6.out; have := Z1.out; have := ZR.out; intro q hq; simp only [List.mem_cons, List.not_mem_nil, or_false] at hq; rcases hq with rfl | rfl | rfl | rfl <;> dsimp only <;> omega) (by have := Z6.out; have := Z1.out; have := ZR.out; intro q hq; simp only [List.mem_cons, List.not_mem_nil, or_false] at hq; rcases hq with rfl | rfl | rfl <;> dsimp only <;> omega)
           have BR := st.box 2 (w.heap.size + 1 + 1, [.int .i64 0, .slice none 0 0]) rfl
           dsimp only at BR
           obtain ⟨c0, c1⟩ := (st.box 0 (w6.heap.size, [.int .i64 0, .slice none 0 0]) rfl).cell2
           clear x8 f8)
        | (refine wpList_storeR rfl _ _ rfl (w.heap.size + 1 + 1) rfl (v0 := .int .i64 0) (v1 := .slice none 0 0) rfl rfl rfl BR ?_; intro w9 x9 f9
           obtain ⟨d0, d1⟩ := x9.cell2))
      refine bodyPost_ret (v := .tuple #[.agg #[.int .i64 0, .slice none 0 0], .int .i64 3]) (by simp [results, Try.results32, go_sem, d0, d1]) rfl ⟨rfl, ?_⟩
      exact st.1.trans (f9.below (by omega) st.1.size)
end
end Go.Proofs.Ytonopjbccdpbhaa
