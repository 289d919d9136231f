/- MultiplyRings of the program. -/
import Derived.Test.YtonopjbccdpbhaaRgOq
namespace Go.Proofs.Ytonopjbccdpbhaa
open Go.RowKit Go.ChangeShapes Go.Sort
set_option linter.unusedVariables false
set_option linter.unusedSimpArgs false
set_option maxRecDepth 100000
set_option maxHeartbeats 2000000
/-- A long load behind a guard that lets it come. -/
theorem wpList_loadE_g {ops : Array Oper} {rest : List Oper} {op : Oper} {a : Act} {w : World} {Q : Exit → Act → World → Prop} (hw : Region.wanted op (yielded ops a.tmps) = true) (x : Operand) (ho : op.op = .load 95 x) (b : Nat) (hx : a.eval x = .pointer (some ⟨b, 0, none⟩)) {m : Int} {F : Nat → Int} (hb : Box w b (elL m F))
    (h : wpList Try.prog ops Q rest (a.put op.dst (.agg (elC m F))) w) : wpList Try.prog ops Q (op :: rest) a w := by
  simp only [wpList]
  rw [if_pos hw]
  exact .inl (wp_loadE x ho b hx hb h)
section
variable {o o' : Bool} {lo hi lo' hi' n m : Nat} {v v' : Value} {f g : Nat → Int}
theorem opM_iff {N : Nat} (h2 : 2 ≤ N) (h40 : N ≤ 40) : inC (opR N f (phiN N)) (-100000) 100000 = true ↔ Within f (phiN N) 100000 := by
  rw [inC_iff (by omega)]
  constructor
  · intro h j hj
    have := h (res N j) (by have := (res_lt40 (n := N) (by omega) h2 hj).2.1; omega)
    rwa [opR_at (by omega) h2 (Nat.le_refl _) hj] at this
  · intro h j _
    exact opR_bd (by omega) h j
theorem isWM {N : Nat} (h2 : 2 ≤ N) (h40 : N ≤ 40) (hf : Within f (phiN N) 1000000000) (b : Bool) (hb : (Within f (phiN N) 100000) ↔ b = true) (w : World) :
    Calls Try.prog 96 #[.agg (elC N (opR N f (phiN N))), .int .i64 (-100000), .int .i64 100000] w fun e w' => e = .returned (.bool b) ∧ Below w.heap.size w w' := by
  have e : inC (opR N f (phiN N)) (-100000) 100000 = b := by
    rw [Bool.eq_iff_iff, opM_iff h2 h40, hb]
  rw [← e]
  exact isWithinE_any N (opR N f (phiN N)) (-100000) 100000 w (fun j _ => by have := opR_bd (n := N) (by omega) hf j; unfold inR; omega) (by unfold inR; omega) (by unfold inR; omega)
theorem MultiplyRings_impl_bad (x y c : Int) (w : World) (hs : Sl o w lo hi v n f) (ht : Sl o' w lo' hi' v' m g) (hc : ringC x y n m f g = c) (hc0 : c ≠ 0) :
    Calls Try.prog 25 #[.agg #[.int .i64 x, v], .agg #[.int .i64 y, v']] w fun e w' => e = .returned (.tuple #[.agg #[.int .i64 0, .slice none 0 0], .int .i64 c]) ∧ Below w.heap.size w w' := by
  have HC := Lib.hid hc
  have HC0 := Lib.hid hc0
  clear hc
  have hb : (c != 0) = true := by simpa using hc0
  have hb' : (c == 0) = false := by simpa using hc0
  have hm := hs.len
  have hm' := ht.len
  unfold maxLen at hm hm'
  obtain ⟨a, cap, rfl⟩ := hs.shape
  obtain ⟨a', cap', rfl⟩ := ht.shape
  have hhs := hs.size
  have hht := ht.size
  have st := ((St.start w).addSl ⟨o, lo, hi, .slice a n cap, n, f⟩ hs).addSl ⟨o', lo', hi', .slice a' m cap', m, g⟩ ht
  clear hs ht
  go_enter Try.func25, Try.ntmps25
  go_wp2_with (first
    | ((fail_if_success (have _g := Z1)); refine wpList_boxR rfl _ rfl (v0 := .int .i64 x) (v1 := .slice a n cap) rfl ?_; intro w1 x1 b1 z1
       replace st := (st.keep b1).addBox _ _ x1
       have Z1 := Lib.hid z1
       clear x1 b1 z1)
    | (refine wpList_boxR rfl _ rfl (v0 := .int .i64 y) (v1 := .slice a' m cap') rfl ?_; intro w2 x2 b2 z2
       replace st := (st.keep b2).addBox _ _ x2
       have Z2 := Lib.hid z2
       clear x2 b2 z2)
    | ((fail_if_success (have _g := Z3)); refine wpList_allocR rfl rfl ?_; intro w3 x3 b3 z3
       replace st := (st.keep b3).addBox _ _ x3
       have Z3 := Lib.hid z3
       obtain ⟨c0, c1⟩ := (st.box 2 (w.heap.size, [.int .i64 x, .slice a n cap]) rfl).cell2
       obtain ⟨d0, d1⟩ := (st.box 1 (w1.heap.size, [.int .i64 y, .slice a' m cap']) rfl).cell2
       clear x3 b3 z3)
    | (go_at_call 95; refine (openRings_c _ _ _ _ (st.sl 1 ⟨o, lo, hi, .slice a n cap, n, f⟩ rfl) (st.sl 0 ⟨o', lo', hi', .slice a' m cap', m, g⟩ rfl) HC.out HC0.out).mono ?_; rintro e w4 ⟨rfl, b4⟩
       have Z4 := Lib.hid b4.size
       replace st := st.keep b4
       clear b4 c0 c1 d0 d1)
    | ((fail_if_success (have _g := Z5)); refine wpList_allocE rfl rfl ?_; intro w5 x5 b5 z5
       replace st := (st.keep b5).addBox _ _ x5
       have Z5 := Lib.hid z5
       clear x5 b5 z5)
    | ((fail_if_success (have _g := Z6)); refine wpList_allocE rfl rfl ?_; intro w6 x6 b6 z6
       replace st := (st.keep b6).addBox _ _ x6
       have Z6 := Lib.hid z6
       have B5 := st.box 1 (w4.heap.size, elL 0 (fun _ => 0)) rfl
       have B6 := st.box 0 (w5.heap.size, elL 0 (fun _ => 0)) rfl
       have st6 := Lib.hid st.1
       have SZ := Lib.hid (show w1.heap.size = w.heap.size + 1 ∧ w2.heap.size = w1.heap.size + 1 ∧ w3.heap.size = w2.heap.size + 1 ∧ w3.heap.size ≤ w4.heap.size ∧ w5.heap.size = w4.heap.size + 1 ∧ w6.heap.size = w5.heap.size + 1 from by have := Z1.out; have := Z2.out; have := Z3.out; have := Z4.out; have := Z5.out; have := Z6.out; omega)
       have BR := st.box 2 (w2.heap.size, [.int .i64 0, .slice none 0 0]) rfl
       dsimp only at B5 B6 BR
       clear x6 b6 z6)
    | ((fail_if_success (have _g := Z7)); refine wpList_storeE rfl _ _ rfl w4.heap.size rfl (m := 0) (F := (fun _ => 0)) rfl B5 elL_len ?_; intro w7 x7 f7
       have Z7 := Lib.hid f7
       have BL7 := Lib.hid (st6.out.trans (f7.below (by have := SZ.out; omega) st6.out.size))
       have B6 := B6.keepF f7 (by have := SZ.out; omega)
       have BR := BR.keepF f7 (by have := SZ.out; omega)
       clear B5)
    | ((fail_if_success (have _g := Z8)); refine wpList_storeE rfl _ _ rfl w5.heap.size rfl (m := 0) (F := (fun _ => 0)) rfl B6 elL_len ?_; intro w8 x8 f8
       have Z8 := Lib.hid f8
       have BL8 := Lib.hid (BL7.out.trans (f8.below (by have := SZ.out; omega) BL7.out.size))
       have B7 := x7.keepF f8 (by have := SZ.out; omega)
       have BR := BR.keepF f8 (by have := SZ.out; omega)
       have ZZ := Lib.hid (show w6.heap.size ≤ w8.heap.size from by have := f7.size; have := f8.size; omega)
       clear x7 f7 f8 B6)
    | (refine wpList_storeR rfl _ _ rfl w2.heap.size rfl (v0 := .int .i64 0) (v1 := .slice none 0 0) rfl rfl rfl BR ?_; intro w9 x9 f9
       obtain ⟨e0, e1⟩ := x9.cell2))
  refine bodyPost_ret (v := .tuple #[.agg #[.int .i64 0, .slice none 0 0], .int .i64 c]) (by simp [results, Try.results25, go_sem, e0, e1]) rfl ⟨rfl, ?_⟩
  exact BL8.out.trans (f9.below (by have := SZ.out; omega) BL8.out.size)
theorem MultiplyRings_impl_out1 (N : Nat) (w : World) (hs : Sl o w lo hi v n f) (ht : Sl o' w lo' hi' v' m g) (h : RgP N n f) (h' : RgP N m g) (hfw : ¬ Within f (phiN N) 100000) :
    Calls Try.prog 25 #[.agg #[.int .i64 (N : Int), v], .agg #[.int .i64 (N : Int), v']] w fun e w' => e = .returned (.tuple #[.agg #[.int .i64 0, .slice none 0 0], .int .i64 2]) ∧ Below w.heap.size w w' := by
  have h2 : 2 ≤ N := by have := h.1; omega
  have h40 : N ≤ 40 := by have := h.2.1; omega
  have hp := phi_le40 N (by omega)
  have hn : n = phiN N := h.2.2.1
  have hmn : m = phiN N := h'.2.2.1
  have H := Lib.hid h
  have H' := Lib.hid h'
  have HA := Lib.hid (isWM (f := f) h2 h40 (by rw [← hn]; exact h.2.2.2) false (by simpa using hfw))
  clear h h' hn hmn hfw
  have hm := hs.len
  have hm' := ht.len
  unfold maxLen at hm hm'
  obtain ⟨a, cap, rfl⟩ := hs.shape
  obtain ⟨a', cap', rfl⟩ := ht.shape
  have hhs := hs.size
  have hht := ht.size
  have st := ((St.start w).addSl ⟨o, lo, hi, .slice a n cap, n, f⟩ hs).addSl ⟨o', lo', hi', .slice a' m cap', m, g⟩ ht
  clear hs ht
  go_enter Try.func25, Try.ntmps25
  go_wp2_with (first
    | ((fail_if_success (have _g := Z1)); refine wpList_boxR rfl _ rfl (v0 := .int .i64 (N : Int)) (v1 := .slice a n cap) rfl ?_; intro w1 x1 b1 z1
       replace st := (st.keep b1).addBox _ _ x1
       have Z1 := Lib.hid z1
       clear x1 b1 z1)
    | (refine wpList_boxR rfl _ rfl (v0 := .int .i64 (N : Int)) (v1 := .slice a' m cap') rfl ?_; intro w2 x2 b2 z2
       replace st := (st.keep b2).addBox _ _ x2
       have Z2 := Lib.hid z2
       clear x2 b2 z2)
    | ((fail_if_success (have _g := Z3)); refine wpList_allocR rfl rfl ?_; intro w3 x3 b3 z3
       replace st := (st.keep b3).addBox _ _ x3
       have Z3 := Lib.hid z3
       obtain ⟨c0, c1⟩ := (st.box 2 (w.heap.size, [.int .i64 (N : Int), .slice a n cap]) rfl).cell2
       obtain ⟨d0, d1⟩ := (st.box 1 (w1.heap.size, [.int .i64 (N : Int), .slice a' m cap']) rfl).cell2
       clear x3 b3 z3)
    | (go_at_call 95; refine (openRings_yes N _ (st.sl 1 ⟨o, lo, hi, .slice a n cap, n, f⟩ rfl) (st.sl 0 ⟨o', lo', hi', .slice a' m cap', m, g⟩ rfl) H.out H'.out).mono ?_; rintro e w4 ⟨rfl, b4⟩
       have Z4 := Lib.hid b4.size
       replace st := st.keep b4
       clear b4 c0 c1 d0 d1)
    | ((fail_if_success (have _g := Z5)); refine wpList_allocE rfl rfl ?_; intro w5 x5 b5 z5
       replace st := (st.keep b5).addBox _ _ x5
       have Z5 := Lib.hid z5
       clear x5 b5 z5)
    | ((fail_if_success (have _g := Z6)); refine wpList_allocE rfl rfl ?_; intro w6 x6 b6 z6
       replace st := (st.keep b6).addBox _ _ x6
       have Z6 := Lib.hid z6
       have B5 := st.box 1 (w4.heap.size, elL 0 (fun _ => 0)) rfl
       have B6 := st.box 0 (w5.heap.size, elL 0 (fun _ => 0)) rfl
       have st6 := Lib.hid st.1
       have SZ := Lib.hid (show w1.heap.size = w.heap.size + 1 ∧ w2.heap.size = w1.heap.size + 1 ∧ w3.heap.size = w2.heap.size + 1 ∧ w3.heap.size ≤ w4.heap.size ∧ w5.heap.size = w4.heap.size + 1 ∧ w6.heap.size = w5.heap.size + 1 from by have := Z1.out; have := Z2.out; have := Z3.out; have := Z4.out; have := Z5.out; have := Z6.out; omega)
       have BR := st.box 2 (w2.heap.size, [.int .i64 0, .slice none 0 0]) rfl
       dsimp only at B5 B6 BR
       clear x6 b6 z6)
    | ((fail_if_success (have _g := Z7)); refine wpList_storeE rfl _ _ rfl w4.heap.size rfl (m := N) (F := (opR N f (phiN N))) rfl B5 elL_len ?_; intro w7 x7 f7
       have Z7 := Lib.hid f7
       have BL7 := Lib.hid (st6.out.trans (f7.below (by have := SZ.out; omega) st6.out.size))
       have B6 := B6.keepF f7 (by have := SZ.out; omega)
       have BR := BR.keepF f7 (by have := SZ.out; omega)
       clear B5)
    | ((fail_if_success (have _g := Z8)); refine wpList_storeE rfl _ _ rfl w5.heap.size rfl (m := N) (F := (opR N g (phiN N))) rfl B6 elL_len ?_; intro w8 x8 f8
       have Z8 := Lib.hid f8
       have BL8 := Lib.hid (BL7.out.trans (f8.below (by have := SZ.out; omega) BL7.out.size))
       have B7 := x7.keepF f8 (by have := SZ.out; omega)
       have BR := BR.keepF f8 (by have := SZ.out; omega)
       have ZZ := Lib.hid (show w6.heap.size ≤ w8.heap.size from by have := f7.size; have := f8.size; omega)
       clear x7 f7 f8 B6)
    | (refine wpList_loadE rfl _ rfl w4.heap.size rfl B7 ?_)
    | (refine wpList_loadE rfl _ rfl w5.heap.size rfl x8 ?_)
    | (refine wpList_loadE_g (by rfl) _ rfl w5.heap.size rfl x8 ?_)
    | ((fail_if_success (have _g := Z20)); go_at_call 96; refine (HA.out _).mono ?_; rintro e w20 ⟨rfl, b20⟩
       have Z20 := Lib.hid b20.size
       have BL20 := Lib.hid (BL8.out.trans (b20.mono (by have := SZ.out; have := ZZ.out; omega)))
       have B7 := B7.keep b20
       have x8 := x8.keep b20
       have BR := BR.keep b20
       clear b20)
    | (refine wpList_storeR rfl _ _ rfl w2.heap.size rfl (v0 := .int .i64 0) (v1 := .slice none 0 0) rfl rfl rfl BR ?_; intro w9 x9 f9
       obtain ⟨e0, e1⟩ := x9.cell2))
  refine bodyPost_ret (v := .tuple #[.agg #[.int .i64 0, .slice none 0 0], .int .i64 2]) (by simp [results, Try.results25, go_sem, e0, e1]) rfl ⟨rfl, ?_⟩
  exact BL20.out.trans (f9.below (by have := SZ.out; omega) BL20.out.size)
theorem MultiplyRings_impl_out2 (N : Nat) (w : World) (hs : Sl o w lo hi v n f) (ht : Sl o' w lo' hi' v' m g) (h : RgP N n f) (h' : RgP N m g) (hfw : Within f (phiN N) 100000) (hgw : ¬ Within g (phiN N) 100000) :
    Calls Try.prog 25 #[.agg #[.int .i64 (N : Int), v], .agg #[.int .i64 (N : Int), v']] w fun e w' => e = .returned (.tuple #[.agg #[.int .i64 0, .slice none 0 0], .int .i64 2]) ∧ Below w.heap.size w w' := by
  have h2 : 2 ≤ N := by have := h.1; omega
  have h40 : N ≤ 40 := by have := h.2.1; omega
  have hp := phi_le40 N (by omega)
  have hn : n = phiN N := h.2.2.1
  have hmn : m = phiN N := h'.2.2.1
  have H := Lib.hid h
  have H' := Lib.hid h'
  have HA := Lib.hid (isWM (f := f) h2 h40 (by rw [← hn]; exact h.2.2.2) true (by simpa using hfw))
  have HB := Lib.hid (isWM (f := g) h2 h40 (by rw [← hmn]; exact h'.2.2.2) false (by simpa using hgw))
  clear h h' hn hmn hfw hgw
  have hm := hs.len
  have hm' := ht.len
  unfold maxLen at hm hm'
  obtain ⟨a, cap, rfl⟩ := hs.shape
  obtain ⟨a', cap', rfl⟩ := ht.shape
  have hhs := hs.size
  have hht := ht.size
  have st := ((St.start w).addSl ⟨o, lo, hi, .slice a n cap, n, f⟩ hs).addSl ⟨o', lo', hi', .slice a' m cap', m, g⟩ ht
  clear hs ht
  go_enter Try.func25, Try.ntmps25
  go_wp2_with (first
    | ((fail_if_success (have _g := Z1)); refine wpList_boxR rfl _ rfl (v0 := .int .i64 (N : Int)) (v1 := .slice a n cap) rfl ?_; intro w1 x1 b1 z1
       replace st := (st.keep b1).addBox _ _ x1
       have Z1 := Lib.hid z1
       clear x1 b1 z1)
    | (refine wpList_boxR rfl _ rfl (v0 := .int .i64 (N : Int)) (v1 := .slice a' m cap') rfl ?_; intro w2 x2 b2 z2
       replace st := (st.keep b2).addBox _ _ x2
       have Z2 := Lib.hid z2
       clear x2 b2 z2)
    | ((fail_if_success (have _g := Z3)); refine wpList_allocR rfl rfl ?_; intro w3 x3 b3 z3
       replace st := (st.keep b3).addBox _ _ x3
       have Z3 := Lib.hid z3
       obtain ⟨c0, c1⟩ := (st.box 2 (w.heap.size, [.int .i64 (N : Int), .slice a n cap]) rfl).cell2
       obtain ⟨d0, d1⟩ := (st.box 1 (w1.heap.size, [.int .i64 (N : Int), .slice a' m cap']) rfl).cell2
       clear x3 b3 z3)
    | (go_at_call 95; refine (openRings_yes N _ (st.sl 1 ⟨o, lo, hi, .slice a n cap, n, f⟩ rfl) (st.sl 0 ⟨o', lo', hi', .slice a' m cap', m, g⟩ rfl) H.out H'.out).mono ?_; rintro e w4 ⟨rfl, b4⟩
       have Z4 := Lib.hid b4.size
       replace st := st.keep b4
       clear b4 c0 c1 d0 d1)
    | ((fail_if_success (have _g := Z5)); refine wpList_allocE rfl rfl ?_; intro w5 x5 b5 z5
       replace st := (st.keep b5).addBox _ _ x5
       have Z5 := Lib.hid z5
       clear x5 b5 z5)
    | ((fail_if_success (have _g := Z6)); refine wpList_allocE rfl rfl ?_; intro w6 x6 b6 z6
       replace st := (st.keep b6).addBox _ _ x6
       have Z6 := Lib.hid z6
       have B5 := st.box 1 (w4.heap.size, elL 0 (fun _ => 0)) rfl
       have B6 := st.box 0 (w5.heap.size, elL 0 (fun _ => 0)) rfl
       have st6 := Lib.hid st.1
       have SZ := Lib.hid (show w1.heap.size = w.heap.size + 1 ∧ w2.heap.size = w1.heap.size + 1 ∧ w3.heap.size = w2.heap.size + 1 ∧ w3.heap.size ≤ w4.heap.size ∧ w5.heap.size = w4.heap.size + 1 ∧ w6.heap.size = w5.heap.size + 1 from by have := Z1.out; have := Z2.out; have := Z3.out; have := Z4.out; have := Z5.out; have := Z6.out; omega)
       have BR := st.box 2 (w2.heap.size, [.int .i64 0, .slice none 0 0]) rfl
       dsimp only at B5 B6 BR
       clear x6 b6 z6)
    | ((fail_if_success (have _g := Z7)); refine wpList_storeE rfl _ _ rfl w4.heap.size rfl (m := N) (F := (opR N f (phiN N))) rfl B5 elL_len ?_; intro w7 x7 f7
       have Z7 := Lib.hid f7
       have BL7 := Lib.hid (st6.out.trans (f7.below (by have := SZ.out; omega) st6.out.size))
       have B6 := B6.keepF f7 (by have := SZ.out; omega)
       have BR := BR.keepF f7 (by have := SZ.out; omega)
       clear B5)
    | ((fail_if_success (have _g := Z8)); refine wpList_storeE rfl _ _ rfl w5.heap.size rfl (m := N) (F := (opR N g (phiN N))) rfl B6 elL_len ?_; intro w8 x8 f8
       have Z8 := Lib.hid f8
       have BL8 := Lib.hid (BL7.out.trans (f8.below (by have := SZ.out; omega) BL7.out.size))
       have B7 := x7.keepF f8 (by have := SZ.out; omega)
       have BR := BR.keepF f8 (by have := SZ.out; omega)
       have ZZ := Lib.hid (show w6.heap.size ≤ w8.heap.size from by have := f7.size; have := f8.size; omega)
       clear x7 f7 f8 B6)
    | (refine wpList_loadE rfl _ rfl w4.heap.size rfl B7 ?_)
    | (refine wpList_loadE rfl _ rfl w5.heap.size rfl x8 ?_)
    | (refine wpList_loadE_g (by rfl) _ rfl w5.heap.size rfl x8 ?_)
    | ((fail_if_success (have _g := Z20)); go_at_call 96; refine (HA.out _).mono ?_; rintro e w20 ⟨rfl, b20⟩
       have Z20 := Lib.hid b20.size
       have BL20 := Lib.hid (BL8.out.trans (b20.mono (by have := SZ.out; have := ZZ.out; omega)))
       have B7 := B7.keep b20
       have x8 := x8.keep b20
       have BR := BR.keep b20
       clear b20)
    | ((fail_if_success (have _g := Z21)); go_at_call 96; refine (HB.out _).mono ?_; rintro e w21 ⟨rfl, b21⟩
       have Z21 := Lib.hid b21.size
       have BL21 := Lib.hid (BL20.out.trans (b21.mono (by have := SZ.out; have := ZZ.out; have := Z20.out; omega)))
       have B7 := B7.keep b21
       have x8 := x8.keep b21
       have BR := BR.keep b21
       clear b21)
    | (refine wpList_storeR rfl _ _ rfl w2.heap.size rfl (v0 := .int .i64 0) (v1 := .slice none 0 0) rfl rfl rfl BR ?_; intro w9 x9 f9
       obtain ⟨e0, e1⟩ := x9.cell2))
  refine bodyPost_ret (v := .tuple #[.agg #[.int .i64 0, .slice none 0 0], .int .i64 2]) (by simp [results, Try.results25, go_sem, e0, e1]) rfl ⟨rfl, ?_⟩
  exact BL21.out.trans (f9.below (by have := SZ.out; omega) BL21.out.size)
theorem MultiplyRings_impl_ok (N : Nat) (w : World) (hs : Sl o w lo hi v n f) (ht : Sl o' w lo' hi' v' m g) (h : RgP N n f) (h' : RgP N m g) (hfw : Within f (phiN N) 100000) (hgw : Within g (phiN N) 100000) (hw : Within (fun j => prR N f g (phiN N) j) (phiN N) 1000000000) :
    Calls Try.prog 25 #[.agg #[.int .i64 (N : Int), v], .agg #[.int .i64 (N : Int), v']] w fun e w' => ∃ a' cap', e = .returned (.tuple #[.agg #[.int .i64 (N : Int), .slice a' (phiN N) cap'], .int .i64 0]) ∧ Sl true w' w.heap.size w'.heap.size (.slice a' (phiN N) cap') (phiN N) (fun j => prR N f g (phiN N) j) ∧ Below w.heap.size w w' := by
  have h2 : 2 ≤ N := by have := h.1; omega
  have h40 : N ≤ 40 := by have := h.2.1; omega
  have hp := phi_le40 N (by omega)
  have hn : n = phiN N := h.2.2.1
  have hmn : m = phiN N := h'.2.2.1
  have H := Lib.hid h
  have H' := Lib.hid h'
  have HW := Lib.hid hw
  have HA := Lib.hid (isWM (f := f) h2 h40 (by rw [← hn]; exact h.2.2.2) true (by simpa using hfw))
  have HB := Lib.hid (isWM (f := g) h2 h40 (by rw [← hmn]; exact h'.2.2.2) true (by simpa using hgw))
  have HIN := Lib.hid (show ∀ j, j < phiN N → inR ((fun j => prR N f g (phiN N) j) j) from fun j hj => by
    have := prR_bd (n := N) (by omega) h2 rfl hfw hgw hj (phiN N) (Nat.le_refl _)
    show inR (prR N f g (phiN N) j)
    unfold inR
    omega)
  have HTI := Lib.hid (fun w' => times_any N f g h2 h40 hfw hgw w')
  have HRW := Lib.hid (fun w' => ringWithin_ok N h2 h40 HW.out w')
  clear h h' hn hmn hw hfw hgw
  have hm := hs.len
  have hm' := ht.len
  unfold maxLen at hm hm'
  obtain ⟨a, cap, rfl⟩ := hs.shape
  obtain ⟨a', cap', rfl⟩ := ht.shape
  have hhs := hs.size
  have hht := ht.size
  have st := ((St.start w).addSl ⟨o, lo, hi, .slice a n cap, n, f⟩ hs).addSl ⟨o', lo', hi', .slice a' m cap', m, g⟩ ht
  clear hs ht
  go_enter Try.func25, Try.ntmps25
  go_wp2_with (first
    | ((fail_if_success (have _g := Z1)); refine wpList_boxR rfl _ rfl (v0 := .int .i64 (N : Int)) (v1 := .slice a n cap) rfl ?_; intro w1 x1 b1 z1
       replace st := (st.keep b1).addBox _ _ x1
       have Z1 := Lib.hid z1
       clear x1 b1 z1)
    | (refine wpList_boxR rfl _ rfl (v0 := .int .i64 (N : Int)) (v1 := .slice a' m cap') rfl ?_; intro w2 x2 b2 z2
       replace st := (st.keep b2).addBox _ _ x2
       have Z2 := Lib.hid z2
       clear x2 b2 z2)
    | ((fail_if_success (have _g := Z3)); refine wpList_allocR rfl rfl ?_; intro w3 x3 b3 z3
       replace st := (st.keep b3).addBox _ _ x3
       have Z3 := Lib.hid z3
       obtain ⟨c0, c1⟩ := (st.box 2 (w.heap.size, [.int .i64 (N : Int), .slice a n cap]) rfl).cell2
       obtain ⟨d0, d1⟩ := (st.box 1 (w1.heap.size, [.int .i64 (N : Int), .slice a' m cap']) rfl).cell2
       clear x3 b3 z3)
    | (go_at_call 95; refine (openRings_yes N _ (st.sl 1 ⟨o, lo, hi, .slice a n cap, n, f⟩ rfl) (st.sl 0 ⟨o', lo', hi', .slice a' m cap', m, g⟩ rfl) H.out H'.out).mono ?_; rintro e w4 ⟨rfl, b4⟩
       have Z4 := Lib.hid b4.size
       replace st := st.keep b4
       clear b4 c0 c1 d0 d1)
    | ((fail_if_success (have _g := Z5)); refine wpList_allocE rfl rfl ?_; intro w5 x5 b5 z5
       replace st := (st.keep b5).addBox _ _ x5
       have Z5 := Lib.hid z5
       clear x5 b5 z5)
    | ((fail_if_success (have _g := Z6)); refine wpList_allocE rfl rfl ?_; intro w6 x6 b6 z6
       replace st := (st.keep b6).addBox _ _ x6
       have Z6 := Lib.hid z6
       have B5 := st.box 1 (w4.heap.size, elL 0 (fun _ => 0)) rfl
       have B6 := st.box 0 (w5.heap.size, elL 0 (fun _ => 0)) rfl
       have st6 := Lib.hid st.1
       have SZ := Lib.hid (show w1.heap.size = w.heap.size + 1 ∧ w2.heap.size = w1.heap.size + 1 ∧ w3.heap.size = w2.heap.size + 1 ∧ w3.heap.size ≤ w4.heap.size ∧ w5.heap.size = w4.heap.size + 1 ∧ w6.heap.size = w5.heap.size + 1 from by have := Z1.out; have := Z2.out; have := Z3.out; have := Z4.out; have := Z5.out; have := Z6.out; omega)
       have BR := st.box 2 (w2.heap.size, [.int .i64 0, .slice none 0 0]) rfl
       dsimp only at B5 B6 BR
       clear x6 b6 z6)
    | ((fail_if_success (have _g := Z7)); refine wpList_storeE rfl _ _ rfl w4.heap.size rfl (m := N) (F := (opR N f (phiN N))) rfl B5 elL_len ?_; intro w7 x7 f7
       have Z7 := Lib.hid f7
       have BL7 := Lib.hid (st6.out.trans (f7.below (by have := SZ.out; omega) st6.out.size))
       have B6 := B6.keepF f7 (by have := SZ.out; omega)
       have BR := BR.keepF f7 (by have := SZ.out; omega)
       clear B5)
    | ((fail_if_success (have _g := Z8)); refine wpList_storeE rfl _ _ rfl w5.heap.size rfl (m := N) (F := (opR N g (phiN N))) rfl B6 elL_len ?_; intro w8 x8 f8
       have Z8 := Lib.hid f8
       have BL8 := Lib.hid (BL7.out.trans (f8.below (by have := SZ.out; omega) BL7.out.size))
       have B7 := x7.keepF f8 (by have := SZ.out; omega)
       have BR := BR.keepF f8 (by have := SZ.out; omega)
       have ZZ := Lib.hid (show w6.heap.size ≤ w8.heap.size from by have := f7.size; have := f8.size; omega)
       clear x7 f7 f8 B6)
    | (refine wpList_loadE rfl _ rfl w4.heap.size rfl B7 ?_)
    | (refine wpList_loadE rfl _ rfl w5.heap.size rfl x8 ?_)
    | (refine wpList_loadE_g (by rfl) _ rfl w5.heap.size rfl x8 ?_)
    | ((fail_if_success (have _g := Z20)); go_at_call 96; refine (HA.out _).mono ?_; rintro e w20 ⟨rfl, b20⟩
       have Z20 := Lib.hid b20.size
       have BL20 := Lib.hid (BL8.out.trans (b20.mono (by have := SZ.out; have := ZZ.out; omega)))
       have B7 := B7.keep b20
       have x8 := x8.keep b20
       have BR := BR.keep b20
       clear b20)
    | ((fail_if_success (have _g := Z21)); go_at_call 96; refine (HB.out _).mono ?_; rintro e w21 ⟨rfl, b21⟩
       have Z21 := Lib.hid b21.size
       have BL21 := Lib.hid (BL20.out.trans (b21.mono (by have := SZ.out; have := ZZ.out; have := Z20.out; omega)))
       have B7 := B7.keep b21
       have x8 := x8.keep b21
       have BR := BR.keep b21
       clear b21)
    | (go_at_call 98; refine (HTI.out _).mono ?_; rintro e w10 ⟨rfl, b10⟩
       have Z10 := Lib.hid b10.size
       have BL10 := Lib.hid (BL21.out.trans (b10.mono (by have := SZ.out; have := ZZ.out; have := Z20.out; have := Z21.out; omega)))
       have BR := BR.keep b10
       clear b10)
    | (go_at_call 97; refine (HRW.out _).mono ?_; rintro e w11 ⟨aq, kq, rfl, s11, b11⟩
       have Z11 := Lib.hid b11.size
       have BL11 := Lib.hid (BL10.out.trans (b11.mono (by have := SZ.out; have := ZZ.out; have := Z20.out; have := Z21.out; have := Z10.out; omega)))
       have BR := BR.keep b11
       clear b11)
    | (refine wpList_storeR rfl _ _ rfl w2.heap.size rfl (v0 := .int .i64 (N : Int)) (v1 := .slice aq (phiN N) kq) rfl rfl rfl BR ?_; intro w9 x9 f9
       obtain ⟨e0, e1⟩ := x9.cell2))
  refine bodyPost_ret (v := .tuple #[.agg #[.int .i64 (N : Int), .slice aq (phiN N) kq], .int .i64 0]) (by simp [results, Try.results25, go_sem, e0, e1]) rfl ?_
  refine ⟨aq, kq, rfl, ?_, ?_⟩
  · exact (s11.keepF f9 (.inr (by have := SZ.out; have := ZZ.out; have := Z20.out; have := Z21.out; have := Z10.out; omega))).wide (by have := SZ.out; have := ZZ.out; have := Z20.out; have := Z21.out; have := Z10.out; omega) f9.size (Nat.le_refl _)
  · exact BL11.out.trans (f9.below (by have := SZ.out; omega) BL11.out.size)
theorem MultiplyRings_impl_big (N : Nat) (w : World) (hs : Sl o w lo hi v n f) (ht : Sl o' w lo' hi' v' m g) (h : RgP N n f) (h' : RgP N m g) (hfw : Within f (phiN N) 100000) (hgw : Within g (phiN N) 100000) (hw : ¬ Within (fun j => prR N f g (phiN N) j) (phiN N) 1000000000) :
    Calls Try.prog 25 #[.agg #[.int .i64 (N : Int), v], .agg #[.int .i64 (N : Int), v']] w fun e w' => e = .returned (.tuple #[.agg #[.int .i64 0, .slice none 0 0], .int .i64 3]) ∧ Below w.heap.size w w' := by
  have h2 : 2 ≤ N := by have := h.1; omega
  have h40 : N ≤ 40 := by have := h.2.1; omega
  have hp := phi_le40 N (by omega)
  have hn : n = phiN N := h.2.2.1
  have hmn : m = phiN N := h'.2.2.1
  have H := Lib.hid h
  have H' := Lib.hid h'
  have HW := Lib.hid hw
  have HA := Lib.hid (isWM (f := f) h2 h40 (by rw [← hn]; exact h.2.2.2) true (by simpa using hfw))
  have HB := Lib.hid (isWM (f := g) h2 h40 (by rw [← hmn]; exact h'.2.2.2) true (by simpa using hgw))
  have HIN := Lib.hid (show ∀ j, j < phiN N → inR ((fun j => prR N f g (phiN N) j) j) from fun j hj => by
    have := prR_bd (n := N) (by omega) h2 rfl hfw hgw hj (phiN N) (Nat.le_refl _)
    show inR (prR N f g (phiN N) j)
    unfold inR
    omega)
  have HTI := Lib.hid (fun w' => times_any N f g h2 h40 hfw hgw w')
  have HRW := Lib.hid (fun w' => ringWithin_bad N h2 h40 HIN.out HW.out w')
  clear h h' hn hmn hw hfw hgw
  have hm := hs.len
  have hm' := ht.len
  unfold maxLen at hm hm'
  obtain ⟨a, cap, rfl⟩ := hs.shape
  obtain ⟨a', cap', rfl⟩ := ht.shape
  have hhs := hs.size
  have hht := ht.size
  have st := ((St.start w).addSl ⟨o, lo, hi, .slice a n cap, n, f⟩ hs).addSl ⟨o', lo', hi', .slice a' m cap', m, g⟩ ht
  clear hs ht
  go_enter Try.func25, Try.ntmps25
  go_wp2_with (first
    | ((fail_if_success (have _g := Z1)); refine wpList_boxR rfl _ rfl (v0 := .int .i64 (N : Int)) (v1 := .slice a n cap) rfl ?_; intro w1 x1 b1 z1
       replace st := (st.keep b1).addBox _ _ x1
       have Z1 := Lib.hid z1
       clear x1 b1 z1)
    | (refine wpList_boxR rfl _ rfl (v0 := .int .i64 (N : Int)) (v1 := .slice a' m cap') rfl ?_; intro w2 x2 b2 z2
       replace st := (st.keep b2).addBox _ _ x2
       have Z2 := Lib.hid z2
       clear x2 b2 z2)
    | ((fail_if_success (have _g := Z3)); refine wpList_allocR rfl rfl ?_; intro w3 x3 b3 z3
       replace st := (st.keep b3).addBox _ _ x3
       have Z3 := Lib.hid z3
       obtain ⟨c0, c1⟩ := (st.box 2 (w.heap.size, [.int .i64 (N : Int), .slice a n cap]) rfl).cell2
       obtain ⟨d0, d1⟩ := (st.box 1 (w1.heap.size, [.int .i64 (N : Int), .slice a' m cap']) rfl).cell2
       clear x3 b3 z3)
    | (go_at_call 95; refine (openRings_yes N _ (st.sl 1 ⟨o, lo, hi, .slice a n cap, n, f⟩ rfl) (st.sl 0 ⟨o', lo', hi', .slice a' m cap', m, g⟩ rfl) H.out H'.out).mono ?_; rintro e w4 ⟨rfl, b4⟩
       have Z4 := Lib.hid b4.size
       replace st := st.keep b4
       clear b4 c0 c1 d0 d1)
    | ((fail_if_success (have _g := Z5)); refine wpList_allocE rfl rfl ?_; intro w5 x5 b5 z5
       replace st := (st.keep b5).addBox _ _ x5
       have Z5 := Lib.hid z5
       clear x5 b5 z5)
    | ((fail_if_success (have _g := Z6)); refine wpList_allocE rfl rfl ?_; intro w6 x6 b6 z6
       replace st := (st.keep b6).addBox _ _ x6
       have Z6 := Lib.hid z6
       have B5 := st.box 1 (w4.heap.size, elL 0 (fun _ => 0)) rfl
       have B6 := st.box 0 (w5.heap.size, elL 0 (fun _ => 0)) rfl
       have st6 := Lib.hid st.1
       have SZ := Lib.hid (show w1.heap.size = w.heap.size + 1 ∧ w2.heap.size = w1.heap.size + 1 ∧ w3.heap.size = w2.heap.size + 1 ∧ w3.heap.size ≤ w4.heap.size ∧ w5.heap.size = w4.heap.size + 1 ∧ w6.heap.size = w5.heap.size + 1 from by have := Z1.out; have := Z2.out; have := Z3.out; have := Z4.out; have := Z5.out; have := Z6.out; omega)
       have BR := st.box 2 (w2.heap.size, [.int .i64 0, .slice none 0 0]) rfl
       dsimp only at B5 B6 BR
       clear x6 b6 z6)
    | ((fail_if_success (have _g := Z7)); refine wpList_storeE rfl _ _ rfl w4.heap.size rfl (m := N) (F := (opR N f (phiN N))) rfl B5 elL_len ?_; intro w7 x7 f7
       have Z7 := Lib.hid f7
       have BL7 := Lib.hid (st6.out.trans (f7.below (by have := SZ.out; omega) st6.out.size))
       have B6 := B6.keepF f7 (by have := SZ.out; omega)
       have BR := BR.keepF f7 (by have := SZ.out; omega)
       clear B5)
    | ((fail_if_success (have _g := Z8)); refine wpList_storeE rfl _ _ rfl w5.heap.size rfl (m := N) (F := (opR N g (phiN N))) rfl B6 elL_len ?_; intro w8 x8 f8
       have Z8 := Lib.hid f8
       have BL8 := Lib.hid (BL7.out.trans (f8.below (by have := SZ.out; omega) BL7.out.size))
       have B7 := x7.keepF f8 (by have := SZ.out; omega)
       have BR := BR.keepF f8 (by have := SZ.out; omega)
       have ZZ := Lib.hid (show w6.heap.size ≤ w8.heap.size from by have := f7.size; have := f8.size; omega)
       clear x7 f7 f8 B6)
    | (refine wpList_loadE rfl _ rfl w4.heap.size rfl B7 ?_)
    | (refine wpList_loadE rfl _ rfl w5.heap.size rfl x8 ?_)
    | (refine wpList_loadE_g (by rfl) _ rfl w5.heap.size rfl x8 ?_)
    | ((fail_if_success (have _g := Z20)); go_at_call 96; refine (HA.out _).mono ?_; rintro e w20 ⟨rfl, b20⟩
       have Z20 := Lib.hid b20.size
       have BL20 := Lib.hid (BL8.out.trans (b20.mono (by have := SZ.out; have := ZZ.out; omega)))
       have B7 := B7.keep b20
       have x8 := x8.keep b20
       have BR := BR.keep b20
       clear b20)
    | ((fail_if_success (have _g := Z21)); go_at_call 96; refine (HB.out _).mono ?_; rintro e w21 ⟨rfl, b21⟩
       have Z21 := Lib.hid b21.size
       have BL21 := Lib.hid (BL20.out.trans (b21.mono (by have := SZ.out; have := ZZ.out; have := Z20.out; omega)))
       have B7 := B7.keep b21
       have x8 := x8.keep b21
       have BR := BR.keep b21
       clear b21)
    | (go_at_call 98; refine (HTI.out _).mono ?_; rintro e w10 ⟨rfl, b10⟩
       have Z10 := Lib.hid b10.size
       have BL10 := Lib.hid (BL21.out.trans (b10.mono (by have := SZ.out; have := ZZ.out; have := Z20.out; have := Z21.out; omega)))
       have BR := BR.keep b10
       clear b10)
    | (go_at_call 97; refine (HRW.out _).mono ?_; rintro e w11 ⟨rfl, b11⟩
       have Z11 := Lib.hid b11.size
       have BL11 := Lib.hid (BL10.out.trans (b11.mono (by have := SZ.out; have := ZZ.out; have := Z20.out; have := Z21.out; have := Z10.out; omega)))
       have BR := BR.keep b11
       clear b11)
    | (refine wpList_storeR rfl _ _ rfl w2.heap.size rfl (v0 := .int .i64 0) (v1 := .slice none 0 0) rfl rfl rfl BR ?_; intro w9 x9 f9
       obtain ⟨e0, e1⟩ := x9.cell2))
  refine bodyPost_ret (v := .tuple #[.agg #[.int .i64 0, .slice none 0 0], .int .i64 3]) (by simp [results, Try.results25, go_sem, e0, e1]) rfl ⟨rfl, ?_⟩
  exact BL11.out.trans (f9.below (by have := SZ.out; omega) BL11.out.size)
end
end Go.Proofs.Ytonopjbccdpbhaa
