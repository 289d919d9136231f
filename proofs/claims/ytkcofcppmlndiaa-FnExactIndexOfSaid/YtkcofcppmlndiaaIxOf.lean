/- IndexOf of the program and of the model. -/
import Derived.RangeFuncNested
import Derived.RangeFuncBound
import Derived.RangeFuncCalls
import Derived.RangeFuncLeaves
import Derived.Shelf.Abstract
import Derived.Shelf.RegionOpen
import Derived.WalkKit
import Derived.OwnWalkIn
import Derived.TacticsInMore
import Derived.LoopNIn
import Derived.LoopIn
import Derived.Test.YtkcofcppmlndiaaSeqG
namespace Go.Proofs.Ytkcofcppmlndiaa
open Go.RowKit Go.ChangeShapes Go.Shelf
set_option linter.unusedVariables false
set_option linter.unusedSimpArgs false
attribute [local go_sem] Oper.semAt_some

theorem IndexOf_impl_bad (p x : Int) (h : ¬ PrP p) (w : World) :
    Calls Try.prog 38 #[.int .i64 p, .int .i64 x] w fun e w' => e = .returned (.tuple #[.int .i64 0, .int .i64 2]) ∧ Below w.heap.size w w' := by
  have H := Lib.hid h; clear h
  go_enter Try.func38, Try.ntmps38
  go_wp2_with (go_at_call 111; refine (isOddPrime_no p H.out _).mono ?_; rintro e w1 ⟨rfl, m1, rfl⟩)
  refine bodyPost_ret (v := .tuple #[.int .i64 0, .int .i64 2]) (by simp [results, Try.results38, go_sem]) rfl ?_
  exact ⟨rfl, ((below_drewN ((((Below.refl w.heap.size w).alloc (Nat.le_refl _) _).alloc (by simp) _).alloc (by simp; omega) _) _).setCell (p := ⟨w.heap.size + 1, 0, none⟩) (by simp) _).setCell (p := ⟨w.heap.size + 1 + 1, 0, none⟩) (by simp; omega) _⟩

set_option maxRecDepth 100000 in
set_option maxHeartbeats 2000000 in
theorem IndexOf_impl_any (p : Nat) (x : Int) (hp : primeN p = true) (w : World) :
    Calls Try.prog 38 #[.int .i64 (p : Int), .int .i64 x] w fun e w' => ((∃ i : Nat, i < p - 1 ∧ x = (pwr p (rootN p) i : Nat) ∧ e = .returned (.tuple #[.int .i64 (i : Int), .int .i64 0])) ∨ (∀ i, i < p - 1 → x ≠ (pwr p (rootN p) i : Nat)) ∧ e = .returned (.tuple #[.int .i64 0, .int .i64 2])) ∧ Below w.heap.size w w' := by
  have hb := primeN_bd hp
  have HR := Lib.hid (root_ok hp)
  obtain ⟨m, hm⟩ : ∃ m, p - 1 = m := ⟨_, rfl⟩
  have HM := Lib.hid hm
  have HP := Lib.hid hp
  rw [hm]
  have hm60 : m ≤ 60 := by omega
  clear hp hm
  have st0 := (((St.start w).alloc (.cells #[.int .i64 x] 2)).addBox w.heap.size [.int .i64 x] (Box.made _ _ _ _ (fun j v h => by simpa using h)))
  replace st0 := (st0.alloc (.cells #[.int .i64 0] 2)).addBox _ [.int .i64 0] (Box.made _ _ _ _ (fun j v h => by simpa using h))
  replace st0 := (st0.alloc (.cells #[.int .i64 0] 2)).addBox _ [.int .i64 0] (Box.made _ _ _ _ (fun j v h => by simpa using h))
  simp only [World.size_alloc] at st0
  refine (callsIn_wide (n := 9)).1 ?_
  have hro : Fence.wide.round = none := rfl
  refine callsIn_of_wp_marks Try.func38 rfl trivial ?_ hro
  simp only [Try.ntmps38, List.size_toArray, List.length_cons, List.length_nil, Nat.reduceAdd, Nat.reduceSub, Array.replicate_succ, Array.replicate_zero, List.push_toArray, List.append_toArray, List.nil_append, List.cons_append]
  gi_wp2_with (first
    | (refine ⟨trivial, ?_⟩; gi_at_call 111; refine (callsIn_wide.2 (isOddPrime_yes p HP.out _)).mono ?_; rintro e w1 ⟨rfl, m1, rfl⟩)
    | (refine ⟨trivial, ?_⟩; gi_at_call 112; refine (callsIn_wide.2 (residuesByIndex_any p HP.out _)).mono ?_; rintro e w2 ⟨w2, rfl, b2, rfl⟩))
  have st2 := (st0.drewN m1).keep b2
  have hz2 : (((w.alloc (.cells #[.int .i64 x] 2)).alloc (.cells #[.int .i64 0] 2)).alloc (.cells #[.int .i64 0] 2)).heap.size ≤ w2.heap.size := b2.size
  simp only [World.size_alloc] at hz2
  have hg := var_new w2 (.int .i64 (rootN p : Nat)) 2
  have hpp := var_new (w2.alloc (.cells #[.int .i64 (rootN p : Nat)] 2)) (.int .i64 (p : Int)) 2
  simp only [World.size_alloc] at hpp
  have st3 := (st2.alloc (.cells #[.int .i64 (rootN p : Nat)] 2)).alloc (.cells #[.int .i64 (p : Int)] 2)
  have c3 := var_cell (.cells #[.int .i64 (p : Int)] 2) hg.1
  clear st0 st2 b2
  obtain ⟨W0, hW0⟩ : ∃ W0, (w2.alloc (.cells #[.int .i64 (rootN p : Nat)] 2)).alloc (.cells #[.int .i64 (p : Int)] 2) = W0 := ⟨_, rfl⟩
  have hsz : W0.heap.size = w2.heap.size + 1 + 1 := by rw [← hW0]; simp
  rw [hW0] at st3 c3 hpp ⊢
  have bx0 := st3.box 2 (w.heap.size, [.int .i64 x]) rfl
  have bx1 := st3.box 1 (w.heap.size + 1, [.int .i64 0]) rfl
  have bx2 := st3.box 0 (w.heap.size + 1 + 1, [.int .i64 0]) rfl
  dsimp only at bx0 bx1 bx2
  have hB0 := st3.1
  clear st3 hW0
  refine wpIn_rangeFunc_ownF hro (by omega) (gf := 172) (lb := #[.pointer (some ⟨w2.heap.size, 0, none⟩), .pointer (some ⟨w2.heap.size + 1, 0, none⟩)]) rfl trivial (enters_of Try.func172 (by kernel_rfl) rfl)
    (pow_stops p (rootN p) m HP.out HR.out.1 HR.out.2.1 (HR.out.2.2.1.trans HM.out) Fence.wide (9 - 1) trivial rfl (by omega) w2.heap.size (w2.heap.size + 1) W0 c3 hpp.1) (fun h k => h.trans k) (Keeps2.at (by omega) (by omega)) (Below.refl _ _) (fun _ => rfl)
    (fun pre W => ((∀ i ∈ pre, x ≠ (pwr p (rootN p) i.1 : Nat)) ∧ Box W w.heap.size [.int .i64 x] ∧ Box W (w.heap.size + 1) [.int .i64 0] ∧ Box W (w.heap.size + 1 + 1) [.int .i64 0]) ∧ Below w.heap.size w W ∧ W0.heap.size ≤ W.heap.size)
    (fun c pre W => (c = .ret ∧ ∃ i : Fin m, x = (pwr p (rootN p) i.1 : Nat) ∧ Box W (w.heap.size + 1) [.int .i64 (i.1 : Int)] ∧ Box W (w.heap.size + 1 + 1) [.int .i64 0]) ∧ Below w.heap.size w W ∧ W0.heap.size ≤ W.heap.size)
    (fun s A B row hs hg hr => by
      obtain ⟨⟨h1, h2, h3, h4⟩, h5, h6⟩ := hs
      have hB := grown_below hg hr h6
      exact ⟨⟨h1, h2.keepB hB (by omega), h3.keepB hB (by omega), h4.keepB hB (by omega)⟩, h5.trans (hB.mono (by omega)), Nat.le_trans h6 hg.size⟩)
    (fun c s A B row hs hg hr => by
      obtain ⟨⟨h1, i, h2, h3, h4⟩, h5, h6⟩ := hs
      have hB := grown_below hg hr h6
      exact ⟨⟨h1, i, h2, h3.keepB hB (by omega), h4.keepB hB (by omega)⟩, h5.trans (hB.mono (by omega)), Nat.le_trans h6 hg.size⟩)
    ⟨⟨fun i hi => absurd hi List.not_mem_nil, bx0, bx1, bx2⟩, hB0, Nat.le_refl _⟩
    (fun i => { tmps := #[.int .i64 (p : Int), .int .i64 x, undef, .pointer (some ⟨w.heap.size, 0, none⟩), .pointer (some ⟨w.heap.size + 1, 0, none⟩), .pointer (some ⟨w.heap.size + 1 + 1, 0, none⟩), .int .i64 (i.1 : Int), .int .i64 (pwr p (rootN p) i.1 : Nat), .int .i64 (p : Int), .bool true, .bool false, .int .i64 (p : Int), .func (.func 172) #[] #[.pointer (some ⟨w2.heap.size, 0, none⟩), .pointer (some ⟨w2.heap.size + 1, 0, none⟩)], .int .i64 (i.1 : Int), .int .i64 (pwr p (rootN p) i.1 : Nat), undef, undef, undef, undef], defers := [] }) ?assign ?body ?done ?stop
  case assign =>
    intro l i W K hK
    gi_wp2
    first | exact hK | simpa [encP] using hK
  case body =>
    rintro l pre i W ⟨⟨hne, h0, h1, h2⟩, hB, hz⟩ hlen
    have e0 := h0.2.1 0 _ rfl
    have e1 := h1.2.1 0 _ rfl
    have e2 := h2.2.1 0 _ rfl
    have f1 := h1.2.2 0
    have f2 := h2.2.2 0
    by_cases hx : x = (pwr p (rootN p) i.1 : Nat)
    · have hxb : (((pwr p (rootN p) i.1 : Nat) : Int) == x) = true := by rw [hx]; simp
      have HX := Lib.hid hx
      clear hx
      gi_wp2
      exact ⟨(KeepsOthers.setCell _ _ _).trans (KeepsOthers.setCell _ _ _), ⟨rfl, i, HX.out, (h1.set1 _).other _ _ (by simp), (h2.other _ _ (by simp)).set1 _⟩, (hB.setCell (p := ⟨w.heap.size + 1, 0, none⟩) (by simp) _).setCell (p := ⟨w.heap.size + 1 + 1, 0, none⟩) (by simp; omega) _, by simpa using hz⟩
    · have hxb : (((pwr p (rootN p) i.1 : Nat) : Int) == x) = false := beq_eq_false_iff_ne.2 (fun e => hx e.symm)
      have HX := Lib.hid hx
      clear hx
      gi_wp2
      exact ⟨KeepsOthers.refl _, Keeps2.refl _ _ _, ⟨fun j hj => by
        rcases List.mem_append.1 hj with h | h
        · exact hne j h
        · simp at h; subst h; exact HX.out, h0, h1, h2⟩, hB, hz⟩
  case done =>
    rintro D ys W hD hys ⟨⟨hne, h0, h1, h2⟩, hB, hz⟩ hK
    have e1 := h1.2.1 0 _ rfl
    have e2 := h2.2.1 0 _ rfl
    have f1 := h1.2.2 0
    have f2 := h2.2.2 0
    gi_wp2
    have hK' := ((KeepsOthers.setCell W ⟨w.heap.size + 1, 0, none⟩ (.int .i64 0)).trans (KeepsOthers.setCell _ ⟨w.heap.size + 1 + 1, 0, none⟩ (.int .i64 2))).same D _ hK rfl
    refine ⟨by simp, .inl ⟨_, _, rfl, run_takeDeferred hK', ?_⟩⟩
    have g1 := ((h1.set1 (.int .i64 0)).other ⟨w.heap.size + 1 + 1, 0, none⟩ (.int .i64 2) (by simp)).2.1 0 _ rfl
    have g2 := ((h2.other ⟨w.heap.size + 1, 0, none⟩ (.int .i64 0) (by simp)).set1 (.int .i64 2)).2.1 0 _ rfl
    have k1 := cell_kept g1 (grownBy_putObj' _ D (.deferred none)) (fun r e => by cases e; exact ⟨_, hK', rfl⟩)
    have k2 := cell_kept g2 (grownBy_putObj' _ D (.deferred none)) (fun r e => by cases e; exact ⟨_, hK', rfl⟩)
    refine ⟨.tuple #[.int .i64 0, .int .i64 2], by simp [results, Try.results38, go_sem, k1, k2], .inr ⟨fun i hi e => ?_, rfl⟩, ((hB.setCell (p := ⟨w.heap.size + 1, 0, none⟩) (by simp) _).setCell (p := ⟨w.heap.size + 1 + 1, 0, none⟩) (by simp; omega) _).trans (belowK_b (w := w) (Nat.le_refl _) _ D _ _ (by omega) hK' rfl rfl)⟩
    have hin : i ∈ ys.map Fin.val := by rw [hys]; exact List.mem_range.2 hi
    obtain ⟨j, hj, rfl⟩ := List.mem_map.1 hin
    exact hne j hj e
  case stop =>
    rintro D c pre W hD hpre ⟨⟨rfl, i, hx, h1, h2⟩, hB, hz⟩ hK
    gi_wp2
    refine ⟨by simp, .inl ⟨_, _, rfl, run_takeDeferred hK, ?_⟩⟩
    have k1 := cell_kept (h1.2.1 0 _ rfl) (grownBy_putObj' _ D (.deferred none)) (fun r e => by cases e; exact ⟨_, hK, rfl⟩)
    have k2 := cell_kept (h2.2.1 0 _ rfl) (grownBy_putObj' _ D (.deferred none)) (fun r e => by cases e; exact ⟨_, hK, rfl⟩)
    exact ⟨.tuple #[.int .i64 (i.1 : Int), .int .i64 0], by simp [results, Try.results38, go_sem, k1, k2], .inl ⟨i.1, i.2, hx, rfl⟩, hB.trans (belowK_b (w := w) (Nat.le_refl _) W D _ _ (by omega) hK rfl rfl)⟩

theorem IndexOf_impl_ok (p x : Nat) (hp : primeN p = true) (h1 : 1 ≤ x) (h2 : x < p) (w : World) :
    Calls Try.prog 38 #[.int .i64 (p : Int), .int .i64 (x : Int)] w fun e w' => e = .returned (.tuple #[.int .i64 (idxN p x : Nat), .int .i64 0]) ∧ Below w.heap.size w w' :=
  (IndexOf_impl_any p x hp w).mono fun e w' ⟨he, hB⟩ => ⟨by
    obtain ⟨i1, i2, _⟩ := idx_ok hp h1 h2
    rcases he with ⟨i, hi, hx, rfl⟩ | ⟨hno, _⟩
    · have hx2 : x = pwr p (rootN p) i := by omega
      rw [hx2, (back_ok hp hi).2.2]
    · exact absurd (by rw [i2]) (hno _ i1), hB⟩
theorem IndexOf_impl_out (p : Nat) (x : Int) (hp : primeN p = true) (h : x < 1 ∨ (p : Int) ≤ x) (w : World) :
    Calls Try.prog 38 #[.int .i64 (p : Int), .int .i64 x] w fun e w' => e = .returned (.tuple #[.int .i64 0, .int .i64 2]) ∧ Below w.heap.size w w' :=
  (IndexOf_impl_any p x hp w).mono fun e w' ⟨he, hB⟩ => ⟨by
    rcases he with ⟨i, hi, hx, rfl⟩ | ⟨_, he⟩
    · have := back_ok hp hi; omega
    · exact he, hB⟩

theorem IndexOf_spec_bad (p x : Int) (h : ¬ PrP p) (w : World) :
    Calls Try.prog 39 #[.int .i64 p, .int .i64 x] w fun e w' => e = .returned (.tuple #[.int .i64 0, .int .i64 2]) ∧ Below w.heap.size w w' := by
  have H := Lib.hid h; clear h
  go_enter Try.func39, Try.ntmps39
  go_wp2_with (go_at_call 113; refine (l03Prime_no p H.out _).mono ?_; rintro e w1 ⟨rfl, m1, rfl⟩)
  go_ret2
  exact ⟨rfl, below_drewN (Below.refl _ _) _⟩
theorem IndexOf_spec_out (p : Nat) (x : Int) (hp : primeN p = true) (h : x < 1 ∨ (p : Int) ≤ x) (w : World) :
    Calls Try.prog 39 #[.int .i64 (p : Int), .int .i64 x] w fun e w' => e = .returned (.tuple #[.int .i64 0, .int .i64 2]) ∧ Below w.heap.size w w' := by
  have hb := primeN_bd hp
  have HP := Lib.hid hp
  have H := Lib.hid (show x < 1 ∨ (p : Int) - 1 < x by omega); clear h hp
  go_enter Try.func39, Try.ntmps39
  go_wp2_with (first
    | (go_at_call 113; refine (l03Prime_yes p HP.out _).mono ?_; rintro e w1 ⟨rfl, m1, rfl⟩)
    | (go_at_call 114; refine (l01In_no _ _ _ _ H.out).mono ?_; rintro e w' ⟨rfl, rfl⟩))
  go_ret2
  exact ⟨rfl, below_drewN (Below.refl _ _) _⟩
theorem IndexOf_spec_ok (p x : Nat) (hp : primeN p = true) (h1 : 1 ≤ x) (h2 : x < p) (w : World) :
    Calls Try.prog 39 #[.int .i64 (p : Int), .int .i64 (x : Int)] w fun e w' => e = .returned (.tuple #[.int .i64 (idxN p x : Nat), .int .i64 0]) ∧ Below w.heap.size w w' := by
  have hb := primeN_bd hp
  have HP := Lib.hid hp
  have HR := Lib.hid (restN_nat h2)
  have HX := Lib.hid (show ¬ (x : Int).tmod p = 0 from fun e => by have := (restN_zero (show 1 ≤ p by omega) (x : Int)).2 e; rw [restN_nat h2] at this; omega)
  clear hp
  go_enter Try.func39, Try.ntmps39
  go_wp2_with (first
    | (go_at_call 113; refine (l03Prime_yes p HP.out _).mono ?_; rintro e w1 ⟨rfl, m1, rfl⟩)
    | (go_at_call 114; refine (l01In_yes _ _ _ _ (by omega) (by omega)).mono ?_; rintro e w' ⟨rfl, rfl⟩)
    | (go_at_call 115; refine (l03Index_any p x HP.out HX.out (by omega) (by omega) _).mono ?_; rintro e w2 ⟨rfl, m2, rfl⟩))
  go_ret2
  exact ⟨by simp; rw [HR.out], below_drewN (Below.refl _ _) _⟩
end Go.Proofs.Ytkcofcppmlndiaa
