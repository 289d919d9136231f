/- Drawn numbers: l01Draw. -/
import Derived.Test.YtdalahgfpbdilaaDraw3
namespace Go.Proofs.Ytdalahgfpbdilaa
open Go.RowKit Go.ChangeShapes Go.Sort
set_option linter.unusedVariables false
set_option linter.unusedSimpArgs false
section
variable {b B : Nat} {p : Option Addr} {n q : Nat}
set_option maxRecDepth 100000 in
set_option maxHeartbeats 2000000 in
theorem l01Draw_any (w : World) (hs : Src w b p n q) (hb : Bytes w B p n) (hB : B ≤ b) :
    Calls Try.prog 221 #[.pointer (some ⟨b, 0, none⟩)] w fun e w' => ∃ (N : Nat) (a : Option Addr) (cap : Nat) (f : Nat → Int), 1 ≤ N ∧ N ≤ 16 ∧ e = .returned (.agg #[.int .i64 (N : Int), .slice a (phiN N) cap]) ∧ Sl true w' w.heap.size w'.heap.size (.slice a (phiN N) cap) (phiN N) f ∧ Within f (phiN N) 1000000000 ∧ Src w' b p n q ∧ Bytes w' B p n ∧ Frame b (b + 1) w w' := by
  have hbz := hs.lt
  have ba := (Below.refl w.heap.size w).alloc (Nat.le_refl _) (.cells #[.int .i64 0, .slice none 0 0] 28)
  have hs0 := hs.keep ba
  have hb0 := hb.below ba
  have bx0 := Box.made2 (w := w) (b := w.heap.size) (v0 := .int .i64 0) (v1 := .slice none 0 0) (t := 28) rfl
  have f0 := (Frame.refl b (b + 1) w).alloc (.cells #[.int .i64 0, .slice none 0 0] 28)
  clear hs hb ba
  go_enter Try.func221, Try.ntmps221
  go_wp2_with fail
  refine (l01DrawOrder_any _ hs0 hb0 hB).mono ?_
  rintro e w1 ⟨N, rfl, hN1, hN2, hs1, hb1, f1⟩
  have hz1 := f1.size
  simp only [World.size_alloc] at hz1
  have bx1 := bx0.keepF f1 (.inr (by omega))
  have F1 := f0.trans f1
  clear hs0 hb0 bx0 f0 f1
  have hl := Sl.list w1 [1, 2, 3, 9, 1000, 400000000] (by intro x hx; simp only [List.mem_cons, List.not_mem_nil, or_false] at hx; unfold inR; rcases hx with rfl | rfl | rfl | rfl | rfl | rfl <;> omega) (by simp [maxLen])
  have hall : ∀ x ∈ [1, 2, 3, 9, 1000, (400000000 : Int)], 0 ≤ x ∧ x ≤ 1000000000 := by intro x hx; simp only [List.mem_cons, List.not_mem_nil, or_false] at hx; rcases hx with rfl | rfl | rfl | rfl | rfl | rfl <;> omega
  have ba := (Below.refl w1.heap.size w1).alloc (Nat.le_refl _) (.cells ([1, 2, 3, 9, 1000, 400000000].map (Value.int .i64)).toArray 2)
  have hs2 := hs1.keep ba
  have hb2 := hb1.below ba
  have bx2 := bx1.keep ba
  have F2 := F1.alloc (.cells ([1, 2, 3, 9, 1000, 400000000].map (Value.int .i64)).toArray 2)
  simp only [List.map_cons, List.map_nil, List.length_cons, List.length_nil] at hl hs2 hb2 bx2 F2
  have HALL := Lib.hid hall
  clear hall hs1 hb1 bx1 F1 ba
  go_wp2_with fail
  refine (l01Pick_any b B p n q _ hs2 hb2 hB hl (.inr (by omega)) (by omega) (by omega)).mono ?_
  rintro e w2 ⟨i, hi, rfl, hs3, f3⟩
  have hmem : 0 ≤ ([1, 2, 3, 9, 1000, 400000000] : List Int).getD i 0 ∧ ([1, 2, 3, 9, 1000, 400000000] : List Int).getD i 0 ≤ 1000000000 := by
    rw [List.getD_eq_getElem?_getD, List.getElem?_eq_getElem (by simpa using hi)]
    exact HALL.out _ (List.getElem_mem _)
  generalize ([1, 2, 3, 9, 1000, 400000000] : List Int).getD i 0 = x at *
  have hz3 := f3.size
  simp only [World.size_alloc] at hz3
  have hb3 := hb2.frame f3 hB
  have bx3 := bx2.keepF f3 (.inr (by omega))
  have F3 := F2.trans f3
  clear hb2 bx2 F2 f3 hs2 hl
  go_wp2_with fail
  refine (l01DrawOf_any N x _ hs3 hb3 hB hN1 hN2 hmem.1 hmem.2).mono ?_
  rintro e w4 ⟨a4, k4, f, rfl, s4, hw4, hs4, hb4, f4⟩
  have hz4 := f4.size
  have bx4 := bx3.keepF f4 (.inr (by omega))
  have F4 := F3.trans f4
  have S4 := Lib.hid s4
  have HS4 := Lib.hid hs4
  have HB4 := Lib.hid hb4
  have hw := Lib.hid hw4
  clear hs3 hb3 bx3 F3 f4 s4 hs4 hb4 hw4
  obtain ⟨d0, d1⟩ := bx4.cell2
  have dz := bx4.2.2
  have hbx := bx4.1
  clear bx4
  have FS : Frame w.heap.size (w.heap.size + 1) w4 ((w4.setCell ⟨w.heap.size, 0, none⟩ (.int .i64 (N : Int))).setCell ⟨w.heap.size, 1, none⟩ (.slice a4 (phiN N) k4)) := ((Frame.refl w.heap.size (w.heap.size + 1) w4).setCell (Nat.le_refl _) (Nat.lt_succ_self _) _).setCell (Nat.le_refl _) (Nat.lt_succ_self _) _
  go_wp2
  refine bodyPost_ret (v := .agg #[.int .i64 (N : Int), .slice a4 (phiN N) k4]) (by simp [results, Try.results221, go_sem, d0, d1]) rfl ?_
  refine ⟨N, _, _, f, hN1, hN2, rfl, ?_, hw.out, ?_, ?_, ?_⟩
  · exact ((S4.out.setOther (.inl (by show w.heap.size < _; omega)) _).setOther (.inl (by show w.heap.size < _; omega)) _).wide (by omega) (by simp) (Nat.le_refl _)
  · exact HS4.out.keepF FS (.inl (by omega))
  · exact HB4.out.frameG FS (by omega)
  · exact (F4.setNew (Nat.le_refl _) _).setNew (Nat.le_refl _) _
end
end Go.Proofs.Ytdalahgfpbdilaa
