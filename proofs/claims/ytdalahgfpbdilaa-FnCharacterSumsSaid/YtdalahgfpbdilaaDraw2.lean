/- Drawn numbers: l01Near, l01DrawOrder, l01DrawPart. -/
import Derived.Test.YtdalahgfpbdilaaDraw
namespace Go.Proofs.Ytdalahgfpbdilaa
open Go.RowKit Go.ChangeShapes
set_option linter.unusedVariables false
set_option linter.unusedSimpArgs false

theorem Src.keep {w w' : World} {b : Nat} {p : Option Addr} {n q : Nat} (h : Src w b p n q) (hb : Below w.heap.size w w') : Src w' b p n q := by
  obtain ⟨a, x, h1, h2, h3, h4⟩ := h
  exact ⟨a, x, h1, h2, h3, h4.keep hb⟩
theorem Src.lt {w : World} {b : Nat} {p : Option Addr} {n q : Nat} (h : Src w b p n q) : b < w.heap.size := by
  obtain ⟨a, x, h1, h2, h3, h4⟩ := h
  exact h4.1
/-- A list just laid. -/
theorem Sl.list (w : World) (xs : List Int) (hx : ∀ x ∈ xs, inR x) (hl : xs.length ≤ maxLen) :
    Sl true (w.alloc (.cells (xs.map (Value.int .i64)).toArray 2)) w.heap.size (w.heap.size + 1) (.slice (some ⟨w.heap.size, 0, none⟩) xs.length xs.length) xs.length (fun j => xs.getD j 0) :=
  Sl.made w _ _ _ _ _ (Nat.le_refl _) hl (fun j hj => by
    rw [List.getD_eq_getElem?_getD, List.getElem?_eq_getElem hj]
    exact hx _ (List.getElem_mem hj)) (fun j hj => by simp [List.getD_eq_getElem?_getD, List.getElem?_eq_getElem hj])
section
variable {b B : Nat} {p : Option Addr} {n q : Nat}
set_option maxRecDepth 100000 in
theorem l01Near_any (m : Int) (w : World) (hs : Src w b p n q) (hb : Bytes w B p n) (hB : B ≤ b) (hm : 0 ≤ m) (hm2 : m ≤ 100000000000) :
    Calls Try.prog 147 #[.pointer (some ⟨b, 0, none⟩), .int .i64 m] w fun e w' => ∃ r, e = .returned (.int .i64 r) ∧ inR r ∧ Src w' b p n q ∧ Bytes w' B p n ∧ Frame b (b + 1) w w' := by
  go_enter Try.func147, Try.ntmps147
  go_wp2_with fail
  refine (l01Next_any b B p n q 14 w hs hb hB (by omega) (by omega)).mono ?_
  rintro e w1 ⟨r, rfl, hr1, hr2, hs1, hf1⟩
  have hb1 := hb.frame hf1 hB
  clear hs hb
  by_cases h0 : r = 0
  · subst h0
    have hl := Sl.list w1 [-1, m + 1, 1099511627776, -4611686018427387904] (by intro x hx; simp only [List.mem_cons, List.not_mem_nil, or_false] at hx; unfold inR; rcases hx with rfl | rfl | rfl | rfl <;> omega) (by simp [maxLen])
    have hlt := hs1.lt
    have hs2 := hs1.keep ((Below.refl w1.heap.size w1).alloc (Nat.le_refl _) (.cells ([-1, m + 1, 1099511627776, -4611686018427387904].map (Value.int .i64)).toArray 2))
    have hb2 := hb1.below ((Below.refl w1.heap.size w1).alloc (Nat.le_refl _) (.cells ([-1, m + 1, 1099511627776, -4611686018427387904].map (Value.int .i64)).toArray 2))
    simp only [List.map_cons, List.map_nil, List.length_cons, List.length_nil] at hl hs2 hb2
    go_wp2_with fail
    refine (l01Pick_any b B p n q _ hs2 hb2 hB hl (.inr (by omega)) (by omega) (by omega)).mono ?_
    rintro e w2 ⟨i, hi, rfl, hs3, hf3⟩
    have hr : inR ([-1, m + 1, 1099511627776, -4611686018427387904].getD i 0) := hl.bd i hi
    generalize [-1, m + 1, 1099511627776, -4611686018427387904].getD i 0 = x at *
    go_wp2
    go_ret
    exact ⟨_, rfl, hr, hs3, hb2.frame hf3 hB, hf1.trans (((Frame.refl b (b + 1) w1).alloc _).trans hf3)⟩
  · have h0' : (r == 0) = false := by simpa using h0
    go_wp2_with fail
    refine (l01Next_any b B p n q (m + 1) w1 hs1 hb1 hB (by omega) (by omega)).mono ?_
    rintro e w2 ⟨r2, rfl, hr3, hr4, hs2, hf2⟩
    go_wp2
    go_ret
    exact ⟨r2, rfl, by unfold inR; omega, hs2, hb1.frame hf2 hB, hf1.trans hf2⟩
set_option maxRecDepth 100000 in
theorem l01DrawOrder_any (w : World) (hs : Src w b p n q) (hb : Bytes w B p n) (hB : B ≤ b) :
    Calls Try.prog 205 #[.pointer (some ⟨b, 0, none⟩)] w fun e w' => ∃ k : Nat, e = .returned (.int .i64 (k : Int)) ∧ 1 ≤ k ∧ k ≤ 16 ∧ Src w' b p n q ∧ Bytes w' B p n ∧ Frame b (b + 1) w w' := by
  go_enter Try.func205, Try.ntmps205
  go_wp2_with fail
  refine (l01Next_any b B p n q 16 w hs hb hB (by omega) (by omega)).mono ?_
  rintro e w1 ⟨r, rfl, hr1, hr2, hs1, hf1⟩
  have hb1 := hb.frame hf1 hB
  clear hs hb
  have hl := Sl.list w1 [1, 2, 3, 3, 4, 4, 5, 5, 6, 7, 8, 9, 10, 12, 1 + r] (by intro x hx; simp only [List.mem_cons, List.not_mem_nil, or_false] at hx; unfold inR; rcases hx with rfl | rfl | rfl | rfl | rfl | rfl | rfl | rfl | rfl | rfl | rfl | rfl | rfl | rfl | rfl <;> omega) (by simp [maxLen])
  have hall : ∀ x ∈ [1, 2, 3, 3, 4, 4, 5, 5, 6, 7, 8, 9, 10, 12, 1 + r], 1 ≤ x ∧ x ≤ 16 := by intro x hx; simp only [List.mem_cons, List.not_mem_nil, or_false] at hx; rcases hx with rfl | rfl | rfl | rfl | rfl | rfl | rfl | rfl | rfl | rfl | rfl | rfl | rfl | rfl | rfl <;> omega
  have hlt := hs1.lt
  have hs2 := hs1.keep ((Below.refl w1.heap.size w1).alloc (Nat.le_refl _) (.cells ([1, 2, 3, 3, 4, 4, 5, 5, 6, 7, 8, 9, 10, 12, 1 + r].map (Value.int .i64)).toArray 2))
  have hb2 := hb1.below ((Below.refl w1.heap.size w1).alloc (Nat.le_refl _) (.cells ([1, 2, 3, 3, 4, 4, 5, 5, 6, 7, 8, 9, 10, 12, 1 + r].map (Value.int .i64)).toArray 2))
  simp only [List.map_cons, List.map_nil, List.length_cons, List.length_nil] at hl hs2 hb2
  have HALL := Lib.hid hall
  clear hall
  go_wp2_with fail
  refine (l01Pick_any b B p n q _ hs2 hb2 hB hl (.inr (by omega)) (by omega) (by omega)).mono ?_
  rintro e w2 ⟨i, hi, rfl, hs3, hf3⟩
  have hmem : 1 ≤ [1, 2, 3, 3, 4, 4, 5, 5, 6, 7, 8, 9, 10, 12, 1 + r].getD i 0 ∧ [1, 2, 3, 3, 4, 4, 5, 5, 6, 7, 8, 9, 10, 12, 1 + r].getD i 0 ≤ 16 := by
    rw [List.getD_eq_getElem?_getD, List.getElem?_eq_getElem (by simpa using hi)]
    exact HALL.out _ (List.getElem_mem _)
  generalize [1, 2, 3, 3, 4, 4, 5, 5, 6, 7, 8, 9, 10, 12, 1 + r].getD i 0 = x at *
  obtain ⟨k, rfl⟩ := Int.eq_ofNat_of_zero_le (show 0 ≤ x by omega)
  go_wp2
  go_ret
  exact ⟨k, rfl, by omega, by omega, hs3, hb2.frame hf3 hB, hf1.trans (((Frame.refl b (b + 1) w1).alloc _).trans hf3)⟩
set_option maxRecDepth 100000 in
theorem l01DrawPart_any (m : Int) (w : World) (hs : Src w b p n q) (hb : Bytes w B p n) (hB : B ≤ b) (hm : 0 ≤ m) (hm2 : m ≤ 1000000000) :
    Calls Try.prog 156 #[.pointer (some ⟨b, 0, none⟩), .int .i64 m] w fun e w' => ∃ r, e = .returned (.int .i64 r) ∧ -m ≤ r ∧ r ≤ m ∧ Src w' b p n q ∧ Bytes w' B p n ∧ Frame b (b + 1) w w' := by
  go_enter Try.func156, Try.ntmps156
  go_wp2_with fail
  refine (l01Next_any b B p n q (2 * m + 1) w hs hb hB (by omega) (by omega)).mono ?_
  rintro e w1 ⟨r, rfl, hr1, hr2, hs1, hf1⟩
  have hb1 := hb.frame hf1 hB
  go_wp2
  go_ret
  exact ⟨r - m, rfl, by omega, by omega, hs1, hb1, hf1⟩
end
end Go.Proofs.Ytdalahgfpbdilaa
