/- slices.Index over arrays. -/
import Derived.Test.YtmmcbkikcceenaaProdI
import Derived.Test.YtmmcbkikcceenaaReal
namespace Go.Proofs.Ytmmcbkikcceenaa
open Go.RowKit Go.ChangeShapes Go.Sort
set_option linter.unusedVariables false
set_option linter.unusedSimpArgs false

set_option maxRecDepth 100000 in
theorem arr_eqE (F G : Nat → Int) (w : World) : (Op.equalIn 10000 65 (.agg #[.int .i64 (F 0), .int .i64 (F 1), .int .i64 (F 2), .int .i64 (F 3), .int .i64 (F 4), .int .i64 (F 5), .int .i64 (F 6), .int .i64 (F 7), .int .i64 (F 8), .int .i64 (F 9), .int .i64 (F 10), .int .i64 (F 11)]) (.agg #[.int .i64 (G 0), .int .i64 (G 1), .int .i64 (G 2), .int .i64 (G 3), .int .i64 (G 4), .int .i64 (G 5), .int .i64 (G 6), .int .i64 (G 7), .int .i64 (G 8), .int .i64 (G 9), .int .i64 (G 10), .int .i64 (G 11)])).run Try.prog w = .ok (eqB 12 F G) w := by
  obtain ⟨A1, A2, hA1, hA2, hEq⟩ := arr_eq F G
  unfold arrV at hA1 hA2
  injection hA1 with hA1
  injection hA2 with hA2
  subst hA1 hA2
  exact hEq w
set_option maxRecDepth 100000 in
set_option maxHeartbeats 4000000 in
theorem index_any (w : World) {base g cap m : Nat} (G : Nat → Nat → Int) (V : Nat → Int) (hR : RowE w base 65 12 g cap m (fun k => arrL (G k))) (hm : m ≤ 12) :
    Calls Try.prog 130 #[.slice (some ⟨g, 0, none⟩) m cap, arrV V] w fun e w' => ((∃ k, k < m ∧ e = .returned (.int .i64 (k : Int)) ∧ eqB 12 V (G k) = true ∧ ∀ i, i < k → eqB 12 V (G i) = false) ∨ (e = .returned (.int .i64 (-1)) ∧ ∀ i, i < m → eqB 12 V (G i) = false)) ∧ Below w.heap.size w w' := by
  have hgd := parr_guard
  have hg := hR.lt.2
  have HR := Lib.hid (hR.alloc (.cells (arrC V) 65))
  have st0 := ((St.start w).alloc (.cells (arrC V) 65)).addBox w.heap.size [.int .i64 (V 0), .int .i64 (V 1), .int .i64 (V 2), .int .i64 (V 3), .int .i64 (V 4), .int .i64 (V 5), .int .i64 (V 6), .int .i64 (V 7), .int .i64 (V 8), .int .i64 (V 9), .int .i64 (V 10), .int .i64 (V 11)] (Box.made _ _ _ _ (fun j v h => by simpa [arrC] using h))
  have HST := Lib.hid st0
  clear hR st0
  unfold arrC at HST HR
  unfold arrV
  go_enter Try.func130, Try.ntmps130
  go_wp2
  go_loopw [8] (fun s8 wr => ∃ k : Nat, k ≤ m ∧ s8 = .int .i64 k ∧ (∀ i, i < k → eqB 12 V (G i) = false) ∧ RowE wr base 65 12 g cap m (fun k => arrL (G k)) ∧ St w wr [(w.heap.size, [.int .i64 (V 0), .int .i64 (V 1), .int .i64 (V 2), .int .i64 (V 3), .int .i64 (V 4), .int .i64 (V 5), .int .i64 (V 6), .int .i64 (V 7), .int .i64 (V 8), .int .i64 (V 9), .int .i64 (V 10), .int .i64 (V 11)])] []) (fun s8 _ => m - (intOf s8).toNat)
  case atStart => exact ⟨0, Nat.zero_le _, rfl, fun i hi => absurd hi (Nat.not_lt_zero _), HR.out, HST.out⟩
  case round =>
    clear HR HST
    obtain ⟨k, hk, rfl, hno, hrow, hst⟩ := hrel
    have HT := Lib.hid hst; clear hst
    have R1 := Lib.hid hrow; clear hrow
    have HN := Lib.hid hno; clear hno
    have BB := HT.out.1
    by_cases hlt : k < m
    · have hk2 : (k : Int) < (m : Int) := by omega
      have b0 := (HT.out.box 0 (w.heap.size, [.int .i64 (V 0), .int .i64 (V 1), .int .i64 (V 2), .int .i64 (V 3), .int .i64 (V 4), .int .i64 (V 5), .int .i64 (V 6), .int .i64 (V 7), .int .i64 (V 8), .int .i64 (V 9), .int .i64 (V 10), .int .i64 (V 11)]) rfl).2.1 0 _ rfl
      have b1 := (HT.out.box 0 (w.heap.size, [.int .i64 (V 0), .int .i64 (V 1), .int .i64 (V 2), .int .i64 (V 3), .int .i64 (V 4), .int .i64 (V 5), .int .i64 (V 6), .int .i64 (V 7), .int .i64 (V 8), .int .i64 (V 9), .int .i64 (V 10), .int .i64 (V 11)]) rfl).2.1 1 _ rfl
      have b2 := (HT.out.box 0 (w.heap.size, [.int .i64 (V 0), .int .i64 (V 1), .int .i64 (V 2), .int .i64 (V 3), .int .i64 (V 4), .int .i64 (V 5), .int .i64 (V 6), .int .i64 (V 7), .int .i64 (V 8), .int .i64 (V 9), .int .i64 (V 10), .int .i64 (V 11)]) rfl).2.1 2 _ rfl
      have b3 := (HT.out.box 0 (w.heap.size, [.int .i64 (V 0), .int .i64 (V 1), .int .i64 (V 2), .int .i64 (V 3), .int .i64 (V 4), .int .i64 (V 5), .int .i64 (V 6), .int .i64 (V 7), .int .i64 (V 8), .int .i64 (V 9), .int .i64 (V 10), .int .i64 (V 11)]) rfl).2.1 3 _ rfl
      have b4 := (HT.out.box 0 (w.heap.size, [.int .i64 (V 0), .int .i64 (V 1), .int .i64 (V 2), .int .i64 (V 3), .int .i64 (V 4), .int .i64 (V 5), .int .i64 (V 6), .int .i64 (V 7), .int .i64 (V 8), .int .i64 (V 9), .int .i64 (V 10), .int .i64 (V 11)]) rfl).2.1 4 _ rfl
      have b5 := (HT.out.box 0 (w.heap.size, [.int .i64 (V 0), .int .i64 (V 1), .int .i64 (V 2), .int .i64 (V 3), .int .i64 (V 4), .int .i64 (V 5), .int .i64 (V 6), .int .i64 (V 7), .int .i64 (V 8), .int .i64 (V 9), .int .i64 (V 10), .int .i64 (V 11)]) rfl).2.1 5 _ rfl
      have b6 := (HT.out.box 0 (w.heap.size, [.int .i64 (V 0), .int .i64 (V 1), .int .i64 (V 2), .int .i64 (V 3), .int .i64 (V 4), .int .i64 (V 5), .int .i64 (V 6), .int .i64 (V 7), .int .i64 (V 8), .int .i64 (V 9), .int .i64 (V 10), .int .i64 (V 11)]) rfl).2.1 6 _ rfl
      have b7 := (HT.out.box 0 (w.heap.size, [.int .i64 (V 0), .int .i64 (V 1), .int .i64 (V 2), .int .i64 (V 3), .int .i64 (V 4), .int .i64 (V 5), .int .i64 (V 6), .int .i64 (V 7), .int .i64 (V 8), .int .i64 (V 9), .int .i64 (V 10), .int .i64 (V 11)]) rfl).2.1 7 _ rfl
      have b8 := (HT.out.box 0 (w.heap.size, [.int .i64 (V 0), .int .i64 (V 1), .int .i64 (V 2), .int .i64 (V 3), .int .i64 (V 4), .int .i64 (V 5), .int .i64 (V 6), .int .i64 (V 7), .int .i64 (V 8), .int .i64 (V 9), .int .i64 (V 10), .int .i64 (V 11)]) rfl).2.1 8 _ rfl
      have b9 := (HT.out.box 0 (w.heap.size, [.int .i64 (V 0), .int .i64 (V 1), .int .i64 (V 2), .int .i64 (V 3), .int .i64 (V 4), .int .i64 (V 5), .int .i64 (V 6), .int .i64 (V 7), .int .i64 (V 8), .int .i64 (V 9), .int .i64 (V 10), .int .i64 (V 11)]) rfl).2.1 9 _ rfl
      have b10 := (HT.out.box 0 (w.heap.size, [.int .i64 (V 0), .int .i64 (V 1), .int .i64 (V 2), .int .i64 (V 3), .int .i64 (V 4), .int .i64 (V 5), .int .i64 (V 6), .int .i64 (V 7), .int .i64 (V 8), .int .i64 (V 9), .int .i64 (V 10), .int .i64 (V 11)]) rfl).2.1 10 _ rfl
      have b11 := (HT.out.box 0 (w.heap.size, [.int .i64 (V 0), .int .i64 (V 1), .int .i64 (V 2), .int .i64 (V 3), .int .i64 (V 4), .int .i64 (V 5), .int .i64 (V 6), .int .i64 (V 7), .int .i64 (V 8), .int .i64 (V 9), .int .i64 (V 10), .int .i64 (V 11)]) rfl).2.1 11 _ rfl
      have e0 := R1.out.cell (fun _ => arrL_len _) (i := k) (j := 0) hlt (by omega)
      have e1 := R1.out.cell (fun _ => arrL_len _) (i := k) (j := 1) hlt (by omega)
      have e2 := R1.out.cell (fun _ => arrL_len _) (i := k) (j := 2) hlt (by omega)
      have e3 := R1.out.cell (fun _ => arrL_len _) (i := k) (j := 3) hlt (by omega)
      have e4 := R1.out.cell (fun _ => arrL_len _) (i := k) (j := 4) hlt (by omega)
      have e5 := R1.out.cell (fun _ => arrL_len _) (i := k) (j := 5) hlt (by omega)
      have e6 := R1.out.cell (fun _ => arrL_len _) (i := k) (j := 6) hlt (by omega)
      have e7 := R1.out.cell (fun _ => arrL_len _) (i := k) (j := 7) hlt (by omega)
      have e8 := R1.out.cell (fun _ => arrL_len _) (i := k) (j := 8) hlt (by omega)
      have e9 := R1.out.cell (fun _ => arrL_len _) (i := k) (j := 9) hlt (by omega)
      have e10 := R1.out.cell (fun _ => arrL_len _) (i := k) (j := 10) hlt (by omega)
      have e11 := R1.out.cell (fun _ => arrL_len _) (i := k) (j := 11) hlt (by omega)
      have hEq := arr_eqE V (G k)
      have HE := Lib.hid (rfl : eqB 12 V (G k) = eqB 12 V (G k))
      have HG := Lib.hid (show arrL (G k) = [.int .i64 (G k 0), .int .i64 (G k 1), .int .i64 (G k 2), .int .i64 (G k 3), .int .i64 (G k 4), .int .i64 (G k 5), .int .i64 (G k 6), .int .i64 (G k 7), .int .i64 (G k 8), .int .i64 (G k 9), .int .i64 (G k 10), .int .i64 (G k 11)] from rfl)
      rw [HG.out] at e0 e1 e2 e3 e4 e5 e6 e7 e8 e9 e10 e11
      simp only [Nat.add_zero, List.getElem?_cons_zero, List.getElem?_cons_succ] at e0 e1 e2 e3 e4 e5 e6 e7 e8 e9 e10 e11
      dsimp only at b0 b1 b2 b3 b4 b5 b6 b7 b8 b9 b10 b11
      cases hb : eqB 12 V (G k) with
      | true =>
        have HB := Lib.hid hb
        rw [hb] at hEq
        clear hb HE
        go_wp2
        go_quiet (fail)
        go_wp2
        go_ret
        exact ⟨.inl ⟨k, hlt, rfl, HB.out, HN.out⟩, by first | exact BB | exact below_drewN BB _⟩
      | false =>
        have HB := Lib.hid hb
        rw [hb] at hEq
        clear hb HE
        go_wp2
        go_quiet (fail)
        go_wp2
        go_roundw
        case rel => exact ⟨k + 1, by omega, by go_num, fun i hi => by
            by_cases e : i < k
            · exact HN.out i e
            · rw [show i = k by omega]; exact HB.out, R1.out, HT.out.drewN _⟩
        case measure => simp [intOf] <;> omega
    · obtain rfl : k = m := by omega
      go_wp2
      go_ret
      exact ⟨.inr ⟨rfl, HN.out⟩, BB⟩
end Go.Proofs.Ytmmcbkikcceenaa
