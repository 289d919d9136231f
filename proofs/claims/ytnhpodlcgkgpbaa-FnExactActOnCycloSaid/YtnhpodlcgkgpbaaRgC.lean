/- Elements of group rings: cut, isWithin of the program. -/
import Derived.Test.YtnhpodlcgkgpbaaRgE
import Derived.Test.YtnhpodlcgkgpbaaReal
import Derived.Deep.RegionHeld3
namespace Go.Proofs.Ytnhpodlcgkgpbaa
open Go.RowKit Go.ChangeShapes Go.Sort
set_option linter.unusedVariables false
set_option linter.unusedSimpArgs false
set_option maxRecDepth 100000
set_option maxHeartbeats 2000000
def cutT (F : Nat → Int) (a b : Int) (k : Nat) : Nat → Int := fun j => if j < k then min (max (F j) a) b else F j
theorem cl_eq (x a b : Int) : (if b < if x < a then a else x then b else if x < a then a else x) = min (max x a) b := by
  simp only [Int.min_def, Int.max_def]
  by_cases h : x < a
  · rw [if_pos h]; by_cases h2 : x ≤ a
    · rw [if_pos h2]; by_cases h3 : b < a
      · rw [if_pos h3, if_neg (by omega)]
      · rw [if_neg h3, if_pos (by omega)]
    · omega
  · rw [if_neg h]; by_cases h2 : x ≤ a
    · obtain rfl : x = a := by omega
      rw [if_pos h2]; by_cases h3 : b < x
      · rw [if_pos h3, if_neg (by omega)]
      · rw [if_neg h3, if_pos (by omega)]
    · rw [if_neg h2]; by_cases h3 : b < x
      · rw [if_pos h3, if_neg (by omega)]
      · rw [if_neg h3, if_pos (by omega)]
theorem cut_any (F : Nat → Int) (a b : Int) (w : World) (hF : ∀ j, j < 40 → inR (F j)) (ha : inR a) (hb : inR b) :
    Calls Try.prog 171 #[.agg (ptC F), .int .i64 a, .int .i64 b] w fun e w' => e = .returned (.agg (ptC (fun j => min (max (F j) a) b))) ∧ Below w.heap.size w w' := by
  go_enter Try.func171, Try.ntmps171
  go_wp2_with (first
    | (refine wpList_boxPP rfl _ rfl (F := F) rfl ?_; intro w1 x1 b1 z1
       have st := ((St.start w).keep b1).addBox _ _ x1
       have Z1 := Lib.hid z1
       clear x1 b1 z1)
    | (refine wpList_allocPP rfl rfl ?_; intro w2 x2 b2 z2
       replace st := (st.keep b2).addBox _ _ x2
       have Z2 := Lib.hid z2
       clear x2 b2 z2)
    | (refine wpList_loadPP rfl _ rfl w.heap.size rfl (st.box 1 _ rfl) ?_))
  have sz := Lib.hid (show w.heap.size < w1.heap.size by have := Z1.out; omega)
  replace st := st.subR (bs' := [(w.heap.size, ptL F), (w1.heap.size, ptL (fun _ => 0))]) (ss' := []) (by intro q hq; simp only [List.mem_cons, List.not_mem_nil, or_false] at hq ⊢; rcases hq with rfl | rfl <;> simp) (by intro s hs; cases hs)
  go_loopw [10] (fun s10 wr => ∃ k : Nat, k ≤ 40 ∧ s10 = .int .i64 (k : Int) ∧ St w wr [(w.heap.size, ptL (cutT F a b k)), (w1.heap.size, ptL (fun _ => 0))] []) (fun s10 _ => 40 - (intOf s10).toNat)
  case atStart => exact ⟨0, by omega, rfl, st⟩
  case round =>
    clear st
    obtain ⟨k, hk, rfl, st⟩ := hrel
    by_cases hlt : k < 40
    · have hki : (k : Int) < 40 := by omega
      have HI := run_index_ints (P := Try.prog) wr Try.underlying105 Try.underlying2 (fun w => Try.sizeOf2 w) hlt (ptC_get (F := F) hlt)
      have c0 := (st.box 0 (w.heap.size, ptL (cutT F a b k)) rfl).ppart hlt
      have cz := (st.box 0 (w.heap.size, ptL (cutT F a b k)) rfl).2.2
      dsimp only at c0 cz
      have hFk := hF k hlt
      unfold inR at hFk ha hb
      go_wp2
      go_roundw
      case rel =>
        refine ⟨k + 1, by omega, by go_num, ?_⟩
        have q := st.ppartR (x := min (max (F k) a) b) hlt (Nat.le_refl _) (by have := sz.out; intro q hq; simp only [List.mem_cons, List.not_mem_nil, or_false] at hq; rcases hq with rfl; dsimp only; omega) (by intro s hs; cases hs)
        rw [cl_eq]
        exact q.ptCongr (fun j hj => by
          unfold cutT
          by_cases e : j = k
          · subst e; rw [if_pos rfl, if_pos (by omega)]
          · rw [if_neg e]; by_cases e2 : j < k
            · rw [if_pos e2, if_pos (by omega)]
            · rw [if_neg e2, if_neg (by omega)])
      case measure => simp [intOf] <;> omega
    · obtain rfl : k = 40 := by omega
      have e40 : ptL (cutT F a b 40) = ptL (fun j => min (max (F j) a) b) := ptL_congr (fun j hj => by unfold cutT; rw [if_pos hj])
      rw [e40] at st
      have B0 := st.box 0 (w.heap.size, ptL (fun j => min (max (F j) a) b)) rfl
      have B1 := st.box 1 (w1.heap.size, ptL (fun _ => 0)) rfl
      dsimp only at B0 B1
      go_wp2_with (refine wpList_loadPP rfl _ rfl w.heap.size rfl B0 ?_; refine wpList_storePP rfl _ _ rfl w1.heap.size rfl rfl B1 ptL_len ?_; intro w3 x3 f3)
      refine bodyPost_ret (v := .agg (ptC (fun j => min (max (F j) a) b))) (resPP (b := w1.heap.size) rfl rfl x3) rfl ⟨rfl, ?_⟩
      exact st.1.trans (f3.below (Nat.le_of_lt sz.out) st.1.size)
/-- All forty Parts are in a range. -/
def inC (F : Nat → Int) (a b : Int) : Bool := eqB 40 F (fun j => min (max (F j) a) b)
theorem inC_iff {F : Nat → Int} {a b : Int} (hab : a ≤ b) : inC F a b = true ↔ ∀ j, j < 40 → a ≤ F j ∧ F j ≤ b := by
  unfold inC
  rw [eqB_iff]
  constructor
  · intro h j hj
    have := h j hj
    omega
  · intro h j hj
    have := h j hj
    omega
theorem pt_eq (F G : Nat → Int) (w : World) : (Op.equalIn 10000 105 (.agg (ptC F)) (.agg (ptC G))).run Try.prog w = .ok (eqB 40 F G) w := by
  rw [show (10000 : Nat) = 9998 + 2 from rfl, run_equalIn_ints w 9998 40 105 2 _ _ F G Try.underlying105 Try.underlying2 (fun w => Try.sizeOf2 w) (fun i hi => ptC_get hi) (fun i hi => ptC_get hi)]
  congr 1
  rw [Bool.eq_iff_iff]
  rw [eqB_iff]
  simp only [List.all_eq_true, List.mem_range'_1, beq_iff_eq]
  exact ⟨fun h j hj => h j ⟨Nat.zero_le _, by omega⟩, fun h j hj => h j (by omega)⟩
theorem pt_guard : Try.prog.eqGuardType Try.prog.depth 105 = false := by kernel_rfl
theorem isWithinE_any (m : Int) (F : Nat → Int) (a b : Int) (w : World) (hF : ∀ j, j < 40 → inR (F j)) (ha : inR a) (hb : inR b) :
    Calls Try.prog 97 #[.agg (elC m F), .int .i64 a, .int .i64 b] w fun e w' => e = .returned (.bool (inC F a b)) ∧ Below w.heap.size w w' := by
  have hgd := pt_guard
  have hEq := pt_eq F (fun j => min (max (F j) a) b)
  have hB : eqB 40 F (fun j => min (max (F j) a) b) = inC F a b := rfl
  rw [hB] at hEq
  generalize inC F a b = B at *
  clear hB
  have HF := Lib.hid hF
  have HA := Lib.hid ha
  have HB := Lib.hid hb
  clear hF ha hb
  go_enter Try.func97, Try.ntmps97
  go_wp2_with (first
    | (refine wpList_boxE rfl _ rfl (m := m) (F := F) rfl ?_; intro w1 x1 b1 z1
       have st := ((St.start w).keep b1).addBox _ _ x1
       clear x1 b1 z1)
    | fail)
  have HBX : ∀ w', (∃ p : Regrown, w' = grow (redrawn w1 p.d) p.os) → Box w' w.heap.size (elL m F) := fun w' ⟨p, hp⟩ => by
    rw [hp]; exact (st.box 0 (w.heap.size, elL m F) rfl).keep (below_regrown w1 p.d p.os)
  refine wp_region_quiet_below (by kernel_rfl) (by kernel_rfl) ?_
  repeat (first
    | (refine wpQuiet_loadP (by rfl) _ rfl w.heap.size rfl HBX ?_; simp only [Act.put, List.setIfInBounds_toArray, List.set_cons_zero, List.set_cons_succ])
    | go_big_quiet_step (first | (go_at_call 171; exact Calls.regrown_of (cut_any F a b _ HF.out HA.out HB.out))))
  refine wpQuiet_nil ?_
  intro _ hw'
  obtain ⟨⟨dq, osq⟩, hw''⟩ := hw'
  subst hw''
  go_wp2
  go_ret
  exact ⟨rfl, st.1.trans ((below_regrown _ _ _).mono st.1.size)⟩
end Go.Proofs.Ytnhpodlcgkgpbaa
