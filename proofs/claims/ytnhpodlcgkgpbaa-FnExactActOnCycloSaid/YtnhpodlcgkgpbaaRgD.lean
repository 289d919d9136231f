/- Elements of group rings: total, plus, scaled of the program. -/
import Derived.Test.YtnhpodlcgkgpbaaRgC
namespace Go.Proofs.Ytnhpodlcgkgpbaa
open Go.RowKit Go.ChangeShapes Go.Sort
set_option linter.unusedVariables false
set_option linter.unusedSimpArgs false
set_option maxRecDepth 100000
set_option maxHeartbeats 2000000

theorem total_any (m : Int) (F : Nat → Int) (w : World) (hF : ∀ j, j < 40 → -1000000000 ≤ F j ∧ F j ≤ 1000000000) :
    Calls Try.prog 115 #[.agg (elC m F)] w fun e w' => e = .returned (.int .i64 (sumN 40 F)) ∧ Below w.heap.size w w' := by
  go_enter Try.func115, Try.ntmps115
  go_wp2_with (first
    | (refine wpList_boxE rfl _ rfl (m := m) (F := F) rfl ?_; intro w1 x1 b1 z1
       have st := ((St.start w).keep b1).addBox _ _ x1
       have B0 := st.box 0 (w.heap.size, elL m F) rfl
       dsimp only at B0
       clear x1 b1 z1)
    | (refine wpList_loadP rfl _ rfl w.heap.size rfl B0 ?_))
  clear B0
  go_loop [3, 8] (fun s3 s8 => ∃ k : Nat, k ≤ 40 ∧ s8 = .int .i64 (k : Int) ∧ s3 = .int .i64 (sumN k F)) (fun _ s8 => 40 - (intOf s8).toNat)
  case atStart => exact ⟨0, by omega, rfl, rfl⟩
  case round =>
    obtain ⟨k, hk, rfl, rfl⟩ := hrel
    by_cases hlt : k < 40
    · have hki : (k : Int) < 40 := by omega
      have HI := run_index_ints (P := Try.prog) w1 Try.underlying105 Try.underlying2 (fun w => Try.sizeOf2 w) hlt (ptC_get (F := F) hlt)
      have hFk := hF k hlt
      have hs := sumR_bd (F := F) (M := 1000000000) (m := k) (fun i hi => hF i (by omega))
      have hs1 : -40000000000 ≤ sumN k F := by omega
      have hs2 : sumN k F ≤ 40000000000 := by omega
      have HS := Lib.hid (show sumN (k + 1) F = sumN k F + F k from rfl)
      clear hs
      go_wp2
      go_round
      case rel => exact ⟨k + 1, by omega, by go_num, by rw [HS.out]⟩
      case measure => simp [intOf] <;> omega
    · obtain rfl : k = 40 := by omega
      have BB := st.1
      go_wp2
      go_ret
      exact ⟨rfl, BB⟩

/-- The first k Parts of k times the second added. -/
def plT (F G : Nat → Int) (c : Int) (k : Nat) : Nat → Int := fun j => if j < k then F j + c * G j else F j
theorem plus_any (m m' : Int) (F G : Nat → Int) (c : Int) (w : World) (hF : ∀ j, j < 40 → -1000000000000000000 ≤ F j ∧ F j ≤ 1000000000000000000) (hG : ∀ j, j < 40 → inR (G j)) (hcG : ∀ j, j < 40 → -1000000000000000000 ≤ c * G j ∧ c * G j ≤ 1000000000000000000) :
    Calls Try.prog 108 #[.agg (elC m F), .agg (elC m' G), .int .i64 c] w fun e w' => e = .returned (.agg (elC m (fun j => F j + c * G j))) ∧ Below w.heap.size w w' := by
  go_enter Try.func108, Try.ntmps108
  go_wp2_with (first
    | (refine wpList_boxE rfl (.tmp 0) rfl (m := m) (F := F) rfl ?_; intro w1 x1 b1 z1
       have st := ((St.start w).keep b1).addBox _ _ x1
       have Z1 := Lib.hid z1
       clear x1 b1 z1)
    | (refine wpList_boxE rfl (.tmp 1) rfl (m := m') (F := G) rfl ?_; intro w2 x2 b2 z2
       replace st := (st.keep b2).addBox _ _ x2
       have Z2 := Lib.hid z2
       clear x2 b2 z2)
    | (refine wpList_allocE rfl rfl ?_; intro w3 x3 b3 z3
       replace st := (st.keep b3).addBox _ _ x3
       have Z3 := Lib.hid z3
       have B1 := st.box 1 (w1.heap.size, elL m' G) rfl
       dsimp only at B1
       clear x3 b3 z3)
    | (refine wpList_loadP rfl _ rfl w1.heap.size rfl B1 ?_))
  clear B1
  have sz := Lib.hid (show w.heap.size < w1.heap.size ∧ w1.heap.size < w2.heap.size by have := Z1.out; have := Z2.out; omega)
  replace st := st.subR (bs' := [(w.heap.size, elL m F), (w2.heap.size, elL 0 (fun _ => 0))]) (ss' := []) (by intro q hq; simp only [List.mem_cons, List.not_mem_nil, or_false] at hq ⊢; rcases hq with rfl | rfl <;> simp) (by intro s hs; cases hs)
  go_loopw [11] (fun s11 wr => ∃ k : Nat, k ≤ 40 ∧ s11 = .int .i64 (k : Int) ∧ St w wr [(w.heap.size, elL m (plT F G c k)), (w2.heap.size, elL 0 (fun _ => 0))] []) (fun s11 _ => 40 - (intOf s11).toNat)
  case atStart => exact ⟨0, by omega, rfl, st⟩
  case round =>
    clear st
    obtain ⟨k, hk, rfl, st⟩ := hrel
    by_cases hlt : k < 40
    · have hki : (k : Int) < 40 := by omega
      have HI := run_index_ints (P := Try.prog) wr Try.underlying105 Try.underlying2 (fun w => Try.sizeOf2 w) hlt (ptC_get (F := G) hlt)
      have c0 := (st.box 0 (w.heap.size, elL m (plT F G c k)) rfl).part hlt
      have cz := (st.box 0 (w.heap.size, elL m (plT F G c k)) rfl).2.2
      dsimp only at c0 cz
      have e0 : plT F G c k k = F k := by unfold plT; rw [if_neg (by omega)]
      rw [e0] at c0
      clear e0
      have hFk := hF k hlt
      have hGk := hG k hlt
      have hck := hcG k hlt
      unfold inR at hGk
      go_wp2
      go_roundw
      case rel =>
        refine ⟨k + 1, by omega, by go_num, ?_⟩
        have q := st.partR (x := F k + c * G k) hlt (Nat.le_refl _) (by have := sz.out; intro q hq; simp only [List.mem_cons, List.not_mem_nil, or_false] at hq; rcases hq with rfl; dsimp only; omega) (by intro s hs; cases hs)
        exact q.elCongr (fun j hj => by
          unfold plT
          by_cases e : j = k
          · subst e; rw [if_pos rfl, if_pos (by omega)]
          · rw [if_neg e]; by_cases e2 : j < k
            · rw [if_pos e2, if_pos (by omega)]
            · rw [if_neg e2, if_neg (by omega)])
      case measure => simp [intOf] <;> omega
    · obtain rfl : k = 40 := by omega
      have e40 : elL m (plT F G c 40) = elL m (fun j => F j + c * G j) := elL_congr (fun j hj => by unfold plT; rw [if_pos hj])
      rw [e40] at st
      have B0 := st.box 0 (w.heap.size, elL m (fun j => F j + c * G j)) rfl
      have B1 := st.box 1 (w2.heap.size, elL 0 (fun _ => 0)) rfl
      dsimp only at B0 B1
      go_wp2_with (refine wpList_loadE rfl _ rfl w.heap.size rfl B0 ?_; refine wpList_storeE rfl _ _ rfl w2.heap.size rfl rfl B1 elL_len ?_; intro w4 x4 f4)
      refine bodyPost_ret (v := .agg (elC m (fun j => F j + c * G j))) (resE (b := w2.heap.size) rfl rfl x4) rfl ⟨rfl, ?_⟩
      exact st.1.trans (f4.below (by have := sz.out; omega) st.1.size)

theorem scaled_any (m : Int) (F : Nat → Int) (c : Int) (w : World) (hF : ∀ j, j < 40 → inR (F j)) (hcF : ∀ j, j < 40 → -1000000000000000000 ≤ c * F j ∧ c * F j ≤ 1000000000000000000) :
    Calls Try.prog 121 #[.agg (elC m F), .int .i64 c] w fun e w' => e = .returned (.agg (elC m (fun j => c * F j))) ∧ Below w.heap.size w w' := by
  have HP := Lib.hid (fun w' => plus_any m m (fun _ => 0) F c w' (fun j hj => by omega) hF hcF)
  have eP : elC m (fun j => 0 + c * F j) = elC m (fun j => c * F j) := elC_congr (fun j hj => by omega)
  rw [eP] at HP
  clear eP
  go_enter Try.func121, Try.ntmps121
  go_wp2_with (first
    | (refine wpList_boxE rfl (.tmp 0) rfl (m := m) (F := F) rfl ?_; intro w1 x1 b1 z1
       have st := ((St.start w).keep b1).addBox _ _ x1
       have Z1 := Lib.hid z1
       clear x1 b1 z1)
    | (refine wpList_allocE rfl rfl ?_; intro w3 x3 b3 z3
       replace st := (st.keep b3).addBox _ _ x3
       have B0 := st.box 0 (w1.heap.size, elL 0 (fun _ => 0)) rfl
       have B1 := st.box 1 (w.heap.size, elL m F) rfl
       have c1 := B1.mod
       dsimp only at B0 B1 c1
       clear x3 b3 z3)
    | (refine wpList_buildE rfl _ rfl (m := m) rfl ?_)
    | (refine wpList_loadE rfl _ rfl w.heap.size rfl B1 ?_)
    | (go_at_call 108; refine (HP.out _).mono ?_; rintro e w4 ⟨rfl, b4⟩
       replace st := st.keep b4
       clear b4 B0 B1 c1
       have B2 := st.box 0 (w1.heap.size, elL 0 (fun _ => 0)) rfl
       dsimp only at B2)
    | (refine wpList_storeE rfl _ _ rfl w1.heap.size rfl rfl B2 elL_len ?_; intro w5 x5 f5))
  refine bodyPost_ret (v := .agg (elC m (fun j => c * F j))) (resE (b := w1.heap.size) rfl rfl x5) rfl ⟨rfl, ?_⟩
  exact st.1.trans (f5.below (by have := Z1.out; omega) st.1.size)
end Go.Proofs.Ytnhpodlcgkgpbaa
