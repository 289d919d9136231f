/- Elements of group rings: moved, turned of the program; Stickelberger elements. -/
import Derived.Test.YtnhpodlcgkgpbaaRgD
import Derived.Test.YtnhpodlcgkgpbaaRgA
namespace Go.Proofs.Ytnhpodlcgkgpbaa
open Go.RowKit Go.ChangeShapes Go.Sort
set_option linter.unusedVariables false
set_option linter.unusedSimpArgs false
set_option maxRecDepth 100000
set_option maxHeartbeats 2000000

theorem moved_any (n c : Nat) (f : Nat → Int) (h2 : 2 ≤ n) (h40 : n ≤ 40) (hc : c < phiN n) (w : World) :
    Calls Try.prog 122 #[.agg (elC n (opR n f (phiN n))), .int .i64 (res n c : Int)] w fun e w' => e = .returned (.agg (elC n (opR n (fun j => f (kxR n c j)) (phiN n)))) ∧ Below w.heap.size w w' := by
  have hp := phi_le40 n (by omega)
  have HALL := Lib.hid (mvR_all (n := n) (by omega) h2 (f := f) hc)
  have HAT := Lib.hid (fun k (hk : k < phiN n) => opR_at (n := n) (by omega) h2 (f := f) (L := phiN n) (Nat.le_refl _) hk)
  have hcr := res_lt40 (n := n) (by omega) h2 hc
  have HC := Lib.hid hc
  clear hc
  obtain ⟨F, hF⟩ : ∃ F, opR n f (phiN n) = F := ⟨_, rfl⟩
  rw [hF] at HAT ⊢
  clear hF
  obtain ⟨c', hc'⟩ : ∃ c', res n c = c' := ⟨_, rfl⟩
  rw [hc'] at hcr ⊢
  have HCC := Lib.hid hc'
  clear hc'
  obtain ⟨hc1, hc2, _⟩ := hcr
  go_enter Try.func122, Try.ntmps122
  go_wp2_with (first
    | (refine wpList_boxE rfl _ rfl (m := n) (F := F) rfl ?_; intro w1 x1 b1 z1
       have st := ((St.start w).keep b1).addBox _ _ x1
       have Z1 := Lib.hid z1
       have cx := (st.box 0 (w.heap.size, elL n F) rfl).mod
       dsimp only at cx
       clear x1 b1 z1)
    | ((fail_if_success (have _g := Z2)); refine wpList_allocE rfl rfl ?_; intro w2 x2 b2 z2
       replace st := (st.keep b2).addBox _ _ x2
       have Z2 := Lib.hid z2
       replace cx := (st.box 1 (w.heap.size, elL n F) rfl).mod
       dsimp only at cx
       clear x2 b2 z2)
    | (refine wpList_buildE rfl _ rfl (m := n) rfl ?_)
    | ((fail_if_success (have _g := Z3)); refine wpList_allocE rfl rfl ?_; intro w3 x3 b3 z3
       replace st := (st.keep b3).addBox _ _ x3
       have Z3 := Lib.hid z3
       have B3 := st.box 0 (w2.heap.size, elL 0 (fun _ => 0)) rfl
       dsimp only at B3
       clear x3 b3 z3)
    | (refine wpList_storeE rfl _ _ rfl w2.heap.size rfl (m := n) (F := (fun _ => 0)) rfl B3 elL_len ?_; intro w5 x5 f5
       have sz := Lib.hid (show w.heap.size < w1.heap.size ∧ w1.heap.size < w2.heap.size ∧ w2.heap.size < w5.heap.size from by have := Z1.out; have := Z2.out; have := Z3.out; have := f5.size; omega)
       replace st := st.headR x5 f5 (by have := sz.out; omega) (by have := sz.out; intro q hq; simp only [List.mem_cons, List.not_mem_nil, or_false] at hq; rcases hq with rfl | rfl <;> dsimp only <;> omega) (by intro s hs; cases hs)
       clear B3 x5 f5
       have cx := (st.box 2 (w.heap.size, elL n F) rfl).mod
       dsimp only at cx)
    | (go_at_call 118; refine (residuesOf40 n (by omega) h40 _).mono ?_; rintro e w6 ⟨gr, kr, rfl, s6, b6⟩
       have sz6 := Lib.hid (show w5.heap.size ≤ w6.heap.size from b6.size)
       replace st := (st.keep b6).addSl ⟨true, w5.heap.size, w6.heap.size, .slice (some ⟨gr, 0, none⟩) (phiN n) kr, phiN n, fun k => (res n k : Int)⟩ s6
       clear s6 b6))
  go_loopw [15] (fun s15 wr => ∃ k : Nat, k ≤ phiN n ∧ s15 = .int .i64 (k : Int) ∧ St w wr [(w2.heap.size, elL n (mvR n f c k)), (w1.heap.size, elL 0 (fun _ => 0)), (w.heap.size, elL n F)] [⟨true, w5.heap.size, w6.heap.size, .slice (some ⟨gr, 0, none⟩) (phiN n) kr, phiN n, fun k => (res n k : Int)⟩]) (fun s15 _ => phiN n - (intOf s15).toNat)
  case atStart => exact ⟨0, by omega, rfl, st⟩
  case round =>
    clear st cx
    obtain ⟨k, hk, rfl, st⟩ := hrel
    have cx := (st.box 2 (w.heap.size, elL n F) rfl).mod
    dsimp only at cx
    by_cases hlt : k < phiN n
    · have hki : (k : Int) < (phiN n : Int) := by omega
      have hrk := (st.sl 0 ⟨true, w5.heap.size, w6.heap.size, .slice (some ⟨gr, 0, none⟩) (phiN n) kr, phiN n, fun k => (res n k : Int)⟩ rfl).known (by show 0 < phiN n; omega)
      replace hrk := hrk.2.2.2.1 k hlt
      dsimp only at hrk
      rw [Nat.zero_add] at hrk
      have hra := res_lt40 (n := n) (by omega) h2 hlt
      have HATk := Lib.hid (HAT.out k hlt)
      have HQ := Lib.hid (show ∀ i, mvR n f c (k + 1) i = if i = res n k * res n c % n then f k else mvR n f c k i from fun i => rfl)
      rw [HCC.out] at HQ
      obtain ⟨a, ha⟩ : ∃ a, res n k = a := ⟨_, rfl⟩
      rw [ha] at hra hrk HQ HATk
      clear ha
      obtain ⟨ha1, ha2, _⟩ := hra
      have hm1 : a * c' ≤ 1600 := Nat.le_trans (Nat.mul_le_mul (show a ≤ 40 by omega) (show c' ≤ 40 by omega)) (by omega)
      have hm2 : ((a * c' : Nat) : Int) = (a : Int) * c' := Int.natCast_mul _ _
      obtain ⟨q, hq⟩ : ∃ q, a * c' % n = q := ⟨_, rfl⟩
      have hq40 : q < n := by rw [← hq]; exact Nat.mod_lt _ (by omega)
      rw [hq] at HQ
      have hb0 : 0 ≤ (a : Int) * c' := by omega
      have hb1 : (a : Int) * c' ≤ 1600 := by omega
      have hm3 : (a : Int) * c' % (n : Int) = (q : Int) := by rw [← hm2, ← hq, Int.natCast_emod]
      clear hm2 hq hm1
      have c0 := (st.box 2 (w.heap.size, elL n F) rfl).part (j := a) (by omega)
      have c1 := (st.box 0 (w2.heap.size, elL n (mvR n f c k)) rfl).part (j := q) (by omega)
      have cz := (st.box 0 (w2.heap.size, elL n (mvR n f c k)) rfl).2.2
      dsimp only at c0 c1 cz
      rw [HATk.out] at c0
      go_wp2
      go_region
      go_wp2
      go_roundw
      case rel =>
        refine ⟨k + 1, by omega, by go_num, ?_⟩
        have qq := st.partR (x := f k) (j := q) (by omega) (by have := sz.out; omega) (by have := sz.out; intro q hq; simp only [List.mem_cons, List.not_mem_nil, or_false] at hq; rcases hq with rfl | rfl <;> dsimp only <;> omega) (by have := sz.out; intro q hq; simp only [List.mem_cons, List.not_mem_nil, or_false] at hq; rcases hq with rfl <;> dsimp only <;> omega)
        replace qq := qq.drew
        have e : elL (n : Int) (fun i => if i = q then f k else mvR n f c k i) = elL n (mvR n f c (k + 1)) := elL_congr (fun j hj => (HQ.out j).symm)
        rw [e] at qq
        exact qq
      case measure => simp [intOf] <;> omega
    · obtain rfl : k = phiN n := by omega
      rw [HALL.out] at st
      have B0 := st.box 0 (w2.heap.size, elL n (opR n (fun j => f (kxR n c j)) (phiN n))) rfl
      have B1 := st.box 1 (w1.heap.size, elL 0 (fun _ => 0)) rfl
      dsimp only at B0 B1
      go_wp2_with (refine wpList_loadE rfl _ rfl w2.heap.size rfl B0 ?_; refine wpList_storeE rfl _ _ rfl w1.heap.size rfl rfl B1 elL_len ?_; intro w7 x7 f7)
      refine bodyPost_ret (v := .agg (elC n (opR n (fun j => f (kxR n c j)) (phiN n)))) (resE (b := w1.heap.size) rfl rfl x7) rfl ⟨rfl, ?_⟩
      exact st.1.trans (f7.below (by have := sz.out; omega) st.1.size)

theorem turned_any (n : Nat) (f : Nat → Int) (h2 : 2 ≤ n) (h40 : n ≤ 40) (w : World) :
    Calls Try.prog 111 #[.agg (elC n (opR n f (phiN n)))] w fun e w' => e = .returned (.agg (elC n (opR n (fun j => f (ivR n j)) (phiN n)))) ∧ Below w.heap.size w w' := by
  have hp := phi_le40 n (by omega)
  have HAT := Lib.hid (fun k (hk : k < phiN n) => opR_at (n := n) (by omega) h2 (f := f) (L := phiN n) (Nat.le_refl _) hk)
  obtain ⟨F, hF⟩ : ∃ F, opR n f (phiN n) = F := ⟨_, rfl⟩
  rw [hF] at HAT ⊢
  clear hF
  go_enter Try.func111, Try.ntmps111
  go_wp2_with (first
    | (refine wpList_boxE rfl _ rfl (m := n) (F := F) rfl ?_; intro w1 x1 b1 z1
       have st := ((St.start w).keep b1).addBox _ _ x1
       have Z1 := Lib.hid z1
       have cx := (st.box 0 (w.heap.size, elL n F) rfl).mod
       dsimp only at cx
       clear x1 b1 z1)
    | ((fail_if_success (have _g := Z2)); refine wpList_allocE rfl rfl ?_; intro w2 x2 b2 z2
       replace st := (st.keep b2).addBox _ _ x2
       have Z2 := Lib.hid z2
       replace cx := (st.box 1 (w.heap.size, elL n F) rfl).mod
       dsimp only at cx
       clear x2 b2 z2)
    | (refine wpList_buildE rfl _ rfl (m := n) rfl ?_)
    | ((fail_if_success (have _g := Z3)); refine wpList_allocE rfl rfl ?_; intro w3 x3 b3 z3
       replace st := (st.keep b3).addBox _ _ x3
       have Z3 := Lib.hid z3
       have B3 := st.box 0 (w2.heap.size, elL 0 (fun _ => 0)) rfl
       dsimp only at B3
       clear x3 b3 z3)
    | (refine wpList_storeE rfl _ _ rfl w2.heap.size rfl (m := n) (F := (fun _ => 0)) rfl B3 elL_len ?_; intro w5 x5 f5
       have sz := Lib.hid (show w.heap.size < w1.heap.size ∧ w1.heap.size < w2.heap.size ∧ w2.heap.size < w5.heap.size from by have := Z1.out; have := Z2.out; have := Z3.out; have := f5.size; omega)
       replace st := st.headR x5 f5 (by have := sz.out; omega) (by have := sz.out; intro q hq; simp only [List.mem_cons, List.not_mem_nil, or_false] at hq; rcases hq with rfl | rfl <;> dsimp only <;> omega) (by intro s hs; cases hs)
       clear B3 x5 f5
       have cx := (st.box 2 (w.heap.size, elL n F) rfl).mod
       dsimp only at cx)
    | (go_at_call 118; refine (residuesOf40 n (by omega) h40 _).mono ?_; rintro e w6 ⟨gr, kr, rfl, s6, b6⟩
       have sz6 := Lib.hid (show w5.heap.size ≤ w6.heap.size from b6.size)
       replace st := (st.keep b6).addSl ⟨true, w5.heap.size, w6.heap.size, .slice (some ⟨gr, 0, none⟩) (phiN n) kr, phiN n, fun k => (res n k : Int)⟩ s6
       clear s6 b6))
  go_loopw [13] (fun s15 wr => ∃ k : Nat, k ≤ phiN n ∧ s15 = .int .i64 (k : Int) ∧ St w wr [(w2.heap.size, elL n (opR n (fun j => f (ivR n j)) k)), (w1.heap.size, elL 0 (fun _ => 0)), (w.heap.size, elL n F)] [⟨true, w5.heap.size, w6.heap.size, .slice (some ⟨gr, 0, none⟩) (phiN n) kr, phiN n, fun k => (res n k : Int)⟩]) (fun s15 _ => phiN n - (intOf s15).toNat)
  case atStart => exact ⟨0, by omega, rfl, st⟩
  case round =>
    clear st cx
    obtain ⟨k, hk, rfl, st⟩ := hrel
    have cx := (st.box 2 (w.heap.size, elL n F) rfl).mod
    dsimp only at cx
    by_cases hlt : k < phiN n
    · have hki : (k : Int) < (phiN n : Int) := by omega
      have hrk := (st.sl 0 ⟨true, w5.heap.size, w6.heap.size, .slice (some ⟨gr, 0, none⟩) (phiN n) kr, phiN n, fun k => (res n k : Int)⟩ rfl).known (by show 0 < phiN n; omega)
      replace hrk := hrk.2.2.2.1 k hlt
      dsimp only at hrk
      rw [Nat.zero_add] at hrk
      have hra := res_lt40 (n := n) (by omega) h2 hlt
      have hv := iv_ok (n := n) (by omega) h2 hlt
      have HATk := Lib.hid (HAT.out _ hv.1)
      have HINV := Lib.hid (fun w' => inverseResidue_any n k h2 h40 hlt w')
      rw [← hv.2] at HINV
      have hvb := (res_lt40 (n := n) (by omega) h2 hv.1).2.1
      have HQ := Lib.hid (show ∀ i, opR n (fun j => f (ivR n j)) (k + 1) i = if i = res n k then f (ivR n k) else opR n (fun j => f (ivR n j)) k i from fun i => rfl)
      clear hv
      obtain ⟨v, hv⟩ : ∃ v, res n (ivR n k) = v := ⟨_, rfl⟩
      rw [hv] at hvb HATk HINV
      clear hv
      obtain ⟨a, ha⟩ : ∃ a, res n k = a := ⟨_, rfl⟩
      rw [ha] at hra hrk HQ HINV
      clear ha
      obtain ⟨ha1, ha2, _⟩ := hra
      have c0 := (st.box 2 (w.heap.size, elL n F) rfl).part (j := v) (by omega)
      have c1 := (st.box 0 (w2.heap.size, elL n (opR n (fun j => f (ivR n j)) k)) rfl).part (j := a) (by omega)
      have cz := (st.box 0 (w2.heap.size, elL n (opR n (fun j => f (ivR n j)) k)) rfl).2.2
      dsimp only at c0 c1 cz
      rw [HATk.out] at c0
      go_wp2_with (go_at_call 172; refine (HINV.out _).mono ?_; rintro e w' ⟨rfl, m', rfl⟩)
      go_roundw
      case rel =>
        refine ⟨k + 1, by omega, by go_num, ?_⟩
        have qq := (st.drewN m').partR (x := f (ivR n k)) (j := a) (by omega) (by have := sz.out; omega) (by have := sz.out; intro q hq; simp only [List.mem_cons, List.not_mem_nil, or_false] at hq; rcases hq with rfl | rfl <;> dsimp only <;> omega) (by have := sz.out; intro q hq; simp only [List.mem_cons, List.not_mem_nil, or_false] at hq; rcases hq with rfl <;> dsimp only <;> omega)
        have e : elL (n : Int) (fun i => if i = a then f (ivR n k) else opR n (fun j => f (ivR n j)) k i) = elL n (opR n (fun j => f (ivR n j)) (k + 1)) := elL_congr (fun j hj => (HQ.out j).symm)
        rw [e] at qq
        exact qq
      case measure => simp [intOf] <;> omega
    · obtain rfl : k = phiN n := by omega
      have B0 := st.box 0 (w2.heap.size, elL n (opR n (fun j => f (ivR n j)) (phiN n))) rfl
      have B1 := st.box 1 (w1.heap.size, elL 0 (fun _ => 0)) rfl
      dsimp only at B0 B1
      go_wp2_with (refine wpList_loadE rfl _ rfl w2.heap.size rfl B0 ?_; refine wpList_storeE rfl _ _ rfl w1.heap.size rfl rfl B1 elL_len ?_; intro w7 x7 f7)
      refine bodyPost_ret (v := .agg (elC n (opR n (fun j => f (ivR n j)) (phiN n)))) (resE (b := w1.heap.size) rfl rfl x7) rfl ⟨rfl, ?_⟩
      exact st.1.trans (f7.below (by have := sz.out; omega) st.1.size)

theorem stick_any (n : Nat) (h2 : 2 ≤ n) (h40 : n ≤ 40) (w : World) :
    Calls Try.prog 123 #[.int .i64 (n : Int)] w fun e w' => e = .returned (.agg (elC n (opR n (fun j => (res n (ivR n j) : Int)) (phiN n)))) ∧ Below w.heap.size w w' := by
  have hp := phi_le40 n (by omega)
  go_enter Try.func123, Try.ntmps123
  go_wp2_with (first
    | ((fail_if_success (have _g := Z2)); refine wpList_allocE rfl rfl ?_; intro w2 x2 b2 z2
       have st := ((St.start w).keep b2).addBox _ _ x2
       have Z2 := Lib.hid z2
       clear x2 b2 z2)
    | (refine wpList_buildE rfl _ rfl (m := n) rfl ?_)
    | ((fail_if_success (have _g := Z3)); refine wpList_allocE rfl rfl ?_; intro w3 x3 b3 z3
       replace st := (st.keep b3).addBox _ _ x3
       have Z3 := Lib.hid z3
       have B3 := st.box 0 (w2.heap.size, elL 0 (fun _ => 0)) rfl
       dsimp only at B3
       clear x3 b3 z3)
    | (refine wpList_storeE rfl _ _ rfl w2.heap.size rfl (m := n) (F := (fun _ => 0)) rfl B3 elL_len ?_; intro w5 x5 f5
       have sz := Lib.hid (show w.heap.size < w2.heap.size ∧ w2.heap.size < w5.heap.size from by have := Z2.out; have := Z3.out; have := f5.size; omega)
       replace st := st.headR x5 f5 (by have := sz.out; omega) (by have := sz.out; intro q hq; simp only [List.mem_cons, List.not_mem_nil, or_false] at hq; rcases hq with rfl <;> dsimp only <;> omega) (by intro s hs; cases hs)
       clear B3 x5 f5)
    | (go_at_call 118; refine (residuesOf40 n (by omega) h40 _).mono ?_; rintro e w6 ⟨gr, kr, rfl, s6, b6⟩
       have sz6 := Lib.hid (show w5.heap.size ≤ w6.heap.size from b6.size)
       replace st := (st.keep b6).addSl ⟨true, w5.heap.size, w6.heap.size, .slice (some ⟨gr, 0, none⟩) (phiN n) kr, phiN n, fun k => (res n k : Int)⟩ s6
       clear s6 b6))
  go_loopw [11] (fun s15 wr => ∃ k : Nat, k ≤ phiN n ∧ s15 = .int .i64 (k : Int) ∧ St w wr [(w2.heap.size, elL n (opR n (fun j => (res n j : Int)) k)), (w.heap.size, elL 0 (fun _ => 0))] [⟨true, w5.heap.size, w6.heap.size, .slice (some ⟨gr, 0, none⟩) (phiN n) kr, phiN n, fun k => (res n k : Int)⟩]) (fun s15 _ => phiN n - (intOf s15).toNat)
  case atStart => exact ⟨0, by omega, rfl, st⟩
  case round =>
    clear st
    obtain ⟨k, hk, rfl, st⟩ := hrel
    by_cases hlt : k < phiN n
    · have hki : (k : Int) < (phiN n : Int) := by omega
      have hrk := (st.sl 0 ⟨true, w5.heap.size, w6.heap.size, .slice (some ⟨gr, 0, none⟩) (phiN n) kr, phiN n, fun k => (res n k : Int)⟩ rfl).known (by show 0 < phiN n; omega)
      replace hrk := hrk.2.2.2.1 k hlt
      dsimp only at hrk
      rw [Nat.zero_add] at hrk
      have hra := res_lt40 (n := n) (by omega) h2 hlt
      have HQ := Lib.hid (show ∀ i, opR n (fun j => (res n j : Int)) (k + 1) i = if i = res n k then (res n k : Int) else opR n (fun j => (res n j : Int)) k i from fun i => rfl)
      obtain ⟨a, ha⟩ : ∃ a, res n k = a := ⟨_, rfl⟩
      rw [ha] at hra hrk HQ
      clear ha
      obtain ⟨ha1, ha2, _⟩ := hra
      have c1 := (st.box 0 (w2.heap.size, elL n (opR n (fun j => (res n j : Int)) k)) rfl).part (j := a) (by omega)
      have cz := (st.box 0 (w2.heap.size, elL n (opR n (fun j => (res n j : Int)) k)) rfl).2.2
      dsimp only at c1 cz
      go_wp2
      go_roundw
      case rel =>
        refine ⟨k + 1, by omega, by go_num, ?_⟩
        have qq := st.partR (x := (a : Int)) (j := a) (by omega) (by have := sz.out; omega) (by have := sz.out; intro q hq; simp only [List.mem_cons, List.not_mem_nil, or_false] at hq; rcases hq with rfl <;> dsimp only <;> omega) (by have := sz.out; intro q hq; simp only [List.mem_cons, List.not_mem_nil, or_false] at hq; rcases hq with rfl <;> dsimp only <;> omega)
        have e : elL (n : Int) (fun i => if i = a then (a : Int) else opR n (fun j => (res n j : Int)) k i) = elL n (opR n (fun j => (res n j : Int)) (k + 1)) := elL_congr (fun j hj => (HQ.out j).symm)
        rw [e] at qq
        exact qq
      case measure => simp [intOf] <;> omega
    · obtain rfl : k = phiN n := by omega
      have B0 := st.box 0 (w2.heap.size, elL n (opR n (fun j => (res n j : Int)) (phiN n))) rfl
      dsimp only at B0
      have HT := Lib.hid (fun w' => turned_any n (fun j => (res n j : Int)) h2 h40 w')
      go_wp2_with (first
        | (refine wpList_loadE rfl _ rfl w2.heap.size rfl B0 ?_)
        | (go_at_call 111; refine (HT.out _).mono ?_; rintro e w8 ⟨rfl, b8⟩
           replace st := st.keep b8
           have B1 := st.box 1 (w.heap.size, elL 0 (fun _ => 0)) rfl
           dsimp only at B1)
        | (refine wpList_storeE rfl _ _ rfl w.heap.size rfl rfl B1 elL_len ?_; intro w7 x7 f7))
      refine bodyPost_ret (v := .agg (elC n (opR n (fun j => (res n (ivR n j) : Int)) (phiN n)))) (resE (b := w.heap.size) rfl rfl x7) rfl ⟨rfl, ?_⟩
      exact st.1.trans (f7.below (Nat.le_refl _) st.1.size)
end Go.Proofs.Ytnhpodlcgkgpbaa
