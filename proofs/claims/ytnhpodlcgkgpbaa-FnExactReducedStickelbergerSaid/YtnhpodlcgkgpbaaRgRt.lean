/- ReducedStickelberger of the model. -/
import Derived.Test.YtnhpodlcgkgpbaaRgV
namespace Go.Proofs.Ytnhpodlcgkgpbaa
open Go.RowKit Go.ChangeShapes Go.Sort
set_option linter.unusedVariables false
set_option linter.unusedSimpArgs false
set_option maxRecDepth 100000
set_option maxHeartbeats 2000000
theorem ReducedStickelberger_spec_no (x c : Int) (h : ¬ (2 ≤ x ∧ x ≤ 40 ∧ 1 ≤ c ∧ c ≤ x ∧ gcdI c x = 1)) (w : World) :
    Calls Try.prog 47 #[.int .i64 x, .int .i64 c] w fun e w' => ∃ a' k', e = .returned (.tuple #[.agg #[.int .i64 0, .slice a' 0 k'], .int .i64 2]) ∧ Sl true w' w.heap.size w'.heap.size (.slice a' 0 k') 0 (fun _ => 0) ∧ Below w.heap.size w w' := by
  by_cases hx : 2 ≤ x ∧ x ≤ 40
  · obtain ⟨hx2, hx40⟩ := hx
    by_cases hc : 1 ≤ c ∧ c ≤ x
    · obtain ⟨hc1, hc2⟩ := hc
      have hg : ¬ gcdI c x = 1 := fun e => h ⟨hx2, hx40, hc1, hc2, e⟩
      have hgb : (gcdI c x != 1) = true := by rw [bne_iff_ne]; exact hg
      clear h hg
      go_enter Try.func47, Try.ntmps47
      go_wp2_with (first
        | ((fail_if_success (have _g := Z2)); refine wpList_allocR rfl rfl ?_; intro w2 x2 b2 z2
           have st := ((St.start w).keep b2).addBox _ _ x2
           have Z2 := Lib.hid z2
           have BR := st.box 0 (w.heap.size, [.int .i64 0, .slice none 0 0]) rfl
           dsimp only at BR
           clear x2 b2 z2)
        | (go_at_call 101; refine (l01In_yes _ _ _ _ (by omega) (by omega)).mono ?_; rintro e w' ⟨rfl, rfl⟩)
        | (go_at_call 124; refine (l01Gcd_any _ _ _ (by omega) (by omega) (by omega) (by omega)).mono ?_; rintro e w' ⟨rfl, rfl⟩)
        | (refine wpList_storeR rfl _ _ rfl w.heap.size rfl (v0 := .int .i64 0) (v1 := .slice none 0 0) rfl rfl rfl BR ?_; intro w9 x9 f9
           obtain ⟨d0, d1⟩ := x9.cell2))
      refine bodyPost_ret (v := .tuple #[.agg #[.int .i64 0, .slice none 0 0], .int .i64 2]) (by simp [results, Try.results47, go_sem, d0, d1]) rfl ⟨none, 0, rfl, Sl.nil _ _ _ (Nat.le_refl _) _, ?_⟩
      exact st.1.trans (f9.below (Nat.le_refl _) st.1.size)
    · have H := Lib.hid (show c < 1 ∨ x < c by omega)
      clear h hc
      go_enter Try.func47, Try.ntmps47
      go_wp2_with (first
        | ((fail_if_success (have _g := Z2)); refine wpList_allocR rfl rfl ?_; intro w2 x2 b2 z2
           have st := ((St.start w).keep b2).addBox _ _ x2
           have Z2 := Lib.hid z2
           have BR := st.box 0 (w.heap.size, [.int .i64 0, .slice none 0 0]) rfl
           dsimp only at BR
           clear x2 b2 z2)
        | ((fail_if_success (have _g := Y1)); go_at_call 101; refine (l01In_yes _ _ _ _ (by omega) (by omega)).mono ?_; rintro e w' ⟨rfl, rfl⟩; have Y1 := Lib.hid (show True from trivial))
        | ((have _g := Y1); go_at_call 101; refine (l01In_no c 1 x _ H.out).mono ?_; rintro e w' ⟨rfl, rfl⟩)
        | (refine wpList_storeR rfl _ _ rfl w.heap.size rfl (v0 := .int .i64 0) (v1 := .slice none 0 0) rfl rfl rfl BR ?_; intro w9 x9 f9
           obtain ⟨d0, d1⟩ := x9.cell2))
      refine bodyPost_ret (v := .tuple #[.agg #[.int .i64 0, .slice none 0 0], .int .i64 2]) (by simp [results, Try.results47, go_sem, d0, d1]) rfl ⟨none, 0, rfl, Sl.nil _ _ _ (Nat.le_refl _) _, ?_⟩
      exact st.1.trans (f9.below (Nat.le_refl _) st.1.size)
  · have H := Lib.hid (show x < 2 ∨ 40 < x by omega)
    clear h hx
    go_enter Try.func47, Try.ntmps47
    go_wp2_with (first
      | ((fail_if_success (have _g := Z2)); refine wpList_allocR rfl rfl ?_; intro w2 x2 b2 z2
         have st := ((St.start w).keep b2).addBox _ _ x2
         have Z2 := Lib.hid z2
         have BR := st.box 0 (w.heap.size, [.int .i64 0, .slice none 0 0]) rfl
         dsimp only at BR
         clear x2 b2 z2)
      | (go_at_call 101; refine (l01In_no _ _ _ _ H.out).mono ?_; rintro e w' ⟨rfl, rfl⟩)
      | (refine wpList_storeR rfl _ _ rfl w.heap.size rfl (v0 := .int .i64 0) (v1 := .slice none 0 0) rfl rfl rfl BR ?_; intro w9 x9 f9
         obtain ⟨d0, d1⟩ := x9.cell2))
    refine bodyPost_ret (v := .tuple #[.agg #[.int .i64 0, .slice none 0 0], .int .i64 2]) (by simp [results, Try.results47, go_sem, d0, d1]) rfl ⟨none, 0, rfl, Sl.nil _ _ _ (Nat.le_refl _) _, ?_⟩
    exact st.1.trans (f9.below (Nat.le_refl _) st.1.size)
theorem ReducedStickelberger_spec_ok (N : Nat) (C : Int) (h2 : 2 ≤ N) (h40 : N ≤ 40) (hC1 : 1 ≤ C) (hC2 : C ≤ (N : Int)) (hCg : gcdI C (N : Int) = 1) (w : World) :
    Calls Try.prog 47 #[.int .i64 (N : Int), .int .i64 C] w fun e w' => ∃ a' k', e = .returned (.tuple #[.agg #[.int .i64 (N : Int), .slice a' (phiN N) k'], .int .i64 0]) ∧ Sl true w' w.heap.size w'.heap.size (.slice a' (phiN N) k') (phiN N) (fun j => C * (res N (ivR N j) : Int) / (N : Int)) ∧ Below w.heap.size w w' := by
  have hp := phi_le40 N (by omega)
  have hgb : (gcdI C (N : Int) != 1) = false := by rw [hCg]; rfl
  clear hCg
  go_enter Try.func47, Try.ntmps47
  go_wp2_with (first
    | ((fail_if_success (have _g := Z2)); refine wpList_allocR rfl rfl ?_; intro w2 x2 b2 z2
       have st := ((St.start w).keep b2).addBox _ _ x2
       have Z2 := Lib.hid z2
       have BR := st.box 0 (w.heap.size, [.int .i64 0, .slice none 0 0]) rfl
       dsimp only at BR
       clear x2 b2 z2)
    | (go_at_call 101; refine (l01In_yes _ _ _ _ (by omega) (by omega)).mono ?_; rintro e w' ⟨rfl, rfl⟩)
    | (go_at_call 124; refine (l01Gcd_any _ _ _ (by omega) (by omega) (by omega) (by omega)).mono ?_; rintro e w' ⟨rfl, rfl⟩)
    | (go_at_call 109; refine (l10Zero_let N (by omega) h40 _).mono ?_; rintro e w6 ⟨lo1, hi1, a1, k1, rfl, s6, hl6, hh6, b6⟩
       have Z6 := Lib.hid (show _ from b6.size)
       have Y6 := Lib.hid (show _ ∧ _ from ⟨hl6, hh6⟩)
       replace st := (st.keep b6).addSl ⟨true, lo1, hi1, .slice a1 (phiN N) k1, phiN N, fun _ => 0⟩ s6
       clear s6 b6 hl6 hh6)
    | (go_at_call 112; refine (l10Residues_let N (by omega) h40 _).mono ?_; rintro e w7 ⟨lo2, hi2, g2, k2, rfl, s7, hl7, hh7, b7⟩
       have Z7 := Lib.hid (show _ from b7.size)
       have Y7 := Lib.hid (show _ ∧ _ from ⟨hl7, hh7⟩)
       replace st := (st.keep b7).addSl ⟨true, lo2, hi2, .slice (some ⟨g2, 0, none⟩) (phiN N) k2, phiN N, fun k => (res N k : Int)⟩ s7
       clear s7 b7 hl7 hh7)
    | ((fail_if_success (have _g := Z8)); (have _g := Z7); refine wpList_allocR rfl rfl ?_; intro w8 x8 b8 z8
       have Z8 := Lib.hid z8
       replace st := (st.keep b8).addBox _ _ x8
       have B8 := st.box 0 (w7.heap.size, [.int .i64 0, .slice none 0 0]) rfl
       dsimp only at B8
       clear x8 b8 z8)
    | ((have _g := Z8); refine wpList_storeR rfl _ _ rfl w7.heap.size rfl (v0 := .int .i64 (N : Int)) (v1 := .slice a1 (phiN N) k1) rfl rfl rfl B8 ?_; intro w9 x9 f9
       have hap : Apart w.heap.size w7.heap.size lo1 hi1 lo2 hi2 := by
         have := Z2.out; have := Z6.out; have := Y6.out; have := Z7.out; have := Y7.out
         exact ⟨by omega, by omega, by omega, by omega, by omega, by omega⟩
       have ⟨p0, p1, p2, p3, p4, p5⟩ := hap
       replace st := st.headR x9 f9 (by omega) (by intro q hq; simp only [List.mem_cons, List.not_mem_nil, or_false] at hq; rcases hq with rfl <;> dsimp only <;> omega) (by intro q hq; simp only [List.mem_cons, List.not_mem_nil, or_false] at hq; rcases hq with rfl | rfl <;> dsimp only <;> omega)
       clear x9 f9 B8 p0 p1 p2 p3 p4 p5))
  have hp0 := phi_pos40 N (by omega) (by omega)
  obtain ⟨nb, hnb⟩ : ∃ nb, w7.heap.size = nb := ⟨_, rfl⟩
  rw [hnb] at st hap
  rw [hnb]
  have Z2n := Lib.hid (show w.heap.size < nb from hap.p0)
  clear hnb Z6 Y6 Z7 Y7 Z8
  have q1 := st.sl 1 ⟨true, lo1, hi1, .slice a1 (phiN N) k1, phiN N, fun _ => 0⟩ rfl
  dsimp only at q1
  obtain ⟨g1, o1, c1', hv1, hg1, hg1', _⟩ := q1.at (by omega)
  obtain ⟨rfl, rfl⟩ : a1 = some ⟨g1, o1, none⟩ ∧ k1 = c1' := by cases hv1; exact ⟨rfl, rfl⟩
  clear hv1 q1
  replace st := st.subR (bs' := [(nb, [.int .i64 (N : Int), .slice (some ⟨g1, o1, none⟩) (phiN N) k1]), (w.heap.size, [.int .i64 0, .slice none 0 0])]) (ss' := [⟨true, lo1, hi1, .slice (some ⟨g1, o1, none⟩) (phiN N) k1, phiN N, fun _ => 0⟩, ⟨true, lo2, hi2, .slice (some ⟨g2, 0, none⟩) (phiN N) k2, phiN N, fun k => (res N k : Int)⟩]) (fun _ h => h) (by intro q hq; simp only [List.mem_cons, List.not_mem_nil, or_false] at hq ⊢; rcases hq with rfl | rfl <;> simp)
  have HAP := Lib.hid hap
  clear hap
  go_wp2_with fail
  go_loopw [8] (fun s6 wr => ∃ k : Nat, k ≤ phiN N ∧ s6 = .int .i64 (k : Int) ∧ St w wr [(nb, [.int .i64 (N : Int), .slice (some ⟨g1, o1, none⟩) (phiN N) k1]), (w.heap.size, [.int .i64 0, .slice none 0 0])] [⟨true, lo1, hi1, .slice (some ⟨g1, o1, none⟩) (phiN N) k1, phiN N, fun j => if ivR N j < k then C * (res N (ivR N j) : Int) / (N : Int) else 0⟩, ⟨true, lo2, hi2, .slice (some ⟨g2, 0, none⟩) (phiN N) k2, phiN N, fun k => (res N k : Int)⟩]) (fun s6 _ => phiN N - (intOf s6).toNat)
  case atStart =>
    refine ⟨0, by omega, rfl, ?_⟩
    refine (st.subR (bs' := [(nb, [.int .i64 (N : Int), .slice (some ⟨g1, o1, none⟩) (phiN N) k1]), (w.heap.size, [.int .i64 0, .slice none 0 0])]) (ss' := [⟨true, lo2, hi2, .slice (some ⟨g2, 0, none⟩) (phiN N) k2, phiN N, fun k => (res N k : Int)⟩]) (fun _ h => h) (fun _ h => List.mem_cons_of_mem _ h)).addSl ⟨true, lo1, hi1, .slice (some ⟨g1, o1, none⟩) (phiN N) k1, phiN N, fun j => if ivR N j < 0 then C * (res N (ivR N j) : Int) / (N : Int) else 0⟩ ((st.sl 0 ⟨true, lo1, hi1, .slice (some ⟨g1, o1, none⟩) (phiN N) k1, phiN N, fun _ => 0⟩ rfl).congr (fun j hj => by dsimp only; rw [if_neg (by omega)]))
  case round =>
    clear st
    obtain ⟨k, hk, rfl, st⟩ := hrel
    by_cases hlt : k < phiN N
    · have hki : (k : Int) < (phiN N : Int) := by omega
      have hi := iv_ok (n := N) (by omega) h2 hlt
      have HII := Lib.hid (iv_iv (n := N) (by omega) h2 hlt)
      have HINV := Lib.hid (show ∀ w' : World, Calls Try.prog 114 #[.int .i64 (N : Int), .int .i64 (res N k : Int)] w' fun e w'' => e = .returned (.int .i64 (invR N (res N k) : Int)) ∧ Below w'.heap.size w' w'' from fun w' => (l10Inverse_any N k h2 h40 hlt w').mono fun _ _ ⟨he, m, hw⟩ => ⟨he, hw ▸ below_drewN (Below.refl _ _) m⟩)
      rw [← hi.2] at HINV
      have HPL := Lib.hid (fun (w' : World) (hs : Sl true w' lo2 hi2 (.slice (some ⟨g2, 0, none⟩) (phiN N) k2) (phiN N) (fun k => (res N k : Int))) => l10Place_any N (ivR N k) h2 h40 hi.1 w' hs)
      have hiv := hi.1
      have HRL := Lib.hid (res_lt40 (n := N) (by omega) h2 hi.1).2.1
      have HRK := Lib.hid (res_lt40 (n := N) (by omega) h2 hlt).2.1
      have HIV := Lib.hid (fun j (hj : j < phiN N) => iv_iv (n := N) (by omega) h2 hj)
      have HIB := Lib.hid (fun j (hj : j < phiN N) => (iv_ok (n := N) (by omega) h2 hj).1)
      clear hi
      obtain ⟨p, hpv⟩ : ∃ p, ivR N k = p := ⟨_, rfl⟩
      rw [hpv] at HINV HPL hiv HRL HII
      have HPV := Lib.hid hpv
      clear hpv
      obtain ⟨r, hrv⟩ : ∃ r, res N k = r := ⟨_, rfl⟩
      rw [hrv] at HINV HRK
      have HRV := Lib.hid hrv
      clear hrv
      have hpi : (p : Int) < (phiN N : Int) := by omega
      have hNn : ¬ (N : Int) = 0 := by omega
      have hNm : ¬ N = 0 := by omega
      have hrk := HRK.out
      have hmr := mulR_bd (A := 40) (B := 40) (a := C) (b := (r : Int)) (by omega) (by omega) (by omega) (by omega) (by omega) (by omega)
      have hm0 : 0 ≤ C * (r : Int) := Int.mul_nonneg (by omega) (by omega)
      have hmw : IntKind.i64.wrap (C * (r : Int)) = C * (r : Int) := by rw [IntKind.wrap_i64]; omega
      obtain ⟨Qv, hq⟩ : ∃ Qv, C * (r : Int) / (N : Int) = Qv := ⟨_, rfl⟩
      have hqt : (C * (r : Int)).tdiv (N : Int) = Qv := by rw [Int.tdiv_eq_ediv_of_nonneg hm0]; exact hq
      have hqb : 0 ≤ Qv ∧ Qv ≤ 1600 := by
        have e1 := Int.ediv_nonneg (b := (N : Int)) hm0 (by omega)
        have e2 := Int.ediv_le_self (N : Int) hm0
        omega
      have hqw : IntKind.i64.wrap Qv = Qv := by rw [IntKind.wrap_i64]; omega
      have HQ := Lib.hid hq
      go_wp2_with fail
      replace st := st.drew
      refine wp_region_held_drew (S := fun wy => St w wy [(nb, [.int .i64 (N : Int), .slice (some ⟨g1, o1, none⟩) (phiN N) k1]), (w.heap.size, [.int .i64 0, .slice none 0 0])] [⟨true, lo2, hi2, .slice (some ⟨g2, 0, none⟩) (phiN N) k2, phiN N, fun k => (res N k : Int)⟩]) (by kernel_rfl) (st.subR (fun _ h => h) (fun _ h => List.mem_cons_of_mem _ h)) (fun hHeld => ?_)
      refine wpAnyH_take (i := 0) (v := .pointer (some ⟨nb, 1, none⟩)) rfl (by kernel_rfl) (by kernel_rfl) (by kernel_rfl) (fun _ _ _ h => h) (Or.inl ⟨by rfl, ?_⟩) hHeld ?_
      · intro wy hy; go_simp
      (try simp only [Act.put, List.getElem_toArray, List.getElem_cons_zero, List.getElem_cons_succ, List.setIfInBounds_toArray, List.set_cons_zero, List.set_cons_succ])
      refine wpAnyH_take (i := 1) (v := .slice (some ⟨g1, o1, none⟩) (phiN N) k1) rfl (by kernel_rfl) (by kernel_rfl) (by kernel_rfl) (fun _ _ _ h => h) (Or.inl ⟨by rfl, ?_⟩) hHeld ?_
      · intro wy hy; obtain ⟨c0, c1⟩ := (hy.box 0 (nb, [.int .i64 (N : Int), .slice (some ⟨g1, o1, none⟩) (phiN N) k1]) rfl).cell2; go_simp
      (try simp only [Act.put, List.getElem_toArray, List.getElem_cons_zero, List.getElem_cons_succ, List.setIfInBounds_toArray, List.set_cons_zero, List.set_cons_succ])
      refine wpAnyH_take (i := 2) (v := .slice (some ⟨g2, 0, none⟩) (phiN N) k2) rfl (by kernel_rfl) (by kernel_rfl) (by kernel_rfl) (fun _ _ _ h => h) (Or.inl ⟨by rfl, ?_⟩) hHeld ?_
      · intro wy hy; go_simp
      (try simp only [Act.put, List.getElem_toArray, List.getElem_cons_zero, List.getElem_cons_succ, List.setIfInBounds_toArray, List.set_cons_zero, List.set_cons_succ])
      refine wpAnyH_take (i := 3) (v := .int .i64 (N : Int)) rfl (by kernel_rfl) (by kernel_rfl) (by kernel_rfl) (fun _ _ _ h => h) (Or.inl ⟨by rfl, ?_⟩) hHeld ?_
      · intro wy hy; go_simp
      (try simp only [Act.put, List.getElem_toArray, List.getElem_cons_zero, List.getElem_cons_succ, List.setIfInBounds_toArray, List.set_cons_zero, List.set_cons_succ])
      refine wpAnyH_take (i := 4) (v := .slice (some ⟨g2, 0, none⟩) (phiN N) k2) rfl (by kernel_rfl) (by kernel_rfl) (by kernel_rfl) (fun _ _ _ h => h) (Or.inl ⟨by rfl, ?_⟩) hHeld ?_
      · intro wy hy; go_simp
      (try simp only [Act.put, List.getElem_toArray, List.getElem_cons_zero, List.getElem_cons_succ, List.setIfInBounds_toArray, List.set_cons_zero, List.set_cons_succ])
      refine wpAnyH_take (i := 5) (v := .int .i64 (k : Int)) rfl (by kernel_rfl) (by kernel_rfl) (by kernel_rfl) (fun _ _ _ h => h) (Or.inl ⟨by rfl, ?_⟩) hHeld ?_
      · intro wy hy; go_simp
      (try simp only [Act.put, List.getElem_toArray, List.getElem_cons_zero, List.getElem_cons_succ, List.setIfInBounds_toArray, List.set_cons_zero, List.set_cons_succ])
      refine wpAnyH_take (i := 6) (v := .pointer (some ⟨g2, k, none⟩)) rfl (by kernel_rfl) (by kernel_rfl) (by kernel_rfl) (fun _ _ _ h => h) (Or.inl ⟨by rfl, ?_⟩) hHeld ?_
      · intro wy hy; go_simp
      (try simp only [Act.put, List.getElem_toArray, List.getElem_cons_zero, List.getElem_cons_succ, List.setIfInBounds_toArray, List.set_cons_zero, List.set_cons_succ])
      refine wpAnyH_take (i := 7) (v := .int .i64 (r : Int)) rfl (by kernel_rfl) (by kernel_rfl) (by kernel_rfl) (fun _ _ _ h => h) (Or.inl ⟨by rfl, ?_⟩) hHeld ?_
      · intro wy hy; have hc := (hy.sl 0 ⟨true, lo2, hi2, .slice (some ⟨g2, 0, none⟩) (phiN N) k2, phiN N, fun k => (res N k : Int)⟩ rfl).known (by show 0 < phiN N; omega); replace hc := hc.2.2.2.1 k hlt; (try dsimp only at hc); rw [Nat.zero_add, HRV.out] at hc; go_simp
      (try simp only [Act.put, List.getElem_toArray, List.getElem_cons_zero, List.getElem_cons_succ, List.setIfInBounds_toArray, List.set_cons_zero, List.set_cons_succ])
      refine wpAnyH_take (i := 10) (v := .int .i64 C) rfl (by kernel_rfl) (by kernel_rfl) (by kernel_rfl) (fun _ _ _ h => h) (Or.inl ⟨by rfl, ?_⟩) hHeld ?_
      · intro wy hy; go_simp
      (try simp only [Act.put, List.getElem_toArray, List.getElem_cons_zero, List.getElem_cons_succ, List.setIfInBounds_toArray, List.set_cons_zero, List.set_cons_succ])
      refine wpAnyH_take (i := 11) (v := .slice (some ⟨g2, 0, none⟩) (phiN N) k2) rfl (by kernel_rfl) (by kernel_rfl) (by kernel_rfl) (fun _ _ _ h => h) (Or.inl ⟨by rfl, ?_⟩) hHeld ?_
      · intro wy hy; go_simp
      (try simp only [Act.put, List.getElem_toArray, List.getElem_cons_zero, List.getElem_cons_succ, List.setIfInBounds_toArray, List.set_cons_zero, List.set_cons_succ])
      refine wpAnyH_take (i := 12) (v := .int .i64 (k : Int)) rfl (by kernel_rfl) (by kernel_rfl) (by kernel_rfl) (fun _ _ _ h => h) (Or.inl ⟨by rfl, ?_⟩) hHeld ?_
      · intro wy hy; go_simp
      (try simp only [Act.put, List.getElem_toArray, List.getElem_cons_zero, List.getElem_cons_succ, List.setIfInBounds_toArray, List.set_cons_zero, List.set_cons_succ])
      refine wpAnyH_take (i := 13) (v := .pointer (some ⟨g2, k, none⟩)) rfl (by kernel_rfl) (by kernel_rfl) (by kernel_rfl) (fun _ _ _ h => h) (Or.inl ⟨by rfl, ?_⟩) hHeld ?_
      · intro wy hy; go_simp
      (try simp only [Act.put, List.getElem_toArray, List.getElem_cons_zero, List.getElem_cons_succ, List.setIfInBounds_toArray, List.set_cons_zero, List.set_cons_succ])
      refine wpAnyH_take (i := 14) (v := .int .i64 (r : Int)) rfl (by kernel_rfl) (by kernel_rfl) (by kernel_rfl) (fun _ _ _ h => h) (Or.inl ⟨by rfl, ?_⟩) hHeld ?_
      · intro wy hy; have hc := (hy.sl 0 ⟨true, lo2, hi2, .slice (some ⟨g2, 0, none⟩) (phiN N) k2, phiN N, fun k => (res N k : Int)⟩ rfl).known (by show 0 < phiN N; omega); replace hc := hc.2.2.2.1 k hlt; (try dsimp only at hc); rw [Nat.zero_add, HRV.out] at hc; go_simp
      (try simp only [Act.put, List.getElem_toArray, List.getElem_cons_zero, List.getElem_cons_succ, List.setIfInBounds_toArray, List.set_cons_zero, List.set_cons_succ])
      refine wpAnyH_take (i := 15) (v := .int .i64 (C * (r : Int))) rfl (by kernel_rfl) (by kernel_rfl) (by kernel_rfl) (fun _ _ _ h => h) (Or.inl ⟨by rfl, ?_⟩) hHeld ?_
      · intro wy hy; go_simp
      (try simp only [Act.put, List.getElem_toArray, List.getElem_cons_zero, List.getElem_cons_succ, List.setIfInBounds_toArray, List.set_cons_zero, List.set_cons_succ])
      refine wpAnyH_take (i := 16) (v := .int .i64 (N : Int)) rfl (by kernel_rfl) (by kernel_rfl) (by kernel_rfl) (fun _ _ _ h => h) (Or.inl ⟨by rfl, ?_⟩) hHeld ?_
      · intro wy hy; go_simp
      (try simp only [Act.put, List.getElem_toArray, List.getElem_cons_zero, List.getElem_cons_succ, List.setIfInBounds_toArray, List.set_cons_zero, List.set_cons_succ])
      refine wpAnyH_take (i := 17) (v := .int .i64 Qv) rfl (by kernel_rfl) (by kernel_rfl) (by kernel_rfl) (fun _ _ _ h => h) (Or.inl ⟨by rfl, ?_⟩) hHeld ?_
      · intro wy hy; go_simp
      (try simp only [Act.put, List.getElem_toArray, List.getElem_cons_zero, List.getElem_cons_succ, List.setIfInBounds_toArray, List.set_cons_zero, List.set_cons_succ])
      refine wpAnyH_ready (rs := [8]) (by kernel_rfl) (by simp) ?_
      refine AllReadyH.cons rfl (fun K hK => ?_) AllReadyH.nil
      rw [if_pos (by rfl)]
      (try simp only [List.getElem_toArray, List.getElem_cons_zero, List.getElem_cons_succ])
      go_simp
      go_at_call 114
      refine (HINV.out _).mono ?_
      rintro e w6 ⟨rfl, b6⟩
      replace st := st.keep b6
      refine hK.out _ _ (hHeld.keep b6) (fun hHeld => ?_)
      clear b6
      clear hK K
      (try simp only [Act.put, List.getElem_toArray, List.getElem_cons_zero, List.getElem_cons_succ, List.setIfInBounds_toArray, List.set_cons_zero, List.set_cons_succ])
      refine wpAnyH_ready (rs := [9]) (by kernel_rfl) (by simp) ?_
      refine AllReadyH.cons rfl (fun K hK => ?_) AllReadyH.nil
      rw [if_pos (by rfl)]
      (try simp only [List.getElem_toArray, List.getElem_cons_zero, List.getElem_cons_succ])
      go_simp
      go_at_call 113
      refine (HPL.out _ (hHeld.sl 0 ⟨true, lo2, hi2, .slice (some ⟨g2, 0, none⟩) (phiN N) k2, phiN N, fun k => (res N k : Int)⟩ rfl)).mono ?_
      rintro e w7 ⟨rfl, rfl⟩
      refine hK.out _ _ hHeld (fun hHeld => ?_)
      clear hK K
      (try simp only [Act.put, List.getElem_toArray, List.getElem_cons_zero, List.getElem_cons_succ, List.setIfInBounds_toArray, List.set_cons_zero, List.set_cons_succ])
      refine wpAnyH_take (i := 18) (v := .pointer (some ⟨g1, o1 + p, none⟩)) rfl (by kernel_rfl) (by kernel_rfl) (by kernel_rfl) (fun _ _ _ h => h) (Or.inl ⟨by rfl, ?_⟩) hHeld ?_
      · intro wy hy; go_simp
      (try simp only [Act.put, List.getElem_toArray, List.getElem_cons_zero, List.getElem_cons_succ, List.setIfInBounds_toArray, List.set_cons_zero, List.set_cons_succ])
      refine wpAnyH_ready (rs := [19]) (by kernel_rfl) (by simp) ?_
      refine AllReadyH.cons rfl (fun K hK => ?_) AllReadyH.nil
      rw [if_pos (by rfl)]
      (try simp only [List.getElem_toArray, List.getElem_cons_zero, List.getElem_cons_succ])
      have hc := (st.sl 0 ⟨true, lo1, hi1, .slice (some ⟨g1, o1, none⟩) (phiN N) k1, phiN N, fun j => if ivR N j < k then C * (res N (ivR N j) : Int) / (N : Int) else 0⟩ rfl).known (by show 0 < phiN N; omega)
      have hfz := hc.2.2.2.2 rfl
      replace hc := hc.2.2.2.1 p (by omega)
      dsimp only at hc hfz
      go_simp
      refine hK.out _ _ ?_ (fun hHeld => ?_)
      · have ⟨p0, p1, p2, p3, p4, p5⟩ := HAP.out
        exact hHeld.write ((Frame.refl lo1 hi1 _).setCell (p := ⟨g1, o1 + p, none⟩) hg1 hg1' (.int .i64 (Qv))) (by omega) (by intro q hq; simp only [List.mem_cons, List.not_mem_nil, or_false] at hq; rcases hq with rfl | rfl <;> dsimp only <;> omega) (by intro q hq; simp only [List.mem_cons, List.not_mem_nil, or_false] at hq; rcases hq with rfl <;> dsimp only <;> omega)
      clear hK K
      (try simp only [Act.put, List.getElem_toArray, List.getElem_cons_zero, List.getElem_cons_succ, List.setIfInBounds_toArray, List.set_cons_zero, List.set_cons_succ])
      refine wpAnyH_done (by kernel_rfl) ?_ _
      go_wp2
      go_roundw
      case rel =>
        refine ⟨k + 1, by omega, by go_num, ?_⟩
        have q := st.sl 0 ⟨true, lo1, hi1, .slice (some ⟨g1, o1, none⟩) (phiN N) k1, phiN N, fun j => if ivR N j < k then C * (res N (ivR N j) : Int) / (N : Int) else 0⟩ rfl
        dsimp only at q
        have qs := q.store (i := p) (x := Qv) (by omega) (by have := hqb; unfold inR; omega)
        have hap := HAP.out
        have ⟨p0, p1, p2, p3, p4, p5⟩ := hap
        refine (((st.subR (bs' := [(nb, [.int .i64 (N : Int), .slice (some ⟨g1, o1, none⟩) (phiN N) k1]), (w.heap.size, [.int .i64 0, .slice none 0 0])]) (ss' := [⟨true, lo2, hi2, .slice (some ⟨g2, 0, none⟩) (phiN N) k2, phiN N, fun k => (res N k : Int)⟩]) (fun _ h => h) (fun _ h => List.mem_cons_of_mem _ h)).write ((Frame.refl lo1 hi1 _).setCell (p := ⟨g1, o1 + p, none⟩) hg1 hg1' (.int .i64 (Qv))) (by omega) (by intro q hq; simp only [List.mem_cons, List.not_mem_nil, or_false] at hq; rcases hq with rfl | rfl <;> dsimp only <;> omega) (by intro q hq; simp only [List.mem_cons, List.not_mem_nil, or_false] at hq; rcases hq with rfl <;> dsimp only <;> omega))).addSl ⟨true, lo1, hi1, .slice (some ⟨g1, o1, none⟩) (phiN N) k1, phiN N, fun j => if ivR N j < (k + 1) then C * (res N (ivR N j) : Int) / (N : Int) else 0⟩ (qs.congr (fun j hj => by
          dsimp only
          by_cases e : j = p
          · subst e; rw [if_pos rfl, HII.out, if_pos (by omega), HRV.out, HQ.out]
          · have e3 : ivR N j ≠ k := fun g => e (by rw [← HIV.out j hj, g, HPV.out])
            rw [if_neg e]; by_cases e2 : ivR N j < k
            · rw [if_pos e2, if_pos (by omega)]
            · rw [if_neg e2, if_neg (by omega)]))
      case measure => simp [intOf] <;> omega
    · obtain rfl : k = phiN N := by omega
      have BR := st.box 1 (w.heap.size, [.int .i64 0, .slice none 0 0]) rfl
      obtain ⟨c0, c1⟩ := (st.box 0 (nb, [.int .i64 (N : Int), .slice (some ⟨g1, o1, none⟩) (phiN N) k1]) rfl).cell2
      dsimp only at BR c0 c1
      have q := st.sl 0 ⟨true, lo1, hi1, .slice (some ⟨g1, o1, none⟩) (phiN N) k1, phiN N, fun j => if ivR N j < (phiN N) then C * (res N (ivR N j) : Int) / (N : Int) else 0⟩ rfl
      dsimp only at q
      have ⟨p0, p1, p2, p3, p4, p5⟩ := HAP.out
      go_wp2_with (first
        | (refine wpList_storeR rfl _ _ rfl w.heap.size rfl (v0 := .int .i64 (N : Int)) (v1 := .slice (some ⟨g1, o1, none⟩) (phiN N) k1) rfl rfl rfl BR ?_; intro w9 x9 f9
           obtain ⟨d0, d1⟩ := x9.cell2))
      refine bodyPost_ret (v := .tuple #[.agg #[.int .i64 (N : Int), .slice (some ⟨g1, o1, none⟩) (phiN N) k1], .int .i64 0]) (by simp [results, Try.results47, go_sem, d0, d1]) rfl ?_
      refine ⟨some ⟨g1, o1, none⟩, k1, rfl, ?_, ?_⟩
      · refine (((q.congr (fun j hj => by (try dsimp only); rw [if_pos (iv_ok (n := N) (by omega) h2 hj).1])).keepF f9 (.inr (by omega))).wide (by omega) ?_ (Nat.le_refl _))
        have := q.size
        have := f9.size
        omega
      · exact st.1.trans (f9.below (by omega) st.1.size)
end Go.Proofs.Ytnhpodlcgkgpbaa
