/- ReducedStickelberger of the program. -/
import Derived.Test.YtnhpodlcgkgpbaaRgPr
import Derived.Test.YtnhpodlcgkgpbaaRgM
import Derived.Test.YtnhpodlcgkgpbaaRgW
import Derived.Test.YtnhpodlcgkgpbaaRgCt
import Derived.Test.YtnhpodlcgkgpbaaRgU
import Derived.Handy
namespace Go.Proofs.Ytnhpodlcgkgpbaa
open Go.RowKit Go.ChangeShapes Go.Sort
set_option linter.unusedVariables false
set_option linter.unusedSimpArgs false
set_option maxRecDepth 100000
set_option maxHeartbeats 4000000
theorem run_store_funcR {P : Program} (w : World) (a : Addr) (m : Mode) (fn : Fn) (first cap : Array Value) : (store a (.func fn first cap) m).run P w = stored P w a (.func fn first cap) m := run_store P w a _ m rfl
attribute [local go_sem] run_store_funcR
theorem tdiv_bd2 {a g M : Int} (hg : 1 ≤ g) (h1 : -M ≤ a) (h2 : a ≤ M) : -M ≤ a.tdiv g ∧ a.tdiv g ≤ M := by
  by_cases h : 0 ≤ a
  · rw [Int.tdiv_eq_ediv_of_nonneg h]
    have e1 := Int.ediv_nonneg h (show 0 ≤ g by omega)
    have e2 := Int.ediv_le_self g h
    omega
  · have e : a.tdiv g = -((-a) / g) := by rw [← Int.tdiv_eq_ediv_of_nonneg (show 0 ≤ -a by omega), Int.neg_tdiv, Int.neg_neg]
    have e1 := Int.ediv_nonneg (show 0 ≤ -a by omega) (show 0 ≤ g by omega)
    have e2 := Int.ediv_le_self g (show 0 ≤ -a by omega)
    omega
def g0 (N : Nat) : Nat → Int := fun j => (res N (ivR N j) : Int)
def rsF (N c : Nat) : Nat → Int := fun j => ((res N c : Nat) : Int) * (res N (ivR N j) : Nat) / (N : Int)
theorem rs_within {N c : Nat} (h2 : 2 ≤ N) (h40 : N ≤ 40) (hc : c < phiN N) : Within (rsF N c) (phiN N) 1000000000 := fun j hj => by
  have h1 := (res_lt40 (n := N) (by omega) h2 hc)
  have h3 := (res_lt40 (n := N) (by omega) h2 (iv_ok (n := N) (by omega) h2 hj).1)
  have h4 := Nat.mul_le_mul (show res N c ≤ 40 by omega) (show res N (ivR N j) ≤ 40 by omega)
  have e : ((res N c : Nat) : Int) * (res N (ivR N j) : Nat) = ((res N c * res N (ivR N j) : Nat) : Int) := by rw [Int.natCast_mul]
  have h5 := Int.ediv_nonneg (a := ((res N c : Nat) : Int) * (res N (ivR N j) : Nat)) (b := (N : Int)) (by omega) (by omega)
  have h6 := Int.ediv_le_self (a := ((res N c : Nat) : Int) * (res N (ivR N j) : Nat)) (N : Int) (by omega)
  unfold rsF
  omega
theorem rs_eq {N c : Nat} (h2 : 2 ≤ N) (h40 : N ≤ 40) (hc : c < phiN N) {O1 O2 : Nat → Int} {C : Int} (e1 : opR N (g0 N) (phiN N) = O1) (e2 : opR N (fun j => g0 N (kxR N c j)) (phiN N) = O2) (eC : (res N c : Int) = C) (a : Nat) :
    (C * O1 a + -O2 a).tdiv (N : Int) = opR N (rsF N c) (phiN N) a := by
  rw [← e1, ← e2, ← eC]
  rcases opR_cases (n := N) (f := g0 N) (phiN N) a with ⟨j, hj, rfl⟩ | hoff
  · rw [opR_at (by omega) h2 (Nat.le_refl _) hj, opR_at (by omega) h2 (Nat.le_refl _) hj, opR_at (by omega) h2 (Nat.le_refl _) hj]
    have := red_ok (n := N) (by omega) h2 hc hj
    unfold g0 rsF
    rw [← this]
    congr 1
  · rw [opR_off (f := g0 N) hoff, opR_off (f := fun j => g0 N (kxR N c j)) hoff, opR_off (f := rsF N c) hoff]
    simp
theorem ReducedStickelberger_impl_ok (N c : Nat) (h2 : 2 ≤ N) (h40 : N ≤ 40) (hc : c < phiN N) (w : World) :
    Calls Try.prog 46 #[.int .i64 (N : Int), .int .i64 (res N c : Int)] w fun e w' => ∃ a' k', e = .returned (.tuple #[.agg #[.int .i64 (N : Int), .slice a' (phiN N) k'], .int .i64 0]) ∧ Sl true w' w.heap.size w'.heap.size (.slice a' (phiN N) k') (phiN N) (fun j => ((res N c : Nat) : Int) * (res N (ivR N j) : Nat) / (N : Int)) ∧ Below w.heap.size w w' := by
  have hp := phi_le40 N (by omega)
  have HRL := Lib.hid (res_lt40 (n := N) (by omega) h2 hc)
  have HINJ := Lib.hid (show ∀ j, j < c → ((res N j : Nat) : Int) ≠ (res N c : Int) from fun j hj e => by
    have := res_inj40 (n := N) (by omega) h2 (show j < phiN N by omega) hc (by omega)
    omega)
  have HST := Lib.hid (fun w' => stick_any N h2 h40 w')
  go_enter Try.func46, Try.ntmps46
  go_wp2_with (first
    | ((fail_if_success (have _g := Z2)); refine wpList_allocR rfl rfl ?_; intro w2 x2 b2 z2
       have st := ((St.start w).keep b2).addBox _ _ x2
       have Z2 := Lib.hid z2
       clear x2 b2 z2)
    | (go_at_call 117; refine (isModulus_yes _ _ (by omega) (by omega)).mono ?_; rintro e w' ⟨rfl, rfl⟩)
    | (go_at_call 118; refine (residuesOf40 N (by omega) h40 _).mono ?_; rintro e w3 ⟨g3, c3, rfl, s3, b3⟩
       have Z3 := Lib.hid (show _ from b3.size)
       replace st := st.keep b3
       have HC3 := Lib.hid (Contains_yes (res N c : Int) w3 c (by omega) s3 hc rfl HINJ.out)
       clear s3 b3)
    | (go_at_call 120; refine HC3.out.mono ?_; rintro e w' ⟨rfl, rfl⟩)
    | (refine wpList_allocPr rfl rfl ?_; intro w4 x4 b4 z4
       replace st := (((st.alloc (.cells #[.func (.func 121) #[] #[], .func (.func 122) #[] #[]] 130)).addBox w3.heap.size [.func (.func 121) #[] #[], .func (.func 122) #[] #[]] (Box.made _ _ _ _ (fun j v h => by simpa using h))).keep b4).addBox _ _ x4
       simp only [World.size_alloc] at st z4
       obtain ⟨f0, f1⟩ := (st.box 1 (w3.heap.size, [.func (.func 121) #[] #[], .func (.func 122) #[] #[]]) rfl).cell2
       dsimp only at f0 f1
       have Z4 := Lib.hid z4
       clear x4 b4 z4))
  clear f0 f1 HC3
  have hp0 := phi_pos40 N (by omega) (by omega)
  have HG := Lib.hid (show ∀ j, j < phiN N → 0 ≤ (res N (ivR N j) : Int) ∧ (res N (ivR N j) : Int) < (N : Int) from fun j hj => by
    have := res_lt40 (n := N) (by omega) h2 (iv_ok (n := N) (by omega) h2 hj).1
    omega)
  have HK := Lib.hid (fun j (hj : j < phiN N) => (kx_ok (n := N) (by omega) h2 hc hj).1)
  have HSA := Lib.hid (scaled_any (N : Int) (opR N (g0 N) (phiN N)) (res N c : Int))
  have HMV := Lib.hid (fun w' => moved_any N c (g0 N) h2 h40 hc w')
  have HOB := Lib.hid (show ∀ j, -40 ≤ opR N (g0 N) (phiN N) j ∧ opR N (g0 N) (phiN N) j ≤ 40 from opR_bd (by omega) (fun j hj => by have := HG.out j hj; unfold g0; omega))
  have HOB2 := Lib.hid (show ∀ j, -40 ≤ opR N (fun j => g0 N (kxR N c j)) (phiN N) j ∧ opR N (fun j => g0 N (kxR N c j)) (phiN N) j ≤ 40 from opR_bd (by omega) (fun j hj => by have := HG.out (kxR N c j) (HK.out j hj); show -40 ≤ g0 N _ ∧ g0 N _ ≤ 40; unfold g0; omega))
  have HSB := Lib.hid (show ∀ j, -1600 ≤ (res N c : Int) * opR N (g0 N) (phiN N) j ∧ (res N c : Int) * opR N (g0 N) (phiN N) j ≤ 1600 from fun j => by
    have h := mulR_bd (A := 40) (B := 40) (a := (res N c : Int)) (by omega) (by omega) (by have := HRL.out; omega) (by have := HRL.out; omega) (HOB.out j).1 (HOB.out j).2
    omega)
  obtain ⟨O1, hO1⟩ : ∃ O, opR N (g0 N) (phiN N) = O := ⟨_, rfl⟩
  obtain ⟨O2, hO2⟩ : ∃ O, opR N (fun j => g0 N (kxR N c j)) (phiN N) = O := ⟨_, rfl⟩
  have HST' := Lib.hid (show ∀ w' : World, Calls Try.prog 123 #[.int .i64 (N : Int)] w' fun e w'' => e = .returned (.agg (elC N O1)) ∧ Below w'.heap.size w' w'' from fun w' => by rw [← hO1]; exact HST.out w')
  have HMV' := Lib.hid (show ∀ w' : World, Calls Try.prog 122 #[.agg (elC N O1), .int .i64 (res N c : Int)] w' fun e w'' => e = .returned (.agg (elC N O2)) ∧ Below w'.heap.size w' w'' from fun w' => by rw [← hO1, ← hO2]; exact HMV.out w')
  obtain ⟨C, hC⟩ : ∃ C, (res N c : Int) = C := ⟨_, rfl⟩
  rw [hO1] at HSA HOB HSB
  rw [hO2] at HOB2
  rw [hC] at HSA HSB HMV'
  have HO1 := Lib.hid hO1
  have HO2 := Lib.hid hO2
  have HC := Lib.hid hC
  clear hO1 hO2 HMV HST
  rw [hC]
  clear hC HINJ
  have HSA' := Lib.hid (fun w' => HSA.out w' (fun j hj => by have := HOB.out j; unfold inR; omega) (fun j hj => by have := HSB.out j; omega))
  have HPL := Lib.hid (fun w' => plus_any (N : Int) (N : Int) (fun j => C * O1 j) O2 (-1) w' (fun j hj => by have := HSB.out j; show _ ≤ C * O1 j ∧ C * O1 j ≤ _; omega) (fun j hj => by have := HOB2.out j; unfold inR; omega) (fun j hj => by have := HOB2.out j; omega))
  clear HSA
  obtain ⟨nF, hnF⟩ : ∃ n, w3.heap.size = n := ⟨_, rfl⟩
  rw [hnF] at st
  rw [hnF]
  have HNF := Lib.hid (show w.heap.size < nF ∧ nF + 1 < w4.heap.size by have := Z2.out; have := Z3.out; have := Z4.out; omega)
  clear hnF Z2 Z3 Z4
  have hnf := HNF.out
  go_loopw [25] (fun s25 wr =>
      ((s25 = .int .i64 0 ∧ St w wr [(nF + 1, prL 0 (fun _ => 0) 0 (fun _ => 0)), (nF, [.func (.func 121) #[] #[], .func (.func 122) #[] #[]]), (w.heap.size, [.int .i64 0, .slice none 0 0])] []) ∨
       (s25 = .int .i64 1 ∧ St w wr [(nF + 1, prL N (fun j => C * O1 j) 0 (fun _ => 0)), (nF, [.func (.func 121) #[] #[], .func (.func 122) #[] #[]]), (w.heap.size, [.int .i64 0, .slice none 0 0])] []) ∨
       (s25 = .int .i64 2 ∧ St w wr [(nF + 1, prL N (fun j => C * O1 j) N O2), (nF, [.func (.func 121) #[] #[], .func (.func 122) #[] #[]]), (w.heap.size, [.int .i64 0, .slice none 0 0])] []))) (fun s25 _ => 2 - (intOf s25).toNat)
  case atStart => exact .inl ⟨rfl, st⟩
  case round =>
    clear st
    obtain ⟨rfl, st⟩ | ⟨rfl, st⟩ | ⟨rfl, st⟩ := hrel
    · have HI := (show (Instr.index 130 (.agg #[.func (.func 121) #[] #[], .func (.func 122) #[] #[]]) (.int .i64 0)).run Try.prog wr = .ok (.func (.func 121) #[] #[]) wr from by kernel_rfl)
      go_wp2_with (first
        | (go_at_call 123; refine (HST'.out _).mono ?_; rintro e w6 ⟨rfl, b6⟩
           replace st := st.keep b6
           clear b6)
        | (go_at_call 121; refine (HSA'.out _).mono ?_; rintro e w7 ⟨rfl, b7⟩
           replace st := st.keep b7
           have BP := st.box 0 (nF + 1, prL 0 (fun _ => 0) 0 (fun _ => 0)) rfl
           dsimp only at BP
           clear b7)
        | (refine wpList_storePr0 rfl _ _ rfl (nF + 1) rfl rfl BP ?_; intro w8 x8 f8
           replace st := st.headR x8 f8 (by omega) (by intro q hq; simp only [List.mem_cons, List.not_mem_nil, or_false] at hq; rcases hq with rfl | rfl <;> dsimp only <;> omega) (by intro s hs; cases hs)
           clear x8 f8 BP))
      go_roundw
      case rel => exact .inr (.inl ⟨by go_num, st⟩)
      case measure => simp [intOf] <;> omega
    · have HI := (show (Instr.index 130 (.agg #[.func (.func 121) #[] #[], .func (.func 122) #[] #[]]) (.int .i64 1)).run Try.prog wr = .ok (.func (.func 122) #[] #[]) wr from by kernel_rfl)
      go_wp2_with (first
        | (go_at_call 123; refine (HST'.out _).mono ?_; rintro e w6 ⟨rfl, b6⟩
           replace st := st.keep b6
           clear b6)
        | (go_at_call 122; refine (HMV'.out _).mono ?_; rintro e w7 ⟨rfl, b7⟩
           replace st := st.keep b7
           have BP := st.box 0 (nF + 1, prL N (fun j => C * O1 j) 0 (fun _ => 0)) rfl
           dsimp only at BP
           clear b7)
        | (refine wpList_storePr1 rfl _ _ rfl (nF + 1) rfl rfl BP ?_; intro w8 x8 f8
           replace st := st.headR x8 f8 (by omega) (by intro q hq; simp only [List.mem_cons, List.not_mem_nil, or_false] at hq; rcases hq with rfl | rfl <;> dsimp only <;> omega) (by intro s hs; cases hs)
           clear x8 f8 BP))
      go_roundw
      case rel => exact .inr (.inr ⟨by go_num, st⟩)
      case measure => simp [intOf] <;> omega
    · have BP := st.box 0 (nF + 1, prL N (fun j => C * O1 j) N O2) rfl
      dsimp only at BP
      go_wp2_with (first
        | (refine wpList_loadPr0 rfl _ rfl (nF + 1) rfl BP ?_)
        | (refine wpList_loadPr1 rfl _ rfl (nF + 1) rfl BP ?_)
        | (go_at_call 108; refine (HPL.out _).mono ?_; rintro e w9 ⟨rfl, b9⟩
           replace st := (st.keep b9).subR (bs' := [(w.heap.size, [.int .i64 0, .slice none 0 0])]) (ss' := []) (by intro q hq; simp only [List.mem_cons, List.not_mem_nil, or_false] at hq ⊢; rcases hq with rfl; simp) (fun _ h => h)
           have H9 := Lib.hid (show w.heap.size < w9.heap.size from (st.box 0 (w.heap.size, [.int .i64 0, .slice none 0 0]) rfl).1)
           clear b9 BP)
        | (refine wpList_allocE rfl rfl ?_; intro w10 x10 b10 z10
           replace st := (st.keep b10).addBox _ _ x10
           have BE := st.box 0 (w9.heap.size, elL 0 (fun _ => 0)) rfl
           dsimp only at BE
           clear x10 b10)
        | (refine wpList_storeE rfl _ _ rfl w9.heap.size rfl rfl BE elL_len ?_; intro w11 x11 f11
           replace st := st.headR x11 f11 (by have := H9.out; omega) (by have := H9.out; intro q hq; simp only [List.mem_cons, List.not_mem_nil, or_false] at hq; rcases hq with rfl <;> dsimp only <;> omega) (by intro s hs; cases hs)
           clear x11 f11 BE))
      obtain ⟨nE, hnE⟩ : ∃ n, w9.heap.size = n := ⟨_, rfl⟩
      rw [hnE] at st H9
      rw [hnE]
      clear hnE z10
      obtain ⟨D, hD⟩ : ∃ D : Nat → Int, (fun j => C * O1 j + -O2 j) = D := ⟨_, rfl⟩
      rw [hD] at st
      have HDB := Lib.hid (show ∀ j, -2000 ≤ D j ∧ D j ≤ 2000 from fun j => by rw [← hD]; have := HSB.out j; have := HOB2.out j; dsimp only; omega)
      have HD := Lib.hid hD
      clear hD HSA' HPL HMV' HST'
      have hNn : ¬ (N : Int) = 0 := by omega
      have hNm : ¬ N = 0 := by omega
      go_loopw [42] (fun s42 wr => ∃ k : Nat, k ≤ 40 ∧ s42 = .int .i64 (k : Int) ∧ St w wr [(nE, elL N (fun j => if j < k then (D j).tdiv (N : Int) else D j)), (w.heap.size, [.int .i64 0, .slice none 0 0])] []) (fun s42 _ => 40 - (intOf s42).toNat)
      case atStart => exact ⟨0, by omega, rfl, st.elCongr (fun j hj => by rw [if_neg (by omega)])⟩
      case round =>
        clear st
        obtain ⟨k, hk, rfl, st⟩ := hrel
        have h9 := H9.out
        by_cases hlt : k < 40
        · have hki : (k : Int) < 40 := by omega
          have c0 := (st.box 0 (nE, elL N (fun j => if j < k then (D j).tdiv (N : Int) else D j)) rfl).part hlt
          have cz := (st.box 0 (nE, elL N (fun j => if j < k then (D j).tdiv (N : Int) else D j)) rfl).2.2
          dsimp only at c0 cz
          rw [if_neg (by omega)] at c0
          have hDk := HDB.out k
          obtain ⟨X, hX⟩ : ∃ X, D k = X := ⟨_, rfl⟩
          rw [hX] at c0 hDk
          obtain ⟨q, hq⟩ : ∃ q, X.tdiv (N : Int) = q := ⟨_, rfl⟩
          have hqb := tdiv_bd2 (a := X) (g := (N : Int)) (M := 2000) (by omega) hDk.1 hDk.2
          rw [hq] at hqb
          go_wp2
          go_roundw
          case rel =>
            refine ⟨k + 1, by omega, by go_num, ?_⟩
            have z := st.partR (x := q) hlt (by omega) (by intro q hq; simp only [List.mem_cons, List.not_mem_nil, or_false] at hq; rcases hq with rfl; dsimp only; omega) (by intro s hs; cases hs)
            exact z.elCongr (fun j hj => by
              by_cases e : j = k
              · subst e; rw [if_pos rfl, if_pos (by omega), hX, hq]
              · rw [if_neg e]; by_cases e2 : j < k
                · rw [if_pos e2, if_pos (by omega)]
                · rw [if_neg e2, if_neg (by omega)])
          case measure => simp [intOf] <;> omega
        · obtain rfl : k = 40 := by omega
          have HE := Lib.hid (show elL (N : Int) (fun j => if j < 40 then (D j).tdiv (N : Int) else D j) = elL N (opR N (rsF N c) (phiN N)) from elL_congr (fun j hj => by
            rw [if_pos hj, ← HD.out]
            exact rs_eq h2 h40 hc HO1.out HO2.out HC.out j))
          rw [HE.out] at st
          have BE := st.box 0 (nE, elL N (opR N (rsF N c) (phiN N))) rfl
          dsimp only at BE
          have HWI := Lib.hid (rs_within (N := N) (c := c) h2 h40 hc)
          have HRW := Lib.hid (fun w' => ringWithin_ok N h2 h40 HWI.out w')
          go_wp2_with (first
            | (refine wpList_loadE rfl _ rfl nE rfl BE ?_)
            | (go_at_call 98; refine (HRW.out _).mono ?_; rintro e w12 ⟨aq, kq, rfl, s12, b12⟩
               have H12 := Lib.hid (show nE < wr.heap.size from BE.1)
               replace st := st.keep b12
               have BR := st.box 1 (w.heap.size, [.int .i64 0, .slice none 0 0]) rfl
               dsimp only at BR
               clear b12)
            | (refine wpList_storeR rfl _ _ rfl w.heap.size rfl (v0 := .int .i64 (N : Int)) (v1 := .slice aq (phiN N) kq) rfl rfl rfl BR ?_; intro w13 x13 f13
               obtain ⟨d0, d1⟩ := x13.cell2))
          refine bodyPost_ret (v := .tuple #[.agg #[.int .i64 (N : Int), .slice aq (phiN N) kq], .int .i64 0]) (by simp [results, Try.results46, go_sem, d0, d1]) rfl ⟨aq, kq, rfl, ?_, ?_⟩
          · exact ((s12.keepF f13 (.inr (by have := H12.out; omega))).wide (by have := H12.out; omega) f13.size (Nat.le_refl _)).congr (fun j hj => rfl)
          · exact st.1.trans (f13.below (Nat.le_refl _) st.1.size)
theorem ReducedStickelberger_impl_no (x c : Int) (h : ¬ (2 ≤ x ∧ x ≤ 40 ∧ 1 ≤ c ∧ c ≤ x ∧ gcdI c x = 1)) (w : World) :
    Calls Try.prog 46 #[.int .i64 x, .int .i64 c] w fun e w' => ∃ a' k', e = .returned (.tuple #[.agg #[.int .i64 0, .slice a' 0 k'], .int .i64 2]) ∧ Sl true w' w.heap.size w'.heap.size (.slice a' 0 k') 0 (fun _ => 0) ∧ Below w.heap.size w w' := by
  by_cases hx : 2 ≤ x ∧ x ≤ 40
  · obtain ⟨hx2, hx40⟩ := hx
    obtain ⟨N, rfl⟩ := Int.eq_ofNat_of_zero_le (show 0 ≤ x by omega)
    have HNO := Lib.hid (show ∀ j, j < phiN N → ((res N j : Nat) : Int) ≠ c from fun j hj e => h (by
      have := res_lt40 (n := N) (by omega) (by omega) hj
      subst e
      refine ⟨by omega, by omega, by omega, by omega, ?_⟩
      unfold gcdI
      rw [Int.toNat_natCast, Int.toNat_natCast, this.2.2]; rfl))
    have hp := phi_le40 N (by omega)
    clear h
    go_enter Try.func46, Try.ntmps46
    go_wp2_with (first
      | ((fail_if_success (have _g := Z2)); refine wpList_allocR rfl rfl ?_; intro w2 x2 b2 z2
         have st := ((St.start w).keep b2).addBox _ _ x2
         have Z2 := Lib.hid z2
         clear x2 b2 z2)
      | (go_at_call 117; refine (isModulus_yes _ _ (by omega) (by omega)).mono ?_; rintro e w' ⟨rfl, rfl⟩)
      | (go_at_call 118; refine (residuesOf40 N (by omega) (by omega) _).mono ?_; rintro e w3 ⟨g3, c3, rfl, s3, b3⟩
         replace st := st.keep b3
         have HC3 := Lib.hid (Contains_no c w3 (by omega) s3 HNO.out)
         have BR := st.box 0 (w.heap.size, [.int .i64 0, .slice none 0 0]) rfl
         dsimp only at BR
         clear s3 b3)
      | (go_at_call 120; refine HC3.out.mono ?_; rintro e w' ⟨rfl, rfl⟩)
      | (refine wpList_storeR rfl _ _ rfl w.heap.size rfl (v0 := .int .i64 0) (v1 := .slice none 0 0) rfl rfl rfl BR ?_; intro w9 x9 f9
         obtain ⟨d0, d1⟩ := x9.cell2))
    refine bodyPost_ret (v := .tuple #[.agg #[.int .i64 0, .slice none 0 0], .int .i64 2]) (by simp [results, Try.results46, go_sem, d0, d1]) rfl ⟨none, 0, rfl, Sl.nil _ _ _ (Nat.le_refl _) _, ?_⟩
    exact st.1.trans (f9.below (Nat.le_refl _) st.1.size)
  · have H := Lib.hid (show x < 2 ∨ 40 < x by omega)
    clear h hx
    go_enter Try.func46, Try.ntmps46
    go_wp2_with (first
      | (refine wpList_allocR rfl rfl ?_; intro w2 x2 b2 z2
         have st := ((St.start w).keep b2).addBox _ _ x2
         have BR := st.box 0 (w.heap.size, [.int .i64 0, .slice none 0 0]) rfl
         dsimp only at BR
         clear x2 b2 z2)
      | (go_at_call 117; refine (isModulus_no _ _ H.out).mono ?_; rintro e w' ⟨rfl, rfl⟩)
      | (refine wpList_storeR rfl _ _ rfl w.heap.size rfl (v0 := .int .i64 0) (v1 := .slice none 0 0) rfl rfl rfl BR ?_; intro w9 x9 f9
         obtain ⟨d0, d1⟩ := x9.cell2))
    refine bodyPost_ret (v := .tuple #[.agg #[.int .i64 0, .slice none 0 0], .int .i64 2]) (by simp [results, Try.results46, go_sem, d0, d1]) rfl ⟨none, 0, rfl, Sl.nil _ _ _ (Nat.le_refl _) _, ?_⟩
    exact st.1.trans (f9.below (Nat.le_refl _) st.1.size)
end Go.Proofs.Ytnhpodlcgkgpbaa
