/- Elements told: openRing of the program. -/
import Derived.Test.YtnhpodlcgkgpbaaRgM
import Derived.Test.YtnhpodlcgkgpbaaIs
namespace Go.Proofs.Ytnhpodlcgkgpbaa
open Go.RowKit Go.ChangeShapes Go.Sort
set_option linter.unusedVariables false
set_option linter.unusedSimpArgs false
set_option maxRecDepth 100000
set_option maxHeartbeats 2000000

def RgP (x : Int) (n : Nat) (f : Nat → Int) : Prop := 2 ≤ x ∧ x ≤ 40 ∧ n = phiI x ∧ Within f n 1000000000
section
variable {o : Bool} {lo hi n : Nat} {v : Value} {f : Nat → Int}
theorem openRing_noMod (x : Int) (w : World) (hs : Sl o w lo hi v n f) (h : x < 2 ∨ 40 < x) :
    Calls Try.prog 104 #[.agg #[.int .i64 x, v]] w fun e w' => e = .returned (.tuple #[.agg (elC 0 (fun _ => 0)), .int .i64 1]) ∧ Below w.heap.size w w' := by
  have hm := hs.len
  unfold maxLen at hm
  obtain ⟨a, cap, rfl⟩ := hs.shape
  have st := ((St.start w).addSl ⟨o, lo, hi, .slice a n cap, n, f⟩ hs)
  have hhs := hs.size
  replace st := (st.alloc (.cells #[.int .i64 x, .slice a n cap] 28)).addBox w.heap.size [.int .i64 x, .slice a n cap] (Box.made _ _ _ _ (fun j v h => by simpa using h))
  have HX := Lib.hid h
  clear h hs
  go_enter Try.func104, Try.ntmps104
  go_wp2_with (first
    | ((fail_if_success (have _g := Z1)); refine wpList_allocE rfl rfl ?_; intro w1 x1 b1 z1
       have Z1 := Lib.hid (show w1.heap.size = w.heap.size + 2 by rw [z1]; simp)
       replace st := (st.keep b1).addBox _ _ x1
       simp only [World.size_alloc] at st
       clear x1 b1 z1)
    | fail)
  have k0 := cell_regrown (st.box 1 (w.heap.size, [.int .i64 x, .slice a n cap]) rfl).cell2.1
  have k1 := cell_regrown (st.box 1 (w.heap.size, [.int .i64 x, .slice a n cap]) rfl).cell2.2
  refine wp_region_quiet_below (by kernel_rfl) (by kernel_rfl) ?_
  repeat (go_big_quiet_step (first
    | (go_at_call 117; exact regrown_same (isModulus_no _ _ HX.out))))
  refine wpQuiet_nil ?_
  intro w2 hw2
  have b2 : Below w1.heap.size w1 w2 := by obtain ⟨p, rfl⟩ := hw2; exact below_regrown _ _ _
  clear hw2 k0 k1
  replace st := st.keep b2
  clear b2
  have B0 := st.box 0 (w.heap.size + 1, elL 0 (fun _ => 0)) rfl
  dsimp only at B0
  go_wp2_with (first
    | (refine wpList_buildE0 rfl rfl ?_)
    | (refine wpList_storeE rfl _ _ rfl (w.heap.size + 1) rfl (m := 0) (F := (fun _ => 0)) rfl B0 elL_len ?_; intro w5 x5 f5))
  refine bodyPost_ret (v := .tuple #[.agg (elC 0 (fun _ => 0)), .int .i64 1]) (resE1 (b := w.heap.size + 1) rfl rfl rfl x5) rfl ⟨rfl, ?_⟩
  exact st.1.trans (f5.below (by omega) st.1.size)
theorem openRing_noLen (x : Int) (w : World) (hs : Sl o w lo hi v n f) (h2 : 2 ≤ x) (h40 : x ≤ 40) (hn : n ≠ phiI x) :
    Calls Try.prog 104 #[.agg #[.int .i64 x, v]] w fun e w' => e = .returned (.tuple #[.agg (elC 0 (fun _ => 0)), .int .i64 1]) ∧ Below w.heap.size w w' := by
  have hm := hs.len
  unfold maxLen at hm
  obtain ⟨a, cap, rfl⟩ := hs.shape
  have st := ((St.start w).addSl ⟨o, lo, hi, .slice a n cap, n, f⟩ hs)
  have hhs := hs.size
  replace st := (st.alloc (.cells #[.int .i64 x, .slice a n cap] 28)).addBox w.heap.size [.int .i64 x, .slice a n cap] (Box.made _ _ _ _ (fun j v h => by simpa using h))
  have hb : ((n : Int) != ((phiI x : Nat) : Int)) = true := by rw [bne_iff_ne]; omega
  have hb' : ((n : Int) == ((phiI x : Nat) : Int)) = false := by rw [beq_eq_false_iff_ne]; omega
  clear hs hn
  go_enter Try.func104, Try.ntmps104
  go_wp2_with (first
    | ((fail_if_success (have _g := Z1)); refine wpList_allocE rfl rfl ?_; intro w1 x1 b1 z1
       have Z1 := Lib.hid (show w1.heap.size = w.heap.size + 2 by rw [z1]; simp)
       replace st := (st.keep b1).addBox _ _ x1
       simp only [World.size_alloc] at st
       clear x1 b1 z1)
    | fail)
  have k0 := cell_regrown (st.box 1 (w.heap.size, [.int .i64 x, .slice a n cap]) rfl).cell2.1
  have k1 := cell_regrown (st.box 1 (w.heap.size, [.int .i64 x, .slice a n cap]) rfl).cell2.2
  refine wp_region_quiet_below (by kernel_rfl) (by kernel_rfl) ?_
  repeat (go_big_quiet_step (first
    | (go_at_call 117; exact regrown_same (isModulus_yes _ _ h2 h40))
    | (go_at_call 119; exact regrown_drewN (totient_any _ _ (by omega)))))
  refine wpQuiet_nil ?_
  intro w2 hw2
  have b2 : Below w1.heap.size w1 w2 := by obtain ⟨p, rfl⟩ := hw2; exact below_regrown _ _ _
  clear hw2 k0 k1
  replace st := st.keep b2
  clear b2
  have B0 := st.box 0 (w.heap.size + 1, elL 0 (fun _ => 0)) rfl
  dsimp only at B0
  go_wp2_with (first
    | (refine wpList_buildE0 rfl rfl ?_)
    | (refine wpList_storeE rfl _ _ rfl (w.heap.size + 1) rfl (m := 0) (F := (fun _ => 0)) rfl B0 elL_len ?_; intro w5 x5 f5))
  refine bodyPost_ret (v := .tuple #[.agg (elC 0 (fun _ => 0)), .int .i64 1]) (resE1 (b := w.heap.size + 1) rfl rfl rfl x5) rfl ⟨rfl, ?_⟩
  exact st.1.trans (f5.below (by omega) st.1.size)
theorem openRing_len (N : Nat) (B : Bool) (w : World) (hs : Sl o w lo hi v n f) (h2 : 2 ≤ N) (h40 : N ≤ 40) (hn : n = phiN N) (hB : inC (opR N f (phiN N)) (-1000000000) 1000000000 = B) :
    Calls Try.prog 104 #[.agg #[.int .i64 (N : Int), v]] w fun e w' => e = .returned (if B = true then .tuple #[.agg (elC N (opR N f (phiN N))), .int .i64 0] else .tuple #[.agg (elC 0 (fun _ => 0)), .int .i64 1]) ∧ Below w.heap.size w w' := by
  have hp := phi_le40 N (by omega)
  have hp0 := phi_pos40 N (by omega) (by omega)
  have HFR := Lib.hid hs.bd
  have hm := hs.len
  unfold maxLen at hm
  obtain ⟨a, cap, rfl⟩ := hs.shape
  have st := ((St.start w).addSl ⟨o, lo, hi, .slice a n cap, n, f⟩ hs)
  have hhs := hs.size
  replace st := (st.alloc (.cells #[.int .i64 (N : Int), .slice a n cap] 28)).addBox w.heap.size [.int .i64 (N : Int), .slice a n cap] (Box.made _ _ _ _ (fun j v h => by simpa using h))
  have hb : ((n : Int) != ((phiI (N : Int) : Nat) : Int)) = false := by
    have e : n = phiI (N : Int) := hn
    rw [e]; simp
  have HIW := Lib.hid (fun w' => isWithinE_any (N : Int) (opR N f (phiN N)) (-1000000000) 1000000000 w' (fun j _ => opR_in (fun i hi => HFR.out i (by omega)) j) (by unfold inR; omega) (by unfold inR; omega))
  rw [hB] at HIW
  have HN := Lib.hid hn
  clear hs hn hB
  go_enter Try.func104, Try.ntmps104
  go_wp2_with (first
    | ((fail_if_success (have _g := Z1)); refine wpList_allocE rfl rfl ?_; intro w1 x1 b1 z1
       have Z1 := Lib.hid (show w1.heap.size = w.heap.size + 2 by rw [z1]; simp)
       replace st := (st.keep b1).addBox _ _ x1
       simp only [World.size_alloc] at st
       clear x1 b1 z1)
    | fail)
  have k0 := cell_regrown (st.box 1 (w.heap.size, [.int .i64 (N : Int), .slice a n cap]) rfl).cell2.1
  have k1 := cell_regrown (st.box 1 (w.heap.size, [.int .i64 (N : Int), .slice a n cap]) rfl).cell2.2
  refine wp_region_quiet_below (by kernel_rfl) (by kernel_rfl) ?_
  repeat (go_big_quiet_step (first
    | (go_at_call 117; exact regrown_same (isModulus_yes _ _ (by omega) (by omega)))
    | (go_at_call 119; exact regrown_drewN (totient_any _ _ (by omega)))))
  refine wpQuiet_nil ?_
  intro w2 hw2
  have b2 : Below w1.heap.size w1 w2 := by obtain ⟨p, rfl⟩ := hw2; exact below_regrown _ _ _
  have Z2 := Lib.hid b2.size
  clear hw2 k0 k1
  replace st := st.keep b2
  clear b2
  obtain ⟨c0, c1⟩ := (st.box 1 (w.heap.size, [.int .i64 (N : Int), .slice a n cap]) rfl).cell2
  go_wp2_with (first
    | (refine wpList_buildE rfl _ rfl (m := N) rfl ?_)
    | (refine wpList_allocE rfl rfl ?_; intro w4 x4 b4 z4
       have Z4 := Lib.hid z4
       replace st := (st.keep b4).addBox _ _ x4
       have B4 := st.box 0 (w2.heap.size, elL 0 (fun _ => 0)) rfl
       dsimp only at B4
       clear x4 b4 z4)
    | (refine wpList_storeE rfl _ _ rfl w2.heap.size rfl (m := N) (F := (fun _ => 0)) rfl B4 elL_len ?_; intro w5 x5 f5
       have sz := Lib.hid (show w.heap.size + 1 < w2.heap.size ∧ w2.heap.size < w5.heap.size ∧ hi ≤ w.heap.size from by have := Z1.out; have := Z2.out; have := Z4.out; have := f5.size; omega)
       replace st := st.headR x5 f5 (by have := sz.out; omega) (by have := sz.out; intro q hq; simp only [List.mem_cons, List.not_mem_nil, or_false] at hq; rcases hq with rfl | rfl <;> dsimp only <;> omega) (by have := sz.out; intro q hq; simp only [List.mem_cons, List.not_mem_nil, or_false] at hq; rcases hq with rfl <;> dsimp only <;> omega)
       clear B4 x5 f5
       obtain ⟨c0, c1⟩ := (st.box 2 (w.heap.size, [.int .i64 (N : Int), .slice a n cap]) rfl).cell2)
    | (go_at_call 118; refine (residuesOf40 N (by omega) h40 _).mono ?_; rintro e w6 ⟨gr, kr, rfl, s6, b6⟩
       have sz6 := Lib.hid (show w5.heap.size ≤ w6.heap.size from b6.size)
       replace st := (st.keep b6).addSl ⟨true, w5.heap.size, w6.heap.size, .slice (some ⟨gr, 0, none⟩) (phiN N) kr, phiN N, fun k => (res N k : Int)⟩ s6
       clear s6 b6))
  go_loopw [28] (fun s15 wr => ∃ k : Nat, k ≤ phiN N ∧ s15 = .int .i64 (k : Int) ∧ St w wr [(w2.heap.size, elL N (opR N f k)), (w.heap.size + 1, elL 0 (fun _ => 0)), (w.heap.size, [.int .i64 (N : Int), .slice a n cap])] [⟨true, w5.heap.size, w6.heap.size, .slice (some ⟨gr, 0, none⟩) (phiN N) kr, phiN N, fun k => (res N k : Int)⟩, ⟨o, lo, hi, .slice a n cap, n, f⟩]) (fun s15 _ => phiN N - (intOf s15).toNat)
  case atStart => exact ⟨0, by omega, rfl, st⟩
  case round =>
    clear st c0 c1
    obtain ⟨k, hk, rfl, st⟩ := hrel
    by_cases hlt : k < phiN N
    · have hki : (k : Int) < (phiN N : Int) := by omega
      have hkn : (k : Int) < (n : Int) := by have := HN.out; omega
      obtain ⟨c0, c1⟩ := (st.box 2 (w.heap.size, [.int .i64 (N : Int), .slice a n cap]) rfl).cell2
      have hrk := (st.sl 0 ⟨true, w5.heap.size, w6.heap.size, .slice (some ⟨gr, 0, none⟩) (phiN N) kr, phiN N, fun k => (res N k : Int)⟩ rfl).known (by show 0 < phiN N; omega)
      replace hrk := hrk.2.2.2.1 k hlt
      dsimp only at hrk
      rw [Nat.zero_add] at hrk
      have qa := st.sl 1 ⟨o, lo, hi, .slice a n cap, n, f⟩ rfl
      dsimp only at qa
      obtain ⟨b, off, c1', hv, _, _, _, _, hc, _⟩ := qa.at (by omega)
      obtain ⟨rfl, rfl⟩ : a = some ⟨b, off, none⟩ ∧ cap = c1' := by cases hv; exact ⟨rfl, rfl⟩
      have hck := hc k (by omega)
      clear hv hc qa
      have hra := res_lt40 (n := N) (by omega) h2 hlt
      have HQ := Lib.hid (show ∀ i, opR N f (k + 1) i = if i = res N k then f k else opR N f k i from fun i => rfl)
      obtain ⟨r, ha⟩ : ∃ r, res N k = r := ⟨_, rfl⟩
      rw [ha] at hra hrk HQ
      clear ha
      obtain ⟨ha1, ha2, _⟩ := hra
      have d0 := (st.box 0 (w2.heap.size, elL N (opR N f k)) rfl).part (j := r) (by omega)
      have dz := (st.box 0 (w2.heap.size, elL N (opR N f k)) rfl).2.2
      dsimp only at d0 dz
      go_wp2
      go_roundw
      case rel =>
        refine ⟨k + 1, by omega, by go_num, ?_⟩
        have qq := st.partR (x := f k) (j := r) (by omega) (by have := sz.out; omega) (by have := sz.out; intro q hq; simp only [List.mem_cons, List.not_mem_nil, or_false] at hq; rcases hq with rfl | rfl <;> dsimp only <;> omega) (by have := sz.out; have := sz6.out; intro q hq; simp only [List.mem_cons, List.not_mem_nil, or_false] at hq; rcases hq with rfl | rfl <;> dsimp only <;> omega)
        have e : elL (N : Int) (fun i => if i = r then f k else opR N f k i) = elL N (opR N f (k + 1)) := elL_congr (fun j hj => (HQ.out j).symm)
        rw [e] at qq
        exact qq
      case measure => simp [intOf] <;> omega
    · obtain rfl : k = phiN N := by omega
      have B0 := st.box 0 (w2.heap.size, elL N (opR N f (phiN N))) rfl
      dsimp only at B0
      cases B with
      | true =>
        go_wp2_with (first
          | (refine wpList_loadE rfl _ rfl w2.heap.size rfl B0 ?_)
          | (go_at_call 97; refine (HIW.out _).mono ?_; rintro e w7 ⟨rfl, b7⟩
             replace st := st.keep b7
             clear b7 B0
             have B0 := st.box 0 (w2.heap.size, elL N (opR N f (phiN N))) rfl
             have B1 := st.box 1 (w.heap.size + 1, elL 0 (fun _ => 0)) rfl
             dsimp only at B0 B1)
          | (refine wpList_storeE rfl _ _ rfl (w.heap.size + 1) rfl rfl B1 elL_len ?_; intro w8 x8 f8))
        refine bodyPost_ret (v := .tuple #[.agg (elC N (opR N f (phiN N))), .int .i64 0]) (resE1 (b := w.heap.size + 1) rfl rfl rfl x8) rfl ⟨rfl, ?_⟩
        exact st.1.trans (f8.below (by omega) st.1.size)
      | false =>
        go_wp2_with (first
          | (refine wpList_loadE rfl _ rfl w2.heap.size rfl B0 ?_)
          | (refine wpList_buildE0 rfl rfl ?_)
          | (go_at_call 97; refine (HIW.out _).mono ?_; rintro e w7 ⟨rfl, b7⟩
             replace st := st.keep b7
             clear b7 B0
             have B1 := st.box 1 (w.heap.size + 1, elL 0 (fun _ => 0)) rfl
             dsimp only at B1)
          | (refine wpList_storeE rfl _ _ rfl (w.heap.size + 1) rfl rfl B1 elL_len ?_; intro w8 x8 f8))
        refine bodyPost_ret (v := .tuple #[.agg (elC 0 (fun _ => 0)), .int .i64 1]) (resE1 (b := w.heap.size + 1) rfl rfl rfl x8) rfl ⟨rfl, ?_⟩
        exact st.1.trans (f8.below (by omega) st.1.size)
theorem opW_iff {N : Nat} (h2 : 2 ≤ N) (h40 : N ≤ 40) : inC (opR N f (phiN N)) (-1000000000) 1000000000 = true ↔ Within f (phiN N) 1000000000 := by
  rw [inC_iff (by omega)]
  constructor
  · intro h j hj
    have := h (res N j) (by have := (res_lt40 (n := N) (by omega) h2 hj).2.1; omega)
    rwa [opR_at (by omega) h2 (Nat.le_refl _) hj] at this
  · intro h j _
    exact opR_bd (by omega) h j
theorem openRing_ok (N : Nat) (w : World) (hs : Sl o w lo hi v n f) (h : RgP N n f) :
    Calls Try.prog 104 #[.agg #[.int .i64 (N : Int), v]] w fun e w' => e = .returned (.tuple #[.agg (elC N (opR N f (phiN N))), .int .i64 0]) ∧ Below w.heap.size w w' := by
  obtain ⟨h2, h40, hn, hw⟩ := h
  have hn' : n = phiN N := hn
  rw [hn'] at hw
  exact openRing_len N true w hs (by omega) (by omega) hn (by rw [opW_iff (by omega) (by omega)]; exact hw)
theorem openRing_bad (x : Int) (w : World) (hs : Sl o w lo hi v n f) (h : ¬ RgP x n f) :
    Calls Try.prog 104 #[.agg #[.int .i64 x, v]] w fun e w' => e = .returned (.tuple #[.agg (elC 0 (fun _ => 0)), .int .i64 1]) ∧ Below w.heap.size w w' := by
  by_cases h1 : x < 2 ∨ 40 < x
  · exact openRing_noMod x w hs h1
  · by_cases h2 : n = phiI x
    · obtain ⟨N, rfl⟩ := Int.eq_ofNat_of_zero_le (show 0 ≤ x by omega)
      have hf : inC (opR N f (phiN N)) (-1000000000) 1000000000 = false := by
        cases hb : inC (opR N f (phiN N)) (-1000000000) 1000000000 with
        | false => rfl
        | true =>
          rw [opW_iff (by omega) (by omega)] at hb
          have e : phiN N = n := h2.symm
          rw [e] at hb
          exact absurd ⟨by omega, by omega, h2, hb⟩ h
      exact openRing_len N false w hs (by omega) (by omega) h2 hf
    · exact openRing_noLen x w hs (by omega) (by omega) h2
end
end Go.Proofs.Ytnhpodlcgkgpbaa
