/- l01Zero, l01Reduce: the model's reduction. -/
import Derived.Test.YtnhpodlcgkgpbaaRed
import Derived.BigRegion
namespace Go.Proofs.Ytnhpodlcgkgpbaa
open Go.RowKit Go.ChangeShapes Go.Sort

def pad (L : Nat) (f : Nat → Int) : Nat → Int := fun j => if j < L then f j else 0

theorem divL_zero_top {g : Nat → Int} {d r : Nat} {M : Nat → Int} : ∀ r', r ≤ r' → (∀ k, r ≤ k → k < r' → M (k + d) = 0) → divL g d r' M = divL g d r M
  | 0, h, _ => by
    have e : r = 0 := by omega
    subst e; rfl
  | r' + 1, h, hz => by
    rcases Nat.lt_or_ge r' r with h1 | h1
    · have e : r = r' + 1 := by omega
      subst e; rfl
    · rw [divL_succ, stepD_zero (hz r' h1 (by omega))]
      exact divL_zero_top r' h1 (fun k a b => hz k a (by omega))
theorem stepD_congr {g : Nat → Int} {d k B : Nat} {M M' : Nat → Int} (hB : k + d < B) (h : ∀ j, j < B → M j = M' j) : ∀ j, j < B → stepD g d k M j = stepD g d k M' j := by
  intro j hj
  unfold stepD
  rw [h (k + d) hB]
  split
  · exact h j hj
  · dsimp only
    rw [h j hj]
theorem divL_congr {g : Nat → Int} {d : Nat} : ∀ (r B : Nat) {M M' : Nat → Int}, r + d ≤ B → (∀ j, j < B → M j = M' j) → ∀ j, j < B → divL g d r M j = divL g d r M' j
  | 0, _, _, _, _, h, j, hj => h j hj
  | r + 1, B, M, M', hB, h, j, hj => by
    rw [divL_succ, divL_succ]
    exact divL_congr r B (by omega) (stepD_congr (by omega) h) j hj
theorem divL_inR {g : Nat → Int} {d n : Nat} : ∀ (r : Nat) {M : Nat → Int}, (∀ j, j < n → inR (M j)) → ∀ j, j < n → inR (divL g d r M j)
  | 0, _, h => h
  | r + 1, M, h => by rw [divL_succ]; exact divL_inR r (stepD_inR h)

/-- The model's rest of a list is the program's of the list with zeros behind it. -/
theorem red_eq (n L : Nat) (f : Nat → Int) (hL : L ≤ 24) : ∀ j, j < phiN n → (if j < L then divL (cyc n) (phiN n) (L - phiN n) f j else 0) = redP n (pad L f) j := by
  intro j hj
  have e : redP n (pad L f) = divL (cyc n) (phiN n) (L - phiN n) (pad L f) := by
    unfold redP
    exact divL_zero_top _ (by omega) (fun k h1 h2 => if_neg (by omega))
  rw [e]
  by_cases h : j < L
  · rw [if_pos h]
    rcases Nat.lt_or_ge (phiN n) L with h1 | h1
    · exact divL_congr _ L (by omega) (fun i hi => (if_pos hi).symm) j h
    · rw [show L - phiN n = 0 by omega]
      exact (if_pos h).symm
  · rw [if_neg h, show L - phiN n = 0 by omega]
    exact (if_neg h).symm

section
variable {o : Bool} {lo hi L : Nat} {v : Value} {f : Nat → Int}
theorem l01Phi_nat (n : Nat) (w : World) (hn : n ≤ 1000) :
    Calls Try.prog 163 #[.int .i64 (n : Int)] w fun e w' => e = .returned (.int .i64 (phiN n : Nat)) ∧ w = w' := l01Phi_any (n : Int) w (by omega)

theorem l01Zero_any (n : Nat) (hn : n ≤ 1000) (w : World) :
    Calls Try.prog 144 #[.int .i64 (n : Int)] w fun e w' => ∃ a cap, e = .returned (.agg #[.int .i64 (n : Int), .slice a (phiN n) cap]) ∧ Sl true w' w.heap.size w'.heap.size (.slice a (phiN n) cap) (phiN n) (fun _ => 0) ∧ Below w.heap.size w w' := by
  have hp : phiN n ≤ 1000 := by have := phiI_le (n : Int); unfold phiN; omega
  have HT := Lib.hid (fun w => l01Phi_nat n w hn)
  generalize phiN n = N at *
  have hmk := run_make_row' (P := Try.prog) 22 2 (.int .i64 0) 8 Try.underlying22 Try.info2 rfl .i64 .i64 N (by omega) (by omega)
  have s1 := Sl.made (w.alloc (.cells #[.int .i64 (n : Int), .slice (some ⟨w.heap.size + 1, 0, none⟩) N N] 24)) (madeCells #[.int .i64 0] N) 2 N N (fun _ => 0) (Nat.le_refl _) (by unfold maxLen; omega) (fun _ _ => by simp [inR]) (fun j hj => madeCells_at _ _ _ hj)
  simp only [World.size_alloc] at s1
  have S1 := Lib.hid s1; clear s1
  go_enter Try.func144, Try.ntmps144
  go_wp2_with (go_at_call 163; refine (HT.out _).mono ?_; rintro e w' ⟨rfl, rfl⟩)
  go_returns
  exact ⟨_, _, rfl, S1.out.wide (by omega) (by simp) (Nat.le_refl _), by go_grown⟩

set_option maxRecDepth 100000 in
set_option maxHeartbeats 2000000 in
theorem l01Reduce_raw (n : Nat) (h1 : 1 ≤ n) (hn : n ≤ 60) (w : World) (hs : Sl o w lo hi v L f) (hL : L ≤ 1000) :
    Calls Try.prog 180 #[.int .i64 (n : Int), v] w fun e w' => ∃ a cap, e = .returned (.agg #[.int .i64 (n : Int), .slice a (phiN n) cap]) ∧ Sl true w' w.heap.size w'.heap.size (.slice a (phiN n) cap) (phiN n) (fun j => if j < L then divL (cyc n) (phiN n) (L - phiN n) f j else 0) ∧ Below w.heap.size w w' := by
  obtain ⟨a, cap, rfl⟩ := hs.shape
  have hp : phiN n ≤ 60 := by have := phiI_le (n : Int); unfold phiN; omega
  have hp1 := phiN_pos n (by omega) h1
  have HI := Lib.hid hs.bd
  have st0 := (((St.start w).addSl ⟨o, lo, hi, .slice a L cap, L, f⟩ hs).alloc (.cells #[.int .i64 0, .slice none 0 0] 24)).addBox w.heap.size [.int .i64 0, .slice none 0 0] (Box.made _ _ _ _ (fun j v h => by simpa using h))
  clear hs
  go_enter Try.func180, Try.ntmps180
  go_wp2_with fail
  refine (l01Cyclotomic_any n (by omega) h1 _).mono ?_
  rintro e w1 ⟨a1, k1, rfl, s1, b1⟩
  have st1 := (st0.keep b1).addSl ⟨true, _, w1.heap.size, .slice a1 (phiN n + 1) k1, phiN n + 1, cyc n⟩ s1
  have hz1 := b1.size
  simp only [World.size_alloc] at hz1 st1
  clear st0 s1 b1
  have q0 := st1.sl 1 _ rfl
  dsimp only at q0
  go_wp2_with fail
  refine (l01Own_any _ q0 (by omega)).mono ?_
  rintro e w2 ⟨a2, k2, rfl, s2, b2⟩
  have st2 := (st1.keep b2).addSl ⟨true, w1.heap.size, w2.heap.size, .slice a2 L k2, L, f⟩ s2
  have hz2 := b2.size
  clear st1 s2 b2 q0
  go_wp2
  have q1 := st2.sl 1 _ rfl
  have q2 := st2.sl 0 _ rfl
  have bx := st2.box 0 _ rfl
  have B2 := st2.1
  dsimp only at q1 q2 bx
  obtain ⟨g1, off1, c1, hv1, _, hg1', _, _, hcp, _⟩ := q1.at (Nat.succ_pos _)
  obtain ⟨rfl, rfl⟩ : a1 = some ⟨g1, off1, none⟩ ∧ k1 = c1 := by cases hv1; exact ⟨rfl, rfl⟩
  have HCP := Lib.hid hcp
  clear hv1 hcp st2 q1
  go_loopw [8] (fun s8 wr => ∃ (r : Nat) (s : Int) (M R : Nat → Int), s8 = .int .i64 s ∧ s ≤ phiN n + r - 1 ∧ -1 ≤ s ∧ (0 < r → s = phiN n + r - 1 ∧ r + phiN n ≤ L) ∧
      Sl true wr w1.heap.size w2.heap.size (.slice a2 L k2) L R ∧ Frame w1.heap.size w2.heap.size w2 wr ∧
      divL (cyc n) (phiN n) r M = divL (cyc n) (phiN n) (L - phiN n) f ∧ (∀ j, j < L → inR (M j)) ∧ (∀ j, j < L → (j < r + phiN n → R j = M j))) (fun s8 _ => (intOf s8 + 1).toNat)
  case atStart =>
    exact ⟨L - phiN n, (L : Int) - 1, f, f, rfl, by omega, by omega, fun h => ⟨by omega, by omega⟩, q2, Frame.refl _ _ _, rfl, HI.out, fun _ _ _ => rfl⟩
  case round =>
    obtain ⟨r, s, M, R, rfl, hs1, hs2, hs3, hR, hF, hE, hMi, hRM⟩ := hrel
    have HR := Lib.hid hR; clear hR
    have HE := Lib.hid hE; clear hE
    have HMi := Lib.hid hMi; clear hMi
    have HRM := Lib.hid hRM; clear hRM
    have H3 := Lib.hid hs3; clear hs3
    by_cases h0 : 0 < r
    · obtain ⟨hs4, hs5⟩ := H3.out h0
      obtain ⟨k, rfl⟩ : ∃ k, r = k + 1 := ⟨r - 1, by omega⟩
      obtain rfl : s = ((k + phiN n : Nat) : Int) := by omega
      clear hs4
      obtain ⟨g3, off3, c3, hv, _⟩ := HR.out.at (by omega)
      obtain ⟨rfl, rfl⟩ : a2 = some ⟨g3, off3, none⟩ ∧ k2 = c3 := by cases hv; exact ⟨rfl, rfl⟩
      clear hv
      obtain ⟨hg3, hg3', _, hc, _⟩ := HR.out.known (by omega)
      have c0 := hc (k + phiN n) (by omega)
      rw [HRM.out _ (by omega) (by omega)] at c0
      clear hc
      obtain ⟨wo, hwo⟩ : ∃ x : World, x = wr := ⟨_, rfl⟩
      subst hwo
      have hg1w2 : g1 < w2.heap.size := by omega
      go_wp2
      go_loopw [10] (fun s10 wx => ∃ i : Nat, i ≤ phiN n + 1 ∧ s10 = .int .i64 i ∧
          Sl true wx w1.heap.size w2.heap.size (.slice (some ⟨g3, off3, none⟩) L k2) L (fun j => if k ≤ j ∧ j < k + i then wrap64 (R j - wrap64 (M (k + phiN n) * cyc n (j - k))) else R j) ∧
          Frame w1.heap.size w2.heap.size w2 wx) (fun s10 _ => phiN n + 1 - (intOf s10).toNat)
      case atStart => exact ⟨0, Nat.zero_le _, rfl, HR.out.congr (fun j hj => by rw [if_neg (by omega)]), hF⟩
      case round =>
        obtain ⟨i, hid, rfl, hR', hF'⟩ := hrel
        have HR' := Lib.hid hR'; clear hR'
        by_cases hlt : i < phiN n + 1
        · obtain ⟨_, _, _, hc, hz⟩ := HR'.out.known (by omega)
          have c1 := hc (k + i) (by omega)
          rw [if_neg (by omega)] at c1
          have z1 := hz rfl (off3 + (k + i))
          have c2 : wr.cell? ⟨g1, off1 + i, none⟩ = some (.int .i64 (cyc n i)) := by rw [hF'.cell (p := ⟨g1, off1 + i, none⟩) hg1w2 (.inl hg1')]; exact HCP.out i (by omega)
          clear hc hz
          go_wp2
          go_region
          go_wp2
          go_roundw
          case rel =>
            refine ⟨i + 1, by omega, by go_num, ?_, (hF'.setCell hg3 hg3' _).drew⟩
            refine ((HR'.out.store (i := k + i) (by omega) (inR_wrap _)).drew).congr (fun j hj => ?_)
            by_cases e : j = k + i
            · subst e
              rw [if_pos ⟨by omega, by omega⟩, if_pos rfl, Nat.add_sub_cancel_left]
            · rw [if_neg e]
              by_cases e2 : k ≤ j ∧ j < k + i
              · rw [if_pos e2, if_pos (by omega)]
              · rw [if_neg e2, if_neg (by omega)]
          case measure => simp [intOf] <;> omega
        · have e : i = phiN n + 1 := by omega
          subst e
          go_wp2
          go_roundw
          case rel =>
            refine ⟨k, (k : Int) + phiN n - 1, stepD (cyc n) (phiN n) k M, _, by go_num, by omega, by omega, fun h => ⟨by omega, by omega⟩, HR'.out, hF', HE.out, stepD_inR HMi.out, fun j hjL hj => ?_⟩
            by_cases e1 : k ≤ j
            · rw [if_pos ⟨e1, by omega⟩, HRM.out j hjL (by omega), stepD_plain (HMi.out j hjL) e1 hj]
            · rw [if_neg (by omega), HRM.out j hjL (by omega), stepD_low (by omega)]
          case measure => simp [intOf] <;> omega
    · obtain rfl : r = 0 := by omega
      obtain ⟨wo, hwo⟩ : ∃ x : World, x = wr := ⟨_, rfl⟩
      subst hwo
      have hs6 : s < phiN n := by omega
      clear hs1
      have hRL : ∀ j, j < L → j < phiN n → R j = divL (cyc n) (phiN n) (L - phiN n) f j := fun j h1 h2 => by
        rw [HRM.out j h1 (by omega), ← HE.out]; rfl
      have HRL := Lib.hid hRL; clear hRL
      have bxr := bx.keepF hF (.inl (by omega))
      have B3 := B2.trans (hF.below (B := w.heap.size) (by omega) (by omega))
      have hzr := hF.size
      clear hF
      go_wp2_with fail
      refine (l01Zero_any n (by omega) _).mono ?_
      rintro e w4 ⟨a4, k4, rfl, s4, b4⟩
      have HR4 := Lib.hid (HR.out.keep b4 (Nat.le_trans (by omega) hzr))
      have bx4 := bxr.keep b4
      have B4 := B3.trans (b4.mono (by omega))
      have hz4 := b4.size
      have S4 := Lib.hid (s4.alloc (.cells #[.int .i64 (n : Int), .slice a4 (phiN n) k4] 24))
      have HR5 := Lib.hid (HR4.out.alloc (.cells #[.int .i64 (n : Int), .slice a4 (phiN n) k4] 24))
      have BX5 := (Box.made w4 #[.int .i64 (n : Int), .slice a4 (phiN n) k4] 24 [.int .i64 (n : Int), .slice a4 (phiN n) k4] (fun j v h => by simpa using h))
      have bx5 := bx4.keep ((Below.refl _ _).alloc (Nat.le_refl _) (.cells #[.int .i64 (n : Int), .slice a4 (phiN n) k4] 24))
      have B5 := B4.alloc (by omega) (.cells #[.int .i64 (n : Int), .slice a4 (phiN n) k4] 24)
      clear s4 b4 bxr bx bx4
      obtain ⟨wq, hwq⟩ : ∃ x : World, x = w4.alloc (.cells #[.int .i64 (n : Int), .slice a4 (phiN n) k4] 24) := ⟨_, rfl⟩
      have hzq : wq.heap.size = w4.heap.size + 1 := by rw [hwq]; simp
      rw [← hwq] at S4 HR5 BX5 bx5 B5
      obtain ⟨g4, off4, c4, hv4, hg4, hg4', _⟩ := S4.out.at (by omega)
      obtain ⟨rfl, rfl⟩ : a4 = some ⟨g4, off4, none⟩ ∧ k4 = c4 := by cases hv4; exact ⟨rfl, rfl⟩
      clear hv4
      go_wp2
      rw [← hwq]
      clear hwq
      go_loopw [12] (fun s12 wx => ∃ i : Nat, i ≤ phiN n ∧ i ≤ L ∧ s12 = .int .i64 i ∧
          Sl true wx wo.heap.size w4.heap.size (.slice (some ⟨g4, off4, none⟩) (phiN n) k4) (phiN n) (fun j => if j < i then R j else 0) ∧ Frame wo.heap.size w4.heap.size wq wx) (fun s12 _ => phiN n - (intOf s12).toNat)
      case atStart => exact ⟨0, Nat.zero_le _, Nat.zero_le _, rfl, S4.out.congr (fun j _ => by simp), Frame.refl _ _ _⟩
      case round =>
        obtain ⟨i, hi1, hi2, rfl, hO, hFo⟩ := hrel
        have HO := Lib.hid hO; clear hO
        have hx := BX5.keepF hFo (.inr (Nat.le_refl _))
        have hx2 := bx5.keepF hFo (.inl (by omega))
        obtain ⟨x0, x1⟩ := hx.cell2
        obtain ⟨y0, y1⟩ := hx2.cell2
        have yz := hx2.2.2
        have hzw := hFo.size
        by_cases hlt : i < phiN n
        · by_cases hlt2 : i < L
          · obtain ⟨g3, off3, c3, hv, _⟩ := HR5.out.at (by omega)
            obtain ⟨rfl, rfl⟩ : a2 = some ⟨g3, off3, none⟩ ∧ k2 = c3 := by cases hv; exact ⟨rfl, rfl⟩
            clear hv
            have HR6 := HR5.out.keepF hFo (.inl hzr)
            have c0 := (HR6.known (by omega)).2.2.2.1 i hlt2
            obtain ⟨_, _, _, hc, hz⟩ := HO.out.known (by omega)
            have c1 := hc i hlt
            have z1 := hz rfl (off4 + i)
            clear hc hz HR6
            go_wp2
            go_region
            go_wp2
            go_roundw
            case rel =>
              refine ⟨i + 1, by omega, by omega, by go_num, ?_, (hFo.setCell hg4 hg4' _).drew⟩
              refine ((HO.out.store (i := i) hlt ((HR5.out.bd) i hlt2)).drew).congr (fun j hj => ?_)
              by_cases e : j = i
              · subst e; simp
              · have : (j < i + 1) = (j < i) := by simp; omega
                simp [e, this]
            case measure => simp [intOf] <;> omega
          · have e : i = L := by omega
            subst e
            have hd : decide (i < i) = false := by simp
            go_wp2
            refine bodyPost_ret (v := .agg #[.int .i64 (n : Int), .slice (some ⟨g4, off4, none⟩) (phiN n) k4]) (by simp [results, Try.results180, go_sem, y0, y1]) rfl ?_
            have B6 := B5.trans (hFo.below (B := w.heap.size) (by omega) (by omega))
            refine ⟨_, _, rfl, ?_, by go_grown⟩
            refine (((HO.out.congr (fun j hj => ?_)).setOther (.inl (by show w.heap.size < _; omega)) _).setOther (.inl (by show w.heap.size < _; omega)) _).wide (by omega) (by simp; omega) (Nat.le_refl _)
            by_cases ej : j < i
            · rw [if_pos ej, if_pos (by omega), HRL.out j ej hj]
            · rw [if_neg ej, if_neg (by omega)]
        · have e : i = phiN n := by omega
          have hd : decide (i < phiN n) = false := by simp [e]
          go_wp2
          refine bodyPost_ret (v := .agg #[.int .i64 (n : Int), .slice (some ⟨g4, off4, none⟩) (phiN n) k4]) (by simp [results, Try.results180, go_sem, y0, y1]) rfl ?_
          have B6 := B5.trans (hFo.below (B := w.heap.size) (by omega) (by omega))
          refine ⟨_, _, rfl, ?_, by go_grown⟩
          refine (((HO.out.congr (fun j hj => ?_)).setOther (.inl (by show w.heap.size < _; omega)) _).setOther (.inl (by show w.heap.size < _; omega)) _).wide (by omega) (by simp; omega) (Nat.le_refl _)
          by_cases ej : j < L
          · rw [if_pos ej, if_pos (by omega), HRL.out j ej hj]
          · rw [if_neg ej, if_neg (by omega)]

/-- The model's reduction, as the program's. -/
theorem l01Reduce_any (n : Nat) (h1 : 1 ≤ n) (hn : n ≤ 60) (w : World) (hs : Sl o w lo hi v L f) (hL : L ≤ 24) :
    Calls Try.prog 180 #[.int .i64 (n : Int), v] w fun e w' => ∃ a cap, e = .returned (.agg #[.int .i64 (n : Int), .slice a (phiN n) cap]) ∧ Sl true w' w.heap.size w'.heap.size (.slice a (phiN n) cap) (phiN n) (redP n (pad L f)) ∧ Below w.heap.size w w' :=
  (l01Reduce_raw n h1 hn w hs (by omega)).mono fun _ _ ⟨a, cap, he, hs, hb⟩ => ⟨a, cap, he, hs.congr (fun j hj => (red_eq n L f hL j hj).symm), hb⟩
end
end Go.Proofs.Ytnhpodlcgkgpbaa
