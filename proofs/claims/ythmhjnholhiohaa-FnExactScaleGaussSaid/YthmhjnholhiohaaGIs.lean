/- What a Gauss number is; IsGauss of the program and of the model; a row as a number. -/
import Derived.Test.YthmhjnholhiohaaStR
import Derived.Test.YthmhjnholhiohaaPrm
import Derived.Test.YthmhjnholhiohaaZero
import Derived.Test.YthmhjnholhiohaaIs
namespace Go.Proofs.Ythmhjnholhiohaa
open Go.RowKit Go.ChangeShapes Go.Sort Go.WideShapes
set_option linter.unusedVariables false
set_option linter.unusedSimpArgs false

/-- A Gauss number. -/
def GsP (p n : Int) (m : Nat) (ln : Nat → Nat) (F : Nat → Nat → Int) : Prop :=
  PrP p ∧ (m : Int) = p ∧ (∀ i, i < m → CyP n (ln i) (F i)) ∧ ∀ j, j < ln 0 → F 0 j = 0
open Classical in
noncomputable def gsB (p n : Int) (m : Nat) (ln : Nat → Nat) (F : Nat → Nat → Int) : Bool := decide (GsP p n m ln F)
theorem gsB_yes {p n : Int} {m : Nat} {ln : Nat → Nat} {F : Nat → Nat → Int} (h : GsP p n m ln F) : gsB p n m ln F = true := by simp [gsB, h]
theorem gsB_no {p n : Int} {m : Nat} {ln : Nat → Nat} {F : Nat → Nat → Int} (h : ¬ GsP p n m ln F) : gsB p n m ln F = false := by simp [gsB, h]
/-- .. told in natural numbers. -/
theorem GsP.nat {p n : Int} {m : Nat} {ln : Nat → Nat} {F : Nat → Nat → Int} (h : GsP p n m ln F) : ∃ (N : Nat), p = (m : Int) ∧ n = (N : Int) ∧ primeN m = true ∧ 3 ≤ m ∧ m ≤ 61 ∧ 1 ≤ N ∧ N ≤ 16 ∧ (∀ i, i < m → ln i = phiN N) ∧ (∀ i, i < m → CyP (N : Int) (phiN N) (F i)) ∧ (∀ i, i < m → Within (F i) (phiN N) 1000000000) ∧ ∀ j, j < phiN N → F 0 j = 0 := by
  obtain ⟨h1, h2, h3, h4⟩ := h
  have hp : primeN m = true := by have := h1.2; rw [← h2] at this; simpa using this
  have hb := primeN_bd hp
  have h0 := h3 0 (by omega)
  obtain ⟨N, rfl⟩ := Int.eq_ofNat_of_zero_le (show 0 ≤ n by have := h0.1; omega)
  have hl : ∀ i, i < m → ln i = phiN N := fun i hi => (h3 i hi).2.2.1
  have hc : ∀ i, i < m → CyP (N : Int) (phiN N) (F i) := fun i hi => by have := h3 i hi; rwa [hl i hi] at this
  exact ⟨N, h2.symm, rfl, hp, hb.1, hb.2, by have := h0.1; omega, by have := h0.2.1; omega, hl, hc, fun i hi => (hc i hi).2.2.2, fun j hj => h4 j (by rw [hl 0 (by omega)]; exact hj)⟩

section
variable {o : Bool} {lo hi : Nat} {V : Value} {m : Nat} {ln : Nat → Nat} {F : Nat → Nat → Int}

set_option maxRecDepth 100000 in
theorem rowNumber_any (x y : Int) (w : World) (hs : Rw o w lo hi V m ln F) (i : Nat) (hi' : i < m) :
    Calls Try.prog 68 #[.agg #[.int .i64 x, .int .i64 y, V], .int .i64 (i : Int)] w fun e w' => ∃ u, e = .returned (.agg #[.int .i64 y, u]) ∧ Sl o w' lo hi u (ln i) (F i) ∧ Below w.heap.size w w' := by
  obtain ⟨g, off, cap, u, rfl, hr⟩ := hs.at (by omega)
  have hck := hr.head hi'
  have hbk := hr.blk
  have hsz := hr.size
  have hgs : g < w.heap.size := by omega
  obtain ⟨a1, k1, hu⟩ := (hr.row hi').shape
  rw [hu] at hck
  have hrow := hr.row hi'
  rw [hu] at hrow
  have HR := Lib.hid hrow; clear hs hr hu hrow
  have hml : (i : Int) < (m : Int) := by omega
  go_enter Try.func68, Try.ntmps68
  go_wp2
  go_region
  go_wp2
  refine bodyPost_ret (v := .agg #[.int .i64 y, .slice a1 (ln i) k1]) (by simp [results, Try.results68, go_sem]) rfl ?_
  exact ⟨_, rfl, HR.out.keep (B := w.heap.size) (by go_grown) (by omega), by go_grown⟩

set_option maxRecDepth 100000 in
set_option maxHeartbeats 1000000 in
theorem IsGauss_any (x y : Int) (w : World) (hs : Rw o w lo hi V m ln F) :
    Calls Try.prog 20 #[.agg #[.int .i64 x, .int .i64 y, V]] w fun e w' => e = .returned (.bool (gsB x y m ln F)) ∧ Below w.heap.size w w' := by
  obtain ⟨a, cap, rfl⟩ := hs.shape
  have hml := hs.len
  unfold maxLen at hml
  have st0 := ((StR.start w).addRw ⟨o, lo, hi, .slice a m cap, m, ln, F⟩ hs).boxNew3 (.int .i64 x) (.int .i64 y) (.slice a m cap) 27
  have HC := Lib.hid hs.len; clear hs
  go_enter Try.func20, Try.ntmps20
  by_cases hp : PrP x
  · obtain ⟨P, rfl⟩ := Int.eq_ofNat_of_zero_le hp.1
    have hpr : primeN P = true := by have := hp.2; rwa [Int.toNat_natCast] at this
    have hb := primeN_bd hpr
    obtain ⟨c0, c1, c2⟩ := (st0.box 0 (w.heap.size, [.int .i64 (P : Int), .int .i64 y, .slice a m cap]) rfl).c3
    go_wp2_with fail
    refine (isOddPrime_yes P hpr _).mono ?_
    rintro e w1 ⟨rfl, d, rfl⟩
    have st1 := st0.drewN d
    clear st0 c0 c1 c2
    obtain ⟨w1, hw1⟩ : ∃ w1, (w.alloc (.cells #[.int .i64 (P : Int), .int .i64 y, .slice a m cap] 27)).drewN d = w1 := ⟨_, rfl⟩
    rw [hw1] at st1
    simp only [hw1]
    clear hw1
    obtain ⟨c0, c1, c2⟩ := (st1.box 0 (w.heap.size, [.int .i64 (P : Int), .int .i64 y, .slice a m cap]) rfl).c3
    by_cases hmp : m = P
    · subst hmp
      go_wp2
      clear c0 c1 c2
      go_loopw [18] (fun i wr => ∃ k : Nat, k ≤ m ∧ i = .int .i64 k ∧ StR w wr [(w.heap.size, [.int .i64 (m : Int), .int .i64 y, .slice a m cap])] [] [⟨o, lo, hi, .slice a m cap, m, ln, F⟩] ∧ ∀ i, i < k → CyP y (ln i) (F i)) (fun i _ => m - (intOf i).toNat)
      case atStart => exact ⟨0, Nat.zero_le _, rfl, st1, fun i hi => absurd hi (Nat.not_lt_zero _)⟩
      case round =>
        obtain ⟨k, hk, rfl, st, hall⟩ := hrel
        have HA := Lib.hid hall; clear hall
        obtain ⟨c0, c1, c2⟩ := (st.box 0 (w.heap.size, [.int .i64 (m : Int), .int .i64 y, .slice a m cap]) rfl).c3
        by_cases hlt : k < m
        · have hr := st.rw 0 ⟨o, lo, hi, .slice a m cap, m, ln, F⟩ rfl
          go_wp2_with fail
          refine (rowNumber_any _ _ _ hr k hlt).mono ?_
          rintro e w2 ⟨u, rfl, su, b2⟩
          have st2 := st.keep b2
          clear st b2 hr c0 c1 c2
          by_cases hc : CyP y (ln k) (F k)
          · go_wp2_with fail
            refine (IsCyclo_yes _ _ su hc).mono ?_
            rintro e w3 ⟨rfl, b3⟩
            have st3 := st2.keep b3
            clear st2 b3 su
            go_wp2
            go_roundw
            case rel =>
              exact ⟨k + 1, by omega, by go_num, st3, fun i hi => by
                by_cases e : i = k
                · subst e; exact hc
                · exact HA.out i (by omega)⟩
            case measure => simp [intOf]; omega
          · go_wp2_with fail
            refine (IsCyclo_no _ _ su hc).mono ?_
            rintro e w3 ⟨rfl, b3⟩
            have st3 := st2.keep b3
            have HB := st3.1
            clear st2 b3 su st3
            go_wp2
            go_ret
            exact ⟨by rw [gsB_no (fun h => hc (h.2.2.1 k hlt))]; rfl, HB⟩
        · obtain rfl : k = m := by omega
          have hr := st.rw 0 ⟨o, lo, hi, .slice a k cap, k, ln, F⟩ rfl
          have h0 := HA.out 0 (by omega)
          go_wp2_with fail
          refine (rowNumber_any _ _ _ hr 0 (by omega)).mono ?_
          rintro e w2 ⟨u, rfl, su, b2⟩
          have st2 := st.keep b2
          clear st b2 hr c0 c1 c2
          obtain ⟨N, hN⟩ := Int.eq_ofNat_of_zero_le (show 0 ≤ y by have := h0.1; omega)
          have hl0 : ln 0 = phiN N := by have := h0.2.2.1; rw [hN] at this; exact this
          have h12 := phi_le12 N (by have := h0.2.1; omega) (by have := h0.1; omega)
          have hL0 : 0 < ln 0 := by rw [hl0]; exact phiN_pos N (by have := h0.2.1; omega) (by have := h0.1; omega)
          have hL12 : ln 0 ≤ 12 := by rw [hl0]; exact h12
          clear hN hl0
          go_wp2_with fail
          refine (isZero_any _ _ su hL0 hL12).mono ?_
          rintro e w3 ⟨rfl, b3⟩
          have st3 := st2.keep b3
          have HB := st3.1
          clear st2 b3 su st3
          go_wp2
          go_ret
          refine ⟨?_, HB⟩
          by_cases hz : ∀ j, j < ln 0 → F 0 j = 0
          · rw [gsB_yes ⟨hp, rfl, HA.out, hz⟩]
            have : zeroB (ln 0) (F 0) = true := by unfold zeroB eqB; simpa using hz
            rw [this]; rfl
          · rw [gsB_no (fun h => hz h.2.2.2)]
            have : zeroB (ln 0) (F 0) = false := by unfold zeroB eqB; simpa using hz
            rw [this]; rfl
    · have hne : ¬ (m : Int) = (P : Int) := by omega
      have HB := st1.1
      go_wp2
      go_ret
      exact ⟨by rw [gsB_no (fun h => hne h.2.1)]; rfl, HB⟩
  · obtain ⟨c0, c1, c2⟩ := (st0.box 0 (w.heap.size, [.int .i64 x, .int .i64 y, .slice a m cap]) rfl).c3
    have HP := Lib.hid hp; clear hp
    go_wp2_with fail
    refine (isOddPrime_no x HP.out _).mono ?_
    rintro e w1 ⟨rfl, d, rfl⟩
    go_wp2
    go_ret
    exact ⟨by rw [gsB_no (fun h => HP.out h.1)]; rfl, (st0.drewN d).1⟩
end
end Go.Proofs.Ythmhjnholhiohaa
