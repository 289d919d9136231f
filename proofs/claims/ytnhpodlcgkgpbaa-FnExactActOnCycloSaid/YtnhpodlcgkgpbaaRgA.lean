/- Residues up to 40: residuesOf of the program, l10Residues of the model; places; inverses. -/
import Derived.Test.YtnhpodlcgkgpbaaRow
import Derived.Test.YtnhpodlcgkgpbaaLeaf
import Derived.Test.YtnhpodlcgkgpbaaRgF
namespace Go.Proofs.Ytnhpodlcgkgpbaa
open Go.RowKit Go.ChangeShapes Go.Sort
set_option linter.unusedVariables false
set_option linter.unusedSimpArgs false

set_option maxRecDepth 100000 in
set_option maxHeartbeats 1000000 in
theorem residuesOf40 (n : Nat) (h1 : 1 ≤ n) (h2 : n ≤ 40) (w : World) :
    Calls Try.prog 118 #[.int .i64 (n : Int)] w fun e w' => ∃ (g cap : Nat), e = .returned (.slice (some ⟨g, 0, none⟩) (phiN n) cap) ∧ Sl true w' w.heap.size w'.heap.size (.slice (some ⟨g, 0, none⟩) (phiN n) cap) (phiN n) (fun k => (res n k : Int)) ∧ Below w.heap.size w w' := by
  have R1 := Row.made w w.heap.size (fun k => (res n k : Int)) (Nat.le_refl _)
  have st0 := (St.start w).alloc (.cells #[] 2)
  have HR1 := Lib.hid R1
  have HST := Lib.hid st0
  clear R1 st0
  go_enter Try.func118, Try.ntmps118
  go_wp2
  go_loopw [3, 4] (fun s3 s4 wr => ∃ (k g cap : Nat), k ≤ n ∧ s3 = .slice (some ⟨g, 0, none⟩) (phiTo n k) cap ∧ s4 = .int .i64 ((k : Int) + 1) ∧ Row wr w.heap.size g cap (phiTo n k) (fun k => (res n k : Int)) ∧ St w wr [] []) (fun _ s4 _ => n + 1 - (intOf s4).toNat)
  case atStart => exact ⟨0, _, _, Nat.zero_le _, rfl, rfl, HR1.out, HST.out⟩
  case round =>
    clear HR1 HST
    obtain ⟨k, g, cap, hk, rfl, rfl, hr, hst⟩ := hrel
    have R1 := Lib.hid hr; clear hr
    have HT := Lib.hid hst; clear hst
    obtain ⟨hl, hl'⟩ := R1.out.lt
    have hle := phiTo_le (n : Int) k
    by_cases hlt : k < n
    · by_cases hg : gcdI ((k : Int) + 1) n = 1
      · have hb : (gcdI ((k : Int) + 1) n == 1) = true := beq_iff_eq.2 hg
        have HS := Lib.hid (phiTo_yes (n : Int) k hg)
        have HA := Lib.hid (res_at40 n (by omega) h1 k hlt hg)
        clear hg
        go_wp2_with (first
          | (go_at_call 173; refine (commonDivisor_any _ _ _ (by omega) (by omega) (by omega) (by omega)).mono ?_; rintro e w' ⟨rfl, m', rfl⟩)
          | (at_builtin; refine wpList_push rfl (.tmp 15) (.tmp 17) rfl rfl w.heap.size g cap (phiTo n k) (fun k => (res n k : Int)) rfl ((show Row (wr.drewN m') w.heap.size g cap (phiTo n k) (fun k => (res n k : Int)) from R1.out).alloc _) wr.heap.size ((k : Int) + 1) rfl (heap_alloc_new (wr.drewN m') _) (by omega) ?_; intro gA kA wA rowA grA orA ltA
             have stA := Lib.hid (((HT.out.drewN m').alloc (.cells #[.int .i64 ((k : Int) + 1)] 2)).write (Frame.ofGrown grA) (by omega) (by intro b hb; cases hb) (by intro s hs'; cases hs'))
             have RA := Lib.hid rowA
             clear rowA grA))
        go_roundw
        case rel =>
          refine ⟨k + 1, gA, kA, by omega, by rw [HS.out], by go_num, ?_, stA.out⟩
          rw [HS.out]
          exact RA.out.congr (fun j hj => by
            by_cases e : j < phiTo n k
            · rw [if_pos e]
            · rw [if_neg e, show j = phiTo n k by omega, HA.out]; simp)
        case measure => simp [intOf] <;> omega
      · have hb : (gcdI ((k : Int) + 1) n == 1) = false := beq_eq_false_iff_ne.2 hg
        have HS := Lib.hid (phiTo_no (n : Int) k hg)
        clear hg
        go_wp2_with (first
          | (go_at_call 173; refine (commonDivisor_any _ _ _ (by omega) (by omega) (by omega) (by omega)).mono ?_; rintro e w' ⟨rfl, m', rfl⟩))
        go_roundw
        case rel => exact ⟨k + 1, g, cap, by omega, by rw [HS.out], by go_num, by rw [HS.out]; exact R1.out, HT.out.drewN _⟩
        case measure => simp [intOf] <;> omega
    · obtain rfl : k = n := by omega
      have HP := Lib.hid (phiTo_all k)
      go_wp2
      go_ret
      refine ⟨g, cap, by rw [HP.out]; rfl, ?_, HT.out.1⟩
      rw [← HP.out]
      exact Sl.ofRowF R1.out (fun j hj => by have := res_ok40 k (by omega) h1 j (by rw [← HP.out]; exact hj); unfold inR; omega) (by unfold maxLen; omega)

set_option maxRecDepth 100000 in
set_option maxHeartbeats 1000000 in
theorem l10Residues_any (n : Nat) (h1 : 1 ≤ n) (h2 : n ≤ 40) (w : World) :
    Calls Try.prog 112 #[.int .i64 (n : Int)] w fun e w' => ∃ (g cap : Nat), e = .returned (.slice (some ⟨g, 0, none⟩) (phiN n) cap) ∧ Sl true w' w.heap.size w'.heap.size (.slice (some ⟨g, 0, none⟩) (phiN n) cap) (phiN n) (fun k => (res n k : Int)) ∧ Below w.heap.size w w' := by
  have R1 := Row.made w w.heap.size (fun k => (res n k : Int)) (Nat.le_refl _)
  have st0 := (St.start w).alloc (.cells #[] 2)
  have HR1 := Lib.hid R1
  have HST := Lib.hid st0
  clear R1 st0
  go_enter Try.func112, Try.ntmps112
  go_wp2
  go_loopw [3, 4] (fun s3 s4 wr => ∃ (k g cap : Nat), k ≤ n ∧ s3 = .slice (some ⟨g, 0, none⟩) (phiTo n k) cap ∧ s4 = .int .i64 ((k : Int) + 1) ∧ Row wr w.heap.size g cap (phiTo n k) (fun k => (res n k : Int)) ∧ St w wr [] []) (fun _ s4 _ => n + 1 - (intOf s4).toNat)
  case atStart => exact ⟨0, _, _, Nat.zero_le _, rfl, rfl, HR1.out, HST.out⟩
  case round =>
    clear HR1 HST
    obtain ⟨k, g, cap, hk, rfl, rfl, hr, hst⟩ := hrel
    have R1 := Lib.hid hr; clear hr
    have HT := Lib.hid hst; clear hst
    obtain ⟨hl, hl'⟩ := R1.out.lt
    have hle := phiTo_le (n : Int) k
    by_cases hlt : k < n
    · by_cases hg : gcdI ((k : Int) + 1) n = 1
      · have hb : (gcdI ((k : Int) + 1) n == 1) = true := beq_iff_eq.2 hg
        have HS := Lib.hid (phiTo_yes (n : Int) k hg)
        have HA := Lib.hid (res_at40 n (by omega) h1 k hlt hg)
        clear hg
        go_wp2_with (first
          | (go_at_call 124; refine (l01Gcd_any _ _ _ (by omega) (by omega) (by omega) (by omega)).mono ?_; rintro e w' ⟨rfl, rfl⟩)
          | (at_builtin; refine wpList_push rfl (.tmp 15) (.tmp 17) rfl rfl w.heap.size g cap (phiTo n k) (fun k => (res n k : Int)) rfl ((show Row wr w.heap.size g cap (phiTo n k) (fun k => (res n k : Int)) from R1.out).alloc _) wr.heap.size ((k : Int) + 1) rfl (heap_alloc_new wr _) (by omega) ?_; intro gA kA wA rowA grA orA ltA
             have stA := Lib.hid (((HT.out).alloc (.cells #[.int .i64 ((k : Int) + 1)] 2)).write (Frame.ofGrown grA) (by omega) (by intro b hb; cases hb) (by intro s hs'; cases hs'))
             have RA := Lib.hid rowA
             clear rowA grA))
        go_roundw
        case rel =>
          refine ⟨k + 1, gA, kA, by omega, by rw [HS.out], by go_num, ?_, stA.out⟩
          rw [HS.out]
          exact RA.out.congr (fun j hj => by
            by_cases e : j < phiTo n k
            · rw [if_pos e]
            · rw [if_neg e, show j = phiTo n k by omega, HA.out]; simp)
        case measure => simp [intOf] <;> omega
      · have hb : (gcdI ((k : Int) + 1) n == 1) = false := beq_eq_false_iff_ne.2 hg
        have HS := Lib.hid (phiTo_no (n : Int) k hg)
        clear hg
        go_wp2_with (first
          | (go_at_call 124; refine (l01Gcd_any _ _ _ (by omega) (by omega) (by omega) (by omega)).mono ?_; rintro e w' ⟨rfl, rfl⟩))
        go_roundw
        case rel => exact ⟨k + 1, g, cap, by omega, by rw [HS.out], by go_num, by rw [HS.out]; exact R1.out, HT.out⟩
        case measure => simp [intOf] <;> omega
    · obtain rfl : k = n := by omega
      have HP := Lib.hid (phiTo_all k)
      go_wp2
      go_ret
      refine ⟨g, cap, by rw [HP.out]; rfl, ?_, HT.out.1⟩
      rw [← HP.out]
      exact Sl.ofRowF R1.out (fun j hj => by have := res_ok40 k (by omega) h1 j (by rw [← HP.out]; exact hj); unfold inR; omega) (by unfold maxLen; omega)

set_option maxRecDepth 100000 in
theorem l10Place_any (n k : Nat) (h2 : 2 ≤ n) (h40 : n ≤ 40) (hk : k < phiN n) (w : World) {lo hi : Nat} {v : Value} (hs : Sl true w lo hi v (phiN n) (fun k => (res n k : Int))) :
    Calls Try.prog 113 #[v, .int .i64 (res n k : Int)] w fun e w' => e = .returned (.int .i64 (k : Int)) ∧ w = w' := by
  obtain ⟨g, off, cap, rfl, _, _, _, _, hc, _⟩ := hs.at (by omega)
  have hp := phi_le40 n (by omega)
  have HC := Lib.hid hc; clear hc hs
  have HI := Lib.hid (fun j (hj : j < phiN n) (e : res n j = res n k) => res_inj40 (n := n) (by omega) h2 hj hk e)
  go_enter Try.func113, Try.ntmps113
  go_wp2
  go_loop [5] (fun i => ∃ j : Nat, j ≤ k ∧ i = .int .i64 j) (fun i => phiN n - (intOf i).toNat)
  case atStart => exact ⟨0, Nat.zero_le _, rfl⟩
  case round =>
    obtain ⟨j, hj, rfl⟩ := hrel
    have hcj := HC.out j (by omega)
    have hjn : (j : Int) < (phiN n : Int) := by omega
    by_cases e : j = k
    · subst e
      have hb : (((res n j : Nat) : Int) == ((res n j : Nat) : Int)) = true := beq_self_eq_true _
      go_wp2
      go_ret
      exact ⟨rfl, rfl⟩
    · have hb : (((res n j : Nat) : Int) == ((res n k : Nat) : Int)) = false := beq_eq_false_iff_ne.2 (fun g => e (HI.out j (by omega) (by omega)))
      go_wp2
      go_round
      case rel => exact ⟨j + 1, by omega, by go_num⟩
      case measure => simp [intOf]; omega

set_option maxRecDepth 100000 in
theorem inverseResidue_any (n k : Nat) (h2 : 2 ≤ n) (h40 : n ≤ 40) (hk : k < phiN n) (w : World) :
    Calls Try.prog 172 #[.int .i64 (res n k : Int), .int .i64 (n : Int)] w fun e w' => e = .returned (.int .i64 (invR n (res n k) : Int)) ∧ ∃ m, w' = w.drewN m := by
  have hi := inv_ok40 n (by omega) h2 k hk
  have HF := Lib.hid (inv_first40 n (by omega) h2 k hk)
  have hr := (res_lt40 (n := n) (by omega) h2 hk).2.1
  have HI1 := Lib.hid hi.1
  obtain ⟨_, hi2, hi3⟩ := hi
  generalize invR n (res n k) = q at *
  generalize res n k = r at *
  go_enter Try.func172, Try.ntmps172
  go_wp2
  go_loopw [5] (fun s5 wr => ∃ j : Nat, 1 ≤ j ∧ j ≤ q ∧ s5 = .int .i64 (j : Int) ∧ ∃ m, wr = w.drewN m) (fun s5 _ => n - (intOf s5).toNat)
  case atStart => exact ⟨1, by omega, by omega, rfl, 0, rfl⟩
  case round =>
    obtain ⟨j, hj1, hj, rfl, m, rfl⟩ := hrel
    have hjn : (j : Int) < (n : Int) := by omega
    have hm1 : r * j ≤ 1600 := Nat.le_trans (Nat.mul_le_mul (show r ≤ 40 by omega) (show j ≤ 40 by omega)) (by omega)
    have hm2 : ((r * j : Nat) : Int) = (r : Int) * j := Int.natCast_mul _ _
    have hm3 : ((r * j % n : Nat) : Int) = (r : Int) * j % n := by rw [Int.natCast_emod, hm2]
    have hm4 : ((r : Int) * j).tmod n = (r : Int) * j % n := Int.tmod_eq_emod_of_nonneg (by rw [← hm2]; omega)
    have hb0 : 0 ≤ (r : Int) * j := by omega
    have hb1 : (r : Int) * j ≤ 1600 := by omega
    by_cases e : j = q
    · have hx : (r : Int) * j % n = 1 := by rw [← hm3, e, HI1.out]; rfl
      have hy := hm4.trans hx
      have hb : ((r : Int) * j % n == 1) = true := by rw [hx]; rfl
      have hb' : (((r : Int) * j).tmod n == 1) = true := by rw [hy]; rfl
      have HE := Lib.hid e
      clear e hm3 hm4 hm2 hx hy
      go_wp2
      go_ret
      exact ⟨by rw [HE.out]; rfl, _, rfl⟩
    · have hne : ¬ (r : Int) * j % n = 1 := by
        rw [← hm3]
        have := HF.out j (by omega)
        omega
      have hb : ((r : Int) * j % n == 1) = false := beq_eq_false_iff_ne.2 hne
      have hb' : (((r : Int) * j).tmod n == 1) = false := by rw [hm4]; exact hb
      clear hm3 hm4 hm2
      go_wp2
      go_roundw
      case rel => exact ⟨j + 1, by omega, by omega, by go_num, _, rfl⟩
      case measure => simp [intOf] <;> omega

set_option maxRecDepth 100000 in
theorem l10Inverse_any (n k : Nat) (h2 : 2 ≤ n) (h40 : n ≤ 40) (hk : k < phiN n) (w : World) :
    Calls Try.prog 114 #[.int .i64 (n : Int), .int .i64 (res n k : Int)] w fun e w' => e = .returned (.int .i64 (invR n (res n k) : Int)) ∧ ∃ m, w' = w.drewN m := by
  have hi := inv_ok40 n (by omega) h2 k hk
  have HF := Lib.hid (inv_first40 n (by omega) h2 k hk)
  have hr := (res_lt40 (n := n) (by omega) h2 hk).2.1
  have HI1 := Lib.hid hi.1
  obtain ⟨_, hi2, hi3⟩ := hi
  generalize invR n (res n k) = q at *
  generalize res n k = r at *
  go_enter Try.func114, Try.ntmps114
  go_wp2
  go_loopw [5] (fun s5 wr => ∃ j : Nat, 1 ≤ j ∧ j ≤ q ∧ s5 = .int .i64 (j : Int) ∧ ∃ m, wr = w.drewN m) (fun s5 _ => n - (intOf s5).toNat)
  case atStart => exact ⟨1, by omega, by omega, rfl, 0, rfl⟩
  case round =>
    obtain ⟨j, hj1, hj, rfl, m, rfl⟩ := hrel
    have hjn : (j : Int) < (n : Int) := by omega
    have hm1 : r * j ≤ 1600 := Nat.le_trans (Nat.mul_le_mul (show r ≤ 40 by omega) (show j ≤ 40 by omega)) (by omega)
    have hm2 : ((r * j : Nat) : Int) = (r : Int) * j := Int.natCast_mul _ _
    have hm3 : ((r * j % n : Nat) : Int) = (r : Int) * j % n := by rw [Int.natCast_emod, hm2]
    have hm4 : ((r : Int) * j).tmod n = (r : Int) * j % n := Int.tmod_eq_emod_of_nonneg (by rw [← hm2]; omega)
    have hb0 : 0 ≤ (r : Int) * j := by omega
    have hb1 : (r : Int) * j ≤ 1600 := by omega
    by_cases e : j = q
    · have hx : (r : Int) * j % n = 1 := by rw [← hm3, e, HI1.out]; rfl
      have hy := hm4.trans hx
      have hb : ((r : Int) * j % n == 1) = true := by rw [hx]; rfl
      have hb' : (((r : Int) * j).tmod n == 1) = true := by rw [hy]; rfl
      have HE := Lib.hid e
      clear e hm3 hm4 hm2 hx hy
      go_wp2
      go_ret
      exact ⟨by rw [HE.out]; rfl, _, rfl⟩
    · have hne : ¬ (r : Int) * j % n = 1 := by
        rw [← hm3]
        have := HF.out j (by omega)
        omega
      have hb : ((r : Int) * j % n == 1) = false := beq_eq_false_iff_ne.2 hne
      have hb' : (((r : Int) * j).tmod n == 1) = false := by rw [hm4]; exact hb
      clear hm3 hm4 hm2
      go_wp2
      go_roundw
      case rel => exact ⟨j + 1, by omega, by omega, by go_num, _, rfl⟩
      case measure => simp [intOf] <;> omega

theorem isModulus_yes (x : Int) (w : World) (h : 2 ≤ x) (h' : x ≤ 40) :
    Calls Try.prog 117 #[.int .i64 x] w fun e w' => e = .returned (.bool true) ∧ w = w' := by
  go_enter Try.func117, Try.ntmps117
  go_wp2
  go_ret
  exact ⟨rfl, rfl⟩
theorem isModulus_no (x : Int) (w : World) (h : x < 2 ∨ 40 < x) :
    Calls Try.prog 117 #[.int .i64 x] w fun e w' => e = .returned (.bool false) ∧ w = w' := by
  by_cases h1 : x < 2
  · clear h
    go_enter Try.func117, Try.ntmps117
    go_wp2
    go_ret
    exact ⟨rfl, rfl⟩
  · have h2 : 40 < x := by omega
    have h3 : 2 ≤ x := by omega
    clear h h1
    go_enter Try.func117, Try.ntmps117
    go_wp2
    go_ret
    exact ⟨by simp; omega, rfl⟩
end Go.Proofs.Ytnhpodlcgkgpbaa
