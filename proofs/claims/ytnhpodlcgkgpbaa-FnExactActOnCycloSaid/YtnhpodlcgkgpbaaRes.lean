/- The residues of an order as lists: residuesOf of the program. -/
import Derived.Test.YtnhpodlcgkgpbaaFin
import Derived.Test.YtnhpodlcgkgpbaaGalZ
namespace Go.Proofs.Ytnhpodlcgkgpbaa
open Go.RowKit Go.ChangeShapes Go.Sort
set_option linter.unusedVariables false
set_option linter.unusedSimpArgs false

set_option maxRecDepth 100000 in
set_option maxHeartbeats 1000000 in
theorem residuesOf_any (n : Nat) (h1 : 1 ≤ n) (h2 : n ≤ 16) (w : World) :
    Calls Try.prog 118 #[.int .i64 (n : Int)] w fun e w' => ∃ (g cap : Nat), e = .returned (.slice (some ⟨g, 0, none⟩) (phiN n) cap) ∧ Sl true w' w.heap.size w'.heap.size (.slice (some ⟨g, 0, none⟩) (phiN n) cap) (phiN n) (fun k => (res n k : Int)) ∧ Below w.heap.size w w' := by
  have R1 := Row.made w w.heap.size (fun k => (res n k : Int)) (Nat.le_refl _)
  have st0 := (St.start w).alloc (.cells #[] 2)
  have HR1 := Lib.hid R1
  have HST := Lib.hid st0
  clear R1 st0
  go_enter Try.func118, Try.ntmps118
  go_wp2
  go_loopw [3, 4] (fun s3 s4 wr => ∃ (k g cap : Nat), k ≤ n ∧ s3 = .slice (some ⟨g, 0, none⟩) (phiTo n k) cap ∧ s4 = .int .i64 ((k : Int) + 1) ∧ Row wr w.heap.size g cap (phiTo n k) (fun k => (res n k : Int)) ∧ St w wr [] []) (fun _ s4 _ => n + 1 - (intOf s4).toNat)
  case atStart => exact ⟨0, _, _, Nat.zero_le _, rfl, rfl, HR1.out, HST.out⟩
  case round =>
    clear HR1 HST
    obtain ⟨k, g, cap, hk, rfl, rfl, hr, hst⟩ := hrel
    have R1 := Lib.hid hr; clear hr
    have HT := Lib.hid hst; clear hst
    obtain ⟨hl, hl'⟩ := R1.out.lt
    have hle := phiTo_le (n : Int) k
    by_cases hlt : k < n
    · by_cases hg : gcdI ((k : Int) + 1) n = 1
      · have hb : (gcdI ((k : Int) + 1) n == 1) = true := beq_iff_eq.2 hg
        have HS := Lib.hid (phiTo_yes (n : Int) k hg)
        have HA := Lib.hid (res_at n (by omega) h1 k hlt hg)
        clear hg
        go_wp2_with (first
          | (go_at_call 173; refine (commonDivisor_any _ _ _ (by omega) (by omega) (by omega) (by omega)).mono ?_; rintro e w' ⟨rfl, m', rfl⟩)
          | (at_builtin; refine wpList_push rfl (.tmp 15) (.tmp 17) rfl rfl w.heap.size g cap (phiTo n k) (fun k => (res n k : Int)) rfl ((show Row (wr.drewN m') w.heap.size g cap (phiTo n k) (fun k => (res n k : Int)) from R1.out).alloc _) wr.heap.size ((k : Int) + 1) rfl (heap_alloc_new (wr.drewN m') _) (by omega) ?_; intro gA kA wA rowA grA orA ltA
             have stA := Lib.hid (((HT.out.drewN m').alloc (.cells #[.int .i64 ((k : Int) + 1)] 2)).write (Frame.ofGrown grA) (by omega) (by intro b hb; cases hb) (by intro s hs'; cases hs'))
             have RA := Lib.hid rowA
             clear rowA grA))
        go_roundw
        case rel =>
          refine ⟨k + 1, gA, kA, by omega, by rw [HS.out], by go_num, ?_, stA.out⟩
          rw [HS.out]
          exact RA.out.congr (fun j hj => by
            by_cases e : j < phiTo n k
            · rw [if_pos e]
            · rw [if_neg e, show j = phiTo n k by omega, HA.out]; simp)
        case measure => simp [intOf] <;> omega
      · have hb : (gcdI ((k : Int) + 1) n == 1) = false := beq_eq_false_iff_ne.2 hg
        have HS := Lib.hid (phiTo_no (n : Int) k hg)
        clear hg
        go_wp2_with (first
          | (go_at_call 173; refine (commonDivisor_any _ _ _ (by omega) (by omega) (by omega) (by omega)).mono ?_; rintro e w' ⟨rfl, m', rfl⟩))
        go_roundw
        case rel => exact ⟨k + 1, g, cap, by omega, by rw [HS.out], by go_num, by rw [HS.out]; exact R1.out, HT.out.drewN _⟩
        case measure => simp [intOf] <;> omega
    · obtain rfl : k = n := by omega
      have HP := Lib.hid (phiTo_all k)
      go_wp2
      go_ret
      refine ⟨g, cap, by rw [HP.out]; rfl, ?_, HT.out.1⟩
      rw [← HP.out]
      exact Sl.ofRowF R1.out (fun j hj => by have := res_ok k (by omega) h1 j (by rw [← HP.out]; exact hj); unfold inR; omega) (by unfold maxLen; omega)
end Go.Proofs.Ytnhpodlcgkgpbaa
