/- IsInField of the model. -/
import Derived.Test.YtloalhcloifgjaaField
import Derived.BigQuiet
namespace Go.Proofs.Ytloalhcloifgjaa
open Go.RowKit Go.ChangeShapes Go.Sort
set_option linter.unusedVariables false
set_option linter.unusedSimpArgs false

theorem gcdI_le (a b : Int) (ha : 1 ≤ a) : gcdI a b ≤ a := by
  unfold gcdI
  have := Nat.gcd_le_left b.toNat (show 0 < a.toNat by omega)
  omega

section
variable {o : Bool} {lo hi L : Nat} {v : Value} {f : Nat → Int}
theorem IsInField_spec_bad (x m : Int) (w : World) (hs : Sl o w lo hi v L f) (h : ¬ CyP x L f) :
    Calls Try.prog 117 #[.agg #[.int .i64 x, v], .int .i64 m] w fun e w' => e = .returned (noV 1) ∧ Below w.heap.size w w' := by
  obtain ⟨av, cap, rfl⟩ := hs.shape
  have st0 := ((((St.start w).addSl ⟨o, lo, hi, .slice av L cap, L, f⟩ hs).alloc (.cells #[.int .i64 x, .slice av L cap] 26)).addBox w.heap.size [.int .i64 x, .slice av L cap] (Box.made _ _ _ _ (fun j v h => by simpa using h)))
  have q0 := st0.sl 0 ⟨o, lo, hi, .slice av L cap, L, f⟩ rfl
  dsimp only at q0
  have HC := Lib.hid h
  clear h hs
  go_enter Try.func117, Try.ntmps117
  go_wp2_with fail
  refine (l01Is_no _ _ q0 HC.out).mono ?_
  rintro e w1 ⟨rfl, b1⟩
  clear q0
  have st1 := st0.keep b1
  have hz_w1 := b1.size
  try simp only [World.size_alloc] at hz_w1
  clear st0 b1
  have BB := st1.1
  go_wp2
  refine bodyPost_ret (v := noV 1) (by simp [results, Try.results117, go_sem, noV]) rfl ?_
  exact ⟨rfl, BB⟩

theorem IsInField_spec_out (n : Nat) (m : Int) (w : World) (hs : Sl o w lo hi v L f) (h : CyP n L f) (hm : m < 1 ∨ (n : Int) < m) :
    Calls Try.prog 117 #[.agg #[.int .i64 (n : Int), v], .int .i64 m] w fun e w' => e = .returned (noV 2) ∧ Below w.heap.size w w' := by
  have H := Lib.hid hm
  clear hm
  obtain ⟨av, cap, rfl⟩ := hs.shape
  have hn1 : 1 ≤ n := by have := h.1; omega
  have hn2 : n ≤ 16 := by have := h.2.1; omega
  have hp := phi_le12 n hn2 hn1
  have hL : L ≤ 12 := by have e : L = phiN n := h.2.2.1; omega
  have st0 := ((((St.start w).addSl ⟨o, lo, hi, .slice av L cap, L, f⟩ hs).alloc (.cells #[.int .i64 (n : Int), .slice av L cap] 26)).addBox w.heap.size [.int .i64 (n : Int), .slice av L cap] (Box.made _ _ _ _ (fun j v h => by simpa using h)))
  have q0 := st0.sl 0 ⟨o, lo, hi, .slice av L cap, L, f⟩ rfl
  dsimp only at q0
  have HC := Lib.hid h
  clear h hs
  go_enter Try.func117, Try.ntmps117
  go_wp2_with fail
  refine (l01Is_yes _ _ q0 HC.out).mono ?_
  rintro e w1 ⟨rfl, b1⟩
  clear q0
  have st1 := st0.keep b1
  have hz_w1 := b1.size
  try simp only [World.size_alloc] at hz_w1
  clear st0 b1
  have BB := st1.1
  obtain ⟨c0, c1⟩ := (st1.box 0 (w.heap.size, [.int .i64 (n : Int), .slice av L cap]) rfl).cell2
  go_wp2_with (go_at_call 137; refine (l01In_no _ _ _ _ H.out).mono ?_; rintro e w' ⟨rfl, rfl⟩)
  refine bodyPost_ret (v := noV 2) (by simp [results, Try.results117, go_sem, noV]) rfl ?_
  exact ⟨rfl, BB⟩

theorem IsInField_spec_rest (n : Nat) (m : Int) (w : World) (hs : Sl o w lo hi v L f) (h : CyP n L f) (hm : 1 ≤ m) (hmn : m ≤ n) (hd : ¬ (n : Int) % m = 0) :
    Calls Try.prog 117 #[.agg #[.int .i64 (n : Int), v], .int .i64 m] w fun e w' => e = .returned (noV 2) ∧ Below w.heap.size w w' := by
  obtain ⟨av, cap, rfl⟩ := hs.shape
  have hn1 : 1 ≤ n := by have := h.1; omega
  have hn2 : n ≤ 16 := by have := h.2.1; omega
  have hp := phi_le12 n hn2 hn1
  have hL : L ≤ 12 := by have e : L = phiN n := h.2.2.1; omega
  have st0 := ((((St.start w).addSl ⟨o, lo, hi, .slice av L cap, L, f⟩ hs).alloc (.cells #[.int .i64 (n : Int), .slice av L cap] 26)).addBox w.heap.size [.int .i64 (n : Int), .slice av L cap] (Box.made _ _ _ _ (fun j v h => by simpa using h)))
  have q0 := st0.sl 0 ⟨o, lo, hi, .slice av L cap, L, f⟩ rfl
  dsimp only at q0
  have HC := Lib.hid h
  clear h hs
  have hb : ((n : Int) % m != 0) = true := by simpa using hd
  have hb' : ((n : Int) % m == 0) = false := by simpa using hd
  clear hd
  go_enter Try.func117, Try.ntmps117
  go_wp2_with fail
  refine (l01Is_yes _ _ q0 HC.out).mono ?_
  rintro e w1 ⟨rfl, b1⟩
  clear q0
  have st1 := st0.keep b1
  have hz_w1 := b1.size
  try simp only [World.size_alloc] at hz_w1
  clear st0 b1
  have BB := st1.1
  obtain ⟨c0, c1⟩ := (st1.box 0 (w.heap.size, [.int .i64 (n : Int), .slice av L cap]) rfl).cell2
  go_wp2_with (go_at_call 137; refine (l01In_yes _ _ _ _ (by omega) (by omega)).mono ?_; rintro e w' ⟨rfl, rfl⟩)
  refine bodyPost_ret (v := noV 2) (by simp [results, Try.results117, go_sem, noV]) rfl ?_
  exact ⟨rfl, BB⟩

set_option maxRecDepth 100000 in
set_option maxHeartbeats 2000000 in
theorem IsInField_spec_ok (n m : Nat) (w : World) (hs : Sl o w lo hi v L f) (h : CyP n L f) (hm1 : 1 ≤ m) (hd : n % m = 0) :
    Calls Try.prog 117 #[.agg #[.int .i64 (n : Int), v], .int .i64 (m : Int)] w fun e w' => e = .returned (.tuple #[.bool (fieldB n L m f), .int .i64 0]) ∧ Below w.heap.size w w' := by
  have eL : L = phiN n := h.2.2.1
  have hhs := hs.size
  obtain ⟨av, cap, rfl⟩ := hs.shape
  have hn1 : 1 ≤ n := by have := h.1; omega
  have hn2 : n ≤ 16 := by have := h.2.1; omega
  have hp := phi_le12 n hn2 hn1
  have hL : L ≤ 12 := by have e : L = phiN n := h.2.2.1; omega
  have hmn : m ≤ n := Nat.le_of_dvd (by omega) (Nat.dvd_of_mod_eq_zero hd)
  have hdd : (n : Int) % (m : Int) = 0 := by omega
  clear hd
  subst eL
  have HQ := Lib.hid (fun a : Nat => show redP n (foldP (ixG n (a : Int)) f (phiN n)) = imgP n a (phiN n) f from by unfold imgP; rw [foldP_congr (fun i hi => ⟨ixG_nat n a i hn1, rfl⟩)])
  have st0 := ((((St.start w).addSl ⟨o, lo, hi, .slice av (phiN n) cap, phiN n, f⟩ hs).alloc (.cells #[.int .i64 (n : Int), .slice av (phiN n) cap] 26)).addBox w.heap.size [.int .i64 (n : Int), .slice av (phiN n) cap] (Box.made _ _ _ _ (fun j v h => by simpa using h)))
  have q0 := st0.sl 0 ⟨o, lo, hi, .slice av (phiN n) cap, phiN n, f⟩ rfl
  dsimp only at q0
  have HC := Lib.hid h
  clear h hs
  go_enter Try.func117, Try.ntmps117
  go_wp2_with fail
  refine (l01Is_yes _ _ q0 HC.out).mono ?_
  rintro e w1 ⟨rfl, b1⟩
  clear q0
  have st1 := st0.keep b1
  have hz_w1 := b1.size
  try simp only [World.size_alloc] at hz_w1
  clear st0 b1
  have BB := st1.1
  obtain ⟨c0, c1⟩ := (st1.box 0 (w.heap.size, [.int .i64 (n : Int), .slice av (phiN n) cap]) rfl).cell2
  have HST := Lib.hid st1
  clear st1 BB
  go_wp2_with (go_at_call 137; refine (l01In_yes _ _ _ _ (by omega) (by omega)).mono ?_; rintro e w' ⟨rfl, rfl⟩)
  clear c0 c1 hdd
  go_loopw [4, 5, 6] (fun s4 s5 s6 wr => ∃ a : Nat, 1 ≤ a ∧ a ≤ n + 1 ∧ s6 = .int .i64 a ∧ s4 = .bool false ∧ s5 = .int .i64 0 ∧ fieldTo n (phiN n) m f a ∧ St w wr [(w.heap.size, [.int .i64 (n : Int), .slice av (phiN n) cap])] [⟨o, lo, hi, .slice av (phiN n) cap, phiN n, f⟩]) (fun _ _ s6 _ => n + 1 - (intOf s6).toNat)
  case atStart => exact ⟨1, Nat.le_refl _, by omega, rfl, rfl, rfl, fieldTo_one _ _ _ _, HST.out⟩
  case round =>
    clear HST
    obtain ⟨a, ha1, ha2, rfl, rfl, rfl, hft, hst⟩ := hrel
    have HF := Lib.hid hft; clear hft
    have HT := Lib.hid hst; clear hst
    obtain ⟨c0, c1⟩ := (HT.out.box 0 (w.heap.size, [.int .i64 (n : Int), .slice av (phiN n) cap]) rfl).cell2
    by_cases hlt : a ≤ n
    · by_cases hmod : a % m = 1 % m
      · have hb : ((a : Int) % (m : Int) == 1 % (m : Int)) = true := by have e : ((a % m : Nat) : Int) = ((1 % m : Nat) : Int) := by rw [hmod]
                                                                        simpa using e
        have hb2 : ((a : Int).tmod (m : Int) == Int.tmod 1 (m : Int)) = true := by rw [Int.tmod_eq_emod_of_nonneg (by omega), Int.tmod_eq_emod_of_nonneg (by omega)]; exact hb
        have hm0 : ¬ m = 0 := by omega
        have hmI2 : (1 : Int) ≤ (m : Int) := by omega
        by_cases hg : gcdI (a : Int) n = 1
        · by_cases heq : eqB (phiN n) (imgP n a (phiN n) f) f = true
          · have HR := Lib.hid heq
            clear heq
            go_wp2_with fail
            go_region_held3 (fun w' => w'.cell? ⟨w.heap.size, 0, none⟩ = some (.int .i64 (n : Int)) ∧ w'.cell? ⟨w.heap.size, 1, none⟩ = some (.slice av (phiN n) cap))
              (first | exact ⟨c0, c1⟩ | exact ⟨cell_later b6 c0, cell_later b6 c1⟩ | exact ⟨cell_later b7 (cell_later b6 c0), cell_later b7 (cell_later b6 c1)⟩ | go_keep)
              (first
                | (go_at_call 138; refine (l01Gcd_any _ _ _ (by omega) (by omega) (by omega) (by omega)).mono ?_; rw [hg]; rintro e w9 ⟨rfl, rfl⟩)
                | (go_at_call 202; refine (l01Galois_any n (a : Int) hn1 hn2 (by omega) (by omega) _ (HT.out.drew.sl 0 ⟨o, lo, hi, .slice av (phiN n) cap, phiN n, f⟩ rfl) (Nat.le_trans hp (by decide))).mono ?_; rintro e w6 ⟨a6, k6, rfl, s6, b6⟩; rw [HQ.out a] at s6)
                | (go_at_call 182; refine (l01Same_any _ _ s6 ((HT.out.drew.keep b6).sl 0 ⟨o, lo, hi, .slice av (phiN n) cap, phiN n, f⟩ rfl)).mono ?_; rw [HR.out]; rintro e w7 ⟨rfl, b7⟩))
            all_goals
              have hz6 := b6.size
              simp only [World.size_drew] at hz6
              have st7 := (HT.out.drew.keep b6).keep (b7.mono (Nat.le_refl _))
              clear b6 b7
              go_wp2
              go_roundw
              case rel => exact ⟨a + 1, by omega, by omega, by go_num, rfl, rfl, (fieldTo_step ha1 hmod hg).2 ⟨HF.out, eqB_iff.1 HR.out⟩, st7⟩
              case measure => simp [intOf] <;> omega
          · have HR := Lib.hid (Bool.eq_false_iff.2 heq)
            have HN := Lib.hid (show fieldB n (phiN n) m f = false from fieldB_false (fun hf => heq (eqB_iff.2 (hf a ha1 (by omega) hmod hg))))
            clear heq
            go_wp2_with fail
            go_region_held3 (fun w' => w'.cell? ⟨w.heap.size, 0, none⟩ = some (.int .i64 (n : Int)) ∧ w'.cell? ⟨w.heap.size, 1, none⟩ = some (.slice av (phiN n) cap))
              (first | exact ⟨c0, c1⟩ | exact ⟨cell_later b6 c0, cell_later b6 c1⟩ | exact ⟨cell_later b7 (cell_later b6 c0), cell_later b7 (cell_later b6 c1)⟩ | go_keep)
              (first
                | (go_at_call 138; refine (l01Gcd_any _ _ _ (by omega) (by omega) (by omega) (by omega)).mono ?_; rw [hg]; rintro e w9 ⟨rfl, rfl⟩)
                | (go_at_call 202; refine (l01Galois_any n (a : Int) hn1 hn2 (by omega) (by omega) _ (HT.out.drew.sl 0 ⟨o, lo, hi, .slice av (phiN n) cap, phiN n, f⟩ rfl) (Nat.le_trans hp (by decide))).mono ?_; rintro e w6 ⟨a6, k6, rfl, s6, b6⟩; rw [HQ.out a] at s6)
                | (go_at_call 182; refine (l01Same_any _ _ s6 ((HT.out.drew.keep b6).sl 0 ⟨o, lo, hi, .slice av (phiN n) cap, phiN n, f⟩ rfl)).mono ?_; rw [HR.out]; rintro e w7 ⟨rfl, b7⟩))
            all_goals
              have hz6 := b6.size
              simp only [World.size_drew] at hz6
              have st7 := (HT.out.drew.keep b6).keep (b7.mono (Nat.le_refl _))
              have BB := st7.1
              clear b6 b7 st7
              go_wp2
              refine bodyPost_ret (v := .tuple #[.bool false, .int .i64 0]) (by simp [results, Try.results117, go_sem]) rfl ?_
              exact ⟨by rw [HN.out], BB⟩
        · have HSKIP := Lib.hid ((fieldTo_skip (L := phiN n) (f := f) (fun h => hg h.2)).2 HF.out)
          have hgb : (gcdI (a : Int) n == 1) = false := by simpa using hg
          go_wp2_with fail
          go_quiet (first | (go_at_call 138; exact Calls.quiet_of_same ((l01Gcd_any _ _ _ (by omega) (by omega) (by omega) (by omega)).mono (fun _ _ h => ⟨h.1, h.2.symm⟩))) | (go_at_call 138; exact Calls.quiet_of_same (l01Gcd_any _ _ _ (by omega) (by omega) (by omega) (by omega))))
          go_wp2_with fail
          go_roundw
          case rel => exact ⟨a + 1, by omega, by omega, by go_num, rfl, rfl, HSKIP.out, (by first | exact HT.out.drew | exact HT.out.drewN _)⟩
          case measure => simp [intOf] <;> omega
      · have hb : ((a : Int) % (m : Int) == 1 % (m : Int)) = false := by
          rw [beq_eq_false_iff_ne]
          exact fun e => hmod (by have e2 : ((a % m : Nat) : Int) = ((1 % m : Nat) : Int) := by simpa using e
                                  omega)
        go_wp2_with fail
        go_quiet (fail)
        go_wp2_with fail
        go_roundw
        case rel => exact ⟨a + 1, by omega, by omega, by go_num, rfl, rfl, (fieldTo_skip (fun h => hmod h.1)).2 HF.out, HT.out.drewN _⟩
        case measure => simp [intOf] <;> omega
    · obtain rfl : a = n + 1 := by omega
      have HY := Lib.hid (fieldB_true HF.out)
      have BB := HT.out.1
      go_wp2
      refine bodyPost_ret (v := .tuple #[.bool true, .int .i64 0]) (by simp [results, Try.results117, go_sem]) rfl ?_
      exact ⟨by rw [HY.out], BB⟩
end
end Go.Proofs.Ytloalhcloifgjaa
