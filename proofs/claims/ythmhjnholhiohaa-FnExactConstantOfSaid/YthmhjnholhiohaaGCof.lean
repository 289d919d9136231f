/- ConstantOf of the program and of the model. -/
import Derived.Test.YthmhjnholhiohaaGCon
import Derived.Test.YthmhjnholhiohaaReal
import Derived.Deep.RegionHeld3
namespace Go.Proofs.Ythmhjnholhiohaa
open Go.RowKit Go.ChangeShapes Go.Sort Go.WideShapes
set_option linter.unusedVariables false
set_option linter.unusedSimpArgs false

/-- The rows from the second one on are all the same. -/
def CnP (m L : Nat) (F : Nat → Nat → Int) : Prop := ∀ i, i < m → 1 ≤ i → ∀ j, j < L → F i j = F 1 j
section
variable {o o' : Bool} {lo hi lo' hi' : Nat} {v v' V : Value} {m L : Nat} {f g : Nat → Int} {ln : Nat → Nat} {F : Nat → Nat → Int}
set_option maxRecDepth 100000 in
set_option maxHeartbeats 1000000 in
theorem slicesEqual_any (w : World) (hs : Sl o w lo hi v L f) (ht : Sl o' w lo' hi' v' L g) :
    Calls Try.prog 84 #[v, v'] w fun e w' => e = .returned (.bool (eqB L f g)) ∧ Below w.heap.size w w' := by
  obtain ⟨a, cap, rfl⟩ := hs.shape
  obtain ⟨b, cap', rfl⟩ := ht.shape
  have hml := hs.len
  unfold maxLen at hml
  have HS := Lib.hid hs; have HT := Lib.hid ht
  clear hs ht
  go_enter Try.func84, Try.ntmps84
  go_wp2
  go_loopw [13] (fun i wr => ∃ k : Nat, k ≤ L ∧ i = .int .i64 k ∧ Below w.heap.size w wr ∧ ∀ j, j < k → f j = g j) (fun i _ => L - (intOf i).toNat)
  case atStart => exact ⟨0, Nat.zero_le _, rfl, Below.refl _ _, fun j hj => absurd hj (Nat.not_lt_zero _)⟩
  case round =>
    obtain ⟨k, hk, rfl, hb, hall⟩ := hrel
    have HA := Lib.hid hall; clear hall
    by_cases hlt : k < L
    · obtain ⟨g1, o1, c1, hv1, _, _, _, _, hc1, _⟩ := (HS.out.keep hb HS.out.size).at (show 0 < L by omega)
      obtain ⟨g2, o2, c2, hv2, _, _, _, _, hc2, _⟩ := (HT.out.keep hb HT.out.size).at (show 0 < L by omega)
      obtain ⟨rfl, rfl⟩ : a = some ⟨g1, o1, none⟩ ∧ cap = c1 := by cases hv1; exact ⟨rfl, rfl⟩
      obtain ⟨rfl, rfl⟩ : b = some ⟨g2, o2, none⟩ ∧ cap' = c2 := by cases hv2; exact ⟨rfl, rfl⟩
      have d1 := hc1 k hlt
      have d2 := hc2 k hlt
      have hltI : (k : Int) < (L : Int) := by omega
      obtain ⟨P, hP⟩ : ∃ P, f k = P := ⟨_, rfl⟩
      obtain ⟨Q, hQ⟩ : ∃ Q, g k = Q := ⟨_, rfl⟩
      rw [hP] at d1
      rw [hQ] at d2
      have HP := Lib.hid hP; have HQ := Lib.hid hQ
      clear hv1 hv2 hc1 hc2 hP hQ
      by_cases e : P = Q
      · have hpq : (P != Q) = false := by simp [e]
        have HE := Lib.hid e
        clear e
        go_wp2
        go_quiet (fail)
        go_wp2
        go_roundw
        case rel =>
          exact ⟨k + 1, by omega, by go_num, by first | exact below_drewN hb _ | exact hb, fun j hj => by
            by_cases e : j = k
            · subst e; rw [HP.out, HQ.out]; exact HE.out
            · exact HA.out j (by omega)⟩
        case measure => simp [intOf]; omega
      · have hpq : (P != Q) = true := by simpa using e
        have HG := Lib.hid (show eqB L f g = false by
          unfold eqB
          exact decide_eq_false (fun h => e (by rw [← HP.out, ← HQ.out]; exact h k hlt)))
        clear e
        go_wp2
        go_quiet (fail)
        go_wp2
        go_ret
        exact ⟨by rw [HG.out]; rfl, by first | exact below_drewN hb _ | exact hb⟩
    · obtain rfl : k = L := by omega
      have HG := Lib.hid (show eqB k f g = true by unfold eqB; exact decide_eq_true HA.out)
      go_wp2
      go_ret
      exact ⟨by rw [HG.out]; rfl, hb⟩


set_option maxRecDepth 100000 in
theorem ConstantOf_impl_bad (x y : Int) (w : World) (hs : Rw o w lo hi V m ln F) (h : ¬ GsP x y m ln F) :
    Calls Try.prog 31 #[.agg #[.int .i64 x, .int .i64 y, V]] w fun e w' => e = .returned (failV 1) ∧ Below w.heap.size w w' := by
  obtain ⟨a, cap, rfl⟩ := hs.shape
  have hml := hs.len
  unfold maxLen at hml
  have hh := hs.size
  have st0 := ((StR.start w).addRw ⟨o, lo, hi, .slice a m cap, m, ln, F⟩ hs).boxNew3 (.int .i64 x) (.int .i64 y) (.slice a m cap) 27
  replace st0 := st0.boxNew (.int .i64 0) (.slice none 0 0) 37
  simp only [World.size_alloc] at st0
  have HG := Lib.hid (gsB_no h)
  clear hs h
  obtain ⟨c0, c1, c2⟩ := (st0.box 1 (w.heap.size, [.int .i64 x, .int .i64 y, .slice a m cap]) rfl).c3
  go_enter Try.func31, Try.ntmps31
  have q0 := st0.rw 0 ⟨o, lo, hi, .slice a m cap, m, ln, F⟩ rfl
  dsimp only at q0
  go_wp2_with fail
  refine (IsGauss_any _ _ _ q0).mono ?_
  rintro e w1 ⟨rfl, b1⟩
  rw [HG.out]
  have st1 := st0.keep b1
  have hz1 := b1.size
  simp only [World.size_alloc] at hz1
  clear st0 b1 q0
  clear c0 c1 c2
  obtain ⟨d0, d1⟩ := (st1.box 0 (w.heap.size + 1, [.int .i64 0, .slice none 0 0]) rfl).cell2
  have dz := (st1.box 0 (w.heap.size + 1, [.int .i64 0, .slice none 0 0]) rfl).2.2
  dsimp only at dz
  have BB := st1.1
  go_wp2
  refine bodyPost_ret (v := failV 1) (by simp [results, Try.results31, go_sem, failV, d0, d1]) rfl ?_
  exact ⟨rfl, by first | exact BB | go_grown⟩


set_option maxRecDepth 100000 in
theorem ConstantOf_spec_bad (x y : Int) (w : World) (hs : Rw o w lo hi V m ln F) (h : ¬ GsP x y m ln F) :
    Calls Try.prog 30 #[.agg #[.int .i64 x, .int .i64 y, V]] w fun e w' => e = .returned (failV 1) ∧ Below w.heap.size w w' := by
  obtain ⟨a, cap, rfl⟩ := hs.shape
  have hml := hs.len
  unfold maxLen at hml
  have hh := hs.size
  have st0 := ((StR.start w).addRw ⟨o, lo, hi, .slice a m cap, m, ln, F⟩ hs).boxNew3 (.int .i64 x) (.int .i64 y) (.slice a m cap) 27
  replace st0 := st0.boxNew (.int .i64 0) (.slice none 0 0) 37
  simp only [World.size_alloc] at st0
  have HG := Lib.hid (gsB_no h)
  clear hs h
  obtain ⟨c0, c1, c2⟩ := (st0.box 1 (w.heap.size, [.int .i64 x, .int .i64 y, .slice a m cap]) rfl).c3
  go_enter Try.func30, Try.ntmps30
  have q0 := st0.rw 0 ⟨o, lo, hi, .slice a m cap, m, ln, F⟩ rfl
  dsimp only at q0
  go_wp2_with fail
  refine (l05Is_any _ _ _ q0).mono ?_
  rintro e w1 ⟨rfl, b1⟩
  rw [HG.out]
  have st1 := st0.keep b1
  have hz1 := b1.size
  simp only [World.size_alloc] at hz1
  clear st0 b1 q0
  clear c0 c1 c2
  obtain ⟨d0, d1⟩ := (st1.box 0 (w.heap.size + 1, [.int .i64 0, .slice none 0 0]) rfl).cell2
  have dz := (st1.box 0 (w.heap.size + 1, [.int .i64 0, .slice none 0 0]) rfl).2.2
  dsimp only at dz
  have BB := st1.1
  go_wp2
  refine bodyPost_ret (v := failV 1) (by simp [results, Try.results30, go_sem, failV, d0, d1]) rfl ?_
  exact ⟨rfl, by first | exact BB | go_grown⟩


set_option maxRecDepth 100000 in
set_option maxHeartbeats 4000000 in
theorem ConstantOf_impl_ok (N : Nat) (w : World) (hs : Rw o w lo hi V m ln F) (h : GsP (m : Int) (N : Int) m ln F) :
    Calls Try.prog 31 #[.agg #[.int .i64 (m : Int), .int .i64 (N : Int), V]] w fun e w' => (CnP m (phiN N) F → ∃ a' k', e = .returned (.tuple #[.agg #[.int .i64 (N : Int), .slice a' (phiN N) k'], .int .i64 0]) ∧ Sl true w' w.heap.size w'.heap.size (.slice a' (phiN N) k') (phiN N) (fun j => -F 1 j)) ∧ (¬ CnP m (phiN N) F → e = .returned (failV 4)) ∧ Below w.heap.size w w' := by
  obtain ⟨a, cap, rfl⟩ := hs.shape
  have HG := Lib.hid (gsB_yes h)
  obtain ⟨N', hx, hy, hp, h3, h61, h1, h16, hln, hcy, hwi, hz⟩ := h.nat
  obtain rfl : N' = N := by omega
  have hphi := phi_le12 N' (by omega) h1
  have hphi1 := phiN_pos N' (by omega) h1
  obtain ⟨L, hL⟩ : ∃ L, phiN N' = L := ⟨_, rfl⟩
  rw [hL] at hphi hphi1 hln hwi hz ⊢
  have HL := Lib.hid hL
  have HLN := Lib.hid hln; have HWI := Lib.hid hwi
  have hml := hs.len
  unfold maxLen at hml
  have hh := hs.size
  have st0 := ((StR.start w).addRw ⟨o, lo, hi, .slice a m cap, m, ln, F⟩ hs).boxNew3 (.int .i64 (m : Int)) (.int .i64 (N' : Int)) (.slice a m cap) 27
  replace st0 := st0.boxNew (.int .i64 0) (.slice none 0 0) 37
  simp only [World.size_alloc] at st0
  clear hs h hp hln hcy hwi hz hx hy hL
  obtain ⟨c0, c1, c2⟩ := (st0.box 1 (w.heap.size, [.int .i64 (m : Int), .int .i64 (N' : Int), .slice a m cap]) rfl).c3
  go_enter Try.func31, Try.ntmps31
  have q0 := st0.rw 0 ⟨o, lo, hi, .slice a m cap, m, ln, F⟩ rfl
  dsimp only at q0
  go_wp2_with fail
  refine (IsGauss_any _ _ _ q0).mono ?_
  rintro e w1 ⟨rfl, b1⟩
  rw [HG.out]
  have st1 := st0.keep b1
  have hz1 := b1.size
  simp only [World.size_alloc] at hz1
  clear st0 b1 q0
  clear c0 c1 c2
  obtain ⟨c0, c1, c2⟩ := (st1.box 1 (w.heap.size, [.int .i64 (m : Int), .int .i64 (N' : Int), .slice a m cap]) rfl).c3
  obtain ⟨g0, off0, cp0, ua0, hv0, hr0⟩ := (st1.rw 0 ⟨o, lo, hi, .slice a m cap, m, ln, F⟩ rfl).at (show 0 < m by omega)
  dsimp only at hv0 hr0
  have hmc := hr0.2.1
  have hcm := hr0.2.2.1
  unfold maxLen at hcm
  obtain ⟨rfl, rfl⟩ : a = some ⟨g0, off0, none⟩ ∧ cap = cp0 := by cases hv0; exact ⟨rfl, rfl⟩
  clear hv0 hr0
  have hm2 : 2 ≤ m := by omega
  have hm2I : (2 : Int) ≤ (m : Int) := by omega
  have hc2 : 2 < cap := by omega
  have hc2n : ¬ 2 = cap := by omega
  have hc2m : ¬ cap = 2 := by omega
  go_wp2
  clear c0 c1 c2
  go_loopw [14] (fun s wr => ∃ t : Nat, t + 2 ≤ m ∧ s = .int .i64 t ∧ StR w wr [(w.heap.size + 1, [.int .i64 0, .slice none 0 0]), (w.heap.size, [.int .i64 (m : Int), .int .i64 (N' : Int), .slice (some ⟨g0, off0, none⟩) m cap])] [] [⟨o, lo, hi, .slice (some ⟨g0, off0, none⟩) m cap, m, ln, F⟩] ∧ ∀ i, i < t + 2 → 1 ≤ i → ∀ j, j < L → F i j = F 1 j) (fun s _ => m - (intOf s).toNat)
  case atStart => exact ⟨0, by omega, rfl, st1, fun i hi h1 j _ => by rw [show i = 1 by omega]⟩
  case round =>
    clear st1
    obtain ⟨t, ht, rfl, hst, hall⟩ := hrel
    have HS := Lib.hid hst; have HA := Lib.hid hall; clear hst hall
    obtain ⟨c0, c1, c2⟩ := (HS.out.box 1 (w.heap.size, [.int .i64 (m : Int), .int .i64 (N' : Int), .slice (some ⟨g0, off0, none⟩) m cap]) rfl).c3
    obtain ⟨g1, off, cp1, ua, hv, hr⟩ := (HS.out.rw 0 ⟨o, lo, hi, .slice (some ⟨g0, off0, none⟩) m cap, m, ln, F⟩ rfl).at (show 0 < m by omega)
    dsimp only at hv hr
    obtain ⟨rfl, rfl, rfl⟩ : g0 = g1 ∧ off0 = off ∧ cap = cp1 := by cases hv; exact ⟨rfl, rfl, rfl⟩
    have c1k := hr.head (show 1 < m by omega)
    have hrow1 := hr.row (show 1 < m by omega)
    rw [HLN.out 1 (by omega)] at hrow1
    by_cases hlt : t + 2 < m
    · have ck := hr.head hlt
      have hrow := hr.row hlt
      rw [HLN.out (t + 2) hlt] at hrow
      have hgo : off0 + (t + 2) = off0 + 2 + t := by omega
      rw [hgo] at ck
      have htm : t < m - 2 := by omega
      have htI : (t : Int) < ((m - 2 : Nat) : Int) := by omega
      have hm1I : (1 : Int) < (m : Int) := by omega
      have R1 := Lib.hid hrow1; have R2 := Lib.hid hrow
      clear hv hr hrow hrow1 hgo
      go_wp2_with fail
      refine (slicesEqual_any _ R2.out R1.out).mono ?_
      rintro e w5 ⟨rfl, b5⟩
      have S5 := HS.out.keep b5
      by_cases heq : ∀ j, j < L → F (t + 2) j = F 1 j
      · have HEQ := Lib.hid heq
        have HB := Lib.hid (show eqB L (F (t + 2)) (F 1) = true by unfold eqB; exact decide_eq_true heq)
        rw [HB.out]
        clear heq HS c0 c1 c2 ck c1k b5
        go_wp2
        go_roundw
        case rel =>
          exact ⟨t + 1, by omega, by go_num, S5, fun i hi h1 j hj => by
            by_cases e : i = t + 2
            · rw [e]; exact HEQ.out j hj
            · exact HA.out i (by omega) h1 j hj⟩
        case measure => simp [intOf]; omega
      · have HNC := Lib.hid (show ¬ CnP m L F from fun h => heq (fun j hj => h (t + 2) hlt (by omega) j hj))
        have HB := Lib.hid (show eqB L (F (t + 2)) (F 1) = false by unfold eqB; exact decide_eq_false heq)
        rw [HB.out]
        clear heq HS c0 c1 c2 ck c1k b5
        obtain ⟨d0, d1⟩ := (S5.box 0 (w.heap.size + 1, [.int .i64 0, .slice none 0 0]) rfl).cell2
        have dz := (S5.box 0 (w.heap.size + 1, [.int .i64 0, .slice none 0 0]) rfl).2.2
        dsimp only at dz
        have BB := S5.1
        go_wp2
        refine bodyPost_ret (v := failV 4) (by simp [results, Try.results31, go_sem, failV, d0, d1]) rfl ?_
        exact ⟨fun h => absurd h HNC.out, fun _ => rfl, by go_grown⟩
    · obtain rfl : t = m - 2 := by omega
      have HC := Lib.hid (show CnP m L F from fun i hi h1 j hj => HA.out i (by omega) h1 j hj)
      have hbz := (HS.out.box 0 (w.heap.size + 1, [.int .i64 0, .slice none 0 0]) rfl).1
      dsimp only at hbz
      have hnI : ¬ ((m - 2 : Nat) : Int) < ((m - 2 : Nat) : Int) := by omega
      have hm1I : (1 : Int) < (m : Int) := by omega
      have R1 := Lib.hid hrow1
      have HW1 := Lib.hid (HWI.out 1 (by omega))
      have hg1 := hr.blk
      clear hv hr hrow1
      go_wp2
      go_region_held3 (fun w' => w'.cell? ⟨w.heap.size, 1, none⟩ = some (.int .i64 (N' : Int)) ∧ w'.cell? ⟨w.heap.size, 2, none⟩ = some (.slice (some ⟨g0, off0, none⟩) m cap) ∧ w'.cell? ⟨g0, off0 + 1, none⟩ = some (ua 1))
        (first | exact ⟨c1, c2, c1k⟩ | exact ⟨cell_later b6 c1, cell_later b6 c2, cell_later b6 c1k⟩ | exact ⟨cell_one (cell_one (cell_later b6 c1) (by omega)) (by omega), cell_one (cell_one (cell_later b6 c2) (by omega)) (by omega), cell_one (cell_one (cell_later b6 c1k) (by omega)) (by omega)⟩ | go_keep)
        (first
          | (go_at_call 78; refine (negativesOf_any _ R1.out.drew HW1.out (by omega)).mono ?_; rintro e w6 ⟨a6, k6, rfl, s6, b6⟩
             have hz6 := b6.size
             simp only [World.size_drew] at hz6 s6
             have S6 := HS.out.drew.keep b6
             obtain ⟨d0, d1⟩ := (S6.box 0 (w.heap.size + 1, [.int .i64 0, .slice none 0 0]) rfl).cell2
             have dz := (S6.box 0 (w.heap.size + 1, [.int .i64 0, .slice none 0 0]) rfl).2.2
             dsimp only at dz))
      all_goals
        have BB := S6.1
        have Q6 := Lib.hid s6
        have hsw := HS.out.1.size
        clear b6 s6 S6 HS c0 c1 c2 c1k
        go_wp2
        refine bodyPost_ret (v := .tuple #[.agg #[.int .i64 (N' : Int), .slice a6 L k6], .int .i64 0]) (by simp [results, Try.results31, go_sem, d0, d1]) rfl ?_
        refine ⟨fun _ => ⟨_, _, rfl, ?_⟩, fun h => absurd HC.out h, by go_grown⟩
        exact ((Q6.out.setOther (.inl (by show w.heap.size + 1 < _; have := BB.size; omega)) _).setOther (.inl (by show w.heap.size + 1 < _; have := BB.size; omega)) _).wide (by omega) (by simp) (Nat.le_refl _)


set_option maxRecDepth 100000 in
set_option maxHeartbeats 4000000 in
theorem l05Of_any (N : Nat) (w : World) (hs : Rw o w lo hi V m ln F) (h : GsP (m : Int) (N : Int) m ln F) :
    Calls Try.prog 83 #[.agg #[.int .i64 (m : Int), .int .i64 (N : Int), V]] w fun e w' => ∃ a' k', (CnP m (phiN N) F → e = .returned (.tuple #[.agg #[.int .i64 (N : Int), .slice a' (phiN N) k'], .bool true]) ∧ Sl true w' w.heap.size w'.heap.size (.slice a' (phiN N) k') (phiN N) (fun j => -F 1 j)) ∧ (¬ CnP m (phiN N) F → e = .returned (.tuple #[.agg #[.int .i64 (N : Int), .slice a' (phiN N) k'], .bool false])) ∧ Below w.heap.size w w' := by
  obtain ⟨a, cap, rfl⟩ := hs.shape
  obtain ⟨N', hx, hy, hp, h3, h61, h1, h16, hln, hcy, hwi, hz⟩ := h.nat
  obtain rfl : N' = N := by omega
  have hphi := phi_le12 N' (by omega) h1
  have hphi1 := phiN_pos N' (by omega) h1
  obtain ⟨L, hL⟩ : ∃ L, phiN N' = L := ⟨_, rfl⟩
  rw [hL] at hphi hphi1 hln hwi hz ⊢
  have HL := Lib.hid hL
  have HLN := Lib.hid hln; have HWI := Lib.hid hwi
  have hml := hs.len
  unfold maxLen at hml
  have hh := hs.size
  have st0 := ((StR.start w).addRw ⟨o, lo, hi, .slice a m cap, m, ln, F⟩ hs).boxNew3 (.int .i64 (m : Int)) (.int .i64 (N' : Int)) (.slice a m cap) 27
  replace st0 := st0.boxNew (.int .i64 0) (.slice none 0 0) 37
  simp only [World.size_alloc] at st0
  clear hs h hp hln hcy hwi hz hx hy hL
  obtain ⟨c0, c1, c2⟩ := (st0.box 1 (w.heap.size, [.int .i64 (m : Int), .int .i64 (N' : Int), .slice a m cap]) rfl).c3
  go_enter Try.func83, Try.ntmps83
  go_wp2_with fail
  refine (l01Zero_any N' (by omega) _).mono ?_
  rintro e w2 ⟨a4, k4, rfl, s4, b2⟩
  rw [HL.out] at s4 ⊢
  have st2 := (((st0.keep b2).addSl ⟨true, w.heap.size + 1 + 1, w2.heap.size, .slice a4 L k4, L, fun _ => 0⟩ (by simpa using s4)).boxNew (.int .i64 (N' : Int)) (.slice a4 L k4) 37)
  have hz2 := b2.size
  simp only [World.size_alloc] at hz2
  have HST := Lib.hid st2
  clear st0 st2 s4 b2 c0 c1 c2
  have hm1 : 1 ≤ m := by omega
  go_wp2
  go_loopw [5] (fun s wr => ∃ t : Nat, 1 ≤ t ∧ t ≤ m ∧ s = .int .i64 t ∧ StR w wr [(w2.heap.size, [.int .i64 (N' : Int), .slice a4 L k4]), (w.heap.size + 1, [.int .i64 0, .slice none 0 0]), (w.heap.size, [.int .i64 (m : Int), .int .i64 (N' : Int), .slice a m cap])] [⟨true, w.heap.size + 1 + 1, w2.heap.size, .slice a4 L k4, L, fun _ => 0⟩] [⟨o, lo, hi, .slice a m cap, m, ln, F⟩] ∧ ∀ i, i < t → 1 ≤ i → ∀ j, j < L → F i j = F 1 j) (fun s _ => m - (intOf s).toNat)
  case atStart => exact ⟨1, Nat.le_refl _, hm1, rfl, HST.out, fun i hi h1 j _ => by omega⟩
  case round =>
    clear HST
    obtain ⟨t, ht1, ht, rfl, hst, hall⟩ := hrel
    have HS := Lib.hid hst; have HA := Lib.hid hall; clear hst hall
    obtain ⟨c0, c1, c2⟩ := (HS.out.box 2 (w.heap.size, [.int .i64 (m : Int), .int .i64 (N' : Int), .slice a m cap]) rfl).c3
    by_cases hlt : t < m
    · go_wp2
      clear c0 c1 c2
      go_loopw [6] (fun s wr => ∃ q : Nat, q ≤ L ∧ s = .int .i64 q ∧ StR w wr [(w2.heap.size, [.int .i64 (N' : Int), .slice a4 L k4]), (w.heap.size + 1, [.int .i64 0, .slice none 0 0]), (w.heap.size, [.int .i64 (m : Int), .int .i64 (N' : Int), .slice a m cap])] [⟨true, w.heap.size + 1 + 1, w2.heap.size, .slice a4 L k4, L, fun _ => 0⟩] [⟨o, lo, hi, .slice a m cap, m, ln, F⟩] ∧ ∀ j, j < q → F t j = F 1 j) (fun s _ => L - (intOf s).toNat)
      case atStart => exact ⟨0, Nat.zero_le _, rfl, HS.out, fun j hj => absurd hj (Nat.not_lt_zero _)⟩
      case round =>
        clear HS
        obtain ⟨q, hq, rfl, hst, hin⟩ := hrel
        have HS := Lib.hid hst; have HI := Lib.hid hin; clear hst hin
        obtain ⟨c0, c1, c2⟩ := (HS.out.box 2 (w.heap.size, [.int .i64 (m : Int), .int .i64 (N' : Int), .slice a m cap]) rfl).c3
        obtain ⟨f0, f1⟩ := (HS.out.box 0 (w2.heap.size, [.int .i64 (N' : Int), .slice a4 L k4]) rfl).cell2
        by_cases hlq : q < L
        · obtain ⟨g1, off, cp1, ua, hv, hr⟩ := (HS.out.rw 0 ⟨o, lo, hi, .slice a m cap, m, ln, F⟩ rfl).at (show 0 < m by omega)
          dsimp only at hv hr
          obtain ⟨rfl, rfl⟩ : a = some ⟨g1, off, none⟩ ∧ cap = cp1 := by cases hv; exact ⟨rfl, rfl⟩
          have c1k := hr.head (show 1 < m by omega)
          have hrow1 := hr.row (show 1 < m by omega)
          rw [HLN.out 1 (by omega)] at hrow1
          have ck := hr.head hlt
          have hrow := hr.row hlt
          rw [HLN.out t hlt] at hrow
          obtain ⟨g2, o2, k2, hu2, _, _, _, _, hc2, _⟩ := hrow.at (show 0 < L by omega)
          obtain ⟨g3, o3, k3, hu3, _, _, _, _, hc3, _⟩ := hrow1.at (show 0 < L by omega)
          rw [hu2] at ck
          rw [hu3] at c1k
          have da := hc2 q hlq
          have db := hc3 q hlq
          have hltI : (t : Int) < (m : Int) := by omega
          have hm1I : (1 : Int) < (m : Int) := by omega
          have hlqI : (q : Int) < (L : Int) := by omega
          obtain ⟨P, hP⟩ : ∃ P, F t q = P := ⟨_, rfl⟩
          obtain ⟨Q, hQ⟩ : ∃ Q, F 1 q = Q := ⟨_, rfl⟩
          rw [hP] at da
          rw [hQ] at db
          have HP := Lib.hid hP; have HQ := Lib.hid hQ
          clear hv hr hrow hrow1 hu2 hu3 hc2 hc3 hP hQ
          by_cases e : P = Q
          · have hpq : (P != Q) = false := by simp [e]
            have HE := Lib.hid e
            clear e
            go_wp2
            go_region
            all_goals
              go_wp2
              go_roundw
              case rel =>
                exact ⟨q + 1, by omega, by go_num, by first | exact HS.out | exact HS.out.drew | exact HS.out.drewN _, fun j hj => by
                  by_cases e : j = q
                  · subst e; rw [HP.out, HQ.out]; exact HE.out
                  · exact HI.out j (by omega)⟩
              case measure => simp [intOf]; omega
          · have hpq : (P != Q) = true := by simpa using e
            have HNC := Lib.hid (show ¬ CnP m L F from fun h => e (by rw [← HP.out, ← HQ.out]; exact h t hlt ht1 q hlq))
            obtain ⟨d0, d1⟩ := (HS.out.box 1 (w.heap.size + 1, [.int .i64 0, .slice none 0 0]) rfl).cell2
            have dz := (HS.out.box 1 (w.heap.size + 1, [.int .i64 0, .slice none 0 0]) rfl).2.2
            dsimp only at dz
            have BB := HS.out.1
            clear e
            go_wp2
            go_region
            all_goals
              go_wp2
              refine bodyPost_ret (v := .tuple #[.agg #[.int .i64 (N' : Int), .slice a4 L k4], .bool false]) (by simp [results, Try.results83, go_sem, d0, d1]) rfl ?_
              exact ⟨a4, k4, fun h => absurd h HNC.out, fun _ => rfl, by go_grown⟩
        · obtain rfl : q = L := by omega
          go_wp2
          go_roundw
          case rel =>
            exact ⟨t + 1, by omega, by omega, by go_num, HS.out, fun i hi h1 j hj => by
              by_cases e : i = t
              · subst e; exact HI.out j hj
              · exact HA.out i (by omega) h1 j hj⟩
          case measure => simp [intOf]; omega
    · obtain rfl : t = m := by omega
      have HC := Lib.hid (show CnP t L F from HA.out)
      go_wp2
      clear c0 c1 c2
      go_loopw [7] (fun s wr => ∃ q : Nat, q ≤ L ∧ s = .int .i64 q ∧ StR w wr [(w2.heap.size, [.int .i64 (N' : Int), .slice a4 L k4]), (w.heap.size + 1, [.int .i64 0, .slice none 0 0]), (w.heap.size, [.int .i64 (t : Int), .int .i64 (N' : Int), .slice a t cap])] [⟨true, w.heap.size + 1 + 1, w2.heap.size, .slice a4 L k4, L, fun j => if j < q then -F 1 j else 0⟩] [⟨o, lo, hi, .slice a t cap, t, ln, F⟩]) (fun s _ => L - (intOf s).toNat)
      case atStart => exact ⟨0, Nat.zero_le _, rfl, ⟨HS.out.1, HS.out.2.1, (fun s hs => by
        simp only [List.mem_cons, List.not_mem_nil, or_false] at hs
        subst hs
        exact (HS.out.sl 0 ⟨true, w.heap.size + 1 + 1, w2.heap.size, .slice a4 L k4, L, fun _ => 0⟩ rfl).congr (fun j hj => by show (if j < 0 then -F 1 j else 0) = 0; rw [if_neg (Nat.not_lt_zero _)])), HS.out.2.2.2⟩⟩
      case round =>
        clear HS
        obtain ⟨q, hq, rfl, hst⟩ := hrel
        have HS := Lib.hid hst; clear hst
        obtain ⟨c0, c1, c2⟩ := (HS.out.box 2 (w.heap.size, [.int .i64 (t : Int), .int .i64 (N' : Int), .slice a t cap]) rfl).c3
        obtain ⟨f0, f1⟩ := (HS.out.box 0 (w2.heap.size, [.int .i64 (N' : Int), .slice a4 L k4]) rfl).cell2
        by_cases hlq : q < L
        · obtain ⟨g1, off, cp1, ua, hv, hr⟩ := (HS.out.rw 0 ⟨o, lo, hi, .slice a t cap, t, ln, F⟩ rfl).at (show 0 < t by omega)
          dsimp only at hv hr
          obtain ⟨rfl, rfl⟩ : a = some ⟨g1, off, none⟩ ∧ cap = cp1 := by cases hv; exact ⟨rfl, rfl⟩
          have hrow1 := hr.row (show 1 < t by omega)
          have c1k := hr.head (show 1 < t by omega)
          rw [HLN.out 1 (by omega)] at hrow1
          obtain ⟨g3, o3, k3, hu3, _, _, _, _, hc3, _⟩ := hrow1.at (show 0 < L by omega)
          rw [hu3] at c1k
          have db := hc3 q hlq
          have sl4 := HS.out.sl 0 ⟨true, w.heap.size + 1 + 1, w2.heap.size, .slice a4 L k4, L, fun j => if j < q then -F 1 j else 0⟩ rfl
          dsimp only at sl4
          obtain ⟨g5, o5, k5, hv5, hg51, hg52, _, _, hc5, hz5⟩ := sl4.at (show 0 < L by omega)
          obtain ⟨rfl, rfl⟩ : a4 = some ⟨g5, o5, none⟩ ∧ k4 = k5 := by cases hv5; exact ⟨rfl, rfl⟩
          have dq := hc5 q hlq
          have zq := hz5 rfl (o5 + q)
          have hm1I : (1 : Int) < (t : Int) := by omega
          have hlqI : (q : Int) < (L : Int) := by omega
          have hfq := HWI.out 1 (by omega) q hlq
          obtain ⟨Q, hQ⟩ : ∃ Q, F 1 q = Q := ⟨_, rfl⟩
          rw [hQ] at db hfq
          have hwn : IntKind.i64.wrap (-Q) = -Q := IntWalk.i64_in _ (by omega)
          have HQ := Lib.hid hQ
          have SLN := Lib.hid (sl4.store hlq (x := -Q) (by unfold inR; omega))
          have SP := Lib.hid (HS.out.writeTo (lo := g5) (hi := g5 + 1) ((Frame.refl g5 (g5 + 1) wr).setCell (p := ⟨g5, o5 + q, none⟩) (Nat.le_refl _) (Nat.lt_succ_self _) (.int .i64 (-Q))) (by omega) (by intro b hb; simp only [List.mem_cons, List.not_mem_nil, or_false] at hb; rcases hb with rfl | rfl | rfl <;> dsimp only <;> omega) [] [⟨o, lo, hi, .slice (some ⟨g1, off, none⟩) t cap, t, ln, F⟩] (by intro s hs'; cases hs') (by intro s hs'; simp only [List.mem_cons, List.not_mem_nil, or_false] at hs'; rcases hs' with rfl; refine ⟨by simp, ?_⟩; dsimp only; omega))
          clear hv hr hrow1 hu3 hc3 hQ sl4 hv5 hc5 hz5 HS hfq
          go_wp2
          go_region
          all_goals
            have SN := SP.out.addSl ⟨true, w.heap.size + 1 + 1, w2.heap.size, .slice (some ⟨g5, o5, none⟩) L k4, L, fun j => if j < q + 1 then -F 1 j else 0⟩ (SLN.out.congr (fun j hj => by
              show (if j < q + 1 then -F 1 j else 0) = (if j = q then -Q else if j < q then -F 1 j else 0)
              by_cases e : j = q
              · subst e; rw [if_pos (by omega), if_pos rfl, HQ.out]
              · rw [if_neg e]
                by_cases e2 : j < q
                · rw [if_pos e2, if_pos (by omega)]
                · rw [if_neg e2, if_neg (by omega)]))
            have SNH := Lib.hid SN
            clear SN
            go_wp2
            go_roundw
            case rel => exact ⟨q + 1, by omega, by go_num, by first | exact SNH.out | exact SNH.out.drew | exact SNH.out.drewN _⟩
            case measure => simp [intOf]; omega
        · obtain rfl : q = L := by omega
          obtain ⟨d0, d1⟩ := (HS.out.box 1 (w.heap.size + 1, [.int .i64 0, .slice none 0 0]) rfl).cell2
          have dz := (HS.out.box 1 (w.heap.size + 1, [.int .i64 0, .slice none 0 0]) rfl).2.2
          dsimp only at dz
          have BB := HS.out.1
          have SL := Lib.hid (HS.out.sl 0 ⟨true, w.heap.size + 1 + 1, w2.heap.size, .slice a4 q k4, q, fun j => if j < q then -F 1 j else 0⟩ rfl)
          have hsz := SL.out.size
          go_wp2
          refine bodyPost_ret (v := .tuple #[.agg #[.int .i64 (N' : Int), .slice a4 q k4], .bool true]) (by simp [results, Try.results83, go_sem, d0, d1]) rfl ?_
          refine ⟨a4, k4, fun _ => ⟨rfl, ?_⟩, fun h => absurd HC.out h, by go_grown⟩
          exact (((SL.out.setOther (.inl (by show w.heap.size + 1 < w.heap.size + 1 + 1; omega)) _).setOther (.inl (by show w.heap.size + 1 < w.heap.size + 1 + 1; omega)) _).wide (by show w.heap.size ≤ w.heap.size + 1 + 1; omega) (by simpa using hsz) (Nat.le_refl _)).congr (fun j hj => by rw [if_pos hj])


set_option maxRecDepth 100000 in
set_option maxHeartbeats 2000000 in
theorem ConstantOf_spec_ok (N : Nat) (w : World) (hs : Rw o w lo hi V m ln F) (h : GsP (m : Int) (N : Int) m ln F) :
    Calls Try.prog 30 #[.agg #[.int .i64 (m : Int), .int .i64 (N : Int), V]] w fun e w' => (CnP m (phiN N) F → ∃ a' k', e = .returned (.tuple #[.agg #[.int .i64 (N : Int), .slice a' (phiN N) k'], .int .i64 0]) ∧ Sl true w' w.heap.size w'.heap.size (.slice a' (phiN N) k') (phiN N) (fun j => -F 1 j)) ∧ (¬ CnP m (phiN N) F → e = .returned (failV 4)) ∧ Below w.heap.size w w' := by
  have HX := Lib.hid h
  obtain ⟨a, cap, rfl⟩ := hs.shape
  have HG := Lib.hid (gsB_yes h)
  obtain ⟨N', hx, hy, hp, h3, h61, h1, h16, hln, hcy, hwi, hz⟩ := h.nat
  obtain rfl : N' = N := by omega
  have hphi := phi_le12 N' (by omega) h1
  have hphi1 := phiN_pos N' (by omega) h1
  obtain ⟨L, hL⟩ : ∃ L, phiN N' = L := ⟨_, rfl⟩
  rw [hL] at hphi hphi1 hln hwi hz ⊢
  have HL := Lib.hid hL
  have HLN := Lib.hid hln; have HWI := Lib.hid hwi
  have hml := hs.len
  unfold maxLen at hml
  have hh := hs.size
  have st0 := ((StR.start w).addRw ⟨o, lo, hi, .slice a m cap, m, ln, F⟩ hs).boxNew3 (.int .i64 (m : Int)) (.int .i64 (N' : Int)) (.slice a m cap) 27
  replace st0 := st0.boxNew (.int .i64 0) (.slice none 0 0) 37
  simp only [World.size_alloc] at st0
  clear hs h hp hln hcy hwi hz hx hy hL
  obtain ⟨c0, c1, c2⟩ := (st0.box 1 (w.heap.size, [.int .i64 (m : Int), .int .i64 (N' : Int), .slice a m cap]) rfl).c3
  go_enter Try.func30, Try.ntmps30
  have q0 := st0.rw 0 ⟨o, lo, hi, .slice a m cap, m, ln, F⟩ rfl
  dsimp only at q0
  go_wp2_with fail
  refine (l05Is_any _ _ _ q0).mono ?_
  rintro e w1 ⟨rfl, b1⟩
  rw [HG.out]
  have st1 := st0.keep b1
  have hz1 := b1.size
  simp only [World.size_alloc] at hz1
  clear st0 b1 q0
  clear c0 c1 c2
  obtain ⟨c0, c1, c2⟩ := (st1.box 1 (w.heap.size, [.int .i64 (m : Int), .int .i64 (N' : Int), .slice a m cap]) rfl).c3
  have q0 := st1.rw 0 ⟨o, lo, hi, .slice a m cap, m, ln, F⟩ rfl
  dsimp only at q0
  go_wp2_with fail
  refine (l05Of_any N' _ q0 HX.out).mono ?_
  rintro e w2 ⟨a2, k2, hyes, hno, b2⟩
  rw [HL.out] at hyes hno
  have st2 := (st1.keep b2).alloc (.cells #[.int .i64 (N' : Int), .slice a2 L k2] 37)
  have hz2 := b2.size
  clear st1 b2 c0 c1 c2 q0
  obtain ⟨d0, d1⟩ := (st2.box 0 (w.heap.size + 1, [.int .i64 0, .slice none 0 0]) rfl).cell2
  have dz := (st2.box 0 (w.heap.size + 1, [.int .i64 0, .slice none 0 0]) rfl).2.2
  dsimp only at dz
  have BB := st2.1
  by_cases hc : CnP m L F
  · obtain ⟨rfl, s2⟩ := hyes hc
    have HC := Lib.hid hc
    have S2 := Lib.hid (s2.alloc (.cells #[.int .i64 (N' : Int), .slice a2 L k2] 37))
    clear hyes hno s2 hc
    go_wp2
    refine bodyPost_ret (v := .tuple #[.agg #[.int .i64 (N' : Int), .slice a2 L k2], .int .i64 0]) (by simp [results, Try.results30, go_sem, d0, d1]) rfl ?_
    refine ⟨fun _ => ⟨_, _, rfl, ?_⟩, fun h => absurd HC.out h, by go_grown⟩
    exact ((S2.out.setOther (.inl (by show w.heap.size + 1 < _; omega)) _).setOther (.inl (by show w.heap.size + 1 < _; omega)) _).wide (by omega) (by simp) (Nat.le_refl _)
  · obtain rfl := hno hc
    have HC := Lib.hid hc
    clear hyes hno hc
    go_wp2
    refine bodyPost_ret (v := failV 4) (by simp [results, Try.results30, go_sem, failV, d0, d1]) rfl ?_
    exact ⟨fun h => absurd h HC.out, fun _ => rfl, by go_grown⟩

end
end Go.Proofs.Ythmhjnholhiohaa
