/- CycloAtResidues of the model: the answer. -/
import Derived.Test.YthookppmclimkaaPlcK
import Derived.Test.YthookppmclimkaaPlcM
import Derived.Test.YthookppmclimkaaSpecRed
import Derived.BigRegion
namespace Go.Proofs.Ythookppmclimkaa
open Go.RowKit Go.ChangeShapes Go.Sort
set_option linter.unusedVariables false
set_option linter.unusedSimpArgs false
set_option maxRecDepth 100000

theorem l07Inverse_any (l : Nat) (x : Int) (hl1 : 3 ≤ l) (hl2 : l ≤ 61) (hx1 : -1000 ≤ x) (hx2 : x ≤ 1000) (w : World) :
    Calls Try.prog 38 #[.int .i64 (l : Int), .int .i64 x] w fun e w' => e = .returned (.int .i64 (invN l (restN l x) : Nat)) ∧ ∃ k, w' = w.drewN k := by
  obtain ⟨r1, r2, r3, r4⟩ := restN_eq l (by omega) x
  have hl2' : ((l - 2 : Nat) : Int) = (l : Int) - 2 := by omega
  have hl0 : ¬ l = 0 := by omega
  have HPW := Lib.hid (fun w => l07Power_any l (restN l x) (l - 2) (by omega) (by omega) r2 (by omega) w)
  rw [Int.add_emod_right] at r1
  rw [hl2', ← r1] at HPW
  clear hl2' r1 r2
  go_enter Try.func38, Try.ntmps38
  go_wp2_with (go_at_call 52; refine (HPW.out _).mono ?_; rintro e w1 ⟨rfl, k1, rfl⟩)
  go_ret
  exact ⟨rfl, k1, rfl⟩
section
variable {o : Bool} {lo hi : Nat} {v : Value} {m : Nat} {f : Nat → Int}

set_option maxHeartbeats 1200000 in
theorem CycloAtResidues_spec_ou (n l : Nat) (h1 : 1 ≤ n) (h2 : n ≤ 16) (hl : primeN l = true) (hfn : fullN l n = true) (w : World) (hs : Sl o w lo hi v m f) (hm : m = (roots n l).length) (hr : ResP f m l) :
    Calls Try.prog 17 #[.int .i64 (n : Int), .int .i64 (l : Int), v] w fun e w' => ∃ a k, e = .returned (.tuple #[.agg #[.int .i64 (n : Int), .slice a m k], .int .i64 0]) ∧ Sl true w' w.heap.size w'.heap.size (.slice a m k) m (ouF l (roots n l) f m) ∧ Below w.heap.size w w' := by
  obtain ⟨av, cap, rfl⟩ := hs.shape
  have hml := hs.len
  unfold maxLen at hml
  have st0 := ((((St.start w).addSl ⟨o, lo, hi, .slice av m cap, m, f⟩ hs).alloc (.cells #[.int .i64 0, .slice none 0 0] 31)).addBox w.heap.size [.int .i64 0, .slice none 0 0] (Box.made _ _ _ _ (fun j v h => by simpa using h)))
  have HL := Lib.hid hl
  have HF := Lib.hid hfn
  have hb := primeN_bd hl
  have hrl := rt_len hl h1 h2 hfn
  have hph := phi_bd n (by omega) h1
  have HR := Lib.hid hr
  have HRT := Lib.hid (fun w => l07Roots_any n l h1 h2 hl w)
  rw [← hm] at HRT
  have HZR := Lib.hid (fun w => l01Zero_any n (by omega) w)
  rw [← hrl, ← hm] at HZR
  have hm12 : 1 ≤ m ∧ m ≤ 12 := by omega
  have HRM := Lib.hid (roots_le (n := n) hl)
  have hszx := hs.size
  obtain ⟨R, hRR⟩ : ∃ R, roots n l = R := ⟨_, rfl⟩
  rw [hRR] at hm HRT HRM ⊢
  have HM := Lib.hid hm
  clear hl hfn hr hs hrl hm hRR hph
  go_enter Try.func17, Try.ntmps17
  go_wp2_with (first
    | (go_at_call 27; refine (l07Code_yes n l h1 h2 HL.out _).mono ?_; rintro e w1 ⟨rfl, m1, rfl⟩; have st1 := st0.drewN m1)
    | (go_at_call 32; refine (l07Fully_any n l h1 h2 HL.out _).mono ?_; rintro e w2 ⟨rfl, rfl⟩; rw [HF.out])
    | (go_at_call 33; refine (HRT.out _).mono ?_; rintro e w3 ⟨a3, k3, rfl, s3, b3⟩; have st3 := st1.keep b3; have hz3 := b3.size))
  have hz3' : w.heap.size + 1 ≤ w3.heap.size := by have := hz3; simp only [show ((w.alloc (.cells #[.int .i64 0, .slice none 0 0] 31)).drewN m1).heap.size = (w.alloc (.cells #[.int .i64 0, .slice none 0 0] 31)).heap.size from rfl, World.size_alloc] at this; exact this
  obtain ⟨lR, hlR⟩ : ∃ lR, ((w.alloc (.cells #[.int .i64 0, .slice none 0 0] 31)).drewN m1).heap.size = lR := ⟨_, rfl⟩
  have hlR2 : lR = w.heap.size + 1 := by rw [← hlR]; simp
  rw [hlR] at s3
  have st4 := st3.addSl ⟨true, lR, w3.heap.size, .slice a3 m k3, m, rtF R⟩ s3
  obtain ⟨hR, hhR⟩ : ∃ hR, w3.heap.size = hR := ⟨_, rfl⟩
  rw [hhR] at st4
  obtain ⟨gR, offR, kR, hvR, hgR1, hgR2, _, _, _⟩ := s3.at (by omega)
  cases hvR
  obtain ⟨gx, offx, cpx, hvx, hgx1, hgx2, _, _, _⟩ := (st4.sl 1 ⟨o, lo, hi, .slice av m cap, m, f⟩ rfl).at (by show 0 < m; omega)
  cases hvx
  rw [hhR] at hgR2 hz3'
  have ST := Lib.hid st4
  clear st0 st1 st3 st4 b3 s3 hz3 hlR HRT
  go_loopw [10] (fun s10 wr => ∃ k : Nat, k ≤ m ∧ s10 = .int .i64 (k : Int) ∧ wr = w3) (fun s10 _ => m - (intOf s10).toNat)
  case atStart => exact ⟨0, Nat.zero_le _, rfl, rfl⟩
  case round =>
    obtain ⟨k, hk, rfl, hwr⟩ := hrel
    subst hwr
    by_cases hlt : k < m
    · have qx := ST.out.sl 1 ⟨o, lo, hi, .slice (some ⟨gx, offx, none⟩) m cap, m, f⟩ rfl
      dsimp only at qx
      have hck := (qx.known (by omega)).2.2.2.1 k hlt
      have hfk := HR.out k hlt
      clear qx
      go_wp2_with (go_at_call 36; refine (l01In_yes _ _ _ _ (by omega) (by omega)).mono ?_; rintro e w5 ⟨rfl, rfl⟩)
      go_roundw
      case rel => exact ⟨k + 1, by omega, by go_num, by first | rfl | trivial⟩
      case measure => simp [intOf] <;> omega
    · obtain rfl : m = k := by omega
      go_wp2_with (go_at_call 37; refine (HZR.out _).mono ?_; rintro e w5 ⟨aq, kq, rfl, s5, b5⟩)
      have hz5 := b5.size
      have st5 := ((ST.out.keep b5).alloc (.cells #[.int .i64 (n : Int), .slice aq m kq] 31)).addBox w5.heap.size [.int .i64 (n : Int), .slice aq m kq] (Box.made _ _ _ _ (fun j v h => by simpa using h))
      replace st5 := st5.addSl ⟨true, wr.heap.size, w5.heap.size, .slice aq m kq, m, ouF l R f 0⟩ (s5.alloc _)
      obtain ⟨lq, hlq⟩ : ∃ lq, wr.heap.size = lq := ⟨_, rfl⟩
      obtain ⟨b11, hb11⟩ : ∃ b11, w5.heap.size = b11 := ⟨_, rfl⟩
      rw [hlq, hb11] at st5
      have hrq : hR ≤ lq := by omega
      have hqb : lq ≤ b11 := by omega
      obtain ⟨gq, offq, cpq, hvq, hgq1, hgq2, _, _, _⟩ := (st5.sl 0 ⟨true, lq, b11, .slice aq m kq, m, ouF l R f 0⟩ rfl).at (by show 0 < m; omega)
      cases hvq
      rw [hb11]
      have hzB : b11 < (w5.alloc (.cells #[.int .i64 (n : Int), .slice (some ⟨gq, offq, none⟩) m kq] 31)).heap.size := by simp; omega
      have ST5 := Lib.hid st5
      clear st5 s5 b5 ST HZR hz5 hlq hhR
      obtain ⟨W5, hW5⟩ : ∃ W5, w5.alloc (.cells #[.int .i64 (n : Int), .slice (some ⟨gq, offq, none⟩) m kq] 31) = W5 := ⟨_, rfl⟩
      rw [hW5] at ST5 hzB ⊢
      clear hW5 hb11
      go_loopw [12] (fun s12 wa => ∃ i : Nat, i ≤ m ∧ s12 = .int .i64 (i : Int) ∧ b11 < wa.heap.size ∧ St w wa [(b11, [.int .i64 (n : Int), .slice (some ⟨gq, offq, none⟩) m kq]), (w.heap.size, [.int .i64 0, .slice none 0 0])] [⟨true, lq, b11, .slice (some ⟨gq, offq, none⟩) m kq, m, ouF l R f i⟩, ⟨true, lR, hR, .slice (some ⟨gR, offR, none⟩) m k3, m, rtF R⟩, ⟨o, lo, hi, .slice (some ⟨gx, offx, none⟩) m cap, m, f⟩]) (fun s12 _ => m - (intOf s12).toNat)
      case atStart => exact ⟨0, Nat.zero_le _, rfl, hzB, ST5.out⟩
      case round =>
        clear ST5 hzB
        rename World => wa
        obtain ⟨i, hile, rfl, hzB, hst⟩ := hrel
        have ST := Lib.hid hst
        clear hst
        by_cases hlt : i < m
        · have qR := ST.out.sl 1 ⟨true, lR, hR, .slice (some ⟨gR, offR, none⟩) m k3, m, rtF R⟩ rfl
          have qX := ST.out.sl 2 ⟨o, lo, hi, .slice (some ⟨gx, offx, none⟩) m cap, m, f⟩ rfl
          dsimp only at qR qX
          have cx := (qX.known (by omega)).2.2.2.1 i hlt
          have cx2 := var_cell (.cells #[.int .i64 1] 2) cx
          have hfi := HR.out i hlt
          have hB0 := ST.out.1
          have STA := Lib.hid (ST.out.alloc (.cells #[.int .i64 1] 2))
          clear qX qR
          go_wp2_with fail
          go_region
          all_goals
            have P0 := Lib.hid (show Sl true (wa.alloc (.cells #[.int .i64 1] 2)).drew wa.heap.size (wa.heap.size + 1) (.slice (some ⟨wa.heap.size, 0, none⟩) 1 1) 1 (nF (lgP l R i 0)) from (Sl.made wa #[.int .i64 1] 2 1 1 (nF [1]) (Nat.le_refl _) (by decide) (fun j hj => by have e : j = 0 := (by omega); subst e; simp [inR, nF]) (fun j hj => by have e : j = 0 := (by omega); subst e; rfl)).drew)
            have ST0 := Lib.hid STA.out.drew
            have hzW : (wa.alloc (.cells #[.int .i64 1] 2)).drew.heap.size = wa.heap.size + 1 := by simp
            have HV := Lib.hid (show ((lgC l R i (f i).toNat 0 : Nat) : Int) = f i from Int.toNat_of_nonneg hfi.1)
            obtain ⟨W6, hW6⟩ : ∃ W6, (wa.alloc (.cells #[.int .i64 1] 2)).drew = W6 := ⟨_, rfl⟩
            rw [hW6] at P0 ST0 hzW ⊢
            clear hW6 STA ST cx cx2
            go_wp2_with fail
            go_loopw [13, 14, 15] (fun s13 s14 s15 wb => ∃ (k gp offp kp lp hp : Nat), k ≤ m ∧ s15 = .int .i64 (k : Int) ∧ s13 = .slice (some ⟨gp, offp, none⟩) (lgP l R i k).length kp ∧ s14 = .int .i64 (lgC l R i (f i).toNat k : Nat) ∧ b11 < lp ∧ hp ≤ wb.heap.size ∧ Sl true wb lp hp (.slice (some ⟨gp, offp, none⟩) (lgP l R i k).length kp) (lgP l R i k).length (nF (lgP l R i k)) ∧ St w wb [(b11, [.int .i64 (n : Int), .slice (some ⟨gq, offq, none⟩) m kq]), (w.heap.size, [.int .i64 0, .slice none 0 0])] [⟨true, lq, b11, .slice (some ⟨gq, offq, none⟩) m kq, m, ouF l R f i⟩, ⟨true, lR, hR, .slice (some ⟨gR, offR, none⟩) m k3, m, rtF R⟩, ⟨o, lo, hi, .slice (some ⟨gx, offx, none⟩) m cap, m, f⟩]) (fun _ _ s15 _ => m - (intOf s15).toNat)
            case atStart => exact ⟨0, _, _, _, _, _, Nat.zero_le _, rfl, rfl, by rw [HV.out], hzB, by rw [hzW]; exact Nat.le_refl _, P0.out, ST0.out⟩
            case round =>
              clear P0 ST0 hzW
              rename World => wb
              obtain ⟨k, gp, offp, kp, lp, hp, hkm, rfl, rfl, rfl, hlp, hhp, hpl, hst⟩ := hrel
              have HP := Lib.hid hpl
              have ST := Lib.hid hst
              clear hpl hst
              have hlen := lgP_len l R i k
              by_cases hlk : k < m
              · as_aux_lemma =>
                by_cases hki : k = i
                · as_aux_lemma =>
                  have hkb : ((k : Int) == (i : Int)) = true := by rw [hki]; simp
                  have HG := Lib.hid (show lgP l R i (k + 1) = lgP l R i k by show (if k = i then _ else _) = _; rw [if_pos hki])
                  have HCC := Lib.hid (show lgC l R i (f i).toNat (k + 1) = lgC l R i (f i).toNat k by show (if k = i then _ else _) = _; rw [if_pos hki])
                  clear hki hlen
                  generalize lgP l R i k = P at *
                  generalize lgC l R i (f i).toNat k = c at *
                  go_wp2
                  go_roundw
                  case rel => exact ⟨k + 1, gp, offp, kp, lp, hp, by omega, by go_num, by rw [HG.out], by rw [HCC.out], hlp, hhp, by rw [HG.out]; exact HP.out, ST.out⟩
                  case measure => simp [intOf] <;> omega
                · have hkb : ((k : Int) == (i : Int)) = false := beq_eq_false_iff_ne.2 (by omega)
                  have HG := Lib.hid (show lgP l R i (k + 1) = tmL l (R.getD k 0) (lgP l R i k) by show (if k = i then _ else _) = _; rw [if_neg hki])
                  have HCC := Lib.hid (show lgC l R i (f i).toNat (k + 1) = lgC l R i (f i).toNat k * invN l (restN l (rtF R i - rtF R k)) % l by show (if k = i then _ else _) = _; rw [if_neg hki])
                  have hcl := lgC_lt R i (f i).toNat (l := l) (by omega) k
                  have HPB := Lib.hid (lgP_bd (l := l) (by omega) R i k)
                  have hle1 : 1 ≤ (lgP l R i k).length ∧ (lgP l R i k).length ≤ 13 := by rw [hlen]; split <;> omega
                  have qR := ST.out.sl 1 ⟨true, lR, hR, .slice (some ⟨gR, offR, none⟩) m k3, m, rtF R⟩ rfl
                  dsimp only at qR
                  have ci := (qR.known (by omega)).2.2.2.1 i hlt
                  have ck := (qR.known (by omega)).2.2.2.1 k hlk
                  have hmem : ∀ j, j < m → R.getD j 0 < l := fun j hj => (HRM.out _ (by rw [List.getD_eq_getElem?_getD, List.getElem?_eq_getElem (by rw [← HM.out]; exact hj)]; exact List.getElem_mem _)).1
                  obtain ⟨ri, hri⟩ : ∃ ri, R.getD i 0 = ri := ⟨_, rfl⟩
                  obtain ⟨rk, hrk⟩ : ∃ rk, R.getD k 0 = rk := ⟨_, rfl⟩
                  have hril := hmem i hlt
                  have hrkl := hmem k hlk
                  rw [hri] at hril
                  rw [hrk] at hrkl HG
                  rw [show rtF R i = ((ri : Nat) : Int) by unfold rtF; rw [hri]] at ci HCC
                  have HRK := Lib.hid (show rtF R k = ((rk : Nat) : Int) by unfold rtF; rw [hrk])
                  rw [HRK.out] at ck HCC
                  have hiv := pwr_lt (p := l) (g := restN l ((ri : Int) - rk)) (by omega) (l - 2)
                  have hwx : IntKind.i64.wrap ((ri : Int) - rk) = (ri : Int) - rk := IntWalk.i64_in _ (by omega)
                  clear qR hki hlen hri hrk hmem
                  generalize lgP l R i k = P at *
                  generalize lgC l R i (f i).toNat k = c at *
                  go_wp2_with fail
                  go_quiet (first | (go_at_call 38; exact Calls.quiet_of (l07Inverse_any l ((ri : Int) - rk) (by omega) (by omega) (by omega) (by omega) _)))
                  have HZ := Lib.hid (show (wrap64 ((c : Int) * ((invN l (restN l ((ri : Int) - rk)) : Nat) : Int))).tmod (l : Int) = ((lgC l R i (f i).toNat (k + 1) : Nat) : Int) by
                    have q1 : 0 ≤ (c : Int) * ((invN l (restN l ((ri : Int) - rk)) : Nat) : Int) := Int.mul_nonneg (by omega) (by omega)
                    have hiv2 : invN l (restN l ((ri : Int) - rk)) < l := hiv
                    have q2 : (c : Int) * ((invN l (restN l ((ri : Int) - rk)) : Nat) : Int) ≤ 61 * 61 := Int.mul_le_mul (by omega) (by omega) (by omega) (by omega)
                    rw [wrap_inR (by unfold inR; omega), Int.tmod_eq_emod_of_nonneg q1, HCC.out, Int.natCast_emod, Int.natCast_mul])
                  have b7 := below_drewN (Below.refl wb.heap.size wb) nq
                  have P7 := HP.out.keep b7 hhp
                  have ST7 := ST.out.keep b7
                  have hz7 : (wb.drewN nq).heap.size = wb.heap.size := rfl
                  obtain ⟨w7, hw7⟩ : ∃ w7, wb.drewN nq = w7 := ⟨_, rfl⟩
                  rw [hw7] at b7 P7 ST7 hz7 ⊢
                  generalize (wrap64 ((c : Int) * ((invN l (restN l ((ri : Int) - rk)) : Nat) : Int))).tmod (l : Int) = z14 at HZ ⊢
                  obtain ⟨len, hLen⟩ : ∃ len, P.length = len := ⟨_, rfl⟩
                  have HLen := Lib.hid hLen
                  rw [hLen] at P7 hle1 ⊢
                  clear hw7 b7 HP ST hLen ci ck hwx
                  have hmk := run_make_row' (P := Try.prog) 22 2 (.int .i64 0) 8 Try.underlying22 Try.info2 rfl .i64 .i64 (len + 1) (by omega) (by omega)
                  have hmk2 : ∀ w : World, (Instr.makeSlice 22 (.int .i64 ((len : Int) + 1)) (.int .i64 ((len : Int) + 1))).run Try.prog w = .ok (.slice (some ⟨w.heap.size, 0, none⟩) (len + 1) (len + 1)) (w.alloc (.cells (madeCells #[.int .i64 0] (len + 1)) 2)) := fun w => hmk w
                  have q0 := Lib.hid (Sl.made w7 (madeCells #[.int .i64 0] (len + 1)) 2 (len + 1) (len + 1) (fun _ => 0) (Nat.le_refl _) (by unfold maxLen; omega) (fun j hj => by simp [inR]) (fun j hj => by simp [madeCells_at _ _ _ hj]))
                  have P8 := Lib.hid (P7.alloc (.cells (madeCells #[.int .i64 0] (len + 1)) 2))
                  have ST8 := Lib.hid (ST7.alloc (.cells (madeCells #[.int .i64 0] (len + 1)) 2))
                  clear hmk P7 ST7
                  go_wp2
                  clear hmk2
                  obtain ⟨bn, hbn⟩ : ∃ bn, wb.heap.size = bn := ⟨_, rfl⟩
                  rw [hz7, hbn] at q0
                  rw [hbn] at hz7 hhp ⊢
                  have hpbn : hp ≤ bn := hhp
                  have hBn : b11 < bn := by have := (P8.out.at (by omega)).choose_spec; obtain ⟨_, _, _, _, h1, h2, _⟩ := P8.out.at (by omega); omega
                  go_loopw [17] (fun s17 wc => ∃ j : Nat, j ≤ len ∧ s17 = .int .i64 (j : Int) ∧ Sl true wc bn (bn + 1) (.slice (some ⟨bn, 0, none⟩) (len + 1) (len + 1)) (len + 1) (nxG l rk P j) ∧ Sl true wc lp hp (.slice (some ⟨gp, offp, none⟩) len kp) len (nF P) ∧ St w wc [(b11, [.int .i64 (n : Int), .slice (some ⟨gq, offq, none⟩) m kq]), (w.heap.size, [.int .i64 0, .slice none 0 0])] [⟨true, lq, b11, .slice (some ⟨gq, offq, none⟩) m kq, m, ouF l R f i⟩, ⟨true, lR, hR, .slice (some ⟨gR, offR, none⟩) m k3, m, rtF R⟩, ⟨o, lo, hi, .slice (some ⟨gx, offx, none⟩) m cap, m, f⟩]) (fun s17 _ => len - (intOf s17).toNat)
                  case atStart => exact ⟨0, Nat.zero_le _, rfl, q0.out.congr (fun j _ => by unfold nxG; rw [if_neg (Nat.not_lt_zero _)]; split <;> simp), P8.out, ST8.out⟩
                  case round =>
                    clear q0 P8 ST8 hbn
                    rename World => wc
                    obtain ⟨j, hjl, rfl, hqn, hqp, hst⟩ := hrel
                    have HN := Lib.hid hqn
                    have HP := Lib.hid hqp
                    have ST := Lib.hid hst
                    clear hqn hqp hst
                    by_cases hlj : j < len
                    · as_aux_lemma =>
                      have qR := ST.out.sl 1 ⟨true, lR, hR, .slice (some ⟨gR, offR, none⟩) m k3, m, rtF R⟩ rfl
                      dsimp only at qR
                      have ck := (qR.known (by omega)).2.2.2.1 k hlk
                      have cp := (HP.out.known (by omega)).2.2.2.1 j hlj
                      have u0 := (HN.out.known (by omega)).2.2.2.1 j (by omega)
                      have uz := (HN.out.known (by omega)).2.2.2.2 rfl j
                      have u1 := (HN.out.known (by omega)).2.2.2.1 (j + 1) (by omega)
                      have uz1 := (HN.out.known (by omega)).2.2.2.2 rfl (j + 1)
                      rw [Nat.zero_add] at u0 u1
                      rw [HRK.out] at ck
                      have hy1 := HPB.out j
                      have HT1 := Lib.hid (tmL_at (l := l) (r := rk) (P := P) (j := j) (by omega) (by rw [HLen.out]; exact hlj))
                      have e0 : nxG l rk P j j = if j = 0 then 0 else nF P (j - 1) := by unfold nxG; rw [if_neg (Nat.lt_irrefl _), if_pos rfl]
                      have e1 : nxG l rk P j (j + 1) = 0 := by unfold nxG; rw [if_neg (by omega), if_neg (by omega)]
                      have hy0 : 0 ≤ nxG l rk P j j ∧ nxG l rk P j j < l := by
                        rw [e0]; split
                        · omega
                        · exact HPB.out _
                      rw [← e0] at HT1
                      rw [e1] at u1
                      have HTB := tmL_bd (l := l) (r := rk) (by omega) P j
                      obtain ⟨tv, htv⟩ : ∃ tv, nF (tmL l rk P) j = tv := ⟨_, rfl⟩
                      have HTV := Lib.hid htv
                      rw [htv] at HT1 HTB
                      obtain ⟨y0, hy0e⟩ : ∃ y0, nxG l rk P j j = y0 := ⟨_, rfl⟩
                      rw [hy0e] at u0 hy0 HT1
                      obtain ⟨y1, hy1e⟩ : ∃ y1, nF P j = y1 := ⟨_, rfl⟩
                      rw [hy1e] at cp hy1 HT1
                      have HY1 := Lib.hid hy1e
                      have p0 : 0 ≤ y1 * ((l : Int) - rk) := Int.mul_nonneg (by omega) (by omega)
                      have p1 : y1 * ((l : Int) - rk) ≤ 61 * 61 := Int.mul_le_mul (by omega) (by omega) (by omega) (by omega)
                      have HV1 := Lib.hid (show (y0 + y1 * ((l : Int) - rk)) % (l : Int) = tv from HT1.out.symm)
                      have E1 := Lib.hid e1
                      have HYM := Lib.hid (show y1 % (l : Int) = y1 from Int.emod_eq_of_lt hy1.1 hy1.2)
                      clear qR e0 e1 htv hy0e hy1e HT1
                      have n2 := HN.out.store (i := j) (x := tv) (by omega) (by unfold inR; omega)
                      rw [Nat.zero_add] at n2
                      have N2 := Lib.hid n2.drew
                      have P2 := Lib.hid (HP.out.setOther (p := ⟨bn, j, none⟩) (.inr (by show hp ≤ bn; omega)) (.int .i64 tv)).drew
                      have frm := (Frame.refl bn (bn + 1) wc).setCell (p := ⟨bn, j, none⟩) (Nat.le_refl _) (Nat.lt_succ_self _) (.int .i64 tv)
                      have T2 := Lib.hid (ST.out.write frm (by omega) (by intro b hb; simp only [List.mem_cons, List.not_mem_nil, or_false] at hb; rcases hb with rfl | rfl <;> (left; dsimp only; omega)) (by intro s hs'; simp only [List.mem_cons, List.not_mem_nil, or_false] at hs'; rcases hs' with rfl | rfl | rfl <;> (left; dsimp only; omega))).drew
                      clear n2 frm
                      go_wp2_with fail
                      go_region
                      all_goals
                        rw [HV1.out]
                        obtain ⟨w9, hw9⟩ : ∃ w9, (wc.setCell ⟨bn, j, none⟩ (.int .i64 tv)).drew = w9 := ⟨_, rfl⟩
                        rw [hw9] at N2 P2 T2 ⊢
                        clear hw9 u0 uz u1 uz1 ck cp HN HP ST
                        have cp := (P2.out.known (by omega)).2.2.2.1 j hlj
                        rw [HY1.out] at cp
                        have u1 := (N2.out.known (by omega)).2.2.2.1 (j + 1) (by omega)
                        have uz1 := (N2.out.known (by omega)).2.2.2.2 rfl (j + 1)
                        rw [Nat.zero_add, if_neg (by omega), E1.out] at u1
                        go_wp2_with fail
                        go_region
                        all_goals
                          rw [HYM.out]
                          have n3 := N2.out.store (i := j + 1) (x := y1) (by omega) (by unfold inR; omega)
                          rw [Nat.zero_add] at n3
                          have N3 := Lib.hid ((n3.congr (f' := nxG l rk P (j + 1)) (fun t ht => by
                            by_cases g1 : t = j + 1
                            · rw [if_pos g1]; unfold nxG; rw [if_neg (by omega), if_pos g1, if_neg (Nat.succ_ne_zero _), Nat.add_sub_cancel, HY1.out]
                            · rw [if_neg g1]
                              by_cases g2 : t = j
                              · rw [if_pos g2]; unfold nxG; rw [if_pos (by omega), g2, HTV.out]
                              · rw [if_neg g2]; unfold nxG
                                by_cases g3 : t < j
                                · rw [if_pos (by omega), if_pos g3]
                                · rw [if_neg (by omega), if_neg g1, if_neg g3, if_neg g2])).drew)
                          have P3 := Lib.hid (P2.out.setOther (p := ⟨bn, j + 1, none⟩) (.inr (by show hp ≤ bn; omega)) (.int .i64 y1)).drew
                          have frm := (Frame.refl bn (bn + 1) w9).setCell (p := ⟨bn, j + 1, none⟩) (Nat.le_refl _) (Nat.lt_succ_self _) (.int .i64 y1)
                          have T3 := Lib.hid (T2.out.write frm (by omega) (by intro b hb; simp only [List.mem_cons, List.not_mem_nil, or_false] at hb; rcases hb with rfl | rfl <;> (left; dsimp only; omega)) (by intro s hs'; simp only [List.mem_cons, List.not_mem_nil, or_false] at hs'; rcases hs' with rfl | rfl | rfl <;> (left; dsimp only; omega))).drew
                          clear n3 frm
                          go_wp2_with fail
                          go_roundw
                          case rel => exact ⟨j + 1, by omega, by go_num, N3.out, P3.out, T3.out⟩
                          case measure => simp [intOf] <;> omega
                    · as_aux_lemma =>
                      obtain rfl : j = len := by omega
                      have hszn := HN.out.size
                      have NN := Lib.hid (show Sl true wc bn (bn + 1) (.slice (some ⟨bn, 0, none⟩) (lgP l R i (k + 1)).length (j + 1)) (lgP l R i (k + 1)).length (nF (lgP l R i (k + 1))) from by
                        rw [HG.out, tmL_len, HLen.out]
                        exact HN.out.congr (fun t ht => by
                          have := nxG_end (l := l) (r := rk) (P := P) HPB.out (by rw [HLen.out]; omega) t (by rw [HLen.out]; omega)
                          rw [HLen.out] at this
                          exact this.symm))
                      have HL2 := Lib.hid (show (lgP l R i (k + 1)).length = j + 1 by rw [HG.out, tmL_len, HLen.out])
                      go_wp2_with fail
                      go_roundw
                      case rel => exact ⟨k + 1, bn, 0, j + 1, bn, bn + 1, by omega, by go_num, by rw [HL2.out], by rw [HZ.out], hBn, hszn, NN.out, ST.out⟩
                      case measure => simp [intOf] <;> omega
              · obtain rfl : m = k := by omega
                have hlen2 : (lgP l R i m).length = m := by rw [hlen, if_neg (by omega)]
                have HPB := Lib.hid (lgP_bd (l := l) (by omega) R i m)
                have hcl := lgC_lt R i (f i).toNat (l := l) (by omega) m
                have HOU := Lib.hid (fun j => show ouF l R f (i + 1) j = (ouF l R f i j + (lgC l R i (f i).toNat m : Nat) * nF (lgP l R i m) j) % l by show (_ + (lgC l R i (f i).toNat R.length : Nat) * nF (lgP l R i R.length) j) % l = _; rw [← HM.out])
                have HOB := Lib.hid (fun j => ouF_bd (l := l) (by omega) R f i j)
                rw [hlen2] at HP ⊢
                clear hlen hlen2
                have Q0 := Lib.hid (ST.out.sl 0 ⟨true, lq, b11, .slice (some ⟨gq, offq, none⟩) m kq, m, ouF l R f i⟩ rfl)
                have T0 := Lib.hid (show St w wb [(b11, [.int .i64 (n : Int), .slice (some ⟨gq, offq, none⟩) m kq]), (w.heap.size, [.int .i64 0, .slice none 0 0])] [⟨true, lR, hR, .slice (some ⟨gR, offR, none⟩) m k3, m, rtF R⟩, ⟨o, lo, hi, .slice (some ⟨gx, offx, none⟩) m cap, m, f⟩] from ⟨ST.out.1, ST.out.2.1, fun s hs' => ST.out.2.2 s (List.mem_cons_of_mem _ hs')⟩)
                generalize lgP l R i m = P at *
                generalize lgC l R i (f i).toNat m = c at *
                go_wp2_with fail
                go_loopw [18] (fun s18 wd => ∃ j : Nat, j ≤ m ∧ s18 = .int .i64 (j : Int) ∧ b11 < wd.heap.size ∧ Sl true wd lq b11 (.slice (some ⟨gq, offq, none⟩) m kq) m (fun t => if t < j then ouF l R f (i + 1) t else ouF l R f i t) ∧ Sl true wd lp hp (.slice (some ⟨gp, offp, none⟩) m kp) m (nF P) ∧ St w wd [(b11, [.int .i64 (n : Int), .slice (some ⟨gq, offq, none⟩) m kq]), (w.heap.size, [.int .i64 0, .slice none 0 0])] [⟨true, lR, hR, .slice (some ⟨gR, offR, none⟩) m k3, m, rtF R⟩, ⟨o, lo, hi, .slice (some ⟨gx, offx, none⟩) m cap, m, f⟩]) (fun s18 _ => m - (intOf s18).toNat)
                case atStart => exact ⟨0, Nat.zero_le _, rfl, by have := (T0.out.box 0 (b11, [.int .i64 (n : Int), .slice (some ⟨gq, offq, none⟩) m kq]) rfl).1; exact this, Q0.out.congr (fun j _ => by rw [if_neg (Nat.not_lt_zero _)]), HP.out, T0.out⟩
                case round =>
                  clear Q0 T0 HP ST
                  rename World => wd
                  obtain ⟨j, hjm, rfl, hzd, hq, hpp, hst⟩ := hrel
                  have HQ := Lib.hid hq
                  have HP := Lib.hid hpp
                  have ST := Lib.hid hst
                  clear hq hpp hst
                  by_cases hlj : j < m
                  · as_aux_lemma =>
                    obtain ⟨d0, d1⟩ := (ST.out.box 0 (b11, [.int .i64 (n : Int), .slice (some ⟨gq, offq, none⟩) m kq]) rfl).cell2
                    dsimp only at d0 d1
                    have cp := (HP.out.known (by omega)).2.2.2.1 j hlj
                    have u0 := (HQ.out.known (by omega)).2.2.2.1 j hlj
                    have uz := (HQ.out.known (by omega)).2.2.2.2 rfl (offq + j)
                    rw [if_neg (Nat.lt_irrefl _)] at u0
                    have hy1 := HPB.out j
                    have hx0 := HOB.out j
                    have HOJ := Lib.hid (HOU.out j)
                    generalize nF P j = y at *
                    generalize ouF l R f i j = x0 at *
                    have p0 : 0 ≤ (c : Int) * y := Int.mul_nonneg (by omega) (by omega)
                    have p1 : (c : Int) * y ≤ 61 * 61 := Int.mul_le_mul (by omega) (by omega) (by omega) (by omega)
                    have rb1 := Int.emod_nonneg (x0 + (c : Int) * y) (b := (l : Int)) (by omega)
                    have rb2 := Int.emod_lt_of_pos (x0 + (c : Int) * y) (b := (l : Int)) (by omega)
                    have n2 := HQ.out.store (i := j) (x := (x0 + (c : Int) * y) % (l : Int)) hlj (by unfold inR; omega)
                    have N2 := Lib.hid ((n2.congr (f' := fun t => if t < j + 1 then ouF l R f (i + 1) t else ouF l R f i t) (fun t ht => by
                      by_cases g1 : t = j
                      · subst g1; rw [if_pos rfl, if_pos (Nat.lt_succ_self _), HOJ.out]
                      · rw [if_neg g1]
                        by_cases g2 : t < j
                        · rw [if_pos g2, if_pos (by omega)]
                        · rw [if_neg g2, if_neg (by omega)])).drew)
                    have P2 := Lib.hid (HP.out.setOther (p := ⟨gq, offq + j, none⟩) (.inl (by show gq < lp; omega)) (.int .i64 ((x0 + (c : Int) * y) % (l : Int)))).drew
                    have frm := (Frame.refl lq b11 wd).setCell (p := ⟨gq, offq + j, none⟩) hgq1 hgq2 (.int .i64 ((x0 + (c : Int) * y) % (l : Int)))
                    have T2 := Lib.hid (ST.out.write frm (by omega) (by intro b hb; simp only [List.mem_cons, List.not_mem_nil, or_false] at hb; rcases hb with rfl | rfl <;> dsimp only <;> omega) (by intro s hs'; simp only [List.mem_cons, List.not_mem_nil, or_false] at hs'; rcases hs' with rfl | rfl <;> (left; dsimp only; omega))).drew
                    clear n2 frm HOJ
                    go_wp2_with fail
                    go_region
                    all_goals
                      go_wp2_with fail
                      go_roundw
                      case rel => exact ⟨j + 1, by omega, by go_num, by simpa using hzd, N2.out, P2.out, T2.out⟩
                      case measure => simp [intOf] <;> omega
                  · as_aux_lemma =>
                    obtain rfl : m = j := by omega
                    have Q2 := Lib.hid (HQ.out.congr (f' := ouF l R f (i + 1)) (fun t ht => by rw [if_pos ht]))
                    have T2 := Lib.hid (ST.out.addSl ⟨true, lq, b11, .slice (some ⟨gq, offq, none⟩) m kq, m, ouF l R f (i + 1)⟩ Q2.out)
                    go_wp2_with fail
                    go_roundw
                    case rel => exact ⟨i + 1, by omega, by go_num, hzd, T2.out⟩
                    case measure => simp [intOf] <;> omega
        · as_aux_lemma =>
          obtain rfl : m = i := by omega
          have qq := ST.out.sl 0 ⟨true, lq, b11, .slice (some ⟨gq, offq, none⟩) m kq, m, ouF l R f m⟩ rfl
          dsimp only at qq
          obtain ⟨d0, d1⟩ := (ST.out.box 0 (b11, [.int .i64 (n : Int), .slice (some ⟨gq, offq, none⟩) m kq]) rfl).cell2
          obtain ⟨c0, c1⟩ := (ST.out.box 1 (w.heap.size, [.int .i64 0, .slice none 0 0]) rfl).cell2
          have cz := (ST.out.box 1 (w.heap.size, [.int .i64 0, .slice none 0 0]) rfl).2.2
          dsimp only at d0 d1 c0 c1 cz
          have BB := (ST.out.1.setCell (p := ⟨w.heap.size, 0, none⟩) (Nat.le_refl _) (.int .i64 (n : Int))).setCell (p := ⟨w.heap.size, 1, none⟩) (Nat.le_refl _) (.slice (some ⟨gq, offq, none⟩) m kq)
          go_wp2
          refine bodyPost_ret (v := .tuple #[.agg #[.int .i64 (n : Int), .slice (some ⟨gq, offq, none⟩) m kq], .int .i64 0]) ?_ rfl ?_
          · clear qq ST BB HRM HM HR
            simp [results, Try.results17, go_sem, c0, c1]
          · have QQ := Lib.hid ((qq.setOther (p := ⟨w.heap.size, 0, none⟩) (.inl (by show w.heap.size < lq; omega)) (.int .i64 (n : Int))).setOther (p := ⟨w.heap.size, 1, none⟩) (.inl (by show w.heap.size < lq; omega)) (.slice (some ⟨gq, offq, none⟩) m kq))
            have hZ : b11 ≤ ((wa.setCell ⟨w.heap.size, 0, none⟩ (.int .i64 (n : Int))).setCell ⟨w.heap.size, 1, none⟩ (.slice (some ⟨gq, offq, none⟩) m kq)).heap.size := by
              rw [World.size_setCell, World.size_setCell]; omega
            exact ⟨_, _, rfl, QQ.out.wide (by omega) hZ (Nat.le_refl _), BB⟩
end
end Go.Proofs.Ythookppmclimkaa
