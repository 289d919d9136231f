/- l01Quotient, l01Cyclotomic: the model's division and its polynomials. -/
import Derived.Test.YtnhpodlcgkgpbaaCycImpl
import Derived.Test.YtnhpodlcgkgpbaaOwn
import Derived.BigRegion
namespace Go.Proofs.Ytnhpodlcgkgpbaa
open Go.RowKit Go.ChangeShapes Go.Sort

theorem stepD_ge {g : Nat → Int} {d k j : Nat} {M : Nat → Int} (h : k + d ≤ j) : stepD g d k M j = M j := by
  unfold stepD; split
  · rfl
  · exact if_neg (by omega)
theorem divL_ge {g : Nat → Int} {d : Nat} : ∀ (r : Nat) {j : Nat} {M : Nat → Int}, r + d ≤ j + 1 → divL g d r M j = M j
  | 0, _, _, _ => rfl
  | r + 1, j, M, h => by rw [divL_succ, divL_ge r (by omega), stepD_ge (by omega)]
/-- A step without the look at the lead: the same numbers, as long as all fit. -/
theorem stepD_plain {g : Nat → Int} {d k j : Nat} {M : Nat → Int} (h : inR (M j)) (h1 : k ≤ j) (h2 : j < k + d) : stepD g d k M j = wrap64 (M j - wrap64 (M (k + d) * g (j - k))) := by
  unfold stepD; split
  · rename_i h0; rw [h0, Int.zero_mul, show wrap64 0 = 0 from wrap_inR (by unfold inR; omega), Int.sub_zero, wrap_inR h]
  · exact if_pos ⟨h1, h2⟩
theorem stepD_low {g : Nat → Int} {d k j : Nat} {M : Nat → Int} (h : j < k) : stepD g d k M j = M j := by
  unfold stepD; split
  · rfl
  · exact if_neg (by omega)

section
variable {o o' : Bool} {lo hi lo' hi' : Nat} {v v' : Value} {f g : Nat → Int}
set_option maxRecDepth 100000 in
set_option maxHeartbeats 2000000 in
theorem l01Quotient_any (m d : Nat) (w : World) (hs : Sl o w lo hi v (m + 1 + d) f) (hg : Sl o' w lo' hi' v' (d + 1) g) (hm : m + d < 1048576) :
    Calls Try.prog 214 #[v, v'] w fun e w' => ∃ a cap, e = .returned (.slice a (m + 1) cap) ∧ Sl true w' w.heap.size w'.heap.size (.slice a (m + 1) cap) (m + 1) (fun j => divL g d (m + 1) f (j + d)) ∧ Below w.heap.size w w' := by
  obtain ⟨a, cap, rfl⟩ := hs.shape
  obtain ⟨g2, off2, c2, rfl, _, hg2', _, _, hc2, _⟩ := hg.at (Nat.succ_pos d)
  have HC2 := Lib.hid hc2; clear hc2
  have hg2s : g2 < w.heap.size := Nat.lt_of_lt_of_le hg2' hg.size
  have HS := Lib.hid hs; clear hs
  have hmk := run_make_row' (P := Try.prog) 22 2 (.int .i64 0) 8 Try.underlying22 Try.info2 rfl .i64 .i64 (m + 1) (by omega) (by omega)
  have ec : ((m + 1 : Nat) : Int) = (m : Int) + 1 := by omega
  rw [ec] at hmk
  clear ec
  go_enter Try.func214, Try.ntmps214
  go_wp2_with fail
  refine (l01Own_any _ HS.out (by omega)).mono ?_
  rintro e w1 ⟨a1, k1, rfl, s1, b1⟩
  have HS1 := Lib.hid s1; clear s1
  go_wp2
  rw [show ((m : Int) + 1 + d - (d + 1)) = m by omega]
  go_simp
  go_wp2
  clear hmk
  have SO := Sl.made w1 (madeCells #[.int .i64 0] (m + 1)) 2 (m + 1) (m + 1) (fun _ => 0) (Nat.le_refl _) (by unfold maxLen; omega) (fun j hj => by simp [inR]) (fun j hj => madeCells_at _ _ _ hj)
  have b1s := b1.size
  have HI := Lib.hid (HS1.out.bd)
  go_loopw [8] (fun s8 wr => ∃ (r : Nat) (M R O : Nat → Int), r ≤ m + 1 ∧ s8 = .int .i64 ((r : Int) - 1) ∧
      Sl true wr w.heap.size w1.heap.size (.slice a1 (m + 1 + d) k1) (m + 1 + d) R ∧ Sl true wr w1.heap.size (w1.heap.size + 1) (.slice (some ⟨w1.heap.size, 0, none⟩) (m + 1) (m + 1)) (m + 1) O ∧
      Below w.heap.size w wr ∧ divL g d r M = divL g d (m + 1) f ∧ (∀ j, j < m + 1 + d → inR (M j)) ∧ (∀ j, j < r + d → R j = M j) ∧ (∀ j, r ≤ j → j < m + 1 → O j = M (j + d))) (fun s8 _ => (intOf s8 + 1).toNat)
  case atStart =>
    refine ⟨m + 1, f, f, fun _ => 0, Nat.le_refl _, by go_num, HS1.out.alloc _, SO, b1.alloc (by omega) _, rfl, HI.out, fun _ _ => rfl, fun j h1 h2 => ?_⟩
    omega
  case round =>
    obtain ⟨r, M, R, O, hr, rfl, hR, hO, hb, hE, hMi, hRM, hOM⟩ := hrel
    have HR := Lib.hid hR; clear hR
    have HO := Lib.hid hO; clear hO
    have HE := Lib.hid hE; clear hE
    have HMi := Lib.hid hMi; clear hMi
    have HRM := Lib.hid hRM; clear hRM
    have HOM := Lib.hid hOM; clear hOM
    by_cases h0 : 1 ≤ r
    · obtain ⟨k, rfl⟩ : ∃ k, r = k + 1 := ⟨r - 1, by omega⟩
      obtain ⟨g1, off1, c1, hv, _⟩ := HR.out.at (by omega)
      obtain ⟨rfl, rfl⟩ : a1 = some ⟨g1, off1, none⟩ ∧ k1 = c1 := by cases hv; exact ⟨rfl, rfl⟩
      clear hv
      obtain ⟨hg1, hg1', _, hc, hz⟩ := HR.out.known (by omega)
      obtain ⟨_, _, _, hc', hz'⟩ := HO.out.known (by omega)
      have c0 := hc (k + d) (by omega)
      rw [HRM.out _ (by omega)] at c0
      have c1 := hc' k (by omega)
      have z1 := hz' rfl k
      rw [Nat.zero_add] at c1
      clear hc hz hc' hz'
      rw [show (((k + 1 : Nat) : Int) - 1) = (k : Int) by omega]
      have hRk : R (k + d) = M (k + d) := HRM.out _ (by omega)
      have hOk := (HO.out.store0 (i := k) (x := M (k + d)) (by omega) (HMi.out _ (by omega)))
      have HOk := Lib.hid hOk; clear hOk
      have HRk := Lib.hid (HR.out.setOther (p := ⟨w1.heap.size, k, none⟩) (.inr (Nat.le_refl _)) (.int .i64 (M (k + d)))); clear hRk
      have hb2 := hb.setCell (p := ⟨w1.heap.size, k, none⟩) (by show w.heap.size ≤ w1.heap.size; omega) (.int .i64 (M (k + d)))
      go_wp2
      go_loopw [9] (fun s9 wx => ∃ i : Nat, i ≤ d + 1 ∧ s9 = .int .i64 i ∧
          Sl true wx w.heap.size w1.heap.size (.slice (some ⟨g1, off1, none⟩) (m + 1 + d) k1) (m + 1 + d) (fun j => if k ≤ j ∧ j < k + i then wrap64 (R j - wrap64 (M (k + d) * g (j - k))) else R j) ∧
          Sl true wx w1.heap.size (w1.heap.size + 1) (.slice (some ⟨w1.heap.size, 0, none⟩) (m + 1) (m + 1)) (m + 1) (fun j => if j = k then M (k + d) else O j) ∧ Below w.heap.size w wx) (fun s9 _ => d + 1 - (intOf s9).toNat)
      case atStart => exact ⟨0, Nat.zero_le _, rfl, HRk.out.congr (fun j hj => by rw [if_neg (by omega)]), HOk.out, hb2⟩
      case round =>
        obtain ⟨i, hid, rfl, hR', hO', hb3⟩ := hrel
        have HR' := Lib.hid hR'; clear hR'
        have HO' := Lib.hid hO'; clear hO'
        by_cases hlt : i < d + 1
        · obtain ⟨_, _, _, hc, hz⟩ := HR'.out.known (by omega)
          obtain ⟨_, _, _, hc', _⟩ := HO'.out.known (by omega)
          have c0 := hc (k + i) (by omega)
          rw [if_neg (by omega)] at c0
          have z0 := hz rfl (off1 + (k + i))
          have c1 := hc' k (by omega)
          rw [Nat.zero_add, if_pos rfl] at c1
          have c2 : wr.cell? ⟨g2, off2 + i, none⟩ = some (.int .i64 (g i)) := by rw [hb3.cell (p := ⟨g2, off2 + i, none⟩) hg2s]; exact HC2.out i (by omega)
          clear hc hz hc'
          go_wp2
          go_region
          go_wp2
          go_roundw
          case rel =>
            refine ⟨i + 1, by omega, by go_num, ?_, ?_, (hb3.setCell (by show w.heap.size ≤ g1; omega) _).drew⟩
            · refine ((HR'.out.store (i := k + i) (by omega) (inR_wrap _)).drew).congr (fun j hj => ?_)
              by_cases e : j = k + i
              · subst e
                rw [if_pos ⟨by omega, by omega⟩, if_pos rfl, Nat.add_sub_cancel_left]
              · rw [if_neg e]
                by_cases e2 : k ≤ j ∧ j < k + i
                · rw [if_pos e2, if_pos (by omega)]
                · rw [if_neg e2, if_neg (by omega)]
            · exact (HO'.out.setOther (by show g1 < _ ∨ _ ≤ g1; omega) _).drew
          case measure => simp [intOf] <;> omega
        · have e : i = d + 1 := by omega
          subst e
          go_wp2
          go_roundw
          case rel =>
            refine ⟨k, stepD g d k M, _, _, by omega, by go_num, HR'.out, HO'.out, hb3, HE.out, stepD_inR HMi.out, fun j hj => ?_, fun j h1 h2 => ?_⟩
            · by_cases e1 : k ≤ j
              · rw [if_pos ⟨e1, by omega⟩, HRM.out j (by omega), stepD_plain (HMi.out j (by omega)) e1 hj]
              · rw [if_neg (by omega), HRM.out j (by omega), stepD_low (by omega)]
            · rw [stepD_ge (by omega)]
              by_cases e1 : j = k
              · subst e1; rw [if_pos rfl]
              · rw [if_neg e1]; exact HOM.out j (by omega) h2
          case measure => simp [intOf] <;> omega
    · have e : r = 0 := by omega
      subst e
      rw [show (((0 : Nat) : Int) - 1) = -1 by omega]
      go_wp2
      go_ret
      refine ⟨_, _, rfl, ?_, hb⟩
      refine (HO.out.congr (fun j hj => ?_)).wide (by omega) HO.out.size (Nat.le_refl _)
      rw [← HE.out, HOM.out j (Nat.zero_le _) hj]
      rfl
end

set_option maxRecDepth 100000 in
set_option maxHeartbeats 1000000 in
theorem l01Cyclotomic_any : ∀ (n : Nat), n < 61 → 1 ≤ n → ∀ (w : World),
    Calls Try.prog 207 #[.int .i64 (n : Int)] w fun e w' => ∃ a' cap', e = .returned (.slice a' (phiN n + 1) cap') ∧ Sl true w' w.heap.size w'.heap.size (.slice a' (phiN n + 1) cap') (phiN n + 1) (cyc n) ∧ Below w.heap.size w w' := by
  intro n
  induction n using Nat.strongRecOn with
  | _ n ih =>
    intro hn h1 w
    have IH := Lib.hid ih; clear ih
    have hmk := run_make_row' (P := Try.prog) 22 2 (.int .i64 0) 8 Try.underlying22 Try.info2 rfl .i64 .i64 (n + 1) (by omega) (by omega)
    have ec : ((n + 1 : Nat) : Int) = (n : Int) + 1 := by omega
    rw [ec] at hmk
    clear ec
    have hq0 := madeCells_at (.int .i64 0) (n + 1) 0 (by omega)
    obtain ⟨v3, hq1⟩ : ∃ v3, ((madeCells #[.int .i64 0] (n + 1)).setIfInBounds 0 (.int .i64 (-1)))[n]? = some v3 :=
      ⟨_, Array.getElem?_eq_getElem (by simp [madeCells_size])⟩
    go_enter Try.func207, Try.ntmps207
    go_wp2
    clear hmk hq0 hq1
    go_loopw [3, 4] (fun s3 s4 wr => ∃ (d cap : Nat) (a : Option Addr), 1 ≤ d ∧ d ≤ n ∧ s4 = .int .i64 d ∧ s3 = .slice a (n + 1 - sumPhi n d) cap ∧
        Sl true wr w.heap.size wr.heap.size (.slice a (n + 1 - sumPhi n d) cap) (n + 1 - sumPhi n d) (cycTo cyc n d) ∧ Below w.heap.size w wr) (fun _ s4 _ => n - (intOf s4).toNat)
    case atStart => exact ⟨1, n + 1, _, by omega, h1, rfl, rfl, (Sl.base w n (by unfold maxLen; omega)).wide (Nat.le_refl _) (by simp) (Nat.le_refl _), (Below.refl _ _).alloc (Nat.le_refl _) _⟩
    case round =>
      obtain ⟨d, cap, a, hd1, hd2, rfl, rfl, hown, hb⟩ := hrel
      have hlt0 := sumPhi_lt hn h1 hd2
      have HO := Lib.hid hown; clear hown
      by_cases hlt : d < n
      · by_cases hdiv : n % d = 0
        · have hle := sumPhi_le hn h1 hlt hd1 hdiv
          have E1 := Lib.hid (sumPhi_div hd1 hdiv)
          have E2 := Lib.hid (cycTo_div (P := cyc) hd1 hdiv)
          have hbb : ((n : Int) % (d : Int) == 0) = true := by rw [beq_iff_eq]; omega
          have HD := Lib.hid hdiv; clear hdiv
          obtain ⟨m, hm⟩ : ∃ m, n + 1 - sumPhi n d = m + 1 + phiN d := ⟨n - sumPhi n d - phiN d, by omega⟩
          have HM := Lib.hid hm; clear hm
          go_wp2_with fail
          refine (IH.out d hlt (by omega) hd1 _).mono ?_
          rintro e w1 ⟨a1, cap1, rfl, s1, b1⟩
          have HS1 := Lib.hid s1; clear s1
          have HO1 := Lib.hid (HO.out.keep b1 (Nat.le_refl _))
          rw [HM.out] at HO1
          go_wp2_with fail
          rw [HM.out]
          refine (l01Quotient_any m (phiN d) w1 HO1.out HS1.out (by have := HM.out; omega)).mono ?_
          rintro e w2 ⟨a2, cap2, rfl, s2, b2⟩
          have HS2 := Lib.hid s2; clear s2
          have hB2 : Below w.heap.size w w2 := hb.trans ((b1.mono hb.size).trans (b2.mono (Nat.le_trans hb.size b1.size)))
          have hz := hb.size
          have hz1 := b1.size
          have hz2 := b2.size
          go_wp2
          go_roundw
          case rel =>
            have e3 : n + 1 - sumPhi n (d + 1) = m + 1 := by rw [E1.out]; have := HM.out; omega
            refine ⟨d + 1, cap2, a2, by omega, by omega, by go_num, by rw [e3], ?_, hB2⟩
            rw [e3, E2.out, HM.out, show m + 1 + phiN d - phiN d = m + 1 by omega]
            exact HS2.out.wide (by omega) (Nat.le_refl _) (Nat.le_refl _)
          case measure => simp [intOf] <;> omega
        · have E1 := Lib.hid (sumPhi_not hdiv)
          have E2 := Lib.hid (cycTo_not (P := cyc) hdiv)
          have hbb : ((n : Int) % (d : Int) == 0) = false := by rw [beq_eq_false_iff_ne]; omega
          have HD := Lib.hid hdiv; clear hdiv
          go_wp2
          go_roundw
          case rel => exact ⟨d + 1, cap, a, by omega, by omega, by go_num, by rw [E1.out], by rw [E1.out, E2.out]; exact HO.out, hb⟩
          case measure => simp [intOf] <;> omega
      · have e : d = n := by omega
        subst e
        have hg := gauss d hn h1
        have E1 := Lib.hid (show d + 1 - sumPhi d d = phiN d + 1 by omega)
        have HG := Lib.hid hg; clear hg
        go_wp2
        go_ret
        refine ⟨a, cap, by rw [← E1.out]; rfl, ?_, hb⟩
        have h := HO.out
        rw [E1.out, ← cyc_eq d (by omega)] at h
        exact h
end Go.Proofs.Ytnhpodlcgkgpbaa
