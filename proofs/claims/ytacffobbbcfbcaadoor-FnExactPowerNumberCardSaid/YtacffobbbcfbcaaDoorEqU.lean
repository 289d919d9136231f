/- Chapter 8 of the model: counts of the solutions of equations. -/
import Derived.Test.YtacffobbbcfbcaaDoorEqT
import Derived.Deep.RegionHeld3
namespace Go.Proofs.YtacffobbbcfbcaaDoor
open Go.RowKit Go.ChangeShapes Go.Sort
set_option linter.unusedVariables false
set_option linter.unusedSimpArgs false
set_option maxRecDepth 100000

/-- f is 1 where only numbers other than 0 count. -/
def fuN (full : Bool) : Nat := if full then 1 else 0
theorem made0 (w : World) (p : Nat) (h : p ≤ 61) (t : TypeId) (ht : t = 2) : Sl true (w.alloc (.cells (madeCells #[.int .i64 0] p) t)) w.heap.size (w.heap.size + 1) (.slice (some ⟨w.heap.size, 0, none⟩) p p) p (fun _ => 0) := by
  subst ht
  exact Sl.made w (madeCells #[.int .i64 0] p) 2 p p (fun _ => 0) (Nat.le_refl _) (by unfold maxLen; omega) (fun j hj => by simp [inR]) (fun j hj => by simp [madeCells_at _ _ _ hj])
theorem cv_bd {p : Nat} {c own : Nat → Int} (hp : p ≤ 61) (hc : ∀ t, t < p → 0 ≤ c t ∧ c t ≤ 13845841) (ho : ∀ t, t < p → 0 ≤ own t ∧ own t ≤ 61) : (∀ x y b, x < p → y ≤ p → 0 ≤ cvR p c own x y b ∧ cvR p c own x y b ≤ 61 * (13845841 * 61)) ∧ ∀ x b, x ≤ p → 0 ≤ cvT p c own x b ∧ cvT p c own x b ≤ 61 * (61 * (13845841 * 61)) := by
  have h1 : ∀ x y b, x < p → y ≤ p → 0 ≤ cvR p c own x y b ∧ cvR p c own x y b ≤ 61 * (13845841 * 61) := fun x y b hx hy => by
    unfold cvR
    have hm : ∀ t, t < y → 0 ≤ c x * own t ∧ c x * own t ≤ 13845841 * 61 := fun t ht => ⟨Int.mul_nonneg (hc x hx).1 (ho t (by omega)).1, Int.mul_le_mul (hc x hx).2 (ho t (by omega)).2 (ho t (by omega)).1 (by omega)⟩
    refine ⟨smN_nonneg (fun t ht => ?_), Int.le_trans (smN_le (B := 13845841 * 61) (fun t ht => ?_)) ?_⟩
    · split
      · exact (hm t ht).1
      · omega
    · split
      · exact (hm t ht).2
      · omega
    · exact Int.mul_le_mul_of_nonneg_right (by omega) (by omega)
  refine ⟨h1, fun x b hx => ?_⟩
  unfold cvT
  refine ⟨smN_nonneg (fun t ht => (h1 t p b (by omega) (Nat.le_refl _)).1), Int.le_trans (smN_le (B := 61 * (13845841 * 61)) (fun t ht => (h1 t p b (by omega) (Nat.le_refl _)).2)) ?_⟩
  exact Int.mul_le_mul_of_nonneg_right (by omega) (by omega)
section
variable {o o' : Bool} {lo hi lo' hi' : Nat} {v v' : Value} {n : Nat} {fa fe : Nat → Int}
set_option maxHeartbeats 8000000 in
theorem l08Count_false (p B : Nat) (hp : primeN p = true) (hB : B < p) (h2 : n ≤ 4) (h1 : 1 ≤ n) (h : ∀ i, i < n → 1 ≤ fa i ∧ fa i < (p : Int) ∧ 1 ≤ fe i ∧ fe i ≤ 60) (w : World) (hs : Sl o w lo hi v n fa) (ht : Sl o' w lo' hi' v' n fe) :
    Calls Tryd.prog 63 #[.int .i64 (p : Int), v, v', .int .i64 (B : Int), .bool false] w fun e w' => e = .returned (.int .i64 (solT p fa fe 0 n B)) ∧ Below w.heap.size w w' := by
  have hbd := primeN_bd hp
  have H := Lib.hid h
  obtain ⟨g1, off1, k1, rfl, _, hg1, _, _, hc1, _⟩ := hs.at (by omega)
  obtain ⟨g2, off2, k2, rfl, _, hg2, _, _, hc2, _⟩ := ht.at (by omega)
  have hs1 := hs.size
  have hs2 := ht.size
  have HC1 := Lib.hid hc1
  have HC2 := Lib.hid hc2
  have hp0 : ¬ p = 0 := by omega
  have hmk := run_make_row' (P := Tryd.prog) 24 2 (.int .i64 0) 8 Tryd.underlying24 Tryd.info2 rfl .i64 .i64 p (by omega) (by omega)
  have q0 := made0 w p hbd.2 _ rfl
  have c0 := (q0.known (by omega)).2.2.2.1 0 (by omega)
  rw [Nat.zero_add] at c0
  have f0 := (q0.known (by omega)).2.2.2.2 rfl 0
  have q1 := (q0.store0 (i := 0) (by omega) (x := 1) (by unfold inR; omega)).congr (f' := e0Z) (fun j hj => rfl)
  rw [World.setCell_alloc_new] at q1
  have Q1 := Lib.hid q1
  have B1 := Lib.hid ((Below.refl w.heap.size w).alloc (Nat.le_refl _) (.cells ((madeCells #[.int .i64 0] p).setIfInBounds 0 (.int .i64 1)) 2))
  clear hs ht hp h hc1 hc2 q0 q1
  go_enter Tryd.func63, Tryd.ntmps63
  go_wp2
  go_loopw [11, 12] (fun s11 s12 wr => ∃ i G : Nat, i ≤ n ∧ s12 = .int .i64 (i : Int) ∧ s11 = .slice (some ⟨G, 0, none⟩) p p ∧ w.heap.size ≤ G ∧ Sl true wr G (G + 1) (.slice (some ⟨G, 0, none⟩) p p) p (solT p fa fe 0 i) ∧ Below w.heap.size w wr) (fun _ s12 _ => n - (intOf s12).toNat)
  case atStart => exact ⟨0, w.heap.size, Nat.zero_le _, rfl, rfl, Nat.le_refl _, Q1.out, B1.out⟩
  case round =>
    clear Q1 B1 c0 f0
    obtain ⟨i, G, hi', rfl, rfl, hG, hq, hbl⟩ := hrel
    have hqs := hq.size
    have HQ := Lib.hid hq
    have HB := Lib.hid hbl
    clear hq
    by_cases hlt : i < n
    · obtain ⟨k1', k2', k3, k4⟩ := H.out i hlt
      have hx1 := (hbl.cell (p := ⟨g1, off1 + i, none⟩) (by show g1 < _; omega)).trans (HC1.out i hlt)
      have hx2 := (hbl.cell (p := ⟨g2, off2 + i, none⟩) (by show g2 < _; omega)).trans (HC2.out i hlt)
      have hzz := hbl.size
      have HST := Lib.hid (show solT p fa fe 0 (i + 1) = fun b => wfT p (vN p (fa i).toNat (fe i).toNat) (solT p fa fe 0 i) 0 p b from rfl)
      have HBD := Lib.hid (fun j (hj : j < p) => solT_bd4 (p := p) (by omega) hbd.2 fa fe 0 (n := i) (by omega) hj)
      obtain ⟨A, hA⟩ : ∃ A : Nat, fa i = (A : Int) := ⟨(fa i).toNat, by omega⟩
      obtain ⟨K, hK⟩ : ∃ K : Nat, fe i = (K : Int) := ⟨(fe i).toNat, by omega⟩
      rw [hA, hK] at HST
      rw [Int.toNat_natCast, Int.toNat_natCast] at HST
      rw [hA] at hx1 k1' k2'
      rw [hK] at hx2 k3 k4
      clear hA hK hbl
      have hal := fun ob => alloc_bl wr ob
      have y1 : ∀ ob, (wr.alloc ob).cell? ⟨g1, off1 + i, none⟩ = some (.int .i64 (A : Int)) := fun ob => ((hal ob).cell (p := ⟨g1, off1 + i, none⟩) (by show g1 < _; omega)).trans hx1
      have y2 : ∀ ob, (wr.alloc ob).cell? ⟨g2, off2 + i, none⟩ = some (.int .i64 (K : Int)) := fun ob => ((hal ob).cell (p := ⟨g2, off2 + i, none⟩) (by show g2 < _; omega)).trans hx2
      have O2 := Lib.hid (made0 wr p hbd.2 _ rfl)
      go_wp2
      go_region_held3 (fun w' => w'.cell? ⟨g1, off1 + i, none⟩ = some (.int .i64 (A : Int)) ∧ w'.cell? ⟨g2, off2 + i, none⟩ = some (.int .i64 (K : Int)))
        (first | exact ⟨hx1, hx2⟩ | exact ⟨y1 _, y2 _⟩ | exact ⟨u1, u2⟩ | go_keep)
        (first
          | (go_at_call 75; refine (l08Values_any p A K (by omega) hbd.2 (by omega) (by omega) _).mono ?_; rintro e w3 ⟨rfl, q3, b3, hz3⟩; have u1 : w3.cell? ⟨g1, off1 + i, none⟩ = some (.int .i64 (A : Int)) := (b3.cell (p := ⟨g1, off1 + i, none⟩) (by simp only [World.size_drew, World.size_alloc]; omega)).trans (by first | exact hx1 | exact y1 _); have u2 : w3.cell? ⟨g2, off2 + i, none⟩ = some (.int .i64 (K : Int)) := (b3.cell (p := ⟨g2, off2 + i, none⟩) (by simp only [World.size_drew, World.size_alloc]; omega)).trans (by first | exact hx2 | exact y2 _)))
      all_goals
        clear y1 y2 hal hmk
      all_goals
        first
          | (have qO := q3.alloc (.cells (madeCells #[.int .i64 0] p) 2)
             have qN := made0 w3 p hbd.2 _ rfl
             rw [hz3] at qN
             have qC := ((HQ.out.drew.keep b3 (by simp only [World.size_drew]; omega))).alloc (.cells (madeCells #[.int .i64 0] p) 2)
             have BW := (HB.out.drew.trans (b3.mono (by simp only [World.size_drew]; omega))).trans ((alloc_bl w3 (.cells (madeCells #[.int .i64 0] p) 2)).mono (by rw [hz3]; simp only [World.size_drew]; omega))
             simp only [World.size_drew] at qO qN qC
             obtain ⟨W, hW⟩ : ∃ W, w3.alloc (.cells (madeCells #[.int .i64 0] p) 2) = W := ⟨_, rfl⟩
             rw [hW] at qO qN qC BW ⊢
             obtain ⟨N, hN⟩ : ∃ N, wr.heap.size + 1 = N := ⟨_, rfl⟩
             rw [hN] at qN ⊢
             obtain ⟨O, hO⟩ : ∃ O, wr.heap.size = O := ⟨_, rfl⟩
             rw [hO] at qO ⊢
             have hGO : G + 1 ≤ O := by omega
             have hGN : G + 1 ≤ N := by omega
             have hON : O + 1 ≤ N ∨ N + 1 ≤ O := by omega
             have hwO : w.heap.size ≤ O := by omega
             have hwN : w.heap.size ≤ N := by omega
             clear hW hz3 b3 q3 hN hO)
          | (have qO := q3
             simp only [World.size_drew, World.size_alloc] at qO
             have qN := (O2.out.drew.keep b3 (by simp))
             have qC := ((HQ.out.alloc (.cells (madeCells #[.int .i64 0] p) 2)).drew.keep b3 (by simp only [World.size_drew, World.size_alloc]; omega))
             have BW := ((HB.out.alloc (by omega) (.cells (madeCells #[.int .i64 0] p) 2)).drew).trans (b3.mono (by simp only [World.size_drew, World.size_alloc]; omega))
             obtain ⟨W, hW⟩ : ∃ W, w3 = W := ⟨_, rfl⟩
             rw [hW] at qO qN qC BW ⊢
             obtain ⟨O, hO⟩ : ∃ O, wr.heap.size + 1 = O := ⟨_, rfl⟩
             rw [hO] at qO qN ⊢
             obtain ⟨N, hN⟩ : ∃ N, wr.heap.size = N := ⟨_, rfl⟩
             rw [hN] at qN ⊢
             rw [← hO, hN] at qN
             have hGO : G + 1 ≤ O := by omega
             have hGN : G + 1 ≤ N := by omega
             have hON : O + 1 ≤ N ∨ N + 1 ≤ O := by omega
             have hwO : w.heap.size ≤ O := by omega
             have hwN : w.heap.size ≤ N := by omega
             clear b3 q3)
      all_goals as_aux_lemma =>
        go_wp2
        obtain ⟨V, hV⟩ : ∃ V, W = V := ⟨_, rfl⟩
        rw [hV] at qO qC qN BW ⊢
        have qO2 := qO
        have qC2 := qC
        have qN2 := qN
        have BV := BW
        clear qO qC qN BW
        have hown : ∀ t, t < p → 0 ≤ cnT (vN p A K) 0 p t ∧ cnT (vN p A K) 0 p t ≤ 61 := fun t ht => by have := cnT_bd (vN p A K) 0 p t; omega
        have HOB := Lib.hid hown
        have HCV := Lib.hid (cv_bd hbd.2 (fun t ht => HBD.out t ht) hown)
        have HO := Lib.hid qO2
        have HC := Lib.hid qC2
        have HBV := Lib.hid BV
        have QN := Lib.hid qN2
        have HEQ := Lib.hid (fun b => conv_eq (p := p) (v := vN p A K) (solT p fa fe 0 i) (fun x hx => vN_lt (by omega) _ _ _) 0 b)
        have hsO := qO2.size
        have hsC := qC2.size
        have hsN := qN2.size
        clear hown qO2 qC2 BV qN2 HQ HB hx1 hx2
        go_loopw [15] (fun s15 wx => ∃ x : Nat, x ≤ p ∧ s15 = .int .i64 (x : Int) ∧ Sl true wx N (N + 1) (.slice (some ⟨N, 0, none⟩) p p) p (cvT p (solT p fa fe 0 i) (cnT (vN p A K) 0 p) x) ∧ Frame N (N + 1) V wx) (fun s15 _ => p - (intOf s15).toNat)
        case atStart => exact ⟨0, by omega, rfl, QN.out.congr (fun j hj => rfl), Frame.refl _ _ _⟩
        case round =>
          clear QN
          obtain ⟨x, hx, rfl, hn, hfr⟩ := hrel
          have HN := Lib.hid hn
          have HFR := Lib.hid hfr
          clear hn hfr
          by_cases hxp : x < p
          · go_wp2
            go_loopw [16] (fun s16 wy => ∃ y : Nat, y ≤ p ∧ s16 = .int .i64 (y : Int) ∧ Sl true wy N (N + 1) (.slice (some ⟨N, 0, none⟩) p p) p (fun b => cvT p (solT p fa fe 0 i) (cnT (vN p A K) 0 p) x b + cvR p (solT p fa fe 0 i) (cnT (vN p A K) 0 p) x y b) ∧ Frame N (N + 1) V wy) (fun s16 _ => p - (intOf s16).toNat)
            case atStart => exact ⟨0, by omega, rfl, HN.out.congr (fun j hj => by rw [show cvR p (solT p fa fe 0 i) (cnT (vN p A K) 0 p) x 0 j = 0 from rfl]; omega), HFR.out⟩
            case round =>
              clear HN HFR
              obtain ⟨y, hy, rfl, hn, hfr⟩ := hrel
              by_cases hyp : y < p
              · obtain ⟨q, hq⟩ : ∃ q, (x + y) % p = q := ⟨_, rfl⟩
                have hqp : q < p := by rw [← hq]; exact Nat.mod_lt _ (by omega)
                have hcx := ((HC.out.keepF hfr (by omega)).known (by omega)).2.2.2.1 x hxp
                have hoy := ((HO.out.keepF hfr (by omega)).known (by omega)).2.2.2.1 y hyp
                have hnq := (hn.known (by omega)).2.2.2.1 q hqp
                have hfq := (hn.known (by omega)).2.2.2.2 rfl q
                rw [Nat.zero_add] at hcx hoy hnq
                have bc := HBD.out x hxp
                have bo := HOB.out y hyp
                have b1 := HCV.out.1 x y q hxp (by omega)
                have b2 := HCV.out.2 x q (by omega)
                have HS := Lib.hid (fun j => cvR_succ p (solT p fa fe 0 i) (cnT (vN p A K) 0 p) x y j)
                have HNN := Lib.hid hn
                have HFF := Lib.hid hfr
                have htm : ((x : Int) + (y : Int)).tmod (p : Int) = (q : Int) := by
                  rw [Int.tmod_eq_emod_of_nonneg (by omega), ← hq, Int.natCast_emod, Int.natCast_add]
                have hem : ((x : Int) + (y : Int)) % (p : Int) = (q : Int) := by
                  rw [← hq, Int.natCast_emod, Int.natCast_add]
                have hqI : (q : Int) < (p : Int) := by omega
                have HQQ := Lib.hid hq
                clear hn hfr hq
                generalize hcxv : solT p fa fe 0 i x = cx at hcx bc
                generalize hoyv : cnT (vN p A K) 0 p y = oy at hoy bo
                have hpr0 : 0 ≤ cx * oy := Int.mul_nonneg bc.1 bo.1
                have hpr1 : cx * oy ≤ 13845841 * 61 := Int.mul_le_mul bc.2 bo.2 bo.1 (by omega)
                generalize hnv : cvT p (solT p fa fe 0 i) (cnT (vN p A K) 0 p) x q = n1 at hnq b2
                generalize hrv : cvR p (solT p fa fe 0 i) (cnT (vN p A K) 0 p) x y q = n2 at hnq b1
                have HV1 := Lib.hid hcxv
                have HV2 := Lib.hid hoyv
                have HV3 := Lib.hid hnv
                have HV4 := Lib.hid hrv
                clear hcxv hoyv hnv hrv
                go_wp2
                go_region
                all_goals
                  go_wp2
                  go_roundw
                case rel =>
                  refine ⟨y + 1, by omega, by go_num, ?_, (HFF.out.setCell (p := ⟨N, q, none⟩) (Nat.le_refl _) (Nat.lt_succ_self _) _).drew⟩
                  refine (HNN.out.store0 (i := q) (x := n1 + n2 + cx * oy) hqp (by unfold inR; omega)).drew.congr (fun j hj => ?_)
                  rw [HS.out j, HQQ.out]
                  by_cases e : j = q
                  · subst e
                    rw [if_pos rfl, if_pos rfl, HV3.out, HV4.out, HV1.out, HV2.out]; omega
                  · rw [if_neg e, if_neg e]
                case measure => simp [intOf]; omega
              · obtain rfl : y = p := by omega
                have HNN := Lib.hid hn
                have HFF := Lib.hid hfr
                clear hn hfr
                go_wp2
                go_roundw
                case rel => exact ⟨x + 1, by omega, by go_num, HNN.out, HFF.out⟩
                case measure => simp [intOf]; omega
          · obtain rfl : x = p := by omega
            go_wp2
            go_roundw
            case rel => exact ⟨i + 1, N, by omega, by go_num, by first | rfl | simp, hwN, HN.out.congr (fun j hj => by rw [HST.out]; exact (HEQ.out j).symm), HBV.out.trans (HFR.out.below (B := w.heap.size) (by omega) HBV.out.size)⟩
            case measure => simp [intOf]; omega
    · obtain rfl : i = n := by omega
      have hcB := (HQ.out.known (by omega)).2.2.2.1 B hB
      rw [Nat.zero_add] at hcB
      go_wp2
      go_ret
      exact ⟨rfl, hbl⟩
set_option maxHeartbeats 8000000 in
theorem l08Count_true (p B : Nat) (hp : primeN p = true) (hB : B < p) (h2 : n ≤ 4) (h1 : 1 ≤ n) (h : ∀ i, i < n → 1 ≤ fa i ∧ fa i < (p : Int) ∧ 1 ≤ fe i ∧ fe i ≤ 60) (w : World) (hs : Sl o w lo hi v n fa) (ht : Sl o' w lo' hi' v' n fe) :
    Calls Tryd.prog 63 #[.int .i64 (p : Int), v, v', .int .i64 (B : Int), .bool true] w fun e w' => e = .returned (.int .i64 (solT p fa fe 1 n B)) ∧ Below w.heap.size w w' := by
  have hbd := primeN_bd hp
  have H := Lib.hid h
  obtain ⟨g1, off1, k1, rfl, _, hg1, _, _, hc1, _⟩ := hs.at (by omega)
  obtain ⟨g2, off2, k2, rfl, _, hg2, _, _, hc2, _⟩ := ht.at (by omega)
  have hs1 := hs.size
  have hs2 := ht.size
  have HC1 := Lib.hid hc1
  have HC2 := Lib.hid hc2
  have hp0 : ¬ p = 0 := by omega
  have hmk := run_make_row' (P := Tryd.prog) 24 2 (.int .i64 0) 8 Tryd.underlying24 Tryd.info2 rfl .i64 .i64 p (by omega) (by omega)
  have q0 := made0 w p hbd.2 _ rfl
  have c0 := (q0.known (by omega)).2.2.2.1 0 (by omega)
  rw [Nat.zero_add] at c0
  have f0 := (q0.known (by omega)).2.2.2.2 rfl 0
  have q1 := (q0.store0 (i := 0) (by omega) (x := 1) (by unfold inR; omega)).congr (f' := e0Z) (fun j hj => rfl)
  rw [World.setCell_alloc_new] at q1
  have Q1 := Lib.hid q1
  have B1 := Lib.hid ((Below.refl w.heap.size w).alloc (Nat.le_refl _) (.cells ((madeCells #[.int .i64 0] p).setIfInBounds 0 (.int .i64 1)) 2))
  clear hs ht hp h hc1 hc2 q0 q1
  go_enter Tryd.func63, Tryd.ntmps63
  go_wp2
  go_loopw [11, 12] (fun s11 s12 wr => ∃ i G : Nat, i ≤ n ∧ s12 = .int .i64 (i : Int) ∧ s11 = .slice (some ⟨G, 0, none⟩) p p ∧ w.heap.size ≤ G ∧ Sl true wr G (G + 1) (.slice (some ⟨G, 0, none⟩) p p) p (solT p fa fe 1 i) ∧ Below w.heap.size w wr) (fun _ s12 _ => n - (intOf s12).toNat)
  case atStart => exact ⟨0, w.heap.size, Nat.zero_le _, rfl, rfl, Nat.le_refl _, Q1.out, B1.out⟩
  case round =>
    clear Q1 B1 c0 f0
    obtain ⟨i, G, hi', rfl, rfl, hG, hq, hbl⟩ := hrel
    have hqs := hq.size
    have HQ := Lib.hid hq
    have HB := Lib.hid hbl
    clear hq
    by_cases hlt : i < n
    · obtain ⟨k1', k2', k3, k4⟩ := H.out i hlt
      have hx1 := (hbl.cell (p := ⟨g1, off1 + i, none⟩) (by show g1 < _; omega)).trans (HC1.out i hlt)
      have hx2 := (hbl.cell (p := ⟨g2, off2 + i, none⟩) (by show g2 < _; omega)).trans (HC2.out i hlt)
      have hzz := hbl.size
      have HST := Lib.hid (show solT p fa fe 1 (i + 1) = fun b => wfT p (vN p (fa i).toNat (fe i).toNat) (solT p fa fe 1 i) 1 p b from rfl)
      have HBD := Lib.hid (fun j (hj : j < p) => solT_bd4 (p := p) (by omega) hbd.2 fa fe 1 (n := i) (by omega) hj)
      obtain ⟨A, hA⟩ : ∃ A : Nat, fa i = (A : Int) := ⟨(fa i).toNat, by omega⟩
      obtain ⟨K, hK⟩ : ∃ K : Nat, fe i = (K : Int) := ⟨(fe i).toNat, by omega⟩
      rw [hA, hK] at HST
      rw [Int.toNat_natCast, Int.toNat_natCast] at HST
      rw [hA] at hx1 k1' k2'
      rw [hK] at hx2 k3 k4
      clear hA hK hbl
      have hal := fun ob => alloc_bl wr ob
      have y1 : ∀ ob, (wr.alloc ob).cell? ⟨g1, off1 + i, none⟩ = some (.int .i64 (A : Int)) := fun ob => ((hal ob).cell (p := ⟨g1, off1 + i, none⟩) (by show g1 < _; omega)).trans hx1
      have y2 : ∀ ob, (wr.alloc ob).cell? ⟨g2, off2 + i, none⟩ = some (.int .i64 (K : Int)) := fun ob => ((hal ob).cell (p := ⟨g2, off2 + i, none⟩) (by show g2 < _; omega)).trans hx2
      have O2 := Lib.hid (made0 wr p hbd.2 _ rfl)
      go_wp2
      go_region_held3 (fun w' => w'.cell? ⟨g1, off1 + i, none⟩ = some (.int .i64 (A : Int)) ∧ w'.cell? ⟨g2, off2 + i, none⟩ = some (.int .i64 (K : Int)))
        (first | exact ⟨hx1, hx2⟩ | exact ⟨y1 _, y2 _⟩ | exact ⟨u1, u2⟩ | go_keep)
        (first
          | (go_at_call 75; refine (l08Values_any p A K (by omega) hbd.2 (by omega) (by omega) _).mono ?_; rintro e w3 ⟨rfl, q3, b3, hz3⟩; have u1 : w3.cell? ⟨g1, off1 + i, none⟩ = some (.int .i64 (A : Int)) := (b3.cell (p := ⟨g1, off1 + i, none⟩) (by simp only [World.size_drew, World.size_alloc]; omega)).trans (by first | exact hx1 | exact y1 _); have u2 : w3.cell? ⟨g2, off2 + i, none⟩ = some (.int .i64 (K : Int)) := (b3.cell (p := ⟨g2, off2 + i, none⟩) (by simp only [World.size_drew, World.size_alloc]; omega)).trans (by first | exact hx2 | exact y2 _)))
      all_goals
        clear y1 y2 hal hmk
      all_goals
        first
          | (have qO := q3.alloc (.cells (madeCells #[.int .i64 0] p) 2)
             have qN := made0 w3 p hbd.2 _ rfl
             rw [hz3] at qN
             have qC := ((HQ.out.drew.keep b3 (by simp only [World.size_drew]; omega))).alloc (.cells (madeCells #[.int .i64 0] p) 2)
             have BW := (HB.out.drew.trans (b3.mono (by simp only [World.size_drew]; omega))).trans ((alloc_bl w3 (.cells (madeCells #[.int .i64 0] p) 2)).mono (by rw [hz3]; simp only [World.size_drew]; omega))
             simp only [World.size_drew] at qO qN qC
             obtain ⟨W, hW⟩ : ∃ W, w3.alloc (.cells (madeCells #[.int .i64 0] p) 2) = W := ⟨_, rfl⟩
             rw [hW] at qO qN qC BW ⊢
             obtain ⟨N, hN⟩ : ∃ N, wr.heap.size + 1 = N := ⟨_, rfl⟩
             rw [hN] at qN ⊢
             obtain ⟨O, hO⟩ : ∃ O, wr.heap.size = O := ⟨_, rfl⟩
             rw [hO] at qO ⊢
             have hGO : G + 1 ≤ O := by omega
             have hGN : G + 1 ≤ N := by omega
             have hON : O + 1 ≤ N ∨ N + 1 ≤ O := by omega
             have hwO : w.heap.size ≤ O := by omega
             have hwN : w.heap.size ≤ N := by omega
             clear hW hz3 b3 q3 hN hO)
          | (have qO := q3
             simp only [World.size_drew, World.size_alloc] at qO
             have qN := (O2.out.drew.keep b3 (by simp))
             have qC := ((HQ.out.alloc (.cells (madeCells #[.int .i64 0] p) 2)).drew.keep b3 (by simp only [World.size_drew, World.size_alloc]; omega))
             have BW := ((HB.out.alloc (by omega) (.cells (madeCells #[.int .i64 0] p) 2)).drew).trans (b3.mono (by simp only [World.size_drew, World.size_alloc]; omega))
             obtain ⟨W, hW⟩ : ∃ W, w3 = W := ⟨_, rfl⟩
             rw [hW] at qO qN qC BW ⊢
             obtain ⟨O, hO⟩ : ∃ O, wr.heap.size + 1 = O := ⟨_, rfl⟩
             rw [hO] at qO qN ⊢
             obtain ⟨N, hN⟩ : ∃ N, wr.heap.size = N := ⟨_, rfl⟩
             rw [hN] at qN ⊢
             rw [← hO, hN] at qN
             have hGO : G + 1 ≤ O := by omega
             have hGN : G + 1 ≤ N := by omega
             have hON : O + 1 ≤ N ∨ N + 1 ≤ O := by omega
             have hwO : w.heap.size ≤ O := by omega
             have hwN : w.heap.size ≤ N := by omega
             clear b3 q3)
      all_goals as_aux_lemma =>
        have co := (qO.known (by omega)).2.2.2.1 0 (by omega)
        rw [Nat.zero_add] at co
        have fo := (qO.known (by omega)).2.2.2.2 rfl 0
        have hcb := cnT_bd (vN p A K) 0 p 0
        have hw0 : -100 ≤ cnT (vN p A K) 0 p 0 - 1 ∧ cnT (vN p A K) 0 p 0 - 1 ≤ 100 := by omega
        go_wp2
        have qO2 := (qO.store0 (i := 0) (by omega) (x := cnT (vN p A K) 0 p 0 - 1) (by unfold inR; omega)).congr (f' := cnT (vN p A K) 1 p) (fun j hj => by rw [cnT_full (by omega) (vN_zero (by omega))]; by_cases e : j = 0 <;> simp [e])
        have fO := (Frame.refl O (O + 1) W).setCell (p := ⟨O, 0, none⟩) (Nat.le_refl _) (Nat.lt_succ_self _) (.int .i64 (cnT (vN p A K) 0 p 0 - 1))
        obtain ⟨V, hV⟩ : ∃ V, W.setCell ⟨O, 0, none⟩ (.int .i64 (cnT (vN p A K) 0 p 0 - 1)) = V := ⟨_, rfl⟩
        rw [hV] at qO2 fO
        try rw [hV]
        have qC2 := qC.keepF fO (by omega)
        have qN2 := qN.keepF fO (by omega)
        have BV := BW.trans (fO.below (B := w.heap.size) (by omega) BW.size)
        clear qO qC qN BW fO hV co fo hcb hw0
        have hown : ∀ t, t < p → 0 ≤ cnT (vN p A K) 1 p t ∧ cnT (vN p A K) 1 p t ≤ 61 := fun t ht => by have := cnT_bd (vN p A K) 1 p t; omega
        have HOB := Lib.hid hown
        have HCV := Lib.hid (cv_bd hbd.2 (fun t ht => HBD.out t ht) hown)
        have HO := Lib.hid qO2
        have HC := Lib.hid qC2
        have HBV := Lib.hid BV
        have QN := Lib.hid qN2
        have HEQ := Lib.hid (fun b => conv_eq (p := p) (v := vN p A K) (solT p fa fe 1 i) (fun x hx => vN_lt (by omega) _ _ _) 1 b)
        have hsO := qO2.size
        have hsC := qC2.size
        have hsN := qN2.size
        clear hown qO2 qC2 BV qN2 HQ HB hx1 hx2
        go_loopw [15] (fun s15 wx => ∃ x : Nat, x ≤ p ∧ s15 = .int .i64 (x : Int) ∧ Sl true wx N (N + 1) (.slice (some ⟨N, 0, none⟩) p p) p (cvT p (solT p fa fe 1 i) (cnT (vN p A K) 1 p) x) ∧ Frame N (N + 1) V wx) (fun s15 _ => p - (intOf s15).toNat)
        case atStart => exact ⟨0, by omega, rfl, QN.out.congr (fun j hj => rfl), Frame.refl _ _ _⟩
        case round =>
          clear QN
          obtain ⟨x, hx, rfl, hn, hfr⟩ := hrel
          have HN := Lib.hid hn
          have HFR := Lib.hid hfr
          clear hn hfr
          by_cases hxp : x < p
          · go_wp2
            go_loopw [16] (fun s16 wy => ∃ y : Nat, y ≤ p ∧ s16 = .int .i64 (y : Int) ∧ Sl true wy N (N + 1) (.slice (some ⟨N, 0, none⟩) p p) p (fun b => cvT p (solT p fa fe 1 i) (cnT (vN p A K) 1 p) x b + cvR p (solT p fa fe 1 i) (cnT (vN p A K) 1 p) x y b) ∧ Frame N (N + 1) V wy) (fun s16 _ => p - (intOf s16).toNat)
            case atStart => exact ⟨0, by omega, rfl, HN.out.congr (fun j hj => by rw [show cvR p (solT p fa fe 1 i) (cnT (vN p A K) 1 p) x 0 j = 0 from rfl]; omega), HFR.out⟩
            case round =>
              clear HN HFR
              obtain ⟨y, hy, rfl, hn, hfr⟩ := hrel
              by_cases hyp : y < p
              · obtain ⟨q, hq⟩ : ∃ q, (x + y) % p = q := ⟨_, rfl⟩
                have hqp : q < p := by rw [← hq]; exact Nat.mod_lt _ (by omega)
                have hcx := ((HC.out.keepF hfr (by omega)).known (by omega)).2.2.2.1 x hxp
                have hoy := ((HO.out.keepF hfr (by omega)).known (by omega)).2.2.2.1 y hyp
                have hnq := (hn.known (by omega)).2.2.2.1 q hqp
                have hfq := (hn.known (by omega)).2.2.2.2 rfl q
                rw [Nat.zero_add] at hcx hoy hnq
                have bc := HBD.out x hxp
                have bo := HOB.out y hyp
                have b1 := HCV.out.1 x y q hxp (by omega)
                have b2 := HCV.out.2 x q (by omega)
                have HS := Lib.hid (fun j => cvR_succ p (solT p fa fe 1 i) (cnT (vN p A K) 1 p) x y j)
                have HNN := Lib.hid hn
                have HFF := Lib.hid hfr
                have htm : ((x : Int) + (y : Int)).tmod (p : Int) = (q : Int) := by
                  rw [Int.tmod_eq_emod_of_nonneg (by omega), ← hq, Int.natCast_emod, Int.natCast_add]
                have hem : ((x : Int) + (y : Int)) % (p : Int) = (q : Int) := by
                  rw [← hq, Int.natCast_emod, Int.natCast_add]
                have hqI : (q : Int) < (p : Int) := by omega
                have HQQ := Lib.hid hq
                clear hn hfr hq
                generalize hcxv : solT p fa fe 1 i x = cx at hcx bc
                generalize hoyv : cnT (vN p A K) 1 p y = oy at hoy bo
                have hpr0 : 0 ≤ cx * oy := Int.mul_nonneg bc.1 bo.1
                have hpr1 : cx * oy ≤ 13845841 * 61 := Int.mul_le_mul bc.2 bo.2 bo.1 (by omega)
                generalize hnv : cvT p (solT p fa fe 1 i) (cnT (vN p A K) 1 p) x q = n1 at hnq b2
                generalize hrv : cvR p (solT p fa fe 1 i) (cnT (vN p A K) 1 p) x y q = n2 at hnq b1
                have HV1 := Lib.hid hcxv
                have HV2 := Lib.hid hoyv
                have HV3 := Lib.hid hnv
                have HV4 := Lib.hid hrv
                clear hcxv hoyv hnv hrv
                go_wp2
                go_region
                all_goals
                  go_wp2
                  go_roundw
                case rel =>
                  refine ⟨y + 1, by omega, by go_num, ?_, (HFF.out.setCell (p := ⟨N, q, none⟩) (Nat.le_refl _) (Nat.lt_succ_self _) _).drew⟩
                  refine (HNN.out.store0 (i := q) (x := n1 + n2 + cx * oy) hqp (by unfold inR; omega)).drew.congr (fun j hj => ?_)
                  rw [HS.out j, HQQ.out]
                  by_cases e : j = q
                  · subst e
                    rw [if_pos rfl, if_pos rfl, HV3.out, HV4.out, HV1.out, HV2.out]; omega
                  · rw [if_neg e, if_neg e]
                case measure => simp [intOf]; omega
              · obtain rfl : y = p := by omega
                have HNN := Lib.hid hn
                have HFF := Lib.hid hfr
                clear hn hfr
                go_wp2
                go_roundw
                case rel => exact ⟨x + 1, by omega, by go_num, HNN.out, HFF.out⟩
                case measure => simp [intOf]; omega
          · obtain rfl : x = p := by omega
            go_wp2
            go_roundw
            case rel => exact ⟨i + 1, N, by omega, by go_num, by first | rfl | simp, hwN, HN.out.congr (fun j hj => by rw [HST.out]; exact (HEQ.out j).symm), HBV.out.trans (HFR.out.below (B := w.heap.size) (by omega) HBV.out.size)⟩
            case measure => simp [intOf]; omega
    · obtain rfl : i = n := by omega
      have hcB := (HQ.out.known (by omega)).2.2.2.1 B hB
      rw [Nat.zero_add] at hcB
      go_wp2
      go_ret
      exact ⟨rfl, hbl⟩
end
end Go.Proofs.YtacffobbbcfbcaaDoor
