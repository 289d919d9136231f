/- DifferenceNumbers of the program and of the model. -/
import Derived.Test.YtaipaggaodnfkaaPerG
import Derived.Test.YtaipaggaodnfkaaPerJ
namespace Go.Proofs.Ytaipaggaodnfkaa
open Go.RowKit Go.ChangeShapes Go.Sort
set_option linter.unusedVariables false
set_option linter.unusedSimpArgs false

theorem dif_bd {p e i : Nat} (hp : p ≤ 61) : 0 ≤ difN p e i ∧ difN p e i ≤ 60 := tab_inR hp
theorem DifferenceNumbers_impl_bad (p e : Int) (h : ¬ HcP p e) (w : World) :
    Calls Try.prog 31 #[.int .i64 p, .int .i64 e] w fun r w' => ∃ a' k', r = .returned (.tuple #[.slice a' 0 k', .int .i64 2]) ∧ Sl true w' w.heap.size w'.heap.size (.slice a' 0 k') 0 (fun _ => 0) ∧ Below w.heap.size w w' := by
  have H := Lib.hid h
  clear h
  go_enter Try.func31, Try.ntmps31
  go_wp2_with (go_at_call 61; refine (haveClasses_no p e H.out _).mono ?_; rintro r w1 ⟨rfl, b1⟩)
  go_ret2
  exact ⟨none, 0, rfl, Sl.nil _ _ _ (Nat.le_refl _) _, b1⟩

set_option maxRecDepth 100000 in
set_option maxHeartbeats 1000000 in
theorem DifferenceNumbers_impl_ok (p e : Nat) (hp : primeN p = true) (h1 : 1 ≤ e) (h2 : e ≤ 12) (hd : (p - 1) % e = 0) (w : World) :
    Calls Try.prog 31 #[.int .i64 (p : Int), .int .i64 (e : Int)] w fun r w' => ∃ a' k', r = .returned (.tuple #[.slice a' e k', .int .i64 0]) ∧ Sl true w' w.heap.size w'.heap.size (.slice a' e k') e (difN p e) ∧ Below w.heap.size w w' := by
  have hb := primeN_bd hp
  have HP := Lib.hid hp
  have HD := Lib.hid hd
  have he0 : ¬ e = 0 := by omega
  have hmk := run_make_row' (P := Try.prog) 33 2 (.int .i64 0) 8 Try.underlying33 Try.info2 rfl .i64 .i64 e (by omega) (by omega)
  clear hp hd
  go_enter Try.func31, Try.ntmps31
  go_wp2_with (first
    | (go_at_call 61; refine (haveClasses_yes p e HP.out h1 h2 HD.out _).mono ?_; rintro r w1 ⟨rfl, b1⟩)
    | (go_at_call 62; refine (cyclotomicTable_any p e HP.out h1 h2 _).mono ?_; rintro r w2 ⟨R, T, rfl, ht, g1, g2, b2⟩))
  have BB := b1.trans (b2.mono b1.size)
  have q0 := Sl.made w2 (madeCells #[.int .i64 0] e) 2 e e (fun _ => 0) (Nat.le_refl _) (by unfold maxLen; omega) (fun j hj => by simp [inR]) (fun j hj => by simp [madeCells_at _ _ _ hj])
  have Q0 := Lib.hid (q0.congr (f' := fun j => if j < 0 then difN p e j else 0) (fun j hj => by simp))
  have T0 := Lib.hid (ht.keep ((Below.refl _ _).alloc (Nat.le_refl _) (.cells (madeCells #[.int .i64 0] e) 2)))
  have hts := ht.size
  have BB0 := Lib.hid (BB.alloc BB.size (.cells (madeCells #[.int .i64 0] e) 2))
  have hz := BB.size
  clear hmk q0 ht b1 b2 BB
  go_loopw [20] (fun s20 wr => ∃ i : Nat, i ≤ e ∧ s20 = .int .i64 (i : Int) ∧ Sl true wr w2.heap.size (w2.heap.size + 1) (.slice (some ⟨w2.heap.size, 0, none⟩) e e) e (fun j => if j < i then difN p e j else 0) ∧ Tab wr T R e e (tabN p e) ∧ Below w.heap.size w wr) (fun s20 _ => e - (intOf s20).toNat)
  case atStart => exact ⟨0, Nat.zero_le _, rfl, Q0.out, T0.out, BB0.out⟩
  case round =>
    clear Q0 T0 BB0
    obtain ⟨i, hie, rfl, hq, ht, hbl⟩ := hrel
    have HQ := Lib.hid hq
    have HT := Lib.hid ht
    have HB := Lib.hid hbl
    clear hq ht hbl
    by_cases hlt : i < e
    · obtain ⟨t, ht⟩ : ∃ t, (e - i) % e = t := ⟨_, rfl⟩
      have hte : t < e := by rw [← ht]; exact Nat.mod_lt _ (by omega)
      have hidx : ((e : Int) - (i : Int)) % (e : Int) = (t : Int) := by rw [show ((e : Int) - (i : Int)) = ((e - i : Nat) : Int) by omega, ← Int.natCast_emod, ht]
      have chd := HT.out.head hte
      have cT := ((HT.out.row h1 hte).known (by omega)).2.2.2.1 t hte
      have HDF := Lib.hid (show tabN p e t t = difN p e i by unfold difN; rw [ht])
      have hct := (HQ.out.known (by omega)).2.2.2.1 i hlt
      rw [Nat.zero_add] at hct
      have hft := (HQ.out.known (by omega)).2.2.2.2 rfl i
      have hbd := dif_bd (p := p) (e := e) (i := i) hb.2
      rw [HDF.out] at cT
      clear ht
      go_wp2
      go_roundw
      case rel =>
        refine ⟨i + 1, by omega, by go_num, (HQ.out.store0 hlt (x := difN p e i) (by unfold inR; omega)).congr (fun y hy => ?_), HT.out.keepF ((Frame.refl w2.heap.size (w2.heap.size + 1) _).setCell (p := ⟨w2.heap.size, i, none⟩) (Nat.le_refl _) (Nat.lt_succ_self _) _) (.inl hts.1) (.inl hts.2), HB.out.setCell (p := ⟨w2.heap.size, i, none⟩) hz _⟩
        try dsimp only
        by_cases ey : y = i
        · subst ey; rw [if_pos rfl, if_pos (Nat.lt_succ_self _)]
        · rw [if_neg ey]
          by_cases ey2 : y < i
          · rw [if_pos ey2, if_pos (by omega)]
          · rw [if_neg ey2, if_neg (by omega)]
      case measure => simp [intOf]; omega
    · obtain rfl : i = e := by omega
      have hqs := HQ.out.size
      go_wp2
      go_ret2
      exact ⟨_, _, rfl, (HQ.out.congr (fun y hy => by rw [if_pos hy])).wide hz hqs (Nat.le_refl _), HB.out⟩

/-- What stands at i when the pairs ahead of x, y have come. -/
def stD (p e x y : Nat) (i : Nat) : Int := ((dX p e i x + if 1 ≤ x ∧ clsN p e x = 0 then dY p e x i y else 0 : Nat) : Int)
theorem stD_bd {p e x y i : Nat} (hp : p ≤ 61) (hx : x ≤ p) (hy : y ≤ p) : 0 ≤ stD p e x y i ∧ stD p e x y i ≤ 4000 := by
  have h1 := dX_le p e i x
  have h2 := dY_le p e x i y
  have h3 : x * p ≤ 61 * 61 := Nat.mul_le_mul (by omega) hp
  unfold stD
  split <;> omega
theorem stD_start (p e x i : Nat) : stD p e x 1 i = ((dX p e i x : Nat) : Int) := by
  unfold stD; simp [dY]
theorem stD_end (p e x i : Nat) : stD p e x p i = ((dX p e i (x + 1) : Nat) : Int) := by
  unfold stD; simp only [dX]
theorem stD_yes {p e x y i : Nat} (hx : 1 ≤ x) (hy : 1 ≤ y) (cx : clsN p e x = 0) (cy : clsN p e y = 0) (hne : x ≠ y) : stD p e x (y + 1) i = if i = clsN p e ((x + p - y) % p) then stD p e x y i + 1 else stD p e x y i := by
  unfold stD
  simp only [dY]
  simp only [if_pos (show 1 ≤ x ∧ clsN p e x = 0 from ⟨hx, cx⟩)]
  by_cases h : i = clsN p e ((x + p - y) % p)
  · rw [if_pos h, if_pos (show 1 ≤ y ∧ clsN p e y = 0 ∧ x ≠ y ∧ clsN p e ((x + p - y) % p) = i from ⟨hy, cy, hne, h.symm⟩)]; omega
  · rw [if_neg h, if_neg (show ¬ (1 ≤ y ∧ clsN p e y = 0 ∧ x ≠ y ∧ clsN p e ((x + p - y) % p) = i) from fun h' => h h'.2.2.2.symm)]; rfl
theorem stD_no {p e x y i : Nat} (h : ¬ (clsN p e x = 0 ∧ clsN p e y = 0 ∧ x ≠ y)) : stD p e x (y + 1) i = stD p e x y i := by
  unfold stD
  simp only [dY]
  by_cases hx : 1 ≤ x ∧ clsN p e x = 0
  · simp only [if_pos hx]
    rw [if_neg (show ¬ (1 ≤ y ∧ clsN p e y = 0 ∧ x ≠ y ∧ clsN p e ((x + p - y) % p) = i) from fun h' => h ⟨hx.2, h'.2.1, h'.2.2.1⟩)]; rfl
  · simp only [if_neg hx]
set_option maxRecDepth 100000 in
set_option maxHeartbeats 8000000 in
theorem l06Differences_any (p e : Nat) (hp : primeN p = true) (h1 : 1 ≤ e) (h2 : e ≤ 12) (hd : (p - 1) % e = 0) (w : World) :
    Calls Try.prog 70 #[.int .i64 (p : Int), .int .i64 (e : Int)] w fun r w' => ∃ G, r = .returned (.slice (some ⟨G, 0, none⟩) e e) ∧ Sl true w' w.heap.size w'.heap.size (.slice (some ⟨G, 0, none⟩) e e) e (difN p e) ∧ Below w.heap.size w w' := by
  have hb := primeN_bd hp
  have HP := Lib.hid hp
  have he0 : ¬ e = 0 := by omega
  have hp0 : ¬ p = 0 := by omega
  obtain ⟨m, hm⟩ : ∃ m, p - 1 = m := ⟨_, rfl⟩
  have hpm : (p : Int) - 1 = (m : Int) := by omega
  have hwm : IntKind.i64.wrap (m : Int) = (m : Int) := IntWalk.i64_in _ (by omega)
  obtain ⟨q, hq⟩ : ∃ q, m / e = q := ⟨_, rfl⟩
  have hq1 : 1 ≤ q := by rw [← hq, ← hm]; exact (Nat.one_le_div_iff (by omega)).2 (HcP.le hp h1 hd)
  have hq0 : ¬ q = 0 := by omega
  have hqq : (m : Int) / (e : Int) = (q : Int) := by rw [← hq]; exact (Int.natCast_ediv m e).symm
  have hqt : (m : Int).tdiv (e : Int) = (q : Int) := by rw [Int.tdiv_eq_ediv_of_nonneg (by omega)]; exact hqq
  have hqm : q ≤ m := by rw [← hq]; exact Nat.div_le_self _ _
  have HDIF := Lib.hid (fun i (hi : i < e) => (show ((dX p e i p : Nat) : Int) / (q : Int) = difN p e i from by
    rw [← dif_ok hp h1 h2 hd hi, hm, hq]; exact (Int.natCast_ediv _ _).symm))
  have hmk := run_make_row' (P := Try.prog) 33 2 (.int .i64 0) 8 Try.underlying33 Try.info2 rfl .i64 .i64 e (by omega) (by omega)
  clear hp hm hq hd
  go_enter Try.func70, Try.ntmps70
  go_wp2
  go_region_law (first
    | (go_simp; go_at_call 68; refine (l06Indices_any p HP.out _).mono ?_; rintro r w6 ⟨g8, rfl, s6, b6⟩
       have q6 := (Sl.made w.drew (madeCells #[.int .i64 0] e) 2 e e (fun _ => 0) (Nat.le_refl _) (by unfold maxLen; omega) (fun j hj => by simp [inR]) (fun j hj => by simp [madeCells_at _ _ _ hj])).keep b6 (by simp)
       have bb6 := (((Below.refl w.heap.size w).drew).alloc (by simp) (.cells (madeCells #[.int .i64 0] e) 2)).trans (b6.mono (by simp))
       have s7 := s6)
    | (go_simp; go_at_call 68; refine (l06Indices_any p HP.out _).mono ?_; rintro r w6 ⟨g8, rfl, s6, b6⟩
       have q6 := Sl.made w6 (madeCells #[.int .i64 0] e) 2 e e (fun _ => 0) (Nat.le_refl _) (by unfold maxLen; omega) (fun j hj => by simp [inR]) (fun j hj => by simp [madeCells_at _ _ _ hj])
       have bb6 := ((((Below.refl w.heap.size w).drew).trans (b6.mono (by simp)))).alloc b6.size (.cells (madeCells #[.int .i64 0] e) 2)
       have s7 := s6.alloc (.cells (madeCells #[.int .i64 0] e) 2)))
  · have hz6 := b6.size
    simp only [World.size_drew, World.size_alloc] at q6 s7 hz6
    have Q6 := Lib.hid (q6.congr (f' := fun i => ((dX p e i 1 : Nat) : Int)) (fun j hj => by simp [dX]))
    have S6 := Lib.hid s7
    have B6 := Lib.hid bb6
    clear q6 s6 s7 b6 bb6
    go_wp2
    obtain ⟨w7, hw7⟩ : ∃ w7, w6.alloc (.cells (madeCells #[.int .i64 0] e) 2) = w7 := ⟨_, rfl⟩
    rw [hw7] at Q6 S6 B6 ⊢
    clear hw7
    clear hmk
    go_loopw [7] (fun s7 wr => ∃ x : Nat, 1 ≤ x ∧ x ≤ p ∧ s7 = .int .i64 (x : Int) ∧ Sl true wr w6.heap.size (w6.heap.size + 1) (.slice (some ⟨w6.heap.size, 0, none⟩) e e) e (fun i => ((dX p e i x : Nat) : Int)) ∧ Sl true wr w.heap.size w6.heap.size (.slice (some ⟨g8, 0, none⟩) p p) p (indV p) ∧ Below w.heap.size w wr) (fun s7 _ => p + 1 - (intOf s7).toNat)
    case atStart => exact ⟨1, by omega, by omega, rfl, Q6.out, S6.out, B6.out⟩
    case round =>
      clear Q6 S6 B6
      obtain ⟨x, hx1, hxp, rfl, hq, hs, hbl⟩ := hrel
      have HQ := Lib.hid hq
      have HS := Lib.hid hs
      have HB := Lib.hid hbl
      clear hq hs hbl
      by_cases hlt : x < p
      · have HQ1 := Lib.hid (HQ.out.congr (f' := stD p e x 1) (fun i _ => stD_start p e x i))
        clear HQ
        go_wp2
        go_loopw [8] (fun s8 wq => ∃ y : Nat, 1 ≤ y ∧ y ≤ p ∧ s8 = .int .i64 (y : Int) ∧ Sl true wq w6.heap.size (w6.heap.size + 1) (.slice (some ⟨w6.heap.size, 0, none⟩) e e) e (stD p e x y) ∧ Sl true wq w.heap.size w6.heap.size (.slice (some ⟨g8, 0, none⟩) p p) p (indV p) ∧ Below w.heap.size w wq) (fun s8 _ => p + 1 - (intOf s8).toNat)
        case atStart => exact ⟨1, by omega, by omega, rfl, HQ1.out, HS.out, HB.out⟩
        case round =>
          clear HQ1 HS HB
          obtain ⟨y, hy1, hyp, rfl, hq, hs, hbl⟩ := hrel
          have HQ := Lib.hid hq
          have HS := Lib.hid hs
          have HB := Lib.hid hbl
          clear hq hs hbl
          by_cases hlty : y < p
          · have cx := (HS.out.known (by omega)).2.2.2.1 x hlt
            have cy := (HS.out.known (by omega)).2.2.2.1 y hlty
            rw [Nat.zero_add, ind_cls (e := e) (by omega)] at cx cy
            have hmx := ind_mod p e x
            have hmy := ind_mod p e y
            by_cases hall : clsN p e x = 0 ∧ clsN p e y = 0 ∧ x ≠ y
            · obtain ⟨a1, a2, a3⟩ := hall
              have HST := Lib.hid (fun i => stD_yes (i := i) hx1 hy1 a1 a2 a3)
              rw [a1] at hmx
              rw [a2] at hmy
              have hbx : ((x : Int) != (y : Int)) = true := by rw [bne_iff_ne]; omega
              obtain ⟨z, hz⟩ : ∃ z, (x + p - y) % p = z := ⟨_, rfl⟩
              have hzp : z < p := by rw [← hz]; exact Nat.mod_lt _ (by omega)
              have hz1 : 1 ≤ z := by
                have h' := mod_two (show x + p - y < p + p by omega)
                rw [hz] at h'
                split at h' <;> omega
              have hidz : ((x : Int) - (y : Int) + (p : Int)) % (p : Int) = (z : Int) := by rw [show ((x : Int) - (y : Int) + (p : Int)) = ((x + p - y : Nat) : Int) by omega, ← Int.natCast_emod, hz]
              have cz := (HS.out.known (by omega)).2.2.2.1 z hzp
              rw [Nat.zero_add, ind_cls (e := e) (by omega)] at cz
              have hmz := ind_mod p e z
              have hce := cls_lt (p := p) (x := z) h1
              rw [hz] at HST
              have hbd := stD_bd (p := p) (e := e) (x := x) (y := y) (i := clsN p e z) hb.2 (by omega) (by omega)
              clear hz a1 a2 a3
              generalize clsN p e z = t at *
              have ct := (HQ.out.known (by omega)).2.2.2.1 t hce
              have ft := (HQ.out.known (by omega)).2.2.2.2 rfl t
              rw [Nat.zero_add] at ct
              generalize hV : stD p e x y t = V at *
              go_wp2
              go_roundw
              case rel => exact ⟨y + 1, by omega, by omega, by go_num, (HQ.out.store0 hce (x := V + 1) (by unfold inR; omega)).congr (fun i hi => by
                rw [HST.out i]
                by_cases hit : i = t
                · rw [if_pos hit, if_pos hit, hit, hV]
                · rw [if_neg hit, if_neg hit]), HS.out.keepF ((Frame.refl w6.heap.size (w6.heap.size + 1) _).setCell (p := ⟨w6.heap.size, t, none⟩) (Nat.le_refl _) (Nat.lt_succ_self _) _) (by omega), HB.out.setCell (p := ⟨w6.heap.size, t, none⟩) (by show w.heap.size ≤ w6.heap.size; omega) _⟩
              case measure => simp [intOf]; omega
            · have HQ2 := Lib.hid (HQ.out.congr (f' := stD p e x (y + 1)) (fun i _ => stD_no hall))
              have hways : ((x : Int) != (y : Int)) = false ∨ (((x : Int) != (y : Int)) = true ∧ ((((clsN p e x : Nat) : Int) == 0) = false ∨ ((((clsN p e x : Nat) : Int) == 0) = true ∧ (((clsN p e y : Nat) : Int) == 0) = false))) := by
                by_cases e1 : x = y
                · exact .inl (by rw [e1]; simp)
                · refine .inr ⟨by rw [bne_iff_ne]; omega, ?_⟩
                  by_cases e2 : clsN p e x = 0
                  · exact .inr ⟨by rw [e2]; rfl, beq_eq_false_iff_ne.2 (fun h' => hall ⟨e2, by omega, e1⟩)⟩
                  · exact .inl (beq_eq_false_iff_ne.2 (by omega))
              clear hall HQ
              rcases hways with hw1 | ⟨hw1, hw2 | ⟨hw2, hw3⟩⟩
              all_goals
                go_wp2
                go_roundw
                case rel => exact ⟨y + 1, by omega, by omega, by go_num, HQ2.out, HS.out, HB.out⟩
                case measure => simp [intOf]; omega
          · obtain rfl : y = p := by omega
            have HQ2 := Lib.hid (HQ.out.congr (f' := fun i => ((dX y e i (x + 1) : Nat) : Int)) (fun i _ => (stD_end y e x i).symm))
            clear HQ
            go_wp2
            go_roundw
            case rel => exact ⟨x + 1, by omega, by omega, by go_num, HQ2.out, HS.out, HB.out⟩
            case measure => simp [intOf]; omega
      · obtain rfl : x = p := by omega
        clear HS
        have HQ3 := Lib.hid (HQ.out.congr (f' := fun j => if j < 0 then difN x e j else ((dX x e j x : Nat) : Int)) (fun j _ => by simp))
        clear HQ
        go_wp2
        go_loopw [9] (fun s9 wr2 => ∃ i : Nat, i ≤ e ∧ s9 = .int .i64 (i : Int) ∧ Sl true wr2 w6.heap.size (w6.heap.size + 1) (.slice (some ⟨w6.heap.size, 0, none⟩) e e) e (fun j => if j < i then difN x e j else ((dX x e j x : Nat) : Int)) ∧ Below w.heap.size w wr2) (fun s9 _ => e - (intOf s9).toNat)
        case atStart => exact ⟨0, Nat.zero_le _, rfl, HQ3.out, HB.out⟩
        case round =>
          clear HQ3 HB
          obtain ⟨i, hie, rfl, hq, hbl⟩ := hrel
          have HQ := Lib.hid hq
          have HB := Lib.hid hbl
          clear hq hbl
          by_cases hlti : i < e
          · have ct := (HQ.out.known (by omega)).2.2.2.1 i hlti
            have ft := (HQ.out.known (by omega)).2.2.2.2 rfl i
            rw [Nat.zero_add, if_neg (by omega)] at ct
            have hdv := HDIF.out i hlti
            have hbd := dif_bd (p := x) (e := e) (i := i) hb.2
            have hle := dX_le x e i x
            have h3 : x * x ≤ 61 * 61 := Nat.mul_le_mul hb.2 hb.2
            have hdt : ((dX x e i x : Nat) : Int).tdiv (q : Int) = difN x e i := by rw [Int.tdiv_eq_ediv_of_nonneg (by omega)]; exact hdv
            generalize dX x e i x = D at *
            go_wp2
            go_region
            go_wp2
            go_roundw
            case rel =>
              refine ⟨i + 1, by omega, by go_num, ((HQ.out.store0 hlti (x := difN x e i) (by unfold inR; omega)).congr (fun y hy => ?_)).drew, (HB.out.setCell (p := ⟨w6.heap.size, i, none⟩) (by show w.heap.size ≤ w6.heap.size; omega) _).drew⟩
              try dsimp only
              by_cases ey : y = i
              · subst ey; rw [if_pos rfl, if_pos (Nat.lt_succ_self _)]
              · rw [if_neg ey]
                by_cases ey2 : y < i
                · rw [if_pos ey2, if_pos (by omega)]
                · rw [if_neg ey2, if_neg (by omega)]
            case measure => simp [intOf]; omega
          · obtain rfl : i = e := by omega
            have hqs := HQ.out.size
            go_wp2
            go_ret
            exact ⟨_, rfl, (HQ.out.congr (fun y hy => by rw [if_pos hy])).wide (by omega) hqs (Nat.le_refl _), HB.out⟩
  · have hz6 := b6.size
    simp only [World.size_drew, World.size_alloc] at q6 s7 hz6
    have Q6 := Lib.hid (q6.congr (f' := fun i => ((dX p e i 1 : Nat) : Int)) (fun j hj => by simp [dX]))
    have S6 := Lib.hid s7
    have B6 := Lib.hid bb6
    clear q6 s6 s7 b6 bb6
    go_wp2
    obtain ⟨hiT, hhT⟩ : ∃ hiT, w6.heap.size = hiT := ⟨_, rfl⟩
    rw [show w6.heap.size = hiT from hhT] at S6
    have hhT2 : w.heap.size + 1 ≤ hiT := by omega
    clear hhT
    clear hmk
    go_loopw [7] (fun s7 wr => ∃ x : Nat, 1 ≤ x ∧ x ≤ p ∧ s7 = .int .i64 (x : Int) ∧ Sl true wr w.heap.size (w.heap.size + 1) (.slice (some ⟨w.heap.size, 0, none⟩) e e) e (fun i => ((dX p e i x : Nat) : Int)) ∧ Sl true wr (w.heap.size + 1) hiT (.slice (some ⟨g8, 0, none⟩) p p) p (indV p) ∧ Below w.heap.size w wr) (fun s7 _ => p + 1 - (intOf s7).toNat)
    case atStart => exact ⟨1, by omega, by omega, rfl, Q6.out, S6.out, B6.out⟩
    case round =>
      clear Q6 S6 B6
      obtain ⟨x, hx1, hxp, rfl, hq, hs, hbl⟩ := hrel
      have HQ := Lib.hid hq
      have HS := Lib.hid hs
      have HB := Lib.hid hbl
      clear hq hs hbl
      by_cases hlt : x < p
      · have HQ1 := Lib.hid (HQ.out.congr (f' := stD p e x 1) (fun i _ => stD_start p e x i))
        clear HQ
        go_wp2
        go_loopw [8] (fun s8 wq => ∃ y : Nat, 1 ≤ y ∧ y ≤ p ∧ s8 = .int .i64 (y : Int) ∧ Sl true wq w.heap.size (w.heap.size + 1) (.slice (some ⟨w.heap.size, 0, none⟩) e e) e (stD p e x y) ∧ Sl true wq (w.heap.size + 1) hiT (.slice (some ⟨g8, 0, none⟩) p p) p (indV p) ∧ Below w.heap.size w wq) (fun s8 _ => p + 1 - (intOf s8).toNat)
        case atStart => exact ⟨1, by omega, by omega, rfl, HQ1.out, HS.out, HB.out⟩
        case round =>
          clear HQ1 HS HB
          obtain ⟨y, hy1, hyp, rfl, hq, hs, hbl⟩ := hrel
          have HQ := Lib.hid hq
          have HS := Lib.hid hs
          have HB := Lib.hid hbl
          clear hq hs hbl
          by_cases hlty : y < p
          · have cx := (HS.out.known (by omega)).2.2.2.1 x hlt
            have cy := (HS.out.known (by omega)).2.2.2.1 y hlty
            rw [Nat.zero_add, ind_cls (e := e) (by omega)] at cx cy
            have hmx := ind_mod p e x
            have hmy := ind_mod p e y
            by_cases hall : clsN p e x = 0 ∧ clsN p e y = 0 ∧ x ≠ y
            · obtain ⟨a1, a2, a3⟩ := hall
              have HST := Lib.hid (fun i => stD_yes (i := i) hx1 hy1 a1 a2 a3)
              rw [a1] at hmx
              rw [a2] at hmy
              have hbx : ((x : Int) != (y : Int)) = true := by rw [bne_iff_ne]; omega
              obtain ⟨z, hz⟩ : ∃ z, (x + p - y) % p = z := ⟨_, rfl⟩
              have hzp : z < p := by rw [← hz]; exact Nat.mod_lt _ (by omega)
              have hz1 : 1 ≤ z := by
                have h' := mod_two (show x + p - y < p + p by omega)
                rw [hz] at h'
                split at h' <;> omega
              have hidz : ((x : Int) - (y : Int) + (p : Int)) % (p : Int) = (z : Int) := by rw [show ((x : Int) - (y : Int) + (p : Int)) = ((x + p - y : Nat) : Int) by omega, ← Int.natCast_emod, hz]
              have cz := (HS.out.known (by omega)).2.2.2.1 z hzp
              rw [Nat.zero_add, ind_cls (e := e) (by omega)] at cz
              have hmz := ind_mod p e z
              have hce := cls_lt (p := p) (x := z) h1
              rw [hz] at HST
              have hbd := stD_bd (p := p) (e := e) (x := x) (y := y) (i := clsN p e z) hb.2 (by omega) (by omega)
              clear hz a1 a2 a3
              generalize clsN p e z = t at *
              have ct := (HQ.out.known (by omega)).2.2.2.1 t hce
              have ft := (HQ.out.known (by omega)).2.2.2.2 rfl t
              rw [Nat.zero_add] at ct
              generalize hV : stD p e x y t = V at *
              go_wp2
              go_roundw
              case rel => exact ⟨y + 1, by omega, by omega, by go_num, (HQ.out.store0 hce (x := V + 1) (by unfold inR; omega)).congr (fun i hi => by
                rw [HST.out i]
                by_cases hit : i = t
                · rw [if_pos hit, if_pos hit, hit, hV]
                · rw [if_neg hit, if_neg hit]), HS.out.keepF ((Frame.refl w.heap.size (w.heap.size + 1) _).setCell (p := ⟨w.heap.size, t, none⟩) (Nat.le_refl _) (Nat.lt_succ_self _) _) (by omega), HB.out.setCell (p := ⟨w.heap.size, t, none⟩) (by show w.heap.size ≤ w.heap.size; omega) _⟩
              case measure => simp [intOf]; omega
            · have HQ2 := Lib.hid (HQ.out.congr (f' := stD p e x (y + 1)) (fun i _ => stD_no hall))
              have hways : ((x : Int) != (y : Int)) = false ∨ (((x : Int) != (y : Int)) = true ∧ ((((clsN p e x : Nat) : Int) == 0) = false ∨ ((((clsN p e x : Nat) : Int) == 0) = true ∧ (((clsN p e y : Nat) : Int) == 0) = false))) := by
                by_cases e1 : x = y
                · exact .inl (by rw [e1]; simp)
                · refine .inr ⟨by rw [bne_iff_ne]; omega, ?_⟩
                  by_cases e2 : clsN p e x = 0
                  · exact .inr ⟨by rw [e2]; rfl, beq_eq_false_iff_ne.2 (fun h' => hall ⟨e2, by omega, e1⟩)⟩
                  · exact .inl (beq_eq_false_iff_ne.2 (by omega))
              clear hall HQ
              rcases hways with hw1 | ⟨hw1, hw2 | ⟨hw2, hw3⟩⟩
              all_goals
                go_wp2
                go_roundw
                case rel => exact ⟨y + 1, by omega, by omega, by go_num, HQ2.out, HS.out, HB.out⟩
                case measure => simp [intOf]; omega
          · obtain rfl : y = p := by omega
            have HQ2 := Lib.hid (HQ.out.congr (f' := fun i => ((dX y e i (x + 1) : Nat) : Int)) (fun i _ => (stD_end y e x i).symm))
            clear HQ
            go_wp2
            go_roundw
            case rel => exact ⟨x + 1, by omega, by omega, by go_num, HQ2.out, HS.out, HB.out⟩
            case measure => simp [intOf]; omega
      · obtain rfl : x = p := by omega
        clear HS
        have HQ3 := Lib.hid (HQ.out.congr (f' := fun j => if j < 0 then difN x e j else ((dX x e j x : Nat) : Int)) (fun j _ => by simp))
        clear HQ
        go_wp2
        go_loopw [9] (fun s9 wr2 => ∃ i : Nat, i ≤ e ∧ s9 = .int .i64 (i : Int) ∧ Sl true wr2 w.heap.size (w.heap.size + 1) (.slice (some ⟨w.heap.size, 0, none⟩) e e) e (fun j => if j < i then difN x e j else ((dX x e j x : Nat) : Int)) ∧ Below w.heap.size w wr2) (fun s9 _ => e - (intOf s9).toNat)
        case atStart => exact ⟨0, Nat.zero_le _, rfl, HQ3.out, HB.out⟩
        case round =>
          clear HQ3 HB
          obtain ⟨i, hie, rfl, hq, hbl⟩ := hrel
          have HQ := Lib.hid hq
          have HB := Lib.hid hbl
          clear hq hbl
          by_cases hlti : i < e
          · have ct := (HQ.out.known (by omega)).2.2.2.1 i hlti
            have ft := (HQ.out.known (by omega)).2.2.2.2 rfl i
            rw [Nat.zero_add, if_neg (by omega)] at ct
            have hdv := HDIF.out i hlti
            have hbd := dif_bd (p := x) (e := e) (i := i) hb.2
            have hle := dX_le x e i x
            have h3 : x * x ≤ 61 * 61 := Nat.mul_le_mul hb.2 hb.2
            have hdt : ((dX x e i x : Nat) : Int).tdiv (q : Int) = difN x e i := by rw [Int.tdiv_eq_ediv_of_nonneg (by omega)]; exact hdv
            generalize dX x e i x = D at *
            go_wp2
            go_region
            go_wp2
            go_roundw
            case rel =>
              refine ⟨i + 1, by omega, by go_num, ((HQ.out.store0 hlti (x := difN x e i) (by unfold inR; omega)).congr (fun y hy => ?_)).drew, (HB.out.setCell (p := ⟨w.heap.size, i, none⟩) (by show w.heap.size ≤ w.heap.size; omega) _).drew⟩
              try dsimp only
              by_cases ey : y = i
              · subst ey; rw [if_pos rfl, if_pos (Nat.lt_succ_self _)]
              · rw [if_neg ey]
                by_cases ey2 : y < i
                · rw [if_pos ey2, if_pos (by omega)]
                · rw [if_neg ey2, if_neg (by omega)]
            case measure => simp [intOf]; omega
          · obtain rfl : i = e := by omega
            have hqs := HQ.out.size
            go_wp2
            go_ret
            exact ⟨_, rfl, (HQ.out.congr (fun y hy => by rw [if_pos hy])).wide (by omega) hqs (Nat.le_refl _), HB.out⟩

theorem DifferenceNumbers_spec_bad (p e : Int) (h : ¬ HcP p e) (w : World) :
    Calls Try.prog 32 #[.int .i64 p, .int .i64 e] w fun r w' => ∃ a' k', r = .returned (.tuple #[.slice a' 0 k', .int .i64 2]) ∧ Sl true w' w.heap.size w'.heap.size (.slice a' 0 k') 0 (fun _ => 0) ∧ Below w.heap.size w w' := by
  have H := Lib.hid (hc_nil h)
  clear h
  go_enter Try.func32, Try.ntmps32
  go_wp2_with (go_at_call 63; refine (l06Code_no p e _ (o := false) (Sl.nil _ 0 0 (Nat.zero_le _) (fun _ => 0)) H.out).mono ?_; rintro r w1 ⟨rfl, m1, rfl⟩)
  go_ret2
  exact ⟨none, 0, rfl, Sl.nil _ _ _ (Nat.le_refl _) _, below_drewN (Below.refl w.heap.size w) _⟩

theorem DifferenceNumbers_spec_ok (p e : Nat) (hp : primeN p = true) (h1 : 1 ≤ e) (h2 : e ≤ 12) (hd : (p - 1) % e = 0) (w : World) :
    Calls Try.prog 32 #[.int .i64 (p : Int), .int .i64 (e : Int)] w fun r w' => ∃ a' k', r = .returned (.tuple #[.slice a' e k', .int .i64 0]) ∧ Sl true w' w.heap.size w'.heap.size (.slice a' e k') e (difN p e) ∧ Below w.heap.size w w' := by
  have HP := Lib.hid hp
  have HD := Lib.hid hd
  clear hp hd
  go_enter Try.func32, Try.ntmps32
  go_wp2_with (first
    | (go_at_call 63; refine (l06Code_yes p e HP.out h1 h2 HD.out _ (o := false) (Sl.nil _ 0 0 (Nat.zero_le _) (fun _ => 0)) (fun j hj => absurd hj (Nat.not_lt_zero _))).mono ?_; rintro r w1 ⟨rfl, m1, rfl⟩)
    | (go_at_call 70; refine (l06Differences_any p e HP.out h1 h2 HD.out _).mono ?_; rintro r w2 ⟨G, rfl, s2, b2⟩))
  go_ret2
  exact ⟨_, _, rfl, s2.wide (by simp) (Nat.le_refl _) (Nat.le_refl _), (below_drewN (Below.refl w.heap.size w) m1).trans (b2.mono (by simp))⟩
end Go.Proofs.Ytaipaggaodnfkaa
