/- Products of sums of periods of the model. -/
import Derived.Test.YtaipaggaodnfkaaPerH
namespace Go.Proofs.Ytaipaggaodnfkaa
open Go.RowKit Go.ChangeShapes Go.Sort
set_option linter.unusedVariables false
set_option linter.unusedSimpArgs false

/-- What p - 1 counts for. -/
def lastN (p e : Nat) : Int := -(((p - 1) / e : Nat) : Int)
/-- The rows of products. -/
def prodR (p e : Nat) (i j : Nat) : Int := rowN p e (lastN p e) i j
theorem last_bd {p e : Nat} (hp : p ≤ 61) : -60 ≤ lastN p e ∧ lastN p e ≤ 0 := by
  have h := Nat.div_le_self (p - 1) e
  unfold lastN
  generalize (p - 1) / e = d at *
  omega
theorem prodR_bd {p e i j : Nat} (hp : p ≤ 61) : -120 ≤ prodR p e i j ∧ prodR p e i j ≤ 120 := by
  have h1 := tab_inR (p := p) (e := e) (i := i) (j := j) hp
  have h2 := last_bd (p := p) (e := e) hp
  unfold prodR rowN
  split <;> omega
theorem quo_pos {p e m : Nat} (hm : p - 1 = m) (h1 : 1 ≤ e) : ((m : Nat) : Int).tdiv (e : Int) = -(lastN p e) := by
  unfold lastN
  rw [hm, Int.tdiv_eq_ediv_of_nonneg (by omega), Int.neg_neg]
  exact (Int.natCast_ediv m e).symm
theorem quo_neg {p e m : Nat} (hm : p - 1 = m) (h1 : 1 ≤ e) : (-((m : Nat) : Int)).tdiv (e : Int) = lastN p e := by
  rw [Int.neg_tdiv, quo_pos hm h1, Int.neg_neg]

section
variable {o o' : Bool} {lo hi lo' hi' : Nat} {v v' : Value} {f g : Nat → Int}
set_option maxRecDepth 100000 in
set_option maxHeartbeats 8000000 in
theorem l06Times_any (p e : Nat) (hp : primeN p = true) (h1 : 1 ≤ e) (h2 : e ≤ 12) (w : World) (ha : Sl o w lo hi v e f) (hb : Sl o' w lo' hi' v' e g) (hok : PrOk e (prodR p e) f g) :
    Calls Try.prog 78 #[.int .i64 (p : Int), .int .i64 (e : Int), v, v'] w fun r w' => ∃ G, r = .returned (.slice (some ⟨G, 0, none⟩) e e) ∧ Sl true w' w.heap.size w'.heap.size (.slice (some ⟨G, 0, none⟩) e e) e (prT e (prodR p e) f g) ∧ Below w.heap.size w w' := by
  have hb' := primeN_bd hp
  have HP := Lib.hid hp
  obtain ⟨m, hm⟩ : ∃ m, p - 1 = m := ⟨_, rfl⟩
  have HM := Lib.hid hm
  have hpm : (p : Int) - 1 = (m : Int) := by omega
  have hm60 : m ≤ 60 := by omega
  have hmp : m < p := by omega
  have hwm : IntKind.i64.wrap (m : Int) = (m : Int) := IntWalk.i64_in _ (by omega)
  have hm2 : 2 ≤ m := by omega
  obtain ⟨g1, off1, cap, rfl, _⟩ := ha.at h1
  obtain ⟨g2, off2, cap', rfl, _⟩ := hb.at h1
  have HOK := Lib.hid hok
  have sa := ha.size; have sb := hb.size
  have st0 := ((St.start w).addSl ⟨o', lo', hi', .slice (some ⟨g2, off2, none⟩) e cap', e, g⟩ hb).addSl ⟨o, lo, hi, .slice (some ⟨g1, off1, none⟩) e cap, e, f⟩ ha
  have ST0 := Lib.hid st0
  have he0 : ¬ e = 0 := by omega
  have hqp := quo_pos hm h1
  have hqp2 : ((m : Nat) : Int) / (e : Int) = -(lastN p e) := by rw [← hqp, Int.tdiv_eq_ediv_of_nonneg (by omega)]
  have hmod := ind_mod p e m
  have hbl := last_bd (p := p) (e := e) hb'.2
  obtain ⟨q, hq⟩ : ∃ q, -(lastN p e) = q := ⟨_, rfl⟩
  have HQ0 := Lib.hid hq
  have hwq : wrap64 q = q := wrap_inR (by unfold inR; omega)
  rw [hq] at hqp hqp2
  have hcls := cls_lt (p := p) (x := m) h1
  have hmk := run_make_row' (P := Try.prog) 33 2 (.int .i64 0) 8 Try.underlying33 Try.info2 rfl .i64 .i64 e (by omega) (by omega)
  have HPR := Lib.hid (fun i j => (show prodR p e i j = if i = clsN p e m then tabN p e i j - q else tabN p e i j from by
    unfold prodR rowN
    rw [hm]
    by_cases h : i = clsN p e m
    · rw [if_pos h, if_pos h]; omega
    · rw [if_neg h, if_neg h]; simp))
  clear hp hm hok ha hb st0 hq
  generalize hcc : clsN p e m = cc at *
  clear hcc
  go_enter Try.func78, Try.ntmps78
  go_wp2
  go_region_law (first
    | (go_simp; go_at_call 64; refine (l06Table_any p e HP.out h1 h2 _).mono ?_; rintro r w6 ⟨gT, cT, uT, rfl, ru6, b6⟩
       have q6 := (Sl.made w.drew (madeCells #[.int .i64 0] e) 2 e e (fun _ => 0) (Nat.le_refl _) (by unfold maxLen; omega) (fun j hj => by simp [inR]) (fun j hj => by simp [madeCells_at _ _ _ hj])).keep b6 (by simp)
       have st6 := (ST0.out.drew.alloc (.cells (madeCells #[.int .i64 0] e) 2)).keep b6
       have ru7 := ru6)
    | (go_simp; go_at_call 64; refine (l06Table_any p e HP.out h1 h2 _).mono ?_; rintro r w6 ⟨gT, cT, uT, rfl, ru6, b6⟩
       have q6 := Sl.made w6 (madeCells #[.int .i64 0] e) 2 e e (fun _ => 0) (Nat.le_refl _) (by unfold maxLen; omega) (fun j hj => by simp [inR]) (fun j hj => by simp [madeCells_at _ _ _ hj])
       have st6 := (ST0.out.drew.keep b6).alloc (.cells (madeCells #[.int .i64 0] e) 2)
       have ru7 := ru6.alloc (.cells (madeCells #[.int .i64 0] e) 2)))
  · have hz6 := b6.size
    simp only [World.size_drew, World.size_alloc] at q6 ru7 hz6
    have Q6 := Lib.hid q6
    have ST6 := Lib.hid st6
    have RU6 := Lib.hid ru7
    have HH := Lib.hid st6.1.size
    clear q6 ru6 b6 st6 ru7
    go_wp2
    obtain ⟨w7, hw7⟩ : ∃ w7, w6.alloc (.cells (madeCells #[.int .i64 0] e) 2) = w7 := ⟨_, rfl⟩
    rw [hw7] at Q6 ST6 RU6 HH ⊢
    clear hw7
    clear hmk
    go_region_law (first
      | (go_simp; go_at_call 68; refine (l06Indices_any p HP.out _).mono ?_; rintro r w8 ⟨g8, rfl, s8, b8⟩
         have hc8 := (s8.known (by omega)).2.2.2.1 m hmp
         rw [Nat.zero_add, ind_cls (e := e) (by omega)] at hc8))
    all_goals
      have z6 := Q6.out.size
      have z7 := RU6.out.size
      have Q8 := Lib.hid ((Q6.out.drew.keep b8 z6).congr (f' := prP e (prodR p e) f g 0 0 0) (fun j hj => rfl))
      have RU8 := Lib.hid (RU6.out.drew.keep b8 z7)
      have ST8 := Lib.hid (ST6.out.drew.keep b8)
      clear Q6 RU6 ST6 s8 b8 hc8
      go_wp2
      rw [hmod]
      try rw [hwq]
      clear hmod
      go_loopw [13] (fun s13 wr => ∃ (i : Nat), i ≤ e ∧ s13 = .int .i64 (i : Int) ∧ Sl true wr w6.heap.size (w6.heap.size + 1) (.slice (some ⟨w6.heap.size, 0, none⟩) e e) e (prP e (prodR p e) f g i 0 0) ∧ RwU true wr w.heap.size w6.heap.size gT 0 cT e uT (fun _ => e) (tabN p e) ∧ St w wr [] [⟨o, lo, hi, .slice (some ⟨g1, off1, none⟩) e cap, e, f⟩, ⟨o', lo', hi', .slice (some ⟨g2, off2, none⟩) e cap', e, g⟩]) (fun s13 _ => e - (intOf s13).toNat)
      case atStart => exact ⟨0, Nat.zero_le _, rfl, Q8.out, RU8.out, ST8.out⟩
      case round =>
        clear Q8 RU8 ST8 HH z6 z7
        obtain ⟨i, hie, rfl, hq, hru, hst⟩ := hrel
        have HQ := Lib.hid hq
        have HR := Lib.hid hru
        have HT := Lib.hid hst
        clear hq hst hru
        by_cases hlt : i < e
        · go_wp2
          go_loopw [14] (fun s14 wq => ∃ k : Nat, k ≤ e ∧ s14 = .int .i64 (k : Int) ∧ Sl true wq w6.heap.size (w6.heap.size + 1) (.slice (some ⟨w6.heap.size, 0, none⟩) e e) e (prP e (prodR p e) f g i k 0) ∧ RwU true wq w.heap.size w6.heap.size gT 0 cT e uT (fun _ => e) (tabN p e) ∧ St w wq [] [⟨o, lo, hi, .slice (some ⟨g1, off1, none⟩) e cap, e, f⟩, ⟨o', lo', hi', .slice (some ⟨g2, off2, none⟩) e cap', e, g⟩]) (fun s14 _ => e - (intOf s14).toNat)
          case atStart => exact ⟨0, Nat.zero_le _, rfl, HQ.out, HR.out, HT.out⟩
          case round =>
            clear HQ HT HR
            obtain ⟨k, hk', rfl, hq, hru, hst⟩ := hrel
            have HQ := Lib.hid hq
            have HR := Lib.hid hru
            have HT := Lib.hid hst
            clear hq hst hru
            by_cases hltk : k < e
            · obtain ⟨s, hs⟩ : ∃ s, (i + k) % e = s := ⟨_, rfl⟩
              have hse : s < e := by rw [← hs]; exact Nat.mod_lt _ (by omega)
              have hidx : ((i : Int) + (k : Int)) % (e : Int) = (s : Int) := by rw [← Int.natCast_add, ← Int.natCast_emod, hs]
              have hci := ((HT.out.sl 0 ⟨o, lo, hi, .slice (some ⟨g1, off1, none⟩) e cap, e, f⟩ rfl).known (by show 0 < e; omega)).2.2.2.1 i hlt
              have hcs := ((HT.out.sl 1 ⟨o', lo', hi', .slice (some ⟨g2, off2, none⟩) e cap', e, g⟩ rfl).known (by show 0 < e; omega)).2.2.2.1 s hse
              have hfg := HOK.out.1 i s hlt hse
              obtain ⟨X, hX⟩ : ∃ X, IntKind.i64.wrap (f i * g s) = X := ⟨_, rfl⟩
              have HX := Lib.hid (show X = f i * g ((i + k) % e) by rw [hs, ← hX]; exact IntWalk.i64_in _ (by omega))
              dsimp only at hci hcs
              clear hs hfg
              go_wp2
              go_region
              go_wp2
              clear hX hidx hci hcs
              go_loopw [16] (fun s16 wy => ∃ m' : Nat, m' ≤ e ∧ s16 = .int .i64 (m' : Int) ∧ Sl true wy w6.heap.size (w6.heap.size + 1) (.slice (some ⟨w6.heap.size, 0, none⟩) e e) e (prP e (prodR p e) f g i k m') ∧ RwU true wy w.heap.size w6.heap.size gT 0 cT e uT (fun _ => e) (tabN p e) ∧ St w wy [] [⟨o, lo, hi, .slice (some ⟨g1, off1, none⟩) e cap, e, f⟩, ⟨o', lo', hi', .slice (some ⟨g2, off2, none⟩) e cap', e, g⟩]) (fun s16 _ => e - (intOf s16).toNat)
              case atStart => exact ⟨0, Nat.zero_le _, rfl, HQ.out.drew, HR.out.drew, HT.out.drew⟩
              case round =>
                clear HQ HT HR
                obtain ⟨m', hm', rfl, hq, hru, hst⟩ := hrel
                have HQ := Lib.hid hq
                have HR := Lib.hid hru
                have HT := Lib.hid hst
                clear hq hst hru
                by_cases hltm : m' < e
                · obtain ⟨t, ht⟩ : ∃ t, (i + m') % e = t := ⟨_, rfl⟩
                  have hte : t < e := by rw [← ht]; exact Nat.mod_lt _ (by omega)
                  have hidt : ((i : Int) + (m' : Int)) % (e : Int) = (t : Int) := by rw [← Int.natCast_add, ← Int.natCast_emod, ht]
                  have chd := HR.out.head hltk
                  obtain ⟨gr, offr, cr, hur, _, _, _, _, hcr, _⟩ := (HR.out.row hltk).at h1
                  rw [Nat.zero_add, hur] at chd
                  have hcm := hcr m' hltm
                  have hct := (HQ.out.known (by omega)).2.2.2.1 t hte
                  rw [Nat.zero_add] at hct
                  have hft := (HQ.out.known (by omega)).2.2.2.2 rfl t
                  have htm := HOK.out.term hlt hltk hltm
                  rw [← HX.out] at htm
                  have hbt := HOK.out.bd h2 hie hk' hm' (.inl hlt) (.inl hltk) t
                  have hbm := tab_inR (p := p) (e := e) (i := k) (j := m') hb'.2
                  have HST := Lib.hid (fun y => (prP_step (e := e) (R := prodR p e) (a := f) (b := g) i k m' y).trans (by rw [ht, ← HX.out]))
                  obtain ⟨Z, hZ⟩ : ∃ Z, prodR p e k m' = Z := ⟨_, rfl⟩
                  obtain ⟨Y, hY⟩ : ∃ Y, X * Z = Y := ⟨_, rfl⟩
                  rw [hZ, hY] at htm
                  have hwY : IntKind.i64.wrap (X * Z) = Y := by rw [hY]; exact IntWalk.i64_in _ (by omega)
                  have HSY := Lib.hid (fun y => (show prP e (prodR p e) f g i k (m' + 1) y = if y = t then prP e (prodR p e) f g i k m' t + Y else prP e (prodR p e) f g i k m' y from by
                    rw [HST.out y, ← hY, ← hZ]
                    by_cases hyt : y = t
                    · rw [if_pos hyt, if_pos hyt, hyt]
                    · rw [if_neg hyt, if_neg hyt]))
                  have hZ2 := HPR.out k m'
                  rw [hZ] at hZ2
                  generalize hP : prP e (prodR p e) f g i k m' t = P at *
                  generalize tabN p e k m' = V at *
                  have HFIN := Lib.hid (fun wr' (hf : Frame w6.heap.size (w6.heap.size + 1) wr wr') => (show RwU true wr' w.heap.size w6.heap.size gT 0 cT e uT (fun _ => e) (tabN p e) ∧ St w wr' [] [⟨o, lo, hi, .slice (some ⟨g1, off1, none⟩) e cap, e, f⟩, ⟨o', lo', hi', .slice (some ⟨g2, off2, none⟩) e cap', e, g⟩] from ⟨HR.out.keepF hf (by omega), HT.out.write hf (by omega) (by intro b hb; cases hb) (by intro s hs'; simp only [List.mem_cons, List.not_mem_nil, or_false] at hs'; rcases hs' with rfl | rfl <;> dsimp only <;> left <;> omega)⟩))
                  clear ht HST hY hZ hcr hur
                  have hways : ((k : Int) == (cc : Int)) = true ∧ V - q = Z ∨ ((k : Int) == (cc : Int)) = false ∧ V = Z := by
                    by_cases hkc : k = cc
                    · rw [if_pos hkc] at hZ2; exact .inl ⟨by rw [hkc]; simp, hZ2.symm⟩
                    · rw [if_neg hkc] at hZ2; exact .inr ⟨beq_eq_false_iff_ne.2 (by omega), hZ2.symm⟩
                  clear hZ2
                  have hq0 := HQ0.out
                  rcases hways with ⟨hkb, hV⟩ | ⟨hkb, hV⟩
                  · have hwV : IntKind.i64.wrap (V - q) = Z := by rw [← hV]; exact IntWalk.i64_in _ (by omega)
                    clear hV hq0
                    go_wp2
                    go_region
                    go_wp2
                    go_roundw
                    case rel => exact ⟨m' + 1, by omega, by go_num, ((HQ.out.store0 hte (x := P + Y) (by unfold inR; omega)).congr (fun y _ => HSY.out y)).drew, HFIN.out _ ((Frame.refl _ _ _).setCell (p := ⟨w6.heap.size, t, none⟩) (Nat.le_refl _) (Nat.lt_succ_self _) _).drew⟩
                    case measure => simp [intOf]; omega
                  · subst hV
                    clear hq0
                    go_wp2
                    go_region
                    go_wp2
                    go_roundw
                    case rel => exact ⟨m' + 1, by omega, by go_num, ((HQ.out.store0 hte (x := P + Y) (by unfold inR; omega)).congr (fun y _ => HSY.out y)).drew, HFIN.out _ ((Frame.refl _ _ _).setCell (p := ⟨w6.heap.size, t, none⟩) (Nat.le_refl _) (Nat.lt_succ_self _) _).drew⟩
                    case measure => simp [intOf]; omega
                · obtain rfl : m' = e := by omega
                  go_wp2
                  go_roundw
                  case rel => exact ⟨k + 1, by omega, by go_num, HQ.out.congr (fun y _ => (prP_row i k y).symm), HR.out, HT.out⟩
                  case measure => simp [intOf]; omega
            · obtain rfl : k = e := by omega
              go_wp2
              go_roundw
              case rel => exact ⟨i + 1, by omega, by go_num, HQ.out.congr (fun y _ => (prP_blk i y).symm), HR.out, HT.out⟩
              case measure => simp [intOf]; omega
        · obtain rfl : i = e := by omega
          have hqs := HQ.out.size
          have BB := HT.out.1
          go_wp2
          go_ret
          exact ⟨_, rfl, (HQ.out.congr (fun y _ => (prP_all y).symm)).wide (by omega) hqs (Nat.le_refl _), BB⟩
  · have hz6 := b6.size
    simp only [World.size_drew, World.size_alloc] at q6 ru7 hz6
    have Q6 := Lib.hid q6
    have ST6 := Lib.hid st6
    have RU6 := Lib.hid ru7
    have HH := Lib.hid st6.1.size
    clear q6 ru6 b6 st6 ru7
    go_wp2
    obtain ⟨w7, hw7⟩ : ∃ w7, w7 = w6 := ⟨_, rfl⟩
    rw [← hw7] at Q6 ST6 RU6 HH hz6 ⊢
    clear hw7
    clear hmk
    obtain ⟨hiT, hhT⟩ : ∃ hiT, w7.heap.size = hiT := ⟨_, rfl⟩
    rw [show w7.heap.size = hiT from hhT] at RU6
    have hhT2 : w.heap.size + 1 ≤ hiT := by omega
    clear hhT
    go_region_law (first
      | (go_simp; go_at_call 68; refine (l06Indices_any p HP.out _).mono ?_; rintro r w8 ⟨g8, rfl, s8, b8⟩
         have hc8 := (s8.known (by omega)).2.2.2.1 m hmp
         rw [Nat.zero_add, ind_cls (e := e) (by omega)] at hc8))
    all_goals
      have z6 := Q6.out.size
      have z7 := RU6.out.size
      have Q8 := Lib.hid ((Q6.out.drew.keep b8 z6).congr (f' := prP e (prodR p e) f g 0 0 0) (fun j hj => rfl))
      have RU8 := Lib.hid (RU6.out.drew.keep b8 z7)
      have ST8 := Lib.hid (ST6.out.drew.keep b8)
      clear Q6 RU6 ST6 s8 b8 hc8
      go_wp2
      rw [hmod]
      try rw [hwq]
      clear hmod
      go_loopw [13] (fun s13 wr => ∃ (i : Nat), i ≤ e ∧ s13 = .int .i64 (i : Int) ∧ Sl true wr w.heap.size (w.heap.size + 1) (.slice (some ⟨w.heap.size, 0, none⟩) e e) e (prP e (prodR p e) f g i 0 0) ∧ RwU true wr (w.heap.size + 1) hiT gT 0 cT e uT (fun _ => e) (tabN p e) ∧ St w wr [] [⟨o, lo, hi, .slice (some ⟨g1, off1, none⟩) e cap, e, f⟩, ⟨o', lo', hi', .slice (some ⟨g2, off2, none⟩) e cap', e, g⟩]) (fun s13 _ => e - (intOf s13).toNat)
      case atStart => exact ⟨0, Nat.zero_le _, rfl, Q8.out, RU8.out, ST8.out⟩
      case round =>
        clear Q8 RU8 ST8 HH z6 z7
        obtain ⟨i, hie, rfl, hq, hru, hst⟩ := hrel
        have HQ := Lib.hid hq
        have HR := Lib.hid hru
        have HT := Lib.hid hst
        clear hq hst hru
        by_cases hlt : i < e
        · go_wp2
          go_loopw [14] (fun s14 wq => ∃ k : Nat, k ≤ e ∧ s14 = .int .i64 (k : Int) ∧ Sl true wq w.heap.size (w.heap.size + 1) (.slice (some ⟨w.heap.size, 0, none⟩) e e) e (prP e (prodR p e) f g i k 0) ∧ RwU true wq (w.heap.size + 1) hiT gT 0 cT e uT (fun _ => e) (tabN p e) ∧ St w wq [] [⟨o, lo, hi, .slice (some ⟨g1, off1, none⟩) e cap, e, f⟩, ⟨o', lo', hi', .slice (some ⟨g2, off2, none⟩) e cap', e, g⟩]) (fun s14 _ => e - (intOf s14).toNat)
          case atStart => exact ⟨0, Nat.zero_le _, rfl, HQ.out, HR.out, HT.out⟩
          case round =>
            clear HQ HT HR
            obtain ⟨k, hk', rfl, hq, hru, hst⟩ := hrel
            have HQ := Lib.hid hq
            have HR := Lib.hid hru
            have HT := Lib.hid hst
            clear hq hst hru
            by_cases hltk : k < e
            · obtain ⟨s, hs⟩ : ∃ s, (i + k) % e = s := ⟨_, rfl⟩
              have hse : s < e := by rw [← hs]; exact Nat.mod_lt _ (by omega)
              have hidx : ((i : Int) + (k : Int)) % (e : Int) = (s : Int) := by rw [← Int.natCast_add, ← Int.natCast_emod, hs]
              have hci := ((HT.out.sl 0 ⟨o, lo, hi, .slice (some ⟨g1, off1, none⟩) e cap, e, f⟩ rfl).known (by show 0 < e; omega)).2.2.2.1 i hlt
              have hcs := ((HT.out.sl 1 ⟨o', lo', hi', .slice (some ⟨g2, off2, none⟩) e cap', e, g⟩ rfl).known (by show 0 < e; omega)).2.2.2.1 s hse
              have hfg := HOK.out.1 i s hlt hse
              obtain ⟨X, hX⟩ : ∃ X, IntKind.i64.wrap (f i * g s) = X := ⟨_, rfl⟩
              have HX := Lib.hid (show X = f i * g ((i + k) % e) by rw [hs, ← hX]; exact IntWalk.i64_in _ (by omega))
              dsimp only at hci hcs
              clear hs hfg
              go_wp2
              go_region
              go_wp2
              clear hX hidx hci hcs
              go_loopw [16] (fun s16 wy => ∃ m' : Nat, m' ≤ e ∧ s16 = .int .i64 (m' : Int) ∧ Sl true wy w.heap.size (w.heap.size + 1) (.slice (some ⟨w.heap.size, 0, none⟩) e e) e (prP e (prodR p e) f g i k m') ∧ RwU true wy (w.heap.size + 1) hiT gT 0 cT e uT (fun _ => e) (tabN p e) ∧ St w wy [] [⟨o, lo, hi, .slice (some ⟨g1, off1, none⟩) e cap, e, f⟩, ⟨o', lo', hi', .slice (some ⟨g2, off2, none⟩) e cap', e, g⟩]) (fun s16 _ => e - (intOf s16).toNat)
              case atStart => exact ⟨0, Nat.zero_le _, rfl, HQ.out.drew, HR.out.drew, HT.out.drew⟩
              case round =>
                clear HQ HT HR
                obtain ⟨m', hm', rfl, hq, hru, hst⟩ := hrel
                have HQ := Lib.hid hq
                have HR := Lib.hid hru
                have HT := Lib.hid hst
                clear hq hst hru
                by_cases hltm : m' < e
                · obtain ⟨t, ht⟩ : ∃ t, (i + m') % e = t := ⟨_, rfl⟩
                  have hte : t < e := by rw [← ht]; exact Nat.mod_lt _ (by omega)
                  have hidt : ((i : Int) + (m' : Int)) % (e : Int) = (t : Int) := by rw [← Int.natCast_add, ← Int.natCast_emod, ht]
                  have chd := HR.out.head hltk
                  obtain ⟨gr, offr, cr, hur, _, _, _, _, hcr, _⟩ := (HR.out.row hltk).at h1
                  rw [Nat.zero_add, hur] at chd
                  have hcm := hcr m' hltm
                  have hct := (HQ.out.known (by omega)).2.2.2.1 t hte
                  rw [Nat.zero_add] at hct
                  have hft := (HQ.out.known (by omega)).2.2.2.2 rfl t
                  have htm := HOK.out.term hlt hltk hltm
                  rw [← HX.out] at htm
                  have hbt := HOK.out.bd h2 hie hk' hm' (.inl hlt) (.inl hltk) t
                  have hbm := tab_inR (p := p) (e := e) (i := k) (j := m') hb'.2
                  have HST := Lib.hid (fun y => (prP_step (e := e) (R := prodR p e) (a := f) (b := g) i k m' y).trans (by rw [ht, ← HX.out]))
                  obtain ⟨Z, hZ⟩ : ∃ Z, prodR p e k m' = Z := ⟨_, rfl⟩
                  obtain ⟨Y, hY⟩ : ∃ Y, X * Z = Y := ⟨_, rfl⟩
                  rw [hZ, hY] at htm
                  have hwY : IntKind.i64.wrap (X * Z) = Y := by rw [hY]; exact IntWalk.i64_in _ (by omega)
                  have HSY := Lib.hid (fun y => (show prP e (prodR p e) f g i k (m' + 1) y = if y = t then prP e (prodR p e) f g i k m' t + Y else prP e (prodR p e) f g i k m' y from by
                    rw [HST.out y, ← hY, ← hZ]
                    by_cases hyt : y = t
                    · rw [if_pos hyt, if_pos hyt, hyt]
                    · rw [if_neg hyt, if_neg hyt]))
                  have hZ2 := HPR.out k m'
                  rw [hZ] at hZ2
                  generalize hP : prP e (prodR p e) f g i k m' t = P at *
                  generalize tabN p e k m' = V at *
                  have HFIN := Lib.hid (fun wr' (hf : Frame w.heap.size (w.heap.size + 1) wr wr') => (show RwU true wr' (w.heap.size + 1) hiT gT 0 cT e uT (fun _ => e) (tabN p e) ∧ St w wr' [] [⟨o, lo, hi, .slice (some ⟨g1, off1, none⟩) e cap, e, f⟩, ⟨o', lo', hi', .slice (some ⟨g2, off2, none⟩) e cap', e, g⟩] from ⟨HR.out.keepF hf (by omega), HT.out.write hf (by omega) (by intro b hb; cases hb) (by intro s hs'; simp only [List.mem_cons, List.not_mem_nil, or_false] at hs'; rcases hs' with rfl | rfl <;> dsimp only <;> left <;> omega)⟩))
                  clear ht HST hY hZ hcr hur
                  have hways : ((k : Int) == (cc : Int)) = true ∧ V - q = Z ∨ ((k : Int) == (cc : Int)) = false ∧ V = Z := by
                    by_cases hkc : k = cc
                    · rw [if_pos hkc] at hZ2; exact .inl ⟨by rw [hkc]; simp, hZ2.symm⟩
                    · rw [if_neg hkc] at hZ2; exact .inr ⟨beq_eq_false_iff_ne.2 (by omega), hZ2.symm⟩
                  clear hZ2
                  have hq0 := HQ0.out
                  rcases hways with ⟨hkb, hV⟩ | ⟨hkb, hV⟩
                  · have hwV : IntKind.i64.wrap (V - q) = Z := by rw [← hV]; exact IntWalk.i64_in _ (by omega)
                    clear hV hq0
                    go_wp2
                    go_region
                    go_wp2
                    go_roundw
                    case rel => exact ⟨m' + 1, by omega, by go_num, ((HQ.out.store0 hte (x := P + Y) (by unfold inR; omega)).congr (fun y _ => HSY.out y)).drew, HFIN.out _ ((Frame.refl _ _ _).setCell (p := ⟨w.heap.size, t, none⟩) (Nat.le_refl _) (Nat.lt_succ_self _) _).drew⟩
                    case measure => simp [intOf]; omega
                  · subst hV
                    clear hq0
                    go_wp2
                    go_region
                    go_wp2
                    go_roundw
                    case rel => exact ⟨m' + 1, by omega, by go_num, ((HQ.out.store0 hte (x := P + Y) (by unfold inR; omega)).congr (fun y _ => HSY.out y)).drew, HFIN.out _ ((Frame.refl _ _ _).setCell (p := ⟨w.heap.size, t, none⟩) (Nat.le_refl _) (Nat.lt_succ_self _) _).drew⟩
                    case measure => simp [intOf]; omega
                · obtain rfl : m' = e := by omega
                  go_wp2
                  go_roundw
                  case rel => exact ⟨k + 1, by omega, by go_num, HQ.out.congr (fun y _ => (prP_row i k y).symm), HR.out, HT.out⟩
                  case measure => simp [intOf]; omega
            · obtain rfl : k = e := by omega
              go_wp2
              go_roundw
              case rel => exact ⟨i + 1, by omega, by go_num, HQ.out.congr (fun y _ => (prP_blk i y).symm), HR.out, HT.out⟩
              case measure => simp [intOf]; omega
        · obtain rfl : i = e := by omega
          have hqs := HQ.out.size
          have BB := HT.out.1
          go_wp2
          go_ret
          exact ⟨_, rfl, (HQ.out.congr (fun y _ => (prP_all y).symm)).wide (by omega) hqs (Nat.le_refl _), BB⟩
end
end Go.Proofs.Ytaipaggaodnfkaa
