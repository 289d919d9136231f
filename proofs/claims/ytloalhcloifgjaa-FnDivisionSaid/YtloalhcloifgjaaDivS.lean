/- l02Divide of the model. -/
import Derived.Test.YtloalhcloifgjaaDivBase
namespace Go.Proofs.Ytloalhcloifgjaa
open Go.RowKit Go.ChangeShapes Go.Sort
set_option linter.unusedVariables false
set_option linter.unusedSimpArgs false

section
variable {o o' : Bool} {lo hi lo' hi' n m : Nat} {v v' : Value} {f g : Nat → Int}
set_option maxRecDepth 100000 in
set_option maxHeartbeats 8000000 in
theorem l02Divide_any (n : Nat) (w : World) (hs : Sl o w lo hi v (phiN n) f) (ht : Sl o' w lo' hi' v' (phiN n) g) (h : CyP n (phiN n) f) (h' : CyP n (phiN n) g) (hz : zeroB (phiN n) g = false) :
    Calls Try.prog 194 #[.agg #[.int .i64 (n : Int), v], .agg #[.int .i64 (n : Int), v']] w fun e w' => ((dvOk n f g ∧ divTo (dvZ n f g) (dvN n g) (phiN n) ∧ ∃ a9 k9, e = .returned (.tuple #[.agg #[.int .i64 (n : Int), .slice a9 (phiN n) k9], .int .i64 0]) ∧ Sl true w' w.heap.size w'.heap.size (.slice a9 (phiN n) k9) (phiN n) (quoZ (dvZ n f g) (dvN n g))) ∨ (dvOk n f g ∧ ¬ divTo (dvZ n f g) (dvN n g) (phiN n) ∧ e = .returned (failV 4)) ∨ (¬ dvOk n f g ∧ e = .returned (failV 3))) ∧ Below w.heap.size w w' := by
  have hn1 : 1 ≤ n := by have := h.1; omega
  have hn2 : n ≤ 16 := by have := h.2.1; omega
  have hp := phi_le12 n hn2 hn1
  have hp0 := phiN_pos n (by omega) hn1
  have HCX := Lib.hid h
  have HCY := Lib.hid h'
  have HN0 := Lib.hid (dvN_ok h' hz)
  clear h h' hz
  have hhs := hs.size
  have hht := ht.size
  obtain ⟨a, cap, rfl⟩ := hs.shape
  obtain ⟨a', cap', rfl⟩ := ht.shape
  have st0 := (((((St.start w).addSl ⟨o, lo, hi, .slice a (phiN n) cap, phiN n, f⟩ hs).addSl ⟨o', lo', hi', .slice a' (phiN n) cap', phiN n, g⟩ ht).alloc (.cells #[.int .i64 (n : Int), .slice a (phiN n) cap] 26)).addBox w.heap.size [.int .i64 (n : Int), .slice a (phiN n) cap] (Box.made _ _ _ _ (fun j v h => by simpa using h)))
  replace st0 := (st0.alloc (.cells #[.int .i64 (n : Int), .slice a' (phiN n) cap'] 26)).addBox _ [.int .i64 (n : Int), .slice a' (phiN n) cap'] (Box.made _ _ _ _ (fun j v h => by simpa using h))
  replace st0 := (st0.alloc (.cells #[.int .i64 0, .slice none 0 0] 26)).addBox _ [.int .i64 0, .slice none 0 0] (Box.made _ _ _ _ (fun j v h => by simpa using h))
  simp only [World.size_alloc] at st0
  clear hs ht
  have q0 := st0.sl 1 ⟨o, lo, hi, .slice a (phiN n) cap, phiN n, f⟩ rfl
  have q1 := st0.sl 0 ⟨o', lo', hi', .slice a' (phiN n) cap', phiN n, g⟩ rfl
  dsimp only at q0 q1
  obtain ⟨x0, x1⟩ := (st0.box 2 (w.heap.size, [.int .i64 (n : Int), .slice a (phiN n) cap]) rfl).cell2
  obtain ⟨y0, y1⟩ := (st0.box 1 (w.heap.size + 1, [.int .i64 (n : Int), .slice a' (phiN n) cap']) rfl).cell2
  clear q0 x0 x1
  go_enter Try.func194, Try.ntmps194
  go_wp2_with fail
  by_cases hk1 : prOk n (phiN n) g 1 (phiN n - 1)
  · have HK1 := Lib.hid hk1
    clear hk1
    refine (l02Product_ok n 1 _ q1 HCY.out (by omega) HK1.out).mono ?_
    rintro e w1 ⟨a1, k1, rfl, s1, b1⟩
    have hs1 := b1.size
    have ST1 := ((st0.keep b1).boxNew (.int .i64 (n : Int)) (.slice a1 (phiN n) k1) 26).addSl ⟨true, 0, w1.heap.size, .slice a1 (phiN n) k1, phiN n, prI n (phiN n) g 1 (phiN n - 1)⟩ ((s1.wide (Nat.zero_le _) (Nat.le_refl _) (Nat.le_refl _)).alloc _)
    clear st0 b1 s1 q1 y0 y1
    obtain ⟨y0, y1⟩ := (ST1.box 2 (w.heap.size + 1, [.int .i64 (n : Int), .slice a' (phiN n) cap']) rfl).cell2
    have q1 := ST1.sl 1 ⟨o', lo', hi', .slice a' (phiN n) cap', phiN n, g⟩ rfl
    dsimp only at q1
    go_wp2_with fail
    by_cases hk0 : prOk n (phiN n) g 0 (phiN n)
    · have HK0 := Lib.hid hk0
      clear hk0
      refine (l02Product_ok n 0 _ q1 HCY.out (by omega) (show prOk n (phiN n) g 0 (phiN n - 0) from HK0.out)).mono ?_
      rw [Nat.sub_zero]
      rintro e w2 ⟨a2, k2, rfl, s2, b2⟩
      have hs2 := b2.size
      have ST2 := ((ST1.keep b2).boxNew (.int .i64 (n : Int)) (.slice a2 (phiN n) k2) 26).addSl ⟨true, 0, w2.heap.size, .slice a2 (phiN n) k2, phiN n, prI n (phiN n) g 0 (phiN n)⟩ ((s2.wide (Nat.zero_le _) (Nat.le_refl _) (Nat.le_refl _)).alloc _)
      clear ST1 b2 s2 q1 y0 y1
      obtain ⟨x0, x1⟩ := (ST2.box 4 (w.heap.size, [.int .i64 (n : Int), .slice a (phiN n) cap]) rfl).cell2
      obtain ⟨t0, t1⟩ := (ST2.box 1 (w1.heap.size, [.int .i64 (n : Int), .slice a1 (phiN n) k1]) rfl).cell2
      have qx := ST2.sl 3 ⟨o, lo, hi, .slice a (phiN n) cap, phiN n, f⟩ rfl
      have qc := ST2.sl 1 ⟨true, 0, w1.heap.size, .slice a1 (phiN n) k1, phiN n, prI n (phiN n) g 1 (phiN n - 1)⟩ rfl
      dsimp only at qx qc
      go_wp2_with fail
      refine (l01Times_any n hn1 hn2 _ qx qc (Within.big HCX.out.2.2.2) (Within.big (prI_within HK1.out)) hp0 hp).mono ?_
      rintro e w3 ⟨a3, k3, bb, rfl, hbb, s3, b3⟩
      have hs3 := b3.size
      by_cases hw : Within (dvZ n f g) (phiN n) 1000000000
      · have HW := Lib.hid hw
        have HDV := Lib.hid (show dvOk n f g from ⟨HK1.out, HK0.out, hw⟩)
        obtain rfl : bb = true := hbb.2 hw
        have ST3 := ((ST2.keep b3).boxNew (.int .i64 (n : Int)) (.slice a3 (phiN n) k3) 26).addSl ⟨true, 0, w3.heap.size, .slice a3 (phiN n) k3, phiN n, dvZ n f g⟩ (((s3 rfl).wide (Nat.zero_le _) (Nat.le_refl _) (Nat.le_refl _)).alloc _)
        clear ST2 b3 s3 hbb hw x0 x1 t0 t1 qx qc
        obtain ⟨x0, x1⟩ := (ST3.box 5 (w.heap.size, [.int .i64 (n : Int), .slice a (phiN n) cap]) rfl).cell2
        go_wp2_with fail
        refine (l01Zero_any n (by omega) _).mono ?_
        rintro e w4 ⟨a4, k4, rfl, s4, b4⟩
        have hs4 := b4.size
        simp only [World.size_alloc] at hs1 hs2 hs3 hs4
        have HO4 := Lib.hid (((s4.wide (lo' := w3.heap.size + 1) (by simp) (Nat.le_refl _) (Nat.le_refl _)).alloc (.cells #[.int .i64 (n : Int), .slice a4 (phiN n) k4] 26)).congr (f' := part1 (quoZ (dvZ n f g) (dvN n g)) 0) (fun j hj => by unfold part1; rw [if_neg (Nat.not_lt_zero _)]))
        have ST4 := Lib.hid ((ST3.keep b4).boxNew (.int .i64 (n : Int)) (.slice a4 (phiN n) k4) 26)
        clear ST3 b4 s4 x0 x1
        go_wp2
        go_loopw [13] (fun s13 wr => ∃ i : Nat, i ≤ phiN n ∧ s13 = .int .i64 i ∧ divTo (dvZ n f g) (dvN n g) i ∧ Sl true wr (w3.heap.size + 1) w4.heap.size (.slice a4 (phiN n) k4) (phiN n) (part1 (quoZ (dvZ n f g) (dvN n g)) i) ∧
            St w wr [(w4.heap.size, [.int .i64 (n : Int), .slice a4 (phiN n) k4]), (w3.heap.size, [.int .i64 (n : Int), .slice a3 (phiN n) k3]), (w2.heap.size, [.int .i64 (n : Int), .slice a2 (phiN n) k2]), (w1.heap.size, [.int .i64 (n : Int), .slice a1 (phiN n) k1]), (w.heap.size + 1 + 1, [.int .i64 0, .slice none 0 0]), (w.heap.size + 1, [.int .i64 (n : Int), .slice a' (phiN n) cap']), (w.heap.size, [.int .i64 (n : Int), .slice a (phiN n) cap])] [⟨true, 0, w3.heap.size, .slice a3 (phiN n) k3, phiN n, dvZ n f g⟩, ⟨true, 0, w2.heap.size, .slice a2 (phiN n) k2, phiN n, prI n (phiN n) g 0 (phiN n)⟩, ⟨true, 0, w1.heap.size, .slice a1 (phiN n) k1, phiN n, prI n (phiN n) g 1 (phiN n - 1)⟩, ⟨o', lo', hi', .slice a' (phiN n) cap', phiN n, g⟩, ⟨o, lo, hi, .slice a (phiN n) cap, phiN n, f⟩]) (fun s13 _ => phiN n - (intOf s13).toNat)
        case atStart => exact ⟨0, Nat.zero_le _, rfl, fun j hj => absurd hj (Nat.not_lt_zero _), HO4.out, ST4.out⟩
        case round =>
          clear HO4 ST4
          obtain ⟨i, hi9, rfl, hdv, hown, hst⟩ := hrel
          have HT := Lib.hid hst; clear hst
          have HO := Lib.hid hown; clear hown
          have HD := Lib.hid hdv; clear hdv
          obtain ⟨z0, z1⟩ := (HT.out.box 0 (w4.heap.size, [.int .i64 (n : Int), .slice a4 (phiN n) k4]) rfl).cell2
          obtain ⟨d0, d1⟩ := (HT.out.box 4 (w.heap.size + 1 + 1, [.int .i64 0, .slice none 0 0]) rfl).cell2
          have dz := (HT.out.box 4 (w.heap.size + 1 + 1, [.int .i64 0, .slice none 0 0]) rfl).2.2
          have BB := HT.out.1
          dsimp only at dz
          have hsz := HO.out.size
          by_cases hlt : i < phiN n
          · have hi2 : (i : Int) < (phiN n : Int) := by omega
            obtain ⟨p0, p1⟩ := (HT.out.box 1 (w3.heap.size, [.int .i64 (n : Int), .slice a3 (phiN n) k3]) rfl).cell2
            obtain ⟨m0, m1⟩ := (HT.out.box 2 (w2.heap.size, [.int .i64 (n : Int), .slice a2 (phiN n) k2]) rfl).cell2
            have qp := HT.out.sl 0 ⟨true, 0, w3.heap.size, .slice a3 (phiN n) k3, phiN n, dvZ n f g⟩ rfl
            have qn := HT.out.sl 1 ⟨true, 0, w2.heap.size, .slice a2 (phiN n) k2, phiN n, prI n (phiN n) g 0 (phiN n)⟩ rfl
            dsimp only at qp qn
            obtain ⟨bp, op, cp, hvp, _, _, _, _, hcp, _⟩ := qp.at hp0
            obtain ⟨rfl, rfl⟩ : a3 = some ⟨bp, op, none⟩ ∧ k3 = cp := by cases hvp; exact ⟨rfl, rfl⟩
            have hP := hcp i hlt
            obtain ⟨bn, on, cn, hvn, _, _, _, _, hcn, _⟩ := qn.at hp0
            obtain ⟨rfl, rfl⟩ : a2 = some ⟨bn, on, none⟩ ∧ k2 = cn := by cases hvn; exact ⟨rfl, rfl⟩
            have hN := hcn 0 hp0
            rw [Nat.add_zero] at hN
            obtain ⟨bz, oz, cz, hvz, hz1, hz2, _, _, hcz, hfz⟩ := HO.out.at hp0
            obtain ⟨rfl, rfl⟩ : a4 = some ⟨bz, oz, none⟩ ∧ k4 = cz := by cases hvz; exact ⟨rfl, rfl⟩
            have hZ := hcz i hlt
            have hZf := hfz rfl (oz + i)
            have hPb := HW.out i hlt
            have hQb := quo_bd (d := dvN n g) hPb
            have HQW := Lib.hid (show IntKind.i64.wrap ((dvZ n f g i).tdiv (dvN n g)) = (dvZ n f g i).tdiv (dvN n g) from IntWalk.i64_in _ (by omega))
            have hNN : prI n (phiN n) g 0 (phiN n) 0 = dvN n g := rfl
            rw [hNN] at hN
            clear hNN hvp hvn hvz hcp hcn hcz hfz qp qn
            have hN0 := HN0.out
            have W1 := Lib.hid (part1_succ (quoZ (dvZ n f g) (dvN n g)) i)
            have HQZ := Lib.hid (show quoZ (dvZ n f g) (dvN n g) i = (dvZ n f g i).tdiv (dvN n g) from rfl)
            have hmm : divTo (dvZ n f g) (dvN n g) (i + 1) ↔ (dvZ n f g i).tmod (dvN n g) = 0 := ⟨fun h => h i (by omega), fun h j hj => by
              by_cases e : j < i
              · exact HD.out j e
              · rw [show j = i by omega]; exact h⟩
            have HMM := Lib.hid hmm
            clear hmm
            by_cases hm : (dvZ n f g i).tmod (dvN n g) = 0
            · have HM := Lib.hid (HMM.out.2 hm)
              have hb : ((dvZ n f g i).tmod (dvN n g) != 0) = false := by simp [hm]
              clear hm
              go_wp2
              go_quiet (fail)
              go_wp2
              go_region
              go_wp2
              go_roundw
              case rel =>
                refine ⟨i + 1, by omega, by go_num, HM.out, ?_, ?_⟩
                · rw [W1.out]
                  refine ((HO.out.drewN (nq + 1)).store (i := i) (by omega) (by unfold inR; omega)).congr (fun j hj => ?_)
                  by_cases e : j = i
                  · subst e; simp [HQZ.out]
                  · simp [e]
                · exact (HT.out.drewN (nq + 1)).write (lo := w3.heap.size + 1) (hi := w4.heap.size) ((Frame.refl (w3.heap.size + 1) w4.heap.size _).setCell hz1 hz2 _) (by omega) (by intro b hb; simp only [List.mem_cons, List.not_mem_nil, or_false] at hb; rcases hb with rfl | rfl | rfl | rfl | rfl | rfl | rfl <;> dsimp only <;> omega) (by intro s hs'; simp only [List.mem_cons, List.not_mem_nil, or_false] at hs'; rcases hs' with rfl | rfl | rfl | rfl | rfl <;> dsimp only <;> omega)
              case measure => simp [intOf] <;> omega
            · have HM := Lib.hid (fun h => hm (HMM.out.1 h))
              have HNT := Lib.hid (show ¬ divTo (dvZ n f g) (dvN n g) (phiN n) from fun h => hm (h i hlt))
              have hb : ((dvZ n f g i).tmod (dvN n g) != 0) = true := by simpa using hm
              clear hm
              go_wp2
              go_quiet (fail)
              go_wp2
              refine bodyPost_ret (v := failV 4) (by simp [results, Try.results194, go_sem, failV, d0, d1]) rfl ?_
              exact ⟨.inr (.inl ⟨HDV.out, HNT.out, rfl⟩), by (go_grown; exact below_drewN BB _)⟩
          · obtain rfl : i = phiN n := by omega
            go_wp2
            refine bodyPost_ret (v := .tuple #[.agg #[.int .i64 (n : Int), .slice a4 (phiN n) k4], .int .i64 0]) (by simp [results, Try.results194, go_sem, d0, d1]) rfl ?_
            refine ⟨.inl ⟨HDV.out, HD.out, _, _, rfl, ?_⟩, by go_grown⟩
            exact (((HO.out.setOther (.inl (by show w.heap.size + 1 + 1 < w3.heap.size + 1; omega)) _).setOther (.inl (by show w.heap.size + 1 + 1 < w3.heap.size + 1; omega)) _).wide (by omega) (by simpa using hsz) (Nat.le_refl _)).congr (fun j hj => by unfold part1; rw [if_pos hj])
      · obtain rfl : bb = false := by
          cases bb with
          | false => rfl
          | true => exact absurd (hbb.1 rfl) hw
        have ST3 := (ST2.keep b3).boxNew (.int .i64 (n : Int)) (.slice a3 (phiN n) k3) 26
        have HHW := Lib.hid hw
        clear ST2 b3 s3 hbb hw x0 x1 t0 t1 qx qc
        have HDV := Lib.hid (show ¬ dvOk n f g from fun h => HHW.out h.2.2)
        obtain ⟨d0, d1⟩ := (ST3.box 3 (w.heap.size + 1 + 1, [.int .i64 0, .slice none 0 0]) rfl).cell2
        have dz := (ST3.box 3 (w.heap.size + 1 + 1, [.int .i64 0, .slice none 0 0]) rfl).2.2
        have BB := ST3.1
        dsimp only at dz
        clear ST3
        go_wp2
        refine bodyPost_ret (v := failV 3) (by simp [results, Try.results194, go_sem, failV, d0, d1]) rfl ?_
        exact ⟨.inr (.inr ⟨HDV.out, rfl⟩), by go_grown⟩
    · have HK0 := Lib.hid hk0
      clear hk0
      refine (l02Product_big n 0 _ q1 HCY.out (by omega) (show ¬ prOk n (phiN n) g 0 (phiN n - 0) from HK0.out)).mono ?_
      rintro e w2 ⟨rfl, b2⟩
      have ST2 := (ST1.keep b2).alloc (.cells #[.int .i64 0, .slice none 0 0] 26)
      clear ST1 b2 q1 y0 y1
      have HDV := Lib.hid (show ¬ dvOk n f g from fun h => HK0.out h.2.1)
      obtain ⟨d0, d1⟩ := (ST2.box 1 (w.heap.size + 1 + 1, [.int .i64 0, .slice none 0 0]) rfl).cell2
      have dz := (ST2.box 1 (w.heap.size + 1 + 1, [.int .i64 0, .slice none 0 0]) rfl).2.2
      have BB := ST2.1
      dsimp only at dz
      clear ST2
      go_wp2
      refine bodyPost_ret (v := failV 3) (by simp [results, Try.results194, go_sem, failV, d0, d1]) rfl ?_
      exact ⟨.inr (.inr ⟨HDV.out, rfl⟩), by go_grown⟩
  · have HK1 := Lib.hid hk1
    clear hk1
    refine (l02Product_big n 1 _ q1 HCY.out (by omega) HK1.out).mono ?_
    rintro e w1 ⟨rfl, b1⟩
    have ST1 := (st0.keep b1).alloc (.cells #[.int .i64 0, .slice none 0 0] 26)
    clear st0 b1 q1 y0 y1
    obtain ⟨y0, y1⟩ := (ST1.box 1 (w.heap.size + 1, [.int .i64 (n : Int), .slice a' (phiN n) cap']) rfl).cell2
    have q1 := ST1.sl 0 ⟨o', lo', hi', .slice a' (phiN n) cap', phiN n, g⟩ rfl
    dsimp only at q1
    go_wp2_with fail
    by_cases hk0 : prOk n (phiN n) g 0 (phiN n)
    · refine (l02Product_ok n 0 _ q1 HCY.out (by omega) (show prOk n (phiN n) g 0 (phiN n - 0) from hk0)).mono ?_
      rintro e w2 ⟨a2, k2, rfl, s2, b2⟩
      have ST2 := (ST1.keep b2).alloc (.cells #[.int .i64 (n : Int), .slice a2 (phiN n) k2] 26)
      clear ST1 b2 q1 y0 y1 s2 hk0
      have HDV := Lib.hid (show ¬ dvOk n f g from fun h => HK1.out h.1)
      obtain ⟨d0, d1⟩ := (ST2.box 0 (w.heap.size + 1 + 1, [.int .i64 0, .slice none 0 0]) rfl).cell2
      have dz := (ST2.box 0 (w.heap.size + 1 + 1, [.int .i64 0, .slice none 0 0]) rfl).2.2
      have BB := ST2.1
      dsimp only at dz
      clear ST2
      go_wp2
      refine bodyPost_ret (v := failV 3) (by simp [results, Try.results194, go_sem, failV, d0, d1]) rfl ?_
      exact ⟨.inr (.inr ⟨HDV.out, rfl⟩), by go_grown⟩
    · refine (l02Product_big n 0 _ q1 HCY.out (by omega) (show ¬ prOk n (phiN n) g 0 (phiN n - 0) from hk0)).mono ?_
      rintro e w2 ⟨rfl, b2⟩
      have ST2 := (ST1.keep b2).alloc (.cells #[.int .i64 0, .slice none 0 0] 26)
      clear ST1 b2 q1 y0 y1 hk0
      have HDV := Lib.hid (show ¬ dvOk n f g from fun h => HK1.out h.1)
      obtain ⟨d0, d1⟩ := (ST2.box 0 (w.heap.size + 1 + 1, [.int .i64 0, .slice none 0 0]) rfl).cell2
      have dz := (ST2.box 0 (w.heap.size + 1 + 1, [.int .i64 0, .slice none 0 0]) rfl).2.2
      have BB := ST2.1
      dsimp only at dz
      clear ST2
      go_wp2
      refine bodyPost_ret (v := failV 3) (by simp [results, Try.results194, go_sem, failV, d0, d1]) rfl ?_
      exact ⟨.inr (.inr ⟨HDV.out, rfl⟩), by go_grown⟩
end
end Go.Proofs.Ytloalhcloifgjaa
