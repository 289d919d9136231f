/- A polynomial times x less a root: listWithRoot of the program. -/
import Derived.Test.YtdalahgfpbdilaaPlz
import Derived.Deep.RegionLaw
namespace Go.Proofs.Ytdalahgfpbdilaa
open Go.RowKit Go.ChangeShapes Go.Sort
set_option linter.unusedVariables false
set_option linter.unusedSimpArgs false

set_option maxRecDepth 100000 in
set_option maxHeartbeats 4000000 in
theorem listWithRoot_any (n : Nat) (h1 : 1 ≤ n) (h2 : n ≤ 16) (m : Nat) (hm1 : 1 ≤ m) (hm : m ≤ 12) (w : World) {g cap : Nat} {vs : Nat → Value} {G : Nat → Nat → Int} {r : Nat → Int} (hC : CL w g m m n (phiN n) vs G [])
    (hr : Within r 12 12000000000) (hz : ∀ j, phiN n ≤ j → j < 12 → r j = 0) (hG : ∀ k, k < m → Within (G k) (phiN n) 1000000000) :
    Calls Try.prog 209 #[.int .i64 (n : Int), .slice (some ⟨g, 0, none⟩) m cap, arrV r] w fun e w' => ((stOk n G r m ∧ ∃ g' vs', e = .returned (.tuple #[.slice (some ⟨g', 0, none⟩) (m + 1) (m + 1), .int .i64 0]) ∧ CL w' g' (m + 1) (m + 1) n (phiN n) vs' (nxt n G r m) []) ∨ (¬ stOk n G r m ∧ e = .returned (.tuple #[.slice none 0 0, .int .i64 3]))) ∧ Below w.heap.size w w' := by
  have hp := phi_le12 n h2 h1
  have hp0 := phiN_pos n (by omega) h1
  have HT := Lib.hid (fun w => totient_below n w (by omega))
  have HGW := Lib.hid hG
  have HBW := Lib.hid (fun k (hk : k ≤ m) => bef_within (n := n) (m := m) hG hk)
  have HRW := Lib.hid hr
  have HRZ := Lib.hid hz
  have HCY := Lib.hid (fun (F : Nat → Int) (hF : Within F (phiN n) 1000000000) => (⟨by omega, by omega, rfl, hF⟩ : CyP n (phiN n) F))
  have hc0 := CL.more (b := w.heap.size) hC (Nat.le_refl _)
  have HC0 := Lib.hid (hC.alloc (.cells (arrC r) 101))
  have hgs := hC.1
  have SR := Lib.hid (Sl.arr w r 101 (fun j hj => by have := hr j hj; unfold inR; omega))
  clear hC hr hz hG hc0
  have hmk : ∀ w : World, (Instr.makeSlice 132 (.int .i64 ((m : Int) + 1)) (.int .i64 ((m : Int) + 1))).run Try.prog w = .ok (.slice (some ⟨w.heap.size, 0, none⟩) (m + 1) (m + 1)) (w.alloc (.cells (madeCells #[.int .i64 0, .slice none 0 0] ((m + 1) * 2)) 28)) := by
    intro w
    obtain ⟨i0, hi, hz0, hz1, hz2⟩ := info_parts Try.info28
    have h := run_make (P := Try.prog) w 132 28 i0 (.agg #[.int .i64 0, .slice none 0 0]) Try.underlying132 hi hz0 .i64 .i64 ((m : Int) + 1) ((m : Int) + 1) (by omega) (by omega) (by rw [hz2]; omega) (by omega)
    rw [hz1, show ((m : Int) + 1).toNat = m + 1 by omega] at h
    exact h
  have hmk2 := run_make_row' (P := Try.prog) 22 2 (.int .i64 0) 8 Try.underlying22 Try.info2 rfl .i64 .i64 (phiN n) (by omega) (by omega)
  unfold arrC at HC0 SR
  unfold arrV
  go_enter Try.func209, Try.ntmps209
  go_wp2_with (go_at_call 208; refine (HT.out _).mono ?_; rintro e w4 ⟨rfl, b4⟩)
  have hz4 := b4.size
  simp only [World.size_alloc] at hz4
  have cO := (((((HC0.out.more (b := w.heap.size + 1) (by simp)).alloc (.cells (madeCells #[.int .i64 0, .slice none 0 0] ((m + 1) * 2)) 28)).keep b4 (Nat.le_refl _)).alloc (.cells (madeCells #[.int .i64 0] (phiN n)) 2)).more (b := w4.heap.size + 1) (by simp)).alloc (.cells #[.int .i64 (n : Int), .slice (some ⟨w4.heap.size, 0, none⟩) (phiN n) (phiN n)] 28)
  have cN := ((((CL.made (w.alloc (.cells #[.int .i64 (r 0), .int .i64 (r 1), .int .i64 (r 2), .int .i64 (r 3), .int .i64 (r 4), .int .i64 (r 5), .int .i64 (r 6), .int .i64 (r 7), .int .i64 (r 8), .int .i64 (r 9), .int .i64 (r 10), .int .i64 (r 11)] 101)) 28 (m + 1) n (phiN n) vs (nxt n G r m) [w4.heap.size + 1, w.heap.size + 1])).keep b4 (Nat.le_refl _)).alloc (.cells (madeCells #[.int .i64 0] (phiN n)) 2)).alloc (.cells #[.int .i64 (n : Int), .slice (some ⟨w4.heap.size, 0, none⟩) (phiN n) (phiN n)] 28)
  simp only [World.size_alloc] at cN
  have stA := (((((St.start w).alloc (.cells #[.int .i64 (r 0), .int .i64 (r 1), .int .i64 (r 2), .int .i64 (r 3), .int .i64 (r 4), .int .i64 (r 5), .int .i64 (r 6), .int .i64 (r 7), .int .i64 (r 8), .int .i64 (r 9), .int .i64 (r 10), .int .i64 (r 11)] 101)).addSl ⟨true, w.heap.size, w.heap.size + 1, .slice (some ⟨w.heap.size, 0, none⟩) 12 12, 12, r⟩ SR.out).alloc (.cells (madeCells #[.int .i64 0, .slice none 0 0] ((m + 1) * 2)) 28)).keep b4).alloc (.cells (madeCells #[.int .i64 0] (phiN n)) 2)
  have sZ := ((Sl.made w4 (madeCells #[.int .i64 0] (phiN n)) 2 (phiN n) (phiN n) (fun _ => 0) (Nat.le_refl _) (by unfold maxLen; omega) (fun _ _ => by simp [inR]) (fun j hj => madeCells_at _ _ _ hj)).alloc (.cells #[.int .i64 (n : Int), .slice (some ⟨w4.heap.size, 0, none⟩) (phiN n) (phiN n)] 28)).rd
  have stB := stA.boxNew (.int .i64 (n : Int)) (.slice (some ⟨w4.heap.size, 0, none⟩) (phiN n) (phiN n)) 28
  simp only [World.size_alloc] at stB
  have CO := Lib.hid cO
  have CN := Lib.hid cN
  have SZ := Lib.hid sZ
  have SB := Lib.hid stB
  clear cO cN sZ stA stB b4 HC0 SR hmk hmk2 HT
  go_loopw [25] (fun s25 wr => ∃ (i : Nat) (vn : Nat → Value) (a9 : Option Addr) (k9 lo hi : Nat), i ≤ m ∧ s25 = .int .i64 (i : Int) ∧ CL wr g m m n (phiN n) vs G [w4.heap.size + 1, w.heap.size + 1] ∧ CL wr (w.heap.size + 1) i (m + 1) n (phiN n) vn (nxt n G r m) [w4.heap.size + 1, w.heap.size + 1] ∧
      (w4.heap.size + 1 < lo ∨ hi ≤ w4.heap.size + 1) ∧ (w.heap.size + 1 < lo ∨ hi ≤ w.heap.size + 1) ∧ Sl false wr lo hi (.slice a9 (phiN n) k9) (phiN n) (bef G i) ∧ (∀ k, k < i → nxOk n G r k) ∧
      St w wr [(w4.heap.size + 1, [.int .i64 (n : Int), .slice a9 (phiN n) k9])] [⟨true, w.heap.size, w.heap.size + 1, .slice (some ⟨w.heap.size, 0, none⟩) 12 12, 12, r⟩]) (fun s25 _ => m - (intOf s25).toNat)
  case atStart => exact ⟨0, vs, _, _, w4.heap.size, w4.heap.size + 1, Nat.zero_le _, rfl, CO.out, CN.out, .inr (Nat.le_refl _), .inl (by omega), SZ.out, fun k hk => absurd hk (Nat.not_lt_zero _), SB.out⟩
  case round =>
    clear CO CN SZ SB
    obtain ⟨i, vn, a9, k9, lo, hi, him, rfl, hco, hcn, hd9, hdn, hs9, hok, hst⟩ := hrel
    have CO := Lib.hid hco; clear hco
    have CN := Lib.hid hcn; clear hcn
    have S9 := Lib.hid hs9; clear hs9
    have HOK := Lib.hid hok; clear hok
    have HT := Lib.hid hst; clear hst
    obtain ⟨p0, p1⟩ := (HT.out.box 0 (w4.heap.size + 1, [.int .i64 (n : Int), .slice a9 (phiN n) k9]) rfl).cell2
    have pz := (HT.out.box 0 (w4.heap.size + 1, [.int .i64 (n : Int), .slice a9 (phiN n) k9]) rfl).2.2
    have pl := (HT.out.box 0 (w4.heap.size + 1, [.int .i64 (n : Int), .slice a9 (phiN n) k9]) rfl).1
    dsimp only at pz pl
    by_cases hlt : i < m
    · have hi2 : (i : Int) < (m : Int) := by omega
      have hi3 : (i : Int) < (m : Int) + 1 := by omega
      have e0 := CO.out.c0 hlt
      have e1 := CO.out.c1 hlt
      obtain ⟨l8, h8, hd8, q8⟩ := CO.out.2.2.2 i hlt
      obtain ⟨a8, k8, hv8⟩ := q8.shape
      rw [hv8] at e1 q8
      have HV8 := Lib.hid hv8
      clear hv8
      have qr := HT.out.sl 0 ⟨true, w.heap.size, w.heap.size + 1, .slice (some ⟨w.heap.size, 0, none⟩) 12 12, 12, r⟩ rfl
      dsimp only at qr
      have HZB := Lib.hid ((Box.made (wr.alloc (.cells #[.int .i64 (n : Int), .slice a8 (phiN n) k8] 28)) #[.int .i64 0, .slice none 0 0] 28 [.int .i64 0, .slice none 0 0] (fun j v h => by simpa using h)))
      by_cases hP : Within (prodZ n (phiN n) (G i) r) (phiN n) 1000000000
      · have HP := Lib.hid hP
        have HPW := Lib.hid (productWithin_ok n h1 h2 (wr.alloc (.cells #[.int .i64 (n : Int), .slice a8 (phiN n) k8] 28)).drew (q8.alloc (.cells #[.int .i64 (n : Int), .slice a8 (phiN n) k8] 28)).drew (qr.alloc (.cells #[.int .i64 (n : Int), .slice a8 (phiN n) k8] 28)).drew (Within.big (HGW.out i hlt)) HRW.out hp0 hp (Nat.le_refl _) HRZ.out hP)
        have HPA := Lib.hid (productWithin_ok n h1 h2 ((wr.alloc (.cells #[.int .i64 (n : Int), .slice a8 (phiN n) k8] 28)).alloc (.cells #[.int .i64 0, .slice none 0 0] 28)).drew ((q8.alloc (.cells #[.int .i64 (n : Int), .slice a8 (phiN n) k8] 28)).alloc (.cells #[.int .i64 0, .slice none 0 0] 28)).drew ((qr.alloc (.cells #[.int .i64 (n : Int), .slice a8 (phiN n) k8] 28)).alloc (.cells #[.int .i64 0, .slice none 0 0] 28)).drew (Within.big (HGW.out i hlt)) HRW.out hp0 hp (Nat.le_refl _) HRZ.out hP)
        have Q8 := Lib.hid q8
        clear hP qr q8
        go_wp2_with fail
        go_cut [12, 13] from 27 to 54 (fun s12 s13 wx => ∃ (b12 lo7 hi7 : Nat) (a7 : Option Addr) (k7 : Nat), s12 = .pointer (some ⟨b12, 0, none⟩) ∧ s13 = .int .i64 0 ∧ Below (wr.alloc (.cells #[.int .i64 (n : Int), .slice a8 (phiN n) k8] 28)).heap.size (wr.alloc (.cells #[.int .i64 (n : Int), .slice a8 (phiN n) k8] 28)) wx ∧ Box wx b12 [.int .i64 (n : Int), .slice a7 (phiN n) k7] ∧ Sl true wx lo7 hi7 (.slice a7 (phiN n) k7) (phiN n) (prodZ n (phiN n) (G i) r))
        case first =>
          have hbx := (HT.out.boxNew (.int .i64 (n : Int)) (.slice a8 (phiN n) k8) 28).box 0 _ rfl
          obtain ⟨x0, x1⟩ := hbx.cell2
          dsimp only at x0 x1
          go_region_law (first
            | (go_simp; go_at_call 141; refine HPW.out.mono ?_; rintro e w7 ⟨a7, k7, rfl, s7, b7⟩
               have s7' := s7.alloc (.cells #[.int .i64 (n : Int), .slice a7 (phiN n) k7] 28)
               have b7' := ((Below.refl (wr.alloc (.cells #[.int .i64 (n : Int), .slice a8 (phiN n) k8] 28)).heap.size (wr.alloc (.cells #[.int .i64 (n : Int), .slice a8 (phiN n) k8] 28))).drew.trans b7).alloc b7.size (.cells #[.int .i64 (n : Int), .slice a7 (phiN n) k7] 28))
            | (go_simp; go_at_call 141; refine HPA.out.mono ?_; rintro e w7 ⟨a7, k7, rfl, s7, b7⟩
               have b7' := (Below.refl ((wr.alloc (.cells #[.int .i64 (n : Int), .slice a8 (phiN n) k8] 28)).alloc (.cells #[.int .i64 0, .slice none 0 0] 28)).heap.size ((wr.alloc (.cells #[.int .i64 (n : Int), .slice a8 (phiN n) k8] 28)).alloc (.cells #[.int .i64 0, .slice none 0 0] 28))).drew.trans b7
               have bx7 := HZB.out.keep b7'
               simp only [World.size_alloc] at bx7
               obtain ⟨q0', q1'⟩ := bx7.cell2
               have qz' := bx7.2.2
               skip))
          all_goals
            go_wp2_with fail
            go_meet
            first
              | exact ⟨w7.heap.size, _, _, a7, k7, rfl, rfl, b7', Box.made2 rfl, s7'⟩
              | exact ⟨_, _, _, a7, k7, rfl, rfl, (((((Below.refl (wr.alloc (.cells #[.int .i64 (n : Int), .slice a8 (phiN n) k8] 28)).heap.size (wr.alloc (.cells #[.int .i64 (n : Int), .slice a8 (phiN n) k8] 28))).alloc (Nat.le_refl _) (.cells #[.int .i64 0, .slice none 0 0] 28)).trans (b7'.mono (by simp))).setCell (p := ⟨wr.heap.size + 1, 0, none⟩) (by simp) _).setCell (p := ⟨wr.heap.size + 1, 1, none⟩) (by simp) _), bx7.set2, (s7.setOther (.inl (by simp)) _).setOther (.inl (by simp)) _⟩
        case rest =>
          obtain ⟨b12, lo7, hi7, a7, k7, rfl, rfl, bel, bx, s7⟩ := hcut
          have hzc := bel.size
          simp only [World.size_alloc] at hzc
          have co := (CO.out.alloc (.cells #[.int .i64 (n : Int), .slice a8 (phiN n) k8] 28)).keep bel (Nat.le_refl _)
          have cn := (CN.out.alloc (.cells #[.int .i64 (n : Int), .slice a8 (phiN n) k8] 28)).keep bel (Nat.le_refl _)
          have s9 := (S9.out.alloc (.cells #[.int .i64 (n : Int), .slice a8 (phiN n) k8] 28)).keep bel (by have := S9.out.size; simp only [World.size_alloc]; omega)
          have s8 := (Q8.out.alloc (.cells #[.int .i64 (n : Int), .slice a8 (phiN n) k8] 28)).keep bel (by have := Q8.out.size; simp only [World.size_alloc]; omega)
          have st := (HT.out.boxNew (.int .i64 (n : Int)) (.slice a8 (phiN n) k8) 28).keep bel
          obtain ⟨x0, x1⟩ := (st.box 0 _ rfl).cell2
          obtain ⟨y0, y1⟩ := (st.box 1 _ rfl).cell2
          obtain ⟨t0, t1⟩ := bx.cell2
          dsimp only at x0 x1 y0 y1
          have CO1 := Lib.hid co
          have CN1 := Lib.hid cn
          have S91 := Lib.hid s9
          have S81 := Lib.hid s8
          have ST1 := Lib.hid st
          have S7 := Lib.hid s7
          clear co cn s9 s8 st bx s7 bel HPW HPA CO CN S9 HT Q8 HZB e0 e1 p0 p1 pz
          by_cases hS : Within (addF (-1) (bef G i) (prodZ n (phiN n) (G i) r)) (phiN n) 1000000000
          · have HAD := Lib.hid (AddCyclos_impl_ok n (-1) wc S91.out S7.out (HCY.out _ (HBW.out i him)) (HCY.out _ HP.out) (by omega) (by omega) hS)
            have HN := Lib.hid (show ∀ k, k < i + 1 → nxOk n G r k from fun k hk => by
              rcases Nat.lt_succ_iff_lt_or_eq.1 hk with h1 | rfl
              · exact HOK.out k h1
              · exact ⟨HP.out, hS⟩)
            clear hS
            go_wp2_with fail
            refine HAD.out.mono ?_
            rintro e w8 ⟨aw, kw, rfl, sw, b8⟩
            have hz8 := b8.size
            have co := CO1.out.keep b8 (Nat.le_refl _)
            have cn := CN1.out.keep b8 (Nat.le_refl _)
            have s8 := S81.out.keep b8 S81.out.size
            have st := ST1.out.keep b8
            have z0 := cn.z0 (by omega)
            have z1 := cn.z1 (by omega)
            have zf := cn.2.1
            obtain ⟨x2, x3⟩ := (st.box 0 _ rfl).cell2
            obtain ⟨y2, y3⟩ := (st.box 1 _ rfl).cell2
            have yz := (st.box 1 _ rfl).2.2
            dsimp only at x2 x3 y2 y3 yz
            have hdA : ∀ b ∈ [w4.heap.size + 1, w.heap.size + 1], b < wc.heap.size ∨ w8.heap.size ≤ b := by intro b hb; simp only [List.mem_cons, List.not_mem_nil, or_false] at hb; rcases hb with rfl | rfl <;> omega
            have hA9 := hd8 (w4.heap.size + 1) (by simp)
            have hAN := hd8 (w.heap.size + 1) (by simp)
            have PN := Lib.hid (((cn.push (u := .slice aw (phiN n) kw) (by simp) (by omega) (show Sl false w8 _ _ _ _ (nxt n G r m i) from by unfold nxt; rw [if_pos hlt]; exact sw.rd) hdA).setOther (b := w4.heap.size + 1) (o := 0) (by simp) (by omega) (.int .i64 (n : Int))).setOther (b := w4.heap.size + 1) (o := 1) (by simp) (by omega) (.slice a8 (phiN n) k8))
            have CO2 := Lib.hid ((((co.setOther (b := w.heap.size + 1) (o := i * 2) (by simp) (by omega) (.int .i64 (n : Int))).setOther (b := w.heap.size + 1) (o := i * 2 + 1) (by simp) (by omega) (.slice aw (phiN n) kw)).setOther (b := w4.heap.size + 1) (o := 0) (by simp) (by omega) (.int .i64 (n : Int))).setOther (b := w4.heap.size + 1) (o := 1) (by simp) (by omega) (.slice a8 (phiN n) k8))
            have S82 := Lib.hid (show Sl false _ l8 h8 (.slice a8 (phiN n) k8) (phiN n) (bef G (i + 1)) from by
              have q := (((s8.setOther (p := ⟨w.heap.size + 1, i * 2, none⟩) hAN (.int .i64 (n : Int))).setOther (p := ⟨w.heap.size + 1, i * 2 + 1, none⟩) hAN (.slice aw (phiN n) kw)).setOther (p := ⟨w4.heap.size + 1, 0, none⟩) hA9 (.int .i64 (n : Int))).setOther (p := ⟨w4.heap.size + 1, 1, none⟩) hA9 (.slice a8 (phiN n) k8)
              unfold bef
              rw [if_neg (Nat.succ_ne_zero _), Nat.add_sub_cancel]
              exact q)
            have ST2 := Lib.hid ((st.tailB.set2 (b := w.heap.size + 1) (i := i * 2) (j := i * 2 + 1) (u := .int .i64 (n : Int)) (v := .slice aw (phiN n) kw) (by omega) (by intro b hb; simp only [List.mem_cons, List.not_mem_nil, or_false] at hb; rcases hb with rfl <;> dsimp only <;> omega) (by intro s hs'; simp only [List.mem_cons, List.not_mem_nil, or_false] at hs'; rcases hs' with rfl <;> dsimp only <;> omega)).boxSet (u0 := .int .i64 (n : Int)) (u1 := .slice a8 (phiN n) k8) (by omega) (by intro b hb; cases hb) (by intro s hs'; simp only [List.mem_cons, List.not_mem_nil, or_false] at hs'; rcases hs' with rfl <;> dsimp only <;> omega))
            clear co cn s8 st CO1 CN1 S81 S91 ST1 S7 sw b8 HAD x0 x1 y0 y1 t0 t1
            go_wp2_with fail
            go_roundw
            case rel => exact ⟨i + 1, _, a8, k8, l8, h8, by omega, by go_num, CO2.out, PN.out, hA9, hAN, S82.out, HN.out, ST2.out⟩
            case measure => simp [intOf] <;> omega
          · have HAD := Lib.hid (AddCyclos_impl_big n (-1) wc S91.out S7.out (HCY.out _ (HBW.out i him)) (HCY.out _ HP.out) (by omega) (by omega) hS)
            have HN := Lib.hid (show ¬ stOk n G r m from fun h => hS (h i hlt).2)
            clear hS
            go_wp2_with fail
            refine HAD.out.mono ?_
            rintro e w8 ⟨rfl, b8⟩
            unfold failV
            have z0 := (CN1.out.z0 (by omega)).symm.trans (b8.cell (p := ⟨w.heap.size + 1, i * 2, none⟩) (by show w.heap.size + 1 < wc.heap.size; omega)).symm |>.symm
            have z1 := (CN1.out.z1 (by omega)).symm.trans (b8.cell (p := ⟨w.heap.size + 1, i * 2 + 1, none⟩) (by show w.heap.size + 1 < wc.heap.size; omega)).symm |>.symm
            have zf := ((CN1.out.keep b8 (Nat.le_refl _))).2.1
            have BB := (ST1.out.keep b8).1
            clear b8 ST1
            go_wp2_with fail
            go_ret2
            exact ⟨.inr ⟨HN.out, rfl⟩, by go_grown⟩
      · have HN := Lib.hid (show ¬ stOk n G r m from fun h => hP (h i hlt).1)
        have HPW := Lib.hid (productWithin_big n h1 h2 (wr.alloc (.cells #[.int .i64 (n : Int), .slice a8 (phiN n) k8] 28)).drew (q8.alloc (.cells #[.int .i64 (n : Int), .slice a8 (phiN n) k8] 28)).drew (qr.alloc (.cells #[.int .i64 (n : Int), .slice a8 (phiN n) k8] 28)).drew (Within.big (HGW.out i hlt)) HRW.out hp0 hp (Nat.le_refl _) HRZ.out hP)
        have HPA := Lib.hid (productWithin_big n h1 h2 ((wr.alloc (.cells #[.int .i64 (n : Int), .slice a8 (phiN n) k8] 28)).alloc (.cells #[.int .i64 0, .slice none 0 0] 28)).drew ((q8.alloc (.cells #[.int .i64 (n : Int), .slice a8 (phiN n) k8] 28)).alloc (.cells #[.int .i64 0, .slice none 0 0] 28)).drew ((qr.alloc (.cells #[.int .i64 (n : Int), .slice a8 (phiN n) k8] 28)).alloc (.cells #[.int .i64 0, .slice none 0 0] 28)).drew (Within.big (HGW.out i hlt)) HRW.out hp0 hp (Nat.le_refl _) HRZ.out hP)
        clear hP qr q8
        go_wp2_with fail
        go_cut [12, 13] from 27 to 54 (fun s12 s13 wx => ∃ (b12 : Nat), s12 = .pointer (some ⟨b12, 0, none⟩) ∧ s13 = .int .i64 3 ∧ Below w.heap.size w wx)
        case first =>
          have hbx := (HT.out.boxNew (.int .i64 (n : Int)) (.slice a8 (phiN n) k8) 28).box 0 _ rfl
          have BB := (HT.out.alloc (.cells #[.int .i64 (n : Int), .slice a8 (phiN n) k8] 28)).1
          obtain ⟨x0, x1⟩ := hbx.cell2
          dsimp only at x0 x1
          go_region_law (first
            | (go_simp; go_at_call 141; refine HPW.out.mono ?_; rintro e w7 ⟨rfl, b7⟩
               unfold failV
               have b7' := ((Below.refl (wr.alloc (.cells #[.int .i64 (n : Int), .slice a8 (phiN n) k8] 28)).heap.size (wr.alloc (.cells #[.int .i64 (n : Int), .slice a8 (phiN n) k8] 28))).drew.trans b7).alloc b7.size (.cells #[.int .i64 0, .slice none 0 0] 28))
            | (go_simp; go_at_call 141; refine HPA.out.mono ?_; rintro e w7 ⟨rfl, b7⟩
               unfold failV
               have b7' := (Below.refl ((wr.alloc (.cells #[.int .i64 (n : Int), .slice a8 (phiN n) k8] 28)).alloc (.cells #[.int .i64 0, .slice none 0 0] 28)).heap.size ((wr.alloc (.cells #[.int .i64 (n : Int), .slice a8 (phiN n) k8] 28)).alloc (.cells #[.int .i64 0, .slice none 0 0] 28))).drew.trans b7
               have bx7 := HZB.out.keep b7'
               simp only [World.size_alloc] at bx7
               obtain ⟨q0', q1'⟩ := bx7.cell2
               have qz' := bx7.2.2
               skip))
          all_goals
            go_wp2_with fail
            go_meet
            first
              | exact ⟨w7.heap.size, rfl, rfl, BB.trans (b7'.mono BB.size)⟩
              | exact ⟨_, rfl, rfl, BB.trans ((((((Below.refl (wr.alloc (.cells #[.int .i64 (n : Int), .slice a8 (phiN n) k8] 28)).heap.size (wr.alloc (.cells #[.int .i64 (n : Int), .slice a8 (phiN n) k8] 28))).alloc (Nat.le_refl _) (.cells #[.int .i64 0, .slice none 0 0] 28)).trans (b7'.mono (by simp))).setCell (p := ⟨wr.heap.size + 1, 0, none⟩) (by simp) _).setCell (p := ⟨wr.heap.size + 1, 1, none⟩) (by simp) _).mono BB.size)⟩
        case rest =>
          obtain ⟨b12, rfl, rfl, bel⟩ := hcut
          clear HPW HPA CO CN S9 HT HZB e0 e1 p0 p1 pz
          go_wp2_with fail
          go_ret2
          exact ⟨.inr ⟨HN.out, rfl⟩, bel⟩
    · obtain rfl : i = m := by omega
      have z0 := CN.out.z0 (Nat.lt_succ_self _)
      have z1 := CN.out.z1 (Nat.lt_succ_self _)
      have zf := CN.out.2.1
      have PN := Lib.hid (CN.out.push (u := .slice a9 (phiN n) k9) (by simp) (Nat.lt_succ_self _) (show Sl false wr lo hi _ _ (nxt n G r i i) from by unfold nxt; rw [if_neg (Nat.lt_irrefl _)]; exact S9.out) (by intro b hb; simp only [List.mem_cons, List.not_mem_nil, or_false] at hb; rcases hb with rfl | rfl <;> omega))
      have BB := (HT.out.1.setCell (p := ⟨w.heap.size + 1, i * 2, none⟩) (by show w.heap.size ≤ w.heap.size + 1; omega) (.int .i64 (n : Int))).setCell (p := ⟨w.heap.size + 1, i * 2 + 1, none⟩) (by show w.heap.size ≤ w.heap.size + 1; omega) (.slice a9 (phiN n) k9)
      clear HT CN
      go_wp2_with fail
      go_ret2
      exact ⟨.inl ⟨HOK.out, _, rfl, _, PN.out.less⟩, BB⟩
end Go.Proofs.Ytdalahgfpbdilaa
