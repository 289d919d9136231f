/- The halves of the program's products: joinHalves, halvesOf, productParts. -/
import Derived.Test.YtnhpodlcgkgpbaaConv
import Derived.Test.YtnhpodlcgkgpbaaImg
namespace Go.Proofs.Ytnhpodlcgkgpbaa
open Go.RowKit Go.ChangeShapes Go.Sort
set_option linter.unusedVariables false
set_option linter.unusedSimpArgs false

set_option maxRecDepth 100000 in
theorem joinHalves_any (h l : Int) (w : World) (hh1 : -3000000000000000000 ≤ h) (hh2 : h ≤ 3000000000000000000) (hl1 : -3000000000000000000 ≤ l) (hl2 : l ≤ 3000000000000000000) :
    Calls Try.prog 206 #[.int .i64 h, .int .i64 l] w fun e w' => e = .returned (.int .i64 (joinZ h l)) ∧ w = w' := by
  obtain ⟨he, h1, h2⟩ := tdm l 32768 (by omega)
  by_cases hw : -1000000000 ≤ h + l.tdiv 32768 ∧ h + l.tdiv 32768 ≤ 1000000000
  · have HJ := Lib.hid (show joinZ h l = (h + l.tdiv 32768) * 32768 + l.tmod 32768 from if_pos hw)
    obtain ⟨hw1, hw2⟩ := hw
    go_enter Try.func206, Try.ntmps206
    go_wp2_with (go_at_call 107; refine (isWithin_yes _ _ _ (by omega) (by omega) (by omega) (by omega)).mono ?_; rintro e w' ⟨rfl, rfl⟩)
    go_ret
    exact ⟨by rw [HJ.out]; rfl, rfl⟩
  · have HJ := Lib.hid (show joinZ h l = 1000000001 from if_neg hw)
    have HK := Lib.hid (show h + l.tdiv 32768 < -1000000000 ∨ 1000000000 < h + l.tdiv 32768 by omega)
    clear hw
    go_enter Try.func206, Try.ntmps206
    go_wp2_with (go_at_call 107; refine (isWithin_no _ _ _ (by omega) (by omega) HK.out).mono ?_; rintro e w' ⟨rfl, rfl⟩)
    go_ret
    exact ⟨by rw [HJ.out]; rfl, rfl⟩

section
variable {o o' : Bool} {lo hi lo' hi' L : Nat} {v v' : Value} {f g : Nat → Int}
/-- The first q numbers, and zeros behind them. -/
def part1 (f : Nat → Int) (q : Nat) : Nat → Int := fun j => if j < q then f j else 0
theorem part1_succ (f : Nat → Int) (q : Nat) : part1 f (q + 1) = fun j => if j = q then f q else part1 f q j := by
  funext j; unfold part1
  by_cases e : j = q
  · subst e; simp
  · rw [if_neg e]
    by_cases e2 : j < q
    · rw [if_pos e2, if_pos (by omega)]
    · rw [if_neg e2, if_neg (by omega)]
set_option maxRecDepth 100000 in
set_option maxHeartbeats 1000000 in
theorem halvesOf_any (w : World) (hs : Sl o w lo hi v L g) (hg : Within g L 12000000000) (h0 : 0 < L) (hL : L ≤ 12) :
    Calls Try.prog 204 #[v] w fun e w' => ∃ k1 k2, e = .returned (.tuple #[.slice (some ⟨w.heap.size, 0, none⟩) L k1, .slice (some ⟨w.heap.size + 1, 0, none⟩) L k2]) ∧
      Sl true w' w.heap.size (w.heap.size + 1) (.slice (some ⟨w.heap.size, 0, none⟩) L k1) L (hiH g) ∧ Sl true w' (w.heap.size + 1) (w.heap.size + 2) (.slice (some ⟨w.heap.size + 1, 0, none⟩) L k2) L (loH g) ∧ Below w.heap.size w w' := by
  obtain ⟨a, cap, rfl⟩ := hs.shape
  have hhs := hs.size
  have HB := Lib.hid (halves_bd hg)
  have HG := Lib.hid hg
  clear hg
  have m1 := Sl.made w (madeCells #[.int .i64 0] L) 2 L L (part1 (hiH g) 0) (Nat.le_refl _) (by unfold maxLen; omega) (fun _ _ => by simp [part1, inR]) (fun j hj => madeCells_at _ _ _ hj)
  have m2 := Sl.made (w.alloc (.cells (madeCells #[.int .i64 0] L) 2)) (madeCells #[.int .i64 0] L) 2 L L (part1 (loH g) 0) (Nat.le_refl _) (by unfold maxLen; omega) (fun _ _ => by simp [part1, inR]) (fun j hj => madeCells_at _ _ _ hj)
  have st0 := (((St.start w).addSl ⟨o, lo, hi, .slice a L cap, L, g⟩ hs).alloc (.cells (madeCells #[.int .i64 0] L) 2)).alloc (.cells (madeCells #[.int .i64 0] L) 2)
  replace m1 := m1.alloc (.cells (madeCells #[.int .i64 0] L) 2)
  simp only [World.size_alloc] at m2
  have M1 := Lib.hid m1
  have M2 := Lib.hid m2
  have ST := Lib.hid st0
  clear m1 m2 st0 hs
  have hmk := run_make_row' (P := Try.prog) 22 2 (.int .i64 0) 8 Try.underlying22 Try.info2 rfl .i64 .i64 L (by omega) (by omega)
  go_enter Try.func204, Try.ntmps204
  go_wp2
  clear hmk
  go_loopw [16] (fun s16 wr => ∃ q : Nat, q ≤ L ∧ s16 = .int .i64 q ∧ Sl true wr w.heap.size (w.heap.size + 1) (.slice (some ⟨w.heap.size, 0, none⟩) L L) L (part1 (hiH g) q) ∧ Sl true wr (w.heap.size + 1) (w.heap.size + 2) (.slice (some ⟨w.heap.size + 1, 0, none⟩) L L) L (part1 (loH g) q) ∧
      St w wr [] [⟨o, lo, hi, .slice a L cap, L, g⟩]) (fun s16 _ => L - (intOf s16).toNat)
  case atStart => exact ⟨0, Nat.zero_le _, rfl, M1.out, M2.out, ST.out⟩
  case round =>
    clear M1 M2 ST
    obtain ⟨q, hq, rfl, ho1, ho2, hst⟩ := hrel
    have O1 := Lib.hid ho1; clear ho1
    have O2 := Lib.hid ho2; clear ho2
    have HT := Lib.hid hst; clear hst
    have hz1 := O1.out.size
    have hz2 := O2.out.size
    by_cases hlt : q < L
    · have qa := HT.out.sl 0 ⟨o, lo, hi, .slice a L cap, L, g⟩ rfl
      dsimp only at qa
      obtain ⟨b, off, c1, hv, _, _, _, _, hc, _⟩ := qa.at (by omega)
      obtain ⟨rfl, rfl⟩ : a = some ⟨b, off, none⟩ ∧ cap = c1 := by cases hv; exact ⟨rfl, rfl⟩
      have hck := hc q hlt
      obtain ⟨hg1, hg2⟩ := HG.out q hlt
      clear hv hc qa
      obtain ⟨he, hr1, hr2⟩ := tdm (g q) 32768 (by omega)
      have W1 := Lib.hid (part1_succ (hiH g) q)
      have W2 := Lib.hid (part1_succ (loH g) q)
      have k1 := (O1.out.known (by omega)).2.2.2.1 q (by omega)
      have z1 := (O1.out.known (by omega)).2.2.2.2 rfl q
      have k2 := (O2.out.known (by omega)).2.2.2.1 q (by omega)
      have z2 := (O2.out.known (by omega)).2.2.2.2 rfl q
      rw [Nat.zero_add] at k1 k2
      go_wp2
      go_roundw
      case rel =>
        refine ⟨q + 1, by omega, by go_num, ?_, ?_, ?_⟩
        · rw [W1.out]
          refine (((O1.out.store0 (i := q) (x := hiH g q) (by omega) (by unfold hiH inR; omega))).setOther (.inr (Nat.le_refl _)) _).congr (fun j hj => ?_)
          by_cases e : j = q
          · subst e; simp
          · simp [e]
        · rw [W2.out]
          refine ((O2.out.setOther (.inl (Nat.lt_succ_self _)) _).store0 (i := q) (x := loH g q) (by omega) (by unfold loH inR; omega)).congr (fun j hj => ?_)
          by_cases e : j = q
          · subst e; simp
          · simp [e]
        · exact HT.out.write (lo := w.heap.size) (hi := w.heap.size + 2) (((Frame.refl w.heap.size (w.heap.size + 2) wr).setCell (Nat.le_refl _) (by show w.heap.size < _; omega) _).setCell (by show w.heap.size ≤ w.heap.size + 1; omega) (by show w.heap.size + 1 < _; omega) _) (by omega) (by intro b hb; cases hb) (by intro s hs'; simp only [List.mem_cons, List.not_mem_nil, or_false] at hs'; rcases hs' with rfl <;> dsimp only <;> omega)
      case measure => simp [intOf] <;> omega
    · obtain rfl : q = L := by omega
      go_wp2
      refine bodyPost_ret (v := .tuple #[.slice (some ⟨w.heap.size, 0, none⟩) q q, .slice (some ⟨w.heap.size + 1, 0, none⟩) q q]) (by simp [results, Try.results204, go_sem]) rfl ?_
      exact ⟨q, q, rfl, O1.out.congr (fun j hj => by unfold part1; rw [if_pos hj]), O2.out.congr (fun j hj => by unfold part1; rw [if_pos hj]), HT.out.1⟩

theorem convZ_zeros {f g : Nat → Int} {L M : Nat} (hLM : L ≤ M) (hz : ∀ j, L ≤ j → j < M → g j = 0) : ∀ i, convZ f g M i = convZ f g L i
  | 0 => rfl
  | i + 1 => by
    show addRow (f i) g i M (convZ f g M i) = addRow (f i) g i L (convZ f g L i)
    rw [convZ_zeros hLM hz i]
    funext j
    unfold addRow
    by_cases h : i ≤ j ∧ j < i + L
    · rw [if_pos h, if_pos (by omega)]
    · rw [if_neg h]
      by_cases h2 : i ≤ j ∧ j < i + M
      · rw [if_pos h2, hz (j - i) (by omega) (by omega), Int.mul_zero, Int.add_zero]
      · rw [if_neg h2]

set_option maxRecDepth 100000 in
set_option maxHeartbeats 1000000 in
theorem productParts_any (n : Nat) (h1 : 1 ≤ n) (h2 : n ≤ 16) (w : World) (hs : Sl o w lo hi v L f) {M : Nat} (ht : Sl o' w lo' hi' v' M g) (hf : Within f L 12000000000) (hg : ∀ j, j < M → -400000 ≤ g j ∧ g j ≤ 400000) (hLM : L ≤ M) (hM : M ≤ 12) (hz : ∀ j, L ≤ j → j < M → g j = 0) :
    Calls Try.prog 205 #[.int .i64 (n : Int), v, v'] w fun e w' => e = .returned (arrV (cut (phiN n) (prodZ n L f g))) ∧ Below w.heap.size w w' := by
  obtain ⟨a, cap, rfl⟩ := hs.shape
  obtain ⟨a', cap', rfl⟩ := ht.shape
  have hhs := hs.size
  have hht := ht.size
  have hL : L ≤ 12 := by omega
  have hCZ := convZ_zeros (f := f) hLM hz
  have HRED := Lib.hid (show cut (phiN n) (redP n (convZ f g M L)) = cut (phiN n) (prodZ n L f g) from by
    funext j
    unfold cut
    by_cases e : j < phiN n
    · rw [if_pos e, if_pos e, hCZ]; exact redP_conv (by omega) h1 hf (fun j hj => hg j (by omega)) hL e
    · rw [if_neg e, if_neg e])
  have HCB := Lib.hid (fun i (hi : i ≤ L) j => (by rw [hCZ i]; exact convZ_bd12 (by omega : (0 : Int) ≤ 400000) hf (fun j hj => hg j (by omega)) hL i hi j : -(12 * (12000000000 * 400000)) ≤ convZ f g M i j ∧ convZ f g M i j ≤ 12 * (12000000000 * 400000)))
  have HG := Lib.hid hg
  have HF := Lib.hid hf
  clear hf hg hz hCZ
  have st0 := (((((St.start w).addSl ⟨o, lo, hi, .slice a L cap, L, f⟩ hs).addSl ⟨o', lo', hi', .slice a' M cap', M, g⟩ ht).alloc (.cells (arrC (fun _ => 0)) 136)).addBox w.heap.size [.int .i64 0, .int .i64 0, .int .i64 0, .int .i64 0, .int .i64 0, .int .i64 0, .int .i64 0, .int .i64 0, .int .i64 0, .int .i64 0, .int .i64 0, .int .i64 0] (Box.made _ _ _ _ (fun j v h => by simpa [arrC] using h))).alloc (.cells (madeCells #[.int .i64 0] 24) 2)
  have hs24 := Sl.made24 (w.alloc (.cells (arrC (fun _ => 0)) 136))
  simp only [World.size_alloc] at hs24
  have HS24 := Lib.hid hs24
  have HST0 := Lib.hid st0
  clear hs24 st0 hs ht
  unfold arrC at HS24 HST0
  have hmk := make24
  go_enter Try.func205, Try.ntmps205
  go_wp2
  clear hmk
  go_loopw [15] (fun s15 wr => ∃ i : Nat, i ≤ L ∧ s15 = .int .i64 i ∧ Sl true wr (w.heap.size + 1) (w.heap.size + 2) (.slice (some ⟨w.heap.size + 1, 0, none⟩) 24 24) 24 (convZ f g M i) ∧
      St w wr [(w.heap.size, [.int .i64 0, .int .i64 0, .int .i64 0, .int .i64 0, .int .i64 0, .int .i64 0, .int .i64 0, .int .i64 0, .int .i64 0, .int .i64 0, .int .i64 0, .int .i64 0])] [⟨o', lo', hi', .slice a' M cap', M, g⟩, ⟨o, lo, hi, .slice a L cap, L, f⟩]) (fun s15 _ => L - (intOf s15).toNat)
  case atStart => exact ⟨0, Nat.zero_le _, rfl, HS24.out, HST0.out⟩
  case round =>
    clear HS24 HST0
    obtain ⟨i, hiL, rfl, hown, hst⟩ := hrel
    have HO0 := Lib.hid hown; clear hown
    have HT0 := Lib.hid hst; clear hst
    by_cases hlt : i < L
    · have qa := HT0.out.sl 1 ⟨o, lo, hi, .slice a L cap, L, f⟩ rfl
      dsimp only at qa
      obtain ⟨b, off, c1, hv, _, _, _, _, hc, _⟩ := qa.at (by omega)
      obtain ⟨rfl, rfl⟩ : a = some ⟨b, off, none⟩ ∧ cap = c1 := by cases hv; exact ⟨rfl, rfl⟩
      have hck := hc i hlt
      clear hv hc qa
      obtain ⟨hf1, hf2⟩ := HF.out i hlt
      obtain ⟨wi, hwi⟩ : ∃ x : World, x = wr := ⟨_, rfl⟩
      subst hwi
      go_wp2
      clear hck
      go_loopw [22] (fun s22 wr => ∃ m : Nat, m ≤ M ∧ s22 = .int .i64 m ∧ Sl true wr (w.heap.size + 1) (w.heap.size + 2) (.slice (some ⟨w.heap.size + 1, 0, none⟩) 24 24) 24 (addRow (f i) g i m (convZ f g M i)) ∧
          St w wr [(w.heap.size, [.int .i64 0, .int .i64 0, .int .i64 0, .int .i64 0, .int .i64 0, .int .i64 0, .int .i64 0, .int .i64 0, .int .i64 0, .int .i64 0, .int .i64 0, .int .i64 0])] [⟨o', lo', hi', .slice a' M cap', M, g⟩, ⟨o, lo, hi, .slice (some ⟨b, off, none⟩) L cap, L, f⟩]) (fun s22 _ => M - (intOf s22).toNat)
      case atStart => exact ⟨0, Nat.zero_le _, rfl, by rw [addRow_zero]; exact HO0.out, HT0.out⟩
      case round =>
        clear HO0 HT0
        obtain ⟨m, hm, rfl, hown, hst⟩ := hrel
        have HO := Lib.hid hown; clear hown
        have HT := Lib.hid hst; clear hst
        by_cases hlt2 : m < M
        · have qb := HT.out.sl 0 ⟨o', lo', hi', .slice a' M cap', M, g⟩ rfl
          dsimp only at qb
          obtain ⟨b', off', c2, hv2, _, _, _, _, hc2, _⟩ := qb.at (by omega)
          obtain ⟨rfl, rfl⟩ : a' = some ⟨b', off', none⟩ ∧ cap' = c2 := by cases hv2; exact ⟨rfl, rfl⟩
          have hck2 := hc2 m hlt2
          clear hv2 hc2 qb
          obtain ⟨hg1, hg2⟩ := HG.out m hlt2
          obtain ⟨hp1, hp2⟩ := mul_abs (B := 400000) (by omega) hf1 hf2 hg1 hg2
          obtain ⟨hu1, hu2⟩ := HCB.out i hiL (i + m)
          have HW := Lib.hid (addRow_succ (f i) g i m (convZ f g M i))
          have hck3 := (HO.out.known (by omega)).2.2.2.1 (i + m) (by omega)
          have hfr := (HO.out.known (by omega)).2.2.2.2 rfl (i + m)
          rw [Nat.zero_add, addRow_at] at hck3
          go_wp2
          go_roundw
          case rel =>
            refine ⟨m + 1, by omega, by go_num, ?_, ?_⟩
            · rw [HW.out]
              refine (HO.out.store0 (i := i + m) (by omega) (by unfold inR; omega)).congr (fun j hj => ?_)
              by_cases e : j = i + m
              · subst e; simp
              · simp [e]
            · exact HT.out.write (lo := w.heap.size + 1) (hi := w.heap.size + 2) ((Frame.refl (w.heap.size + 1) (w.heap.size + 2) wr).setCell (Nat.le_refl _) (Nat.lt_succ_self _) _) (by omega) (by intro b hb; simp only [List.mem_cons, List.not_mem_nil, or_false] at hb; rcases hb with rfl <;> dsimp only <;> omega) (by intro s hs'; simp only [List.mem_cons, List.not_mem_nil, or_false] at hs'; rcases hs' with rfl | rfl <;> dsimp only <;> omega)
          case measure => simp [intOf] <;> omega
        · obtain rfl : m = M := by omega
          go_wp2
          go_roundw
          case rel => exact ⟨i + 1, by omega, by go_num, HO.out, HT.out⟩
          case measure => simp [intOf] <;> omega
    · obtain rfl : i = L := by omega
      go_wp2_with fail
      refine (reducedParts_any n h1 h2 _ HO0.out).mono ?_
      rintro e w2 ⟨rfl, f2⟩
      have st2 := HT0.out.write f2 (by omega) (by intro b hb; simp only [List.mem_cons, List.not_mem_nil, or_false] at hb; rcases hb with rfl <;> dsimp only <;> omega) (by intro s hs'; simp only [List.mem_cons, List.not_mem_nil, or_false] at hs'; rcases hs' with rfl | rfl <;> dsimp only <;> omega)
      have bx := st2.box 0 _ rfl
      have B2 := st2.1
      dsimp only at bx
      have e0 := bx.2.1 0 _ rfl
      have e1 := bx.2.1 1 _ rfl
      have e2 := bx.2.1 2 _ rfl
      have e3 := bx.2.1 3 _ rfl
      have e4 := bx.2.1 4 _ rfl
      have e5 := bx.2.1 5 _ rfl
      have e6 := bx.2.1 6 _ rfl
      have e7 := bx.2.1 7 _ rfl
      have e8 := bx.2.1 8 _ rfl
      have e9 := bx.2.1 9 _ rfl
      have e10 := bx.2.1 10 _ rfl
      have e11 := bx.2.1 11 _ rfl
      have hfz := bx.2.2
      have hlz := bx.1
      clear st2 f2 bx
      rw [HRED.out]
      generalize hcc : cut (phiN n) (prodZ n i f g) = cc
      have HCC := Lib.hid hcc
      clear hcc
      unfold arrV
      go_wp2
      refine bodyPost_ret (v := arrV cc) (by simp [results, Try.results205, go_sem, arrV, e0, e1, e2, e3, e4, e5, e6, e7, e8, e9, e10, e11]) rfl ?_
      exact ⟨by rw [HCC.out], by go_grown⟩
end
end Go.Proofs.Ytnhpodlcgkgpbaa
