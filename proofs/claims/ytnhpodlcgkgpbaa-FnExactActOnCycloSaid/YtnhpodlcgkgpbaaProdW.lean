/- productWithin of the program: the product of two numbers, those of the second one as great as an image's. -/
import Derived.Test.YtnhpodlcgkgpbaaMulImpl
import Derived.Test.YtnhpodlcgkgpbaaPlus
namespace Go.Proofs.Ytnhpodlcgkgpbaa
open Go.RowKit Go.ChangeShapes Go.Sort
set_option linter.unusedVariables false
set_option linter.unusedSimpArgs false

theorem cell_set1 {w : World} {b g i k : Nat} {u x : Value} (h : w.cell? ⟨g, k, none⟩ = some x) (hb : g ≠ b) : (w.setCell ⟨b, i, none⟩ u).cell? ⟨g, k, none⟩ = some x :=
  (World.cell?_setCell_other _ _ _ _ (fun e => hb (by injection e with e1; exact e1.symm))).trans h

section
variable {o o' : Bool} {lo hi lo' hi' n m : Nat} {v v' : Value} {f g : Nat → Int}
set_option maxRecDepth 100000 in
set_option maxHeartbeats 1000000 in
theorem productWithin_ok (n : Nat) (hn1 : 1 ≤ n) (hn2 : n ≤ 16) {L M : Nat} (w : World) (hs : Sl o w lo hi v L f) (ht : Sl o' w lo' hi' v' M g) (hf : Within f L 12000000000) (hg : Within g M 12000000000) (hL0 : 0 < L) (hLM : L ≤ M) (hM : M ≤ 12) (hz : ∀ j, L ≤ j → j < M → g j = 0) (hw : Within (prodZ n L f g) (phiN n) 1000000000) :
    Calls Try.prog 179 #[.int .i64 (n : Int), v, v'] w fun e w' => ∃ a' cap', e = .returned (.tuple #[.agg #[.int .i64 (n : Int), .slice a' (phiN n) cap'], .int .i64 0]) ∧ Sl true w' w.heap.size w'.heap.size (.slice a' (phiN n) cap') (phiN n) (prodZ n L f g) ∧ Below w.heap.size w w' := by
  have hp := phi_le12 n hn2 hn1
  have hL : L ≤ 12 := by omega
  have hM0 : 0 < M := by omega
  have HW := Lib.hid ((joinP_within hp).2 hw)
  have HPE := Lib.hid (joinP_eq hw)
  have HHB := Lib.hid (fun j (hj : j < M) => (halves_bd hg j hj).1)
  have HLB := Lib.hid (fun j (hj : j < M) => (halves_bd hg j hj).2.1)
  have HPH := Lib.hid (cut_bd (n := phiN n) (f := prodZ n L f (hiH g)) (C := 2764800000000000000) (by omega) (fun j hj => by have := prodZ_bd (by omega) hn1 (by omega : (0 : Int) ≤ 400000) hf (fun j hj => HHB.out j (by omega)) hL hj; omega))
  have HPL := Lib.hid (cut_bd (n := phiN n) (f := prodZ n L f (loH g)) (C := 2764800000000000000) (by omega) (fun j hj => by have := prodZ_bd (by omega) hn1 (by omega : (0 : Int) ≤ 400000) hf (fun j hj => HLB.out j (by omega)) hL hj; omega))
  have HZH := Lib.hid (show ∀ j, L ≤ j → j < M → hiH g j = 0 from fun j h1 h2 => by unfold hiH; rw [hz j h1 h2]; rfl)
  have HZL := Lib.hid (show ∀ j, L ≤ j → j < M → loH g j = 0 from fun j h1 h2 => by unfold loH; rw [hz j h1 h2]; rfl)
  have HF := Lib.hid hf
  have HG := Lib.hid hg
  have HR := Lib.hid (fun j (hj : j < 12) => show inR (joinP n L f g j) from by
    have h3 := HPL.out j
    have := joinZ_inR (h := cut (phiN n) (prodZ n L f (hiH g)) j) (l := cut (phiN n) (prodZ n L f (loH g)) j) (by omega) (by omega)
    unfold inR joinP; omega)
  clear hw hf hg hz
  have hhs := hs.size
  have hht := ht.size
  obtain ⟨a, cap, rfl⟩ := hs.shape
  obtain ⟨a', cap', rfl⟩ := ht.shape
  have st0 := (((St.start w).addSl ⟨o, lo, hi, .slice a L cap, L, f⟩ hs).addSl ⟨o', lo', hi', .slice a' M cap', M, g⟩ ht).boxNew (.int .i64 0) (.slice none 0 0) 24
  have q1 := st0.sl 0 ⟨o', lo', hi', .slice a' M cap', M, g⟩ rfl
  dsimp only at q1
  clear hs ht
  go_enter Try.func179, Try.ntmps179
  go_wp2_with fail
  refine (halvesOf_any _ q1 HG.out hM0 hM).mono ?_
  rintro e w2 ⟨kh, kl, rfl, sh, sl, b2⟩
  clear q1
  have st2 := st0.keep b2
  have hz2 := b2.size
  simp only [World.size_alloc] at hz2
  have hz2' := sl.size
  simp only [World.size_alloc] at sh sl hz2'
  have SH := Lib.hid sh
  have SLo := Lib.hid sl
  clear st0 b2 sh sl
  have q0 := st2.sl 1 ⟨o, lo, hi, .slice a L cap, L, f⟩ rfl
  dsimp only at q0
  go_wp2_with fail
  refine (productParts_any n hn1 hn2 _ q0 SH.out HF.out HHB.out hLM hM HZH.out).mono ?_
  rintro e w3 ⟨rfl, b3⟩
  clear q0
  have SL3 := Lib.hid ((SLo.out.keep b3 hz2').alloc (.cells (arrC (cut (phiN n) (prodZ n L f (hiH g)))) 136))
  have st3 := ((st2.keep b3).alloc (.cells (arrC (cut (phiN n) (prodZ n L f (hiH g)))) 136)).addSl ⟨true, w3.heap.size, w3.heap.size + 1, .slice (some ⟨w3.heap.size, 0, none⟩) 12 12, 12, cut (phiN n) (prodZ n L f (hiH g))⟩ (Sl.arr w3 _ _ (fun j _ => by have := HPH.out j; unfold inR; omega))
  have hz3 := b3.size
  clear st2 b3 SH SLo
  have q0 := st3.sl 2 ⟨o, lo, hi, .slice a L cap, L, f⟩ rfl
  dsimp only at q0
  unfold arrC at st3 q0 SL3
  unfold arrV
  go_wp2_with fail
  refine (productParts_any n hn1 hn2 _ q0 SL3.out HF.out HLB.out hLM hM HZL.out).mono ?_
  rintro e w4 ⟨rfl, b4⟩
  clear q0
  have hz4 := b4.size
  simp only [World.size_alloc] at hz4
  have st4 := ((st3.keep b4).alloc (.cells (arrC (cut (phiN n) (prodZ n L f (loH g)))) 136)).addSl ⟨true, w4.heap.size, w4.heap.size + 1, .slice (some ⟨w4.heap.size, 0, none⟩) 12 12, 12, cut (phiN n) (prodZ n L f (loH g))⟩ (Sl.arr w4 _ _ (fun j _ => by have := HPL.out j; unfold inR; omega))
  clear st3 b4 SL3
  have hpr := (Sl.arr (w4.alloc (.cells (arrC (cut (phiN n) (prodZ n L f (loH g)))) 136)) (fun _ => 0) 136 (fun j _ => by unfold inR; omega)).congr (f' := part1 (joinP n L f g) 0) (fun j hj => by unfold part1; rw [if_neg (Nat.not_lt_zero _)])
  have st5 := st4.alloc (.cells (arrC (fun _ => 0)) 136)
  simp only [World.size_alloc] at hpr
  clear st4
  unfold arrC at hpr st5
  have HPR := Lib.hid hpr
  have ST5 := Lib.hid st5
  clear hpr st5
  unfold arrV
  go_wp2
  go_loopw [27] (fun s38 wr => ∃ q : Nat, q ≤ 12 ∧ s38 = .int .i64 q ∧ Sl true wr (w4.heap.size + 1) (w4.heap.size + 1 + 1) (.slice (some ⟨w4.heap.size + 1, 0, none⟩) 12 12) 12 (part1 (joinP n L f g) q) ∧
      St w wr [(w.heap.size, [.int .i64 0, .slice none 0 0])] [⟨true, w4.heap.size, w4.heap.size + 1, .slice (some ⟨w4.heap.size, 0, none⟩) 12 12, 12, cut (phiN n) (prodZ n L f (loH g))⟩, ⟨true, w3.heap.size, w3.heap.size + 1, .slice (some ⟨w3.heap.size, 0, none⟩) 12 12, 12, cut (phiN n) (prodZ n L f (hiH g))⟩, ⟨o', lo', hi', .slice a' M cap', M, g⟩, ⟨o, lo, hi, .slice a L cap, L, f⟩]) (fun s38 _ => 12 - (intOf s38).toNat)
  case atStart => exact ⟨0, Nat.zero_le _, rfl, HPR.out, ST5.out⟩
  case round =>
    clear HPR ST5
    obtain ⟨q, hq, rfl, hown, hst⟩ := hrel
    have HO := Lib.hid hown; clear hown
    have HT := Lib.hid hst; clear hst
    by_cases hlt : q < 12
    · have k1 := ((HT.out.sl 1 ⟨true, w3.heap.size, w3.heap.size + 1, .slice (some ⟨w3.heap.size, 0, none⟩) 12 12, 12, cut (phiN n) (prodZ n L f (hiH g))⟩ rfl).known (by show 0 < 12; omega)).2.2.2.1 q hlt
      have k2 := ((HT.out.sl 0 ⟨true, w4.heap.size, w4.heap.size + 1, .slice (some ⟨w4.heap.size, 0, none⟩) 12 12, 12, cut (phiN n) (prodZ n L f (loH g))⟩ rfl).known (by show 0 < 12; omega)).2.2.2.1 q hlt
      dsimp only at k1 k2
      rw [Nat.zero_add] at k1 k2
      obtain ⟨hh1, hh2⟩ := HPH.out q
      obtain ⟨hl1, hl2⟩ := HPL.out q
      have W1 := Lib.hid (part1_succ (joinP n L f g) q)
      have HRq := Lib.hid (HR.out q hlt)
      have k3 := (HO.out.known (by omega)).2.2.2.1 q (by omega)
      have z3 := (HO.out.known (by omega)).2.2.2.2 rfl q
      rw [Nat.zero_add] at k3
      have HJ := Lib.hid (show joinZ (cut (phiN n) (prodZ n L f (hiH g)) q) (cut (phiN n) (prodZ n L f (loH g)) q) = joinP n L f g q from rfl)
      generalize cut (phiN n) (prodZ n L f (hiH g)) q = u1 at *
      generalize cut (phiN n) (prodZ n L f (loH g)) q = u2 at *
      have hq12 : (q : Int) < 12 := by omega
      go_wp2
      go_region_held3 (fun w' => w'.cell? ⟨w3.heap.size, q, none⟩ = some (.int .i64 u1) ∧ w'.cell? ⟨w4.heap.size, q, none⟩ = some (.int .i64 u2))
        (first | exact ⟨k1, k2⟩ | exact ⟨cell_set1 k1 (by omega), cell_set1 k2 (by omega)⟩ | go_keep)
        (first | (go_at_call 206; refine (joinHalves_any _ _ _ (by omega) (by omega) (by omega) (by omega)).mono ?_; rw [HJ.out]; rintro e w6 ⟨rfl, rfl⟩))
      all_goals
        go_wp2
        go_roundw
        case rel =>
          refine ⟨q + 1, by omega, by go_num, ?_, ?_⟩
          · rw [W1.out]
            refine ((HO.out.store0 (i := q) (by omega) HRq.out).drew).congr (fun j hj => ?_)
            by_cases e : j = q
            · subst e; simp
            · simp [e]
          · exact (HT.out.write (lo := w4.heap.size + 1) (hi := w4.heap.size + 1 + 1) ((Frame.refl (w4.heap.size + 1) (w4.heap.size + 1 + 1) wr).setCell (Nat.le_refl _) (Nat.lt_succ_self _) _) (by omega) (by intro b hb; simp only [List.mem_cons, List.not_mem_nil, or_false] at hb; rcases hb with rfl <;> dsimp only <;> omega) (by intro s hs'; simp only [List.mem_cons, List.not_mem_nil, or_false] at hs'; rcases hs' with rfl | rfl | rfl | rfl <;> dsimp only <;> omega)).drew
        case measure => simp [intOf] <;> omega
    · obtain rfl : q = 12 := by omega
      have hz := HO.out.size
      have HO2 := HO.out.congr (f' := joinP n L f g) (fun j hj => by unfold part1; rw [if_pos hj])
      have hcell := (HO2.known (by omega)).2.2.2.1
      have e0 := hcell 0 (by omega)
      have e1 := hcell 1 (by omega)
      have e2 := hcell 2 (by omega)
      have e3 := hcell 3 (by omega)
      have e4 := hcell 4 (by omega)
      have e5 := hcell 5 (by omega)
      have e6 := hcell 6 (by omega)
      have e7 := hcell 7 (by omega)
      have e8 := hcell 8 (by omega)
      have e9 := hcell 9 (by omega)
      have e10 := hcell 10 (by omega)
      have e11 := hcell 11 (by omega)
      simp only [Nat.zero_add] at e0 e1 e2 e3 e4 e5 e6 e7 e8 e9 e10 e11
      clear hcell HO2 HO
      have HCY := Lib.hid (cycloWithin_yes n (by omega) (by omega) wr HW.out)
      unfold arrV at HCY
      generalize joinP n L f g = P at *
      go_wp2_with fail
      refine HCY.out.mono ?_
      rintro e w7 ⟨a7, k7, rfl, s7, b7⟩
      have st7 := HT.out.keep b7
      have hz7 := b7.size
      have S7 := Lib.hid s7
      clear s7
      clear b7
      obtain ⟨d0, d1⟩ := (st7.box 0 _ rfl).cell2
      have dz := (st7.box 0 _ rfl).2.2
      have B7 := st7.1
      dsimp only at dz
      clear st7
      go_wp2
      refine bodyPost_ret (v := .tuple #[.agg #[.int .i64 (n : Int), .slice a7 (phiN n) k7], .int .i64 0]) (by simp [results, Try.results179, go_sem, d0, d1]) rfl ?_
      refine ⟨_, _, rfl, ?_, by go_grown⟩
      exact (((S7.out.setOther (.inl (by show w.heap.size < _; omega)) _).setOther (.inl (by show w.heap.size < _; omega)) _).wide (by omega) (by simp) (Nat.le_refl _)).congr (fun j hj => (HPE.out j hj).symm)

set_option maxRecDepth 100000 in
set_option maxHeartbeats 1000000 in
theorem productWithin_big (n : Nat) (hn1 : 1 ≤ n) (hn2 : n ≤ 16) {L M : Nat} (w : World) (hs : Sl o w lo hi v L f) (ht : Sl o' w lo' hi' v' M g) (hf : Within f L 12000000000) (hg : Within g M 12000000000) (hL0 : 0 < L) (hLM : L ≤ M) (hM : M ≤ 12) (hz : ∀ j, L ≤ j → j < M → g j = 0) (hw : ¬ Within (prodZ n L f g) (phiN n) 1000000000) :
    Calls Try.prog 179 #[.int .i64 (n : Int), v, v'] w fun e w' => e = .returned (failV 3) ∧ Below w.heap.size w w' := by
  have hp := phi_le12 n hn2 hn1
  have hL : L ≤ 12 := by omega
  have hM0 : 0 < M := by omega
  have HW := Lib.hid (fun q => hw ((joinP_within hp).1 q))
  have HHB := Lib.hid (fun j (hj : j < M) => (halves_bd hg j hj).1)
  have HLB := Lib.hid (fun j (hj : j < M) => (halves_bd hg j hj).2.1)
  have HPH := Lib.hid (cut_bd (n := phiN n) (f := prodZ n L f (hiH g)) (C := 2764800000000000000) (by omega) (fun j hj => by have := prodZ_bd (by omega) hn1 (by omega : (0 : Int) ≤ 400000) hf (fun j hj => HHB.out j (by omega)) hL hj; omega))
  have HPL := Lib.hid (cut_bd (n := phiN n) (f := prodZ n L f (loH g)) (C := 2764800000000000000) (by omega) (fun j hj => by have := prodZ_bd (by omega) hn1 (by omega : (0 : Int) ≤ 400000) hf (fun j hj => HLB.out j (by omega)) hL hj; omega))
  have HZH := Lib.hid (show ∀ j, L ≤ j → j < M → hiH g j = 0 from fun j h1 h2 => by unfold hiH; rw [hz j h1 h2]; rfl)
  have HZL := Lib.hid (show ∀ j, L ≤ j → j < M → loH g j = 0 from fun j h1 h2 => by unfold loH; rw [hz j h1 h2]; rfl)
  have HF := Lib.hid hf
  have HG := Lib.hid hg
  have HR := Lib.hid (fun j (hj : j < 12) => show inR (joinP n L f g j) from by
    have h3 := HPL.out j
    have := joinZ_inR (h := cut (phiN n) (prodZ n L f (hiH g)) j) (l := cut (phiN n) (prodZ n L f (loH g)) j) (by omega) (by omega)
    unfold inR joinP; omega)
  clear hw hf hg hz
  have hhs := hs.size
  have hht := ht.size
  obtain ⟨a, cap, rfl⟩ := hs.shape
  obtain ⟨a', cap', rfl⟩ := ht.shape
  have st0 := (((St.start w).addSl ⟨o, lo, hi, .slice a L cap, L, f⟩ hs).addSl ⟨o', lo', hi', .slice a' M cap', M, g⟩ ht).boxNew (.int .i64 0) (.slice none 0 0) 24
  have q1 := st0.sl 0 ⟨o', lo', hi', .slice a' M cap', M, g⟩ rfl
  dsimp only at q1
  clear hs ht
  go_enter Try.func179, Try.ntmps179
  go_wp2_with fail
  refine (halvesOf_any _ q1 HG.out hM0 hM).mono ?_
  rintro e w2 ⟨kh, kl, rfl, sh, sl, b2⟩
  clear q1
  have st2 := st0.keep b2
  have hz2 := b2.size
  simp only [World.size_alloc] at hz2
  have hz2' := sl.size
  simp only [World.size_alloc] at sh sl hz2'
  have SH := Lib.hid sh
  have SLo := Lib.hid sl
  clear st0 b2 sh sl
  have q0 := st2.sl 1 ⟨o, lo, hi, .slice a L cap, L, f⟩ rfl
  dsimp only at q0
  go_wp2_with fail
  refine (productParts_any n hn1 hn2 _ q0 SH.out HF.out HHB.out hLM hM HZH.out).mono ?_
  rintro e w3 ⟨rfl, b3⟩
  clear q0
  have SL3 := Lib.hid ((SLo.out.keep b3 hz2').alloc (.cells (arrC (cut (phiN n) (prodZ n L f (hiH g)))) 136))
  have st3 := ((st2.keep b3).alloc (.cells (arrC (cut (phiN n) (prodZ n L f (hiH g)))) 136)).addSl ⟨true, w3.heap.size, w3.heap.size + 1, .slice (some ⟨w3.heap.size, 0, none⟩) 12 12, 12, cut (phiN n) (prodZ n L f (hiH g))⟩ (Sl.arr w3 _ _ (fun j _ => by have := HPH.out j; unfold inR; omega))
  have hz3 := b3.size
  clear st2 b3 SH SLo
  have q0 := st3.sl 2 ⟨o, lo, hi, .slice a L cap, L, f⟩ rfl
  dsimp only at q0
  unfold arrC at st3 q0 SL3
  unfold arrV
  go_wp2_with fail
  refine (productParts_any n hn1 hn2 _ q0 SL3.out HF.out HLB.out hLM hM HZL.out).mono ?_
  rintro e w4 ⟨rfl, b4⟩
  clear q0
  have hz4 := b4.size
  simp only [World.size_alloc] at hz4
  have st4 := ((st3.keep b4).alloc (.cells (arrC (cut (phiN n) (prodZ n L f (loH g)))) 136)).addSl ⟨true, w4.heap.size, w4.heap.size + 1, .slice (some ⟨w4.heap.size, 0, none⟩) 12 12, 12, cut (phiN n) (prodZ n L f (loH g))⟩ (Sl.arr w4 _ _ (fun j _ => by have := HPL.out j; unfold inR; omega))
  clear st3 b4 SL3
  have hpr := (Sl.arr (w4.alloc (.cells (arrC (cut (phiN n) (prodZ n L f (loH g)))) 136)) (fun _ => 0) 136 (fun j _ => by unfold inR; omega)).congr (f' := part1 (joinP n L f g) 0) (fun j hj => by unfold part1; rw [if_neg (Nat.not_lt_zero _)])
  have st5 := st4.alloc (.cells (arrC (fun _ => 0)) 136)
  simp only [World.size_alloc] at hpr
  clear st4
  unfold arrC at hpr st5
  have HPR := Lib.hid hpr
  have ST5 := Lib.hid st5
  clear hpr st5
  unfold arrV
  go_wp2
  go_loopw [27] (fun s38 wr => ∃ q : Nat, q ≤ 12 ∧ s38 = .int .i64 q ∧ Sl true wr (w4.heap.size + 1) (w4.heap.size + 1 + 1) (.slice (some ⟨w4.heap.size + 1, 0, none⟩) 12 12) 12 (part1 (joinP n L f g) q) ∧
      St w wr [(w.heap.size, [.int .i64 0, .slice none 0 0])] [⟨true, w4.heap.size, w4.heap.size + 1, .slice (some ⟨w4.heap.size, 0, none⟩) 12 12, 12, cut (phiN n) (prodZ n L f (loH g))⟩, ⟨true, w3.heap.size, w3.heap.size + 1, .slice (some ⟨w3.heap.size, 0, none⟩) 12 12, 12, cut (phiN n) (prodZ n L f (hiH g))⟩, ⟨o', lo', hi', .slice a' M cap', M, g⟩, ⟨o, lo, hi, .slice a L cap, L, f⟩]) (fun s38 _ => 12 - (intOf s38).toNat)
  case atStart => exact ⟨0, Nat.zero_le _, rfl, HPR.out, ST5.out⟩
  case round =>
    clear HPR ST5
    obtain ⟨q, hq, rfl, hown, hst⟩ := hrel
    have HO := Lib.hid hown; clear hown
    have HT := Lib.hid hst; clear hst
    by_cases hlt : q < 12
    · have k1 := ((HT.out.sl 1 ⟨true, w3.heap.size, w3.heap.size + 1, .slice (some ⟨w3.heap.size, 0, none⟩) 12 12, 12, cut (phiN n) (prodZ n L f (hiH g))⟩ rfl).known (by show 0 < 12; omega)).2.2.2.1 q hlt
      have k2 := ((HT.out.sl 0 ⟨true, w4.heap.size, w4.heap.size + 1, .slice (some ⟨w4.heap.size, 0, none⟩) 12 12, 12, cut (phiN n) (prodZ n L f (loH g))⟩ rfl).known (by show 0 < 12; omega)).2.2.2.1 q hlt
      dsimp only at k1 k2
      rw [Nat.zero_add] at k1 k2
      obtain ⟨hh1, hh2⟩ := HPH.out q
      obtain ⟨hl1, hl2⟩ := HPL.out q
      have W1 := Lib.hid (part1_succ (joinP n L f g) q)
      have HRq := Lib.hid (HR.out q hlt)
      have k3 := (HO.out.known (by omega)).2.2.2.1 q (by omega)
      have z3 := (HO.out.known (by omega)).2.2.2.2 rfl q
      rw [Nat.zero_add] at k3
      have HJ := Lib.hid (show joinZ (cut (phiN n) (prodZ n L f (hiH g)) q) (cut (phiN n) (prodZ n L f (loH g)) q) = joinP n L f g q from rfl)
      generalize cut (phiN n) (prodZ n L f (hiH g)) q = u1 at *
      generalize cut (phiN n) (prodZ n L f (loH g)) q = u2 at *
      have hq12 : (q : Int) < 12 := by omega
      go_wp2
      go_region_held3 (fun w' => w'.cell? ⟨w3.heap.size, q, none⟩ = some (.int .i64 u1) ∧ w'.cell? ⟨w4.heap.size, q, none⟩ = some (.int .i64 u2))
        (first | exact ⟨k1, k2⟩ | exact ⟨cell_set1 k1 (by omega), cell_set1 k2 (by omega)⟩ | go_keep)
        (first | (go_at_call 206; refine (joinHalves_any _ _ _ (by omega) (by omega) (by omega) (by omega)).mono ?_; rw [HJ.out]; rintro e w6 ⟨rfl, rfl⟩))
      all_goals
        go_wp2
        go_roundw
        case rel =>
          refine ⟨q + 1, by omega, by go_num, ?_, ?_⟩
          · rw [W1.out]
            refine ((HO.out.store0 (i := q) (by omega) HRq.out).drew).congr (fun j hj => ?_)
            by_cases e : j = q
            · subst e; simp
            · simp [e]
          · exact (HT.out.write (lo := w4.heap.size + 1) (hi := w4.heap.size + 1 + 1) ((Frame.refl (w4.heap.size + 1) (w4.heap.size + 1 + 1) wr).setCell (Nat.le_refl _) (Nat.lt_succ_self _) _) (by omega) (by intro b hb; simp only [List.mem_cons, List.not_mem_nil, or_false] at hb; rcases hb with rfl <;> dsimp only <;> omega) (by intro s hs'; simp only [List.mem_cons, List.not_mem_nil, or_false] at hs'; rcases hs' with rfl | rfl | rfl | rfl <;> dsimp only <;> omega)).drew
        case measure => simp [intOf] <;> omega
    · obtain rfl : q = 12 := by omega
      have hz := HO.out.size
      have HO2 := HO.out.congr (f' := joinP n L f g) (fun j hj => by unfold part1; rw [if_pos hj])
      have hcell := (HO2.known (by omega)).2.2.2.1
      have e0 := hcell 0 (by omega)
      have e1 := hcell 1 (by omega)
      have e2 := hcell 2 (by omega)
      have e3 := hcell 3 (by omega)
      have e4 := hcell 4 (by omega)
      have e5 := hcell 5 (by omega)
      have e6 := hcell 6 (by omega)
      have e7 := hcell 7 (by omega)
      have e8 := hcell 8 (by omega)
      have e9 := hcell 9 (by omega)
      have e10 := hcell 10 (by omega)
      have e11 := hcell 11 (by omega)
      simp only [Nat.zero_add] at e0 e1 e2 e3 e4 e5 e6 e7 e8 e9 e10 e11
      clear hcell HO2 HO
      have HCY := Lib.hid (cycloWithin_no (n : Int) wr HR.out HW.out)
      unfold arrV at HCY
      generalize joinP n L f g = P at *
      go_wp2_with fail
      refine HCY.out.mono ?_
      rintro e w7 ⟨rfl, b7⟩
      have st7 := HT.out.keep b7
      have hz7 := b7.size
      clear b7
      obtain ⟨d0, d1⟩ := (st7.box 0 _ rfl).cell2
      have dz := (st7.box 0 _ rfl).2.2
      have B7 := st7.1
      dsimp only at dz
      clear st7
      go_wp2
      refine bodyPost_ret (v := failV 3) (by simp [results, Try.results179, go_sem, failV, d0, d1]) rfl ?_
      exact ⟨rfl, by go_grown⟩

end
end Go.Proofs.Ytnhpodlcgkgpbaa
