/- Products of the model: l01Product. -/
import Derived.Test.YtnhpodlcgkgpbaaProdW
namespace Go.Proofs.Ytnhpodlcgkgpbaa
open Go.RowKit Go.ChangeShapes Go.Sort
set_option linter.unusedVariables false
set_option linter.unusedSimpArgs false

section
variable {o o' : Bool} {lo hi lo' hi' L : Nat} {v v' : Value} {f g : Nat → Int}
set_option maxRecDepth 100000 in
set_option maxHeartbeats 1000000 in
theorem l01Product_any (n : Nat) (h1 : 1 ≤ n) (h2 : n ≤ 16) (w : World) (hs : Sl o w lo hi v L f) (ht : Sl o' w lo' hi' v' L g) (hf : Within f L 12000000000) (hg : ∀ j, j < L → -400000 ≤ g j ∧ g j ≤ 400000) (hL0 : 0 < L) (hL : L ≤ 12) :
    Calls Try.prog 181 #[.agg #[.int .i64 (n : Int), v], v'] w fun e w' => ∃ a' cap', e = .returned (.agg #[.int .i64 (n : Int), .slice a' (phiN n) cap']) ∧ Sl true w' w.heap.size w'.heap.size (.slice a' (phiN n) cap') (phiN n) (prodZ n L f g) ∧ Below w.heap.size w w' := by
  obtain ⟨a, cap, rfl⟩ := hs.shape
  obtain ⟨a', cap', rfl⟩ := ht.shape
  have hhs := hs.size
  have hht := ht.size
  obtain ⟨M, hM⟩ : ∃ M : Nat, M + 1 = L + L := ⟨L + L - 1, by omega⟩
  have HRED := Lib.hid (fun j (hj : j < phiN n) => show prodZ n L f g j = redP n (pad M (convZ f g L L)) j from by
    rw [show pad M (convZ f g L L) = convZ f g L L from by
      funext i; unfold pad
      by_cases e : i < M
      · rw [if_pos e]
      · rw [if_neg e, convZ_far f g L L i (by omega)]]
    exact (redP_conv (by omega) h1 hf hg hL hj).symm)
  have HCB := Lib.hid (fun i (hi : i ≤ L) j => convZ_bd12 (by omega : (0 : Int) ≤ 400000) hf hg hL i hi j)
  have HG := Lib.hid hg
  have HF := Lib.hid hf
  clear hf hg
  have st0 := (((((St.start w).addSl ⟨o, lo, hi, .slice a L cap, L, f⟩ hs).addSl ⟨o', lo', hi', .slice a' L cap', L, g⟩ ht).alloc (.cells #[.int .i64 (n : Int), .slice a L cap] 24)).addBox w.heap.size [.int .i64 (n : Int), .slice a L cap] (Box.made _ _ _ _ (fun j v h => by simpa using h)))
  replace st0 := ((st0.alloc (.cells #[.int .i64 0, .slice none 0 0] 24)).addBox (w.heap.size + 1) [.int .i64 0, .slice none 0 0] (by
    have := Box.made (w.alloc (.cells #[.int .i64 (n : Int), .slice a L cap] 24)) #[.int .i64 0, .slice none 0 0] 24 [.int .i64 0, .slice none 0 0] (fun j v h => by simpa using h)
    simpa using this))
  obtain ⟨x0, x1⟩ := (st0.box 1 (w.heap.size, [.int .i64 (n : Int), .slice a L cap]) rfl).cell2
  have HST0 := Lib.hid (st0.alloc (.cells (madeCells #[.int .i64 0] M) 2))
  have hsm := Sl.made ((w.alloc (.cells #[.int .i64 (n : Int), .slice a L cap] 24)).alloc (.cells #[.int .i64 0, .slice none 0 0] 24)) (madeCells #[.int .i64 0] M) 2 M M (convZ f g L 0) (Nat.le_refl _) (by unfold maxLen; omega) (fun _ _ => by simp [convZ, inR]) (fun j hj => madeCells_at _ _ _ hj)
  simp only [World.size_alloc] at hsm
  have HSM := Lib.hid hsm
  clear hsm st0 hs ht
  have hmk := run_make_row' (P := Try.prog) 22 2 (.int .i64 0) 8 Try.underlying22 Try.info2 rfl .i64 .i64 M (by omega) (by omega)
  rw [show ((M : Nat) : Int) = (L : Int) + (L : Int) - 1 by omega] at hmk
  go_enter Try.func181, Try.ntmps181
  go_wp2
  clear hmk x0 x1
  go_loopw [6] (fun s6 wr => ∃ i : Nat, i ≤ L ∧ s6 = .int .i64 i ∧ Sl true wr (w.heap.size + 2) (w.heap.size + 3) (.slice (some ⟨w.heap.size + 2, 0, none⟩) M M) M (convZ f g L i) ∧
      St w wr [(w.heap.size + 1, [.int .i64 0, .slice none 0 0]), (w.heap.size, [.int .i64 (n : Int), .slice a L cap])] [⟨o', lo', hi', .slice a' L cap', L, g⟩, ⟨o, lo, hi, .slice a L cap, L, f⟩]) (fun s6 _ => L - (intOf s6).toNat)
  case atStart => exact ⟨0, Nat.zero_le _, rfl, HSM.out, HST0.out⟩
  case round =>
    clear HSM HST0
    obtain ⟨i, hiL, rfl, hown, hst⟩ := hrel
    have HO0 := Lib.hid hown; clear hown
    have HT0 := Lib.hid hst; clear hst
    obtain ⟨x0, x1⟩ := (HT0.out.box 1 (w.heap.size, [.int .i64 (n : Int), .slice a L cap]) rfl).cell2
    by_cases hlt : i < L
    · obtain ⟨hf1, hf2⟩ := HF.out i hlt
      obtain ⟨wi, hwi⟩ : ∃ x : World, x = wr := ⟨_, rfl⟩
      subst hwi
      go_wp2
      clear x0 x1
      go_loopw [7] (fun s7 wr => ∃ m : Nat, m ≤ L ∧ s7 = .int .i64 m ∧ Sl true wr (w.heap.size + 2) (w.heap.size + 3) (.slice (some ⟨w.heap.size + 2, 0, none⟩) M M) M (addRow (f i) g i m (convZ f g L i)) ∧
          St w wr [(w.heap.size + 1, [.int .i64 0, .slice none 0 0]), (w.heap.size, [.int .i64 (n : Int), .slice a L cap])] [⟨o', lo', hi', .slice a' L cap', L, g⟩, ⟨o, lo, hi, .slice a L cap, L, f⟩]) (fun s7 _ => L - (intOf s7).toNat)
      case atStart => exact ⟨0, Nat.zero_le _, rfl, by rw [addRow_zero]; exact HO0.out, HT0.out⟩
      case round =>
        clear HO0 HT0
        obtain ⟨m, hm, rfl, hown, hst⟩ := hrel
        have HO := Lib.hid hown; clear hown
        have HT := Lib.hid hst; clear hst
        by_cases hlt2 : m < L
        · have qa := HT.out.sl 1 ⟨o, lo, hi, .slice a L cap, L, f⟩ rfl
          dsimp only at qa
          obtain ⟨b, off, c1, hv, _, _, _, _, hc, _⟩ := qa.at (by omega)
          obtain ⟨rfl, rfl⟩ : a = some ⟨b, off, none⟩ ∧ cap = c1 := by cases hv; exact ⟨rfl, rfl⟩
          have hck := hc i hlt
          clear hv hc qa
          have qb := HT.out.sl 0 ⟨o', lo', hi', .slice a' L cap', L, g⟩ rfl
          dsimp only at qb
          obtain ⟨b', off', c2, hv2, _, _, _, _, hc2, _⟩ := qb.at (by omega)
          obtain ⟨rfl, rfl⟩ : a' = some ⟨b', off', none⟩ ∧ cap' = c2 := by cases hv2; exact ⟨rfl, rfl⟩
          have hck2 := hc2 m hlt2
          clear hv2 hc2 qb
          obtain ⟨x0, x1⟩ := (HT.out.box 1 (w.heap.size, [.int .i64 (n : Int), .slice (some ⟨b, off, none⟩) L cap]) rfl).cell2
          obtain ⟨hg1, hg2⟩ := HG.out m hlt2
          obtain ⟨hp1, hp2⟩ := mul_abs (B := 400000) (by omega) hf1 hf2 hg1 hg2
          obtain ⟨hu1, hu2⟩ := HCB.out i hiL (i + m)
          have HW := Lib.hid (addRow_succ (f i) g i m (convZ f g L i))
          have hck3 := (HO.out.known (by omega)).2.2.2.1 (i + m) (by omega)
          have hfr := (HO.out.known (by omega)).2.2.2.2 rfl (i + m)
          rw [Nat.zero_add, addRow_at] at hck3
          have hi1 : (i : Int) < L := by omega
          have hi2 : (m : Int) < L := by omega
          have hi3 : (i : Int) + (m : Int) < M := by omega
          go_wp2
          go_region
          go_wp2
          go_roundw
          case rel =>
            refine ⟨m + 1, by omega, by go_num, ?_, ?_⟩
            · rw [HW.out]
              refine ((HO.out.store0 (i := i + m) (by omega) (by unfold inR; omega)).drew).congr (fun j hj => ?_)
              by_cases e : j = i + m
              · subst e; simp
              · simp [e]
            · exact (HT.out.write (lo := w.heap.size + 2) (hi := w.heap.size + 3) ((Frame.refl (w.heap.size + 2) (w.heap.size + 3) wr).setCell (by show w.heap.size + 2 ≤ w.heap.size + 1 + 1; omega) (by show w.heap.size + 1 + 1 < _; omega) _) (by omega) (by intro b hb; simp only [List.mem_cons, List.not_mem_nil, or_false] at hb; rcases hb with rfl | rfl <;> dsimp only <;> omega) (by intro s hs'; simp only [List.mem_cons, List.not_mem_nil, or_false] at hs'; rcases hs' with rfl | rfl <;> dsimp only <;> omega)).drew
          case measure => simp [intOf] <;> omega
        · obtain rfl : m = L := by omega
          go_wp2
          go_roundw
          case rel => exact ⟨i + 1, by omega, by go_num, HO.out, HT.out⟩
          case measure => simp [intOf] <;> omega
    · obtain rfl : i = L := by omega
      go_wp2_with fail
      refine (l01Reduce_any n h1 (by omega) _ HO0.out (by omega)).mono ?_
      rintro e w2 ⟨a1, k1, rfl, s1, b1⟩
      have hz1 := b1.size
      have st1 := HT0.out.keep b1
      have hz0 := HO0.out.size
      have S1 := Lib.hid s1
      clear s1 b1 x0 x1
      obtain ⟨d0, d1⟩ := (st1.box 0 _ rfl).cell2
      have dz := (st1.box 0 _ rfl).2.2
      have B1 := st1.1
      dsimp only at dz
      clear st1
      go_wp2
      refine bodyPost_ret (v := .agg #[.int .i64 (n : Int), .slice a1 (phiN n) k1]) (by simp [results, Try.results181, go_sem, d0, d1]) rfl ?_
      refine ⟨_, _, rfl, ?_, by go_grown⟩
      exact (((S1.out.setOther (.inl (by show w.heap.size + 1 < _; omega)) _).setOther (.inl (by show w.heap.size + 1 < _; omega)) _).wide (by omega) (by simp) (Nat.le_refl _)).congr (fun j hj => HRED.out j hj)
end
end Go.Proofs.Ytnhpodlcgkgpbaa
