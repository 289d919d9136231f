/- Products of images: productOfImages of the program. -/
import Derived.Test.YtnhpodlcgkgpbaaOne
import Derived.Test.YtnhpodlcgkgpbaaProdW
import Derived.Deep.RegionLaw
namespace Go.Proofs.Ytnhpodlcgkgpbaa
open Go.RowKit Go.ChangeShapes Go.Sort
set_option linter.unusedVariables false
set_option linter.unusedSimpArgs false

/-- All products on the way keep the limit. -/
def prOk (n L : Nat) (f : Nat → Int) (s k : Nat) : Prop := ∀ i, i < k → Within (prI n L f s (i + 1)) (phiN n) 1000000000
theorem prOk_zero (n L : Nat) (f : Nat → Int) (s : Nat) : prOk n L f s 0 := fun i hi => absurd hi (Nat.not_lt_zero _)
theorem prOk_succ {n L : Nat} {f : Nat → Int} {s k : Nat} (h : prOk n L f s k) (hw : Within (prI n L f s (k + 1)) (phiN n) 1000000000) : prOk n L f s (k + 1) := fun i hi => by
  rcases Nat.lt_succ_iff_lt_or_eq.1 hi with h1 | rfl
  · exact h i h1
  · exact hw
theorem one0_within (N : Nat) : Within one0 N 1000000000 := fun j _ => by unfold one0; split <;> omega
theorem prI_within {n L : Nat} {f : Nat → Int} {s : Nat} : ∀ {k : Nat}, prOk n L f s k → Within (prI n L f s k) (phiN n) 1000000000
  | 0, _ => one0_within _
  | k + 1, h => h k (Nat.lt_succ_self _)
theorem prI_imA {n L : Nat} {f : Nat → Int} (s k : Nat) : prodZ n (phiN n) (prI n L f s k) (imA n L f (s + k)) = prI n L f s (k + 1) :=
  pz_congr (fun _ _ => rfl) (fun j hj => by unfold imA cut; rw [if_pos hj])
theorem imA_big {n L : Nat} {f : Nat → Int} (hn : n < 17) (h1 : 1 ≤ n) (hf : Within f L 1000000000) (hL : L ≤ 12) (k : Nat) : Within (imA n L f k) 12 12000000000 := fun j hj => by
  unfold imA cut
  split
  · exact im_big hn h1 hf hL k j (by assumption)
  · omega
theorem imA_far {n L : Nat} {f : Nat → Int} (k j : Nat) (h : phiN n ≤ j) : imA n L f k j = 0 := by
  unfold imA cut; rw [if_neg (by omega)]
theorem RowE.elem {w : World} {base g cap m k : Nat} {G : Nat → Nat → Int} (h : RowE w base 136 12 g cap m (fun k => arrL (G k))) (hk : k < m) (hr : ∀ j, j < 12 → inR (G k j)) :
    Sl true w g (g + 1) (.slice (some ⟨g, k * 12, none⟩) 12 12) 12 (G k) :=
  ⟨h.lt.2, by unfold maxLen; omega, hr, .inr ⟨g, k * 12, 12, rfl, Nat.le_refl _, Nat.lt_succ_self _, Nat.le_refl _, by unfold maxLen; omega, fun j hj => by
    rw [h.cell (fun _ => arrL_len _) hk hj]
    show (arrC (G k)).toList[j]? = _
    rw [Array.getElem?_toList]
    exact arrC_get _ _ hj, fun _ k => h.frozen k⟩⟩

section
variable {L : Nat} {f : Nat → Int}
set_option maxRecDepth 100000 in
set_option maxHeartbeats 4000000 in
theorem productOfImages_any (n : Nat) (h1 : 1 ≤ n) (h2 : n ≤ 16) (w : World) {base g cap t s m cap2 off : Nat} (hR : RowE w base 136 12 g cap t (fun k => arrL (imA n L f k))) (hoff : 0 < m → off = s * 12) (hst : s + m ≤ t) (ht : t ≤ 12) (hf : Within f L 1000000000) (hL : L ≤ 12) :
    Calls Try.prog 128 #[.int .i64 (n : Int), .slice (some ⟨g, off, none⟩) m cap2] w fun e w' => ((prOk n L f s m ∧ ∃ a' cap', e = .returned (.tuple #[.agg #[.int .i64 (n : Int), .slice a' (phiN n) cap'], .int .i64 0]) ∧ Sl true w' w.heap.size w'.heap.size (.slice a' (phiN n) cap') (phiN n) (prI n L f s m)) ∨ (¬ prOk n L f s m ∧ e = .returned (failV 3))) ∧ Below w.heap.size w w' := by
  have hp := phi_le12 n h2 h1
  have hp0 := phiN_pos n (by omega) h1
  have HIM := Lib.hid (fun k => imA_big (n := n) (L := L) (f := f) (by omega) h1 hf hL k)
  have hg := hR.lt.2
  have HR := Lib.hid hR
  have HOFF := Lib.hid hoff
  clear hR hf hoff
  have st0 := (St.start w).boxNew (.int .i64 0) (.slice none 0 0) 24
  go_enter Try.func128, Try.ntmps128
  go_wp2_with fail
  refine (oneOf_any n h1 h2 _).mono ?_
  rintro e w2 ⟨a2, k2, rfl, s2, b2⟩
  have hz2 := b2.size
  simp only [World.size_alloc] at hz2 s2
  have HS2 := Lib.hid (s2.alloc (.cells #[.int .i64 (n : Int), .slice a2 (phiN n) k2] 24))
  have ST2 := Lib.hid ((st0.keep b2).boxNew (.int .i64 (n : Int)) (.slice a2 (phiN n) k2) 24)
  have HR2 := Lib.hid (((HR.out.alloc (.cells #[.int .i64 0, .slice none 0 0] 24)).keep b2 (Nat.le_refl _)).alloc (.cells #[.int .i64 (n : Int), .slice a2 (phiN n) k2] 24))
  clear st0 b2 s2 HR
  go_wp2
  go_loopw [7, 8] (fun s7 s8 wr => ∃ i : Nat, i ≤ m ∧ s8 = .int .i64 i ∧ RowE wr base 136 12 g cap t (fun k => arrL (imA n L f k)) ∧
      ((prOk n L f s i ∧ s7 = .int .i64 0 ∧ ∃ (lo6 hi6 : Nat) (a6 : Option Addr) (k6 : Nat), w.heap.size + 1 ≤ lo6 ∧ (w2.heap.size < lo6 ∨ hi6 ≤ w2.heap.size) ∧ Sl true wr lo6 hi6 (.slice a6 (phiN n) k6) (phiN n) (prI n L f s i) ∧ St w wr [(w2.heap.size, [.int .i64 (n : Int), .slice a6 (phiN n) k6]), (w.heap.size, [.int .i64 0, .slice none 0 0])] []) ∨
       (¬ prOk n L f s m ∧ s7 = .int .i64 3 ∧ St w wr [(w2.heap.size, [.int .i64 0, .slice none 0 0]), (w.heap.size, [.int .i64 0, .slice none 0 0])] []))) (fun s7 s8 _ => m - (intOf s8).toNat)
  case atStart => exact ⟨0, Nat.zero_le _, rfl, HR2.out, .inl ⟨prOk_zero _ _ _ _, rfl, _, _, a2, k2, by omega, .inr (Nat.le_refl _), HS2.out, ST2.out⟩⟩
  case round =>
    clear HS2 ST2 HR2
    obtain ⟨i, him, rfl, hrow, hr⟩ := hrel
    have R1 := Lib.hid hrow; clear hrow
    rcases hr with ⟨hok, rfl, lo6, hi6, a6, k6, hl6, hd6, hown, hst6⟩ | ⟨hbad, rfl, hst6⟩
    · have HO := Lib.hid hown; clear hown
      have HT := Lib.hid hst6; clear hst6
      have HOK := Lib.hid hok; clear hok
      obtain ⟨p0, p1⟩ := (HT.out.box 0 (w2.heap.size, [.int .i64 (n : Int), .slice a6 (phiN n) k6]) rfl).cell2
      have pz := (HT.out.box 0 (w2.heap.size, [.int .i64 (n : Int), .slice a6 (phiN n) k6]) rfl).2.2
      have pl := (HT.out.box 0 (w2.heap.size, [.int .i64 (n : Int), .slice a6 (phiN n) k6]) rfl).1
      dsimp only at pz pl
      by_cases hlt : i < m
      · have hi12 : (i : Int) < (m : Int) := by omega
        have hme : m ≤ 1048576 := by omega
        have HE := Lib.hid (show Sl true wr.drew g (g + 1) (.slice (some ⟨g, off + i * 12, none⟩) 12 12) 12 (imA n L f (s + i)) from by
          have := (R1.out.elem (k := s + i) (by omega) (fun j hj => by have := HIM.out (s + i) j hj; unfold inR; omega)).drew
          rwa [show off + i * 12 = (s + i) * 12 by have := HOFF.out (by omega); omega])
        by_cases hw : Within (prI n L f s (i + 1)) (phiN n) 1000000000
        · have HPW := Lib.hid (productWithin_ok n h1 h2 wr.drew HO.out.drew HE.out (Within.big (prI_within HOK.out)) (HIM.out (s + i)) hp0 hp (Nat.le_refl _) (fun j h3 h4 => imA_far _ j h3) (by rw [prI_imA]; exact hw))
          rw [prI_imA] at HPW
          have HN := Lib.hid (prOk_succ HOK.out hw)
          clear hw
          go_wp2_with fail
          go_region_law (first
              | (go_simp; go_at_call 179; refine HPW.out.mono ?_; rintro e w3 ⟨a3, k3, rfl, s3, b3⟩
                 have hz3 := b3.size
                 have st3 := HT.out.drew.keep b3
                 obtain ⟨q0, q1⟩ := (st3.box 0 (w2.heap.size, [.int .i64 (n : Int), .slice a6 (phiN n) k6]) rfl).cell2
                 have qz := (st3.box 0 (w2.heap.size, [.int .i64 (n : Int), .slice a6 (phiN n) k6]) rfl).2.2
                 dsimp only at qz))
          have R3 := (((R1.out.drewN 1).keep b3 (Nat.le_refl _)).keepF (((Frame.refl w2.heap.size (w2.heap.size + 1) w3).setCell (Nat.le_refl _) (Nat.lt_succ_self _) (.int .i64 (n : Int)) (p := ⟨w2.heap.size, 0, none⟩)).setCell (Nat.le_refl _) (Nat.lt_succ_self _) (.slice a3 (phiN n) k3) (p := ⟨w2.heap.size, 1, none⟩)) (by omega))
          have RR3 := Lib.hid R3
          have S3 := Lib.hid s3
          have ST3 := Lib.hid (st3.boxSet (u0 := .int .i64 (n : Int)) (u1 := .slice a3 (phiN n) k3) (by omega) (by intro b hb; simp only [List.mem_cons, List.not_mem_nil, or_false] at hb; rcases hb with rfl <;> dsimp only <;> omega) (by intro s hs'; cases hs'))
          clear st3 b3 s3 R3 HT HO q0 q1 qz
          go_wp2
          go_roundw
          case rel =>
            exact ⟨i + 1, by omega, by go_num, RR3.out, .inl ⟨HN.out, rfl, _, _, a3, k3, by omega, .inl pl, (S3.out.setOther (.inl pl) _).setOther (.inl pl) _, ST3.out⟩⟩
          case measure => simp [intOf] <;> omega
        · have HPW := Lib.hid (productWithin_big n h1 h2 wr.drew HO.out.drew HE.out (Within.big (prI_within HOK.out)) (HIM.out (s + i)) hp0 hp (Nat.le_refl _) (fun j h3 h4 => imA_far _ j h3) (by rw [prI_imA]; exact hw))
          have HN := Lib.hid (show ¬ prOk n L f s m from fun h => hw (h i hlt))
          clear hw
          go_wp2_with fail
          go_region_law (first
              | (go_simp; go_at_call 179; refine HPW.out.mono ?_; rintro e w3 ⟨rfl, b3⟩
                 unfold failV
                 have hz3 := b3.size
                 have st3 := HT.out.drew.keep b3
                 obtain ⟨q0, q1⟩ := (st3.box 0 (w2.heap.size, [.int .i64 (n : Int), .slice a6 (phiN n) k6]) rfl).cell2
                 have qz := (st3.box 0 (w2.heap.size, [.int .i64 (n : Int), .slice a6 (phiN n) k6]) rfl).2.2
                 dsimp only at qz))
          have R3 := (((R1.out.drewN 1).keep b3 (Nat.le_refl _)).keepF (((Frame.refl w2.heap.size (w2.heap.size + 1) w3).setCell (Nat.le_refl _) (Nat.lt_succ_self _) (.int .i64 0) (p := ⟨w2.heap.size, 0, none⟩)).setCell (Nat.le_refl _) (Nat.lt_succ_self _) (.slice none 0 0) (p := ⟨w2.heap.size, 1, none⟩)) (by omega))
          have RR3 := Lib.hid R3
          have ST3 := Lib.hid (st3.boxSet (u0 := .int .i64 0) (u1 := .slice none 0 0) (by omega) (by intro b hb; simp only [List.mem_cons, List.not_mem_nil, or_false] at hb; rcases hb with rfl <;> dsimp only <;> omega) (by intro s hs'; cases hs'))
          clear st3 b3 R3 HT HO q0 q1 qz
          go_wp2
          go_roundw
          case rel =>
            exact ⟨i + 1, by omega, by go_num, RR3.out, .inr ⟨HN.out, rfl, ST3.out⟩⟩
          case measure => simp [intOf] <;> omega
      · obtain rfl : i = m := by omega
        obtain ⟨d0, d1⟩ := (HT.out.box 1 (w.heap.size, [.int .i64 0, .slice none 0 0]) rfl).cell2
        have dz := (HT.out.box 1 (w.heap.size, [.int .i64 0, .slice none 0 0]) rfl).2.2
        have BB := HT.out.1
        dsimp only at dz
        clear HT
        go_wp2
        refine bodyPost_ret (v := .tuple #[.agg #[.int .i64 (n : Int), .slice a6 (phiN n) k6], .int .i64 0]) (by simp [results, Try.results128, go_sem, d0, d1]) rfl ?_
        refine ⟨.inl ⟨HOK.out, _, _, rfl, ?_⟩, by go_grown⟩
        exact ((HO.out.setOther (.inl (by show w.heap.size < _; omega)) _).setOther (.inl (by show w.heap.size < _; omega)) _).wide (by omega) (by simpa using HO.out.size) (Nat.le_refl _)
    · obtain ⟨p0, p1⟩ := (hst6.box 0 (w2.heap.size, [.int .i64 0, .slice none 0 0]) rfl).cell2
      obtain ⟨d0, d1⟩ := (hst6.box 1 (w.heap.size, [.int .i64 0, .slice none 0 0]) rfl).cell2
      have dz := (hst6.box 1 (w.heap.size, [.int .i64 0, .slice none 0 0]) rfl).2.2
      have BB := hst6.1
      have HN := Lib.hid hbad
      dsimp only at dz
      clear hst6 hbad
      by_cases hlast : i < m
      · go_wp2
        refine bodyPost_ret (v := failV 3) (by simp [results, Try.results128, go_sem, failV, d0, d1]) rfl ?_
        exact ⟨.inr ⟨HN.out, rfl⟩, by go_grown⟩
      · go_wp2
        refine bodyPost_ret (v := failV 3) (by simp [results, Try.results128, go_sem, failV, d0, d1]) rfl ?_
        exact ⟨.inr ⟨HN.out, rfl⟩, by go_grown⟩
end
end Go.Proofs.Ytnhpodlcgkgpbaa
