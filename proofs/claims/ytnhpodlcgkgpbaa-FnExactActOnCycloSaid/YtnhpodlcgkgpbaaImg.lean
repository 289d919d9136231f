/- Galois images: imageParts of the program, l01Galois of the model. -/
import Derived.Test.YtnhpodlcgkgpbaaPowZ
namespace Go.Proofs.Ytnhpodlcgkgpbaa
open Go.RowKit Go.ChangeShapes Go.Sort
set_option linter.unusedVariables false

/-- A list that has the numbers f at the places ix added, one after the other. -/
def foldP (ix : Nat → Nat) (f : Nat → Int) : Nat → Nat → Int
  | 0 => fun _ => 0
  | m + 1 => fun j => if j = ix m then wrap64 (foldP ix f m j + f m) else foldP ix f m j
theorem foldP_inR (ix : Nat → Nat) (f : Nat → Int) : ∀ m j, inR (foldP ix f m j)
  | 0, _ => by simp [foldP, inR]
  | m + 1, j => by
    unfold foldP
    split
    · exact inR_wrap _
    · exact foldP_inR ix f m j
theorem foldP_far {ix : Nat → Nat} {f : Nat → Int} {n : Nat} : ∀ {m}, (∀ i, i < m → ix i < n) → ∀ j, n ≤ j → foldP ix f m j = 0
  | 0, _, _, _ => rfl
  | m + 1, h, j, hj => by
    unfold foldP
    rw [if_neg (by have := h m (Nat.lt_succ_self m); omega)]
    exact foldP_far (fun i hi => h i (Nat.lt_succ_of_lt hi)) j hj
theorem foldP_congr {ix ix' : Nat → Nat} {f f' : Nat → Int} : ∀ {m}, (∀ i, i < m → ix i = ix' i ∧ f i = f' i) → foldP ix f m = foldP ix' f' m
  | 0, _ => rfl
  | m + 1, h => by
    unfold foldP
    rw [foldP_congr (fun i hi => h i (Nat.lt_succ_of_lt hi)), (h m (Nat.lt_succ_self m)).1, (h m (Nat.lt_succ_self m)).2]
/-- Where the program puts the number at i, and where the model does. -/
def ixI (n a : Nat) (i : Nat) : Nat := i * a % n
def ixG (n : Nat) (a : Int) (i : Nat) : Nat := (((i * a).tmod n + n) % n).toNat
theorem ixG_eq (n : Nat) (h1 : 1 ≤ n) (a : Int) (i : Nat) : (((i : Int) * a).tmod n + n) % n = (ixG n a i : Int) ∧ ixG n a i < n ∧ -(n : Int) < ((i : Int) * a).tmod n ∧ ((i : Int) * a).tmod n < n := powIx_eq n h1 (i * a)
theorem ixG_nat (n a i : Nat) (h1 : 1 ≤ n) : ixG n (a : Int) i = ixI n a i := by
  unfold ixG ixI
  rw [show ((i : Int) * (a : Int)) = ((i * a : Nat) : Int) by simp]
  rw [Int.tmod_eq_emod_of_nonneg (by omega)]
  have h2 : ((i * a : Nat) : Int) % (n : Int) = ((i * a % n : Nat) : Int) := by simp
  rw [h2, Int.add_emod_right, ← Int.natCast_emod, Nat.mod_mod]
  exact Int.toNat_natCast _
theorem ixG_bar : ∀ n, n < 17 → 1 ≤ n → ∀ i, i < n → ixG n (-1) i = ixI n (n - 1) i := by decide +kernel
theorem ixI_lt (n a i : Nat) (h1 : 1 ≤ n) : ixI n a i < n := Nat.mod_lt _ (by omega)
/-- The Parts of the image by a. -/
def imgP (n a L : Nat) (f : Nat → Int) : Nat → Int := redP n (foldP (ixI n a) f L)

section
variable {o : Bool} {lo hi L : Nat} {v : Value} {f : Nat → Int}
set_option maxRecDepth 100000 in
set_option maxHeartbeats 1000000 in
theorem imageParts_any (n a : Nat) (h1 : 1 ≤ n) (h2 : n ≤ 16) (ha : a ≤ 16) (w : World) (hs : Sl o w lo hi v L f) (hL : L ≤ 24) :
    Calls Try.prog 127 #[.agg #[.int .i64 (n : Int), v], .int .i64 (a : Int)] w fun e w' => e = .returned (arrV (cut (phiN n) (imgP n a L f))) ∧ Below w.heap.size w w' := by
  obtain ⟨av, cap, rfl⟩ := hs.shape
  have hhs := hs.size
  have st0 := ((((St.start w).addSl ⟨o, lo, hi, .slice av L cap, L, f⟩ hs).alloc (.cells #[.int .i64 (n : Int), .slice av L cap] 24)).addBox w.heap.size [.int .i64 (n : Int), .slice av L cap] (Box.made _ _ _ _ (fun j v h => by simpa using h)))
  replace st0 := ((st0.alloc (.cells (arrC (fun _ => 0)) 136)).addBox (w.heap.size + 1) [.int .i64 0, .int .i64 0, .int .i64 0, .int .i64 0, .int .i64 0, .int .i64 0, .int .i64 0, .int .i64 0, .int .i64 0, .int .i64 0, .int .i64 0, .int .i64 0] (by
    have := Box.made (w.alloc (.cells #[.int .i64 (n : Int), .slice av L cap] 24)) (arrC (fun _ => 0)) 136 [.int .i64 0, .int .i64 0, .int .i64 0, .int .i64 0, .int .i64 0, .int .i64 0, .int .i64 0, .int .i64 0, .int .i64 0, .int .i64 0, .int .i64 0, .int .i64 0] (fun j v h => by simpa [arrC] using h)
    simpa using this)).alloc (.cells (madeCells #[.int .i64 0] 24) 2)
  have hs24 := Sl.made24 ((w.alloc (.cells #[.int .i64 (n : Int), .slice av L cap] 24)).alloc (.cells (arrC (fun _ => 0)) 136))
  simp only [World.size_alloc] at hs24
  have HS24 := Lib.hid hs24
  have HST0 := Lib.hid st0
  clear hs24 st0 hs
  unfold arrC at HS24 HST0
  have hmk := make24
  go_enter Try.func127, Try.ntmps127
  go_wp2
  clear hmk
  go_loopw [12] (fun s12 wr => ∃ k : Nat, k ≤ L ∧ s12 = .int .i64 k ∧ Sl true wr (w.heap.size + 2) (w.heap.size + 3) (.slice (some ⟨w.heap.size + 2, 0, none⟩) 24 24) 24 (foldP (ixI n a) f k) ∧
      St w wr [(w.heap.size + 1, [.int .i64 0, .int .i64 0, .int .i64 0, .int .i64 0, .int .i64 0, .int .i64 0, .int .i64 0, .int .i64 0, .int .i64 0, .int .i64 0, .int .i64 0, .int .i64 0]), (w.heap.size, [.int .i64 (n : Int), .slice av L cap])] [⟨o, lo, hi, .slice av L cap, L, f⟩]) (fun s12 _ => L - (intOf s12).toNat)
  case atStart => exact ⟨0, Nat.zero_le _, rfl, HS24.out, HST0.out⟩
  case round =>
    obtain ⟨k, hk, rfl, hown, hst⟩ := hrel
    have HO := Lib.hid hown; clear hown
    have HT := Lib.hid hst; clear hst
    obtain ⟨d0, d1⟩ := (HT.out.box 1 (w.heap.size, [.int .i64 (n : Int), .slice av L cap]) rfl).cell2
    by_cases hlt : k < L
    · have qa := HT.out.sl 0 ⟨o, lo, hi, .slice av L cap, L, f⟩ rfl
      dsimp only at qa
      obtain ⟨g, off, cap', hv, _, _, _, _, hc, _⟩ := qa.at (by omega)
      obtain ⟨rfl, rfl⟩ : av = some ⟨g, off, none⟩ ∧ cap = cap' := by cases hv; exact ⟨rfl, rfl⟩
      have hck := hc k hlt
      have hfk := qa.bd k hlt
      clear hv hc qa
      have hm : k * a ≤ 24 * 16 := Nat.mul_le_mul (by omega) ha
      obtain ⟨hm1, hm2⟩ : 0 ≤ (k : Int) * (a : Int) ∧ (k : Int) * (a : Int) ≤ 384 := by
        rw [← Int.natCast_mul]; omega
      have hix : (k : Int) * (a : Int) % (n : Int) = (ixI n a k : Int) := by unfold ixI; simp
      have hlt2 := ixI_lt n a k h1
      have hw : foldP (ixI n a) f (k + 1) = fun j => if j = ixI n a k then wrap64 (foldP (ixI n a) f k j + f k) else foldP (ixI n a) f k j := rfl
      have HW := Lib.hid hw; clear hw
      generalize ixI n a k = i at *
      have hck2 := (HO.out.known (by omega)).2.2.2.1 i (by omega)
      have hfr := (HO.out.known (by omega)).2.2.2.2 rfl i
      rw [Nat.zero_add] at hck2
      go_wp2
      go_roundw
      case rel =>
        refine ⟨k + 1, by omega, by go_num, ?_, ?_⟩
        · rw [HW.out]
          refine (HO.out.store0 (i := i) (by omega) (inR_wrap _)).congr (fun j hj => ?_)
          by_cases e : j = i
          · subst e; simp
          · simp [e]
        · exact HT.out.write (lo := w.heap.size + 2) (hi := w.heap.size + 3) ((Frame.refl (w.heap.size + 2) (w.heap.size + 3) wr).setCell (by show w.heap.size + 2 ≤ w.heap.size + 1 + 1; omega) (by show w.heap.size + 1 + 1 < _; omega) _) (by omega) (by intro b hb; simp only [List.mem_cons, List.not_mem_nil, or_false] at hb; rcases hb with rfl | rfl <;> dsimp only <;> omega) (by intro s hs'; simp only [List.mem_cons, List.not_mem_nil, or_false] at hs'; rcases hs' with rfl <;> dsimp only <;> omega)
      case measure => simp [intOf] <;> omega
    · obtain rfl : k = L := by omega
      go_wp2_with fail
      refine (reducedParts_any n h1 h2 _ HO.out).mono ?_
      rintro e w2 ⟨rfl, f2⟩
      have st2 := HT.out.write f2 (by omega) (by intro b hb; simp only [List.mem_cons, List.not_mem_nil, or_false] at hb; rcases hb with rfl | rfl <;> dsimp only <;> omega) (by intro s hs'; simp only [List.mem_cons, List.not_mem_nil, or_false] at hs'; rcases hs' with rfl <;> dsimp only <;> omega)
      have bx := st2.box 0 _ rfl
      have B2 := st2.1
      dsimp only at bx
      have e0 := bx.2.1 0 _ rfl
      have e1 := bx.2.1 1 _ rfl
      have e2 := bx.2.1 2 _ rfl
      have e3 := bx.2.1 3 _ rfl
      have e4 := bx.2.1 4 _ rfl
      have e5 := bx.2.1 5 _ rfl
      have e6 := bx.2.1 6 _ rfl
      have e7 := bx.2.1 7 _ rfl
      have e8 := bx.2.1 8 _ rfl
      have e9 := bx.2.1 9 _ rfl
      have e10 := bx.2.1 10 _ rfl
      have e11 := bx.2.1 11 _ rfl
      have hfz := bx.2.2
      have hlz := bx.1
      clear st2 f2 d0 d1 bx
      generalize hcc : cut (phiN n) (imgP n a k f) = cc
      have hcc2 : cut (phiN n) (redP n (foldP (ixI n a) f k)) = cc := hcc
      rw [hcc2]
      have HCC := Lib.hid hcc
      clear hcc hcc2
      unfold arrV
      go_wp2
      refine bodyPost_ret (v := arrV cc) (by simp [results, Try.results127, go_sem, arrV, e0, e1, e2, e3, e4, e5, e6, e7, e8, e9, e10, e11]) rfl ?_
      exact ⟨by rw [HCC.out], by go_grown⟩

set_option maxRecDepth 100000 in
set_option maxHeartbeats 1000000 in
theorem l01Galois_any (n : Nat) (a : Int) (h1 : 1 ≤ n) (h2 : n ≤ 16) (ha : -16 ≤ a) (ha' : a ≤ 16) (w : World) (hs : Sl o w lo hi v L f) (hL : L ≤ 24) :
    Calls Try.prog 130 #[.agg #[.int .i64 (n : Int), v], .int .i64 a] w fun e w' => ∃ a' cap', e = .returned (.agg #[.int .i64 (n : Int), .slice a' (phiN n) cap']) ∧ Sl true w' w.heap.size w'.heap.size (.slice a' (phiN n) cap') (phiN n) (redP n (foldP (ixG n a) f L)) ∧ Below w.heap.size w w' := by
  obtain ⟨av, cap, rfl⟩ := hs.shape
  have hhs := hs.size
  have st0 := ((((St.start w).addSl ⟨o, lo, hi, .slice av L cap, L, f⟩ hs).alloc (.cells #[.int .i64 (n : Int), .slice av L cap] 24)).addBox w.heap.size [.int .i64 (n : Int), .slice av L cap] (Box.made _ _ _ _ (fun j v h => by simpa using h)))
  replace st0 := ((st0.alloc (.cells #[.int .i64 0, .slice none 0 0] 24)).addBox (w.heap.size + 1) [.int .i64 0, .slice none 0 0] (by
    have := Box.made (w.alloc (.cells #[.int .i64 (n : Int), .slice av L cap] 24)) #[.int .i64 0, .slice none 0 0] 24 [.int .i64 0, .slice none 0 0] (fun j v h => by simpa using h)
    simpa using this)).alloc (.cells (madeCells #[.int .i64 0] n) 2)
  have hsn := Sl.made ((w.alloc (.cells #[.int .i64 (n : Int), .slice av L cap] 24)).alloc (.cells #[.int .i64 0, .slice none 0 0] 24)) (madeCells #[.int .i64 0] n) 2 n n (fun _ => 0) (Nat.le_refl _) (by unfold maxLen; omega) (fun _ _ => by simp [inR]) (fun j hj => madeCells_at _ _ _ hj)
  simp only [World.size_alloc] at hsn
  have HSN := Lib.hid hsn
  have HST0 := Lib.hid st0
  clear hsn st0 hs
  have hmk := run_make_row' (P := Try.prog) 22 2 (.int .i64 0) 8 Try.underlying22 Try.info2 rfl .i64 .i64 n (by omega) (by omega)
  go_enter Try.func130, Try.ntmps130
  go_wp2
  clear hmk
  go_loopw [7] (fun s7 wr => ∃ k : Nat, k ≤ L ∧ s7 = .int .i64 k ∧ Sl true wr (w.heap.size + 2) (w.heap.size + 3) (.slice (some ⟨w.heap.size + 2, 0, none⟩) n n) n (foldP (ixG n a) f k) ∧
      St w wr [(w.heap.size + 1, [.int .i64 0, .slice none 0 0]), (w.heap.size, [.int .i64 (n : Int), .slice av L cap])] [⟨o, lo, hi, .slice av L cap, L, f⟩]) (fun s7 _ => L - (intOf s7).toNat)
  case atStart => exact ⟨0, Nat.zero_le _, rfl, HSN.out, HST0.out⟩
  case round =>
    obtain ⟨k, hk, rfl, hown, hst⟩ := hrel
    have HO := Lib.hid hown; clear hown
    have HT := Lib.hid hst; clear hst
    obtain ⟨d0, d1⟩ := (HT.out.box 1 (w.heap.size, [.int .i64 (n : Int), .slice av L cap]) rfl).cell2
    by_cases hlt : k < L
    · have qa := HT.out.sl 0 ⟨o, lo, hi, .slice av L cap, L, f⟩ rfl
      dsimp only at qa
      obtain ⟨g, off, cap', hv, _, _, _, _, hc, _⟩ := qa.at (by omega)
      obtain ⟨rfl, rfl⟩ : av = some ⟨g, off, none⟩ ∧ cap = cap' := by cases hv; exact ⟨rfl, rfl⟩
      have hck := hc k hlt
      have hfk := qa.bd k hlt
      clear hv hc qa
      obtain ⟨hm1, hm2⟩ : -384 ≤ (k : Int) * a ∧ (k : Int) * a ≤ 384 := by
        have e1 : (k : Int) * a ≤ (k : Int) * 16 := Int.mul_le_mul_of_nonneg_left ha' (by omega)
        have e2 : (k : Int) * (-16) ≤ (k : Int) * a := Int.mul_le_mul_of_nonneg_left ha (by omega)
        omega
      obtain ⟨hi1, hi2, hi3, hi4⟩ := ixG_eq n h1 a k
      have hw : foldP (ixG n a) f (k + 1) = fun j => if j = ixG n a k then wrap64 (foldP (ixG n a) f k j + f k) else foldP (ixG n a) f k j := rfl
      have HW := Lib.hid hw; clear hw
      generalize ixG n a k = i at *
      have hck2 := (HO.out.known (by omega)).2.2.2.1 i (by omega)
      have hfr := (HO.out.known (by omega)).2.2.2.2 rfl i
      rw [Nat.zero_add] at hck2
      have hlt3 : (k : Int) < L := by omega
      go_wp2
      go_region
      go_wp2
      go_roundw
      case rel =>
        refine ⟨k + 1, by omega, by go_num, ?_, ?_⟩
        · rw [HW.out]
          refine ((HO.out.store0 (i := i) (by omega) (inR_wrap _)).drew).congr (fun j hj => ?_)
          by_cases e : j = i
          · subst e; simp
          · simp [e]
        · exact (HT.out.write (lo := w.heap.size + 2) (hi := w.heap.size + 3) ((Frame.refl (w.heap.size + 2) (w.heap.size + 3) wr).setCell (by show w.heap.size + 2 ≤ w.heap.size + 1 + 1; omega) (by show w.heap.size + 1 + 1 < _; omega) _) (by omega) (by intro b hb; simp only [List.mem_cons, List.not_mem_nil, or_false] at hb; rcases hb with rfl | rfl <;> dsimp only <;> omega) (by intro s hs'; simp only [List.mem_cons, List.not_mem_nil, or_false] at hs'; rcases hs' with rfl <;> dsimp only <;> omega)).drew
      case measure => simp [intOf] <;> omega
    · obtain rfl : k = L := by omega
      go_wp2_with fail
      refine (l01Reduce_any n (by omega) (by omega) _ HO.out (by omega)).mono ?_
      rintro e w2 ⟨a1, k1, rfl, s1, b1⟩
      have hz1 := b1.size
      have st1 := HT.out.keep b1
      have hz0 := HO.out.size
      have hpd : pad n (foldP (ixG n a) f k) = foldP (ixG n a) f k := by
        funext j; unfold pad
        by_cases e : j < n
        · rw [if_pos e]
        · rw [if_neg e, foldP_far (n := n) (fun i _ => (ixG_eq n h1 a i).2.1) j (by omega)]
      rw [hpd] at s1
      have S1 := Lib.hid s1
      clear s1 b1 d0 d1 hpd
      obtain ⟨d0, d1⟩ := (st1.box 0 _ rfl).cell2
      have dz := (st1.box 0 _ rfl).2.2
      have B1 := st1.1
      dsimp only at dz
      clear st1
      go_wp2
      refine bodyPost_ret (v := .agg #[.int .i64 (n : Int), .slice a1 (phiN n) k1]) (by simp [results, Try.results130, go_sem, d0, d1]) rfl ?_
      refine ⟨_, _, rfl, ?_, by go_grown⟩
      exact ((S1.out.setOther (.inl (by show w.heap.size + 1 < _; omega)) _).setOther (.inl (by show w.heap.size + 1 < _; omega)) _).wide (by omega) (by simp) (Nat.le_refl _)
end
end Go.Proofs.Ytnhpodlcgkgpbaa
