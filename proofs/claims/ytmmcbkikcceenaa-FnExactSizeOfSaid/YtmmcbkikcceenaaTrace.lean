/- TraceOf of the program and of the model. -/
import Derived.Test.YtmmcbkikcceenaaImages2
namespace Go.Proofs.Ytmmcbkikcceenaa
open Go.RowKit Go.ChangeShapes Go.Sort
set_option linter.unusedVariables false
set_option linter.unusedSimpArgs false

/-- The sum of the first k images' first Parts. -/
def trZ (n L : Nat) (f : Nat → Int) (k : Nat) : Int := sumN k (fun i => im n L f i 0)
theorem trZ_succ (n L : Nat) (f : Nat → Int) (k : Nat) : trZ n L f (k + 1) = trZ n L f k + im n L f k 0 := rfl
theorem trZ_bd {n L : Nat} {f : Nat → Int} (hn : n < 17) (h1 : 1 ≤ n) (hf : Within f L 1000000000) (hL : L ≤ 12) (k : Nat) (hk : k ≤ 12) : -144000000000 ≤ trZ n L f k ∧ trZ n L f k ≤ 144000000000 := by
  have h := sumN_bd (F := fun i => im n L f i 0) (by omega : (0 : Int) ≤ 12000000000) k (fun i _ => im_big hn h1 hf hL i 0 (phiN_pos n (by omega) h1))
  have h2 : (k : Int) * 12000000000 ≤ 12 * 12000000000 := Int.mul_le_mul_of_nonneg_right (by omega) (by omega)
  unfold trZ
  omega
theorem imA_zero {n L : Nat} {f : Nat → Int} (hn : n < 17) (h1 : 1 ≤ n) (k : Nat) : imA n L f k 0 = im n L f k 0 := by
  unfold imA cut; rw [if_pos (show 0 < phiN n from phiN_pos n (by omega) h1)]

section
variable {o : Bool} {lo hi L : Nat} {v : Value} {f : Nat → Int}
theorem TraceOf_impl_bad (x : Int) (w : World) (hs : Sl o w lo hi v L f) (h : ¬ CyP x L f) :
    Calls Try.prog 48 #[.agg #[.int .i64 x, v]] w fun e w' => e = .returned (.tuple #[.int .i64 0, .int .i64 1]) ∧ Below w.heap.size w w' := by
  obtain ⟨av, cap, rfl⟩ := hs.shape
  have st0 := ((((St.start w).addSl ⟨o, lo, hi, .slice av L cap, L, f⟩ hs).alloc (.cells #[.int .i64 x, .slice av L cap] 26)).addBox w.heap.size [.int .i64 x, .slice av L cap] (Box.made _ _ _ _ (fun j v h => by simpa using h)))
  have q0 := st0.sl 0 ⟨o, lo, hi, .slice av L cap, L, f⟩ rfl
  dsimp only at q0
  have HC := Lib.hid h
  clear h hs
  go_enter Try.func48, Try.ntmps48
  go_wp2_with fail
  refine (IsCyclo_no _ _ q0 HC.out).mono ?_
  rintro e w1 ⟨rfl, b1⟩
  clear q0
  have st1 := st0.keep b1
  have hz_w1 := b1.size
  try simp only [World.size_alloc] at hz_w1
  clear st0 b1
  have BB := st1.1
  go_wp2
  refine bodyPost_ret (v := .tuple #[.int .i64 0, .int .i64 1]) (by simp [results, Try.results48, go_sem]) rfl ?_
  exact ⟨rfl, BB⟩

theorem TraceOf_spec_bad (x : Int) (w : World) (hs : Sl o w lo hi v L f) (h : ¬ CyP x L f) :
    Calls Try.prog 49 #[.agg #[.int .i64 x, v]] w fun e w' => e = .returned (.tuple #[.int .i64 0, .int .i64 1]) ∧ Below w.heap.size w w' := by
  obtain ⟨av, cap, rfl⟩ := hs.shape
  have st0 := ((((St.start w).addSl ⟨o, lo, hi, .slice av L cap, L, f⟩ hs).alloc (.cells #[.int .i64 x, .slice av L cap] 26)).addBox w.heap.size [.int .i64 x, .slice av L cap] (Box.made _ _ _ _ (fun j v h => by simpa using h)))
  have q0 := st0.sl 0 ⟨o, lo, hi, .slice av L cap, L, f⟩ rfl
  dsimp only at q0
  have HC := Lib.hid h
  clear h hs
  go_enter Try.func49, Try.ntmps49
  go_wp2_with fail
  refine (l01Is_no _ _ q0 HC.out).mono ?_
  rintro e w1 ⟨rfl, b1⟩
  clear q0
  have st1 := st0.keep b1
  have hz_w1 := b1.size
  try simp only [World.size_alloc] at hz_w1
  clear st0 b1
  have BB := st1.1
  go_wp2
  refine bodyPost_ret (v := .tuple #[.int .i64 0, .int .i64 1]) (by simp [results, Try.results49, go_sem]) rfl ?_
  exact ⟨rfl, BB⟩

set_option maxRecDepth 100000 in
set_option maxHeartbeats 1000000 in
theorem TraceOf_impl_ok (n : Nat) (w : World) (hs : Sl o w lo hi v L f) (h : CyP n L f) :
    Calls Try.prog 48 #[.agg #[.int .i64 (n : Int), v]] w fun e w' => e = .returned (.tuple #[.int .i64 (trZ n L f (phiN n)), .int .i64 0]) ∧ Below w.heap.size w w' := by
  have HB := Lib.hid (fun k (hk : k ≤ 12) => trZ_bd (n := n) (L := L) (by have := h.2.1; omega) (by have := h.1; omega) h.2.2.2 (by have e : L = phiN n := h.2.2.1; have := phi_le12 n (by have := h.2.1; omega) (by have := h.1; omega); omega) k hk)
  have HIB := Lib.hid (fun k => im_big (n := n) (L := L) (f := f) (by have := h.2.1; omega) (by have := h.1; omega) h.2.2.2 (by have e : L = phiN n := h.2.2.1; have := phi_le12 n (by have := h.2.1; omega) (by have := h.1; omega); omega) k)
  obtain ⟨av, cap, rfl⟩ := hs.shape
  have hn1 : 1 ≤ n := by have := h.1; omega
  have hn2 : n ≤ 16 := by have := h.2.1; omega
  have hp := phi_le12 n hn2 hn1
  have hL : L ≤ 12 := by have e : L = phiN n := h.2.2.1; omega
  have hpos : 0 < L := by have e : L = phiN n := h.2.2.1; have := phiN_pos n (by omega) hn1; omega
  have hhs := hs.size
  have st0 := ((((St.start w).addSl ⟨o, lo, hi, .slice av L cap, L, f⟩ hs).alloc (.cells #[.int .i64 (n : Int), .slice av L cap] 26)).addBox w.heap.size [.int .i64 (n : Int), .slice av L cap] (Box.made _ _ _ _ (fun j v h => by simpa using h)))
  have q0 := st0.sl 0 ⟨o, lo, hi, .slice av L cap, L, f⟩ rfl
  dsimp only at q0
  have HC := Lib.hid h
  clear h hs
  go_enter Try.func48, Try.ntmps48
  go_wp2_with fail
  refine (IsCyclo_yes _ _ q0 HC.out).mono ?_
  rintro e w1 ⟨rfl, b1⟩
  clear q0
  have st1 := st0.keep b1
  have hz_w1 := b1.size
  try simp only [World.size_alloc] at hz_w1
  clear st0 b1
  obtain ⟨c0, c1⟩ := (st1.box 0 (w.heap.size, [.int .i64 (n : Int), .slice av L cap]) rfl).cell2
  have q0 := st1.sl 0 ⟨o, lo, hi, .slice av L cap, L, f⟩ rfl
  dsimp only at q0
  go_wp2_with fail
  refine (imagesOf_any n hn1 hn2 _ q0 (by omega)).mono ?_
  rintro e w2 ⟨g, cap2, rfl, r2, b2⟩
  have hz2 := b2.size
  have ST2 := Lib.hid (st1.keep b2)
  have R2 := Lib.hid r2
  clear st1 b2 r2 q0 c0 c1
  go_wp2
  go_loopw [4, 13] (fun s4 s13 wr => ∃ k : Nat, k ≤ phiN n ∧ s4 = .int .i64 (trZ n L f k) ∧ s13 = .int .i64 k ∧ RowE wr w1.heap.size 65 12 g cap2 (phiN n) (fun k => arrL (imA n L f k)) ∧ St w wr [(w.heap.size, [.int .i64 (n : Int), .slice av L cap])] [⟨o, lo, hi, .slice av L cap, L, f⟩]) (fun _ s13 _ => phiN n - (intOf s13).toNat)
  case atStart => exact ⟨0, Nat.zero_le _, rfl, rfl, R2.out, ST2.out⟩
  case round =>
    clear R2 ST2
    obtain ⟨k, hk, rfl, rfl, hr, hst⟩ := hrel
    have HT := Lib.hid hst; clear hst
    have R1 := Lib.hid hr; clear hr
    obtain ⟨hb1, hb2⟩ := HB.out k (by omega)
    obtain ⟨hl, hl'⟩ := R1.out.lt
    by_cases hlt : k < phiN n
    · have hk2 : (k : Int) < (phiN n : Int) := by omega
      have e0 := R1.out.cell (fun _ => arrL_len _) (i := k) (j := 0) hlt (by omega)
      have e1 := R1.out.cell (fun _ => arrL_len _) (i := k) (j := 1) hlt (by omega)
      have e2 := R1.out.cell (fun _ => arrL_len _) (i := k) (j := 2) hlt (by omega)
      have e3 := R1.out.cell (fun _ => arrL_len _) (i := k) (j := 3) hlt (by omega)
      have e4 := R1.out.cell (fun _ => arrL_len _) (i := k) (j := 4) hlt (by omega)
      have e5 := R1.out.cell (fun _ => arrL_len _) (i := k) (j := 5) hlt (by omega)
      have e6 := R1.out.cell (fun _ => arrL_len _) (i := k) (j := 6) hlt (by omega)
      have e7 := R1.out.cell (fun _ => arrL_len _) (i := k) (j := 7) hlt (by omega)
      have e8 := R1.out.cell (fun _ => arrL_len _) (i := k) (j := 8) hlt (by omega)
      have e9 := R1.out.cell (fun _ => arrL_len _) (i := k) (j := 9) hlt (by omega)
      have e10 := R1.out.cell (fun _ => arrL_len _) (i := k) (j := 10) hlt (by omega)
      have e11 := R1.out.cell (fun _ => arrL_len _) (i := k) (j := 11) hlt (by omega)
      obtain ⟨hi1, hi2⟩ := HIB.out k 0 (by omega)
      have HTS := Lib.hid (trZ_succ n L f k)
      have HIZ := Lib.hid (imA_zero (L := L) (f := f) (by omega) hn1 k)
      have hi3 : -12000000000 ≤ imA n L f k 0 := by rw [HIZ.out]; exact hi1
      have hi4 : imA n L f k 0 ≤ 12000000000 := by rw [HIZ.out]; exact hi2
      rw [← HIZ.out] at HTS
      clear hi1 hi2 HIZ
      have HTN := Lib.hid HTS.out
      clear HTS
      generalize imA n L f k = G at *
      have HG := Lib.hid (show arrL G = [.int .i64 (G 0), .int .i64 (G 1), .int .i64 (G 2), .int .i64 (G 3), .int .i64 (G 4), .int .i64 (G 5), .int .i64 (G 6), .int .i64 (G 7), .int .i64 (G 8), .int .i64 (G 9), .int .i64 (G 10), .int .i64 (G 11)] from rfl)
      rw [HG.out] at e0 e1 e2 e3 e4 e5 e6 e7 e8 e9 e10 e11
      simp only [Nat.add_zero, List.getElem?_cons_zero, List.getElem?_cons_succ] at e0 e1 e2 e3 e4 e5 e6 e7 e8 e9 e10 e11
      go_wp2
      go_roundw
      case rel => exact ⟨k + 1, by omega, by rw [HTN.out], by go_num, R1.out.alloc _, HT.out.alloc _⟩
      case measure => simp [intOf] <;> omega
    · obtain rfl : k = phiN n := by omega
      have BB := HT.out.1
      go_wp2
      go_ret2
      exact ⟨rfl, BB⟩

set_option maxRecDepth 100000 in
set_option maxHeartbeats 1000000 in
theorem l02Trace_any (n : Nat) (w : World) (hs : Sl o w lo hi v L f) (h : CyP n L f) :
    Calls Try.prog 124 #[.agg #[.int .i64 (n : Int), v]] w fun e w' => e = .returned (.int .i64 (trZ n L f (phiN n))) ∧ Below w.heap.size w w' := by
  have HB := Lib.hid (fun k (hk : k ≤ 12) => trZ_bd (n := n) (L := L) (by have := h.2.1; omega) (by have := h.1; omega) h.2.2.2 (by have e : L = phiN n := h.2.2.1; have := phi_le12 n (by have := h.2.1; omega) (by have := h.1; omega); omega) k hk)
  have HIB := Lib.hid (fun k => im_big (n := n) (L := L) (f := f) (by have := h.2.1; omega) (by have := h.1; omega) h.2.2.2 (by have e : L = phiN n := h.2.2.1; have := phi_le12 n (by have := h.2.1; omega) (by have := h.1; omega); omega) k)
  obtain ⟨av, cap, rfl⟩ := hs.shape
  have hn1 : 1 ≤ n := by have := h.1; omega
  have hn2 : n ≤ 16 := by have := h.2.1; omega
  have hp := phi_le12 n hn2 hn1
  have hp0 := phiN_pos n (by omega) hn1
  have hL : L ≤ 12 := by have e : L = phiN n := h.2.2.1; omega
  have hhs := hs.size
  have st0 := ((((St.start w).addSl ⟨o, lo, hi, .slice av L cap, L, f⟩ hs).alloc (.cells #[.int .i64 (n : Int), .slice av L cap] 26)).addBox w.heap.size [.int .i64 (n : Int), .slice av L cap] (Box.made _ _ _ _ (fun j v h => by simpa using h)))
  have q0 := st0.sl 0 ⟨o, lo, hi, .slice av L cap, L, f⟩ rfl
  dsimp only at q0
  clear h hs
  go_enter Try.func124, Try.ntmps124
  go_wp2_with fail
  refine (l02Images_any n hn1 hn2 _ q0 (by omega)).mono ?_
  rintro e w2 ⟨g, cap2, g2, cap3, vs, rfl, r2, s2, n2, hne, b2⟩
  have hz2 := b2.size
  simp only [World.size_alloc] at hz2 r2 s2
  have ST2 := Lib.hid (st0.keep b2)
  have R2 := Lib.hid r2
  have S2 := Lib.hid s2
  clear st0 b2 r2 s2 n2 q0
  go_wp2
  go_loopw [5, 6] (fun s5 s6 wr => ∃ k : Nat, k ≤ phiN n ∧ s5 = .int .i64 (trZ n L f k) ∧ s6 = .int .i64 k ∧ RowE wr (w.heap.size + 1) 26 2 g cap2 (phiN n) (fun k => [.int .i64 (n : Int), vs k]) ∧ Sls wr (w.heap.size + 1) g g2 (phiN n) (phiN n) vs (im n L f) ∧ St w wr [(w.heap.size, [.int .i64 (n : Int), .slice av L cap])] [⟨o, lo, hi, .slice av L cap, L, f⟩]) (fun _ s6 _ => phiN n - (intOf s6).toNat)
  case atStart => exact ⟨0, Nat.zero_le _, rfl, rfl, R2.out, S2.out, ST2.out⟩
  case round =>
    clear R2 S2 ST2
    obtain ⟨k, hk, rfl, rfl, hr, hsl, hst⟩ := hrel
    have HT := Lib.hid hst; clear hst
    have R1 := Lib.hid hr; clear hr
    have SS := Lib.hid hsl; clear hsl
    obtain ⟨hb1, hb2⟩ := HB.out k (by omega)
    by_cases hlt : k < phiN n
    · have hk2 : (k : Int) < (phiN n : Int) := by omega
      have e1 := R1.out.cell (fun _ => rfl) (i := k) (j := 1) hlt (by omega)
      simp only [List.getElem?_cons_zero, List.getElem?_cons_succ] at e1
      obtain ⟨lo1, hi1, _, _, _, hv⟩ := SS.out k hlt
      obtain ⟨b, off, cv, hvs, _, _, _, _, hc, _⟩ := hv.at hp0
      rw [hvs] at e1
      have hck := hc 0 hp0
      rw [Nat.add_zero] at hck
      clear hv hc hvs
      obtain ⟨hi1, hi2⟩ := HIB.out k 0 (by omega)
      have HTN := Lib.hid (trZ_succ n L f k)
      generalize im n L f k 0 = y at *
      go_wp2
      go_roundw
      case rel => exact ⟨k + 1, by omega, by rw [HTN.out], by go_num, R1.out, SS.out, HT.out⟩
      case measure => simp [intOf] <;> omega
    · obtain rfl : k = phiN n := by omega
      have BB := HT.out.1
      go_wp2
      go_ret
      exact ⟨rfl, BB⟩

set_option maxRecDepth 100000 in
set_option maxHeartbeats 1000000 in
theorem TraceOf_spec_ok (n : Nat) (w : World) (hs : Sl o w lo hi v L f) (h : CyP n L f) :
    Calls Try.prog 49 #[.agg #[.int .i64 (n : Int), v]] w fun e w' => e = .returned (.tuple #[.int .i64 (trZ n L f (phiN n)), .int .i64 0]) ∧ Below w.heap.size w w' := by
  obtain ⟨av, cap, rfl⟩ := hs.shape
  have hn1 : 1 ≤ n := by have := h.1; omega
  have hn2 : n ≤ 16 := by have := h.2.1; omega
  have hp := phi_le12 n hn2 hn1
  have hL : L ≤ 12 := by have e : L = phiN n := h.2.2.1; omega
  have hpos : 0 < L := by have e : L = phiN n := h.2.2.1; have := phiN_pos n (by omega) hn1; omega
  have hhs := hs.size
  have st0 := ((((St.start w).addSl ⟨o, lo, hi, .slice av L cap, L, f⟩ hs).alloc (.cells #[.int .i64 (n : Int), .slice av L cap] 26)).addBox w.heap.size [.int .i64 (n : Int), .slice av L cap] (Box.made _ _ _ _ (fun j v h => by simpa using h)))
  have q0 := st0.sl 0 ⟨o, lo, hi, .slice av L cap, L, f⟩ rfl
  dsimp only at q0
  have HC := Lib.hid h
  clear h hs
  go_enter Try.func49, Try.ntmps49
  go_wp2_with fail
  refine (l01Is_yes _ _ q0 HC.out).mono ?_
  rintro e w1 ⟨rfl, b1⟩
  clear q0
  have st1 := st0.keep b1
  have hz_w1 := b1.size
  try simp only [World.size_alloc] at hz_w1
  clear st0 b1
  obtain ⟨c0, c1⟩ := (st1.box 0 (w.heap.size, [.int .i64 (n : Int), .slice av L cap]) rfl).cell2
  have q0 := st1.sl 0 ⟨o, lo, hi, .slice av L cap, L, f⟩ rfl
  dsimp only at q0
  go_wp2_with fail
  refine (l02Trace_any n _ q0 HC.out).mono ?_
  rintro e w2 ⟨rfl, b2⟩
  have BB := (st1.keep b2).1
  clear st1 b2 q0 c0 c1
  go_wp2
  go_ret2
  exact ⟨rfl, BB⟩

end
end Go.Proofs.Ytmmcbkikcceenaa
