/- Norms of products are products of norms. Plain facts, no walk. TraceOf of the program and of the model. SizeOf of the program and of the model. The trace of a number times its conjugate is at least 0: it is a sum of squares. Plain facts, no walk. ContentOf of the program and of the model. The form in which a law's walk takes an answer that is a zero value and an error. MultiplyCyclos of the program. PowerCyclo of the program. MultiplyCyclos of the model. PowerCyclo of the model. Products of images: l02Product of the model. NormOf of the program and of the model. Program and model side by side: the same answers, and what is known of them. -/
import Derived.Test.YtdalahgfpbdilaaNormZ
import Derived.Test.YtdalahgfpbdilaaImages2
import Derived.Test.YtdalahgfpbdilaaProdW
import Derived.Test.YtdalahgfpbdilaaTimes
import Derived.Test.YtdalahgfpbdilaaConj
import Derived.Deep.RegionLaw
import Derived.Test.YtdalahgfpbdilaaReal
import Derived.Test.YtdalahgfpbdilaaCycloOf
import Derived.Test.YtdalahgfpbdilaaProdI
import Derived.Test.YtdalahgfpbdilaaPkA
namespace Go.Proofs.Ytdalahgfpbdilaa
section
open Go.RowKit Go.ChangeShapes Go.Sort
set_option linter.unusedVariables false
set_option linter.unusedSimpArgs false

section
variable {n : Nat}
theorem pz_four (hn : n < 17) (h1 : 1 ≤ n) (a b c d : Nat → Int) {j : Nat} (hj : j < phiN n) :
    prodZ n (phiN n) (prodZ n (phiN n) a b) (prodZ n (phiN n) c d) j = prodZ n (phiN n) (prodZ n (phiN n) a c) (prodZ n (phiN n) b d) j := by
  rw [pz_assoc hn h1 a b _ hj, pz_assoc hn h1 a c _ hj]
  exact congrFun (pz_congr (fun _ _ => rfl) (fun i hi => by rw [← pz_assoc hn h1 b c d hi, ← pz_assoc hn h1 c b d hi, prodZ_comm n (phiN n) b c])) j
theorem im_congr (hn : n < 17) (h1 : 1 ≤ n) {f g : Nat → Int} (hf : Within f (phiN n) 1000000000) (hg : Within g (phiN n) 1000000000) (h : ∀ j, j < phiN n → f j = g j) (k : Nat) {j : Nat} (hj : j < phiN n) : im n (phiN n) f k j = im n (phiN n) g k j := by
  rw [im_gal hn h1 hf k hj, im_gal hn h1 hg k hj, galZ_congr h]
theorem prI_congr (hn : n < 17) (h1 : 1 ≤ n) {f g : Nat → Int} (hf : Within f (phiN n) 1000000000) (hg : Within g (phiN n) 1000000000) (h : ∀ j, j < phiN n → f j = g j) (s : Nat) : ∀ k j, j < phiN n → prI n (phiN n) f s k j = prI n (phiN n) g s k j
  | 0, _, _ => rfl
  | k + 1, j, hj => by
    show prodZ n (phiN n) (prI n (phiN n) f s k) (im n (phiN n) f (s + k)) j = prodZ n (phiN n) (prI n (phiN n) g s k) (im n (phiN n) g (s + k)) j
    rw [pz_congr (prI_congr hn h1 hf hg h s k) (fun j hj => im_congr hn h1 hf hg h (s + k) hj)]
theorem prI_mul (hn : n < 17) (h1 : 1 ≤ n) {f g : Nat → Int} (hf : Within f (phiN n) 1000000000) (hg : Within g (phiN n) 1000000000) (hh : Within (prodZ n (phiN n) f g) (phiN n) 1000000000) : ∀ k, k ≤ phiN n → ∀ j, j < phiN n →
    prI n (phiN n) (prodZ n (phiN n) f g) 0 k j = prodZ n (phiN n) (prI n (phiN n) f 0 k) (prI n (phiN n) g 0 k) j
  | 0, _, j, hj => by
    show one0 j = prodZ n (phiN n) one0 one0 j
    rw [pz_one hn h1 one0 hj]
  | k + 1, hk, j, hj => by
    have hr := res_ok n hn h1 (0 + k) (by omega)
    show prodZ n (phiN n) (prI n (phiN n) (prodZ n (phiN n) f g) 0 k) (im n (phiN n) (prodZ n (phiN n) f g) (0 + k)) j = prodZ n (phiN n) (prodZ n (phiN n) (prI n (phiN n) f 0 k) (im n (phiN n) f (0 + k))) (prodZ n (phiN n) (prI n (phiN n) g 0 k) (im n (phiN n) g (0 + k))) j
    rw [pz_congr (prI_mul hn h1 hf hg hh k (by omega)) (fun i hi => show _ = prodZ n (phiN n) (im n (phiN n) f (0 + k)) (im n (phiN n) g (0 + k)) i by
      rw [im_gal hn h1 hh _ hi, gal_prod hn h1 hr.2.1 hr.2.2 f g hi]
      rw [pz_congr (fun j hj => (im_gal hn h1 hf (0 + k) hj).symm) (fun j hj => (im_gal hn h1 hg (0 + k) hj).symm)])]
    exact pz_four hn h1 _ _ _ _ hj
theorem norm_one0 (hn : n < 17) (h1 : 1 ≤ n) {f : Nat → Int} (hf : Within f (phiN n) 1000000000) : ∀ j, j < phiN n → prI n (phiN n) f 0 (phiN n) j = prI n (phiN n) f 0 (phiN n) 0 * one0 j := fun j hj => by
  unfold one0
  by_cases h0 : j = 0
  · subst h0; rw [if_pos rfl, Int.mul_one]
  · rw [if_neg h0, Int.mul_zero, norm_flat hn h1 hf hj (by omega)]
/-- The norm of a product is the product of the norms. -/
theorem norm_mul (hn : n < 17) (h1 : 1 ≤ n) {f g : Nat → Int} (hf : Within f (phiN n) 1000000000) (hg : Within g (phiN n) 1000000000) (hh : Within (prodZ n (phiN n) f g) (phiN n) 1000000000) :
    prI n (phiN n) (prodZ n (phiN n) f g) 0 (phiN n) 0 = prI n (phiN n) f 0 (phiN n) 0 * prI n (phiN n) g 0 (phiN n) 0 := by
  have hp := phi_pos n hn h1
  rw [prI_mul hn h1 hf hg hh (phiN n) (Nat.le_refl _) 0 hp, pz_congr (norm_one0 hn h1 hf) (norm_one0 hn h1 hg), pz_smul, pz_smull, pz_one hn h1 one0 hp]
  generalize prI n (phiN n) f 0 (phiN n) 0 = A
  generalize prI n (phiN n) g 0 (phiN n) 0 = B
  show B * (A * (if 0 = 0 then 1 else 0)) = A * B
  rw [if_pos rfl, Int.mul_one, Int.mul_comm]
end
end

section
open Go.RowKit Go.ChangeShapes Go.Sort
set_option linter.unusedVariables false
set_option linter.unusedSimpArgs false

/-- The sum of the first k images' first Parts. -/
def trZ (n L : Nat) (f : Nat → Int) (k : Nat) : Int := sumN k (fun i => im n L f i 0)
theorem trZ_succ (n L : Nat) (f : Nat → Int) (k : Nat) : trZ n L f (k + 1) = trZ n L f k + im n L f k 0 := rfl
theorem trZ_bd {n L : Nat} {f : Nat → Int} (hn : n < 17) (h1 : 1 ≤ n) (hf : Within f L 1000000000) (hL : L ≤ 12) (k : Nat) (hk : k ≤ 12) : -144000000000 ≤ trZ n L f k ∧ trZ n L f k ≤ 144000000000 := by
  have h := sumN_bd (F := fun i => im n L f i 0) (by omega : (0 : Int) ≤ 12000000000) k (fun i _ => im_big hn h1 hf hL i 0 (phiN_pos n (by omega) h1))
  have h2 : (k : Int) * 12000000000 ≤ 12 * 12000000000 := Int.mul_le_mul_of_nonneg_right (by omega) (by omega)
  unfold trZ
  omega
theorem imA_zero {n L : Nat} {f : Nat → Int} (hn : n < 17) (h1 : 1 ≤ n) (k : Nat) : imA n L f k 0 = im n L f k 0 := by
  unfold imA cut; rw [if_pos (show 0 < phiN n from phiN_pos n (by omega) h1)]

section
variable {o : Bool} {lo hi L : Nat} {v : Value} {f : Nat → Int}
theorem TraceOf_impl_bad (x : Int) (w : World) (hs : Sl o w lo hi v L f) (h : ¬ CyP x L f) :
    Calls Try.prog 77 #[.agg #[.int .i64 x, v]] w fun e w' => e = .returned (.tuple #[.int .i64 0, .int .i64 1]) ∧ Below w.heap.size w w' := by
  obtain ⟨av, cap, rfl⟩ := hs.shape
  have st0 := ((((St.start w).addSl ⟨o, lo, hi, .slice av L cap, L, f⟩ hs).alloc (.cells #[.int .i64 x, .slice av L cap] 28)).addBox w.heap.size [.int .i64 x, .slice av L cap] (Box.made _ _ _ _ (fun j v h => by simpa using h)))
  have q0 := st0.sl 0 ⟨o, lo, hi, .slice av L cap, L, f⟩ rfl
  dsimp only at q0
  have HC := Lib.hid h
  clear h hs
  go_enter Try.func77, Try.ntmps77
  go_wp2_with fail
  refine (IsCyclo_no _ _ q0 HC.out).mono ?_
  rintro e w1 ⟨rfl, b1⟩
  clear q0
  have st1 := st0.keep b1
  have hz_w1 := b1.size
  try simp only [World.size_alloc] at hz_w1
  clear st0 b1
  have BB := st1.1
  go_wp2
  refine bodyPost_ret (v := .tuple #[.int .i64 0, .int .i64 1]) (by simp [results, Try.results77, go_sem]) rfl ?_
  exact ⟨rfl, BB⟩

theorem TraceOf_spec_bad (x : Int) (w : World) (hs : Sl o w lo hi v L f) (h : ¬ CyP x L f) :
    Calls Try.prog 78 #[.agg #[.int .i64 x, v]] w fun e w' => e = .returned (.tuple #[.int .i64 0, .int .i64 1]) ∧ Below w.heap.size w w' := by
  obtain ⟨av, cap, rfl⟩ := hs.shape
  have st0 := ((((St.start w).addSl ⟨o, lo, hi, .slice av L cap, L, f⟩ hs).alloc (.cells #[.int .i64 x, .slice av L cap] 28)).addBox w.heap.size [.int .i64 x, .slice av L cap] (Box.made _ _ _ _ (fun j v h => by simpa using h)))
  have q0 := st0.sl 0 ⟨o, lo, hi, .slice av L cap, L, f⟩ rfl
  dsimp only at q0
  have HC := Lib.hid h
  clear h hs
  go_enter Try.func78, Try.ntmps78
  go_wp2_with fail
  refine (l01Is_no _ _ q0 HC.out).mono ?_
  rintro e w1 ⟨rfl, b1⟩
  clear q0
  have st1 := st0.keep b1
  have hz_w1 := b1.size
  try simp only [World.size_alloc] at hz_w1
  clear st0 b1
  have BB := st1.1
  go_wp2
  refine bodyPost_ret (v := .tuple #[.int .i64 0, .int .i64 1]) (by simp [results, Try.results78, go_sem]) rfl ?_
  exact ⟨rfl, BB⟩

set_option maxRecDepth 100000 in
set_option maxHeartbeats 1000000 in
theorem TraceOf_impl_ok (n : Nat) (w : World) (hs : Sl o w lo hi v L f) (h : CyP n L f) :
    Calls Try.prog 77 #[.agg #[.int .i64 (n : Int), v]] w fun e w' => e = .returned (.tuple #[.int .i64 (trZ n L f (phiN n)), .int .i64 0]) ∧ Below w.heap.size w w' := by
  have HB := Lib.hid (fun k (hk : k ≤ 12) => trZ_bd (n := n) (L := L) (by have := h.2.1; omega) (by have := h.1; omega) h.2.2.2 (by have e : L = phiN n := h.2.2.1; have := phi_le12 n (by have := h.2.1; omega) (by have := h.1; omega); omega) k hk)
  have HIB := Lib.hid (fun k => im_big (n := n) (L := L) (f := f) (by have := h.2.1; omega) (by have := h.1; omega) h.2.2.2 (by have e : L = phiN n := h.2.2.1; have := phi_le12 n (by have := h.2.1; omega) (by have := h.1; omega); omega) k)
  obtain ⟨av, cap, rfl⟩ := hs.shape
  have hn1 : 1 ≤ n := by have := h.1; omega
  have hn2 : n ≤ 16 := by have := h.2.1; omega
  have hp := phi_le12 n hn2 hn1
  have hL : L ≤ 12 := by have e : L = phiN n := h.2.2.1; omega
  have hpos : 0 < L := by have e : L = phiN n := h.2.2.1; have := phiN_pos n (by omega) hn1; omega
  have hhs := hs.size
  have st0 := ((((St.start w).addSl ⟨o, lo, hi, .slice av L cap, L, f⟩ hs).alloc (.cells #[.int .i64 (n : Int), .slice av L cap] 28)).addBox w.heap.size [.int .i64 (n : Int), .slice av L cap] (Box.made _ _ _ _ (fun j v h => by simpa using h)))
  have q0 := st0.sl 0 ⟨o, lo, hi, .slice av L cap, L, f⟩ rfl
  dsimp only at q0
  have HC := Lib.hid h
  clear h hs
  go_enter Try.func77, Try.ntmps77
  go_wp2_with fail
  refine (IsCyclo_yes _ _ q0 HC.out).mono ?_
  rintro e w1 ⟨rfl, b1⟩
  clear q0
  have st1 := st0.keep b1
  have hz_w1 := b1.size
  try simp only [World.size_alloc] at hz_w1
  clear st0 b1
  obtain ⟨c0, c1⟩ := (st1.box 0 (w.heap.size, [.int .i64 (n : Int), .slice av L cap]) rfl).cell2
  have q0 := st1.sl 0 ⟨o, lo, hi, .slice av L cap, L, f⟩ rfl
  dsimp only at q0
  go_wp2_with fail
  refine (imagesOf_any n hn1 hn2 _ q0 (by omega)).mono ?_
  rintro e w2 ⟨g, cap2, rfl, r2, b2⟩
  have hz2 := b2.size
  have ST2 := Lib.hid (st1.keep b2)
  have R2 := Lib.hid r2
  clear st1 b2 r2 q0 c0 c1
  go_wp2
  go_loopw [4, 13] (fun s4 s13 wr => ∃ k : Nat, k ≤ phiN n ∧ s4 = .int .i64 (trZ n L f k) ∧ s13 = .int .i64 k ∧ RowE wr w1.heap.size 101 12 g cap2 (phiN n) (fun k => arrL (imA n L f k)) ∧ St w wr [(w.heap.size, [.int .i64 (n : Int), .slice av L cap])] [⟨o, lo, hi, .slice av L cap, L, f⟩]) (fun _ s13 _ => phiN n - (intOf s13).toNat)
  case atStart => exact ⟨0, Nat.zero_le _, rfl, rfl, R2.out, ST2.out⟩
  case round =>
    clear R2 ST2
    obtain ⟨k, hk, rfl, rfl, hr, hst⟩ := hrel
    have HT := Lib.hid hst; clear hst
    have R1 := Lib.hid hr; clear hr
    obtain ⟨hb1, hb2⟩ := HB.out k (by omega)
    obtain ⟨hl, hl'⟩ := R1.out.lt
    by_cases hlt : k < phiN n
    · have hk2 : (k : Int) < (phiN n : Int) := by omega
      have e0 := R1.out.cell (fun _ => arrL_len _) (i := k) (j := 0) hlt (by omega)
      have e1 := R1.out.cell (fun _ => arrL_len _) (i := k) (j := 1) hlt (by omega)
      have e2 := R1.out.cell (fun _ => arrL_len _) (i := k) (j := 2) hlt (by omega)
      have e3 := R1.out.cell (fun _ => arrL_len _) (i := k) (j := 3) hlt (by omega)
      have e4 := R1.out.cell (fun _ => arrL_len _) (i := k) (j := 4) hlt (by omega)
      have e5 := R1.out.cell (fun _ => arrL_len _) (i := k) (j := 5) hlt (by omega)
      have e6 := R1.out.cell (fun _ => arrL_len _) (i := k) (j := 6) hlt (by omega)
      have e7 := R1.out.cell (fun _ => arrL_len _) (i := k) (j := 7) hlt (by omega)
      have e8 := R1.out.cell (fun _ => arrL_len _) (i := k) (j := 8) hlt (by omega)
      have e9 := R1.out.cell (fun _ => arrL_len _) (i := k) (j := 9) hlt (by omega)
      have e10 := R1.out.cell (fun _ => arrL_len _) (i := k) (j := 10) hlt (by omega)
      have e11 := R1.out.cell (fun _ => arrL_len _) (i := k) (j := 11) hlt (by omega)
      obtain ⟨hi1, hi2⟩ := HIB.out k 0 (by omega)
      have HTS := Lib.hid (trZ_succ n L f k)
      have HIZ := Lib.hid (imA_zero (L := L) (f := f) (by omega) hn1 k)
      have hi3 : -12000000000 ≤ imA n L f k 0 := by rw [HIZ.out]; exact hi1
      have hi4 : imA n L f k 0 ≤ 12000000000 := by rw [HIZ.out]; exact hi2
      rw [← HIZ.out] at HTS
      clear hi1 hi2 HIZ
      have HTN := Lib.hid HTS.out
      clear HTS
      generalize imA n L f k = G at *
      have HG := Lib.hid (show arrL G = [.int .i64 (G 0), .int .i64 (G 1), .int .i64 (G 2), .int .i64 (G 3), .int .i64 (G 4), .int .i64 (G 5), .int .i64 (G 6), .int .i64 (G 7), .int .i64 (G 8), .int .i64 (G 9), .int .i64 (G 10), .int .i64 (G 11)] from rfl)
      rw [HG.out] at e0 e1 e2 e3 e4 e5 e6 e7 e8 e9 e10 e11
      simp only [Nat.add_zero, List.getElem?_cons_zero, List.getElem?_cons_succ] at e0 e1 e2 e3 e4 e5 e6 e7 e8 e9 e10 e11
      go_wp2
      go_roundw
      case rel => exact ⟨k + 1, by omega, by rw [HTN.out], by go_num, R1.out.alloc _, HT.out.alloc _⟩
      case measure => simp [intOf] <;> omega
    · obtain rfl : k = phiN n := by omega
      have BB := HT.out.1
      go_wp2
      go_ret2
      exact ⟨rfl, BB⟩

set_option maxRecDepth 100000 in
set_option maxHeartbeats 1000000 in
theorem l02Trace_any (n : Nat) (w : World) (hs : Sl o w lo hi v L f) (h : CyP n L f) :
    Calls Try.prog 180 #[.agg #[.int .i64 (n : Int), v]] w fun e w' => e = .returned (.int .i64 (trZ n L f (phiN n))) ∧ Below w.heap.size w w' := by
  have HB := Lib.hid (fun k (hk : k ≤ 12) => trZ_bd (n := n) (L := L) (by have := h.2.1; omega) (by have := h.1; omega) h.2.2.2 (by have e : L = phiN n := h.2.2.1; have := phi_le12 n (by have := h.2.1; omega) (by have := h.1; omega); omega) k hk)
  have HIB := Lib.hid (fun k => im_big (n := n) (L := L) (f := f) (by have := h.2.1; omega) (by have := h.1; omega) h.2.2.2 (by have e : L = phiN n := h.2.2.1; have := phi_le12 n (by have := h.2.1; omega) (by have := h.1; omega); omega) k)
  obtain ⟨av, cap, rfl⟩ := hs.shape
  have hn1 : 1 ≤ n := by have := h.1; omega
  have hn2 : n ≤ 16 := by have := h.2.1; omega
  have hp := phi_le12 n hn2 hn1
  have hp0 := phiN_pos n (by omega) hn1
  have hL : L ≤ 12 := by have e : L = phiN n := h.2.2.1; omega
  have hhs := hs.size
  have st0 := ((((St.start w).addSl ⟨o, lo, hi, .slice av L cap, L, f⟩ hs).alloc (.cells #[.int .i64 (n : Int), .slice av L cap] 28)).addBox w.heap.size [.int .i64 (n : Int), .slice av L cap] (Box.made _ _ _ _ (fun j v h => by simpa using h)))
  have q0 := st0.sl 0 ⟨o, lo, hi, .slice av L cap, L, f⟩ rfl
  dsimp only at q0
  clear h hs
  go_enter Try.func180, Try.ntmps180
  go_wp2_with fail
  refine (l02Images_any n hn1 hn2 _ q0 (by omega)).mono ?_
  rintro e w2 ⟨g, cap2, g2, cap3, vs, rfl, r2, s2, n2, hne, b2⟩
  have hz2 := b2.size
  simp only [World.size_alloc] at hz2 r2 s2
  have ST2 := Lib.hid (st0.keep b2)
  have R2 := Lib.hid r2
  have S2 := Lib.hid s2
  clear st0 b2 r2 s2 n2 q0
  go_wp2
  go_loopw [5, 6] (fun s5 s6 wr => ∃ k : Nat, k ≤ phiN n ∧ s5 = .int .i64 (trZ n L f k) ∧ s6 = .int .i64 k ∧ RowE wr (w.heap.size + 1) 28 2 g cap2 (phiN n) (fun k => [.int .i64 (n : Int), vs k]) ∧ Sls wr (w.heap.size + 1) g g2 (phiN n) (phiN n) vs (im n L f) ∧ St w wr [(w.heap.size, [.int .i64 (n : Int), .slice av L cap])] [⟨o, lo, hi, .slice av L cap, L, f⟩]) (fun _ s6 _ => phiN n - (intOf s6).toNat)
  case atStart => exact ⟨0, Nat.zero_le _, rfl, rfl, R2.out, S2.out, ST2.out⟩
  case round =>
    clear R2 S2 ST2
    obtain ⟨k, hk, rfl, rfl, hr, hsl, hst⟩ := hrel
    have HT := Lib.hid hst; clear hst
    have R1 := Lib.hid hr; clear hr
    have SS := Lib.hid hsl; clear hsl
    obtain ⟨hb1, hb2⟩ := HB.out k (by omega)
    by_cases hlt : k < phiN n
    · have hk2 : (k : Int) < (phiN n : Int) := by omega
      have e1 := R1.out.cell (fun _ => rfl) (i := k) (j := 1) hlt (by omega)
      simp only [List.getElem?_cons_zero, List.getElem?_cons_succ] at e1
      obtain ⟨lo1, hi1, _, _, _, hv⟩ := SS.out k hlt
      obtain ⟨b, off, cv, hvs, _, _, _, _, hc, _⟩ := hv.at hp0
      rw [hvs] at e1
      have hck := hc 0 hp0
      rw [Nat.add_zero] at hck
      clear hv hc hvs
      obtain ⟨hi1, hi2⟩ := HIB.out k 0 (by omega)
      have HTN := Lib.hid (trZ_succ n L f k)
      generalize im n L f k 0 = y at *
      go_wp2
      go_roundw
      case rel => exact ⟨k + 1, by omega, by rw [HTN.out], by go_num, R1.out, SS.out, HT.out⟩
      case measure => simp [intOf] <;> omega
    · obtain rfl : k = phiN n := by omega
      have BB := HT.out.1
      go_wp2
      go_ret
      exact ⟨rfl, BB⟩

set_option maxRecDepth 100000 in
set_option maxHeartbeats 1000000 in
theorem TraceOf_spec_ok (n : Nat) (w : World) (hs : Sl o w lo hi v L f) (h : CyP n L f) :
    Calls Try.prog 78 #[.agg #[.int .i64 (n : Int), v]] w fun e w' => e = .returned (.tuple #[.int .i64 (trZ n L f (phiN n)), .int .i64 0]) ∧ Below w.heap.size w w' := by
  obtain ⟨av, cap, rfl⟩ := hs.shape
  have hn1 : 1 ≤ n := by have := h.1; omega
  have hn2 : n ≤ 16 := by have := h.2.1; omega
  have hp := phi_le12 n hn2 hn1
  have hL : L ≤ 12 := by have e : L = phiN n := h.2.2.1; omega
  have hpos : 0 < L := by have e : L = phiN n := h.2.2.1; have := phiN_pos n (by omega) hn1; omega
  have hhs := hs.size
  have st0 := ((((St.start w).addSl ⟨o, lo, hi, .slice av L cap, L, f⟩ hs).alloc (.cells #[.int .i64 (n : Int), .slice av L cap] 28)).addBox w.heap.size [.int .i64 (n : Int), .slice av L cap] (Box.made _ _ _ _ (fun j v h => by simpa using h)))
  have q0 := st0.sl 0 ⟨o, lo, hi, .slice av L cap, L, f⟩ rfl
  dsimp only at q0
  have HC := Lib.hid h
  clear h hs
  go_enter Try.func78, Try.ntmps78
  go_wp2_with fail
  refine (l01Is_yes _ _ q0 HC.out).mono ?_
  rintro e w1 ⟨rfl, b1⟩
  clear q0
  have st1 := st0.keep b1
  have hz_w1 := b1.size
  try simp only [World.size_alloc] at hz_w1
  clear st0 b1
  obtain ⟨c0, c1⟩ := (st1.box 0 (w.heap.size, [.int .i64 (n : Int), .slice av L cap]) rfl).cell2
  have q0 := st1.sl 0 ⟨o, lo, hi, .slice av L cap, L, f⟩ rfl
  dsimp only at q0
  go_wp2_with fail
  refine (l02Trace_any n _ q0 HC.out).mono ?_
  rintro e w2 ⟨rfl, b2⟩
  have BB := (st1.keep b2).1
  clear st1 b2 q0 c0 c1
  go_wp2
  go_ret2
  exact ⟨rfl, BB⟩

end
end

section
open Go.RowKit Go.ChangeShapes Go.Sort
set_option linter.unusedVariables false
set_option linter.unusedSimpArgs false

/-- The product of a number and its conjugate, and its trace. -/
def szP (n L : Nat) (f : Nat → Int) : Nat → Int := prodZ n L f (imgP n (n - 1) L f)
def szZ (n L : Nat) (f : Nat → Int) : Int := trZ n (phiN n) (szP n L f) (phiN n)
def szOk (n L : Nat) (f : Nat → Int) : Prop := Within (szP n L f) (phiN n) 1000000000
theorem sz_cut {n L : Nat} {f : Nat → Int} (hL : L = phiN n) : prodZ n L f (cut (phiN n) (imgP n (n - 1) L f)) = szP n L f := by
  subst hL
  exact pz_congr (fun _ _ => rfl) (fun j hj => by unfold cut; rw [if_pos hj])
theorem sz_cy {n L : Nat} {f : Nat → Int} (h : CyP n L f) (hk : szOk n L f) : CyP n (phiN n) (szP n L f) := ⟨h.1, h.2.1, rfl, hk⟩

section
variable {o : Bool} {lo hi L : Nat} {v : Value} {f : Nat → Int}
theorem SizeOf_impl_bad (x : Int) (w : World) (hs : Sl o w lo hi v L f) (h : ¬ CyP x L f) :
    Calls Try.prog 80 #[.agg #[.int .i64 x, v]] w fun e w' => e = .returned (.tuple #[.int .i64 0, .int .i64 1]) ∧ Below w.heap.size w w' := by
  obtain ⟨av, cap, rfl⟩ := hs.shape
  have st0 := ((((St.start w).addSl ⟨o, lo, hi, .slice av L cap, L, f⟩ hs).alloc (.cells #[.int .i64 x, .slice av L cap] 28)).addBox w.heap.size [.int .i64 x, .slice av L cap] (Box.made _ _ _ _ (fun j v h => by simpa using h)))
  have q0 := st0.sl 0 ⟨o, lo, hi, .slice av L cap, L, f⟩ rfl
  dsimp only at q0
  have HC := Lib.hid h
  clear h hs
  go_enter Try.func80, Try.ntmps80
  go_wp2_with fail
  refine (IsCyclo_no _ _ q0 HC.out).mono ?_
  rintro e w1 ⟨rfl, b1⟩
  clear q0
  have st1 := st0.keep b1
  have hz_w1 := b1.size
  try simp only [World.size_alloc] at hz_w1
  clear st0 b1
  have BB := st1.1
  go_wp2
  refine bodyPost_ret (v := .tuple #[.int .i64 0, .int .i64 1]) (by simp [results, Try.results80, go_sem]) rfl ?_
  exact ⟨rfl, BB⟩

theorem SizeOf_spec_bad (x : Int) (w : World) (hs : Sl o w lo hi v L f) (h : ¬ CyP x L f) :
    Calls Try.prog 81 #[.agg #[.int .i64 x, v]] w fun e w' => e = .returned (.tuple #[.int .i64 0, .int .i64 1]) ∧ Below w.heap.size w w' := by
  obtain ⟨av, cap, rfl⟩ := hs.shape
  have st0 := ((((St.start w).addSl ⟨o, lo, hi, .slice av L cap, L, f⟩ hs).alloc (.cells #[.int .i64 x, .slice av L cap] 28)).addBox w.heap.size [.int .i64 x, .slice av L cap] (Box.made _ _ _ _ (fun j v h => by simpa using h)))
  have q0 := st0.sl 0 ⟨o, lo, hi, .slice av L cap, L, f⟩ rfl
  dsimp only at q0
  have HC := Lib.hid h
  clear h hs
  go_enter Try.func81, Try.ntmps81
  go_wp2_with fail
  refine (l01Is_no _ _ q0 HC.out).mono ?_
  rintro e w1 ⟨rfl, b1⟩
  clear q0
  have st1 := st0.keep b1
  have hz_w1 := b1.size
  try simp only [World.size_alloc] at hz_w1
  clear st0 b1
  have BB := st1.1
  go_wp2
  refine bodyPost_ret (v := .tuple #[.int .i64 0, .int .i64 1]) (by simp [results, Try.results81, go_sem]) rfl ?_
  exact ⟨rfl, BB⟩

set_option maxRecDepth 100000 in
set_option maxHeartbeats 4000000 in
theorem SizeOf_impl_ok (n : Nat) (w : World) (hs : Sl o w lo hi v L f) (h : CyP n L f) (hk : szOk n L f) :
    Calls Try.prog 80 #[.agg #[.int .i64 (n : Int), v]] w fun e w' => e = .returned (.tuple #[.int .i64 (szZ n L f), .int .i64 0]) ∧ Below w.heap.size w w' := by
  have HK := Lib.hid hk
  have HF := Lib.hid h.2.2.2
  have HLP := Lib.hid (show L = phiN n from h.2.2.1)
  have HCP := Lib.hid (sz_cy h hk)
  clear hk
  obtain ⟨av, cap, rfl⟩ := hs.shape
  have hn1 : 1 ≤ n := by have := h.1; omega
  have hn2 : n ≤ 16 := by have := h.2.1; omega
  have hp := phi_le12 n hn2 hn1
  have hL : L ≤ 12 := by have e : L = phiN n := h.2.2.1; omega
  have hpos : 0 < L := by have e : L = phiN n := h.2.2.1; have := phiN_pos n (by omega) hn1; omega
  have hhs := hs.size
  have st0 := ((((St.start w).addSl ⟨o, lo, hi, .slice av L cap, L, f⟩ hs).alloc (.cells #[.int .i64 (n : Int), .slice av L cap] 28)).addBox w.heap.size [.int .i64 (n : Int), .slice av L cap] (Box.made _ _ _ _ (fun j v h => by simpa using h)))
  have q0 := st0.sl 0 ⟨o, lo, hi, .slice av L cap, L, f⟩ rfl
  dsimp only at q0
  have HC := Lib.hid h
  clear h hs
  go_enter Try.func80, Try.ntmps80
  go_wp2_with fail
  refine (IsCyclo_yes _ _ q0 HC.out).mono ?_
  rintro e w1 ⟨rfl, b1⟩
  clear q0
  have st1 := st0.keep b1
  have hz_w1 := b1.size
  try simp only [World.size_alloc] at hz_w1
  clear st0 b1
  obtain ⟨c0, c1⟩ := (st1.box 0 (w.heap.size, [.int .i64 (n : Int), .slice av L cap]) rfl).cell2
  have hp0 := phiN_pos n (by omega) hn1
  have hl0 : w.heap.size < w1.heap.size := by omega
  have HSUB := Lib.hid (show IntKind.i64.wrap ((n : Int) - 1) = ((n - 1 : Nat) : Int) from by rw [IntWalk.i64_in _ (by omega)]; omega)
  have HSUB2 := Lib.hid (show ((n : Int) - 1) = ((n - 1 : Nat) : Int) from by omega)
  have HBI := Lib.hid (img_big (n := n) (a := n - 1) (L := L) (f := f) (by omega) hn1 HF.out hL)
  have q0 := st1.sl 0 ⟨o, lo, hi, .slice av L cap, L, f⟩ rfl
  dsimp only at q0
  have HIM := Lib.hid (imageParts_any n (n - 1) hn1 hn2 (by omega) w1 q0 (by omega))
  have HCB := Lib.hid (show Within (cut (phiN n) (imgP n (n - 1) L f)) 12 12000000000 from fun j _ => by unfold cut; split; exact HBI.out j (by assumption); omega)
  have HCZ := Lib.hid (show ∀ j, L ≤ j → j < 12 → (cut (phiN n) (imgP n (n - 1) L f)) j = 0 from fun j h1 _ => by have := HLP.out; unfold cut; rw [if_neg (by omega)])
  have HSZ := Lib.hid (sz_cut (f := f) HLP.out)
  generalize cut (phiN n) (imgP n (n - 1) L f) = CJ at *
  unfold arrV at HIM
  go_wp2_with (go_at_call 143; first | rw [HSUB.out] | rw [HSUB2.out]; refine HIM.out.mono ?_; rintro e w6 ⟨rfl, b6⟩)
  have hz6 := b6.size
  have S6 := Lib.hid (Sl.arr w6 CJ 101 (fun j hj => by have := HCB.out j hj; unfold inR; omega))
  have st6 := (st1.keep b6).alloc (.cells (arrC CJ) 101)
  have hl6 : w.heap.size < w6.heap.size := by omega
  clear st1 b6 q0 c0 c1 HIM
  unfold arrC at st6 S6
  obtain ⟨c0, c1⟩ := (st6.box 0 (w.heap.size, [.int .i64 (n : Int), .slice av L cap]) rfl).cell2
  have q6 := st6.sl 0 ⟨o, lo, hi, .slice av L cap, L, f⟩ rfl
  dsimp only at q6
  go_wp2_with fail
  go_region_law (first
      | (go_simp; go_at_call 141; refine (productWithin_ok n hn1 hn2 _ q6.drew S6.out.drew (Within.big HF.out) HCB.out (by omega) hL (by omega) HCZ.out (by rw [HSZ.out]; exact HK.out)).mono ?_; try rw [HSZ.out]
         rintro e w7 ⟨a7, k7, rfl, s7, b7⟩
         have hz7 := b7.size
         have st7 := st6.drew.keep b7)
      | (go_simp; go_at_call 141; refine (productWithin_ok n hn1 hn2 _ (q6.alloc (.cells #[.int .i64 0, .slice none 0 0] 28)).drew (S6.out.alloc (.cells #[.int .i64 0, .slice none 0 0] 28)).drew (Within.big HF.out) HCB.out (by omega) hL (by omega) HCZ.out (by rw [HSZ.out]; exact HK.out)).mono ?_; try rw [HSZ.out]
         rintro e w7 ⟨a7, k7, rfl, s7, b7⟩
         have hz7 := b7.size
         have st7 := (st6.boxNew (.int .i64 0) (.slice none 0 0) 28).drew.keep b7
         have bx7 := st7.box 0 _ rfl
         dsimp only at bx7
         simp only [World.size_alloc] at bx7
         obtain ⟨q0', q1'⟩ := bx7.cell2
         have qz' := bx7.2.2))
  all_goals first
    | (have _g := bx7
       simp only [World.size_drew, World.size_alloc] at hz7
       have hb7 : w6.heap.size + 1 < w7.heap.size := by omega
       have W8 := bx7.set2 (u0 := .int .i64 (n : Int)) (u1 := .slice a7 (phiN n) k7)
       have BB := (st7.tailB.set2 (b := w6.heap.size + 1) (i := 0) (j := 1) (u := .int .i64 (n : Int)) (v := .slice a7 (phiN n) k7) (by omega) (by intro b hb; simp only [List.mem_cons, List.not_mem_nil, or_false] at hb; rcases hb with rfl <;> dsimp only <;> omega) (by intro s hs'; simp only [List.mem_cons, List.not_mem_nil, or_false] at hs'; rcases hs' with rfl <;> dsimp only <;> omega)).1
       have c8 := W8.cell2
       have q8 := (s7.setOther (p := ⟨w6.heap.size + 1, 0, none⟩) (.inl (by show w6.heap.size + 1 < ((w6.alloc _).alloc _).heap.size; simp only [World.size_alloc]; omega)) (.int .i64 (n : Int))).setOther (p := ⟨w6.heap.size + 1, 1, none⟩) (.inl (by show w6.heap.size + 1 < ((w6.alloc _).alloc _).heap.size; simp only [World.size_alloc]; omega)) (.slice a7 (phiN n) k7)
       have c8a := c8.1
       have c8b := c8.2
       clear st7 b7 st6 S6 c8
       go_wp2_with fail
       refine (TraceOf_impl_ok n _ q8 HCP.out).mono ?_
       rintro e w9 ⟨rfl, b9⟩
       have BB9 := BB.trans (b9.mono BB.size)
       clear q8 c8a c8b b9 BB
       go_wp2
       go_ret2
       exact ⟨rfl, BB9⟩)
    | (have st8 := st7.boxNew (.int .i64 (n : Int)) (.slice a7 (phiN n) k7) 28
       have c8 := (st8.box 0 (w7.heap.size, [.int .i64 (n : Int), .slice a7 (phiN n) k7]) rfl).cell2
       have BB := st8.1
       have q8 := s7.alloc (.cells #[.int .i64 (n : Int), .slice a7 (phiN n) k7] 28)
       clear st8
       have c8a := c8.1
       have c8b := c8.2
       clear st7 b7 st6 S6 c8
       go_wp2_with fail
       refine (TraceOf_impl_ok n _ q8 HCP.out).mono ?_
       rintro e w9 ⟨rfl, b9⟩
       have BB9 := BB.trans (b9.mono BB.size)
       clear q8 c8a c8b b9 BB
       go_wp2
       go_ret2
       exact ⟨rfl, BB9⟩)

set_option maxRecDepth 100000 in
set_option maxHeartbeats 4000000 in
theorem SizeOf_impl_big (n : Nat) (w : World) (hs : Sl o w lo hi v L f) (h : CyP n L f) (hk : ¬ szOk n L f) :
    Calls Try.prog 80 #[.agg #[.int .i64 (n : Int), v]] w fun e w' => e = .returned (.tuple #[.int .i64 0, .int .i64 3]) ∧ Below w.heap.size w w' := by
  have HK := Lib.hid hk
  have HF := Lib.hid h.2.2.2
  have HLP := Lib.hid (show L = phiN n from h.2.2.1)
  clear hk
  obtain ⟨av, cap, rfl⟩ := hs.shape
  have hn1 : 1 ≤ n := by have := h.1; omega
  have hn2 : n ≤ 16 := by have := h.2.1; omega
  have hp := phi_le12 n hn2 hn1
  have hL : L ≤ 12 := by have e : L = phiN n := h.2.2.1; omega
  have hpos : 0 < L := by have e : L = phiN n := h.2.2.1; have := phiN_pos n (by omega) hn1; omega
  have hhs := hs.size
  have st0 := ((((St.start w).addSl ⟨o, lo, hi, .slice av L cap, L, f⟩ hs).alloc (.cells #[.int .i64 (n : Int), .slice av L cap] 28)).addBox w.heap.size [.int .i64 (n : Int), .slice av L cap] (Box.made _ _ _ _ (fun j v h => by simpa using h)))
  have q0 := st0.sl 0 ⟨o, lo, hi, .slice av L cap, L, f⟩ rfl
  dsimp only at q0
  have HC := Lib.hid h
  clear h hs
  go_enter Try.func80, Try.ntmps80
  go_wp2_with fail
  refine (IsCyclo_yes _ _ q0 HC.out).mono ?_
  rintro e w1 ⟨rfl, b1⟩
  clear q0
  have st1 := st0.keep b1
  have hz_w1 := b1.size
  try simp only [World.size_alloc] at hz_w1
  clear st0 b1
  obtain ⟨c0, c1⟩ := (st1.box 0 (w.heap.size, [.int .i64 (n : Int), .slice av L cap]) rfl).cell2
  have hp0 := phiN_pos n (by omega) hn1
  have hl0 : w.heap.size < w1.heap.size := by omega
  have HSUB := Lib.hid (show IntKind.i64.wrap ((n : Int) - 1) = ((n - 1 : Nat) : Int) from by rw [IntWalk.i64_in _ (by omega)]; omega)
  have HSUB2 := Lib.hid (show ((n : Int) - 1) = ((n - 1 : Nat) : Int) from by omega)
  have HBI := Lib.hid (img_big (n := n) (a := n - 1) (L := L) (f := f) (by omega) hn1 HF.out hL)
  have q0 := st1.sl 0 ⟨o, lo, hi, .slice av L cap, L, f⟩ rfl
  dsimp only at q0
  have HIM := Lib.hid (imageParts_any n (n - 1) hn1 hn2 (by omega) w1 q0 (by omega))
  have HCB := Lib.hid (show Within (cut (phiN n) (imgP n (n - 1) L f)) 12 12000000000 from fun j _ => by unfold cut; split; exact HBI.out j (by assumption); omega)
  have HCZ := Lib.hid (show ∀ j, L ≤ j → j < 12 → (cut (phiN n) (imgP n (n - 1) L f)) j = 0 from fun j h1 _ => by have := HLP.out; unfold cut; rw [if_neg (by omega)])
  have HSZ := Lib.hid (sz_cut (f := f) HLP.out)
  generalize cut (phiN n) (imgP n (n - 1) L f) = CJ at *
  unfold arrV at HIM
  go_wp2_with (go_at_call 143; first | rw [HSUB.out] | rw [HSUB2.out]; refine HIM.out.mono ?_; rintro e w6 ⟨rfl, b6⟩)
  have hz6 := b6.size
  have S6 := Lib.hid (Sl.arr w6 CJ 101 (fun j hj => by have := HCB.out j hj; unfold inR; omega))
  have st6 := (st1.keep b6).alloc (.cells (arrC CJ) 101)
  have hl6 : w.heap.size < w6.heap.size := by omega
  clear st1 b6 q0 c0 c1 HIM
  unfold arrC at st6 S6
  obtain ⟨c0, c1⟩ := (st6.box 0 (w.heap.size, [.int .i64 (n : Int), .slice av L cap]) rfl).cell2
  have q6 := st6.sl 0 ⟨o, lo, hi, .slice av L cap, L, f⟩ rfl
  dsimp only at q6
  go_wp2_with fail
  go_region_law (first
      | (go_simp; go_at_call 141; refine (productWithin_big n hn1 hn2 _ q6.drew S6.out.drew (Within.big HF.out) HCB.out (by omega) hL (by omega) HCZ.out (by rw [HSZ.out]; exact HK.out)).mono ?_; try rw [HSZ.out]
         rintro e w7 ⟨rfl, b7⟩
         unfold failV
         have hz7 := b7.size
         have st7 := st6.drew.keep b7)
      | (go_simp; go_at_call 141; refine (productWithin_big n hn1 hn2 _ (q6.alloc (.cells #[.int .i64 0, .slice none 0 0] 28)).drew (S6.out.alloc (.cells #[.int .i64 0, .slice none 0 0] 28)).drew (Within.big HF.out) HCB.out (by omega) hL (by omega) HCZ.out (by rw [HSZ.out]; exact HK.out)).mono ?_; try rw [HSZ.out]
         rintro e w7 ⟨rfl, b7⟩
         unfold failV
         have hz7 := b7.size
         have st7 := (st6.boxNew (.int .i64 0) (.slice none 0 0) 28).drew.keep b7
         have bx7 := st7.box 0 _ rfl
         dsimp only at bx7
         simp only [World.size_alloc] at bx7
         obtain ⟨q0', q1'⟩ := bx7.cell2
         have qz' := bx7.2.2))
  all_goals first
    | (have _g := bx7
       simp only [World.size_drew, World.size_alloc] at hz7
       have hb7 : w6.heap.size + 1 < w7.heap.size := by omega
       have W8 := bx7.set2 (u0 := .int .i64 0) (u1 := .slice none 0 0)
       have BB := (st7.tailB.set2 (b := w6.heap.size + 1) (i := 0) (j := 1) (u := .int .i64 0) (v := .slice none 0 0) (by omega) (by intro b hb; simp only [List.mem_cons, List.not_mem_nil, or_false] at hb; rcases hb with rfl <;> dsimp only <;> omega) (by intro s hs'; simp only [List.mem_cons, List.not_mem_nil, or_false] at hs'; rcases hs' with rfl <;> dsimp only <;> omega)).1
       have c8 := W8.cell2
       clear st7 b7 st6 S6 c8
       go_wp2
       go_ret2
       exact ⟨rfl, BB⟩)
    | (have st8 := st7.boxNew (.int .i64 0) (.slice none 0 0) 28
       have c8 := (st8.box 0 (w7.heap.size, [.int .i64 0, .slice none 0 0]) rfl).cell2
       have BB := st8.1
       clear st8
       clear st7 b7 st6 S6 c8
       go_wp2
       go_ret2
       exact ⟨rfl, BB⟩)

set_option maxRecDepth 100000 in
set_option maxHeartbeats 4000000 in
theorem SizeOf_spec_ok (n : Nat) (w : World) (hs : Sl o w lo hi v L f) (h : CyP n L f) (hk : szOk n L f) :
    Calls Try.prog 81 #[.agg #[.int .i64 (n : Int), v]] w fun e w' => e = .returned (.tuple #[.int .i64 (szZ n L f), .int .i64 0]) ∧ Below w.heap.size w w' := by
  have HK := Lib.hid hk
  have HF := Lib.hid h.2.2.2
  have hLP : L = phiN n := h.2.2.1
  have HCP := Lib.hid (sz_cy h hk)
  clear hk
  subst hLP
  obtain ⟨av, cap, rfl⟩ := hs.shape
  have hn1 : 1 ≤ n := by have := h.1; omega
  have hn2 : n ≤ 16 := by have := h.2.1; omega
  have hp := phi_le12 n hn2 hn1
  have hL : phiN n ≤ 12 := by have e : phiN n = phiN n := h.2.2.1; omega
  have hpos : 0 < phiN n := by have e : phiN n = phiN n := h.2.2.1; have := phiN_pos n (by omega) hn1; omega
  have hhs := hs.size
  have st0 := ((((St.start w).addSl ⟨o, lo, hi, .slice av (phiN n) cap, phiN n, f⟩ hs).alloc (.cells #[.int .i64 (n : Int), .slice av (phiN n) cap] 28)).addBox w.heap.size [.int .i64 (n : Int), .slice av (phiN n) cap] (Box.made _ _ _ _ (fun j v h => by simpa using h)))
  have q0 := st0.sl 0 ⟨o, lo, hi, .slice av (phiN n) cap, phiN n, f⟩ rfl
  dsimp only at q0
  have HC := Lib.hid h
  clear h hs
  go_enter Try.func81, Try.ntmps81
  go_wp2_with fail
  refine (l01Is_yes _ _ q0 HC.out).mono ?_
  rintro e w1 ⟨rfl, b1⟩
  clear q0
  have st1 := st0.keep b1
  have hz_w1 := b1.size
  try simp only [World.size_alloc] at hz_w1
  clear st0 b1
  obtain ⟨c0, c1⟩ := (st1.box 0 (w.heap.size, [.int .i64 (n : Int), .slice av (phiN n) cap]) rfl).cell2
  have hp0 := phiN_pos n (by omega) hn1
  have hle := phi_le_n (n := n)
  have hl0 : w.heap.size < w1.heap.size := by omega
  have HBI := Lib.hid (img_big (n := n) (a := n - 1) (L := phiN n) (f := f) (by omega) hn1 HF.out hL)
  have q0 := st1.sl 0 ⟨o, lo, hi, .slice av (phiN n) cap, phiN n, f⟩ rfl
  dsimp only at q0
  go_wp2_with fail
  go_region_law (first
      | (go_simp; go_at_call 166; refine (l01Bar_any n hn1 hn2 _ q0.drew hle).mono ?_; rintro e w6 ⟨a6, k6, rfl, s6, b6⟩
         have hz6 := b6.size
         have st6 := st1.drew.keep b6
         obtain ⟨x6, x6'⟩ := (st6.box 0 (w.heap.size, [.int .i64 (n : Int), .slice av (phiN n) cap]) rfl).cell2
         have hl6 : w.heap.size < w6.heap.size := by simp only [World.size_drew, World.size_alloc] at hz6; omega)
      | (go_simp; go_at_call 166; refine (l01Bar_any n hn1 hn2 _ (q0.alloc (.cells #[.int .i64 0, .slice none 0 0] 28)).drew hle).mono ?_; rintro e w6 ⟨a6, k6, rfl, s6, b6⟩
         have hz6 := b6.size
         have st6 := (st1.boxNew (.int .i64 0) (.slice none 0 0) 28).drew.keep b6
         have bx6 := st6.box 0 _ rfl
         obtain ⟨x6, x6'⟩ := (st6.box 1 (w.heap.size, [.int .i64 (n : Int), .slice av (phiN n) cap]) rfl).cell2
         have hl6 : w.heap.size < w6.heap.size := by simp only [World.size_drew, World.size_alloc] at hz6; omega)
      | (go_simp; go_at_call 165; have _g := bx6; refine (l01Times_any n hn1 hn2 (L := phiN n) _ (st6.sl 0 _ rfl) s6 (Within.big HF.out) HBI.out (by omega) hL).mono ?_; rintro e w7 ⟨a7, k7, bb, rfl, hbb, s7, b7⟩
         obtain rfl : bb = true := hbb.2 HK.out
         clear hbb
         have hz7 := b7.size
         have st7 := st6.keep b7
         have bx7 := bx6.keep b7
         try dsimp only at bx7
         try simp only [World.size_alloc] at bx7
         obtain ⟨q0', q1'⟩ := bx7.cell2
         have qz' := bx7.2.2)
      | (go_simp; go_at_call 165; have _g := b6; refine (l01Times_any n hn1 hn2 (L := phiN n) _ (st6.sl 0 _ rfl) s6 (Within.big HF.out) HBI.out (by omega) hL).mono ?_; rintro e w7 ⟨a7, k7, bb, rfl, hbb, s7, b7⟩
         obtain rfl : bb = true := hbb.2 HK.out
         clear hbb
         have hz7 := b7.size
         have st7 := st6.keep b7)
      | (go_simp; go_at_call 165; have _g := b6; refine (l01Times_any n hn1 hn2 (L := phiN n) _ ((st6.sl 0 _ rfl).alloc (.cells #[.int .i64 0, .slice none 0 0] 28)) (s6.alloc (.cells #[.int .i64 0, .slice none 0 0] 28)) (Within.big HF.out) HBI.out (by omega) hL).mono ?_; rintro e w7 ⟨a7, k7, bb, rfl, hbb, s7, b7⟩
         obtain rfl : bb = true := hbb.2 HK.out
         clear hbb
         have hz7 := b7.size
         have st7 := (st6.boxNew (.int .i64 0) (.slice none 0 0) 28).keep b7
         have bx7 := st7.box 0 _ rfl
         try dsimp only at bx7
         try simp only [World.size_alloc] at bx7
         obtain ⟨q0', q1'⟩ := bx7.cell2
         have qz' := bx7.2.2))
  all_goals first
    | (have _g : Box w7 w6.heap.size [.int .i64 0, .slice none 0 0] := bx7
       have W8 := bx7.set2 (u0 := .int .i64 (n : Int)) (u1 := .slice a7 (phiN n) k7)
       have c8 := W8.cell2
       have BB := (st7.tailB.set2 (b := w6.heap.size) (i := 0) (j := 1) (u := .int .i64 (n : Int)) (v := .slice a7 (phiN n) k7) (by omega) (by intro b hb; simp only [List.mem_cons, List.not_mem_nil, or_false] at hb; rcases hb with rfl <;> dsimp only <;> omega) (by intro s hs'; simp only [List.mem_cons, List.not_mem_nil, or_false] at hs'; rcases hs' with rfl <;> dsimp only <;> omega)).1
       have q8 := ((s7 rfl).setOther (p := ⟨w6.heap.size, 0, none⟩) (.inl (by show w6.heap.size < (w6.alloc _).heap.size; rw [World.size_alloc]; omega)) (.int .i64 (n : Int))).setOther (p := ⟨w6.heap.size, 1, none⟩) (.inl (by show w6.heap.size < (w6.alloc _).heap.size; rw [World.size_alloc]; omega)) (.slice a7 (phiN n) k7)
       have c8a := c8.1
       have c8b := c8.2
       clear st7 b7 st6 b6 s6 st1 q0 c8
       go_wp2_with fail
       refine (l02Trace_any n _ q8 HCP.out).mono ?_
       rintro e w9 ⟨rfl, b9⟩
       have BB9 := BB.trans (b9.mono BB.size)
       clear q8 c8a c8b b9 BB
       go_wp2
       go_ret2
       exact ⟨rfl, BB9⟩)
    | (have _g : Box w7 w1.heap.size [.int .i64 0, .slice none 0 0] := bx7
       have W8 := bx7.set2 (u0 := .int .i64 (n : Int)) (u1 := .slice a7 (phiN n) k7)
       have c8 := W8.cell2
       have BB := (st7.tailB.set2 (b := w1.heap.size) (i := 0) (j := 1) (u := .int .i64 (n : Int)) (v := .slice a7 (phiN n) k7) (by omega) (by intro b hb; simp only [List.mem_cons, List.not_mem_nil, or_false] at hb; rcases hb with rfl <;> dsimp only <;> omega) (by intro s hs'; simp only [List.mem_cons, List.not_mem_nil, or_false] at hs'; rcases hs' with rfl <;> dsimp only <;> omega)).1
       have q8 := ((s7 rfl).setOther (p := ⟨w1.heap.size, 0, none⟩) (.inl (by show w1.heap.size < w6.heap.size; simp only [World.size_drew, World.size_alloc] at hz6; omega)) (.int .i64 (n : Int))).setOther (p := ⟨w1.heap.size, 1, none⟩) (.inl (by show w1.heap.size < w6.heap.size; simp only [World.size_drew, World.size_alloc] at hz6; omega)) (.slice a7 (phiN n) k7)
       have c8a := c8.1
       have c8b := c8.2
       clear st7 b7 st6 b6 s6 st1 q0 c8
       go_wp2_with fail
       refine (l02Trace_any n _ q8 HCP.out).mono ?_
       rintro e w9 ⟨rfl, b9⟩
       have BB9 := BB.trans (b9.mono BB.size)
       clear q8 c8a c8b b9 BB
       go_wp2
       go_ret2
       exact ⟨rfl, BB9⟩)
    | (have st8 := st7.boxNew (.int .i64 (n : Int)) (.slice a7 (phiN n) k7) 28
       have c8 := (st8.box 0 (w7.heap.size, [.int .i64 (n : Int), .slice a7 (phiN n) k7]) rfl).cell2
       have BB := st8.1
       have q8 := (s7 rfl).alloc (.cells #[.int .i64 (n : Int), .slice a7 (phiN n) k7] 28)
       have c8a := c8.1
       have c8b := c8.2
       clear st8 st7 b7 st6 b6 s6 st1 q0 c8
       go_wp2_with fail
       refine (l02Trace_any n _ q8 HCP.out).mono ?_
       rintro e w9 ⟨rfl, b9⟩
       have BB9 := BB.trans (b9.mono BB.size)
       clear q8 c8a c8b b9 BB
       go_wp2
       go_ret2
       exact ⟨rfl, BB9⟩)

set_option maxRecDepth 100000 in
set_option maxHeartbeats 4000000 in
theorem SizeOf_spec_big (n : Nat) (w : World) (hs : Sl o w lo hi v L f) (h : CyP n L f) (hk : ¬ szOk n L f) :
    Calls Try.prog 81 #[.agg #[.int .i64 (n : Int), v]] w fun e w' => e = .returned (.tuple #[.int .i64 0, .int .i64 3]) ∧ Below w.heap.size w w' := by
  have HK := Lib.hid hk
  have HF := Lib.hid h.2.2.2
  have hLP : L = phiN n := h.2.2.1
  clear hk
  subst hLP
  obtain ⟨av, cap, rfl⟩ := hs.shape
  have hn1 : 1 ≤ n := by have := h.1; omega
  have hn2 : n ≤ 16 := by have := h.2.1; omega
  have hp := phi_le12 n hn2 hn1
  have hL : phiN n ≤ 12 := by have e : phiN n = phiN n := h.2.2.1; omega
  have hpos : 0 < phiN n := by have e : phiN n = phiN n := h.2.2.1; have := phiN_pos n (by omega) hn1; omega
  have hhs := hs.size
  have st0 := ((((St.start w).addSl ⟨o, lo, hi, .slice av (phiN n) cap, phiN n, f⟩ hs).alloc (.cells #[.int .i64 (n : Int), .slice av (phiN n) cap] 28)).addBox w.heap.size [.int .i64 (n : Int), .slice av (phiN n) cap] (Box.made _ _ _ _ (fun j v h => by simpa using h)))
  have q0 := st0.sl 0 ⟨o, lo, hi, .slice av (phiN n) cap, phiN n, f⟩ rfl
  dsimp only at q0
  have HC := Lib.hid h
  clear h hs
  go_enter Try.func81, Try.ntmps81
  go_wp2_with fail
  refine (l01Is_yes _ _ q0 HC.out).mono ?_
  rintro e w1 ⟨rfl, b1⟩
  clear q0
  have st1 := st0.keep b1
  have hz_w1 := b1.size
  try simp only [World.size_alloc] at hz_w1
  clear st0 b1
  obtain ⟨c0, c1⟩ := (st1.box 0 (w.heap.size, [.int .i64 (n : Int), .slice av (phiN n) cap]) rfl).cell2
  have hp0 := phiN_pos n (by omega) hn1
  have hle := phi_le_n (n := n)
  have hl0 : w.heap.size < w1.heap.size := by omega
  have HBI := Lib.hid (img_big (n := n) (a := n - 1) (L := phiN n) (f := f) (by omega) hn1 HF.out hL)
  have q0 := st1.sl 0 ⟨o, lo, hi, .slice av (phiN n) cap, phiN n, f⟩ rfl
  dsimp only at q0
  go_wp2_with fail
  go_region_law (first
      | (go_simp; go_at_call 166; refine (l01Bar_any n hn1 hn2 _ q0.drew hle).mono ?_; rintro e w6 ⟨a6, k6, rfl, s6, b6⟩
         have hz6 := b6.size
         have st6 := st1.drew.keep b6
         obtain ⟨x6, x6'⟩ := (st6.box 0 (w.heap.size, [.int .i64 (n : Int), .slice av (phiN n) cap]) rfl).cell2
         have hl6 : w.heap.size < w6.heap.size := by simp only [World.size_drew, World.size_alloc] at hz6; omega)
      | (go_simp; go_at_call 166; refine (l01Bar_any n hn1 hn2 _ (q0.alloc (.cells #[.int .i64 0, .slice none 0 0] 28)).drew hle).mono ?_; rintro e w6 ⟨a6, k6, rfl, s6, b6⟩
         have hz6 := b6.size
         have st6 := (st1.boxNew (.int .i64 0) (.slice none 0 0) 28).drew.keep b6
         have bx6 := st6.box 0 _ rfl
         obtain ⟨x6, x6'⟩ := (st6.box 1 (w.heap.size, [.int .i64 (n : Int), .slice av (phiN n) cap]) rfl).cell2
         have hl6 : w.heap.size < w6.heap.size := by simp only [World.size_drew, World.size_alloc] at hz6; omega)
      | (go_simp; go_at_call 165; have _g := bx6; refine (l01Times_any n hn1 hn2 (L := phiN n) _ (st6.sl 0 _ rfl) s6 (Within.big HF.out) HBI.out (by omega) hL).mono ?_; rintro e w7 ⟨a7, k7, bb, rfl, hbb, s7, b7⟩
         obtain rfl : bb = false := by cases bb with | false => rfl | true => exact absurd (hbb.1 rfl) HK.out
         clear hbb s7
         have hz7 := b7.size
         have st7 := st6.keep b7
         have bx7 := bx6.keep b7
         try dsimp only at bx7
         try simp only [World.size_alloc] at bx7
         obtain ⟨q0', q1'⟩ := bx7.cell2
         have qz' := bx7.2.2)
      | (go_simp; go_at_call 165; have _g := b6; refine (l01Times_any n hn1 hn2 (L := phiN n) _ (st6.sl 0 _ rfl) s6 (Within.big HF.out) HBI.out (by omega) hL).mono ?_; rintro e w7 ⟨a7, k7, bb, rfl, hbb, s7, b7⟩
         obtain rfl : bb = false := by cases bb with | false => rfl | true => exact absurd (hbb.1 rfl) HK.out
         clear hbb s7
         have hz7 := b7.size
         have st7 := st6.keep b7)
      | (go_simp; go_at_call 165; have _g := b6; refine (l01Times_any n hn1 hn2 (L := phiN n) _ ((st6.sl 0 _ rfl).alloc (.cells #[.int .i64 0, .slice none 0 0] 28)) (s6.alloc (.cells #[.int .i64 0, .slice none 0 0] 28)) (Within.big HF.out) HBI.out (by omega) hL).mono ?_; rintro e w7 ⟨a7, k7, bb, rfl, hbb, s7, b7⟩
         obtain rfl : bb = false := by cases bb with | false => rfl | true => exact absurd (hbb.1 rfl) HK.out
         clear hbb s7
         have hz7 := b7.size
         have st7 := (st6.boxNew (.int .i64 0) (.slice none 0 0) 28).keep b7
         have bx7 := st7.box 0 _ rfl
         try dsimp only at bx7
         try simp only [World.size_alloc] at bx7
         obtain ⟨q0', q1'⟩ := bx7.cell2
         have qz' := bx7.2.2))
  all_goals first
    | (have _g : Box w7 w6.heap.size [.int .i64 0, .slice none 0 0] := bx7
       have W8 := bx7.set2 (u0 := .int .i64 (n : Int)) (u1 := .slice a7 (phiN n) k7)
       have c8 := W8.cell2
       have BB := (st7.tailB.set2 (b := w6.heap.size) (i := 0) (j := 1) (u := .int .i64 (n : Int)) (v := .slice a7 (phiN n) k7) (by omega) (by intro b hb; simp only [List.mem_cons, List.not_mem_nil, or_false] at hb; rcases hb with rfl <;> dsimp only <;> omega) (by intro s hs'; simp only [List.mem_cons, List.not_mem_nil, or_false] at hs'; rcases hs' with rfl <;> dsimp only <;> omega)).1
       clear st7 b7 st6 b6 s6 st1 q0 c8
       go_wp2
       go_ret2
       exact ⟨rfl, BB⟩)
    | (have _g : Box w7 w1.heap.size [.int .i64 0, .slice none 0 0] := bx7
       have W8 := bx7.set2 (u0 := .int .i64 (n : Int)) (u1 := .slice a7 (phiN n) k7)
       have c8 := W8.cell2
       have BB := (st7.tailB.set2 (b := w1.heap.size) (i := 0) (j := 1) (u := .int .i64 (n : Int)) (v := .slice a7 (phiN n) k7) (by omega) (by intro b hb; simp only [List.mem_cons, List.not_mem_nil, or_false] at hb; rcases hb with rfl <;> dsimp only <;> omega) (by intro s hs'; simp only [List.mem_cons, List.not_mem_nil, or_false] at hs'; rcases hs' with rfl <;> dsimp only <;> omega)).1
       clear st7 b7 st6 b6 s6 st1 q0 c8
       go_wp2
       go_ret2
       exact ⟨rfl, BB⟩)
    | (have st8 := st7.boxNew (.int .i64 (n : Int)) (.slice a7 (phiN n) k7) 28
       have c8 := (st8.box 0 (w7.heap.size, [.int .i64 (n : Int), .slice a7 (phiN n) k7]) rfl).cell2
       have BB := st8.1
       clear st8 st7 b7 st6 b6 s6 st1 q0 c8
       go_wp2
       go_ret2
       exact ⟨rfl, BB⟩)

end
end

section
open Go.RowKit Go.ChangeShapes Go.Sort
set_option linter.unusedVariables false
set_option linter.unusedSimpArgs false

def soM : List Nat := [0, 1, 1, 2, 1, 12, 2, 60, 1, 2, 12, 2520, 1, 27720, 60, 1008, 1]
def soD : List (List Nat) := [[], [1], [1], [1, 3], [2, 2], [3, 5, 10, 30], [1, 3], [10, 14, 21, 35, 70, 210], [4, 4, 4, 4], [3, 3, 3, 9, 9, 9], [3, 5, 10, 30], [252, 308, 385, 495, 660, 924, 1386, 2310, 4620, 13860], [1, 1, 3, 3], [2310, 2730, 3276, 4004, 5005, 6435, 8580, 12012, 18018, 30030, 60060, 180180], [10, 14, 21, 35, 70, 210], [126, 2, 40, 72, 27, 189, 504, 2520], [8, 8, 8, 8, 8, 8, 8, 8]]
def soL : List (List (List Int)) := [[], [[1]], [[1]], [[2, -1], [0, 1]], [[1, 0], [0, 1]], [[4, -1, -1, -1], [0, 3, -1, -1], [0, 0, 2, -1], [0, 0, 0, 1]], [[2, 1], [0, 1]], [[6, -1, -1, -1, -1, -1], [0, 5, -1, -1, -1, -1], [0, 0, 4, -1, -1, -1], [0, 0, 0, 3, -1, -1], [0, 0, 0, 0, 2, -1], [0, 0, 0, 0, 0, 1]], [[1, 0, 0, 0], [0, 1, 0, 0], [0, 0, 1, 0], [0, 0, 0, 1]], [[2, 0, 0, -1, 0, 0], [0, 2, 0, 0, -1, 0], [0, 0, 2, 0, 0, -1], [0, 0, 0, 1, 0, 0], [0, 0, 0, 0, 1, 0], [0, 0, 0, 0, 0, 1]], [[4, 1, -1, 1], [0, 3, 1, -1], [0, 0, 2, 1], [0, 0, 0, 1]], [[10, -1, -1, -1, -1, -1, -1, -1, -1, -1], [0, 9, -1, -1, -1, -1, -1, -1, -1, -1], [0, 0, 8, -1, -1, -1, -1, -1, -1, -1], [0, 0, 0, 7, -1, -1, -1, -1, -1, -1], [0, 0, 0, 0, 6, -1, -1, -1, -1, -1], [0, 0, 0, 0, 0, 5, -1, -1, -1, -1], [0, 0, 0, 0, 0, 0, 4, -1, -1, -1], [0, 0, 0, 0, 0, 0, 0, 3, -1, -1], [0, 0, 0, 0, 0, 0, 0, 0, 2, -1], [0, 0, 0, 0, 0, 0, 0, 0, 0, 1]], [[2, 0, 1, 0], [0, 2, 0, 1], [0, 0, 1, 0], [0, 0, 0, 1]], [[12, -1, -1, -1, -1, -1, -1, -1, -1, -1, -1, -1], [0, 11, -1, -1, -1, -1, -1, -1, -1, -1, -1, -1], [0, 0, 10, -1, -1, -1, -1, -1, -1, -1, -1, -1], [0, 0, 0, 9, -1, -1, -1, -1, -1, -1, -1, -1], [0, 0, 0, 0, 8, -1, -1, -1, -1, -1, -1, -1], [0, 0, 0, 0, 0, 7, -1, -1, -1, -1, -1, -1], [0, 0, 0, 0, 0, 0, 6, -1, -1, -1, -1, -1], [0, 0, 0, 0, 0, 0, 0, 5, -1, -1, -1, -1], [0, 0, 0, 0, 0, 0, 0, 0, 4, -1, -1, -1], [0, 0, 0, 0, 0, 0, 0, 0, 0, 3, -1, -1], [0, 0, 0, 0, 0, 0, 0, 0, 0, 0, 2, -1], [0, 0, 0, 0, 0, 0, 0, 0, 0, 0, 0, 1]], [[6, 1, -1, 1, -1, 1], [0, 5, 1, -1, 1, -1], [0, 0, 4, 1, -1, 1], [0, 0, 0, 3, 1, -1], [0, 0, 0, 0, 2, 1], [0, 0, 0, 0, 0, 1]], [[8, 1, 1, -2, 1, -4, -2, 1], [0, 63, 7, 10, -17, 12, -30, -17], [0, 0, 14, 2, 2, -3, 3, -7], [0, 0, 0, 10, 2, 0, -3, 3], [0, 0, 0, 0, 16, 5, 1, -6], [0, 0, 0, 0, 0, 5, 1, 2], [0, 0, 0, 0, 0, 0, 3, 1], [0, 0, 0, 0, 0, 0, 0, 1]], [[1, 0, 0, 0, 0, 0, 0, 0], [0, 1, 0, 0, 0, 0, 0, 0], [0, 0, 1, 0, 0, 0, 0, 0], [0, 0, 0, 1, 0, 0, 0, 0], [0, 0, 0, 0, 1, 0, 0, 0], [0, 0, 0, 0, 0, 1, 0, 0], [0, 0, 0, 0, 0, 0, 1, 0], [0, 0, 0, 0, 0, 0, 0, 1]]]
def soT (n p : Nat) : Int := sumN (phiN n) (fun k => tb n (p * res n k % n) 0)
/-- The trace of z^i times the conjugate of z^j. -/
def soA (n i j : Nat) : Int := sumN (phiN n) (fun p => sumN (phiN n) (fun q => tb n (j * (n - 1) % n) q * tb n ((i + q) % n) p) * soT n p)
def soTL (n : Nat) : List Int := (List.range (phiN n)).map (soT n)
def soB (n i j : Nat) : Int := sumN (phiN n) (fun p => sumN (phiN n) (fun q => tb n (j * (n - 1) % n) q * tb n ((i + q) % n) p) * (soTL n).getD p 0)
def soE (n k : Nat) : Nat := (soD.getD n []).getD k 0
def soR (n k i : Nat) : Int := ((soL.getD n []).getD k []).getD i 0
def soChk (n : Nat) : Bool := decide (∀ i, i < phiN n → ∀ j, j < phiN n → (soM.getD n 0 : Int) * soA n i j = sumN (phiN n) (fun k => (soE n k : Int) * (soR n k i * soR n k j)))
theorem so_c1 : soChk 1 = true := by decide +kernel
theorem so_c2 : soChk 2 = true := by decide +kernel
theorem so_c3 : soChk 3 = true := by decide +kernel
theorem so_c4 : soChk 4 = true := by decide +kernel
theorem so_c5 : soChk 5 = true := by decide +kernel
theorem so_c6 : soChk 6 = true := by decide +kernel
theorem so_c7 : soChk 7 = true := by decide +kernel
theorem so_c8 : soChk 8 = true := by decide +kernel
theorem so_c9 : soChk 9 = true := by decide +kernel
theorem so_c10 : soChk 10 = true := by decide +kernel
theorem so_c11 : soChk 11 = true := by decide +kernel
theorem so_c12 : soChk 12 = true := by decide +kernel
theorem so_c13 : soChk 13 = true := by decide +kernel
theorem so_c14 : soChk 14 = true := by decide +kernel
theorem so_c15 : soChk 15 = true := by decide +kernel
theorem so_c16 : soChk 16 = true := by decide +kernel
theorem so_m : ∀ n, n < 17 → 1 ≤ n → 0 < soM.getD n 0 := by decide +kernel
theorem so_all : ∀ n, n < 17 → 1 ≤ n → soChk n = true
  | 1, _, _ => so_c1
  | 2, _, _ => so_c2
  | 3, _, _ => so_c3
  | 4, _, _ => so_c4
  | 5, _, _ => so_c5
  | 6, _, _ => so_c6
  | 7, _, _ => so_c7
  | 8, _, _ => so_c8
  | 9, _, _ => so_c9
  | 10, _, _ => so_c10
  | 11, _, _ => so_c11
  | 12, _, _ => so_c12
  | 13, _, _ => so_c13
  | 14, _, _ => so_c14
  | 15, _, _ => so_c15
  | 16, _, _ => so_c16
  | 0, _, h => absurd h (by decide)
  | n + 17, h, _ => absurd h (by omega)
theorem so_ok (n : Nat) (hn : n < 17) (h1 : 1 ≤ n) {i j : Nat} (hi : i < phiN n) (hj : j < phiN n) : (soM.getD n 0 : Int) * soA n i j = sumN (phiN n) (fun k => (soE n k : Int) * (soR n k i * soR n k j)) := by
  have h := so_all n hn h1
  unfold soChk at h
  exact of_decide_eq_true h i hi j hj
theorem sumN_nonneg {F : Nat → Int} : ∀ m, (∀ i, i < m → 0 ≤ F i) → 0 ≤ sumN m F
  | 0, _ => Int.le_refl _
  | m + 1, h => by
    show 0 ≤ sumN m F + F m
    have := sumN_nonneg m (fun i hi => h i (by omega))
    have := h m (by omega)
    omega
theorem sq_nonneg (a : Int) : 0 ≤ a * a := by
  rcases Int.le_total 0 a with h | h
  · exact Int.mul_nonneg h h
  · exact Int.mul_nonneg_of_nonpos_of_nonpos h h
theorem quad_pos (n : Nat) (hn : n < 17) (h1 : 1 ≤ n) (f : Nat → Int) : 0 ≤ sumN (phiN n) (fun i => sumN (phiN n) (fun j => f i * f j * soA n i j)) := by
  have hm := so_m n hn h1
  have e : (soM.getD n 0 : Int) * sumN (phiN n) (fun i => sumN (phiN n) (fun j => f i * f j * soA n i j)) = sumN (phiN n) (fun k => (soE n k : Int) * (sumN (phiN n) (fun i => soR n k i * f i) * sumN (phiN n) (fun i => soR n k i * f i))) := by
    rw [← sumN_mul]
    have e1 : ∀ i, i < phiN n → (soM.getD n 0 : Int) * sumN (phiN n) (fun j => f i * f j * soA n i j) = sumN (phiN n) (fun k => sumN (phiN n) (fun j => (soE n k : Int) * ((soR n k i * f i) * (soR n k j * f j)))) := fun i hi => by
      rw [← sumN_mul, sumN_swap]
      refine sumN_congr (fun j hj => ?_)
      rw [Int.mul_left_comm, so_ok n hn h1 hi hj, ← sumN_mul]
      refine sumN_congr (fun k _ => ?_)
      rw [show soR n k i * f i * (soR n k j * f j) = (f i * f j) * (soR n k i * soR n k j) by
        rw [Int.mul_assoc, Int.mul_left_comm (f i), Int.mul_comm (f i * f j), Int.mul_assoc]]
      rw [Int.mul_left_comm]
    rw [sumN_congr e1, sumN_swap]
    refine sumN_congr (fun k _ => ?_)
    rw [sumN_prod, ← sumN_mul]
    exact sumN_congr (fun i _ => by rw [← sumN_mul])
  have h0 : 0 ≤ (soM.getD n 0 : Int) * sumN (phiN n) (fun i => sumN (phiN n) (fun j => f i * f j * soA n i j)) := by
    rw [e]
    exact sumN_nonneg _ (fun k _ => Int.mul_nonneg (Int.natCast_nonneg _) (sq_nonneg _))
  generalize soM.getD n 0 = M at *
  generalize sumN (phiN n) (fun i => sumN (phiN n) (fun j => f i * f j * soA n i j)) = X at *
  rcases Int.lt_or_le X 0 with h | h
  · have := Int.mul_neg_of_pos_of_neg (show (0 : Int) < M by omega) h
    omega
  · exact h
theorem size_pos {n : Nat} (hn : n < 17) (h1 : 1 ≤ n) {f : Nat → Int} (hf : Within f (phiN n) 1000000000) (hk : szOk n (phiN n) f) : 0 ≤ szZ n (phiN n) f := by
  have hp := phi_pos n hn h1
  have hb : ∀ j, j < phiN n → imgP n (n - 1) (phiN n) f j = galZ n (n - 1) (phiN n) f j := fun j hj =>
    imgP_gal hn h1 (fun j hj => by have := hf j hj; omega) (phi_le12 n (by omega) h1) hj
  have e : szZ n (phiN n) f = sumN (phiN n) (fun i => sumN (phiN n) (fun j => f i * f j * soA n i j)) := by
    unfold szZ trZ
    rw [sumN_congr (fun k _ => im_gal hn h1 hk k hp)]
    unfold galZ
    rw [sumN_swap]
    rw [sumN_congr (fun p hp' => by rw [sumN_mul])]
    show sumN (phiN n) (fun p => szP n (phiN n) f p * soT n p) = _
    have e1 : ∀ p, p < phiN n → szP n (phiN n) f p * soT n p = sumN (phiN n) (fun i => sumN (phiN n) (fun j => f i * f j * (sumN (phiN n) (fun q => tb n (j * (n - 1) % n) q * tb n ((i + q) % n) p) * soT n p))) := fun p hp' => by
      unfold szP
      rw [pz_congr (fun _ _ => rfl) hb, prodZ_tab hn h1 (Nat.le_refl _) _ _ hp', ← sumN_mulr]
      refine sumN_congr (fun i _ => ?_)
      have e2 : ∀ q, q < phiN n → f i * galZ n (n - 1) (phiN n) f q * tb n ((i + q) % n) p = sumN (phiN n) (fun j => f i * f j * (tb n (j * (n - 1) % n) q * tb n ((i + q) % n) p)) := fun q _ => by
        unfold galZ
        rw [← sumN_mul, ← sumN_mulr]
        exact sumN_congr (fun j _ => by rw [← Int.mul_assoc (f i), Int.mul_assoc (f i * f j)])
      rw [sumN_congr e2, sumN_swap, ← sumN_mulr]
      refine sumN_congr (fun j _ => ?_)
      rw [sumN_mul, Int.mul_assoc]
    rw [sumN_congr e1, sumN_swap]
    refine sumN_congr (fun i _ => ?_)
    rw [sumN_swap]
    refine sumN_congr (fun j _ => ?_)
    rw [sumN_mul]
    rfl
  rw [e]
  exact quad_pos n hn h1 f
end

section
open Go.RowKit Go.ChangeShapes Go.Sort
set_option linter.unusedVariables false
set_option linter.unusedSimpArgs false

/-- The greatest common divisor of the first k numbers. -/
def contG (f : Nat → Int) : Nat → Nat
  | 0 => 0
  | k + 1 => Nat.gcd (contG f k) (f k).natAbs
theorem contG_bd {f : Nat → Int} {L : Nat} (hf : Within f L 1000000000) : ∀ k, k ≤ L → contG f k ≤ 1000000000
  | 0, _ => Nat.zero_le _
  | k + 1, hk => by
    have ih := contG_bd hf k (by omega)
    have hb := hf k (by omega)
    unfold contG
    by_cases h : (f k).natAbs = 0
    · rw [h, Nat.gcd_zero_right]; exact ih
    · exact Nat.le_trans (Nat.gcd_le_right _ (by omega)) (by omega)
theorem contG_step (f : Nat → Int) (k : Nat) (a : Int) (h : a.toNat = (f k).natAbs) : gcdI ((contG f k : Nat) : Int) a = ((contG f (k + 1) : Nat) : Int) := by
  unfold gcdI
  rw [h, Int.toNat_natCast]
  rfl

section
variable {o : Bool} {lo hi L : Nat} {v : Value} {f : Nat → Int}
theorem ContentOf_impl_bad (x : Int) (w : World) (hs : Sl o w lo hi v L f) (h : ¬ CyP x L f) :
    Calls Try.prog 83 #[.agg #[.int .i64 x, v]] w fun e w' => e = .returned (.tuple #[.int .i64 0, .int .i64 1]) ∧ Below w.heap.size w w' := by
  obtain ⟨av, cap, rfl⟩ := hs.shape
  have st0 := ((((St.start w).addSl ⟨o, lo, hi, .slice av L cap, L, f⟩ hs).alloc (.cells #[.int .i64 x, .slice av L cap] 28)).addBox w.heap.size [.int .i64 x, .slice av L cap] (Box.made _ _ _ _ (fun j v h => by simpa using h)))
  have q0 := st0.sl 0 ⟨o, lo, hi, .slice av L cap, L, f⟩ rfl
  dsimp only at q0
  have HC := Lib.hid h
  clear h hs
  go_enter Try.func83, Try.ntmps83
  go_wp2_with fail
  refine (IsCyclo_no _ _ q0 HC.out).mono ?_
  rintro e w1 ⟨rfl, b1⟩
  clear q0
  have st1 := st0.keep b1
  have hz_w1 := b1.size
  try simp only [World.size_alloc] at hz_w1
  clear st0 b1
  have BB := st1.1
  go_wp2
  refine bodyPost_ret (v := .tuple #[.int .i64 0, .int .i64 1]) (by simp [results, Try.results83, go_sem]) rfl ?_
  exact ⟨rfl, BB⟩

theorem ContentOf_spec_bad (x : Int) (w : World) (hs : Sl o w lo hi v L f) (h : ¬ CyP x L f) :
    Calls Try.prog 84 #[.agg #[.int .i64 x, v]] w fun e w' => e = .returned (.tuple #[.int .i64 0, .int .i64 1]) ∧ Below w.heap.size w w' := by
  obtain ⟨av, cap, rfl⟩ := hs.shape
  have st0 := ((((St.start w).addSl ⟨o, lo, hi, .slice av L cap, L, f⟩ hs).alloc (.cells #[.int .i64 x, .slice av L cap] 28)).addBox w.heap.size [.int .i64 x, .slice av L cap] (Box.made _ _ _ _ (fun j v h => by simpa using h)))
  have q0 := st0.sl 0 ⟨o, lo, hi, .slice av L cap, L, f⟩ rfl
  dsimp only at q0
  have HC := Lib.hid h
  clear h hs
  go_enter Try.func84, Try.ntmps84
  go_wp2_with fail
  refine (l01Is_no _ _ q0 HC.out).mono ?_
  rintro e w1 ⟨rfl, b1⟩
  clear q0
  have st1 := st0.keep b1
  have hz_w1 := b1.size
  try simp only [World.size_alloc] at hz_w1
  clear st0 b1
  have BB := st1.1
  go_wp2
  refine bodyPost_ret (v := .tuple #[.int .i64 0, .int .i64 1]) (by simp [results, Try.results84, go_sem]) rfl ?_
  exact ⟨rfl, BB⟩

set_option maxRecDepth 100000 in
set_option maxHeartbeats 1000000 in
theorem ContentOf_impl_ok (n : Nat) (w : World) (hs : Sl o w lo hi v L f) (h : CyP n L f) :
    Calls Try.prog 83 #[.agg #[.int .i64 (n : Int), v]] w fun e w' => e = .returned (.tuple #[.int .i64 (contG f L : Int), .int .i64 0]) ∧ Below w.heap.size w w' := by
  have HB := Lib.hid (contG_bd h.2.2.2)
  have HF := Lib.hid h.2.2.2
  obtain ⟨av, cap, rfl⟩ := hs.shape
  have hn1 : 1 ≤ n := by have := h.1; omega
  have hn2 : n ≤ 16 := by have := h.2.1; omega
  have hp := phi_le12 n hn2 hn1
  have hL : L ≤ 12 := by have e : L = phiN n := h.2.2.1; omega
  have hpos : 0 < L := by have e : L = phiN n := h.2.2.1; have := phiN_pos n (by omega) hn1; omega
  have hhs := hs.size
  have st0 := ((((St.start w).addSl ⟨o, lo, hi, .slice av L cap, L, f⟩ hs).alloc (.cells #[.int .i64 (n : Int), .slice av L cap] 28)).addBox w.heap.size [.int .i64 (n : Int), .slice av L cap] (Box.made _ _ _ _ (fun j v h => by simpa using h)))
  have q0 := st0.sl 0 ⟨o, lo, hi, .slice av L cap, L, f⟩ rfl
  dsimp only at q0
  have HC := Lib.hid h
  clear h hs
  go_enter Try.func83, Try.ntmps83
  go_wp2_with fail
  refine (IsCyclo_yes _ _ q0 HC.out).mono ?_
  rintro e w1 ⟨rfl, b1⟩
  clear q0
  have st1 := st0.keep b1
  have hz_w1 := b1.size
  try simp only [World.size_alloc] at hz_w1
  clear st0 b1
  obtain ⟨c0, c1⟩ := (st1.box 0 (w.heap.size, [.int .i64 (n : Int), .slice av L cap]) rfl).cell2
  have ST1 := Lib.hid st1
  clear st1
  go_wp2
  clear c0 c1
  go_loopw [4, 13] (fun s4 s13 wr => ∃ k : Nat, k ≤ L ∧ s4 = .int .i64 (contG f k : Int) ∧ s13 = .int .i64 k ∧ St w wr [(w.heap.size, [.int .i64 (n : Int), .slice av L cap])] [⟨o, lo, hi, .slice av L cap, L, f⟩]) (fun _ s13 _ => L - (intOf s13).toNat)
  case atStart => exact ⟨0, Nat.zero_le _, rfl, rfl, ST1.out⟩
  case round =>
    clear ST1
    obtain ⟨k, hk, rfl, rfl, hst⟩ := hrel
    have HT := Lib.hid hst; clear hst
    have hB := HB.out k hk
    by_cases hlt : k < L
    · obtain ⟨hf1, hf2⟩ := HF.out k hlt
      obtain ⟨x0, x1⟩ := (HT.out.box 0 (w.heap.size, [.int .i64 (n : Int), .slice av L cap]) rfl).cell2
      have qa := HT.out.sl 0 ⟨o, lo, hi, .slice av L cap, L, f⟩ rfl
      dsimp only at qa
      obtain ⟨b, off, c1', hv, _, _, _, _, hc, _⟩ := qa.at (by omega)
      obtain ⟨rfl, rfl⟩ : av = some ⟨b, off, none⟩ ∧ cap = c1' := by cases hv; exact ⟨rfl, rfl⟩
      have hck := hc k hlt
      clear hv hc qa
      have HS := Lib.hid (contG_step f k)
      generalize hfk : f k = y at *
      by_cases h0 : 0 ≤ y
      · have HE := Lib.hid (HS.out y (by omega))
        clear HS
        go_wp2_with (first | (go_at_call 182; refine (commonDivisor_any _ _ _ (by omega) (by omega) (by omega) (by omega)).mono ?_; rw [HE.out]; rintro e w' ⟨rfl, m, rfl⟩))
        go_roundw
        case rel => exact ⟨k + 1, by omega, rfl, by go_num, HT.out.drewN _⟩
        case measure => simp [intOf] <;> omega
      · have HE := Lib.hid (HS.out (-y) (by omega))
        clear HS
        have hneg : 0 ≤ -y := by omega
        have hneg2 : -y ≤ 1000000000 := by omega
        have hlt0 : y < 0 := by omega
        have hle0 : y ≤ -y := by omega
        go_wp2_with (first | (go_at_call 182; refine (commonDivisor_any _ _ _ (by omega) (by omega) (by omega) (by omega)).mono ?_; rw [HE.out]; rintro e w' ⟨rfl, m, rfl⟩))
        go_roundw
        case rel => exact ⟨k + 1, by omega, rfl, by go_num, HT.out.drewN _⟩
        case measure => simp [intOf] <;> omega
    · obtain rfl : k = L := by omega
      obtain ⟨x0, x1⟩ := (HT.out.box 0 (w.heap.size, [.int .i64 (n : Int), .slice av k cap]) rfl).cell2
      go_wp2
      go_ret2
      exact ⟨rfl, HT.out.1⟩

set_option maxRecDepth 100000 in
set_option maxHeartbeats 1000000 in
theorem ContentOf_spec_ok (n : Nat) (w : World) (hs : Sl o w lo hi v L f) (h : CyP n L f) :
    Calls Try.prog 84 #[.agg #[.int .i64 (n : Int), v]] w fun e w' => e = .returned (.tuple #[.int .i64 (contG f L : Int), .int .i64 0]) ∧ Below w.heap.size w w' := by
  have HB := Lib.hid (contG_bd h.2.2.2)
  have HF := Lib.hid h.2.2.2
  obtain ⟨av, cap, rfl⟩ := hs.shape
  have hn1 : 1 ≤ n := by have := h.1; omega
  have hn2 : n ≤ 16 := by have := h.2.1; omega
  have hp := phi_le12 n hn2 hn1
  have hL : L ≤ 12 := by have e : L = phiN n := h.2.2.1; omega
  have hpos : 0 < L := by have e : L = phiN n := h.2.2.1; have := phiN_pos n (by omega) hn1; omega
  have hhs := hs.size
  have st0 := ((((St.start w).addSl ⟨o, lo, hi, .slice av L cap, L, f⟩ hs).alloc (.cells #[.int .i64 (n : Int), .slice av L cap] 28)).addBox w.heap.size [.int .i64 (n : Int), .slice av L cap] (Box.made _ _ _ _ (fun j v h => by simpa using h)))
  have q0 := st0.sl 0 ⟨o, lo, hi, .slice av L cap, L, f⟩ rfl
  dsimp only at q0
  have HC := Lib.hid h
  clear h hs
  go_enter Try.func84, Try.ntmps84
  go_wp2_with fail
  refine (l01Is_yes _ _ q0 HC.out).mono ?_
  rintro e w1 ⟨rfl, b1⟩
  clear q0
  have st1 := st0.keep b1
  have hz_w1 := b1.size
  try simp only [World.size_alloc] at hz_w1
  clear st0 b1
  obtain ⟨c0, c1⟩ := (st1.box 0 (w.heap.size, [.int .i64 (n : Int), .slice av L cap]) rfl).cell2
  have ST1 := Lib.hid st1
  clear st1
  go_wp2
  clear c0 c1
  go_loopw [4, 5] (fun s4 s13 wr => ∃ k : Nat, k ≤ L ∧ s4 = .int .i64 (contG f k : Int) ∧ s13 = .int .i64 k ∧ St w wr [(w.heap.size, [.int .i64 (n : Int), .slice av L cap])] [⟨o, lo, hi, .slice av L cap, L, f⟩]) (fun _ s13 _ => L - (intOf s13).toNat)
  case atStart => exact ⟨0, Nat.zero_le _, rfl, rfl, ST1.out⟩
  case round =>
    clear ST1
    obtain ⟨k, hk, rfl, rfl, hst⟩ := hrel
    have HT := Lib.hid hst; clear hst
    have hB := HB.out k hk
    by_cases hlt : k < L
    · obtain ⟨hf1, hf2⟩ := HF.out k hlt
      obtain ⟨x0, x1⟩ := (HT.out.box 0 (w.heap.size, [.int .i64 (n : Int), .slice av L cap]) rfl).cell2
      have qa := HT.out.sl 0 ⟨o, lo, hi, .slice av L cap, L, f⟩ rfl
      dsimp only at qa
      obtain ⟨b, off, c1', hv, _, _, _, _, hc, _⟩ := qa.at (by omega)
      obtain ⟨rfl, rfl⟩ : av = some ⟨b, off, none⟩ ∧ cap = c1' := by cases hv; exact ⟨rfl, rfl⟩
      have hck := hc k hlt
      clear hv hc qa
      have HS := Lib.hid (contG_step f k)
      generalize hfk : f k = y at *
      by_cases h0 : 0 ≤ y
      · have HE := Lib.hid (HS.out y (by omega))
        clear HS
        go_wp2
        go_quiet (first | (go_at_call 162; exact Calls.quiet_of_same ((l01Gcd_any _ _ _ (by omega) (by omega) (by omega) (by omega)).mono (by rw [HE.out]; exact fun _ _ h => ⟨h.1, h.2.symm⟩))))
        go_wp2
        go_roundw
        case rel => exact ⟨k + 1, by omega, rfl, by go_num, HT.out.drewN _⟩
        case measure => simp [intOf] <;> omega
      · have HE := Lib.hid (HS.out (-y) (by omega))
        clear HS
        have hneg : 0 ≤ -y := by omega
        have hneg2 : -y ≤ 1000000000 := by omega
        have hlt0 : y < 0 := by omega
        have hle0 : y ≤ -y := by omega
        go_wp2
        go_quiet (first | (go_at_call 162; exact Calls.quiet_of_same ((l01Gcd_any _ _ _ (by omega) (by omega) (by omega) (by omega)).mono (by rw [HE.out]; exact fun _ _ h => ⟨h.1, h.2.symm⟩))))
        go_wp2
        go_roundw
        case rel => exact ⟨k + 1, by omega, rfl, by go_num, HT.out.drewN _⟩
        case measure => simp [intOf] <;> omega
    · obtain rfl : k = L := by omega
      obtain ⟨x0, x1⟩ := (HT.out.box 0 (w.heap.size, [.int .i64 (n : Int), .slice av k cap]) rfl).cell2
      go_wp2
      go_ret2
      exact ⟨rfl, HT.out.1⟩

end
end

section
open Go.RowKit Go.ChangeShapes
theorem fail_form {P : Program} {fn : FuncId} {args : Array Value} {w : World} {c : Int} (h : Calls P fn args w fun e w' => e = .returned (failV c) ∧ Below w.heap.size w w') :
    Calls P fn args w fun e w' => ∃ a k, e = .returned (.tuple #[.agg #[.int .i64 0, .slice a 0 k], .int .i64 c]) ∧ Sl true w' w.heap.size w'.heap.size (.slice a 0 k) 0 (fun _ => 0) ∧ Below w.heap.size w w' :=
  h.mono fun _ _ ⟨he, hb⟩ => ⟨none, 0, he, Sl.nil _ _ _ (Nat.le_refl _) _, hb⟩
end

section
open Go.RowKit Go.ChangeShapes Go.Sort
set_option linter.unusedVariables false
set_option linter.unusedSimpArgs false

section
variable {o o' : Bool} {lo hi lo' hi' n m : Nat} {v v' : Value} {f g : Nat → Int}
theorem MultiplyCyclos_impl_bad (x y c : Int) (w : World) (hs : Sl o w lo hi v n f) (ht : Sl o' w lo' hi' v' m g) (hc : pairC x y n m f g = c) (hc0 : c ≠ 0) :
    Calls Try.prog 34 #[.agg #[.int .i64 x, v], .agg #[.int .i64 y, v']] w fun e w' => e = .returned (failV c) ∧ Below w.heap.size w w' := by
  have HC := Lib.hid hc
  clear hc
  have hb : (c != 0) = true := by simpa using hc0
  have hb' : (c == 0) = false := by simpa using hc0
  obtain ⟨a, cap, rfl⟩ := hs.shape
  obtain ⟨a', cap', rfl⟩ := ht.shape
  have st0 := (((((St.start w).addSl ⟨o, lo, hi, .slice a n cap, n, f⟩ hs).addSl ⟨o', lo', hi', .slice a' m cap', m, g⟩ ht).alloc (.cells #[.int .i64 x, .slice a n cap] 28)).addBox w.heap.size [.int .i64 x, .slice a n cap] (Box.made _ _ _ _ (fun j v h => by simpa using h)))
  replace st0 := (st0.alloc (.cells #[.int .i64 y, .slice a' m cap'] 28)).addBox _ [.int .i64 y, .slice a' m cap'] (Box.made _ _ _ _ (fun j v h => by simpa using h))
  replace st0 := (st0.alloc (.cells #[.int .i64 0, .slice none 0 0] 28)).addBox _ [.int .i64 0, .slice none 0 0] (Box.made _ _ _ _ (fun j v h => by simpa using h))
  simp only [World.size_alloc] at st0
  clear hs ht
  have q0 := st0.sl 1 ⟨o, lo, hi, .slice a n cap, n, f⟩ rfl
  have q1 := st0.sl 0 ⟨o', lo', hi', .slice a' m cap', m, g⟩ rfl
  dsimp only at q0 q1
  obtain ⟨x0, x1⟩ := (st0.box 2 (w.heap.size, [.int .i64 x, .slice a n cap]) rfl).cell2
  obtain ⟨y0, y1⟩ := (st0.box 1 (w.heap.size + 1, [.int .i64 y, .slice a' m cap']) rfl).cell2
  go_enter Try.func34, Try.ntmps34
  go_wp2_with fail
  refine (pairCode_any _ _ _ q0 q1).mono ?_
  rw [HC.out]
  rintro e w1 ⟨rfl, b1⟩
  clear q0 q1 x0 x1 y0 y1
  have st1 := st0.keep b1
  have hz_w1 := b1.size
  try simp only [World.size_alloc] at hz_w1
  clear st0 b1
  obtain ⟨d0, d1⟩ := (st1.box 0 _ rfl).cell2
  have dz := (st1.box 0 _ rfl).2.2
  have BB := st1.1
  dsimp only at dz
  go_wp2
  refine bodyPost_ret (v := failV c) (by simp [results, Try.results34, go_sem, failV, d0, d1]) rfl ?_
  exact ⟨rfl, by go_grown⟩

set_option maxRecDepth 100000 in
set_option maxHeartbeats 1000000 in
theorem MultiplyCyclos_impl_ok (n : Nat) {L : Nat} (w : World) (hs : Sl o w lo hi v L f) (ht : Sl o' w lo' hi' v' L g) (h : CyP n L f) (h' : CyP n L g) (hw : Within (prodZ n L f g) (phiN n) 1000000000) :
    Calls Try.prog 34 #[.agg #[.int .i64 (n : Int), v], .agg #[.int .i64 (n : Int), v']] w fun e w' => ∃ a' cap', e = .returned (.tuple #[.agg #[.int .i64 (n : Int), .slice a' (phiN n) cap'], .int .i64 0]) ∧ Sl true w' w.heap.size w'.heap.size (.slice a' (phiN n) cap') (phiN n) (prodZ n L f g) ∧ Below w.heap.size w w' := by
  have hn1 : 1 ≤ n := by have := h.1; omega
  have hn2 : n ≤ 16 := by have := h.2.1; omega
  have hp := phi_le12 n hn2 hn1
  have hL : L ≤ 12 := by have e : L = phiN n := h.2.2.1; omega
  have hL0 : 0 < L := by have e : L = phiN n := h.2.2.1; have := phiN_pos n (by omega) hn1; omega
  have HC := Lib.hid (pairC_ok h h' rfl)
  have HF := Lib.hid (Within.big h.2.2.2)
  have HG := Lib.hid (Within.big h'.2.2.2)
  have HW := Lib.hid hw
  clear h h' hw
  have hhs := hs.size
  have hht := ht.size
  obtain ⟨a, cap, rfl⟩ := hs.shape
  obtain ⟨a', cap', rfl⟩ := ht.shape
  have st0 := (((((St.start w).addSl ⟨o, lo, hi, .slice a L cap, L, f⟩ hs).addSl ⟨o', lo', hi', .slice a' L cap', L, g⟩ ht).alloc (.cells #[.int .i64 (n : Int), .slice a L cap] 28)).addBox w.heap.size [.int .i64 (n : Int), .slice a L cap] (Box.made _ _ _ _ (fun j v h => by simpa using h)))
  replace st0 := (st0.alloc (.cells #[.int .i64 (n : Int), .slice a' L cap'] 28)).addBox _ [.int .i64 (n : Int), .slice a' L cap'] (Box.made _ _ _ _ (fun j v h => by simpa using h))
  replace st0 := (st0.alloc (.cells #[.int .i64 0, .slice none 0 0] 28)).addBox _ [.int .i64 0, .slice none 0 0] (Box.made _ _ _ _ (fun j v h => by simpa using h))
  simp only [World.size_alloc] at st0
  clear hs ht
  have q0 := st0.sl 1 ⟨o, lo, hi, .slice a L cap, L, f⟩ rfl
  have q1 := st0.sl 0 ⟨o', lo', hi', .slice a' L cap', L, g⟩ rfl
  dsimp only at q0 q1
  obtain ⟨x0, x1⟩ := (st0.box 2 (w.heap.size, [.int .i64 (n : Int), .slice a L cap]) rfl).cell2
  obtain ⟨y0, y1⟩ := (st0.box 1 (w.heap.size + 1, [.int .i64 (n : Int), .slice a' L cap']) rfl).cell2
  go_enter Try.func34, Try.ntmps34
  go_wp2_with fail
  refine (pairCode_any _ _ _ q0 q1).mono ?_
  rw [HC.out]
  rintro e w1 ⟨rfl, b1⟩
  clear q0 q1 x0 x1 y0 y1
  have st1 := st0.keep b1
  have hz_w1 := b1.size
  try simp only [World.size_alloc] at hz_w1
  clear st0 b1
  obtain ⟨x0, x1⟩ := (st1.box 2 (w.heap.size, [.int .i64 (n : Int), .slice a L cap]) rfl).cell2
  obtain ⟨y0, y1⟩ := (st1.box 1 (w.heap.size + 1, [.int .i64 (n : Int), .slice a' L cap']) rfl).cell2
  have q0 := st1.sl 1 ⟨o, lo, hi, .slice a L cap, L, f⟩ rfl
  have q1 := st1.sl 0 ⟨o', lo', hi', .slice a' L cap', L, g⟩ rfl
  dsimp only at q0 q1
  go_wp2_with fail
  refine (productWithin_ok n hn1 hn2 _ q0 q1 HF.out HG.out hL0 (Nat.le_refl _) hL (fun j h1 h2 => absurd h2 (by omega)) HW.out).mono ?_
  rintro e w7 ⟨a7, k7, rfl, s7, b7⟩
  clear q0 q1 x0 x1 y0 y1
  have st7 := st1.keep b7
  have hz7 := b7.size
  have S7 := Lib.hid s7
  clear s7
  clear st1 b7
  obtain ⟨d0, d1⟩ := (st7.box 0 _ rfl).cell2
  have dz := (st7.box 0 _ rfl).2.2
  have B7 := st7.1
  dsimp only at dz
  clear st7
  go_wp2
  refine bodyPost_ret (v := .tuple #[.agg #[.int .i64 (n : Int), .slice a7 (phiN n) k7], .int .i64 0]) (by simp [results, Try.results34, go_sem, d0, d1]) rfl ?_
  refine ⟨_, _, rfl, ?_, by go_grown⟩
  exact ((S7.out.setOther (.inl (by show w.heap.size + 1 + 1 < _; omega)) _).setOther (.inl (by show w.heap.size + 1 + 1 < _; omega)) _).wide (by omega) (by simp) (Nat.le_refl _)

set_option maxRecDepth 100000 in
set_option maxHeartbeats 1000000 in
theorem MultiplyCyclos_impl_big (n : Nat) {L : Nat} (w : World) (hs : Sl o w lo hi v L f) (ht : Sl o' w lo' hi' v' L g) (h : CyP n L f) (h' : CyP n L g) (hw : ¬ Within (prodZ n L f g) (phiN n) 1000000000) :
    Calls Try.prog 34 #[.agg #[.int .i64 (n : Int), v], .agg #[.int .i64 (n : Int), v']] w fun e w' => e = .returned (failV 3) ∧ Below w.heap.size w w' := by
  have hn1 : 1 ≤ n := by have := h.1; omega
  have hn2 : n ≤ 16 := by have := h.2.1; omega
  have hp := phi_le12 n hn2 hn1
  have hL : L ≤ 12 := by have e : L = phiN n := h.2.2.1; omega
  have hL0 : 0 < L := by have e : L = phiN n := h.2.2.1; have := phiN_pos n (by omega) hn1; omega
  have HC := Lib.hid (pairC_ok h h' rfl)
  have HF := Lib.hid (Within.big h.2.2.2)
  have HG := Lib.hid (Within.big h'.2.2.2)
  have HW := Lib.hid hw
  clear h h' hw
  have hhs := hs.size
  have hht := ht.size
  obtain ⟨a, cap, rfl⟩ := hs.shape
  obtain ⟨a', cap', rfl⟩ := ht.shape
  have st0 := (((((St.start w).addSl ⟨o, lo, hi, .slice a L cap, L, f⟩ hs).addSl ⟨o', lo', hi', .slice a' L cap', L, g⟩ ht).alloc (.cells #[.int .i64 (n : Int), .slice a L cap] 28)).addBox w.heap.size [.int .i64 (n : Int), .slice a L cap] (Box.made _ _ _ _ (fun j v h => by simpa using h)))
  replace st0 := (st0.alloc (.cells #[.int .i64 (n : Int), .slice a' L cap'] 28)).addBox _ [.int .i64 (n : Int), .slice a' L cap'] (Box.made _ _ _ _ (fun j v h => by simpa using h))
  replace st0 := (st0.alloc (.cells #[.int .i64 0, .slice none 0 0] 28)).addBox _ [.int .i64 0, .slice none 0 0] (Box.made _ _ _ _ (fun j v h => by simpa using h))
  simp only [World.size_alloc] at st0
  clear hs ht
  have q0 := st0.sl 1 ⟨o, lo, hi, .slice a L cap, L, f⟩ rfl
  have q1 := st0.sl 0 ⟨o', lo', hi', .slice a' L cap', L, g⟩ rfl
  dsimp only at q0 q1
  obtain ⟨x0, x1⟩ := (st0.box 2 (w.heap.size, [.int .i64 (n : Int), .slice a L cap]) rfl).cell2
  obtain ⟨y0, y1⟩ := (st0.box 1 (w.heap.size + 1, [.int .i64 (n : Int), .slice a' L cap']) rfl).cell2
  go_enter Try.func34, Try.ntmps34
  go_wp2_with fail
  refine (pairCode_any _ _ _ q0 q1).mono ?_
  rw [HC.out]
  rintro e w1 ⟨rfl, b1⟩
  clear q0 q1 x0 x1 y0 y1
  have st1 := st0.keep b1
  have hz_w1 := b1.size
  try simp only [World.size_alloc] at hz_w1
  clear st0 b1
  obtain ⟨x0, x1⟩ := (st1.box 2 (w.heap.size, [.int .i64 (n : Int), .slice a L cap]) rfl).cell2
  obtain ⟨y0, y1⟩ := (st1.box 1 (w.heap.size + 1, [.int .i64 (n : Int), .slice a' L cap']) rfl).cell2
  have q0 := st1.sl 1 ⟨o, lo, hi, .slice a L cap, L, f⟩ rfl
  have q1 := st1.sl 0 ⟨o', lo', hi', .slice a' L cap', L, g⟩ rfl
  dsimp only at q0 q1
  go_wp2_with fail
  refine (productWithin_big n hn1 hn2 _ q0 q1 HF.out HG.out hL0 (Nat.le_refl _) hL (fun j h1 h2 => absurd h2 (by omega)) HW.out).mono ?_
  rintro e w7 ⟨rfl, b7⟩
  clear q0 q1 x0 x1 y0 y1
  have st7 := st1.keep b7
  have hz7 := b7.size
  clear st1 b7
  obtain ⟨d0, d1⟩ := (st7.box 0 _ rfl).cell2
  have dz := (st7.box 0 _ rfl).2.2
  have B7 := st7.1
  dsimp only at dz
  clear st7
  unfold failV
  go_wp2
  refine bodyPost_ret (v := failV 3) (by simp [results, Try.results34, go_sem, failV, d0, d1]) rfl ?_
  exact ⟨rfl, by go_grown⟩

end
end

section
open Go.RowKit Go.ChangeShapes Go.Sort
set_option linter.unusedVariables false
set_option linter.unusedSimpArgs false

/-- The powers of a number, whatever their size. -/
def pw (n L : Nat) (f : Nat → Int) : Nat → Nat → Int
  | 0 => redP n (unit (powIx n 0))
  | i + 1 => prodZ n L (pw n L f i) f
def pwOk (n L : Nat) (f : Nat → Int) (k : Nat) : Prop := ∀ i, i < k → Within (pw n L f (i + 1)) (phiN n) 1000000000
theorem pwOk_first {n L : Nat} {f : Nat → Int} : ∀ {k : Nat}, ¬ pwOk n L f k → ∃ i, i < k ∧ pwOk n L f i ∧ ¬ Within (prodZ n L (pw n L f i) f) (phiN n) 1000000000
  | 0, h => absurd (fun i hi => absurd hi (Nat.not_lt_zero _)) h
  | k + 1, h => by
    by_cases hk : pwOk n L f k
    · refine ⟨k, Nat.lt_succ_self _, hk, fun hw => h (fun i hi => ?_)⟩
      rcases Nat.lt_succ_iff_lt_or_eq.1 hi with h1 | rfl
      · exact hk i h1
      · exact hw
    · obtain ⟨i, h1, h2, h3⟩ := pwOk_first hk
      exact ⟨i, Nat.lt_succ_of_lt h1, h2, h3⟩
theorem pw_cy {n L : Nat} {f : Nat → Int} (h : CyP (n : Int) L f) : ∀ {i : Nat}, pwOk n L f i → CyP (n : Int) L (pw n L f i)
  | 0, _ => by
    have h1 := h.1
    have h2 := h.2.1
    have e : L = phiN n := h.2.2.1
    have hi := (powIx_eq n (by omega) 0).2.1
    exact ⟨h1, h2, h.2.2.1, by rw [e]; exact redP_unit (by omega) (by omega) (by omega)⟩
  | i + 1, hk => by
    have e : L = phiN n := h.2.2.1
    exact ⟨h.1, h.2.1, h.2.2.1, by rw [e]; have := hk i (Nat.lt_succ_self _); rw [← e]; rw [← e] at this; exact this⟩

section
variable {o : Bool} {lo hi L : Nat} {v : Value} {f : Nat → Int}
end
end

section
open Go.RowKit Go.ChangeShapes Go.Sort
set_option linter.unusedVariables false
set_option linter.unusedSimpArgs false

section
variable {o o' : Bool} {lo hi lo' hi' n m : Nat} {v v' : Value} {f g : Nat → Int}
theorem MultiplyCyclos_spec_bad (x y c : Int) (w : World) (hs : Sl o w lo hi v n f) (ht : Sl o' w lo' hi' v' m g) (hc : pairC x y n m f g = c) (hc0 : c ≠ 0) :
    Calls Try.prog 190 #[.agg #[.int .i64 x, v], .agg #[.int .i64 y, v']] w fun e w' => e = .returned (failV c) ∧ Below w.heap.size w w' := by
  have HC := Lib.hid hc
  clear hc
  have hb : (c != 0) = true := by simpa using hc0
  have hb' : (c == 0) = false := by simpa using hc0
  obtain ⟨a, cap, rfl⟩ := hs.shape
  obtain ⟨a', cap', rfl⟩ := ht.shape
  have st0 := (((((St.start w).addSl ⟨o, lo, hi, .slice a n cap, n, f⟩ hs).addSl ⟨o', lo', hi', .slice a' m cap', m, g⟩ ht).alloc (.cells #[.int .i64 x, .slice a n cap] 28)).addBox w.heap.size [.int .i64 x, .slice a n cap] (Box.made _ _ _ _ (fun j v h => by simpa using h)))
  replace st0 := (st0.alloc (.cells #[.int .i64 y, .slice a' m cap'] 28)).addBox _ [.int .i64 y, .slice a' m cap'] (Box.made _ _ _ _ (fun j v h => by simpa using h))
  replace st0 := (st0.alloc (.cells #[.int .i64 0, .slice none 0 0] 28)).addBox _ [.int .i64 0, .slice none 0 0] (Box.made _ _ _ _ (fun j v h => by simpa using h))
  simp only [World.size_alloc] at st0
  clear hs ht
  have q0 := st0.sl 1 ⟨o, lo, hi, .slice a n cap, n, f⟩ rfl
  have q1 := st0.sl 0 ⟨o', lo', hi', .slice a' m cap', m, g⟩ rfl
  dsimp only at q0 q1
  obtain ⟨x0, x1⟩ := (st0.box 2 (w.heap.size, [.int .i64 x, .slice a n cap]) rfl).cell2
  obtain ⟨y0, y1⟩ := (st0.box 1 (w.heap.size + 1, [.int .i64 y, .slice a' m cap']) rfl).cell2
  go_enter Try.func190, Try.ntmps190
  go_wp2_with fail
  refine (l01Like_any _ _ _ q0 q1).mono ?_
  rw [HC.out]
  rintro e w1 ⟨rfl, b1⟩
  clear q0 q1 x0 x1 y0 y1
  have st1 := st0.keep b1
  have hz_w1 := b1.size
  try simp only [World.size_alloc] at hz_w1
  clear st0 b1
  obtain ⟨d0, d1⟩ := (st1.box 0 _ rfl).cell2
  have dz := (st1.box 0 _ rfl).2.2
  have BB := st1.1
  dsimp only at dz
  go_wp2
  refine bodyPost_ret (v := failV c) (by simp [results, Try.results190, go_sem, failV, d0, d1]) rfl ?_
  exact ⟨rfl, by go_grown⟩

set_option maxRecDepth 100000 in
set_option maxHeartbeats 1000000 in
theorem MultiplyCyclos_spec_ok (n : Nat) {L : Nat} (w : World) (hs : Sl o w lo hi v L f) (ht : Sl o' w lo' hi' v' L g) (h : CyP n L f) (h' : CyP n L g) (hw : Within (prodZ n L f g) (phiN n) 1000000000) :
    Calls Try.prog 190 #[.agg #[.int .i64 (n : Int), v], .agg #[.int .i64 (n : Int), v']] w fun e w' => ∃ a' cap', e = .returned (.tuple #[.agg #[.int .i64 (n : Int), .slice a' (phiN n) cap'], .int .i64 0]) ∧ Sl true w' w.heap.size w'.heap.size (.slice a' (phiN n) cap') (phiN n) (prodZ n L f g) ∧ Below w.heap.size w w' := by
  have hn1 : 1 ≤ n := by have := h.1; omega
  have hn2 : n ≤ 16 := by have := h.2.1; omega
  have hp := phi_le12 n hn2 hn1
  have hL : L ≤ 12 := by have e : L = phiN n := h.2.2.1; omega
  have hL0 : 0 < L := by have e : L = phiN n := h.2.2.1; have := phiN_pos n (by omega) hn1; omega
  have HC := Lib.hid (pairC_ok h h' rfl)
  have HW := Lib.hid hw
  have HF := Lib.hid h.2.2.2
  have HG := Lib.hid h'.2.2.2
  clear h h' hw
  have hhs := hs.size
  have hht := ht.size
  obtain ⟨a, cap, rfl⟩ := hs.shape
  obtain ⟨a', cap', rfl⟩ := ht.shape
  have st0 := (((((St.start w).addSl ⟨o, lo, hi, .slice a L cap, L, f⟩ hs).addSl ⟨o', lo', hi', .slice a' L cap', L, g⟩ ht).alloc (.cells #[.int .i64 (n : Int), .slice a L cap] 28)).addBox w.heap.size [.int .i64 (n : Int), .slice a L cap] (Box.made _ _ _ _ (fun j v h => by simpa using h)))
  replace st0 := (st0.alloc (.cells #[.int .i64 (n : Int), .slice a' L cap'] 28)).addBox _ [.int .i64 (n : Int), .slice a' L cap'] (Box.made _ _ _ _ (fun j v h => by simpa using h))
  replace st0 := (st0.alloc (.cells #[.int .i64 0, .slice none 0 0] 28)).addBox _ [.int .i64 0, .slice none 0 0] (Box.made _ _ _ _ (fun j v h => by simpa using h))
  simp only [World.size_alloc] at st0
  clear hs ht
  have q0 := st0.sl 1 ⟨o, lo, hi, .slice a L cap, L, f⟩ rfl
  have q1 := st0.sl 0 ⟨o', lo', hi', .slice a' L cap', L, g⟩ rfl
  dsimp only at q0 q1
  obtain ⟨x0, x1⟩ := (st0.box 2 (w.heap.size, [.int .i64 (n : Int), .slice a L cap]) rfl).cell2
  obtain ⟨y0, y1⟩ := (st0.box 1 (w.heap.size + 1, [.int .i64 (n : Int), .slice a' L cap']) rfl).cell2
  go_enter Try.func190, Try.ntmps190
  go_wp2_with fail
  refine (l01Like_any _ _ _ q0 q1).mono ?_
  rw [HC.out]
  rintro e w1 ⟨rfl, b1⟩
  clear q0 q1 x0 x1 y0 y1
  have st1 := st0.keep b1
  have hz_w1 := b1.size
  try simp only [World.size_alloc] at hz_w1
  clear st0 b1
  obtain ⟨x0, x1⟩ := (st1.box 2 (w.heap.size, [.int .i64 (n : Int), .slice a L cap]) rfl).cell2
  obtain ⟨y0, y1⟩ := (st1.box 1 (w.heap.size + 1, [.int .i64 (n : Int), .slice a' L cap']) rfl).cell2
  have q0 := st1.sl 1 ⟨o, lo, hi, .slice a L cap, L, f⟩ rfl
  have q1 := st1.sl 0 ⟨o', lo', hi', .slice a' L cap', L, g⟩ rfl
  dsimp only at q0 q1
  go_wp2_with fail
  refine (l01Times_any n hn1 hn2 _ q0 q1 (Within.big HF.out) (Within.big HG.out) hL0 hL).mono ?_
  rintro e w2 ⟨a2, k2, b, rfl, hbw, sP, b2⟩
  clear q0 q1 x0 x1 y0 y1
  obtain rfl : b = true := hbw.2 HW.out
  have hz2 := b2.size
  have S3 := Lib.hid ((sP rfl).alloc (.cells #[.int .i64 (n : Int), .slice a2 (phiN n) k2] 28))
  clear sP hbw
  have st3 := (st1.keep b2).boxNew (.int .i64 (n : Int)) (.slice a2 (phiN n) k2) 28
  clear st1 b2
  obtain ⟨d0, d1⟩ := (st3.box 1 _ rfl).cell2
  have dz := (st3.box 1 _ rfl).2.2
  have BB := st3.1
  dsimp only at dz
  clear st3
  go_wp2
  refine bodyPost_ret (v := .tuple #[.agg #[.int .i64 (n : Int), .slice a2 (phiN n) k2], .int .i64 0]) (by simp [results, Try.results190, go_sem, d0, d1]) rfl ?_
  refine ⟨_, _, rfl, ?_, by go_grown⟩
  exact ((S3.out.setOther (.inl (by show w.heap.size + 1 + 1 < _; omega)) _).setOther (.inl (by show w.heap.size + 1 + 1 < _; omega)) _).wide (by omega) (by simp) (Nat.le_refl _)

set_option maxRecDepth 100000 in
set_option maxHeartbeats 1000000 in
theorem MultiplyCyclos_spec_big (n : Nat) {L : Nat} (w : World) (hs : Sl o w lo hi v L f) (ht : Sl o' w lo' hi' v' L g) (h : CyP n L f) (h' : CyP n L g) (hw : ¬ Within (prodZ n L f g) (phiN n) 1000000000) :
    Calls Try.prog 190 #[.agg #[.int .i64 (n : Int), v], .agg #[.int .i64 (n : Int), v']] w fun e w' => e = .returned (failV 3) ∧ Below w.heap.size w w' := by
  have hn1 : 1 ≤ n := by have := h.1; omega
  have hn2 : n ≤ 16 := by have := h.2.1; omega
  have hp := phi_le12 n hn2 hn1
  have hL : L ≤ 12 := by have e : L = phiN n := h.2.2.1; omega
  have hL0 : 0 < L := by have e : L = phiN n := h.2.2.1; have := phiN_pos n (by omega) hn1; omega
  have HC := Lib.hid (pairC_ok h h' rfl)
  have HW := Lib.hid hw
  have HF := Lib.hid h.2.2.2
  have HG := Lib.hid h'.2.2.2
  clear h h' hw
  have hhs := hs.size
  have hht := ht.size
  obtain ⟨a, cap, rfl⟩ := hs.shape
  obtain ⟨a', cap', rfl⟩ := ht.shape
  have st0 := (((((St.start w).addSl ⟨o, lo, hi, .slice a L cap, L, f⟩ hs).addSl ⟨o', lo', hi', .slice a' L cap', L, g⟩ ht).alloc (.cells #[.int .i64 (n : Int), .slice a L cap] 28)).addBox w.heap.size [.int .i64 (n : Int), .slice a L cap] (Box.made _ _ _ _ (fun j v h => by simpa using h)))
  replace st0 := (st0.alloc (.cells #[.int .i64 (n : Int), .slice a' L cap'] 28)).addBox _ [.int .i64 (n : Int), .slice a' L cap'] (Box.made _ _ _ _ (fun j v h => by simpa using h))
  replace st0 := (st0.alloc (.cells #[.int .i64 0, .slice none 0 0] 28)).addBox _ [.int .i64 0, .slice none 0 0] (Box.made _ _ _ _ (fun j v h => by simpa using h))
  simp only [World.size_alloc] at st0
  clear hs ht
  have q0 := st0.sl 1 ⟨o, lo, hi, .slice a L cap, L, f⟩ rfl
  have q1 := st0.sl 0 ⟨o', lo', hi', .slice a' L cap', L, g⟩ rfl
  dsimp only at q0 q1
  obtain ⟨x0, x1⟩ := (st0.box 2 (w.heap.size, [.int .i64 (n : Int), .slice a L cap]) rfl).cell2
  obtain ⟨y0, y1⟩ := (st0.box 1 (w.heap.size + 1, [.int .i64 (n : Int), .slice a' L cap']) rfl).cell2
  go_enter Try.func190, Try.ntmps190
  go_wp2_with fail
  refine (l01Like_any _ _ _ q0 q1).mono ?_
  rw [HC.out]
  rintro e w1 ⟨rfl, b1⟩
  clear q0 q1 x0 x1 y0 y1
  have st1 := st0.keep b1
  have hz_w1 := b1.size
  try simp only [World.size_alloc] at hz_w1
  clear st0 b1
  obtain ⟨x0, x1⟩ := (st1.box 2 (w.heap.size, [.int .i64 (n : Int), .slice a L cap]) rfl).cell2
  obtain ⟨y0, y1⟩ := (st1.box 1 (w.heap.size + 1, [.int .i64 (n : Int), .slice a' L cap']) rfl).cell2
  have q0 := st1.sl 1 ⟨o, lo, hi, .slice a L cap, L, f⟩ rfl
  have q1 := st1.sl 0 ⟨o', lo', hi', .slice a' L cap', L, g⟩ rfl
  dsimp only at q0 q1
  go_wp2_with fail
  refine (l01Times_any n hn1 hn2 _ q0 q1 (Within.big HF.out) (Within.big HG.out) hL0 hL).mono ?_
  rintro e w2 ⟨a2, k2, b, rfl, hbw, sP, b2⟩
  clear q0 q1 x0 x1 y0 y1
  obtain rfl : b = false := by cases b; rfl; exact absurd (hbw.1 rfl) HW.out
  have hz2 := b2.size
  clear sP hbw
  have st3 := (st1.keep b2).boxNew (.int .i64 (n : Int)) (.slice a2 (phiN n) k2) 28
  clear st1 b2
  obtain ⟨d0, d1⟩ := (st3.box 1 _ rfl).cell2
  have dz := (st3.box 1 _ rfl).2.2
  have BB := st3.1
  dsimp only at dz
  clear st3
  go_wp2
  refine bodyPost_ret (v := failV 3) (by simp [results, Try.results190, go_sem, failV, d0, d1]) rfl ?_
  exact ⟨rfl, by go_grown⟩

end
end

section
open Go.RowKit Go.ChangeShapes Go.Sort
set_option linter.unusedVariables false
set_option linter.unusedSimpArgs false

section
variable {o : Bool} {lo hi L : Nat} {v : Value} {f : Nat → Int}
theorem l01One_any (n : Nat) (w : World) (h1 : 1 ≤ n) (h2 : n ≤ 16) :
    Calls Try.prog 197 #[.int .i64 (n : Int)] w fun e w' => ∃ a cap, e = .returned (.agg #[.int .i64 (n : Int), .slice a (phiN n) cap]) ∧ Sl true w' w.heap.size w'.heap.size (.slice a (phiN n) cap) (phiN n) (redP n (unit (powIx n 0))) ∧ Below w.heap.size w w' := by
  have st0 := (St.start w).boxNew (.int .i64 0) (.slice none 0 0) 28
  go_enter Try.func197, Try.ntmps197
  go_wp2_with fail
  refine (l01Unit_any n 0 _ h1 h2).mono ?_
  rintro e w1 ⟨a1, k1, rfl, s1, b1⟩
  have st1 := st0.keep b1
  have hz1 := b1.size
  simp only [World.size_alloc] at hz1
  have S1 := Lib.hid s1
  clear st0 b1 s1
  obtain ⟨d0, d1⟩ := (st1.box 0 _ rfl).cell2
  have dz := (st1.box 0 _ rfl).2.2
  have BB := st1.1
  dsimp only at dz
  go_wp2
  refine bodyPost_ret (v := .agg #[.int .i64 (n : Int), .slice a1 (phiN n) k1]) (by simp [results, Try.results197, go_sem, d0, d1]) rfl ?_
  refine ⟨_, _, rfl, ?_, by go_grown⟩
  exact ((S1.out.setOther (.inl (by show w.heap.size < _; simp)) _).setOther (.inl (by show w.heap.size < _; simp)) _).wide (by simp) (by simp) (Nat.le_refl _)

end
end

section
open Go.RowKit Go.ChangeShapes Go.Sort
set_option linter.unusedVariables false
set_option linter.unusedSimpArgs false

theorem powIx_zero : ∀ n, n < 17 → 1 ≤ n → powIx n 0 = 0 := by decide +kernel
theorem one_red {n : Nat} (hn : n < 17) (h1 : 1 ≤ n) {j : Nat} (hj : j < phiN n) : redP n (unit (powIx n 0)) j = one0 j := by
  have hp := phi_le12 n (by omega) h1
  have e : redZ n (unit 0) j = one0 j := by
    rw [tb_eq hn h1 (by omega) hj, tab_unit n hn h1 0 (phi_pos n hn h1) j hj]
    unfold one0
    by_cases h : j = 0
    · rw [if_pos h, if_pos h.symm]
    · rw [if_neg h, if_neg (fun h' => h h'.symm)]
  rw [powIx_zero n hn h1, redP_exact hn h1 (P' := unit 0) (fun k _ => (wrap_inR (by unfold unit inR; split <;> omega)).symm) (by omega) (by rw [e]; unfold one0 inR; split <;> omega), e]

section
variable {o : Bool} {lo hi L : Nat} {v : Value} {f : Nat → Int}
set_option maxRecDepth 100000 in
set_option maxHeartbeats 4000000 in
theorem l02Product_any (n : Nat) (s : Nat) (w : World) (hs : Sl o w lo hi v L f) (h : CyP n L f) (hsn : s ≤ phiN n) :
    Calls Try.prog 178 #[.agg #[.int .i64 (n : Int), v], .int .i64 (s : Int)] w fun e w' => ((prOk n L f s (phiN n - s) ∧ ∃ a' cap', e = .returned (.tuple #[.agg #[.int .i64 (n : Int), .slice a' (phiN n) cap'], .bool true]) ∧ Sl true w' w.heap.size w'.heap.size (.slice a' (phiN n) cap') (phiN n) (prI n L f s (phiN n - s))) ∨ (¬ prOk n L f s (phiN n - s) ∧ e = .returned (.tuple #[.agg #[.int .i64 0, .slice none 0 0], .bool false]))) ∧ Below w.heap.size w w' := by
  obtain ⟨av, cap, rfl⟩ := hs.shape
  have hn1 : 1 ≤ n := by have := h.1; omega
  have hn2 : n ≤ 16 := by have := h.2.1; omega
  have hp := phi_le12 n hn2 hn1
  have hp0 := phiN_pos n (by omega) hn1
  have hL : L ≤ 12 := by have e : L = phiN n := h.2.2.1; omega
  have hhs := hs.size
  have HIM := Lib.hid (fun k => im_big (n := n) (L := L) (f := f) (by omega) hn1 h.2.2.2 hL k)
  have st0 := ((((St.start w).addSl ⟨o, lo, hi, .slice av L cap, L, f⟩ hs).alloc (.cells #[.int .i64 (n : Int), .slice av L cap] 28)).addBox w.heap.size [.int .i64 (n : Int), .slice av L cap] (Box.made _ _ _ _ (fun j v h => by simpa using h)))
  replace st0 := st0.boxNew (.int .i64 0) (.slice none 0 0) 28
  simp only [World.size_alloc] at st0
  have q0 := st0.sl 0 ⟨o, lo, hi, .slice av L cap, L, f⟩ rfl
  dsimp only at q0
  clear h hs
  go_enter Try.func178, Try.ntmps178
  go_wp2_with fail
  refine (l02Images_any n hn1 hn2 _ q0 (by omega)).mono ?_
  rintro e w2 ⟨g, cap2, g2, cap3, vs, rfl, r2, s2, n2, hne, b2⟩
  have hz2 := b2.size
  simp only [World.size_alloc] at hz2 r2 s2
  have st2 := st0.keep b2
  clear st0 b2 n2 q0
  obtain ⟨x0, x1⟩ := (st2.box 1 (w.heap.size, [.int .i64 (n : Int), .slice av L cap]) rfl).cell2
  go_wp2_with fail
  refine (l01One_any n _ hn1 hn2).mono ?_
  rintro e w3 ⟨a3, k3, rfl, s3, b3⟩
  have hz3 := b3.size
  have HS3 := Lib.hid ((s3.congr (f' := prI n L f s 0) (fun j hj => (one_red (by omega) hn1 hj).symm)).alloc (.cells #[.int .i64 (n : Int), .slice a3 (phiN n) k3] 28))
  have R3 := Lib.hid ((r2.keep b3 (Nat.le_refl _)).alloc (.cells #[.int .i64 (n : Int), .slice a3 (phiN n) k3] 28))
  have SS3 := Lib.hid ((s2.keep b3 (Nat.le_refl _)).alloc (.cells #[.int .i64 (n : Int), .slice a3 (phiN n) k3] 28))
  have ST3 := Lib.hid ((st2.keep b3).boxNew (.int .i64 (n : Int)) (.slice a3 (phiN n) k3) 28)
  have hg3 : g < w3.heap.size := by have := r2.lt.2; omega
  have HLO := Lib.hid (show ∀ i, i < phiN n → ∃ lo1 hi1, hi1 ≤ w3.heap.size ∧ Sl true w3 lo1 hi1 (vs i) (phiN n) (im n L f i) from fun i hi => by
    obtain ⟨lo1, hi1, _, _, _, q⟩ := s2 i hi
    have := q.size
    exact ⟨lo1, hi1, by omega, q.keep b3 q.size⟩)
  clear st2 b3 s3 r2 s2 x0 x1
  go_wp2
  go_loopw [9] (fun s9 wr => ∃ k i : Nat, k = s + i ∧ k ≤ phiN n ∧ s9 = .int .i64 k ∧ prOk n L f s i ∧ RowE wr (w.heap.size + 1 + 1) 28 2 g cap2 (phiN n) (fun k => [.int .i64 (n : Int), vs k]) ∧
      (∀ i, i < phiN n → ∃ lo1 hi1, hi1 ≤ w3.heap.size ∧ Sl true wr lo1 hi1 (vs i) (phiN n) (im n L f i)) ∧
      ∃ (lo6 hi6 : Nat) (a6 : Option Addr) (k6 : Nat), w.heap.size + 2 ≤ lo6 ∧ (w3.heap.size < lo6 ∨ hi6 ≤ w3.heap.size) ∧ Sl true wr lo6 hi6 (.slice a6 (phiN n) k6) (phiN n) (prI n L f s i) ∧ St w wr [(w3.heap.size, [.int .i64 (n : Int), .slice a6 (phiN n) k6]), (w.heap.size + 1, [.int .i64 0, .slice none 0 0]), (w.heap.size, [.int .i64 (n : Int), .slice av L cap])] [⟨o, lo, hi, .slice av L cap, L, f⟩]) (fun s9 _ => phiN n - (intOf s9).toNat)
  case atStart => exact ⟨s, 0, rfl, hsn, rfl, prOk_zero _ _ _ _, R3.out, fun i hi => by
      obtain ⟨l, h, q1, q2⟩ := HLO.out i hi
      exact ⟨l, h, q1, q2.alloc _⟩, _, _, a3, k3, by omega, .inr (Nat.le_refl _), HS3.out, ST3.out⟩
  case round =>
    clear HS3 R3 SS3 ST3 HLO
    obtain ⟨k, i, hki, hk, rfl, hok, hrow, hsl, lo6, hi6, a6, k6, hl6, hd6, hown, hst6⟩ := hrel
    have R1 := Lib.hid hrow; clear hrow
    have HO := Lib.hid hown; clear hown
    have HT := Lib.hid hst6; clear hst6
    have HOK := Lib.hid hok; clear hok
    have SL := Lib.hid hsl; clear hsl
    have HKI := Lib.hid hki; clear hki
    obtain ⟨p0, p1⟩ := (HT.out.box 0 (w3.heap.size, [.int .i64 (n : Int), .slice a6 (phiN n) k6]) rfl).cell2
    have pz := (HT.out.box 0 (w3.heap.size, [.int .i64 (n : Int), .slice a6 (phiN n) k6]) rfl).2.2
    have pl := (HT.out.box 0 (w3.heap.size, [.int .i64 (n : Int), .slice a6 (phiN n) k6]) rfl).1
    dsimp only at pz pl
    have hgl := R1.out.lt.2
    by_cases hlt : k < phiN n
    · have hk2 : (k : Int) < (phiN n : Int) := by omega
      have e0 := R1.out.cell (fun _ => rfl) (i := k) (j := 0) hlt (by omega)
      have e1 := R1.out.cell (fun _ => rfl) (i := k) (j := 1) hlt (by omega)
      simp only [Nat.add_zero, List.getElem?_cons_zero, List.getElem?_cons_succ] at e0 e1
      obtain ⟨lo1, hi1, hh1, hv⟩ := SL.out k hlt
      have HTA := Lib.hid (HT.out.boxNew (.int .i64 0) (.slice none 0 0) 28)
      have HPW := Lib.hid (l01Times_any n hn1 hn2 wr.drew HO.out.drew hv.drew (Within.big (prI_within HOK.out)) (HIM.out k) hp0 hp)
      have HPA := Lib.hid (l01Times_any n hn1 hn2 (wr.alloc (.cells #[.int .i64 0, .slice none 0 0] 28)).drew (HO.out.alloc _).drew (hv.alloc _).drew (Within.big (prI_within HOK.out)) (HIM.out k) hp0 hp)
      have HPE := Lib.hid (show prodZ n (phiN n) (prI n L f s i) (im n L f k) = prI n L f s (i + 1) from by rw [HKI.out]; rfl)
      rw [HPE.out] at HPW HPA
      clear hv
      go_wp2_with fail
      go_region_law (first
          | (go_simp; go_at_call 165; refine HPW.out.mono ?_; rintro e w4 ⟨a4, k4, b4', rfl, hb4, s4, b4⟩
             have hz4 := b4.size
             have st4 := ((HT.out.drew.keep b4).alloc (.cells #[.int .i64 (n : Int), .slice a4 (phiN n) k4] 28)).addBox w4.heap.size [.int .i64 (n : Int), .slice a4 (phiN n) k4] (Box.made2 rfl)
             have r4 := (((R1.out.drewN 1).keep b4 (Nat.le_refl _)).alloc (.cells #[.int .i64 (n : Int), .slice a4 (phiN n) k4] 28))
             have l4 := Lib.hid (fun i hi => show ∃ lo1 hi1, hi1 ≤ w3.heap.size ∧ Sl true (w4.alloc (.cells #[.int .i64 (n : Int), .slice a4 (phiN n) k4] 28)) lo1 hi1 (vs i) (phiN n) (im n L f i) from by
               obtain ⟨l, h, q1, q2⟩ := SL.out i hi
               exact ⟨l, h, q1, (q2.drew.keep b4 (by show h ≤ wr.heap.size; omega)).alloc _⟩)
             have S4 := Lib.hid (fun hb => (s4 hb).alloc (.cells #[.int .i64 (n : Int), .slice a4 (phiN n) k4] 28))
             have ST4 := Lib.hid st4
             have R4 := Lib.hid r4
             have HB4 := Lib.hid hb4
             obtain ⟨t0, t1⟩ := (st4.box 0 (w4.heap.size, [.int .i64 (n : Int), .slice a4 (phiN n) k4]) rfl).cell2
             clear s4 b4 st4 r4 hb4 HPW HPA)
          | (go_simp; go_at_call 165; refine HPA.out.mono ?_; rintro e w4 ⟨a4, k4, b4', rfl, hb4, s4, b4⟩
             have hz4 := b4.size
             have st4 := HTA.out.drew.keep b4
             obtain ⟨q0, q1⟩ := (st4.box 0 (wr.heap.size, [.int .i64 0, .slice none 0 0]) rfl).cell2
             have qz := (st4.box 0 (wr.heap.size, [.int .i64 0, .slice none 0 0]) rfl).2.2
             dsimp only at qz))
      all_goals first
        | (
          skip
          have PB := (ST4.out.box 1 (w3.heap.size, [.int .i64 (n : Int), .slice a6 (phiN n) k6]) rfl)
          have p0' := PB.cell2.1
          have p1' := PB.cell2.2
          have pz' := PB.2.2
          dsimp only at pz'
          clear PB
          cases b4' with
          | false =>
            have HN := Lib.hid (show ¬ prOk n L f s (phiN n - s) from fun h => by
              have := HB4.out.2 (h i (by have := HKI.out; omega))
              cases this)
            obtain ⟨d0, d1⟩ := (ST4.out.box 2 (w.heap.size + 1, [.int .i64 0, .slice none 0 0]) rfl).cell2
            have dz := (ST4.out.box 2 (w.heap.size + 1, [.int .i64 0, .slice none 0 0]) rfl).2.2
            have BB := ST4.out.1
            dsimp only at dz
            clear ST4 R4 l4 S4
            go_wp2
            refine bodyPost_ret (v := .tuple #[.agg #[.int .i64 0, .slice none 0 0], .bool false]) (by simp [results, Try.results178, go_sem, d0, d1]) rfl ?_
            exact ⟨.inr ⟨HN.out, rfl⟩, by go_grown⟩
          | true =>
            have HN := Lib.hid (prOk_succ HOK.out (HB4.out.1 rfl))
            have STN := Lib.hid (ST4.out.tailB.boxSet (u0 := .int .i64 (n : Int)) (u1 := .slice a4 (phiN n) k4) (by omega) (by intro b hb; simp only [List.mem_cons, List.not_mem_nil, or_false] at hb; rcases hb with rfl | rfl <;> dsimp only <;> omega) (by intro s hs'; simp only [List.mem_cons, List.not_mem_nil, or_false] at hs'; rcases hs' with rfl <;> dsimp only <;> omega))
            have RN := Lib.hid (R4.out.keepF (((Frame.refl w3.heap.size (w3.heap.size + 1) (w4.alloc (.cells #[.int .i64 (n : Int), .slice a4 (phiN n) k4] 28))).setCell (Nat.le_refl _) (Nat.lt_succ_self _) (.int .i64 (n : Int)) (p := ⟨w3.heap.size, 0, none⟩)).setCell (Nat.le_refl _) (Nat.lt_succ_self _) (.slice a4 (phiN n) k4) (p := ⟨w3.heap.size, 1, none⟩)) (by omega))
            have SN := Lib.hid (((S4.out rfl).setOther (p := ⟨w3.heap.size, 0, none⟩) (.inl (by show w3.heap.size < wr.drew.heap.size; exact pl)) (.int .i64 (n : Int))).setOther (p := ⟨w3.heap.size, 1, none⟩) (.inl (by show w3.heap.size < wr.drew.heap.size; exact pl)) (.slice a4 (phiN n) k4))
            have LN := Lib.hid (fun i hi => show ∃ lo1 hi1, hi1 ≤ w3.heap.size ∧ Sl true (((w4.alloc (.cells #[.int .i64 (n : Int), .slice a4 (phiN n) k4] 28)).setCell ⟨w3.heap.size, 0, none⟩ (.int .i64 (n : Int))).setCell ⟨w3.heap.size, 1, none⟩ (.slice a4 (phiN n) k4)) lo1 hi1 (vs i) (phiN n) (im n L f i) from by
              obtain ⟨l, h, q1, q2⟩ := l4.out i hi
              exact ⟨l, h, q1, (q2.setOther (.inr q1) _).setOther (.inr q1) _⟩)
            clear ST4 R4 l4 S4
            go_wp2
            go_roundw
            case rel =>
              exact ⟨k + 1, i + 1, by have := HKI.out; omega, by omega, by go_num, HN.out, RN.out, LN.out, _, _, a4, k4, (by show w.heap.size + 2 ≤ wr.heap.size; omega), .inl pl, SN.out, STN.out⟩
            case measure => simp [intOf] <;> omega )
        | (
          skip
          have ST4 := Lib.hid ((st4.tailB.set2 (b := wr.heap.size) (i := 0) (j := 1) (u := .int .i64 (n : Int)) (v := .slice a4 (phiN n) k4) (by omega) (by intro b hb; simp only [List.mem_cons, List.not_mem_nil, or_false] at hb; rcases hb with rfl | rfl | rfl <;> dsimp only <;> omega) (by intro s hs'; simp only [List.mem_cons, List.not_mem_nil, or_false] at hs'; rcases hs' with rfl <;> dsimp only <;> omega)).addBox wr.heap.size [.int .i64 (n : Int), .slice a4 (phiN n) k4] ((st4.box 0 (wr.heap.size, [.int .i64 0, .slice none 0 0]) rfl).set2))
          have R4 := Lib.hid ((((R1.out.alloc (.cells #[.int .i64 0, .slice none 0 0] 28)).drewN 1).keep b4 (Nat.le_refl _)).keepF (((Frame.refl wr.heap.size (wr.heap.size + 1) w4).setCell (Nat.le_refl _) (Nat.lt_succ_self _) (.int .i64 (n : Int)) (p := ⟨wr.heap.size, 0, none⟩)).setCell (Nat.le_refl _) (Nat.lt_succ_self _) (.slice a4 (phiN n) k4) (p := ⟨wr.heap.size, 1, none⟩)) (by omega))
          have l4 := Lib.hid (fun i hi => show ∃ lo1 hi1, hi1 ≤ w3.heap.size ∧ Sl true ((w4.setCell ⟨wr.heap.size, 0, none⟩ (.int .i64 (n : Int))).setCell ⟨wr.heap.size, 1, none⟩ (.slice a4 (phiN n) k4)) lo1 hi1 (vs i) (phiN n) (im n L f i) from by
            obtain ⟨l, h, q1, q2⟩ := SL.out i hi
            exact ⟨l, h, q1, ((((q2.alloc (.cells #[.int .i64 0, .slice none 0 0] 28)).drew.keep b4 (by show h ≤ (wr.alloc _).heap.size; rw [World.size_alloc]; omega)).setOther (.inr (by show h ≤ wr.heap.size; omega)) _).setOther (.inr (by show h ≤ wr.heap.size; omega)) _)⟩)
          have S4 := Lib.hid (fun hb => ((s4 hb).setOther (p := ⟨wr.heap.size, 0, none⟩) (.inl (by show wr.heap.size < (wr.alloc _).heap.size; rw [World.size_alloc]; omega)) (.int .i64 (n : Int))).setOther (p := ⟨wr.heap.size, 1, none⟩) (.inl (by show wr.heap.size < (wr.alloc _).heap.size; rw [World.size_alloc]; omega)) (.slice a4 (phiN n) k4))
          have HB4 := Lib.hid hb4
          obtain ⟨t0, t1⟩ := (ST4.out.box 0 (wr.heap.size, [.int .i64 (n : Int), .slice a4 (phiN n) k4]) rfl).cell2
          have hw4 : wr.heap.size + 1 ≤ w4.heap.size := by have := hz4; simp only [World.size_drew, World.size_alloc] at this; omega
          clear s4 b4 st4 hb4 HPW HPA q0 q1 qz
          have PB := (ST4.out.box 1 (w3.heap.size, [.int .i64 (n : Int), .slice a6 (phiN n) k6]) rfl)
          have p0' := PB.cell2.1
          have p1' := PB.cell2.2
          have pz' := PB.2.2
          dsimp only at pz'
          clear PB
          cases b4' with
          | false =>
            have HN := Lib.hid (show ¬ prOk n L f s (phiN n - s) from fun h => by
              have := HB4.out.2 (h i (by have := HKI.out; omega))
              cases this)
            obtain ⟨d0, d1⟩ := (ST4.out.box 2 (w.heap.size + 1, [.int .i64 0, .slice none 0 0]) rfl).cell2
            have dz := (ST4.out.box 2 (w.heap.size + 1, [.int .i64 0, .slice none 0 0]) rfl).2.2
            have BB := ST4.out.1
            dsimp only at dz
            clear ST4 R4 l4 S4
            go_wp2
            refine bodyPost_ret (v := .tuple #[.agg #[.int .i64 0, .slice none 0 0], .bool false]) (by simp [results, Try.results178, go_sem, d0, d1]) rfl ?_
            exact ⟨.inr ⟨HN.out, rfl⟩, by go_grown⟩
          | true =>
            have HN := Lib.hid (prOk_succ HOK.out (HB4.out.1 rfl))
            have STN := Lib.hid (ST4.out.tailB.boxSet (u0 := .int .i64 (n : Int)) (u1 := .slice a4 (phiN n) k4) (by omega) (by intro b hb; simp only [List.mem_cons, List.not_mem_nil, or_false] at hb; rcases hb with rfl | rfl <;> dsimp only <;> omega) (by intro s hs'; simp only [List.mem_cons, List.not_mem_nil, or_false] at hs'; rcases hs' with rfl <;> dsimp only <;> omega))
            have RN := Lib.hid (R4.out.keepF (((Frame.refl w3.heap.size (w3.heap.size + 1) ((w4.setCell ⟨wr.heap.size, 0, none⟩ (.int .i64 (n : Int))).setCell ⟨wr.heap.size, 1, none⟩ (.slice a4 (phiN n) k4))).setCell (Nat.le_refl _) (Nat.lt_succ_self _) (.int .i64 (n : Int)) (p := ⟨w3.heap.size, 0, none⟩)).setCell (Nat.le_refl _) (Nat.lt_succ_self _) (.slice a4 (phiN n) k4) (p := ⟨w3.heap.size, 1, none⟩)) (by omega))
            have SN := Lib.hid (((S4.out rfl).setOther (p := ⟨w3.heap.size, 0, none⟩) (.inl (by show w3.heap.size < (wr.alloc _).heap.size; rw [World.size_alloc]; omega)) (.int .i64 (n : Int))).setOther (p := ⟨w3.heap.size, 1, none⟩) (.inl (by show w3.heap.size < (wr.alloc _).heap.size; rw [World.size_alloc]; omega)) (.slice a4 (phiN n) k4))
            have LN := Lib.hid (fun i hi => show ∃ lo1 hi1, hi1 ≤ w3.heap.size ∧ Sl true ((((w4.setCell ⟨wr.heap.size, 0, none⟩ (.int .i64 (n : Int))).setCell ⟨wr.heap.size, 1, none⟩ (.slice a4 (phiN n) k4)).setCell ⟨w3.heap.size, 0, none⟩ (.int .i64 (n : Int))).setCell ⟨w3.heap.size, 1, none⟩ (.slice a4 (phiN n) k4)) lo1 hi1 (vs i) (phiN n) (im n L f i) from by
              obtain ⟨l, h, q1, q2⟩ := l4.out i hi
              exact ⟨l, h, q1, (q2.setOther (.inr q1) _).setOther (.inr q1) _⟩)
            clear ST4 R4 l4 S4
            go_wp2
            go_roundw
            case rel =>
              exact ⟨k + 1, i + 1, by have := HKI.out; omega, by omega, by go_num, HN.out, RN.out, LN.out, _, _, a4, k4, (by show w.heap.size + 2 ≤ (wr.alloc _).heap.size; rw [World.size_alloc]; omega), (by left; show w3.heap.size < (wr.alloc _).heap.size; rw [World.size_alloc]; omega), SN.out, STN.out⟩
            case measure => simp [intOf] <;> omega )
    · obtain rfl : k = phiN n := by omega
      obtain ⟨d0, d1⟩ := (HT.out.box 1 (w.heap.size + 1, [.int .i64 0, .slice none 0 0]) rfl).cell2
      have dz := (HT.out.box 1 (w.heap.size + 1, [.int .i64 0, .slice none 0 0]) rfl).2.2
      have BB := HT.out.1
      have HIS := Lib.hid (show phiN n - s = i from by have := HKI.out; omega)
      dsimp only at dz
      clear HT
      go_wp2
      refine bodyPost_ret (v := .tuple #[.agg #[.int .i64 (n : Int), .slice a6 (phiN n) k6], .bool true]) (by simp [results, Try.results178, go_sem, d0, d1]) rfl ?_
      refine ⟨.inl ⟨by rw [HIS.out]; exact HOK.out, _, _, rfl, ?_⟩, by go_grown⟩
      rw [HIS.out]
      exact ((HO.out.setOther (.inl (by show w.heap.size + 1 < _; omega)) _).setOther (.inl (by show w.heap.size + 1 < _; omega)) _).wide (by omega) (by simpa using HO.out.size) (Nat.le_refl _)
end
end

section
open Go.RowKit Go.ChangeShapes Go.Sort
set_option linter.unusedVariables false
set_option linter.unusedSimpArgs false

section
variable {o : Bool} {lo hi L : Nat} {v : Value} {f : Nat → Int}
theorem productOfImages_ok (n : Nat) (h1 : 1 ≤ n) (h2 : n ≤ 16) (w : World) {base g cap t s m cap2 off : Nat} (hR : RowE w base 101 12 g cap t (fun k => arrL (imA n L f k))) (hoff : 0 < m → off = s * 12) (hst : s + m ≤ t) (ht : t ≤ 12) (hf : Within f L 1000000000) (hL : L ≤ 12) (hk : prOk n L f s m) :
    Calls Try.prog 177 #[.int .i64 (n : Int), .slice (some ⟨g, off, none⟩) m cap2] w fun e w' => ∃ a' cap', e = .returned (.tuple #[.agg #[.int .i64 (n : Int), .slice a' (phiN n) cap'], .int .i64 0]) ∧ Sl true w' w.heap.size w'.heap.size (.slice a' (phiN n) cap') (phiN n) (prI n L f s m) ∧ Below w.heap.size w w' :=
  (productOfImages_any n h1 h2 w hR hoff hst ht hf hL).mono fun e w' ⟨h, b⟩ => by
    rcases h with ⟨_, a, c, he, hs⟩ | ⟨h, _⟩
    · exact ⟨a, c, he, hs, b⟩
    · exact absurd hk h
theorem productOfImages_big (n : Nat) (h1 : 1 ≤ n) (h2 : n ≤ 16) (w : World) {base g cap t s m cap2 off : Nat} (hR : RowE w base 101 12 g cap t (fun k => arrL (imA n L f k))) (hoff : 0 < m → off = s * 12) (hst : s + m ≤ t) (ht : t ≤ 12) (hf : Within f L 1000000000) (hL : L ≤ 12) (hk : ¬ prOk n L f s m) :
    Calls Try.prog 177 #[.int .i64 (n : Int), .slice (some ⟨g, off, none⟩) m cap2] w fun e w' => e = .returned (failV 3) ∧ Below w.heap.size w w' :=
  (productOfImages_any n h1 h2 w hR hoff hst ht hf hL).mono fun e w' ⟨h, b⟩ => by
    rcases h with ⟨h, _⟩ | ⟨_, he⟩
    · exact absurd h hk
    · exact ⟨he, b⟩
theorem l02Product_ok (n : Nat) (s : Nat) (w : World) (hs : Sl o w lo hi v L f) (h : CyP n L f) (hsn : s ≤ phiN n) (hk : prOk n L f s (phiN n - s)) :
    Calls Try.prog 178 #[.agg #[.int .i64 (n : Int), v], .int .i64 (s : Int)] w fun e w' => ∃ a' cap', e = .returned (.tuple #[.agg #[.int .i64 (n : Int), .slice a' (phiN n) cap'], .bool true]) ∧ Sl true w' w.heap.size w'.heap.size (.slice a' (phiN n) cap') (phiN n) (prI n L f s (phiN n - s)) ∧ Below w.heap.size w w' :=
  (l02Product_any n s w hs h hsn).mono fun e w' ⟨h, b⟩ => by
    rcases h with ⟨_, a, c, he, hs⟩ | ⟨h, _⟩
    · exact ⟨a, c, he, hs, b⟩
    · exact absurd hk h
theorem l02Product_big (n : Nat) (s : Nat) (w : World) (hs : Sl o w lo hi v L f) (h : CyP n L f) (hsn : s ≤ phiN n) (hk : ¬ prOk n L f s (phiN n - s)) :
    Calls Try.prog 178 #[.agg #[.int .i64 (n : Int), v], .int .i64 (s : Int)] w fun e w' => e = .returned (.tuple #[.agg #[.int .i64 0, .slice none 0 0], .bool false]) ∧ Below w.heap.size w w' :=
  (l02Product_any n s w hs h hsn).mono fun e w' ⟨h, b⟩ => by
    rcases h with ⟨h, _⟩ | ⟨_, he⟩
    · exact absurd h hk
    · exact ⟨he, b⟩
theorem NormOf_impl_bad (x : Int) (w : World) (hs : Sl o w lo hi v L f) (h : ¬ CyP x L f) :
    Calls Try.prog 74 #[.agg #[.int .i64 x, v]] w fun e w' => e = .returned (.tuple #[.int .i64 0, .int .i64 1]) ∧ Below w.heap.size w w' := by
  obtain ⟨av, cap, rfl⟩ := hs.shape
  have st0 := ((((St.start w).addSl ⟨o, lo, hi, .slice av L cap, L, f⟩ hs).alloc (.cells #[.int .i64 x, .slice av L cap] 28)).addBox w.heap.size [.int .i64 x, .slice av L cap] (Box.made _ _ _ _ (fun j v h => by simpa using h)))
  have q0 := st0.sl 0 ⟨o, lo, hi, .slice av L cap, L, f⟩ rfl
  dsimp only at q0
  have HC := Lib.hid h
  clear h hs
  go_enter Try.func74, Try.ntmps74
  go_wp2_with fail
  refine (IsCyclo_no _ _ q0 HC.out).mono ?_
  rintro e w1 ⟨rfl, b1⟩
  clear q0
  have st1 := st0.keep b1
  have hz_w1 := b1.size
  try simp only [World.size_alloc] at hz_w1
  clear st0 b1
  have BB := st1.1
  go_wp2
  refine bodyPost_ret (v := .tuple #[.int .i64 0, .int .i64 1]) (by simp [results, Try.results74, go_sem]) rfl ?_
  exact ⟨rfl, BB⟩

theorem NormOf_spec_bad (x : Int) (w : World) (hs : Sl o w lo hi v L f) (h : ¬ CyP x L f) :
    Calls Try.prog 75 #[.agg #[.int .i64 x, v]] w fun e w' => e = .returned (.tuple #[.int .i64 0, .int .i64 1]) ∧ Below w.heap.size w w' := by
  obtain ⟨av, cap, rfl⟩ := hs.shape
  have st0 := ((((St.start w).addSl ⟨o, lo, hi, .slice av L cap, L, f⟩ hs).alloc (.cells #[.int .i64 x, .slice av L cap] 28)).addBox w.heap.size [.int .i64 x, .slice av L cap] (Box.made _ _ _ _ (fun j v h => by simpa using h)))
  have q0 := st0.sl 0 ⟨o, lo, hi, .slice av L cap, L, f⟩ rfl
  dsimp only at q0
  have HC := Lib.hid h
  clear h hs
  go_enter Try.func75, Try.ntmps75
  go_wp2_with fail
  refine (l01Is_no _ _ q0 HC.out).mono ?_
  rintro e w1 ⟨rfl, b1⟩
  clear q0
  have st1 := st0.keep b1
  have hz_w1 := b1.size
  try simp only [World.size_alloc] at hz_w1
  clear st0 b1
  have BB := st1.1
  go_wp2
  refine bodyPost_ret (v := .tuple #[.int .i64 0, .int .i64 1]) (by simp [results, Try.results75, go_sem]) rfl ?_
  exact ⟨rfl, BB⟩

set_option maxRecDepth 100000 in
set_option maxHeartbeats 4000000 in
theorem NormOf_impl_ok (n : Nat) (w : World) (hs : Sl o w lo hi v L f) (h : CyP n L f) (hk : prOk n L f 0 (phiN n)) :
    Calls Try.prog 74 #[.agg #[.int .i64 (n : Int), v]] w fun e w' => e = .returned (.tuple #[.int .i64 (prI n L f 0 (phiN n) 0), .int .i64 0]) ∧ Below w.heap.size w w' := by
  have HK := Lib.hid hk
  have HF := Lib.hid h.2.2.2
  clear hk
  obtain ⟨av, cap, rfl⟩ := hs.shape
  have hn1 : 1 ≤ n := by have := h.1; omega
  have hn2 : n ≤ 16 := by have := h.2.1; omega
  have hp := phi_le12 n hn2 hn1
  have hL : L ≤ 12 := by have e : L = phiN n := h.2.2.1; omega
  have hpos : 0 < L := by have e : L = phiN n := h.2.2.1; have := phiN_pos n (by omega) hn1; omega
  have hhs := hs.size
  have st0 := ((((St.start w).addSl ⟨o, lo, hi, .slice av L cap, L, f⟩ hs).alloc (.cells #[.int .i64 (n : Int), .slice av L cap] 28)).addBox w.heap.size [.int .i64 (n : Int), .slice av L cap] (Box.made _ _ _ _ (fun j v h => by simpa using h)))
  have q0 := st0.sl 0 ⟨o, lo, hi, .slice av L cap, L, f⟩ rfl
  dsimp only at q0
  have HC := Lib.hid h
  clear h hs
  go_enter Try.func74, Try.ntmps74
  go_wp2_with fail
  refine (IsCyclo_yes _ _ q0 HC.out).mono ?_
  rintro e w1 ⟨rfl, b1⟩
  clear q0
  have st1 := st0.keep b1
  have hz_w1 := b1.size
  try simp only [World.size_alloc] at hz_w1
  clear st0 b1
  obtain ⟨c0, c1⟩ := (st1.box 0 (w.heap.size, [.int .i64 (n : Int), .slice av L cap]) rfl).cell2
  have hp0 := phiN_pos n (by omega) hn1
  have q0 := st1.sl 0 ⟨o, lo, hi, .slice av L cap, L, f⟩ rfl
  dsimp only at q0
  have hl1 : w.heap.size < w1.heap.size := by omega
  go_wp2_with fail
  go_region_law (first
      | (go_simp; go_at_call 127; refine (imagesOf_any n hn1 hn2 _ q0.drew (by omega)).mono ?_; rintro e w6 ⟨g6, c6, rfl, r6, b6⟩
         have hz6 := b6.size
         have st6 := st1.drew.keep b6
         obtain ⟨x6, x6'⟩ := (st6.box 0 (w.heap.size, [.int .i64 (n : Int), .slice av L cap]) rfl).cell2
         have hl6 : w.heap.size < w6.heap.size := by simp only [World.size_drew, World.size_alloc] at hz6; omega)
      | (go_simp; go_at_call 127; refine (imagesOf_any n hn1 hn2 _ (q0.alloc (.cells #[.int .i64 0, .slice none 0 0] 28)).drew (by omega)).mono ?_; rintro e w6 ⟨g6, c6, rfl, r6, b6⟩
         have hz6 := b6.size
         have st6 := (st1.boxNew (.int .i64 0) (.slice none 0 0) 28).drew.keep b6
         have bx6 := st6.box 0 _ rfl
         obtain ⟨x6, x6'⟩ := (st6.box 1 (w.heap.size, [.int .i64 (n : Int), .slice av L cap]) rfl).cell2
         have hl6 : w.heap.size < w6.heap.size := by simp only [World.size_drew, World.size_alloc] at hz6; omega)
      | (go_simp; go_at_call 177; have _g := bx6; refine (productOfImages_ok n hn1 hn2 _ (s := 0) (m := phiN n) (off := 0) (by exact r6) (fun _ => rfl) (by omega) hp HF.out hL HK.out).mono ?_; rintro e w7 ⟨a7, k7, rfl, s7, b7⟩
         have hz7 := b7.size
         have st7 := st6.keep b7
         have bx7 := bx6.keep b7
         obtain ⟨q0', q1'⟩ := bx7.cell2
         have qz' := bx7.2.2)
      | (go_simp; go_at_call 177; have _g := b6; refine (productOfImages_ok n hn1 hn2 _ (s := 0) (m := phiN n) (off := 0) (by exact r6) (fun _ => rfl) (by omega) hp HF.out hL HK.out).mono ?_; rintro e w7 ⟨a7, k7, rfl, s7, b7⟩
         have hz7 := b7.size
         have st7 := st6.keep b7)
      | (go_simp; go_at_call 177; have _g := b6; refine (productOfImages_ok n hn1 hn2 _ (s := 0) (m := phiN n) (off := 0) (by exact r6.alloc (.cells #[.int .i64 0, .slice none 0 0] 28)) (fun _ => rfl) (by omega) hp HF.out hL HK.out).mono ?_; rintro e w7 ⟨a7, k7, rfl, s7, b7⟩
         have hz7 := b7.size
         have st7 := (st6.boxNew (.int .i64 0) (.slice none 0 0) 28).keep b7
         have bx7 := st7.box 0 _ rfl
         obtain ⟨q0', q1'⟩ := bx7.cell2
         have qz' := bx7.2.2))
  all_goals first
    | (have _g : Box w7 w6.heap.size [.int .i64 0, .slice none 0 0] := bx7
       have W8 := bx7.set2 (u0 := .int .i64 (n : Int)) (u1 := .slice a7 (phiN n) k7)
       have c8 := W8.cell2.2
       have BB := (st7.tailB.set2 (b := w6.heap.size) (i := 0) (j := 1) (u := .int .i64 (n : Int)) (v := .slice a7 (phiN n) k7) (by omega) (by intro b hb; simp only [List.mem_cons, List.not_mem_nil, or_false] at hb; rcases hb with rfl <;> dsimp only <;> omega) (by intro s hs'; simp only [List.mem_cons, List.not_mem_nil, or_false] at hs'; rcases hs' with rfl <;> dsimp only <;> omega)).1
       have q8 := (s7.setOther (p := ⟨w6.heap.size, 0, none⟩) (.inl (by show w6.heap.size < (w6.alloc _).heap.size; rw [World.size_alloc]; omega)) (.int .i64 (n : Int))).setOther (p := ⟨w6.heap.size, 1, none⟩) (.inl (by show w6.heap.size < (w6.alloc _).heap.size; rw [World.size_alloc]; omega)) (.slice a7 (phiN n) k7)
       obtain ⟨b9, off9, k9, hv9, _, _, _, _, hc9, _⟩ := q8.at hp0
       cases hv9
       have x9 := hc9 0 hp0
       try rw [Nat.add_zero] at x9
       clear hc9 q8
       clear st7 b7 st6 b6 r6 st1 q0
       go_wp2
       go_ret2
       exact ⟨rfl, BB⟩)
    | (have _g : Box w7 w1.heap.size [.int .i64 0, .slice none 0 0] := bx7
       have W8 := bx7.set2 (u0 := .int .i64 (n : Int)) (u1 := .slice a7 (phiN n) k7)
       have c8 := W8.cell2.2
       have BB := (st7.tailB.set2 (b := w1.heap.size) (i := 0) (j := 1) (u := .int .i64 (n : Int)) (v := .slice a7 (phiN n) k7) (by omega) (by intro b hb; simp only [List.mem_cons, List.not_mem_nil, or_false] at hb; rcases hb with rfl <;> dsimp only <;> omega) (by intro s hs'; simp only [List.mem_cons, List.not_mem_nil, or_false] at hs'; rcases hs' with rfl <;> dsimp only <;> omega)).1
       have q8 := (s7.setOther (p := ⟨w1.heap.size, 0, none⟩) (.inl (by show w1.heap.size < w6.heap.size; simp only [World.size_drew, World.size_alloc] at hz6; omega)) (.int .i64 (n : Int))).setOther (p := ⟨w1.heap.size, 1, none⟩) (.inl (by show w1.heap.size < w6.heap.size; simp only [World.size_drew, World.size_alloc] at hz6; omega)) (.slice a7 (phiN n) k7)
       obtain ⟨b9, off9, k9, hv9, _, _, _, _, hc9, _⟩ := q8.at hp0
       cases hv9
       have x9 := hc9 0 hp0
       try rw [Nat.add_zero] at x9
       clear hc9 q8
       clear st7 b7 st6 b6 r6 st1 q0
       go_wp2
       go_ret2
       exact ⟨rfl, BB⟩)
    | (have st8 := st7.boxNew (.int .i64 (n : Int)) (.slice a7 (phiN n) k7) 28
       have c8 := ((st8.box 0 (w7.heap.size, [.int .i64 (n : Int), .slice a7 (phiN n) k7]) rfl).cell2).2
       have BB := st8.1
       have q8 := s7.alloc (.cells #[.int .i64 (n : Int), .slice a7 (phiN n) k7] 28)
       obtain ⟨b9, off9, k9, hv9, _, _, _, _, hc9, _⟩ := q8.at hp0
       cases hv9
       have x9 := hc9 0 hp0
       try rw [Nat.add_zero] at x9
       clear hc9 q8
       clear st8 st7 b7 st6 b6 r6 st1 q0
       go_wp2
       go_ret2
       exact ⟨rfl, BB⟩)

set_option maxRecDepth 100000 in
set_option maxHeartbeats 4000000 in
theorem NormOf_impl_big (n : Nat) (w : World) (hs : Sl o w lo hi v L f) (h : CyP n L f) (hk : ¬ prOk n L f 0 (phiN n)) :
    Calls Try.prog 74 #[.agg #[.int .i64 (n : Int), v]] w fun e w' => e = .returned (.tuple #[.int .i64 0, .int .i64 3]) ∧ Below w.heap.size w w' := by
  have HK := Lib.hid hk
  have HF := Lib.hid h.2.2.2
  clear hk
  obtain ⟨av, cap, rfl⟩ := hs.shape
  have hn1 : 1 ≤ n := by have := h.1; omega
  have hn2 : n ≤ 16 := by have := h.2.1; omega
  have hp := phi_le12 n hn2 hn1
  have hL : L ≤ 12 := by have e : L = phiN n := h.2.2.1; omega
  have hpos : 0 < L := by have e : L = phiN n := h.2.2.1; have := phiN_pos n (by omega) hn1; omega
  have hhs := hs.size
  have st0 := ((((St.start w).addSl ⟨o, lo, hi, .slice av L cap, L, f⟩ hs).alloc (.cells #[.int .i64 (n : Int), .slice av L cap] 28)).addBox w.heap.size [.int .i64 (n : Int), .slice av L cap] (Box.made _ _ _ _ (fun j v h => by simpa using h)))
  have q0 := st0.sl 0 ⟨o, lo, hi, .slice av L cap, L, f⟩ rfl
  dsimp only at q0
  have HC := Lib.hid h
  clear h hs
  go_enter Try.func74, Try.ntmps74
  go_wp2_with fail
  refine (IsCyclo_yes _ _ q0 HC.out).mono ?_
  rintro e w1 ⟨rfl, b1⟩
  clear q0
  have st1 := st0.keep b1
  have hz_w1 := b1.size
  try simp only [World.size_alloc] at hz_w1
  clear st0 b1
  obtain ⟨c0, c1⟩ := (st1.box 0 (w.heap.size, [.int .i64 (n : Int), .slice av L cap]) rfl).cell2
  have hp0 := phiN_pos n (by omega) hn1
  have q0 := st1.sl 0 ⟨o, lo, hi, .slice av L cap, L, f⟩ rfl
  dsimp only at q0
  have hl1 : w.heap.size < w1.heap.size := by omega
  go_wp2_with fail
  go_region_law (first
      | (go_simp; go_at_call 127; refine (imagesOf_any n hn1 hn2 _ q0.drew (by omega)).mono ?_; rintro e w6 ⟨g6, c6, rfl, r6, b6⟩
         have hz6 := b6.size
         have st6 := st1.drew.keep b6
         obtain ⟨x6, x6'⟩ := (st6.box 0 (w.heap.size, [.int .i64 (n : Int), .slice av L cap]) rfl).cell2
         have hl6 : w.heap.size < w6.heap.size := by simp only [World.size_drew, World.size_alloc] at hz6; omega)
      | (go_simp; go_at_call 127; refine (imagesOf_any n hn1 hn2 _ (q0.alloc (.cells #[.int .i64 0, .slice none 0 0] 28)).drew (by omega)).mono ?_; rintro e w6 ⟨g6, c6, rfl, r6, b6⟩
         have hz6 := b6.size
         have st6 := (st1.boxNew (.int .i64 0) (.slice none 0 0) 28).drew.keep b6
         have bx6 := st6.box 0 _ rfl
         obtain ⟨x6, x6'⟩ := (st6.box 1 (w.heap.size, [.int .i64 (n : Int), .slice av L cap]) rfl).cell2
         have hl6 : w.heap.size < w6.heap.size := by simp only [World.size_drew, World.size_alloc] at hz6; omega)
      | (go_simp; go_at_call 177; have _g := bx6; refine (productOfImages_big n hn1 hn2 _ (s := 0) (m := phiN n) (off := 0) (by exact r6) (fun _ => rfl) (by omega) hp HF.out hL HK.out).mono ?_; rintro e w7 ⟨rfl, b7⟩
         unfold failV
         have hz7 := b7.size
         have st7 := st6.keep b7
         have bx7 := bx6.keep b7
         obtain ⟨q0', q1'⟩ := bx7.cell2
         have qz' := bx7.2.2)
      | (go_simp; go_at_call 177; have _g := b6; refine (productOfImages_big n hn1 hn2 _ (s := 0) (m := phiN n) (off := 0) (by exact r6) (fun _ => rfl) (by omega) hp HF.out hL HK.out).mono ?_; rintro e w7 ⟨rfl, b7⟩
         unfold failV
         have hz7 := b7.size
         have st7 := st6.keep b7)
      | (go_simp; go_at_call 177; have _g := b6; refine (productOfImages_big n hn1 hn2 _ (s := 0) (m := phiN n) (off := 0) (by exact r6.alloc (.cells #[.int .i64 0, .slice none 0 0] 28)) (fun _ => rfl) (by omega) hp HF.out hL HK.out).mono ?_; rintro e w7 ⟨rfl, b7⟩
         unfold failV
         have hz7 := b7.size
         have st7 := (st6.boxNew (.int .i64 0) (.slice none 0 0) 28).keep b7
         have bx7 := st7.box 0 _ rfl
         obtain ⟨q0', q1'⟩ := bx7.cell2
         have qz' := bx7.2.2))
  all_goals first
    | (have _g : Box w7 w6.heap.size [.int .i64 0, .slice none 0 0] := bx7
       have W8 := bx7.set2 (u0 := .int .i64 0) (u1 := .slice none 0 0)
       have c8 := W8.cell2.2
       have BB := (st7.tailB.set2 (b := w6.heap.size) (i := 0) (j := 1) (u := .int .i64 0) (v := .slice none 0 0) (by omega) (by intro b hb; simp only [List.mem_cons, List.not_mem_nil, or_false] at hb; rcases hb with rfl <;> dsimp only <;> omega) (by intro s hs'; simp only [List.mem_cons, List.not_mem_nil, or_false] at hs'; rcases hs' with rfl <;> dsimp only <;> omega)).1
       clear st7 b7 st6 b6 r6 st1 q0
       go_wp2
       go_ret2
       exact ⟨rfl, BB⟩)
    | (have _g : Box w7 w1.heap.size [.int .i64 0, .slice none 0 0] := bx7
       have W8 := bx7.set2 (u0 := .int .i64 0) (u1 := .slice none 0 0)
       have c8 := W8.cell2.2
       have BB := (st7.tailB.set2 (b := w1.heap.size) (i := 0) (j := 1) (u := .int .i64 0) (v := .slice none 0 0) (by omega) (by intro b hb; simp only [List.mem_cons, List.not_mem_nil, or_false] at hb; rcases hb with rfl <;> dsimp only <;> omega) (by intro s hs'; simp only [List.mem_cons, List.not_mem_nil, or_false] at hs'; rcases hs' with rfl <;> dsimp only <;> omega)).1
       clear st7 b7 st6 b6 r6 st1 q0
       go_wp2
       go_ret2
       exact ⟨rfl, BB⟩)
    | (have st8 := st7.boxNew (.int .i64 0) (.slice none 0 0) 28
       have c8 := ((st8.box 0 (w7.heap.size, [.int .i64 0, .slice none 0 0]) rfl).cell2).2
       have BB := st8.1
       clear st8 st7 b7 st6 b6 r6 st1 q0
       go_wp2
       go_ret2
       exact ⟨rfl, BB⟩)

set_option maxRecDepth 100000 in
set_option maxHeartbeats 4000000 in
theorem NormOf_spec_ok (n : Nat) (w : World) (hs : Sl o w lo hi v L f) (h : CyP n L f) (hk : prOk n L f 0 (phiN n)) :
    Calls Try.prog 75 #[.agg #[.int .i64 (n : Int), v]] w fun e w' => e = .returned (.tuple #[.int .i64 (prI n L f 0 (phiN n) 0), .int .i64 0]) ∧ Below w.heap.size w w' := by
  have HK := Lib.hid (show prOk n L f 0 (phiN n - 0) from hk)
  clear hk
  obtain ⟨av, cap, rfl⟩ := hs.shape
  have hn1 : 1 ≤ n := by have := h.1; omega
  have hn2 : n ≤ 16 := by have := h.2.1; omega
  have hp := phi_le12 n hn2 hn1
  have hL : L ≤ 12 := by have e : L = phiN n := h.2.2.1; omega
  have hpos : 0 < L := by have e : L = phiN n := h.2.2.1; have := phiN_pos n (by omega) hn1; omega
  have hhs := hs.size
  have st0 := ((((St.start w).addSl ⟨o, lo, hi, .slice av L cap, L, f⟩ hs).alloc (.cells #[.int .i64 (n : Int), .slice av L cap] 28)).addBox w.heap.size [.int .i64 (n : Int), .slice av L cap] (Box.made _ _ _ _ (fun j v h => by simpa using h)))
  have q0 := st0.sl 0 ⟨o, lo, hi, .slice av L cap, L, f⟩ rfl
  dsimp only at q0
  have HC := Lib.hid h
  clear h hs
  go_enter Try.func75, Try.ntmps75
  go_wp2_with fail
  refine (l01Is_yes _ _ q0 HC.out).mono ?_
  rintro e w1 ⟨rfl, b1⟩
  clear q0
  have st1 := st0.keep b1
  have hz_w1 := b1.size
  try simp only [World.size_alloc] at hz_w1
  clear st0 b1
  obtain ⟨c0, c1⟩ := (st1.box 0 (w.heap.size, [.int .i64 (n : Int), .slice av L cap]) rfl).cell2
  have hp0 := phiN_pos n (by omega) hn1
  have q0 := st1.sl 0 ⟨o, lo, hi, .slice av L cap, L, f⟩ rfl
  dsimp only at q0
  go_wp2_with fail
  refine (l02Product_ok n 0 _ q0 HC.out (Nat.zero_le _) HK.out).mono ?_
  rintro e w2 ⟨a2, k2, rfl, s2, b2⟩
  have q9 := s2.alloc (.cells #[.int .i64 (n : Int), .slice a2 (phiN n) k2] 28)
  have st2 := (st1.keep b2).boxNew (.int .i64 (n : Int)) (.slice a2 (phiN n) k2) 28
  have c2 := ((st2.box 0 (w2.heap.size, [.int .i64 (n : Int), .slice a2 (phiN n) k2]) rfl).cell2).2
  have BB := st2.1
  obtain ⟨b9, off9, k9, hv9, _, _, _, _, hc9, _⟩ := q9.at hp0
  cases hv9
  have x9 := hc9 0 hp0
  try rw [Nat.add_zero] at x9
  clear hc9 q9 st2 st1 b2 s2 q0 c0 c1
  go_wp2
  go_ret2
  exact ⟨rfl, BB⟩

set_option maxRecDepth 100000 in
set_option maxHeartbeats 4000000 in
theorem NormOf_spec_big (n : Nat) (w : World) (hs : Sl o w lo hi v L f) (h : CyP n L f) (hk : ¬ prOk n L f 0 (phiN n)) :
    Calls Try.prog 75 #[.agg #[.int .i64 (n : Int), v]] w fun e w' => e = .returned (.tuple #[.int .i64 0, .int .i64 3]) ∧ Below w.heap.size w w' := by
  have HK := Lib.hid (show ¬ prOk n L f 0 (phiN n - 0) from hk)
  clear hk
  obtain ⟨av, cap, rfl⟩ := hs.shape
  have hn1 : 1 ≤ n := by have := h.1; omega
  have hn2 : n ≤ 16 := by have := h.2.1; omega
  have hp := phi_le12 n hn2 hn1
  have hL : L ≤ 12 := by have e : L = phiN n := h.2.2.1; omega
  have hpos : 0 < L := by have e : L = phiN n := h.2.2.1; have := phiN_pos n (by omega) hn1; omega
  have hhs := hs.size
  have st0 := ((((St.start w).addSl ⟨o, lo, hi, .slice av L cap, L, f⟩ hs).alloc (.cells #[.int .i64 (n : Int), .slice av L cap] 28)).addBox w.heap.size [.int .i64 (n : Int), .slice av L cap] (Box.made _ _ _ _ (fun j v h => by simpa using h)))
  have q0 := st0.sl 0 ⟨o, lo, hi, .slice av L cap, L, f⟩ rfl
  dsimp only at q0
  have HC := Lib.hid h
  clear h hs
  go_enter Try.func75, Try.ntmps75
  go_wp2_with fail
  refine (l01Is_yes _ _ q0 HC.out).mono ?_
  rintro e w1 ⟨rfl, b1⟩
  clear q0
  have st1 := st0.keep b1
  have hz_w1 := b1.size
  try simp only [World.size_alloc] at hz_w1
  clear st0 b1
  obtain ⟨c0, c1⟩ := (st1.box 0 (w.heap.size, [.int .i64 (n : Int), .slice av L cap]) rfl).cell2
  have hp0 := phiN_pos n (by omega) hn1
  have q0 := st1.sl 0 ⟨o, lo, hi, .slice av L cap, L, f⟩ rfl
  dsimp only at q0
  go_wp2_with fail
  refine (l02Product_big n 0 _ q0 HC.out (Nat.zero_le _) HK.out).mono ?_
  rintro e w2 ⟨rfl, b2⟩
  have BB := ((st1.keep b2).alloc (.cells #[.int .i64 0, .slice none 0 0] 28)).1
  clear st1 b2 q0 c0 c1
  go_wp2
  go_ret2
  exact ⟨rfl, BB⟩

end
end

section
open Go.RowKit Go.ChangeShapes Go.Sort
set_option linter.unusedVariables false
set_option linter.unusedSimpArgs false

/-- A function of one number answers with these two numbers. -/
def A1 (fn : FuncId) (x : Int) (L : Nat) (f : Nat → Int) (C0 C1 : Int) : Prop :=
  ∀ (w : World) (o : Bool) (lo hi : Nat) (v : Value), Sl o w lo hi v L f → Calls Try.prog fn #[.agg #[.int .i64 x, v]] w fun e w' => e = .returned (.tuple #[.int .i64 C0, .int .i64 C1]) ∧ Below w.heap.size w w'
/-- A function of one number answers with this list and this number. -/
def A2 (fn : FuncId) (x : Int) (L : Nat) (f : Nat → Int) (N : Nat) (G : Nat → Int) (C1 : Int) : Prop :=
  ∀ (w : World) (o : Bool) (lo hi : Nat) (v : Value), Sl o w lo hi v L f → Calls Try.prog fn #[.agg #[.int .i64 x, v]] w fun e w' => ∃ a' k', e = .returned (.tuple #[.slice a' N k', .int .i64 C1]) ∧ Sl true w' w.heap.size w'.heap.size (.slice a' N k') N G ∧ Below w.heap.size w w'
/-- A function of two numbers answers with this number and this code. -/
def A3 (fn : FuncId) (x : Int) (L : Nat) (f : Nat → Int) (y : Int) (M : Nat) (g : Nat → Int) (R : Int) (N : Nat) (G : Nat → Int) (C1 : Int) : Prop :=
  ∀ (w : World) (o : Bool) (lo hi : Nat) (v : Value) (o' : Bool) (lo' hi' : Nat) (v' : Value), Sl o w lo hi v L f → Sl o' w lo' hi' v' M g → Calls Try.prog fn #[.agg #[.int .i64 x, v], .agg #[.int .i64 y, v']] w fun e w' => ∃ a' k', e = .returned (.tuple #[.agg #[.int .i64 R, .slice a' N k'], .int .i64 C1]) ∧ Sl true w' w.heap.size w'.heap.size (.slice a' N k') N G ∧ Below w.heap.size w w'
section
variable (x : Int) (L : Nat) (f : Nat → Int)
theorem cy_len {n : Nat} (h : CyP n L f) : L = phiN n := h.2.2.1
def NormR (C0 C1 : Int) : Prop := (C1 = 0 ∧ ∃ n : Nat, x = n ∧ CyP n L f ∧ C0 = prI n (phiN n) f 0 (phiN n) 0 ∧ -1000000000 ≤ C0 ∧ C0 ≤ 1000000000) ∨ (C1 ≠ 0 ∧ C0 = 0)
theorem NormOf_two : ∃ C0 C1 : Int, A1 75 x L f C0 C1 ∧ A1 74 x L f C0 C1 ∧ NormR x L f C0 C1 := by
  by_cases h : CyP x L f
  · obtain ⟨m, rfl⟩ := Int.eq_ofNat_of_zero_le (show 0 ≤ x by have := h.1; omega)
    by_cases hk : prOk m L f 0 (phiN m)
    · refine ⟨_, 0, fun w _ _ _ _ hs => NormOf_spec_ok m w hs h hk, fun w _ _ _ _ hs => NormOf_impl_ok m w hs h hk, .inl ⟨rfl, m, rfl, h, ?_, ?_⟩⟩
      · rw [cy_len L f h]
      · have := prI_within hk 0 (phi_pos m (by have := h.2.1; omega) (by have := h.1; omega)); exact this
    · exact ⟨0, 3, fun w _ _ _ _ hs => NormOf_spec_big m w hs h hk, fun w _ _ _ _ hs => NormOf_impl_big m w hs h hk, .inr ⟨by decide, rfl⟩⟩
  · exact ⟨0, 1, fun w _ _ _ _ hs => NormOf_spec_bad x w hs h, fun w _ _ _ _ hs => NormOf_impl_bad x w hs h, .inr ⟨by decide, rfl⟩⟩
def TraceR (C0 C1 : Int) : Prop := (C1 = 0 ∧ ∃ n : Nat, x = n ∧ CyP n L f ∧ C0 = trZ n L f (phiN n) ∧ -144000000000 ≤ C0 ∧ C0 ≤ 144000000000) ∨ (C1 ≠ 0 ∧ ¬ CyP x L f)
theorem TraceOf_two : ∃ C0 C1 : Int, A1 78 x L f C0 C1 ∧ A1 77 x L f C0 C1 ∧ TraceR x L f C0 C1 := by
  by_cases h : CyP x L f
  · obtain ⟨m, rfl⟩ := Int.eq_ofNat_of_zero_le (show 0 ≤ x by have := h.1; omega)
    have hp := phi_le12 m (by have := h.2.1; omega) (by have := h.1; omega)
    exact ⟨_, 0, fun w _ _ _ _ hs => TraceOf_spec_ok m w hs h, fun w _ _ _ _ hs => TraceOf_impl_ok m w hs h, .inl ⟨rfl, m, rfl, h, rfl, trZ_bd (by have := h.2.1; omega) (by have := h.1; omega) h.2.2.2 (by have := cy_len L f h; omega) _ hp⟩⟩
  · exact ⟨0, 1, fun w _ _ _ _ hs => TraceOf_spec_bad x w hs h, fun w _ _ _ _ hs => TraceOf_impl_bad x w hs h, .inr ⟨by decide, h⟩⟩
theorem SizeOf_two : ∃ C0 C1 : Int, A1 81 x L f C0 C1 ∧ A1 80 x L f C0 C1 ∧ 0 ≤ C0 := by
  by_cases h : CyP x L f
  · obtain ⟨m, rfl⟩ := Int.eq_ofNat_of_zero_le (show 0 ≤ x by have := h.1; omega)
    have e := cy_len L f h
    subst e
    by_cases hk : szOk m (phiN m) f
    · exact ⟨_, 0, fun w _ _ _ _ hs => SizeOf_spec_ok m w hs h hk, fun w _ _ _ _ hs => SizeOf_impl_ok m w hs h hk, size_pos (by have := h.2.1; omega) (by have := h.1; omega) h.2.2.2 hk⟩
    · exact ⟨0, 3, fun w _ _ _ _ hs => SizeOf_spec_big m w hs h hk, fun w _ _ _ _ hs => SizeOf_impl_big m w hs h hk, Int.le_refl _⟩
  · exact ⟨0, 1, fun w _ _ _ _ hs => SizeOf_spec_bad x w hs h, fun w _ _ _ _ hs => SizeOf_impl_bad x w hs h, Int.le_refl _⟩
theorem contG_dvd (f : Nat → Int) : ∀ k j, j < k → (contG f k : Int) ∣ f j
  | 0, j, hj => absurd hj (Nat.not_lt_zero _)
  | k + 1, j, hj => by
    show ((Nat.gcd (contG f k) (f k).natAbs : Nat) : Int) ∣ f j
    by_cases e : j = k
    · subst e
      exact Int.dvd_natAbs.1 (Int.natCast_dvd_natCast.2 (Nat.gcd_dvd_right _ _))
    · exact Int.dvd_trans (Int.natCast_dvd_natCast.2 (Nat.gcd_dvd_left _ _)) (contG_dvd f k j (by omega))
def ContR (C0 C1 : Int) : Prop := 0 ≤ C0 ∧ C0 ≤ 1000000000 ∧ (C1 = 0 → ∀ j, j < L → (C0 = 0 → f j = 0) ∧ (f j).tmod C0 = 0)
theorem ContentOf_two : ∃ C0 C1 : Int, A1 84 x L f C0 C1 ∧ A1 83 x L f C0 C1 ∧ ContR L f C0 C1 := by
  by_cases h : CyP x L f
  · obtain ⟨m, rfl⟩ := Int.eq_ofNat_of_zero_le (show 0 ≤ x by have := h.1; omega)
    have hb := contG_bd h.2.2.2 L (Nat.le_refl _)
    refine ⟨_, 0, fun w _ _ _ _ hs => ContentOf_spec_ok m w hs h, fun w _ _ _ _ hs => ContentOf_impl_ok m w hs h, by omega, by omega, fun _ j hj => ⟨fun h0 => ?_, ?_⟩⟩
    · have := contG_dvd f L j hj
      rw [h0] at this
      exact Int.zero_dvd.1 this
    · exact Int.tmod_eq_zero_of_dvd (contG_dvd f L j hj)
  · exact ⟨0, 1, fun w _ _ _ _ hs => ContentOf_spec_bad x w hs h, fun w _ _ _ _ hs => ContentOf_impl_bad x w hs h, Int.le_refl _, by omega, fun h => absurd h (by decide)⟩
/-- What stands in a characteristic polynomial. -/
def CharR (N : Nat) (G : Nat → Int) (C1 : Int) : Prop :=
  (C1 = 0 ∧ ∃ n : Nat, x = n ∧ CyP n L f ∧ N = L + 1 ∧ G L = 1 ∧ G (L - 1) = -trZ n L f (phiN n) ∧ G 0 = sg L * prI n (phiN n) f 0 (phiN n) 0) ∨ (C1 ≠ 0 ∧ N = 0)
theorem CharacteristicOf_two : ∃ (N : Nat) (G : Nat → Int) (C1 : Int), A2 12 x L f N G C1 ∧ A2 14 x L f N G C1 ∧ N ≤ 13 ∧ CharR x L f N G C1 := by
  by_cases h : CyP x L f
  · obtain ⟨m, rfl⟩ := Int.eq_ofNat_of_zero_le (show 0 ≤ x by have := h.1; omega)
    have hm1 : m < 17 := by have := h.2.1; omega
    have hm2 : 1 ≤ m := by have := h.1; omega
    have hp := phi_le12 m (by omega) hm2
    have hp1 := phi_pos m hm1 hm2
    have e := cy_len L f h
    subst e
    have hc : cntI m (phiN m) f false (phiN m) = phiN m := rfl
    have hr : rtI m (phiN m) f false = im m (phiN m) f := rfl
    by_cases hk : plOk m (rtI m (phiN m) f false) (cntI m (phiN m) f false (phiN m))
    · refine ⟨_, _, 0, fun w _ _ _ _ hs => CharacteristicOf_spec_ok m w hs h hk, fun w _ _ _ _ hs => CharacteristicOf_impl_ok m w hs h hk, by rw [hc]; omega, .inl ⟨rfl, m, rfl, h, by rw [hc], ?_, ?_, ?_⟩⟩
      · dsimp only; rw [hc, plZ_top]; rfl
      · dsimp only
        rw [hc, hr]
        obtain ⟨t, ht⟩ : ∃ t, phiN m = t + 1 := ⟨phiN m - 1, by omega⟩
        rw [ht, Nat.add_sub_cancel, plZ_second hm1 hm2]
        rfl
      · dsimp only; rw [hc, hr, plZ_last]
    · exact ⟨0, fun _ => 0, 3, fun w _ _ _ _ hs => CharacteristicOf_spec_big m w hs h hk, fun w _ _ _ _ hs => CharacteristicOf_impl_big m w hs h hk, by omega, .inr ⟨by decide, rfl⟩⟩
  · exact ⟨0, fun _ => 0, 1, fun w _ _ _ _ hs => CharacteristicOf_spec_bad x w hs h, fun w _ _ _ _ hs => CharacteristicOf_impl_bad x w hs h, by omega, .inr ⟨by decide, rfl⟩⟩
end
/-- A product: what it is where there is one. -/
def MulR (x : Int) (L : Nat) (f : Nat → Int) (y : Int) (M : Nat) (g : Nat → Int) (R : Int) (N : Nat) (G : Nat → Int) (C1 : Int) : Prop :=
  (C1 = 0 ∧ ∃ n : Nat, x = n ∧ y = n ∧ R = n ∧ CyP n L f ∧ CyP n M g ∧ L = phiN n ∧ M = phiN n ∧ N = phiN n ∧ G = prodZ n (phiN n) f g ∧ Within (prodZ n (phiN n) f g) (phiN n) 1000000000) ∨ (C1 ≠ 0)
theorem MultiplyCyclos_one (x : Int) (L : Nat) (f : Nat → Int) (y : Int) (M : Nat) (g : Nat → Int) : ∃ (R : Int) (N : Nat) (G : Nat → Int) (C1 : Int), A3 34 x L f y M g R N G C1 ∧ MulR x L f y M g R N G C1 := by
  by_cases h : pairC x y L M f g = 0
  · obtain ⟨h0, h1, e⟩ := pairC_zero h
    subst e
    obtain ⟨m, rfl⟩ := Int.eq_ofNat_of_zero_le (show 0 ≤ x by have := h0.1; omega)
    have e0 := cy_len L f h0
    have e1 := cy_len M g h1
    obtain rfl : L = M := by rw [e0, e1]
    by_cases hw : Within (prodZ m L f g) (phiN m) 1000000000
    · exact ⟨m, phiN m, prodZ m L f g, 0, fun w _ _ _ _ _ _ _ _ hs ht => MultiplyCyclos_impl_ok m w hs ht h0 h1 hw, .inl ⟨rfl, m, rfl, rfl, rfl, h0, h1, e0, e0, rfl, by rw [← e0], by rw [← e0] at hw ⊢; exact hw⟩⟩
    · exact ⟨0, 0, fun _ => 0, 3, fun w _ _ _ _ _ _ _ _ hs ht => fail_form (MultiplyCyclos_impl_big m w hs ht h0 h1 hw), .inr (by decide)⟩
  · exact ⟨0, 0, fun _ => 0, _, fun w _ _ _ _ _ _ _ _ hs ht => fail_form (MultiplyCyclos_impl_bad x y _ w hs ht rfl h), .inr h⟩
end
end Go.Proofs.Ytdalahgfpbdilaa
