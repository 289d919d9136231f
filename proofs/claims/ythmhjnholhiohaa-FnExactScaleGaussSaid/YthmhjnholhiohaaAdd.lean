/- AddCyclos of the program. -/
import Derived.Test.YthmhjnholhiohaaPair
namespace Go.Proofs.Ythmhjnholhiohaa
open Go.RowKit Go.ChangeShapes Go.Sort
set_option linter.unusedVariables false
set_option linter.unusedSimpArgs false

/-- The Parts of the sum. -/
def addF (k : Int) (f g : Nat → Int) : Nat → Int := fun j => f j + k * g j
/-- The array of the sum, as far as m places have been added. -/
def addP (k : Int) (L : Nat) (f g : Nat → Int) (m : Nat) : Nat → Int := fun j => if j < m then cut L f j + k * g j else cut L f j
theorem addP_succ (k : Int) (L : Nat) (f g : Nat → Int) (m : Nat) : addP k L f g (m + 1) = fun j => if j = m then addP k L f g m m + k * g m else addP k L f g m j := by
  funext j
  unfold addP
  by_cases e : j = m
  · subst e; simp
  · rw [if_neg e]
    by_cases e2 : j < m
    · rw [if_pos e2, if_pos (by omega)]
    · rw [if_neg e2, if_neg (by omega)]
theorem addP_end (k : Int) (L : Nat) (f g : Nat → Int) (j : Nat) (hj : j < L) : addP k L f g L j = addF k f g j := by
  unfold addP addF cut
  rw [if_pos hj, if_pos hj]
theorem addP_far (k : Int) (L : Nat) (f g : Nat → Int) (m j : Nat) (hm : m ≤ L) (hj : L ≤ j) : addP k L f g m j = 0 := by
  unfold addP cut
  rw [if_neg (by omega), if_neg (by omega)]
theorem mul_part {k p : Int} (hk1 : -1000 ≤ k) (hk2 : k ≤ 1000) (hp1 : -1000000000 ≤ p) (hp2 : p ≤ 1000000000) : -1000000000000 ≤ k * p ∧ k * p ≤ 1000000000000 := by
  have h1 : (k * p).natAbs ≤ 1000 * 1000000000 := by
    rw [Int.natAbs_mul]
    exact Nat.mul_le_mul (by omega) (by omega)
  omega
theorem addP_bd {k : Int} {L : Nat} {f g : Nat → Int} {m : Nat} (hk1 : -1000 ≤ k) (hk2 : k ≤ 1000) (hf : Within f L 1000000000) (hg : Within g L 1000000000) (hm : m ≤ L) (j : Nat) : -1001000000000 ≤ addP k L f g m j ∧ addP k L f g m j ≤ 1001000000000 := by
  unfold addP cut
  by_cases e : j < L
  · have hf' := hf j e
    rw [if_pos e]
    by_cases e2 : j < m
    · rw [if_pos e2]
      have hg' := hg j e
      have := mul_part hk1 hk2 hg'.1 hg'.2
      omega
    · rw [if_neg e2]; omega
  · rw [if_neg e, if_neg (by omega)]; omega
theorem addP_within {k : Int} {L : Nat} {f g : Nat → Int} (hL : L ≤ 12) : Within (addP k L f g L) 12 1000000000 ↔ Within (addF k f g) L 1000000000 := by
  constructor
  · intro h j hj
    rw [← addP_end k L f g j hj]
    exact h j (by omega)
  · intro h j hj
    by_cases e : j < L
    · rw [addP_end k L f g j e]; exact h j e
    · rw [addP_far k L f g L j (Nat.le_refl _) (by omega)]; omega

section
variable {o o' : Bool} {lo hi lo' hi' n m : Nat} {v v' : Value} {f g : Nat → Int}
theorem AddCyclos_impl_bad (x y k c : Int) (w : World) (hs : Sl o w lo hi v n f) (ht : Sl o' w lo' hi' v' m g) (hc : pairC x y n m f g = c) (hc0 : c ≠ 0) :
    Calls Try.prog 94 #[.agg #[.int .i64 x, v], .agg #[.int .i64 y, v'], .int .i64 k] w fun e w' => e = .returned (failV c) ∧ Below w.heap.size w w' := by
  have HC := Lib.hid hc
  clear hc
  have hb : (c != 0) = true := by simpa using hc0
  have hb' : (c == 0) = false := by simpa using hc0
  obtain ⟨a, cap, rfl⟩ := hs.shape
  obtain ⟨a', cap', rfl⟩ := ht.shape
  have st0 := (((((St.start w).addSl ⟨o, lo, hi, .slice a n cap, n, f⟩ hs).addSl ⟨o', lo', hi', .slice a' m cap', m, g⟩ ht).alloc (.cells #[.int .i64 x, .slice a n cap] 37)).addBox w.heap.size [.int .i64 x, .slice a n cap] (Box.made _ _ _ _ (fun j v h => by simpa using h)))
  replace st0 := (st0.alloc (.cells #[.int .i64 y, .slice a' m cap'] 37)).addBox _ [.int .i64 y, .slice a' m cap'] (Box.made _ _ _ _ (fun j v h => by simpa using h))
  replace st0 := (st0.alloc (.cells #[.int .i64 0, .slice none 0 0] 37)).addBox _ [.int .i64 0, .slice none 0 0] (Box.made _ _ _ _ (fun j v h => by simpa using h))
  simp only [World.size_alloc] at st0
  clear hs ht
  have q0 := st0.sl 1 ⟨o, lo, hi, .slice a n cap, n, f⟩ rfl
  have q1 := st0.sl 0 ⟨o', lo', hi', .slice a' m cap', m, g⟩ rfl
  dsimp only at q0 q1
  obtain ⟨x0, x1⟩ := (st0.box 2 (w.heap.size, [.int .i64 x, .slice a n cap]) rfl).cell2
  obtain ⟨y0, y1⟩ := (st0.box 1 (w.heap.size + 1, [.int .i64 y, .slice a' m cap']) rfl).cell2
  go_enter Try.func94, Try.ntmps94
  go_wp2_with fail
  refine (pairCode_any _ _ _ q0 q1).mono ?_
  rw [HC.out]
  rintro e w1 ⟨rfl, b1⟩
  clear q0 q1 x0 x1 y0 y1
  have st1 := st0.keep b1
  have hz_w1 := b1.size
  try simp only [World.size_alloc] at hz_w1
  clear st0 b1
  obtain ⟨d0, d1⟩ := (st1.box 0 _ rfl).cell2
  have dz := (st1.box 0 _ rfl).2.2
  have BB := st1.1
  dsimp only at dz
  go_wp2
  refine bodyPost_ret (v := failV c) (by simp [results, Try.results94, go_sem, failV, d0, d1]) rfl ?_
  exact ⟨rfl, by go_grown⟩

theorem AddCyclos_impl_out (x k : Int) (w : World) (hs : Sl o w lo hi v n f) (ht : Sl o' w lo' hi' v' m g) (hc : pairC x x n m f g = 0) (hk : k < -1000 ∨ 1000 < k) :
    Calls Try.prog 94 #[.agg #[.int .i64 x, v], .agg #[.int .i64 x, v'], .int .i64 k] w fun e w' => e = .returned (failV 2) ∧ Below w.heap.size w w' := by
  have HC := Lib.hid hc
  have HK := Lib.hid hk
  clear hc hk
  obtain ⟨a, cap, rfl⟩ := hs.shape
  obtain ⟨a', cap', rfl⟩ := ht.shape
  have st0 := (((((St.start w).addSl ⟨o, lo, hi, .slice a n cap, n, f⟩ hs).addSl ⟨o', lo', hi', .slice a' m cap', m, g⟩ ht).alloc (.cells #[.int .i64 x, .slice a n cap] 37)).addBox w.heap.size [.int .i64 x, .slice a n cap] (Box.made _ _ _ _ (fun j v h => by simpa using h)))
  replace st0 := (st0.alloc (.cells #[.int .i64 x, .slice a' m cap'] 37)).addBox _ [.int .i64 x, .slice a' m cap'] (Box.made _ _ _ _ (fun j v h => by simpa using h))
  replace st0 := (st0.alloc (.cells #[.int .i64 0, .slice none 0 0] 37)).addBox _ [.int .i64 0, .slice none 0 0] (Box.made _ _ _ _ (fun j v h => by simpa using h))
  simp only [World.size_alloc] at st0
  clear hs ht
  have q0 := st0.sl 1 ⟨o, lo, hi, .slice a n cap, n, f⟩ rfl
  have q1 := st0.sl 0 ⟨o', lo', hi', .slice a' m cap', m, g⟩ rfl
  dsimp only at q0 q1
  obtain ⟨x0, x1⟩ := (st0.box 2 (w.heap.size, [.int .i64 x, .slice a n cap]) rfl).cell2
  obtain ⟨y0, y1⟩ := (st0.box 1 (w.heap.size + 1, [.int .i64 x, .slice a' m cap']) rfl).cell2
  go_enter Try.func94, Try.ntmps94
  go_wp2_with fail
  refine (pairCode_any _ _ _ q0 q1).mono ?_
  rw [HC.out]
  rintro e w1 ⟨rfl, b1⟩
  clear q0 q1 x0 x1 y0 y1
  have st1 := st0.keep b1
  have hz_w1 := b1.size
  try simp only [World.size_alloc] at hz_w1
  clear st0 b1
  obtain ⟨d0, d1⟩ := (st1.box 0 _ rfl).cell2
  have dz := (st1.box 0 _ rfl).2.2
  have BB := st1.1
  dsimp only at dz
  go_wp2_with (go_at_call 140; refine (isWithin_no _ _ _ (by omega) (by omega) HK.out).mono ?_; rintro e w' ⟨rfl, rfl⟩)
  refine bodyPost_ret (v := failV 2) (by simp [results, Try.results94, go_sem, failV, d0, d1]) rfl ?_
  exact ⟨rfl, by go_grown⟩

set_option maxRecDepth 100000 in
set_option maxHeartbeats 1000000 in
theorem AddCyclos_impl_ok (n : Nat) {L : Nat} (k : Int) (w : World) (hs : Sl o w lo hi v L f) (ht : Sl o' w lo' hi' v' L g) (h : CyP n L f) (h' : CyP n L g) (hk1 : -1000 ≤ k) (hk2 : k ≤ 1000) (hw : Within (addF k f g) L 1000000000) :
    Calls Try.prog 94 #[.agg #[.int .i64 (n : Int), v], .agg #[.int .i64 (n : Int), v'], .int .i64 k] w fun e w' => ∃ a' cap', e = .returned (.tuple #[.agg #[.int .i64 (n : Int), .slice a' (phiN n) cap'], .int .i64 0]) ∧ Sl true w' w.heap.size w'.heap.size (.slice a' (phiN n) cap') (phiN n) (addF k f g) ∧ Below w.heap.size w w' := by
  have hn1 : 1 ≤ n := by have := h.1; omega
  have hn2 : n ≤ 16 := by have := h.2.1; omega
  have hp := phi_le12 n hn2 hn1
  have hL : L ≤ 12 := by have e : L = phiN n := h.2.2.1; omega
  have hL0 : 0 < L := by have e : L = phiN n := h.2.2.1; have := phiN_pos n (by omega) hn1; omega
  have HL := Lib.hid (show L = phiN n from h.2.2.1)
  have HC := Lib.hid (pairC_ok h h' rfl)
  have HW := Lib.hid ((addP_within hL).2 hw)
  have HBD := Lib.hid (fun m (hm : m ≤ L) j => addP_bd (m := m) hk1 hk2 h.2.2.2 h'.2.2.2 hm j)
  have HG := Lib.hid h'.2.2.2
  clear h h' hw
  have hhs := hs.size
  have hht := ht.size
  obtain ⟨a, cap, rfl⟩ := hs.shape
  obtain ⟨a', cap', rfl⟩ := ht.shape
  have st0 := (((((St.start w).addSl ⟨o, lo, hi, .slice a L cap, L, f⟩ hs).addSl ⟨o', lo', hi', .slice a' L cap', L, g⟩ ht).alloc (.cells #[.int .i64 (n : Int), .slice a L cap] 37)).addBox w.heap.size [.int .i64 (n : Int), .slice a L cap] (Box.made _ _ _ _ (fun j v h => by simpa using h)))
  replace st0 := (st0.alloc (.cells #[.int .i64 (n : Int), .slice a' L cap'] 37)).addBox _ [.int .i64 (n : Int), .slice a' L cap'] (Box.made _ _ _ _ (fun j v h => by simpa using h))
  replace st0 := (st0.alloc (.cells #[.int .i64 0, .slice none 0 0] 37)).addBox _ [.int .i64 0, .slice none 0 0] (Box.made _ _ _ _ (fun j v h => by simpa using h))
  simp only [World.size_alloc] at st0
  clear hs ht
  have q0 := st0.sl 1 ⟨o, lo, hi, .slice a L cap, L, f⟩ rfl
  have q1 := st0.sl 0 ⟨o', lo', hi', .slice a' L cap', L, g⟩ rfl
  dsimp only at q0 q1
  obtain ⟨x0, x1⟩ := (st0.box 2 (w.heap.size, [.int .i64 (n : Int), .slice a L cap]) rfl).cell2
  obtain ⟨y0, y1⟩ := (st0.box 1 (w.heap.size + 1, [.int .i64 (n : Int), .slice a' L cap']) rfl).cell2
  go_enter Try.func94, Try.ntmps94
  go_wp2_with fail
  refine (pairCode_any _ _ _ q0 q1).mono ?_
  rw [HC.out]
  rintro e w1 ⟨rfl, b1⟩
  clear q0 q1 x0 x1 y0 y1
  have st1 := st0.keep b1
  have hz_w1 := b1.size
  try simp only [World.size_alloc] at hz_w1
  clear st0 b1
  obtain ⟨x0, x1⟩ := (st1.box 2 (w.heap.size, [.int .i64 (n : Int), .slice a L cap]) rfl).cell2
  have q0 := st1.sl 1 ⟨o, lo, hi, .slice a L cap, L, f⟩ rfl
  dsimp only at q0
  go_wp2_with (go_at_call 140; refine (isWithin_yes _ _ _ (by omega) (by omega) (by omega) (by omega)).mono ?_; rintro e w' ⟨rfl, rfl⟩)
  refine (arrayOf_any _ q0 hL0 hL).mono ?_
  rintro e w2 ⟨rfl, b2⟩
  clear q0 x0 x1
  have st2 := st1.keep b2
  have hz_w2 := b2.size
  try simp only [World.size_alloc] at hz_w2
  clear st1 b2
  have hsm := (Sl.arr w2 (cut L f) 120 (fun j hj => by have := HBD.out 0 (Nat.zero_le _) j; unfold addP at this; rw [if_neg (Nat.not_lt_zero _)] at this; unfold inR; omega)).congr (f' := addP k L f g 0) (fun j hj => by unfold addP; rw [if_neg (Nat.not_lt_zero _)])
  have st3 := st2.alloc (.cells (arrC (cut L f)) 120)
  unfold arrC at hsm st3
  have HSM := Lib.hid hsm
  have HT3 := Lib.hid st3
  clear hsm st2 st3
  obtain ⟨y0, y1⟩ := (HT3.out.box 1 (w.heap.size + 1, [.int .i64 (n : Int), .slice a' L cap']) rfl).cell2
  unfold arrV
  go_wp2
  clear y0 y1
  go_loopw [29] (fun s29 wr => ∃ q : Nat, q ≤ L ∧ s29 = .int .i64 q ∧ Sl true wr w2.heap.size (w2.heap.size + 1) (.slice (some ⟨w2.heap.size, 0, none⟩) 12 12) 12 (addP k L f g q) ∧
      St w wr [(w.heap.size + 1 + 1, [.int .i64 0, .slice none 0 0]), (w.heap.size + 1, [.int .i64 (n : Int), .slice a' L cap']), (w.heap.size, [.int .i64 (n : Int), .slice a L cap])] [⟨o', lo', hi', .slice a' L cap', L, g⟩, ⟨o, lo, hi, .slice a L cap, L, f⟩]) (fun s29 _ => L - (intOf s29).toNat)
  case atStart => exact ⟨0, Nat.zero_le _, rfl, HSM.out, HT3.out⟩
  case round =>
    clear HSM HT3
    obtain ⟨q, hq, rfl, hown, hst⟩ := hrel
    have HO := Lib.hid hown; clear hown
    have HT := Lib.hid hst; clear hst
    by_cases hlt : q < L
    · have qa := HT.out.sl 0 ⟨o', lo', hi', .slice a' L cap', L, g⟩ rfl
      dsimp only at qa
      obtain ⟨b, off, c1, hv, _, _, _, _, hc, _⟩ := qa.at (by omega)
      obtain ⟨rfl, rfl⟩ : a' = some ⟨b, off, none⟩ ∧ cap' = c1 := by cases hv; exact ⟨rfl, rfl⟩
      have hck := hc q hlt
      have hgq := HG.out q hlt
      obtain ⟨hg1, hg2⟩ := hgq
      clear hv hc qa
      obtain ⟨hm1, hm2⟩ := mul_part hk1 hk2 hg1 hg2
      obtain ⟨hu1, hu2⟩ := HBD.out q hq q
      have HW2 := Lib.hid (addP_succ k L f g q)
      have hck2 := (HO.out.known (by omega)).2.2.2.1 q (by omega)
      have hfr := (HO.out.known (by omega)).2.2.2.2 rfl q
      rw [Nat.zero_add] at hck2
      have hq12 : q < 12 := by omega
      go_wp2
      go_roundw
      case rel =>
        refine ⟨q + 1, by omega, by go_num, ?_, ?_⟩
        · rw [HW2.out]
          refine (HO.out.store0 (i := q) (by omega) (by unfold inR; omega)).congr (fun j hj => ?_)
          by_cases e : j = q
          · subst e; simp
          · simp [e]
        · exact HT.out.write (lo := w2.heap.size) (hi := w2.heap.size + 1) ((Frame.refl w2.heap.size (w2.heap.size + 1) wr).setCell (Nat.le_refl _) (Nat.lt_succ_self _) _) (by omega) (by intro b hb; simp only [List.mem_cons, List.not_mem_nil, or_false] at hb; rcases hb with rfl | rfl | rfl <;> dsimp only <;> omega) (by intro s hs'; simp only [List.mem_cons, List.not_mem_nil, or_false] at hs'; rcases hs' with rfl | rfl <;> dsimp only <;> omega)
      case measure => simp [intOf] <;> omega
    · obtain rfl : q = L := by omega
      obtain ⟨x0, x1⟩ := (HT.out.box 2 (w.heap.size, [.int .i64 (n : Int), .slice a q cap]) rfl).cell2
      have hz := HO.out.size
      have hcell := (HO.out.known (by omega)).2.2.2.1
      have e0 := hcell 0 (by omega)
      have e1 := hcell 1 (by omega)
      have e2 := hcell 2 (by omega)
      have e3 := hcell 3 (by omega)
      have e4 := hcell 4 (by omega)
      have e5 := hcell 5 (by omega)
      have e6 := hcell 6 (by omega)
      have e7 := hcell 7 (by omega)
      have e8 := hcell 8 (by omega)
      have e9 := hcell 9 (by omega)
      have e10 := hcell 10 (by omega)
      have e11 := hcell 11 (by omega)
      simp only [Nat.zero_add] at e0 e1 e2 e3 e4 e5 e6 e7 e8 e9 e10 e11
      clear hcell
      have HPA := Lib.hid (fun j (hj : j < q) => addP_end k q f g j hj)
      have HR := Lib.hid (fun j (hj : j < 12) => show inR (addP k q f g q j) from by have := HBD.out q (Nat.le_refl _) j; unfold inR; omega)
      have HCY := Lib.hid (cycloWithin_yes n (by omega) (by omega) wr HW.out)
      unfold arrV at HCY
      generalize addP k q f g q = P at *
      go_wp2_with fail
      refine HCY.out.mono ?_
      rintro e w3 ⟨a3, k3, rfl, s3, b3⟩
      have st3 := HT.out.keep b3
      have hz3 := b3.size
      have S3 := Lib.hid s3
      clear s3
      clear b3
      obtain ⟨d0, d1⟩ := (st3.box 0 _ rfl).cell2
      have dz := (st3.box 0 _ rfl).2.2
      have B3 := st3.1
      dsimp only at dz
      clear st3
      go_wp2
      refine bodyPost_ret (v := .tuple #[.agg #[.int .i64 (n : Int), .slice a3 (phiN n) k3], .int .i64 0]) (by simp [results, Try.results94, go_sem, d0, d1]) rfl ?_
      refine ⟨_, _, rfl, ?_, by go_grown⟩
      exact (((S3.out.setOther (.inl (by show w.heap.size + 1 + 1 < _; omega)) _).setOther (.inl (by show w.heap.size + 1 + 1 < _; omega)) _).wide (by omega) (by simp) (Nat.le_refl _)).congr (fun j hj => (HPA.out j (by have := HL.out; omega)).symm)

set_option maxRecDepth 100000 in
set_option maxHeartbeats 1000000 in
theorem AddCyclos_impl_big (n : Nat) {L : Nat} (k : Int) (w : World) (hs : Sl o w lo hi v L f) (ht : Sl o' w lo' hi' v' L g) (h : CyP n L f) (h' : CyP n L g) (hk1 : -1000 ≤ k) (hk2 : k ≤ 1000) (hw : ¬ Within (addF k f g) L 1000000000) :
    Calls Try.prog 94 #[.agg #[.int .i64 (n : Int), v], .agg #[.int .i64 (n : Int), v'], .int .i64 k] w fun e w' => e = .returned (failV 3) ∧ Below w.heap.size w w' := by
  have hn1 : 1 ≤ n := by have := h.1; omega
  have hn2 : n ≤ 16 := by have := h.2.1; omega
  have hp := phi_le12 n hn2 hn1
  have hL : L ≤ 12 := by have e : L = phiN n := h.2.2.1; omega
  have hL0 : 0 < L := by have e : L = phiN n := h.2.2.1; have := phiN_pos n (by omega) hn1; omega
  have HL := Lib.hid (show L = phiN n from h.2.2.1)
  have HC := Lib.hid (pairC_ok h h' rfl)
  have HW := Lib.hid (fun q => hw ((addP_within hL).1 q))
  have HBD := Lib.hid (fun m (hm : m ≤ L) j => addP_bd (m := m) hk1 hk2 h.2.2.2 h'.2.2.2 hm j)
  have HG := Lib.hid h'.2.2.2
  clear h h' hw
  have hhs := hs.size
  have hht := ht.size
  obtain ⟨a, cap, rfl⟩ := hs.shape
  obtain ⟨a', cap', rfl⟩ := ht.shape
  have st0 := (((((St.start w).addSl ⟨o, lo, hi, .slice a L cap, L, f⟩ hs).addSl ⟨o', lo', hi', .slice a' L cap', L, g⟩ ht).alloc (.cells #[.int .i64 (n : Int), .slice a L cap] 37)).addBox w.heap.size [.int .i64 (n : Int), .slice a L cap] (Box.made _ _ _ _ (fun j v h => by simpa using h)))
  replace st0 := (st0.alloc (.cells #[.int .i64 (n : Int), .slice a' L cap'] 37)).addBox _ [.int .i64 (n : Int), .slice a' L cap'] (Box.made _ _ _ _ (fun j v h => by simpa using h))
  replace st0 := (st0.alloc (.cells #[.int .i64 0, .slice none 0 0] 37)).addBox _ [.int .i64 0, .slice none 0 0] (Box.made _ _ _ _ (fun j v h => by simpa using h))
  simp only [World.size_alloc] at st0
  clear hs ht
  have q0 := st0.sl 1 ⟨o, lo, hi, .slice a L cap, L, f⟩ rfl
  have q1 := st0.sl 0 ⟨o', lo', hi', .slice a' L cap', L, g⟩ rfl
  dsimp only at q0 q1
  obtain ⟨x0, x1⟩ := (st0.box 2 (w.heap.size, [.int .i64 (n : Int), .slice a L cap]) rfl).cell2
  obtain ⟨y0, y1⟩ := (st0.box 1 (w.heap.size + 1, [.int .i64 (n : Int), .slice a' L cap']) rfl).cell2
  go_enter Try.func94, Try.ntmps94
  go_wp2_with fail
  refine (pairCode_any _ _ _ q0 q1).mono ?_
  rw [HC.out]
  rintro e w1 ⟨rfl, b1⟩
  clear q0 q1 x0 x1 y0 y1
  have st1 := st0.keep b1
  have hz_w1 := b1.size
  try simp only [World.size_alloc] at hz_w1
  clear st0 b1
  obtain ⟨x0, x1⟩ := (st1.box 2 (w.heap.size, [.int .i64 (n : Int), .slice a L cap]) rfl).cell2
  have q0 := st1.sl 1 ⟨o, lo, hi, .slice a L cap, L, f⟩ rfl
  dsimp only at q0
  go_wp2_with (go_at_call 140; refine (isWithin_yes _ _ _ (by omega) (by omega) (by omega) (by omega)).mono ?_; rintro e w' ⟨rfl, rfl⟩)
  refine (arrayOf_any _ q0 hL0 hL).mono ?_
  rintro e w2 ⟨rfl, b2⟩
  clear q0 x0 x1
  have st2 := st1.keep b2
  have hz_w2 := b2.size
  try simp only [World.size_alloc] at hz_w2
  clear st1 b2
  have hsm := (Sl.arr w2 (cut L f) 120 (fun j hj => by have := HBD.out 0 (Nat.zero_le _) j; unfold addP at this; rw [if_neg (Nat.not_lt_zero _)] at this; unfold inR; omega)).congr (f' := addP k L f g 0) (fun j hj => by unfold addP; rw [if_neg (Nat.not_lt_zero _)])
  have st3 := st2.alloc (.cells (arrC (cut L f)) 120)
  unfold arrC at hsm st3
  have HSM := Lib.hid hsm
  have HT3 := Lib.hid st3
  clear hsm st2 st3
  obtain ⟨y0, y1⟩ := (HT3.out.box 1 (w.heap.size + 1, [.int .i64 (n : Int), .slice a' L cap']) rfl).cell2
  unfold arrV
  go_wp2
  clear y0 y1
  go_loopw [29] (fun s29 wr => ∃ q : Nat, q ≤ L ∧ s29 = .int .i64 q ∧ Sl true wr w2.heap.size (w2.heap.size + 1) (.slice (some ⟨w2.heap.size, 0, none⟩) 12 12) 12 (addP k L f g q) ∧
      St w wr [(w.heap.size + 1 + 1, [.int .i64 0, .slice none 0 0]), (w.heap.size + 1, [.int .i64 (n : Int), .slice a' L cap']), (w.heap.size, [.int .i64 (n : Int), .slice a L cap])] [⟨o', lo', hi', .slice a' L cap', L, g⟩, ⟨o, lo, hi, .slice a L cap, L, f⟩]) (fun s29 _ => L - (intOf s29).toNat)
  case atStart => exact ⟨0, Nat.zero_le _, rfl, HSM.out, HT3.out⟩
  case round =>
    clear HSM HT3
    obtain ⟨q, hq, rfl, hown, hst⟩ := hrel
    have HO := Lib.hid hown; clear hown
    have HT := Lib.hid hst; clear hst
    by_cases hlt : q < L
    · have qa := HT.out.sl 0 ⟨o', lo', hi', .slice a' L cap', L, g⟩ rfl
      dsimp only at qa
      obtain ⟨b, off, c1, hv, _, _, _, _, hc, _⟩ := qa.at (by omega)
      obtain ⟨rfl, rfl⟩ : a' = some ⟨b, off, none⟩ ∧ cap' = c1 := by cases hv; exact ⟨rfl, rfl⟩
      have hck := hc q hlt
      have hgq := HG.out q hlt
      obtain ⟨hg1, hg2⟩ := hgq
      clear hv hc qa
      obtain ⟨hm1, hm2⟩ := mul_part hk1 hk2 hg1 hg2
      obtain ⟨hu1, hu2⟩ := HBD.out q hq q
      have HW2 := Lib.hid (addP_succ k L f g q)
      have hck2 := (HO.out.known (by omega)).2.2.2.1 q (by omega)
      have hfr := (HO.out.known (by omega)).2.2.2.2 rfl q
      rw [Nat.zero_add] at hck2
      have hq12 : q < 12 := by omega
      go_wp2
      go_roundw
      case rel =>
        refine ⟨q + 1, by omega, by go_num, ?_, ?_⟩
        · rw [HW2.out]
          refine (HO.out.store0 (i := q) (by omega) (by unfold inR; omega)).congr (fun j hj => ?_)
          by_cases e : j = q
          · subst e; simp
          · simp [e]
        · exact HT.out.write (lo := w2.heap.size) (hi := w2.heap.size + 1) ((Frame.refl w2.heap.size (w2.heap.size + 1) wr).setCell (Nat.le_refl _) (Nat.lt_succ_self _) _) (by omega) (by intro b hb; simp only [List.mem_cons, List.not_mem_nil, or_false] at hb; rcases hb with rfl | rfl | rfl <;> dsimp only <;> omega) (by intro s hs'; simp only [List.mem_cons, List.not_mem_nil, or_false] at hs'; rcases hs' with rfl | rfl <;> dsimp only <;> omega)
      case measure => simp [intOf] <;> omega
    · obtain rfl : q = L := by omega
      obtain ⟨x0, x1⟩ := (HT.out.box 2 (w.heap.size, [.int .i64 (n : Int), .slice a q cap]) rfl).cell2
      have hz := HO.out.size
      have hcell := (HO.out.known (by omega)).2.2.2.1
      have e0 := hcell 0 (by omega)
      have e1 := hcell 1 (by omega)
      have e2 := hcell 2 (by omega)
      have e3 := hcell 3 (by omega)
      have e4 := hcell 4 (by omega)
      have e5 := hcell 5 (by omega)
      have e6 := hcell 6 (by omega)
      have e7 := hcell 7 (by omega)
      have e8 := hcell 8 (by omega)
      have e9 := hcell 9 (by omega)
      have e10 := hcell 10 (by omega)
      have e11 := hcell 11 (by omega)
      simp only [Nat.zero_add] at e0 e1 e2 e3 e4 e5 e6 e7 e8 e9 e10 e11
      clear hcell
      have HPA := Lib.hid (fun j (hj : j < q) => addP_end k q f g j hj)
      have HR := Lib.hid (fun j (hj : j < 12) => show inR (addP k q f g q j) from by have := HBD.out q (Nat.le_refl _) j; unfold inR; omega)
      have HCY := Lib.hid (cycloWithin_no (n : Int) wr HR.out HW.out)
      unfold arrV at HCY
      generalize addP k q f g q = P at *
      go_wp2_with fail
      refine HCY.out.mono ?_
      rintro e w3 ⟨rfl, b3⟩
      have st3 := HT.out.keep b3
      have hz3 := b3.size
      clear b3
      obtain ⟨d0, d1⟩ := (st3.box 0 _ rfl).cell2
      have dz := (st3.box 0 _ rfl).2.2
      have B3 := st3.1
      dsimp only at dz
      clear st3
      go_wp2
      refine bodyPost_ret (v := failV 3) (by simp [results, Try.results94, go_sem, failV, d0, d1]) rfl ?_
      exact ⟨rfl, by go_grown⟩

end
end Go.Proofs.Ythmhjnholhiohaa
