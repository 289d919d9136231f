/- PowerCyclo of the program. -/
import Derived.Test.YtmmcbkikcceenaaMul
namespace Go.Proofs.Ytmmcbkikcceenaa
open Go.RowKit Go.ChangeShapes Go.Sort
set_option linter.unusedVariables false
set_option linter.unusedSimpArgs false

/-- The powers of a number, whatever their size. -/
def pw (n L : Nat) (f : Nat → Int) : Nat → Nat → Int
  | 0 => redP n (unit (powIx n 0))
  | i + 1 => prodZ n L (pw n L f i) f
def pwOk (n L : Nat) (f : Nat → Int) (k : Nat) : Prop := ∀ i, i < k → Within (pw n L f (i + 1)) (phiN n) 1000000000
theorem pwOk_first {n L : Nat} {f : Nat → Int} : ∀ {k : Nat}, ¬ pwOk n L f k → ∃ i, i < k ∧ pwOk n L f i ∧ ¬ Within (prodZ n L (pw n L f i) f) (phiN n) 1000000000
  | 0, h => absurd (fun i hi => absurd hi (Nat.not_lt_zero _)) h
  | k + 1, h => by
    by_cases hk : pwOk n L f k
    · refine ⟨k, Nat.lt_succ_self _, hk, fun hw => h (fun i hi => ?_)⟩
      rcases Nat.lt_succ_iff_lt_or_eq.1 hi with h1 | rfl
      · exact hk i h1
      · exact hw
    · obtain ⟨i, h1, h2, h3⟩ := pwOk_first hk
      exact ⟨i, Nat.lt_succ_of_lt h1, h2, h3⟩
theorem pw_cy {n L : Nat} {f : Nat → Int} (h : CyP (n : Int) L f) : ∀ {i : Nat}, pwOk n L f i → CyP (n : Int) L (pw n L f i)
  | 0, _ => by
    have h1 := h.1
    have h2 := h.2.1
    have e : L = phiN n := h.2.2.1
    have hi := (powIx_eq n (by omega) 0).2.1
    exact ⟨h1, h2, h.2.2.1, by rw [e]; exact redP_unit (by omega) (by omega) (by omega)⟩
  | i + 1, hk => by
    have e : L = phiN n := h.2.2.1
    exact ⟨h.1, h.2.1, h.2.2.1, by rw [e]; have := hk i (Nat.lt_succ_self _); rw [← e]; rw [← e] at this; exact this⟩

section
variable {o : Bool} {lo hi L : Nat} {v : Value} {f : Nat → Int}
theorem PowerCyclo_impl_bad (x : Int) (k : Int) (w : World) (hs : Sl o w lo hi v L f) (h : ¬ CyP x L f) :
    Calls Try.prog 86 #[.agg #[.int .i64 x, v], .int .i64 k] w fun e w' => e = .returned (failV 1) ∧ Below w.heap.size w w' := by
  obtain ⟨av, cap, rfl⟩ := hs.shape
  have st0 := ((((St.start w).addSl ⟨o, lo, hi, .slice av L cap, L, f⟩ hs).alloc (.cells #[.int .i64 x, .slice av L cap] 26)).addBox w.heap.size [.int .i64 x, .slice av L cap] (Box.made _ _ _ _ (fun j v h => by simpa using h)))
  replace st0 := (st0.alloc (.cells #[.int .i64 0, .slice none 0 0] 26)).addBox _ [.int .i64 0, .slice none 0 0] (Box.made _ _ _ _ (fun j v h => by simpa using h))
  simp only [World.size_alloc] at st0
  have q0 := st0.sl 0 ⟨o, lo, hi, .slice av L cap, L, f⟩ rfl
  dsimp only at q0
  have HC := Lib.hid h
  clear h hs
  go_enter Try.func86, Try.ntmps86
  go_wp2_with fail
  refine (IsCyclo_no _ _ q0 HC.out).mono ?_
  rintro e w1 ⟨rfl, b1⟩
  clear q0
  have st1 := st0.keep b1
  have hz_w1 := b1.size
  try simp only [World.size_alloc] at hz_w1
  clear st0 b1
  obtain ⟨d0, d1⟩ := (st1.box 0 _ rfl).cell2
  have dz := (st1.box 0 _ rfl).2.2
  have BB := st1.1
  dsimp only at dz
  go_wp2
  refine bodyPost_ret (v := failV 1) (by simp [results, Try.results86, go_sem, failV, d0, d1]) rfl ?_
  exact ⟨rfl, by go_grown⟩

theorem PowerCyclo_spec_bad (x : Int) (k : Int) (w : World) (hs : Sl o w lo hi v L f) (h : ¬ CyP x L f) :
    Calls Try.prog 85 #[.agg #[.int .i64 x, v], .int .i64 k] w fun e w' => e = .returned (failV 1) ∧ Below w.heap.size w w' := by
  obtain ⟨av, cap, rfl⟩ := hs.shape
  have st0 := ((((St.start w).addSl ⟨o, lo, hi, .slice av L cap, L, f⟩ hs).alloc (.cells #[.int .i64 x, .slice av L cap] 26)).addBox w.heap.size [.int .i64 x, .slice av L cap] (Box.made _ _ _ _ (fun j v h => by simpa using h)))
  replace st0 := (st0.alloc (.cells #[.int .i64 0, .slice none 0 0] 26)).addBox _ [.int .i64 0, .slice none 0 0] (Box.made _ _ _ _ (fun j v h => by simpa using h))
  simp only [World.size_alloc] at st0
  have q0 := st0.sl 0 ⟨o, lo, hi, .slice av L cap, L, f⟩ rfl
  dsimp only at q0
  have HC := Lib.hid h
  clear h hs
  go_enter Try.func85, Try.ntmps85
  go_wp2_with fail
  refine (l01Is_no _ _ q0 HC.out).mono ?_
  rintro e w1 ⟨rfl, b1⟩
  clear q0
  have st1 := st0.keep b1
  have hz_w1 := b1.size
  try simp only [World.size_alloc] at hz_w1
  clear st0 b1
  obtain ⟨d0, d1⟩ := (st1.box 0 _ rfl).cell2
  have dz := (st1.box 0 _ rfl).2.2
  have BB := st1.1
  dsimp only at dz
  go_wp2
  refine bodyPost_ret (v := failV 1) (by simp [results, Try.results85, go_sem, failV, d0, d1]) rfl ?_
  exact ⟨rfl, by go_grown⟩

theorem PowerCyclo_impl_out (n : Nat) (k : Int) (w : World) (hs : Sl o w lo hi v L f) (h : CyP n L f) (hk : k < 0 ∨ 64 < k) :
    Calls Try.prog 86 #[.agg #[.int .i64 (n : Int), v], .int .i64 k] w fun e w' => e = .returned (failV 2) ∧ Below w.heap.size w w' := by
  by_cases hq : k < 0
  · clear hk
    obtain ⟨av, cap, rfl⟩ := hs.shape
    have hn1 : 1 ≤ n := by have := h.1; omega
    have hn2 : n ≤ 16 := by have := h.2.1; omega
    have hp := phi_le12 n hn2 hn1
    have hL : L ≤ 12 := by have e : L = phiN n := h.2.2.1; omega
    have st0 := ((((St.start w).addSl ⟨o, lo, hi, .slice av L cap, L, f⟩ hs).alloc (.cells #[.int .i64 (n : Int), .slice av L cap] 26)).addBox w.heap.size [.int .i64 (n : Int), .slice av L cap] (Box.made _ _ _ _ (fun j v h => by simpa using h)))
    replace st0 := (st0.alloc (.cells #[.int .i64 0, .slice none 0 0] 26)).addBox _ [.int .i64 0, .slice none 0 0] (Box.made _ _ _ _ (fun j v h => by simpa using h))
    simp only [World.size_alloc] at st0
    have q0 := st0.sl 0 ⟨o, lo, hi, .slice av L cap, L, f⟩ rfl
    dsimp only at q0
    have HC := Lib.hid h
    clear h hs
    go_enter Try.func86, Try.ntmps86
    go_wp2_with fail
    refine (IsCyclo_yes _ _ q0 HC.out).mono ?_
    rintro e w1 ⟨rfl, b1⟩
    clear q0
    have st1 := st0.keep b1
    have hz_w1 := b1.size
    try simp only [World.size_alloc] at hz_w1
    clear st0 b1
    obtain ⟨d0, d1⟩ := (st1.box 0 _ rfl).cell2
    have dz := (st1.box 0 _ rfl).2.2
    have BB := st1.1
    dsimp only at dz
    go_wp2
    refine bodyPost_ret (v := failV 2) (by simp [results, Try.results86, go_sem, failV, d0, d1]) rfl ?_
    exact ⟨rfl, by go_grown⟩
  · have hk2 : 64 < k := by omega
    clear hk
    obtain ⟨av, cap, rfl⟩ := hs.shape
    have hn1 : 1 ≤ n := by have := h.1; omega
    have hn2 : n ≤ 16 := by have := h.2.1; omega
    have hp := phi_le12 n hn2 hn1
    have hL : L ≤ 12 := by have e : L = phiN n := h.2.2.1; omega
    have st0 := ((((St.start w).addSl ⟨o, lo, hi, .slice av L cap, L, f⟩ hs).alloc (.cells #[.int .i64 (n : Int), .slice av L cap] 26)).addBox w.heap.size [.int .i64 (n : Int), .slice av L cap] (Box.made _ _ _ _ (fun j v h => by simpa using h)))
    replace st0 := (st0.alloc (.cells #[.int .i64 0, .slice none 0 0] 26)).addBox _ [.int .i64 0, .slice none 0 0] (Box.made _ _ _ _ (fun j v h => by simpa using h))
    simp only [World.size_alloc] at st0
    have q0 := st0.sl 0 ⟨o, lo, hi, .slice av L cap, L, f⟩ rfl
    dsimp only at q0
    have HC := Lib.hid h
    clear h hs
    have hk0 : 0 ≤ k := by omega
    go_enter Try.func86, Try.ntmps86
    go_wp2_with fail
    refine (IsCyclo_yes _ _ q0 HC.out).mono ?_
    rintro e w1 ⟨rfl, b1⟩
    clear q0
    have st1 := st0.keep b1
    have hz_w1 := b1.size
    try simp only [World.size_alloc] at hz_w1
    clear st0 b1
    obtain ⟨d0, d1⟩ := (st1.box 0 _ rfl).cell2
    have dz := (st1.box 0 _ rfl).2.2
    have BB := st1.1
    dsimp only at dz
    go_wp2
    refine bodyPost_ret (v := failV 2) (by simp [results, Try.results86, go_sem, failV, d0, d1]) rfl ?_
    exact ⟨rfl, by go_grown⟩

theorem PowerCyclo_spec_out (n : Nat) (k : Int) (w : World) (hs : Sl o w lo hi v L f) (h : CyP n L f) (hk : k < 0 ∨ 64 < k) :
    Calls Try.prog 85 #[.agg #[.int .i64 (n : Int), v], .int .i64 k] w fun e w' => e = .returned (failV 2) ∧ Below w.heap.size w w' := by
  have H := Lib.hid hk
  clear hk
  obtain ⟨av, cap, rfl⟩ := hs.shape
  have hn1 : 1 ≤ n := by have := h.1; omega
  have hn2 : n ≤ 16 := by have := h.2.1; omega
  have hp := phi_le12 n hn2 hn1
  have hL : L ≤ 12 := by have e : L = phiN n := h.2.2.1; omega
  have st0 := ((((St.start w).addSl ⟨o, lo, hi, .slice av L cap, L, f⟩ hs).alloc (.cells #[.int .i64 (n : Int), .slice av L cap] 26)).addBox w.heap.size [.int .i64 (n : Int), .slice av L cap] (Box.made _ _ _ _ (fun j v h => by simpa using h)))
  replace st0 := (st0.alloc (.cells #[.int .i64 0, .slice none 0 0] 26)).addBox _ [.int .i64 0, .slice none 0 0] (Box.made _ _ _ _ (fun j v h => by simpa using h))
  simp only [World.size_alloc] at st0
  have q0 := st0.sl 0 ⟨o, lo, hi, .slice av L cap, L, f⟩ rfl
  dsimp only at q0
  have HC := Lib.hid h
  clear h hs
  go_enter Try.func85, Try.ntmps85
  go_wp2_with fail
  refine (l01Is_yes _ _ q0 HC.out).mono ?_
  rintro e w1 ⟨rfl, b1⟩
  clear q0
  have st1 := st0.keep b1
  have hz_w1 := b1.size
  try simp only [World.size_alloc] at hz_w1
  clear st0 b1
  obtain ⟨d0, d1⟩ := (st1.box 0 _ rfl).cell2
  have dz := (st1.box 0 _ rfl).2.2
  have BB := st1.1
  dsimp only at dz
  go_wp2_with (go_at_call 99; refine (l01In_no _ _ _ _ H.out).mono ?_; rintro e w' ⟨rfl, rfl⟩)
  refine bodyPost_ret (v := failV 2) (by simp [results, Try.results85, go_sem, failV, d0, d1]) rfl ?_
  exact ⟨rfl, by go_grown⟩

set_option maxRecDepth 100000 in
set_option maxHeartbeats 2000000 in
theorem PowerCyclo_impl_ok (n k : Nat) (w : World) (hs : Sl o w lo hi v L f) (h : CyP n L f) (hk64 : k ≤ 64) (hk : pwOk n L f k) :
    Calls Try.prog 86 #[.agg #[.int .i64 (n : Int), v], .int .i64 (k : Int)] w fun e w' => ∃ a' cap', e = .returned (.tuple #[.agg #[.int .i64 (n : Int), .slice a' (phiN n) cap'], .int .i64 0]) ∧ Sl true w' w.heap.size w'.heap.size (.slice a' (phiN n) cap') (phiN n) (pw n L f k) ∧ Below w.heap.size w w' := by
  have HCY := Lib.hid (fun i (hi : pwOk n L f i) => pw_cy h hi)
  have HOK := Lib.hid hk
  clear hk
  have HPL := Lib.hid (show L = phiN n from h.2.2.1)
  obtain ⟨av, cap, rfl⟩ := hs.shape
  have hn1 : 1 ≤ n := by have := h.1; omega
  have hn2 : n ≤ 16 := by have := h.2.1; omega
  have hp := phi_le12 n hn2 hn1
  have hL : L ≤ 12 := by have e : L = phiN n := h.2.2.1; omega
  have hhs := hs.size
  have st0 := ((((St.start w).addSl ⟨o, lo, hi, .slice av L cap, L, f⟩ hs).alloc (.cells #[.int .i64 (n : Int), .slice av L cap] 26)).addBox w.heap.size [.int .i64 (n : Int), .slice av L cap] (Box.made _ _ _ _ (fun j v h => by simpa using h)))
  replace st0 := (st0.alloc (.cells #[.int .i64 0, .slice none 0 0] 26)).addBox _ [.int .i64 0, .slice none 0 0] (Box.made _ _ _ _ (fun j v h => by simpa using h))
  simp only [World.size_alloc] at st0
  have q0 := st0.sl 0 ⟨o, lo, hi, .slice av L cap, L, f⟩ rfl
  dsimp only at q0
  have HC := Lib.hid h
  clear h hs
  go_enter Try.func86, Try.ntmps86
  go_wp2_with fail
  refine (IsCyclo_yes _ _ q0 HC.out).mono ?_
  rintro e w1 ⟨rfl, b1⟩
  clear q0
  have st1 := st0.keep b1
  have hz_w1 := b1.size
  try simp only [World.size_alloc] at hz_w1
  clear st0 b1
  obtain ⟨x0, x1⟩ := (st1.box 1 (w.heap.size, [.int .i64 (n : Int), .slice av L cap]) rfl).cell2
  go_wp2_with fail
  refine (PowerOfZ_impl_ok n 0 _ hn1 hn2 (by omega) (by omega)).mono ?_
  rintro e w2 ⟨a2, k2, rfl, s2, b2⟩
  clear x0 x1
  have hz2 := b2.size
  have HS2 := Lib.hid (s2.alloc (.cells #[.int .i64 (n : Int), .slice a2 (phiN n) k2] 26))
  have ST2 := Lib.hid ((st1.keep b2).boxNew (.int .i64 (n : Int)) (.slice a2 (phiN n) k2) 26)
  clear st1 b2 s2
  go_wp2
  go_loopw [7, 8] (fun s7 s8 wr => ∃ i : Nat, i ≤ k ∧ s8 = .int .i64 i ∧ s7 = .int .i64 0 ∧ (∃ (lo6 hi6 : Nat) (a6 : Option Addr) (k6 : Nat), w.heap.size + 2 ≤ lo6 ∧ (w2.heap.size < lo6 ∨ hi6 ≤ w2.heap.size) ∧ Sl true wr lo6 hi6 (.slice a6 (phiN n) k6) (phiN n) (pw n L f i) ∧ St w wr ((w2.heap.size, [.int .i64 (n : Int), .slice a6 (phiN n) k6]) :: [(w.heap.size + 1, [.int .i64 0, .slice none 0 0]), (w.heap.size, [.int .i64 (n : Int), .slice av L cap])]) [⟨o, lo, hi, .slice av L cap, L, f⟩])) (fun _ s8 _ => k - (intOf s8).toNat)
  case atStart => exact ⟨0, Nat.zero_le _, rfl, rfl, _, _, a2, k2, by omega, .inr (Nat.le_refl _), HS2.out, ST2.out⟩
  case round =>
    clear HS2 ST2
    obtain ⟨i, hiK, rfl, rfl, lo6, hi6, a6, k6, hl6, hd6, hown, hst⟩ := hrel
    have HO := Lib.hid hown; clear hown
    have HT := Lib.hid hst; clear hst
    obtain ⟨p0, p1⟩ := (HT.out.box 0 (w2.heap.size, [.int .i64 (n : Int), .slice a6 (phiN n) k6]) rfl).cell2
    have pz := (HT.out.box 0 (w2.heap.size, [.int .i64 (n : Int), .slice a6 (phiN n) k6]) rfl).2.2
    obtain ⟨x0, x1⟩ := (HT.out.box 2 (w.heap.size, [.int .i64 (n : Int), .slice av L cap]) rfl).cell2
    have qx := HT.out.sl 0 ⟨o, lo, hi, .slice av L cap, L, f⟩ rfl
    dsimp only at pz qx
    by_cases hlt : i < k
    · have HM := Lib.hid (show Within (prodZ n L (pw n L f i) f) (phiN n) 1000000000 from HOK.out i hlt)
      go_wp2_with fail
      refine ((show Calls Try.prog 26 #[.agg #[.int .i64 (n : Int), .slice a6 (phiN n) k6], .agg #[.int .i64 (n : Int), .slice av L cap]] wr _ from MultiplyCyclos_impl_ok n (L := L) wr (by have := HO.out; rw [← HPL.out] at this ⊢; exact this) qx (HCY.out i (fun j hj => HOK.out j (by omega))) HC.out HM.out)).mono ?_
      rintro e w3 ⟨a3, k3, rfl, s3, b3⟩
      clear p0 p1 pz x0 x1 qx
      have hz3 := b3.size
      have hw2 := (HT.out.box 0 (w2.heap.size, [.int .i64 (n : Int), .slice a6 (phiN n) k6]) rfl).1
      dsimp only at hw2
      have st3 := HT.out.keep b3
      obtain ⟨p0, p1⟩ := (st3.box 0 (w2.heap.size, [.int .i64 (n : Int), .slice a6 (phiN n) k6]) rfl).cell2
      have pz := (st3.box 0 (w2.heap.size, [.int .i64 (n : Int), .slice a6 (phiN n) k6]) rfl).2.2
      dsimp only at pz
      have S3 := Lib.hid s3
      have ST3 := Lib.hid (st3.boxSet (u0 := .int .i64 (n : Int)) (u1 := .slice a3 (phiN n) k3) (by omega) (by intro b hb; simp only [List.mem_cons, List.not_mem_nil, or_false] at hb; rcases hb with rfl | rfl <;> dsimp only <;> omega) (by intro s hs'; simp only [List.mem_cons, List.not_mem_nil, or_false] at hs'; rcases hs' with rfl <;> dsimp only <;> omega))
      clear st3 b3 s3 HT HO
      go_wp2
      go_roundw
      case rel =>
        exact ⟨i + 1, by omega, by go_num, rfl, _, _, a3, k3, by omega, .inl hw2, (S3.out.setOther (.inl hw2) _).setOther (.inl hw2) _, ST3.out⟩
      case measure => simp [intOf] <;> omega
    · obtain rfl : i = k := by omega
      obtain ⟨d0, d1⟩ := (HT.out.box 1 (w.heap.size + 1, [.int .i64 0, .slice none 0 0]) rfl).cell2
      have dz := (HT.out.box 1 (w.heap.size + 1, [.int .i64 0, .slice none 0 0]) rfl).2.2
      have BB := HT.out.1
      dsimp only at dz
      clear HT qx pz x0 x1
      go_wp2
      refine bodyPost_ret (v := .tuple #[.agg #[.int .i64 (n : Int), .slice a6 (phiN n) k6], .int .i64 0]) (by simp [results, Try.results86, go_sem, d0, d1]) rfl ?_
      refine ⟨_, _, rfl, ?_, by go_grown⟩
      exact ((HO.out.setOther (.inl (by show w.heap.size + 1 < _; omega)) _).setOther (.inl (by show w.heap.size + 1 < _; omega)) _).wide (by omega) (by simpa using HO.out.size) (Nat.le_refl _)

set_option maxRecDepth 100000 in
set_option maxHeartbeats 2000000 in
theorem PowerCyclo_impl_big (n k : Nat) (w : World) (hs : Sl o w lo hi v L f) (h : CyP n L f) (hk64 : k ≤ 64) (hk : ¬ pwOk n L f k) :
    Calls Try.prog 86 #[.agg #[.int .i64 (n : Int), v], .int .i64 (k : Int)] w fun e w' => e = .returned (failV 3) ∧ Below w.heap.size w w' := by
  obtain ⟨i0, hi0, hok, hbad⟩ := pwOk_first hk
  clear hk
  have HBAD := Lib.hid hbad
  clear hbad
  have HCY := Lib.hid (fun i (hi : pwOk n L f i) => pw_cy h hi)
  have HOK := Lib.hid hok
  clear hok
  have HPL := Lib.hid (show L = phiN n from h.2.2.1)
  obtain ⟨av, cap, rfl⟩ := hs.shape
  have hn1 : 1 ≤ n := by have := h.1; omega
  have hn2 : n ≤ 16 := by have := h.2.1; omega
  have hp := phi_le12 n hn2 hn1
  have hL : L ≤ 12 := by have e : L = phiN n := h.2.2.1; omega
  have hhs := hs.size
  have st0 := ((((St.start w).addSl ⟨o, lo, hi, .slice av L cap, L, f⟩ hs).alloc (.cells #[.int .i64 (n : Int), .slice av L cap] 26)).addBox w.heap.size [.int .i64 (n : Int), .slice av L cap] (Box.made _ _ _ _ (fun j v h => by simpa using h)))
  replace st0 := (st0.alloc (.cells #[.int .i64 0, .slice none 0 0] 26)).addBox _ [.int .i64 0, .slice none 0 0] (Box.made _ _ _ _ (fun j v h => by simpa using h))
  simp only [World.size_alloc] at st0
  have q0 := st0.sl 0 ⟨o, lo, hi, .slice av L cap, L, f⟩ rfl
  dsimp only at q0
  have HC := Lib.hid h
  clear h hs
  go_enter Try.func86, Try.ntmps86
  go_wp2_with fail
  refine (IsCyclo_yes _ _ q0 HC.out).mono ?_
  rintro e w1 ⟨rfl, b1⟩
  clear q0
  have st1 := st0.keep b1
  have hz_w1 := b1.size
  try simp only [World.size_alloc] at hz_w1
  clear st0 b1
  obtain ⟨x0, x1⟩ := (st1.box 1 (w.heap.size, [.int .i64 (n : Int), .slice av L cap]) rfl).cell2
  go_wp2_with fail
  refine (PowerOfZ_impl_ok n 0 _ hn1 hn2 (by omega) (by omega)).mono ?_
  rintro e w2 ⟨a2, k2, rfl, s2, b2⟩
  clear x0 x1
  have hz2 := b2.size
  have HS2 := Lib.hid (s2.alloc (.cells #[.int .i64 (n : Int), .slice a2 (phiN n) k2] 26))
  have ST2 := Lib.hid ((st1.keep b2).boxNew (.int .i64 (n : Int)) (.slice a2 (phiN n) k2) 26)
  clear st1 b2 s2
  go_wp2
  go_loopw [7, 8] (fun s7 s8 wr => ∃ i : Nat, s8 = .int .i64 i ∧ ((i ≤ i0 ∧ s7 = .int .i64 0 ∧ (∃ (lo6 hi6 : Nat) (a6 : Option Addr) (k6 : Nat), w.heap.size + 2 ≤ lo6 ∧ (w2.heap.size < lo6 ∨ hi6 ≤ w2.heap.size) ∧ Sl true wr lo6 hi6 (.slice a6 (phiN n) k6) (phiN n) (pw n L f i) ∧ St w wr ((w2.heap.size, [.int .i64 (n : Int), .slice a6 (phiN n) k6]) :: [(w.heap.size + 1, [.int .i64 0, .slice none 0 0]), (w.heap.size, [.int .i64 (n : Int), .slice av L cap])]) [⟨o, lo, hi, .slice av L cap, L, f⟩])) ∨ (i = i0 + 1 ∧ s7 = .int .i64 3 ∧ St w wr ((w2.heap.size, [.int .i64 0, .slice none 0 0]) :: [(w.heap.size + 1, [.int .i64 0, .slice none 0 0]), (w.heap.size, [.int .i64 (n : Int), .slice av L cap])]) [⟨o, lo, hi, .slice av L cap, L, f⟩]))) (fun _ s8 _ => k - (intOf s8).toNat)
  case atStart => exact ⟨0, rfl, .inl ⟨Nat.zero_le _, rfl, _, _, a2, k2, by omega, .inr (Nat.le_refl _), HS2.out, ST2.out⟩⟩
  case round =>
    clear HS2 ST2
    obtain ⟨i, rfl, hr⟩ := hrel
    rcases hr with ⟨hiK, rfl, lo6, hi6, a6, k6, hl6, hd6, hown, hst⟩ | ⟨rfl, rfl, hst⟩
    · skip
      have HO := Lib.hid hown; clear hown
      have HT := Lib.hid hst; clear hst
      obtain ⟨p0, p1⟩ := (HT.out.box 0 (w2.heap.size, [.int .i64 (n : Int), .slice a6 (phiN n) k6]) rfl).cell2
      have pz := (HT.out.box 0 (w2.heap.size, [.int .i64 (n : Int), .slice a6 (phiN n) k6]) rfl).2.2
      obtain ⟨x0, x1⟩ := (HT.out.box 2 (w.heap.size, [.int .i64 (n : Int), .slice av L cap]) rfl).cell2
      have qx := HT.out.sl 0 ⟨o, lo, hi, .slice av L cap, L, f⟩ rfl
      dsimp only at pz qx
      have hik : i < k := by omega
      by_cases hlt : i < i0
      · have HM := Lib.hid (show Within (prodZ n L (pw n L f i) f) (phiN n) 1000000000 from HOK.out i hlt)
        go_wp2_with fail
        refine ((show Calls Try.prog 26 #[.agg #[.int .i64 (n : Int), .slice a6 (phiN n) k6], .agg #[.int .i64 (n : Int), .slice av L cap]] wr _ from MultiplyCyclos_impl_ok n (L := L) wr (by have := HO.out; rw [← HPL.out] at this ⊢; exact this) qx (HCY.out i (fun j hj => HOK.out j (by omega))) HC.out HM.out)).mono ?_
        rintro e w3 ⟨a3, k3, rfl, s3, b3⟩
        clear p0 p1 pz x0 x1 qx
        have hz3 := b3.size
        have hw2 := (HT.out.box 0 (w2.heap.size, [.int .i64 (n : Int), .slice a6 (phiN n) k6]) rfl).1
        dsimp only at hw2
        have st3 := HT.out.keep b3
        obtain ⟨p0, p1⟩ := (st3.box 0 (w2.heap.size, [.int .i64 (n : Int), .slice a6 (phiN n) k6]) rfl).cell2
        have pz := (st3.box 0 (w2.heap.size, [.int .i64 (n : Int), .slice a6 (phiN n) k6]) rfl).2.2
        dsimp only at pz
        have S3 := Lib.hid s3
        have ST3 := Lib.hid (st3.boxSet (u0 := .int .i64 (n : Int)) (u1 := .slice a3 (phiN n) k3) (by omega) (by intro b hb; simp only [List.mem_cons, List.not_mem_nil, or_false] at hb; rcases hb with rfl | rfl <;> dsimp only <;> omega) (by intro s hs'; simp only [List.mem_cons, List.not_mem_nil, or_false] at hs'; rcases hs' with rfl <;> dsimp only <;> omega))
        clear st3 b3 s3 HT HO
        go_wp2
        go_roundw
        case rel =>
          exact ⟨i + 1, by go_num, .inl ⟨by omega, rfl, _, _, a3, k3, by omega, .inl hw2, (S3.out.setOther (.inl hw2) _).setOther (.inl hw2) _, ST3.out⟩⟩
        case measure => simp [intOf] <;> omega
      · obtain rfl : i = i0 := by omega
        have HM := Lib.hid (show ¬ Within (prodZ n L (pw n L f i) f) (phiN n) 1000000000 from HBAD.out)
        go_wp2_with fail
        refine ((show Calls Try.prog 26 #[.agg #[.int .i64 (n : Int), .slice a6 (phiN n) k6], .agg #[.int .i64 (n : Int), .slice av L cap]] wr _ from MultiplyCyclos_impl_big n (L := L) wr (by have := HO.out; rw [← HPL.out] at this ⊢; exact this) qx (HCY.out i (fun j hj => HOK.out j (by omega))) HC.out HM.out)).mono ?_
        rintro e w3 ⟨rfl, b3⟩
        unfold failV
        clear p0 p1 pz x0 x1 qx
        have hz3 := b3.size
        have st3 := HT.out.keep b3
        obtain ⟨p0, p1⟩ := (st3.box 0 (w2.heap.size, [.int .i64 (n : Int), .slice a6 (phiN n) k6]) rfl).cell2
        have pz := (st3.box 0 (w2.heap.size, [.int .i64 (n : Int), .slice a6 (phiN n) k6]) rfl).2.2
        dsimp only at pz
        have ST3 := Lib.hid (st3.boxSet (u0 := .int .i64 0) (u1 := .slice none 0 0) (by omega) (by intro b hb; simp only [List.mem_cons, List.not_mem_nil, or_false] at hb; rcases hb with rfl | rfl <;> dsimp only <;> omega) (by intro s hs'; simp only [List.mem_cons, List.not_mem_nil, or_false] at hs'; rcases hs' with rfl <;> dsimp only <;> omega))
        clear st3 b3 HT HO
        go_wp2
        go_roundw
        case rel =>
          exact ⟨i + 1, by go_num, .inr ⟨rfl, rfl, ST3.out⟩⟩
        case measure => simp [intOf] <;> omega
    · obtain ⟨p0, p1⟩ := (hst.box 0 (w2.heap.size, [.int .i64 0, .slice none 0 0]) rfl).cell2
      obtain ⟨d0, d1⟩ := (hst.box 1 (w.heap.size + 1, [.int .i64 0, .slice none 0 0]) rfl).cell2
      have dz := (hst.box 1 (w.heap.size + 1, [.int .i64 0, .slice none 0 0]) rfl).2.2
      have BB := hst.1
      dsimp only at dz
      clear hst
      by_cases hlast : i0 + 1 < k
      · go_wp2
        refine bodyPost_ret (v := failV 3) (by simp [results, Try.results86, go_sem, failV, d0, d1]) rfl ?_
        exact ⟨rfl, by go_grown⟩
      · go_wp2
        refine bodyPost_ret (v := failV 3) (by simp [results, Try.results86, go_sem, failV, d0, d1]) rfl ?_
        exact ⟨rfl, by go_grown⟩

end
end Go.Proofs.Ytmmcbkikcceenaa
