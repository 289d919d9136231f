/- LiftCyclo of the program and of the model. -/
import Derived.Test.YtloalhcloifgjaaGal
import Derived.Deep.DeepCutAuto
namespace Go.Proofs.Ytloalhcloifgjaa
open Go.RowKit Go.ChangeShapes Go.Sort
set_option linter.unusedVariables false

/-- A list that has the numbers f at the places ix, one after the other. -/
def setP (ix : Nat → Nat) (f : Nat → Int) : Nat → Nat → Int
  | 0 => fun _ => 0
  | m + 1 => fun j => if j = ix m then f m else setP ix f m j
theorem setP_inR {ix : Nat → Nat} {f : Nat → Int} : ∀ {m}, (∀ j, j < m → inR (f j)) → ∀ j, inR (setP ix f m j)
  | 0, _, _ => by simp [setP, inR]
  | m + 1, h, j => by
    unfold setP
    split
    · exact h m (Nat.lt_succ_self m)
    · exact setP_inR (fun j hj => h j (Nat.lt_succ_of_lt hj)) j
theorem setP_far {ix : Nat → Nat} {f : Nat → Int} {n : Nat} : ∀ {m}, (∀ i, i < m → ix i < n) → ∀ j, n ≤ j → setP ix f m j = 0
  | 0, _, _, _ => rfl
  | m + 1, h, j, hj => by
    unfold setP
    rw [if_neg (by have := h m (Nat.lt_succ_self m); omega)]
    exact setP_far (fun i hi => h i (Nat.lt_succ_of_lt hi)) j hj
/-- The Parts of a number of the order n as one of the order N. -/
def liftP (n N L : Nat) (f : Nat → Int) : Nat → Int := redP N (setP (fun i => i * (N / n)) f L)
theorem lift_lt {n N i : Nat} (h1 : 1 ≤ n) (hd : N % n = 0) (h2 : 1 ≤ N) (hi : i < n) : i * (N / n) < N := by
  have e : n * (N / n) = N := by have := Nat.div_add_mod N n; omega
  have h3 : 1 ≤ N / n := by
    rcases Nat.eq_zero_or_pos (N / n) with h | h
    · rw [h] at e; omega
    · exact h
  calc i * (N / n) < n * (N / n) := Nat.mul_lt_mul_of_pos_right hi h3
    _ = N := e

section
variable {o : Bool} {lo hi L : Nat} {v : Value} {f : Nat → Int}
theorem LiftCyclo_impl_bad (x : Int) (a : Int) (w : World) (hs : Sl o w lo hi v L f) (h : ¬ CyP x L f) :
    Calls Try.prog 113 #[.agg #[.int .i64 x, v], .int .i64 a] w fun e w' => e = .returned (failV 1) ∧ Below w.heap.size w w' := by
  obtain ⟨av, cap, rfl⟩ := hs.shape
  have st0 := ((((St.start w).addSl ⟨o, lo, hi, .slice av L cap, L, f⟩ hs).alloc (.cells #[.int .i64 x, .slice av L cap] 26)).addBox w.heap.size [.int .i64 x, .slice av L cap] (Box.made _ _ _ _ (fun j v h => by simpa using h)))
  replace st0 := (st0.alloc (.cells #[.int .i64 0, .slice none 0 0] 26)).addBox _ [.int .i64 0, .slice none 0 0] (Box.made _ _ _ _ (fun j v h => by simpa using h))
  simp only [World.size_alloc] at st0
  have q0 := st0.sl 0 ⟨o, lo, hi, .slice av L cap, L, f⟩ rfl
  dsimp only at q0
  have HC := Lib.hid h
  clear h hs
  go_enter Try.func113, Try.ntmps113
  go_wp2_with fail
  refine (IsCyclo_no _ _ q0 HC.out).mono ?_
  rintro e w1 ⟨rfl, b1⟩
  clear q0
  have st1 := st0.keep b1
  have hz_w1 := b1.size
  try simp only [World.size_alloc] at hz_w1
  clear st0 b1
  obtain ⟨d0, d1⟩ := (st1.box 0 _ rfl).cell2
  have dz := (st1.box 0 _ rfl).2.2
  have BB := st1.1
  dsimp only at dz
  go_wp2
  refine bodyPost_ret (v := failV 1) (by simp [results, Try.results113, go_sem, failV, d0, d1]) rfl ?_
  exact ⟨rfl, by go_grown⟩

theorem LiftCyclo_spec_bad (x : Int) (a : Int) (w : World) (hs : Sl o w lo hi v L f) (h : ¬ CyP x L f) :
    Calls Try.prog 114 #[.agg #[.int .i64 x, v], .int .i64 a] w fun e w' => e = .returned (failV 1) ∧ Below w.heap.size w w' := by
  obtain ⟨av, cap, rfl⟩ := hs.shape
  have st0 := ((((St.start w).addSl ⟨o, lo, hi, .slice av L cap, L, f⟩ hs).alloc (.cells #[.int .i64 x, .slice av L cap] 26)).addBox w.heap.size [.int .i64 x, .slice av L cap] (Box.made _ _ _ _ (fun j v h => by simpa using h)))
  replace st0 := (st0.alloc (.cells #[.int .i64 0, .slice none 0 0] 26)).addBox _ [.int .i64 0, .slice none 0 0] (Box.made _ _ _ _ (fun j v h => by simpa using h))
  simp only [World.size_alloc] at st0
  have q0 := st0.sl 0 ⟨o, lo, hi, .slice av L cap, L, f⟩ rfl
  dsimp only at q0
  have HC := Lib.hid h
  clear h hs
  go_enter Try.func114, Try.ntmps114
  go_wp2_with fail
  refine (l01Is_no _ _ q0 HC.out).mono ?_
  rintro e w1 ⟨rfl, b1⟩
  clear q0
  have st1 := st0.keep b1
  have hz_w1 := b1.size
  try simp only [World.size_alloc] at hz_w1
  clear st0 b1
  obtain ⟨d0, d1⟩ := (st1.box 0 _ rfl).cell2
  have dz := (st1.box 0 _ rfl).2.2
  have BB := st1.1
  dsimp only at dz
  go_wp2
  refine bodyPost_ret (v := failV 1) (by simp [results, Try.results114, go_sem, failV, d0, d1]) rfl ?_
  exact ⟨rfl, by go_grown⟩

theorem LiftCyclo_impl_out (n : Nat) (a : Int) (w : World) (hs : Sl o w lo hi v L f) (h : CyP n L f) (ha : (a < 1 ∨ 16 < a)) :
    Calls Try.prog 113 #[.agg #[.int .i64 (n : Int), v], .int .i64 a] w fun e w' => e = .returned (failV 2) ∧ Below w.heap.size w w' := by
  obtain ⟨av, cap, rfl⟩ := hs.shape
  have hn1 : 1 ≤ n := by have := h.1; omega
  have hn2 : n ≤ 16 := by have := h.2.1; omega
  have hp := phi_le12 n hn2 hn1
  have hL : L ≤ 12 := by have e : L = phiN n := h.2.2.1; omega
  have st0 := ((((St.start w).addSl ⟨o, lo, hi, .slice av L cap, L, f⟩ hs).alloc (.cells #[.int .i64 (n : Int), .slice av L cap] 26)).addBox w.heap.size [.int .i64 (n : Int), .slice av L cap] (Box.made _ _ _ _ (fun j v h => by simpa using h)))
  replace st0 := (st0.alloc (.cells #[.int .i64 0, .slice none 0 0] 26)).addBox _ [.int .i64 0, .slice none 0 0] (Box.made _ _ _ _ (fun j v h => by simpa using h))
  simp only [World.size_alloc] at st0
  have q0 := st0.sl 0 ⟨o, lo, hi, .slice av L cap, L, f⟩ rfl
  dsimp only at q0
  have HC := Lib.hid h
  clear h hs
  have H := Lib.hid ha
  clear ha
  go_enter Try.func113, Try.ntmps113
  go_wp2_with fail
  refine (IsCyclo_yes _ _ q0 HC.out).mono ?_
  rintro e w1 ⟨rfl, b1⟩
  clear q0
  have st1 := st0.keep b1
  have hz_w1 := b1.size
  try simp only [World.size_alloc] at hz_w1
  clear st0 b1
  obtain ⟨c0, c1⟩ := (st1.box 1 (w.heap.size, [.int .i64 (n : Int), .slice av L cap]) rfl).cell2
  obtain ⟨d0, d1⟩ := (st1.box 0 _ rfl).cell2
  have dz := (st1.box 0 _ rfl).2.2
  have BB := st1.1
  dsimp only at dz
  go_wp2_with (go_at_call 142; refine (isOrder_no _ _ H.out).mono ?_; rintro e w' ⟨rfl, rfl⟩)
  refine bodyPost_ret (v := failV 2) (by simp [results, Try.results113, go_sem, failV, d0, d1]) rfl ?_
  exact ⟨rfl, by go_grown⟩

theorem LiftCyclo_impl_rest (n : Nat) (a : Int) (w : World) (hs : Sl o w lo hi v L f) (h : CyP n L f) (ha : (1 ≤ a ∧ a ≤ 16 ∧ a % (n : Int) ≠ 0)) :
    Calls Try.prog 113 #[.agg #[.int .i64 (n : Int), v], .int .i64 a] w fun e w' => e = .returned (failV 2) ∧ Below w.heap.size w w' := by
  obtain ⟨av, cap, rfl⟩ := hs.shape
  have hn1 : 1 ≤ n := by have := h.1; omega
  have hn2 : n ≤ 16 := by have := h.2.1; omega
  have hp := phi_le12 n hn2 hn1
  have hL : L ≤ 12 := by have e : L = phiN n := h.2.2.1; omega
  have st0 := ((((St.start w).addSl ⟨o, lo, hi, .slice av L cap, L, f⟩ hs).alloc (.cells #[.int .i64 (n : Int), .slice av L cap] 26)).addBox w.heap.size [.int .i64 (n : Int), .slice av L cap] (Box.made _ _ _ _ (fun j v h => by simpa using h)))
  replace st0 := (st0.alloc (.cells #[.int .i64 0, .slice none 0 0] 26)).addBox _ [.int .i64 0, .slice none 0 0] (Box.made _ _ _ _ (fun j v h => by simpa using h))
  simp only [World.size_alloc] at st0
  have q0 := st0.sl 0 ⟨o, lo, hi, .slice av L cap, L, f⟩ rfl
  dsimp only at q0
  have HC := Lib.hid h
  clear h hs
  obtain ⟨ha1, ha2, ha3⟩ := ha
  have hb : (a % (n : Int) != 0) = true := by simpa using ha3
  have hb' : (a % (n : Int) == 0) = false := by simpa using ha3
  clear ha3
  go_enter Try.func113, Try.ntmps113
  go_wp2_with fail
  refine (IsCyclo_yes _ _ q0 HC.out).mono ?_
  rintro e w1 ⟨rfl, b1⟩
  clear q0
  have st1 := st0.keep b1
  have hz_w1 := b1.size
  try simp only [World.size_alloc] at hz_w1
  clear st0 b1
  obtain ⟨c0, c1⟩ := (st1.box 1 (w.heap.size, [.int .i64 (n : Int), .slice av L cap]) rfl).cell2
  obtain ⟨d0, d1⟩ := (st1.box 0 _ rfl).cell2
  have dz := (st1.box 0 _ rfl).2.2
  have BB := st1.1
  dsimp only at dz
  go_wp2_with (go_at_call 142; refine (isOrder_yes _ _ (by omega) (by omega)).mono ?_; rintro e w' ⟨rfl, rfl⟩)
  refine bodyPost_ret (v := failV 2) (by simp [results, Try.results113, go_sem, failV, d0, d1]) rfl ?_
  exact ⟨rfl, by go_grown⟩

theorem LiftCyclo_spec_out (n : Nat) (a : Int) (w : World) (hs : Sl o w lo hi v L f) (h : CyP n L f) (ha : (a < 1 ∨ 16 < a)) :
    Calls Try.prog 114 #[.agg #[.int .i64 (n : Int), v], .int .i64 a] w fun e w' => e = .returned (failV 2) ∧ Below w.heap.size w w' := by
  obtain ⟨av, cap, rfl⟩ := hs.shape
  have hn1 : 1 ≤ n := by have := h.1; omega
  have hn2 : n ≤ 16 := by have := h.2.1; omega
  have hp := phi_le12 n hn2 hn1
  have hL : L ≤ 12 := by have e : L = phiN n := h.2.2.1; omega
  have st0 := ((((St.start w).addSl ⟨o, lo, hi, .slice av L cap, L, f⟩ hs).alloc (.cells #[.int .i64 (n : Int), .slice av L cap] 26)).addBox w.heap.size [.int .i64 (n : Int), .slice av L cap] (Box.made _ _ _ _ (fun j v h => by simpa using h)))
  replace st0 := (st0.alloc (.cells #[.int .i64 0, .slice none 0 0] 26)).addBox _ [.int .i64 0, .slice none 0 0] (Box.made _ _ _ _ (fun j v h => by simpa using h))
  simp only [World.size_alloc] at st0
  have q0 := st0.sl 0 ⟨o, lo, hi, .slice av L cap, L, f⟩ rfl
  dsimp only at q0
  have HC := Lib.hid h
  clear h hs
  have H := Lib.hid ha
  clear ha
  go_enter Try.func114, Try.ntmps114
  go_wp2_with fail
  refine (l01Is_yes _ _ q0 HC.out).mono ?_
  rintro e w1 ⟨rfl, b1⟩
  clear q0
  have st1 := st0.keep b1
  have hz_w1 := b1.size
  try simp only [World.size_alloc] at hz_w1
  clear st0 b1
  obtain ⟨c0, c1⟩ := (st1.box 1 (w.heap.size, [.int .i64 (n : Int), .slice av L cap]) rfl).cell2
  obtain ⟨d0, d1⟩ := (st1.box 0 _ rfl).cell2
  have dz := (st1.box 0 _ rfl).2.2
  have BB := st1.1
  dsimp only at dz
  go_wp2_with (go_at_call 137; refine (l01In_no _ _ _ _ H.out).mono ?_; rintro e w' ⟨rfl, rfl⟩)
  refine bodyPost_ret (v := failV 2) (by simp [results, Try.results114, go_sem, failV, d0, d1]) rfl ?_
  exact ⟨rfl, by go_grown⟩

theorem LiftCyclo_spec_rest (n : Nat) (a : Int) (w : World) (hs : Sl o w lo hi v L f) (h : CyP n L f) (ha : (1 ≤ a ∧ a ≤ 16 ∧ a % (n : Int) ≠ 0)) :
    Calls Try.prog 114 #[.agg #[.int .i64 (n : Int), v], .int .i64 a] w fun e w' => e = .returned (failV 2) ∧ Below w.heap.size w w' := by
  obtain ⟨av, cap, rfl⟩ := hs.shape
  have hn1 : 1 ≤ n := by have := h.1; omega
  have hn2 : n ≤ 16 := by have := h.2.1; omega
  have hp := phi_le12 n hn2 hn1
  have hL : L ≤ 12 := by have e : L = phiN n := h.2.2.1; omega
  have st0 := ((((St.start w).addSl ⟨o, lo, hi, .slice av L cap, L, f⟩ hs).alloc (.cells #[.int .i64 (n : Int), .slice av L cap] 26)).addBox w.heap.size [.int .i64 (n : Int), .slice av L cap] (Box.made _ _ _ _ (fun j v h => by simpa using h)))
  replace st0 := (st0.alloc (.cells #[.int .i64 0, .slice none 0 0] 26)).addBox _ [.int .i64 0, .slice none 0 0] (Box.made _ _ _ _ (fun j v h => by simpa using h))
  simp only [World.size_alloc] at st0
  have q0 := st0.sl 0 ⟨o, lo, hi, .slice av L cap, L, f⟩ rfl
  dsimp only at q0
  have HC := Lib.hid h
  clear h hs
  obtain ⟨ha1, ha2, ha3⟩ := ha
  have hb : (a % (n : Int) != 0) = true := by simpa using ha3
  have hb' : (a % (n : Int) == 0) = false := by simpa using ha3
  clear ha3
  go_enter Try.func114, Try.ntmps114
  go_wp2_with fail
  refine (l01Is_yes _ _ q0 HC.out).mono ?_
  rintro e w1 ⟨rfl, b1⟩
  clear q0
  have st1 := st0.keep b1
  have hz_w1 := b1.size
  try simp only [World.size_alloc] at hz_w1
  clear st0 b1
  obtain ⟨c0, c1⟩ := (st1.box 1 (w.heap.size, [.int .i64 (n : Int), .slice av L cap]) rfl).cell2
  obtain ⟨d0, d1⟩ := (st1.box 0 _ rfl).cell2
  have dz := (st1.box 0 _ rfl).2.2
  have BB := st1.1
  dsimp only at dz
  go_wp2_with (go_at_call 137; refine (l01In_yes _ _ _ _ (by omega) (by omega)).mono ?_; rintro e w' ⟨rfl, rfl⟩)
  refine bodyPost_ret (v := failV 2) (by simp [results, Try.results114, go_sem, failV, d0, d1]) rfl ?_
  exact ⟨rfl, by go_grown⟩

set_option maxRecDepth 100000 in
set_option maxHeartbeats 1000000 in
theorem LiftCyclo_impl_ok (n N : Nat) (w : World) (hs : Sl o w lo hi v L f) (h : CyP n L f) (hN1 : 1 ≤ N) (hN2 : N ≤ 16) (hd : N % n = 0) (hw : Within (liftP n N L f) (phiN N) 1000000000) :
    Calls Try.prog 113 #[.agg #[.int .i64 (n : Int), v], .int .i64 (N : Int)] w fun e w' => ∃ a' cap', e = .returned (.tuple #[.agg #[.int .i64 (N : Int), .slice a' (phiN N) cap'], .int .i64 0]) ∧ Sl true w' w.heap.size w'.heap.size (.slice a' (phiN N) cap') (phiN N) (liftP n N L f) ∧ Below w.heap.size w w' := by
  have hLn : L ≤ n := by have e : L = phiN n := h.2.2.1; have := phiI_le (n : Int); unfold phiN at e; omega
  have hpN := phi_le12 N hN2 hN1
  have HW := Lib.hid ((cut_within hpN).2 hw); clear hw
  obtain ⟨av, cap, rfl⟩ := hs.shape
  have hn1 : 1 ≤ n := by have := h.1; omega
  have hn2 : n ≤ 16 := by have := h.2.1; omega
  have hp := phi_le12 n hn2 hn1
  have hL : L ≤ 12 := by have e : L = phiN n := h.2.2.1; omega
  have hhs := hs.size
  have st0 := ((((St.start w).addSl ⟨o, lo, hi, .slice av L cap, L, f⟩ hs).alloc (.cells #[.int .i64 (n : Int), .slice av L cap] 26)).addBox w.heap.size [.int .i64 (n : Int), .slice av L cap] (Box.made _ _ _ _ (fun j v h => by simpa using h)))
  replace st0 := (st0.alloc (.cells #[.int .i64 0, .slice none 0 0] 26)).addBox _ [.int .i64 0, .slice none 0 0] (Box.made _ _ _ _ (fun j v h => by simpa using h))
  simp only [World.size_alloc] at st0
  have q0 := st0.sl 0 ⟨o, lo, hi, .slice av L cap, L, f⟩ rfl
  dsimp only at q0
  have HC := Lib.hid h
  clear h hs
  have hdd : (N : Int) % (n : Int) = 0 := by omega
  have HLT := Lib.hid (fun (i : Nat) (hi : i < n) => lift_lt hn1 hd hN1 hi)
  have hdiv : (N : Int) / (n : Int) = ((N / n : Nat) : Int) := by simp
  have hE : liftP n N L f = redP N (setP (fun i => i * (N / n)) f L) := rfl
  have HE := Lib.hid hE; clear hE hd
  have hr := Nat.div_le_self N n
  generalize N / n = r at *
  have hmk := make24
  go_enter Try.func113, Try.ntmps113
  go_wp2_with fail
  refine (IsCyclo_yes _ _ q0 HC.out).mono ?_
  rintro e w1 ⟨rfl, b1⟩
  clear q0
  have st1 := st0.keep b1
  have hz_w1 := b1.size
  try simp only [World.size_alloc] at hz_w1
  clear st0 b1
  have HS24 := Lib.hid (Sl.made24 w1)
  have HT1 := Lib.hid (st1.alloc (.cells (madeCells #[.int .i64 0] 24) 2))
  obtain ⟨c0, c1⟩ := (st1.box 1 (w.heap.size, [.int .i64 (n : Int), .slice av L cap]) rfl).cell2
  obtain ⟨g0, g1⟩ := (HT1.out.box 1 (w.heap.size, [.int .i64 (n : Int), .slice av L cap]) rfl).cell2
  clear st1
  go_wp2_with (go_at_call 142; refine (isOrder_yes _ _ (by omega) (by omega)).mono ?_; rintro e w' ⟨rfl, rfl⟩)
  clear hmk c0 c1 g0 g1
  go_loopw [28] (fun s28 wr => ∃ k : Nat, k ≤ L ∧ s28 = .int .i64 k ∧ Sl true wr w1.heap.size (w1.heap.size + 1) (.slice (some ⟨w1.heap.size, 0, none⟩) 24 24) 24 (setP (fun i => i * r) f k) ∧
      St w wr [(w.heap.size + 1, [.int .i64 0, .slice none 0 0]), (w.heap.size, [.int .i64 (n : Int), .slice av L cap])] [⟨o, lo, hi, .slice av L cap, L, f⟩]) (fun s28 _ => L - (intOf s28).toNat)
  case atStart => exact ⟨0, Nat.zero_le _, rfl, HS24.out, HT1.out⟩
  case round =>
    obtain ⟨k, hk, rfl, hown, hst⟩ := hrel
    have HO := Lib.hid hown; clear hown
    have HT := Lib.hid hst; clear hst
    obtain ⟨d0, d1⟩ := (HT.out.box 1 (w.heap.size, [.int .i64 (n : Int), .slice av L cap]) rfl).cell2
    by_cases hlt : k < L
    · have qa := HT.out.sl 0 ⟨o, lo, hi, .slice av L cap, L, f⟩ rfl
      dsimp only at qa
      obtain ⟨g, off, cap', hv, _, _, _, _, hc, _⟩ := qa.at (by omega)
      obtain ⟨rfl, rfl⟩ : av = some ⟨g, off, none⟩ ∧ cap = cap' := by cases hv; exact ⟨rfl, rfl⟩
      have hck := hc k hlt
      have hfk := qa.bd k hlt
      clear hv hc qa
      have hlt2 := HLT.out k (by omega)
      have hw : setP (fun i => i * r) f (k + 1) = fun j => if j = k * r then f k else setP (fun i => i * r) f k j := rfl
      have HW2 := Lib.hid hw; clear hw
      have hix : (k : Int) * (r : Int) = ((k * r : Nat) : Int) := by simp
      generalize k * r = i at *
      have hck2 := (HO.out.known (by omega)).2.2.2.1 i (by omega)
      have hfr := (HO.out.known (by omega)).2.2.2.2 rfl i
      rw [Nat.zero_add] at hck2
      go_wp2
      go_roundw
      case rel =>
        refine ⟨k + 1, by omega, by go_num, ?_, ?_⟩
        · rw [HW2.out]
          refine (HO.out.store0 (i := i) (by omega) hfk).congr (fun j hj => ?_)
          by_cases e : j = i
          · subst e; simp
          · simp [e]
        · exact HT.out.write (lo := w1.heap.size) (hi := w1.heap.size + 1) ((Frame.refl w1.heap.size (w1.heap.size + 1) wr).setCell (Nat.le_refl _) (Nat.lt_succ_self _) _) (by omega) (by intro b hb; simp only [List.mem_cons, List.not_mem_nil, or_false] at hb; rcases hb with rfl | rfl <;> dsimp only <;> omega) (by intro s hs'; simp only [List.mem_cons, List.not_mem_nil, or_false] at hs'; rcases hs' with rfl <;> dsimp only <;> omega)
      case measure => simp [intOf] <;> omega
    · obtain rfl : k = L := by omega
      go_wp2_with fail
      refine (reducedParts_any N (by omega) (by omega) _ HO.out).mono ?_
      rintro e w2 ⟨rfl, f2⟩
      rw [← HE.out]
      have st1 := HT.out
      have hzO := HO.out.size
      clear d0 d1
      have st2 := st1.write f2 (by omega) (by intro b hb; simp only [List.mem_cons, List.not_mem_nil, or_false] at hb; rcases hb with rfl | rfl <;> dsimp only <;> omega) (by intro s hs'; simp only [List.mem_cons, List.not_mem_nil, or_false] at hs'; rcases hs' with rfl <;> dsimp only <;> omega)
      have hz2 := f2.size
      try simp only [World.size_alloc] at hz2
      clear st1 f2
      go_wp2_with fail
      refine (cycloWithin_yes N (by omega) (by omega) _ HW.out).mono ?_
      rintro e w3 ⟨a3, k3, rfl, s3, b3⟩
      have st3 := st2.keep b3
      have hz3 := b3.size
      have S3 := Lib.hid s3
      clear st2 b3 s3
      obtain ⟨d0, d1⟩ := (st3.box 0 _ rfl).cell2
      have dz := (st3.box 0 _ rfl).2.2
      have B3 := st3.1
      dsimp only at dz
      go_wp2
      refine bodyPost_ret (v := .tuple #[.agg #[.int .i64 (N : Int), .slice a3 (phiN N) k3], .int .i64 0]) (by simp [results, Try.results113, go_sem, d0, d1]) rfl ?_
      refine ⟨_, _, rfl, ?_, by go_grown⟩
      exact (((S3.out.setOther (.inl (by show w.heap.size + 1 < _; omega)) _).setOther (.inl (by show w.heap.size + 1 < _; omega)) _).wide (by omega) (by simp) (Nat.le_refl _)).congr (fun j hj => by unfold cut; rw [if_pos hj])

set_option maxRecDepth 100000 in
set_option maxHeartbeats 1000000 in
theorem LiftCyclo_impl_big (n N : Nat) (w : World) (hs : Sl o w lo hi v L f) (h : CyP n L f) (hN1 : 1 ≤ N) (hN2 : N ≤ 16) (hd : N % n = 0) (hw : ¬ Within (liftP n N L f) (phiN N) 1000000000) :
    Calls Try.prog 113 #[.agg #[.int .i64 (n : Int), v], .int .i64 (N : Int)] w fun e w' => e = .returned (failV 3) ∧ Below w.heap.size w w' := by
  have hLn : L ≤ n := by have e : L = phiN n := h.2.2.1; have := phiI_le (n : Int); unfold phiN at e; omega
  have hpN := phi_le12 N hN2 hN1
  have HW := Lib.hid (fun h' => hw ((cut_within hpN).1 h')); clear hw
  have HR := Lib.hid (cut_inR (phiN N) (liftP n N L f) 12 (fun j hj => redP_inR N _ (fun j _ => setP_inR hs.bd j) j (by omega)))
  obtain ⟨av, cap, rfl⟩ := hs.shape
  have hn1 : 1 ≤ n := by have := h.1; omega
  have hn2 : n ≤ 16 := by have := h.2.1; omega
  have hp := phi_le12 n hn2 hn1
  have hL : L ≤ 12 := by have e : L = phiN n := h.2.2.1; omega
  have hhs := hs.size
  have st0 := ((((St.start w).addSl ⟨o, lo, hi, .slice av L cap, L, f⟩ hs).alloc (.cells #[.int .i64 (n : Int), .slice av L cap] 26)).addBox w.heap.size [.int .i64 (n : Int), .slice av L cap] (Box.made _ _ _ _ (fun j v h => by simpa using h)))
  replace st0 := (st0.alloc (.cells #[.int .i64 0, .slice none 0 0] 26)).addBox _ [.int .i64 0, .slice none 0 0] (Box.made _ _ _ _ (fun j v h => by simpa using h))
  simp only [World.size_alloc] at st0
  have q0 := st0.sl 0 ⟨o, lo, hi, .slice av L cap, L, f⟩ rfl
  dsimp only at q0
  have HC := Lib.hid h
  clear h hs
  have hdd : (N : Int) % (n : Int) = 0 := by omega
  have HLT := Lib.hid (fun (i : Nat) (hi : i < n) => lift_lt hn1 hd hN1 hi)
  have hdiv : (N : Int) / (n : Int) = ((N / n : Nat) : Int) := by simp
  have hE : liftP n N L f = redP N (setP (fun i => i * (N / n)) f L) := rfl
  have HE := Lib.hid hE; clear hE hd
  have hr := Nat.div_le_self N n
  generalize N / n = r at *
  have hmk := make24
  go_enter Try.func113, Try.ntmps113
  go_wp2_with fail
  refine (IsCyclo_yes _ _ q0 HC.out).mono ?_
  rintro e w1 ⟨rfl, b1⟩
  clear q0
  have st1 := st0.keep b1
  have hz_w1 := b1.size
  try simp only [World.size_alloc] at hz_w1
  clear st0 b1
  have HS24 := Lib.hid (Sl.made24 w1)
  have HT1 := Lib.hid (st1.alloc (.cells (madeCells #[.int .i64 0] 24) 2))
  obtain ⟨c0, c1⟩ := (st1.box 1 (w.heap.size, [.int .i64 (n : Int), .slice av L cap]) rfl).cell2
  obtain ⟨g0, g1⟩ := (HT1.out.box 1 (w.heap.size, [.int .i64 (n : Int), .slice av L cap]) rfl).cell2
  clear st1
  go_wp2_with (go_at_call 142; refine (isOrder_yes _ _ (by omega) (by omega)).mono ?_; rintro e w' ⟨rfl, rfl⟩)
  clear hmk c0 c1 g0 g1
  go_loopw [28] (fun s28 wr => ∃ k : Nat, k ≤ L ∧ s28 = .int .i64 k ∧ Sl true wr w1.heap.size (w1.heap.size + 1) (.slice (some ⟨w1.heap.size, 0, none⟩) 24 24) 24 (setP (fun i => i * r) f k) ∧
      St w wr [(w.heap.size + 1, [.int .i64 0, .slice none 0 0]), (w.heap.size, [.int .i64 (n : Int), .slice av L cap])] [⟨o, lo, hi, .slice av L cap, L, f⟩]) (fun s28 _ => L - (intOf s28).toNat)
  case atStart => exact ⟨0, Nat.zero_le _, rfl, HS24.out, HT1.out⟩
  case round =>
    obtain ⟨k, hk, rfl, hown, hst⟩ := hrel
    have HO := Lib.hid hown; clear hown
    have HT := Lib.hid hst; clear hst
    obtain ⟨d0, d1⟩ := (HT.out.box 1 (w.heap.size, [.int .i64 (n : Int), .slice av L cap]) rfl).cell2
    by_cases hlt : k < L
    · have qa := HT.out.sl 0 ⟨o, lo, hi, .slice av L cap, L, f⟩ rfl
      dsimp only at qa
      obtain ⟨g, off, cap', hv, _, _, _, _, hc, _⟩ := qa.at (by omega)
      obtain ⟨rfl, rfl⟩ : av = some ⟨g, off, none⟩ ∧ cap = cap' := by cases hv; exact ⟨rfl, rfl⟩
      have hck := hc k hlt
      have hfk := qa.bd k hlt
      clear hv hc qa
      have hlt2 := HLT.out k (by omega)
      have hw : setP (fun i => i * r) f (k + 1) = fun j => if j = k * r then f k else setP (fun i => i * r) f k j := rfl
      have HW2 := Lib.hid hw; clear hw
      have hix : (k : Int) * (r : Int) = ((k * r : Nat) : Int) := by simp
      generalize k * r = i at *
      have hck2 := (HO.out.known (by omega)).2.2.2.1 i (by omega)
      have hfr := (HO.out.known (by omega)).2.2.2.2 rfl i
      rw [Nat.zero_add] at hck2
      go_wp2
      go_roundw
      case rel =>
        refine ⟨k + 1, by omega, by go_num, ?_, ?_⟩
        · rw [HW2.out]
          refine (HO.out.store0 (i := i) (by omega) hfk).congr (fun j hj => ?_)
          by_cases e : j = i
          · subst e; simp
          · simp [e]
        · exact HT.out.write (lo := w1.heap.size) (hi := w1.heap.size + 1) ((Frame.refl w1.heap.size (w1.heap.size + 1) wr).setCell (Nat.le_refl _) (Nat.lt_succ_self _) _) (by omega) (by intro b hb; simp only [List.mem_cons, List.not_mem_nil, or_false] at hb; rcases hb with rfl | rfl <;> dsimp only <;> omega) (by intro s hs'; simp only [List.mem_cons, List.not_mem_nil, or_false] at hs'; rcases hs' with rfl <;> dsimp only <;> omega)
      case measure => simp [intOf] <;> omega
    · obtain rfl : k = L := by omega
      go_wp2_with fail
      refine (reducedParts_any N (by omega) (by omega) _ HO.out).mono ?_
      rintro e w2 ⟨rfl, f2⟩
      rw [← HE.out]
      have st1 := HT.out
      have hzO := HO.out.size
      clear d0 d1
      have st2 := st1.write f2 (by omega) (by intro b hb; simp only [List.mem_cons, List.not_mem_nil, or_false] at hb; rcases hb with rfl | rfl <;> dsimp only <;> omega) (by intro s hs'; simp only [List.mem_cons, List.not_mem_nil, or_false] at hs'; rcases hs' with rfl <;> dsimp only <;> omega)
      have hz2 := f2.size
      try simp only [World.size_alloc] at hz2
      clear st1 f2
      go_wp2_with fail
      refine (cycloWithin_no _ _ HR.out HW.out).mono ?_
      rintro e w3 ⟨rfl, b3⟩
      have st3 := st2.keep b3
      have hz3 := b3.size
      clear st2 b3
      obtain ⟨d0, d1⟩ := (st3.box 0 _ rfl).cell2
      have dz := (st3.box 0 _ rfl).2.2
      have B3 := st3.1
      dsimp only at dz
      go_wp2
      refine bodyPost_ret (v := failV 3) (by simp [results, Try.results113, go_sem, failV, d0, d1]) rfl ?_
      exact ⟨rfl, by go_grown⟩

set_option maxRecDepth 100000 in
set_option maxHeartbeats 1000000 in
theorem l01Lift_any (n N : Nat) (h1 : 1 ≤ n) (h2 : n ≤ 16) (hN1 : 1 ≤ N) (hN2 : N ≤ 16) (hd : N % n = 0) (w : World) (hs : Sl o w lo hi v L f) (hLn : L ≤ n) :
    Calls Try.prog 205 #[.agg #[.int .i64 (n : Int), v], .int .i64 (N : Int)] w fun e w' => ∃ a' cap', e = .returned (.agg #[.int .i64 (N : Int), .slice a' (phiN N) cap']) ∧ Sl true w' w.heap.size w'.heap.size (.slice a' (phiN N) cap') (phiN N) (liftP n N L f) ∧ Below w.heap.size w w' := by
  obtain ⟨av, cap, rfl⟩ := hs.shape
  have hhs := hs.size
  have st0 := ((((St.start w).addSl ⟨o, lo, hi, .slice av L cap, L, f⟩ hs).alloc (.cells #[.int .i64 (n : Int), .slice av L cap] 26)).addBox w.heap.size [.int .i64 (n : Int), .slice av L cap] (Box.made _ _ _ _ (fun j v h => by simpa using h)))
  replace st0 := ((st0.alloc (.cells #[.int .i64 0, .slice none 0 0] 26)).addBox (w.heap.size + 1) [.int .i64 0, .slice none 0 0] (by
    have := Box.made (w.alloc (.cells #[.int .i64 (n : Int), .slice av L cap] 26)) #[.int .i64 0, .slice none 0 0] 26 [.int .i64 0, .slice none 0 0] (fun j v h => by simpa using h)
    simpa using this))
  have hdd : (N : Int) % (n : Int) = 0 := by omega
  have HLT := Lib.hid (fun (i : Nat) (hi : i < n) => lift_lt h1 hd hN1 hi)
  have hr := Nat.div_le_self N n
  have hdiv : wrap64 ((N : Int) / (n : Int)) = ((N / n : Nat) : Int) := by
    have e : ((N : Int) / (n : Int)) = ((N / n : Nat) : Int) := by simp
    rw [e]
    generalize N / n = q at *
    exact wrap_inR (by unfold inR; omega)
  have hE : liftP n N L f = redP N (setP (fun i => i * (N / n)) f L) := rfl
  have HE := Lib.hid hE; clear hE hd
  generalize N / n = r at *
  have HDIV := Lib.hid hdiv; clear hdiv
  have HST0 := Lib.hid st0
  clear st0 hs
  have hmk := run_make_row' (P := Try.prog) 24 2 (.int .i64 0) 8 Try.underlying24 Try.info2 rfl .i64 .i64 N (by omega) (by omega)
  go_enter Try.func205, Try.ntmps205
  go_wp2
  go_cut [5, 6] (fun s5 s6 wx => s5 = .slice (some ⟨w.heap.size + 2, 0, none⟩) N N ∧ s6 = .int .i64 (r : Int) ∧
      Sl true wx (w.heap.size + 2) (w.heap.size + 3) (.slice (some ⟨w.heap.size + 2, 0, none⟩) N N) N (setP (fun i => i * r) f 0) ∧ St w wx [(w.heap.size + 1, [.int .i64 0, .slice none 0 0]), (w.heap.size, [.int .i64 (n : Int), .slice av L cap])] [⟨o, lo, hi, .slice av L cap, L, f⟩])
  case first =>
    have hsn := (Sl.made ((w.alloc (.cells #[.int .i64 (n : Int), .slice av L cap] 26)).alloc (.cells #[.int .i64 0, .slice none 0 0] 26)) (madeCells #[.int .i64 0] N) 2 N N (setP (fun i => i * r) f 0) (Nat.le_refl _) (by unfold maxLen; omega) (fun _ _ => by simp [setP, inR]) (fun j hj => madeCells_at _ _ _ hj)).drew
    have hst := (HST0.out.alloc (.cells (madeCells #[.int .i64 0] N) 2)).drew
    simp only [World.size_alloc] at hsn
    have HSN := Lib.hid hsn
    have HST1 := Lib.hid hst
    clear hsn hst
    have hnz : ¬ ((n : Int) = 0) := by omega
    have hnz' : ((n : Int) == 0) = false := by simp; omega
    go_region
    all_goals (go_wp2_with fail; go_meet; exact ⟨rfl, by rw [HDIV.out], HSN.out, HST1.out⟩)
  case rest =>
    obtain ⟨rfl, rfl, hown, hst⟩ := hcut
    have HSN := Lib.hid hown; clear hown
    have HST1 := Lib.hid hst; clear hst
    clear HST0 hmk HDIV
    go_wp2
    go_loopw [7] (fun s7 wr => ∃ k : Nat, k ≤ L ∧ s7 = .int .i64 k ∧ Sl true wr (w.heap.size + 2) (w.heap.size + 3) (.slice (some ⟨w.heap.size + 2, 0, none⟩) N N) N (setP (fun i => i * r) f k) ∧
        St w wr [(w.heap.size + 1, [.int .i64 0, .slice none 0 0]), (w.heap.size, [.int .i64 (n : Int), .slice av L cap])] [⟨o, lo, hi, .slice av L cap, L, f⟩]) (fun s7 _ => L - (intOf s7).toNat)
    case atStart => exact ⟨0, Nat.zero_le _, rfl, HSN.out, HST1.out⟩
    case round =>
      obtain ⟨k, hk, rfl, hown, hst⟩ := hrel
      have HO := Lib.hid hown; clear hown
      have HT := Lib.hid hst; clear hst
      obtain ⟨d0, d1⟩ := (HT.out.box 1 (w.heap.size, [.int .i64 (n : Int), .slice av L cap]) rfl).cell2
      by_cases hlt : k < L
      · have qa := HT.out.sl 0 ⟨o, lo, hi, .slice av L cap, L, f⟩ rfl
        dsimp only at qa
        obtain ⟨g, off, cap', hv, _, _, _, _, hc, _⟩ := qa.at (by omega)
        obtain ⟨rfl, rfl⟩ : av = some ⟨g, off, none⟩ ∧ cap = cap' := by cases hv; exact ⟨rfl, rfl⟩
        have hck := hc k hlt
        have hfk := qa.bd k hlt
        clear hv hc qa
        have hlt2 := HLT.out k (by omega)
        have hw : setP (fun i => i * r) f (k + 1) = fun j => if j = k * r then f k else setP (fun i => i * r) f k j := rfl
        have HW2 := Lib.hid hw; clear hw
        have hix : (k : Int) * (r : Int) = ((k * r : Nat) : Int) := by simp
        generalize k * r = i at *
        have hck2 := (HO.out.known (by omega)).2.2.2.1 i (by omega)
        have hfr := (HO.out.known (by omega)).2.2.2.2 rfl i
        rw [Nat.zero_add] at hck2
        have hlt3 : (k : Int) < L := by omega
        go_wp2
        go_roundw
        case rel =>
          refine ⟨k + 1, by omega, by go_num, ?_, ?_⟩
          · rw [HW2.out]
            refine (HO.out.store0 (i := i) (by omega) hfk).congr (fun j hj => ?_)
            by_cases e : j = i
            · subst e; simp
            · simp [e]
          · exact (HT.out.write (lo := w.heap.size + 2) (hi := w.heap.size + 3) ((Frame.refl (w.heap.size + 2) (w.heap.size + 3) wr).setCell (by show w.heap.size + 2 ≤ w.heap.size + 1 + 1; omega) (by show w.heap.size + 1 + 1 < _; omega) _) (by omega) (by intro b hb; simp only [List.mem_cons, List.not_mem_nil, or_false] at hb; rcases hb with rfl | rfl <;> dsimp only <;> omega) (by intro s hs'; simp only [List.mem_cons, List.not_mem_nil, or_false] at hs'; rcases hs' with rfl <;> dsimp only <;> omega))
        case measure => simp [intOf] <;> omega
      · obtain rfl : k = L := by omega
        go_wp2_with fail
        refine (l01Reduce_any N (by omega) (by omega) _ HO.out (by omega)).mono ?_
        rintro e w2 ⟨a1, k1, rfl, s1, b1⟩
        have hz1 := b1.size
        have st1 := HT.out.keep b1
        have hz0 := HO.out.size
        have hpd : pad N (setP (fun i => i * r) f k) = setP (fun i => i * r) f k := by
          funext j; unfold pad
          by_cases e : j < N
          · rw [if_pos e]
          · rw [if_neg e, setP_far (n := N) (fun i hi => HLT.out i (by omega)) j (by omega)]
        rw [hpd, ← HE.out] at s1
        have S1 := Lib.hid s1
        clear s1 b1 d0 d1 hpd
        obtain ⟨d0, d1⟩ := (st1.box 0 _ rfl).cell2
        have dz := (st1.box 0 _ rfl).2.2
        have B1 := st1.1
        dsimp only at dz
        clear st1
        go_wp2
        refine bodyPost_ret (v := .agg #[.int .i64 (N : Int), .slice a1 (phiN N) k1]) (by simp [results, Try.results205, go_sem, d0, d1]) rfl ?_
        refine ⟨_, _, rfl, ?_, by go_grown⟩
        exact ((S1.out.setOther (.inl (by show w.heap.size + 1 < _; omega)) _).setOther (.inl (by show w.heap.size + 1 < _; omega)) _).wide (by omega) (by simp) (Nat.le_refl _)

set_option maxRecDepth 100000 in
set_option maxHeartbeats 1000000 in
theorem LiftCyclo_spec_ok (n : Nat) (N : Nat) (w : World) (hs : Sl o w lo hi v L f) (h : CyP n L f) (hN1 : 1 ≤ N) (hN2 : N ≤ 16) (hd : N % n = 0) (hw : Within (liftP n N L f) (phiN N) 1000000000) :
    Calls Try.prog 114 #[.agg #[.int .i64 (n : Int), v], .int .i64 (N : Int)] w fun e w' => ∃ a' cap', e = .returned (.tuple #[.agg #[.int .i64 (N : Int), .slice a' (phiN N) cap'], .int .i64 0]) ∧ Sl true w' w.heap.size w'.heap.size (.slice a' (phiN N) cap') (phiN N) (liftP n N L f) ∧ Below w.heap.size w w' := by
  obtain ⟨av, cap, rfl⟩ := hs.shape
  have hn1 : 1 ≤ n := by have := h.1; omega
  have hn2 : n ≤ 16 := by have := h.2.1; omega
  have hp := phi_le12 n hn2 hn1
  have hL : L ≤ 12 := by have e : L = phiN n := h.2.2.1; omega
  have hpN := phi_le12 N hN2 hN1
  have HW := Lib.hid hw; clear hw
  have hLn : L ≤ n := by have e : L = phiN n := h.2.2.1; have := phiI_le (n : Int); unfold phiN at e; omega
  have st0 := ((((St.start w).addSl ⟨o, lo, hi, .slice av L cap, L, f⟩ hs).alloc (.cells #[.int .i64 (n : Int), .slice av L cap] 26)).addBox w.heap.size [.int .i64 (n : Int), .slice av L cap] (Box.made _ _ _ _ (fun j v h => by simpa using h)))
  replace st0 := (st0.alloc (.cells #[.int .i64 0, .slice none 0 0] 26)).addBox _ [.int .i64 0, .slice none 0 0] (Box.made _ _ _ _ (fun j v h => by simpa using h))
  simp only [World.size_alloc] at st0
  have q0 := st0.sl 0 ⟨o, lo, hi, .slice av L cap, L, f⟩ rfl
  dsimp only at q0
  have HC := Lib.hid h
  clear h hs
  have hdd : (N : Int) % (n : Int) = 0 := by omega
  have HD := Lib.hid hd; clear hd
  go_enter Try.func114, Try.ntmps114
  go_wp2_with fail
  refine (l01Is_yes _ _ q0 HC.out).mono ?_
  rintro e w1 ⟨rfl, b1⟩
  clear q0
  have st1 := st0.keep b1
  have hz_w1 := b1.size
  try simp only [World.size_alloc] at hz_w1
  clear st0 b1
  obtain ⟨c0, c1⟩ := (st1.box 1 (w.heap.size, [.int .i64 (n : Int), .slice av L cap]) rfl).cell2
  have q1 := st1.sl 0 ⟨o, lo, hi, .slice av L cap, L, f⟩ rfl
  dsimp only at q1
  go_wp2_with (go_at_call 137; refine (l01In_yes _ _ _ _ (by omega) (by omega)).mono ?_; rintro e w' ⟨rfl, rfl⟩)
  refine (l01Lift_any n N hn1 hn2 hN1 hN2 HD.out _ q1 hLn).mono ?_
  rintro e w2 ⟨a2, k2, rfl, s2, b2⟩
  clear q1
  have st2 := (st1.keep b2).addSl ⟨true, w1.heap.size, w2.heap.size, .slice a2 (phiN N) k2, phiN N, liftP n N L f⟩ s2
  have hz2 := b2.size
  try simp only [World.size_drewN, World.size_drew] at hz2
  clear st1 b2 s2 c0 c1
  have q2 := st2.sl 0 ⟨true, w1.heap.size, w2.heap.size, .slice a2 (phiN N) k2, phiN N, liftP n N L f⟩ rfl
  dsimp only at q2
  go_wp2_with fail
  refine (l01Told_yes _ _ q2 HW.out).mono ?_
  rintro e w3 ⟨rfl, b3⟩
  have S3 := Lib.hid ((q2.keep b3 q2.size).alloc (.cells #[.int .i64 (N : Int), .slice a2 (phiN N) k2] 26))
  have st3 := (st2.keep b3).alloc (.cells #[.int .i64 (N : Int), .slice a2 (phiN N) k2] 26)
  have hz3 := b3.size
  clear st2 b3 q2
  obtain ⟨d0, d1⟩ := (st3.box 0 _ rfl).cell2
  have dz := (st3.box 0 _ rfl).2.2
  have BB := st3.1
  dsimp only at dz
  clear st3
  go_wp2
  refine bodyPost_ret (v := .tuple #[.agg #[.int .i64 (N : Int), .slice a2 (phiN N) k2], .int .i64 0]) (by simp [results, Try.results114, go_sem, d0, d1]) rfl ?_
  refine ⟨_, _, rfl, ?_, by go_grown⟩
  exact ((S3.out.setOther (.inl (by show w.heap.size + 1 < _; omega)) _).setOther (.inl (by show w.heap.size + 1 < _; omega)) _).wide (by omega) (by simp; omega) (Nat.le_refl _)

set_option maxRecDepth 100000 in
set_option maxHeartbeats 1000000 in
theorem LiftCyclo_spec_big (n : Nat) (N : Nat) (w : World) (hs : Sl o w lo hi v L f) (h : CyP n L f) (hN1 : 1 ≤ N) (hN2 : N ≤ 16) (hd : N % n = 0) (hw : ¬ Within (liftP n N L f) (phiN N) 1000000000) :
    Calls Try.prog 114 #[.agg #[.int .i64 (n : Int), v], .int .i64 (N : Int)] w fun e w' => e = .returned (failV 3) ∧ Below w.heap.size w w' := by
  obtain ⟨av, cap, rfl⟩ := hs.shape
  have hn1 : 1 ≤ n := by have := h.1; omega
  have hn2 : n ≤ 16 := by have := h.2.1; omega
  have hp := phi_le12 n hn2 hn1
  have hL : L ≤ 12 := by have e : L = phiN n := h.2.2.1; omega
  have hpN := phi_le12 N hN2 hN1
  have HW := Lib.hid hw; clear hw
  have hLn : L ≤ n := by have e : L = phiN n := h.2.2.1; have := phiI_le (n : Int); unfold phiN at e; omega
  have st0 := ((((St.start w).addSl ⟨o, lo, hi, .slice av L cap, L, f⟩ hs).alloc (.cells #[.int .i64 (n : Int), .slice av L cap] 26)).addBox w.heap.size [.int .i64 (n : Int), .slice av L cap] (Box.made _ _ _ _ (fun j v h => by simpa using h)))
  replace st0 := (st0.alloc (.cells #[.int .i64 0, .slice none 0 0] 26)).addBox _ [.int .i64 0, .slice none 0 0] (Box.made _ _ _ _ (fun j v h => by simpa using h))
  simp only [World.size_alloc] at st0
  have q0 := st0.sl 0 ⟨o, lo, hi, .slice av L cap, L, f⟩ rfl
  dsimp only at q0
  have HC := Lib.hid h
  clear h hs
  have hdd : (N : Int) % (n : Int) = 0 := by omega
  have HD := Lib.hid hd; clear hd
  go_enter Try.func114, Try.ntmps114
  go_wp2_with fail
  refine (l01Is_yes _ _ q0 HC.out).mono ?_
  rintro e w1 ⟨rfl, b1⟩
  clear q0
  have st1 := st0.keep b1
  have hz_w1 := b1.size
  try simp only [World.size_alloc] at hz_w1
  clear st0 b1
  obtain ⟨c0, c1⟩ := (st1.box 1 (w.heap.size, [.int .i64 (n : Int), .slice av L cap]) rfl).cell2
  have q1 := st1.sl 0 ⟨o, lo, hi, .slice av L cap, L, f⟩ rfl
  dsimp only at q1
  go_wp2_with (go_at_call 137; refine (l01In_yes _ _ _ _ (by omega) (by omega)).mono ?_; rintro e w' ⟨rfl, rfl⟩)
  refine (l01Lift_any n N hn1 hn2 hN1 hN2 HD.out _ q1 hLn).mono ?_
  rintro e w2 ⟨a2, k2, rfl, s2, b2⟩
  clear q1
  have st2 := (st1.keep b2).addSl ⟨true, w1.heap.size, w2.heap.size, .slice a2 (phiN N) k2, phiN N, liftP n N L f⟩ s2
  have hz2 := b2.size
  try simp only [World.size_drewN, World.size_drew] at hz2
  clear st1 b2 s2 c0 c1
  have q2 := st2.sl 0 ⟨true, w1.heap.size, w2.heap.size, .slice a2 (phiN N) k2, phiN N, liftP n N L f⟩ rfl
  dsimp only at q2
  go_wp2_with fail
  refine (l01Told_no _ _ q2 HW.out).mono ?_
  rintro e w3 ⟨rfl, b3⟩
  unfold failV
  have st3 := (st2.keep b3).alloc (.cells #[.int .i64 0, .slice none 0 0] 26)
  have hz3 := b3.size
  clear st2 b3 q2
  obtain ⟨d0, d1⟩ := (st3.box 0 _ rfl).cell2
  have dz := (st3.box 0 _ rfl).2.2
  have BB := st3.1
  dsimp only at dz
  clear st3
  go_wp2
  refine bodyPost_ret (v := failV 3) (by simp [results, Try.results114, go_sem, failV, d0, d1]) rfl ?_
  exact ⟨rfl, by go_grown⟩

end
end Go.Proofs.Ytloalhcloifgjaa
