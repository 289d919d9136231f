/- ContentOf of the program and of the model. -/
import Derived.Test.YtmmcbkikcceenaaReal
namespace Go.Proofs.Ytmmcbkikcceenaa
open Go.RowKit Go.ChangeShapes Go.Sort
set_option linter.unusedVariables false
set_option linter.unusedSimpArgs false

/-- The greatest common divisor of the first k numbers. -/
def contG (f : Nat → Int) : Nat → Nat
  | 0 => 0
  | k + 1 => Nat.gcd (contG f k) (f k).natAbs
theorem contG_bd {f : Nat → Int} {L : Nat} (hf : Within f L 1000000000) : ∀ k, k ≤ L → contG f k ≤ 1000000000
  | 0, _ => Nat.zero_le _
  | k + 1, hk => by
    have ih := contG_bd hf k (by omega)
    have hb := hf k (by omega)
    unfold contG
    by_cases h : (f k).natAbs = 0
    · rw [h, Nat.gcd_zero_right]; exact ih
    · exact Nat.le_trans (Nat.gcd_le_right _ (by omega)) (by omega)
theorem contG_step (f : Nat → Int) (k : Nat) (a : Int) (h : a.toNat = (f k).natAbs) : gcdI ((contG f k : Nat) : Int) a = ((contG f (k + 1) : Nat) : Int) := by
  unfold gcdI
  rw [h, Int.toNat_natCast]
  rfl

section
variable {o : Bool} {lo hi L : Nat} {v : Value} {f : Nat → Int}
theorem ContentOf_impl_bad (x : Int) (w : World) (hs : Sl o w lo hi v L f) (h : ¬ CyP x L f) :
    Calls Try.prog 54 #[.agg #[.int .i64 x, v]] w fun e w' => e = .returned (.tuple #[.int .i64 0, .int .i64 1]) ∧ Below w.heap.size w w' := by
  obtain ⟨av, cap, rfl⟩ := hs.shape
  have st0 := ((((St.start w).addSl ⟨o, lo, hi, .slice av L cap, L, f⟩ hs).alloc (.cells #[.int .i64 x, .slice av L cap] 26)).addBox w.heap.size [.int .i64 x, .slice av L cap] (Box.made _ _ _ _ (fun j v h => by simpa using h)))
  have q0 := st0.sl 0 ⟨o, lo, hi, .slice av L cap, L, f⟩ rfl
  dsimp only at q0
  have HC := Lib.hid h
  clear h hs
  go_enter Try.func54, Try.ntmps54
  go_wp2_with fail
  refine (IsCyclo_no _ _ q0 HC.out).mono ?_
  rintro e w1 ⟨rfl, b1⟩
  clear q0
  have st1 := st0.keep b1
  have hz_w1 := b1.size
  try simp only [World.size_alloc] at hz_w1
  clear st0 b1
  have BB := st1.1
  go_wp2
  refine bodyPost_ret (v := .tuple #[.int .i64 0, .int .i64 1]) (by simp [results, Try.results54, go_sem]) rfl ?_
  exact ⟨rfl, BB⟩

theorem ContentOf_spec_bad (x : Int) (w : World) (hs : Sl o w lo hi v L f) (h : ¬ CyP x L f) :
    Calls Try.prog 55 #[.agg #[.int .i64 x, v]] w fun e w' => e = .returned (.tuple #[.int .i64 0, .int .i64 1]) ∧ Below w.heap.size w w' := by
  obtain ⟨av, cap, rfl⟩ := hs.shape
  have st0 := ((((St.start w).addSl ⟨o, lo, hi, .slice av L cap, L, f⟩ hs).alloc (.cells #[.int .i64 x, .slice av L cap] 26)).addBox w.heap.size [.int .i64 x, .slice av L cap] (Box.made _ _ _ _ (fun j v h => by simpa using h)))
  have q0 := st0.sl 0 ⟨o, lo, hi, .slice av L cap, L, f⟩ rfl
  dsimp only at q0
  have HC := Lib.hid h
  clear h hs
  go_enter Try.func55, Try.ntmps55
  go_wp2_with fail
  refine (l01Is_no _ _ q0 HC.out).mono ?_
  rintro e w1 ⟨rfl, b1⟩
  clear q0
  have st1 := st0.keep b1
  have hz_w1 := b1.size
  try simp only [World.size_alloc] at hz_w1
  clear st0 b1
  have BB := st1.1
  go_wp2
  refine bodyPost_ret (v := .tuple #[.int .i64 0, .int .i64 1]) (by simp [results, Try.results55, go_sem]) rfl ?_
  exact ⟨rfl, BB⟩

set_option maxRecDepth 100000 in
set_option maxHeartbeats 1000000 in
theorem ContentOf_impl_ok (n : Nat) (w : World) (hs : Sl o w lo hi v L f) (h : CyP n L f) :
    Calls Try.prog 54 #[.agg #[.int .i64 (n : Int), v]] w fun e w' => e = .returned (.tuple #[.int .i64 (contG f L : Int), .int .i64 0]) ∧ Below w.heap.size w w' := by
  have HB := Lib.hid (contG_bd h.2.2.2)
  have HF := Lib.hid h.2.2.2
  obtain ⟨av, cap, rfl⟩ := hs.shape
  have hn1 : 1 ≤ n := by have := h.1; omega
  have hn2 : n ≤ 16 := by have := h.2.1; omega
  have hp := phi_le12 n hn2 hn1
  have hL : L ≤ 12 := by have e : L = phiN n := h.2.2.1; omega
  have hpos : 0 < L := by have e : L = phiN n := h.2.2.1; have := phiN_pos n (by omega) hn1; omega
  have hhs := hs.size
  have st0 := ((((St.start w).addSl ⟨o, lo, hi, .slice av L cap, L, f⟩ hs).alloc (.cells #[.int .i64 (n : Int), .slice av L cap] 26)).addBox w.heap.size [.int .i64 (n : Int), .slice av L cap] (Box.made _ _ _ _ (fun j v h => by simpa using h)))
  have q0 := st0.sl 0 ⟨o, lo, hi, .slice av L cap, L, f⟩ rfl
  dsimp only at q0
  have HC := Lib.hid h
  clear h hs
  go_enter Try.func54, Try.ntmps54
  go_wp2_with fail
  refine (IsCyclo_yes _ _ q0 HC.out).mono ?_
  rintro e w1 ⟨rfl, b1⟩
  clear q0
  have st1 := st0.keep b1
  have hz_w1 := b1.size
  try simp only [World.size_alloc] at hz_w1
  clear st0 b1
  obtain ⟨c0, c1⟩ := (st1.box 0 (w.heap.size, [.int .i64 (n : Int), .slice av L cap]) rfl).cell2
  have ST1 := Lib.hid st1
  clear st1
  go_wp2
  clear c0 c1
  go_loopw [4, 13] (fun s4 s13 wr => ∃ k : Nat, k ≤ L ∧ s4 = .int .i64 (contG f k : Int) ∧ s13 = .int .i64 k ∧ St w wr [(w.heap.size, [.int .i64 (n : Int), .slice av L cap])] [⟨o, lo, hi, .slice av L cap, L, f⟩]) (fun _ s13 _ => L - (intOf s13).toNat)
  case atStart => exact ⟨0, Nat.zero_le _, rfl, rfl, ST1.out⟩
  case round =>
    clear ST1
    obtain ⟨k, hk, rfl, rfl, hst⟩ := hrel
    have HT := Lib.hid hst; clear hst
    have hB := HB.out k hk
    by_cases hlt : k < L
    · obtain ⟨hf1, hf2⟩ := HF.out k hlt
      obtain ⟨x0, x1⟩ := (HT.out.box 0 (w.heap.size, [.int .i64 (n : Int), .slice av L cap]) rfl).cell2
      have qa := HT.out.sl 0 ⟨o, lo, hi, .slice av L cap, L, f⟩ rfl
      dsimp only at qa
      obtain ⟨b, off, c1', hv, _, _, _, _, hc, _⟩ := qa.at (by omega)
      obtain ⟨rfl, rfl⟩ : av = some ⟨b, off, none⟩ ∧ cap = c1' := by cases hv; exact ⟨rfl, rfl⟩
      have hck := hc k hlt
      clear hv hc qa
      have HS := Lib.hid (contG_step f k)
      generalize hfk : f k = y at *
      by_cases h0 : 0 ≤ y
      · have HE := Lib.hid (HS.out y (by omega))
        clear HS
        go_wp2_with (first | (go_at_call 95; refine (commonDivisor_any _ _ _ (by omega) (by omega) (by omega) (by omega)).mono ?_; rw [HE.out]; rintro e w' ⟨rfl, m, rfl⟩))
        go_roundw
        case rel => exact ⟨k + 1, by omega, rfl, by go_num, HT.out.drewN _⟩
        case measure => simp [intOf] <;> omega
      · have HE := Lib.hid (HS.out (-y) (by omega))
        clear HS
        have hneg : 0 ≤ -y := by omega
        have hneg2 : -y ≤ 1000000000 := by omega
        have hlt0 : y < 0 := by omega
        have hle0 : y ≤ -y := by omega
        go_wp2_with (first | (go_at_call 95; refine (commonDivisor_any _ _ _ (by omega) (by omega) (by omega) (by omega)).mono ?_; rw [HE.out]; rintro e w' ⟨rfl, m, rfl⟩))
        go_roundw
        case rel => exact ⟨k + 1, by omega, rfl, by go_num, HT.out.drewN _⟩
        case measure => simp [intOf] <;> omega
    · obtain rfl : k = L := by omega
      obtain ⟨x0, x1⟩ := (HT.out.box 0 (w.heap.size, [.int .i64 (n : Int), .slice av k cap]) rfl).cell2
      go_wp2
      go_ret2
      exact ⟨rfl, HT.out.1⟩

set_option maxRecDepth 100000 in
set_option maxHeartbeats 1000000 in
theorem ContentOf_spec_ok (n : Nat) (w : World) (hs : Sl o w lo hi v L f) (h : CyP n L f) :
    Calls Try.prog 55 #[.agg #[.int .i64 (n : Int), v]] w fun e w' => e = .returned (.tuple #[.int .i64 (contG f L : Int), .int .i64 0]) ∧ Below w.heap.size w w' := by
  have HB := Lib.hid (contG_bd h.2.2.2)
  have HF := Lib.hid h.2.2.2
  obtain ⟨av, cap, rfl⟩ := hs.shape
  have hn1 : 1 ≤ n := by have := h.1; omega
  have hn2 : n ≤ 16 := by have := h.2.1; omega
  have hp := phi_le12 n hn2 hn1
  have hL : L ≤ 12 := by have e : L = phiN n := h.2.2.1; omega
  have hpos : 0 < L := by have e : L = phiN n := h.2.2.1; have := phiN_pos n (by omega) hn1; omega
  have hhs := hs.size
  have st0 := ((((St.start w).addSl ⟨o, lo, hi, .slice av L cap, L, f⟩ hs).alloc (.cells #[.int .i64 (n : Int), .slice av L cap] 26)).addBox w.heap.size [.int .i64 (n : Int), .slice av L cap] (Box.made _ _ _ _ (fun j v h => by simpa using h)))
  have q0 := st0.sl 0 ⟨o, lo, hi, .slice av L cap, L, f⟩ rfl
  dsimp only at q0
  have HC := Lib.hid h
  clear h hs
  go_enter Try.func55, Try.ntmps55
  go_wp2_with fail
  refine (l01Is_yes _ _ q0 HC.out).mono ?_
  rintro e w1 ⟨rfl, b1⟩
  clear q0
  have st1 := st0.keep b1
  have hz_w1 := b1.size
  try simp only [World.size_alloc] at hz_w1
  clear st0 b1
  obtain ⟨c0, c1⟩ := (st1.box 0 (w.heap.size, [.int .i64 (n : Int), .slice av L cap]) rfl).cell2
  have ST1 := Lib.hid st1
  clear st1
  go_wp2
  clear c0 c1
  go_loopw [4, 5] (fun s4 s13 wr => ∃ k : Nat, k ≤ L ∧ s4 = .int .i64 (contG f k : Int) ∧ s13 = .int .i64 k ∧ St w wr [(w.heap.size, [.int .i64 (n : Int), .slice av L cap])] [⟨o, lo, hi, .slice av L cap, L, f⟩]) (fun _ s13 _ => L - (intOf s13).toNat)
  case atStart => exact ⟨0, Nat.zero_le _, rfl, rfl, ST1.out⟩
  case round =>
    clear ST1
    obtain ⟨k, hk, rfl, rfl, hst⟩ := hrel
    have HT := Lib.hid hst; clear hst
    have hB := HB.out k hk
    by_cases hlt : k < L
    · obtain ⟨hf1, hf2⟩ := HF.out k hlt
      obtain ⟨x0, x1⟩ := (HT.out.box 0 (w.heap.size, [.int .i64 (n : Int), .slice av L cap]) rfl).cell2
      have qa := HT.out.sl 0 ⟨o, lo, hi, .slice av L cap, L, f⟩ rfl
      dsimp only at qa
      obtain ⟨b, off, c1', hv, _, _, _, _, hc, _⟩ := qa.at (by omega)
      obtain ⟨rfl, rfl⟩ : av = some ⟨b, off, none⟩ ∧ cap = c1' := by cases hv; exact ⟨rfl, rfl⟩
      have hck := hc k hlt
      clear hv hc qa
      have HS := Lib.hid (contG_step f k)
      generalize hfk : f k = y at *
      by_cases h0 : 0 ≤ y
      · have HE := Lib.hid (HS.out y (by omega))
        clear HS
        go_wp2
        go_quiet (first | (go_at_call 100; exact Calls.quiet_of_same ((l01Gcd_any _ _ _ (by omega) (by omega) (by omega) (by omega)).mono (by rw [HE.out]; exact fun _ _ h => ⟨h.1, h.2.symm⟩))))
        go_wp2
        go_roundw
        case rel => exact ⟨k + 1, by omega, rfl, by go_num, HT.out.drewN _⟩
        case measure => simp [intOf] <;> omega
      · have HE := Lib.hid (HS.out (-y) (by omega))
        clear HS
        have hneg : 0 ≤ -y := by omega
        have hneg2 : -y ≤ 1000000000 := by omega
        have hlt0 : y < 0 := by omega
        have hle0 : y ≤ -y := by omega
        go_wp2
        go_quiet (first | (go_at_call 100; exact Calls.quiet_of_same ((l01Gcd_any _ _ _ (by omega) (by omega) (by omega) (by omega)).mono (by rw [HE.out]; exact fun _ _ h => ⟨h.1, h.2.symm⟩))))
        go_wp2
        go_roundw
        case rel => exact ⟨k + 1, by omega, rfl, by go_num, HT.out.drewN _⟩
        case measure => simp [intOf] <;> omega
    · obtain rfl : k = L := by omega
      obtain ⟨x0, x1⟩ := (HT.out.box 0 (w.heap.size, [.int .i64 (n : Int), .slice av k cap]) rfl).cell2
      go_wp2
      go_ret2
      exact ⟨rfl, HT.out.1⟩

end
end Go.Proofs.Ytmmcbkikcceenaa
