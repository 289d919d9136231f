/- ExponentsOf and KernelOf of the program and of the model. -/
import Derived.Test.YtkcofcppmlndiaaExp
import Derived.Test.YtkcofcppmlndiaaFin
namespace Go.Proofs.Ytkcofcppmlndiaa
open Go.RowKit Go.ChangeShapes Go.Sort
set_option linter.unusedVariables false
set_option linter.unusedSimpArgs false

theorem Row.keepB {w w' : World} {base g cap n : Nat} {f : Nat → Int} (h : Row w base g cap n f) (hb : Below w.heap.size w w') : Row w' base g cap n f :=
  World.ownsRow.kept (row := none) h ⟨hb.os, hb.tape, hb.output, hb.size, fun k hk _ => hb.block k hk⟩ (.inr (fun e => by cases e))
theorem exM_nat {p n k x : Nat} (h1 : 1 ≤ x) (h2 : x < p) : exM p n k (x : Int) = exV p n k x := by
  unfold exM exV
  rw [restN_nat h2, if_neg (by omega), if_neg (by omega)]
  rfl
theorem exV_inR {p n k y : Nat} (h1 : 1 ≤ n) (h2 : n ≤ 16) : inR (exV p n k y) := by have := exV_bd (p := p) (k := k) (y := y) h1; unfold inR; omega

theorem ExponentsOf_impl_bad (p n k : Int) (h : ¬ ChP p n k) (w : World) :
    Calls Try.prog 31 #[.agg #[.int .i64 p, .int .i64 n, .int .i64 k]] w fun e w' => ∃ a' k', e = .returned (.tuple #[.slice a' 0 k', .int .i64 1]) ∧ Sl true w' w.heap.size w'.heap.size (.slice a' 0 k') 0 (fun _ => 0) ∧ Below w.heap.size w w' := by
  have H := Lib.hid h; clear h
  go_enter Try.func31, Try.ntmps31
  go_wp2_with (go_at_call 26; refine (IsCharacter_no p n k H.out _).mono ?_; rintro e w1 ⟨rfl, b1⟩)
  go_ret2
  exact ⟨none, 0, rfl, Sl.nil _ _ _ (Nat.le_refl _) _, ((Below.refl w.heap.size w).alloc (Nat.le_refl _) _).trans (b1.mono (by simp))⟩
theorem ExponentsOf_spec_bad (p n k : Int) (h : ¬ ChP p n k) (w : World) :
    Calls Try.prog 49 #[.agg #[.int .i64 p, .int .i64 n, .int .i64 k]] w fun e w' => ∃ a' k', e = .returned (.tuple #[.slice a' 0 k', .int .i64 1]) ∧ Sl true w' w.heap.size w'.heap.size (.slice a' 0 k') 0 (fun _ => 0) ∧ Below w.heap.size w w' := by
  have H := Lib.hid h; clear h
  go_enter Try.func49, Try.ntmps49
  go_wp2_with (go_at_call 96; refine (l03Is_no p n k H.out _).mono ?_; rintro e w1 ⟨rfl, b1⟩)
  go_ret2
  exact ⟨none, 0, rfl, Sl.nil _ _ _ (Nat.le_refl _) _, ((Below.refl w.heap.size w).alloc (Nat.le_refl _) _).trans (b1.mono (by simp))⟩
theorem KernelOf_impl_bad (p n k : Int) (h : ¬ ChP p n k) (w : World) :
    Calls Try.prog 29 #[.agg #[.int .i64 p, .int .i64 n, .int .i64 k]] w fun e w' => ∃ a' k', e = .returned (.tuple #[.slice a' 0 k', .int .i64 1]) ∧ Sl true w' w.heap.size w'.heap.size (.slice a' 0 k') 0 (fun _ => 0) ∧ Below w.heap.size w w' := by
  have H := Lib.hid h; clear h
  go_enter Try.func29, Try.ntmps29
  go_wp2_with (go_at_call 26; refine (IsCharacter_no p n k H.out _).mono ?_; rintro e w1 ⟨rfl, b1⟩)
  go_ret2
  exact ⟨none, 0, rfl, Sl.nil _ _ _ (Nat.le_refl _) _, ((Below.refl w.heap.size w).alloc (Nat.le_refl _) _).trans (b1.mono (by simp))⟩
theorem KernelOf_spec_bad (p n k : Int) (h : ¬ ChP p n k) (w : World) :
    Calls Try.prog 51 #[.agg #[.int .i64 p, .int .i64 n, .int .i64 k]] w fun e w' => ∃ a' k', e = .returned (.tuple #[.slice a' 0 k', .int .i64 1]) ∧ Sl true w' w.heap.size w'.heap.size (.slice a' 0 k') 0 (fun _ => 0) ∧ Below w.heap.size w w' := by
  have H := Lib.hid h; clear h
  go_enter Try.func51, Try.ntmps51
  go_wp2_with (go_at_call 96; refine (l03Is_no p n k H.out _).mono ?_; rintro e w1 ⟨rfl, b1⟩)
  go_ret2
  exact ⟨none, 0, rfl, Sl.nil _ _ _ (Nat.le_refl _) _, ((Below.refl w.heap.size w).alloc (Nat.le_refl _) _).trans (b1.mono (by simp))⟩

set_option maxRecDepth 100000 in
set_option maxHeartbeats 1000000 in
theorem ExponentsOf_impl_ok (p n k : Nat) (hp : primeN p = true) (h1 : 1 ≤ n) (h2 : n ≤ 16) (hd : (p - 1) % n = 0) (hk : k < n) (w : World) :
    Calls Try.prog 31 #[.agg #[.int .i64 (p : Int), .int .i64 (n : Int), .int .i64 (k : Int)]] w fun e w' => ∃ a' k', e = .returned (.tuple #[.slice a' (p - 1) k', .int .i64 0]) ∧ Sl true w' w.heap.size w'.heap.size (.slice a' (p - 1) k') (p - 1) (fun j => exV p n k (j + 1)) ∧ Below w.heap.size w w' := by
  have hb := primeN_bd hp
  obtain ⟨m, hm⟩ : ∃ m, p - 1 = m := ⟨_, rfl⟩
  have HP := Lib.hid hp
  have HD := Lib.hid hd
  rw [hm]
  have hpm : m + 1 = p := by omega
  clear hp hd hm
  have hmk := run_make_row' (P := Try.prog) 32 2 (.int .i64 0) 8 Try.underlying32 Try.info2 rfl .i64 .i64 m (by omega) (by omega)
  rw [show ((m : Nat) : Int) = (p : Int) - 1 by omega] at hmk
  have st0 := (((St.start w).alloc (.cells #[.int .i64 (p : Int), .int .i64 (n : Int), .int .i64 (k : Int)] 25)).addBox w.heap.size [.int .i64 (p : Int), .int .i64 (n : Int), .int .i64 (k : Int)] (Box.made _ _ _ _ (fun j v h => by simpa using h)))
  go_enter Try.func31, Try.ntmps31
  go_wp2_with fail
  refine (IsCharacter_yes p n k HP.out h1 h2 HD.out hk _).mono ?_
  rintro e w1 ⟨rfl, b1⟩
  have st1 := st0.keep b1
  have hz1 := b1.size
  simp only [World.size_alloc] at hz1
  clear st0 b1
  obtain ⟨e0, e1, e2⟩ := (st1.box 0 (w.heap.size, [.int .i64 (p : Int), .int .i64 (n : Int), .int .i64 (k : Int)]) rfl).cell3
  have q0 := Sl.made w1 (madeCells #[.int .i64 0] m) 2 m m (fun _ => 0) (Nat.le_refl _) (by unfold maxLen; omega) (fun j hj => by simp [inR]) (fun j hj => by simp [madeCells_at _ _ _ hj])
  have st2 := (st1.alloc (.cells (madeCells #[.int .i64 0] m) 2)).addSl ⟨true, w1.heap.size, w1.heap.size + 1, .slice (some ⟨w1.heap.size, 0, none⟩) m m, m, fun _ => 0⟩ q0
  clear q0
  obtain ⟨g0, g1, g2⟩ := (st2.box 0 (w.heap.size, [.int .i64 (p : Int), .int .i64 (n : Int), .int .i64 (k : Int)]) rfl).cell3
  go_wp2_with fail
  refine (valuesOf_any p n k HP.out h1 h2 (by omega) _).mono ?_
  rintro e w2 ⟨rfl, b2, hz2, bx, by_, sl⟩
  have st3 := st2.keep b2
  simp only [World.size_alloc] at hz2 bx by_ sl
  have B3 := Lib.hid st3.1
  have q3 := Lib.hid (st3.sl 0 ⟨true, w1.heap.size, w1.heap.size + 1, .slice (some ⟨w1.heap.size, 0, none⟩) m m, m, fun _ => 0⟩ rfl)
  have BX := Lib.hid bx
  have BY := Lib.hid by_
  have SL := Lib.hid sl
  clear st1 st2 st3 b2 bx by_ sl e0 e1 e2 hmk g0 g1 g2
  go_wp2
  go_loopw [18] (fun s18 wr => ∃ q : Nat, q ≤ m ∧ s18 = .int .i64 (q : Int) ∧ w2.heap.size ≤ wr.heap.size ∧ Box wr (w1.heap.size + 1) [.int .i64 (p : Int), .int .i64 (n : Int), .int .i64 (k : Int)] ∧ Box wr (w1.heap.size + 1 + 1 + 1) [.slice (some ⟨w1.heap.size + 1 + 1, 0, none⟩) p p] ∧ Sl true wr (w1.heap.size + 1 + 1) (w1.heap.size + 1 + 1 + 1) (.slice (some ⟨w1.heap.size + 1 + 1, 0, none⟩) p p) p (exV p n k) ∧
      Sl true wr w1.heap.size (w1.heap.size + 1) (.slice (some ⟨w1.heap.size, 0, none⟩) m m) m (fun j => if j < q then exV p n k (j + 1) else 0) ∧ Below w.heap.size w wr) (fun s18 _ => m + 1 - (intOf s18).toNat)
  case atStart => exact ⟨0, by omega, rfl, Nat.le_refl _, BX.out, BY.out, SL.out, q3.out.congr (fun j hj => by simp), B3.out⟩
  case round =>
    clear B3 q3 BX BY SL
    obtain ⟨q, hq, rfl, hzr, bx, by_, sl, qo, hB⟩ := hrel
    have QO := Lib.hid qo; clear qo
    by_cases hlt : q < m
    · have HR := Lib.hid (restN_nat (p := p) (x := q + 1) (by omega))
      go_wp2_with fail
      refine (value_any p n k ((q : Int) + 1) _ _ _ (by omega) hb.2 (by omega) (by omega) bx by_ sl).mono ?_
      rintro e w3 ⟨rfl, b3⟩
      have hz3 := b3.size
      have Q3 := Lib.hid (QO.out.keep b3 QO.out.size)
      have BX3 := Lib.hid (bx.keep b3)
      have BY3 := Lib.hid (by_.keep b3)
      have SL3 := Lib.hid (sl.keep b3 sl.size)
      have HB3 := Lib.hid (hB.trans (b3.mono (by have := hB.size; omega)))
      have hck := (Q3.out.known (by omega)).2.2.2.1 q hlt
      have hfr := (Q3.out.known (by omega)).2.2.2.2 rfl q
      rw [Nat.zero_add] at hck
      rw [show restN p ((q : Int) + 1) = q + 1 from HR.out]
      clear bx by_ sl QO hB b3
      go_wp2
      go_roundw
      case rel =>
        refine ⟨q + 1, by omega, by go_num, by simp; omega, BX3.out.other _ _ (by simp <;> omega), BY3.out.other _ _ (by simp <;> omega), SL3.out.setOther (.inl (by simp <;> omega)) _, ?_, HB3.out.setCell (by simp; omega) _⟩
        refine (Q3.out.store0 hlt (x := exV p n k (q + 1)) (exV_inR h1 h2)).congr (fun j hj => ?_)
        by_cases e : j = q
        · subst e; simp
        · have : (j < q + 1) = (j < q) := by simp; omega
          simp [e, this]
      case measure => simp [intOf]; omega
    · obtain rfl : q = m := by omega
      go_wp2
      go_ret2
      exact ⟨_, _, rfl, (QO.out.congr (fun j hj => by rw [if_pos hj])).wide (by omega) (by have := QO.out.size; omega) (Nat.le_refl _), hB⟩

set_option maxRecDepth 100000 in
set_option maxHeartbeats 1000000 in
theorem ExponentsOf_spec_ok (p n k : Nat) (hp : primeN p = true) (h1 : 1 ≤ n) (h2 : n ≤ 16) (hd : (p - 1) % n = 0) (hk : k < n) (w : World) :
    Calls Try.prog 49 #[.agg #[.int .i64 (p : Int), .int .i64 (n : Int), .int .i64 (k : Int)]] w fun e w' => ∃ a' k', e = .returned (.tuple #[.slice a' (p - 1) k', .int .i64 0]) ∧ Sl true w' w.heap.size w'.heap.size (.slice a' (p - 1) k') (p - 1) (fun j => exV p n k (j + 1)) ∧ Below w.heap.size w w' := by
  have hb := primeN_bd hp
  have HP := Lib.hid hp
  have HD := Lib.hid hd
  clear hp hd
  have st0 := (((St.start w).alloc (.cells #[.int .i64 (p : Int), .int .i64 (n : Int), .int .i64 (k : Int)] 25)).addBox w.heap.size [.int .i64 (p : Int), .int .i64 (n : Int), .int .i64 (k : Int)] (Box.made _ _ _ _ (fun j v h => by simpa using h)))
  go_enter Try.func49, Try.ntmps49
  go_wp2_with fail
  refine (l03Is_yes p n k HP.out h1 h2 HD.out hk _).mono ?_
  rintro e w1 ⟨rfl, b1⟩
  have st1 := st0.keep b1
  have hz1 := b1.size
  simp only [World.size_alloc] at hz1
  clear st0 b1
  have R1 := Lib.hid (Row.made w1 w1.heap.size (fun j => exV p n k (j + 1)) (Nat.le_refl _))
  have ST := Lib.hid (st1.alloc (.cells #[] 2))
  clear st1
  go_wp2
  go_loopw [4, 5] (fun s4 s5 wr => ∃ (x g cap : Nat), x + 1 ≤ p ∧ s4 = .slice (some ⟨g, 0, none⟩) x cap ∧ s5 = .int .i64 ((x : Int) + 1) ∧ Row wr w1.heap.size g cap x (fun j => exV p n k (j + 1)) ∧ St w wr [(w.heap.size, [.int .i64 (p : Int), .int .i64 (n : Int), .int .i64 (k : Int)])] []) (fun _ s5 _ => p + 1 - (intOf s5).toNat)
  case atStart => exact ⟨0, _, _, by omega, rfl, rfl, R1.out, ST.out⟩
  case round =>
    clear R1 ST
    obtain ⟨x, g, cap, hx, rfl, rfl, hr, hst⟩ := hrel
    have R1 := Lib.hid hr; clear hr
    have HT := Lib.hid hst; clear hst
    obtain ⟨hl, hl'⟩ := R1.out.lt
    obtain ⟨e0, e1, e2⟩ := (HT.out.box 0 (w.heap.size, [.int .i64 (p : Int), .int .i64 (n : Int), .int .i64 (k : Int)]) rfl).cell3
    by_cases hlt : x + 1 < p
    · have HM := Lib.hid (exM_nat (p := p) (n := n) (k := k) (x := x + 1) (by omega) hlt)
      go_wp2_with (first
        | (go_at_call 124; refine (l03Exponent_any p n k ((x : Int) + 1) HP.out h1 h2 (by omega) (by omega) (by omega) _).mono ?_; rw [show exM p n k ((x : Int) + 1) = exV p n k (x + 1) from HM.out]; rintro e w3 ⟨rfl, b3⟩
           have R3 := Lib.hid (show Row w3 w1.heap.size g cap x (fun j => exV p n k (j + 1)) from Row.keepB R1.out b3)
           have T3 := Lib.hid (HT.out.keep b3)
           have hz3 := b3.size
           clear b3)
        | (at_builtin; refine wpList_push rfl (.tmp 16) (.tmp 20) rfl rfl w1.heap.size g cap x (fun j => exV p n k (j + 1)) rfl (R3.out.alloc _) w3.heap.size (exV p n k (x + 1)) rfl (heap_alloc_new w3 _) (by omega) ?_; intro gA kA wA rowA grA orA ltA
           have stA := Lib.hid ((T3.out.alloc (.cells #[.int .i64 (exV p n k (x + 1))] 2)).write (Frame.ofGrown grA) (by omega) (by intro b hb; simp only [List.mem_cons, List.not_mem_nil, or_false] at hb; rcases hb with rfl <;> dsimp only <;> omega) (by intro s hs'; cases hs'))
           have RA := Lib.hid rowA
           clear rowA grA))
      go_roundw
      case rel =>
        exact ⟨x + 1, gA, kA, by omega, rfl, by go_num, RA.out.congr (fun j hj => by
          by_cases e : j < x
          · rw [if_pos e]
          · rw [if_neg e, show j = x by omega]), stA.out⟩
      case measure => simp [intOf] <;> omega
    · obtain rfl : p = x + 1 := by omega
      have BB := HT.out.1
      go_wp2
      go_ret2
      refine ⟨_, _, rfl, ?_, BB⟩
      exact (Sl.ofRowF R1.out (fun j hj => exV_inR h1 h2) (by unfold maxLen; omega)).wide (by omega) (Nat.le_refl _) (Nat.le_refl _)

/-- The kernel's numbers below a bound. -/
def kerL (p n k : Nat) : Nat → List Nat
  | 0 => []
  | x + 1 => if x ≠ 0 ∧ expN p n k x = 0 then kerL p n k x ++ [x] else kerL p n k x
theorem kerL_yes {p n k x : Nat} (h0 : x ≠ 0) (h : expN p n k x = 0) : kerL p n k (x + 1) = kerL p n k x ++ [x] := by
  simp only [kerL]; rw [if_pos ⟨h0, h⟩]
theorem kerL_no {p n k x : Nat} (h : ¬ (x ≠ 0 ∧ expN p n k x = 0)) : kerL p n k (x + 1) = kerL p n k x := by
  simp only [kerL]; rw [if_neg h]
theorem kerL_len (p n k : Nat) : ∀ x, (kerL p n k x).length ≤ x
  | 0 => Nat.le_refl _
  | x + 1 => by
    have := kerL_len p n k x
    by_cases h : x ≠ 0 ∧ expN p n k x = 0
    · rw [kerL_yes h.1 h.2, List.length_append]; simp; exact this
    · rw [kerL_no h]; omega
theorem kerL_bd (p n k : Nat) : ∀ x y, y ∈ kerL p n k x → y < x
  | 0, y, h => by simp [kerL] at h
  | x + 1, y, h => by
    by_cases hx : x ≠ 0 ∧ expN p n k x = 0
    · rw [kerL_yes hx.1 hx.2] at h
      rcases List.mem_append.1 h with h | h
      · have := kerL_bd p n k x y h; omega
      · simp at h; omega
    · rw [kerL_no hx] at h
      have := kerL_bd p n k x y h; omega
def kerF (p n k x : Nat) (j : Nat) : Int := ((kerL p n k x).getD j 0 : Nat)
theorem kerF_inR {p n k x j : Nat} (hx : x ≤ 61) : inR (kerF p n k x j) := by
  unfold kerF inR
  rcases Nat.lt_or_ge j (kerL p n k x).length with h | h
  · have := kerL_bd p n k x _ (List.getElem_mem h)
    rw [List.getD_eq_getElem?_getD, List.getElem?_eq_getElem h]
    simp only [Option.getD_some]
    omega
  · rw [List.getD_eq_getElem?_getD, List.getElem?_eq_none h]
    simp
theorem kerF_push {p n k x j : Nat} (h0 : x ≠ 0) (h : expN p n k x = 0) (hj : j < (kerL p n k x).length + 1) : (if j < (kerL p n k x).length then kerF p n k x j else (x : Int)) = kerF p n k (x + 1) j := by
  unfold kerF
  rw [kerL_yes h0 h]
  by_cases e : j < (kerL p n k x).length
  · rw [if_pos e, List.getD_eq_getElem?_getD, List.getD_eq_getElem?_getD, List.getElem?_append_left e]
  · rw [if_neg e, List.getD_eq_getElem?_getD, List.getElem?_append_right (by omega), show j - (kerL p n k x).length = 0 by omega]
    rfl

set_option maxRecDepth 100000 in
set_option maxHeartbeats 1000000 in
theorem KernelOf_impl_ok (p n k : Nat) (hp : primeN p = true) (h1 : 1 ≤ n) (h2 : n ≤ 16) (hd : (p - 1) % n = 0) (hk : k < n) (w : World) :
    Calls Try.prog 29 #[.agg #[.int .i64 (p : Int), .int .i64 (n : Int), .int .i64 (k : Int)]] w fun e w' => ∃ a' k', e = .returned (.tuple #[.slice a' ((kerL p n k p).length) k', .int .i64 0]) ∧ Sl true w' w.heap.size w'.heap.size (.slice a' ((kerL p n k p).length) k') ((kerL p n k p).length) (kerF p n k p) ∧ Below w.heap.size w w' := by
  have hb := primeN_bd hp
  have HP := Lib.hid hp
  have HD := Lib.hid hd
  clear hp hd
  have st0 := (((St.start w).alloc (.cells #[.int .i64 (p : Int), .int .i64 (n : Int), .int .i64 (k : Int)] 25)).addBox w.heap.size [.int .i64 (p : Int), .int .i64 (n : Int), .int .i64 (k : Int)] (Box.made _ _ _ _ (fun j v h => by simpa using h)))
  go_enter Try.func29, Try.ntmps29
  go_wp2_with fail
  refine (IsCharacter_yes p n k HP.out h1 h2 HD.out hk _).mono ?_
  rintro e w1 ⟨rfl, b1⟩
  have st1 := st0.keep b1
  have hz1 := b1.size
  simp only [World.size_alloc] at hz1
  clear st0 b1
  obtain ⟨e0, e1, e2⟩ := (st1.box 0 (w.heap.size, [.int .i64 (p : Int), .int .i64 (n : Int), .int .i64 (k : Int)]) rfl).cell3
  have R1 := (Row.made w1 w1.heap.size (kerF p n k 0) (Nat.le_refl _))
  have st2 := (st1.alloc (.cells #[] 2))
  clear st1
  obtain ⟨g0, g1, g2⟩ := (st2.box 0 (w.heap.size, [.int .i64 (p : Int), .int .i64 (n : Int), .int .i64 (k : Int)]) rfl).cell3
  go_wp2_with fail
  refine (valuesOf_any p n k HP.out h1 h2 (by omega) _).mono ?_
  rintro e w2 ⟨rfl, b2, hz2, bx, by_, sl⟩
  have st3 := st2.keep b2
  simp only [World.size_alloc] at hz2 bx by_ sl
  obtain ⟨f0, f1, f2⟩ := (st3.box 0 (w.heap.size, [.int .i64 (p : Int), .int .i64 (n : Int), .int .i64 (k : Int)]) rfl).cell3
  have HS := Lib.hid ((st3.addBox _ _ bx).addBox _ _ by_ |>.addSl ⟨true, w1.heap.size + 1 + 1, w1.heap.size + 1 + 1 + 1, .slice (some ⟨w1.heap.size + 1 + 1, 0, none⟩) p p, p, exV p n k⟩ sl)
  have HR1 := Lib.hid (show Row w2 w1.heap.size w1.heap.size 0 0 (kerF p n k 0) from Row.keepB R1 b2)
  clear st2 st3 b2 bx by_ sl e0 e1 e2 g0 g1 g2 R1
  go_wp2
  go_loopw [4, 17] (fun s4 s17 wr => ∃ (x g cap : Nat), x ≤ p ∧ s4 = .slice (some ⟨g, 0, none⟩) (kerL p n k x).length cap ∧ s17 = .int .i64 (x : Int) ∧ Row wr w1.heap.size g cap (kerL p n k x).length (kerF p n k x) ∧ (g = w1.heap.size ∨ w2.heap.size ≤ g) ∧ w2.heap.size ≤ wr.heap.size ∧
      St w wr [(w1.heap.size + 1 + 1 + 1, [.slice (some ⟨w1.heap.size + 1 + 1, 0, none⟩) p p]), (w1.heap.size + 1, [.int .i64 (p : Int), .int .i64 (n : Int), .int .i64 (k : Int)]), (w.heap.size, [.int .i64 (p : Int), .int .i64 (n : Int), .int .i64 (k : Int)])] [⟨true, w1.heap.size + 1 + 1, w1.heap.size + 1 + 1 + 1, .slice (some ⟨w1.heap.size + 1 + 1, 0, none⟩) p p, p, exV p n k⟩]) (fun _ s17 _ => p + 1 - (intOf s17).toNat)
  case atStart => exact ⟨0, _, _, by omega, rfl, rfl, HR1.out, .inl rfl, Nat.le_refl _, HS.out⟩
  case round =>
    clear HR1 HS f0 f1 f2
    obtain ⟨x, g, cap, hx, rfl, rfl, hr, hd', hzr, hst⟩ := hrel
    have R1 := Lib.hid hr; clear hr
    have HT := Lib.hid hst; clear hst
    obtain ⟨hl, hl'⟩ := R1.out.lt
    have hkl := kerL_len p n k x
    by_cases hlt : x < p
    · have HRR := Lib.hid (restN_nat hlt)
      have bx := HT.out.box 1 (w1.heap.size + 1, [.int .i64 (p : Int), .int .i64 (n : Int), .int .i64 (k : Int)]) rfl
      have by_ := HT.out.box 0 (w1.heap.size + 1 + 1 + 1, [.slice (some ⟨w1.heap.size + 1 + 1, 0, none⟩) p p]) rfl
      have sl := HT.out.sl 0 ⟨true, w1.heap.size + 1 + 1, w1.heap.size + 1 + 1 + 1, .slice (some ⟨w1.heap.size + 1 + 1, 0, none⟩) p p, p, exV p n k⟩ rfl
      dsimp only at bx by_ sl
      go_wp2_with fail
      refine (value_any p n k (x : Int) _ _ _ (by omega) hb.2 (by omega) (by omega) bx by_ sl).mono ?_
      rw [HRR.out]
      rintro e w3 ⟨rfl, b3⟩
      have R3 := Lib.hid (show Row w3 w1.heap.size g cap (kerL p n k x).length (kerF p n k x) from Row.keepB R1.out b3)
      have T3 := Lib.hid (HT.out.keep b3)
      have hz3 := b3.size
      clear b3 bx by_ sl R1 HT
      by_cases hin : x ≠ 0 ∧ expN p n k x = 0
      · have HK := Lib.hid (fun j => kerF_push (p := p) (n := n) (k := k) (j := j) hin.1 hin.2)
        have HY := Lib.hid (show kerL p n k (x + 1) = kerL p n k x ++ [x] from kerL_yes hin.1 hin.2)
        have hxb : ((x : Int) != 0) = true := by rw [bne_iff_ne]; omega
        have heb : (exV p n k x == 0) = true := by rw [exV_exp hin.1, hin.2]; rfl
        clear hin
        go_wp2_with (first
          | (at_builtin; refine wpList_push rfl (.tmp 31) (.tmp 33) rfl rfl w1.heap.size g cap (kerL p n k x).length (kerF p n k x) rfl (R3.out.alloc _) w3.heap.size (x : Int) rfl (heap_alloc_new w3 _) (by omega) ?_; intro gA kA wA rowA grA orA ltA
             have stA := Lib.hid ((T3.out.alloc (.cells #[.int .i64 (x : Int)] 2)).write (Frame.ofGrown grA) (by omega) (by intro b hb; simp only [List.mem_cons, List.not_mem_nil, or_false] at hb; rcases hb with rfl | rfl | rfl <;> dsimp only <;> omega) (by intro s hs'; simp only [List.mem_cons, List.not_mem_nil, or_false] at hs'; rcases hs' with rfl <;> dsimp only <;> omega))
             have RA := Lib.hid rowA
             have hzA := grA.size
             simp only [World.size_alloc] at orA hzA
             clear rowA grA))
        go_roundw
        case rel =>
          refine ⟨x + 1, gA, kA, by omega, by rw [HY.out, List.length_append]; rfl, by go_num, ?_, by omega, by omega, stA.out⟩
          rw [HY.out, List.length_append]
          exact RA.out.congr (fun j hj => HK.out j hj)
        case measure => simp [intOf] <;> omega
      · have HY := Lib.hid (kerL_no hin)
        have HF := Lib.hid (show kerF p n k (x + 1) = kerF p n k x by funext j; unfold kerF; rw [kerL_no hin])
        have hno : ((x : Int) != 0) = false ∨ (((x : Int) != 0) = true ∧ (exV p n k x == 0) = false) := by
          by_cases hx0 : x = 0
          · exact .inl (by rw [hx0]; rfl)
          · refine .inr ⟨by rw [bne_iff_ne]; omega, beq_eq_false_iff_ne.2 (fun e => hin ⟨hx0, ?_⟩)⟩
            rw [exV_exp hx0] at e; omega
        clear hin
        rcases hno with hxb | ⟨hxb, heb⟩
        all_goals
          go_wp2
          go_roundw
          case rel => exact ⟨x + 1, g, cap, by omega, by rw [HY.out], by go_num, by rw [HY.out, HF.out]; exact R3.out, hd', by omega, T3.out⟩
          case measure => simp [intOf] <;> omega
    · obtain rfl : x = p := by omega
      have BB := HT.out.1
      go_wp2
      go_ret2
      refine ⟨_, _, rfl, ?_, BB⟩
      exact (Sl.ofRowF R1.out (fun j hj => kerF_inR (by omega)) (by unfold maxLen; omega)).wide (by omega) (Nat.le_refl _) (Nat.le_refl _)

set_option maxRecDepth 100000 in
set_option maxHeartbeats 1000000 in
theorem KernelOf_spec_ok (p n k : Nat) (hp : primeN p = true) (h1 : 1 ≤ n) (h2 : n ≤ 16) (hd : (p - 1) % n = 0) (hk : k < n) (w : World) :
    Calls Try.prog 51 #[.agg #[.int .i64 (p : Int), .int .i64 (n : Int), .int .i64 (k : Int)]] w fun e w' => ∃ a' k', e = .returned (.tuple #[.slice a' ((kerL p n k p).length) k', .int .i64 0]) ∧ Sl true w' w.heap.size w'.heap.size (.slice a' ((kerL p n k p).length) k') ((kerL p n k p).length) (kerF p n k p) ∧ Below w.heap.size w w' := by
  have hb := primeN_bd hp
  have HP := Lib.hid hp
  have HD := Lib.hid hd
  clear hp hd
  have st0 := (((St.start w).alloc (.cells #[.int .i64 (p : Int), .int .i64 (n : Int), .int .i64 (k : Int)] 25)).addBox w.heap.size [.int .i64 (p : Int), .int .i64 (n : Int), .int .i64 (k : Int)] (Box.made _ _ _ _ (fun j v h => by simpa using h)))
  go_enter Try.func51, Try.ntmps51
  go_wp2_with fail
  refine (l03Is_yes p n k HP.out h1 h2 HD.out hk _).mono ?_
  rintro e w1 ⟨rfl, b1⟩
  have st1 := st0.keep b1
  have hz1 := b1.size
  simp only [World.size_alloc] at hz1
  clear st0 b1
  have hk1 : kerL p n k 1 = [] := kerL_no (fun h => h.1 rfl)
  have R1 := Lib.hid (Row.made w1 w1.heap.size (kerF p n k 1) (Nat.le_refl _))
  have ST := Lib.hid (st1.alloc (.cells #[] 2))
  have HK1 := Lib.hid hk1
  clear st1 hk1
  go_wp2
  go_loopw [4, 5] (fun s4 s5 wr => ∃ (x g cap : Nat), 1 ≤ x ∧ x ≤ p ∧ s4 = .slice (some ⟨g, 0, none⟩) (kerL p n k x).length cap ∧ s5 = .int .i64 (x : Int) ∧ Row wr w1.heap.size g cap (kerL p n k x).length (kerF p n k x) ∧ St w wr [(w.heap.size, [.int .i64 (p : Int), .int .i64 (n : Int), .int .i64 (k : Int)])] []) (fun _ s5 _ => p + 1 - (intOf s5).toNat)
  case atStart => exact ⟨1, _, _, by omega, by omega, by rw [HK1.out]; rfl, rfl, by rw [HK1.out]; exact R1.out, ST.out⟩
  case round =>
    clear R1 ST HK1
    obtain ⟨x, g, cap, hx1, hx, rfl, rfl, hr, hst⟩ := hrel
    have R1 := Lib.hid hr; clear hr
    have HT := Lib.hid hst; clear hst
    obtain ⟨hl, hl'⟩ := R1.out.lt
    obtain ⟨e0, e1, e2⟩ := (HT.out.box 0 (w.heap.size, [.int .i64 (p : Int), .int .i64 (n : Int), .int .i64 (k : Int)]) rfl).cell3
    have hkl := kerL_len p n k x
    by_cases hlt : x < p
    · have HM := Lib.hid (exM_nat (p := p) (n := n) (k := k) (x := x) (by omega) hlt)
      by_cases hin : expN p n k x = 0
      · have HK := Lib.hid (fun j => kerF_push (p := p) (n := n) (k := k) (j := j) (show x ≠ 0 by omega) hin)
        have HY := Lib.hid (show kerL p n k (x + 1) = kerL p n k x ++ [x] from kerL_yes (by omega) hin)
        have heb : (exV p n k x == 0) = true := by rw [exV_exp (by omega), hin]; rfl
        clear hin
        go_wp2_with (first
          | (go_at_call 124; refine (l03Exponent_any p n k (x : Int) HP.out h1 h2 (by omega) (by omega) (by omega) _).mono ?_; rw [HM.out]; rintro e w3 ⟨rfl, b3⟩
             have R3 := Lib.hid (show Row w3 w1.heap.size g cap (kerL p n k x).length (kerF p n k x) from Row.keepB R1.out b3)
             have T3 := Lib.hid (HT.out.keep b3)
             have hz3 := b3.size
             clear b3)
          | (at_builtin; refine wpList_push rfl (.tmp 20) (.tmp 22) rfl rfl w1.heap.size g cap (kerL p n k x).length (kerF p n k x) rfl (R3.out.alloc _) w3.heap.size (x : Int) rfl (heap_alloc_new w3 _) (by omega) ?_; intro gA kA wA rowA grA orA ltA
             have stA := Lib.hid ((T3.out.alloc (.cells #[.int .i64 (x : Int)] 2)).write (Frame.ofGrown grA) (by omega) (by intro b hb; simp only [List.mem_cons, List.not_mem_nil, or_false] at hb; rcases hb with rfl <;> dsimp only <;> omega) (by intro s hs'; cases hs'))
             have RA := Lib.hid rowA
             clear rowA grA))
        go_roundw
        case rel =>
          refine ⟨x + 1, gA, kA, by omega, by omega, by rw [HY.out, List.length_append]; rfl, by go_num, ?_, stA.out⟩
          rw [HY.out, List.length_append]
          exact RA.out.congr (fun j hj => HK.out j hj)
        case measure => simp [intOf] <;> omega
      · have HY := Lib.hid (kerL_no (p := p) (n := n) (k := k) (x := x) (fun h => hin h.2))
        have HF := Lib.hid (show kerF p n k (x + 1) = kerF p n k x by funext j; unfold kerF; rw [kerL_no (fun h => hin h.2)])
        have heb : (exV p n k x == 0) = false := beq_eq_false_iff_ne.2 (fun e => hin (by rw [exV_exp (by omega)] at e; omega))
        clear hin
        go_wp2_with (first
          | (go_at_call 124; refine (l03Exponent_any p n k (x : Int) HP.out h1 h2 (by omega) (by omega) (by omega) _).mono ?_; rw [HM.out]; rintro e w3 ⟨rfl, b3⟩
             have R3 := Lib.hid (show Row w3 w1.heap.size g cap (kerL p n k x).length (kerF p n k x) from Row.keepB R1.out b3)
             have T3 := Lib.hid (HT.out.keep b3)
             have hz3 := b3.size
             clear b3))
        go_roundw
        case rel => exact ⟨x + 1, g, cap, by omega, by omega, by rw [HY.out], by go_num, by rw [HY.out, HF.out]; exact R3.out, T3.out⟩
        case measure => simp [intOf] <;> omega
    · obtain rfl : x = p := by omega
      have BB := HT.out.1
      go_wp2
      go_ret2
      refine ⟨_, _, rfl, ?_, BB⟩
      exact (Sl.ofRowF R1.out (fun j hj => kerF_inR (by omega)) (by unfold maxLen; omega)).wide (by omega) (Nat.le_refl _) (Nat.le_refl _)
end Go.Proofs.Ytkcofcppmlndiaa
